/-
  The law's told, lent, left, much.
-/
import Derived.Test.YthldipnfaiobaaaDoorRoo
import Derived.ArgAppend
namespace Go.Proofs.YthldipnfaiobaaaDoor
open Go.RowKit Go.Lib Go.Sort
set_option linter.unusedVariables false
set_option linter.unusedSimpArgs false
set_option maxHeartbeats 3200000
set_option maxRecDepth 1000000
theorem grownBy_new2 {a b c : World} {row : Option Nat} {rb : Nat} (h : a.grownBy b row) (hb : a.heap.size ≤ rb) (k : b.grownBy c (some rb)) : a.grownBy c row :=
  ⟨k.os.trans h.os, k.tape.trans h.tape, k.output.trans h.output, Nat.le_trans h.size k.size, fun i hi hn => (k.block i (Nat.lt_of_lt_of_le hi h.size) (by intro e; cases e; omega)).trans (h.block i hi hn)⟩
theorem Fr.set {w : World} {base B off n c : Nat} {L : List Int} (h : Fr w base (.slice (some ⟨B, off, none⟩) n c) L) (i : Nat) (x : Int) (hi : i < L.length) : Fr (w.setCell ⟨B, off + i, none⟩ (.int .i64 x)) base (.slice (some ⟨B, off, none⟩) n c) (L.set i x) := by
  rcases h with ⟨e, _⟩ | ⟨B', off', c', cur, e, hb, hg, hl, hm, hs, h⟩
  · cases e
  · cases e
    refine .inr ⟨B, off, c, cur.setIfInBounds (off + i) (.int .i64 x), by simp, hb, ?_, by simpa using hl, hm, by simpa using hs, fun j hj => ?_⟩
    · simp [World.setCell, Array.getElem?_modify, hg]
    · rw [List.length_set] at hj
      rw [getD_set _ _ _ _ hi, Array.getElem?_setIfInBounds]
      by_cases e : i = j
      · subst e
        rw [if_pos rfl, if_pos rfl, if_pos (by omega)]
      · rw [if_neg (by omega), if_neg e]
        exact h j hj
theorem Fr.frozen {w : World} {base B off n c : Nat} {L : List Int} (h : Fr w base (.slice (some ⟨B, off, none⟩) n c) L) (i : Nat) : w.frozen? ⟨B, i, none⟩ = false := by
  rcases h with ⟨e, _⟩ | ⟨B', off', c', cur, e, hb, hg, _⟩
  · cases e
  · cases e
    simp [World.frozen?, hg]
theorem Fr.cellAt {w : World} {base B off n c : Nat} {L : List Int} (h : Fr w base (.slice (some ⟨B, off, none⟩) n c) L) (i : Nat) (hi : i < L.length) : w.cell? ⟨B, off + i, none⟩ = some (.int .i64 (L[i]?.getD 0)) := by
  rcases h with ⟨e, _⟩ | ⟨B', off', c', cur, e, hb, hg, _, _, _, h⟩
  · cases e
  · cases e
    simp [World.cell?, hg, h i hi]
theorem grown_step {w wr w' : World} {row : Option Nat} {v : Value} (h : w.grownBy wr row) (hv : v.ownBlock = row ∨ ∀ g, v.ownBlock = some g → w.heap.size ≤ g) (k : wr.grownBy w' v.ownBlock) : w.grownBy w' row := by
  rcases hv with e | e
  · rw [e] at k
    exact grownBy_trans h k
  · cases hb : v.ownBlock with
    | none => rw [hb] at k; exact grownBy_trans h (grownBy_any k)
    | some g => rw [hb] at k; exact grownBy_new2 h (e g hb) k
theorem run_append_fr (w : World) (base : Nat) (ty : TypeId) (v : Value) (L : List Int) (x : Int) (h : Fr w base v L) (hl : L.length ≤ 1000000) (hb : base ≤ w.heap.size) (a : Addr) (hx : w.cell? a = some (.int .i64 x)) :
    ∃ v' w', (Builtin.append_ #[22, 22] ty #[v, .slice (some a) 1 1]).run Tryd.prog w = .ok v' w' ∧ Fr w' base v' (L ++ [x]) ∧ w.grownBy w' v.ownBlock ∧ (v'.ownBlock = v.ownBlock ∨ ∀ g, v'.ownBlock = some g → w.heap.size ≤ g) := by
  obtain ⟨i0, hi, hz0, hz1, hz2⟩ := info_parts Tryd.info8
  have hadd : ∀ j u, [Value.int .i64 x][j]? = some u → w.cell? (a.add j) = some u := by
    intro j u hj
    match j, hj with
    | 0, hj => simp at hj; subst hj; simpa [Addr.add] using hx
  have h1 : ∀ u ∈ [Value.int .i64 x], u.oneCell' = true := by
    intro u hu; simp at hu; subst hu; rfl
  rcases h with ⟨rfl, rfl⟩ | ⟨B, off, c, cur, rfl, hbB, hg, hlc, hm, hs, h⟩
  · obtain ⟨v', w', hr, ho, hg, hn⟩ := run_append_int w w.heap.size ty _ [] x (Own.nil _ _) (by simp) (Nat.le_refl _) a hx
    refine ⟨v', w', hr, ho.fr.mono hb, hg, .inr ?_⟩
    rcases hn with hn | hn
    · intro g e
      rw [hn] at e
      simp [Value.ownBlock] at e
    · intro g e
      rw [hn] at e
      cases e
      exact Nat.le_refl _
  · by_cases hroom : L.length + 1 ≤ c
    · have hsz : off + L.length < cur.size := by omega
      have hr := run_append_room_cells (P := Tryd.prog) w 22 ty 3 i0 Tryd.underlying22 hi B off L.length c a 1 1 [.int .i64 x] (by rw [hz1]; rfl) hadd h1 hroom (by
        intro j hj
        obtain rfl : j = 0 := by simp at hj; omega
        rw [hz1]
        simp [World.cell?, hg, hsz]) (by
        intro j hj
        simp [World.frozen?, hg])
      rw [hz1, Nat.mul_one] at hr
      refine ⟨_, _, hr, ?_, setCells_grown _ _ _ _, .inl rfl⟩
      refine .inr ⟨B, off, c, cur.setIfInBounds (off + L.length) (.int .i64 x), by simp, hbB, ?_, by simpa using hroom, hm, by simpa using hs, fun j hj => ?_⟩
      · simp [World.setCells, World.setCell, Array.getElem?_modify, hg]
      · rw [List.length_append] at hj
        rw [Array.getElem?_setIfInBounds]
        by_cases e : L.length = j
        · subst e
          rw [if_pos rfl, if_pos hsz]
          simp
        · have hj2 : j < L.length := by simp at hj; omega
          rw [if_neg (by omega), List.getElem?_append_left hj2]
          exact h j hj2
    · have holds : ∀ j u, (L.map enc8)[j]? = some u → w.cell? ((⟨B, off, none⟩ : Addr).add j) = some u := by
        intro j u hj
        rw [Addr.add_lit]
        have hlt : j < L.length := by simpa using (List.getElem?_eq_some_iff.1 hj).1
        have hcj := h j hlt
        rw [List.getElem?_map, List.getElem?_eq_getElem hlt] at hj
        rw [List.getElem?_eq_getElem hlt] at hcj
        simp [World.cell?, hg, hcj]
        simpa using hj
      obtain ⟨v', w', hr, ho, hg2⟩ := run_append_arg_grows (P := Tryd.prog) w 22 ty 3 i0 (.int .i64 0) 1 8 Tryd.underlying22 hi hz0 hz1 hz2 rfl (by decide) ⟨B, off, none⟩ L.length c (L.map enc8) (by simp) holds a 1 1 [.int .i64 x] rfl hadd (by omega) (by unfold maxLen; omega) (by omega)
      have hO : Own w' w.heap.size v' (L ++ [x]) := by
        unfold Own
        rw [List.map_append, List.length_append]
        exact ho
      refine ⟨v', w', hr, hO.fr.mono hb, grownBy_any hg2, .inr fun g e => (hO.fr.blk g e).1⟩
theorem wpList_append_fr {w : World} {ops : Array Oper} {rest : List Oper} {o : Oper} {a : Act} {Q : Exit → Act → World → Prop} (hgd : o.guard = none) (s x : Operand)
    (ho : o.op = .call { callee := .builtin .append, args := #[s, x], argTypes := #[22, 22] })
    (base : Nat) (v : Value) (L : List Int) (y : Int) (hs : a.eval s = v) (hR : Fr w base v L) (hl : L.length ≤ 1000000) (hb : base ≤ w.heap.size)
    (ad : Addr) (hx : a.eval x = .slice (some ad) 1 1) (hy : w.cell? ad = some (.int .i64 y))
    (h : ∀ v' w', Fr w' base v' (L ++ [y]) → w.grownBy w' v.ownBlock → (v'.ownBlock = v.ownBlock ∨ ∀ g, v'.ownBlock = some g → w.heap.size ≤ g) → wpList Tryd.prog ops Q rest (a.put o.dst v') w') : wpList Tryd.prog ops Q (o :: rest) a w :=
  wpList_plain hgd fun K hK => by
    obtain ⟨v', w', hr, h2, h3, h4⟩ := run_append_fr w base o.type v L y hR hl hb ad hy
    unfold Oper.wp execOp
    simp only [ho, resolve, invoke, builtin, Sem.run_bind, Sem.run_pure, Result.andThen_ok, List.map_toArray, List.map_cons, List.map_nil, hs, hx, hr]
    exact hK _ _ (h v' w' h2 h3 h4)
theorem Fr.form {w : World} {base : Nat} {v : Value} {L : List Int} (h : Fr w base v L) : ∃ ab c, v = .slice ab L.length c := by
  rcases h with ⟨rfl, rfl⟩ | ⟨B, off, c, cur, rfl, _⟩
  · exact ⟨none, 0, rfl⟩
  · exact ⟨_, c, rfl⟩
theorem Ints.empty {w w' : World} {v : Value} (h : Ints w v []) : Ints w' v [] := by
  rcases h with h | ⟨B, off, c, e, hc, h⟩ | h
  · exact .inl h
  · exact .inr (.inl ⟨B, off, c, e, hc, fun j hj => by simp at hj⟩)
  · exact .inr (.inr h)
def Apart (u v : Value) : Prop := u.ownBlock = none ∨ u.ownBlock ≠ v.ownBlock
theorem Apart.ne {u v : Value} (h : Apart u v) : u.ownBlock = none ∨ u.ownBlock ≠ v.ownBlock := h
theorem told_any (w : World) (a b t : Value) (r : Int) (A : List Int) (ha : Fr w 0 a A) (hb : Ints w b A) (ht : Ints w t A) (hba : A = [] ∨ Apart b a) (hta : A = [] ∨ Apart t a) (hl : A.length ≤ 100000) :
    Calls Tryd.prog 21 #[a, b, .int .i64 r, t, .int .i64 r] w fun e w' => e = .returned (.bool true) ∧ w.grownBy w' a.ownBlock := by
  have HS1 := rSame_any w a t A A ha.ints ht (by omega) (by omega)
  rw [decide_eq_true (rfl : A = A)] at HS1
  have HFa : Hid (Fr w 0 a A) := ha
  have HB : Hid (∀ w', w.grownBy w' a.ownBlock → Ints w' b A) := fun w' hg => by
    rcases hba with e | e
    · subst e; exact hb.empty
    · exact hb.keptB hg e.ne
  have HTt : Hid (∀ w', w.grownBy w' a.ownBlock → Ints w' t A) := fun w' hg => by
    rcases hta with e | e
    · subst e; exact ht.empty
    · exact ht.keptB hg e.ne
  have HL : Hid (A.length ≤ 100000) := hl
  obtain ⟨ba, bc, rfl, _⟩ := hb.reads
  obtain ⟨ta, tc, rfl, _⟩ := ht.reads
  obtain ⟨aa, ac, rfl⟩ := ha.form
  obtain ⟨row, hrow⟩ : ∃ row, (Value.slice aa A.length ac).ownBlock = row := ⟨_, rfl⟩
  rw [hrow] at HB HTt ⊢
  have HRow : Unit → (Value.slice aa A.length ac).ownBlock = row := fun _ => hrow
  obtain ⟨n, hn⟩ : ∃ n, A.length = n := ⟨_, rfl⟩
  have HN : Unit → A.length = n := fun _ => hn
  have hnI : (n : Int) ≤ 100000 := by omega
  rw [hn] at HS1 HFa HB HTt HRow ⊢
  clear ha hb ht hba hta hl hn hrow
  go_enter Tryd.func21, Tryd.ntmps21
  go_wp2_with fail
  refine (num_any r _).mono ?_
  rintro e nw ⟨rfl, hw⟩
  obtain rfl := hw.symm
  clear hw
  go_wp2_with fail
  refine HS1.mono ?_
  rintro e w1 ⟨rfl, g1⟩
  have HF1 : Hid (Fr w1 0 (.slice aa n ac) A) := HFa.out.kept0 g1
  have HG1 : Hid (w.grownBy w1 row) := grownBy_any g1
  clear g1
  go_wp2_with fail
  go_loopw [11] (fun s wr => ∃ (i : Nat) (K : List Int), i ≤ n ∧ s = .int .i64 i ∧ K.length = n ∧ Fr wr 0 (.slice aa n ac) K ∧ w.grownBy wr row) (fun s _ => match s with | .int _ i => n - i.toNat | _ => 0)
  case atStart => exact ⟨0, A, by omega, rfl, HN (), HF1.out, HG1.out⟩
  case round =>
    obtain ⟨i, K, hi, rfl, hK, hF, hG⟩ := hrel
    have HK : Unit → K.length = n := fun _ => hK
    have HF : Hid (Fr wr 0 (.slice aa n ac) K) := hF
    have HG : Hid (w.grownBy wr row) := hG
    clear hK
    by_cases hlt : i < n
    · obtain ⟨B, off, rfl, hnc⟩ : ∃ B off, aa = some ⟨B, off, none⟩ ∧ n ≤ ac := by
        rcases hF with ⟨e, e2⟩ | ⟨B, off, c, cur, e, _, _, h1, _⟩
        · cases e; omega
        · cases e; exact ⟨B, off, rfl, by rw [← HK ()]; exact h1⟩
      have hc := HF.out.cellAt i (by rw [HK ()]; exact hlt)
      have hf := HF.out.frozen (off + i)
      have hltI : (i : Int) < n := by omega
      have HF2 : Hid (Fr (wr.setCell ⟨B, off + i, none⟩ (.int .i64 99)) 0 (.slice (some ⟨B, off, none⟩) n ac) (K.set i 99)) := HF.out.set i 99 (by rw [HK ()]; exact hlt)
      have HG2 : Hid (w.grownBy (wr.setCell ⟨B, off + i, none⟩ (.int .i64 99)) row) := by
        have := HRow ()
        rw [← this]
        show w.grownBy _ (some B)
        have hg0 := HG.out
        rw [← this] at hg0
        exact grownBy_trans hg0 (grownBy_setCell _ _ _ _)
      generalize K[i]?.getD 0 = y at *
      clear hF hG
      go_wp2_with fail
      go_roundw
      case rel => exact ⟨i + 1, _, by omega, num_eq (by omega), by rw [List.length_set]; exact HK (), HF2.out, HG2.out⟩
      case measure => simp; omega
    · have e : i = n := by omega
      subst e
      clear hF hG
      go_wp2_with fail
      go_loopw [0, 12] (fun s t wr2 => ∃ (k : Nat) (M : List Int), k ≤ 5 ∧ t = .int .i64 k ∧ M.length = i + k ∧ Fr wr2 0 s M ∧ w.grownBy wr2 row ∧ (s.ownBlock = row ∨ ∀ g, s.ownBlock = some g → w.heap.size ≤ g)) (fun _ t _ => match t with | .int _ k => 5 - k.toNat | _ => 0)
      case atStart => exact ⟨0, K, by omega, rfl, HK (), HF.out, HG.out, .inl (HRow ())⟩
      case round =>
        obtain ⟨k, M, hk, rfl, hM, hF2, hG2, hO2⟩ := hrel
        have HM : Unit → M.length = i + k := fun _ => hM
        obtain ⟨bb, cc, rfl⟩ := hF2.form
        rw [hM] at hF2 hO2 ⊢
        have HF2 : Hid (Fr wr 0 (.slice bb (i + k) cc) M) := hF2
        have HG2 : Hid (w.grownBy wr row) := hG2
        have HO2 : Hid ((Value.slice bb (i + k) cc).ownBlock = row ∨ ∀ g, (Value.slice bb (i + k) cc).ownBlock = some g → w.heap.size ≤ g) := hO2
        have hik : (i : Int) + k ≤ 100005 := by omega
        clear hM hF2 hG2 hO2 HF HG
        by_cases hk5 : k < 5
        · have hk5I : (k : Int) < 5 := by omega
          go_wp2_with (at_builtin; refine wpList_append_fr rfl _ _ rfl 0 (.slice bb (i + k) cc) M 98 rfl (HF2.out.kept0 (grow1 _ _)) (by rw [HM ()]; omega) (Nat.zero_le _) _ rfl (by simp) ?_)
          intro v' w' hF' hg' ho'
          have HF' : Hid (Fr w' 0 v' (M ++ [98])) := hF'
          have HG' : Hid (w.grownBy w' row) := grown_step (grownBy_trans HG2.out (grownBy_any (grow1 _ _))) HO2.out hg'
          have HO' : Hid (v'.ownBlock = row ∨ ∀ g, v'.ownBlock = some g → w.heap.size ≤ g) := by
            rcases ho' with e | e
            · rw [e]; exact HO2.out
            · refine .inr fun g hg => ?_
              have h1 := e g hg
              have h2 := HG2.out.size
              have h3 := (grow1 wr (.cells #[.int .i64 98] 3)).size
              omega
          clear hF' hg' ho'
          go_wp2_with fail
          go_roundw
          case rel => exact ⟨k + 1, _, by omega, num_eq (by omega), by rw [List.length_append, HM ()]; rfl, HF'.out, HG'.out, HO'.out⟩
          case measure => simp; omega
        · obtain rfl : k = 5 := by omega
          have HSe := rSame_any wr (.slice ba i bc) (.slice ta i tc) A A (HB.out wr HG2.out) (HTt.out wr HG2.out) (by have := HL.out; omega) (by have := HL.out; omega)
          rw [decide_eq_true (rfl : A = A)] at HSe
          obtain ⟨z, hz⟩ : ∃ z, i + 5 = z := ⟨_, rfl⟩
          have hz4 : (4 : Int) < z := by omega
          rw [hz]
          clear HF2 HO2 hz hik hk hk5 HB HTt HM HRow
          generalize hva : Value.slice ba i bc = va at *
          generalize hvt : Value.slice ta i tc = vt at *
          clear hva hvt
          go_wp2_with fail
          refine HSe.mono ?_
          rintro e w9 ⟨rfl, g9⟩
          have HG9 : Hid (w.grownBy w9 row) := grownBy_trans HG2.out (grownBy_any g9)
          clear g9
          go_wp2_with fail
          go_ret
          exact ⟨rfl, HG9.out⟩
end Go.Proofs.YthldipnfaiobaaaDoor
