/-
  The program's cancel and short: what is left of a word, as a list of its own.
-/
import Derived.Test.YtkimgmgafkihaaaDoorChk
namespace Go.Proofs.YtkimgmgafkihaaaDoor
open Go.RowKit Go.Lib Go.Sort
set_option linter.unusedVariables false
set_option maxHeartbeats 1600000
set_option maxRecDepth 1000000
theorem run_append_int (w : World) (base : Nat) (ty : TypeId) (v : Value) (L : List Int) (x : Int) (h : Own w base v L) (hl : L.length ≤ 1000000000000) (hb : base ≤ w.heap.size) (a : Addr) (hx : w.cell? a = some (.int .i64 x)) :
    ∃ v' w', (Builtin.append_ #[34, 34] ty #[v, .slice (some a) 1 1]).run Tryd.prog w = .ok v' w' ∧ Own w' base v' (L ++ [x]) ∧ w.grownBy w' v.ownBlock ∧ (v'.ownBlock = v.ownBlock ∨ v'.ownBlock = some w.heap.size) := by
  obtain ⟨i0, hi, hz0, hz1, hz2⟩ := info_parts Tryd.info8
  have hadd : ∀ j u, [Value.int .i64 x][j]? = some u → w.cell? (a.add j) = some u := by
    intro j u hj
    match j, hj with
    | 0, hj => simp at hj; subst hj; simpa [Addr.add] using hx
  have h1 : ∀ u ∈ [Value.int .i64 x], u.oneCell' = true := by
    intro u hu; simp at hu; subst hu; rfl
  obtain ⟨v', w', hr, ho, hg, hn⟩ := run_append_own (P := Tryd.prog) w base 34 ty 3 i0 (.int .i64 0) 1 8 Tryd.underlying34 hi hz0 hz1 hz2 rfl (by decide) v L.length _ h a 1 1 [.int .i64 x] rfl hadd h1 (by unfold maxLen; omega) (by omega) hb
  refine ⟨v', w', hr, ?_, hg, ?_⟩
  · unfold Own
    rw [List.map_append, List.length_append]
    exact ho
  · rcases h.2 with ⟨rfl, hn⟩ | ⟨g, cap, cur, rfl, hbg, hgg, hnc, hcm, hcs, htake⟩
    · right
      have hr2 := run_append_nil (P := Tryd.prog) w 34 ty 3 i0 (.int .i64 0) Tryd.underlying34 hi hz0 a 1 1 [.int .i64 x] (by rw [hz1]; rfl) hadd (by omega) (by omega) (by rw [hz2]; omega)
      rw [hr2] at hr
      cases hr
      rfl
    · by_cases hroom : L.length + 1 ≤ cap
      · left
        have hr2 := run_append_room (P := Tryd.prog) w 34 ty 3 i0 Tryd.underlying34 hi g L.length cap cur hgg a 1 1 [.int .i64 x] (by rw [hz1]; rfl) hadd h1 hroom (by rw [hz1]; simp; omega)
        rw [hr2] at hr
        cases hr
        rfl
      · right
        have holds : ∀ j u, (L.map enc8)[j]? = some u → w.cell? ((⟨g, 0, none⟩ : Addr).add j) = some u := World.ownsRow.cells h (g := g) rfl
        have hr2 := run_append_grow (P := Tryd.prog) w 34 ty 3 i0 (.int .i64 0) Tryd.underlying34 hi hz0 ⟨g, 0, none⟩ L.length cap (L.map enc8) (by rw [hz1]; simp) holds a 1 1 [.int .i64 x] (by rw [hz1]; rfl) hadd (by omega) (by omega) (by rw [hz2]; exact growslice_fits (by omega) (by omega))
        rw [hr2] at hr
        cases hr
        rfl
theorem run_append_int_room (w : World) (base : Nat) (ty : TypeId) (g c : Nat) (L : List Int) (x : Int) (h : Own w base (.slice (some ⟨g, 0, none⟩) L.length c) L) (hroom : L.length + 1 ≤ c) (hl : L.length ≤ 1000000000000) (hb : base ≤ w.heap.size) (a : Addr) (hx : w.cell? a = some (.int .i64 x)) :
    ∃ w', (Builtin.append_ #[34, 34] ty #[.slice (some ⟨g, 0, none⟩) L.length c, .slice (some a) 1 1]).run Tryd.prog w = .ok (.slice (some ⟨g, 0, none⟩) (L.length + 1) c) w' ∧ Own w' base (.slice (some ⟨g, 0, none⟩) (L.length + 1) c) (L ++ [x]) ∧ w.grownBy w' (some g) := by
  obtain ⟨v', w', hr, ho, hg, _⟩ := run_append_int w base ty _ L x h hl hb a hx
  obtain ⟨i0, hi, hz0, hz1, hz2⟩ := info_parts Tryd.info8
  have hadd : ∀ j u, [Value.int .i64 x][j]? = some u → w.cell? (a.add j) = some u := by
    intro j u hj
    match j, hj with
    | 0, hj => simp at hj; subst hj; simpa [Addr.add] using hx
  have h1 : ∀ u ∈ [Value.int .i64 x], u.oneCell' = true := by
    intro u hu; simp at hu; subst hu; rfl
  rcases h.2 with ⟨e, hn⟩ | ⟨g', cap, cur, e, hbg, hgg, hnc, hcm, hcs, htake⟩
  · cases e
  · cases e
    have hr2 := run_append_room (P := Tryd.prog) w 34 ty 3 i0 Tryd.underlying34 hi g L.length c cur hgg a 1 1 [.int .i64 x] (by rw [hz1]; rfl) hadd h1 hroom (by rw [hz1]; simp; omega)
    rw [hr2] at hr
    cases hr
    exact ⟨_, hr2, ho, hg⟩
theorem wpList_append_int_room {w : World} {ops : Array Oper} {rest : List Oper} {o : Oper} {a : Act} {Q : Exit → Act → World → Prop} (hgd : o.guard = none) (s x : Operand)
    (ho : o.op = .call { callee := .builtin .append, args := #[s, x], argTypes := #[34, 34] })
    (base : Nat) (g c n : Nat) (L : List Int) (y : Int) (hs : a.eval s = .slice (some ⟨g, 0, none⟩) n c) (hn : n = L.length) (hR : Own w base (.slice (some ⟨g, 0, none⟩) n c) L) (hroom : n + 1 ≤ c) (hl : n ≤ 1000000000000) (hb : base ≤ w.heap.size)
    (ad : Addr) (hx : a.eval x = .slice (some ad) 1 1) (hy : w.cell? ad = some (.int .i64 y))
    (h : ∀ w', Own w' base (.slice (some ⟨g, 0, none⟩) (n + 1) c) (L ++ [y]) → w.grownBy w' (some g) → wpList Tryd.prog ops Q rest (a.put o.dst (.slice (some ⟨g, 0, none⟩) (n + 1) c)) w') : wpList Tryd.prog ops Q (o :: rest) a w :=
  wpList_plain hgd fun K hK => by
    subst hn
    obtain ⟨w', hr, h2, h3⟩ := run_append_int_room w base o.type g c L y hR hroom hl hb ad hy
    unfold Oper.wp execOp
    simp only [ho, resolve, invoke, builtin, Sem.run_bind, Sem.run_pure, Result.andThen_ok, List.map_toArray, List.map_cons, List.map_nil, hs, hx, hr]
    exact hK _ _ (h w' h2 h3)
theorem wpList_append_int {w : World} {ops : Array Oper} {rest : List Oper} {o : Oper} {a : Act} {Q : Exit → Act → World → Prop} (hgd : o.guard = none) (s x : Operand)
    (ho : o.op = .call { callee := .builtin .append, args := #[s, x], argTypes := #[34, 34] })
    (base : Nat) (v : Value) (L : List Int) (y : Int) (hs : a.eval s = v) (hR : Own w base v L) (hl : L.length ≤ 1000000000000) (hb : base ≤ w.heap.size)
    (ad : Addr) (hx : a.eval x = .slice (some ad) 1 1) (hy : w.cell? ad = some (.int .i64 y))
    (h : ∀ v' w', Own w' base v' (L ++ [y]) → w.grownBy w' v.ownBlock → (v'.ownBlock = v.ownBlock ∨ v'.ownBlock = some w.heap.size) → wpList Tryd.prog ops Q rest (a.put o.dst v') w') : wpList Tryd.prog ops Q (o :: rest) a w :=
  wpList_plain hgd fun K hK => by
    obtain ⟨v', w', hr, h2, h3, h4⟩ := run_append_int w base o.type v L y hR hl hb ad hy
    unfold Oper.wp execOp
    simp only [ho, resolve, invoke, builtin, Sem.run_bind, Sem.run_pure, Result.andThen_ok, List.map_toArray, List.map_cons, List.map_nil, hs, hx, hr]
    exact hK _ _ (h v' w' h2 h3 h4)
def push (l : List Int) (k : Int) : List Int := if l.length = 0 then [k] else if l[l.length - 1]?.getD 0 + k = 0 then l.take (l.length - 1) else l ++ [k]
def sh (L : List Int) : List Int := L.foldl push []
theorem push_len (l : List Int) (k : Int) : (push l k).length ≤ l.length + 1 := by
  unfold push
  repeat' split
  all_goals simp
  all_goals omega
theorem snoc_ind {α : Type} {P : List α → Prop} (h0 : P []) (h1 : ∀ L k, P L → P (L ++ [k])) (L : List α) : P L := by
  have : ∀ R : List α, P R.reverse := fun R => by
    induction R with
    | nil => exact h0
    | cons x R ih => simpa using h1 _ x ih
  simpa using this L.reverse
theorem sh_snoc (L : List Int) (k : Int) : sh (L ++ [k]) = push (sh L) k := by simp [sh, List.foldl_append]
theorem sh_len (L : List Int) : (sh L).length ≤ L.length := by
  refine snoc_ind (P := fun L => (sh L).length ≤ L.length) (by simp [sh]) (fun L k ih => ?_) L
  · show (sh (L ++ [k])).length ≤ (L ++ [k]).length
    rw [sh_snoc]
    have := push_len (sh L) k
    simp
    omega
theorem push_mem {l : List Int} {k x : Int} (h : x ∈ push l k) : x ∈ l ∨ x = k := by
  unfold push at h
  repeat' split at h
  · simp at h; exact .inr h
  · exact .inl (List.mem_of_mem_take h)
  · simpa using h
theorem sh_mem {L : List Int} {x : Int} (h : x ∈ sh L) : x ∈ L := by
  revert h
  refine snoc_ind (P := fun L => x ∈ sh L → x ∈ L) (by simp [sh]) (fun L k ih h => ?_) L
  · rw [sh_snoc] at h
    rcases push_mem h with h | h
    · simp [ih h]
    · simp [h]
theorem cancel_any (x y : Int) (hx : -64 ≤ x ∧ x ≤ 64) (hy : -64 ≤ y ∧ y ≤ 64) (w : World) : Calls Tryd.prog 36 #[.int .i64 x, .int .i64 y] w fun e w' => e = .returned (.bool (x + y == 0)) ∧ w' = w := by
  obtain ⟨h1, h2⟩ := hx
  obtain ⟨h3, h4⟩ := hy
  go_enter Tryd.func36, Tryd.ntmps36
  go_wp2
  go_ret
  exact ⟨rfl, rfl⟩
theorem short_any (w : World) (v : Value) (L : List Int) (h : Ints w v L) (hl : L.length ≤ 1000000) (hL : L.any noL = false) :
    Calls Tryd.prog 26 #[v] w fun e w' => ∃ c, e = .returned (.slice (some ⟨w.heap.size, 0, none⟩) (sh L).length (sh L).length) ∧ Own w' w.heap.size (.slice (some ⟨w.heap.size, 0, none⟩) (sh L).length c) (sh L) ∧ w.grownBy w' none := by
  obtain ⟨ab, c, rfl, HR⟩ := h.reads
  have HR1 : Hid (∀ w', w.grownBy w' none → ∀ i, i < L.length → ∃ B off, ab = some ⟨B, off, none⟩ ∧ w'.cell? ⟨B, off + i, none⟩ = some (.int .i64 (L[i]?.getD 0)) ∧ L.length ≤ c) := HR
  have HL : Hid (∀ x ∈ L, noL x = false) := fun x hx => by simpa using List.any_eq_false.1 hL x hx
  obtain ⟨n, hn⟩ : ∃ n, L.length = n := ⟨_, rfl⟩
  have HN : Unit → L.length = n := fun _ => hn
  have hnI : (n : Int) ≤ 1000000 := by omega
  rw [hn] at HR1 ⊢
  obtain ⟨i0, hi, hz0, hz1, hz2⟩ := info_parts Tryd.info8
  have hmk := run_make_own (P := Tryd.prog) w w.heap.size 34 3 i0 (.int .i64 0) 1 Tryd.underlying34 hi hz0 hz1 .i64 .i64 n (by rw [hz2]; omega) (by unfold maxLen; omega) (Nat.le_refl _)
  obtain ⟨w1, hmk, hown, hg1⟩ := hmk
  clear HR h hl hn hL hi hz0 hz1 hz2
  go_enter Tryd.func26, Tryd.ntmps26
  go_wp2
  have hg2 : w.heap.size < w1.heap.size := (World.ownsRow.lt hown w.heap.size rfl).2
  go_loopw [3, 12] (fun s t wr => ∃ (i : Nat) (K : List Int), i ≤ n ∧ s = .slice (some ⟨w.heap.size, 0, none⟩) K.length n ∧ t = .int .i64 i ∧ sh (L.take i) = K ∧ Own wr w.heap.size (.slice (some ⟨w.heap.size, 0, none⟩) K.length n) K ∧ w.grownBy wr none ∧ w.heap.size < wr.heap.size) (fun _ t _ => match t with | .int _ i => n - i.toNat | _ => 0)
  case atStart => exact ⟨0, [], by omega, rfl, rfl, rfl, hown, hg1, hg2⟩
  case round =>
    obtain ⟨i, K, hi, rfl, rfl, hK, hO, hG, hS⟩ := hrel
    have HK : Hid (sh (L.take i) = K) := hK
    have HO : Hid (Own wr w.heap.size (.slice (some ⟨w.heap.size, 0, none⟩) K.length n) K) := hO
    have HG : Hid (w.grownBy wr none) := hG
    have HS : Hid (w.heap.size < wr.heap.size) := hS
    have HKl : Hid (K.length ≤ i) := by
      show K.length ≤ i
      rw [← HK.out]
      have := sh_len (L.take i)
      simp at this
      omega
    have HKm : Hid (∀ x ∈ K, noL x = false) := fun x hx => by
      rw [← HK.out] at hx
      exact HL.out x (List.mem_of_mem_take (sh_mem hx))
    clear hK hO hG hS hown hg1 hg2 hmk
    by_cases hlt : i < n
    · obtain ⟨B, off, rfl, hc, hnc⟩ := HR1.out wr HG.out i hlt
      have hlt' : i < L.length := by rw [HN ()]; exact hlt
      have hx : L[i]?.getD 0 = L[i] := by rw [List.getElem?_eq_getElem hlt']; rfl
      have HT : Hid (sh (L.take (i + 1)) = push K (L[i]?.getD 0)) := by
        show sh (L.take (i + 1)) = push K (L[i]?.getD 0)
        rw [List.take_succ_eq_append_getElem hlt', sh_snoc, HK.out, hx]
      have hxn := noL_no (HL.out _ (List.getElem_mem hlt'))
      rw [← hx] at hxn
      clear hx
      generalize L[i]?.getD 0 = x at *
      obtain ⟨_, hx1, hx2⟩ := hxn
      have hltI : (i : Int) < n := by omega
      obtain ⟨m, hm⟩ : ∃ m, K.length = m := ⟨_, rfl⟩
      have HM : Unit → K.length = m := fun _ => hm
      rw [hm] at HO HKl ⊢
      clear hm
      have hmi : m ≤ i := HKl.out
      have hmI : (m : Int) ≤ i := by omega
      have HW : Hid (∀ (k : Nat) w', wr.grownBy w' none ∨ (wr.alloc (.cells #[.int .i64 x] 3)).grownBy w' (some w.heap.size) → w.grownBy w' none ∧ w.heap.size < w'.heap.size) := by
        intro k w' hw
        rcases hw with hw | hw
        · exact ⟨grownBy_trans HG.out hw, Nat.lt_of_lt_of_le HS.out hw.size⟩
        · have h1 := grownBy_trans HG.out (grow1 wr (.cells #[.int .i64 x] 3))
          exact ⟨grownBy_new h1 (Nat.le_refl _) hw, Nat.lt_of_lt_of_le HS.out (Nat.le_trans (grow1 wr (.cells #[.int .i64 x] 3)).size hw.size)⟩
      by_cases hm0 : m = 0
      · subst hm0
        go_wp2_with (at_builtin; refine wpList_append_int_room rfl _ _ rfl w.heap.size w.heap.size n 0 K x rfl (HM ()).symm (HO.out.kept0 (grow1 _ _)) (by omega) (by omega) (by have := HS.out; simp; omega) ⟨wr.heap.size, 0, none⟩ rfl (by simp) ?_)
        intro w' hO' hg'
        have HO' : Hid (Own w' w.heap.size (.slice (some ⟨w.heap.size, 0, none⟩) (0 + 1) n) (K ++ [x])) := hO'
        have HG' : Hid (w.grownBy w' none ∧ w.heap.size < w'.heap.size) := HW.out 0 w' (.inr hg')
        clear hO' hg'
        go_wp2_with fail
        go_roundw
        case rel =>
          have hk0 : K = [] := List.length_eq_zero_iff.1 (HM ())
          subst hk0
          exact ⟨i + 1, [x], by omega, rfl, by simp, by rw [HT.out]; rfl, HO'.out, HG'.out⟩
        case measure => simp; omega
      · obtain ⟨q, rfl⟩ : ∃ q, m = q + 1 := ⟨m - 1, by omega⟩
        have hcl := HO.out.cell q (by rw [HM ()]; omega)
        have hyn := noL_no (HKm.out (K[q]?.getD 0) (by rw [List.getElem?_eq_getElem (by rw [HM ()]; omega)]; exact List.getElem_mem _))
        have HP : Hid (push K x = if K[q]?.getD 0 + x = 0 then K.take q else K ++ [x]) := by
          show push K x = _
          unfold push
          rw [if_neg (by rw [HM ()]; omega), HM ()]
          rfl
        generalize K[q]?.getD 0 = y at *
        obtain ⟨_, hy1, hy2⟩ := hyn
        have hqI : (q : Int) ≤ 1000000 := by omega
        by_cases hs : y + x = 0
        · have hsb : (y + x == 0) = true := by simpa using hs
          have HP2 : Hid (push K x = K.take q) := by show _ = _; rw [HP.out, if_pos hs]
          clear hs
          go_wp2_with (go_at_call 36; refine (cancel_any y x ⟨hy1, hy2⟩ ⟨hx1, hx2⟩ _).mono ?_; rw [hsb]; rintro e w' ⟨rfl, rfl⟩)
          go_roundw
          case rel =>
            have hl : (K.take q).length = q := by rw [List.length_take, HM ()]; omega
            refine ⟨i + 1, K.take q, by omega, by rw [hl], by simp, by rw [HT.out, HP2.out], ?_, HG.out, HS.out⟩
            rw [hl]
            exact HO.out.take q (by rw [HM ()]; omega)
          case measure => simp; omega
        · have hsb : (y + x == 0) = false := by simpa using hs
          have HP2 : Hid (push K x = K ++ [x]) := by show _ = _; rw [HP.out, if_neg hs]
          clear hs
          go_wp2_with (first | (go_at_call 36; refine (cancel_any y x ⟨hy1, hy2⟩ ⟨hx1, hx2⟩ _).mono ?_; rw [hsb]; rintro e w' ⟨rfl, rfl⟩) | (at_builtin; refine wpList_append_int_room rfl _ _ rfl w.heap.size w.heap.size n (q + 1) K x rfl (HM ()).symm (HO.out.kept0 (grow1 _ _)) (by omega) (by omega) (by have := HS.out; simp; omega) _ rfl (by simp) ?_))
          intro w' hO' hg'
          have HO' : Hid (Own w' w.heap.size (.slice (some ⟨w.heap.size, 0, none⟩) (q + 1 + 1) n) (K ++ [x])) := hO'
          have HG' : Hid (w.grownBy w' none ∧ w.heap.size < w'.heap.size) := HW.out 0 w' (.inr hg')
          clear hO' hg' hcl
          go_wp2_with fail
          go_roundw
          case rel =>
            have hl : (K ++ [x]).length = q + 1 + 1 := by rw [List.length_append, HM ()]; rfl
            refine ⟨i + 1, K ++ [x], by omega, by rw [hl], by simp, by rw [HT.out, HP2.out], ?_, HG'.out⟩
            rw [hl]
            exact HO'.out
          case measure => simp; omega
    · have e : i = n := by omega
      subst e
      have hk : sh L = K := by
        have := HK.out
        rwa [← HN (), List.take_length] at this
      subst hk
      have hsl : (sh L).length ≤ i := HKl.out
      have HF : Hid (Own wr w.heap.size (.slice (some ⟨w.heap.size, 0, none⟩) (sh L).length i) (sh L)) := HO.out
      obtain ⟨m, hm⟩ : ∃ m, (sh L).length = m := ⟨_, rfl⟩
      have HMM : Unit → (sh L).length = m := fun _ => hm
      rw [hm] at hsl HF ⊢
      have hmI : (m : Int) ≤ i := by omega
      clear hm
      go_wp2
      go_ret
      exact ⟨_, by rw [HMM ()]; rfl, by rw [HMM ()]; exact HF.out, HG.out⟩
theorem short_fr (w : World) (v : Value) (L : List Int) (h : Ints w v L) (hl : L.length ≤ 1000000) (hL : L.any noL = false) :
    Calls Tryd.prog 26 #[v] w fun e w' => e = .returned (.slice (some ⟨w.heap.size, 0, none⟩) (sh L).length (sh L).length) ∧ Fr w' w.heap.size (.slice (some ⟨w.heap.size, 0, none⟩) (sh L).length (sh L).length) (sh L) ∧ w.grownBy w' none := by
  refine (short_any w v L h hl hL).mono ?_
  rintro e w' ⟨c, rfl, hO, hG⟩
  exact ⟨rfl, hO.cut rfl, hG⟩
end Go.Proofs.YtkimgmgafkihaaaDoor
