/-
  The document's Gauss, PlainGauss; the law's spoil and told.
-/
import Derived.Test.YtanbnefdodkniaaWwa
namespace Go.Proofs.Ytanbnefdodkniaa
open Go.RowKit Go.Lib Go.Sort

theorem fracF_le (a b : WN) (ha : a.2.size ≤ 1048576) (hb : b.2.size ≤ 1048576) : (fracF a b).length ≤ 2097200 := by
  have := wholeF_le a.1 a.2 ha
  have := wholeF_le b.1 b.2 hb
  unfold fracF
  rw [List.length_append]; omega

set_option maxHeartbeats 1600000 in
set_option maxRecDepth 1000000 in
theorem dgaussW (a b c d : WN) (ha : a.2.size ≤ 1048576) (hb : b.2.size ≤ 1048576) (hc : c.2.size ≤ 1048576) (hd : d.2.size ≤ 1048576) (w : World) :
    Calls Try.prog 29 #[gv a b c d] w fun e w' => ∃ v, e = .returned v ∧ Forms w w' v (gaussF a b c d) := by
  have la := fracF_le a b ha hb
  have lb := fracF_le c d hc hd
  have HA : Hid (∀ x y : WN, x.2.size ≤ 1048576 → y.2.size ≤ 1048576 → ∀ w1, Calls Try.prog 27 #[fv x y] w1 fun e w' => ∃ v, e = .returned v ∧ Forms w1 w' v (fracF x y)) := fun x y hx hy w1 => dfracW x y hx hy w1
  have HZ : Hid ((a.2.size ≤ 1048576 ∧ b.2.size ≤ 1048576) ∧ c.2.size ≤ 1048576 ∧ d.2.size ≤ 1048576) := ⟨⟨ha, hb⟩, hc, hd⟩
  have HK : Hid (∀ w', (w.alloc (gob a b c d)).grownBy w' none → w'.cell? ⟨w.heap.size, 0, none⟩ = some (.bool a.1) ∧ w'.cell? ⟨w.heap.size, 1, none⟩ = some (.string a.2) ∧ w'.cell? ⟨w.heap.size, 2, none⟩ = some (.bool b.1) ∧ w'.cell? ⟨w.heap.size, 3, none⟩ = some (.string b.2) ∧ w'.cell? ⟨w.heap.size, 4, none⟩ = some (.bool c.1) ∧ w'.cell? ⟨w.heap.size, 5, none⟩ = some (.string c.2) ∧ w'.cell? ⟨w.heap.size, 6, none⟩ = some (.bool d.1) ∧ w'.cell? ⟨w.heap.size, 7, none⟩ = some (.string d.2)) := fun w' hg => by
    obtain ⟨_, _, hB⟩ := keptN (heap_alloc_new w (gob a b c d)) hg (by simp)
    obtain ⟨a0, a1, a2, a3, a4, a5, a6, a7, _⟩ := cellsG (z := ((a, b), (c, d))) hB
    exact ⟨a0, a1, a2, a3, a4, a5, a6, a7⟩
  clear ha hb hc hd
  go_enter Try.func29, Try.ntmps29
  go_wp2
  go_region_held3 (fun w' => w'.cell? ⟨w.heap.size, 0, none⟩ = some (.bool a.1) ∧ w'.cell? ⟨w.heap.size, 1, none⟩ = some (.string a.2) ∧ w'.cell? ⟨w.heap.size, 2, none⟩ = some (.bool b.1) ∧ w'.cell? ⟨w.heap.size, 3, none⟩ = some (.string b.2) ∧ w'.cell? ⟨w.heap.size, 4, none⟩ = some (.bool c.1) ∧ w'.cell? ⟨w.heap.size, 5, none⟩ = some (.string c.2) ∧ w'.cell? ⟨w.heap.size, 6, none⟩ = some (.bool d.1) ∧ w'.cell? ⟨w.heap.size, 7, none⟩ = some (.string d.2))
    (first | (go_keep; done) | exact HK.out _ G3 | exact HK.out _ G2 | exact HK.out _ G1 | exact HK.out _ (grownBy_drewN (World.grownBy.refl _ _) 1) | fail)
    (first
      | (go_at_call 27; have _q := G1; refine (HA.out c d HZ.out.2.1 HZ.out.2.2 _).mono ?_; rintro e w2 ⟨v2, rfl, hF2⟩; have G2 : (w.alloc (gob a b c d)).grownBy w2 none := grownBy_trans G1 hF2.2)
      | (go_at_call 27; refine (HA.out a b HZ.out.1.1 HZ.out.1.2 _).mono ?_; rintro e w1 ⟨v1, rfl, hF1⟩; have G1 : (w.alloc (gob a b c d)).grownBy w1 none := grownBy_undrew hF1.2; have F1 : Forms (w.alloc (gob a b c d)) w1 v1 (fracF a b) := ⟨hF1.1, G1⟩)
      | (refine step_apps rfl (.tmp 5) (.tmp 8) (by rfl) (w.alloc (gob a b c d)).heap.size _ _ (fracF a b) (fracF c d) (by rfl) (by rfl) (Src.kept F1.1 hF2.2 (by intro g _ e; cases e)) hF2.src (by omega) G2.size ?_; intro v3 w3 h3; have F3 := Forms.app F1 hF2.2 h3; have G3 := F3.2)
      | fail)
  all_goals
    go_wp2
    go_ret
    exact ⟨v3, rfl, F3.lift (World.grownBy_alloc _ _ _)⟩

set_option maxHeartbeats 1600000 in
set_option maxRecDepth 1000000 in
theorem dplainG_one (a b c d : WN) (w : World) (HA : Hid (∀ w1, Calls Try.prog 26 #[fv a b] w1 fun e w' => e = .returned (.bool false) ∧ w1.grownBy w' none)) :
    Calls Try.prog 28 #[gv a b c d] w fun e w' => e = .returned (.bool false) ∧ w.grownBy w' none := by
  go_enter Try.func28, Try.ntmps28
  go_wp2_with fail
  refine (HA.out _).mono ?_
  rintro e w1 ⟨rfl, hg1⟩
  go_wp2
  go_ret
  exact ⟨rfl, grownBy_trans (World.grownBy_alloc _ _ _) hg1⟩
set_option maxHeartbeats 1600000 in
set_option maxRecDepth 1000000 in
theorem dplainG_two (a b c d : WN) (p : Bool) (w : World) (HA : Hid (∀ w1, Calls Try.prog 26 #[fv a b] w1 fun e w' => e = .returned (.bool true) ∧ w1.grownBy w' none)) (HB : Hid (∀ w1, Calls Try.prog 26 #[fv c d] w1 fun e w' => e = .returned (.bool p) ∧ w1.grownBy w' none)) :
    Calls Try.prog 28 #[gv a b c d] w fun e w' => e = .returned (.bool p) ∧ w.grownBy w' none := by
  go_enter Try.func28, Try.ntmps28
  go_wp2_with fail
  refine (HA.out _).mono ?_
  rintro e w1 ⟨rfl, hg1⟩
  obtain ⟨_, _, hB⟩ := keptN (heap_alloc_new w (gob a b c d)) hg1 (by simp)
  obtain ⟨_, _, _, _, a4, a5, a6, a7, _⟩ := cellsG (z := ((a, b), (c, d))) hB
  clear hB
  go_wp2_with fail
  refine (HB.out _).mono ?_
  rintro e w2 ⟨rfl, hg2⟩
  go_wp2
  go_ret
  exact ⟨rfl, grownBy_trans (grownBy_trans (World.grownBy_alloc _ _ _) hg1) hg2⟩
theorem dplainG (a b c d : WN) (ha : a.2.size ≤ maxLen) (hb : b.2.size ≤ maxLen) (hc : c.2.size ≤ maxLen) (hd : d.2.size ≤ maxLen) (w : World) :
    Calls Try.prog 28 #[gv a b c d] w fun e w' => e = .returned (.bool (plainG a b c d)) ∧ w.grownBy w' none := by
  have HA := fun w1 => dplainFrac a b ha hb w1
  have HB := fun w1 => dplainFrac c d hc hd w1
  unfold plainG
  cases hp : plainFr a b
  · rw [hp] at HA; exact dplainG_one a b c d w HA
  · rw [hp] at HA; exact dplainG_two a b c d _ w HA HB

set_option maxHeartbeats 1600000 in
set_option maxRecDepth 1000000 in
/-- told, of what may not be. -/
theorem told_no (ao : Option Addr) (c : Nat) (want : Value) (w : World) : Calls Try.prog 23 #[.slice ao 0 c, .int .i64 2, .bool false, want] w fun e w' => e = .returned (.bool true) ∧ w' = w := by
  go_enter Try.func23, Try.ntmps23
  go_wp2_with (go_at_call 41; go_in)
  go_ret
  exact ⟨rfl, rfl⟩
set_option maxHeartbeats 1600000 in
set_option maxRecDepth 1000000 in
/-- told, of what may be: both forms are the same. -/
theorem told_yes (v want : Value) (L : List Int) (w : World) (h1 : Src w v L) (h2 : Src w want L) : Calls Try.prog 23 #[v, .int .i64 0, .bool true, want] w fun e w' => e = .returned (.bool true) ∧ w' = w := by
  have c1 := conv_src h1
  have c2 := conv_src h2
  go_enter Try.func23, Try.ntmps23
  go_wp2_with (go_at_call 41; go_in)
  go_ret
  exact ⟨rfl, rfl⟩

/-- append to a row of the call's own: which block the answer lies in. -/
theorem run_apps_at (w : World) (base : Nat) (ty : TypeId) (g cap : Nat) (s : Value) (A : List Int) (x : Int) (hown : w.ownsRow base 5 1 (.slice (some ⟨g, 0, none⟩) A.length cap) A.length (A.map encB)) (b off c : Nat) (hs : s = .slice (some ⟨b, off, none⟩) 1 c) (hcx : w.cell? ⟨b, off, none⟩ = some (.int .u8 x)) (hb : A.length + 1 ≤ 225000000000000) (hbase : base ≤ w.heap.size) :
    ∃ v' w', (Builtin.append_ #[33, 33] ty #[.slice (some ⟨g, 0, none⟩) A.length cap, s]).run Try.prog w = .ok v' w' ∧ Apps w w' base (.slice (some ⟨g, 0, none⟩) A.length cap) v' A [x] ∧ (v'.ownBlock = some g ∨ v'.ownBlock = some w.heap.size) := by
  obtain ⟨i0, hi, hz0, hz1, hz2⟩ := info_parts Try.info5
  subst hs
  have hc : ∀ j u, ([x].map encB)[j]? = some u → w.cell? ⟨b, off + j, none⟩ = some u := fun j u hj => by
    match j, hj with
    | 0, hj => simp at hj; subst hj; exact hcx
  have hc' : ∀ j u, ([x].map encB)[j]? = some u → w.cell? ((⟨b, off, none⟩ : Addr).add j) = some u := fun j u hj => by rw [Addr.add_lit]; exact hc j u hj
  have hmax : (A ++ [x]).length ≤ maxLen := by rw [List.length_append]; unfold maxLen; simp; omega
  rcases hown.2 with ⟨e, _⟩ | ⟨g', cap', cur, e, hbg, hg, hnc, hcm, hcs, htake⟩
  · cases e
  · cases e
    by_cases hroom : A.length + 1 ≤ cap
    · have hr := run_append_room (P := Try.prog) w 33 ty 5 i0 Try.underlying33 hi g A.length cap cur hg ⟨b, off, none⟩ 1 c ([x].map encB) (by rw [hz1]; simp) hc' (ints_oneCell _ _) hroom (by rw [hz1]; simp; omega)
      rw [hz1] at hr
      refine ⟨_, _, hr, ⟨⟨by simp, .inr ⟨g, cap, _, by rw [List.length_append]; rfl, hbg, setRow_heap w g cur _ 5 _ hg, by rw [List.length_append]; exact hroom, hcm, ?_, ?_⟩⟩, ⟨rfl, rfl, rfl, by simp, fun k _ hk => setRow_other w g k _ (fun e => hk (by simp [Value.ownBlock, e]))⟩, fun h => by cases h⟩, .inl rfl⟩
      · simp only [List.size_toArray, List.length_append, List.length_take, List.length_drop, Array.length_toList, List.length_map, List.length_cons, List.length_nil]
        omega
      · simp only []
        rw [htake, ← List.map_append]
        exact List.take_left' (by simp)
    · have holds : ∀ j u, (A.map encB)[j]? = some u → w.cell? ((⟨g, 0, none⟩ : Addr).add j) = some u := hown.cells (g := g) rfl
      have hr := run_append_grow (P := Try.prog) w 33 ty 5 i0 (.int .u8 0) Try.underlying33 hi hz0 ⟨g, 0, none⟩ A.length cap (A.map encB) (by rw [hz1]; simp) holds ⟨b, off, none⟩ 1 c ([x].map encB) (by rw [hz1]; simp) hc' (by omega) (by omega) (by rw [hz2, Nat.mul_one]; exact nsc_le (by omega) hb)
      have hg := grown_new w base hbase A [x] cap hmax (Value.ownBlock (.slice (some ⟨g, 0, none⟩) A.length cap)) (.int .u8 0) rfl
      rw [List.length_append] at hg
      exact ⟨_, _, hr, ⟨by rw [List.length_append]; exact hg.1, hg.2, fun h => by cases h⟩, .inr rfl⟩

theorem wpList_apps_any {ops : Array Oper} {rest : List Oper} {o : Oper} {a : Act} {Q : Exit → Act → World → Prop} (w : World) (hgd : o.guard = none) (sl x : Operand)
    (ho : o.op = .call { callee := .builtin .append, args := #[sl, x], argTypes := #[33, 33] }) (P : Value → World → Prop)
    (hr : ∃ v' w', (Builtin.append_ #[33, 33] o.type #[a.eval sl, a.eval x]).run Try.prog w = .ok v' w' ∧ P v' w')
    (h : ∀ v' w', P v' w' → wpList Try.prog ops Q rest (a.put o.dst v') w') : wpList Try.prog ops Q (o :: rest) a w := by
  refine wpList_plain hgd fun K hK => ?_
  obtain ⟨v', w', hr, h2⟩ := hr
  unfold Oper.wp execOp
  simp only [ho, resolve, invoke, builtin, Sem.run_bind, Sem.run_pure, Result.andThen_ok, List.map_toArray, List.map_cons, List.map_nil, hr]
  exact hK _ _ (h v' w' h2)

theorem own_grown' {w wr w1 w2 : World} {g : Nat} {row : Option Nat} (h : w.grownBy wr (some g)) (h1 : wr.grownBy w1 none) (h2 : w1.grownBy w2 row) (hr : ∀ k, row = some k → k = g ∨ w.heap.size ≤ k) : w.grownBy w2 (some g) := by
  refine ⟨h2.os.trans (h1.os.trans h.os), h2.tape.trans (h1.tape.trans h.tape), h2.output.trans (h1.output.trans h.output), Nat.le_trans h.size (Nat.le_trans h1.size h2.size), fun i hi hn => ?_⟩
  have e1 := h.block i hi hn
  have e2 := h1.block i (Nat.lt_of_lt_of_le hi h.size) (by simp)
  have e3 := h2.block i (Nat.lt_of_lt_of_le hi (Nat.le_trans h.size h1.size)) (fun e => by
    rcases hr i e.symm with rfl | hk
    · exact hn rfl
    · omega)
  exact e3.trans (e2.trans e1)
/-- A row of bytes whose block is g, or new since w. -/
structure Row5 (W w : World) (g : Nat) (wr : World) (v : Value) (n : Nat) : Prop where
  own : ∃ M : List Int, M.length = n ∧ wr.ownsRow W.heap.size 5 1 v n (M.map encB)
  at_ : ∃ k cap, v = .slice (some ⟨k, 0, none⟩) n cap ∧ (k = g ∨ w.heap.size ≤ k)
  kept : w.grownBy wr (some g)

set_option maxHeartbeats 3200000 in
set_option maxRecDepth 1000000 in
/-- spoil: what it is handed is written over, and nothing else that was there. -/
theorem spoil_any (g cap : Nat) (L : List Int) (W w : World) (ho : w.ownsRow W.heap.size 5 1 (.slice (some ⟨g, 0, none⟩) L.length cap) L.length (L.map encB)) (hL : L.length ≤ 100) :
    Calls Try.prog 19 #[.slice (some ⟨g, 0, none⟩) L.length cap] w fun e w' => e = .returned (.tuple #[]) ∧ w.grownBy w' (some g) := by
  obtain ⟨l, hl⟩ : ∃ l, L.length = l := ⟨_, rfl⟩
  rw [hl] at ho hL ⊢
  have hgl := (ho.lt g rfl)
  go_enter Try.func19, Try.ntmps19
  go_wp2_with fail
  go_loopw [2] (fun i wr => ∃ (m : Nat) (M : List Int), m ≤ l ∧ i = .int .i64 m ∧ M.length = l ∧ wr.ownsRow W.heap.size 5 1 (.slice (some ⟨g, 0, none⟩) l cap) l (M.map encB) ∧ w.grownBy wr (some g)) (fun i _ => l - (RowKit.intOf i).toNat)
  case atStart => exact ⟨0, L, Nat.zero_le _, rfl, hl, ho, World.grownBy.refl _ _⟩
  case round =>
    obtain ⟨m, M, hm, rfl, hM, hown, hgr⟩ := hrel
    clear ho
    by_cases hlt : m < l
    · obtain ⟨c1, c2⟩ := own_at hown m hlt
      have HN : Hid (wr.setCell ⟨g, m, none⟩ (.int .u8 90) |>.ownsRow W.heap.size 5 1 (.slice (some ⟨g, 0, none⟩) l cap) l ((M.set m 90).map encB)) := own_set hown m 90
      have HG : Hid (w.grownBy (wr.setCell ⟨g, m, none⟩ (.int .u8 90)) (some g)) := grownBy_trans hgr (grownBy_setCell _ _ _ _)
      clear hown hgr
      go_wp2_with fail
      go_roundw
      case rel => exact ⟨m + 1, _, by omega, by go_num, by simp [hM], HN.out, HG.out⟩
      case measure => simp [RowKit.intOf]; omega
    · obtain rfl : m = l := by omega
      have HR : Hid (Row5 W w g wr (.slice (some ⟨g, 0, none⟩) m cap) (m + 0)) := ⟨⟨M, hM, hown⟩, ⟨g, cap, rfl, .inl rfl⟩, hgr⟩
      clear hown hgr
      go_wp2_with fail
      go_loopw [0, 3] (fun v i wx => ∃ q : Nat, q ≤ 9 ∧ i = .int .i64 q ∧ Row5 W w g wx v (m + q)) (fun _ i _ => 9 - (RowKit.intOf i).toNat)
      case atStart => exact ⟨0, by omega, rfl, HR.out⟩
      case round =>
        obtain ⟨q, hq, rfl, hrow⟩ := hrel
        by_cases hlt : q < 9
        · obtain ⟨⟨N, hN, hown⟩, ⟨k, kc, rfl, hk⟩, hgr⟩ := hrow
          have hz := hgr.size
          have hkl := hown.lt k rfl
          have HA : Hid (∀ ty, ∃ v' w', (Builtin.append_ #[33, 33] ty #[.slice (some ⟨k, 0, none⟩) (m + q) kc, .slice (some ⟨wr.heap.size, 0, none⟩) 1 1]).run Try.prog (wr.alloc (.cells #[.int .u8 91] 5)) = .ok v' w' ∧ Row5 W w g w' v' (m + (q + 1))) := by
            intro ty
            obtain ⟨v', w', hr, hA, hb⟩ := run_apps_at (wr.alloc (.cells #[.int .u8 91] 5)) W.heap.size ty k kc _ N 91 (by rw [hN]; exact hown.alloc _) wr.heap.size 0 1 rfl (by simp) (by omega) (by simp; omega)
            rw [hN] at hr hA
            refine ⟨v', w', hr, ⟨N ++ [91], by simp [hN]; omega, ?_⟩, ?_, ?_⟩
            · have := hA.1
              rw [show (N ++ [(91 : Int)]).length = m + (q + 1) by simp [hN]; omega] at this
              exact this
            · have ho' := hA.1
              rcases ho'.2 with ⟨rfl, _⟩ | ⟨k2, c2, cur, rfl, _⟩
              · rcases hb with hb | hb <;> cases hb
              · refine ⟨k2, c2, by rw [show (N ++ [(91 : Int)]).length = m + (q + 1) by simp [hN]; omega], ?_⟩
                rcases hb with hb | hb
                · simp [Value.ownBlock] at hb; subst hb; exact hk
                · simp [Value.ownBlock] at hb; right; omega
            · refine own_grown' hgr (World.grownBy_alloc _ _ _) hA.2.1 ?_
              intro x hx
              simp [Value.ownBlock] at hx
              subst hx
              exact hk
          clear hown hk hgr hkl
          go_wp2_with (at_builtin; refine wpList_apps_any _ rfl _ _ rfl _ (HA.out _) ?_)
          intro v' w' hrow'
          clear HA
          go_wp2_with fail
          go_roundw
          case rel => exact ⟨q + 1, by omega, by go_num, hrow'⟩
          case measure => simp [RowKit.intOf]; omega
        · obtain rfl : q = 9 := by omega
          have hgx := hrow.kept
          go_wp2
          go_end0
          exact ⟨rfl, hgx⟩
end Go.Proofs.Ytanbnefdodkniaa
