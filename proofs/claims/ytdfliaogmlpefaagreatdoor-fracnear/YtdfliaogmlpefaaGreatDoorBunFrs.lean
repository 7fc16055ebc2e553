/-
  frac's formulas of Sub, Mul, Div.
  frac's Add, Sub, Mul, Div, by what reckoned answers.
  frac's Sub, Mul, Div, Cmp of any two; the document's.
-/
import Derived.Test.YtdfliaogmlpefaaGreatDoorBunFre
import Derived.Deep.RegionWith
import Derived.Deep.CutRange
namespace Go.Proofs.YtdfliaogmlpefaaGreatDoor
open Go.RowKit Go.Lib Go.Sort
set_option linter.unusedVariables false
set_option maxHeartbeats 3200000
set_option maxRecDepth 1000000
theorem sub1_any (W : World) (Bx By : Nat) (n d n2 d2 : Bool) (s t s2 t2 : ByteArray) (h2 : Two W Bx By n d n2 d2 s t s2 t2) (p1 p2 p3 pn : Bool) (q1 q2 q3 ps : ByteArray)
    (HT : Hid (∀ a1 b1 a2 b2 c1 c2 (w : World), (a1 = n ∧ b1 = s ∧ a2 = d2 ∧ b2 = t2 ∧ c1 = p1 ∧ c2 = q1) ∨ (a1 = n2 ∧ b1 = s2 ∧ a2 = d ∧ b2 = t ∧ c1 = p2 ∧ c2 = q2) ∨ (a1 = d ∧ b1 = t ∧ a2 = d2 ∧ b2 = t2 ∧ c1 = p3 ∧ c2 = q3) → Calls Tryz.prog 54 #[whole a1 b1, whole a2 b2] w fun e w' => e = .returned (whole c1 c2) ∧ w.grownBy w' none))
    (HA : Hid (∀ w, Calls Tryz.prog 57 #[whole p1 q1, whole p2 q2] w fun e w' => e = .returned (.tuple #[whole pn ps, .int .i64 0]) ∧ w.grownBy w' none)) :
    Calls Tryz.prog 93 #[.pointer (some ⟨Bx, 0, none⟩), .pointer (some ⟨By, 0, none⟩)] W fun e w' => e = .returned (.tuple #[whole pn ps, whole p3 q3, .int .i64 0]) ∧ W.grownBy w' none := by
  have HK : Hid (∀ w', W.grownBy w' none → w'.cell? ⟨Bx, 0, none⟩ = some (.bool n) ∧ w'.cell? ⟨Bx, 1, none⟩ = some (.string s) ∧ w'.cell? ⟨Bx, 2, none⟩ = some (.bool d) ∧ w'.cell? ⟨Bx, 3, none⟩ = some (.string t) ∧
    w'.cell? ⟨By, 0, none⟩ = some (.bool n2) ∧ w'.cell? ⟨By, 1, none⟩ = some (.string s2) ∧ w'.cell? ⟨By, 2, none⟩ = some (.bool d2) ∧ w'.cell? ⟨By, 3, none⟩ = some (.string t2)) := fun w' g => (h2.kept g).cells
  clear h2
  go_enter Tryz.func93, Tryz.ntmps93
  go_wp2_with fail
  go_region_held3 (fun w' => w'.cell? ⟨Bx, 0, none⟩ = some (.bool n) ∧ w'.cell? ⟨Bx, 1, none⟩ = some (.string s) ∧ w'.cell? ⟨Bx, 2, none⟩ = some (.bool d) ∧ w'.cell? ⟨Bx, 3, none⟩ = some (.string t) ∧
    w'.cell? ⟨By, 0, none⟩ = some (.bool n2) ∧ w'.cell? ⟨By, 1, none⟩ = some (.string s2) ∧ w'.cell? ⟨By, 2, none⟩ = some (.bool d2) ∧ w'.cell? ⟨By, 3, none⟩ = some (.string t2))
    (first | (go_keep; done) | exact HK.out _ (grown_set (grown_set (grownBy_trans (grow2 _ _ _) GC) (by omega)) (by omega)) | exact HK.out _ (grownBy_trans (grow2 _ _ _) (by assumption)) | exact HK.out _ (grow_drew (grow2 _ _ _)) | fail)
    (first
      | (go_at_call 54; refine (HT.out _ _ _ _ _ _ _ (by first | exact .inl ⟨rfl, rfl, rfl, rfl, rfl, rfl⟩ | exact .inr (.inl ⟨rfl, rfl, rfl, rfl, rfl, rfl⟩))).mono ?_; rintro e wA ⟨rfl, gA⟩; have GA : ((W.alloc (wObj false eS)).alloc (wObj false eS)).grownBy wA none := (by first | exact grownBy_trans (by assumption) gA | exact grownBy_undrew gA))
      | (go_at_call 57; refine (HA.out _).mono ?_; rintro e wC ⟨rfl, gC⟩; have GC : ((W.alloc (wObj false eS)).alloc (wObj false eS)).grownBy wC none := grownBy_trans (by assumption) gC; have hW : WBlk wC W.heap.size (.bool false) (.string eS) := WBlk.kept (at_alloc1 _ _ _) GC (by simp); have hc0 := hW.c0; have hc1 := hW.c1; have hf0 := hW.fr 0; have hf1 := hW.fr 1)
      | fail)
  have H1 : Hid (WBlk ((wC.setCell ⟨W.heap.size, 0, none⟩ (.bool pn)).setCell ⟨W.heap.size, 1, none⟩ (.string ps)) W.heap.size (.bool pn) (.string ps)) := hW.put _ _
  have H2 : Hid (WBlk ((wC.setCell ⟨W.heap.size, 0, none⟩ (.bool pn)).setCell ⟨W.heap.size, 1, none⟩ (.string ps)) (W.heap.size + 1) (.bool false) (.string eS)) := (WBlk.other (WBlk.kept (heap_alloc2_new _ _ _) GC (by simp)) (by omega)).other (by omega)
  have HG : Hid (W.grownBy ((wC.setCell ⟨W.heap.size, 0, none⟩ (.bool pn)).setCell ⟨W.heap.size, 1, none⟩ (.string ps)) none) := grown_set (grown_set (grownBy_trans (grow2 _ _ _) GC) (by omega)) (by omega)
  clear hW hc0 hc1 hf0 hf1 gC GC
  generalize (wC.setCell ⟨W.heap.size, 0, none⟩ (.bool pn)).setCell ⟨W.heap.size, 1, none⟩ (.string ps) = V at *
  have HS : Hid (∀ w', W.grownBy w' none → WBlk w' W.heap.size (.bool pn) (.string ps) → w'.cell? ⟨Bx, 0, none⟩ = some (.bool n) ∧ w'.cell? ⟨Bx, 1, none⟩ = some (.string s) ∧ w'.cell? ⟨Bx, 2, none⟩ = some (.bool d) ∧ w'.cell? ⟨Bx, 3, none⟩ = some (.string t) ∧ w'.cell? ⟨By, 0, none⟩ = some (.bool n2) ∧ w'.cell? ⟨By, 1, none⟩ = some (.string s2) ∧ w'.cell? ⟨By, 2, none⟩ = some (.bool d2) ∧ w'.cell? ⟨By, 3, none⟩ = some (.string t2) ∧ w'.cell? ⟨W.heap.size, 0, none⟩ = some (.bool pn) ∧ w'.cell? ⟨W.heap.size, 1, none⟩ = some (.string ps)) := fun w' g h => by
    obtain ⟨k0, k1, k2, k3, k4, k5, k6, k7⟩ := HK.out _ g
    exact ⟨k0, k1, k2, k3, k4, k5, k6, k7, h.c0, h.c1⟩
  go_wp2_with fail
  go_region_held3 (fun w' => w'.cell? ⟨Bx, 0, none⟩ = some (.bool n) ∧ w'.cell? ⟨Bx, 1, none⟩ = some (.string s) ∧ w'.cell? ⟨Bx, 2, none⟩ = some (.bool d) ∧ w'.cell? ⟨Bx, 3, none⟩ = some (.string t) ∧ w'.cell? ⟨By, 0, none⟩ = some (.bool n2) ∧ w'.cell? ⟨By, 1, none⟩ = some (.string s2) ∧ w'.cell? ⟨By, 2, none⟩ = some (.bool d2) ∧ w'.cell? ⟨By, 3, none⟩ = some (.string t2) ∧ w'.cell? ⟨W.heap.size, 0, none⟩ = some (.bool pn) ∧ w'.cell? ⟨W.heap.size, 1, none⟩ = some (.string ps))
    (first | (go_keep; done) | exact HS.out _ GW h1D | exact HS.out _ (grow_drew HG.out) H1.out | exact HS.out _ (grown_set (grown_set GW (by omega)) (by omega)) (h1D.put _ _) | exact HS.out _ (grown_set (grown_set (grown_set (grown_set GW (by omega)) (by omega)) (by omega)) (by omega)) (WBlk.other (WBlk.other (h1D.put _ _) (by omega)) (by omega)) | fail)
    (first
      | (go_at_call 54; refine (HT.out _ _ _ _ _ _ _ (by first | exact .inr (.inr ⟨rfl, rfl, rfl, rfl, rfl, rfl⟩))).mono ?_; rintro e wD ⟨rfl, gD⟩; have GD : V.grownBy wD none := (by first | exact gD | exact grownBy_undrew gD); have GW : W.grownBy wD none := grownBy_trans HG.out GD; have h1D := H1.out.kept GD (by simp); have h2D := H2.out.kept GD (by simp); have e0 := h1D.c0; have e1 := h1D.c1; have e2 := h1D.fr 0; have e3 := h1D.fr 1; have e4 := h2D.c0; have e5 := h2D.c1; have e6 := h2D.fr 0; have e7 := h2D.fr 1)
      | fail)
  go_wp2_with fail
  refine bodyPost_ret (res_cell2_tmp rfl _ _ W.heap.size (W.heap.size + 1) _ _ _ _ _ _ _ _ rfl (WBlk.other (WBlk.other (h1D.put _ _) (by omega)) (by omega)) rfl (WBlk.put (WBlk.other (WBlk.other h2D (by omega)) (by omega)) _ _)) rfl ?_
  exact ⟨rfl, grown_set (grown_set (grown_set (grown_set GW (by omega)) (by omega)) (by omega)) (by omega)⟩
theorem mul1_any (W : World) (Bx By : Nat) (n d n2 d2 : Bool) (s t s2 t2 : ByteArray) (h2 : Two W Bx By n d n2 d2 s t s2 t2) (p1 p3 : Bool) (q1 q3 : ByteArray)
    (HT : Hid (∀ a1 b1 a2 b2 c1 c2 (w : World), (a1 = n ∧ b1 = s ∧ a2 = n2 ∧ b2 = s2 ∧ c1 = p1 ∧ c2 = q1) ∨ (a1 = d ∧ b1 = t ∧ a2 = d2 ∧ b2 = t2 ∧ c1 = p3 ∧ c2 = q3) → Calls Tryz.prog 54 #[whole a1 b1, whole a2 b2] w fun e w' => e = .returned (whole c1 c2) ∧ w.grownBy w' none)) :
    Calls Tryz.prog 94 #[.pointer (some ⟨Bx, 0, none⟩), .pointer (some ⟨By, 0, none⟩)] W fun e w' => e = .returned (.tuple #[whole p1 q1, whole p3 q3, .int .i64 0]) ∧ W.grownBy w' none := by
  have HK : Hid (∀ w', W.grownBy w' none → w'.cell? ⟨Bx, 0, none⟩ = some (.bool n) ∧ w'.cell? ⟨Bx, 1, none⟩ = some (.string s) ∧ w'.cell? ⟨Bx, 2, none⟩ = some (.bool d) ∧ w'.cell? ⟨Bx, 3, none⟩ = some (.string t) ∧ w'.cell? ⟨By, 0, none⟩ = some (.bool n2) ∧ w'.cell? ⟨By, 1, none⟩ = some (.string s2) ∧ w'.cell? ⟨By, 2, none⟩ = some (.bool d2) ∧ w'.cell? ⟨By, 3, none⟩ = some (.string t2)) := fun w' g => (h2.kept g).cells
  clear h2
  go_enter Tryz.func94, Tryz.ntmps94
  go_wp2_with fail
  have H1 : Hid (WBlk ((W.alloc (wObj false eS)).alloc (wObj false eS)) W.heap.size (.bool false) (.string eS)) := at_alloc1 _ _ _
  have H2 : Hid (WBlk ((W.alloc (wObj false eS)).alloc (wObj false eS)) (W.heap.size + 1) (.bool false) (.string eS)) := heap_alloc2_new _ _ _
  have HG : Hid (W.grownBy ((W.alloc (wObj false eS)).alloc (wObj false eS)) none) := grow2 _ _ _
  generalize (W.alloc (wObj false eS)).alloc (wObj false eS) = V at *
  go_region_held3 (fun w' => w'.cell? ⟨Bx, 0, none⟩ = some (.bool n) ∧ w'.cell? ⟨Bx, 1, none⟩ = some (.string s) ∧ w'.cell? ⟨Bx, 2, none⟩ = some (.bool d) ∧ w'.cell? ⟨Bx, 3, none⟩ = some (.string t) ∧ w'.cell? ⟨By, 0, none⟩ = some (.bool n2) ∧ w'.cell? ⟨By, 1, none⟩ = some (.string s2) ∧ w'.cell? ⟨By, 2, none⟩ = some (.bool d2) ∧ w'.cell? ⟨By, 3, none⟩ = some (.string t2))
    (first | (go_keep; done) | exact HK.out _ (grown_set (grown_set (grown_set (grown_set GW (by omega)) (by omega)) (by omega)) (by omega)) | exact HK.out _ (grown_set (grown_set GW (by omega)) (by omega)) | exact HK.out _ GW | exact HK.out _ (grownBy_trans HG.out GA) | exact HK.out _ (grow_drew HG.out) | fail)
    (first
      | (go_at_call 54; first | (refine (HT.out _ _ _ _ _ _ _ (by exact .inl ⟨rfl, rfl, rfl, rfl, rfl, rfl⟩)).mono ?_; rintro e wA ⟨rfl, gA⟩; have GA : V.grownBy wA none := (by first | exact gA | exact grownBy_undrew gA)) | (refine (HT.out _ _ _ _ _ _ _ (by exact .inr ⟨rfl, rfl, rfl, rfl, rfl, rfl⟩)).mono ?_; rintro e wD ⟨rfl, gD⟩; have GD : V.grownBy wD none := grownBy_trans GA gD; have GW : W.grownBy wD none := grownBy_trans HG.out GD; have h1D := H1.out.kept GD (by simp); have h2D := H2.out.kept GD (by simp); have e0 := h1D.c0; have e1 := h1D.c1; have e2 := h1D.fr 0; have e3 := h1D.fr 1; have e4 := h2D.c0; have e5 := h2D.c1; have e6 := h2D.fr 0; have e7 := h2D.fr 1))
      | fail)
  go_wp2_with fail
  refine bodyPost_ret (res_cell2_tmp rfl _ _ W.heap.size (W.heap.size + 1) _ _ _ _ _ _ _ _ rfl (WBlk.other (WBlk.other (h1D.put _ _) (by omega)) (by omega)) rfl (WBlk.put (WBlk.other (WBlk.other h2D (by omega)) (by omega)) _ _)) rfl ?_
  exact ⟨rfl, grown_set (grown_set (grown_set (grown_set GW (by omega)) (by omega)) (by omega)) (by omega)⟩
theorem fsub_by (n d n2 d2 rn1 rd1 : Bool) (s t s2 t2 rs1 rt1 : ByteArray) (re1 : Int) (w : World)
    (HR : Hid (∀ (W : World) (B : Nat), Two W w.heap.size (w.heap.size + 1) n d n2 d2 s t s2 t2 → W.heap[B]? = some (.cells #[.bool n, .string s, .bool d, .string t, .bool n2, .string s2, .bool d2, .string t2] 25 (0, 0)) →
      Calls Tryz.prog 59 #[.func (.func 93) #[] #[.pointer (some ⟨w.heap.size, 0, none⟩), .pointer (some ⟨w.heap.size + 1, 0, none⟩)], .slice (some ⟨B, 0, none⟩) 2 2] W fun e w' => e = .returned (.tuple #[frac rn1 rs1 rd1 rt1, .int .i64 re1]) ∧ W.grownBy w' none)) :
    Calls Tryz.prog 44 #[frac n s d t, frac n2 s2 d2 t2] w fun e w' => e = .returned (.tuple #[frac rn1 rs1 rd1 rt1, .int .i64 re1]) ∧ w.grownBy w' none := by
  have hmf : ∀ (fn : Fn) (first cap : Array Value) (w : World), (Instr.makeFunc fn first cap).run Tryz.prog w = .ok (.func fn first cap) w := fun _ _ _ _ => rfl
  go_enter Tryz.func44, Tryz.ntmps44
  go_wp2_with fail
  refine (HR.out _ _ ⟨?x1, ?x2⟩ ?x3).mono ?_
  case x1 => exact old_alloc _ _ (old_alloc _ _ (at_alloc1 _ _ _))
  case x2 => exact old_alloc _ _ (at_alloc2 _ _ _ _)
  case x3 => first | exact at_alloc4 _ _ _ _ _ | (have := at_alloc4 w (qObj n s d t) (qObj n2 s2 d2 t2) (qObj false eS false eS) (.cells #[.bool n, .string s, .bool d, .string t, .bool n2, .string s2, .bool d2, .string t2] 25); simpa using this)
  rintro e w1 ⟨rfl, g1⟩
  have G1 : (((w.alloc (qObj n s d t)).alloc (qObj n2 s2 d2 t2)).alloc (qObj false eS false eS)).grownBy w1 none := grownBy_trans (grow1 _ _) g1
  have hR : QBlk w1 (w.heap.size + 1 + 1) (.bool false) (.string eS) (.bool false) (.string eS) := QBlk.kept (w := ((w.alloc (qObj n s d t)).alloc (qObj n2 s2 d2 t2)).alloc (qObj false eS false eS)) (at_alloc3 _ _ _ _) G1 (by simp)
  have HG1 : Hid (w.grownBy w1 none) := grownBy_trans (grow3 _ _ _ _) G1
  clear g1 G1
  have r0 := hR.c0
  have r1 := hR.c1
  have r2 := hR.c2
  have r3 := hR.c3
  have f0 := hR.fr 0
  have f1 := hR.fr 1
  have f2 := hR.fr 2
  have f3 := hR.fr 3
  go_wp2_with fail
  refine bodyPost_ret (res_cellQ_tmp rfl _ _ (w.heap.size + 1 + 1) _ _ _ _ _ _ rfl (hR.put _ _ _ _)) rfl ?_
  exact ⟨rfl, grown_put4 HG1.out (by omega)⟩
theorem fmul_by (n d n2 d2 rn1 rd1 : Bool) (s t s2 t2 rs1 rt1 : ByteArray) (re1 : Int) (w : World)
    (HR : Hid (∀ (W : World) (B : Nat), Two W w.heap.size (w.heap.size + 1) n d n2 d2 s t s2 t2 → W.heap[B]? = some (.cells #[.bool n, .string s, .bool d, .string t, .bool n2, .string s2, .bool d2, .string t2] 25 (0, 0)) →
      Calls Tryz.prog 59 #[.func (.func 94) #[] #[.pointer (some ⟨w.heap.size, 0, none⟩), .pointer (some ⟨w.heap.size + 1, 0, none⟩)], .slice (some ⟨B, 0, none⟩) 2 2] W fun e w' => e = .returned (.tuple #[frac rn1 rs1 rd1 rt1, .int .i64 re1]) ∧ W.grownBy w' none)) :
    Calls Tryz.prog 45 #[frac n s d t, frac n2 s2 d2 t2] w fun e w' => e = .returned (.tuple #[frac rn1 rs1 rd1 rt1, .int .i64 re1]) ∧ w.grownBy w' none := by
  have hmf : ∀ (fn : Fn) (first cap : Array Value) (w : World), (Instr.makeFunc fn first cap).run Tryz.prog w = .ok (.func fn first cap) w := fun _ _ _ _ => rfl
  go_enter Tryz.func45, Tryz.ntmps45
  go_wp2_with fail
  refine (HR.out _ _ ⟨?x1, ?x2⟩ ?x3).mono ?_
  case x1 => exact old_alloc _ _ (old_alloc _ _ (at_alloc1 _ _ _))
  case x2 => exact old_alloc _ _ (at_alloc2 _ _ _ _)
  case x3 => first | exact at_alloc4 _ _ _ _ _ | (have := at_alloc4 w (qObj n s d t) (qObj n2 s2 d2 t2) (qObj false eS false eS) (.cells #[.bool n, .string s, .bool d, .string t, .bool n2, .string s2, .bool d2, .string t2] 25); simpa using this)
  rintro e w1 ⟨rfl, g1⟩
  have G1 : (((w.alloc (qObj n s d t)).alloc (qObj n2 s2 d2 t2)).alloc (qObj false eS false eS)).grownBy w1 none := grownBy_trans (grow1 _ _) g1
  have hR : QBlk w1 (w.heap.size + 1 + 1) (.bool false) (.string eS) (.bool false) (.string eS) := QBlk.kept (w := ((w.alloc (qObj n s d t)).alloc (qObj n2 s2 d2 t2)).alloc (qObj false eS false eS)) (at_alloc3 _ _ _ _) G1 (by simp)
  have HG1 : Hid (w.grownBy w1 none) := grownBy_trans (grow3 _ _ _ _) G1
  clear g1 G1
  have r0 := hR.c0
  have r1 := hR.c1
  have r2 := hR.c2
  have r3 := hR.c3
  have f0 := hR.fr 0
  have f1 := hR.fr 1
  have f2 := hR.fr 2
  have f3 := hR.fr 3
  go_wp2_with fail
  refine bodyPost_ret (res_cellQ_tmp rfl _ _ (w.heap.size + 1 + 1) _ _ _ _ _ _ rfl (hR.put _ _ _ _)) rfl ?_
  exact ⟨rfl, grown_put4 HG1.out (by omega)⟩
theorem nonempty_q {m : ByteArray} (h : m.size ≠ 0) : (m.toList == []) = false := by
  rw [beq_eq_false_iff_ne]
  intro e
  have := congrArg List.length e
  rw [ByteArray.toList_eq, Array.length_toList] at this
  exact h this
theorem sub_is {k : Nat} {x y : Int} {n1 n2 n' : Bool} {s1 s2 s' : ByteArray} (hk : k + 1 ≤ 16384) (h1 : Sz k x n1 s1) (h2 : Sz k y n2 s2) (hq : IsZ (x - y) n' s') (w : World) :
    Calls Tryz.prog 57 #[whole n1 s1, whole n2 s2] w fun e w' => e = .returned (.tuple #[whole n' s', .int .i64 0]) ∧ w.grownBy w' none := by
  refine (sub_sz hk h1 h2 w).mono ?_
  rintro e w' ⟨n, s, rfl, hz, hg⟩
  obtain ⟨rfl, rfl⟩ := whole_inj (hz.1.one hq)
  exact ⟨rfl, hg⟩
theorem both_may {x y u v : Int} {n d n2 d2 : Bool} {s t s2 t2 : ByteArray} (h1 : IsQ x y n s d t) (h2 : IsQ u v n2 s2 d2 t2) : ∀ p ∈ [(n, s, d, t), (n2, s2, d2, t2)], mayQ4 p = true := by
  intro p hp
  simp at hp
  rcases hp with rfl | rfl
  · exact h1.may
  · exact h2.may
theorem eg_sub1 : ∀ args w, (callFunc 93 args).run Tryz.prog w = .ok (.enter 93 args) w := enters_of Tryz.func93 (by kernel_rfl) rfl
theorem eg_mul1 : ∀ args w, (callFunc 94 args).run Tryz.prog w = .ok (.enter 94 args) w := enters_of Tryz.func94 (by kernel_rfl) rfl
theorem mul_ne {y v : Int} (a : 0 < y) (b : 0 < v) : y * v ≠ 0 := Int.ne_of_gt (Int.mul_pos a b)
theorem fsub_any {x y u v : Int} {n d n2 d2 n' d' : Bool} {s t s2 t2 s' t' : ByteArray} (h1 : IsQ x y n s d t) (h2 : IsQ u v n2 s2 d2 t2) (L : Low (x * v - u * y) (y * v) n' s' d' t') (w : World) :
    Calls Tryz.prog 44 #[frac n s d t, frac n2 s2 d2 t2] w fun e w' => e = .returned (.tuple #[toldV n' s' d' t', .int .i64 (toldE s' t')]) ∧ w.grownBy w' none := by
  obtain ⟨p1, q1, z1⟩ := isz_ex (x * v)
  obtain ⟨p2, q2, z2⟩ := isz_ex (u * y)
  obtain ⟨p3, q3, z3⟩ := isz_ex (y * v)
  obtain ⟨pn, ps, zs⟩ := isz_ex (x * v - u * y)
  have k1 := z1.sz (mul_lt256 h1.zn.2 h2.zd.2)
  have k2 := z2.sz (mul_lt256 h2.zn.2 h1.zd.2)
  have k3 := z3.sz (mul_lt256 h1.zd.2 h2.zd.2)
  have ks := zs.sz (sum_lt k1.2 k2.2).2
  refine fsub_by n d n2 d2 _ _ s t s2 t2 _ _ _ w (fun W B h2' hB => ?_)
  refine reckoned_yes 93 _ eg_sub1 W _ _ (dq_two hB) (by simp) (both_may h1 h2) pn p3 ps q3 _ _ _ _ _ (fun w1 g => ?_) (fun w1 => lowest_any (k := 1024 + 1024 + 1) (by decide) ks (k3.up (by decide)) (mul_ne h1.pos h2.pos) L w1)
  refine sub1_any w1 _ _ n d n2 d2 s t s2 t2 (h2'.kept g) p1 p2 p3 pn q1 q2 q3 ps ?_ (fun w => sub_is (by decide) k1 k2 zs w)
  intro a1 b1 a2 b2 c1 c2 w h
  rcases h with ⟨rfl, rfl, rfl, rfl, rfl, rfl⟩ | ⟨rfl, rfl, rfl, rfl, rfl, rfl⟩ | ⟨rfl, rfl, rfl, rfl, rfl, rfl⟩
  · exact times_is (by decide) h1.zn h2.zd z1 w
  · exact times_is (by decide) h2.zn h1.zd z2 w
  · exact times_is (by decide) h1.zd h2.zd z3 w
theorem fmul_any {x y u v : Int} {n d n2 d2 n' d' : Bool} {s t s2 t2 s' t' : ByteArray} (h1 : IsQ x y n s d t) (h2 : IsQ u v n2 s2 d2 t2) (L : Low (x * u) (y * v) n' s' d' t') (w : World) :
    Calls Tryz.prog 45 #[frac n s d t, frac n2 s2 d2 t2] w fun e w' => e = .returned (.tuple #[toldV n' s' d' t', .int .i64 (toldE s' t')]) ∧ w.grownBy w' none := by
  obtain ⟨p1, q1, z1⟩ := isz_ex (x * u)
  obtain ⟨p3, q3, z3⟩ := isz_ex (y * v)
  have k1 := z1.sz (mul_lt256 h1.zn.2 h2.zn.2)
  have k3 := z3.sz (mul_lt256 h1.zd.2 h2.zd.2)
  refine fmul_by n d n2 d2 _ _ s t s2 t2 _ _ _ w (fun W B h2' hB => ?_)
  refine reckoned_yes 94 _ eg_mul1 W _ _ (dq_two hB) (by simp) (both_may h1 h2) p1 p3 q1 q3 _ _ _ _ _ (fun w1 g => ?_) (fun w1 => lowest_any (k := 1024 + 1024) (by decide) k1 k3 (mul_ne h1.pos h2.pos) L w1)
  refine mul1_any w1 _ _ n d n2 d2 s t s2 t2 (h2'.kept g) p1 p3 q1 q3 ?_
  intro a1 b1 a2 b2 c1 c2 w h
  rcases h with ⟨rfl, rfl, rfl, rfl, rfl, rfl⟩ | ⟨rfl, rfl, rfl, rfl, rfl, rfl⟩
  · exact times_is (by decide) h1.zn h2.zn z1 w
  · exact times_is (by decide) h1.zd h2.zd z3 w
end Go.Proofs.YtdfliaogmlpefaaGreatDoor
