/-
  frac's formulas of Sub, Mul, Div.
  frac's Add, Sub, Mul, Div, by what reckoned answers.
  frac's reckoned, of what may not be, and where the formula errs.
  frac's Sub, Mul, Div, Cmp of any two; the document's.
-/
import Derived.Test.YtgemkfiippooeaaGreatDoorBunFre
import Derived.Deep.RegionWith
import Derived.Deep.CutRange
namespace Go.Proofs.YtgemkfiippooeaaGreatDoor
open Go.RowKit Go.Lib Go.Sort
set_option linter.unusedVariables false

set_option maxHeartbeats 3200000 in
set_option maxRecDepth 1000000 in
theorem sub1_any (W : World) (Bx By : Nat) (n d n2 d2 : Bool) (s t s2 t2 : ByteArray) (h2 : Two W Bx By n d n2 d2 s t s2 t2) (p1 p2 p3 pn : Bool) (q1 q2 q3 ps : ByteArray)
    (HT : Hid (∀ a1 b1 a2 b2 c1 c2 (w : World), (a1 = n ∧ b1 = s ∧ a2 = d2 ∧ b2 = t2 ∧ c1 = p1 ∧ c2 = q1) ∨ (a1 = n2 ∧ b1 = s2 ∧ a2 = d ∧ b2 = t ∧ c1 = p2 ∧ c2 = q2) ∨ (a1 = d ∧ b1 = t ∧ a2 = d2 ∧ b2 = t2 ∧ c1 = p3 ∧ c2 = q3) → Calls Tryz.prog 51 #[whole a1 b1, whole a2 b2] w fun e w' => e = .returned (whole c1 c2) ∧ w.grownBy w' none))
    (HA : Hid (∀ w, Calls Tryz.prog 53 #[whole p1 q1, whole p2 q2] w fun e w' => e = .returned (.tuple #[whole pn ps, .int .i64 0]) ∧ w.grownBy w' none)) :
    Calls Tryz.prog 52 #[.pointer (some ⟨Bx, 0, none⟩), .pointer (some ⟨By, 0, none⟩)] W fun e w' => e = .returned (.tuple #[whole pn ps, whole p3 q3, .int .i64 0]) ∧ W.grownBy w' none := by
  have HK : Hid (∀ w', W.grownBy w' none → w'.cell? ⟨Bx, 0, none⟩ = some (.bool n) ∧ w'.cell? ⟨Bx, 1, none⟩ = some (.string s) ∧ w'.cell? ⟨Bx, 2, none⟩ = some (.bool d) ∧ w'.cell? ⟨Bx, 3, none⟩ = some (.string t) ∧
    w'.cell? ⟨By, 0, none⟩ = some (.bool n2) ∧ w'.cell? ⟨By, 1, none⟩ = some (.string s2) ∧ w'.cell? ⟨By, 2, none⟩ = some (.bool d2) ∧ w'.cell? ⟨By, 3, none⟩ = some (.string t2)) := fun w' g => (h2.kept g).cells
  clear h2
  go_enter Tryz.func52, Tryz.ntmps52
  go_wp2_with fail
  go_region_held3 (fun w' => w'.cell? ⟨Bx, 0, none⟩ = some (.bool n) ∧ w'.cell? ⟨Bx, 1, none⟩ = some (.string s) ∧ w'.cell? ⟨Bx, 2, none⟩ = some (.bool d) ∧ w'.cell? ⟨Bx, 3, none⟩ = some (.string t) ∧
    w'.cell? ⟨By, 0, none⟩ = some (.bool n2) ∧ w'.cell? ⟨By, 1, none⟩ = some (.string s2) ∧ w'.cell? ⟨By, 2, none⟩ = some (.bool d2) ∧ w'.cell? ⟨By, 3, none⟩ = some (.string t2))
    (first | (go_keep; done) | exact HK.out _ (grown_set (grown_set (grownBy_trans (grow2 _ _ _) GC) (by omega)) (by omega)) | exact HK.out _ (grownBy_trans (grow2 _ _ _) (by assumption)) | exact HK.out _ (grow_drew (grow2 _ _ _)) | fail)
    (first
      | (go_at_call 51; refine (HT.out _ _ _ _ _ _ _ (by first | exact .inl ⟨rfl, rfl, rfl, rfl, rfl, rfl⟩ | exact .inr (.inl ⟨rfl, rfl, rfl, rfl, rfl, rfl⟩))).mono ?_; rintro e wA ⟨rfl, gA⟩; have GA : ((W.alloc (wObj false eS)).alloc (wObj false eS)).grownBy wA none := (by first | exact grownBy_trans (by assumption) gA | exact grownBy_undrew gA))
      | (go_at_call 53; refine (HA.out _).mono ?_; rintro e wC ⟨rfl, gC⟩; have GC : ((W.alloc (wObj false eS)).alloc (wObj false eS)).grownBy wC none := grownBy_trans (by assumption) gC; have hW : WBlk wC W.heap.size (.bool false) (.string eS) := WBlk.kept (at_alloc1 _ _ _) GC (by simp); have hc0 := hW.c0; have hc1 := hW.c1; have hf0 := hW.fr 0; have hf1 := hW.fr 1)
      | fail)
  have H1 : Hid (WBlk ((wC.setCell ⟨W.heap.size, 0, none⟩ (.bool pn)).setCell ⟨W.heap.size, 1, none⟩ (.string ps)) W.heap.size (.bool pn) (.string ps)) := hW.put _ _
  have H2 : Hid (WBlk ((wC.setCell ⟨W.heap.size, 0, none⟩ (.bool pn)).setCell ⟨W.heap.size, 1, none⟩ (.string ps)) (W.heap.size + 1) (.bool false) (.string eS)) := (WBlk.other (WBlk.kept (heap_alloc2_new _ _ _) GC (by simp)) (by omega)).other (by omega)
  have HG : Hid (W.grownBy ((wC.setCell ⟨W.heap.size, 0, none⟩ (.bool pn)).setCell ⟨W.heap.size, 1, none⟩ (.string ps)) none) := grown_set (grown_set (grownBy_trans (grow2 _ _ _) GC) (by omega)) (by omega)
  clear hW hc0 hc1 hf0 hf1 gC GC
  generalize (wC.setCell ⟨W.heap.size, 0, none⟩ (.bool pn)).setCell ⟨W.heap.size, 1, none⟩ (.string ps) = V at *
  have HS : Hid (∀ w', W.grownBy w' none → WBlk w' W.heap.size (.bool pn) (.string ps) → w'.cell? ⟨Bx, 0, none⟩ = some (.bool n) ∧ w'.cell? ⟨Bx, 1, none⟩ = some (.string s) ∧ w'.cell? ⟨Bx, 2, none⟩ = some (.bool d) ∧ w'.cell? ⟨Bx, 3, none⟩ = some (.string t) ∧ w'.cell? ⟨By, 0, none⟩ = some (.bool n2) ∧ w'.cell? ⟨By, 1, none⟩ = some (.string s2) ∧ w'.cell? ⟨By, 2, none⟩ = some (.bool d2) ∧ w'.cell? ⟨By, 3, none⟩ = some (.string t2) ∧ w'.cell? ⟨W.heap.size, 0, none⟩ = some (.bool pn) ∧ w'.cell? ⟨W.heap.size, 1, none⟩ = some (.string ps)) := fun w' g h => by
    obtain ⟨k0, k1, k2, k3, k4, k5, k6, k7⟩ := HK.out _ g
    exact ⟨k0, k1, k2, k3, k4, k5, k6, k7, h.c0, h.c1⟩
  go_wp2_with fail
  go_region_held3 (fun w' => w'.cell? ⟨Bx, 0, none⟩ = some (.bool n) ∧ w'.cell? ⟨Bx, 1, none⟩ = some (.string s) ∧ w'.cell? ⟨Bx, 2, none⟩ = some (.bool d) ∧ w'.cell? ⟨Bx, 3, none⟩ = some (.string t) ∧ w'.cell? ⟨By, 0, none⟩ = some (.bool n2) ∧ w'.cell? ⟨By, 1, none⟩ = some (.string s2) ∧ w'.cell? ⟨By, 2, none⟩ = some (.bool d2) ∧ w'.cell? ⟨By, 3, none⟩ = some (.string t2) ∧ w'.cell? ⟨W.heap.size, 0, none⟩ = some (.bool pn) ∧ w'.cell? ⟨W.heap.size, 1, none⟩ = some (.string ps))
    (first | (go_keep; done) | exact HS.out _ GW h1D | exact HS.out _ (grow_drew HG.out) H1.out | exact HS.out _ (grown_set (grown_set GW (by omega)) (by omega)) (h1D.put _ _) | exact HS.out _ (grown_set (grown_set (grown_set (grown_set GW (by omega)) (by omega)) (by omega)) (by omega)) (WBlk.other (WBlk.other (h1D.put _ _) (by omega)) (by omega)) | fail)
    (first
      | (go_at_call 51; refine (HT.out _ _ _ _ _ _ _ (by first | exact .inr (.inr ⟨rfl, rfl, rfl, rfl, rfl, rfl⟩))).mono ?_; rintro e wD ⟨rfl, gD⟩; have GD : V.grownBy wD none := (by first | exact gD | exact grownBy_undrew gD); have GW : W.grownBy wD none := grownBy_trans HG.out GD; have h1D := H1.out.kept GD (by simp); have h2D := H2.out.kept GD (by simp); have e0 := h1D.c0; have e1 := h1D.c1; have e2 := h1D.fr 0; have e3 := h1D.fr 1; have e4 := h2D.c0; have e5 := h2D.c1; have e6 := h2D.fr 0; have e7 := h2D.fr 1)
      | fail)
  go_wp2_with fail
  refine bodyPost_ret (res_cell2_tmp rfl _ _ W.heap.size (W.heap.size + 1) _ _ _ _ _ _ _ _ rfl (WBlk.other (WBlk.other (h1D.put _ _) (by omega)) (by omega)) rfl (WBlk.put (WBlk.other (WBlk.other h2D (by omega)) (by omega)) _ _)) rfl ?_
  exact ⟨rfl, grown_set (grown_set (grown_set (grown_set GW (by omega)) (by omega)) (by omega)) (by omega)⟩

set_option maxHeartbeats 3200000 in
set_option maxRecDepth 1000000 in
theorem mul1_any (W : World) (Bx By : Nat) (n d n2 d2 : Bool) (s t s2 t2 : ByteArray) (h2 : Two W Bx By n d n2 d2 s t s2 t2) (p1 p3 : Bool) (q1 q3 : ByteArray)
    (HT : Hid (∀ a1 b1 a2 b2 c1 c2 (w : World), (a1 = n ∧ b1 = s ∧ a2 = n2 ∧ b2 = s2 ∧ c1 = p1 ∧ c2 = q1) ∨ (a1 = d ∧ b1 = t ∧ a2 = d2 ∧ b2 = t2 ∧ c1 = p3 ∧ c2 = q3) → Calls Tryz.prog 51 #[whole a1 b1, whole a2 b2] w fun e w' => e = .returned (whole c1 c2) ∧ w.grownBy w' none)) :
    Calls Tryz.prog 54 #[.pointer (some ⟨Bx, 0, none⟩), .pointer (some ⟨By, 0, none⟩)] W fun e w' => e = .returned (.tuple #[whole p1 q1, whole p3 q3, .int .i64 0]) ∧ W.grownBy w' none := by
  have HK : Hid (∀ w', W.grownBy w' none → w'.cell? ⟨Bx, 0, none⟩ = some (.bool n) ∧ w'.cell? ⟨Bx, 1, none⟩ = some (.string s) ∧ w'.cell? ⟨Bx, 2, none⟩ = some (.bool d) ∧ w'.cell? ⟨Bx, 3, none⟩ = some (.string t) ∧ w'.cell? ⟨By, 0, none⟩ = some (.bool n2) ∧ w'.cell? ⟨By, 1, none⟩ = some (.string s2) ∧ w'.cell? ⟨By, 2, none⟩ = some (.bool d2) ∧ w'.cell? ⟨By, 3, none⟩ = some (.string t2)) := fun w' g => (h2.kept g).cells
  clear h2
  go_enter Tryz.func54, Tryz.ntmps54
  go_wp2_with fail
  have H1 : Hid (WBlk ((W.alloc (wObj false eS)).alloc (wObj false eS)) W.heap.size (.bool false) (.string eS)) := at_alloc1 _ _ _
  have H2 : Hid (WBlk ((W.alloc (wObj false eS)).alloc (wObj false eS)) (W.heap.size + 1) (.bool false) (.string eS)) := heap_alloc2_new _ _ _
  have HG : Hid (W.grownBy ((W.alloc (wObj false eS)).alloc (wObj false eS)) none) := grow2 _ _ _
  generalize (W.alloc (wObj false eS)).alloc (wObj false eS) = V at *
  go_region_held3 (fun w' => w'.cell? ⟨Bx, 0, none⟩ = some (.bool n) ∧ w'.cell? ⟨Bx, 1, none⟩ = some (.string s) ∧ w'.cell? ⟨Bx, 2, none⟩ = some (.bool d) ∧ w'.cell? ⟨Bx, 3, none⟩ = some (.string t) ∧ w'.cell? ⟨By, 0, none⟩ = some (.bool n2) ∧ w'.cell? ⟨By, 1, none⟩ = some (.string s2) ∧ w'.cell? ⟨By, 2, none⟩ = some (.bool d2) ∧ w'.cell? ⟨By, 3, none⟩ = some (.string t2))
    (first | (go_keep; done) | exact HK.out _ (grown_set (grown_set (grown_set (grown_set GW (by omega)) (by omega)) (by omega)) (by omega)) | exact HK.out _ (grown_set (grown_set GW (by omega)) (by omega)) | exact HK.out _ GW | exact HK.out _ (grownBy_trans HG.out GA) | exact HK.out _ (grow_drew HG.out) | fail)
    (first
      | (go_at_call 51; first | (refine (HT.out _ _ _ _ _ _ _ (by exact .inl ⟨rfl, rfl, rfl, rfl, rfl, rfl⟩)).mono ?_; rintro e wA ⟨rfl, gA⟩; have GA : V.grownBy wA none := (by first | exact gA | exact grownBy_undrew gA)) | (refine (HT.out _ _ _ _ _ _ _ (by exact .inr ⟨rfl, rfl, rfl, rfl, rfl, rfl⟩)).mono ?_; rintro e wD ⟨rfl, gD⟩; have GD : V.grownBy wD none := grownBy_trans GA gD; have GW : W.grownBy wD none := grownBy_trans HG.out GD; have h1D := H1.out.kept GD (by simp); have h2D := H2.out.kept GD (by simp); have e0 := h1D.c0; have e1 := h1D.c1; have e2 := h1D.fr 0; have e3 := h1D.fr 1; have e4 := h2D.c0; have e5 := h2D.c1; have e6 := h2D.fr 0; have e7 := h2D.fr 1))
      | fail)
  go_wp2_with fail
  refine bodyPost_ret (res_cell2_tmp rfl _ _ W.heap.size (W.heap.size + 1) _ _ _ _ _ _ _ _ rfl (WBlk.other (WBlk.other (h1D.put _ _) (by omega)) (by omega)) rfl (WBlk.put (WBlk.other (WBlk.other h2D (by omega)) (by omega)) _ _)) rfl ?_
  exact ⟨rfl, grown_set (grown_set (grown_set (grown_set GW (by omega)) (by omega)) (by omega)) (by omega)⟩

set_option maxHeartbeats 3200000 in
set_option maxRecDepth 1000000 in
theorem div1_zero (W : World) (Bx By : Nat) (n d d2 : Bool) (s t t2 : ByteArray) (h2 : Two W Bx By n d false d2 s t eS t2) :
    Calls Tryz.prog 55 #[.pointer (some ⟨By, 0, none⟩), .pointer (some ⟨Bx, 0, none⟩)] W fun e w' => e = .returned (.tuple #[whole false eS, whole false eS, .int .i64 5]) ∧ W.grownBy w' none := by
  have HK : Hid (∀ w', W.grownBy w' none → w'.cell? ⟨By, 0, none⟩ = some (.bool false) ∧ w'.cell? ⟨By, 1, none⟩ = some (.string eS)) := fun w' g => ⟨(h2.kept g).2.c0, (h2.kept g).2.c1⟩
  clear h2
  go_enter Tryz.func55, Tryz.ntmps55
  go_wp2_with fail
  have H1 : Hid (WBlk ((W.alloc (wObj false eS)).alloc (wObj false eS)) W.heap.size (.bool false) (.string eS)) := at_alloc1 _ _ _
  have H2 : Hid (WBlk ((W.alloc (wObj false eS)).alloc (wObj false eS)) (W.heap.size + 1) (.bool false) (.string eS)) := heap_alloc2_new _ _ _
  have HG : Hid (W.grownBy ((W.alloc (wObj false eS)).alloc (wObj false eS)) none) := grow2 _ _ _
  generalize (W.alloc (wObj false eS)).alloc (wObj false eS) = V at *
  go_region_held3 (fun w' => w'.cell? ⟨By, 0, none⟩ = some (.bool false) ∧ w'.cell? ⟨By, 1, none⟩ = some (.string eS))
    (first | (go_keep; done) | exact HK.out _ (grownBy_trans HG.out GA) | exact HK.out _ (grow_drew HG.out) | fail)
    (first
      | (go_at_call 56; refine (fzero_gr _).mono ?_; rintro e wA ⟨rfl, gA⟩; have GA : V.grownBy wA none := (by first | exact gA | exact grownBy_undrew gA))
      | fail)
  go_wp2_with fail
  refine (fzero_gr _).mono ?_
  rintro e wB ⟨rfl, gB⟩
  go_wp2_with fail
  refine (fzero_gr _).mono ?_
  rintro e wC ⟨rfl, gC⟩
  have GC : V.grownBy wC none := grownBy_trans GA (grownBy_trans gB gC)
  have h1D := H1.out.kept GC (by simp)
  have h2D := H2.out.kept GC (by simp)
  have GW : W.grownBy wC none := grownBy_trans HG.out GC
  have e0 := h1D.c0
  have e1 := h1D.c1
  have e2 := h1D.fr 0
  have e3 := h1D.fr 1
  have e4 := h2D.c0
  have e5 := h2D.c1
  have e6 := h2D.fr 0
  have e7 := h2D.fr 1
  clear GC gB gC GA
  go_wp2_with fail
  refine bodyPost_ret (res_cell2_tmp rfl _ _ W.heap.size (W.heap.size + 1) _ _ _ _ _ _ _ _ rfl (WBlk.other (WBlk.other (h1D.put _ _) (by omega)) (by omega)) rfl (WBlk.put (WBlk.other (WBlk.other h2D (by omega)) (by omega)) _ _)) rfl ?_
  exact ⟨rfl, grown_set (grown_set (grown_set (grown_set GW (by omega)) (by omega)) (by omega)) (by omega)⟩

set_option maxHeartbeats 3200000 in
set_option maxRecDepth 1000000 in
theorem div1_any (W : World) (Bx By : Nat) (n d n2 d2 : Bool) (s t s2 t2 : ByteArray) (h2 : Two W Bx By n d n2 d2 s t s2 t2) (hne : (s2.toList == []) = false) (p1 p3 : Bool) (q1 q3 : ByteArray)
    (HT : Hid (∀ a1 b1 a2 b2 c1 c2 (w : World), (a1 = n ∧ b1 = s ∧ a2 = d2 ∧ b2 = t2 ∧ c1 = p1 ∧ c2 = q1) ∨ (a1 = d ∧ b1 = t ∧ a2 = n2 ∧ b2 = s2 ∧ c1 = p3 ∧ c2 = q3) → Calls Tryz.prog 51 #[whole a1 b1, whole a2 b2] w fun e w' => e = .returned (whole c1 c2) ∧ w.grownBy w' none)) :
    Calls Tryz.prog 55 #[.pointer (some ⟨By, 0, none⟩), .pointer (some ⟨Bx, 0, none⟩)] W fun e w' => e = .returned (.tuple #[whole p1 q1, whole p3 q3, .int .i64 0]) ∧ W.grownBy w' none := by
  have HK : Hid (∀ w', W.grownBy w' none → w'.cell? ⟨Bx, 0, none⟩ = some (.bool n) ∧ w'.cell? ⟨Bx, 1, none⟩ = some (.string s) ∧ w'.cell? ⟨Bx, 2, none⟩ = some (.bool d) ∧ w'.cell? ⟨Bx, 3, none⟩ = some (.string t) ∧ w'.cell? ⟨By, 0, none⟩ = some (.bool n2) ∧ w'.cell? ⟨By, 1, none⟩ = some (.string s2) ∧ w'.cell? ⟨By, 2, none⟩ = some (.bool d2) ∧ w'.cell? ⟨By, 3, none⟩ = some (.string t2)) := fun w' g => (h2.kept g).cells
  clear h2
  go_enter Tryz.func55, Tryz.ntmps55
  go_wp2_with fail
  have H1 : Hid (WBlk ((W.alloc (wObj false eS)).alloc (wObj false eS)) W.heap.size (.bool false) (.string eS)) := at_alloc1 _ _ _
  have H2 : Hid (WBlk ((W.alloc (wObj false eS)).alloc (wObj false eS)) (W.heap.size + 1) (.bool false) (.string eS)) := heap_alloc2_new _ _ _
  have HG : Hid (W.grownBy ((W.alloc (wObj false eS)).alloc (wObj false eS)) none) := grow2 _ _ _
  generalize (W.alloc (wObj false eS)).alloc (wObj false eS) = V0 at *
  go_region_held3 (fun w' => w'.cell? ⟨Bx, 0, none⟩ = some (.bool n) ∧ w'.cell? ⟨Bx, 1, none⟩ = some (.string s) ∧ w'.cell? ⟨Bx, 2, none⟩ = some (.bool d) ∧ w'.cell? ⟨Bx, 3, none⟩ = some (.string t) ∧ w'.cell? ⟨By, 0, none⟩ = some (.bool n2) ∧ w'.cell? ⟨By, 1, none⟩ = some (.string s2) ∧ w'.cell? ⟨By, 2, none⟩ = some (.bool d2) ∧ w'.cell? ⟨By, 3, none⟩ = some (.string t2))
    (first | (go_keep; done) | exact HK.out _ (grownBy_trans HG.out GA) | exact HK.out _ (grow_drew HG.out) | fail)
    (first
      | (go_at_call 56; refine (fzero_gr _).mono ?_; rintro e V ⟨rfl, gA⟩; have GA : V0.grownBy V none := (by first | exact gA | exact grownBy_undrew gA))
      | fail)
  replace H1 : Hid (WBlk V W.heap.size (.bool false) (.string eS)) := H1.out.kept GA (by simp)
  replace H2 : Hid (WBlk V (W.heap.size + 1) (.bool false) (.string eS)) := H2.out.kept GA (by simp)
  replace HG : Hid (W.grownBy V none) := grownBy_trans HG.out GA
  clear GA
  go_wp2_with fail
  go_region_held3 (fun w' => w'.cell? ⟨Bx, 0, none⟩ = some (.bool n) ∧ w'.cell? ⟨Bx, 1, none⟩ = some (.string s) ∧ w'.cell? ⟨Bx, 2, none⟩ = some (.bool d) ∧ w'.cell? ⟨Bx, 3, none⟩ = some (.string t) ∧ w'.cell? ⟨By, 0, none⟩ = some (.bool n2) ∧ w'.cell? ⟨By, 1, none⟩ = some (.string s2) ∧ w'.cell? ⟨By, 2, none⟩ = some (.bool d2) ∧ w'.cell? ⟨By, 3, none⟩ = some (.string t2))
    (first | (go_keep; done) | exact HK.out _ (grown_set (grown_set (grown_set (grown_set GW (by omega)) (by omega)) (by omega)) (by omega)) | exact HK.out _ (grown_set (grown_set GW (by omega)) (by omega)) | exact HK.out _ GW | exact HK.out _ (grownBy_trans HG.out GA) | exact HK.out _ (grow_drew HG.out) | fail)
    (first
      | (go_at_call 51; first | (refine (HT.out _ _ _ _ _ _ _ (by exact .inl ⟨rfl, rfl, rfl, rfl, rfl, rfl⟩)).mono ?_; rintro e wA ⟨rfl, gA⟩; have GA : V.grownBy wA none := (by first | exact gA | exact grownBy_undrew gA)) | (refine (HT.out _ _ _ _ _ _ _ (by exact .inr ⟨rfl, rfl, rfl, rfl, rfl, rfl⟩)).mono ?_; rintro e wD ⟨rfl, gD⟩; have GD : V.grownBy wD none := grownBy_trans GA gD; have GW : W.grownBy wD none := grownBy_trans HG.out GD; have h1D := H1.out.kept GD (by simp); have h2D := H2.out.kept GD (by simp); have e0 := h1D.c0; have e1 := h1D.c1; have e2 := h1D.fr 0; have e3 := h1D.fr 1; have e4 := h2D.c0; have e5 := h2D.c1; have e6 := h2D.fr 0; have e7 := h2D.fr 1))
      | fail)
  go_wp2_with fail
  refine bodyPost_ret (res_cell2_tmp rfl _ _ W.heap.size (W.heap.size + 1) _ _ _ _ _ _ _ _ rfl (WBlk.other (WBlk.other (h1D.put _ _) (by omega)) (by omega)) rfl (WBlk.put (WBlk.other (WBlk.other h2D (by omega)) (by omega)) _ _)) rfl ?_
  exact ⟨rfl, grown_set (grown_set (grown_set (grown_set GW (by omega)) (by omega)) (by omega)) (by omega)⟩
end Go.Proofs.YtgemkfiippooeaaGreatDoor

namespace Go.Proofs.YtgemkfiippooeaaGreatDoor
open Go.RowKit Go.Lib Go.Sort
set_option linter.unusedVariables false


set_option maxHeartbeats 3200000 in
set_option maxRecDepth 1000000 in
theorem fsub_by (n d n2 d2 rn1 rd1 : Bool) (s t s2 t2 rs1 rt1 : ByteArray) (re1 : Int) (w : World)
    (HR : Hid (∀ (W : World) (B : Nat), Two W w.heap.size (w.heap.size + 1) n d n2 d2 s t s2 t2 → W.heap[B]? = some (.cells #[.bool n, .string s, .bool d, .string t, .bool n2, .string s2, .bool d2, .string t2] 25 (0, 0)) →
      Calls Tryz.prog 48 #[.func (.func 52) #[] #[.pointer (some ⟨w.heap.size, 0, none⟩), .pointer (some ⟨w.heap.size + 1, 0, none⟩)], .slice (some ⟨B, 0, none⟩) 2 2] W fun e w' => e = .returned (.tuple #[frac rn1 rs1 rd1 rt1, .int .i64 re1]) ∧ W.grownBy w' none)) :
    Calls Tryz.prog 11 #[frac n s d t, frac n2 s2 d2 t2] w fun e w' => e = .returned (.tuple #[frac rn1 rs1 rd1 rt1, .int .i64 re1]) ∧ w.grownBy w' none := by
  have hmf : ∀ (fn : Fn) (first cap : Array Value) (w : World), (Instr.makeFunc fn first cap).run Tryz.prog w = .ok (.func fn first cap) w := fun _ _ _ _ => rfl
  go_enter Tryz.func11, Tryz.ntmps11
  go_wp2_with fail
  refine (HR.out _ _ ⟨?x1, ?x2⟩ ?x3).mono ?_
  case x1 => exact old_alloc _ _ (old_alloc _ _ (at_alloc1 _ _ _))
  case x2 => exact old_alloc _ _ (at_alloc2 _ _ _ _)
  case x3 => first | exact at_alloc4 _ _ _ _ _ | (have := at_alloc4 w (qObj n s d t) (qObj n2 s2 d2 t2) (qObj false eS false eS) (.cells #[.bool n, .string s, .bool d, .string t, .bool n2, .string s2, .bool d2, .string t2] 25); simpa using this)
  rintro e w1 ⟨rfl, g1⟩
  have G1 : (((w.alloc (qObj n s d t)).alloc (qObj n2 s2 d2 t2)).alloc (qObj false eS false eS)).grownBy w1 none := grownBy_trans (grow1 _ _) g1
  have hR : QBlk w1 (w.heap.size + 1 + 1) (.bool false) (.string eS) (.bool false) (.string eS) := QBlk.kept (w := ((w.alloc (qObj n s d t)).alloc (qObj n2 s2 d2 t2)).alloc (qObj false eS false eS)) (at_alloc3 _ _ _ _) G1 (by simp)
  have HG1 : Hid (w.grownBy w1 none) := grownBy_trans (grow3 _ _ _ _) G1
  clear g1 G1
  have r0 := hR.c0
  have r1 := hR.c1
  have r2 := hR.c2
  have r3 := hR.c3
  have f0 := hR.fr 0
  have f1 := hR.fr 1
  have f2 := hR.fr 2
  have f3 := hR.fr 3
  go_wp2_with fail
  refine bodyPost_ret (res_cellQ_tmp rfl _ _ (w.heap.size + 1 + 1) _ _ _ _ _ _ rfl (hR.put _ _ _ _)) rfl ?_
  exact ⟨rfl, grown_put4 HG1.out (by omega)⟩

set_option maxHeartbeats 3200000 in
set_option maxRecDepth 1000000 in
theorem fmul_by (n d n2 d2 rn1 rd1 : Bool) (s t s2 t2 rs1 rt1 : ByteArray) (re1 : Int) (w : World)
    (HR : Hid (∀ (W : World) (B : Nat), Two W w.heap.size (w.heap.size + 1) n d n2 d2 s t s2 t2 → W.heap[B]? = some (.cells #[.bool n, .string s, .bool d, .string t, .bool n2, .string s2, .bool d2, .string t2] 25 (0, 0)) →
      Calls Tryz.prog 48 #[.func (.func 54) #[] #[.pointer (some ⟨w.heap.size, 0, none⟩), .pointer (some ⟨w.heap.size + 1, 0, none⟩)], .slice (some ⟨B, 0, none⟩) 2 2] W fun e w' => e = .returned (.tuple #[frac rn1 rs1 rd1 rt1, .int .i64 re1]) ∧ W.grownBy w' none)) :
    Calls Tryz.prog 12 #[frac n s d t, frac n2 s2 d2 t2] w fun e w' => e = .returned (.tuple #[frac rn1 rs1 rd1 rt1, .int .i64 re1]) ∧ w.grownBy w' none := by
  have hmf : ∀ (fn : Fn) (first cap : Array Value) (w : World), (Instr.makeFunc fn first cap).run Tryz.prog w = .ok (.func fn first cap) w := fun _ _ _ _ => rfl
  go_enter Tryz.func12, Tryz.ntmps12
  go_wp2_with fail
  refine (HR.out _ _ ⟨?x1, ?x2⟩ ?x3).mono ?_
  case x1 => exact old_alloc _ _ (old_alloc _ _ (at_alloc1 _ _ _))
  case x2 => exact old_alloc _ _ (at_alloc2 _ _ _ _)
  case x3 => first | exact at_alloc4 _ _ _ _ _ | (have := at_alloc4 w (qObj n s d t) (qObj n2 s2 d2 t2) (qObj false eS false eS) (.cells #[.bool n, .string s, .bool d, .string t, .bool n2, .string s2, .bool d2, .string t2] 25); simpa using this)
  rintro e w1 ⟨rfl, g1⟩
  have G1 : (((w.alloc (qObj n s d t)).alloc (qObj n2 s2 d2 t2)).alloc (qObj false eS false eS)).grownBy w1 none := grownBy_trans (grow1 _ _) g1
  have hR : QBlk w1 (w.heap.size + 1 + 1) (.bool false) (.string eS) (.bool false) (.string eS) := QBlk.kept (w := ((w.alloc (qObj n s d t)).alloc (qObj n2 s2 d2 t2)).alloc (qObj false eS false eS)) (at_alloc3 _ _ _ _) G1 (by simp)
  have HG1 : Hid (w.grownBy w1 none) := grownBy_trans (grow3 _ _ _ _) G1
  clear g1 G1
  have r0 := hR.c0
  have r1 := hR.c1
  have r2 := hR.c2
  have r3 := hR.c3
  have f0 := hR.fr 0
  have f1 := hR.fr 1
  have f2 := hR.fr 2
  have f3 := hR.fr 3
  go_wp2_with fail
  refine bodyPost_ret (res_cellQ_tmp rfl _ _ (w.heap.size + 1 + 1) _ _ _ _ _ _ rfl (hR.put _ _ _ _)) rfl ?_
  exact ⟨rfl, grown_put4 HG1.out (by omega)⟩

set_option maxHeartbeats 3200000 in
set_option maxRecDepth 1000000 in
theorem fdiv_by (n d n2 d2 rn1 rd1 : Bool) (s t s2 t2 rs1 rt1 : ByteArray) (re1 : Int) (w : World)
    (HR : Hid (∀ (W : World) (B : Nat), Two W w.heap.size (w.heap.size + 1) n d n2 d2 s t s2 t2 → W.heap[B]? = some (.cells #[.bool n, .string s, .bool d, .string t, .bool n2, .string s2, .bool d2, .string t2] 25 (0, 0)) →
      Calls Tryz.prog 48 #[.func (.func 55) #[] #[.pointer (some ⟨w.heap.size + 1, 0, none⟩), .pointer (some ⟨w.heap.size, 0, none⟩)], .slice (some ⟨B, 0, none⟩) 2 2] W fun e w' => e = .returned (.tuple #[frac rn1 rs1 rd1 rt1, .int .i64 re1]) ∧ W.grownBy w' none)) :
    Calls Tryz.prog 13 #[frac n s d t, frac n2 s2 d2 t2] w fun e w' => e = .returned (.tuple #[frac rn1 rs1 rd1 rt1, .int .i64 re1]) ∧ w.grownBy w' none := by
  have hmf : ∀ (fn : Fn) (first cap : Array Value) (w : World), (Instr.makeFunc fn first cap).run Tryz.prog w = .ok (.func fn first cap) w := fun _ _ _ _ => rfl
  go_enter Tryz.func13, Tryz.ntmps13
  go_wp2_with fail
  refine (HR.out _ _ ⟨?x1, ?x2⟩ ?x3).mono ?_
  case x1 => exact old_alloc _ _ (old_alloc _ _ (at_alloc1 _ _ _))
  case x2 => exact old_alloc _ _ (at_alloc2 _ _ _ _)
  case x3 => first | exact at_alloc4 _ _ _ _ _ | (have := at_alloc4 w (qObj n s d t) (qObj n2 s2 d2 t2) (qObj false eS false eS) (.cells #[.bool n, .string s, .bool d, .string t, .bool n2, .string s2, .bool d2, .string t2] 25); simpa using this)
  rintro e w1 ⟨rfl, g1⟩
  have G1 : (((w.alloc (qObj n s d t)).alloc (qObj n2 s2 d2 t2)).alloc (qObj false eS false eS)).grownBy w1 none := grownBy_trans (grow1 _ _) g1
  have hR : QBlk w1 (w.heap.size + 1 + 1) (.bool false) (.string eS) (.bool false) (.string eS) := QBlk.kept (w := ((w.alloc (qObj n s d t)).alloc (qObj n2 s2 d2 t2)).alloc (qObj false eS false eS)) (at_alloc3 _ _ _ _) G1 (by simp)
  have HG1 : Hid (w.grownBy w1 none) := grownBy_trans (grow3 _ _ _ _) G1
  clear g1 G1
  have r0 := hR.c0
  have r1 := hR.c1
  have r2 := hR.c2
  have r3 := hR.c3
  have f0 := hR.fr 0
  have f1 := hR.fr 1
  have f2 := hR.fr 2
  have f3 := hR.fr 3
  go_wp2_with fail
  refine bodyPost_ret (res_cellQ_tmp rfl _ _ (w.heap.size + 1 + 1) _ _ _ _ _ _ rfl (hR.put _ _ _ _)) rfl ?_
  exact ⟨rfl, grown_put4 HG1.out (by omega)⟩

set_option maxHeartbeats 3200000 in
set_option maxRecDepth 1000000 in
theorem fadd_by (n d n2 d2 rn1 rd1 : Bool) (s t s2 t2 rs1 rt1 : ByteArray) (re1 : Int) (w : World)
    (HR : Hid (∀ (W : World) (B : Nat), Two W w.heap.size (w.heap.size + 1) n d n2 d2 s t s2 t2 → W.heap[B]? = some (.cells #[.bool n, .string s, .bool d, .string t, .bool n2, .string s2, .bool d2, .string t2] 25 (0, 0)) →
      Calls Tryz.prog 48 #[.func (.func 49) #[] #[.pointer (some ⟨w.heap.size, 0, none⟩), .pointer (some ⟨w.heap.size + 1, 0, none⟩)], .slice (some ⟨B, 0, none⟩) 2 2] W fun e w' => e = .returned (.tuple #[frac rn1 rs1 rd1 rt1, .int .i64 re1]) ∧ W.grownBy w' none)) :
    Calls Tryz.prog 10 #[frac n s d t, frac n2 s2 d2 t2] w fun e w' => e = .returned (.tuple #[frac rn1 rs1 rd1 rt1, .int .i64 re1]) ∧ w.grownBy w' none := by
  have hmf : ∀ (fn : Fn) (first cap : Array Value) (w : World), (Instr.makeFunc fn first cap).run Tryz.prog w = .ok (.func fn first cap) w := fun _ _ _ _ => rfl
  go_enter Tryz.func10, Tryz.ntmps10
  go_wp2_with fail
  refine (HR.out _ _ ⟨?x1, ?x2⟩ ?x3).mono ?_
  case x1 => exact old_alloc _ _ (old_alloc _ _ (at_alloc1 _ _ _))
  case x2 => exact old_alloc _ _ (at_alloc2 _ _ _ _)
  case x3 => first | exact at_alloc4 _ _ _ _ _ | (have := at_alloc4 w (qObj n s d t) (qObj n2 s2 d2 t2) (qObj false eS false eS) (.cells #[.bool n, .string s, .bool d, .string t, .bool n2, .string s2, .bool d2, .string t2] 25); simpa using this)
  rintro e w1 ⟨rfl, g1⟩
  have G1 : (((w.alloc (qObj n s d t)).alloc (qObj n2 s2 d2 t2)).alloc (qObj false eS false eS)).grownBy w1 none := grownBy_trans (grow1 _ _) g1
  have hR : QBlk w1 (w.heap.size + 1 + 1) (.bool false) (.string eS) (.bool false) (.string eS) := QBlk.kept (w := ((w.alloc (qObj n s d t)).alloc (qObj n2 s2 d2 t2)).alloc (qObj false eS false eS)) (at_alloc3 _ _ _ _) G1 (by simp)
  have HG1 : Hid (w.grownBy w1 none) := grownBy_trans (grow3 _ _ _ _) G1
  clear g1 G1
  have r0 := hR.c0
  have r1 := hR.c1
  have r2 := hR.c2
  have r3 := hR.c3
  have f0 := hR.fr 0
  have f1 := hR.fr 1
  have f2 := hR.fr 2
  have f3 := hR.fr 3
  go_wp2_with fail
  refine bodyPost_ret (res_cellQ_tmp rfl _ _ (w.heap.size + 1 + 1) _ _ _ _ _ _ rfl (hR.put _ _ _ _)) rfl ?_
  exact ⟨rfl, grown_put4 HG1.out (by omega)⟩
end Go.Proofs.YtgemkfiippooeaaGreatDoor

namespace Go.Proofs.YtgemkfiippooeaaGreatDoor
open Go.RowKit Go.Lib Go.Sort
set_option linter.unusedVariables false

set_option maxHeartbeats 3200000 in
set_option maxRecDepth 1000000 in
theorem reckoned_err (K : Nat) (caps : Array Value) (eg : ∀ args w, (callFunc K args).run Tryz.prog w = .ok (.enter K args) w) (w : World) (v : Value) (l : List Q4) (h : DQ w v l) (hl : l.length ≤ 1000) (hm : ∀ p ∈ l, mayQ4 p = true)
    (n d : Bool) (s t : ByteArray)
    (HF : Hid (∀ w1, w.grownBy w1 none → Calls Tryz.prog K caps w1 fun e w' => e = .returned (.tuple #[whole n s, whole d t, .int .i64 5]) ∧ w1.grownBy w' none)) :
    Calls Tryz.prog 48 #[.func (.func K) #[] caps, v] w fun e w' => e = .returned (.tuple #[frac false eS false eS, .int .i64 5]) ∧ w.grownBy w' none := by
  have HM : Hid (∀ p ∈ l, mayQ4 p = true) := hm
  obtain ⟨B, off, c, rfl, hc, hcs⟩ := h
  have HCS : Hid (∀ j p, l[j]? = some p → w.cell? ⟨B, off + j * 4, none⟩ = some (.bool p.1) ∧ w.cell? ⟨B, off + j * 4 + 1, none⟩ = some (.string p.2.1) ∧ w.cell? ⟨B, off + j * 4 + 2, none⟩ = some (.bool p.2.2.1) ∧ w.cell? ⟨B, off + j * 4 + 3, none⟩ = some (.string p.2.2.2)) := hcs
  obtain ⟨m, hn⟩ : ∃ m, l.length = m := ⟨_, rfl⟩
  have HN : Unit → l.length = m := fun _ => hn
  rw [hn] at hc hl ⊢
  have hnI : (m : Int) ≤ 1000 := by omega
  clear hm hcs hn hl
  go_enter Tryz.func48, Tryz.ntmps48
  go_wp2_with fail
  go_loopw [13] (fun t wr => ∃ k : Nat, k ≤ m ∧ t = .int .i64 (k : Int) ∧ (w.alloc (qObj false eS false eS)).grownBy wr none) (fun t _ => m - (RowKit.intOf t).toNat)
  case atStart => exact ⟨0, by omega, rfl, World.grownBy.refl _ _⟩
  case round =>
    obtain ⟨k, hk, rfl, hg⟩ := hrel
    have HG1 : Hid ((w.alloc (qObj false eS false eS)).grownBy wr none) := hg
    by_cases hk1 : k < m
    · have hkl : k < l.length := by rw [HN ()]; exact hk1
      have hp : l[k]? = some l[k] := List.getElem?_eq_getElem hkl
      have hcs := HCS.out k _ hp
      have hgw := grownBy_trans (grow1 w (qObj false eS false eS)) hg
      have hc0 := grownBy_cell hgw hcs.1 (by simp)
      have hc1 := grownBy_cell hgw hcs.2.1 (by simp)
      have hc2 := grownBy_cell hgw hcs.2.2.1 (by simp)
      have hc3 := grownBy_cell hgw hcs.2.2.2 (by simp)
      have hmp := HM.out l[k] (List.getElem_mem hkl)
      generalize l[k] = p at *
      obtain ⟨pn, ps, pd, pt⟩ := p
      simp only at hc0 hc1 hc2 hc3 hmp
      have hQ : IsQ (num pn ps) (num pd pt) pn ps pd pt := mayQ_is hmp
      have HMy : Hid (∀ w, Calls Tryz.prog 15 #[frac pn ps pd pt] w fun e w' => e = .returned (.bool true) ∧ w.grownBy w' none) := fun w => by
        have := mayq_any pn pd ps pt (by have := may_size (hQ.zn.may (by decide)); unfold maxLen; omega) (by have := may_size (hQ.zd.may (by decide)); unfold maxLen; omega) w
        rw [show mayQ pn ps pd pt = true from hmp] at this
        exact this
      clear hgw hcs hp hg hmp hQ
      go_wp2_with fail
      refine (HMy.out _).mono ?_
      rintro e w2 ⟨rfl, g2⟩
      have HG2 : Hid ((w.alloc (qObj false eS false eS)).grownBy w2 none) := grownBy_trans HG1.out (grownBy_trans (grow1 _ _) g2)
      clear g2
      go_wp2_with fail
      go_roundw
      case rel => exact ⟨k + 1, by omega, rfl, HG2.out⟩
      case measure => simp [RowKit.intOf]; omega
    · obtain rfl : k = m := by omega
      clear hg
      go_wp2_with fail
      refine (HF.out _ (grownBy_trans (grow1 _ _) HG1.out)).mono ?_
      rintro e w2 ⟨rfl, g2⟩
      have G2 : (w.alloc (qObj false eS false eS)).grownBy ((w2.alloc (wObj n s)).alloc (wObj d t)) none := grownBy_trans HG1.out (grownBy_trans g2 (grow2 _ _ _))
      have G2' : (w.alloc (qObj false eS false eS)).grownBy w2 none := grownBy_trans HG1.out g2
      have HR : Hid (QBlk ((w2.alloc (wObj n s)).alloc (wObj d t)) w.heap.size (.bool false) (.string eS) (.bool false) (.string eS)) := QBlk.kept (w := w.alloc (qObj false eS false eS)) (heap_alloc_new _ _) G2 (by simp)
      have HG3 : Hid (w.grownBy ((w2.alloc (wObj n s)).alloc (wObj d t)) none) := grownBy_trans (grow1 _ _) G2
      clear g2 G2 G2'
      go_upto_region 9 with fail
      generalize (w2.alloc (wObj n s)).alloc (wObj d t) = V at *
      have hR := HR.out
      have r0 := hR.c0
      have r1 := hR.c1
      have r2 := hR.c2
      have r3 := hR.c3
      have f0 := hR.fr 0
      have f1 := hR.fr 1
      have f2 := hR.fr 2
      have f3 := hR.fr 3
      go_wp2_with fail
      refine bodyPost_ret (res_cellQ_tmp rfl _ _ w.heap.size _ _ _ _ _ _ rfl (hR.put _ _ _ _)) rfl ?_
      exact ⟨rfl, grown_put4 HG3.out (Nat.le_refl _)⟩


set_option maxHeartbeats 3200000 in
set_option maxRecDepth 1000000 in
theorem reckoned_bad (K : Nat) (caps : Array Value) (w : World) (v : Value) (l : List Q4) (h : DQ w v l) (hl : l.length ≤ 1000) (hz : ∀ p ∈ l, p.2.1.size ≤ maxLen ∧ p.2.2.2.size ≤ maxLen) (hm : ∃ p ∈ l, mayQ4 p = false) :
    Calls Tryz.prog 48 #[.func (.func K) #[] caps, v] w fun e w' => e = .returned (.tuple #[frac false eS false eS, .int .i64 2]) ∧ w.grownBy w' none := by
  have HM : Hid (∃ p ∈ l, mayQ4 p = false) := hm
  have HZ : Hid (∀ p ∈ l, p.2.1.size ≤ maxLen ∧ p.2.2.2.size ≤ maxLen) := hz
  obtain ⟨B, off, c, rfl, hc, hcs⟩ := h
  have HCS : Hid (∀ j p, l[j]? = some p → w.cell? ⟨B, off + j * 4, none⟩ = some (.bool p.1) ∧ w.cell? ⟨B, off + j * 4 + 1, none⟩ = some (.string p.2.1) ∧ w.cell? ⟨B, off + j * 4 + 2, none⟩ = some (.bool p.2.2.1) ∧ w.cell? ⟨B, off + j * 4 + 3, none⟩ = some (.string p.2.2.2)) := hcs
  obtain ⟨m, hn⟩ : ∃ m, l.length = m := ⟨_, rfl⟩
  have HN : Unit → l.length = m := fun _ => hn
  rw [hn] at hc hl ⊢
  have hnI : (m : Int) ≤ 1000 := by omega
  clear hm hz hcs hn hl
  go_enter Tryz.func48, Tryz.ntmps48
  go_wp2_with fail
  go_loopw [13] (fun t wr => ∃ k : Nat, k ≤ m ∧ t = .int .i64 (k : Int) ∧ (w.alloc (qObj false eS false eS)).grownBy wr none ∧ Hid (∀ j p, j < k → l[j]? = some p → mayQ4 p = true)) (fun t _ => m - (RowKit.intOf t).toNat)
  case atStart => exact ⟨0, by omega, rfl, World.grownBy.refl _ _, fun j p h => absurd h (by omega)⟩
  case round =>
    obtain ⟨k, hk, rfl, hg, hall⟩ := hrel
    have HG1 : Hid ((w.alloc (qObj false eS false eS)).grownBy wr none) := hg
    by_cases hk1 : k < m
    · have hkl : k < l.length := by rw [HN ()]; exact hk1
      have hp : l[k]? = some l[k] := List.getElem?_eq_getElem hkl
      have HP : Hid (l[k]? = some l[k]) := hp
      have hcs := HCS.out k _ hp
      have hgw := grownBy_trans (grow1 w (qObj false eS false eS)) hg
      have hc0 := grownBy_cell hgw hcs.1 (by simp)
      have hc1 := grownBy_cell hgw hcs.2.1 (by simp)
      have hc2 := grownBy_cell hgw hcs.2.2.1 (by simp)
      have hc3 := grownBy_cell hgw hcs.2.2.2 (by simp)
      have hzz := HZ.out l[k] (List.getElem_mem hkl)
      generalize l[k] = p at *
      obtain ⟨pn, ps, pd, pt⟩ := p
      simp only at hc0 hc1 hc2 hc3 hzz
      have HMy0 := fun w => mayq_any pn pd ps pt hzz.1 hzz.2 w
      cases hmp : mayQ pn ps pd pt
      · rw [hmp] at HMy0
        have HMy : Hid (∀ w, Calls Tryz.prog 15 #[frac pn ps pd pt] w fun e w' => e = .returned (.bool false) ∧ w.grownBy w' none) := HMy0
        clear hgw hcs hp hg hmp HMy0 hzz HP hall
        go_wp2_with fail
        refine (HMy.out _).mono ?_
        rintro e w2 ⟨rfl, g2⟩
        have G2 : (w.alloc (qObj false eS false eS)).grownBy w2 none := grownBy_trans HG1.out (grownBy_trans (grow1 _ _) g2)
        have hR : QBlk w2 w.heap.size (.bool false) (.string eS) (.bool false) (.string eS) := QBlk.kept (w := w.alloc (qObj false eS false eS)) (heap_alloc_new _ _) G2 (by simp)
        have HG3 : Hid (w.grownBy w2 none) := grownBy_trans (grow1 _ _) G2
        clear g2 G2
        have r0 := hR.c0
        have r1 := hR.c1
        have r2 := hR.c2
        have r3 := hR.c3
        have f0 := hR.fr 0
        have f1 := hR.fr 1
        have f2 := hR.fr 2
        have f3 := hR.fr 3
        go_wp2_with fail
        refine bodyPost_ret (res_cellQ_tmp rfl _ _ w.heap.size _ _ _ _ _ _ rfl (hR.put _ _ _ _)) rfl ?_
        exact ⟨rfl, grown_put4 HG3.out (Nat.le_refl _)⟩
      · rw [hmp] at HMy0
        have HMy : Hid (∀ w, Calls Tryz.prog 15 #[frac pn ps pd pt] w fun e w' => e = .returned (.bool true) ∧ w.grownBy w' none) := HMy0
        have HMP : Hid (mayQ pn ps pd pt = true) := hmp
        clear hgw hcs hp hg hmp HMy0 hzz
        go_wp2_with fail
        refine (HMy.out _).mono ?_
        rintro e w2 ⟨rfl, g2⟩
        have HG2 : Hid ((w.alloc (qObj false eS false eS)).grownBy w2 none) := grownBy_trans HG1.out (grownBy_trans (grow1 _ _) g2)
        clear g2
        go_wp2_with fail
        go_roundw
        case rel =>
          refine ⟨k + 1, by omega, rfl, HG2.out, fun j p hj hjp => ?_⟩
          by_cases e : j = k
          · subst e
            obtain rfl := Option.some.inj (HP.out.symm.trans hjp)
            exact HMP.out
          · exact hall.out j p (by omega) hjp
        case measure => simp [RowKit.intOf]; omega
    · obtain rfl : k = m := by omega
      obtain ⟨p, hp, hf⟩ := HM.out
      obtain ⟨j, hj, rfl⟩ := List.getElem_of_mem hp
      have := hall.out j l[j] (by have := HN (); omega) (List.getElem?_eq_getElem hj)
      rw [this] at hf
      cases hf
end Go.Proofs.YtgemkfiippooeaaGreatDoor

namespace Go.Proofs.YtgemkfiippooeaaGreatDoor
open Go.RowKit Go.Lib Go.Sort
set_option linter.unusedVariables false

theorem nonempty_q {m : ByteArray} (h : m.size ≠ 0) : (m.toList == []) = false := by
  rw [beq_eq_false_iff_ne]
  intro e
  have := congrArg List.length e
  rw [ByteArray.toList_eq, Array.length_toList] at this
  exact h this
theorem sub_is {k : Nat} {x y : Int} {n1 n2 n' : Bool} {s1 s2 s' : ByteArray} (hk : k + 1 ≤ 16384) (h1 : Sz k x n1 s1) (h2 : Sz k y n2 s2) (hq : IsZ (x - y) n' s') (w : World) :
    Calls Tryz.prog 53 #[whole n1 s1, whole n2 s2] w fun e w' => e = .returned (.tuple #[whole n' s', .int .i64 0]) ∧ w.grownBy w' none := by
  refine (sub_sz hk h1 h2 w).mono ?_
  rintro e w' ⟨n, s, rfl, hz, hg⟩
  obtain ⟨rfl, rfl⟩ := whole_inj (hz.1.one hq)
  exact ⟨rfl, hg⟩
theorem both_may {x y u v : Int} {n d n2 d2 : Bool} {s t s2 t2 : ByteArray} (h1 : IsQ x y n s d t) (h2 : IsQ u v n2 s2 d2 t2) : ∀ p ∈ [(n, s, d, t), (n2, s2, d2, t2)], mayQ4 p = true := by
  intro p hp
  simp at hp
  rcases hp with rfl | rfl
  · exact h1.may
  · exact h2.may
theorem eg_sub1 : ∀ args w, (callFunc 52 args).run Tryz.prog w = .ok (.enter 52 args) w := enters_of Tryz.func52 (by kernel_rfl) rfl
theorem eg_mul1 : ∀ args w, (callFunc 54 args).run Tryz.prog w = .ok (.enter 54 args) w := enters_of Tryz.func54 (by kernel_rfl) rfl
theorem eg_div1 : ∀ args w, (callFunc 55 args).run Tryz.prog w = .ok (.enter 55 args) w := enters_of Tryz.func55 (by kernel_rfl) rfl
theorem mul_ne {y v : Int} (a : 0 < y) (b : 0 < v) : y * v ≠ 0 := Int.ne_of_gt (Int.mul_pos a b)

theorem fsub_any {x y u v : Int} {n d n2 d2 n' d' : Bool} {s t s2 t2 s' t' : ByteArray} (h1 : IsQ x y n s d t) (h2 : IsQ u v n2 s2 d2 t2) (L : Low (x * v - u * y) (y * v) n' s' d' t') (w : World) :
    Calls Tryz.prog 11 #[frac n s d t, frac n2 s2 d2 t2] w fun e w' => e = .returned (.tuple #[toldV n' s' d' t', .int .i64 (toldE s' t')]) ∧ w.grownBy w' none := by
  obtain ⟨p1, q1, z1⟩ := isz_ex (x * v)
  obtain ⟨p2, q2, z2⟩ := isz_ex (u * y)
  obtain ⟨p3, q3, z3⟩ := isz_ex (y * v)
  obtain ⟨pn, ps, zs⟩ := isz_ex (x * v - u * y)
  have k1 := z1.sz (mul_lt256 h1.zn.2 h2.zd.2)
  have k2 := z2.sz (mul_lt256 h2.zn.2 h1.zd.2)
  have k3 := z3.sz (mul_lt256 h1.zd.2 h2.zd.2)
  have ks := zs.sz (sum_lt k1.2 k2.2).2
  refine fsub_by n d n2 d2 _ _ s t s2 t2 _ _ _ w (fun W B h2' hB => ?_)
  refine reckoned_yes 52 _ eg_sub1 W _ _ (dq_two hB) (by simp) (both_may h1 h2) pn p3 ps q3 _ _ _ _ _ (fun w1 g => ?_) (fun w1 => lowest_any (k := 1024 + 1024 + 1) (by decide) ks (k3.up (by decide)) (mul_ne h1.pos h2.pos) L w1)
  refine sub1_any w1 _ _ n d n2 d2 s t s2 t2 (h2'.kept g) p1 p2 p3 pn q1 q2 q3 ps ?_ (fun w => sub_is (by decide) k1 k2 zs w)
  intro a1 b1 a2 b2 c1 c2 w h
  rcases h with ⟨rfl, rfl, rfl, rfl, rfl, rfl⟩ | ⟨rfl, rfl, rfl, rfl, rfl, rfl⟩ | ⟨rfl, rfl, rfl, rfl, rfl, rfl⟩
  · exact times_is (by decide) h1.zn h2.zd z1 w
  · exact times_is (by decide) h2.zn h1.zd z2 w
  · exact times_is (by decide) h1.zd h2.zd z3 w

theorem fmul_any {x y u v : Int} {n d n2 d2 n' d' : Bool} {s t s2 t2 s' t' : ByteArray} (h1 : IsQ x y n s d t) (h2 : IsQ u v n2 s2 d2 t2) (L : Low (x * u) (y * v) n' s' d' t') (w : World) :
    Calls Tryz.prog 12 #[frac n s d t, frac n2 s2 d2 t2] w fun e w' => e = .returned (.tuple #[toldV n' s' d' t', .int .i64 (toldE s' t')]) ∧ w.grownBy w' none := by
  obtain ⟨p1, q1, z1⟩ := isz_ex (x * u)
  obtain ⟨p3, q3, z3⟩ := isz_ex (y * v)
  have k1 := z1.sz (mul_lt256 h1.zn.2 h2.zn.2)
  have k3 := z3.sz (mul_lt256 h1.zd.2 h2.zd.2)
  refine fmul_by n d n2 d2 _ _ s t s2 t2 _ _ _ w (fun W B h2' hB => ?_)
  refine reckoned_yes 54 _ eg_mul1 W _ _ (dq_two hB) (by simp) (both_may h1 h2) p1 p3 q1 q3 _ _ _ _ _ (fun w1 g => ?_) (fun w1 => lowest_any (k := 1024 + 1024) (by decide) k1 k3 (mul_ne h1.pos h2.pos) L w1)
  refine mul1_any w1 _ _ n d n2 d2 s t s2 t2 (h2'.kept g) p1 p3 q1 q3 ?_
  intro a1 b1 a2 b2 c1 c2 w h
  rcases h with ⟨rfl, rfl, rfl, rfl, rfl, rfl⟩ | ⟨rfl, rfl, rfl, rfl, rfl, rfl⟩
  · exact times_is (by decide) h1.zn h2.zn z1 w
  · exact times_is (by decide) h1.zd h2.zd z3 w

theorem fdiv_any {x y u v : Int} {n d n2 d2 n' d' : Bool} {s t s2 t2 s' t' : ByteArray} (h1 : IsQ x y n s d t) (h2 : IsQ u v n2 s2 d2 t2) (hu : u ≠ 0) (L : Low (x * v) (y * u) n' s' d' t') (w : World) :
    Calls Tryz.prog 13 #[frac n s d t, frac n2 s2 d2 t2] w fun e w' => e = .returned (.tuple #[toldV n' s' d' t', .int .i64 (toldE s' t')]) ∧ w.grownBy w' none := by
  obtain ⟨p1, q1, z1⟩ := isz_ex (x * v)
  obtain ⟨p3, q3, z3⟩ := isz_ex (y * u)
  have k1 := z1.sz (mul_lt256 h1.zn.2 h2.zd.2)
  have k3 := z3.sz (mul_lt256 h1.zd.2 h2.zn.2)
  have hne : y * u ≠ 0 := Int.mul_ne_zero (Int.ne_of_gt h1.pos) hu
  refine fdiv_by n d n2 d2 _ _ s t s2 t2 _ _ _ w (fun W B h2' hB => ?_)
  refine reckoned_yes 55 _ eg_div1 W _ _ (dq_two hB) (by simp) (both_may h1 h2) p1 p3 q1 q3 _ _ _ _ _ (fun w1 g => ?_) (fun w1 => lowest_any (k := 1024 + 1024) (by decide) k1 k3 hne L w1)
  refine div1_any w1 _ _ n d n2 d2 s t s2 t2 (h2'.kept g) (nonempty_q (h2.zn.size0 (by decide) hu)) p1 p3 q1 q3 ?_
  intro a1 b1 a2 b2 c1 c2 w h
  rcases h with ⟨rfl, rfl, rfl, rfl, rfl, rfl⟩ | ⟨rfl, rfl, rfl, rfl, rfl, rfl⟩
  · exact times_is (by decide) h1.zn h2.zd z1 w
  · exact times_is (by decide) h1.zd h2.zn z3 w

theorem fdiv_zero {x y v : Int} {n d d2 : Bool} {s t t2 : ByteArray} (h1 : IsQ x y n s d t) (h2 : IsQ 0 v false eS d2 t2) (w : World) :
    Calls Tryz.prog 13 #[frac n s d t, frac false eS d2 t2] w fun e w' => e = .returned (.tuple #[frac false eS false eS, .int .i64 5]) ∧ w.grownBy w' none := by
  refine fdiv_by n d false d2 _ _ s t eS t2 _ _ _ w (fun W B h2' hB => ?_)
  exact reckoned_err 55 _ eg_div1 W _ _ (dq_two hB) (by simp) (both_may h1 h2) false false eS eS (fun w1 g => div1_zero w1 _ _ n d d2 s t t2 (h2'.kept g))

theorem fadd_bad (n d n2 d2 : Bool) (s t s2 t2 : ByteArray) (z1 : s.size ≤ maxLen) (z2 : t.size ≤ maxLen) (z3 : s2.size ≤ maxLen) (z4 : t2.size ≤ maxLen) (hm : (mayQ n s d t && mayQ n2 s2 d2 t2) = false) (w : World) :
    Calls Tryz.prog 10 #[frac n s d t, frac n2 s2 d2 t2] w fun e w' => e = .returned (.tuple #[frac false eS false eS, .int .i64 2]) ∧ w.grownBy w' none := by
  refine fadd_by n d n2 d2 _ _ s t s2 t2 _ _ _ w (fun W B h2' hB => ?_)
  refine reckoned_bad _ _ W _ _ (dq_two hB) (by simp) ?_ ?_
  · intro p hp
    simp at hp
    rcases hp with rfl | rfl
    · exact ⟨z1, z2⟩
    · exact ⟨z3, z4⟩
  · cases h1 : mayQ n s d t
    · exact ⟨(n, s, d, t), by simp, h1⟩
    · rw [h1] at hm
      exact ⟨(n2, s2, d2, t2), by simp, by simpa [mayQ4] using hm⟩

theorem fsub_bad (n d n2 d2 : Bool) (s t s2 t2 : ByteArray) (z1 : s.size ≤ maxLen) (z2 : t.size ≤ maxLen) (z3 : s2.size ≤ maxLen) (z4 : t2.size ≤ maxLen) (hm : (mayQ n s d t && mayQ n2 s2 d2 t2) = false) (w : World) :
    Calls Tryz.prog 11 #[frac n s d t, frac n2 s2 d2 t2] w fun e w' => e = .returned (.tuple #[frac false eS false eS, .int .i64 2]) ∧ w.grownBy w' none := by
  refine fsub_by n d n2 d2 _ _ s t s2 t2 _ _ _ w (fun W B h2' hB => ?_)
  refine reckoned_bad _ _ W _ _ (dq_two hB) (by simp) ?_ ?_
  · intro p hp
    simp at hp
    rcases hp with rfl | rfl
    · exact ⟨z1, z2⟩
    · exact ⟨z3, z4⟩
  · cases h1 : mayQ n s d t
    · exact ⟨(n, s, d, t), by simp, h1⟩
    · rw [h1] at hm
      exact ⟨(n2, s2, d2, t2), by simp, by simpa [mayQ4] using hm⟩

theorem fmul_bad (n d n2 d2 : Bool) (s t s2 t2 : ByteArray) (z1 : s.size ≤ maxLen) (z2 : t.size ≤ maxLen) (z3 : s2.size ≤ maxLen) (z4 : t2.size ≤ maxLen) (hm : (mayQ n s d t && mayQ n2 s2 d2 t2) = false) (w : World) :
    Calls Tryz.prog 12 #[frac n s d t, frac n2 s2 d2 t2] w fun e w' => e = .returned (.tuple #[frac false eS false eS, .int .i64 2]) ∧ w.grownBy w' none := by
  refine fmul_by n d n2 d2 _ _ s t s2 t2 _ _ _ w (fun W B h2' hB => ?_)
  refine reckoned_bad _ _ W _ _ (dq_two hB) (by simp) ?_ ?_
  · intro p hp
    simp at hp
    rcases hp with rfl | rfl
    · exact ⟨z1, z2⟩
    · exact ⟨z3, z4⟩
  · cases h1 : mayQ n s d t
    · exact ⟨(n, s, d, t), by simp, h1⟩
    · rw [h1] at hm
      exact ⟨(n2, s2, d2, t2), by simp, by simpa [mayQ4] using hm⟩

theorem fdiv_bad (n d n2 d2 : Bool) (s t s2 t2 : ByteArray) (z1 : s.size ≤ maxLen) (z2 : t.size ≤ maxLen) (z3 : s2.size ≤ maxLen) (z4 : t2.size ≤ maxLen) (hm : (mayQ n s d t && mayQ n2 s2 d2 t2) = false) (w : World) :
    Calls Tryz.prog 13 #[frac n s d t, frac n2 s2 d2 t2] w fun e w' => e = .returned (.tuple #[frac false eS false eS, .int .i64 2]) ∧ w.grownBy w' none := by
  refine fdiv_by n d n2 d2 _ _ s t s2 t2 _ _ _ w (fun W B h2' hB => ?_)
  refine reckoned_bad _ _ W _ _ (dq_two hB) (by simp) ?_ ?_
  · intro p hp
    simp at hp
    rcases hp with rfl | rfl
    · exact ⟨z1, z2⟩
    · exact ⟨z3, z4⟩
  · cases h1 : mayQ n s d t
    · exact ⟨(n, s, d, t), by simp, h1⟩
    · rw [h1] at hm
      exact ⟨(n2, s2, d2, t2), by simp, by simpa [mayQ4] using hm⟩
end Go.Proofs.YtgemkfiippooeaaGreatDoor
