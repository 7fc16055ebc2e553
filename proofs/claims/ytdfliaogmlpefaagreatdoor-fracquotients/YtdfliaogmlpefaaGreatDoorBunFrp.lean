/-
  The document's products, quotients and order of fractions, by what they ask.
  The document's sums and differences of fractions, by what they ask.
  The document's May of fractions; its Sign, Neg.
  The document's sums, differences, products, quotients and order of any two fractions that may be; frac's Cmp.
-/
import Derived.Test.YtdfliaogmlpefaaGreatDoorBunFre
import Derived.Test.YtdfliaogmlpefaaGreatDoorFrk
import Derived.Test.YtdfliaogmlpefaaGreatDoorBunFrl
import Derived.Test.YtdfliaogmlpefaaGreatDoorFru
namespace Go.Proofs.YtdfliaogmlpefaaGreatDoor
open Go.RowKit Go.Lib Go.Sort
set_option linter.unusedVariables false
set_option maxHeartbeats 3200000
set_option maxRecDepth 1000000
theorem two_new (w : World) (n d n2 d2 : Bool) (s t s2 t2 : ByteArray) : Two ((w.alloc (qObj n s d t)).alloc (qObj n2 s2 d2 t2)) w.heap.size (w.heap.size + 1) n d n2 d2 s t s2 t2 := ⟨at_alloc1 _ _ _, heap_alloc2_new _ _ _⟩
theorem roverq_by (n d n2 d2 p1 p2 a c : Bool) (s t s2 t2 q1 q2 b f : ByteArray)
    (HT : Hid (∀ a1 b1 a2 b2 c1 c2 (w : World), (a1 = n ∧ b1 = s ∧ a2 = d2 ∧ b2 = t2 ∧ c1 = p1 ∧ c2 = q1) ∨ (a1 = d ∧ b1 = t ∧ a2 = n2 ∧ b2 = s2 ∧ c1 = p2 ∧ c2 = q2) → Calls Tryz.prog 76 #[whole a1 b1, whole a2 b2] w fun e w' => e = .returned (whole c1 c2) ∧ w.grownBy w' none))
    (HR : Hid (∀ w, Calls Tryz.prog 62 #[whole p1 q1, whole p2 q2] w fun e w' => e = .returned (frac a b c f) ∧ w.grownBy w' none)) (w : World) :
    Calls Tryz.prog 78 #[frac n s d t, frac n2 s2 d2 t2] w fun e w' => e = .returned (frac a b c f) ∧ w.grownBy w' none := by
  have HK : Hid (∀ w', ((w.alloc (qObj n s d t)).alloc (qObj n2 s2 d2 t2)).grownBy w' none → w'.cell? ⟨w.heap.size, 0, none⟩ = some (.bool n) ∧ w'.cell? ⟨w.heap.size, 1, none⟩ = some (.string s) ∧ w'.cell? ⟨w.heap.size, 2, none⟩ = some (.bool d) ∧ w'.cell? ⟨w.heap.size, 3, none⟩ = some (.string t) ∧ w'.cell? ⟨w.heap.size + 1, 0, none⟩ = some (.bool n2) ∧ w'.cell? ⟨w.heap.size + 1, 1, none⟩ = some (.string s2) ∧ w'.cell? ⟨w.heap.size + 1, 2, none⟩ = some (.bool d2) ∧ w'.cell? ⟨w.heap.size + 1, 3, none⟩ = some (.string t2)) := fun w' g => ((two_new w n d n2 d2 s t s2 t2).kept g).cells
  go_enter Tryz.func78, Tryz.ntmps78
  go_wp2_with fail
  go_region_held3 (fun w' => w'.cell? ⟨w.heap.size, 0, none⟩ = some (.bool n) ∧ w'.cell? ⟨w.heap.size, 1, none⟩ = some (.string s) ∧ w'.cell? ⟨w.heap.size, 2, none⟩ = some (.bool d) ∧ w'.cell? ⟨w.heap.size, 3, none⟩ = some (.string t) ∧ w'.cell? ⟨w.heap.size + 1, 0, none⟩ = some (.bool n2) ∧ w'.cell? ⟨w.heap.size + 1, 1, none⟩ = some (.string s2) ∧ w'.cell? ⟨w.heap.size + 1, 2, none⟩ = some (.bool d2) ∧ w'.cell? ⟨w.heap.size + 1, 3, none⟩ = some (.string t2))
    (first | (go_keep; done) | exact HK.out _ (grown_put4 (grownBy_trans (grow1 _ _) GC) (by simp)) | exact HK.out _ (grownBy_trans (grow1 _ _) (by assumption)) | exact HK.out _ (grow_drew (grow1 _ _)) | fail)
    (first
      | (go_at_call 76; first | (refine (HT.out _ _ _ _ _ _ _ (by exact .inl ⟨rfl, rfl, rfl, rfl, rfl, rfl⟩)).mono ?_; rintro e wA ⟨rfl, gA⟩; have GA : (((w.alloc (qObj n s d t)).alloc (qObj n2 s2 d2 t2)).alloc (qObj false eS false eS)).grownBy wA none := (by first | exact gA | exact grownBy_undrew gA)) | (refine (HT.out _ _ _ _ _ _ _ (by exact .inr ⟨rfl, rfl, rfl, rfl, rfl, rfl⟩)).mono ?_; rintro e wB ⟨rfl, gB⟩; have GB : (((w.alloc (qObj n s d t)).alloc (qObj n2 s2 d2 t2)).alloc (qObj false eS false eS)).grownBy wB none := grownBy_trans GA gB))
      | (go_at_call 62; refine (HR.out _).mono ?_; rintro e wC ⟨rfl, gC⟩; have GC : (((w.alloc (qObj n s d t)).alloc (qObj n2 s2 d2 t2)).alloc (qObj false eS false eS)).grownBy wC none := grownBy_trans GB gC; have hR : QBlk wC (w.heap.size + 2) (.bool false) (.string eS) (.bool false) (.string eS) := QBlk.kept (at_alloc3 _ _ _ _) GC (by simp); have k0 := hR.c0; have k1 := hR.c1; have k2 := hR.c2; have k3 := hR.c3; have l0 := hR.fr 0; have l1 := hR.fr 1; have l2 := hR.fr 2; have l3 := hR.fr 3)
      | fail)
  go_wp2_with fail
  refine bodyPost_ret (res_cellQ rfl _ _ (w.heap.size + 2) _ _ _ _ _ _ rfl (hR.put _ _ _ _)) rfl ?_
  exact ⟨rfl, grown_put4 (grownBy_trans (grow3 _ _ _ _) GC) (by omega)⟩
structure PlI (W : World) (x A B : Nat) (n d n2 d2 p1 p2 : Bool) (s t s2 t2 q1 q2 : ByteArray) : Prop where
  two : Two W x (x + 1) n d n2 d2 s t s2 t2
  a : WBlk W A (.bool p1) (.string q1)
  b : WBlk W B (.bool p2) (.string q2)
theorem PlI.kept {W W' : World} {x A B : Nat} {n d n2 d2 p1 p2 : Bool} {s t s2 t2 q1 q2 : ByteArray} (h : PlI W x A B n d n2 d2 p1 p2 s t s2 t2 q1 q2) (g : W.grownBy W' none) : PlI W' x A B n d n2 d2 p1 p2 s t s2 t2 q1 q2 :=
  ⟨h.two.kept g, h.a.kept g (by simp), h.b.kept g (by simp)⟩
theorem PlI.put {W : World} {x A B : Nat} {n d n2 d2 p1 p2 : Bool} {s t s2 t2 q1 q2 : ByteArray} (h : PlI W x A B n d n2 d2 p1 p2 s t s2 t2 q1 q2) (C : Nat) (hA : C ≠ A) (hB : C ≠ B) (h0 : C ≠ x) (h1 : C ≠ x + 1) (v0 v1 v2 v3 : Value) :
    PlI ((((W.setCell ⟨C, 0, none⟩ v0).setCell ⟨C, 1, none⟩ v1).setCell ⟨C, 2, none⟩ v2).setCell ⟨C, 3, none⟩ v3) x A B n d n2 d2 p1 p2 s t s2 t2 q1 q2 :=
  ⟨⟨(((h.two.1.other h0).other h0).other h0).other h0, (((h.two.2.other h1).other h1).other h1).other h1⟩, (((h.a.other hA).other hA).other hA).other hA, (((h.b.other hB).other hB).other hB).other hB⟩
theorem PlI.cells {w' : World} {x A B : Nat} {n d n2 d2 p1 p2 : Bool} {s t s2 t2 q1 q2 : ByteArray} (h : PlI w' x A B n d n2 d2 p1 p2 s t s2 t2 q1 q2) :
    w'.cell? ⟨x, 2, none⟩ = some (.bool d) ∧ w'.cell? ⟨x, 3, none⟩ = some (.string t) ∧ w'.cell? ⟨x + 1, 2, none⟩ = some (.bool d2) ∧ w'.cell? ⟨x + 1, 3, none⟩ = some (.string t2) ∧ w'.cell? ⟨A, 0, none⟩ = some (.bool p1) ∧ w'.cell? ⟨A, 1, none⟩ = some (.string q1) ∧ w'.cell? ⟨B, 0, none⟩ = some (.bool p2) ∧ w'.cell? ⟨B, 1, none⟩ = some (.string q2) :=
  ⟨h.two.1.c2, h.two.1.c3, h.two.2.c2, h.two.2.c3, h.a.c0, h.a.c1, h.b.c0, h.b.c1⟩
theorem rplusq_by (n d n2 d2 p1 p2 p3 pn a c : Bool) (s t s2 t2 q1 q2 q3 ps b f : ByteArray)
    (HT : Hid (∀ a1 b1 a2 b2 c1 c2 (w : World), (a1 = n ∧ b1 = s ∧ a2 = d2 ∧ b2 = t2 ∧ c1 = p1 ∧ c2 = q1) ∨ (a1 = n2 ∧ b1 = s2 ∧ a2 = d ∧ b2 = t ∧ c1 = p2 ∧ c2 = q2) ∨ (a1 = d ∧ b1 = t ∧ a2 = d2 ∧ b2 = t2 ∧ c1 = p3 ∧ c2 = q3) → Calls Tryz.prog 76 #[whole a1 b1, whole a2 b2] w fun e w' => e = .returned (whole c1 c2) ∧ w.grownBy w' none))
    (HP : Hid (∀ w, Calls Tryz.prog 72 #[whole p1 q1, whole p2 q2] w fun e w' => e = .returned (whole pn ps) ∧ w.grownBy w' none))
    (HR : Hid (∀ w, Calls Tryz.prog 62 #[whole pn ps, whole p3 q3] w fun e w' => e = .returned (frac a b c f) ∧ w.grownBy w' none)) (w : World) :
    Calls Tryz.prog 77 #[frac n s d t, frac n2 s2 d2 t2] w fun e w' => e = .returned (frac a b c f) ∧ w.grownBy w' none := by
  go_enter Tryz.func77, Tryz.ntmps77
  go_wp2_with fail
  refine (HT.out _ _ _ _ _ _ _ (by exact .inl ⟨rfl, rfl, rfl, rfl, rfl, rfl⟩)).mono ?_
  rintro e wA ⟨rfl, gA⟩
  have XA : Hid (Two wA w.heap.size (w.heap.size + 1) n d n2 d2 s t s2 t2) := Two.kept ⟨old_alloc _ _ (at_alloc1 _ _ _), at_alloc2 _ _ _ _⟩ gA
  have RA : Hid (QBlk wA (w.heap.size + 2) (.bool false) (.string eS) (.bool false) (.string eS)) := QBlk.kept (at_alloc3 _ _ _ _) gA (by simp)
  have GA : Hid (w.grownBy wA none) := grownBy_trans (grow3 _ _ _ _) gA
  clear gA
  obtain ⟨x0, x1, x2, x3, y0, y1, y2, y3⟩ := XA.out.cells
  have xl := XA.out.1.lt
  have yl := XA.out.2.lt
  go_wp2_with fail
  refine (HT.out _ _ _ _ _ _ _ (by exact .inr (.inl ⟨rfl, rfl, rfl, rfl, rfl, rfl⟩))).mono ?_
  rintro e wB ⟨rfl, gB⟩
  clear x0 x1 x2 x3 y0 y1 y2 y3 xl yl
  have XB : Hid (Two (wB.alloc (wObj p2 q2)) w.heap.size (w.heap.size + 1) n d n2 d2 s t s2 t2) := XA.out.kept (grownBy_trans (grownBy_trans (grow1 _ _) gB) (grow1 _ _))
  have RB : Hid (QBlk (wB.alloc (wObj p2 q2)) (w.heap.size + 2) (.bool false) (.string eS) (.bool false) (.string eS)) := RA.out.kept (grownBy_trans (grownBy_trans (grow1 _ _) gB) (grow1 _ _)) (by simp)
  have GB : Hid (w.grownBy (wB.alloc (wObj p2 q2)) none) := grownBy_trans GA.out (grownBy_trans (grownBy_trans (grow1 _ _) gB) (grow1 _ _))
  have PA : WBlk (wB.alloc (wObj p2 q2)) wA.heap.size (.bool p1) (.string q1) := WBlk.kept (heap_alloc_new _ _) (grownBy_trans gB (grow1 _ _)) (by simp)
  have PB : WBlk (wB.alloc (wObj p2 q2)) wB.heap.size (.bool p2) (.string q2) := heap_alloc_new _ _
  have HI : Hid (PlI (wB.alloc (wObj p2 q2)) w.heap.size wA.heap.size wB.heap.size n d n2 d2 p1 p2 s t s2 t2 q1 q2) := ⟨XB.out, PA, PB⟩
  have nA : w.heap.size + 2 ≠ wA.heap.size := by have := RA.out.lt; omega
  have nB : w.heap.size + 2 ≠ wB.heap.size := by have := RA.out.lt; have h2 := gB.size; simp at h2; omega
  have NA : Hid (w.heap.size + 2 ≠ wA.heap.size) := nA
  have NB : Hid (w.heap.size + 2 ≠ wB.heap.size) := nB
  clear gB XA RA GA XB PA PB nA nB
  go_wp2_with fail
  generalize wB.alloc (wObj p2 q2) = V at *
  have HZ : Hid (∀ w', V.grownBy w' none → w'.cell? ⟨w.heap.size, 2, none⟩ = some (.bool d) ∧ w'.cell? ⟨w.heap.size, 3, none⟩ = some (.string t) ∧ w'.cell? ⟨w.heap.size + 1, 2, none⟩ = some (.bool d2) ∧ w'.cell? ⟨w.heap.size + 1, 3, none⟩ = some (.string t2) ∧ w'.cell? ⟨wA.heap.size, 0, none⟩ = some (.bool p1) ∧ w'.cell? ⟨wA.heap.size, 1, none⟩ = some (.string q1) ∧ w'.cell? ⟨wB.heap.size, 0, none⟩ = some (.bool p2) ∧ w'.cell? ⟨wB.heap.size, 1, none⟩ = some (.string q2)) := fun w' g => (HI.out.kept g).cells
  go_region_held3 (fun w' => w'.cell? ⟨w.heap.size, 2, none⟩ = some (.bool d) ∧ w'.cell? ⟨w.heap.size, 3, none⟩ = some (.string t) ∧ w'.cell? ⟨w.heap.size + 1, 2, none⟩ = some (.bool d2) ∧ w'.cell? ⟨w.heap.size + 1, 3, none⟩ = some (.string t2) ∧ w'.cell? ⟨wA.heap.size, 0, none⟩ = some (.bool p1) ∧ w'.cell? ⟨wA.heap.size, 1, none⟩ = some (.string q1) ∧ w'.cell? ⟨wB.heap.size, 0, none⟩ = some (.bool p2) ∧ w'.cell? ⟨wB.heap.size, 1, none⟩ = some (.string q2))
    (first | (go_keep; done) | exact HZ.out _ (by assumption) | exact HZ.out _ (grow_drew (World.grownBy.refl _ _)) | exact ((HI.out.kept GC).put (w.heap.size + 2) NA.out NB.out (by omega) (by omega) _ _ _ _).cells | fail)
    (first
      | (go_at_call 72; refine (HP.out _).mono ?_; rintro e wD ⟨rfl, gD⟩; have GD : V.grownBy wD none := (by first | exact gD | exact grownBy_undrew gD))
      | (go_at_call 76; refine (HT.out _ _ _ _ _ _ _ (by exact .inr (.inr ⟨rfl, rfl, rfl, rfl, rfl, rfl⟩))).mono ?_; rintro e wE ⟨rfl, gE⟩; have GE : V.grownBy wE none := grownBy_trans GD gE)
      | (go_at_call 62; refine (HR.out _).mono ?_; rintro e wC ⟨rfl, gC⟩; have GC : V.grownBy wC none := grownBy_trans GE gC; have hR : QBlk wC (w.heap.size + 2) (.bool false) (.string eS) (.bool false) (.string eS) := RB.out.kept GC (by simp); have k0 := hR.c0; have k1 := hR.c1; have k2 := hR.c2; have k3 := hR.c3; have l0 := hR.fr 0; have l1 := hR.fr 1; have l2 := hR.fr 2; have l3 := hR.fr 3)
      | fail)
  go_wp2_with fail
  refine bodyPost_ret (res_cellQ rfl _ _ (w.heap.size + 2) _ _ _ _ _ _ rfl (hR.put _ _ _ _)) rfl ?_
  exact ⟨rfl, grown_put4 (grownBy_trans GB.out GC) (by omega)⟩
theorem rnegq_any (n d m : Bool) (s t : ByteArray)
    (HN : Hid (∀ w, Calls Tryz.prog 67 #[whole n s] w fun e w' => e = .returned (whole m s) ∧ w.grownBy w' none)) (w : World) :
    Calls Tryz.prog 24 #[frac n s d t] w fun e w' => e = .returned (frac m s d t) ∧ w.grownBy w' none := by
  have HK : Hid (∀ w', (w.alloc (qObj n s d t)).grownBy w' none → w'.cell? ⟨w.heap.size, 0, none⟩ = some (.bool n) ∧ w'.cell? ⟨w.heap.size, 1, none⟩ = some (.string s) ∧ w'.cell? ⟨w.heap.size, 2, none⟩ = some (.bool d) ∧ w'.cell? ⟨w.heap.size, 3, none⟩ = some (.string t)) := fun w' g => by
    have h : QBlk w' w.heap.size (.bool n) (.string s) (.bool d) (.string t) := QBlk.kept (heap_alloc_new _ _) g (by simp)
    exact ⟨h.c0, h.c1, h.c2, h.c3⟩
  go_enter Tryz.func24, Tryz.ntmps24
  go_wp2_with fail
  go_region_held3 (fun w' => w'.cell? ⟨w.heap.size, 0, none⟩ = some (.bool n) ∧ w'.cell? ⟨w.heap.size, 1, none⟩ = some (.string s) ∧ w'.cell? ⟨w.heap.size, 2, none⟩ = some (.bool d) ∧ w'.cell? ⟨w.heap.size, 3, none⟩ = some (.string t))
    (first | (go_keep; done) | exact HK.out _ (grown_put4 (grownBy_trans (grow1 _ _) GC) (by simp)) | exact HK.out _ (grownBy_trans (grow1 _ _) (by assumption)) | exact HK.out _ (grow_drew (grow1 _ _)) | fail)
    (first
      | (go_at_call 67; refine (HN.out _).mono ?_; rintro e wC ⟨rfl, gC⟩; have GC : ((w.alloc (qObj n s d t)).alloc (qObj false eS false eS)).grownBy wC none := (by first | exact gC | exact grownBy_undrew gC); have hR : QBlk wC (w.heap.size + 1) (.bool false) (.string eS) (.bool false) (.string eS) := QBlk.kept (heap_alloc2_new _ _ _) GC (by simp); have k0 := hR.c0; have k1 := hR.c1; have k2 := hR.c2; have k3 := hR.c3; have l0 := hR.fr 0; have l1 := hR.fr 1; have l2 := hR.fr 2; have l3 := hR.fr 3)
      | fail)
  go_wp2_with fail
  refine bodyPost_ret (res_cellQ rfl _ _ (w.heap.size + 1) _ _ _ _ _ _ rfl (hR.put _ _ _ _)) rfl ?_
  exact ⟨rfl, grown_put4 (grownBy_trans (grow2 _ _ _) GC) (by omega)⟩
theorem rminusq_by (n d n2 d2 m a c : Bool) (s t s2 t2 b f : ByteArray)
    (HN : Hid (∀ w, Calls Tryz.prog 24 #[frac n2 s2 d2 t2] w fun e w' => e = .returned (frac m s2 d2 t2) ∧ w.grownBy w' none))
    (HP : Hid (∀ w, Calls Tryz.prog 77 #[frac n s d t, frac m s2 d2 t2] w fun e w' => e = .returned (frac a b c f) ∧ w.grownBy w' none)) (w : World) :
    Calls Tryz.prog 70 #[frac n s d t, frac n2 s2 d2 t2] w fun e w' => e = .returned (frac a b c f) ∧ w.grownBy w' none := by
  have HK : Hid (∀ w', ((w.alloc (qObj n s d t)).alloc (qObj n2 s2 d2 t2)).grownBy w' none → w'.cell? ⟨w.heap.size, 0, none⟩ = some (.bool n) ∧ w'.cell? ⟨w.heap.size, 1, none⟩ = some (.string s) ∧ w'.cell? ⟨w.heap.size, 2, none⟩ = some (.bool d) ∧ w'.cell? ⟨w.heap.size, 3, none⟩ = some (.string t) ∧ w'.cell? ⟨w.heap.size + 1, 0, none⟩ = some (.bool n2) ∧ w'.cell? ⟨w.heap.size + 1, 1, none⟩ = some (.string s2) ∧ w'.cell? ⟨w.heap.size + 1, 2, none⟩ = some (.bool d2) ∧ w'.cell? ⟨w.heap.size + 1, 3, none⟩ = some (.string t2)) := fun w' g => ((two_new w n d n2 d2 s t s2 t2).kept g).cells
  go_enter Tryz.func70, Tryz.ntmps70
  go_wp2_with fail
  go_region_held3 (fun w' => w'.cell? ⟨w.heap.size, 0, none⟩ = some (.bool n) ∧ w'.cell? ⟨w.heap.size, 1, none⟩ = some (.string s) ∧ w'.cell? ⟨w.heap.size, 2, none⟩ = some (.bool d) ∧ w'.cell? ⟨w.heap.size, 3, none⟩ = some (.string t) ∧ w'.cell? ⟨w.heap.size + 1, 0, none⟩ = some (.bool n2) ∧ w'.cell? ⟨w.heap.size + 1, 1, none⟩ = some (.string s2) ∧ w'.cell? ⟨w.heap.size + 1, 2, none⟩ = some (.bool d2) ∧ w'.cell? ⟨w.heap.size + 1, 3, none⟩ = some (.string t2))
    (first | (go_keep; done) | exact HK.out _ (grown_put4 (grownBy_trans (grow1 _ _) GC) (by simp)) | exact HK.out _ (grownBy_trans (grow1 _ _) (by assumption)) | exact HK.out _ (grow_drew (grow1 _ _)) | fail)
    (first
      | (go_at_call 24; refine (HN.out _).mono ?_; rintro e wB ⟨rfl, gB⟩; have GB : (((w.alloc (qObj n s d t)).alloc (qObj n2 s2 d2 t2)).alloc (qObj false eS false eS)).grownBy wB none := (by first | exact gB | exact grownBy_undrew gB))
      | (go_at_call 77; refine (HP.out _).mono ?_; rintro e wC ⟨rfl, gC⟩; have GC : (((w.alloc (qObj n s d t)).alloc (qObj n2 s2 d2 t2)).alloc (qObj false eS false eS)).grownBy wC none := grownBy_trans GB gC; have hR : QBlk wC (w.heap.size + 2) (.bool false) (.string eS) (.bool false) (.string eS) := QBlk.kept (at_alloc3 _ _ _ _) GC (by simp); have k0 := hR.c0; have k1 := hR.c1; have k2 := hR.c2; have k3 := hR.c3; have l0 := hR.fr 0; have l1 := hR.fr 1; have l2 := hR.fr 2; have l3 := hR.fr 3)
      | fail)
  go_wp2_with fail
  refine bodyPost_ret (res_cellQ rfl _ _ (w.heap.size + 2) _ _ _ _ _ _ rfl (hR.put _ _ _ _)) rfl ?_
  exact ⟨rfl, grown_put4 (grownBy_trans (grow3 _ _ _ _) GC) (by omega)⟩
theorem rsignq_any (n d : Bool) (s t : ByteArray) (w : World) :
    Calls Tryz.prog 28 #[frac n s d t] w fun e w' => e = .returned (.int .i64 (sgn n s)) ∧ w.grownBy w' none := by
  have HS : Hid (∀ w, Calls Tryz.prog 66 #[whole n s] w fun e w' => e = .returned (.int .i64 (sgn n s)) ∧ w.grownBy w' none) := fun w => rSign_any n s w
  generalize sgn n s = c at *
  go_enter Tryz.func28, Tryz.ntmps28
  go_wp2_with fail
  refine (HS.out _).mono ?_
  rintro e w1 ⟨rfl, g1⟩
  go_wp2_with fail
  go_ret
  exact ⟨rfl, grownBy_trans (grow1 _ _) g1⟩
theorem rformed_by (n d b1 b2 : Bool) (s t sg : ByteArray) (c : Int) (b : Bool) (hb : b = (b1 && (b2 && (decide (0 < c) && decide (sg.toList = [1]))))) (hcc : c ≤ 0 ∨ c = 1)
    (HF1 : Hid (∀ w, Calls Tryz.prog 96 #[whole n s] w fun e w' => e = .returned (.bool b1) ∧ w.grownBy w' none))
    (HF2 : Hid (∀ w, Calls Tryz.prog 96 #[whole d t] w fun e w' => e = .returned (.bool b2) ∧ w.grownBy w' none))
    (HS : Hid (∀ w, Calls Tryz.prog 66 #[whole d t] w fun e w' => e = .returned (.int .i64 c) ∧ w.grownBy w' none))
    (HC : Hid (b1 = true → b2 = true → ∀ w, Calls Tryz.prog 97 #[whole n s, whole d t] w fun e w' => e = .returned (whole false sg) ∧ w.grownBy w' none))
    (HO : Hid (∀ w, Calls Tryz.prog 47 #[.int .i64 1] w fun e w' => e = .returned (whole false oneS) ∧ w.grownBy w' none)) (w : World) :
    Calls Tryz.prog 49 #[frac n s d t] w fun e w' => e = .returned (.bool b) ∧ w.grownBy w' none := by
  cases b1
  · obtain rfl : b = false := by rw [hb]; rfl
    clear hb hcc HC
    go_enter Tryz.func49, Tryz.ntmps49
    go_wp2_with fail
    refine (HF1.out _).mono ?_
    rintro e w1 ⟨rfl, g1⟩
    have HG : Hid (w.grownBy w1 none) := grownBy_trans (grow1 _ _) g1
    clear g1
    go_wp2_with fail
    go_ret
    exact ⟨rfl, HG.out⟩
  · cases b2
    · obtain rfl : b = false := by rw [hb]; rfl
      clear hb hcc HC
      go_enter Tryz.func49, Tryz.ntmps49
      go_wp2_with fail
      refine (HF1.out _).mono ?_
      rintro e w1 ⟨rfl, g1⟩
      have hQ : QBlk w1 w.heap.size (.bool n) (.string s) (.bool d) (.string t) := QBlk.kept (w := w.alloc (qObj n s d t)) (heap_alloc_new _ _) g1 (by simp)
      have HG : Hid (w.grownBy w1 none) := grownBy_trans (grow1 _ _) g1
      have c2 := hQ.c2
      have c3 := hQ.c3
      clear g1 hQ
      go_wp2_with fail
      refine (HF2.out _).mono ?_
      rintro e w2 ⟨rfl, g2⟩
      have HG2 : Hid (w.grownBy w2 none) := grownBy_trans HG.out g2
      clear g2 c2 c3
      go_wp2_with fail
      go_ret
      exact ⟨rfl, HG2.out⟩
    · have HCC := HC.out rfl rfl
      have HC' : Hid (∀ w, Calls Tryz.prog 97 #[whole n s, whole d t] w fun e w' => e = .returned (whole false sg) ∧ w.grownBy w' none) := HCC
      clear HC HCC
      go_enter Tryz.func49, Tryz.ntmps49
      go_wp2_with fail
      refine (HF1.out _).mono ?_
      rintro e w1 ⟨rfl, g1⟩
      have hQ : QBlk w1 w.heap.size (.bool n) (.string s) (.bool d) (.string t) := QBlk.kept (w := w.alloc (qObj n s d t)) (heap_alloc_new _ _) g1 (by simp)
      have HQ : Hid (QBlk w1 w.heap.size (.bool n) (.string s) (.bool d) (.string t)) := hQ
      have HG : Hid (w.grownBy w1 none) := grownBy_trans (grow1 _ _) g1
      have c2 := hQ.c2
      have c3 := hQ.c3
      clear g1 hQ
      go_wp2_with fail
      refine (HF2.out _).mono ?_
      rintro e w2 ⟨rfl, g2⟩
      have HQ2 : Hid (QBlk w2 w.heap.size (.bool n) (.string s) (.bool d) (.string t)) := HQ.out.kept g2 (by simp)
      have HG2 : Hid (w.grownBy w2 none) := grownBy_trans HG.out g2
      clear g2 c2 c3 HQ HG
      have c2 := HQ2.out.c2
      have c3 := HQ2.out.c3
      go_wp2_with fail
      refine (HS.out _).mono ?_
      rintro e w3 ⟨rfl, g3⟩
      have HQ3 : Hid (QBlk w3 w.heap.size (.bool n) (.string s) (.bool d) (.string t)) := HQ2.out.kept g3 (by simp)
      have HG3 : Hid (w.grownBy w3 none) := grownBy_trans HG2.out g3
      clear g3 c2 c3 HQ2 HG2
      have c0 := HQ3.out.c0
      have c1 := HQ3.out.c1
      have c2 := HQ3.out.c2
      have c3 := HQ3.out.c3
      rcases hcc with hc | rfl
      · obtain rfl : b = false := by rw [hb, decide_eq_false (by omega)]; rfl
        clear hb
        go_wp2_with fail
        go_ret
        exact ⟨rfl, HG3.out⟩
      · have hb' : b = decide (sg.toList = [1]) := by rw [hb]; rfl
        clear hb
        go_wp2_with fail
        refine (HC'.out _).mono ?_
        rintro e w4 ⟨rfl, g4⟩
        have HG4 : Hid (w.grownBy w4 none) := grownBy_trans HG3.out g4
        clear g4
        go_wp2_with fail
        refine (HO.out _).mono ?_
        rintro e w5 ⟨rfl, g5⟩
        have HG5 : Hid (w.grownBy w5 none) := grownBy_trans HG4.out g5
        clear g5
        go_wp2_with fail
        all_goals
          rename_i h
          go_ret
          exact ⟨ret_bool (by rw [hb']; simp [h]), HG5.out⟩
theorem rmayq_by (n d b1 b2 : Bool) (s t : ByteArray)
    (HF : Hid (∀ w, Calls Tryz.prog 48 #[frac n s d t] w fun e w' => e = .returned (.bool b1) ∧ w' = w.alloc (qObj n s d t)))
    (HG : Hid (b1 = true → ∀ w, Calls Tryz.prog 49 #[frac n s d t] w fun e w' => e = .returned (.bool b2) ∧ w.grownBy w' none)) (w : World) :
    Calls Tryz.prog 11 #[frac n s d t] w fun e w' => e = .returned (.bool (b1 && b2)) ∧ w.grownBy w' none := by
  cases b1
  · go_enter Tryz.func11, Tryz.ntmps11
    go_wp2_with fail
    refine (HF.out _).mono ?_
    rintro e w1 ⟨rfl, rfl⟩
    go_wp2_with fail
    go_ret
    exact ⟨rfl, grow2 _ _ _⟩
  · have HGG : Hid (∀ w, Calls Tryz.prog 49 #[frac n s d t] w fun e w' => e = .returned (.bool b2) ∧ w.grownBy w' none) := HG.out rfl
    clear HG
    go_enter Tryz.func11, Tryz.ntmps11
    go_wp2_with fail
    refine (HF.out _).mono ?_
    rintro e w1 ⟨rfl, rfl⟩
    go_wp2_with fail
    refine (HGG.out _).mono ?_
    rintro e w2 ⟨rfl, g2⟩
    go_wp2_with fail
    go_ret
    exact ⟨ret_bool (by simp), grownBy_trans (grow2 _ _ _) g2⟩
theorem rof_one (w : World) : Calls Tryz.prog 47 #[.int .i64 1] w fun e w' => e = .returned (whole false oneS) ∧ w.grownBy w' none := by
  refine (rOf_any 1 (by decide) (by decide) w).mono ?_
  rintro e w' ⟨s, rfl, hs, hg⟩
  obtain ⟨_, h2⟩ := isz_one (n := false) (s := s) ⟨rfl, hs⟩
  exact ⟨by rw [h2]; rfl, hg⟩
theorem rmayq_any (n d : Bool) (s t : ByteArray) (z1 : s.size ≤ maxLen) (z2 : t.size ≤ maxLen) (w : World) :
    Calls Tryz.prog 11 #[frac n s d t] w fun e w' => e = .returned (.bool (mayQ n s d t)) ∧ w.grownBy w' none := by
  by_cases hl : s.size ≤ 1024 ∧ t.size ≤ 1024
  · have hf : fitsB s t = true := decide_eq_true hl
    have hF : ∀ w, Calls Tryz.prog 48 #[frac n s d t] w fun e w' => e = .returned (.bool true) ∧ w' = w.alloc (qObj n s d t) := fun w => by
      have := rfits_any n d s t z1 z2 w
      rw [hf] at this
      exact this
    have f1 : may n s = formed n s := by rw [may_eq, decide_eq_true (show s.size ≤ 16384 by omega), Bool.and_true]
    have f2 : may d t = formed d t := by rw [may_eq, decide_eq_true (show t.size ≤ 16384 by omega), Bool.and_true]
    obtain ⟨sg, hg⟩ := isz_str (Int.gcd (num n s) (num d t))
    have hcc : sgn d t ≤ 0 ∨ sgn d t = 1 := by
      unfold sgn
      split
      · exact .inl (by decide)
      · cases d
        · exact .inr rfl
        · exact .inl (by decide)
    have key := rmayq_by n d true (mayQ n s d t) s t hF (fun _ w => ?_) w
    · exact key
    · refine rformed_by n d (may n s) (may d t) s t sg (sgn d t) _ ?_ hcc (fun w => ?_) (fun w => ?_) (fun w => rSign_any d t w) (fun h1 h2 w => rgcd_is (k := 1024) (by decide) (may_sz h1 hl.1) (may_sz h2 hl.2) hg w) (fun w => rof_one w) w
      · cases hn : may n s
        · simp [mayQ, hn]
        · cases hd : may d t
          · simp [mayQ, hd]
          · have hs : (0 < num d t) ↔ 0 < sgn d t := by
              rcases sgn_cases hd with ⟨a, _, c, _⟩ | ⟨a, _, c, _⟩ | ⟨a, _, c, _⟩ <;> omega
            simp only [mayQ, hn, hd, decide_eq_true hl, Bool.true_and]
            rw [decide_eq_decide.2 hs, decide_eq_decide.2 (one_list hg)]
      · refine (formed_any n s z1 w).mono ?_
        rintro e w' ⟨rfl, rfl⟩
        exact ⟨by rw [f1], grow1 _ _⟩
      · refine (formed_any d t z2 w).mono ?_
        rintro e w' ⟨rfl, rfl⟩
        exact ⟨by rw [f2], grow1 _ _⟩
  · have hf : fitsB s t = false := decide_eq_false hl
    have hm : mayQ n s d t = false := by simp only [mayQ, decide_eq_false hl, Bool.false_and]
    rw [hm]
    exact rmayq_by n d false false s t (fun w => by
      have := rfits_any n d s t z1 z2 w
      rw [hf] at this
      exact this) (fun h => by cases h) w
theorem rtimes_is {k l : Nat} {x y : Int} {n1 n2 n' : Bool} {s1 s2 s' : ByteArray} (hk : k ≤ 16384) (hl : l ≤ 16384) (h1 : Sz k x n1 s1) (h2 : Sz l y n2 s2) (hq : IsZ (x * y) n' s') (w : World) :
    Calls Tryz.prog 76 #[whole n1 s1, whole n2 s2] w fun e w' => e = .returned (whole n' s') ∧ w.grownBy w' none := by
  refine (rTimes_z n1 n2 s1 s2 (h1.may hk) (h2.may hl) w).mono ?_
  rw [h1.num, h2.num]
  rintro e w' ⟨n, s, rfl, hz, hg⟩
  obtain ⟨rfl, rfl⟩ := whole_inj (hz.one hq)
  exact ⟨rfl, hg⟩
theorem rplus_is {k l : Nat} {x y : Int} {n1 n2 n' : Bool} {s1 s2 s' : ByteArray} (hk : k ≤ 16384) (hl : l ≤ 16384) (h1 : Sz k x n1 s1) (h2 : Sz l y n2 s2) (hq : IsZ (x + y) n' s') (w : World) :
    Calls Tryz.prog 72 #[whole n1 s1, whole n2 s2] w fun e w' => e = .returned (whole n' s') ∧ w.grownBy w' none := by
  refine (rPlus_z n1 n2 s1 s2 (h1.may hk) (h2.may hl) w).mono ?_
  rw [h1.num, h2.num]
  rintro e w' ⟨n, s, rfl, hz, hg⟩
  obtain ⟨rfl, rfl⟩ := whole_inj (hz.one hq)
  exact ⟨rfl, hg⟩
theorem rplusq_any {x y u v : Int} {n d n2 d2 n' d' : Bool} {s t s2 t2 s' t' : ByteArray} (h1 : IsQ x y n s d t) (h2 : IsQ u v n2 s2 d2 t2) (L : Low (x * v + u * y) (y * v) n' s' d' t') (w : World) :
    Calls Tryz.prog 77 #[frac n s d t, frac n2 s2 d2 t2] w fun e w' => e = .returned (frac n' s' d' t') ∧ w.grownBy w' none := by
  obtain ⟨p1, q1, z1⟩ := isz_ex (x * v)
  obtain ⟨p2, q2, z2⟩ := isz_ex (u * y)
  obtain ⟨p3, q3, z3⟩ := isz_ex (y * v)
  obtain ⟨pn, ps, zs⟩ := isz_ex (x * v + u * y)
  have k1 := z1.sz (mul_lt256 h1.zn.2 h2.zd.2)
  have k2 := z2.sz (mul_lt256 h2.zn.2 h1.zd.2)
  have k3 := z3.sz (mul_lt256 h1.zd.2 h2.zd.2)
  have ks := zs.sz (sum_lt k1.2 k2.2).1
  refine rplusq_by n d n2 d2 p1 p2 p3 pn _ _ s t s2 t2 q1 q2 q3 ps _ _ ?_ (fun w => rplus_is (by decide) (by decide) k1 k2 zs w) (fun w => rof_any (k := 1024 + 1024 + 1) (by decide) ks (k3.up (by decide)) (mul_ne h1.pos h2.pos) L w) w
  intro a1 b1 a2 b2 c1 c2 w h
  rcases h with ⟨rfl, rfl, rfl, rfl, rfl, rfl⟩ | ⟨rfl, rfl, rfl, rfl, rfl, rfl⟩ | ⟨rfl, rfl, rfl, rfl, rfl, rfl⟩
  · exact rtimes_is (by decide) (by decide) h1.zn h2.zd z1 w
  · exact rtimes_is (by decide) (by decide) h2.zn h1.zd z2 w
  · exact rtimes_is (by decide) (by decide) h1.zd h2.zd z3 w
theorem IsQ.neg {u v : Int} {n2 d2 : Bool} {s2 t2 : ByteArray} (h : IsQ u v n2 s2 d2 t2) : IsQ (-u) v (ngs n2 s2) s2 d2 t2 :=
  ⟨⟨ngs_z h.zn.1 (h.zn.may (by decide)), by rw [Int.natAbs_neg]; exact h.zn.2⟩, h.zd, h.pos, by rw [Int.neg_gcd]; exact h.low⟩
theorem rminusq_any {x y u v : Int} {n d n2 d2 n' d' : Bool} {s t s2 t2 s' t' : ByteArray} (h1 : IsQ x y n s d t) (h2 : IsQ u v n2 s2 d2 t2) (L : Low (x * v - u * y) (y * v) n' s' d' t') (w : World) :
    Calls Tryz.prog 70 #[frac n s d t, frac n2 s2 d2 t2] w fun e w' => e = .returned (frac n' s' d' t') ∧ w.grownBy w' none := by
  have e : x * v - u * y = x * v + -u * y := by rw [Int.neg_mul, Int.sub_eq_add_neg]
  rw [e] at L
  exact rminusq_by n d n2 d2 (ngs n2 s2) _ _ s t s2 t2 _ _ (fun w => rnegq_any n2 d2 (ngs n2 s2) s2 t2 (fun w => rNeg_any n2 s2 w) w) (fun w => rplusq_any h1 h2.neg L w) w
theorem roverq_any {x y u v : Int} {n d n2 d2 n' d' : Bool} {s t s2 t2 s' t' : ByteArray} (h1 : IsQ x y n s d t) (h2 : IsQ u v n2 s2 d2 t2) (hu : u ≠ 0) (L : Low (x * v) (y * u) n' s' d' t') (w : World) :
    Calls Tryz.prog 78 #[frac n s d t, frac n2 s2 d2 t2] w fun e w' => e = .returned (frac n' s' d' t') ∧ w.grownBy w' none := by
  obtain ⟨p1, q1, z1⟩ := isz_ex (x * v)
  obtain ⟨p2, q2, z2⟩ := isz_ex (y * u)
  have k1 := z1.sz (mul_lt256 h1.zn.2 h2.zd.2)
  have k2 := z2.sz (mul_lt256 h1.zd.2 h2.zn.2)
  have hne : y * u ≠ 0 := Int.mul_ne_zero (Int.ne_of_gt h1.pos) hu
  refine roverq_by n d n2 d2 p1 p2 _ _ s t s2 t2 q1 q2 _ _ ?_ (fun w => rof_any (k := 1024 + 1024) (by decide) k1 k2 hne L w) w
  intro a1 b1 a2 b2 c1 c2 w h
  rcases h with ⟨rfl, rfl, rfl, rfl, rfl, rfl⟩ | ⟨rfl, rfl, rfl, rfl, rfl, rfl⟩
  · exact rtimes_is (by decide) (by decide) h1.zn h2.zd z1 w
  · exact rtimes_is (by decide) (by decide) h1.zd h2.zn z2 w
end Go.Proofs.YtdfliaogmlpefaaGreatDoor
