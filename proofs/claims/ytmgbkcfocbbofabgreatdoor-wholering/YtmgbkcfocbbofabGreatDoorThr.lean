/-
  The walk over the law's three: sums and products of three numbers.
-/
import Derived.Test.YtmgbkcfocbbofabGreatDoorRga
import Derived.Test.YtmgbkcfocbbofabGreatDoorOkl
namespace Go.Proofs.YtmgbkcfocbbofabGreatDoor
open Go.RowKit Go.Lib Go.Sort

theorem whole_inj {n n' : Bool} {s s' : ByteArray} (h : whole n s = whole n' s') : n = n' ∧ s = s' := by
  cases h; exact ⟨rfl, rfl⟩
theorem ok_seven (w : World) (o : Obj) : Calls Tryz.prog 11 #[.slice (some ⟨w.heap.size + 1, 0, none⟩) 7 7] ((w.alloc o).alloc (.cells #[.int .i64 0, .int .i64 0, .int .i64 0, .int .i64 0, .int .i64 0, .int .i64 0, .int .i64 0] 28)) fun e w' => e = .returned (.bool true) ∧ w' = (w.alloc o).alloc (.cells #[.int .i64 0, .int .i64 0, .int .i64 0, .int .i64 0, .int .i64 0, .int .i64 0, .int .i64 0] 28) := by
  refine ok_all _ _ 7 7 (by decide) (by decide) fun j hj => ?_
  have h := heap_alloc_new (w.alloc o) (.cells #[.int .i64 0, .int .i64 0, .int .i64 0, .int .i64 0, .int .i64 0, .int .i64 0, .int .i64 0] 28)
  rw [show (w.alloc o).heap.size = w.heap.size + 1 by simp] at h
  simp only [World.cell?, h]
  match j, hj with
  | 0, _ | 1, _ | 2, _ | 3, _ | 4, _ | 5, _ | 6, _ => rfl
theorem ok_eight (w : World) : Calls Tryz.prog 11 #[.slice (some ⟨w.heap.size, 0, none⟩) 8 8] (w.alloc (.cells #[.int .i64 0, .int .i64 0, .int .i64 0, .int .i64 0, .int .i64 0, .int .i64 0, .int .i64 0, .int .i64 0] 28)) fun e w' => e = .returned (.bool true) ∧ w' = w.alloc (.cells #[.int .i64 0, .int .i64 0, .int .i64 0, .int .i64 0, .int .i64 0, .int .i64 0, .int .i64 0, .int .i64 0] 28) := by
  refine ok_all _ _ 8 8 (by decide) (by decide) fun j hj => ?_
  have h := heap_alloc_new w (.cells #[.int .i64 0, .int .i64 0, .int .i64 0, .int .i64 0, .int .i64 0, .int .i64 0, .int .i64 0, .int .i64 0] 28)
  simp only [World.cell?, h]
  match j, hj with
  | 0, _ | 1, _ | 2, _ | 3, _ | 4, _ | 5, _ | 6, _ | 7, _ => rfl
theorem cmpZ_sub (x y : Int) : cmpZ (x - y) 0 = cmpZ x y := by
  unfold cmpZ
  repeat' split
  all_goals first | rfl | omega

set_option maxHeartbeats 6400000 in
set_option maxRecDepth 1000000 in
theorem three_yes (na nb nc : Bool) (sa sb sc : ByteArray) (x y z : Int) (za : Sz 400 x na sa) (zb : Sz 400 y nb sb) (zc : Sz 400 z nc sc) (w : World) :
    Calls Tryz.prog 12 #[whole na sa, whole nb sb, whole nc sc] w fun e w' => e = .returned (.bool true) ∧ w.grownBy w' none := by
  go_enter Tryz.func12, Tryz.ntmps12
  go_wp2_with fail
  have ka : Hid (WBlk (((w.alloc (wObj na sa)).alloc (wObj nb sb)).alloc (wObj nc sc)) w.heap.size (.bool na) (.string sa)) := old_alloc _ _ (at_alloc1 _ _ _)
  have kb : Hid (WBlk (((w.alloc (wObj na sa)).alloc (wObj nb sb)).alloc (wObj nc sc)) (w.heap.size + 1) (.bool nb) (.string sb)) := at_alloc2 _ _ _ _
  have kc : Hid (WBlk (((w.alloc (wObj na sa)).alloc (wObj nb sb)).alloc (wObj nc sc)) (w.heap.size + 1 + 1) (.bool nc) (.string sc)) := at_alloc3 _ _ _ _
  have HG : Hid (w.grownBy (((w.alloc (wObj na sa)).alloc (wObj nb sb)).alloc (wObj nc sc)) none) := grow3 _ _ _ _
  refine (add_sz (k := 400) (by decide) (za.up (by decide)) (zb.up (by decide)) _).mono ?_
  rintro e wab ⟨nab, sab, rfl, zab, gab⟩
  replace ka : Hid (WBlk (wab.alloc (wObj nab sab)) w.heap.size (.bool na) (.string sa)) := ka.out.kept (grownBy_trans gab (grow1 _ _)) (by simp)
  replace kb : Hid (WBlk (wab.alloc (wObj nab sab)) (w.heap.size + 1) (.bool nb) (.string sb)) := kb.out.kept (grownBy_trans gab (grow1 _ _)) (by simp)
  replace kc : Hid (WBlk (wab.alloc (wObj nab sab)) (w.heap.size + 1 + 1) (.bool nc) (.string sc)) := kc.out.kept (grownBy_trans gab (grow1 _ _)) (by simp)
  replace HG : Hid (w.grownBy (wab.alloc (wObj nab sab)) none) := grownBy_trans HG.out (grownBy_trans gab (grow1 _ _))
  have kab : Hid (WBlk (wab.alloc (wObj nab sab)) wab.heap.size (.bool nab) (.string sab)) := heap_alloc_new _ _
  clear gab
  have cb0 := kb.out.c0
  have cb1 := kb.out.c1
  have cc0 := kc.out.c0
  have cc1 := kc.out.c1
  go_wp2_with fail
  clear cb0 cb1 cc0 cc1
  refine (add_sz (k := 400) (by decide) (zb.up (by decide)) (zc.up (by decide)) _).mono ?_
  rintro e wbc ⟨nbc, sbc, rfl, zbc, gbc⟩
  replace ka : Hid (WBlk (wbc.alloc (wObj nbc sbc)) w.heap.size (.bool na) (.string sa)) := ka.out.kept (grownBy_trans gbc (grow1 _ _)) (by simp)
  replace kb : Hid (WBlk (wbc.alloc (wObj nbc sbc)) (w.heap.size + 1) (.bool nb) (.string sb)) := kb.out.kept (grownBy_trans gbc (grow1 _ _)) (by simp)
  replace kc : Hid (WBlk (wbc.alloc (wObj nbc sbc)) (w.heap.size + 1 + 1) (.bool nc) (.string sc)) := kc.out.kept (grownBy_trans gbc (grow1 _ _)) (by simp)
  replace kab : Hid (WBlk (wbc.alloc (wObj nbc sbc)) wab.heap.size (.bool nab) (.string sab)) := kab.out.kept (grownBy_trans gbc (grow1 _ _)) (by simp)
  replace HG : Hid (w.grownBy (wbc.alloc (wObj nbc sbc)) none) := grownBy_trans HG.out (grownBy_trans gbc (grow1 _ _))
  have kbc : Hid (WBlk (wbc.alloc (wObj nbc sbc)) wbc.heap.size (.bool nbc) (.string sbc)) := heap_alloc_new _ _
  clear gbc
  have cab0 := kab.out.c0
  have cab1 := kab.out.c1
  have cc0 := kc.out.c0
  have cc1 := kc.out.c1
  go_wp2_with fail
  clear cab0 cab1 cc0 cc1
  refine (add_sz (k := 401) (by decide) (zab.up (by decide)) (zc.up (by decide)) _).mono ?_
  rintro e wxx ⟨nxx, sxx, rfl, zxx, gxx⟩
  replace ka : Hid (WBlk (wxx.alloc (wObj nxx sxx)) w.heap.size (.bool na) (.string sa)) := ka.out.kept (grownBy_trans gxx (grow1 _ _)) (by simp)
  replace kb : Hid (WBlk (wxx.alloc (wObj nxx sxx)) (w.heap.size + 1) (.bool nb) (.string sb)) := kb.out.kept (grownBy_trans gxx (grow1 _ _)) (by simp)
  replace kc : Hid (WBlk (wxx.alloc (wObj nxx sxx)) (w.heap.size + 1 + 1) (.bool nc) (.string sc)) := kc.out.kept (grownBy_trans gxx (grow1 _ _)) (by simp)
  replace kab : Hid (WBlk (wxx.alloc (wObj nxx sxx)) wab.heap.size (.bool nab) (.string sab)) := kab.out.kept (grownBy_trans gxx (grow1 _ _)) (by simp)
  replace kbc : Hid (WBlk (wxx.alloc (wObj nxx sxx)) wbc.heap.size (.bool nbc) (.string sbc)) := kbc.out.kept (grownBy_trans gxx (grow1 _ _)) (by simp)
  replace HG : Hid (w.grownBy (wxx.alloc (wObj nxx sxx)) none) := grownBy_trans HG.out (grownBy_trans gxx (grow1 _ _))
  have kxx : Hid (WBlk (wxx.alloc (wObj nxx sxx)) wxx.heap.size (.bool nxx) (.string sxx)) := heap_alloc_new _ _
  clear gxx
  have ca0 := ka.out.c0
  have ca1 := ka.out.c1
  have cbc0 := kbc.out.c0
  have cbc1 := kbc.out.c1
  go_wp2_with fail
  clear ca0 ca1 cbc0 cbc1
  refine (add_sz (k := 401) (by decide) (za.up (by decide)) (zbc.up (by decide)) _).mono ?_
  rintro e wyy ⟨nyy, syy, rfl, zyy, gyy⟩
  replace ka : Hid (WBlk (wyy.alloc (wObj nyy syy)) w.heap.size (.bool na) (.string sa)) := ka.out.kept (grownBy_trans gyy (grow1 _ _)) (by simp)
  replace kb : Hid (WBlk (wyy.alloc (wObj nyy syy)) (w.heap.size + 1) (.bool nb) (.string sb)) := kb.out.kept (grownBy_trans gyy (grow1 _ _)) (by simp)
  replace kc : Hid (WBlk (wyy.alloc (wObj nyy syy)) (w.heap.size + 1 + 1) (.bool nc) (.string sc)) := kc.out.kept (grownBy_trans gyy (grow1 _ _)) (by simp)
  replace kab : Hid (WBlk (wyy.alloc (wObj nyy syy)) wab.heap.size (.bool nab) (.string sab)) := kab.out.kept (grownBy_trans gyy (grow1 _ _)) (by simp)
  clear kbc
  replace kxx : Hid (WBlk (wyy.alloc (wObj nyy syy)) wxx.heap.size (.bool nxx) (.string sxx)) := kxx.out.kept (grownBy_trans gyy (grow1 _ _)) (by simp)
  replace HG : Hid (w.grownBy (wyy.alloc (wObj nyy syy)) none) := grownBy_trans HG.out (grownBy_trans gyy (grow1 _ _))
  have kyy : Hid (WBlk (wyy.alloc (wObj nyy syy)) wyy.heap.size (.bool nyy) (.string syy)) := heap_alloc_new _ _
  clear gyy
  have cab0 := kab.out.c0
  have cab1 := kab.out.c1
  have cb0 := kb.out.c0
  have cb1 := kb.out.c1
  go_wp2_with fail
  clear cab0 cab1 cb0 cb1
  refine (sub_sz (k := 401) (by decide) (zab.up (by decide)) (zb.up (by decide)) _).mono ?_
  rintro e wbk ⟨nbk, sbk, rfl, zbk, gbk⟩
  replace ka : Hid (WBlk (wbk.alloc (wObj nbk sbk)) w.heap.size (.bool na) (.string sa)) := ka.out.kept (grownBy_trans gbk (grow1 _ _)) (by simp)
  replace kb : Hid (WBlk (wbk.alloc (wObj nbk sbk)) (w.heap.size + 1) (.bool nb) (.string sb)) := kb.out.kept (grownBy_trans gbk (grow1 _ _)) (by simp)
  replace kc : Hid (WBlk (wbk.alloc (wObj nbk sbk)) (w.heap.size + 1 + 1) (.bool nc) (.string sc)) := kc.out.kept (grownBy_trans gbk (grow1 _ _)) (by simp)
  replace kab : Hid (WBlk (wbk.alloc (wObj nbk sbk)) wab.heap.size (.bool nab) (.string sab)) := kab.out.kept (grownBy_trans gbk (grow1 _ _)) (by simp)
  replace kxx : Hid (WBlk (wbk.alloc (wObj nbk sbk)) wxx.heap.size (.bool nxx) (.string sxx)) := kxx.out.kept (grownBy_trans gbk (grow1 _ _)) (by simp)
  replace kyy : Hid (WBlk (wbk.alloc (wObj nbk sbk)) wyy.heap.size (.bool nyy) (.string syy)) := kyy.out.kept (grownBy_trans gbk (grow1 _ _)) (by simp)
  replace HG : Hid (w.grownBy (wbk.alloc (wObj nbk sbk)) none) := grownBy_trans HG.out (grownBy_trans gbk (grow1 _ _))
  have kbk : Hid (WBlk (wbk.alloc (wObj nbk sbk)) wbk.heap.size (.bool nbk) (.string sbk)) := heap_alloc_new _ _
  clear gbk
  have ca0 := ka.out.c0
  have ca1 := ka.out.c1
  have cb0 := kb.out.c0
  have cb1 := kb.out.c1
  go_wp2_with fail
  clear ca0 ca1 cb0 cb1
  refine (mul_sz (k := 400) (l := 400) (by decide) za zb _).mono ?_
  rintro e wp ⟨np, sp, rfl, zp, gp⟩
  replace ka : Hid (WBlk (wp.alloc (wObj np sp)) w.heap.size (.bool na) (.string sa)) := ka.out.kept (grownBy_trans gp (grow1 _ _)) (by simp)
  replace kb : Hid (WBlk (wp.alloc (wObj np sp)) (w.heap.size + 1) (.bool nb) (.string sb)) := kb.out.kept (grownBy_trans gp (grow1 _ _)) (by simp)
  replace kc : Hid (WBlk (wp.alloc (wObj np sp)) (w.heap.size + 1 + 1) (.bool nc) (.string sc)) := kc.out.kept (grownBy_trans gp (grow1 _ _)) (by simp)
  replace kab : Hid (WBlk (wp.alloc (wObj np sp)) wab.heap.size (.bool nab) (.string sab)) := kab.out.kept (grownBy_trans gp (grow1 _ _)) (by simp)
  replace kxx : Hid (WBlk (wp.alloc (wObj np sp)) wxx.heap.size (.bool nxx) (.string sxx)) := kxx.out.kept (grownBy_trans gp (grow1 _ _)) (by simp)
  replace kyy : Hid (WBlk (wp.alloc (wObj np sp)) wyy.heap.size (.bool nyy) (.string syy)) := kyy.out.kept (grownBy_trans gp (grow1 _ _)) (by simp)
  replace kbk : Hid (WBlk (wp.alloc (wObj np sp)) wbk.heap.size (.bool nbk) (.string sbk)) := kbk.out.kept (grownBy_trans gp (grow1 _ _)) (by simp)
  replace HG : Hid (w.grownBy (wp.alloc (wObj np sp)) none) := grownBy_trans HG.out (grownBy_trans gp (grow1 _ _))
  have kp : Hid (WBlk (wp.alloc (wObj np sp)) wp.heap.size (.bool np) (.string sp)) := heap_alloc_new _ _
  clear gp
  have cb0 := kb.out.c0
  have cb1 := kb.out.c1
  have ca0 := ka.out.c0
  have ca1 := ka.out.c1
  go_wp2_with fail
  clear cb0 cb1 ca0 ca1
  refine (mul_sz (k := 400) (l := 400) (by decide) zb za _).mono ?_
  rintro e wq ⟨nq, sq, rfl, zq, gq⟩
  replace ka : Hid (WBlk (wq.alloc (wObj nq sq)) w.heap.size (.bool na) (.string sa)) := ka.out.kept (grownBy_trans gq (grow1 _ _)) (by simp)
  replace kb : Hid (WBlk (wq.alloc (wObj nq sq)) (w.heap.size + 1) (.bool nb) (.string sb)) := kb.out.kept (grownBy_trans gq (grow1 _ _)) (by simp)
  replace kc : Hid (WBlk (wq.alloc (wObj nq sq)) (w.heap.size + 1 + 1) (.bool nc) (.string sc)) := kc.out.kept (grownBy_trans gq (grow1 _ _)) (by simp)
  replace kab : Hid (WBlk (wq.alloc (wObj nq sq)) wab.heap.size (.bool nab) (.string sab)) := kab.out.kept (grownBy_trans gq (grow1 _ _)) (by simp)
  replace kxx : Hid (WBlk (wq.alloc (wObj nq sq)) wxx.heap.size (.bool nxx) (.string sxx)) := kxx.out.kept (grownBy_trans gq (grow1 _ _)) (by simp)
  replace kyy : Hid (WBlk (wq.alloc (wObj nq sq)) wyy.heap.size (.bool nyy) (.string syy)) := kyy.out.kept (grownBy_trans gq (grow1 _ _)) (by simp)
  replace kbk : Hid (WBlk (wq.alloc (wObj nq sq)) wbk.heap.size (.bool nbk) (.string sbk)) := kbk.out.kept (grownBy_trans gq (grow1 _ _)) (by simp)
  replace kp : Hid (WBlk (wq.alloc (wObj nq sq)) wp.heap.size (.bool np) (.string sp)) := kp.out.kept (grownBy_trans gq (grow1 _ _)) (by simp)
  replace HG : Hid (w.grownBy (wq.alloc (wObj nq sq)) none) := grownBy_trans HG.out (grownBy_trans gq (grow1 _ _))
  have kq : Hid (WBlk (wq.alloc (wObj nq sq)) wq.heap.size (.bool nq) (.string sq)) := heap_alloc_new _ _
  clear gq
  go_wp2_with fail
  refine (ok_seven _ _).mono ?_
  rintro e w' ⟨rfl, rfl⟩
  replace ka : Hid (WBlk ((wq.alloc (wObj nq sq)).alloc (.cells #[.int .i64 0, .int .i64 0, .int .i64 0, .int .i64 0, .int .i64 0, .int .i64 0, .int .i64 0] 28)) w.heap.size (.bool na) (.string sa)) := ka.out.kept (grow1 _ _) (by simp)
  replace kb : Hid (WBlk ((wq.alloc (wObj nq sq)).alloc (.cells #[.int .i64 0, .int .i64 0, .int .i64 0, .int .i64 0, .int .i64 0, .int .i64 0, .int .i64 0] 28)) (w.heap.size + 1) (.bool nb) (.string sb)) := kb.out.kept (grow1 _ _) (by simp)
  replace kc : Hid (WBlk ((wq.alloc (wObj nq sq)).alloc (.cells #[.int .i64 0, .int .i64 0, .int .i64 0, .int .i64 0, .int .i64 0, .int .i64 0, .int .i64 0] 28)) (w.heap.size + 1 + 1) (.bool nc) (.string sc)) := kc.out.kept (grow1 _ _) (by simp)
  replace kab : Hid (WBlk ((wq.alloc (wObj nq sq)).alloc (.cells #[.int .i64 0, .int .i64 0, .int .i64 0, .int .i64 0, .int .i64 0, .int .i64 0, .int .i64 0] 28)) wab.heap.size (.bool nab) (.string sab)) := kab.out.kept (grow1 _ _) (by simp)
  replace kxx : Hid (WBlk ((wq.alloc (wObj nq sq)).alloc (.cells #[.int .i64 0, .int .i64 0, .int .i64 0, .int .i64 0, .int .i64 0, .int .i64 0, .int .i64 0] 28)) wxx.heap.size (.bool nxx) (.string sxx)) := kxx.out.kept (grow1 _ _) (by simp)
  replace kyy : Hid (WBlk ((wq.alloc (wObj nq sq)).alloc (.cells #[.int .i64 0, .int .i64 0, .int .i64 0, .int .i64 0, .int .i64 0, .int .i64 0, .int .i64 0] 28)) wyy.heap.size (.bool nyy) (.string syy)) := kyy.out.kept (grow1 _ _) (by simp)
  replace kbk : Hid (WBlk ((wq.alloc (wObj nq sq)).alloc (.cells #[.int .i64 0, .int .i64 0, .int .i64 0, .int .i64 0, .int .i64 0, .int .i64 0, .int .i64 0] 28)) wbk.heap.size (.bool nbk) (.string sbk)) := kbk.out.kept (grow1 _ _) (by simp)
  replace kp : Hid (WBlk ((wq.alloc (wObj nq sq)).alloc (.cells #[.int .i64 0, .int .i64 0, .int .i64 0, .int .i64 0, .int .i64 0, .int .i64 0, .int .i64 0] 28)) wp.heap.size (.bool np) (.string sp)) := kp.out.kept (grow1 _ _) (by simp)
  replace kq : Hid (WBlk ((wq.alloc (wObj nq sq)).alloc (.cells #[.int .i64 0, .int .i64 0, .int .i64 0, .int .i64 0, .int .i64 0, .int .i64 0, .int .i64 0] 28)) wq.heap.size (.bool nq) (.string sq)) := kq.out.kept (grow1 _ _) (by simp)
  replace HG : Hid (w.grownBy ((wq.alloc (wObj nq sq)).alloc (.cells #[.int .i64 0, .int .i64 0, .int .i64 0, .int .i64 0, .int .i64 0, .int .i64 0, .int .i64 0] 28)) none) := grownBy_trans HG.out (grow1 _ _)
  have cxx0 := kxx.out.c0
  have cxx1 := kxx.out.c1
  have ca0 := ka.out.c0
  have ca1 := ka.out.c1
  have cp0 := kp.out.c0
  have cp1 := kp.out.c1
  have Eyy := whole_inj (zxx.one zyy (Int.add_assoc x y z))
  have cyy0 : ((wq.alloc (wObj nq sq)).alloc (.cells #[.int .i64 0, .int .i64 0, .int .i64 0, .int .i64 0, .int .i64 0, .int .i64 0, .int .i64 0] 28)).cell? ⟨wyy.heap.size, 0, none⟩ = some (.bool nxx) := by rw [Eyy.1]; exact kyy.out.c0
  have cyy1 : ((wq.alloc (wObj nq sq)).alloc (.cells #[.int .i64 0, .int .i64 0, .int .i64 0, .int .i64 0, .int .i64 0, .int .i64 0, .int .i64 0] 28)).cell? ⟨wyy.heap.size, 1, none⟩ = some (.string sxx) := by rw [Eyy.2]; exact kyy.out.c1
  clear Eyy
  have Ebk := whole_inj (za.one zbk ((Int.add_sub_cancel x y).symm))
  have cbk0 : ((wq.alloc (wObj nq sq)).alloc (.cells #[.int .i64 0, .int .i64 0, .int .i64 0, .int .i64 0, .int .i64 0, .int .i64 0, .int .i64 0] 28)).cell? ⟨wbk.heap.size, 0, none⟩ = some (.bool na) := by rw [Ebk.1]; exact kbk.out.c0
  have cbk1 : ((wq.alloc (wObj nq sq)).alloc (.cells #[.int .i64 0, .int .i64 0, .int .i64 0, .int .i64 0, .int .i64 0, .int .i64 0, .int .i64 0] 28)).cell? ⟨wbk.heap.size, 1, none⟩ = some (.string sa) := by rw [Ebk.2]; exact kbk.out.c1
  clear Ebk
  have Eq := whole_inj (zp.one zq (Int.mul_comm x y))
  have cq0 : ((wq.alloc (wObj nq sq)).alloc (.cells #[.int .i64 0, .int .i64 0, .int .i64 0, .int .i64 0, .int .i64 0, .int .i64 0, .int .i64 0] 28)).cell? ⟨wq.heap.size, 0, none⟩ = some (.bool np) := by rw [Eq.1]; exact kq.out.c0
  have cq1 : ((wq.alloc (wObj nq sq)).alloc (.cells #[.int .i64 0, .int .i64 0, .int .i64 0, .int .i64 0, .int .i64 0, .int .i64 0, .int .i64 0] 28)).cell? ⟨wq.heap.size, 1, none⟩ = some (.string sp) := by rw [Eq.2]; exact kq.out.c1
  clear Eq
  have cc0 := kc.out.c0
  have cc1 := kc.out.c1
  go_wp2_with fail
  clear cxx0 cxx1 ca0 ca1 cp0 cp1 cyy0 cyy1 cbk0 cbk1 cq0 cq1 cc0 cc1
  clear kxx zxx
  clear kyy zyy
  clear kbk zbk
  clear kq zq
  refine (mul_sz (k := 800) (l := 400) (by decide) zp zc _).mono ?_
  rintro e wpc ⟨npc, spc, rfl, zpc, gpc⟩
  replace ka : Hid (WBlk (wpc.alloc (wObj npc spc)) w.heap.size (.bool na) (.string sa)) := ka.out.kept (grownBy_trans gpc (grow1 _ _)) (by simp)
  replace kb : Hid (WBlk (wpc.alloc (wObj npc spc)) (w.heap.size + 1) (.bool nb) (.string sb)) := kb.out.kept (grownBy_trans gpc (grow1 _ _)) (by simp)
  replace kc : Hid (WBlk (wpc.alloc (wObj npc spc)) (w.heap.size + 1 + 1) (.bool nc) (.string sc)) := kc.out.kept (grownBy_trans gpc (grow1 _ _)) (by simp)
  replace kab : Hid (WBlk (wpc.alloc (wObj npc spc)) wab.heap.size (.bool nab) (.string sab)) := kab.out.kept (grownBy_trans gpc (grow1 _ _)) (by simp)
  clear kp
  replace HG : Hid (w.grownBy (wpc.alloc (wObj npc spc)) none) := grownBy_trans HG.out (grownBy_trans gpc (grow1 _ _))
  have kpc : Hid (WBlk (wpc.alloc (wObj npc spc)) wpc.heap.size (.bool npc) (.string spc)) := heap_alloc_new _ _
  clear gpc
  have cb0 := kb.out.c0
  have cb1 := kb.out.c1
  have cc0 := kc.out.c0
  have cc1 := kc.out.c1
  go_wp2_with fail
  clear cb0 cb1 cc0 cc1
  refine (mul_sz (k := 400) (l := 400) (by decide) zb zc _).mono ?_
  rintro e wr ⟨nr, sr, rfl, zr, gr⟩
  replace ka : Hid (WBlk (wr.alloc (wObj nr sr)) w.heap.size (.bool na) (.string sa)) := ka.out.kept (grownBy_trans gr (grow1 _ _)) (by simp)
  replace kb : Hid (WBlk (wr.alloc (wObj nr sr)) (w.heap.size + 1) (.bool nb) (.string sb)) := kb.out.kept (grownBy_trans gr (grow1 _ _)) (by simp)
  replace kc : Hid (WBlk (wr.alloc (wObj nr sr)) (w.heap.size + 1 + 1) (.bool nc) (.string sc)) := kc.out.kept (grownBy_trans gr (grow1 _ _)) (by simp)
  replace kab : Hid (WBlk (wr.alloc (wObj nr sr)) wab.heap.size (.bool nab) (.string sab)) := kab.out.kept (grownBy_trans gr (grow1 _ _)) (by simp)
  replace kpc : Hid (WBlk (wr.alloc (wObj nr sr)) wpc.heap.size (.bool npc) (.string spc)) := kpc.out.kept (grownBy_trans gr (grow1 _ _)) (by simp)
  replace HG : Hid (w.grownBy (wr.alloc (wObj nr sr)) none) := grownBy_trans HG.out (grownBy_trans gr (grow1 _ _))
  have kr : Hid (WBlk (wr.alloc (wObj nr sr)) wr.heap.size (.bool nr) (.string sr)) := heap_alloc_new _ _
  clear gr
  have ca0 := ka.out.c0
  have ca1 := ka.out.c1
  have cr0 := kr.out.c0
  have cr1 := kr.out.c1
  go_wp2_with fail
  clear ca0 ca1 cr0 cr1
  refine (mul_sz (k := 400) (l := 800) (by decide) za zr _).mono ?_
  rintro e war ⟨nar, sar, rfl, zar, gar⟩
  replace ka : Hid (WBlk (war.alloc (wObj nar sar)) w.heap.size (.bool na) (.string sa)) := ka.out.kept (grownBy_trans gar (grow1 _ _)) (by simp)
  replace kb : Hid (WBlk (war.alloc (wObj nar sar)) (w.heap.size + 1) (.bool nb) (.string sb)) := kb.out.kept (grownBy_trans gar (grow1 _ _)) (by simp)
  replace kc : Hid (WBlk (war.alloc (wObj nar sar)) (w.heap.size + 1 + 1) (.bool nc) (.string sc)) := kc.out.kept (grownBy_trans gar (grow1 _ _)) (by simp)
  replace kab : Hid (WBlk (war.alloc (wObj nar sar)) wab.heap.size (.bool nab) (.string sab)) := kab.out.kept (grownBy_trans gar (grow1 _ _)) (by simp)
  replace kpc : Hid (WBlk (war.alloc (wObj nar sar)) wpc.heap.size (.bool npc) (.string spc)) := kpc.out.kept (grownBy_trans gar (grow1 _ _)) (by simp)
  replace kr : Hid (WBlk (war.alloc (wObj nar sar)) wr.heap.size (.bool nr) (.string sr)) := kr.out.kept (grownBy_trans gar (grow1 _ _)) (by simp)
  replace HG : Hid (w.grownBy (war.alloc (wObj nar sar)) none) := grownBy_trans HG.out (grownBy_trans gar (grow1 _ _))
  have kar : Hid (WBlk (war.alloc (wObj nar sar)) war.heap.size (.bool nar) (.string sar)) := heap_alloc_new _ _
  clear gar
  have ca0 := ka.out.c0
  have ca1 := ka.out.c1
  have cc0 := kc.out.c0
  have cc1 := kc.out.c1
  go_wp2_with fail
  clear ca0 ca1 cc0 cc1
  refine (mul_sz (k := 400) (l := 400) (by decide) za zc _).mono ?_
  rintro e wac ⟨nac, sac, rfl, zac, gac⟩
  replace ka : Hid (WBlk (wac.alloc (wObj nac sac)) w.heap.size (.bool na) (.string sa)) := ka.out.kept (grownBy_trans gac (grow1 _ _)) (by simp)
  replace kb : Hid (WBlk (wac.alloc (wObj nac sac)) (w.heap.size + 1) (.bool nb) (.string sb)) := kb.out.kept (grownBy_trans gac (grow1 _ _)) (by simp)
  replace kc : Hid (WBlk (wac.alloc (wObj nac sac)) (w.heap.size + 1 + 1) (.bool nc) (.string sc)) := kc.out.kept (grownBy_trans gac (grow1 _ _)) (by simp)
  replace kab : Hid (WBlk (wac.alloc (wObj nac sac)) wab.heap.size (.bool nab) (.string sab)) := kab.out.kept (grownBy_trans gac (grow1 _ _)) (by simp)
  replace kpc : Hid (WBlk (wac.alloc (wObj nac sac)) wpc.heap.size (.bool npc) (.string spc)) := kpc.out.kept (grownBy_trans gac (grow1 _ _)) (by simp)
  replace kr : Hid (WBlk (wac.alloc (wObj nac sac)) wr.heap.size (.bool nr) (.string sr)) := kr.out.kept (grownBy_trans gac (grow1 _ _)) (by simp)
  replace kar : Hid (WBlk (wac.alloc (wObj nac sac)) war.heap.size (.bool nar) (.string sar)) := kar.out.kept (grownBy_trans gac (grow1 _ _)) (by simp)
  replace HG : Hid (w.grownBy (wac.alloc (wObj nac sac)) none) := grownBy_trans HG.out (grownBy_trans gac (grow1 _ _))
  have kac : Hid (WBlk (wac.alloc (wObj nac sac)) wac.heap.size (.bool nac) (.string sac)) := heap_alloc_new _ _
  clear gac
  have cac0 := kac.out.c0
  have cac1 := kac.out.c1
  have cr0 := kr.out.c0
  have cr1 := kr.out.c1
  go_wp2_with fail
  clear cac0 cac1 cr0 cr1
  refine (add_sz (k := 800) (by decide) (zac.up (by decide)) (zr.up (by decide)) _).mono ?_
  rintro e wsm ⟨nsm, ssm, rfl, zsm, gsm⟩
  replace ka : Hid (WBlk (wsm.alloc (wObj nsm ssm)) w.heap.size (.bool na) (.string sa)) := ka.out.kept (grownBy_trans gsm (grow1 _ _)) (by simp)
  replace kb : Hid (WBlk (wsm.alloc (wObj nsm ssm)) (w.heap.size + 1) (.bool nb) (.string sb)) := kb.out.kept (grownBy_trans gsm (grow1 _ _)) (by simp)
  replace kc : Hid (WBlk (wsm.alloc (wObj nsm ssm)) (w.heap.size + 1 + 1) (.bool nc) (.string sc)) := kc.out.kept (grownBy_trans gsm (grow1 _ _)) (by simp)
  replace kab : Hid (WBlk (wsm.alloc (wObj nsm ssm)) wab.heap.size (.bool nab) (.string sab)) := kab.out.kept (grownBy_trans gsm (grow1 _ _)) (by simp)
  replace kpc : Hid (WBlk (wsm.alloc (wObj nsm ssm)) wpc.heap.size (.bool npc) (.string spc)) := kpc.out.kept (grownBy_trans gsm (grow1 _ _)) (by simp)
  clear kr
  replace kar : Hid (WBlk (wsm.alloc (wObj nsm ssm)) war.heap.size (.bool nar) (.string sar)) := kar.out.kept (grownBy_trans gsm (grow1 _ _)) (by simp)
  clear kac
  replace HG : Hid (w.grownBy (wsm.alloc (wObj nsm ssm)) none) := grownBy_trans HG.out (grownBy_trans gsm (grow1 _ _))
  have ksm : Hid (WBlk (wsm.alloc (wObj nsm ssm)) wsm.heap.size (.bool nsm) (.string ssm)) := heap_alloc_new _ _
  clear gsm
  have cab0 := kab.out.c0
  have cab1 := kab.out.c1
  have cc0 := kc.out.c0
  have cc1 := kc.out.c1
  go_wp2_with fail
  clear cab0 cab1 cc0 cc1
  refine (mul_sz (k := 401) (l := 400) (by decide) zab zc _).mono ?_
  rintro e wabc ⟨nabc, sabc, rfl, zabc, gabc⟩
  replace ka : Hid (WBlk (wabc.alloc (wObj nabc sabc)) w.heap.size (.bool na) (.string sa)) := ka.out.kept (grownBy_trans gabc (grow1 _ _)) (by simp)
  replace kb : Hid (WBlk (wabc.alloc (wObj nabc sabc)) (w.heap.size + 1) (.bool nb) (.string sb)) := kb.out.kept (grownBy_trans gabc (grow1 _ _)) (by simp)
  clear kc
  clear kab
  replace kpc : Hid (WBlk (wabc.alloc (wObj nabc sabc)) wpc.heap.size (.bool npc) (.string spc)) := kpc.out.kept (grownBy_trans gabc (grow1 _ _)) (by simp)
  replace kar : Hid (WBlk (wabc.alloc (wObj nabc sabc)) war.heap.size (.bool nar) (.string sar)) := kar.out.kept (grownBy_trans gabc (grow1 _ _)) (by simp)
  replace ksm : Hid (WBlk (wabc.alloc (wObj nabc sabc)) wsm.heap.size (.bool nsm) (.string ssm)) := ksm.out.kept (grownBy_trans gabc (grow1 _ _)) (by simp)
  replace HG : Hid (w.grownBy (wabc.alloc (wObj nabc sabc)) none) := grownBy_trans HG.out (grownBy_trans gabc (grow1 _ _))
  have kabc : Hid (WBlk (wabc.alloc (wObj nabc sabc)) wabc.heap.size (.bool nabc) (.string sabc)) := heap_alloc_new _ _
  clear gabc
  have ca0 := ka.out.c0
  have ca1 := ka.out.c1
  have cb0 := kb.out.c0
  have cb1 := kb.out.c1
  go_wp2_with fail
  clear ca0 ca1 cb0 cb1
  refine (sub_sz (k := 400) (by decide) (za.up (by decide)) (zb.up (by decide)) _).mono ?_
  rintro e wd ⟨nd, sd, rfl, zd, gd⟩
  replace ka : Hid (WBlk (wd.alloc (wObj nd sd)) w.heap.size (.bool na) (.string sa)) := ka.out.kept (grownBy_trans gd (grow1 _ _)) (by simp)
  replace kb : Hid (WBlk (wd.alloc (wObj nd sd)) (w.heap.size + 1) (.bool nb) (.string sb)) := kb.out.kept (grownBy_trans gd (grow1 _ _)) (by simp)
  replace kpc : Hid (WBlk (wd.alloc (wObj nd sd)) wpc.heap.size (.bool npc) (.string spc)) := kpc.out.kept (grownBy_trans gd (grow1 _ _)) (by simp)
  replace kar : Hid (WBlk (wd.alloc (wObj nd sd)) war.heap.size (.bool nar) (.string sar)) := kar.out.kept (grownBy_trans gd (grow1 _ _)) (by simp)
  replace ksm : Hid (WBlk (wd.alloc (wObj nd sd)) wsm.heap.size (.bool nsm) (.string ssm)) := ksm.out.kept (grownBy_trans gd (grow1 _ _)) (by simp)
  replace kabc : Hid (WBlk (wd.alloc (wObj nd sd)) wabc.heap.size (.bool nabc) (.string sabc)) := kabc.out.kept (grownBy_trans gd (grow1 _ _)) (by simp)
  replace HG : Hid (w.grownBy (wd.alloc (wObj nd sd)) none) := grownBy_trans HG.out (grownBy_trans gd (grow1 _ _))
  have kd : Hid (WBlk (wd.alloc (wObj nd sd)) wd.heap.size (.bool nd) (.string sd)) := heap_alloc_new _ _
  clear gd
  have ca0 := ka.out.c0
  have ca1 := ka.out.c1
  have cb0 := kb.out.c0
  have cb1 := kb.out.c1
  go_wp2_with fail
  clear ca0 ca1 cb0 cb1
  refine (cmp_sz (k := 400) (l := 400) (by decide) (by decide) za zb _).mono ?_
  rintro e wl ⟨rfl, gl⟩
  replace ka : Hid (WBlk wl w.heap.size (.bool na) (.string sa)) := ka.out.kept (gl) (by simp)
  replace kb : Hid (WBlk wl (w.heap.size + 1) (.bool nb) (.string sb)) := kb.out.kept (gl) (by simp)
  replace kpc : Hid (WBlk wl wpc.heap.size (.bool npc) (.string spc)) := kpc.out.kept (gl) (by simp)
  replace kar : Hid (WBlk wl war.heap.size (.bool nar) (.string sar)) := kar.out.kept (gl) (by simp)
  replace ksm : Hid (WBlk wl wsm.heap.size (.bool nsm) (.string ssm)) := ksm.out.kept (gl) (by simp)
  replace kabc : Hid (WBlk wl wabc.heap.size (.bool nabc) (.string sabc)) := kabc.out.kept (gl) (by simp)
  replace kd : Hid (WBlk wl wd.heap.size (.bool nd) (.string sd)) := kd.out.kept (gl) (by simp)
  replace HG : Hid (w.grownBy wl none) := grownBy_trans HG.out (gl)
  clear gl
  have hcz := cmpZ_sub x y
  generalize cmpZ x y = cxy at *
  go_wp2_with fail
  refine (ok_eight _).mono ?_
  rintro e w' ⟨rfl, rfl⟩
  replace ka : Hid (WBlk (wl.alloc (.cells #[.int .i64 0, .int .i64 0, .int .i64 0, .int .i64 0, .int .i64 0, .int .i64 0, .int .i64 0, .int .i64 0] 28)) w.heap.size (.bool na) (.string sa)) := ka.out.kept (grow1 _ _) (by simp)
  replace kb : Hid (WBlk (wl.alloc (.cells #[.int .i64 0, .int .i64 0, .int .i64 0, .int .i64 0, .int .i64 0, .int .i64 0, .int .i64 0, .int .i64 0] 28)) (w.heap.size + 1) (.bool nb) (.string sb)) := kb.out.kept (grow1 _ _) (by simp)
  replace kpc : Hid (WBlk (wl.alloc (.cells #[.int .i64 0, .int .i64 0, .int .i64 0, .int .i64 0, .int .i64 0, .int .i64 0, .int .i64 0, .int .i64 0] 28)) wpc.heap.size (.bool npc) (.string spc)) := kpc.out.kept (grow1 _ _) (by simp)
  replace kar : Hid (WBlk (wl.alloc (.cells #[.int .i64 0, .int .i64 0, .int .i64 0, .int .i64 0, .int .i64 0, .int .i64 0, .int .i64 0, .int .i64 0] 28)) war.heap.size (.bool nar) (.string sar)) := kar.out.kept (grow1 _ _) (by simp)
  replace ksm : Hid (WBlk (wl.alloc (.cells #[.int .i64 0, .int .i64 0, .int .i64 0, .int .i64 0, .int .i64 0, .int .i64 0, .int .i64 0, .int .i64 0] 28)) wsm.heap.size (.bool nsm) (.string ssm)) := ksm.out.kept (grow1 _ _) (by simp)
  replace kabc : Hid (WBlk (wl.alloc (.cells #[.int .i64 0, .int .i64 0, .int .i64 0, .int .i64 0, .int .i64 0, .int .i64 0, .int .i64 0, .int .i64 0] 28)) wabc.heap.size (.bool nabc) (.string sabc)) := kabc.out.kept (grow1 _ _) (by simp)
  replace kd : Hid (WBlk (wl.alloc (.cells #[.int .i64 0, .int .i64 0, .int .i64 0, .int .i64 0, .int .i64 0, .int .i64 0, .int .i64 0, .int .i64 0] 28)) wd.heap.size (.bool nd) (.string sd)) := kd.out.kept (grow1 _ _) (by simp)
  replace HG : Hid (w.grownBy (wl.alloc (.cells #[.int .i64 0, .int .i64 0, .int .i64 0, .int .i64 0, .int .i64 0, .int .i64 0, .int .i64 0, .int .i64 0] 28)) none) := grownBy_trans HG.out (grow1 _ _)
  have cpc0 := kpc.out.c0
  have cpc1 := kpc.out.c1
  have csm0 := ksm.out.c0
  have csm1 := ksm.out.c1
  have cd0 := kd.out.c0
  have cd1 := kd.out.c1
  have Ear := whole_inj (zpc.one zar (Int.mul_assoc x y z))
  have car0 : (wl.alloc (.cells #[.int .i64 0, .int .i64 0, .int .i64 0, .int .i64 0, .int .i64 0, .int .i64 0, .int .i64 0, .int .i64 0] 28)).cell? ⟨war.heap.size, 0, none⟩ = some (.bool npc) := by rw [Ear.1]; exact kar.out.c0
  have car1 : (wl.alloc (.cells #[.int .i64 0, .int .i64 0, .int .i64 0, .int .i64 0, .int .i64 0, .int .i64 0, .int .i64 0, .int .i64 0] 28)).cell? ⟨war.heap.size, 1, none⟩ = some (.string spc) := by rw [Ear.2]; exact kar.out.c1
  clear Ear
  have Eabc := whole_inj (zsm.one zabc ((Int.add_mul x y z).symm))
  have cabc0 : (wl.alloc (.cells #[.int .i64 0, .int .i64 0, .int .i64 0, .int .i64 0, .int .i64 0, .int .i64 0, .int .i64 0, .int .i64 0] 28)).cell? ⟨wabc.heap.size, 0, none⟩ = some (.bool nsm) := by rw [Eabc.1]; exact kabc.out.c0
  have cabc1 : (wl.alloc (.cells #[.int .i64 0, .int .i64 0, .int .i64 0, .int .i64 0, .int .i64 0, .int .i64 0, .int .i64 0, .int .i64 0] 28)).cell? ⟨wabc.heap.size, 1, none⟩ = some (.string ssm) := by rw [Eabc.2]; exact kabc.out.c1
  clear Eabc
  go_wp2_with fail
  have hs := sign_sz (by decide) zd (wl.alloc (.cells #[.int .i64 0, .int .i64 0, .int .i64 0, .int .i64 0, .int .i64 0, .int .i64 0, .int .i64 0, .int .i64 0] 28))
  rw [hcz] at hs
  refine hs.mono ?_
  rintro e wf ⟨rfl, gf⟩
  replace HG : Hid (w.grownBy wf none) := grownBy_trans HG.out gf
  clear gf hs
  clear cpc0 cpc1 csm0 csm1 cd0 cd1 car0 car1 cabc0 cabc1
  go_wp2_with fail
  go_ret
  exact ⟨rfl, HG.out⟩
end Go.Proofs.YtmgbkcfocbbofabGreatDoor
