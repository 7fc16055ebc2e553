/-
  The walk over WholeDivides.
-/
import Derived.Deep.CutRange
import Derived.Test.YtjngcpbdilhkbaaGreatDoorDdm
namespace Go.Proofs.YtjngcpbdilhkbaaGreatDoor
open Go.RowKit Go.Lib Go.Sort
set_option linter.unusedVariables false

set_option maxHeartbeats 6400000 in
set_option maxRecDepth 1000000 in
theorem divides_yes (na nb : Bool) (sa sb : ByteArray) (x y : Int) (za : Sz 400 x na sa) (zb : Sz 400 y nb sb) (w : World) (htab : Lib.TabIs Tryz.prog w "internal/strconv.uint64pow10" .u64 Lib.pow10Tab) :
    Calls Tryz.prog 4 #[whole na sa, whole nb sb] w fun e w' => e = .returned (.bool true) ∧ w.grownBy w' none := by
  obtain ⟨gp, hgp⟩ := pow10_g
  have HT : Hid (∀ w', w.grownBy w' none → Lib.TabIs Tryz.prog w' "internal/strconv.uint64pow10" .u64 Lib.pow10Tab) := fun w' hg => tab_kept hgp htab hg
  have la : sa.size ≤ 400 := by have h1 := za.bl; have h2 := isZ_size za.1; omega
  have lb : sb.size ≤ 400 := by have h1 := zb.bl; have h2 := isZ_size zb.1; omega
  have HCC : Hid (∀ n s (w : World), (n = na ∧ s = sa) ∨ (n = nb ∧ s = sb) → Calls Tryz.prog 15 #[whole n s] w fun e w' => e = .returned (.int .i64 0) ∧ w' = w.alloc (wObj n s)) := (by
    intro n s w h
    rcases h with ⟨rfl, rfl⟩ | ⟨rfl, rfl⟩
    · have := check_any n s (by unfold maxLen; omega) w
      rw [chk_yes (za.may (by decide))] at this
      exact this
    · have := check_any n s (by unfold maxLen; omega) w
      rw [chk_yes (zb.may (by decide))] at this
      exact this)
  have laI : (sa.size : Int) ≤ 400 := by omega
  have lbI : (sb.size : Int) ≤ 400 := by omega
  obtain ⟨be, hbe⟩ : ∃ be, (sb.toList == []) = be := ⟨_, rfl⟩
  have HBE : Hid ((be = false → y ≠ 0) ∧ (be = true → y = 0)) := empty_z zb hbe
  clear la lb htab hgp
  go_enter Tryz.func4, Tryz.ntmps4
  go_upto_if 64 with (first | (go_at_call 15; refine (HCC.out _ _ _ (by first | exact .inl ⟨rfl, rfl⟩ | exact .inr ⟨rfl, rfl⟩)).mono ?_; rintro e w1 ⟨rfl, rfl⟩) | (go_at_call 14; refine (num_any _ _).mono ?_; rintro e w1 ⟨rfl, rfl⟩) | fail)
  have HI : Hid (DdI w na nb sa sb ((((w.alloc (wObj na sa)).alloc (wObj nb sb)).alloc (wObj na sa)).alloc (wObj nb sb))) := (DdI.start w na nb sa sb).kept (grow2 _ _ _)
  clear HCC laI lbI
  go_cut [] from 5 to 284 (fun wx => DdI w na nb sa sb wx)
  case first =>
    cases be
    · have hy : y ≠ 0 := HBE.out.1 rfl
      have ka : Hid (WBlk ((((w.alloc (wObj na sa)).alloc (wObj nb sb)).alloc (wObj na sa)).alloc (wObj nb sb)) w.heap.size (.bool na) (.string sa)) := HI.out.1
      have kb : Hid (WBlk ((((w.alloc (wObj na sa)).alloc (wObj nb sb)).alloc (wObj na sa)).alloc (wObj nb sb)) (w.heap.size + 1) (.bool nb) (.string sb)) := HI.out.2.1
      have HG : Hid (w.grownBy ((((w.alloc (wObj na sa)).alloc (wObj nb sb)).alloc (wObj na sa)).alloc (wObj nb sb)) none) := HI.out.2.2
      clear HI
      have ca0 := ka.out.c0
      have ca1 := ka.out.c1
      have cb0 := kb.out.c0
      have cb1 := kb.out.c1
      go_wp2_with fail
      clear ca0 ca1 cb0 cb1
      refine (div_sz (k := 400) (l := 400) (by decide) (by decide) hy za zb _).mono ?_
      rintro e wq ⟨nq, sq, nr, sr, rfl, zq, zr, gq⟩
      replace ka : Hid (WBlk ((wq.alloc (wObj nq sq)).alloc (wObj nr sr)) w.heap.size (.bool na) (.string sa)) := ka.out.kept (grownBy_trans gq (grow2 _ _ _)) (by simp)
      replace kb : Hid (WBlk ((wq.alloc (wObj nq sq)).alloc (wObj nr sr)) (w.heap.size + 1) (.bool nb) (.string sb)) := kb.out.kept (grownBy_trans gq (grow2 _ _ _)) (by simp)
      replace HG : Hid (w.grownBy ((wq.alloc (wObj nq sq)).alloc (wObj nr sr)) none) := grownBy_trans HG.out (grownBy_trans gq (grow2 _ _ _))
      have kq : Hid (WBlk ((wq.alloc (wObj nq sq)).alloc (wObj nr sr)) wq.heap.size (.bool nq) (.string sq)) := at_alloc1 _ _ _
      have kr : Hid (WBlk ((wq.alloc (wObj nq sq)).alloc (wObj nr sr)) (wq.heap.size + 1) (.bool nr) (.string sr)) := heap_alloc2_new _ _ _
      clear gq
      have cq0 := kq.out.c0
      have cq1 := kq.out.c1
      have cb0 := kb.out.c0
      have cb1 := kb.out.c1
      go_wp2_with fail
      clear cq0 cq1 cb0 cb1
      refine (mul_sz (k := 400) (l := 400) (by decide) zq zb _).mono ?_
      rintro e wp ⟨np, sp, rfl, zp, gp⟩
      replace ka : Hid (WBlk (wp.alloc (wObj np sp)) w.heap.size (.bool na) (.string sa)) := ka.out.kept (grownBy_trans gp (grow1 _ _)) (by simp)
      replace kb : Hid (WBlk (wp.alloc (wObj np sp)) (w.heap.size + 1) (.bool nb) (.string sb)) := kb.out.kept (grownBy_trans gp (grow1 _ _)) (by simp)
      replace kq : Hid (WBlk (wp.alloc (wObj np sp)) wq.heap.size (.bool nq) (.string sq)) := kq.out.kept (grownBy_trans gp (grow1 _ _)) (by simp)
      replace kr : Hid (WBlk (wp.alloc (wObj np sp)) (wq.heap.size + 1) (.bool nr) (.string sr)) := kr.out.kept (grownBy_trans gp (grow1 _ _)) (by simp)
      replace HG : Hid (w.grownBy (wp.alloc (wObj np sp)) none) := grownBy_trans HG.out (grownBy_trans gp (grow1 _ _))
      have kp : Hid (WBlk (wp.alloc (wObj np sp)) wp.heap.size (.bool np) (.string sp)) := heap_alloc_new _ _
      clear gp
      clear kq
      have cp0 := kp.out.c0
      have cp1 := kp.out.c1
      have cr0 := kr.out.c0
      have cr1 := kr.out.c1
      go_wp2_with fail
      clear cp0 cp1 cr0 cr1
      refine (add_sz (k := 800) (by decide) zp (zr.up (by decide)) _).mono ?_
      rintro e ws ⟨ns, ss, rfl, zs, gs⟩
      replace ka : Hid (WBlk (ws.alloc (wObj ns ss)) w.heap.size (.bool na) (.string sa)) := ka.out.kept (grownBy_trans gs (grow1 _ _)) (by simp)
      replace kb : Hid (WBlk (ws.alloc (wObj ns ss)) (w.heap.size + 1) (.bool nb) (.string sb)) := kb.out.kept (grownBy_trans gs (grow1 _ _)) (by simp)
      replace kr : Hid (WBlk (ws.alloc (wObj ns ss)) (wq.heap.size + 1) (.bool nr) (.string sr)) := kr.out.kept (grownBy_trans gs (grow1 _ _)) (by simp)
      replace kp : Hid (WBlk (ws.alloc (wObj ns ss)) wp.heap.size (.bool np) (.string sp)) := kp.out.kept (grownBy_trans gs (grow1 _ _)) (by simp)
      replace HG : Hid (w.grownBy (ws.alloc (wObj ns ss)) none) := grownBy_trans HG.out (grownBy_trans gs (grow1 _ _))
      have ks : Hid (WBlk (ws.alloc (wObj ns ss)) ws.heap.size (.bool ns) (.string ss)) := heap_alloc_new _ _
      clear gs
      clear kp
      have cb0 := kb.out.c0
      have cb1 := kb.out.c1
      go_wp2_with fail
      clear cb0 cb1
      refine (abs_sz (k := 400) (by decide) zb _).mono ?_
      rintro e wm ⟨rfl, zm, gm⟩
      replace ka : Hid (WBlk (wm.alloc (wObj false sb)) w.heap.size (.bool na) (.string sa)) := ka.out.kept (grownBy_trans gm (grow1 _ _)) (by simp)
      replace kb : Hid (WBlk (wm.alloc (wObj false sb)) (w.heap.size + 1) (.bool nb) (.string sb)) := kb.out.kept (grownBy_trans gm (grow1 _ _)) (by simp)
      replace kr : Hid (WBlk (wm.alloc (wObj false sb)) (wq.heap.size + 1) (.bool nr) (.string sr)) := kr.out.kept (grownBy_trans gm (grow1 _ _)) (by simp)
      replace ks : Hid (WBlk (wm.alloc (wObj false sb)) ws.heap.size (.bool ns) (.string ss)) := ks.out.kept (grownBy_trans gm (grow1 _ _)) (by simp)
      replace HG : Hid (w.grownBy (wm.alloc (wObj false sb)) none) := grownBy_trans HG.out (grownBy_trans gm (grow1 _ _))
      have km : Hid (WBlk (wm.alloc (wObj false sb)) wm.heap.size (.bool false) (.string sb)) := heap_alloc_new _ _
      clear gm
      have cr0 := kr.out.c0
      have cr1 := kr.out.c1
      have cm0 := km.out.c0
      have cm1 := km.out.c1
      go_wp2_with fail
      clear cr0 cr1 cm0 cm1
      have hcm := cmp_sz (k := 400) (l := 400) (by decide) (by decide) zr zm (wm.alloc (wObj false sb))
      rw [cmp_rest x y hy] at hcm
      refine hcm.mono ?_
      rintro e wc' ⟨rfl, gc⟩
      clear hcm
      replace ka : Hid (WBlk wc' w.heap.size (.bool na) (.string sa)) := ka.out.kept (gc) (by simp)
      replace kb : Hid (WBlk wc' (w.heap.size + 1) (.bool nb) (.string sb)) := kb.out.kept (gc) (by simp)
      replace kr : Hid (WBlk wc' (wq.heap.size + 1) (.bool nr) (.string sr)) := kr.out.kept (gc) (by simp)
      replace ks : Hid (WBlk wc' ws.heap.size (.bool ns) (.string ss)) := ks.out.kept (gc) (by simp)
      replace km : Hid (WBlk wc' wm.heap.size (.bool false) (.string sb)) := km.out.kept (gc) (by simp)
      replace HG : Hid (w.grownBy wc' none) := grownBy_trans HG.out (gc)
      clear gc
      clear km
      go_wp2_with fail
      refine (ok_5 _ _ (by first | exact heap_alloc_new _ _ | exact heap_alloc2_new _ _ _ | exact at_alloc3 _ _ _ _)).mono ?_
      rintro e wk ⟨rfl, rfl⟩
      replace ka : Hid (WBlk (wc'.alloc (.cells #[.int .i64 0, .int .i64 0, .int .i64 0, .int .i64 0, .int .i64 0] 27)) w.heap.size (.bool na) (.string sa)) := ka.out.kept (grow1 _ _) (by simp)
      replace kb : Hid (WBlk (wc'.alloc (.cells #[.int .i64 0, .int .i64 0, .int .i64 0, .int .i64 0, .int .i64 0] 27)) (w.heap.size + 1) (.bool nb) (.string sb)) := kb.out.kept (grow1 _ _) (by simp)
      replace kr : Hid (WBlk (wc'.alloc (.cells #[.int .i64 0, .int .i64 0, .int .i64 0, .int .i64 0, .int .i64 0] 27)) (wq.heap.size + 1) (.bool nr) (.string sr)) := kr.out.kept (grow1 _ _) (by simp)
      replace ks : Hid (WBlk (wc'.alloc (.cells #[.int .i64 0, .int .i64 0, .int .i64 0, .int .i64 0, .int .i64 0] 27)) ws.heap.size (.bool ns) (.string ss)) := ks.out.kept (grow1 _ _) (by simp)
      replace HG : Hid (w.grownBy (wc'.alloc (.cells #[.int .i64 0, .int .i64 0, .int .i64 0, .int .i64 0, .int .i64 0] 27)) none) := grownBy_trans HG.out (grow1 _ _)
      have ca0 := ka.out.c0
      have ca1 := ka.out.c1
      have Es := whole_inj (za.one zs ((quot_back x y).symm))
      have cs0 : (wc'.alloc (.cells #[.int .i64 0, .int .i64 0, .int .i64 0, .int .i64 0, .int .i64 0] 27)).cell? ⟨ws.heap.size, 0, none⟩ = some (.bool na) := by rw [Es.1]; exact ks.out.c0
      have cs1 : (wc'.alloc (.cells #[.int .i64 0, .int .i64 0, .int .i64 0, .int .i64 0, .int .i64 0] 27)).cell? ⟨ws.heap.size, 1, none⟩ = some (.string sa) := by rw [Es.2]; exact ks.out.c1
      clear Es
      have cr0 := kr.out.c0
      have cr1 := kr.out.c1
      go_wp2_with fail
      have hcz := cmp_rest0 x y hy
      have hsg := sign_sz (by decide) zr (wc'.alloc (.cells #[.int .i64 0, .int .i64 0, .int .i64 0, .int .i64 0, .int .i64 0] 27))
      generalize cmpZ (x % y) 0 = cz at *
      refine hsg.mono ?_
      rintro e wz ⟨rfl, gz⟩
      clear hsg
      clear ca0 ca1 cs0 cs1 cr0 cr1
      clear ks
      clear kr
      replace ka : Hid (WBlk wz w.heap.size (.bool na) (.string sa)) := ka.out.kept (gz) (by simp)
      replace kb : Hid (WBlk wz (w.heap.size + 1) (.bool nb) (.string sb)) := kb.out.kept (gz) (by simp)
      replace HG : Hid (w.grownBy wz none) := grownBy_trans HG.out (gz)
      clear gz
      have hczb : decide (cz < 0) = false := decide_eq_false (by omega)
      go_wp2_with fail
      go_meet
      case rel => exact ⟨ka.out, kb.out, HG.out⟩
    · go_wp2_with fail
      go_meet
      case rel => exact HI.out
  case rest =>
    go_step
    exact dd_mid za zb (HT.out _ (World.grownBy.refl _ _)) hcut rfl
end Go.Proofs.YtjngcpbdilhkbaaGreatDoor
