/-
  The walk over WholeDivides: greatest divisors.
-/
import Derived.Deep.CutRange
import Derived.Test.YtjngcpbdilhkbaaGreatDoorDdt
namespace Go.Proofs.YtjngcpbdilhkbaaGreatDoor
open Go.RowKit Go.Lib Go.Sort
set_option linter.unusedVariables false

set_option maxHeartbeats 6400000 in
set_option maxRecDepth 1000000 in
theorem dd_mid {na nb : Bool} {sa sb : ByteArray} {x y : Int} (za : Sz 400 x na sa) (zb : Sz 400 y nb sb) {w wc : World} (htab : Lib.TabIs Tryz.prog w "internal/strconv.uint64pow10" .u64 Lib.pow10Tab) (hcut : DdI w na nb sa sb wc) {Q : Exit → Act → World → Prop} (hQ : Q = bodyPost Tryz.prog Tryz.f4 (fun e w' => e = .returned (.bool true) ∧ w.grownBy w' none))
    {u4 u5 u6 u7 u8 u9 u10 u11 u12 u13 u14 u15 u16 u17 u18 u19 u20 u21 u22 u23 u24 u25 u26 u27 u28 u29 u30 u31 u32 u33 u34 u35 u36 u37 u38 u39 u40 u41 u42 u43 u44 u45 u46 u47 u48 u49 u50 u51 u52 u53 u54 u55 u56 u57 u58 u59 u60 u61 u62 u63 u64 u65 u66 u67 u68 u69 u70 u71 u72 u73 u74 u75 u76 u77 u78 u79 u80 u81 u82 u83 u84 u85 u86 u87 u88 u89 u90 u91 u92 u93 u94 u95 u96 u97 u98 u99 u100 u101 u102 u103 u104 u105 u106 u107 u108 u109 u110 u111 u112 u113 u114 u115 u116 u117 u118 u119 u120 u121 u122 u123 u124 u125 u126 u127 u128 u129 u130 u131 u132 u133 u134 u135 u136 u137 u138 u139 u140 u141 u142 u143 u144 u145 u146 u147 u148 u149 u150 u151 u152 u153 u154 u155 u156 u157 u158 u159 u160 u161 u162 u163 u164 u165 u166 u167 u168 u169 u170 u171 u172 u173 u174 u175 u176 u177 u178 u179 u180 u181 u182 u183 u184 u185 u186 u187 u188 u189 u190 u191 u192 u193 u194 u195 u196 u197 u198 u199 u200 u201 u202 u203 u204 u205 u206 u207 u208 u209 u210 u211 u212 u213 u214 u215 u216 u217 u218 u219 u220 u221 u222 u223 u224 u225 u226 u227 u228 u229 u230 u231 u232 u233 u234 u235 u236 u237 u238 u239 u240 u241 u242 u243 u244 u245 u246 u247 u248 u249 u250 u251 u252 u253 u254 u255 u256 u257 u258 u259 u260 u261 u262 u263 u264 u265 u266 u267 u268 u269 u270 u271 u272 u273 u274 u275 u276 u277 u278 u279 u280 u281 u282 u283 u284 : Value} : Code.wp Tryz.prog (restN 3 (codeOf Tryz.f4)) Q ⟨#[whole na sa, whole nb sb, .pointer (some ⟨w.heap.size, 0, none⟩), .pointer (some ⟨w.heap.size + 1, 0, none⟩), u4, u5, u6, u7, u8, u9, u10, u11, u12, u13, u14, u15, u16, u17, u18, u19, u20, u21, u22, u23, u24, u25, u26, u27, u28, u29, u30, u31, u32, u33, u34, u35, u36, u37, u38, u39, u40, u41, u42, u43, u44, u45, u46, u47, u48, u49, u50, u51, u52, u53, u54, u55, u56, u57, u58, u59, u60, u61, u62, u63, u64, u65, u66, u67, u68, u69, u70, u71, u72, u73, u74, u75, u76, u77, u78, u79, u80, u81, u82, u83, u84, u85, u86, u87, u88, u89, u90, u91, u92, u93, u94, u95, u96, u97, u98, u99, u100, u101, u102, u103, u104, u105, u106, u107, u108, u109, u110, u111, u112, u113, u114, u115, u116, u117, u118, u119, u120, u121, u122, u123, u124, u125, u126, u127, u128, u129, u130, u131, u132, u133, u134, u135, u136, u137, u138, u139, u140, u141, u142, u143, u144, u145, u146, u147, u148, u149, u150, u151, u152, u153, u154, u155, u156, u157, u158, u159, u160, u161, u162, u163, u164, u165, u166, u167, u168, u169, u170, u171, u172, u173, u174, u175, u176, u177, u178, u179, u180, u181, u182, u183, u184, u185, u186, u187, u188, u189, u190, u191, u192, u193, u194, u195, u196, u197, u198, u199, u200, u201, u202, u203, u204, u205, u206, u207, u208, u209, u210, u211, u212, u213, u214, u215, u216, u217, u218, u219, u220, u221, u222, u223, u224, u225, u226, u227, u228, u229, u230, u231, u232, u233, u234, u235, u236, u237, u238, u239, u240, u241, u242, u243, u244, u245, u246, u247, u248, u249, u250, u251, u252, u253, u254, u255, u256, u257, u258, u259, u260, u261, u262, u263, u264, u265, u266, u267, u268, u269, u270, u271, u272, u273, u274, u275, u276, u277, u278, u279, u280, u281, u282, u283, u284], []⟩ wc := by
  dsimp only [restN, codeOf, Tryz.f4, Option.getD_some]
  subst hQ
  obtain ⟨gp, hgp⟩ := pow10_g
  have HT : Hid (∀ w', w.grownBy w' none → Lib.TabIs Tryz.prog w' "internal/strconv.uint64pow10" .u64 Lib.pow10Tab) := fun w' hg => tab_kept hgp htab hg
  clear htab hgp
  have HI : Hid (DdI w na nb sa sb wc) := hcut
  clear hcut
  obtain ⟨ae, hae⟩ : ∃ ae, (sa.toList == []) = ae := ⟨_, rfl⟩
  obtain ⟨be, hbe⟩ : ∃ be, (sb.toList == []) = be := ⟨_, rfl⟩
  have ka : Hid (WBlk wc w.heap.size (.bool na) (.string sa)) := HI.out.1
  have kb : Hid (WBlk wc (w.heap.size + 1) (.bool nb) (.string sb)) := HI.out.2.1
  have HG : Hid (w.grownBy wc none) := HI.out.2.2
  clear HI
  have ca0 := ka.out.c0
  have ca1 := ka.out.c1
  have cb0 := kb.out.c0
  have cb1 := kb.out.c1
  go_wp2_with fail
  clear ca0 ca1 cb0 cb1
  refine (gcd_two (k := 400) (by decide) za zb _ _ (by first | exact heap_alloc_new _ _ | exact heap_alloc2_new _ _ _ | exact at_alloc3 _ _ _ _)).mono ?_
  rintro e wg ⟨sg, rfl, zg, gg⟩
  replace ka : Hid (WBlk (wg.alloc (wObj false sg)) w.heap.size (.bool na) (.string sa)) := ka.out.kept (grownBy_trans (grownBy_trans (grow1 _ _) gg) (grow1 _ _)) (by simp)
  replace kb : Hid (WBlk (wg.alloc (wObj false sg)) (w.heap.size + 1) (.bool nb) (.string sb)) := kb.out.kept (grownBy_trans (grownBy_trans (grow1 _ _) gg) (grow1 _ _)) (by simp)
  replace HG : Hid (w.grownBy (wg.alloc (wObj false sg)) none) := grownBy_trans HG.out (grownBy_trans (grownBy_trans (grow1 _ _) gg) (grow1 _ _))
  have kg : Hid (WBlk (wg.alloc (wObj false sg)) wg.heap.size (.bool false) (.string sg)) := heap_alloc_new _ _
  clear gg
  have cb0 := kb.out.c0
  have cb1 := kb.out.c1
  have ca0 := ka.out.c0
  have ca1 := ka.out.c1
  go_wp2_with fail
  clear cb0 cb1 ca0 ca1
  refine (gcd_two (k := 400) (by decide) zb za _ _ (by first | exact heap_alloc_new _ _ | exact heap_alloc2_new _ _ _ | exact at_alloc3 _ _ _ _)).mono ?_
  rintro e wh ⟨sh, rfl, zh, gh⟩
  replace ka : Hid (WBlk (wh.alloc (wObj false sh)) w.heap.size (.bool na) (.string sa)) := ka.out.kept (grownBy_trans (grownBy_trans (grow1 _ _) gh) (grow1 _ _)) (by simp)
  replace kb : Hid (WBlk (wh.alloc (wObj false sh)) (w.heap.size + 1) (.bool nb) (.string sb)) := kb.out.kept (grownBy_trans (grownBy_trans (grow1 _ _) gh) (grow1 _ _)) (by simp)
  replace kg : Hid (WBlk (wh.alloc (wObj false sh)) wg.heap.size (.bool false) (.string sg)) := kg.out.kept (grownBy_trans (grownBy_trans (grow1 _ _) gh) (grow1 _ _)) (by simp)
  replace HG : Hid (w.grownBy (wh.alloc (wObj false sh)) none) := grownBy_trans HG.out (grownBy_trans (grownBy_trans (grow1 _ _) gh) (grow1 _ _))
  have kh : Hid (WBlk (wh.alloc (wObj false sh)) wh.heap.size (.bool false) (.string sh)) := heap_alloc_new _ _
  clear gh
  have cb0 := kb.out.c0
  have cb1 := kb.out.c1
  go_wp2_with fail
  clear cb0 cb1
  refine (neg_sz (k := 400) (by decide) zb _).mono ?_
  rintro e wm ⟨nm, rfl, zm, gm⟩
  replace ka : Hid (WBlk (wm.alloc (wObj nm sb)) w.heap.size (.bool na) (.string sa)) := ka.out.kept (grownBy_trans gm (grow1 _ _)) (by simp)
  replace kb : Hid (WBlk (wm.alloc (wObj nm sb)) (w.heap.size + 1) (.bool nb) (.string sb)) := kb.out.kept (grownBy_trans gm (grow1 _ _)) (by simp)
  replace kg : Hid (WBlk (wm.alloc (wObj nm sb)) wg.heap.size (.bool false) (.string sg)) := kg.out.kept (grownBy_trans gm (grow1 _ _)) (by simp)
  replace kh : Hid (WBlk (wm.alloc (wObj nm sb)) wh.heap.size (.bool false) (.string sh)) := kh.out.kept (grownBy_trans gm (grow1 _ _)) (by simp)
  replace HG : Hid (w.grownBy (wm.alloc (wObj nm sb)) none) := grownBy_trans HG.out (grownBy_trans gm (grow1 _ _))
  have km : Hid (WBlk (wm.alloc (wObj nm sb)) wm.heap.size (.bool nm) (.string sb)) := heap_alloc_new _ _
  clear gm
  have cm0 := km.out.c0
  have cm1 := km.out.c1
  have ca0 := ka.out.c0
  have ca1 := ka.out.c1
  go_wp2_with fail
  clear cm0 cm1 ca0 ca1
  refine (gcd_two (k := 400) (by decide) zm za _ _ (by first | exact heap_alloc_new _ _ | exact heap_alloc2_new _ _ _ | exact at_alloc3 _ _ _ _)).mono ?_
  rintro e wk ⟨sk, rfl, zk, gk⟩
  replace ka : Hid (WBlk (wk.alloc (wObj false sk)) w.heap.size (.bool na) (.string sa)) := ka.out.kept (grownBy_trans (grownBy_trans (grow1 _ _) gk) (grow1 _ _)) (by simp)
  replace kb : Hid (WBlk (wk.alloc (wObj false sk)) (w.heap.size + 1) (.bool nb) (.string sb)) := kb.out.kept (grownBy_trans (grownBy_trans (grow1 _ _) gk) (grow1 _ _)) (by simp)
  replace kg : Hid (WBlk (wk.alloc (wObj false sk)) wg.heap.size (.bool false) (.string sg)) := kg.out.kept (grownBy_trans (grownBy_trans (grow1 _ _) gk) (grow1 _ _)) (by simp)
  replace kh : Hid (WBlk (wk.alloc (wObj false sk)) wh.heap.size (.bool false) (.string sh)) := kh.out.kept (grownBy_trans (grownBy_trans (grow1 _ _) gk) (grow1 _ _)) (by simp)
  replace km : Hid (WBlk (wk.alloc (wObj false sk)) wm.heap.size (.bool nm) (.string sb)) := km.out.kept (grownBy_trans (grownBy_trans (grow1 _ _) gk) (grow1 _ _)) (by simp)
  replace HG : Hid (w.grownBy (wk.alloc (wObj false sk)) none) := grownBy_trans HG.out (grownBy_trans (grownBy_trans (grow1 _ _) gk) (grow1 _ _))
  have kk : Hid (WBlk (wk.alloc (wObj false sk)) wk.heap.size (.bool false) (.string sk)) := heap_alloc_new _ _
  clear gk
  clear km
  obtain ⟨ge, hge⟩ : ∃ ge, (sg.toList == []) = ge := ⟨_, rfl⟩
  have HGE : Hid ((ge = false → ((Int.gcd x y : Nat) : Int) ≠ 0) ∧ (ge = true → ((Int.gcd x y : Nat) : Int) = 0)) := empty_z zg hge
  have HAB : Hid (ge = (ae && be)) := empty_gcd za zb zg hae hbe hge
  go_upto_region 15 with fail
  go_cut [177] from 143 to 176 (fun s wx => s = .bool false ∧ wx = ((wk.alloc (wObj false sk)).alloc (.cells #[.int .i64 0, .int .i64 0, .int .i64 0, .int .i64 0] 27)))
  case first =>
    go_wp2_with fail
    refine (ok_4 _ _ (by first | exact heap_alloc_new _ _ | exact heap_alloc2_new _ _ _ | exact at_alloc3 _ _ _ _)).mono ?_
    rintro e wk ⟨rfl, rfl⟩
    replace ka : Hid (WBlk ((wk.alloc (wObj false sk)).alloc (.cells #[.int .i64 0, .int .i64 0, .int .i64 0, .int .i64 0] 27)) w.heap.size (.bool na) (.string sa)) := ka.out.kept (grow1 _ _) (by simp)
    replace kb : Hid (WBlk ((wk.alloc (wObj false sk)).alloc (.cells #[.int .i64 0, .int .i64 0, .int .i64 0, .int .i64 0] 27)) (w.heap.size + 1) (.bool nb) (.string sb)) := kb.out.kept (grow1 _ _) (by simp)
    replace kg : Hid (WBlk ((wk.alloc (wObj false sk)).alloc (.cells #[.int .i64 0, .int .i64 0, .int .i64 0, .int .i64 0] 27)) wg.heap.size (.bool false) (.string sg)) := kg.out.kept (grow1 _ _) (by simp)
    replace kh : Hid (WBlk ((wk.alloc (wObj false sk)).alloc (.cells #[.int .i64 0, .int .i64 0, .int .i64 0, .int .i64 0] 27)) wh.heap.size (.bool false) (.string sh)) := kh.out.kept (grow1 _ _) (by simp)
    replace kk : Hid (WBlk ((wk.alloc (wObj false sk)).alloc (.cells #[.int .i64 0, .int .i64 0, .int .i64 0, .int .i64 0] 27)) wk.heap.size (.bool false) (.string sk)) := kk.out.kept (grow1 _ _) (by simp)
    replace HG : Hid (w.grownBy ((wk.alloc (wObj false sk)).alloc (.cells #[.int .i64 0, .int .i64 0, .int .i64 0, .int .i64 0] 27)) none) := grownBy_trans HG.out (grow1 _ _)
    have cg0 := kg.out.c0
    have cg1 := kg.out.c1
    have ca0 := ka.out.c0
    have ca1 := ka.out.c1
    have cb0 := kb.out.c0
    have cb1 := kb.out.c1
    have Eh := whole_inj (zg.one zh ((gcd_swap x y).symm))
    have ch0 : ((wk.alloc (wObj false sk)).alloc (.cells #[.int .i64 0, .int .i64 0, .int .i64 0, .int .i64 0] 27)).cell? ⟨wh.heap.size, 0, none⟩ = some (.bool false) := by rw [Eh.1]; exact kh.out.c0
    have ch1 : ((wk.alloc (wObj false sk)).alloc (.cells #[.int .i64 0, .int .i64 0, .int .i64 0, .int .i64 0] 27)).cell? ⟨wh.heap.size, 1, none⟩ = some (.string sg) := by rw [Eh.2]; exact kh.out.c1
    clear Eh
    have Ek := whole_inj (zg.one zk ((gcd_turn x y).symm))
    have ck0 : ((wk.alloc (wObj false sk)).alloc (.cells #[.int .i64 0, .int .i64 0, .int .i64 0, .int .i64 0] 27)).cell? ⟨wk.heap.size, 0, none⟩ = some (.bool false) := by rw [Ek.1]; exact kk.out.c0
    have ck1 : ((wk.alloc (wObj false sk)).alloc (.cells #[.int .i64 0, .int .i64 0, .int .i64 0, .int .i64 0] 27)).cell? ⟨wk.heap.size, 1, none⟩ = some (.string sg) := by rw [Ek.2]; exact kk.out.c1
    clear Ek
    have hab := HAB.out
    subst hab
    cases ae <;> cases be <;> (simp only [Bool.and_true, Bool.and_false] at hge; go_wp2_with fail; go_meet)
    all_goals exact ⟨rfl, rfl⟩
  case rest =>
    obtain ⟨rfl, rfl⟩ := hcut
    replace ka : Hid (WBlk ((wk.alloc (wObj false sk)).alloc (.cells #[.int .i64 0, .int .i64 0, .int .i64 0, .int .i64 0] 27)) w.heap.size (.bool na) (.string sa)) := ka.out.kept (grow1 _ _) (by simp)
    replace kb : Hid (WBlk ((wk.alloc (wObj false sk)).alloc (.cells #[.int .i64 0, .int .i64 0, .int .i64 0, .int .i64 0] 27)) (w.heap.size + 1) (.bool nb) (.string sb)) := kb.out.kept (grow1 _ _) (by simp)
    replace kg : Hid (WBlk ((wk.alloc (wObj false sk)).alloc (.cells #[.int .i64 0, .int .i64 0, .int .i64 0, .int .i64 0] 27)) wg.heap.size (.bool false) (.string sg)) := kg.out.kept (grow1 _ _) (by simp)
    replace kh : Hid (WBlk ((wk.alloc (wObj false sk)).alloc (.cells #[.int .i64 0, .int .i64 0, .int .i64 0, .int .i64 0] 27)) wh.heap.size (.bool false) (.string sh)) := kh.out.kept (grow1 _ _) (by simp)
    replace kk : Hid (WBlk ((wk.alloc (wObj false sk)).alloc (.cells #[.int .i64 0, .int .i64 0, .int .i64 0, .int .i64 0] 27)) wk.heap.size (.bool false) (.string sk)) := kk.out.kept (grow1 _ _) (by simp)
    replace HG : Hid (w.grownBy ((wk.alloc (wObj false sk)).alloc (.cells #[.int .i64 0, .int .i64 0, .int .i64 0, .int .i64 0] 27)) none) := grownBy_trans HG.out (grow1 _ _)
    clear kh
    clear kk
    clear zh zk zm HAB
    have cg0 := kg.out.c0
    have cg1 := kg.out.c1
    go_upto_if 180 with fail
    clear cg0 cg1
    go_cut [] from 5 to 284 (fun wx => DdI w na nb sa sb wx)
    case first =>
      cases ge
      · have hy : ((Int.gcd x y : Nat) : Int) ≠ 0 := HGE.out.1 rfl
        have zx0 := gcd_rest1 x y
        have zy0 := gcd_rest2 x y
        have zq1 := gcd_quots x y hy
        generalize ((Int.gcd x y : Nat) : Int) = gg at *
        have ca0 := ka.out.c0
        have ca1 := ka.out.c1
        have cg0 := kg.out.c0
        have cg1 := kg.out.c1
        go_wp2_with fail
        clear ca0 ca1 cg0 cg1
        refine (div_sz (k := 400) (l := 400) (by decide) (by decide) hy za zg _).mono ?_
        rintro e wq ⟨nq, sq, nr, sr, rfl, zq, zr, gq⟩
        replace ka : Hid (WBlk ((wq.alloc (wObj nq sq)).alloc (wObj nr sr)) w.heap.size (.bool na) (.string sa)) := ka.out.kept (grownBy_trans gq (grow2 _ _ _)) (by simp)
        replace kb : Hid (WBlk ((wq.alloc (wObj nq sq)).alloc (wObj nr sr)) (w.heap.size + 1) (.bool nb) (.string sb)) := kb.out.kept (grownBy_trans gq (grow2 _ _ _)) (by simp)
        replace kg : Hid (WBlk ((wq.alloc (wObj nq sq)).alloc (wObj nr sr)) wg.heap.size (.bool false) (.string sg)) := kg.out.kept (grownBy_trans gq (grow2 _ _ _)) (by simp)
        replace HG : Hid (w.grownBy ((wq.alloc (wObj nq sq)).alloc (wObj nr sr)) none) := grownBy_trans HG.out (grownBy_trans gq (grow2 _ _ _))
        have kq : Hid (WBlk ((wq.alloc (wObj nq sq)).alloc (wObj nr sr)) wq.heap.size (.bool nq) (.string sq)) := at_alloc1 _ _ _
        have kr : Hid (WBlk ((wq.alloc (wObj nq sq)).alloc (wObj nr sr)) (wq.heap.size + 1) (.bool nr) (.string sr)) := heap_alloc2_new _ _ _
        clear gq
        rw [zx0] at zr
        obtain ⟨rfl, rfl⟩ := sz_zero zr
        have cb0 := kb.out.c0
        have cb1 := kb.out.c1
        have cg0 := kg.out.c0
        have cg1 := kg.out.c1
        go_wp2_with fail
        clear cb0 cb1 cg0 cg1
        refine (div_sz (k := 400) (l := 400) (by decide) (by decide) hy zb zg _).mono ?_
        rintro e wv ⟨nv, sv, nt, st, rfl, zv, zt, gv⟩
        replace ka : Hid (WBlk ((wv.alloc (wObj nv sv)).alloc (wObj nt st)) w.heap.size (.bool na) (.string sa)) := ka.out.kept (grownBy_trans gv (grow2 _ _ _)) (by simp)
        replace kb : Hid (WBlk ((wv.alloc (wObj nv sv)).alloc (wObj nt st)) (w.heap.size + 1) (.bool nb) (.string sb)) := kb.out.kept (grownBy_trans gv (grow2 _ _ _)) (by simp)
        replace kg : Hid (WBlk ((wv.alloc (wObj nv sv)).alloc (wObj nt st)) wg.heap.size (.bool false) (.string sg)) := kg.out.kept (grownBy_trans gv (grow2 _ _ _)) (by simp)
        replace kq : Hid (WBlk ((wv.alloc (wObj nv sv)).alloc (wObj nt st)) wq.heap.size (.bool nq) (.string sq)) := kq.out.kept (grownBy_trans gv (grow2 _ _ _)) (by simp)
        replace kr : Hid (WBlk ((wv.alloc (wObj nv sv)).alloc (wObj nt st)) (wq.heap.size + 1) (.bool false) (.string eS)) := kr.out.kept (grownBy_trans gv (grow2 _ _ _)) (by simp)
        replace HG : Hid (w.grownBy ((wv.alloc (wObj nv sv)).alloc (wObj nt st)) none) := grownBy_trans HG.out (grownBy_trans gv (grow2 _ _ _))
        have kv : Hid (WBlk ((wv.alloc (wObj nv sv)).alloc (wObj nt st)) wv.heap.size (.bool nv) (.string sv)) := at_alloc1 _ _ _
        have kt : Hid (WBlk ((wv.alloc (wObj nv sv)).alloc (wObj nt st)) (wv.heap.size + 1) (.bool nt) (.string st)) := heap_alloc2_new _ _ _
        clear gv
        rw [zy0] at zt
        obtain ⟨rfl, rfl⟩ := sz_zero zt
        clear kg
        have cq0 := kq.out.c0
        have cq1 := kq.out.c1
        have cv0 := kv.out.c0
        have cv1 := kv.out.c1
        go_wp2_with fail
        clear cq0 cq1 cv0 cv1
        refine (gcd_two (k := 400) (by decide) zq zv _ _ (by first | exact heap_alloc_new _ _ | exact heap_alloc2_new _ _ _ | exact at_alloc3 _ _ _ _)).mono ?_
        rintro e wn ⟨sn, rfl, zn, gn⟩
        replace ka : Hid (WBlk (wn.alloc (wObj false sn)) w.heap.size (.bool na) (.string sa)) := ka.out.kept (grownBy_trans (grownBy_trans (grow1 _ _) gn) (grow1 _ _)) (by simp)
        replace kb : Hid (WBlk (wn.alloc (wObj false sn)) (w.heap.size + 1) (.bool nb) (.string sb)) := kb.out.kept (grownBy_trans (grownBy_trans (grow1 _ _) gn) (grow1 _ _)) (by simp)
        replace kq : Hid (WBlk (wn.alloc (wObj false sn)) wq.heap.size (.bool nq) (.string sq)) := kq.out.kept (grownBy_trans (grownBy_trans (grow1 _ _) gn) (grow1 _ _)) (by simp)
        replace kr : Hid (WBlk (wn.alloc (wObj false sn)) (wq.heap.size + 1) (.bool false) (.string eS)) := kr.out.kept (grownBy_trans (grownBy_trans (grow1 _ _) gn) (grow1 _ _)) (by simp)
        replace kv : Hid (WBlk (wn.alloc (wObj false sn)) wv.heap.size (.bool nv) (.string sv)) := kv.out.kept (grownBy_trans (grownBy_trans (grow1 _ _) gn) (grow1 _ _)) (by simp)
        replace kt : Hid (WBlk (wn.alloc (wObj false sn)) (wv.heap.size + 1) (.bool false) (.string eS)) := kt.out.kept (grownBy_trans (grownBy_trans (grow1 _ _) gn) (grow1 _ _)) (by simp)
        replace HG : Hid (w.grownBy (wn.alloc (wObj false sn)) none) := grownBy_trans HG.out (grownBy_trans (grownBy_trans (grow1 _ _) gn) (grow1 _ _))
        have kn : Hid (WBlk (wn.alloc (wObj false sn)) wn.heap.size (.bool false) (.string sn)) := heap_alloc_new _ _
        clear gn
        rw [zq1] at zn
        obtain rfl := sz_one zn
        clear kq
        clear kv
        go_wp2_with fail
        refine (ok_3 _ _ (by first | exact heap_alloc_new _ _ | exact heap_alloc2_new _ _ _ | exact at_alloc3 _ _ _ _)).mono ?_
        rintro e wk ⟨rfl, rfl⟩
        replace ka : Hid (WBlk ((wn.alloc (wObj false ⟨#[1]⟩)).alloc (.cells #[.int .i64 0, .int .i64 0, .int .i64 0] 27)) w.heap.size (.bool na) (.string sa)) := ka.out.kept (grow1 _ _) (by simp)
        replace kb : Hid (WBlk ((wn.alloc (wObj false ⟨#[1]⟩)).alloc (.cells #[.int .i64 0, .int .i64 0, .int .i64 0] 27)) (w.heap.size + 1) (.bool nb) (.string sb)) := kb.out.kept (grow1 _ _) (by simp)
        replace kr : Hid (WBlk ((wn.alloc (wObj false ⟨#[1]⟩)).alloc (.cells #[.int .i64 0, .int .i64 0, .int .i64 0] 27)) (wq.heap.size + 1) (.bool false) (.string eS)) := kr.out.kept (grow1 _ _) (by simp)
        replace kt : Hid (WBlk ((wn.alloc (wObj false ⟨#[1]⟩)).alloc (.cells #[.int .i64 0, .int .i64 0, .int .i64 0] 27)) (wv.heap.size + 1) (.bool false) (.string eS)) := kt.out.kept (grow1 _ _) (by simp)
        replace kn : Hid (WBlk ((wn.alloc (wObj false ⟨#[1]⟩)).alloc (.cells #[.int .i64 0, .int .i64 0, .int .i64 0] 27)) wn.heap.size (.bool false) (.string ⟨#[1]⟩)) := kn.out.kept (grow1 _ _) (by simp)
        replace HG : Hid (w.grownBy ((wn.alloc (wObj false ⟨#[1]⟩)).alloc (.cells #[.int .i64 0, .int .i64 0, .int .i64 0] 27)) none) := grownBy_trans HG.out (grow1 _ _)
        have cr0 := kr.out.c0
        have cr1 := kr.out.c1
        have ct0 := kt.out.c0
        have ct1 := kt.out.c1
        have cn0 := kn.out.c0
        have cn1 := kn.out.c1
        go_wp2_with fail
        go_meet
        case rel => exact ⟨ka.out, kb.out, HG.out⟩
      · go_wp2_with fail
        go_meet
        case rel => exact ⟨ka.out, kb.out, HG.out⟩
    case rest =>
      go_step
      exact dd_tail za zb (HT.out _ (World.grownBy.refl _ _)) hcut rfl
end Go.Proofs.YtjngcpbdilhkbaaGreatDoor
