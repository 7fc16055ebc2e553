/-
  The walk over WholeDivides: its last part.
-/
import Derived.Test.YtjngcpbdilhkbaaGreatDoorDdh
namespace Go.Proofs.YtjngcpbdilhkbaaGreatDoor
open Go.RowKit Go.Lib Go.Sort
set_option linter.unusedVariables false

set_option maxHeartbeats 6400000 in
set_option maxRecDepth 1000000 in
theorem dd_tail {na nb : Bool} {sa sb : ByteArray} {x y : Int} (za : Sz 400 x na sa) (zb : Sz 400 y nb sb) {w wc : World} (htab : Lib.TabIs Tryz.prog w "internal/strconv.uint64pow10" .u64 Lib.pow10Tab) (hcut : DdI w na nb sa sb wc) {Q : Exit → Act → World → Prop} (hQ : Q = bodyPost Tryz.prog Tryz.f4 (fun e w' => e = .returned (.bool true) ∧ w.grownBy w' none))
    {u4 u5 u6 u7 u8 u9 u10 u11 u12 u13 u14 u15 u16 u17 u18 u19 u20 u21 u22 u23 u24 u25 u26 u27 u28 u29 u30 u31 u32 u33 u34 u35 u36 u37 u38 u39 u40 u41 u42 u43 u44 u45 u46 u47 u48 u49 u50 u51 u52 u53 u54 u55 u56 u57 u58 u59 u60 u61 u62 u63 u64 u65 u66 u67 u68 u69 u70 u71 u72 u73 u74 u75 u76 u77 u78 u79 u80 u81 u82 u83 u84 u85 u86 u87 u88 u89 u90 u91 u92 u93 u94 u95 u96 u97 u98 u99 u100 u101 u102 u103 u104 u105 u106 u107 u108 u109 u110 u111 u112 u113 u114 u115 u116 u117 u118 u119 u120 u121 u122 u123 u124 u125 u126 u127 u128 u129 u130 u131 u132 u133 u134 u135 u136 u137 u138 u139 u140 u141 u142 u143 u144 u145 u146 u147 u148 u149 u150 u151 u152 u153 u154 u155 u156 u157 u158 u159 u160 u161 u162 u163 u164 u165 u166 u167 u168 u169 u170 u171 u172 u173 u174 u175 u176 u177 u178 u179 u180 u181 u182 u183 u184 u185 u186 u187 u188 u189 u190 u191 u192 u193 u194 u195 u196 u197 u198 u199 u200 u201 u202 u203 u204 u205 u206 u207 u208 u209 u210 u211 u212 u213 u214 u215 u216 u217 u218 u219 u220 u221 u222 u223 u224 u225 u226 u227 u228 u229 u230 u231 u232 u233 u234 u235 u236 u237 u238 u239 u240 u241 u242 u243 u244 u245 u246 u247 u248 u249 u250 u251 u252 u253 u254 u255 u256 u257 u258 u259 u260 u261 u262 u263 u264 u265 u266 u267 u268 u269 u270 u271 u272 u273 u274 u275 u276 u277 u278 u279 u280 u281 u282 u283 u284 : Value} : Code.wp Tryz.prog (restN 9 (codeOf Tryz.f4)) Q ⟨#[whole na sa, whole nb sb, .pointer (some ⟨w.heap.size, 0, none⟩), .pointer (some ⟨w.heap.size + 1, 0, none⟩), u4, u5, u6, u7, u8, u9, u10, u11, u12, u13, u14, u15, u16, u17, u18, u19, u20, u21, u22, u23, u24, u25, u26, u27, u28, u29, u30, u31, u32, u33, u34, u35, u36, u37, u38, u39, u40, u41, u42, u43, u44, u45, u46, u47, u48, u49, u50, u51, u52, u53, u54, u55, u56, u57, u58, u59, u60, u61, u62, u63, u64, u65, u66, u67, u68, u69, u70, u71, u72, u73, u74, u75, u76, u77, u78, u79, u80, u81, u82, u83, u84, u85, u86, u87, u88, u89, u90, u91, u92, u93, u94, u95, u96, u97, u98, u99, u100, u101, u102, u103, u104, u105, u106, u107, u108, u109, u110, u111, u112, u113, u114, u115, u116, u117, u118, u119, u120, u121, u122, u123, u124, u125, u126, u127, u128, u129, u130, u131, u132, u133, u134, u135, u136, u137, u138, u139, u140, u141, u142, u143, u144, u145, u146, u147, u148, u149, u150, u151, u152, u153, u154, u155, u156, u157, u158, u159, u160, u161, u162, u163, u164, u165, u166, u167, u168, u169, u170, u171, u172, u173, u174, u175, u176, u177, u178, u179, u180, u181, u182, u183, u184, u185, u186, u187, u188, u189, u190, u191, u192, u193, u194, u195, u196, u197, u198, u199, u200, u201, u202, u203, u204, u205, u206, u207, u208, u209, u210, u211, u212, u213, u214, u215, u216, u217, u218, u219, u220, u221, u222, u223, u224, u225, u226, u227, u228, u229, u230, u231, u232, u233, u234, u235, u236, u237, u238, u239, u240, u241, u242, u243, u244, u245, u246, u247, u248, u249, u250, u251, u252, u253, u254, u255, u256, u257, u258, u259, u260, u261, u262, u263, u264, u265, u266, u267, u268, u269, u270, u271, u272, u273, u274, u275, u276, u277, u278, u279, u280, u281, u282, u283, u284], []⟩ wc := by
  dsimp only [restN, codeOf, Tryz.f4, Option.getD_some]
  subst hQ
  obtain ⟨gp, hgp⟩ := pow10_g
  have HT : Hid (∀ w', w.grownBy w' none → Lib.TabIs Tryz.prog w' "internal/strconv.uint64pow10" .u64 Lib.pow10Tab) := fun w' hg => tab_kept hgp htab hg
  clear htab hgp
  have HI : Hid (DdI w na nb sa sb wc) := hcut
  clear hcut
  have ka : Hid (WBlk wc w.heap.size (.bool na) (.string sa)) := HI.out.1
  have kb : Hid (WBlk wc (w.heap.size + 1) (.bool nb) (.string sb)) := HI.out.2.1
  have HG : Hid (w.grownBy wc none) := HI.out.2.2
  clear HI
  clear kb
  cases na
  · skip
    have ca0 := ka.out.c0
    have ca1 := ka.out.c1
    go_wp2_with fail
    clear ca0 ca1
    refine (root_sz (k := 400) (by decide) za _).mono ?_
    rintro e wr ⟨rr, sr, sd, dd, rfl, zr, zd, hrd, hdr, gr⟩
    replace ka : Hid (WBlk ((wr.alloc (wObj false sr)).alloc (wObj false sd)) w.heap.size (.bool false) (.string sa)) := ka.out.kept (grownBy_trans gr (grow2 _ _ _)) (by simp)
    replace HG : Hid (w.grownBy ((wr.alloc (wObj false sr)).alloc (wObj false sd)) none) := grownBy_trans HG.out (grownBy_trans gr (grow2 _ _ _))
    have kr : Hid (WBlk ((wr.alloc (wObj false sr)).alloc (wObj false sd)) wr.heap.size (.bool false) (.string sr)) := at_alloc1 _ _ _
    have kd : Hid (WBlk ((wr.alloc (wObj false sr)).alloc (wObj false sd)) (wr.heap.size + 1) (.bool false) (.string sd)) := heap_alloc2_new _ _ _
    clear gr
    have HRD : Hid (x = (rr : Int) * rr + dd ∧ dd ≤ rr + rr) := ⟨hrd, hdr⟩
    clear hrd hdr
    have cr0 := kr.out.c0
    have cr1 := kr.out.c1
    go_wp2_with fail
    clear cr0 cr1
    refine (mul_sz (k := 400) (l := 400) (by decide) zr zr _).mono ?_
    rintro e wp ⟨np, sp, rfl, zp, gp⟩
    replace ka : Hid (WBlk (wp.alloc (wObj np sp)) w.heap.size (.bool false) (.string sa)) := ka.out.kept (grownBy_trans gp (grow1 _ _)) (by simp)
    replace kr : Hid (WBlk (wp.alloc (wObj np sp)) wr.heap.size (.bool false) (.string sr)) := kr.out.kept (grownBy_trans gp (grow1 _ _)) (by simp)
    replace kd : Hid (WBlk (wp.alloc (wObj np sp)) (wr.heap.size + 1) (.bool false) (.string sd)) := kd.out.kept (grownBy_trans gp (grow1 _ _)) (by simp)
    replace HG : Hid (w.grownBy (wp.alloc (wObj np sp)) none) := grownBy_trans HG.out (grownBy_trans gp (grow1 _ _))
    have kp : Hid (WBlk (wp.alloc (wObj np sp)) wp.heap.size (.bool np) (.string sp)) := heap_alloc_new _ _
    clear gp
    have cp0 := kp.out.c0
    have cp1 := kp.out.c1
    have cd0 := kd.out.c0
    have cd1 := kd.out.c1
    go_wp2_with fail
    clear cp0 cp1 cd0 cd1
    refine (add_sz (k := 800) (by decide) zp (zd.up (by decide)) _).mono ?_
    rintro e ws ⟨ns, ss, rfl, zs, gs⟩
    replace ka : Hid (WBlk (ws.alloc (wObj ns ss)) w.heap.size (.bool false) (.string sa)) := ka.out.kept (grownBy_trans gs (grow1 _ _)) (by simp)
    replace kr : Hid (WBlk (ws.alloc (wObj ns ss)) wr.heap.size (.bool false) (.string sr)) := kr.out.kept (grownBy_trans gs (grow1 _ _)) (by simp)
    replace kd : Hid (WBlk (ws.alloc (wObj ns ss)) (wr.heap.size + 1) (.bool false) (.string sd)) := kd.out.kept (grownBy_trans gs (grow1 _ _)) (by simp)
    replace kp : Hid (WBlk (ws.alloc (wObj ns ss)) wp.heap.size (.bool np) (.string sp)) := kp.out.kept (grownBy_trans gs (grow1 _ _)) (by simp)
    replace HG : Hid (w.grownBy (ws.alloc (wObj ns ss)) none) := grownBy_trans HG.out (grownBy_trans gs (grow1 _ _))
    have ks : Hid (WBlk (ws.alloc (wObj ns ss)) ws.heap.size (.bool ns) (.string ss)) := heap_alloc_new _ _
    clear gs
    clear kp
    have cr0 := kr.out.c0
    have cr1 := kr.out.c1
    go_wp2_with fail
    clear cr0 cr1
    refine (add_sz (k := 400) (by decide) zr zr _).mono ?_
    rintro e wt ⟨nt, st, rfl, zt, gt⟩
    replace ka : Hid (WBlk (wt.alloc (wObj nt st)) w.heap.size (.bool false) (.string sa)) := ka.out.kept (grownBy_trans gt (grow1 _ _)) (by simp)
    replace kr : Hid (WBlk (wt.alloc (wObj nt st)) wr.heap.size (.bool false) (.string sr)) := kr.out.kept (grownBy_trans gt (grow1 _ _)) (by simp)
    replace kd : Hid (WBlk (wt.alloc (wObj nt st)) (wr.heap.size + 1) (.bool false) (.string sd)) := kd.out.kept (grownBy_trans gt (grow1 _ _)) (by simp)
    replace ks : Hid (WBlk (wt.alloc (wObj nt st)) ws.heap.size (.bool ns) (.string ss)) := ks.out.kept (grownBy_trans gt (grow1 _ _)) (by simp)
    replace HG : Hid (w.grownBy (wt.alloc (wObj nt st)) none) := grownBy_trans HG.out (grownBy_trans gt (grow1 _ _))
    have kt : Hid (WBlk (wt.alloc (wObj nt st)) wt.heap.size (.bool nt) (.string st)) := heap_alloc_new _ _
    clear gt
    have cd0 := kd.out.c0
    have cd1 := kd.out.c1
    have ct0 := kt.out.c0
    have ct1 := kt.out.c1
    go_wp2_with fail
    clear cd0 cd1 ct0 ct1
    have hcm := cmp_sz (k := 400) (l := 401) (by decide) (by decide) zd zt (wt.alloc (wObj nt st))
    have hcz := cmp_le HRD.out.2
    generalize cmpZ (dd : Int) ((rr : Int) + rr) = cz at *
    refine hcm.mono ?_
    rintro e wl ⟨rfl, gl⟩
    clear hcm
    replace ka : Hid (WBlk wl w.heap.size (.bool false) (.string sa)) := ka.out.kept (gl) (by simp)
    replace kr : Hid (WBlk wl wr.heap.size (.bool false) (.string sr)) := kr.out.kept (gl) (by simp)
    replace kd : Hid (WBlk wl (wr.heap.size + 1) (.bool false) (.string sd)) := kd.out.kept (gl) (by simp)
    replace ks : Hid (WBlk wl ws.heap.size (.bool ns) (.string ss)) := ks.out.kept (gl) (by simp)
    replace kt : Hid (WBlk wl wt.heap.size (.bool nt) (.string st)) := kt.out.kept (gl) (by simp)
    replace HG : Hid (w.grownBy wl none) := grownBy_trans HG.out (gl)
    clear gl
    clear kt
    go_wp2_with fail
    refine (ok_5 _ _ (by first | exact heap_alloc_new _ _ | exact heap_alloc2_new _ _ _ | exact at_alloc3 _ _ _ _)).mono ?_
    rintro e wk ⟨rfl, rfl⟩
    replace ka : Hid (WBlk (wl.alloc (.cells #[.int .i64 0, .int .i64 0, .int .i64 0, .int .i64 0, .int .i64 0] 27)) w.heap.size (.bool false) (.string sa)) := ka.out.kept (grow1 _ _) (by simp)
    replace kr : Hid (WBlk (wl.alloc (.cells #[.int .i64 0, .int .i64 0, .int .i64 0, .int .i64 0, .int .i64 0] 27)) wr.heap.size (.bool false) (.string sr)) := kr.out.kept (grow1 _ _) (by simp)
    replace kd : Hid (WBlk (wl.alloc (.cells #[.int .i64 0, .int .i64 0, .int .i64 0, .int .i64 0, .int .i64 0] 27)) (wr.heap.size + 1) (.bool false) (.string sd)) := kd.out.kept (grow1 _ _) (by simp)
    replace ks : Hid (WBlk (wl.alloc (.cells #[.int .i64 0, .int .i64 0, .int .i64 0, .int .i64 0, .int .i64 0] 27)) ws.heap.size (.bool ns) (.string ss)) := ks.out.kept (grow1 _ _) (by simp)
    replace HG : Hid (w.grownBy (wl.alloc (.cells #[.int .i64 0, .int .i64 0, .int .i64 0, .int .i64 0, .int .i64 0] 27)) none) := grownBy_trans HG.out (grow1 _ _)
    have ca0 := ka.out.c0
    have ca1 := ka.out.c1
    have Es := whole_inj (za.one zs (HRD.out.1))
    have cs0 : (wl.alloc (.cells #[.int .i64 0, .int .i64 0, .int .i64 0, .int .i64 0, .int .i64 0] 27)).cell? ⟨ws.heap.size, 0, none⟩ = some (.bool false) := by rw [Es.1]; exact ks.out.c0
    have cs1 : (wl.alloc (.cells #[.int .i64 0, .int .i64 0, .int .i64 0, .int .i64 0, .int .i64 0] 27)).cell? ⟨ws.heap.size, 1, none⟩ = some (.string sa) := by rw [Es.2]; exact ks.out.c1
    clear Es
    have cr0 := kr.out.c0
    have cr1 := kr.out.c1
    have cd0 := kd.out.c0
    have cd1 := kd.out.c1
    have hczb : decide (cz ≤ 0) = true := decide_eq_true hcz
    go_wp2_with fail
    refine (works_any _ (HT.out _ HG.out)).mono ?_
    rintro e wz ⟨rfl, gz⟩
    have HGZ : Hid (w.grownBy wz none) := grownBy_trans HG.out gz
    clear gz
    go_wp2_with fail
    go_ret
    exact ⟨rfl, HGZ.out⟩
  · skip
    have ca0 := ka.out.c0
    have ca1 := ka.out.c1
    go_wp2_with fail
    refine (works_any _ (HT.out _ HG.out)).mono ?_
    rintro e wz ⟨rfl, gz⟩
    have HGZ : Hid (w.grownBy wz none) := grownBy_trans HG.out gz
    clear gz
    go_wp2_with fail
    go_ret
    exact ⟨rfl, HGZ.out⟩
end Go.Proofs.YtjngcpbdilhkbaaGreatDoor
