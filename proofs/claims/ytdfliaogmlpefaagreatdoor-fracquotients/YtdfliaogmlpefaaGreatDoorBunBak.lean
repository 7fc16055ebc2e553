/-
  FracBack: its walk.
  The document's Quotients of a fraction.
  The document's Make, in all its ways.
-/
import Derived.Test.YtdfliaogmlpefaaGreatDoorBunWla
import Derived.Test.YtdfliaogmlpefaaGreatDoorBunRfs
import Derived.Test.YtdfliaogmlpefaaGreatDoorRfr
import Derived.Test.YtdfliaogmlpefaaGreatDoorBunBwh
import Derived.Sort.CutIn
import Derived.Test.YtdfliaogmlpefaaGreatDoorBunOnh
import Derived.Test.YtdfliaogmlpefaaGreatDoorBunFdg
namespace Go.Proofs.YtdfliaogmlpefaaGreatDoor
open Go.RowKit Go.Lib Go.Sort Go.Shelf
set_option linter.unusedVariables false
attribute [local go_sem] Oper.semAt_some
set_option maxHeartbeats 6400000
set_option maxRecDepth 1000000
theorem eq_fn_some {P : Program} (w : World) (d : Nat) (t : TypeId) {a b : Array TypeId} {c : Bool} (h : P.underlying t = some (.func a b c)) (f : Fn) (x y : Array Value) : (Op.equalIn (d + 1) t (.func f x y) .nilFunc).run P w = .ok false w := by
  simp [Op.equalIn, run_underlying h]
theorem eql_fn_some {P : Program} (w : World) (t : TypeId) {a b : Array TypeId} {c : Bool} (h : P.underlying t = some (.func a b c)) (f : Fn) (x y : Array Value) : (binOp .eql t (.func f x y) .nilFunc).run P w = .ok (.bool false) w := by
  simp only [binOp]
  simp [Op.equal, Op.maxDepth, eq_fn_some w 9999 t h f x y]
def firstZ (Z : Nat → Bool × ByteArray) (k : Nat) : List (Bool × ByteArray) := (List.range k).map Z
theorem firstZ_succ (Z : Nat → Bool × ByteArray) (k : Nat) : firstZ Z (k + 1) = firstZ Z k ++ [Z k] := by simp [firstZ, List.range_succ]
theorem firstZ_len (Z : Nat → Bool × ByteArray) (k : Nat) : (firstZ Z k).length = k := by simp [firstZ]
theorem load_bool (w : World) (g : Nat) (v : Bool) (h : w.heap[g]? = some (.cells #[.bool v] 4 (0, 0))) : (loadVar 4 ⟨g, 0, none⟩).run Tryz.prog w = .ok (.bool v) w := by
  have hc : w.cell? ⟨g, 0, none⟩ = some (.bool v) := by simp [World.cell?, h]
  simp [go_sem, loadVar, hc]
end Go.Proofs.YtdfliaogmlpefaaGreatDoor
namespace Go.Proofs.YtdfliaogmlpefaaGreatDoor
open Go.RowKit Go.Lib Go.Sort
set_option linter.unusedVariables false
set_option maxHeartbeats 6400000
set_option maxRecDepth 1000000
theorem low_self {a b : Int} {n d : Bool} {s t : ByteArray} (hb : 0 < b) (hg : Int.gcd a b = 1) (h1 : IsZ a n s) (h2 : IsZ b d t) : Low a b n s d t := by
  obtain ⟨e1, e2⟩ := rnd_low hb hg
  exact ⟨by rw [e1]; exact h1, by rw [e2]; exact h2⟩
structure RqS (w W : World) (l : List Int) (Z : Nat → Bool × ByteArray) (v : Value) (k : Nat) (N D : Int) (n d : Bool) (s t : ByteArray) : Prop where
  row : RowW W (w.heap.size + 1) v (firstZ Z k)
  x : QBlk W w.heap.size (.bool n) (.string s) (.bool d) (.string t)
  q : IsQ N D n s d t
  eu : Eu N D (l.drop k)
  lt : k < l.length
  g : w.grownBy W none
theorem rquot_any {x y : Int} {n d : Bool} {s t : ByteArray} (h : IsQ x y n s d t) (l : List Int) (hl : Eu x y l) (Z : Nat → Bool × ByteArray) (hZ : ∀ i q, l[i]? = some q → IsZ q (Z i).1 (Z i).2) (hlen : l.length ≤ 1300) (w : World) :
    Calls Tryz.prog 32 #[frac n s d t, .int .i64 2000] w fun e w' => ∃ v, e = .returned v ∧ RowW w' (w.heap.size + 1) v (firstZ Z l.length) ∧ w.grownBy w' none := by
  have HZ : Hid (∀ i q, l[i]? = some q → IsZ q (Z i).1 (Z i).2) := hZ
  have HL : Hid (l.length ≤ 1300) := hlen
  have HS0 : Hid (RqS w (w.alloc (qObj n s d t)) l Z (.slice none 0 0) 0 x y n d s t) := ⟨RowW.nil _ _, heap_alloc_new _ _, h, hl, by cases l with | nil => exact absurd hl (by simp [Eu]) | cons a b => simp, grow1 _ _⟩
  clear h hl hZ hlen
  go_enter Tryz.func32, Tryz.ntmps32
  go_wp2_with fail
  generalize w.alloc (qObj n s d t) = W0 at *
  go_loopg [5] l.length (fun g s5 wx => ∃ (k : Nat) (N D : Int) (n d : Bool) (s t : ByteArray), k + g = l.length ∧ RqS w wx l Z s5 k N D n d s t)
  case atStart => exact ⟨0, x, y, n, d, s, t, by omega, HS0.out⟩
  case round =>
    obtain ⟨k, N, D, nN, dD, sN, tD, hkg, hS⟩ := hrel
    obtain ⟨g, rfl⟩ : ∃ g, gk = g + 1 := ⟨gk - 1, by have := hS.lt; omega⟩
    obtain ⟨q, tl, hdr, hkq⟩ : ∃ q tl, l.drop k = q :: tl ∧ l[k]? = some q := ⟨_, _, List.drop_eq_getElem_cons hS.lt, List.getElem?_eq_getElem hS.lt⟩
    have htl : l.drop (k + 1) = tl := by rw [← List.drop_drop, hdr]; rfl
    have hE := hS.eu
    rw [hdr] at hE
    obtain ⟨hD0, hq, hcase⟩ := hE.head
    have hz := HZ.out k q hkq
    obtain ⟨ao, cp, hv⟩ := hS.row.form
    rw [firstZ_len] at hv
    subst hv
    have HZk : Unit → firstZ Z (k + 1) = firstZ Z k ++ [Z k] := fun _ => firstZ_succ Z k
    have HZl : Hid ((firstZ Z k).length = k) := firstZ_len Z k
    have HS : Hid (RqS w wr l Z (.slice ao k cp) k N D nN dD sN tD) := hS
    have hQ := hS.q
    generalize hze : Z k = ze at *
    obtain ⟨zn, zs⟩ := ze
    dsimp only at hz
    obtain ⟨r1, r2, zr⟩ := isz_ex (N % D)
    have hDne : D ≠ 0 := Int.ne_of_gt hD0
    have zr1 : Sz 1024 (N % D) r1 r2 := zr.sz (Nat.lt_trans (emod_abs_lt N D hDne) hQ.zd.2)
    have zq1 : Sz 1024 q zn zs := hz.sz (by rw [← hq]; exact Nat.lt_of_le_of_lt (ediv_abs_le N D) hQ.zn.2)
    have hWQ : IsQ q 1 zn zs false oneS := ⟨zq1, one_sz.up (by decide), by decide, by simp⟩
    have em : N * 1 - q * D = N % D := by
      have := Int.mul_ediv_add_emod N D
      rw [Int.mul_comm D, hq] at this
      omega
    have hgr : Int.gcd (N % D) D = 1 := by
      rw [Int.gcd_comm, show N % D = N - (N / D) * D by have := Int.mul_ediv_add_emod N D; rw [Int.mul_comm D] at this; omega, Int.gcd_sub_mul_right_right, Int.gcd_comm]
      exact hQ.low
    have hRQ : IsQ (N % D) D r1 r2 dD tD := ⟨zr1, hQ.zd, hD0, hgr⟩
    have HFl : Hid (∀ w, Calls Tryz.prog 26 #[frac nN sN dD tD] w fun e w' => e = .returned (whole zn zs) ∧ w.grownBy w' none) := fun w => rfloor_any hQ (by rw [hq]; exact hz) w
    have HWh : Hid (∀ w, Calls Tryz.prog 71 #[whole zn zs] w fun e w' => e = .returned (frac zn zs false oneS) ∧ w.grownBy w' none) := fun w => rwholeq_by _ _ (fun w => rof_one w) w
    have HMi : Hid (∀ w, Calls Tryz.prog 70 #[frac nN sN dD tD, frac zn zs false oneS] w fun e w' => e = .returned (frac r1 r2 dD tD) ∧ w.grownBy w' none) := fun w => rminusq_any hQ hWQ (by rw [em, Int.mul_one]; exact low_self hD0 hgr zr hQ.zd.1) w
    obtain ⟨sg, hsg⟩ : ∃ sg, sgn r1 r2 = sg := ⟨_, rfl⟩
    have HSg : Hid (∀ w, Calls Tryz.prog 28 #[frac r1 r2 dD tD] w fun e w' => e = .returned (.int .i64 sg) ∧ w.grownBy w' none) := fun w => by rw [← hsg]; exact rsignq_any _ _ _ _ w
    have hsg2 : sg = cmpZ (N % D) 0 := by rw [← hsg]; exact sgn_of (by decide) zr1
    have HIn : Hid (∀ w, Calls Tryz.prog 20 #[.int .i64 1] w fun e w' => e = .returned (frac false oneS false oneS) ∧ w.grownBy w' none) := fun w => rint_by 1 false oneS (fun w => rof_one w) (fun w => rof_one w) w
    have h11 : IsQ 1 1 false oneS false oneS := ⟨one_sz.up (by decide), one_sz.up (by decide), by decide, by decide⟩
    have HOv : Hid (N % D ≠ 0 → ∀ w, Calls Tryz.prog 78 #[frac false oneS false oneS, frac r1 r2 dD tD] w fun e w' => e = .returned (frac dD tD r1 r2) ∧ w.grownBy w' none) := fun hr w => by
      have hp : 0 < N % D := by have := Int.emod_nonneg N hDne; omega
      exact roverq_any h11 hRQ hr (by rw [Int.one_mul, Int.one_mul]; exact low_self hp (by rw [Int.gcd_comm]; exact hgr) hQ.zd.1 zr) w
    have HC : Hid ((tl = [] ∧ N % D = 0) ∨ (tl ≠ [] ∧ 0 < N % D ∧ N % D < D ∧ Eu D (N % D) tl)) := hcase
    have HN : Hid (k + (g + 1) = l.length ∧ l.drop (k + 1) = tl ∧ IsQ (N % D) D r1 r2 dD tD ∧ Z k = (zn, zs)) := ⟨hkg, htl, hRQ, hze⟩
    have hk9 : (k : Int) ≤ 1300 := by have := HL.out; omega
    have x0 := hS.x.c0
    have x1 := hS.x.c1
    have x2 := hS.x.c2
    have x3 := hS.x.c3
    clear hS hQ hE hD0 hq hcase hz hdr hkq htl hze zr zr1 zq1 hWQ em hgr hRQ hsg h11 hDne hkg HS0
    go_wp2_with fail
    refine (HFl.out _).mono ?_
    rintro e w1 ⟨rfl, g1⟩
    have HS1 : Hid (RowW (w1.alloc (wObj zn zs)) (w.heap.size + 1) (.slice ao k cp) (firstZ Z k) ∧ QBlk (w1.alloc (wObj zn zs)) w.heap.size (.bool nN) (.string sN) (.bool dD) (.string tD) ∧ WBlk (w1.alloc (wObj zn zs)) w1.heap.size (.bool zn) (.string zs) ∧ w.grownBy (w1.alloc (wObj zn zs)) none ∧ w.heap.size < w1.heap.size ∧ (∀ gb, (Value.slice ao k cp).ownBlock = some gb → w.heap.size + 1 ≤ gb ∧ gb < w1.heap.size)) := (by
      have G := grownBy_trans g1 (grow1 w1 (wObj zn zs))
      exact ⟨HS.out.row.kept G (by cases (Value.slice ao k cp).ownBlock <;> simp), HS.out.x.kept G (by simp), heap_alloc_new _ _, grownBy_trans HS.out.g G, (HS.out.x.kept g1 (by simp)).lt, fun gb e => by have h1 := HS.out.row.own gb e; have h2 := g1.size; omega⟩)
    clear g1 x0 x1 x2 x3 HFl
    go_upto_region 4 with fail
    generalize w1.alloc (wObj zn zs) = V1 at *
    generalize w1.heap.size = NB at *
    have a0 := HS1.out.2.2.1.c0
    have a1 := HS1.out.2.2.1.c1
    have HRal : Hid (∀ o', RowW (V1.alloc o') (w.heap.size + 1) (.slice ao k cp) (firstZ Z k)) := fun o' => HS1.out.1.kept (row := none) (grow1 _ _) (by cases (Value.slice ao k cp).ownBlock <;> simp)
    go_wp2_with (at_builtin; refine wpList_append_whole rfl _ _ rfl (w.heap.size + 1) (.slice ao k cp) (firstZ Z k) (zn, zs) rfl (HRal.out _) (by have := HZl.out; have := hk9; omega) (by have := HS1.out.2.2.2.2.1; have := HS1.out.2.2.1.lt; simp; omega) V1.heap.size rfl (show WBlk _ V1.heap.size (.bool zn) (.string zs) from heap_alloc_new _ _).c0 (show WBlk _ V1.heap.size (.bool zn) (.string zs) from heap_alloc_new _ _).c1 ?_)
    intro v' w' hR' hg' hfr
    obtain ⟨ao', cp', rfl⟩ := hR'.form
    have hlen' : (firstZ Z k ++ [(zn, zs)]).length = k + 1 := by simp [HZl.out]
    rw [hlen'] at hR' hfr ⊢
    have HS2 : Hid (RowW w' (w.heap.size + 1) (.slice ao' (k + 1) cp') (firstZ Z k ++ [(zn, zs)]) ∧ QBlk w' w.heap.size (.bool nN) (.string sN) (.bool dD) (.string tD) ∧ WBlk w' NB (.bool zn) (.string zs) ∧ w.grownBy w' none ∧ w.heap.size < NB) := (by
      obtain ⟨h1, h2, h3, h4, h5, h6⟩ := HS1.out
      have hsz : (V1.alloc (.cells #[.bool zn, .string zs] 23)).heap.size = V1.heap.size + 1 := by simp
      refine ⟨hR', (hg'.block _ (by have := h2.lt; rw [hsz]; omega) (fun e => by have := h6 _ e.symm; omega)).trans (old_alloc _ _ h2), (hg'.block _ (by have := h3.lt; rw [hsz]; omega) (fun e => by have := h6 _ e.symm; omega)).trans (old_alloc _ _ h3), ?_, h5⟩
      have g5 := grownBy_trans h4 (grow1 V1 (wObj zn zs))
      cases hob : (Value.slice ao k cp).ownBlock with
      | none => rw [hob] at hg'; exact grownBy_trans g5 hg'
      | some gb => rw [hob] at hg'; exact grownBy_new g5 (by have := h6 gb hob; omega) hg')
    clear hR' hg' hfr hlen' a0 a1 HS1 HRal HS
    have HK : Hid (∀ W', w'.grownBy W' none → W'.cell? ⟨w.heap.size, 0, none⟩ = some (.bool nN) ∧ W'.cell? ⟨w.heap.size, 1, none⟩ = some (.string sN) ∧ W'.cell? ⟨w.heap.size, 2, none⟩ = some (.bool dD) ∧ W'.cell? ⟨w.heap.size, 3, none⟩ = some (.string tD) ∧ W'.cell? ⟨NB, 0, none⟩ = some (.bool zn) ∧ W'.cell? ⟨NB, 1, none⟩ = some (.string zs)) := fun W' g => by
      have h1 := HS2.out.2.1.kept g (by simp)
      have h2 := HS2.out.2.2.1.kept g (by simp)
      exact ⟨h1.c0, h1.c1, h1.c2, h1.c3, h2.c0, h2.c1⟩
    obtain ⟨k0, k1, k2, k3, k4, k5⟩ := HK.out _ (World.grownBy.refl _ _)
    go_upto_region 5 with fail
    go_region_with
      (first
        | (go_at_call 71; refine (HWh.out _).mono ?_; rintro e wA ⟨rfl, gA⟩; have GA : w'.grownBy wA none := (by first | exact gA | exact grownBy_undrew gA); obtain ⟨m0, m1, m2, m3, m4, m5⟩ := HK.out _ GA)
        | (go_at_call 70; refine (HMi.out _).mono ?_; rintro e wB ⟨rfl, gB⟩; have GB : w'.grownBy wB none := (by first | exact grownBy_trans GA gB | exact grownBy_trans GA (grownBy_undrew gB)); have hX := HS2.out.2.1.kept GB (by simp); have x0 := hX.c0; have x1 := hX.c1; have x2 := hX.c2; have x3 := hX.c3; have f0 := hX.fr 0; have f1 := hX.fr 1; have f2 := hX.fr 2; have f3 := hX.fr 3)
        | fail)
    all_goals (
      have HX6 : Hid (QBlk ((((wB.setCell ⟨w.heap.size, 0, none⟩ (.bool r1)).setCell ⟨w.heap.size, 1, none⟩ (.string r2)).setCell ⟨w.heap.size, 2, none⟩ (.bool dD)).setCell ⟨w.heap.size, 3, none⟩ (.string tD)) w.heap.size (.bool r1) (.string r2) (.bool dD) (.string tD)) := hX.put _ _ _ _
      have gP : wB.grownBy ((((wB.setCell ⟨w.heap.size, 0, none⟩ (.bool r1)).setCell ⟨w.heap.size, 1, none⟩ (.string r2)).setCell ⟨w.heap.size, 2, none⟩ (.bool dD)).setCell ⟨w.heap.size, 3, none⟩ (.string tD)) (some w.heap.size) := grownBy_trans (grownBy_trans (grownBy_setCell _ _ _ _) (grownBy_setCell _ _ _ _)) (grownBy_trans (grownBy_setCell _ _ _ _) (grownBy_setCell _ _ _ _))
      have HR6 : Hid (RowW ((((wB.setCell ⟨w.heap.size, 0, none⟩ (.bool r1)).setCell ⟨w.heap.size, 1, none⟩ (.string r2)).setCell ⟨w.heap.size, 2, none⟩ (.bool dD)).setCell ⟨w.heap.size, 3, none⟩ (.string tD)) (w.heap.size + 1) (.slice ao' (k + 1) cp') (firstZ Z k ++ [(zn, zs)])) := (by
        have h1 := HS2.out.1.kept GB (by cases (Value.slice ao' (k + 1) cp').ownBlock <;> simp)
        exact h1.kept gP (.inr fun e => by have := (h1.own _ e).1; omega))
      have HG6 : Hid (w.grownBy ((((wB.setCell ⟨w.heap.size, 0, none⟩ (.bool r1)).setCell ⟨w.heap.size, 1, none⟩ (.string r2)).setCell ⟨w.heap.size, 2, none⟩ (.bool dD)).setCell ⟨w.heap.size, 3, none⟩ (.string tD)) none) := grown_put4 (grownBy_trans HS2.out.2.2.2.1 GB) (Nat.le_refl _)
      clear hX gP GB gB GA gA HS2 HK k0 k1 k2 k3 k4 k5 m0 m1 m2 m3 m4 m5
      go_upto_region 6 with fail
      clear x0 x1 x2 x3 f0 f1 f2 f3
      generalize (((wB.setCell ⟨w.heap.size, 0, none⟩ (.bool r1)).setCell ⟨w.heap.size, 1, none⟩ (.string r2)).setCell ⟨w.heap.size, 2, none⟩ (.bool dD)).setCell ⟨w.heap.size, 3, none⟩ (.string tD) = V6 at *
      have x0 := HX6.out.c0
      have x1 := HX6.out.c1
      have x2 := HX6.out.c2
      have x3 := HX6.out.c3
      go_wp2_with fail
      refine (HSg.out _).mono ?_
      rintro e w7 ⟨rfl, g7⟩
      have HX7 : Hid (QBlk w7 w.heap.size (.bool r1) (.string r2) (.bool dD) (.string tD)) := HX6.out.kept g7 (by simp)
      have HR7 : Hid (RowW w7 (w.heap.size + 1) (.slice ao' (k + 1) cp') (firstZ Z k ++ [(zn, zs)])) := HR6.out.kept g7 (by cases (Value.slice ao' (k + 1) cp').ownBlock <;> simp)
      have HG7 : Hid (w.grownBy w7 none) := grownBy_trans HG6.out g7
      clear g7 x0 x1 x2 x3 HX6 HR6 HG6
      by_cases hr : N % D = 0
      · obtain rfl : sg = 0 := by rw [hsg2, hr]; rfl
        have HKl : Hid (firstZ Z l.length = firstZ Z k ++ [(zn, zs)]) := (by
          have h1 := HN.out
          have : l.length = k + 1 := by
            rcases HC.out with ⟨h2, _⟩ | ⟨_, h2, _⟩
            · have h3 := congrArg List.length h1.2.1
              rw [h2, List.length_drop] at h3
              simp at h3
              omega
            · omega
          rw [this]
          exact HZk ())
        clear hsg2 hr
        go_wp2_with fail
        go_ret
        exact ⟨_, rfl, by rw [HKl.out]; exact HR7.out, HG7.out⟩
      · obtain rfl : sg = 1 := by
          rw [hsg2]
          have := HN.out.2.2.1
          have h0 : 0 < N % D := by rcases HC.out with ⟨_, h2⟩ | ⟨_, h2, _⟩ <;> omega
          unfold cmpZ
          rw [if_neg (by omega), if_neg (by omega)]
        have HO := HOv.out hr
        have HO1 : Hid (∀ w, Calls Tryz.prog 78 #[frac false oneS false oneS, frac r1 r2 dD tD] w fun e w' => e = .returned (frac dD tD r1 r2) ∧ w.grownBy w' none) := HO
        clear HO hsg2
        have HK : Hid (∀ W', w7.grownBy W' none → W'.cell? ⟨w.heap.size, 0, none⟩ = some (.bool r1) ∧ W'.cell? ⟨w.heap.size, 1, none⟩ = some (.string r2) ∧ W'.cell? ⟨w.heap.size, 2, none⟩ = some (.bool dD) ∧ W'.cell? ⟨w.heap.size, 3, none⟩ = some (.string tD)) := fun W' g => by
          have h1 := HX7.out.kept g (by simp)
          exact ⟨h1.c0, h1.c1, h1.c2, h1.c3⟩
        obtain ⟨k0, k1, k2, k3⟩ := HK.out _ (World.grownBy.refl _ _)
        go_upto_region 7 with fail
        go_region_with
          (first
            | (go_at_call 20; refine (HIn.out _).mono ?_; rintro e wA ⟨rfl, gA⟩; have GA : w7.grownBy wA none := (by first | exact gA | exact grownBy_undrew gA); obtain ⟨m0, m1, m2, m3⟩ := HK.out _ GA)
            | (go_at_call 78; refine (HO1.out _).mono ?_; rintro e wB ⟨rfl, gB⟩; have GB : w7.grownBy wB none := (by first | exact grownBy_trans GA gB | exact grownBy_trans GA (grownBy_undrew gB)); have hX := HX7.out.kept GB (by simp); have x0 := hX.c0; have x1 := hX.c1; have x2 := hX.c2; have x3 := hX.c3; have f0 := hX.fr 0; have f1 := hX.fr 1; have f2 := hX.fr 2; have f3 := hX.fr 3)
            | fail)
        all_goals (
          have gP : wB.grownBy ((((wB.setCell ⟨w.heap.size, 0, none⟩ (.bool dD)).setCell ⟨w.heap.size, 1, none⟩ (.string tD)).setCell ⟨w.heap.size, 2, none⟩ (.bool r1)).setCell ⟨w.heap.size, 3, none⟩ (.string r2)) (some w.heap.size) := grownBy_trans (grownBy_trans (grownBy_setCell _ _ _ _) (grownBy_setCell _ _ _ _)) (grownBy_trans (grownBy_setCell _ _ _ _) (grownBy_setCell _ _ _ _))
          have HS9 : Hid (RqS w ((((wB.setCell ⟨w.heap.size, 0, none⟩ (.bool dD)).setCell ⟨w.heap.size, 1, none⟩ (.string tD)).setCell ⟨w.heap.size, 2, none⟩ (.bool r1)).setCell ⟨w.heap.size, 3, none⟩ (.string r2)) l Z (.slice ao' (k + 1) cp') (k + 1) D (N % D) dD r1 tD r2) := (by
            have h1 := HR7.out.kept GB (by cases (Value.slice ao' (k + 1) cp').ownBlock <;> simp)
            have h2 := HN.out
            have hq := h2.2.2.1
            rcases HC.out with ⟨_, c2⟩ | ⟨c1, c2, c3, c4⟩
            · exact absurd c2 hr
            refine ⟨?_, hX.put _ _ _ _, ⟨hq.zd, hq.zn, c2, by rw [Int.gcd_comm]; exact hq.low⟩, by rw [h2.2.1]; exact c4, ?_, grown_put4 (grownBy_trans HG7.out GB) (Nat.le_refl _)⟩
            · rw [HZk ()]
              exact h1.kept gP (.inr fun e => by have := (h1.own _ e).1; omega)
            · exact Classical.byContradiction fun hc => c1 (by
                rw [← h2.2.1]
                exact List.drop_eq_nil_of_le (by omega)))
          have HK9 : Hid (k + 1 + g = l.length) := (by have := HN.out.1; omega : k + 1 + g = l.length)
          clear gP hX GA GB gA gB HX7 HR7 HG7 HK HO1 x0 x1 x2 x3 f0 f1 f2 f3 k0 k1 k2 k3 m0 m1 m2 m3 hr
          go_wp2_with fail
          go_roundg g
          case measure => omega
          case rel => exact ⟨k + 1, D, N % D, dD, r1, tD, r2, HK9.out, HS9.out⟩))
theorem rfits_is {n d b : Bool} {s t : ByteArray} (h1 : s.size ≤ maxLen) (h2 : t.size ≤ maxLen) (hb : fitsB s t = b) (w : World) :
    Calls Tryz.prog 48 #[frac n s d t] w fun e w' => e = .returned (.bool b) ∧ w.grownBy w' none := by
  refine (rfits_any n d s t h1 h2 w).mono ?_
  rintro e w' ⟨rfl, rfl⟩
  exact ⟨by rw [hb], grow1 _ _⟩
structure StepR (q a b : Int) (zn an bn on pn un vn : Bool) (zS aS bS oS pS uS vS : ByteArray) : Prop where
  over : ∀ w, Calls Tryz.prog 78 #[frac false oneS false oneS, frac an aS bn bS] w fun e w' => e = .returned (frac on oS pn pS) ∧ w.grownBy w' none
  plus : ∀ w, Calls Tryz.prog 77 #[frac zn zS false oneS, frac on oS pn pS] w fun e w' => e = .returned (frac un uS vn vS) ∧ w.grownBy w' none
  u : Sz 2049 (upn q a b) un uS
  v : Sz 1024 (upd a) vn vS
theorem stepR {q a b : Int} {zn : Bool} {zS : ByteArray} (hz : Sz 200 q zn zS) (ha : a ≠ 0) (h1 : a.natAbs < lim) (h2 : b.natAbs < lim) (hb : 0 < b) (hg : Int.gcd a b = 1) : ∃ on pn un vn oS pS uS vS, StepR q a b zn (ez a).1 (ez b).1 on pn un vn zS (ez a).2 (ez b).2 oS pS uS vS := by
  obtain ⟨mn, cn, un, vn, mS, cS, uS, vS, hSt⟩ := stepG hz ha h1 h2
  have hA : IsQ a b (ez a).1 (ez a).2 (ez b).1 (ez b).2 := ⟨ez_sz h1, ez_sz h2, hb, hg⟩
  have h11 : IsQ 1 1 false oneS false oneS := ⟨one_sz.up (by decide), one_sz.up (by decide), by decide, by decide⟩
  have hup := upd_pos ha
  obtain ⟨o, ho⟩ : ∃ o : Int, o = if 0 < a then b else -b := ⟨_, rfl⟩
  have ho2 : o.natAbs = b.natAbs := by rw [ho]; split <;> omega
  have hgo : Int.gcd o (upd a) = 1 := by
    rw [ho]
    unfold upd
    split
    · rw [Int.gcd_comm]; exact hg
    · rw [Int.neg_gcd, Int.gcd_neg, Int.gcd_comm]; exact hg
  have hcr : o * a = b * upd a := by
    rw [ho]
    unfold upd
    split
    · rfl
    · rw [Int.neg_mul, Int.mul_neg]
  obtain ⟨e1, e2⟩ := rnd_one (x := b) (y := a) ha hup.1 hgo hcr
  have hO : IsQ o (upd a) (ez o).1 (ez o).2 vn vS := ⟨ez_sz (by rw [ho2]; exact h2), hSt.v, hup.1, hgo⟩
  have hQ : IsQ q 1 zn zS false oneS := ⟨hz.up (by decide), one_sz.up (by decide), by decide, by simp⟩
  have hs : q * upd a + o * 1 = upn q a b := by
    rw [ho]
    unfold upd upn
    split
    · omega
    · rw [Int.mul_neg]; omega
  refine ⟨(ez o).1, vn, un, vn, (ez o).2, vS, uS, vS, fun w => roverq_any h11 hA ha ?_ w, fun w => rplusq_any hQ hO ?_ w, hSt.u, hSt.v⟩
  · rw [Int.one_mul, Int.one_mul]
    exact ⟨by rw [← e1]; exact ez_is o, by rw [← e2]; exact hSt.v.1⟩
  · rw [hs, Int.one_mul]
    exact low_self hup.1 (upn_gcd ha hg) hSt.u.1 hSt.v.1
theorem upn_one (q : Int) : upn q 1 0 = q ∧ upd 1 = 1 := by unfold upn upd; simp
theorem rmake_any (Z : Nat → Bool × ByteArray) (K : Nat) (rv : Value) (hA : MkA Z K rv) (hK9 : K ≤ 10000000000000) (hs : ∀ q, q < K → (Z q).2.size ≤ maxLen) (ab : Option Addr) (cp : Nat) (w : World)
    (hsrc : ∀ q, q < K → ∃ B off, ab = some ⟨B, off, none⟩ ∧ w.cell? ⟨B, off + q * 2, none⟩ = some (.bool (Z q).1) ∧ w.cell? ⟨B, off + q * 2 + 1, none⟩ = some (.string (Z q).2) ∧ K ≤ cp) :
    Calls Tryz.prog 35 #[.slice ab K cp] w fun e w' => e = .returned rv ∧ w.grownBy w' none := by
  have HS : Hid (∀ q, q < K → ∃ B off, ab = some ⟨B, off, none⟩ ∧ w.cell? ⟨B, off + q * 2, none⟩ = some (.bool (Z q).1) ∧ w.cell? ⟨B, off + q * 2 + 1, none⟩ = some (.string (Z q).2) ∧ K ≤ cp) := hsrc
  have HCk : Hid (∀ q, q < K → ∀ w, Calls Tryz.prog 83 #[whole (Z q).1 (Z q).2] w fun e w' => e = .returned (.bool (may (Z q).1 (Z q).2)) ∧ w.grownBy w' none) := fun q hq w => may_any _ _ (hs q hq) w
  have HA : Hid (MkA Z K rv) := hA
  have hK9I : (K : Int) ≤ 10000000000000 := by omega
  clear hsrc hs
  rcases Nat.eq_zero_or_pos K with h0 | hKp
  · subst h0
    obtain rfl : rv = noV 2 := by
      rcases hA.end (fun i hi => by omega) with ⟨_, h⟩ | ⟨h, _⟩ | ⟨h, _⟩
      · exact h
      · omega
      · omega
    clear hA
    go_enter Tryz.func35, Tryz.ntmps35
    go_wp2_with fail
    refine bodyPost_ret (res_cellQ_tmp rfl _ _ w.heap.size _ _ _ _ _ _ rfl (heap_alloc_new _ _)) rfl ?_
    exact ⟨rfl, grow1 _ _⟩
  have hz0 : ((K : Int) == 0) = false := by rw [beq_eq_false_iff_ne]; omega
  clear hA
  go_enter Tryz.func35, Tryz.ntmps35
  go_wp2_with fail
  go_loopg [4] K (fun g s4 wx => ∃ i : Nat, s4 = .int .i64 (i : Int) ∧ i + g = K ∧ QBlk wx w.heap.size (.bool false) (.string eS) (.bool false) (.string eS) ∧ w.grownBy wx none ∧ ∀ j, j < i → may (Z j).1 (Z j).2 = true)
  case atStart => exact ⟨0, rfl, by omega, heap_alloc_new _ _, grow1 _ _, fun j hj => by omega⟩
  case round =>
    obtain ⟨i, rfl, hig, hQ, hg, hal⟩ := hrel
    have HQ : Hid (QBlk wr w.heap.size (.bool false) (.string eS) (.bool false) (.string eS)) := hQ
    have HG : Hid (w.grownBy wr none) := hg
    have HAl : Hid (∀ j, j < i → may (Z j).1 (Z j).2 = true) := hal
    clear hQ hg hal
    cases gk with
    | zero =>
      obtain rfl : i = K := by omega
      clear hig
      rcases HA.out.end HAl.out with ⟨h0, hrv⟩ | ⟨h0, hrv⟩ | ⟨h1, h4, l, hl, hz, hrv⟩
      · omega
      · subst hrv
        have h4 : (4097 : Int) ≤ i := by omega
        have hR := HQ.out
        have r0 := hR.c0
        have r1 := hR.c1
        have r2 := hR.c2
        have r3 := hR.c3
        have f0 := hR.fr 0
        have f1 := hR.fr 1
        have f2 := hR.fr 2
        have f3 := hR.fr 3
        clear h0
        go_wp2_with fail
        refine bodyPost_ret (res_cellQ_tmp rfl _ _ w.heap.size _ _ _ _ _ _ rfl (hR.put _ _ _ _)) rfl ?_
        exact ⟨rfl, grown_put4 HG.out (Nat.le_refl _)⟩
      · obtain ⟨m, hm⟩ : ∃ m, i = m + 1 := ⟨i - 1, by omega⟩
        have h4I : (i : Int) ≤ 4096 := by omega
        have hmI : (i : Int) - 1 = (m : Int) := by omega
        have hmL : (m : Int) < (i : Int) := by omega
        obtain ⟨B, off, rfl, c0', c1', hcp⟩ := HS.out m (by omega)
        have hcpI : (i : Int) ≤ cp := by omega
        have c0 := grownBy_cell HG.out c0' (by simp)
        have c1 := grownBy_cell HG.out c1' (by simp)
        obtain ⟨q, hq⟩ : ∃ q, l[m]? = some q := ⟨l[m]'(by omega), List.getElem?_eq_getElem _⟩
        have zq := hz m q hq
        have hdm : mkS (l.drop m) = .ok q 1 := by
          rw [mkS_cons l m q hq, List.drop_eq_nil_of_le (by omega)]
          have h5 := mkS_ok (q := q) (l := []) (a := 1) (b := 0) rfl (by decide) (by rw [(upn_one q).1]; have := (zq.up (show 200 ≤ 1024 by decide)).2; unfold lim; exact this)
          rw [(upn_one q).1, (upn_one q).2] at h5
          exact h5
        have HL : Hid (mkS (l.drop m) = .ok q 1 ∧ l.length = i ∧ i = m + 1 ∧ (∀ i q, l[i]? = some q → Sz 200 q (Z i).1 (Z i).2)) := ⟨hdm, hl, hm, hz⟩
        have HE : Hid ((Z m).1 = (ez q).1 ∧ (Z m).2 = (ez q).2) := ez_one zq.1
        have HWh : Hid (∀ n s w, Calls Tryz.prog 71 #[whole n s] w fun e w' => e = .returned (frac n s false oneS) ∧ w.grownBy w' none) := fun n s w => rwholeq_by _ _ (fun w => rof_one w) w
        have hsz := may_size (zq.may (by decide))
        have HFi : Hid (∀ w, Calls Tryz.prog 48 #[frac (Z m).1 (Z m).2 false oneS] w fun e w' => e = .returned (.bool true) ∧ w.grownBy w' none) := fun w => rfits_is (by unfold maxLen; omega) (by decide) (decide_eq_true ⟨by have h1 := isZ_size zq.1; have h2 := zq.bl; omega, by decide⟩) w
        have HRv : Unit → rv = mkV (mkS l) := fun _ => hrv
        clear hrv hz hl h1 h4 hq zq hdm hsz c0' c1' HCk
        generalize (Z m).1 = zn at *
        generalize (Z m).2 = zS at *
        go_wp2_with fail
        refine (HWh.out _ _ _).mono ?_
        rintro e w2 ⟨rfl, g2⟩
        have HX2 : Hid (QBlk (w2.alloc (qObj zn zS false oneS)) w2.heap.size (.bool zn) (.string zS) (.bool false) (.string oneS)) := heap_alloc_new _ _
        have HQ2 : Hid (QBlk (w2.alloc (qObj zn zS false oneS)) w.heap.size (.bool false) (.string eS) (.bool false) (.string eS)) := old_alloc _ _ (HQ.out.kept g2 (by simp))
        have HG2 : Hid (w.grownBy (w2.alloc (qObj zn zS false oneS)) none ∧ w.heap.size < w2.heap.size) := ⟨grownBy_trans (grownBy_trans HG.out g2) (grow1 _ _), Nat.lt_of_lt_of_le HQ.out.lt g2.size⟩
        clear g2 c0 c1
        go_upto_region 11 with fail
        generalize w2.alloc (qObj zn zS false oneS) = V at *
        generalize w2.heap.size = XB at *
        have x0 := HX2.out.c0
        have x1 := HX2.out.c1
        have x2 := HX2.out.c2
        have x3 := HX2.out.c3
        go_wp2_with fail
        refine (HFi.out _).mono ?_
        rintro e w3 ⟨rfl, g3⟩
        have HX3 : Hid (QBlk w3 XB (.bool zn) (.string zS) (.bool false) (.string oneS)) := HX2.out.kept g3 (by simp)
        have HQ3 : Hid (QBlk w3 w.heap.size (.bool false) (.string eS) (.bool false) (.string eS)) := HQ2.out.kept g3 (by simp)
        have HG3 : Hid (w.grownBy w3 none ∧ w.heap.size < XB) := ⟨grownBy_trans HG2.out.1 g3, HG2.out.2⟩
        clear g3 x0 x1 x2 x3 HX2 HQ2 HG2 HFi
        go_wp2_with fail
        have HW0 : Hid (∀ q, q < i → ∃ B' off', (some ⟨B, off, none⟩ : Option Addr) = some ⟨B', off', none⟩ ∧ w.cell? ⟨B', off' + q * 2, none⟩ = some (.bool (Z q).1) ∧ w.cell? ⟨B', off' + q * 2 + 1, none⟩ = some (.string (Z q).2) ∧ i ≤ cp) := HS.out
        go_loopg [6] m (fun g s6 wx => ∃ a b, s6 = .int .i64 ((g : Int) - 1) ∧ g ≤ m ∧ mkS (l.drop g) = .ok a b ∧ QBlk wx XB (.bool (ez a).1) (.string (ez a).2) (.bool (ez b).1) (.string (ez b).2) ∧ QBlk wx w.heap.size (.bool false) (.string eS) (.bool false) (.string eS) ∧ w.grownBy wx none)
        case atStart =>
          refine ⟨q, 1, ?_, Nat.le_refl _, HL.out.1, ?_, HQ3.out, HG3.out.1⟩
          · congr 1; omega
          · rw [← HE.out.1, ← HE.out.2, ez_1.1, ez_1.2]
            exact HX3.out
        case round =>
          clear HX3 HQ3 HE HQ HG HAl HS
          obtain ⟨a, b, rfl, hgm, hab, hX, hR, hgw⟩ := hrel
          have HX : Hid (QBlk wr XB (.bool (ez a).1) (.string (ez a).2) (.bool (ez b).1) (.string (ez b).2)) := hX
          have HR : Hid (QBlk wr w.heap.size (.bool false) (.string eS) (.bool false) (.string eS)) := hR
          have HGw : Hid (w.grownBy wr none) := hgw
          clear hX hR hgw
          cases gk with
          | zero =>
            rw [List.drop_zero] at hab
            have HV : Hid (rv = .tuple #[frac (ez a).1 (ez a).2 (ez b).1 (ez b).2, .int .i64 0]) := (by rw [HRv (), hab]; rfl)
            rw [show (((0 : Nat) : Int) - 1) = -1 by rfl]
            generalize (ez a).1 = an at *
            generalize (ez a).2 = aS at *
            generalize (ez b).1 = bn at *
            generalize (ez b).2 = bS at *
            have x0 := HX.out.c0
            have x1 := HX.out.c1
            have x2 := HX.out.c2
            have x3 := HX.out.c3
            have r0 := HR.out.c0
            have r1 := HR.out.c1
            have r2 := HR.out.c2
            have r3 := HR.out.c3
            have f0 := HR.out.fr 0
            have f1 := HR.out.fr 1
            have f2 := HR.out.fr 2
            have f3 := HR.out.fr 3
            clear hab hmI
            go_wp2_with fail
            refine bodyPost_ret (res_cellQ_tmp rfl _ _ w.heap.size _ _ _ _ _ _ rfl (HR.out.put _ _ _ _)) rfl ?_
            exact ⟨by rw [HV.out]; rfl, grown_put4 HGw.out (Nat.le_refl _)⟩
          | succ g =>
            rw [show (((g + 1 : Nat) : Int) - 1) = (g : Int) by omega]
            obtain ⟨_, hl, him, hz⟩ := HL.out
            obtain ⟨p, hp⟩ : ∃ p, l[g]? = some p := ⟨l[g]'(by omega), List.getElem?_eq_getElem _⟩
            have zp := hz g p hp
            have hcons := mkS_cons l g p hp
            obtain ⟨ha1, hb1, hg1, hb0⟩ := mkS_inv _ a b hab
            have hb0 := hb0 (by intro e; have := congrArg List.length e; rw [List.length_drop] at this; simp at this; omega)
            have hsg : sgn (ez a).1 (ez a).2 = cmpZ a 0 := sgn_of (k := 1024) (by decide) (ez_sz ha1)
            obtain ⟨B', off', e', c0', c1', _⟩ := HW0.out g (by omega)
            cases e'
            have HC0 : Hid (w.cell? ⟨B, off + g * 2, none⟩ = some (.bool (Z g).1) ∧ w.cell? ⟨B, off + g * 2 + 1, none⟩ = some (.string (Z g).2)) := ⟨c0', c1'⟩
            have HGm : Hid (g + 1 ≤ m) := hgm
            have hgI : (g : Int) < (i : Int) := by omega
            have hg0 : (0 : Int) ≤ (g : Int) := by omega
            by_cases ha : a = 0
            · have HV : Hid (rv = noV 5) := (by
                subst ha
                have h5 := mkS_zero (q := p) hab
                rw [← hcons] at h5
                rw [HRv (), mkS_up l g 5 h5]
                rfl)
              have HSg : Hid (∀ w, Calls Tryz.prog 28 #[frac (ez a).1 (ez a).2 (ez b).1 (ez b).2] w fun e w' => e = .returned (.int .i64 0) ∧ w.grownBy w' none) := fun w => (rsignq_any _ _ _ _ w).mono (by
                rintro e w' ⟨rfl, hg⟩
                rw [hsg, ha]
                exact ⟨rfl, hg⟩)
              generalize (ez a).1 = an at *
              generalize (ez a).2 = aS at *
              generalize (ez b).1 = bn at *
              generalize (ez b).2 = bS at *
              have x0 := HX.out.c0
              have x1 := HX.out.c1
              have x2 := HX.out.c2
              have x3 := HX.out.c3
              clear hab hmI hl him hz hp zp hcons ha1 hb1 hg1 hb0 hsg c0' c1' ha hgm
              go_wp2_with fail
              refine (HSg.out _).mono ?_
              rintro e w4 ⟨rfl, g4⟩
              have hR4 := HR.out.kept g4 (by simp)
              have r0 := hR4.c0
              have r1 := hR4.c1
              have r2 := hR4.c2
              have r3 := hR4.c3
              have f0 := hR4.fr 0
              have f1 := hR4.fr 1
              have f2 := hR4.fr 2
              have f3 := hR4.fr 3
              have HG4 : Hid (w.grownBy w4 none) := grownBy_trans HGw.out g4
              clear g4 x0 x1 x2 x3
              go_wp2_with fail
              refine bodyPost_ret (res_cellQ_tmp rfl _ _ w.heap.size _ _ _ _ _ _ rfl (hR4.put _ _ _ _)) rfl ?_
              exact ⟨by rw [HV.out]; rfl, grown_put4 HG4.out (Nat.le_refl _)⟩
            · obtain ⟨on, pn, un, vn, oS, pS, uS, vS, hSt⟩ := stepR zp ha ha1 hb1 hb0 hg1
              obtain ⟨sg, hsv, hsn⟩ : ∃ sg : Int, sgn (ez a).1 (ez a).2 = sg ∧ (sg == 0) = false := ⟨_, rfl, by
                rw [hsg, beq_eq_false_iff_ne]
                unfold cmpZ
                (repeat' split) <;> omega⟩
              have HSg : Hid (∀ w, Calls Tryz.prog 28 #[frac (ez a).1 (ez a).2 (ez b).1 (ez b).2] w fun e w' => e = .returned (.int .i64 sg) ∧ w.grownBy w' none) := fun w => by rw [← hsv]; exact rsignq_any _ _ _ _ w
              have HIn : Hid (∀ w, Calls Tryz.prog 20 #[.int .i64 1] w fun e w' => e = .returned (frac false oneS false oneS) ∧ w.grownBy w' none) := fun w => rint_by 1 false oneS (fun w => rof_one w) (fun w => rof_one w) w
              have HOv : Hid _ := hSt.over
              have HPl : Hid _ := hSt.plus
              have hsu := may_size (hSt.u.may (by decide))
              have hsv2 := may_size (hSt.v.may (by decide))
              obtain ⟨fb, hfb⟩ : ∃ fb, fitsB uS vS = fb := ⟨_, rfl⟩
              have HFi : Hid (∀ w, Calls Tryz.prog 48 #[frac un uS vn vS] w fun e w' => e = .returned (.bool fb) ∧ w.grownBy w' none) := fun w => rfits_is (by unfold maxLen; omega) (by unfold maxLen; omega) hfb w
              have HNx : Hid ((fb = true ∧ mkS (l.drop g) = .ok (upn p a b) (upd a) ∧ ez (upn p a b) = (un, uS) ∧ ez (upd a) = (vn, vS)) ∨ (fb = false ∧ rv = noV 4)) := (by
                have hvl : vS.size ≤ 1024 := by have h1 := isZ_size hSt.v.1; have h2 := hSt.v.bl; omega
                by_cases hf : uS.size ≤ 1024
                · left
                  have h4 := may_sz (hSt.u.may (by decide)) hf
                  rw [hSt.u.num] at h4
                  refine ⟨by rw [← hfb]; exact decide_eq_true ⟨hf, hvl⟩, by rw [hcons]; exact mkS_ok hab ha (by unfold lim; exact h4.2), ?_, ?_⟩
                  · obtain ⟨e1, e2⟩ := ez_one hSt.u.1
                    rw [e1, e2]
                  · obtain ⟨e1, e2⟩ := ez_one hSt.v.1
                    rw [e1, e2]
                · right
                  refine ⟨by rw [← hfb]; exact decide_eq_false (fun h => hf h.1), ?_⟩
                  have hb : ¬ (upn p a b).natAbs < lim := fun h => by
                    have h4 : Sz 1024 (upn p a b) un uS := ez_sz2 hSt.u.1 h
                    have h1 := isZ_size h4.1; have h2 := h4.bl
                    omega
                  have h5 := mkS_big (q := p) hab ha hb
                  rw [← hcons] at h5
                  rw [HRv (), mkS_up l g 4 h5]
                  rfl)
              generalize (ez a).1 = an at *
              generalize (ez a).2 = aS at *
              generalize (ez b).1 = bn at *
              generalize (ez b).2 = bS at *
              generalize (Z g).1 = gn at *
              generalize (Z g).2 = gS at *
              have x0 := HX.out.c0
              have x1 := HX.out.c1
              have x2 := HX.out.c2
              have x3 := HX.out.c3
              clear hab hmI hl him hz hp zp hcons ha1 hb1 hg1 hb0 hsg c0' c1' ha hgm hSt hsu hsv2 hsv hfb
              go_wp2_with fail
              refine (HSg.out _).mono ?_
              rintro e w4 ⟨rfl, g4⟩
              have HX4 : Hid (QBlk w4 XB (.bool an) (.string aS) (.bool bn) (.string bS)) := HX.out.kept g4 (by simp)
              have HR4 : Hid (QBlk w4 w.heap.size (.bool false) (.string eS) (.bool false) (.string eS)) := HR.out.kept g4 (by simp)
              have HG4 : Hid (w.grownBy w4 none) := grownBy_trans HGw.out g4
              clear g4 x0 x1 x2 x3
              have HK : Hid (∀ W', w4.grownBy W' none → W'.cell? ⟨XB, 0, none⟩ = some (.bool an) ∧ W'.cell? ⟨XB, 1, none⟩ = some (.string aS) ∧ W'.cell? ⟨XB, 2, none⟩ = some (.bool bn) ∧ W'.cell? ⟨XB, 3, none⟩ = some (.string bS) ∧ W'.cell? ⟨B, off + g * 2, none⟩ = some (.bool gn) ∧ W'.cell? ⟨B, off + g * 2 + 1, none⟩ = some (.string gS)) := fun W' g => by
                have h1 := HX4.out.kept g (by simp)
                have h2 := grownBy_trans HG4.out g
                exact ⟨h1.c0, h1.c1, h1.c2, h1.c3, grownBy_cell h2 HC0.out.1 (by simp), grownBy_cell h2 HC0.out.2 (by simp)⟩
              obtain ⟨k0, k1, k2, k3, k4, k5⟩ := HK.out _ (World.grownBy.refl _ _)
              go_upto_region 18 with fail
              go_region_with
                (first
                  | (go_at_call 71; refine (HWh.out _ _ _).mono ?_; rintro e wA ⟨rfl, gA⟩; have GA : w4.grownBy wA none := (by first | exact gA | exact grownBy_undrew gA); obtain ⟨m0, m1, m2, m3, m4, m5⟩ := HK.out _ GA)
                  | (go_at_call 20; refine (HIn.out _).mono ?_; rintro e wB ⟨rfl, gB⟩; have GB : w4.grownBy wB none := (by first | exact grownBy_trans GA gB | exact grownBy_trans GA (grownBy_undrew gB)); obtain ⟨n0, n1, n2, n3, n4, n5⟩ := HK.out _ GB)
                  | (go_at_call 78; refine (HOv.out _).mono ?_; rintro e wC ⟨rfl, gC⟩; have GC : w4.grownBy wC none := (by first | exact grownBy_trans GB gC | exact grownBy_trans GB (grownBy_undrew gC)))
                  | (go_at_call 77; refine (HPl.out _).mono ?_; rintro e wD ⟨rfl, gD⟩; have GD : w4.grownBy wD none := (by first | exact grownBy_trans GC gD | exact grownBy_trans GC (grownBy_undrew gD)); have hX := HX4.out.kept GD (by simp); have x0 := hX.c0; have x1 := hX.c1; have x2 := hX.c2; have x3 := hX.c3; have f0 := hX.fr 0; have f1 := hX.fr 1; have f2 := hX.fr 2; have f3 := hX.fr 3)
                  | fail)
              all_goals (
                have HX9 : Hid (QBlk ((((wD.setCell ⟨XB, 0, none⟩ (.bool un)).setCell ⟨XB, 1, none⟩ (.string uS)).setCell ⟨XB, 2, none⟩ (.bool vn)).setCell ⟨XB, 3, none⟩ (.string vS)) XB (.bool un) (.string uS) (.bool vn) (.string vS)) := hX.put _ _ _ _
                have gP : wD.grownBy ((((wD.setCell ⟨XB, 0, none⟩ (.bool un)).setCell ⟨XB, 1, none⟩ (.string uS)).setCell ⟨XB, 2, none⟩ (.bool vn)).setCell ⟨XB, 3, none⟩ (.string vS)) (some XB) := grownBy_trans (grownBy_trans (grownBy_setCell _ _ _ _) (grownBy_setCell _ _ _ _)) (grownBy_trans (grownBy_setCell _ _ _ _) (grownBy_setCell _ _ _ _))
                have HR9 : Hid (QBlk ((((wD.setCell ⟨XB, 0, none⟩ (.bool un)).setCell ⟨XB, 1, none⟩ (.string uS)).setCell ⟨XB, 2, none⟩ (.bool vn)).setCell ⟨XB, 3, none⟩ (.string vS)) w.heap.size (.bool false) (.string eS) (.bool false) (.string eS)) := (HR4.out.kept GD (by simp)).kept gP (by intro e; injection e with e; have := HG3.out.2; omega)
                have HG9 : Hid (w.grownBy ((((wD.setCell ⟨XB, 0, none⟩ (.bool un)).setCell ⟨XB, 1, none⟩ (.string uS)).setCell ⟨XB, 2, none⟩ (.bool vn)).setCell ⟨XB, 3, none⟩ (.string vS)) none) := grown_put4 (grownBy_trans HG4.out GD) (Nat.le_of_lt HG3.out.2)
                clear hX gP GA GB GC GD gA gB gC gD k0 k1 k2 k3 k4 k5 m0 m1 m2 m3 m4 m5 n0 n1 n2 n3 n4 n5 HX4 HR4 HG4 HK HX HR HGw
                go_upto_region 19 with fail
                clear x0 x1 x2 x3 f0 f1 f2 f3
                generalize (((wD.setCell ⟨XB, 0, none⟩ (.bool un)).setCell ⟨XB, 1, none⟩ (.string uS)).setCell ⟨XB, 2, none⟩ (.bool vn)).setCell ⟨XB, 3, none⟩ (.string vS) = V9 at *
                have x0 := HX9.out.c0
                have x1 := HX9.out.c1
                have x2 := HX9.out.c2
                have x3 := HX9.out.c3
                go_wp2_with fail
                refine (HFi.out _).mono ?_
                rintro e w5 ⟨rfl, g5⟩
                have HX5 : Hid (QBlk w5 XB (.bool un) (.string uS) (.bool vn) (.string vS)) := HX9.out.kept g5 (by simp)
                have hR5 := HR9.out.kept g5 (by simp)
                have HG5 : Hid (w.grownBy w5 none) := grownBy_trans HG9.out g5
                clear g5 x0 x1 x2 x3
                rcases HNx.out with ⟨rfl, hmk, e1, e2⟩ | ⟨rfl, hrv⟩
                · have HR5 : Hid (QBlk w5 w.heap.size (.bool false) (.string eS) (.bool false) (.string eS)) := hR5
                  have HM : Hid (mkS (l.drop g) = .ok (upn p a b) (upd a) ∧ ez (upn p a b) = (un, uS) ∧ ez (upd a) = (vn, vS)) := ⟨hmk, e1, e2⟩
                  clear hmk e1 e2 hR5
                  go_wp2_with fail
                  go_roundg g
                  case measure => omega
                  case rel =>
                    obtain ⟨h1, h2, h3⟩ := HM.out
                    refine ⟨upn p a b, upd a, rfl, by have := HGm.out; omega, h1, ?_, HR5.out, HG5.out⟩
                    rw [h2, h3]
                    exact HX5.out
                · have HV : Hid (rv = noV 4) := hrv
                  have r0 := hR5.c0
                  have r1 := hR5.c1
                  have r2 := hR5.c2
                  have r3 := hR5.c3
                  have f0 := hR5.fr 0
                  have f1 := hR5.fr 1
                  have f2 := hR5.fr 2
                  have f3 := hR5.fr 3
                  clear hrv
                  go_wp2_with fail
                  refine bodyPost_ret (res_cellQ_tmp rfl _ _ w.heap.size _ _ _ _ _ _ rfl (hR5.put _ _ _ _)) rfl ?_
                  exact ⟨by rw [HV.out]; rfl, grown_put4 HG5.out (Nat.le_refl _)⟩)
    | succ g =>
      have hiN : i < K := by omega
      have hiI : (i : Int) < (K : Int) := by omega
      obtain ⟨B, off, rfl, c0', c1', hcp⟩ := HS.out i hiN
      have hcpI : (K : Int) ≤ cp := by omega
      have c0 := grownBy_cell HG.out c0' (by simp)
      have c1 := grownBy_cell HG.out c1' (by simp)
      have HCi := HCk.out i hiN
      have HIg : Hid (i + (g + 1) = K) := hig
      cases hm : may (Z i).1 (Z i).2
      · have hrv := HA.out.at hiN hm
        subst hrv
        rw [hm] at HCi
        have HCj : Hid (∀ w, Calls Tryz.prog 83 #[whole (Z i).1 (Z i).2] w fun e w' => e = .returned (.bool false) ∧ w.grownBy w' none) := HCi
        generalize (Z i).1 = zn at *
        generalize (Z i).2 = zS at *
        clear c0' c1' HCi hm
        go_wp2_with fail
        refine (HCj.out _).mono ?_
        rintro e w2 ⟨rfl, g2⟩
        have hR := HQ.out.kept g2 (by simp)
        have HG2 : Hid (w.grownBy w2 none) := grownBy_trans HG.out g2
        have r0 := hR.c0
        have r1 := hR.c1
        have r2 := hR.c2
        have r3 := hR.c3
        have f0 := hR.fr 0
        have f1 := hR.fr 1
        have f2 := hR.fr 2
        have f3 := hR.fr 3
        clear g2 c0 c1
        go_wp2_with fail
        refine bodyPost_ret (res_cellQ_tmp rfl _ _ w.heap.size _ _ _ _ _ _ rfl (hR.put _ _ _ _)) rfl ?_
        exact ⟨rfl, grown_put4 HG2.out (Nat.le_refl _)⟩
      · rw [hm] at HCi
        have HCj : Hid (∀ w, Calls Tryz.prog 83 #[whole (Z i).1 (Z i).2] w fun e w' => e = .returned (.bool true) ∧ w.grownBy w' none) := HCi
        have HAl2 : Hid (∀ j, j < i + 1 → may (Z j).1 (Z j).2 = true) := fun j hj => by
          rcases Nat.lt_or_eq_of_le (Nat.le_of_lt_succ hj) with h | h
          · exact HAl.out j h
          · rw [h]; exact hm
        generalize (Z i).1 = zn at *
        generalize (Z i).2 = zS at *
        clear c0' c1' HCi hm HAl
        go_wp2_with fail
        refine (HCj.out _).mono ?_
        rintro e w2 ⟨rfl, g2⟩
        have HQ2 : Hid (QBlk w2 w.heap.size (.bool false) (.string eS) (.bool false) (.string eS)) := HQ.out.kept g2 (by simp)
        have HG2 : Hid (w.grownBy w2 none) := grownBy_trans HG.out g2
        clear g2 c0 c1
        go_wp2_with fail
        go_roundg g
        case measure => omega
        case rel => exact ⟨i + 1, rfl, by have := HIg.out; omega, HQ2.out, HG2.out, HAl2.out⟩
end Go.Proofs.YtdfliaogmlpefaaGreatDoor
