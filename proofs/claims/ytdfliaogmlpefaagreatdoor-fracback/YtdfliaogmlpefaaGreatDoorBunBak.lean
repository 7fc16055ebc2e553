/-
  FracBack: its walk.
  FracBack of any fraction.
-/
import Derived.Test.YtdfliaogmlpefaaGreatDoorBunWla
import Derived.Test.YtdfliaogmlpefaaGreatDoorBunRfs
import Derived.Test.YtdfliaogmlpefaaGreatDoorRfr
import Derived.Test.YtdfliaogmlpefaaGreatDoorBunBwh
import Derived.Sort.CutIn
import Derived.Test.YtdfliaogmlpefaaGreatDoorQlb
namespace Go.Proofs.YtdfliaogmlpefaaGreatDoor
open Go.RowKit Go.Lib Go.Sort Go.Shelf
set_option linter.unusedVariables false
attribute [local go_sem] Oper.semAt_some
set_option maxHeartbeats 4000000
set_option maxRecDepth 1000000
theorem eq_fn_some {P : Program} (w : World) (d : Nat) (t : TypeId) {a b : Array TypeId} {c : Bool} (h : P.underlying t = some (.func a b c)) (f : Fn) (x y : Array Value) : (Op.equalIn (d + 1) t (.func f x y) .nilFunc).run P w = .ok false w := by
  simp [Op.equalIn, run_underlying h]
theorem eql_fn_some {P : Program} (w : World) (t : TypeId) {a b : Array TypeId} {c : Bool} (h : P.underlying t = some (.func a b c)) (f : Fn) (x y : Array Value) : (binOp .eql t (.func f x y) .nilFunc).run P w = .ok (.bool false) w := by
  simp only [binOp]
  simp [Op.equal, Op.maxDepth, eq_fn_some w 9999 t h f x y]
def firstZ (Z : Nat → Bool × ByteArray) (k : Nat) : List (Bool × ByteArray) := (List.range k).map Z
theorem firstZ_succ (Z : Nat → Bool × ByteArray) (k : Nat) : firstZ Z (k + 1) = firstZ Z k ++ [Z k] := by simp [firstZ, List.range_succ]
theorem firstZ_len (Z : Nat → Bool × ByteArray) (k : Nat) : (firstZ Z k).length = k := by simp [firstZ]
def bkI (w : World) (YB : Nat) (n : Bool) (s : ByteArray) (d : Bool) (t : ByteArray) (Z : Nat → Bool × ByteArray) (p : Nat × Option Nat) (W : World) : Prop :=
  QBlk W w.heap.size (.bool n) (.string s) (.bool d) (.string t) ∧ W.heap[w.heap.size + 1]? = some (.cells #[.bool false] 4 (0, 0)) ∧ QBlk W YB (.bool n) (.string s) (.bool d) (.string t) ∧ QBlk W (YB + 1 + 1) (.bool n) (.string s) (.bool d) (.string t) ∧ w.grownBy W none ∧
  ∃ v, W.heap[YB + 1]? = some (.cells #[v] 48 (0, 0)) ∧ RowW W (YB + 3) v (firstZ Z p.1) ∧ v.ownBlock = p.2
theorem bkI_own (w : World) (YB : Nat) (n : Bool) (s : ByteArray) (d : Bool) (t : ByteArray) (Z : Nat → Bool × ByteArray) (hw : w.heap.size + 1 < YB) (p : Nat × Option Nat) (W W' : World) (row : Option Nat) (h : bkI w YB n s d t Z p W) (hg : W.grownBy W' row) (hr : ∀ r, row = some r → YB + 3 ≤ r ∧ p.2 ≠ some r) : bkI w YB n s d t Z p W' := by
  obtain ⟨a, b, c, e, g, v, h1, h2, h3⟩ := h
  have nb : ∀ i o, i < YB + 3 → W.heap[i]? = some o → W'.heap[i]? = some o := fun i o hi h => (hg.block i (Array.getElem?_eq_some_iff.1 h).1 (fun e => by have := (hr i e.symm).1; omega)).trans h
  refine ⟨nb _ _ (by omega) a, nb _ _ (by omega) b, nb _ _ (by omega) c, nb _ _ (by omega) e, ?_, v, nb _ _ (by omega) h1, h2.kept hg ?_, h3⟩
  · exact ⟨hg.os.trans g.os, hg.tape.trans g.tape, hg.output.trans g.output, Nat.le_trans g.size hg.size, fun i hi hn => (hg.block i (Nat.lt_of_lt_of_le hi g.size) (fun e => by have := (hr i e.symm).1; omega)).trans (g.block i hi hn)⟩
  · cases row with
    | none =>
      cases v.ownBlock with
      | none => exact .inl rfl
      | some g => exact .inr (by simp)
    | some r => exact .inr (by rw [h3]; exact (hr r rfl).2)
theorem RowW.cells {w : World} {base : Nat} {v : Value} {L : List (Bool × ByteArray)} (h : RowW w base v L) (g : Nat) (hg : v.ownBlock = some g) : ∃ c ty f, w.heap[g]? = some (.cells c ty f) := by
  rcases h.2 with ⟨e, _⟩ | ⟨g', cap, cur, e, hb, hgg, _⟩
  · rw [e] at hg; cases hg
  · rw [e] at hg
    cases hg
    exact ⟨_, _, _, hgg⟩
def bkA (w : World) (YB : Nat) (n : Bool) (s : ByteArray) (d : Bool) (t a : ByteArray) (Z : Nat → Bool × ByteArray) (p : Nat × Option Nat) (x : Act × World) : Prop :=
  ∃ QB, x.1 = { tmps := #[frac n s d t, .pointer (some ⟨w.heap.size, 0, none⟩), .pointer (some ⟨w.heap.size + 1, 0, none⟩), .string a, .int .i64 0, .pointer (some ⟨YB, 0, none⟩), .int .i64 0, .pointer (some ⟨YB + 1, 0, none⟩), .func (.func 79) #[] #[.pointer (some ⟨YB + 1 + 1, 0, none⟩)], .pointer (some ⟨QB, 0, none⟩), undef, undef, .agg #[.bool n, .string s, .bool d, .string t], .slice (some ⟨w.heap.size + 1 + 1, 0, none⟩) 1 1, .bool false, .bool false, .agg #[.bool n, .string s, .bool d, .string t], .bool true, .bool false, .bool false, undef, .tuple #[.string a, .int .i64 0], .agg #[.bool n, .string s, .bool d, .string t], .tuple #[.string a, .int .i64 0], .string a, .int .i64 0, .tuple #[frac n s d t, .int .i64 0], .string a, .tuple #[frac n s d t, .int .i64 0], frac n s d t, .int .i64 0, .agg #[.bool n, .string s, .bool d, .string t], .func (.func 79) #[] #[.pointer (some ⟨YB + 1 + 1, 0, none⟩)], .func (.func 79) #[] #[.pointer (some ⟨YB + 1 + 1, 0, none⟩)], .bool false, .func (.func 79) #[] #[.pointer (some ⟨YB + 1 + 1, 0, none⟩)], whole (Z p.1).1 (Z p.1).2, undef, undef, undef, undef, undef, undef, undef, undef, undef, undef, undef, undef, undef, undef, undef, undef, undef, undef, undef, undef, undef, undef, undef, undef, undef, undef, undef, undef, undef, undef, undef, undef, undef, undef, undef], defers := [] } ∧ WBlk x.2 QB (.bool (Z p.1).1) (.string (Z p.1).2) ∧ YB + 2 < QB ∧ p.2 ≠ some QB ∧ bkI w YB n s d t Z p x.2
theorem load_bool (w : World) (g : Nat) (v : Bool) (h : w.heap[g]? = some (.cells #[.bool v] 4 (0, 0))) : (loadVar 4 ⟨g, 0, none⟩).run Tryz.prog w = .ok (.bool v) w := by
  have hc : w.cell? ⟨g, 0, none⟩ = some (.bool v) := by simp [World.cell?, h]
  simp [go_sem, loadVar, hc]
theorem res_back (tmps : Array Value) (w : World) (g : Nat) (v : Value) (hp : tmps.getD 2 undef = .pointer (some ⟨g, 0, none⟩)) (hg' : (loadVar 4 ⟨g, 0, none⟩).run Tryz.prog w = .ok v w) : (results Tryz.f8 tmps).run Tryz.prog w = .ok v w := by
  have hp' : tmps[2]?.getD undef = .pointer (some ⟨g, 0, none⟩) := by simpa using hp
  simp [results, hp', asAddr, hg']
theorem back_walk {x y : Int} {n d : Bool} {s t : ByteArray} (h : IsQ x y n s d t) (l : List Int) (hl : Eu x y l) (Z : Nat → Bool × ByteArray) (hZ : ∀ i q, l[i]? = some q → IsZ q (Z i).1 (Z i).2) (hlen : l.length ≤ 1300) (a : ByteArray) (w : World)
    (HL : Hid (∀ (W : World) (B : Nat), W.heap[B]? = some (.cells #[.bool n, .string s, .bool d, .string t] 25 (0, 0)) → Calls Tryz.prog 9 #[.int .i64 100, .slice (some ⟨B, 0, none⟩) 1 1] W fun e w' => e = .returned (.bool false) ∧ W.grownBy w' none))
    (HK : Hid (∀ W, w.grownBy W none → Calls Tryz.prog 10 #[] W fun e w' => e = .returned (.bool true) ∧ W.grownBy w' none))
    (HT : Hid (∀ W, w.grownBy W none → Calls Tryz.prog 36 #[frac n s d t] W fun e w' => e = .returned (.tuple #[.string a, .int .i64 0]) ∧ W.grownBy w' none))
    (HR : Hid (∀ W, Calls Tryz.prog 37 #[.string a] W fun e w' => e = .returned (.tuple #[frac n s d t, .int .i64 0]) ∧ W.grownBy w' none))
    (HMk : Hid (∀ W g cp, l.length ≤ cp → (∀ q, q < l.length → W.cell? ⟨g, q * 2, none⟩ = some (.bool (Z q).1) ∧ W.cell? ⟨g, q * 2 + 1, none⟩ = some (.string (Z q).2)) → Calls Tryz.prog 34 #[.slice (some ⟨g, 0, none⟩) l.length cp] W fun e w' => e = .returned (.tuple #[frac n s d t, .int .i64 0]) ∧ W.grownBy w' none)) :
    Calls Tryz.prog 8 #[frac n s d t] w fun e w' => e = .returned (.bool true) ∧ w.grownBy w' none := by
  have HM : Hid (∀ w, Calls Tryz.prog 40 #[frac n s d t] w fun e w' => e = .returned (.bool true) ∧ w.grownBy w' none) := fun w => h.call w
  have HXK : Hid (∀ w', ((w.alloc (qObj n s d t)).alloc (.cells #[.bool false] 4)).grownBy w' none → w'.cell? ⟨w.heap.size, 0, none⟩ = some (Value.bool n) ∧ w'.cell? ⟨w.heap.size, 1, none⟩ = some (Value.string s) ∧ w'.cell? ⟨w.heap.size, 2, none⟩ = some (Value.bool d) ∧ w'.cell? ⟨w.heap.size, 3, none⟩ = some (Value.string t)) := fun w' hg => by
    have h : QBlk w' w.heap.size (.bool n) (.string s) (.bool d) (.string t) := QBlk.kept (w := (w.alloc (qObj n s d t)).alloc (.cells #[.bool false] 4)) (old_alloc _ _ (heap_alloc_new _ _)) hg (by simp)
    exact ⟨h.c0, h.c1, h.c2, h.c3⟩
  refine (callsIn_wide (n := 5)).1 ?_
  refine callsIn_of_wp_marks Tryz.func8 rfl trivial ?_ rfl
  simp only [Tryz.ntmps8, List.size_toArray, List.length_cons, List.length_nil, Nat.reduceAdd, Nat.reduceSub, Array.replicate_succ, Array.replicate_zero, List.push_toArray, List.append_toArray, List.nil_append, List.cons_append]
  gi_wp2
  refine ⟨trivial, ?_⟩
  refine (callsIn_wide.2 (HL.out _ _ ?hb)).mono ?_
  case hb => exact at_alloc3 _ _ _ _
  rintro e w1 ⟨rfl, g1⟩
  have G1 : Hid (((w.alloc (qObj n s d t)).alloc (.cells #[.bool false] 4)).grownBy w1 none) := grownBy_trans (grow1 _ _) g1
  obtain ⟨c0, c1, c2, c3⟩ := HXK.out _ G1.out
  clear g1
  gi_wp2
  refine ⟨trivial, ?_⟩
  refine (callsIn_wide.2 (HM.out _)).mono ?_
  rintro e w2 ⟨rfl, g2⟩
  have G2 : Hid (((w.alloc (qObj n s d t)).alloc (.cells #[.bool false] 4)).grownBy w2 none) := grownBy_trans G1.out g2
  clear c0 c1 c2 c3 g2 G1
  obtain ⟨c0, c1, c2, c3⟩ := HXK.out _ G2.out
  gi_wp2
  refine ⟨trivial, ?_⟩
  refine (callsIn_wide.2 (HT.out _ (grownBy_trans (grow2 _ _ _) G2.out))).mono ?_
  rintro e w3 ⟨rfl, g3⟩
  have G3 : Hid (((w.alloc (qObj n s d t)).alloc (.cells #[.bool false] 4)).grownBy w3 none) := grownBy_trans G2.out g3
  clear c0 c1 c2 c3 g3 G2
  gi_wp2
  refine ⟨trivial, ?_⟩
  refine (callsIn_wide.2 (HR.out _)).mono ?_
  rintro e w4 ⟨rfl, g4⟩
  have G4 : Hid (((w.alloc (qObj n s d t)).alloc (.cells #[.bool false] 4)).grownBy w4 none) := grownBy_trans G3.out g4
  clear g4 G3
  obtain ⟨c0, c1, c2, c3⟩ := HXK.out _ (grownBy_trans G4.out (grow2 w4 (qObj n s d t) (.cells #[.slice none 0 0] 48)))
  gi_wp2
  refine ⟨trivial, ?_⟩
  refine (callsIn_wide.2 (quot_any _ _ _ _ _)).mono ?_
  rintro e w5 ⟨rfl, rfl⟩
  clear c0 c1 c2 c3
  have hnf : ∀ (x : Array Value) (W : World), (binOp .eql 51 (.func (.func 79) #[] x) .nilFunc).run Tryz.prog W = .ok (.bool false) W := fun x W => eql_fn_some W 51 Tryz.underlying51 _ _ _
  gi_wp2
  clear hnf
  have HG0 : Hid (w.grownBy w4 none ∧ w.heap.size + 1 < w4.heap.size) := (by
    refine ⟨grownBy_trans (grow2 _ _ _) G4.out, ?_⟩
    have := G4.out.size
    simp at this
    omega)
  have HI0 : Hid (bkI w w4.heap.size n s d t Z (0, none) (((w4.alloc (qObj n s d t)).alloc (.cells #[.slice none 0 0] 48)).alloc (qObj n s d t))) := (by
    have b1 : QBlk w4 w.heap.size (.bool n) (.string s) (.bool d) (.string t) := QBlk.kept (w := (w.alloc (qObj n s d t)).alloc (.cells #[.bool false] 4)) (old_alloc _ _ (heap_alloc_new _ _)) G4.out (by simp)
    have b2 : w4.heap[w.heap.size + 1]? = some (.cells #[.bool false] 4 (0, 0)) := (G4.out.block (w.heap.size + 1) (by simp) (by simp)).trans (heap_alloc2_new _ _ _)
    exact ⟨old_alloc _ _ (old_alloc _ _ (old_alloc _ _ b1)), old_alloc _ _ (old_alloc _ _ (old_alloc _ _ b2)), old_alloc _ _ (old_alloc _ _ (heap_alloc_new _ _)), at_alloc3 _ _ _ _, grownBy_trans HG0.out.1 (grow3 _ _ _ _), .slice none 0 0, old_alloc _ _ (heap_alloc2_new _ _ _), RowW.nil _ _, rfl⟩)
  have hsz : (((w4.alloc (qObj n s d t)).alloc (.cells #[.slice none 0 0] 48)).alloc (qObj n s d t)).heap.size = w4.heap.size + 3 := by simp
  clear G4
  generalize ((w4.alloc (qObj n s d t)).alloc (.cells #[.slice none 0 0] 48)).alloc (qObj n s d t) = W0 at *
  generalize w4.heap.size = YB at *
  have own := bkI_own w YB n s d t Z HG0.out.2
  refine wpIn_countedK rfl (by omega) (gf := 79) (lb := #[.pointer (some ⟨YB + 1 + 1, 0, none⟩)]) rfl trivial (enters_of Tryz.func79 (by kernel_rfl) rfl) (fun i => #[whole (Z i).1 (Z i).2]) l.length (fun t => rfl)
    (bkI w YB n s d t Z) ?ownI none (.inl rfl) HI0.out (quot_hands h l hl Z hZ _ (by omega) (YB + 1 + 1) _ _ (fun p W hp => hp.2.2.2.1)) (fun p W W' r hp hg hB hn => own p W W' (some r) hp hg (fun r' e => by injection e with e; subst e; exact ⟨by omega, fun e => hn e.symm⟩))
    (bkA w YB n s d t a Z) ?ownA ?assign ?body ?done
  case ownI =>
    rintro p W W' row hp hg hr
    refine own p W W' row hp hg (fun r e => ⟨by have := (hr r e).1; omega, fun e2 => ?_⟩)
    obtain ⟨_, _, _, _, _, v, _, h2, h3⟩ := hp
    obtain ⟨c, ty, f, hc⟩ := h2.cells r (by rw [h3]; exact e2)
    obtain ⟨_, o, ho, hcc⟩ := hr r e
    rw [hc] at ho
    cases ho
    cases hcc
  case ownA =>
    rintro a1 p W W' row ⟨QB, h1, h2, h3, h5, h4⟩ hg hr
    refine ⟨QB, h1, ?_, h3, h5, ?_⟩
    · refine (hg.block QB h2.lt (fun e => ?_)).trans h2
      obtain ⟨_, o, ho, hc⟩ := hr QB e.symm
      have e2 : some o = some (Obj.cells #[.bool (Z p.1).1, .string (Z p.1).2] 23 (0, 0)) := ho.symm.trans h2
      obtain rfl := Option.some.inj e2
      cases hc
    · refine own p W W' row h4 hg (fun r e => ⟨by have := (hr r e).1; omega, fun e2 => ?_⟩)
      obtain ⟨_, _, _, _, _, v, _, k2, k3⟩ := h4
      obtain ⟨c, ty, f, hc⟩ := k2.cells r (by rw [k3]; exact e2)
      obtain ⟨_, o, ho, hcc⟩ := hr r e
      rw [hc] at ho
      cases ho
      cases hcc
  case assign =>
    intro lo i o W ht hI
    have hW : YB + 2 < W.heap.size := hI.2.2.2.1.lt
    have ho : o ≠ some W.heap.size := by
      obtain ⟨_, _, _, _, _, v, _, k2, k3⟩ := hI
      intro e
      have := k2.own W.heap.size (by rw [k3]; exact e)
      omega
    gi_wp2
    exact ⟨⟨W.heap.size, rfl, heap_alloc_new _ _, by omega, ho, own (i, o) _ _ none hI (grow1 _ _) (fun r e => by cases e)⟩, grow1 _ _⟩
  case body =>
    rintro lo i o a' W ht ⟨QB, rfl, hq, hQB, hoQ, hI⟩
    dsimp only at hq hoQ
    dsimp only
    obtain ⟨k1, k2, k3, k4, k5, v, k6, k7, k8⟩ := hI
    dsimp only at k7 k8
    obtain ⟨ao, cp, rfl⟩ := k7.form
    rw [firstZ_len] at k6 k7 k8
    have HW : Hid (QBlk W w.heap.size (.bool n) (.string s) (.bool d) (.string t) ∧ W.heap[w.heap.size + 1]? = some (.cells #[.bool false] 4 (0, 0)) ∧ QBlk W YB (.bool n) (.string s) (.bool d) (.string t) ∧ QBlk W (YB + 1 + 1) (.bool n) (.string s) (.bool d) (.string t) ∧ w.grownBy W none) := ⟨k1, k2, k3, k4, k5⟩
    have HR7 : Hid (RowW W (YB + 3) (.slice ao i cp) (firstZ Z i)) := k7
    have HV : Hid ((Value.slice ao i cp).ownBlock = o) := k8
    have HL6 : Hid (W.heap[YB + 1]? = some (.cells #[.slice ao i cp] 48 (0, 0))) := k6
    have l0 : W.cell? ⟨YB + 1, 0, none⟩ = some (.slice ao i cp) := by simp [World.cell?, k6]
    have q0 := hq.c0
    have q1 := hq.c1
    have HSZ : Hid (w.heap.size + 1 < YB ∧ YB + 2 < W.heap.size ∧ i + 1 ≤ 1300) := ⟨HG0.out.2, k4.lt, by omega⟩
    have HR8 : Hid (∀ o', RowW (W.alloc o') (YB + 3) (.slice ao i cp) (firstZ Z i)) := fun o' => HR7.out.kept (row := none) (grow1 _ _) (by cases (Value.slice ao i cp).ownBlock <;> simp)
    have HZi : Unit → firstZ Z (i + 1) = firstZ Z i ++ [Z i] := fun _ => firstZ_succ Z i
    have hzl : (firstZ Z i).length = i := firstZ_len Z i
    have HZl : Hid ((firstZ Z i).length = i) := hzl
    generalize firstZ Z i = ZL at *
    generalize Z i = zi at *
    have i1I : (i : Int) + 1 ≤ 1300 := by have := HSZ.out.2.2; omega
    clear k1 k2 k3 k4 k5 k6 k7 k8 hq hZ hl h HMk HT HR HM HL HXK own hlen hzl HI0 ht
    gi_wp2_with (gi_at_builtin; refine wpListIn_append_whole rfl _ _ rfl (YB + 3) (.slice ao i cp) ZL zi rfl (HR8.out _) (by have := HZl.out; have := HSZ.out.2.2; omega) (by have := HSZ.out.2.1; simp; omega) W.heap.size rfl (show WBlk _ W.heap.size (.bool zi.1) (.string zi.2) from heap_alloc_new _ _).c0 (show WBlk _ W.heap.size (.bool zi.1) (.string zi.2) from heap_alloc_new _ _).c1 ?_)
    intro v' w' hR' hg' hfr
    have hso : ∀ g, (Value.slice ao i cp).ownBlock = some g → YB + 3 ≤ g ∧ g < W.heap.size := fun g e => HR7.out.own g e
    have hnL : some (YB + 1) ≠ (Value.slice ao i cp).ownBlock := fun e => by have := (hso _ e.symm).1; omega
    have hL' : w'.heap[YB + 1]? = some (.cells #[.slice ao i cp] 48 (0, 0)) := (hg'.block (YB + 1) (by have := HSZ.out.2.1; simp; omega) hnL).trans (old_alloc _ _ HL6.out)
    have m0 : w'.cell? ⟨YB + 1, 0, none⟩ = some (.slice ao i cp) := by simp [World.cell?, hL']
    have m1 : w'.frozen? ⟨YB + 1, 0, none⟩ = false := by simp [World.frozen?, hL']
    obtain ⟨ao', cp', rfl⟩ := hR'.form
    have hlen' : (ZL ++ [zi]).length = i + 1 := by simp [HZl.out]
    rw [hlen'] at hR' hfr ⊢
    have HRn : Hid (RowW w' (YB + 3) (.slice ao' (i + 1) cp') (ZL ++ [zi])) := hR'
    have HGn : Hid ((W.alloc (wObj zi.1 zi.2)).grownBy w' (Value.slice ao i cp).ownBlock) := hg'
    have HFr : Hid ((Value.slice ao' (i + 1) cp').ownBlock = (Value.slice ao i cp).ownBlock ∨ (Value.slice ao' (i + 1) cp').ownBlock = some (W.heap.size + 1)) := hfr
    have HSO : Hid (∀ g, (Value.slice ao i cp).ownBlock = some g → YB + 3 ≤ g ∧ g < W.heap.size) := hso
    have HLn : Hid (w'.heap[YB + 1]? = some (.cells #[.slice ao i cp] 48 (0, 0))) := hL'
    clear hR' hg' hfr hso hnL hL' hlen' l0 q0 q1
    gi_wp2
    obtain ⟨k1, k2, k3, k4, k5⟩ := HW.out
    have hz := HSZ.out
    have gS := grownBy_setCell w' (YB + 1) 0 (.slice ao' (i + 1) cp')
    have hg := HGn.out
    have hsz1 : (W.alloc (wObj zi.1 zi.2)).heap.size = W.heap.size + 1 := by simp
    have nbX : ∀ k, k < W.heap.size → k ≠ YB + 1 → some k ≠ (Value.slice ao i cp).ownBlock → (w'.setCell ⟨YB + 1, 0, none⟩ (.slice ao' (i + 1) cp')).heap[k]? = W.heap[k]? := fun k hk hn ho => by
      have h1 : k < w'.heap.size := by have := hg.size; omega
      rw [gS.block k h1 (by intro e; injection e with e; omega), hg.block k (by omega) ho]
      exact Below.heap_alloc _ _ _ hk
    have nbO : ∀ k ob, k < YB + 3 → k ≠ YB + 1 → W.heap[k]? = some ob → (w'.setCell ⟨YB + 1, 0, none⟩ (.slice ao' (i + 1) cp')).heap[k]? = some ob := fun k ob hk hn h => (nbX k (Array.getElem?_eq_some_iff.1 h).1 hn (fun e => by have := (HSO.out k e.symm).1; omega)).trans h
    have hsz2 : W.heap.size ≤ (w'.setCell ⟨YB + 1, 0, none⟩ (.slice ao' (i + 1) cp')).heap.size := by have := hg.size; have := gS.size; omega
    refine ⟨⟨hsz2, fun k ob hk hc => ?_⟩, (Value.slice ao' (i + 1) cp').ownBlock, ⟨nbO _ _ (by omega) (by omega) k1, nbO _ _ (by omega) (by omega) k2, nbO _ _ (by omega) (by omega) k3, nbO _ _ (by omega) (by omega) k4, ?_, .slice ao' (i + 1) cp', ?_, ?_, rfl⟩, ⟨hsz2, fun k hB hk hn => nbX k hk (by omega) (by rw [HV.out]; exact hn)⟩, ?_⟩
    · refine (nbX k (Array.getElem?_eq_some_iff.1 hk).1 (fun e => ?_) (fun e => ?_)).trans hk
      · subst e
        rw [HL6.out] at hk
        cases hk
        cases hc
      · obtain ⟨c, ty, f, hcc⟩ := HR7.out.cells k e.symm
        rw [hcc] at hk
        cases hk
        cases hc
    · refine grown_set ?_ (by omega)
      have h5 := grownBy_trans k5 (grow1 W (wObj zi.1 zi.2))
      cases hob : (Value.slice ao i cp).ownBlock with
      | none => rw [hob] at hg; exact grownBy_trans h5 hg
      | some g => rw [hob] at hg; exact grownBy_new h5 (by have := (HSO.out g hob).1; omega) hg
    · simp [World.setCell, Array.getElem?_modify, HLn.out]
    · show RowW _ (YB + 3) _ (firstZ Z (i + 1))
      rw [HZi ()]
      refine HRn.out.kept gS (.inr fun e => ?_)
      have := (HRn.out.own _ e).1
      omega
    · rcases HFr.out with e | e
      · exact .inl (by rw [e, HV.out])
      · exact .inr ⟨_, e, by omega⟩
  case done =>
    rintro D o W hD hI hK'
    obtain ⟨k1, k2, k3, k4, k5, v, k6, k7, k8⟩ := hI
    dsimp only at k7 k8
    have hlt := HG0.out.2
    have hl0 : 0 < l.length := by cases l with | nil => exact absurd hl (by simp [Eu]) | cons a b => simp
    have hDs : YB + 3 ≤ D := by omega
    obtain ⟨g, cp, rfl, hcp, hcells⟩ : ∃ g cp, v = .slice (some ⟨g, 0, none⟩) l.length cp ∧ l.length ≤ cp ∧ ∀ q, q < l.length → W.cell? ⟨g, q * 2, none⟩ = some (.bool (Z q).1) ∧ W.cell? ⟨g, q * 2 + 1, none⟩ = some (.string (Z q).2) := by
      have hlz := firstZ_len Z l.length
      obtain ⟨g, cp, e, _, _, hc, _⟩ := own_form k7 (by rw [hlz]; exact hl0)
      rw [hlz] at e hc
      subst e
      refine ⟨g, cp, rfl, hc, fun q hq => ?_⟩
      have k7' : W.ownsRow (YB + 3) 23 2 (.slice (some ⟨g, 0, none⟩) l.length cp) l.length (cellsW (firstZ Z l.length)) := by
        have := k7
        unfold RowW at this
        rw [hlz] at this
        exact this
      exact own_wholes k7' q (Z q) (by simp [firstZ, hq])
    have HMz : Hid (Calls Tryz.prog 34 #[.slice (some ⟨g, 0, none⟩) l.length cp] W fun e w' => e = .returned (.tuple #[frac n s d t, .int .i64 0]) ∧ W.grownBy w' none) := HMk.out W g cp hcp hcells
    have l0 : W.cell? ⟨YB + 1, 0, none⟩ = some (.slice (some ⟨g, 0, none⟩) l.length cp) := by simp [World.cell?, k6]
    clear hcells hcp k6 k7 k8 own h hl hZ
    gi_wp2
    refine ⟨trivial, ?_⟩
    refine (callsIn_wide.2 HMz.out).mono ?_
    rintro e w6 ⟨rfl, g6⟩
    have G6 := grownBy_trans g6 (grow1 w6 (qObj n s d t))
    have X6 := k1.kept G6 (by simp)
    have Y6 := k3.kept G6 (by simp)
    have HZ6 : QBlk (w6.alloc (qObj n s d t)) w6.heap.size (.bool n) (.string s) (.bool d) (.string t) := heap_alloc_new _ _
    have R6 : (w6.alloc (qObj n s d t)).heap[w.heap.size + 1]? = some (.cells #[.bool false] 4 (0, 0)) := (G6.block _ (Array.getElem?_eq_some_iff.1 k2).1 (by simp)).trans k2
    have D6 : (w6.alloc (qObj n s d t)).heap[D]? = some (.deferred (some [])) := (G6.block _ (Array.getElem?_eq_some_iff.1 hK').1 (by simp)).trans hK'
    have HG6 : Hid (w.grownBy (w6.alloc (qObj n s d t)) none) := grownBy_trans k5 G6
    clear g6 G6 k1 k2 k3 k4 k5 hK' l0 HMz
    gi_upto_region 15 with fail
    generalize w6.alloc (qObj n s d t) = V at *
    generalize w6.heap.size = ZB at *
    have x0 := X6.c0
    have x1 := X6.c1
    have x2 := X6.c2
    have x3 := X6.c3
    have y0 := Y6.c0
    have y1 := Y6.c1
    have y2 := Y6.c2
    have y3 := Y6.c3
    have z0 := HZ6.c0
    have z1 := HZ6.c1
    have z2 := HZ6.c2
    have z3 := HZ6.c3
    clear X6 Y6 HZ6
    gi_wp2
    refine ⟨trivial, ?_⟩
    refine (callsIn_wide.2 (HK.out _ HG6.out)).mono ?_
    rintro e w7 ⟨rfl, g7⟩
    have R7 : w7.heap[w.heap.size + 1]? = some (.cells #[.bool false] 4 (0, 0)) := (g7.block _ (Array.getElem?_eq_some_iff.1 R6).1 (by simp)).trans R6
    have D7 : w7.heap[D]? = some (.deferred (some [])) := (g7.block _ (Array.getElem?_eq_some_iff.1 D6).1 (by simp)).trans D6
    have HG7 : Hid (w.grownBy w7 none) := grownBy_trans HG6.out g7
    have r0 : w7.cell? ⟨w.heap.size + 1, 0, none⟩ = some (.bool false) := by simp [World.cell?, R7]
    have r1 : w7.frozen? ⟨w.heap.size + 1, 0, none⟩ = false := by simp [World.frozen?, R7]
    clear x0 x1 x2 x3 y0 y1 y2 y3 z0 z1 z2 z3 g7 R6 D6
    gi_wp2
    have u2 : (w7.setCell ⟨w.heap.size + 1, 0, none⟩ (.bool true)).heap[w.heap.size + 1]? = some (.cells #[.bool true] 4 (0, 0)) := by simp [World.setCell, Array.getElem?_modify, R7]
    have u3 : (w7.setCell ⟨w.heap.size + 1, 0, none⟩ (.bool true)).heap[D]? = some (.deferred (some [])) := (KeepsOthers.setCell _ _ _).same D _ D7 rfl
    have u4 : w.grownBy (w7.setCell ⟨w.heap.size + 1, 0, none⟩ (.bool true)) none := grown_set HG7.out (by omega)
    clear R7 D7 r0 r1
    generalize w7.setCell ⟨w.heap.size + 1, 0, none⟩ (.bool true) = X at *
    refine ⟨by simp, .inl ⟨_, _, rfl, run_takeDeferred u3, ?_⟩⟩
    have kD := grownBy_putObj' X D (.deferred none)
    have u5 : (X.putObj D (.deferred none)).heap[w.heap.size + 1]? = some (.cells #[.bool true] 4 (0, 0)) := (kD.block _ (Array.getElem?_eq_some_iff.1 u2).1 (by intro e; injection e with e; omega)).trans u2
    refine ⟨_, res_back _ _ (w.heap.size + 1) (.bool true) rfl (load_bool _ _ _ u5), rfl, ?_⟩
    exact ⟨kD.os.trans u4.os, kD.tape.trans u4.tape, kD.output.trans u4.output, Nat.le_trans u4.size kD.size, fun i hi hn => (kD.block i (Nat.lt_of_lt_of_le hi u4.size) (by intro e; injection e with e; omega)).trans (u4.block i hi hn)⟩
end Go.Proofs.YtdfliaogmlpefaaGreatDoor
namespace Go.Proofs.YtdfliaogmlpefaaGreatDoor
open Go.RowKit Go.Lib Go.Sort
set_option linter.unusedVariables false
set_option maxHeartbeats 4000000
set_option maxRecDepth 1000000
theorem back_k1 (n d : Bool) (s t : ByteArray) (w : World)
    (HL : Hid (∀ (W : World) (B : Nat), W.heap[B]? = some (.cells #[.bool n, .string s, .bool d, .string t] 25 (0, 0)) → Calls Tryz.prog 9 #[.int .i64 100, .slice (some ⟨B, 0, none⟩) 1 1] W fun e w' => e = .returned (.bool true) ∧ W.grownBy w' none))
    (HK : Hid (∀ W, w.grownBy W none → Calls Tryz.prog 10 #[] W fun e w' => e = .returned (.bool true) ∧ W.grownBy w' none)) :
    Calls Tryz.prog 8 #[frac n s d t] w fun e w' => e = .returned (.bool true) ∧ w.grownBy w' none := by
  go_enter Tryz.func8, Tryz.ntmps8
  go_wp2_with fail
  refine (HL.out _ _ ?hb).mono ?_
  case hb => exact at_alloc3 _ _ _ _
  rintro e w1 ⟨rfl, g1⟩
  have G1 : Hid (((w.alloc (qObj n s d t)).alloc (.cells #[.bool false] 4)).grownBy w1 none) := grownBy_trans (grow1 _ _) g1
  clear g1
  go_wp2_with fail
  refine (HK.out _ (grownBy_trans (grow2 _ _ _) G1.out)).mono ?_
  rintro e w2 ⟨rfl, g2⟩
  have R7 : w2.heap[w.heap.size + 1]? = some (.cells #[.bool false] 4 (0, 0)) := (g2.block (w.heap.size + 1) (by have := G1.out.size; simp at this; omega) (by simp)).trans ((G1.out.block (w.heap.size + 1) (by simp) (by simp)).trans (heap_alloc2_new _ _ _))
  have r0 : w2.cell? ⟨w.heap.size + 1, 0, none⟩ = some (.bool false) := by simp [World.cell?, R7]
  have r1 : w2.frozen? ⟨w.heap.size + 1, 0, none⟩ = false := by simp [World.frozen?, R7]
  have HG2 : Hid (w.grownBy w2 none) := grownBy_trans (grow2 _ _ _) (grownBy_trans G1.out g2)
  clear g2
  go_wp2_with fail
  have u2 : (w2.setCell ⟨w.heap.size + 1, 0, none⟩ (.bool true)).heap[w.heap.size + 1]? = some (.cells #[.bool true] 4 (0, 0)) := by simp [World.setCell, Array.getElem?_modify, R7]
  refine bodyPost_ret (res_back _ _ (w.heap.size + 1) (.bool true) rfl (load_bool _ _ _ u2)) rfl ?_
  exact ⟨rfl, grown_set HG2.out (by omega)⟩
theorem back_k2 (n d : Bool) (s t : ByteArray) (w : World)
    (HL : Hid (∀ (W : World) (B : Nat), W.heap[B]? = some (.cells #[.bool n, .string s, .bool d, .string t] 25 (0, 0)) → Calls Tryz.prog 9 #[.int .i64 100, .slice (some ⟨B, 0, none⟩) 1 1] W fun e w' => e = .returned (.bool false) ∧ W.grownBy w' none))
    (HM : Hid (∀ w, Calls Tryz.prog 40 #[frac n s d t] w fun e w' => e = .returned (.bool false) ∧ w.grownBy w' none))
    (HK : Hid (∀ W, w.grownBy W none → Calls Tryz.prog 10 #[] W fun e w' => e = .returned (.bool true) ∧ W.grownBy w' none)) :
    Calls Tryz.prog 8 #[frac n s d t] w fun e w' => e = .returned (.bool true) ∧ w.grownBy w' none := by
  go_enter Tryz.func8, Tryz.ntmps8
  go_wp2_with fail
  refine (HL.out _ _ ?hb).mono ?_
  case hb => exact at_alloc3 _ _ _ _
  rintro e w1 ⟨rfl, g1⟩
  have G1 : Hid (((w.alloc (qObj n s d t)).alloc (.cells #[.bool false] 4)).grownBy w1 none) := grownBy_trans (grow1 _ _) g1
  have hX : QBlk w1 w.heap.size (.bool n) (.string s) (.bool d) (.string t) := QBlk.kept (w := (w.alloc (qObj n s d t)).alloc (.cells #[.bool false] 4)) (old_alloc _ _ (heap_alloc_new _ _)) G1.out (by simp)
  have c0 := hX.c0
  have c1 := hX.c1
  have c2 := hX.c2
  have c3 := hX.c3
  clear g1 hX
  go_wp2_with fail
  refine (HM.out _).mono ?_
  rintro e w3 ⟨rfl, g3⟩
  have G3 : Hid (((w.alloc (qObj n s d t)).alloc (.cells #[.bool false] 4)).grownBy w3 none) := grownBy_trans G1.out g3
  clear c0 c1 c2 c3 g3
  go_wp2_with fail
  refine (HK.out _ (grownBy_trans (grow2 _ _ _) G3.out)).mono ?_
  rintro e w2 ⟨rfl, g2⟩
  have R7 : w2.heap[w.heap.size + 1]? = some (.cells #[.bool false] 4 (0, 0)) := (g2.block (w.heap.size + 1) (by have := G3.out.size; simp at this; omega) (by simp)).trans ((G3.out.block (w.heap.size + 1) (by simp) (by simp)).trans (heap_alloc2_new _ _ _))
  have r0 : w2.cell? ⟨w.heap.size + 1, 0, none⟩ = some (.bool false) := by simp [World.cell?, R7]
  have r1 : w2.frozen? ⟨w.heap.size + 1, 0, none⟩ = false := by simp [World.frozen?, R7]
  have HG2 : Hid (w.grownBy w2 none) := grownBy_trans (grow2 _ _ _) (grownBy_trans G3.out g2)
  clear g2
  go_wp2_with fail
  have u2 : (w2.setCell ⟨w.heap.size + 1, 0, none⟩ (.bool true)).heap[w.heap.size + 1]? = some (.cells #[.bool true] 4 (0, 0)) := by simp [World.setCell, Array.getElem?_modify, R7]
  refine bodyPost_ret (res_back _ _ (w.heap.size + 1) (.bool true) rfl (load_bool _ _ _ u2)) rfl ?_
  exact ⟨rfl, grown_set HG2.out (by omega)⟩
theorem ediv_abs (N D : Int) (hD : 0 < D) : (N / D).natAbs ≤ N.natAbs := by
  have h1 := Int.emod_nonneg N (Int.ne_of_gt hD)
  have h2 := Int.emod_lt_of_pos N hD
  have h3 := Int.emod_def N D
  by_cases hN : 0 ≤ N
  · have q0 : 0 ≤ N / D := Int.ediv_nonneg hN (Int.le_of_lt hD)
    have q1 : N / D ≤ N := by
      have := Int.mul_le_mul_of_nonneg_right (show (1 : Int) ≤ D by omega) q0
      rw [Int.one_mul] at this
      omega
    omega
  · have q0 : N / D < 0 := Int.ediv_neg_of_neg_of_pos (by omega) hD
    have q1 : N ≤ N / D := by
      have h4 : D * (N / D) = N - N % D := by omega
      have h5 : D * (N / D + 1) = D * (N / D) + D := by rw [Int.mul_add, Int.mul_one]
      have h6 : D * (N / D + 1) ≤ 1 * (N / D + 1) := Int.mul_le_mul_of_nonpos_right (by omega) (by omega)
      omega
    omega
theorem Eu.sizes : ∀ (l : List Int) (N D : Int) (B : Nat), Eu N D l → N.natAbs < B → D.natAbs < B → ∀ (i : Nat) (q : Int), l[i]? = some q → q.natAbs < B
  | [], N, D, B, h, _, _, i, q, hq => by simp at hq
  | q0 :: l, N, D, B, h, hN, hD, i, q, hq => by
    obtain ⟨hD0, e, hc⟩ := h.head
    cases i with
    | zero =>
      simp at hq
      subst hq
      rw [← e]
      exact Nat.lt_of_le_of_lt (ediv_abs N D hD0) hN
    | succ i =>
      rcases hc with ⟨rfl, _⟩ | ⟨_, r0, r1, h2⟩
      · simp at hq
      · exact Eu.sizes l D (N % D) B h2 hD (by omega) i q (by simpa using hq)
theorem fback_any (n d : Bool) (s t : ByteArray) (z1 : s.size ≤ maxLen) (z2 : t.size ≤ maxLen) (w : World) (htab : Lib.TabIs Tryz.prog w "internal/strconv.uint64pow10" .u64 Lib.pow10Tab) :
    Calls Tryz.prog 8 #[frac n s d t] w fun e w' => e = .returned (.bool true) ∧ w.grownBy w' none := by
  have HK := known_in htab
  obtain ⟨gp, hgp⟩ := pow10_g
  by_cases l1 : s.size ≤ 100 ∧ t.size ≤ 100
  · have HL := longq_one (n := n) (d := d) 100 (by decide) l1
    cases hm : mayQ n s d t
    · refine back_k2 n d s t w HL (fun w => ?_) HK
      have := mayq_any n d s t z1 z2 w
      rw [hm] at this
      exact this
    · have hq := mayQ_is hm
      have sx : Sz 100 (num n s) n s := may_sz (hq.zn.may (by decide)) l1.1
      have sy : Sz 100 (num d t) d t := may_sz (hq.zd.may (by decide)) l1.2
      obtain ⟨a, ha, hal⟩ := text_ex (k := 100) (by decide) sx
      obtain ⟨b, hb, hbl⟩ := text_ex (k := 100) (by decide) sy
      obtain ⟨c, hc, hcl⟩ : ∃ c, QText (num n s) (num d t) c ∧ c.size ≤ maxLen := by
        by_cases h1 : num d t = 1
        · exact ⟨a, .inl ⟨h1, ha⟩, by unfold maxLen; omega⟩
        · refine ⟨_, .inr ⟨h1, a, b, ha, hb, rfl⟩, ?_⟩
          have := bN_length (a ++ ⟨#[47]⟩ ++ b)
          rw [bN_parts] at this
          simp only [List.length_append, List.length_cons, bN_length] at this
          unfold maxLen
          omega
      obtain ⟨l, hl⟩ := eu_ex (num d t).toNat (num n s) (num d t) hq.pos (Nat.le_refl _)
      obtain ⟨hfo, hdr⟩ := Eu.fo l _ _ hl hq.low
      have hlen := hl.short sy.2
      have hl0 : 0 < l.length := by cases l with | nil => exact absurd hl (by simp [Eu]) | cons a b => simp
      have enc : ∀ q : Int, ∃ p : Bool × ByteArray, IsZ q p.1 p.2 := fun q => let ⟨n, s, h⟩ := isz_ex q; ⟨(n, s), h⟩
      have hF : Folds l (fun (i : Nat) => Classical.choose (enc (l[i]?.getD 0))) (fun (j : Nat) => (Classical.choose (enc (fo (l.drop j)).1), Classical.choose (enc (fo (l.drop j)).2))) := by
        have big : ∀ {q : Int} {k : Nat} {p : Bool × ByteArray}, IsZ q p.1 p.2 → q.natAbs < 256 ^ k → k ≤ 1024 → Sz 1024 q p.1 p.2 := fun h1 h2 h3 => Sz.up ⟨h1, h2⟩ h3
        have hzs := Eu.sizes l _ _ _ hl sx.2 sy.2
        refine ⟨fun i q hi => ?_, fun j hj => ?_, fun j h1 h2 => (hdr j h1 h2).1⟩
        · have := Classical.choose_spec (enc (l[i]?.getD 0))
          rw [hi] at this
          simp only [hi]
          exact big this (hzs i q hi) (by decide)
        · have e1 := Classical.choose_spec (enc (fo (l.drop j)).1)
          have e2 := Classical.choose_spec (enc (fo (l.drop j)).2)
          rcases Nat.eq_zero_or_pos j with rfl | hp
          · rw [List.drop_zero, hfo] at *
            exact ⟨big e1 sx.2 (by decide), big e2 sy.2 (by decide)⟩
          · obtain ⟨a1, a2, a3, a4⟩ := hdr j hp hj
            have hy := sy.2
            exact ⟨big e1 (k := 100) (by generalize 256 ^ 100 = C at *; omega) (by decide), big e2 (k := 100) (by generalize 256 ^ 100 = C at *; omega) (by decide)⟩
      have hE := hF.e 0 (by omega)
      rw [List.drop_zero, hfo] at hE
      obtain ⟨e1, e2⟩ := whole_inj (hE.1.1.one sx.1)
      obtain ⟨e3, e4⟩ := whole_inj (hE.2.1.one sy.1)
      generalize hEE : (fun (j : Nat) => (Classical.choose (enc (fo (l.drop j)).1), Classical.choose (enc (fo (l.drop j)).2))) = E at *
      generalize hZZ : (fun (i : Nat) => Classical.choose (enc (l[i]?.getD 0))) = Z at *
      refine back_walk hq l hl Z (fun i q hi => (hF.z i q hi).1) hlen c w HL HK (fun W hg => ?_) (fun W => ?_) (fun W g cp hcp hcs => ?_)
      · refine (ftext_any hq (by omega) (by omega) W (tab_kept hgp htab hg)).mono ?_
        rintro e w' ⟨c', rfl, hc', _, hg'⟩
        rw [hc'.same hc]
        exact ⟨rfl, hg'⟩
      · refine (fread_any c hcl W).mono ?_
        rintro e w' ⟨n1, p1, d1, q1, e1', rfl, h1, hg'⟩
        have h2 : FrRes c n s d t 0 := .inl ⟨rfl, _, _, hq, hc⟩
        obtain ⟨rfl, rfl, rfl, rfl, rfl⟩ := h1.one h2
        exact ⟨rfl, hg'⟩
      · have := make_ok l Z E hF l.length rfl hl0 (by omega) g 0 cp hcp W (fun q hq' => by rw [Nat.zero_add]; exact hcs q hq')
        have e1' : (E 0).1.1 = n := by rw [← e1, ← hEE]; simp [hfo]
        have e2' : (E 0).1.2 = s := by rw [← e2, ← hEE]; simp [hfo]
        have e3' : (E 0).2.1 = d := by rw [← e3, ← hEE]; simp [hfo]
        have e4' : (E 0).2.2 = t := by rw [← e4, ← hEE]; simp [hfo]
        rw [e1', e2', e3', e4'] at this
        exact this
  · exact back_k1 n d s t w (longq_one_yes (n := n) (d := d) 100 (by decide) z1 z2 l1) HK
end Go.Proofs.YtdfliaogmlpefaaGreatDoor
