/-
  A range over a function whose first round returns.
  frac's steps.
-/
import Derived.Test.YtdfliaogmlpefaaGreatDoorBunRed
import Derived.Test.YtdfliaogmlpefaaGreatDoorBunFrs
import Derived.Deep.CutRange
namespace Go.Proofs.YtdfliaogmlpefaaGreatDoor
open Go.RowKit Go.Lib Go.Sort Go.Shelf
attribute [local go_sem] Oper.semAt_some
set_option maxHeartbeats 3200000
set_option maxRecDepth 1000000
def HandsOnce (F : Fence) (n : Nat) (P : Program) (gf : Nat) (lb : Array Value) (enc : Array Value) (I : Nat → World → Prop) : Prop :=
  ∀ (l : Nat) (J : Nat → World → Prop), (∀ t W, J t W → I t W) → (∀ t W W', J t W → W.grownBy W' none → J t W') →
    (∀ W, J 0 W → YieldAt F (n - 1) P l enc W fun e W' => e = .returned (.bool false) ∧ J 1 W') →
    ∀ W, J 0 W → CallsIn F n P gf (#[.func (.yield l) #[] #[]] ++ lb) W fun e W' => (∃ v, e = .returned v) ∧ J 1 W'
def roundRet (I : Nat → World → Prop) (W : World) : Exit → Act → World → Prop
  | .ret, _, W' => KeepsOthers W W' ∧ I 1 W'
  | _, _, _ => False
theorem wpIn_once {F : Fence} {n : Nat} {P : Program} {g : Operand} {ps : Array Tmp} {assign body : Code} {Q : Exit → Act → World → Prop} {a : Act} {w : World}
    (hro : F.round = none) (h1 : 1 ≤ n) {gf : Nat} {lb : Array Value} (hg : a.eval g = .func (.func gf) #[] lb) (hFg : F.fn gf) (eg : ∀ args w, (callFunc gf args).run P w = .ok (.enter gf args) w)
    (enc : Array Value) (hps : enc.size = ps.size) (I : Nat → World → Prop) (hI : OwnFrom w.heap.size I) (h0 : I 0 w) (hit : HandsOnce F (n - 1) P gf lb enc I) (A : Act → World → Prop) (hA : OwnFrom w.heap.size A)
    (hassign : ∀ (l : Nat) (W : World), I 0 W →
      assign.wpIn (F.inRound l) (n - 1 - 1) P (Exit.then (fun a' W' => A a' W' ∧ W.grownBy W' none) (fun _ _ _ => False)) { tmps := (ps.zip enc).foldl (fun t (p, v) => t.setIfInBounds p v) a.tmps, defers := [] } W)
    (hbody : ∀ (l : Nat) (a' : Act) (W : World), A a' W → body.wpIn (F.inRound l) (n - 1 - 1) P (roundRet I W) a' W)
    (hdone : ∀ (D : Nat) (W : World), w.heap.size ≤ D → I 1 W → W.heap[D]? = some (.deferred (some [])) → (Code.ret).wpIn F n P Q { a with defers := { target := .collected D, args := #[] } :: a.defers } W) :
    (Code.rangeFunc g ps assign body).wpIn F n P Q a w := by
  refine wpIn_rangeFunc fun fn hfn => ?_
  rw [hro]
  obtain ⟨r, hr⟩ : ∃ r : Loop, r = { state := .ready, pending := none, fn, tmps := a.tmps, params := ps, assign, body, defers := w.heap.size } := ⟨_, rfl⟩
  have hen : (Instr.enterLoop fn a.tmps ps assign body none).run P w = .ok (w.heap.size + 1, [{ target := .collected w.heap.size, args := #[] }]) ((w.alloc (.deferred (some []))).alloc (.loop r)) := by
    rw [hr]; exact run_enterLoop_outer _ _ _ _ _
  have rs : r.state = .ready := by rw [hr]
  have hyl : ∀ (W : World), W.heap[w.heap.size + 1]? = some (.loop r) → (Instr.yield (w.heap.size + 1) enc).run P W = .ok (.round (w.heap.size + 1) fn ((ps.zip enc).foldl (fun t (p, v) => t.setIfInBounds p v) a.tmps) assign body) W := by
    intro W hl
    have := run_yield (P := P) (args := enc) hl (by rw [hr]; exact hps)
    rw [hr] at this
    exact this
  clear hr
  have hl1 : ((w.alloc (.deferred (some []))).alloc (.loop r)).heap[w.heap.size + 1]? = some (.loop r) := by
    have := World.alloc_heap_new (w.alloc (.deferred (some []))) (.loop r)
    rwa [World.size_alloc] at this
  have hd1 : ((w.alloc (.deferred (some []))).alloc (.loop r)).heap[w.heap.size]? = some (.deferred (some [])) := (Below.heap_alloc _ _ _ (by simp)).trans (World.alloc_heap_new w _)
  have hi1 : I 0 ((w.alloc (.deferred (some []))).alloc (.loop r)) := hI.alloc _ (hI.alloc _ h0)
  generalize hW1 : (w.alloc (.deferred (some []))).alloc (.loop r) = W1 at *
  refine ⟨w.heap.size + 1, [{ target := .collected w.heap.size, args := #[] }], W1, { target := .fn (.func gf) lb, args := #[.func (.yield (w.heap.size + 1)) #[] #[]] }, W1, gf, #[.func (.yield (w.heap.size + 1)) #[] #[]] ++ lb, W1, hen, ?_, ?_, ?_, fun _ => h1, ?_⟩
  · simp only [resolve, hg]
    simp [go_sem]
  · intro f' hf'
    simp [Target.leads] at hf'
    subst hf'
    exact hFg
  · simp [invoke, go_sem, eg]
  have blk : ∀ {W W' : World} {i : Nat} {o : Obj}, W.grownBy W' none → W.heap[i]? = some o → W'.heap[i]? = some o := fun {W W' i o} hg h => (hg.block i (Array.getElem?_eq_some_iff.1 h).1 (by simp)).trans h
  refine (hit (w.heap.size + 1) (fun t W => I t W ∧ W.heap[w.heap.size]? = some (.deferred (some [])) ∧ W.heap[w.heap.size + 1]? = some (.loop (if t = 0 then r else { { r with state := .busy } with state := .done, pending := some .ret }))) (fun _ _ h => h.1) ?_ ?_ _ ⟨hi1, hd1, by simpa using hl1⟩).mono ?_
  · rintro t W W' ⟨hi, hd, hl⟩ hg
    exact ⟨hI _ _ _ none hi hg (fun r e => by cases e), blk hg hd, blk hg hl⟩
  · rintro W ⟨hi, hd, hl⟩
    rw [if_pos rfl] at hl
    refine ⟨_, _, _, _, hyl W hl, roundIn_of_wpIn hfn (wpIn_mono (hassign _ W hi) ?_)⟩
    rintro e a2 W2 h2
    cases e with
    | normal =>
      obtain ⟨hA2, hg2⟩ := h2
      have hl2 := blk hg2 hl
      have hd2 := blk hg2 hd
      have hlt := (Array.getElem?_eq_some_iff.1 hl2).1
      refine ⟨_, run_beginRound hl2 rs, ?_⟩
      have hlb : (W2.putObj (w.heap.size + 1) (.loop { r with state := .busy })).heap[w.heap.size + 1]? = some (.loop { r with state := .busy }) := World.putObj_heap_same hlt
      have hdb : (W2.putObj (w.heap.size + 1) (.loop { r with state := .busy })).heap[w.heap.size]? = some (.deferred (some [])) := (World.putObj_heap_other (by omega)).trans hd2
      refine wpIn_mono (hbody _ _ _ (hA.putObj _ hA2 (by omega) hl2 rfl)) ?_
      rintro e a3 W3 hp
      cases e with
      | ret =>
        obtain ⟨hk, hi3⟩ := hp
        have hl3 := hk.same _ _ hlb rfl
        have hd3 := hk.same _ _ hdb rfl
        have hen3 := run_endRound (P := P) (some Code.ret) hl3
        simp only [Option.isNone_some] at hen3
        exact ⟨_, _, hen3, rfl, hI.putObj _ hi3 (by omega) hl3 rfl, (World.putObj_heap_other (by omega)).trans hd3, by
          rw [if_neg (by decide)]
          have := World.putObj_heap_same (w := W3) (o := .loop { { r with state := .busy } with state := .done, pending := some .ret }) (Array.getElem?_eq_some_iff.1 hl3).1
          simpa using this⟩
      | normal => exact hp.elim
      | exit id => exact hp.elim
      | goto t => exact hp.elim
      | panic c => exact hp.elim
      | outgrown => exact hp.elim
    | ret => exact h2.elim
    | exit id => exact h2.elim
    | goto t => exact h2.elim
    | panic c => exact h2.elim
    | outgrown => exact h2.elim
  · rintro e W2 ⟨⟨v, rfl⟩, hi, hd, hl⟩
    rw [if_neg (by decide)] at hl
    have hend := run_endLoop (P := P) hl (by simp)
    exact ⟨some .ret, _, hend, hdone _ _ (Nat.le_refl _) (hI.putObj _ hi (by omega) hl rfl) ((World.putObj_heap_other (by omega)).trans hd)⟩
end Go.Proofs.YtdfliaogmlpefaaGreatDoor
namespace Go.Proofs.YtdfliaogmlpefaaGreatDoor
open Go.RowKit Go.Lib Go.Sort
set_option linter.unusedVariables false
set_option maxHeartbeats 3200000
set_option maxRecDepth 1000000
theorem wdrw {W : World} {B : Nat} {a b : Value} (h : WBlk W B a b) : WBlk W.drew B a b := h.kept (row := none) (grow_drew (World.grownBy.refl _ _)) (by simp)
def StepsR (n : Bool) (s : ByteArray) (d : Bool) (t : ByteArray) (w : World) (e : Ending) (w' : World) : Prop :=
  ∃ P Q, e = .returned (.func (.func 124) #[] #[.pointer (some ⟨P, 0, none⟩), .pointer (some ⟨Q, 0, none⟩)]) ∧ WBlk w' P (.bool n) (.string s) ∧ WBlk w' Q (.bool d) (.string t) ∧ w.heap.size ≤ P ∧ w.heap.size ≤ Q ∧ P ≠ Q ∧ w.grownBy w' none
theorem steps_any (n d : Bool) (s t : ByteArray) (w : World) : Calls Tryz.prog 80 #[frac n s d t] w (StepsR n s d t w) := by
  have hmf : ∀ (fn : Fn) (first cap : Array Value) (w : World), (Instr.makeFunc fn first cap).run Tryz.prog w = .ok (.func fn first cap) w := fun _ _ _ _ => rfl
  have HK : Hid (∀ w', (w.alloc (qObj n s d t)).grownBy w' none → w'.cell? ⟨w.heap.size, 0, none⟩ = some (.bool n) ∧ w'.cell? ⟨w.heap.size, 1, none⟩ = some (.string s) ∧ w'.cell? ⟨w.heap.size, 2, none⟩ = some (.bool d) ∧ w'.cell? ⟨w.heap.size, 3, none⟩ = some (.string t)) := fun w' g => by
    have h : QBlk w' w.heap.size (.bool n) (.string s) (.bool d) (.string t) := QBlk.kept (heap_alloc_new _ _) g (by simp)
    exact ⟨h.c0, h.c1, h.c2, h.c3⟩
  have HB : Hid (∀ W, (w.alloc (qObj n s d t)).grownBy W none → w.heap.size < W.heap.size ∧ w.grownBy W none) := fun W g => ⟨by have := g.size; simp at this; omega, grownBy_trans (grow1 _ _) g⟩
  go_enter Tryz.func80, Tryz.ntmps80
  go_upto_region 1 with fail
  have HE : Hid ((w.alloc (qObj n s d t)).grownBy (w.alloc (qObj n s d t)) none) := World.grownBy.refl _ _
  obtain ⟨c0, c1, c2, c3⟩ := HK.out _ HE.out
  generalize hW : w.alloc (qObj n s d t) = W at *
  go_region_held3 (fun w' => w'.cell? ⟨w.heap.size, 0, none⟩ = some (.bool n) ∧ w'.cell? ⟨w.heap.size, 1, none⟩ = some (.string s) ∧ w'.cell? ⟨w.heap.size, 2, none⟩ = some (.bool d) ∧ w'.cell? ⟨w.heap.size, 3, none⟩ = some (.string t))
    (first | (go_keep; done) | with_reducible exact HK.out _ (grow_drew (World.grownBy.refl _ _)) | with_reducible exact HK.out _ (grow_drew (grow1 _ _)) | with_reducible exact HK.out _ (grow_drew (grow2 _ _ _)) | with_reducible exact HK.out _ (grownBy_trans (grow_drew (World.grownBy.refl _ _)) (grow1 _ _)) | with_reducible exact HK.out _ (grownBy_trans (grow_drew (World.grownBy.refl _ _)) (grow2 _ _ _)) | fail)
    (first | fail)
  all_goals go_wp2_with fail
  · go_ret
    have hb := HB.out _ HE.out
    exact ⟨W.heap.size, W.heap.size + 1, rfl, wdrw (at_alloc1 _ _ _), wdrw (heap_alloc2_new _ _ _), by omega, by omega, by omega, grow_drew (grownBy_trans hb.2 (grow2 _ _ _))⟩
  · go_ret
    have hb := HB.out _ HE.out
    exact ⟨W.heap.size + 1, W.heap.size, rfl, wdrw (heap_alloc2_new _ _ _), wdrw (at_alloc1 _ _ _), by omega, by omega, by omega, grow_drew (grownBy_trans hb.2 (grow2 _ _ _))⟩
theorem steps1_any (W0 W : World) (P Q : Nat) (n d q1 r1 : Bool) (s t q2 r2 : ByteArray)
    (HD : Hid (∀ w, Calls Tryz.prog 55 #[whole n s, whole d t] w fun e w' => e = .returned (.tuple #[whole q1 q2, whole r1 r2, .int .i64 0]) ∧ w.grownBy w' none))
    (hP : WBlk W P (.bool n) (.string s)) (hQ : WBlk W Q (.bool d) (.string t)) (lP : W0.heap.size ≤ P) (lQ : W0.heap.size ≤ Q) (ne : P ≠ Q) (g : W0.grownBy W none) (hz : (r1 = false ∧ r2 = eS) ∨ (r2.toList == []) = false) :
    Calls Tryz.prog 124 #[.pointer (some ⟨P, 0, none⟩), .pointer (some ⟨Q, 0, none⟩)] W fun e w' => (∃ b, e = .returned (.tuple #[whole q1 q2, .bool b])) ∧ W0.grownBy w' none := by
  rcases hz with ⟨rfl, rfl⟩ | hz
  · have p0 := hP.c0
    have p1 := hP.c1
    have pl := hP.lt
    have o0 := hQ.c0
    have o1 := hQ.c1
    have ol := hQ.lt
    have HP : Hid (WBlk W P (.bool n) (.string s)) := hP
    have HQ : Hid (WBlk W Q (.bool d) (.string t)) := hQ
    have HG : Hid (W0.grownBy W none) := g
    have NE : Hid (P ≠ Q ∧ W0.heap.size ≤ P ∧ W0.heap.size ≤ Q ∧ P < W.heap.size ∧ Q < W.heap.size ∧ W0.heap.size ≤ W.heap.size) := ⟨ne, lP, lQ, pl, ol, g.size⟩
    clear hP hQ g ne lP lQ
    go_enter Tryz.func124, Tryz.ntmps124
    go_wp2_with fail
    refine (HD.out _).mono ?_
    rintro e w1 ⟨rfl, g1⟩
    clear p0 p1 pl o0 o1 ol
    have g2 : W.grownBy ((w1.alloc (wObj q1 q2)).alloc (wObj false eS)) none := grownBy_trans (grownBy_trans (grow1 _ _) g1) (grow2 _ _ _)
    have P2 : Hid (WBlk ((w1.alloc (wObj q1 q2)).alloc (wObj false eS)) P (.bool n) (.string s)) := HP.out.kept g2 (by simp)
    have Q2 : Hid (WBlk ((w1.alloc (wObj q1 q2)).alloc (wObj false eS)) Q (.bool d) (.string t)) := HQ.out.kept g2 (by simp)
    have R2 : Hid (WBlk ((w1.alloc (wObj q1 q2)).alloc (wObj false eS)) W.heap.size (.bool false) (.string eS)) := old_alloc _ _ (old_alloc _ _ (WBlk.kept (heap_alloc_new _ _) g1 (by simp)))
    have A2 : Hid (WBlk ((w1.alloc (wObj q1 q2)).alloc (wObj false eS)) w1.heap.size (.bool q1) (.string q2)) := at_alloc1 _ _ _
    have B2 : Hid (WBlk ((w1.alloc (wObj q1 q2)).alloc (wObj false eS)) (w1.heap.size + 1) (.bool false) (.string eS)) := heap_alloc2_new _ _ _
    have G2 : Hid (W0.grownBy ((w1.alloc (wObj q1 q2)).alloc (wObj false eS)) none) := grownBy_trans HG.out g2
    have N1 : Hid (W.heap.size < w1.heap.size) := (by have := g1.size; simp at this; omega : W.heap.size < w1.heap.size)
    clear g1 g2 HP HQ HG
    go_upto_region 2 with fail
    generalize (w1.alloc (wObj q1 q2)).alloc (wObj false eS) = V at *
    have o0 := Q2.out.c0
    have o1 := Q2.out.c1
    have o2 := Q2.out.fr 0
    have o3 := Q2.out.fr 1
    have p0 := P2.out.c0
    have p1 := P2.out.c1
    have p2 := P2.out.fr 0
    have p3 := P2.out.fr 1
    have b0 := B2.out.c0
    have b1 := B2.out.c1
    have e1 := NE.out.1
    have e2 : ¬ Q = P := fun e => e1 e.symm
    have e3 : ¬ P = w1.heap.size + 1 := by have := N1.out; have := NE.out.2.2.2.1; omega
    have e4 : ¬ w1.heap.size + 1 = P := by omega
    go_region_with (first | fail)
    all_goals (
      have n1 := N1.out
      have n2 := NE.out
      have A3 : Hid (WBlk ((((V.setCell ⟨P, 0, none⟩ (.bool d)).setCell ⟨P, 1, none⟩ (.string t)).setCell ⟨Q, 0, none⟩ (.bool false)).setCell ⟨Q, 1, none⟩ (.string eS)).drew w1.heap.size (.bool q1) (.string q2)) := wdrw ((((A2.out.other (by omega)).other (by omega)).other (by omega)).other (by omega))
      have B3 : Hid (WBlk ((((V.setCell ⟨P, 0, none⟩ (.bool d)).setCell ⟨P, 1, none⟩ (.string t)).setCell ⟨Q, 0, none⟩ (.bool false)).setCell ⟨Q, 1, none⟩ (.string eS)).drew (w1.heap.size + 1) (.bool false) (.string eS)) := wdrw ((((B2.out.other (by omega)).other (by omega)).other (by omega)).other (by omega))
      have R3 : Hid (WBlk ((((V.setCell ⟨P, 0, none⟩ (.bool d)).setCell ⟨P, 1, none⟩ (.string t)).setCell ⟨Q, 0, none⟩ (.bool false)).setCell ⟨Q, 1, none⟩ (.string eS)).drew W.heap.size (.bool false) (.string eS)) := wdrw ((((R2.out.other (by omega)).other (by omega)).other (by omega)).other (by omega))
      have G3 : Hid (W0.grownBy ((((V.setCell ⟨P, 0, none⟩ (.bool d)).setCell ⟨P, 1, none⟩ (.string t)).setCell ⟨Q, 0, none⟩ (.bool false)).setCell ⟨Q, 1, none⟩ (.string eS)).drew none) := grow_drew (grown_set (grown_set (grown_set (grown_set G2.out (by omega)) (by omega)) (by omega)) (by omega))
      clear o0 o1 o2 o3 p0 p1 p2 p3 b0 b1 e1 e2 e3 e4 P2 Q2 R2 A2 B2 G2 n1 n2
      generalize ((((V.setCell ⟨P, 0, none⟩ (.bool d)).setCell ⟨P, 1, none⟩ (.string t)).setCell ⟨Q, 0, none⟩ (.bool false)).setCell ⟨Q, 1, none⟩ (.string eS)).drew = U at *
      have HZ : Hid (∀ w', U.grownBy w' none → w'.cell? ⟨w1.heap.size, 0, none⟩ = some (.bool q1) ∧ w'.cell? ⟨w1.heap.size, 1, none⟩ = some (.string q2) ∧ w'.cell? ⟨w1.heap.size + 1, 0, none⟩ = some (.bool false) ∧ w'.cell? ⟨w1.heap.size + 1, 1, none⟩ = some (.string eS)) := fun w' g => ⟨(A3.out.kept g (by simp)).c0, (A3.out.kept g (by simp)).c1, (B3.out.kept g (by simp)).c0, (B3.out.kept g (by simp)).c1⟩
      have N3 : Hid (W.heap.size ≠ w1.heap.size ∧ W.heap.size ≠ w1.heap.size + 1) := ⟨by have := N1.out; omega, by have := N1.out; omega⟩
      go_wp2_with fail
      go_region_held3 (fun w' => w'.cell? ⟨w1.heap.size, 0, none⟩ = some (.bool q1) ∧ w'.cell? ⟨w1.heap.size, 1, none⟩ = some (.string q2) ∧ w'.cell? ⟨w1.heap.size + 1, 0, none⟩ = some (.bool false) ∧ w'.cell? ⟨w1.heap.size + 1, 1, none⟩ = some (.string eS))
        (first | (go_keep; done) | with_reducible exact HZ.out _ (by assumption) | with_reducible exact HZ.out _ (grow_drew (World.grownBy.refl _ _)) | exact ⟨(((A3.out.kept GA (by simp)).other N3.out.1).other N3.out.1).c0, (((A3.out.kept GA (by simp)).other N3.out.1).other N3.out.1).c1, (((B3.out.kept GA (by simp)).other N3.out.2).other N3.out.2).c0, (((B3.out.kept GA (by simp)).other N3.out.2).other N3.out.2).c1⟩ | fail)
        (first
          | (go_at_call 51; refine (fzero_gr _).mono ?_; rintro e wA ⟨rfl, gA⟩; have GA : U.grownBy wA none := (by first | exact gA | exact grownBy_undrew gA); clear gA; have hR := R3.out.kept GA (by simp); have k0 := hR.c0; have k1 := hR.c1; have k2 := hR.fr 0; have k3 := hR.fr 1)
          | fail)
      all_goals (
        go_wp2_with fail
        refine bodyPost_ret (res_cell_tmp rfl _ _ W.heap.size _ _ _ _ rfl (hR.put _ _)) rfl ?_
        exact ⟨⟨_, rfl⟩, grown_set (grown_set (grownBy_trans G3.out GA) NE.out.2.2.2.2.2) NE.out.2.2.2.2.2⟩))
  · have p0 := hP.c0
    have p1 := hP.c1
    have pl := hP.lt
    have o0 := hQ.c0
    have o1 := hQ.c1
    have ol := hQ.lt
    have HP : Hid (WBlk W P (.bool n) (.string s)) := hP
    have HQ : Hid (WBlk W Q (.bool d) (.string t)) := hQ
    have HG : Hid (W0.grownBy W none) := g
    have NE : Hid (P ≠ Q ∧ W0.heap.size ≤ P ∧ W0.heap.size ≤ Q ∧ P < W.heap.size ∧ Q < W.heap.size ∧ W0.heap.size ≤ W.heap.size) := ⟨ne, lP, lQ, pl, ol, g.size⟩
    clear hP hQ g ne lP lQ
    go_enter Tryz.func124, Tryz.ntmps124
    go_wp2_with fail
    refine (HD.out _).mono ?_
    rintro e w1 ⟨rfl, g1⟩
    clear p0 p1 pl o0 o1 ol
    have g2 : W.grownBy ((w1.alloc (wObj q1 q2)).alloc (wObj r1 r2)) none := grownBy_trans (grownBy_trans (grow1 _ _) g1) (grow2 _ _ _)
    have P2 : Hid (WBlk ((w1.alloc (wObj q1 q2)).alloc (wObj r1 r2)) P (.bool n) (.string s)) := HP.out.kept g2 (by simp)
    have Q2 : Hid (WBlk ((w1.alloc (wObj q1 q2)).alloc (wObj r1 r2)) Q (.bool d) (.string t)) := HQ.out.kept g2 (by simp)
    have R2 : Hid (WBlk ((w1.alloc (wObj q1 q2)).alloc (wObj r1 r2)) W.heap.size (.bool false) (.string eS)) := old_alloc _ _ (old_alloc _ _ (WBlk.kept (heap_alloc_new _ _) g1 (by simp)))
    have A2 : Hid (WBlk ((w1.alloc (wObj q1 q2)).alloc (wObj r1 r2)) w1.heap.size (.bool q1) (.string q2)) := at_alloc1 _ _ _
    have B2 : Hid (WBlk ((w1.alloc (wObj q1 q2)).alloc (wObj r1 r2)) (w1.heap.size + 1) (.bool r1) (.string r2)) := heap_alloc2_new _ _ _
    have G2 : Hid (W0.grownBy ((w1.alloc (wObj q1 q2)).alloc (wObj r1 r2)) none) := grownBy_trans HG.out g2
    have N1 : Hid (W.heap.size < w1.heap.size) := (by have := g1.size; simp at this; omega : W.heap.size < w1.heap.size)
    clear g1 g2 HP HQ HG
    go_upto_region 2 with fail
    generalize (w1.alloc (wObj q1 q2)).alloc (wObj r1 r2) = V at *
    have o0 := Q2.out.c0
    have o1 := Q2.out.c1
    have o2 := Q2.out.fr 0
    have o3 := Q2.out.fr 1
    have p0 := P2.out.c0
    have p1 := P2.out.c1
    have p2 := P2.out.fr 0
    have p3 := P2.out.fr 1
    have b0 := B2.out.c0
    have b1 := B2.out.c1
    have e1 := NE.out.1
    have e2 : ¬ Q = P := fun e => e1 e.symm
    have e3 : ¬ P = w1.heap.size + 1 := by have := N1.out; have := NE.out.2.2.2.1; omega
    have e4 : ¬ w1.heap.size + 1 = P := by omega
    go_region_with (first | fail)
    all_goals (
      have n1 := N1.out
      have n2 := NE.out
      have A3 : Hid (WBlk ((((V.setCell ⟨P, 0, none⟩ (.bool d)).setCell ⟨P, 1, none⟩ (.string t)).setCell ⟨Q, 0, none⟩ (.bool r1)).setCell ⟨Q, 1, none⟩ (.string r2)).drew w1.heap.size (.bool q1) (.string q2)) := wdrw ((((A2.out.other (by omega)).other (by omega)).other (by omega)).other (by omega))
      have B3 : Hid (WBlk ((((V.setCell ⟨P, 0, none⟩ (.bool d)).setCell ⟨P, 1, none⟩ (.string t)).setCell ⟨Q, 0, none⟩ (.bool r1)).setCell ⟨Q, 1, none⟩ (.string r2)).drew (w1.heap.size + 1) (.bool r1) (.string r2)) := wdrw ((((B2.out.other (by omega)).other (by omega)).other (by omega)).other (by omega))
      have R3 : Hid (WBlk ((((V.setCell ⟨P, 0, none⟩ (.bool d)).setCell ⟨P, 1, none⟩ (.string t)).setCell ⟨Q, 0, none⟩ (.bool r1)).setCell ⟨Q, 1, none⟩ (.string r2)).drew W.heap.size (.bool false) (.string eS)) := wdrw ((((R2.out.other (by omega)).other (by omega)).other (by omega)).other (by omega))
      have G3 : Hid (W0.grownBy ((((V.setCell ⟨P, 0, none⟩ (.bool d)).setCell ⟨P, 1, none⟩ (.string t)).setCell ⟨Q, 0, none⟩ (.bool r1)).setCell ⟨Q, 1, none⟩ (.string r2)).drew none) := grow_drew (grown_set (grown_set (grown_set (grown_set G2.out (by omega)) (by omega)) (by omega)) (by omega))
      clear o0 o1 o2 o3 p0 p1 p2 p3 b0 b1 e1 e2 e3 e4 P2 Q2 R2 A2 B2 G2 n1 n2
      generalize ((((V.setCell ⟨P, 0, none⟩ (.bool d)).setCell ⟨P, 1, none⟩ (.string t)).setCell ⟨Q, 0, none⟩ (.bool r1)).setCell ⟨Q, 1, none⟩ (.string r2)).drew = U at *
      have HZ : Hid (∀ w', U.grownBy w' none → w'.cell? ⟨w1.heap.size, 0, none⟩ = some (.bool q1) ∧ w'.cell? ⟨w1.heap.size, 1, none⟩ = some (.string q2) ∧ w'.cell? ⟨w1.heap.size + 1, 0, none⟩ = some (.bool r1) ∧ w'.cell? ⟨w1.heap.size + 1, 1, none⟩ = some (.string r2)) := fun w' g => ⟨(A3.out.kept g (by simp)).c0, (A3.out.kept g (by simp)).c1, (B3.out.kept g (by simp)).c0, (B3.out.kept g (by simp)).c1⟩
      have N3 : Hid (W.heap.size ≠ w1.heap.size ∧ W.heap.size ≠ w1.heap.size + 1) := ⟨by have := N1.out; omega, by have := N1.out; omega⟩
      go_wp2_with fail
      go_region_held3 (fun w' => w'.cell? ⟨w1.heap.size, 0, none⟩ = some (.bool q1) ∧ w'.cell? ⟨w1.heap.size, 1, none⟩ = some (.string q2) ∧ w'.cell? ⟨w1.heap.size + 1, 0, none⟩ = some (.bool r1) ∧ w'.cell? ⟨w1.heap.size + 1, 1, none⟩ = some (.string r2))
        (first | (go_keep; done) | with_reducible exact HZ.out _ (by assumption) | with_reducible exact HZ.out _ (grow_drew (World.grownBy.refl _ _)) | exact ⟨(((A3.out.kept GA (by simp)).other N3.out.1).other N3.out.1).c0, (((A3.out.kept GA (by simp)).other N3.out.1).other N3.out.1).c1, (((B3.out.kept GA (by simp)).other N3.out.2).other N3.out.2).c0, (((B3.out.kept GA (by simp)).other N3.out.2).other N3.out.2).c1⟩ | fail)
        (first
          | (go_at_call 51; refine (fzero_gr _).mono ?_; rintro e wA ⟨rfl, gA⟩; have GA : U.grownBy wA none := (by first | exact gA | exact grownBy_undrew gA); clear gA; have hR := R3.out.kept GA (by simp); have k0 := hR.c0; have k1 := hR.c1; have k2 := hR.fr 0; have k3 := hR.fr 1)
          | fail)
      all_goals (
        go_wp2_with fail
        refine bodyPost_ret (res_cell_tmp rfl _ _ W.heap.size _ _ _ _ rfl (hR.put _ _)) rfl ?_
        exact ⟨⟨_, rfl⟩, grown_set (grown_set (grownBy_trans G3.out GA) NE.out.2.2.2.2.2) NE.out.2.2.2.2.2⟩))
end Go.Proofs.YtdfliaogmlpefaaGreatDoor
