/-
  A range over a function that hands over words, each in a new block that the round may write; the last round may leave it.
-/
import Derived.RangeFuncFrom
import Derived.RangeFuncNested
import Derived.RangeFuncBound
import Derived.RangeFuncCalls
import Derived.RangeFuncLeaves
import Derived.RangeFuncBox
import Derived.Shelf.Abstract
import Derived.Shelf.RegionOpen
import Derived.OwnWalkIn
import Derived.TacticsInMore
import Derived.LoopNIn
import Derived.LoopIn
import Derived.Test.YtkimgmgafkihaaaDoorOnb
namespace Go.Proofs.YtkimgmgafkihaaaDoor
open Go.RowKit Go.Lib Go.Sort Go.Shelf
attribute [local go_sem] Oper.semAt_some
set_option linter.unusedVariables false
def YieldW (F : Fence) (m : Nat) (P : Program) (l : Nat) (wd : Nat → List Int) (T : Nat) (b : Bool) (B : Nat) (J : Nat → Option Nat → World → Prop) : Prop :=
  ∀ t o W base v, t < T → J t o W → B ≤ base → base ≤ W.heap.size → (∀ r, o = some r → r < base) → Own W base v (wd t) → YieldAt F m P l #[v] W fun e W' =>
    e = .returned (.bool (b || decide (t + 1 < T))) ∧ ∃ o', J (t + 1) o' W' ∧ W.heap.size ≤ W'.heap.size ∧ (∀ i, B ≤ i → i < base → some i ≠ o → W'.heap[i]? = W.heap[i]?) ∧ (o' = o ∨ ∃ g, o' = some g ∧ W.heap.size ≤ g ∧ g < W'.heap.size)
def HandsW (F : Fence) (n : Nat) (P : Program) (gf : Nat) (lb : Array Value) (wd : Nat → List Int) (T : Nat) (b : Bool) (B t0 : Nat) (Nd : World → Prop) (E : Nat → Prop) : Prop :=
  ∀ (l : Nat) (J : Nat → Option Nat → World → Prop), (∀ t o W, J t o W → Nd W) → (∀ t o W W', J t o W → W.grownBy W' none → J t o W') →
    (∀ t o W W' r, J t o W → W.grownBy W' (some r) → B ≤ r → some r ≠ o → J t o W') → YieldW F (n - 1) P l wd T b B J →
    ∀ o W, B ≤ W.heap.size → (∀ r, o = some r → r < W.heap.size) → J t0 o W → CallsIn F n P gf (#[.func (.yield l) #[] #[]] ++ lb) W fun e W' =>
      (∃ v, e = .returned v) ∧ ∃ t1 o', E t1 ∧ J t1 o' W' ∧ (∀ r, o' = some r → r < W'.heap.size)
def lvExit : Option Nat → Exit
  | none => .ret
  | some id => .exit id
def lvCode : Option Nat → Code
  | none => .ret
  | some id => .exit id
def roundW (go : Bool) (lv : Option Nat) (B base : Nat) (I : Nat × Option Nat → World → Prop) (t : Nat) (o : Option Nat) (W : World) (e : Exit) (_ : Act) (W' : World) : Prop :=
  e = (if go then .normal else lvExit lv) ∧ ∃ o', I (t, o') W' ∧ W.heap.size ≤ W'.heap.size ∧ (∀ i, B ≤ i → i < base → some i ≠ o → W'.heap[i]? = W.heap[i]?) ∧ (o' = o ∨ ∃ g, o' = some g ∧ W.heap.size ≤ g ∧ g < W'.heap.size)
theorem wpIn_words {F : Fence} {n : Nat} {P : Program} {g : Operand} {p : Tmp} {assign body : Code} {Q : Exit → Act → World → Prop} {a : Act} {w : World}
    (hro : F.round = none) (h1 : 1 ≤ n) {gf : Nat} {lb : Array Value} (hg : a.eval g = .func (.func gf) #[] lb) (hFg : F.fn gf) (eg : ∀ args w, (callFunc gf args).run P w = .ok (.enter gf args) w)
    (wd : Nat → List Int) (T : Nat) (b : Bool) (lv : Option Nat) (t0 : Nat) (hb0 : (b || decide (t0 < T)) = true)
    (I : Nat × Option Nat → World → Prop) (hI : ∀ q W W', I q W → W.grownBy W' none → I q W') (hIB : ∀ q W W' r, I q W → W.grownBy W' (some r) → w.heap.size ≤ r → some r ≠ q.2 → I q W')
    (o0 : Option Nat) (ho0 : ∀ r, o0 = some r → r < w.heap.size) (h0 : I (t0, o0) w) (Nd : World → Prop) (E : Nat → Prop) (hNd : ∀ q W, I q W → Nd W) (hit : HandsW F (n - 1) P gf lb wd T b (w.heap.size + 2) t0 Nd E)
    (a₁ : Value → Act)
    (hassign : ∀ (l : Nat) (v : Value) (W : World) (K : Act → World → Prop), K (a₁ v) W → assign.wpIn (F.inRound l) (n - 1 - 1) P (Exit.then K (fun _ _ _ => False)) { tmps := a.tmps.setIfInBounds p v, defers := [] } W)
    (hbody : ∀ (l t : Nat) (o : Option Nat) (base : Nat) (v : Value) (W : World), t < T → I (t, o) W → w.heap.size + 2 ≤ base → base ≤ W.heap.size → (∀ r, o = some r → r < base) → Own W base v (wd t) →
      body.wpIn (F.inRound l) (n - 1 - 1) P (roundW (b || decide (t + 1 < T)) lv w.heap.size base I (t + 1) o W) (a₁ v) W)
    (hdone : ∀ (D t1 : Nat) (o : Option Nat) (W : World), D = w.heap.size → E t1 → I (t1, o) W → (∀ r, o = some r → r < W.heap.size) → W.heap[D]? = some (.deferred (some [])) → o ≠ some D →
      if (b || decide (t1 < T)) = true then Q .normal { a with defers := { target := .collected D, args := #[] } :: a.defers } W else (lvCode lv).wpIn F n P Q { a with defers := { target := .collected D, args := #[] } :: a.defers } W) :
    (Code.rangeFunc g #[p] assign body).wpIn F n P Q a w := by
  refine wpIn_rangeFunc fun fn hfn => ?_
  rw [hro]
  obtain ⟨r, hr⟩ : ∃ r : Loop, r = { state := .ready, pending := none, fn, tmps := a.tmps, params := #[p], assign, body, defers := w.heap.size } := ⟨_, rfl⟩
  have hen : (Instr.enterLoop fn a.tmps #[p] assign body none).run P w = .ok (w.heap.size + 1, [{ target := .collected w.heap.size, args := #[] }]) ((w.alloc (.deferred (some []))).alloc (.loop r)) := by
    rw [hr]; exact run_enterLoop_outer _ _ _ _ _
  have rs : r.state = .ready := by rw [hr]
  have rp : r.pending = none := by rw [hr]
  have back : ({ { r with state := .busy } with state := .ready, pending := none } : Loop) = r := by rw [hr]
  obtain ⟨rd, hrd⟩ : ∃ rd : Loop, rd = { { r with state := .busy } with state := .done, pending := some (lvCode lv) } := ⟨_, rfl⟩
  have hyl : ∀ (W : World) (v : Value), W.heap[w.heap.size + 1]? = some (.loop r) → (Instr.yield (w.heap.size + 1) #[v]).run P W = .ok (.round (w.heap.size + 1) fn (a.tmps.setIfInBounds p v) assign body) W := by
    intro W v hl
    have := run_yield (P := P) (args := #[v]) hl (by rw [hr]; rfl)
    rw [hr] at this
    simpa using this
  clear hr
  have hl1 : ((w.alloc (.deferred (some []))).alloc (.loop r)).heap[w.heap.size + 1]? = some (.loop r) := by
    have := World.alloc_heap_new (w.alloc (.deferred (some []))) (.loop r)
    rwa [World.size_alloc] at this
  have hd1 : ((w.alloc (.deferred (some []))).alloc (.loop r)).heap[w.heap.size]? = some (.deferred (some [])) := (Below.heap_alloc _ _ _ (by simp)).trans (World.alloc_heap_new w _)
  have hi1 : I (t0, o0) ((w.alloc (.deferred (some []))).alloc (.loop r)) := hI _ _ _ (hI _ _ _ h0 (World.grownBy_alloc _ _ none)) (World.grownBy_alloc _ _ none)
  have hsz1 : w.heap.size + 2 ≤ ((w.alloc (.deferred (some []))).alloc (.loop r)).heap.size := by simp
  generalize hW1 : (w.alloc (.deferred (some []))).alloc (.loop r) = W1 at *
  refine ⟨w.heap.size + 1, [{ target := .collected w.heap.size, args := #[] }], W1, { target := .fn (.func gf) lb, args := #[.func (.yield (w.heap.size + 1)) #[] #[]] }, W1, gf, #[.func (.yield (w.heap.size + 1)) #[] #[]] ++ lb, W1, hen, ?_, ?_, ?_, fun _ => h1, ?_⟩
  · simp only [resolve, hg]
    simp [go_sem]
  · intro f' hf'
    simp [Target.leads] at hf'
    subst hf'
    exact hFg
  · simp [invoke, go_sem, eg]
  have blk : ∀ {W W' : World} {i : Nat} {o : Obj}, W.grownBy W' none → W.heap[i]? = some o → W'.heap[i]? = some o := fun {W W' i o} hg h => (hg.block i (Array.getElem?_eq_some_iff.1 h).1 (by simp)).trans h
  refine (hit (w.heap.size + 1) (fun t o W => I (t, o) W ∧ W.heap[w.heap.size + 1]? = some (.loop (if (b || decide (t < T)) = true then r else rd)) ∧ W.heap[w.heap.size]? = some (.deferred (some [])) ∧ o ≠ some (w.heap.size + 1) ∧ o ≠ some w.heap.size) (fun _ _ _ h => hNd _ _ h.1) ?_ ?_ ?_ o0 _ hsz1 (fun r e => by have := ho0 r e; omega) ⟨hi1, (by rw [if_pos hb0]; exact hl1), hd1, ?_, ?_⟩).mono ?_
  · rintro t o W W' ⟨hi, hl, hd, ho⟩ hg
    exact ⟨hI _ _ _ hi hg, blk hg hl, blk hg hd, ho⟩
  · rintro t o W W' r ⟨hi, hl, hd, ho⟩ hg hB hr
    refine ⟨hIB _ _ _ r hi hg (by omega) hr, ?_, ?_, ho⟩
    · exact (hg.block _ (Array.getElem?_eq_some_iff.1 hl).1 (by intro e; injection e with e; omega)).trans hl
    · exact (hg.block _ (Array.getElem?_eq_some_iff.1 hd).1 (by intro e; injection e with e; omega)).trans hd
  · rintro t o W base v ht ⟨hi, hl, hd, ho, hoD⟩ hB hbs hob hv
    rw [if_pos (by simp [ht])] at hl
    have hlt := (Array.getElem?_eq_some_iff.1 hl).1
    refine ⟨_, _, _, _, hyl W v hl, roundIn_of_wpIn hfn (hassign _ v W _ ⟨_, run_beginRound hl rs, ?_⟩)⟩
    have kA := grownBy_putObj' W (w.heap.size + 1) (.loop { r with state := .busy })
    have hlb : (W.putObj (w.heap.size + 1) (.loop { r with state := .busy })).heap[w.heap.size + 1]? = some (.loop { r with state := .busy }) := World.putObj_heap_same hlt
    have hdb : (W.putObj (w.heap.size + 1) (.loop { r with state := .busy })).heap[w.heap.size]? = some (.deferred (some [])) := (World.putObj_heap_other (by omega)).trans hd
    have hi2 : I (t, o) (W.putObj (w.heap.size + 1) (.loop { r with state := .busy })) := hIB _ _ _ _ hi kA (by omega) (fun e => ho e.symm)
    have hv2 : Own (W.putObj (w.heap.size + 1) (.loop { r with state := .busy })) base v (wd t) := by
      refine hv.kept kA ?_
      rcases hv.cases with ⟨rfl, _⟩ | ⟨g, c, rfl, hbg, _⟩
      · exact .inl rfl
      · right
        simp [Value.ownBlock]
        omega
    refine wpIn_mono (hbody _ t o base v _ ht hi2 hB (Nat.le_trans hbs kA.size) hob hv2) ?_
    rintro e a3 W3 ⟨he, o', hi3, hs3, hf3, hfr⟩
    have hl3 : W3.heap[w.heap.size + 1]? = some (.loop { r with state := .busy }) := (hf3 _ (by omega) (by omega) (fun e => ho e.symm)).trans hlb
    have hd3 : W3.heap[w.heap.size]? = some (.deferred (some [])) := (hf3 _ (Nat.le_refl _) (by omega) (fun e => hoD e.symm)).trans hdb
    have hsA := kA.size
    have ho3 : o' ≠ some (w.heap.size + 1) ∧ o' ≠ some w.heap.size := by
      rcases hfr with rfl | ⟨g, rfl, hgg, _⟩
      · exact ⟨ho, hoD⟩
      · constructor <;> (intro e; injection e with e; omega)
    have fin : ∀ rx : Loop, rx = (if (b || decide (t + 1 < T)) = true then r else rd) → (fun o W => I (t + 1, o) W ∧ W.heap[w.heap.size + 1]? = some (.loop (if (b || decide (t + 1 < T)) = true then r else rd)) ∧ W.heap[w.heap.size]? = some (.deferred (some [])) ∧ o ≠ some (w.heap.size + 1) ∧ o ≠ some w.heap.size) o' (W3.putObj (w.heap.size + 1) (.loop rx)) ∧ W.heap.size ≤ (W3.putObj (w.heap.size + 1) (.loop rx)).heap.size ∧ (∀ i, w.heap.size + 2 ≤ i → i < base → some i ≠ o → (W3.putObj (w.heap.size + 1) (.loop rx)).heap[i]? = W.heap[i]?) ∧ (o' = o ∨ ∃ g, o' = some g ∧ W.heap.size ≤ g ∧ g < (W3.putObj (w.heap.size + 1) (.loop rx)).heap.size) := by
      intro rx hrx
      have kB := grownBy_putObj' W3 (w.heap.size + 1) (.loop rx)
      have hsB := kB.size
      refine ⟨⟨hIB _ _ _ _ hi3 kB (by omega) (fun e => ho3.1 e.symm), ?_, (World.putObj_heap_other (by omega)).trans hd3, ho3⟩, by omega, fun i hB2 hib hn => ?_, ?_⟩
      · rw [← hrx]; exact World.putObj_heap_same (Array.getElem?_eq_some_iff.1 hl3).1
      · have ne : some i ≠ some (w.heap.size + 1) := fun h => by injection h with h; omega
        rw [kB.block i (by omega) ne, hf3 i (by omega) hib hn, kA.block i (by omega) ne]
      · rcases hfr with rfl | ⟨g, rfl, hgg, hg2⟩
        · exact .inl rfl
        · exact .inr ⟨g, rfl, by omega, by omega⟩
    cases hgo : (b || decide (t + 1 < T)) with
    | true =>
      rw [hgo, if_pos rfl] at he
      subst he
      have hen3 := run_endRound (P := P) none hl3
      simp only [Option.isNone_none, if_true] at hen3
      rw [back] at hen3
      have := fin r (by rw [hgo, if_pos rfl])
      exact ⟨_, _, hen3, rfl, o', this⟩
    | false =>
      rw [hgo, if_neg (by simp)] at he
      have h3 := fin rd (by rw [hgo, if_neg (by simp)])
      have hen3 := run_endRound (P := P) (some (lvCode lv)) hl3
      simp only [Option.isNone_some] at hen3
      rw [if_neg (by simp)] at hen3
      rw [← hrd] at hen3
      cases lv with
      | none => subst he; exact ⟨_, _, hen3, rfl, o', h3⟩
      | some id => subst he; exact ⟨_, _, hen3, rfl, o', h3⟩
  · intro e; have := ho0 _ e; omega
  · intro e; have := ho0 _ e; omega
  · rintro e W2 ⟨⟨v, rfl⟩, t1, o', hE, ⟨hi, hl, hd, ho, hoD⟩, hob⟩
    have hlt := (Array.getElem?_eq_some_iff.1 hl).1
    have fin : ∀ ob : Obj, _ := fun ob => hdone _ t1 o' _ rfl hE (hIB _ _ _ _ hi (grownBy_putObj' W2 (w.heap.size + 1) ob) (by omega) (fun e => ho e.symm)) (fun r e => Nat.lt_of_lt_of_le (hob r e) (grownBy_putObj' W2 (w.heap.size + 1) ob).size) ((World.putObj_heap_other (by omega)).trans hd) hoD
    cases hgo : (b || decide (t1 < T)) with
    | true =>
      rw [hgo, if_pos rfl] at hl
      have hend := run_endLoop (P := P) hl (by rw [rs]; simp)
      rw [rp] at hend
      refine ⟨none, _, hend, ?_⟩
      rw [hgo] at fin
      simp only [if_true] at fin
      exact fin _
    | false =>
      rw [hgo, if_neg (by simp)] at hl
      have hend := run_endLoop (P := P) hl (by rw [hrd]; simp)
      rw [hrd] at hend
      refine ⟨some (lvCode lv), _, hend, ?_⟩
      rw [hgo] at fin
      simp only [Bool.false_eq_true, if_false] at fin
      exact fin _
end Go.Proofs.YtkimgmgafkihaaaDoor
