/-
  Texts of words: of lists alone.
-/
import Derived.Test.YthldipnfaiobaabGreatDoorRtx
import Derived.Lib.AtoiAll
namespace Go.Proofs.YthldipnfaiobaabGreatDoor
open Go.RowKit Go.Lib Go.Sort
set_option linter.unusedVariables false
set_option linter.unusedSimpArgs false
abbrev St := Bool × Nat × Bool
def st0 : St := (false, 0, false)
def stp (s : St) (c : Nat) : Option St :=
  if c = 45 ∧ s.2.2 = false ∧ s.1 = false then some (true, s.2.1, s.2.2)
  else if c < 48 ∨ 57 < c then none
  else some (s.1, min (10 * s.2.1 + (c - 48)) 1000, true)
def stv (s : St) : Int := if s.1 then -(s.2.1 : Int) else (s.2.1 : Int)
def runS : List Nat → St → Option St
  | [], s => some s
  | c :: l, s => match stp s c with
    | none => none
    | some s' => runS l s'
def rd : List Nat → St → List Int → Option (List Int)
  | [], s, W => some (W ++ [stv s])
  | c :: l, s, W => if c = 32 then rd l st0 (W ++ [stv s]) else match stp s c with
    | none => none
    | some s' => rd l s' W
def itN (k : Int) : List Nat := (Lib.itoa k).map UInt8.toNat
def jnN (L : List Int) : List Nat := (Lib.join (L.map Lib.itoa) [32]).map UInt8.toNat
theorem it_facts : ∀ u : Fin 129, noL ((u.1 : Int) - 64) = false → ((itN ((u.1 : Int) - 64)).all (· ≠ 32) && (match runS (itN ((u.1 : Int) - 64)) st0 with | some s => stv s == (u.1 : Int) - 64 | none => false) && (match Lib.atoiAll (Lib.itoa ((u.1 : Int) - 64)) with | .ok v => v == (u.1 : Int) - 64 | _ => false)) = true := by decide +kernel
theorem it_all {k : Int} (h : noL k = false) : (∀ x ∈ itN k, x ≠ 32) ∧ (∃ s, runS (itN k) st0 = some s ∧ stv s = k) ∧ Lib.atoiAll (Lib.itoa k) = .ok k := by
  have hk := noL_no h
  obtain ⟨u, hu⟩ : ∃ u : Nat, k = (u : Int) - 64 := ⟨(k + 64).toNat, by omega⟩
  have := it_facts ⟨u, by omega⟩ (by simpa [hu] using h)
  simp only [Bool.and_eq_true] at this
  rw [← hu] at this
  obtain ⟨⟨h1, h2⟩, h3⟩ := this
  refine ⟨by simpa using h1, ?_, ?_⟩
  · cases hr : runS (itN k) st0 with
    | none => rw [hr] at h2; simp at h2
    | some s => rw [hr] at h2; exact ⟨s, rfl, by simpa using h2⟩
  · cases hr : Lib.atoiAll (Lib.itoa k) with
    | ok v => rw [hr] at h3; simp at h3; rw [h3]
    | «syntax» => rw [hr] at h3; simp at h3
    | range => rw [hr] at h3; simp at h3
theorem it_inj {k l : Int} (hk : noL k = false) (hl : noL l = false) (h : itN k = itN l) : k = l := by
  obtain ⟨s, h1, h2⟩ := (it_all hk).2.1
  obtain ⟨t, h3, h4⟩ := (it_all hl).2.1
  rw [h, h3] at h1
  cases h1
  omega
theorem jnN_one (k : Int) : jnN [k] = itN k := by simp [jnN, itN, Lib.join]
theorem jnN_cons (k : Int) (L : List Int) (h : L ≠ []) : jnN (k :: L) = itN k ++ 32 :: jnN L := by
  cases L with
  | nil => exact absurd rfl h
  | cons a l => simp [jnN, itN, Lib.join]
def pre (W : List Int) : List Nat := (W.map fun k => itN k ++ [32]).flatten
theorem pre_snoc (W : List Int) (k : Int) : pre (W ++ [k]) = pre W ++ itN k ++ [32] := by simp [pre]
theorem pre_cons (k : Int) (W : List Int) : pre (k :: W) = itN k ++ 32 :: pre W := by simp [pre]
theorem jnN_snoc (W : List Int) (k : Int) : jnN (W ++ [k]) = pre W ++ itN k := by
  induction W with
  | nil => simp [pre, jnN_one]
  | cons a W ih => rw [List.cons_append, jnN_cons _ _ (by simp), ih, pre_cons]; simp
theorem split32 {A A' B B' : List Nat} (hA : ∀ x ∈ A, x ≠ 32) (hA' : ∀ x ∈ A', x ≠ 32) (h : A ++ 32 :: B = A' ++ 32 :: B') : A = A' ∧ B = B' := by
  induction A generalizing A' with
  | nil =>
    cases A' with
    | nil => simpa using h
    | cons a l => simp at h; exact absurd h.1.symm (hA' a (by simp))
  | cons a l ih =>
    cases A' with
    | nil => simp at h; exact absurd h.1 (hA a (by simp))
    | cons a' l' =>
      simp at h
      obtain ⟨rfl, h⟩ := h
      obtain ⟨rfl, rfl⟩ := ih (fun x hx => hA x (by simp [hx])) (fun x hx => hA' x (by simp [hx])) h
      exact ⟨rfl, rfl⟩
def RdOk (S : List Nat) (V : List Int) : Prop := V ≠ [] ∧ (∀ x ∈ V, noL x = false) ∧ V.length ≤ 4096 ∧ S = jnN V
theorem rd_run {A R : List Nat} (hA : ∀ x ∈ A, x ≠ 32) : ∀ (s : St) (W : List Int), rd (A ++ R) s W = match runS A s with | none => none | some s' => rd R s' W := by
  induction A with
  | nil => intro s W; rfl
  | cons a l ih =>
    intro s W
    simp only [List.cons_append, rd, runS]
    rw [if_neg (hA a (by simp))]
    cases h : stp s a with
    | none => rfl
    | some s' => exact ih (fun x hx => hA x (by simp [hx])) s' W
theorem rd_jn : ∀ (V W : List Int), V ≠ [] → (∀ x ∈ V, noL x = false) → rd (jnN V) st0 W = some (W ++ V)
  | [], W, h, _ => absurd rfl h
  | [v], W, _, hn => by
    obtain ⟨h1, ⟨s, h2, h3⟩, _⟩ := it_all (hn v (by simp))
    have := rd_run (R := []) h1 st0 W
    rw [List.append_nil, h2] at this
    rw [jnN_one, this]
    simp [rd, h3]
  | v :: a :: l, W, _, hn => by
    obtain ⟨h1, ⟨s, h2, h3⟩, _⟩ := it_all (hn v (by simp))
    have := rd_run (R := 32 :: jnN (a :: l)) h1 st0 W
    rw [h2] at this
    rw [jnN_cons _ _ (by simp), this]
    simp only [rd, if_true]
    rw [rd_jn (a :: l) (W ++ [stv s]) (by simp) (fun x hx => hn x (List.mem_cons_of_mem _ hx)), h3]
    simp
def rdV (S : List Nat) : Option (List Int) := match rd S st0 [] with
  | none => none
  | some V => if chk [V] = 0 ∧ jnN V = S then some V else none
theorem chk_word {V : List Int} : chk [V] = 0 ↔ (∀ x ∈ V, noL x = false) ∧ V.length ≤ 4096 := by
  constructor
  · intro h
    have := chk_ok h V (by simp)
    exact ⟨fun x hx => by simpa using List.any_eq_false.1 this.1 x hx, this.2⟩
  · rintro ⟨h1, h2⟩
    unfold chk
    rw [if_neg, if_neg]
    · simp; omega
    · simp
      intro x hx
      simpa using h1 x hx
theorem rdV_ok {S : List Nat} {V : List Int} (h : RdOk S V) : rdV S = some V := by
  unfold rdV
  have := rd_jn V [] h.1 h.2.1
  rw [List.nil_append, ← h.2.2.2] at this
  rw [this]
  simp only
  rw [if_pos ⟨chk_word.2 ⟨h.2.1, h.2.2.1⟩, h.2.2.2.symm⟩]
theorem rd_ne : ∀ (S : List Nat) (s : St) (W V : List Int), rd S s W = some V → V ≠ []
  | [], s, W, V, h => by simp [rd] at h; subst h; simp
  | c :: l, s, W, V, h => by
    simp only [rd] at h
    split at h
    · exact rd_ne l _ _ V h
    · split at h
      · cases h
      · exact rd_ne l _ _ V h
theorem rdV_is {S : List Nat} {V : List Int} (h : rdV S = some V) : RdOk S V := by
  unfold rdV at h
  split at h
  · cases h
  · rename_i V' hr
    split at h
    · rename_i hc
      cases h
      have := chk_word.1 hc.1
      exact ⟨rd_ne _ _ _ _ hr, this.1, this.2, hc.2.symm⟩
    · cases h
theorem rd_prefix : ∀ (W V : List Int) (T : List Nat), (∀ x ∈ W, noL x = false) → (∀ x ∈ V, noL x = false) → V ≠ [] → jnN V = pre W ++ T → ∃ V', V = W ++ V' ∧ V' ≠ [] ∧ T = jnN V'
  | [], V, T, _, _, h0, h => ⟨V, rfl, h0, by simpa [pre] using h.symm⟩
  | k :: W, V, T, hW, hV, h0, h => by
    rw [pre_cons] at h
    have hk := (it_all (hW k (by simp))).1
    cases V with
    | nil => exact absurd rfl h0
    | cons v V1 =>
      have hv := (it_all (hV v (by simp))).1
      by_cases e : V1 = []
      · subst e
        rw [jnN_one] at h
        exfalso
        exact hv 32 (by rw [h]; simp) rfl
      · rw [jnN_cons _ _ e, List.append_assoc, List.cons_append] at h
        obtain ⟨h1, h2⟩ := split32 hv hk h
        obtain rfl := it_inj (hV v (by simp)) (hW k (by simp)) h1
        obtain ⟨V', e1, e2, e3⟩ := rd_prefix W V1 T (fun x hx => hW x (by simp [hx])) (fun x hx => hV x (by simp [hx])) e h2
        exact ⟨V', by rw [e1]; rfl, e2, e3⟩
theorem rd_next {S : List Nat} {V W : List Int} {T A : List Nat} (h : RdOk S V) (hW : ∀ x ∈ W, noL x = false) (hS : S = pre W ++ T) (hA : ∀ x ∈ A, x ≠ 32) (hT : T = A ∨ ∃ B, T = A ++ 32 :: B) : (∃ k, noL k = false ∧ A = itN k) ∧ W.length < 4096 := by
  obtain ⟨V', e1, e2, e3⟩ := rd_prefix W V T hW h.2.1 h.1 (by rw [← h.2.2.2]; exact hS)
  cases V' with
  | nil => exact absurd rfl e2
  | cons v V1 =>
    have hvn := h.2.1 v (by rw [e1]; simp)
    have hv := (it_all hvn).1
    refine ⟨⟨v, hvn, ?_⟩, ?_⟩
    · by_cases e : V1 = []
      · subst e
        rw [jnN_one] at e3
        rcases hT with rfl | ⟨B, rfl⟩
        · exact e3
        · exfalso
          exact hv 32 (by rw [← e3]; simp) rfl
      · rw [jnN_cons _ _ e] at e3
        rcases hT with rfl | ⟨B, rfl⟩
        · exfalso
          exact hA 32 (by rw [e3]; simp) rfl
        · exact (split32 hA hv e3).1
    · have := h.2.2.1
      rw [e1] at this
      simp at this
      omega
end Go.Proofs.YthldipnfaiobaabGreatDoor
