/-
  The program's shiftDown, of any digits.
-/
import Derived.Test.YtmgbkcfocbbofabGreatDoorShd
namespace Go.Proofs.YtmgbkcfocbbofabGreatDoor
open Go.RowKit Go.Lib Go.Sort Go.Shelf
attribute [local go_sem] Oper.semAt_some

set_option maxRecDepth 100000 in
set_option maxHeartbeats 4000000 in
theorem shiftDown_none (w : World) (va : Value) (A : List Nat) (n : Nat) (hA : D4 w va A) (ra : ∀ x ∈ A, x < B32) (la : A.length ≤ 1000000) (hn : A.length ≤ n / 32) (hn9 : n ≤ 10000000) :
    Calls Tryz.prog 45 #[va, .int .i64 (n : Int)] w fun e w' => ∃ v' K, e = .returned v' ∧ Row w' w.heap.size v' K ∧ (∀ x ∈ K, x < B32) ∧ nv B32 K = nv B32 A / 2 ^ n ∧ Trim K ∧ K.length ≤ A.length ∧ w.grownBy w' none := by
  have hz : nv B32 A / 2 ^ n = 0 := by
    have h1 := nv_lt B32 A ra
    have h2 : B32 ^ A.length ≤ 2 ^ n := by
      have e : B32 = 2 ^ 32 := by decide
      rw [e, ← Nat.pow_mul]
      exact Nat.pow_le_pow_right (by decide) (by omega)
    exact Nat.div_eq_of_lt (Nat.lt_of_lt_of_le h1 h2)
  obtain ⟨aa, ca, rfl⟩ := hA.slice
  obtain ⟨p, hp⟩ : ∃ p, A.length = p := ⟨_, rfl⟩
  obtain ⟨q, hq⟩ : ∃ q, n / 32 = q := ⟨_, rfl⟩
  obtain ⟨b, hb⟩ : ∃ b, n % 32 = b := ⟨_, rfl⟩
  rw [hp] at hn la ⊢
  have hqI : (n : Int) / 32 = (q : Int) := by omega
  have hbI : (n : Int) % 32 = (b : Int) := by omega
  have hqp : (p : Int) ≤ q := by omega
  have hpI : (p : Int) ≤ 1000000 := by omega
  have hnI : (n : Int) ≤ 10000000 := by omega
  have HZ : Unit → nv B32 A / 2 ^ n = 0 := fun _ => hz
  clear hA ra hz hp hq hb
  refine (callsIn_wide (n := 5)).1 ?_
  refine callsIn_of_wp_marks Tryz.func45 rfl trivial ?_ rfl
  simp only [Tryz.ntmps45, List.size_toArray, List.length_cons, List.length_nil, Nat.reduceAdd, Nat.reduceSub, Array.replicate_succ, Array.replicate_zero, List.push_toArray, List.append_toArray, List.nil_append, List.cons_append]
  gi_wp2
  refine ⟨_, results_tmp rfl _ _ _, .slice none 0 0, [], rfl, Row.nil _ _, by simp, by rw [HZ ()]; rfl, .inl rfl, by simp, grow1 _ _⟩
theorem shiftDown_any (w : World) (va : Value) (A : List Nat) (n : Nat) (hA : D4 w va A) (ra : ∀ x ∈ A, x < B32) (la : A.length ≤ 1000000) (hn9 : n ≤ 10000000) :
    Calls Tryz.prog 45 #[va, .int .i64 (n : Int)] w fun e w' => ∃ v' K, e = .returned v' ∧ Row w' w.heap.size v' K ∧ (∀ x ∈ K, x < B32) ∧ nv B32 K = nv B32 A / 2 ^ n ∧ Trim K ∧ K.length ≤ A.length ∧ w.grownBy w' none := by
  rcases Nat.lt_or_ge (n / 32) A.length with h | h
  · exact shiftDown_some w va A n hA ra la h hn9
  · exact shiftDown_none w va A n hA ra la h hn9
end Go.Proofs.YtmgbkcfocbbofabGreatDoor
