/-
  Towards the program's Text: the groups of nine digits.
-/
import Derived.Test.YtmgbkcfocbbofabGreatDoorRwt
import Derived.Test.YtmgbkcfocbbofabGreatDoorCby
import Derived.Test.YtmgbkcfocbbofabGreatDoorFmu
import Derived.Test.YtmgbkcfocbbofabGreatDoorRpt
import Derived.Test.YtmgbkcfocbbofabGreatDoorRed
namespace Go.Proofs.YtmgbkcfocbbofabGreatDoor
open Go.RowKit Go.Lib Go.Sort

abbrev B9 : Nat := 1000000000
theorem lt_bl (n : Nat) : n < 2 ^ bl n := by
  rcases Nat.eq_zero_or_pos n with rfl | h
  · decide
  · obtain ⟨k, hk⟩ := bl_pos h
    rw [hk]
    exact (bl_iff.1 hk).2
theorem bl_mono {a b : Nat} (h : a ≤ b) : bl a ≤ bl b := bl_le (Nat.lt_of_le_of_lt h (lt_bl b))
theorem bl_group {x : Nat} (h : 0 < x) : bl (x / B9) + 1 ≤ bl x := by
  rw [bl_half h]
  have : x / B9 ≤ x / 2 := Nat.div_le_div_left (by decide) (by decide)
  have := bl_mono this
  omega

/-- What stands behind some rounds of Text's first loop: the groups so far, and what is left. -/
def TgI (w wr : World) (n : Nat) (s d : Value) : Prop :=
  ∃ G L, Row wr w.heap.size s G ∧ Row wr w.heap.size d L ∧ Apt s d ∧ (∀ x ∈ G, x < B9) ∧ (∀ x ∈ L, x < B32) ∧ Trim L ∧ L.length ≤ 4096 ∧ G.length + bl (nv B32 L) ≤ 131072 ∧
    nv B9 G + B9 ^ G.length * nv B32 L = n ∧ (nv B32 L = 0 → ∃ H g, G = H ++ [g] ∧ 0 < g) ∧ w.grownBy wr none

theorem trim_zero {L : List Nat} (h : Trim L) : nv B32 L = 0 ↔ L.length = 0 := by
  constructor
  · intro e
    rcases Nat.eq_zero_or_pos L.length with h0 | h0
    · exact h0
    · have := trim_lo h (L.length - 1) (by omega)
      have hp : 0 < B32 ^ (L.length - 1) := Nat.pow_pos (by decide)
      omega
  · intro e
    rw [List.length_eq_zero_iff.1 e]; rfl
/-- One round: what cutBy leaves, what append lays, what trim hands back. -/
theorem TgI.step {w wr w2 w3 : World} {n : Nat} {s d s' d' : Value} {G L K : List Nat} {k : Nat}
    (hG : Row wr w.heap.size s G) (hL : Row wr w.heap.size d L) (hp : Apt s d) (rG : ∀ x ∈ G, x < B9) (lL : L.length ≤ 4096) (hbl : G.length + bl (nv B32 L) ≤ 131072) (hn : nv B9 G + B9 ^ G.length * nv B32 L = n) (hg : w.grownBy wr none) (h0 : 0 < nv B32 L)
    (rK : ∀ x ∈ K, x < B32) (lK : K.length = L.length) (vK : nv B32 K = nv B32 L / B9) (g2 : wr.grownBy w2 d.ownBlock)
    (hS : Row w3 w.heap.size s' (G ++ [nv B32 L % B9])) (g3 : (w2.alloc (.cells #[.int .u32 ((nv B32 L % B9 : Nat) : Int)] 55)).grownBy w3 s.ownBlock) (ho : s'.ownBlock = s.ownBlock ∨ s'.ownBlock = some (w2.heap.size + 1))
    (hD : Row w3 w.heap.size d' (K.take k)) (vk : nv B32 (K.take k) = nv B32 K) (tk : Trim (K.take k)) (hd' : d'.ownBlock = d.ownBlock) (hKk : k ≤ K.length) : TgI w w3 n s' d' := by
  have hsz := g2.size
  refine ⟨G ++ [nv B32 L % B9], K.take k, hS, hD, ?_, ?_, fun x hx => rK x (List.mem_of_mem_take hx), tk, by rw [List.length_take]; omega, ?_, ?_, ?_, ?_⟩
  · rcases ho with e | e
    · unfold Apt; rw [e, hd']; exact hp
    · right
      rw [e, hd']
      intro e2
      have := (hL.lt e2.symm).2
      omega
  · intro x hx
    rcases List.mem_append.1 hx with h | h
    · exact rG x h
    · simp at h; subst h; exact Nat.mod_lt _ (by decide)
  · rw [vk, vK, List.length_append, List.length_singleton]
    have := bl_group h0
    omega
  · rw [vk, vK, nv_append, List.length_append, List.length_singleton, Nat.pow_succ, ← hn]
    have e := Nat.div_add_mod (nv B32 L) B9
    have : nv B9 [nv B32 L % B9] = nv B32 L % B9 := by simp [nv]
    rw [this, Nat.mul_assoc, Nat.add_assoc, ← Nat.mul_add, Nat.add_comm (nv B32 L % B9), e]
  · intro hz
    rw [vk, vK] at hz
    refine ⟨G, _, rfl, ?_⟩
    have := Nat.div_add_mod (nv B32 L) B9
    rw [hz] at this
    omega
  · have ga : w.grownBy w2 none := grown_row hg hL g2
    have hGk : Row w2 w.heap.size s G := hG.kept g2 (by rcases hp with h | h; exact .inl h; exact .inr h)
    exact grown_row (grownBy_trans ga (grow1 _ _)) (hGk.kept (grow1 _ _) (by cases s.ownBlock <;> simp)) g3
end Go.Proofs.YtmgbkcfocbbofabGreatDoor
