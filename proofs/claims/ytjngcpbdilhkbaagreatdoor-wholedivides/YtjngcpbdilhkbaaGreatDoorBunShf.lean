/-
  The program's Shift of a number that may be, and of another.
  The program's Shift by a number below 0; and Shift of any number by any.
-/
import Derived.Test.YtjngcpbdilhkbaaGreatDoorBunAll
import Derived.Test.YtjngcpbdilhkbaaGreatDoorBunChk
import Derived.Test.YtjngcpbdilhkbaaGreatDoorBunTtm
import Derived.Test.YtjngcpbdilhkbaaGreatDoorBunShd
import Derived.Test.YtjngcpbdilhkbaaGreatDoorBunPrg
import Derived.Test.YtjngcpbdilhkbaaGreatDoorBunRed
namespace Go.Proofs.YtjngcpbdilhkbaaGreatDoor
open Go.RowKit Go.Lib Go.Sort

/-- A number times 2 to a power that may be below 0, rounded down. -/
def shz (x n : Int) : Int := if 0 ≤ n then x * 2 ^ n.toNat else x / 2 ^ (-n).toNat
theorem shz_zero (n : Int) : shz 0 n = 0 := by unfold shz; split <;> simp
theorem shz_up (x : Int) (n : Nat) : shz x (n : Int) = x * 2 ^ n := by unfold shz; rw [if_pos (by omega), Int.toNat_natCast]
theorem shz_down (x n : Int) (k : Nat) (hn : n < 0) (hk : k = (-n).toNat) : shz x n = x / 2 ^ k := by unfold shz; rw [if_neg (by omega), hk]
theorem pow_cast (k : Nat) : ((2 ^ k : Nat) : Int) = 2 ^ k := by simp
theorem neg_floor (v k : Nat) (hv : 0 < v) : -(v : Int) / 2 ^ k = -(((v - 1) / 2 ^ k + 1 : Nat) : Int) := by
  rw [← pow_cast]
  have hp : 0 < 2 ^ k := Nat.pow_pos (by decide)
  generalize 2 ^ k = P at *
  have h1 := Nat.div_add_mod (v - 1) P
  have h2 := Nat.mod_lt (v - 1) hp
  generalize (v - 1) / P = q at *
  generalize (v - 1) % P = r at *
  have e : -(v : Int) = (P : Int) * -((q + 1 : Nat) : Int) + ((P - 1 - r : Nat) : Int) := by
    have h3 : ((P * q : Nat) : Int) = (P : Int) * (q : Int) := by simp
    have h4 : (P : Int) * -((q + 1 : Nat) : Int) = -((P : Int) * (q : Int)) - P := by
      rw [Int.mul_neg, Int.natCast_add, Int.mul_add]; simp; omega
    rw [h4, ← h3]
    omega
  rw [e, Int.add_comm, Int.add_mul_ediv_left _ _ (by omega), Int.ediv_eq_zero_of_lt (by omega) (by omega), Int.zero_add]
theorem pos_floor (v k : Nat) : (v : Int) / 2 ^ k = ((v / 2 ^ k : Nat) : Int) := by
  rw [← pow_cast]; exact (Int.natCast_ediv v (2 ^ k)).symm ▸ rfl
/-- Past all bits nothing more is lost. -/
theorem floor_far (v a b : Nat) (ha : v < 2 ^ a) (hab : a ≤ b) : v / 2 ^ b = v / 2 ^ a := by
  rw [Nat.div_eq_of_lt ha, Nat.div_eq_of_lt (Nat.lt_of_lt_of_le ha (Nat.pow_le_pow_right (by decide) hab))]

/-- What a number that is not 0 brings along. -/
theorem bl_max {neg : Bool} {mag : ByteArray} (h : may neg mag = true) (K : Nat) (hK : K = 8 * 16384) : val (bN mag) < 2 ^ K ∧ bl (val (bN mag)) ≤ K := by
  have hm1 := may_size h
  have := val_lt (bN mag) (bN_rng mag)
  rw [bN_length, show (256 : Nat) = 2 ^ 8 from rfl, ← Nat.pow_mul] at this
  have h2 : val (bN mag) < 2 ^ K := Nat.lt_of_lt_of_le this (Nat.pow_le_pow_right (by decide) (by omega))
  exact ⟨h2, bl_le h2⟩
/-- The two blocks that a call of one number lays: its argument, its result. -/
theorem blks2 {n1 : Bool} {m1 : ByteArray} {w w1 : World} (g : ((w.alloc (wObj n1 m1)).alloc (wObj false eS)).grownBy w1 none) :
    WBlk w1 w.heap.size (.bool n1) (.string m1) ∧ WBlk w1 (w.heap.size + 1) (.bool false) (.string eS) :=
  ⟨WBlk.kept (at_alloc1 _ _ _) g (by simp), WBlk.kept (heap_alloc2_new _ _ _) g (by simp)⟩
theorem keep1 (w : World) (n1 : Bool) (m1 : ByteArray) : ∀ w', (w.alloc (wObj n1 m1)).grownBy w' none → w'.cell? ⟨w.heap.size, 0, none⟩ = some (Value.bool n1) ∧ w'.cell? ⟨w.heap.size, 1, none⟩ = some (Value.string m1) :=
  fun w' hg => ⟨grownBy_cell hg (WBlk.c0 (b := .string m1) (heap_alloc_new _ _)) (by simp), grownBy_cell hg (WBlk.c1 (a := .bool n1) (heap_alloc_new _ _)) (by simp)⟩
theorem Made.ans {neg : Bool} {n : Nat} {e : Ending} (h : Made neg n e) : ∃ n s er, e = .returned (.tuple #[whole n s, .int .i64 er]) := by
  rcases h with ⟨_, s, rfl, _⟩ | ⟨_, rfl⟩ <;> exact ⟨_, _, _, rfl⟩
theorem shiftUp_wds {w0 w1 : World} {va : Value} {m1 : ByteArray} (h1 : Wds w0 w1 va m1) (n : Nat) (hn : n ≤ 131072) :
    Calls Tryz.prog 77 #[va, .int .i64 (n : Int)] w1 fun e w' => ∃ v, e = .returned v ∧ ∃ K, D4 w' v K ∧ (∀ x ∈ K, x < B32) ∧ K.length ≤ 100000 ∧ nv B32 K = val (bN m1) * 2 ^ n ∧ w1.grownBy w' none := by
  obtain ⟨A, dA, rA, lA, vA, gA⟩ := h1
  refine (shiftUp_any w1 va A n dA rA (by omega) (by omega)).mono ?_
  rintro e w' ⟨B, K, rfl, _, hb, lK, rK, vK, gK⟩
  exact ⟨_, rfl, K, hb.d4, rK, by omega, by rw [vK, vA], gK⟩
theorem pre_grown (w : World) (a b c d : Obj) : ((w.alloc a).alloc b).grownBy ((((w.alloc a).alloc b).alloc c).alloc d).drew none := grow_drew (grow2 _ _ _)

end Go.Proofs.YtjngcpbdilhkbaaGreatDoor

namespace Go.Proofs.YtjngcpbdilhkbaaGreatDoor
open Go.RowKit Go.Lib Go.Sort

theorem shiftDown_wds {w0 w1 : World} {va : Value} {m1 : ByteArray} (h1 : Wds w0 w1 va m1) (n : Nat) (hn : n ≤ 131072) :
    Calls Tryz.prog 79 #[va, .int .i64 (n : Int)] w1 fun e w' => ∃ v, e = .returned v ∧ ∃ K, D4 w' v K ∧ (∀ x ∈ K, x < B32) ∧ K.length ≤ 100000 ∧ nv B32 K = val (bN m1) / 2 ^ n ∧ w1.grownBy w' none := by
  obtain ⟨A, dA, rA, lA, vA, gA⟩ := h1
  refine (shiftDown_any w1 va A n dA rA (by omega) (by omega)).mono ?_
  rintro e w' ⟨v, K, rfl, hR, rK, vK, _, lK, gK⟩
  exact ⟨_, rfl, K, hR.d4, rK, by omega, by rw [vK, vA], gK⟩
/-- Digits that a call takes 1 from: new ones. -/
theorem takeOne (m : ByteArray) (hm : m.size ≤ 16384) (h0 : m.size ≠ 0) (hv : 0 < val (bN m)) (w W : World) (b1 : Nat) (h1 : D4 w (.slice (some ⟨b1, 0, none⟩) 1 1) [1]) (hb1 : b1 < w.heap.size) (B : Nat) (L : List Nat) (hB : w.heap.size ≤ B) (hBk : BlkL W B 64 enc4 (ints L)) (hg : w.grownBy W none) (hl : L.length = (m.size + 3) / 4) (hr : ∀ x ∈ L, x < B32) (hL : nv B32 L = val (bN m)) :
    Calls Tryz.prog 34 #[.slice (some ⟨B, 0, none⟩) L.length L.length, .slice (some ⟨b1, 0, none⟩) 1 1] W fun e w' => ∃ v K, e = .returned v ∧ D4 w' v K ∧ (∀ x ∈ K, x < B32) ∧ K.length ≤ 100000 ∧ nv B32 K = val (bN m) - 1 ∧ w.grownBy w' none := by
  refine (takeFrom_row W w.heap.size _ _ L [1] (hBk.row hB (by unfold maxLen; omega)) (h1.kept hg) ?_ hr (by intro x hx; simp at hx; subst hx; decide) (by simp; omega) (by simp [nv]; omega) (by omega)).mono ?_
  · intro b n c e
    cases e
    simp [Value.ownBlock]
    omega
  · rintro e w' ⟨v, K, rfl, dK, rK, _, lK, vK, gK⟩
    exact ⟨v, K, rfl, dK, rK, by omega, by rw [vK, hL]; simp [nv], grownBy_new hg hB gK⟩
/-- Digits that a call adds 1 to. -/
theorem addOne (w W : World) (b1 : Nat) (h1 : D4 w (.slice (some ⟨b1, 0, none⟩) 1 1) [1]) (hb1 : b1 < w.heap.size) (v : Value) (K : List Nat) (hg : w.grownBy W none) (hK : Row W w.heap.size v K) (hr : ∀ x ∈ K, x < B32) (hl : K.length ≤ 100000) :
    Calls Tryz.prog 30 #[v, .slice (some ⟨b1, 0, none⟩) 1 1] W fun e w' => ∃ v K', e = .returned v ∧ D4 w' v K' ∧ (∀ x ∈ K', x < B32) ∧ K'.length ≤ 1000000 ∧ nv B32 K' = nv B32 K + 1 ∧ w.grownBy w' none := by
  refine (addTo_row W w.heap.size v _ K [1] hK (h1.kept hg) ?_ hr (by intro x hx; simp at hx; subst hx; decide) (by omega) (by simp) hg.size).mono ?_
  · intro b n c e
    cases e
    intro e
    have := (hK.lt e.symm).1
    simp at this
    omega
  · rintro e w' ⟨v', K', rfl, hR, rK, vK, _, lK, _, _, gK⟩
    refine ⟨v', K', rfl, hR.d4, rK, by simp at lK; omega, by rw [vK]; simp [nv], grown_row hg hK gK⟩

theorem one_new (w : World) : D4 (w.alloc (.cells #[.int .u32 1] 64)) (.slice (some ⟨w.heap.size, 0, none⟩) 1 1) [1] := by
  refine .inr ⟨w.heap.size, 0, 1, rfl, Nat.le_refl _, fun j hj => ?_⟩
  obtain rfl : j = 0 := by simpa using hj
  have h := heap_alloc_new w (.cells #[.int .u32 1] 64)
  simp only [World.cell?, Nat.add_zero, h]
  rfl

theorem val_pos {neg : Bool} {mag : ByteArray} (h : may neg mag = true) (h0 : mag.size ≠ 0) : 0 < val (bN mag) := by
  have hp : 0 < mag.size := by omega
  have hne : mag[0].toNat ≠ 0 := by
    unfold may at h
    rw [if_neg h0, bN_head mag hp] at h
    simp at h
    exact h.2
  have h1 := bl_val mag hp hne
  obtain ⟨k, hk⟩ := bl_pos (Nat.pos_of_ne_zero hne)
  refine Nat.pos_of_ne_zero fun e => ?_
  rw [e, bl_zero] at h1
  omega
end Go.Proofs.YtjngcpbdilhkbaaGreatDoor
