/-
  A part told.
-/
import Derived.Test.YtfnminljpifloabCpr
import Derived.Test.YtfnminljpifloabCpw
namespace Go.Proofs.Ytfnminljpifloab
open Go.RowKit Go.Lib Go.Sort Ieee
attribute [local go_sem] extBits extFrom

/-- The byte of a digit. -/
def hexC (d : Nat) : Nat := if d < 10 then d + 48 else d + 87
/-- The last k digits' bytes. -/
def hexL (x : Nat) : Nat → List Nat
  | 0 => []
  | k + 1 => hexC (x / 16 ^ k % 16) :: hexL x k
theorem hexL_len (x : Nat) : ∀ k, (hexL x k).length = k
  | 0 => rfl
  | k + 1 => by rw [hexL, List.length_cons, hexL_len x k]

theorem hexC_at (d : Nat) (hd : d < 16) (h : d < (⟨#[48, 49, 50, 51, 52, 53, 54, 55, 56, 57, 97, 98, 99, 100, 101, 102]⟩ : ByteArray).size) : ((⟨#[48, 49, 50, 51, 52, 53, 54, 55, 56, 57, 97, 98, 99, 100, 101, 102]⟩ : ByteArray)[d]'h).toNat = hexC d := by
  have : d = 0 ∨ d = 1 ∨ d = 2 ∨ d = 3 ∨ d = 4 ∨ d = 5 ∨ d = 6 ∨ d = 7 ∨ d = 8 ∨ d = 9 ∨ d = 10 ∨ d = 11 ∨ d = 12 ∨ d = 13 ∨ d = 14 ∨ d = 15 := by omega
  rcases this with rfl | rfl | rfl | rfl | rfl | rfl | rfl | rfl | rfl | rfl | rfl | rfl | rfl | rfl | rfl | rfl <;> rfl
theorem hexL_set (x i : Nat) (h : i < 16) : (ints (List.replicate (16 - i) 0 ++ hexL x i)).set (15 - i) ((hexC (x / 16 ^ i % 16) : Nat) : Int) = ints (List.replicate (16 - (i + 1)) 0 ++ hexL x (i + 1)) := by
  obtain ⟨q, hq⟩ : ∃ q, 16 - i = q + 1 := ⟨15 - i, by omega⟩
  rw [hq, show 15 - i = q by omega, show 16 - (i + 1) = q by omega, hexL]
  have e : ints (List.replicate (q + 1) 0 ++ hexL x i) = List.replicate (q + 1) 0 ++ ints (hexL x i) := by simp [ints]
  rw [e, set_last]
  simp [ints]

set_option maxHeartbeats 1600000 in
set_option maxRecDepth 1000000 in
theorem textP_any (x : Nat) (hx : x < 2 ^ 64) (hn : (double.order x x == some .eq) = true) (w : World) :
    Calls Try.prog 26 #[.float .f64 x] w fun e w' => e = .returned (.string (strOf (ints (hexL x 16)))) ∧ w.grownBy w' none := by
  go_enter Try.func26, Try.ntmps26
  go_wp2_with (go_at_call 19; refine (isNaN_any _ _).mono ?_; rintro e w' ⟨rfl, rfl⟩; rw [bne, hn])
  go_loopw [4, 5] (fun n k wr => ∃ i : Nat, i ≤ 16 ∧ n = .int .u64 ((x / 16 ^ i : Nat) : Int) ∧ k = .int .i64 (15 - (i : Int)) ∧ (∃ t, BlkL wr w'.heap.size t encB (ints (List.replicate (16 - i) 0 ++ hexL x i))) ∧ w'.grownBy wr none) (fun _ k _ => (RowKit.intOf k + 1).toNat)
  case atStart => exact ⟨0, by omega, by rw [Nat.pow_zero, Nat.div_one], rfl, ⟨_, heap_alloc_new _ _⟩, grow1 _ _⟩
  case round =>
    obtain ⟨i, hi, rfl, rfl, ⟨t, hB⟩, hg⟩ := hrel
    have HG : Hid (w'.grownBy wr none) := hg
    have hl : (ints (List.replicate (16 - i) 0 ++ hexL x i)).length = 16 := by rw [ints_length, List.length_append, List.length_replicate, hexL_len]; omega
    by_cases h16 : i = 16
    · subst h16
      have hB' : BlkL wr w'.heap.size t encB (ints (hexL x 16)) := hB
      have hsr := hB'.srcB 16
      rw [ints_length, hexL_len] at hsr
      have hcv := conv_src hsr
      obtain ⟨S, hS⟩ : ∃ S, strOf (ints (hexL x 16)) = S := ⟨_, rfl⟩
      rw [hS] at hcv
      have HS : Hid (strOf (ints (hexL x 16)) = S) := hS
      clear hB hB' hg hl hi hn hx hsr hS
      go_wp2_with fail
      go_ret
      exact ⟨by rw [HS.out]; rfl, HG.out⟩
    · have HN : Hid (BlkL (wr.setCell ⟨w'.heap.size, 15 - i, none⟩ (.int .u8 ((hexC (x / 16 ^ i % 16) : Nat) : Int))) w'.heap.size t encB (ints (List.replicate (16 - (i + 1)) 0 ++ hexL x (i + 1)))) := (by
        have := hB.set (15 - i) ((hexC (x / 16 ^ i % 16) : Nat) : Int)
        rw [hexL_set x i (by omega)] at this
        exact this)
      have hc0 := hB.cell (15 - i) (by omega)
      have hf := hB.frozen (15 - i)
      have HD : Hid (x / 16 ^ (i + 1) = x / 16 ^ i / 16) := (by rw [Nat.pow_succ, Nat.div_div_eq_div_mul] : x / 16 ^ (i + 1) = x / 16 ^ i / 16)
      obtain ⟨j, hj⟩ : ∃ j, 15 - i = j := ⟨_, rfl⟩
      have hjI : 15 - (i : Int) = (j : Int) := by omega
      have hj15 : (j : Int) ≤ 15 := by omega
      rw [hj] at HN hc0 hf
      rw [hjI]
      obtain ⟨N, hN⟩ : ∃ N, x / 16 ^ i = N := ⟨_, rfl⟩
      have hNb : (N : Int) ≤ 18446744073709551615 := by
        have := Nat.div_le_self x (16 ^ i)
        omega
      rw [hN] at HN HD ⊢
      have HI : Hid (i < 16 ∧ 15 - i = j) := ⟨by omega, hj⟩
      clear hB hg hl hjI hj hi h16 hN hn hx
      go_wp2_with fail
      rw [hexC_at _ (Nat.mod_lt _ (by decide))]
      obtain ⟨h1, h2⟩ := HI.out
      refine ⟨⟨i + 1, by omega, by rw [HD.out]; rfl, ?_, ⟨t, HN.out⟩, grown_set HG.out (Nat.le_refl _)⟩, ?_⟩
      · rw [show (j : Int) - 1 = 15 - ((i + 1 : Nat) : Int) by omega]
      · simp [RowKit.intOf]
end Go.Proofs.Ytfnminljpifloab
