/-
  What wire.Number answers: the form of a number, as a list of bytes.
-/
import Derived.Test.YtanbnefdodkniaaRev
import Derived.Lib.EndianBits
namespace Go.Proofs.Ytanbnefdodkniaa
open Go.RowKit Go.Lib Go.Sort

theorem Try.info5 : (Try.prog.info? 5).map (fun i => (i.zero, i.size, i.bytes)) = some (some (.int .u8 0), 1, 1) := by kernel_rfl

/-- The digits above the lowest one, lowest first, each marked; fuel ahead. -/
def hiF : Nat → Nat → List Int
  | 0, _ => []
  | f + 1, n => if n = 0 then [] else ((n % 128 + 128 : Nat) : Int) :: hiF f (n / 128)
def hiL (n : Nat) : List Int := hiF 10 n
def numF (n : Nat) : List Int := (((n % 128 : Nat) : Int) :: hiL (n / 128)).reverse

theorem hiF_more : ∀ (f n : Nat), n < 128 ^ f → hiF (f + 1) n = hiF f n
  | 0, n, h => by simp at h; subst h; rfl
  | f + 1, n, h => by
    have e1 : hiF (f + 1 + 1) n = if n = 0 then [] else ((n % 128 + 128 : Nat) : Int) :: hiF (f + 1) (n / 128) := rfl
    have e2 : hiF (f + 1) n = if n = 0 then [] else ((n % 128 + 128 : Nat) : Int) :: hiF f (n / 128) := rfl
    rw [e1, e2, hiF_more f (n / 128) (by rw [Nat.pow_succ] at h; omega)]
theorem hiL_step (n : Nat) (h0 : 0 < n) (h : n < 18446744073709551616) : hiL n = ((n % 128 + 128 : Nat) : Int) :: hiL (n / 128) := by
  have e1 : hiL n = if n = 0 then [] else ((n % 128 + 128 : Nat) : Int) :: hiF 9 (n / 128) := rfl
  rw [e1, if_neg (by omega), ← hiF_more 9 (n / 128) (by omega)]
  rfl
theorem hiL_zero : hiL 0 = [] := rfl
theorem hiF_len : ∀ (f n : Nat), (hiF f n).length ≤ f
  | 0, _ => by simp [hiF]
  | f + 1, n => by
    have e2 : hiF (f + 1) n = if n = 0 then [] else ((n % 128 + 128 : Nat) : Int) :: hiF f (n / 128) := rfl
    rw [e2]; split
    · simp
    · have := hiF_len f (n / 128); simp; omega
theorem numF_len (n : Nat) : 0 < (numF n).length ∧ (numF n).length ≤ 11 := by
  have := hiF_len 10 (n / 128)
  simp [numF, hiL]; omega

theorem and127 (x : Int) (h₀ : 0 ≤ x) (h₁ : x < 18446744073709551616) : bits .and .u64 x 127 = x % 128 :=
  bits_mask .u64 64 (by decide) wraps_u64 7 (by decide) x h₀ (by simpa using h₁)
theorem or128 (x : Int) (h₀ : 0 ≤ x) (h₁ : x < 128) : bits .or .u8 x 128 = x + 128 :=
  bits_join_low .u8 8 (by decide) wraps_u8 7 x 128 h₀ (by simpa using h₁) (by omega) (by decide) (by decide) (by decide)

/-- The round's step on what is owned and what lies below. -/
theorem below_own {B : Nat} {w wr w1 : World} {o : Obj} {v v' : Value} {n m : Nat} {xs ys : List Value} (hb : Below B w wr) (hB : B ≤ wr.heap.size) (hown : wr.ownsRow B 5 1 v n xs) (_ : w1.ownsRow B 5 1 v' m ys) (hg : (wr.alloc o).grownBy w1 v.ownBlock) : Below B w w1 :=
  (hb.alloc hB o).grown hg (by simp; omega) (fun k hk => (hown.lt k hk).1)

set_option maxHeartbeats 1600000 in
set_option maxRecDepth 1000000 in
theorem number_any (n : Nat) (hn : n < 18446744073709551616) (w : World) :
    Calls Try.prog 10 #[.int .u64 n] w fun e w' => ∃ v, e = .returned v ∧ v ≠ .slice none 0 0 ∧ w'.ownsRow w.heap.size 5 1 v (numF n).length ((numF n).map encB) ∧ Below w.heap.size w w' := by
  obtain ⟨i0, hi, hz0, hz1, hz2⟩ := info_parts Try.info5
  have hm := and127 n (by omega) (by omega)
  go_enter Try.func10, Try.ntmps10
  go_wp2
  clear hm
  go_loopw [0, 3] (fun x v wr => ∃ (m : Nat) (ds : List Int), m < 18446744073709551616 ∧ x = .int .u64 m ∧ v ≠ .slice none 0 0 ∧ ds ++ hiL m = ((n % 128 : Nat) : Int) :: hiL (n / 128) ∧
      wr.ownsRow w.heap.size 5 1 v ds.length (ds.map encB) ∧ Below w.heap.size w wr)
    (fun x _ _ => (RowKit.intOf x).toNat)
  case atStart =>
    refine ⟨n / 128, [((n % 128 : Nat) : Int)], by omega, by go_num, by simp, rfl, ?_, (Below.refl _ w).alloc (Nat.le_refl _) _⟩
    refine ⟨by simp, .inr ⟨w.heap.size, 1, _, rfl, Nat.le_refl _, heap_alloc_new w _, by simp, by decide, by simp, ?_⟩⟩
    simp
  case round =>
    obtain ⟨m, ds, hm, rfl, hv, heq, hown, hnx⟩ := hrel
    have hlen : ds.length ≤ 11 := by
      have h1 := congrArg List.length heq
      have h2 := hiF_len 10 (n / 128)
      simp [hiL] at h1 h2; omega
    have hB := hnx.size
    have HEQ : Hid (ds ++ hiL m = ((n % 128 : Nat) : Int) :: hiL (n / 128)) := heq
    have HV : Hid (u3 ≠ .slice none 0 0) := hv
    clear heq hv
    by_cases h0 : 0 < m
    · have hm1 := and127 m (by omega) (by omega)
      have hm2 := or128 ((m : Int) % 128) (by omega) (by omega)
      have hm3 : (m : Int) % 128 % 256 = (m : Int) % 128 := by omega
      go_wp2_with (first
        | (at_builtin; refine wpList_append_own _ rfl _ _ 33 rfl w.heap.size 5 i0 (.int .u8 0) 1 1 Try.underlying33 hi hz0 hz1 hz2 rfl (by decide) _ _ _ rfl (hown.alloc _) ⟨wr.heap.size, 0, none⟩ 1 1 [.int .u8 ((m : Int) % 128 + 128)] rfl rfl ?c1 ?c2 ?c3 ?c4 ?c5 ?_)
        | go_in)
      case c1 =>
        intro j u hj
        match j, hj with
        | 0, hj => simp at hj; subst hj; simp [Addr.add]
      case c2 => intro u hu; simp at hu; subst hu; rfl
      case c3 => unfold maxLen; omega
      case c4 => omega
      case c5 => simp; omega
      · intro v' w1 hown' hgrow hnil
        have R := below_own hnx hB hown hown' hgrow
        have hv' : Hid (v' ≠ .slice none 0 0) := hnil
        clear hgrow hown hnil
        go_wp2
        go_roundw
        case rel =>
          refine ⟨m / 128, ds ++ [((m % 128 + 128 : Nat) : Int)], by omega, by go_num, hv'.out, ?_, ?_, R⟩
          · rw [← HEQ.out, hiL_step m h0 hm]; simp
          · simpa using hown'
        case measure => simp [RowKit.intOf]; omega
    · have hm0 : m = 0 := by omega
      subst hm0
      go_wp2_with (go_at_call 54; refine (reverse_own w.heap.size u3 ds wr hown HV.out).mono ?_; rintro e w1 ⟨rfl, hown1, hgrow1⟩)
      go_ret
      refine ⟨u3, rfl, HV.out, ?_, hnx.grown hgrow1 hB (fun k hk => (hown.lt k hk).1)⟩
      have : ds = ((n % 128 : Nat) : Int) :: hiL (n / 128) := by rw [← HEQ.out]; simp [hiL_zero]
      have h2 : numF n = ds.reverse := by rw [this]; rfl
      rw [h2]; simpa using hown1
end Go.Proofs.Ytanbnefdodkniaa
