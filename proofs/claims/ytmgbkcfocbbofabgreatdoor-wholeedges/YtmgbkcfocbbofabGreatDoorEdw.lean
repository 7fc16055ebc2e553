/-
  What the program answers at the bounds that the law WholeEdges asks for.
-/
import Derived.Test.YtmgbkcfocbbofabGreatDoorEdg
import Derived.Test.YtmgbkcfocbbofabGreatDoorPwb
import Derived.Test.YtmgbkcfocbbofabGreatDoorBunOps
namespace Go.Proofs.YtmgbkcfocbbofabGreatDoor
open Go.RowKit Go.Lib Go.Sort

/-- A byte c, n times. -/
def Rep (n c : Nat) (m : ByteArray) : Prop := bN m = List.replicate n c
abbrev one1 : ByteArray := ⟨#[1]⟩
theorem one_may : may false one1 = true ∧ may true one1 = true := by decide
theorem one_num : num false one1 = 1 ∧ num true one1 = -1 := by decide
theorem isz_zero {n : Bool} {s : ByteArray} (h : IsZ 0 n s) : whole n s = whole false eS := h.one (show IsZ 0 false eS from ⟨rfl, by rw [show (0 : Int).natAbs = 0 from rfl, magN_zero]; rfl⟩)
theorem many_rep (c : Nat) (hc : c < 256) (s : ByteArray) (hs : s.size = 1) (h0 : s[0].toNat = c) (n : Int) (N : Nat) (hN : (N : Int) = n) (hn : N ≤ 100000) (w : World) :
    Calls Tryz.prog 23 #[.string s, .int .i64 n] w fun e w' => ∃ m, e = .returned (.string m) ∧ Rep N c m ∧ w.grownBy w' none := by
  rw [← hN]
  exact many_any c hc s hs h0 N hn w
theorem Rep.top {N : Nat} {m : ByteArray} (hN : N = 16384) (h : Rep N 255 m) : may false m = true ∧ may true m = true ∧ 0 ≤ num false m ∧ bl (num false m).natAbs = 131072 ∧ bl (num false m + 1).natAbs = 131073 ∧ bl (-num false m - 1).natAbs = 131073 ∧ num true m = -num false m := by
  have hm := rep_may h (by omega) (by omega) (by decide)
  obtain ⟨a, b, c, d⟩ := top_lt (8 * N) (by omega) (rep_num h)
  have hs := rep_size h
  refine ⟨hm, ?_, a, b, c, d, by rw [num_t, num_f]⟩
  unfold may at hm ⊢
  rw [if_neg (by omega)] at hm ⊢
  exact hm
theorem edge_add {N : Nat} {m : ByteArray} (hN : N = 16384) (h : Rep N 255 m) (w : World) :
    Calls Tryz.prog 16 #[whole false m, whole false one1] w fun e w' => e = .returned (.tuple #[whole false eS, .int .i64 4]) ∧ w.grownBy w' none := by
  obtain ⟨h1, _, _, _, h5, _⟩ := h.top hN
  refine (add_yes false false m one1 h1 one_may.1 w).mono ?_
  rw [one_num.1]
  rintro e w' ⟨hz, hg⟩
  exact ⟨hz.big (by omega), hg⟩
theorem edge_sub {N : Nat} {m : ByteArray} (hN : N = 16384) (h : Rep N 255 m) (w : World) :
    Calls Tryz.prog 24 #[whole true m, whole false one1] w fun e w' => e = .returned (.tuple #[whole false eS, .int .i64 4]) ∧ w.grownBy w' none := by
  obtain ⟨_, h2, _, _, _, h6, h7⟩ := h.top hN
  refine (sub_yes true false m one1 h2 one_may.1 w).mono ?_
  rw [one_num.1, h7]
  rintro e w' ⟨hz, hg⟩
  exact ⟨hz.big (by omega), hg⟩
theorem edge_self {N : Nat} {m : ByteArray} (hN : N = 16384) (h : Rep N 255 m) (w : World) :
    Calls Tryz.prog 24 #[whole false m, whole false m] w fun e w' => e = .returned (.tuple #[whole false eS, .int .i64 0]) ∧ w.grownBy w' none := by
  obtain ⟨h1, _⟩ := h.top hN
  refine (sub_yes false false m m h1 h1 w).mono ?_
  rw [Int.sub_self]
  rintro e w' ⟨hz, hg⟩
  obtain ⟨n, s, rfl, hs⟩ := hz.fits (by simp [bl_zero])
  exact ⟨by rw [isz_zero hs], hg⟩
theorem shz_abs (x : Int) (K : Nat) : (shz x (K : Int)).natAbs = x.natAbs * 2 ^ K := by rw [shz_up, Int.natAbs_mul, ← pow_cast, Int.natAbs_natCast]
theorem bl_shz (x : Int) (K : Nat) (hx : 0 < x.natAbs) : bl (shz x (K : Int)).natAbs = K + bl x.natAbs := by
  rw [shz_abs]
  have := bl_up x.natAbs K 0 hx (Nat.pow_pos (by decide))
  simpa using this
theorem edge_high (w : World) :
    Calls Tryz.prog 13 #[whole false one1, .int .i64 131071] w fun e w' => ∃ n s, e = .returned (.tuple #[whole n s, .int .i64 0]) ∧ s.size = 16384 ∧ w.grownBy w' none := by
  obtain ⟨K, hK⟩ : ∃ K : Nat, (131071 : Int) = (K : Int) := ⟨131071, rfl⟩
  rw [hK]
  refine (shift_yes false one1 one_may.1 (K : Int) (by omega) w).mono ?_
  rw [one_num.1]
  rintro e w' ⟨hz, hg⟩
  have hb := bl_shz 1 K (by decide)
  have h1 : bl (1 : Int).natAbs = 1 := by decide
  rw [h1] at hb
  obtain ⟨n, s, rfl, hs⟩ := hz.fits (by omega)
  refine ⟨n, s, rfl, ?_, hg⟩
  rw [isZ_size hs, hb]
  omega
theorem edge_none (w : World) :
    Calls Tryz.prog 13 #[whole false one1, .int .i64 131072] w fun e w' => e = .returned (.tuple #[whole false eS, .int .i64 4]) ∧ w.grownBy w' none := by
  obtain ⟨K, hK⟩ : ∃ K : Nat, (131072 : Int) = (K : Int) := ⟨131072, rfl⟩
  rw [hK]
  refine (shift_yes false one1 one_may.1 (K : Int) (by omega) w).mono ?_
  rw [one_num.1]
  rintro e w' ⟨hz, hg⟩
  have hb := bl_shz 1 K (by decide)
  have h1 : bl (1 : Int).natAbs = 1 := by decide
  rw [h1] at hb
  exact ⟨hz.big (by omega), hg⟩
theorem edge_two (w : World) :
    Calls Tryz.prog 13 #[whole false ⟨#[3]⟩, .int .i64 131071] w fun e w' => e = .returned (.tuple #[whole false eS, .int .i64 4]) ∧ w.grownBy w' none := by
  obtain ⟨K, hK⟩ : ∃ K : Nat, (131071 : Int) = (K : Int) := ⟨131071, rfl⟩
  rw [hK]
  refine (shift_yes false ⟨#[3]⟩ (by decide) (K : Int) (by omega) w).mono ?_
  rw [show num false ⟨#[3]⟩ = 3 by decide]
  rintro e w' ⟨hz, hg⟩
  have hb := bl_shz 3 K (by decide)
  have h1 : bl (3 : Int).natAbs = 2 := by decide
  rw [h1] at hb
  exact ⟨hz.big (by omega), hg⟩
theorem long_not {m : ByteArray} (h : m.size = 16385) : may false m = false := by
  unfold may
  rw [if_neg (by omega)]
  have : ¬ m.size ≤ 16384 := by omega
  simp [this]
theorem edge_addx {m : ByteArray} (h : m.size = 16385) (w : World) :
    Calls Tryz.prog 16 #[whole false m, whole false one1] w fun e w' => e = .returned (.tuple #[whole false eS, .int .i64 2]) ∧ w.grownBy w' none :=
  add_no false false m one1 (by unfold maxLen; omega) (by decide) (by rw [long_not h]; simp) w
theorem edge_pow (w : World) :
    Calls Tryz.prog 25 #[whole false ⟨#[2]⟩, .int .i64 131072] w fun e w' => e = .returned (.tuple #[whole false eS, .int .i64 4]) ∧ w.grownBy w' none :=
  pow_big false ⟨#[2]⟩ (by decide) 2 (by decide) (by decide) 131072 (by decide) (by decide) (by decide) w
theorem dw_3 (w : World) (na nb nc : Bool) (sa sb sc : ByteArray) : DW (w.alloc (.cells #[.bool na, .string sa, .bool nb, .string sb, .bool nc, .string sc] 23)) (.slice (some ⟨w.heap.size, 0, none⟩) 3 3) [(na, sa), (nb, sb), (nc, sc)] := by
  have h := heap_alloc_new w (.cells #[.bool na, .string sa, .bool nb, .string sb, .bool nc, .string sc] 23)
  refine ⟨w.heap.size, 0, 3, rfl, by simp, fun j p hp => ?_⟩
  simp only [World.cell?, h]
  match j, hp with
  | 0, hp => cases hp; exact ⟨rfl, rfl⟩
  | 1, hp => cases hp; exact ⟨rfl, rfl⟩
  | 2, hp => cases hp; exact ⟨rfl, rfl⟩
theorem edge_sum {N : Nat} {m : ByteArray} (hN : N = 16384) (h : Rep N 255 m) (w : World) (o : Obj) :
    Calls Tryz.prog 26 #[.slice (some ⟨w.heap.size + 1, 0, none⟩) 3 3] ((w.alloc o).alloc (.cells #[.bool false, .string m, .bool false, .string one1, .bool true, .string one1] 23)) fun e w' => e = .returned (.tuple #[whole false m, .int .i64 0]) ∧ ((w.alloc o).alloc (.cells #[.bool false, .string m, .bool false, .string one1, .bool true, .string one1] 23)).grownBy w' none := by
  obtain ⟨h1, _, _, h4, _⟩ := h.top hN
  have hd := dw_3 (w.alloc o) false false true m one1 one1
  rw [show (w.alloc o).heap.size = w.heap.size + 1 by simp] at hd
  refine (sum_any _ _ _ hd (by simp) (by simp [mayAll, h1, one_may.1, one_may.2])).mono ?_
  have e : sumZ [(false, m), (false, one1), (true, one1)] = num false m := by
    simp [sumZ, one_num.1, one_num.2]
  rw [e]
  rintro e w' ⟨hz, hg⟩
  obtain ⟨n, s, rfl, hs⟩ := hz.fits (by omega)
  exact ⟨by rw [hs.one (may_isz h1)], hg⟩
theorem edge_bits {N : Nat} {m : ByteArray} (hN : N = 16384) (h : Rep N 255 m) (w : World) :
    Calls Tryz.prog 27 #[whole false m] w fun e w' => e = .returned (.int .i64 131072) ∧ w.grownBy w' none := by
  obtain ⟨h1, _, _, h4, _⟩ := h.top hN
  have := bits_yes false m h1 w
  rw [num_f, Int.natAbs_natCast] at h4
  rw [h4] at this
  exact this
theorem edge_top {N : Nat} {m : ByteArray} (hN : N = 16384) (h : Rep N 255 m) (w : World) :
    Calls Tryz.prog 7 #[whole false m] w fun e w' => e = .returned (.int .i64 0) ∧ w' = w.alloc (wObj false m) := by
  obtain ⟨h1, _⟩ := h.top hN
  have := check_any false m (by have := rep_size h; unfold maxLen; omega) w
  rw [chk_yes h1] at this
  exact this
theorem edge_long {m : ByteArray} (h : m.size = 16385) (w : World) :
    Calls Tryz.prog 7 #[whole false m] w fun e w' => e = .returned (.int .i64 2) ∧ w' = w.alloc (wObj false m) := by
  have := check_any false m (by unfold maxLen; omega) w
  rw [chk_no (long_not h)] at this
  exact this
theorem edge_nines {N : Nat} {m : ByteArray} (hN : N = 40000) (h : Rep N 57 m) (w : World) :
    Calls Tryz.prog 10 #[.string m] w fun e w' => e = .returned (.tuple #[whole false eS, .int .i64 4]) ∧ w.grownBy w' none := by
  obtain ⟨h1, h2⟩ := nine_text h (by omega)
  refine (read_any m (by have := rep_size h; omega) h1 w).mono ?_
  rintro e w' ⟨hz, hg⟩
  refine ⟨hz.big (nine_bl (n := N) (by omega) ?_), hg⟩
  have := Nat.pow_pos (n := N) (show 0 < 10 by decide)
  omega
theorem edge_past {N : Nat} {m : ByteArray} (hN : N = 40001) (h : Rep N 57 m) (w : World) :
    Calls Tryz.prog 10 #[.string m] w fun e w' => e = .returned (.tuple #[whole false eS, .int .i64 3]) ∧ w.grownBy w' none := by
  have hs := rep_size h
  exact read_long m (by unfold maxLen; omega) (by omega) w
theorem edge_ten {N : Nat} {m : ByteArray} (hN : N = 39456) (h : bN m = 49 :: List.replicate N 48) (w : World) :
    Calls Tryz.prog 10 #[.string m] w fun e w' => ∃ n s, e = .returned (.tuple #[whole n s, .int .i64 0]) ∧ s.size = 16384 ∧ w.grownBy w' none := by
  obtain ⟨h1, h2⟩ := one_text h
  have hs : m.size = N + 1 := by rw [← bN_length, h]; simp
  obtain ⟨b1, b2⟩ := one_bl hN
  refine (read_any m (by omega) h1 w).mono ?_
  rintro e w' ⟨hz, hg⟩
  have ha : (textZ m).natAbs = 10 ^ N := by rw [h2, Int.natAbs_natCast]
  obtain ⟨n, s, rfl, hs⟩ := hz.fits (by rw [ha]; exact b1)
  refine ⟨n, s, rfl, ?_, hg⟩
  rw [isZ_size hs, ha]
  omega
end Go.Proofs.YtmgbkcfocbbofabGreatDoor
