/-
  Numbers only: bytes of digits, magnitudes without noughts ahead, the order of magnitudes as texts.
  Small library functions that the program calls: cmp.Compare, cmp.Or of two, strings.Compare; cmpMags.
-/
import Derived.Test.YtmgbkcfocbbofabGreatDoorBunMor
import Derived.Lib.Bytealg
namespace Go.Proofs.YtmgbkcfocbbofabGreatDoor
open Go.RowKit Go.Lib Go.Sort

/-- A digit's four bytes, the highest first. -/
def be4 (x : Nat) : List Nat := [x / 16777216 % 256, x / 65536 % 256, x / 256 % 256, x % 256]
theorem be4_length (x : Nat) : (be4 x).length = 4 := rfl
theorem be4_rng (x : Nat) : ∀ y ∈ be4 x, y < 256 := by
  intro y hy
  simp only [be4, List.mem_cons, List.not_mem_nil, or_false] at hy
  rcases hy with rfl | rfl | rfl | rfl <;> exact Nat.mod_lt _ (by decide)
theorem val_be4 (l : List Nat) (x : Nat) (hx : x < B32) : val (l ++ be4 x) = val l * B32 + x := by
  have e : l ++ be4 x = (((l ++ [x / 16777216 % 256]) ++ [x / 65536 % 256]) ++ [x / 256 % 256]) ++ [x % 256] := by simp [be4]
  rw [e, val_snoc, val_snoc, val_snoc, val_snoc]
  have hx' : x < 4294967296 := hx
  simp only [B32]
  omega
def bytesOf4 (L : List Nat) : List Nat := L.flatMap be4
theorem bytesOf4_rng (L : List Nat) : ∀ y ∈ bytesOf4 L, y < 256 := by
  intro y hy
  simp only [bytesOf4, List.mem_flatMap] at hy
  obtain ⟨x, _, hx⟩ := hy
  exact be4_rng x y hx
theorem bytesOf4_length (L : List Nat) : (bytesOf4 L).length = 4 * L.length := by
  induction L with
  | nil => rfl
  | cons x L ih => simp only [bytesOf4, List.flatMap_cons, List.length_append, be4_length, List.length_cons] at *; omega
theorem bytesOf4_snoc (L : List Nat) (x : Nat) : bytesOf4 (L ++ [x]) = bytesOf4 L ++ be4 x := by simp [bytesOf4]
theorem val_bytesOf4 : ∀ (L : List Nat), (∀ x ∈ L, x < B32) → val (bytesOf4 L.reverse) = nv B32 L
  | [], _ => rfl
  | x :: L, h => by
    rw [List.reverse_cons, bytesOf4_snoc, val_be4 _ _ (h x (by simp)), val_bytesOf4 L (fun y hy => h y (by simp [hy])), nv, Nat.mul_comm, Nat.add_comm]
theorem val_zero_cons (l : List Nat) : val (0 :: l) = val l := by simp [val]
theorem val_drop0 : ∀ (l : List Nat), val (l.dropWhile (· == 0)) = val l
  | [] => rfl
  | 0 :: l => by rw [List.dropWhile_cons_of_pos (by rfl), val_drop0 l, val_zero_cons]
  | (x + 1) :: l => by rw [List.dropWhile_cons_of_neg (by simp)]
theorem drop0_head : ∀ (l : List Nat), l.dropWhile (· == 0) = [] ∨ (l.dropWhile (· == 0)).head?.getD 0 ≠ 0
  | [] => .inl rfl
  | 0 :: l => by rw [List.dropWhile_cons_of_pos (by rfl)]; exact drop0_head l
  | (x + 1) :: l => by rw [List.dropWhile_cons_of_neg (by simp)]; exact .inr (by simp)
theorem magN_drop0 (l : List Nat) (h : ∀ x ∈ l, x < 256) : l.dropWhile (· == 0) = magN (val l) := by
  rw [← val_drop0 l]
  exact (magN_of _ (fun x hx => h x (List.dropWhile_sublist _ |>.subset hx)) (drop0_head l)).symm

/-- The order of like long texts is that of the numbers. -/
theorem compareBytes_val : ∀ (a b : List UInt8), a.length = b.length → Lib.compareBytes a b = cmpN (val (a.map UInt8.toNat)) (val (b.map UInt8.toNat))
  | [], [], _ => rfl
  | x :: a, y :: b, h => by
    have hl : a.length = b.length := by simpa using h
    have ih := compareBytes_val a b hl
    have ha := val_lt (a.map UInt8.toNat) (fun z hz => by obtain ⟨u, _, rfl⟩ := List.mem_map.1 hz; exact u.toNat_lt)
    have hb := val_lt (b.map UInt8.toNat) (fun z hz => by obtain ⟨u, _, rfl⟩ := List.mem_map.1 hz; exact u.toNat_lt)
    rw [List.length_map] at ha hb
    rw [← hl] at hb
    rw [Lib.compareBytes, List.map_cons, List.map_cons, val_cons, val_cons, List.length_map, List.length_map, ← hl, ih]
    generalize val (a.map UInt8.toNat) = A at *
    generalize val (b.map UInt8.toNat) = B at *
    generalize 256 ^ a.length = P at *
    unfold cmpN
    rcases Nat.lt_trichotomy x.toNat y.toNat with hxy | hxy | hxy
    · rw [if_pos (UInt8.lt_iff_toNat_lt.2 hxy)]
      have : (x.toNat + 1) * P ≤ y.toNat * P := Nat.mul_le_mul_right _ hxy
      rw [Nat.add_mul, Nat.one_mul] at this
      rw [if_pos (by omega)]
    · rw [if_neg (by rw [UInt8.lt_iff_toNat_lt]; omega), if_neg (by rw [UInt8.lt_iff_toNat_lt]; omega), hxy]
      have e1 : (y.toNat * P + A < y.toNat * P + B) ↔ A < B := by omega
      have e2 : (y.toNat * P + A = y.toNat * P + B) ↔ A = B := by omega
      simp only [e1, e2]
    · rw [if_neg (by rw [UInt8.lt_iff_toNat_lt]; omega), if_pos (UInt8.lt_iff_toNat_lt.2 hxy)]
      have : (y.toNat + 1) * P ≤ x.toNat * P := Nat.mul_le_mul_right _ hxy
      rw [Nat.add_mul, Nat.one_mul] at this
      rw [if_neg (by omega), if_neg (by omega)]
/-- Magnitudes in their one form: the longer is the greater, like long ones go as texts do. -/
theorem cmpMag {a b : ByteArray} (ha : a.size = 0 ∨ (bN a).head?.getD 0 ≠ 0) (hb : b.size = 0 ∨ (bN b).head?.getD 0 ≠ 0) :
    cmpN (val (bN a)) (val (bN b)) = if a.size < b.size then -1 else if b.size < a.size then 1 else Lib.compareBytes a.data.toList b.data.toList := by
  have key : ∀ {a b : ByteArray}, (b.size = 0 ∨ (bN b).head?.getD 0 ≠ 0) → a.size < b.size → val (bN a) < val (bN b) := by
    intro a b hb h
    have h1 := val_lt (bN a) (bN_rng a)
    rw [bN_length] at h1
    have hp : 0 < b.size := by omega
    have h2 := val_head b hp (by rw [← bN_head b hp]; exact hb.resolve_left (by omega))
    have h3 : 256 ^ a.size ≤ 256 ^ (b.size - 1) := Nat.pow_le_pow_right (by decide) (by omega)
    omega
  by_cases h1 : a.size < b.size
  · rw [if_pos h1]
    unfold cmpN
    rw [if_pos (key hb h1)]
  · rw [if_neg h1]
    by_cases h2 : b.size < a.size
    · rw [if_pos h2]
      have := key ha h2
      unfold cmpN
      rw [if_neg (by omega), if_neg (by omega)]
    · rw [if_neg h2]
      have e : a.data.toList.length = b.data.toList.length := by
        rw [Array.length_toList, Array.length_toList]
        show a.size = b.size
        omega
      exact (compareBytes_val _ _ e).symm
end Go.Proofs.YtmgbkcfocbbofabGreatDoor

namespace Go.Proofs.YtmgbkcfocbbofabGreatDoor
open Go.RowKit Go.Lib Go.Sort

/-- -1, 0, 1, as x is below y, the same, above. -/
def cmpI (x y : Int) : Int := if x < y then -1 else if y < x then 1 else 0
theorem cmpI_nat (a b : Nat) : cmpI a b = cmpN a b := by
  unfold cmpI cmpN
  repeat' split
  all_goals first | rfl | omega

set_option maxHeartbeats 1600000 in
set_option maxRecDepth 1000000 in
theorem isNaN_int (x : Int) (w : World) : Calls Tryz.prog 75 #[.int .i64 x] w fun e w' => e = .returned (.bool false) ∧ w' = w := by
  go_enter Tryz.func75, Tryz.ntmps75
  go_wp2
  go_ret
  exact ⟨ret_bool (by simp), rfl⟩
set_option maxHeartbeats 1600000 in
set_option maxRecDepth 1000000 in
theorem isNaN_u32 (x : Int) (w : World) : Calls Tryz.prog 102 #[.int .u32 x] w fun e w' => e = .returned (.bool false) ∧ w' = w := by
  go_enter Tryz.func102, Tryz.ntmps102
  go_wp2
  go_ret
  exact ⟨ret_bool (by simp), rfl⟩
set_option maxHeartbeats 1600000 in
set_option maxRecDepth 1000000 in
theorem compare_int (x y : Int) (w : World) : Calls Tryz.prog 52 #[.int .i64 x, .int .i64 y] w fun e w' => e = .returned (.int .i64 (cmpI x y)) ∧ w' = w := by
  have h1 := isNaN_int x w
  have h2 := isNaN_int y w
  unfold cmpI
  by_cases hlt : x < y
  · rw [if_pos hlt]
    go_enter Tryz.func52, Tryz.ntmps52
    go_wp2_with fail
    refine h1.mono ?_
    rintro e w' ⟨rfl, rfl⟩
    go_wp2_with fail
    refine h2.mono ?_
    rintro e w' ⟨rfl, rfl⟩
    go_wp2_with fail
    go_ret
    exact ⟨rfl, rfl⟩
  · rw [if_neg hlt]
    by_cases hgt : y < x
    · rw [if_pos hgt]
      go_enter Tryz.func52, Tryz.ntmps52
      go_wp2_with fail
      refine h1.mono ?_
      rintro e w' ⟨rfl, rfl⟩
      go_wp2_with fail
      refine h2.mono ?_
      rintro e w' ⟨rfl, rfl⟩
      go_wp2_with fail
      go_ret
      exact ⟨rfl, rfl⟩
    · rw [if_neg hgt]
      go_enter Tryz.func52, Tryz.ntmps52
      go_wp2_with fail
      refine h1.mono ?_
      rintro e w' ⟨rfl, rfl⟩
      go_wp2_with fail
      refine h2.mono ?_
      rintro e w' ⟨rfl, rfl⟩
      go_wp2_with fail
      go_ret
      exact ⟨rfl, rfl⟩
set_option maxHeartbeats 1600000 in
set_option maxRecDepth 1000000 in
theorem compare_u32 (x y : Int) (w : World) : Calls Tryz.prog 86 #[.int .u32 x, .int .u32 y] w fun e w' => e = .returned (.int .i64 (cmpI x y)) ∧ w' = w := by
  have h1 := isNaN_u32 x w
  have h2 := isNaN_u32 y w
  unfold cmpI
  by_cases hlt : x < y
  · rw [if_pos hlt]
    go_enter Tryz.func86, Tryz.ntmps86
    go_wp2_with fail
    refine h1.mono ?_
    rintro e w' ⟨rfl, rfl⟩
    go_wp2_with fail
    refine h2.mono ?_
    rintro e w' ⟨rfl, rfl⟩
    go_wp2_with fail
    go_ret
    exact ⟨rfl, rfl⟩
  · rw [if_neg hlt]
    by_cases hgt : y < x
    · rw [if_pos hgt]
      go_enter Tryz.func86, Tryz.ntmps86
      go_wp2_with fail
      refine h1.mono ?_
      rintro e w' ⟨rfl, rfl⟩
      go_wp2_with fail
      refine h2.mono ?_
      rintro e w' ⟨rfl, rfl⟩
      go_wp2_with fail
      go_ret
      exact ⟨rfl, rfl⟩
    · rw [if_neg hgt]
      go_enter Tryz.func86, Tryz.ntmps86
      go_wp2_with fail
      refine h1.mono ?_
      rintro e w' ⟨rfl, rfl⟩
      go_wp2_with fail
      refine h2.mono ?_
      rintro e w' ⟨rfl, rfl⟩
      go_wp2_with fail
      go_ret
      exact ⟨rfl, rfl⟩

set_option maxHeartbeats 1600000 in
set_option maxRecDepth 1000000 in
theorem or_two (x y r : Int) (hr : (if x = 0 then y else x) = r) (B : Nat) (w : World) (c0 : w.cell? ⟨B, 0, none⟩ = some (.int .i64 x)) (c1 : w.cell? ⟨B, 1, none⟩ = some (.int .i64 y)) :
    Calls Tryz.prog 76 #[.slice (some ⟨B, 0, none⟩) 2 2] w fun e w' => e = .returned (.int .i64 r) ∧ w' = w := by
  have HR : Hid ((if x = 0 then y else x) = r) := hr
  clear hr
  go_enter Tryz.func76, Tryz.ntmps76
  go_wp2_with fail
  go_loopw [8] (fun i wr => ∃ q : Nat, i = .int .i64 (q : Int) ∧ q ≤ 2 ∧ (1 ≤ q → x = 0) ∧ (2 ≤ q → y = 0) ∧ wr = w) (fun i _ => 2 - (RowKit.intOf i).toNat)
  case atStart => exact ⟨0, rfl, by omega, by omega, by omega, rfl⟩
  case round =>
    obtain ⟨q, rfl, hq, hx, hy, rfl⟩ := hrel
    rcases Nat.lt_or_ge q 1 with h | h
    · obtain rfl : q = 0 := by omega
      clear hx hy
      by_cases h0 : x = 0
      · subst h0
        go_wp2_with fail
        go_roundw
        case rel => exact ⟨1, rfl, by omega, fun _ => by trivial, by omega, trivial⟩
        case measure => simp [RowKit.intOf]
      · have h1 : (x == 0) = false := by rw [beq_eq_false_iff_ne]; exact h0
        go_wp2_with fail
        go_ret
        exact ⟨ret_num (by have := HR.out; rw [if_neg h0] at this; exact this), rfl⟩
    · obtain rfl : x = 0 := hx h
      rcases Nat.lt_or_ge q 2 with h' | h'
      · obtain rfl : q = 1 := by omega
        clear hx hy
        by_cases h0 : y = 0
        · subst h0
          go_wp2_with fail
          go_roundw
          case rel => exact ⟨2, rfl, by omega, fun _ => by trivial, fun _ => by trivial, trivial⟩
          case measure => simp [RowKit.intOf]
        · have h1 : (y == 0) = false := by rw [beq_eq_false_iff_ne]; exact h0
          go_wp2_with fail
          go_ret
          exact ⟨ret_num HR.out, rfl⟩
      · obtain rfl : q = 2 := by omega
        obtain rfl : y = 0 := hy (by omega)
        clear hx hy
        go_wp2_with fail
        go_ret
        exact ⟨ret_num HR.out, rfl⟩

set_option maxHeartbeats 1600000 in
set_option maxRecDepth 1000000 in
theorem bytealg_compare (a b : ByteArray) (w : World) : Calls Tryz.prog 98 #[.string a, .string b] w fun e w' => e = .returned (.int .i64 (Lib.compareBytes a.data.toList b.data.toList)) ∧ w' = w := by
  go_enter Tryz.func98, Tryz.ntmps98
  go_wp2
  rw [run_callFunc_extern Tryz.func112 (by kernel_rfl) (by kernel_rfl) (by kernel_rfl) (e := Extern.BytealgCompare.compare) (by kernel_rfl), Lib.run_compareString]
  simp only [Result.andThen]
  rw [Oper.upon_value]
  go_wp2
  go_ret
  exact ⟨rfl, rfl⟩
set_option maxHeartbeats 1600000 in
set_option maxRecDepth 1000000 in
theorem strings_compare (a b : ByteArray) (w : World) : Calls Tryz.prog 77 #[.string a, .string b] w fun e w' => e = .returned (.int .i64 (Lib.compareBytes a.data.toList b.data.toList)) ∧ w' = w := by
  go_enter Tryz.func77, Tryz.ntmps77
  go_wp2_with fail
  refine (bytealg_compare a b w).mono ?_
  rintro e w' ⟨rfl, rfl⟩
  go_wp2_with fail
  go_ret
  exact ⟨rfl, rfl⟩
theorem cell_new0 (w : World) (x y : Value) (t : TypeId) : (w.alloc (.cells #[x, y] t)).cell? ⟨w.heap.size, 0, none⟩ = some x := by
  unfold World.cell?; simp only [heap_alloc_new]; rfl
theorem cell_new1 (w : World) (x y : Value) (t : TypeId) : (w.alloc (.cells #[x, y] t)).cell? ⟨w.heap.size, 1, none⟩ = some y := by
  unfold World.cell?; simp only [heap_alloc_new]; rfl
set_option maxHeartbeats 1600000 in
set_option maxRecDepth 1000000 in
theorem cmpMags_any (a b : ByteArray) (ha : a.size = 0 ∨ (bN a).head?.getD 0 ≠ 0) (hb : b.size = 0 ∨ (bN b).head?.getD 0 ≠ 0) (w : World) :
    Calls Tryz.prog 53 #[.string a, .string b] w fun e w' => e = .returned (.int .i64 (cmpN (val (bN a)) (val (bN b)))) ∧ w.grownBy w' none := by
  obtain ⟨r, hr⟩ : ∃ r : Int, (if cmpI (a.size : Int) (b.size : Int) = 0 then Lib.compareBytes a.data.toList b.data.toList else cmpI (a.size : Int) (b.size : Int)) = r := ⟨_, rfl⟩
  have hR : cmpN (val (bN a)) (val (bN b)) = r := by
    rw [cmpMag ha hb, ← hr]
    unfold cmpI
    by_cases h1 : a.size < b.size
    · rw [if_pos h1, if_pos (show (a.size : Int) < b.size by omega)]; rfl
    · rw [if_neg h1, if_neg (show ¬ (a.size : Int) < b.size by omega)]
      by_cases h2 : b.size < a.size
      · rw [if_pos h2, if_pos (show (b.size : Int) < a.size by omega)]; rfl
      · rw [if_neg h2, if_neg (show ¬ (b.size : Int) < a.size by omega)]; rfl
  rw [hR]
  have HR : Hid ((if cmpI (a.size : Int) (b.size : Int) = 0 then Lib.compareBytes a.data.toList b.data.toList else cmpI (a.size : Int) (b.size : Int)) = r) := hr
  clear hr hR
  go_enter Tryz.func53, Tryz.ntmps53
  go_wp2_with fail
  refine (compare_int _ _ _).mono ?_
  rintro e w' ⟨rfl, rfl⟩
  go_wp2_with fail
  refine (strings_compare a b _).mono ?_
  rintro e w' ⟨rfl, rfl⟩
  go_wp2_with fail
  refine (or_two _ _ r HR.out _ _ (cell_new0 _ _ _ _) (cell_new1 _ _ _ _)).mono ?_
  rintro e w' ⟨rfl, rfl⟩
  go_wp2_with fail
  go_ret
  exact ⟨rfl, grow1 _ _⟩
end Go.Proofs.YtmgbkcfocbbofabGreatDoor
