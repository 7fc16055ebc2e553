/-
  Magnitudes of at most eight bytes as words of 64 bits, there and back.
-/
import Derived.Test.YtaldmfbicddcbaaGreatDoorSgn
namespace Go.Proofs.YtaldmfbicddcbaaGreatDoor
open Go.RowKit Go.Lib Go.Sort

theorem valA_lt : ∀ (l : List Nat) (n : Nat), (∀ x ∈ l, x < 256) → l.foldl (fun n b => n * 256 + b) n < (n + 1) * 256 ^ l.length
  | [], n, _ => by simp
  | b :: t, n, h => by
    have h1 := valA_lt t (n * 256 + b) (fun x hx => h x (by simp [hx]))
    have h2 := h b (by simp)
    have h3 : (n * 256 + b + 1) * 256 ^ t.length ≤ (n + 1) * 256 * 256 ^ t.length := Nat.mul_le_mul_right _ (by omega)
    rw [List.foldl_cons, List.length_cons, Nat.pow_succ]
    refine Nat.lt_of_lt_of_le h1 (Nat.le_trans h3 (Nat.le_of_eq ?_))
    rw [Nat.mul_assoc, Nat.mul_comm 256]
theorem val_lt (l : List Nat) (h : ∀ x ∈ l, x < 256) : val l < 256 ^ l.length := by
  have := valA_lt l 0 h
  simpa [val] using this
theorem take_succ_at {l : List Nat} {k b : Nat} (h : l[k]? = some b) : l.take (k + 1) = l.take k ++ [b] := by
  rw [List.take_add_one, h]; rfl
theorem val_take (s : ByteArray) (k : Nat) (h : k ≤ s.size) : val ((bN s).take k) < 256 ^ k := by
  have := val_lt ((bN s).take k) (fun x hx => bN_rng s x (List.mem_of_mem_take hx))
  rw [List.length_take, bN_length, Nat.min_eq_left h] at this
  exact this
theorem or8 (x y : Int) (h₀ : 0 ≤ x) (h₁ : x ≤ 72057594037927935) (h2 : 0 ≤ y) (h3 : y < 256) : bits .or .u64 (x * 256) y = x * 256 + y :=
  bits_join .u64 64 (by decide) wraps_u64 8 (x * 256) y (by omega) (by omega) (by omega) h2 (by omega) (by omega)

set_option maxHeartbeats 1600000 in
set_option maxRecDepth 1000000 in
theorem wordOf_any (mag : ByteArray) (h8 : mag.size ≤ 8) (w : World) :
    Calls Tryz.prog 57 #[.string mag] w fun e w' => e = .returned (.int .u64 (val (bN mag))) ∧ w' = w := by
  go_enter Tryz.func57, Tryz.ntmps57
  go_wp2
  go_loopw [3, 7] (fun x i wr => ∃ k, k ≤ mag.size ∧ x = .int .u64 ((val ((bN mag).take k) : Nat) : Int) ∧ i = .int .i64 k ∧ wr = w) (fun _ i _ => mag.size - (RowKit.intOf i).toNat)
  case atStart => exact ⟨0, by omega, rfl, rfl, rfl⟩
  case round =>
    obtain ⟨k, hk, rfl, rfl, rfl⟩ := hrel
    by_cases hk1 : k < mag.size
    · have hb := bN_at mag k hk1
      have hv := val_take mag k hk
      have hlt : val ((bN mag).take k) < 72057594037927936 := by
        refine Nat.lt_of_lt_of_le hv ?_
        have : 256 ^ k ≤ 256 ^ 7 := Nat.pow_le_pow_right (by decide) (by omega)
        simpa using this
      have hs : val ((bN mag).take (k + 1)) = val ((bN mag).take k) * 256 + mag[k].toNat := by rw [take_succ_at hb, val_snoc]
      have HS : Hid (val ((bN mag).take (k + 1)) = val ((bN mag).take k) * 256 + mag[k].toNat) := hs
      have hy := (mag[k]).toNat_lt
      have hor := or8 (val ((bN mag).take k) : Nat) (mag[k].toNat : Nat) (by omega) (by omega) (by omega) (by omega)
      clear hs hb hv
      generalize val ((bN mag).take k) = X at *
      go_wp2
      go_roundw
      case rel => exact ⟨k + 1, by omega, num_eq (by rw [HS.out]; omega), rfl, trivial⟩
      case measure => simp [RowKit.intOf]; omega
    · have hk0 : k = mag.size := by omega
      subst hk0
      have ht : (bN mag).take mag.size = bN mag := by rw [List.take_of_length_le (by rw [bN_length]; exact Nat.le_refl _)]
      rw [ht]
      go_wp2
      go_ret
      exact ⟨rfl, rfl⟩

/-- A block of the heap that bears these numbers. -/
def BlkL (w : World) (B : Nat) (t : TypeId) (enc : Int → Value) (L : List Int) : Prop := w.heap[B]? = some (.cells (L.map enc).toArray t (0, 0))
theorem BlkL.lt {w : World} {B : Nat} {t : TypeId} {enc : Int → Value} {L : List Int} (h : BlkL w B t enc L) : B < w.heap.size := (Array.getElem?_eq_some_iff.1 h).1
theorem BlkL.cell {w : World} {B : Nat} {t : TypeId} {enc : Int → Value} {L : List Int} (h : BlkL w B t enc L) (i : Nat) (hi : i < L.length) : w.cell? ⟨B, i, none⟩ = some (enc (L[i]?.getD 0)) := by
  unfold BlkL at h
  simp [World.cell?, h, hi]
theorem BlkL.frozen {w : World} {B : Nat} {t : TypeId} {enc : Int → Value} {L : List Int} (h : BlkL w B t enc L) (i : Nat) : w.frozen? ⟨B, i, none⟩ = false := by
  unfold BlkL at h
  simp [World.frozen?, h]
theorem BlkL.set {w : World} {B : Nat} {t : TypeId} {enc : Int → Value} {L : List Int} (h : BlkL w B t enc L) (i : Nat) (x : Int) : BlkL (w.setCell ⟨B, i, none⟩ (enc x)) B t enc (L.set i x) := by
  unfold BlkL at *
  simp [World.setCell, Array.getElem?_modify, h]
theorem BlkL.kept {w w' : World} {row : Option Nat} {B : Nat} {t : TypeId} {enc : Int → Value} {L : List Int} (h : BlkL w B t enc L) (hg : w.grownBy w' row) (hn : row ≠ some B) : BlkL w' B t enc L :=
  (hg.block B h.lt (fun e => hn e.symm)).trans h
theorem grown_set {w w' : World} {B i : Nat} {v : Value} (h : w.grownBy w' none) (hB : w.heap.size ≤ B) : w.grownBy (w'.setCell ⟨B, i, none⟩ v) none :=
  grownBy_new h hB (grownBy_setCell _ _ _ _)

def ints (l : List Nat) : List Int := l.map (fun b : Nat => (b : Int))
theorem ints_length (l : List Nat) : (ints l).length = l.length := by simp [ints]
/-- The bytes of a number, the highest first. -/
def magN (n : Nat) : List Nat := if n = 0 then [] else magN (n / 256) ++ [n % 256]
termination_by n
decreasing_by omega
theorem magN_zero : magN 0 = [] := by rw [magN]; rfl
theorem magN_pos {n : Nat} (h : 0 < n) : magN n = magN (n / 256) ++ [n % 256] := by rw [magN, if_neg (by omega)]

/-- A slice of bytes that can be read. -/
def Src (w : World) (s : Value) (L : List Int) : Prop :=
  (s = .slice none 0 0 ∧ L = []) ∨ ∃ b off c, s = .slice (some ⟨b, off, none⟩) L.length c ∧ ∀ j u, (L.map encB)[j]? = some u → w.cell? ⟨b, off + j, none⟩ = some u
/-- The string of some bytes. -/
def strOf (L : List Int) : ByteArray := L.foldl (fun r n => r.push (UInt8.ofNat n.toNat)) ByteArray.empty
theorem conv_src {w : World} {s : Value} {L : List Int} (h : Src w s L) : (convert 98 9 s).run Tryz.prog w = .ok (.string (strOf L)) w := by
  rcases h with ⟨rfl, rfl⟩ | ⟨b, off, c, rfl, hc⟩
  · rw [run_convert_bytes_string w 98 9 5 none 0 0 Tryz.underlying98 Tryz.underlying5 Tryz.underlying9]
    simp [Conv.bytesToString, Sem.run_pure, strOf]
  · rw [run_convert_bytes_string w 98 9 5 _ _ _ Tryz.underlying98 Tryz.underlying5 Tryz.underlying9]
    have h1 := run_loadCells_list (P := Tryz.prog) w ⟨b, off, none⟩ (L.map encB) (fun j v hv => by rw [Addr.add_lit]; exact hc j v hv)
    rw [List.length_map] at h1
    rw [run_bytesToString w ⟨b, off, none⟩ L.length c L h1]
    rfl
theorem foldl_push : ∀ (l : List Nat) (r : ByteArray), (∀ x ∈ l, x < 256) → bN ((ints l).foldl (fun r n => r.push (UInt8.ofNat n.toNat)) r) = bN r ++ l
  | [], r, _ => by simp [ints]
  | b :: t, r, h => by
    have e : ints (b :: t) = (b : Int) :: ints t := rfl
    rw [e, List.foldl_cons, foldl_push t _ (fun x hx => h x (by simp [hx]))]
    have hb : b < 256 := h b (by simp)
    have h1 : bN (r.push (UInt8.ofNat (b : Int).toNat)) = bN r ++ [b] := by
      have h2 : (UInt8.ofNat b).toNat = b := by simp [UInt8.toNat_ofNat']; omega
      simp [bN, ByteArray.push, h2]
    rw [h1]; simp
theorem bN_strOf (l : List Nat) (h : ∀ x ∈ l, x < 256) : bN (strOf (ints l)) = l := by
  unfold strOf
  rw [foldl_push l _ h]
  rfl
theorem set_last (q : Nat) (x : Int) (l : List Int) : (List.replicate (q + 1) 0 ++ l).set q x = List.replicate q 0 ++ x :: l := by
  rw [List.replicate_succ', List.append_assoc, List.set_append_right _ _ (by simp)]
  simp
theorem magN_rng (n : Nat) : ∀ x ∈ magN n, x < 256 := by
  induction n using Nat.strongRecOn with
  | ind n ih =>
    intro x hx
    by_cases h : n = 0
    · subst h; rw [magN_zero] at hx; simp at hx
    · rw [magN_pos (by omega)] at hx
      rcases List.mem_append.1 hx with hx | hx
      · exact ih (n / 256) (by omega) x hx
      · simp at hx; omega

set_option maxHeartbeats 1600000 in
set_option maxRecDepth 1000000 in
theorem magOfWord_any (n : Nat) (hn : n < 18446744073709551616) (w : World) :
    Calls Tryz.prog 58 #[.int .u64 n] w fun e w' => ∃ s, e = .returned (.string s) ∧ bN s = magN n ∧ w.grownBy w' none := by
  go_enter Tryz.func58, Tryz.ntmps58
  go_wp2
  go_loopw [0, 4] (fun x i wr => ∃ (m j : Nat) (L : List Nat), m < 256 ^ (8 - j) ∧ j ≤ 8 ∧ L.length = j ∧ magN n = magN m ++ L ∧ x = .int .u64 m ∧ i = .int .i64 (8 - j : Nat) ∧
      BlkL wr w.heap.size 116 encB (List.replicate (8 - j) 0 ++ ints L) ∧ w.grownBy wr none) (fun x _ _ => (RowKit.intOf x).toNat)
  case atStart => exact ⟨n, 0, [], by simpa using hn, by omega, rfl, by simp, rfl, rfl, heap_alloc_new _ _, grow1 _ _⟩
  case round =>
    obtain ⟨m, j, L, hm, hj, hL, heq, rfl, rfl, hB, hg⟩ := hrel
    have HEQ : Hid (magN n = magN m ++ L) := heq
    have HB : Hid (BlkL wr w.heap.size 116 encB (List.replicate (8 - j) 0 ++ ints L)) := hB
    by_cases h0 : 0 < m
    · have hj8 : j < 8 := by
        rcases Nat.lt_or_ge j 8 with h | h
        · exact h
        · have : 8 - j = 0 := by omega
          rw [this] at hm; simp at hm; omega
      have hc := hB.cell (8 - j - 1) (by simp; omega)
      have hf := hB.frozen (8 - j - 1)
      clear heq hB
      go_wp2
      go_roundw
      case rel =>
        obtain ⟨q, hq⟩ : ∃ q, 8 - j = q + 1 := ⟨8 - j - 1, by omega⟩
        refine ⟨m / 256, j + 1, m % 256 :: L, ?_, by omega, by simp [hL], ?_, num_eq (by omega), num_eq (by omega), ?_, grown_set hg (Nat.le_refl _)⟩
        · have : 8 - (j + 1) = q := by omega
          rw [this]; rw [hq, Nat.pow_succ] at hm; omega
        · rw [HEQ.out, magN_pos h0]; simp
        · have e := HB.out.set (8 - j - 1) ((m : Int) % 256)
          have : 8 - (j + 1) = q := by omega
          rw [this]
          rw [hq] at e
          rw [show q + 1 - 1 = q by omega, set_last] at e
          rw [hq, show q + 1 - 1 = q by omega]
          exact e
      case measure => simp [RowKit.intOf]; omega
    · have hm0 : m = 0 := by omega
      subst hm0
      have hmag : magN n = L := by rw [heq, magN_zero]; rfl
      by_cases hj0 : j = 0
      · subst hj0
        obtain rfl : L = [] := by simpa using hL
        have hcv := conv_src (w := wr) (s := .slice (some ⟨w.heap.size, 0, none⟩) 0 0) (L := []) (.inr ⟨_, _, _, rfl, fun j u hj => by simp at hj⟩)
        clear heq hB
        go_wp2
        go_ret
        exact ⟨_, rfl, by rw [hmag]; rfl, hg⟩
      · have hcv := conv_src (w := wr) (s := .slice (some ⟨w.heap.size, 8 - j, none⟩) j j) (L := ints L) (.inr ⟨_, _, _, by rw [ints_length, hL], fun i u hi => by
          have hi2 := (List.getElem?_eq_some_iff.1 hi).1
          simp [ints_length] at hi2
          have := HB.out.cell (8 - j + i) (by simp [ints_length]; omega)
          rw [this, ← hi]
          rw [List.getElem?_append_right (by simp)]
          simp [hi2, ints_length]⟩)
        clear heq hB
        have hrng := magN_rng n
        rw [hmag] at hrng
        have HM : Hid (magN n = L) := hmag
        clear hmag HB HEQ
        obtain ⟨q, hq⟩ : ∃ q, 8 - j = q := ⟨_, rfl⟩
        have hq8 : q < 8 := by omega
        have hjq : j = 8 - q := by omega
        rw [hq] at hcv ⊢
        rw [hjq] at hcv
        clear hq hj0 hm h0
        have hqs : q = 0 ∨ q = 1 ∨ q = 2 ∨ q = 3 ∨ q = 4 ∨ q = 5 ∨ q = 6 ∨ q = 7 := by omega
        rcases hqs with rfl | rfl | rfl | rfl | rfl | rfl | rfl | rfl
        all_goals go_wp2
        all_goals go_ret
        all_goals exact ⟨_, rfl, by rw [HM.out]; exact bN_strOf L hrng, hg⟩
end Go.Proofs.YtaldmfbicddcbaaGreatDoor
