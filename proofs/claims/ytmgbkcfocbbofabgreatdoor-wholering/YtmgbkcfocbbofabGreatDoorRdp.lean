/-
  The program's plainDigits, strings.CutPrefix of a minus.
-/
import Derived.Test.YtmgbkcfocbbofabGreatDoorRdg
namespace Go.Proofs.YtmgbkcfocbbofabGreatDoor
open Go.RowKit Go.Lib Go.Sort

theorem bN_extract (s : ByteArray) (a b : Nat) : bN (s.extract a b) = ((bN s).drop a).take (b - a) := by
  unfold bN
  rw [ByteArray.data_extract, Array.toList_extract, List.extract_eq_take_drop, List.map_take, List.map_drop]
theorem toList_bN (s : ByteArray) : s.toList.map UInt8.toNat = bN s := by rw [ByteArray.toList_eq]; rfl
theorem bN_eq_lit {s : ByteArray} {l : List UInt8} : (s.toList == l) = decide (bN s = l.map UInt8.toNat) := by
  rw [← toList_bN]
  by_cases h : s.toList = l
  · rw [h]; simp
  · have h2 : ¬ s.toList.map UInt8.toNat = l.map UInt8.toNat := fun e => h ((List.map_inj_right (fun a b hab => UInt8.toNat_inj.1 hab)).1 e)
    rw [decide_eq_false h2]
    simpa using h

set_option maxHeartbeats 1600000 in
set_option maxRecDepth 1000000 in
theorem hasPrefix_lite (s : ByteArray) (h9 : s.size ≤ 1000000) (w : World) :
    Calls Tryz.prog 92 #[.string s, .string ⟨#[45]⟩] w fun e w' => e = .returned (.bool (decide ((bN s).head? = some 45))) ∧ w' = w := by
  by_cases h0 : s.size = 0
  · obtain rfl := empty_of_size h0
    go_enter Tryz.func92, Tryz.ntmps92
    go_wp2
    go_ret
    exact ⟨rfl, rfl⟩
  · have hp : (1 : Int) ≤ s.size := by omega
    have h9' : (s.size : Int) ≤ 1000000 := by omega
    go_enter Tryz.func92, Tryz.ntmps92
    go_wp2
    go_ret
    refine ⟨ret_bool ?_, rfl⟩
    rw [bN_eq_lit, bN_extract]
    have hl : (bN s).length = s.size := bN_length s
    cases hb : bN s with
    | nil => rw [hb] at hl; simp at hl; omega
    | cons x l => simp
/-- A text without its minus. -/
def bare (s : ByteArray) : ByteArray := if (bN s).head? = some 45 then s.extract 1 s.size else s
theorem bN_bare {s : ByteArray} (h : (bN s).head? = some 45) : bN (bare s) = (bN s).drop 1 := by
  unfold bare
  rw [if_pos h, bN_extract, List.take_of_length_le (by rw [List.length_drop, bN_length]; exact Nat.le_refl _)]

set_option maxHeartbeats 1600000 in
set_option maxRecDepth 1000000 in
theorem cutPrefix_lite (s : ByteArray) (h9 : s.size ≤ 1000000) (w : World) :
    Calls Tryz.prog 68 #[.string s, .string ⟨#[45]⟩] w fun e w' => e = .returned (.tuple #[.string (bare s), .bool (decide ((bN s).head? = some 45))]) ∧ w' = w := by
  have h9' : (s.size : Int) ≤ 1000000 := by omega
  have hH := hasPrefix_lite s h9 w
  by_cases h : (bN s).head? = some 45
  · rw [decide_eq_true h] at hH ⊢
    have hb : bare s = s.extract 1 s.size := by unfold bare; rw [if_pos h]
    rw [hb]
    have hp : (1 : Int) ≤ s.size := by
      have := bN_length s
      cases hb : bN s with
      | nil => rw [hb] at h; simp at h
      | cons x l => rw [hb] at this; simp at this; omega
    have HH : Hid (Calls Tryz.prog 92 #[.string s, .string ⟨#[45]⟩] w fun e w' => e = .returned (.bool true) ∧ w' = w) := hH
    clear hH h hb
    go_enter Tryz.func68, Tryz.ntmps68
    go_wp2_with fail
    refine HH.out.mono ?_
    rintro e w' ⟨rfl, rfl⟩
    go_wp2_with fail
    go_ret2
    exact ⟨rfl, rfl⟩
  · rw [decide_eq_false h] at hH ⊢
    have hb : bare s = s := by unfold bare; rw [if_neg h]
    rw [hb]
    have HH : Hid (Calls Tryz.prog 92 #[.string s, .string ⟨#[45]⟩] w fun e w' => e = .returned (.bool false) ∧ w' = w) := hH
    clear hH h hb
    go_enter Tryz.func68, Tryz.ntmps68
    go_wp2_with fail
    refine HH.out.mono ?_
    rintro e w' ⟨rfl, rfl⟩
    go_wp2_with fail
    go_ret2
    exact ⟨rfl, rfl⟩
set_option maxHeartbeats 1600000 in
set_option maxRecDepth 1000000 in
theorem cutPrefix_any (s : ByteArray) (h9 : s.size ≤ 1000000) (w : World) :
    Calls Tryz.prog 38 #[.string s, .string ⟨#[45]⟩] w fun e w' => e = .returned (.tuple #[.string (bare s), .bool (decide ((bN s).head? = some 45))]) ∧ w' = w := by
  have HH : Hid (Calls Tryz.prog 68 #[.string s, .string ⟨#[45]⟩] w fun e w' => e = .returned (.tuple #[.string (bare s), .bool (decide ((bN s).head? = some 45))]) ∧ w' = w) := cutPrefix_lite s h9 w
  generalize bare s = t at *
  generalize decide ((bN s).head? = some 45) = b at *
  go_enter Tryz.func38, Tryz.ntmps38
  go_wp2_with fail
  refine HH.out.mono ?_
  rintro e w' ⟨rfl, rfl⟩
  go_wp2_with fail
  go_ret2
  exact ⟨rfl, rfl⟩

theorem dig_not {b : Nat} (h : b < 256) : ¬ isDig b ↔ (b < 48 ∨ 57 < b) := by unfold isDig; omega
set_option maxHeartbeats 1600000 in
set_option maxRecDepth 1000000 in
theorem plainDigits_any (s : ByteArray) (h9 : s.size ≤ 1000000) (w : World) :
    Calls Tryz.prog 39 #[.string s] w fun e w' => e = .returned (.bool (decide (plain s))) ∧ w' = w := by
  have h9' : (s.size : Int) ≤ 1000000 := by omega
  obtain ⟨r, hr⟩ : ∃ r, decide (plain s) = r := ⟨_, rfl⟩
  have HR : Unit → decide (plain s) = r := fun _ => hr
  rw [hr]
  clear hr
  go_enter Tryz.func39, Tryz.ntmps39
  go_wp2
  go_loopw [6] (fun i wr => ∃ k, k ≤ s.size ∧ i = .int .i64 k ∧ (∀ b ∈ (bN s).take k, isDig b) ∧ wr = w) (fun i _ => s.size - (RowKit.intOf i).toNat)
  case atStart => exact ⟨0, by omega, rfl, by simp, rfl⟩
  case round =>
    obtain ⟨k, hk, rfl, hd, rfl⟩ := hrel
    have HD : Hid (∀ b ∈ (bN s).take k, isDig b) := hd
    clear hd
    by_cases hk1 : k < s.size
    · have hb := bN_at s k hk1
      have HB : Hid ((bN s)[k]? = some s[k].toNat) := hb
      have hkI : (k : Int) < s.size := by omega
      clear hb
      by_cases h1 : s[k].toNat < 48
      · obtain rfl : r = false := by
          rw [← HR ()]
          refine decide_eq_false (fun hp => ?_)
          have := hp.1 s[k].toNat (by rw [List.mem_iff_getElem?]; exact ⟨k, HB.out⟩)
          unfold isDig at this
          omega
        have h1I : (s[k].toNat : Int) ≤ 47 := by omega
        go_wp2
        go_ret
        exact ⟨rfl, rfl⟩
      · have h1I : (48 : Int) ≤ (s[k].toNat : Int) := by omega
        by_cases h2 : 57 < s[k].toNat
        · obtain rfl : r = false := by
            rw [← HR ()]
            refine decide_eq_false (fun hp => ?_)
            have := hp.1 s[k].toNat (by rw [List.mem_iff_getElem?]; exact ⟨k, HB.out⟩)
            unfold isDig at this
            omega
          have h2I : (58 : Int) ≤ (s[k].toNat : Int) := by omega
          go_wp2
          go_ret
          exact ⟨rfl, rfl⟩
        · have h2I : (s[k].toNat : Int) ≤ 57 := by omega
          go_wp2
          go_roundw
          case rel =>
            refine ⟨k + 1, by omega, rfl, fun b hb => ?_, trivial⟩
            rw [take_succ_at HB.out] at hb
            rcases List.mem_append.1 hb with h | h
            · exact HD.out b h
            · simp at h; subst h; unfold isDig; omega
          case measure => simp [RowKit.intOf]; omega
    · obtain rfl : k = s.size := by omega
      have hall : ∀ b ∈ bN s, isDig b := by
        have := HD.out
        rwa [List.take_of_length_le (by rw [bN_length]; exact Nat.le_refl _)] at this
      have HA : Hid (∀ b ∈ bN s, isDig b) := hall
      clear hall
      by_cases h0 : s.size = 0
      · obtain rfl := empty_of_size h0
        obtain rfl : r = false := by rw [← HR ()]; exact decide_eq_false (fun hp => hp.2.1 rfl)
        go_wp2
        go_ret
        exact ⟨rfl, rfl⟩
      · have he := isEmpty_of h0
        have hp : 0 < s.size := by omega
        have hz : (s.toList == [48]) = decide (bN s = [48]) := bN_eq_lit
        have hh := bN_head s hp
        have hlen := bN_length s
        cases h1 : (s.toList == [48])
        · have hne : ¬ bN s = [48] := by rw [hz] at h1; simpa using h1
          have hr2 : r = decide (s[0].toNat ≠ 48) := by
            rw [← HR ()]
            refine decide_eq_decide.2 ⟨fun hp => ?_, fun h => ⟨HA.out, h0, .inr (by rw [hh]; exact h)⟩⟩
            rcases hp.2.2 with h | h
            · intro e
              apply hne
              cases hb : bN s with
              | nil => rw [hb] at hlen; simp at hlen; omega
              | cons x l =>
                rw [hb] at hlen hh
                simp at hlen hh
                have : l = [] := List.length_eq_zero_iff.1 (by omega)
                rw [this, hh, e]
            · rw [← hh]; exact h
          clear hh hlen hne hz
          subst hr2
          go_wp2
          go_ret
          refine ⟨ret_bool ?_, rfl⟩
          rw [Bool.eq_iff_iff]
          simp
          omega
        · have hr2 : r = true := by
            rw [← HR ()]
            rw [hz] at h1
            have h1 : bN s = [48] := by simpa using h1
            refine decide_eq_true ⟨HA.out, h0, .inl ?_⟩
            rw [h1] at hlen
            simp at hlen
            omega
          subst hr2
          clear hh hlen hz
          go_wp2
          go_ret
          exact ⟨rfl, rfl⟩
end Go.Proofs.YtmgbkcfocbbofabGreatDoor
