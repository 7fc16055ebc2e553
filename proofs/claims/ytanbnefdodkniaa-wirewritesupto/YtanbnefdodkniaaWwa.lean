/-
  The document's writers: Signed, Float, Text, Whole, Frac, Gauss, PlainGauss.
-/
import Derived.Test.YtanbnefdodkniaaBkw
import Derived.Test.YtanbnefdodkniaaDrc
namespace Go.Proofs.Ytanbnefdodkniaa
open Go.RowKit Go.Lib Go.Sort

set_option maxHeartbeats 1600000 in
set_option maxRecDepth 1000000 in
theorem dfolded (x : Int) (h0 : -9223372036854775808 ≤ x) (h1 : x ≤ 9223372036854775807) (w : World) : Calls Try.prog 55 #[.int .i64 x] w fun e w' => e = .returned (.int .u64 (fold x : Nat)) ∧ w' = w := by
  by_cases hx : 0 ≤ x
  · obtain ⟨n, rfl⟩ := Int.eq_ofNat_of_zero_le hx
    have HF : Hid (((fold (n : Int) : Nat) : Int) = 2 * n) := by have : ((fold (n : Int) : Nat) : Int) = 2 * n := by unfold fold; rw [if_pos hx]; omega
                                                                 exact this
    have h2 : (n : Int) ≤ 9223372036854775807 := h1
    go_enter Try.func55, Try.ntmps55
    go_wp2
    go_ret
    exact ⟨ret_num HF.out.symm, rfl⟩
  · obtain ⟨n, hn⟩ := Int.eq_ofNat_of_zero_le (show 0 ≤ -(x + 1) by omega)
    obtain rfl : x = -(n : Int) - 1 := by omega
    have HF : Hid (((fold (-(n : Int) - 1) : Nat) : Int) = 2 * n + 1) := by have : ((fold (-(n : Int) - 1) : Nat) : Int) = 2 * n + 1 := by unfold fold; rw [if_neg hx]; omega
                                                                            exact this
    have hn1 : (n : Int) ≤ 9223372036854775807 := by omega
    have hneg : -(n : Int) - 1 < 0 := by omega
    clear hn
    go_enter Try.func55, Try.ntmps55
    go_wp2
    go_ret
    exact ⟨ret_num HF.out.symm, rfl⟩

set_option maxHeartbeats 1600000 in
set_option maxRecDepth 1000000 in
theorem dsignedW (x : Int) (h0 : -9223372036854775808 ≤ x) (h1 : x ≤ 9223372036854775807) (w : World) :
    Calls Try.prog 13 #[.int .i64 x] w fun e w' => ∃ v, e = .returned v ∧ Forms w w' v (numF (fold x)) := by
  have hlt := fold_lt x h0 h1
  have HF : Hid (∀ w, Calls Try.prog 55 #[.int .i64 x] w fun e w' => e = .returned (.int .u64 (fold x : Nat)) ∧ w' = w) := fun w => dfolded x h0 h1 w
  generalize fold x = n at *
  go_enter Try.func13, Try.ntmps13
  go_wp2_with (first | (go_at_call 55; refine (HF.out _).mono ?_; rintro e w1 ⟨rfl, rfl⟩) | (go_at_call 11; refine (refnum_any n hlt _).mono ?_; rintro e w1 ⟨v, rfl, hF⟩))
  go_ret
  exact ⟨v, rfl, hF⟩

set_option maxHeartbeats 1600000 in
set_option maxRecDepth 1000000 in
theorem dfloatW (x : Nat) (hx : x < 18446744073709551616) (w : World) : Calls Try.prog 15 #[.float .f64 x] w fun e w' => ∃ v, e = .returned v ∧ Forms w w' v (fB (bitsF x)) := by
  have hb := bitsF_lt x hx
  have HB : Hid (∀ w1, Calls Try.prog 58 #[.float .f64 x] w1 fun e w' => e = .returned (.int .u64 (bitsF x)) ∧ w' = w1) := fun w1 => bits_any x w1
  generalize bitsF x = u at *
  go_enter Try.func15, Try.ntmps15
  go_wp2_with (go_at_call 58; refine (HB.out _).mono ?_; rintro e w ⟨rfl, rfl⟩)
  go_loopw [4, 5] (fun v i wr => ∃ m : Nat, m ≤ 8 ∧ i = .int .i64 (7 - (m : Int)) ∧ wr.ownsRow w.heap.size 5 1 v m (((fB u).take m).map encB) ∧ Below w.heap.size w wr) (fun _ i _ => (RowKit.intOf i + 1).toNat)
  case atStart => exact ⟨0, by omega, rfl, World.ownsRow_nil _ _ _ _, Below.refl _ _⟩
  case round =>
    obtain ⟨m, hm, rfl, hown, hbl⟩ := hrel
    by_cases hlt : m < 8
    · obtain ⟨j, hj⟩ : ∃ j : Nat, 7 - m = j := ⟨_, rfl⟩
      have hj7 : j ≤ 7 := by omega
      have hji : (7 : Int) - (m : Int) = (j : Int) := by omega
      rw [hji]
      have HM : Hid (m + j = 7) := by have : m + j = 7 := by omega
                                      exact this
      have HO : Hid (wr.ownsRow w.heap.size 5 1 u4 m (((fB u).take m).map encB)) := hown
      have hB := hbl.size
      have HT : Hid ((fB u).take (m + 1) = (fB u).take m ++ [(u : Int) / 2 ^ (8 * j) % 256]) := by
        have hl : m < (fB u).length := by rw [fB_len]; exact hlt
        have e1 : (fB u)[m] = (u : Int) / 2 ^ (8 * j) % 256 := by
          have e2 : (fB u)[m] = fb u m := by simp [fB]
          rw [e2, fb_int, show 56 - 8 * m = 8 * j by omega]
        have : (fB u).take (m + 1) = (fB u).take m ++ [(u : Int) / 2 ^ (8 * j) % 256] := by rw [List.take_succ_eq_append_getElem hl, e1]
        exact this
      have HL : Hid (((fB u).take m).length = m) := by have : ((fB u).take m).length = m := by rw [List.length_take, fB_len]; omega
                                                       exact this
      have HS : Hid (Src (wr.alloc (.cells #[.int .u8 ((u : Int) / 2 ^ (8 * j) % 256)] 5)) (.slice (some ⟨wr.heap.size, 0, none⟩) 1 1) [(u : Int) / 2 ^ (8 * j) % 256]) := src_new wr [(u : Int) / 2 ^ (8 * j) % 256] 1 rfl
      have HO2 : Hid ((wr.alloc (.cells #[.int .u8 ((u : Int) / 2 ^ (8 * j) % 256)] 5)).ownsRow w.heap.size 5 1 u4 ((fB u).take m).length (((fB u).take m).map encB)) := by rw [HL.out]; exact HO.out.alloc _
      clear hown hj hji
      go_wp2_with (at_builtin; refine wpList_apps _ rfl _ _ rfl w.heap.size _ _ ((fB u).take m) [(u : Int) / 2 ^ (8 * j) % 256] rfl rfl HO2.out HS.out ?c1 ?c2 ?_)
      case c1 => rw [HL.out]; simp; omega
      case c2 => simp; omega
      intro v' w2 hA
      have hb2 : Below w.heap.size w w2 := (hbl.alloc hB _).grown hA.2.1 (by simp; omega) (fun k hk => (HO.out.lt k hk).1)
      have ho2 : w2.ownsRow w.heap.size 5 1 v' (m + 1) (((fB u).take (m + 1)).map encB) := by
        rw [HT.out]
        have := hA.1
        rw [show ((fB u).take m ++ [(u : Int) / 2 ^ (8 * j) % 256]).length = m + 1 by rw [List.length_append, HL.out]; rfl] at this
        exact this
      clear hA HO2 HS HO
      go_wp2
      go_roundw
      case rel => exact ⟨m + 1, by omega, num_eq (by have := HM.out; omega), ho2, hb2⟩
      case measure => simp [RowKit.intOf]
    · obtain rfl : m = 8 := by omega
      simp only [show (7 : Int) - ((8 : Nat) : Int) = -1 by omega]
      go_wp2
      go_ret
      have e8 : (fB u).take 8 = fB u := List.take_of_length_le (by rw [fB_len]; omega)
      rw [e8] at hown
      refine ⟨_, rfl, ?_, grownBy_of_below hbl⟩
      rw [fB_len]
      exact hown

set_option maxHeartbeats 1600000 in
set_option maxRecDepth 1000000 in
theorem dtextW (s : ByteArray) (hs : s.size ≤ 1048576) (w : World) :
    Calls Try.prog 18 #[.string s] w fun e w' => ∃ v, e = .returned v ∧ Forms w w' v (textF s) := by
  obtain ⟨i0, hi, hz0, hz1, hz2⟩ := info_parts Try.info5
  have ln := numF_len10 s.size (by omega)
  go_enter Try.func18, Try.ntmps18
  go_wp2_with fail
  refine (refnum_any s.size (by omega) w).mono ?_
  rintro e w1 ⟨v1, rfl, hF⟩
  have HF : Hid (Forms w w1 v1 (numF s.size)) := hF
  clear hF
  go_wp2_with (at_builtin; refine wpList_append_own_string _ rfl _ _ 33 9 rfl w.heap.size 5 i0 Try.underlying33 Try.underlying9 hi hz0 hz1 hz2 v1 _ _ rfl HF.out.1 s rfl ?c1 ?c2 ?c3 ?_)
  case c1 => unfold maxLen; omega
  case c2 => omega
  case c3 => exact HF.out.2.size
  intro v2 w2 ho hg _
  have F2 := forms_str HF.out ho hg
  clear ho hg
  go_wp2
  go_ret
  exact ⟨v2, rfl, F2⟩

set_option maxHeartbeats 1600000 in
set_option maxRecDepth 1000000 in
theorem dwholeW (neg : Bool) (mag : ByteArray) (hsz : mag.size ≤ 1048576) (w : World) :
    Calls Try.prog 25 #[whole neg mag] w fun e w' => ∃ v, e = .returned v ∧ Forms w w' v (wholeF neg mag) := by
  obtain ⟨i0, hi, hz0, hz1, hz2⟩ := info_parts Try.info5
  cases neg
  · go_enter Try.func25, Try.ntmps25
    go_wp2
    have hc1 : (w.alloc (.cells #[.bool false, .string mag] 24)).cell? ⟨w.heap.size, 1, none⟩ = some (Value.string mag) := by simp
    go_region_held3 (fun w' => w'.cell? ⟨w.heap.size, 1, none⟩ = some (Value.string mag)) (first | go_keep | (rw [hF.cell2 hg3 (by simp)]; assumption) | (rw [hF.cell (by simp)]; assumption)) (first | (go_at_call 11; rw [show (2 : Int) * (mag.size : Int) = ((2 * mag.size + 0 : Nat) : Int) by omega]; refine (refnum_any _ (by omega) _).mono ?_; rintro e w2 ⟨v, rfl, hF⟩) | (refine step_append_str rfl (.tmp 14) (.tmp 16) 33 9 (by rfl) (w.alloc (.cells #[.bool false, .string mag] 24)).heap.size 5 i0 Try.underlying33 Try.underlying9 hi hz0 hz1 hz2 v (numF (2 * mag.size + 0)).length _ (by rfl) hF.1 mag (by rfl) (by have := numF_len (2 * mag.size + 0); unfold maxLen; omega) (by have := numF_len (2 * mag.size + 0); omega) (by have := hF.2.size; simpa using this) ?_; intro v' w3 ho hg3))
    go_wp2
    go_ret
    exact ⟨v', rfl, (forms_str hF ho hg3).lift (grownBy_drew (World.grownBy_alloc _ _ _))⟩
  · go_enter Try.func25, Try.ntmps25
    go_wp2
    have hc1 : (w.alloc (.cells #[.bool true, .string mag] 24)).cell? ⟨w.heap.size, 1, none⟩ = some (Value.string mag) := by simp
    go_region_held3 (fun w' => w'.cell? ⟨w.heap.size, 1, none⟩ = some (Value.string mag)) (first | go_keep | (rw [hF.cell2 hg3 (by simp)]; assumption) | (rw [hF.cell (by simp)]; assumption)) (first | (go_at_call 11; rw [show (2 : Int) * (mag.size : Int) + 1 = ((2 * mag.size + 1 : Nat) : Int) by omega]; refine (refnum_any _ (by omega) _).mono ?_; rintro e w2 ⟨v, rfl, hF⟩) | (refine step_append_str rfl (.tmp 14) (.tmp 16) 33 9 (by rfl) (w.alloc (.cells #[.bool true, .string mag] 24)).heap.size 5 i0 Try.underlying33 Try.underlying9 hi hz0 hz1 hz2 v (numF (2 * mag.size + 1)).length _ (by rfl) hF.1 mag (by rfl) (by have := numF_len (2 * mag.size + 1); unfold maxLen; omega) (by have := numF_len (2 * mag.size + 1); omega) (by have := hF.2.size; simpa using this) ?_; intro v' w3 ho hg3))
    go_wp2
    go_ret
    exact ⟨v', rfl, (forms_str hF ho hg3).lift (grownBy_drew (World.grownBy_alloc _ _ _))⟩

theorem wholeF_le (neg : Bool) (mag : ByteArray) (h : mag.size ≤ 1048576) : (wholeF neg mag).length ≤ 1048600 := by
  have := wholeF_len neg mag
  omega

set_option maxHeartbeats 1600000 in
set_option maxRecDepth 1000000 in
theorem dfracW (a b : WN) (ha : a.2.size ≤ 1048576) (hb : b.2.size ≤ 1048576) (w : World) :
    Calls Try.prog 27 #[fv a b] w fun e w' => ∃ v, e = .returned v ∧ Forms w w' v (fracF a b) := by
  have la := wholeF_le a.1 a.2 ha
  have lb := wholeF_le b.1 b.2 hb
  obtain ⟨na, ma⟩ := a
  obtain ⟨nb, mb⟩ := b
  simp only [] at ha hb la lb
  have HAB : Hid (∀ n m, m.size ≤ 1048576 → ∀ w1, Calls Try.prog 25 #[whole n m] w1 fun e w' => ∃ v, e = .returned v ∧ Forms w1 w' v (wholeF n m)) := fun n m hm w1 => dwholeW n m hm w1
  have HSA : Hid (ma.size ≤ 1048576 ∧ mb.size ≤ 1048576) := ⟨ha, hb⟩
  have HK : Hid (∀ w', (w.alloc (fob (na, ma) (nb, mb))).grownBy w' none → w'.cell? ⟨w.heap.size, 0, none⟩ = some (.bool na) ∧ w'.cell? ⟨w.heap.size, 1, none⟩ = some (.string ma) ∧ w'.cell? ⟨w.heap.size, 2, none⟩ = some (.bool nb) ∧ w'.cell? ⟨w.heap.size, 3, none⟩ = some (.string mb)) := fun w' hg => by
    obtain ⟨_, _, hB⟩ := keptN (heap_alloc_new w (fob (na, ma) (nb, mb))) hg (by simp)
    obtain ⟨a0, a1, a2, a3, _⟩ := cells4 hB
    exact ⟨a0, a1, a2, a3⟩
  clear ha hb
  go_enter Try.func27, Try.ntmps27
  go_wp2
  go_region_held3 (fun w' => w'.cell? ⟨w.heap.size, 0, none⟩ = some (.bool na) ∧ w'.cell? ⟨w.heap.size, 1, none⟩ = some (.string ma) ∧ w'.cell? ⟨w.heap.size, 2, none⟩ = some (.bool nb) ∧ w'.cell? ⟨w.heap.size, 3, none⟩ = some (.string mb))
    (first | (go_keep; done) | exact HK.out _ G3 | exact HK.out _ G2 | exact HK.out _ G1 | exact HK.out _ (grownBy_drewN (World.grownBy.refl _ _) 1) | fail)
    (first
      | (go_at_call 25; have _q := G1; refine (HAB.out nb mb HSA.out.2 _).mono ?_; rintro e w2 ⟨v2, rfl, hF2⟩; have G2 : (w.alloc (fob (na, ma) (nb, mb))).grownBy w2 none := grownBy_trans G1 hF2.2)
      | (go_at_call 25; refine (HAB.out na ma HSA.out.1 _).mono ?_; rintro e w1 ⟨v1, rfl, hF1⟩; have G1 : (w.alloc (fob (na, ma) (nb, mb))).grownBy w1 none := grownBy_undrew hF1.2; have F1 : Forms (w.alloc (fob (na, ma) (nb, mb))) w1 v1 (wholeF na ma) := ⟨hF1.1, G1⟩)
      | (refine step_apps rfl (.tmp 5) (.tmp 8) (by rfl) (w.alloc (fob (na, ma) (nb, mb))).heap.size _ _ (wholeF na ma) (wholeF nb mb) (by rfl) (by rfl) (Src.kept F1.1 hF2.2 (by intro g _ e; cases e)) hF2.src (by omega) G2.size ?_; intro v3 w3 h3; have F3 := Forms.app F1 hF2.2 h3; have G3 := F3.2)
      | fail)
  all_goals
    go_wp2
    go_ret
    exact ⟨v3, rfl, F3.lift (World.grownBy_alloc _ _ _)⟩
end Go.Proofs.Ytanbnefdodkniaa
