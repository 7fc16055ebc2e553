/-
  The document's Shift.
  The document's fits: is a digit times a divisor at most what stands in a window.
-/
import Derived.Test.YtjenbicaepldlaaGreatDoorBunRdn
import Derived.Test.YtjenbicaepldlaaGreatDoorBunRed
import Derived.Test.YtjenbicaepldlaaGreatDoorBunTtm
import Derived.Test.YtjenbicaepldlaaGreatDoorBunPrd
namespace Go.Proofs.YtjenbicaepldlaaGreatDoor
open Go.RowKit Go.Lib Go.Sort

/-- Rounded up: the quotient, or one more. -/
theorem ceil_eq (v k : Nat) (hv : 0 < v) : (v - 1) / 2 ^ k + 1 = v / 2 ^ k + (if v / 2 ^ k * 2 ^ k = v then 0 else 1) := by
  have hp : 0 < 2 ^ k := Nat.pow_pos (by decide)
  generalize 2 ^ k = P at *
  have h1 := Nat.div_add_mod v P
  have h2 := Nat.mod_lt v hp
  generalize v / P = q at *
  generalize v % P = r at *
  by_cases h0 : r = 0
  · subst h0
    obtain ⟨q, rfl⟩ : ∃ q', q = q' + 1 := ⟨q - 1, by
      rcases Nat.eq_zero_or_pos q with e | e
      · subst e; simp at h1; omega
      · omega⟩
    rw [Nat.mul_add] at h1
    have e : v - 1 = P * q + (P - 1) := by omega
    rw [e, Nat.mul_add_div hp, Nat.div_eq_of_lt (by omega), if_pos (by rw [Nat.add_mul, Nat.mul_comm q P]; omega)]
  · have e : v - 1 = P * q + (r - 1) := by omega
    rw [e, Nat.mul_add_div hp, Nat.div_eq_of_lt (by omega), if_neg (by rw [Nat.mul_comm q P]; omega)]
theorem val8 (m : ByteArray) : val (bN m) < 2 ^ (8 * m.size) := by
  have := val_lt (bN m) (bN_rng m)
  rwa [bN_length, show (256 : Nat) = 2 ^ 8 from rfl, ← Nat.pow_mul] at this
def flo (mag : ByteArray) (k : Nat) : Nat := val (bN mag) / 2 ^ k
def cei (mag : ByteArray) (k : Nat) : Nat := val (bN mag) / 2 ^ k + (if val (bN mag) / 2 ^ k * 2 ^ k = val (bN mag) then 0 else 1)
/-- What Shift answers: the number of this sign and this magnitude. -/
def RsQ (neg : Bool) (C : Nat) (w : World) (e : Ending) (w' : World) : Prop := ∃ s, e = .returned (whole (neg && decide (C ≠ 0)) s) ∧ bN s = magN C ∧ w.grownBy w' none
/-- The block of the argument, and that of the result. -/
theorem rblks {n1 : Bool} {m1 : ByteArray} {w w1 : World} (g : ((w.alloc (wObj n1 m1)).alloc (wObj false eS)).grownBy w1 none) :
    w1.cell? ⟨w.heap.size, 0, none⟩ = some (.bool n1) ∧ w1.cell? ⟨w.heap.size, 1, none⟩ = some (.string m1) := ⟨(blks2 g).1.c0, (blks2 g).1.c1⟩

set_option maxHeartbeats 3200000 in
set_option maxRecDepth 1000000 in
theorem rShift_up (neg : Bool) (mag : ByteArray) (hm : mag.size ≤ 16384) (n : Nat) (hn : n ≤ 131072) (w : World) :
    Calls Tryz.prog 19 #[whole neg mag, .int .i64 (n : Int)] w fun e w' => ∃ b s, e = .returned (whole b s) ∧ IsZ (shz (num neg mag) (n : Int)) b s ∧ w.grownBy w' none := by
  have hnI : (n : Int) ≤ 131072 := by omega
  go_enter Tryz.func19, Tryz.ntmps19
  go_wp2_with fail
  refine (words_any mag hm _).mono ?_
  rintro e w1 ⟨B, L, rfl, hB, hb, g1, hl, hr, hv⟩
  have HG1 : Hid (((w.alloc (wObj neg mag)).alloc (wObj false eS)).grownBy w1 none) := g1
  have HU : Hid (∀ W, w1.grownBy W none → Calls Tryz.prog 59 #[.slice (some ⟨B, 0, none⟩) L.length L.length, .int .i64 (n : Int)] W fun e w' => ∃ v K, e = .returned v ∧ D4 w' v K ∧ (∀ x ∈ K, x < B32) ∧ nv B32 K = val (bN mag) * 2 ^ n ∧ K.length ≤ 100000 ∧ W.grownBy w' none) := fun W hW => by
    refine (up_any W _ L n (hb.d4.kept hW) hr (by omega) (by omega)).mono ?_
    rintro e w' ⟨v, K, rfl, d, r, nk, lk, _, g⟩
    exact ⟨v, K, rfl, d, r, by rw [nk, hv], by omega, g⟩
  have HZ : Hid (∀ s, bN s = magN (val (bN mag) * 2 ^ n) → IsZ (shz (num neg mag) (n : Int)) (neg && decide (val (bN mag) * 2 ^ n ≠ 0)) s) := fun s hs => isZ_made (by rw [shz_up]; cases neg <;> simp [num_f, num_t, Int.neg_mul]) hs
  obtain ⟨a0, a1⟩ := rblks g1
  have HKK : Hid (∀ w', (w.alloc (wObj neg mag)).grownBy w' none → w'.cell? ⟨w.heap.size, 0, none⟩ = some (Value.bool neg) ∧ w'.cell? ⟨w.heap.size, 1, none⟩ = some (Value.string mag)) := keep1 w neg mag
  have HRF : Hid (w1.grownBy w1 none ∧ w1.grownBy w1.drew none) := ⟨World.grownBy.refl _ _, grow_drew (World.grownBy.refl _ _)⟩
  clear hB hb g1 hl hr hv
  go_wp2_with fail
  go_region_held3 (fun w' => w'.cell? ⟨w.heap.size, 0, none⟩ = some (Value.bool neg) ∧ w'.cell? ⟨w.heap.size, 1, none⟩ = some (Value.string mag))
    (first | (go_keep; done) | exact HKK.out _ (grownBy_trans (grow1 _ _) (by assumption)) | exact HKK.out _ (grown_set (grown_set (grownBy_trans (grow1 _ _) GM) (by simp)) (by simp)) | exact HKK.out _ (grow_drew (grownBy_trans (grow1 _ _) HG1.out)) | fail)
    (first
      | (go_at_call 59; refine (HU.out _ (by first | exact HRF.out.1 | exact HRF.out.2)).mono ?_; rintro e wP ⟨vP, K, rfl, hDK, hRK, hVK, hLK, hGK⟩; have GP : ((w.alloc (wObj neg mag)).alloc (wObj false eS)).grownBy wP none := (by first | exact grownBy_trans HG1.out hGK | exact grownBy_trans HG1.out (grownBy_undrew hGK) | fail))
      | (go_at_call 47; refine (made_any neg _ _ K hDK hRK (by omega)).mono ?_; rw [hVK]; rintro e wM ⟨ss, rfl, hs, hGM⟩; have GM : ((w.alloc (wObj neg mag)).alloc (wObj false eS)).grownBy wM none := grownBy_trans GP hGM; have HZ2 : Hid (IsZ (shz (num neg mag) (n : Int)) (neg && decide (val (bN mag) * 2 ^ n ≠ 0)) ss) := HZ.out ss hs; obtain ⟨_, hb⟩ := blks2 GM; have hc0 := hb.c0; have hc1 := hb.c1; have hf0 := hb.fr 0; have hf1 := hb.fr 1; obtain ⟨bb, hbb⟩ : ∃ bb, (neg && decide (val (bN mag) * 2 ^ n ≠ 0)) = bb := ⟨_, rfl⟩; rw [hbb] at HZ2 ⊢)
      | fail)
  go_wp2_with fail
  refine bodyPost_ret (res_cell rfl _ _ (w.heap.size + 1) _ _ _ _ rfl (hb.put _ _)) rfl ?_
  exact ⟨_, _, rfl, HZ2.out, grown_set (grown_set (grownBy_trans (grow2 _ _ _) GM) (by omega)) (by omega)⟩

set_option maxHeartbeats 3200000 in
set_option maxRecDepth 1000000 in
theorem rShift_p_near (mag : ByteArray) (hm : mag.size ≤ 16384) (hmay : may false mag = true) (n : Int) (hn0 : n < 0) (hn1 : -9223372036854775808 ≤ n) (hn : -8 * (mag.size : Int) ≤ n) (k : Nat) (hk : (k : Int) = -n) (w : World) :
    Calls Tryz.prog 19 #[whole false mag, .int .i64 n] w (RsQ false (flo mag k) w) := by
  have hsI : (mag.size : Int) ≤ 16384 := by omega
  have hkI : (k : Int) ≤ 131073 := by omega
  have hk2 : -n = (k : Int) := hk.symm
  have HKN : Hid (k ≤ 131073) := (by omega : k ≤ 131073)
  clear hk
  go_enter Tryz.func19, Tryz.ntmps19
  go_wp2_with fail
  refine (words_any mag hm _).mono ?_
  rintro e w1 ⟨B, L, rfl, hB, hb, g1, hl, hr, hv⟩
  have HG1 : Hid (((w.alloc (wObj false mag)).alloc (wObj false eS)).grownBy w1 none) := g1
  have HL : Hid (BlkL w1 B 72 enc4 (ints L) ∧ L.length ≤ 4096 ∧ (∀ x ∈ L, x < B32) ∧ nv B32 L = val (bN mag) ∧ Trim L) := ⟨hb, by omega, hr, hv, trim_digits hmay hl hr hv⟩
  obtain ⟨a0, a1⟩ := rblks g1
  clear hB hb g1 hl hr hv
  go_wp2_with fail
  have hD := down_any w1 (.slice (some ⟨B, 0, none⟩) L.length L.length) L k HL.out.1.d4 HL.out.2.2.1 (by have := HL.out.2.1; omega) (by have := HKN.out; omega)
  rw [HL.out.2.2.2.1] at hD
  have HD : Hid (Calls Tryz.prog 60 #[.slice (some ⟨B, 0, none⟩) L.length L.length, .int .i64 (k : Int)] w1 fun e w' => ∃ v K, e = .returned v ∧ D4 w' v K ∧ (∀ x ∈ K, x < B32) ∧ nv B32 K = val (bN mag) / 2 ^ k ∧ K.length ≤ L.length ∧ Trim K ∧ w1.grownBy w' none) := hD
  clear hD a0 a1
  refine HD.out.mono ?_
  rintro e w2 ⟨v2, K2, rfl, d2, r2, n2, l2, t2, g2⟩
  have HG2 : Hid (((w.alloc (wObj false mag)).alloc (wObj false eS)).grownBy w2 none) := grownBy_trans HG1.out g2
  have H2 : Hid (D4 w2 v2 K2 ∧ (∀ x ∈ K2, x < B32) ∧ nv B32 K2 = val (bN mag) / 2 ^ k ∧ K2.length ≤ 4096 ∧ Trim K2 ∧ w1.grownBy w2 none) := ⟨d2, r2, n2, Nat.le_trans l2 HL.out.2.1, t2, g2⟩
  obtain ⟨a0, a1⟩ := rblks HG2.out
  clear d2 r2 n2 l2 t2 g2 HD
  go_wp2_with fail
  have hM := made_any false w2 v2 K2 H2.out.1 H2.out.2.1 (by have := H2.out.2.2.2.1; omega)
  obtain ⟨D, hDD⟩ : ∃ D, nv B32 K2 = D := ⟨_, rfl⟩
  rw [hDD] at hM
  have HDD : Hid (D = val (bN mag) / 2 ^ k) := (by rw [← hDD]; exact H2.out.2.2.1 : D = val (bN mag) / 2 ^ k)
  have hM2 : Calls Tryz.prog 47 #[.bool false, v2] w2 fun e w' => ∃ s, e = .returned (whole false s) ∧ bN s = magN D ∧ w2.grownBy w' none := hM
  have HM : Hid (Calls Tryz.prog 47 #[.bool false, v2] w2 fun e w' => ∃ s, e = .returned (whole false s) ∧ bN s = magN D ∧ w2.grownBy w' none) := hM2
  have HGM := HG2
  clear hM hM2 hDD a0 a1
  refine HM.out.mono ?_
  rintro e w9 ⟨ss, rfl, hs, g9⟩
  have GM : ((w.alloc (wObj false mag)).alloc (wObj false eS)).grownBy w9 none := grownBy_trans HGM.out g9
  obtain ⟨_, hb⟩ := blks2 GM
  have hc0 := hb.c0
  have hc1 := hb.c1
  have hf0 := hb.fr 0
  have hf1 := hb.fr 1
  have HSS : Hid (bN ss = magN D ∧ w.grownBy w9 none) := ⟨hs, grownBy_trans (grow2 _ _ _) GM⟩
  clear GM g9 hs HM HGM
  go_wp2_with fail
  refine bodyPost_ret (res_cell rfl _ _ (w.heap.size + 1) _ _ _ _ rfl (hb.put _ _)) rfl ?_
  exact ⟨ss, rfl, by rw [show flo mag k = D from HDD.out.symm]; exact HSS.out.1, grown_set (grown_set HSS.out.2 (by omega)) (by omega)⟩

set_option maxHeartbeats 3200000 in
set_option maxRecDepth 1000000 in
theorem rShift_p_far (mag : ByteArray) (hm : mag.size ≤ 16384) (hmay : may false mag = true) (n : Int) (hn0 : n < 0) (hn1 : -9223372036854775808 ≤ n) (hn : n < -8 * (mag.size : Int)) (k : Nat) (hk : k = 8 * mag.size + 1) (w : World) :
    Calls Tryz.prog 19 #[whole false mag, .int .i64 n] w (RsQ false (flo mag k) w) := by
  have hsI : (mag.size : Int) ≤ 16384 := by omega
  have hkI : (k : Int) ≤ 131073 := by omega
  have hk2 : -(-8 * (mag.size : Int) - 1) = (k : Int) := by omega
  have HKN : Hid (k ≤ 131073) := (by omega : k ≤ 131073)
  clear hk
  go_enter Tryz.func19, Tryz.ntmps19
  go_wp2_with fail
  refine (words_any mag hm _).mono ?_
  rintro e w1 ⟨B, L, rfl, hB, hb, g1, hl, hr, hv⟩
  have HG1 : Hid (((w.alloc (wObj false mag)).alloc (wObj false eS)).grownBy w1 none) := g1
  have HL : Hid (BlkL w1 B 72 enc4 (ints L) ∧ L.length ≤ 4096 ∧ (∀ x ∈ L, x < B32) ∧ nv B32 L = val (bN mag) ∧ Trim L) := ⟨hb, by omega, hr, hv, trim_digits hmay hl hr hv⟩
  obtain ⟨a0, a1⟩ := rblks g1
  clear hB hb g1 hl hr hv
  go_wp2_with fail
  have hD := down_any w1 (.slice (some ⟨B, 0, none⟩) L.length L.length) L k HL.out.1.d4 HL.out.2.2.1 (by have := HL.out.2.1; omega) (by have := HKN.out; omega)
  rw [HL.out.2.2.2.1] at hD
  have HD : Hid (Calls Tryz.prog 60 #[.slice (some ⟨B, 0, none⟩) L.length L.length, .int .i64 (k : Int)] w1 fun e w' => ∃ v K, e = .returned v ∧ D4 w' v K ∧ (∀ x ∈ K, x < B32) ∧ nv B32 K = val (bN mag) / 2 ^ k ∧ K.length ≤ L.length ∧ Trim K ∧ w1.grownBy w' none) := hD
  clear hD a0 a1
  refine HD.out.mono ?_
  rintro e w2 ⟨v2, K2, rfl, d2, r2, n2, l2, t2, g2⟩
  have HG2 : Hid (((w.alloc (wObj false mag)).alloc (wObj false eS)).grownBy w2 none) := grownBy_trans HG1.out g2
  have H2 : Hid (D4 w2 v2 K2 ∧ (∀ x ∈ K2, x < B32) ∧ nv B32 K2 = val (bN mag) / 2 ^ k ∧ K2.length ≤ 4096 ∧ Trim K2 ∧ w1.grownBy w2 none) := ⟨d2, r2, n2, Nat.le_trans l2 HL.out.2.1, t2, g2⟩
  obtain ⟨a0, a1⟩ := rblks HG2.out
  clear d2 r2 n2 l2 t2 g2 HD
  go_wp2_with fail
  have hM := made_any false w2 v2 K2 H2.out.1 H2.out.2.1 (by have := H2.out.2.2.2.1; omega)
  obtain ⟨D, hDD⟩ : ∃ D, nv B32 K2 = D := ⟨_, rfl⟩
  rw [hDD] at hM
  have HDD : Hid (D = val (bN mag) / 2 ^ k) := (by rw [← hDD]; exact H2.out.2.2.1 : D = val (bN mag) / 2 ^ k)
  have hM2 : Calls Tryz.prog 47 #[.bool false, v2] w2 fun e w' => ∃ s, e = .returned (whole false s) ∧ bN s = magN D ∧ w2.grownBy w' none := hM
  have HM : Hid (Calls Tryz.prog 47 #[.bool false, v2] w2 fun e w' => ∃ s, e = .returned (whole false s) ∧ bN s = magN D ∧ w2.grownBy w' none) := hM2
  have HGM := HG2
  clear hM hM2 hDD a0 a1
  refine HM.out.mono ?_
  rintro e w9 ⟨ss, rfl, hs, g9⟩
  have GM : ((w.alloc (wObj false mag)).alloc (wObj false eS)).grownBy w9 none := grownBy_trans HGM.out g9
  obtain ⟨_, hb⟩ := blks2 GM
  have hc0 := hb.c0
  have hc1 := hb.c1
  have hf0 := hb.fr 0
  have hf1 := hb.fr 1
  have HSS : Hid (bN ss = magN D ∧ w.grownBy w9 none) := ⟨hs, grownBy_trans (grow2 _ _ _) GM⟩
  clear GM g9 hs HM HGM
  go_wp2_with fail
  refine bodyPost_ret (res_cell rfl _ _ (w.heap.size + 1) _ _ _ _ rfl (hb.put _ _)) rfl ?_
  exact ⟨ss, rfl, by rw [show flo mag k = D from HDD.out.symm]; exact HSS.out.1, grown_set (grown_set HSS.out.2 (by omega)) (by omega)⟩

set_option maxHeartbeats 3200000 in
set_option maxRecDepth 1000000 in
theorem rShift_t_near (mag : ByteArray) (hm : mag.size ≤ 16384) (hmay : may true mag = true) (n : Int) (hn0 : n < 0) (hn1 : -9223372036854775808 ≤ n) (hn : -8 * (mag.size : Int) ≤ n) (k : Nat) (hk : (k : Int) = -n) (w : World) :
    Calls Tryz.prog 19 #[whole true mag, .int .i64 n] w (RsQ true (cei mag k) w) := by
  have hsI : (mag.size : Int) ≤ 16384 := by omega
  have hkI : (k : Int) ≤ 131073 := by omega
  have hk2 : -n = (k : Int) := hk.symm
  have HKN : Hid (k ≤ 131073) := (by omega : k ≤ 131073)
  clear hk
  go_enter Tryz.func19, Tryz.ntmps19
  go_wp2_with fail
  refine (words_any mag hm _).mono ?_
  rintro e w1 ⟨B, L, rfl, hB, hb, g1, hl, hr, hv⟩
  have HG1 : Hid (((w.alloc (wObj true mag)).alloc (wObj false eS)).grownBy w1 none) := g1
  have HL : Hid (BlkL w1 B 72 enc4 (ints L) ∧ L.length ≤ 4096 ∧ (∀ x ∈ L, x < B32) ∧ nv B32 L = val (bN mag) ∧ Trim L) := ⟨hb, by omega, hr, hv, trim_digits hmay hl hr hv⟩
  obtain ⟨a0, a1⟩ := rblks g1
  clear hB hb g1 hl hr hv
  go_wp2_with fail
  have hD := down_any w1 (.slice (some ⟨B, 0, none⟩) L.length L.length) L k HL.out.1.d4 HL.out.2.2.1 (by have := HL.out.2.1; omega) (by have := HKN.out; omega)
  rw [HL.out.2.2.2.1] at hD
  have HD : Hid (Calls Tryz.prog 60 #[.slice (some ⟨B, 0, none⟩) L.length L.length, .int .i64 (k : Int)] w1 fun e w' => ∃ v K, e = .returned v ∧ D4 w' v K ∧ (∀ x ∈ K, x < B32) ∧ nv B32 K = val (bN mag) / 2 ^ k ∧ K.length ≤ L.length ∧ Trim K ∧ w1.grownBy w' none) := hD
  clear hD a0 a1
  refine HD.out.mono ?_
  rintro e w2 ⟨v2, K2, rfl, d2, r2, n2, l2, t2, g2⟩
  have HG2 : Hid (((w.alloc (wObj true mag)).alloc (wObj false eS)).grownBy w2 none) := grownBy_trans HG1.out g2
  have H2 : Hid (D4 w2 v2 K2 ∧ (∀ x ∈ K2, x < B32) ∧ nv B32 K2 = val (bN mag) / 2 ^ k ∧ K2.length ≤ 4096 ∧ Trim K2 ∧ w1.grownBy w2 none) := ⟨d2, r2, n2, Nat.le_trans l2 HL.out.2.1, t2, g2⟩
  obtain ⟨a0, a1⟩ := rblks HG2.out
  clear d2 r2 n2 l2 t2 g2 HD
  go_wp2_with fail
  have hU := up_any w2 v2 K2 k H2.out.1 H2.out.2.1 (by have := H2.out.2.2.2.1; omega) (by have := HKN.out; omega)
  rw [H2.out.2.2.1] at hU
  have HU : Hid (Calls Tryz.prog 59 #[v2, .int .i64 (k : Int)] w2 fun e w' => ∃ v K, e = .returned v ∧ D4 w' v K ∧ (∀ x ∈ K, x < B32) ∧ nv B32 K = val (bN mag) / 2 ^ k * 2 ^ k ∧ K.length ≤ k / 32 + K2.length + 1 ∧ Trim K ∧ w2.grownBy w' none) := hU
  clear hU a0 a1
  refine HU.out.mono ?_
  rintro e w3 ⟨v3, K3, rfl, d3, r3, n3, l3, t3, g3⟩
  have HG3 : Hid (((w.alloc (wObj true mag)).alloc (wObj false eS)).grownBy w3 none) := grownBy_trans HG2.out g3
  have hN := under_any w3 v3 (.slice (some ⟨B, 0, none⟩) L.length L.length) K3 L d3 ((HL.out.1.kept (grownBy_trans H2.out.2.2.2.2.2 g3) (by simp)).d4) r3 HL.out.2.2.1 t3 HL.out.2.2.2.2 (by have := HKN.out; have := H2.out.2.2.2.1; omega) (by have := HL.out.2.1; omega)
  rw [n3, HL.out.2.2.2.1] at hN
  obtain ⟨cv, hcv⟩ : ∃ cv, cmpN (val (bN mag) / 2 ^ k * 2 ^ k) (val (bN mag)) = cv := ⟨_, rfl⟩
  rw [hcv] at hN
  have HN : Hid (Calls Tryz.prog 49 #[v3, .slice (some ⟨B, 0, none⟩) L.length L.length] w3 fun e w' => e = .returned (.int .i64 cv) ∧ w3.grownBy w' none) := hN
  have HCV : Hid (cv = 0 ↔ val (bN mag) / 2 ^ k * 2 ^ k = val (bN mag)) := (by rw [← hcv]; unfold cmpN; constructor <;> intro h <;> (repeat' split at h) <;> (try omega) <;> (repeat' split) <;> omega : cv = 0 ↔ val (bN mag) / 2 ^ k * 2 ^ k = val (bN mag))
  have H3 : Hid (D4 w3 v2 K2) := H2.out.1.kept g3
  clear hN hcv d3 r3 n3 l3 t3 g3 HU
  go_wp2_with fail
  refine HN.out.mono ?_
  rintro e w4 ⟨rfl, g4⟩
  have HG4 : Hid (((w.alloc (wObj true mag)).alloc (wObj false eS)).grownBy w4 none) := grownBy_trans HG3.out g4
  have H4 : Hid (D4 w4 v2 K2) := H3.out.kept g4
  clear g4 HN
  by_cases h0 : cv = 0
  · subst h0
    have hM := made_any true w4 v2 K2 H4.out H2.out.2.1 (by have := H2.out.2.2.2.1; omega)
    obtain ⟨D, hDD⟩ : ∃ D, nv B32 K2 = D := ⟨_, rfl⟩
    rw [hDD] at hM
    have HDD : Hid (D = val (bN mag) / 2 ^ k + (if val (bN mag) / 2 ^ k * 2 ^ k = val (bN mag) then 0 else 1)) := (by rw [if_pos (HCV.out.1 rfl), ← hDD]; exact H2.out.2.2.1 : D = val (bN mag) / 2 ^ k + (if val (bN mag) / 2 ^ k * 2 ^ k = val (bN mag) then 0 else 1))
    obtain ⟨bb, hbb⟩ : ∃ bb, (true && decide (D ≠ 0)) = bb := ⟨_, rfl⟩
    have HBB : Hid ((true && decide (D ≠ 0)) = bb) := hbb
    rw [hbb] at hM
    have HM : Hid (Calls Tryz.prog 47 #[.bool true, v2] w4 fun e w' => ∃ s, e = .returned (whole bb s) ∧ bN s = magN D ∧ w4.grownBy w' none) := hM
    obtain ⟨a0, a1⟩ := rblks HG4.out
    have HGM := HG4
    clear hM hDD hbb
    go_wp2_with fail
    clear a0 a1
    refine HM.out.mono ?_
    rintro e w9 ⟨ss, rfl, hs, g9⟩
    have GM : ((w.alloc (wObj true mag)).alloc (wObj false eS)).grownBy w9 none := grownBy_trans HGM.out g9
    obtain ⟨_, hb⟩ := blks2 GM
    have hc0 := hb.c0
    have hc1 := hb.c1
    have hf0 := hb.fr 0
    have hf1 := hb.fr 1
    have HSS : Hid (bN ss = magN D ∧ w.grownBy w9 none) := ⟨hs, grownBy_trans (grow2 _ _ _) GM⟩
    clear GM g9 hs HM HGM
    go_wp2_with fail
    refine bodyPost_ret (res_cell rfl _ _ (w.heap.size + 1) _ _ _ _ rfl (hb.put _ _)) rfl ?_
    exact ⟨ss, by rw [show cei mag k = D from HDD.out.symm, HBB.out], by rw [show cei mag k = D from HDD.out.symm]; exact HSS.out.1, grown_set (grown_set HSS.out.2 (by omega)) (by omega)⟩
  · have hcb : (cv == 0) = false := by rw [beq_eq_false_iff_ne]; exact h0
    have hcn : (cv != 0) = true := by rw [bne_iff_ne]; exact h0
    have hMo := more_any (w4.alloc (.cells #[.int .u32 1] 72)) v2 (.slice (some ⟨w4.heap.size, 0, none⟩) 1 1) K2 [1] (H4.out.kept (grow1 _ _)) (one_new w4) H2.out.2.1 (by intro x hx; simp at hx; subst hx; decide) (by have := H2.out.2.2.2.1; omega) (by simp)
    have HMo : Hid (Calls Tryz.prog 48 #[v2, .slice (some ⟨w4.heap.size, 0, none⟩) 1 1] (w4.alloc (.cells #[.int .u32 1] 72)) fun e w' => ∃ v K, e = .returned v ∧ D4 w' v K ∧ (∀ x ∈ K, x < B32) ∧ nv B32 K = nv B32 K2 + nv B32 [1] ∧ K.length ≤ max K2.length [1].length + 1 ∧ (K.length = 0 ∨ K[K.length - 1]?.getD 0 ≠ 0) ∧ (w4.alloc (.cells #[.int .u32 1] 72)).grownBy w' none) := hMo
    have HC0 : Hid (cv ≠ 0) := h0
    clear hMo h0
    go_wp2_with fail
    refine HMo.out.mono ?_
    rintro e w5 ⟨v5, K5, rfl, d5, r5, n5, l5, _, g5⟩
    have HG5 : Hid (((w.alloc (wObj true mag)).alloc (wObj false eS)).grownBy w5 none) := grownBy_trans HG4.out (grownBy_trans (grow1 _ _) g5)
    have hM := made_any true w5 v5 K5 d5 r5 (by have := H2.out.2.2.2.1; simp at l5; omega)
    obtain ⟨D, hDD⟩ : ∃ D, nv B32 K5 = D := ⟨_, rfl⟩
    rw [hDD] at hM
    have HDD : Hid (D = val (bN mag) / 2 ^ k + (if val (bN mag) / 2 ^ k * 2 ^ k = val (bN mag) then 0 else 1)) := (by rw [if_neg (fun h => HC0.out (HCV.out.2 h)), ← hDD, n5, H2.out.2.2.1]; simp [nv] : D = val (bN mag) / 2 ^ k + (if val (bN mag) / 2 ^ k * 2 ^ k = val (bN mag) then 0 else 1))
    obtain ⟨bb, hbb⟩ : ∃ bb, (true && decide (D ≠ 0)) = bb := ⟨_, rfl⟩
    have HBB : Hid ((true && decide (D ≠ 0)) = bb) := hbb
    rw [hbb] at hM
    have HM : Hid (Calls Tryz.prog 47 #[.bool true, v5] w5 fun e w' => ∃ s, e = .returned (whole bb s) ∧ bN s = magN D ∧ w5.grownBy w' none) := hM
    obtain ⟨a0, a1⟩ := rblks HG5.out
    have HGM := HG5
    clear hM hDD hbb d5 r5 n5 l5 g5 HMo
    go_wp2_with fail
    clear a0 a1
    refine HM.out.mono ?_
    rintro e w9 ⟨ss, rfl, hs, g9⟩
    have GM : ((w.alloc (wObj true mag)).alloc (wObj false eS)).grownBy w9 none := grownBy_trans HGM.out g9
    obtain ⟨_, hb⟩ := blks2 GM
    have hc0 := hb.c0
    have hc1 := hb.c1
    have hf0 := hb.fr 0
    have hf1 := hb.fr 1
    have HSS : Hid (bN ss = magN D ∧ w.grownBy w9 none) := ⟨hs, grownBy_trans (grow2 _ _ _) GM⟩
    clear GM g9 hs HM HGM
    go_wp2_with fail
    refine bodyPost_ret (res_cell rfl _ _ (w.heap.size + 1) _ _ _ _ rfl (hb.put _ _)) rfl ?_
    exact ⟨ss, by rw [show cei mag k = D from HDD.out.symm, HBB.out], by rw [show cei mag k = D from HDD.out.symm]; exact HSS.out.1, grown_set (grown_set HSS.out.2 (by omega)) (by omega)⟩

set_option maxHeartbeats 3200000 in
set_option maxRecDepth 1000000 in
theorem rShift_t_far (mag : ByteArray) (hm : mag.size ≤ 16384) (hmay : may true mag = true) (n : Int) (hn0 : n < 0) (hn1 : -9223372036854775808 ≤ n) (hn : n < -8 * (mag.size : Int)) (k : Nat) (hk : k = 8 * mag.size + 1) (w : World) :
    Calls Tryz.prog 19 #[whole true mag, .int .i64 n] w (RsQ true (cei mag k) w) := by
  have hsI : (mag.size : Int) ≤ 16384 := by omega
  have hkI : (k : Int) ≤ 131073 := by omega
  have hk2 : -(-8 * (mag.size : Int) - 1) = (k : Int) := by omega
  have HKN : Hid (k ≤ 131073) := (by omega : k ≤ 131073)
  clear hk
  go_enter Tryz.func19, Tryz.ntmps19
  go_wp2_with fail
  refine (words_any mag hm _).mono ?_
  rintro e w1 ⟨B, L, rfl, hB, hb, g1, hl, hr, hv⟩
  have HG1 : Hid (((w.alloc (wObj true mag)).alloc (wObj false eS)).grownBy w1 none) := g1
  have HL : Hid (BlkL w1 B 72 enc4 (ints L) ∧ L.length ≤ 4096 ∧ (∀ x ∈ L, x < B32) ∧ nv B32 L = val (bN mag) ∧ Trim L) := ⟨hb, by omega, hr, hv, trim_digits hmay hl hr hv⟩
  obtain ⟨a0, a1⟩ := rblks g1
  clear hB hb g1 hl hr hv
  go_wp2_with fail
  have hD := down_any w1 (.slice (some ⟨B, 0, none⟩) L.length L.length) L k HL.out.1.d4 HL.out.2.2.1 (by have := HL.out.2.1; omega) (by have := HKN.out; omega)
  rw [HL.out.2.2.2.1] at hD
  have HD : Hid (Calls Tryz.prog 60 #[.slice (some ⟨B, 0, none⟩) L.length L.length, .int .i64 (k : Int)] w1 fun e w' => ∃ v K, e = .returned v ∧ D4 w' v K ∧ (∀ x ∈ K, x < B32) ∧ nv B32 K = val (bN mag) / 2 ^ k ∧ K.length ≤ L.length ∧ Trim K ∧ w1.grownBy w' none) := hD
  clear hD a0 a1
  refine HD.out.mono ?_
  rintro e w2 ⟨v2, K2, rfl, d2, r2, n2, l2, t2, g2⟩
  have HG2 : Hid (((w.alloc (wObj true mag)).alloc (wObj false eS)).grownBy w2 none) := grownBy_trans HG1.out g2
  have H2 : Hid (D4 w2 v2 K2 ∧ (∀ x ∈ K2, x < B32) ∧ nv B32 K2 = val (bN mag) / 2 ^ k ∧ K2.length ≤ 4096 ∧ Trim K2 ∧ w1.grownBy w2 none) := ⟨d2, r2, n2, Nat.le_trans l2 HL.out.2.1, t2, g2⟩
  obtain ⟨a0, a1⟩ := rblks HG2.out
  clear d2 r2 n2 l2 t2 g2 HD
  go_wp2_with fail
  have hU := up_any w2 v2 K2 k H2.out.1 H2.out.2.1 (by have := H2.out.2.2.2.1; omega) (by have := HKN.out; omega)
  rw [H2.out.2.2.1] at hU
  have HU : Hid (Calls Tryz.prog 59 #[v2, .int .i64 (k : Int)] w2 fun e w' => ∃ v K, e = .returned v ∧ D4 w' v K ∧ (∀ x ∈ K, x < B32) ∧ nv B32 K = val (bN mag) / 2 ^ k * 2 ^ k ∧ K.length ≤ k / 32 + K2.length + 1 ∧ Trim K ∧ w2.grownBy w' none) := hU
  clear hU a0 a1
  refine HU.out.mono ?_
  rintro e w3 ⟨v3, K3, rfl, d3, r3, n3, l3, t3, g3⟩
  have HG3 : Hid (((w.alloc (wObj true mag)).alloc (wObj false eS)).grownBy w3 none) := grownBy_trans HG2.out g3
  have hN := under_any w3 v3 (.slice (some ⟨B, 0, none⟩) L.length L.length) K3 L d3 ((HL.out.1.kept (grownBy_trans H2.out.2.2.2.2.2 g3) (by simp)).d4) r3 HL.out.2.2.1 t3 HL.out.2.2.2.2 (by have := HKN.out; have := H2.out.2.2.2.1; omega) (by have := HL.out.2.1; omega)
  rw [n3, HL.out.2.2.2.1] at hN
  obtain ⟨cv, hcv⟩ : ∃ cv, cmpN (val (bN mag) / 2 ^ k * 2 ^ k) (val (bN mag)) = cv := ⟨_, rfl⟩
  rw [hcv] at hN
  have HN : Hid (Calls Tryz.prog 49 #[v3, .slice (some ⟨B, 0, none⟩) L.length L.length] w3 fun e w' => e = .returned (.int .i64 cv) ∧ w3.grownBy w' none) := hN
  have HCV : Hid (cv = 0 ↔ val (bN mag) / 2 ^ k * 2 ^ k = val (bN mag)) := (by rw [← hcv]; unfold cmpN; constructor <;> intro h <;> (repeat' split at h) <;> (try omega) <;> (repeat' split) <;> omega : cv = 0 ↔ val (bN mag) / 2 ^ k * 2 ^ k = val (bN mag))
  have H3 : Hid (D4 w3 v2 K2) := H2.out.1.kept g3
  clear hN hcv d3 r3 n3 l3 t3 g3 HU
  go_wp2_with fail
  refine HN.out.mono ?_
  rintro e w4 ⟨rfl, g4⟩
  have HG4 : Hid (((w.alloc (wObj true mag)).alloc (wObj false eS)).grownBy w4 none) := grownBy_trans HG3.out g4
  have H4 : Hid (D4 w4 v2 K2) := H3.out.kept g4
  clear g4 HN
  by_cases h0 : cv = 0
  · subst h0
    have hM := made_any true w4 v2 K2 H4.out H2.out.2.1 (by have := H2.out.2.2.2.1; omega)
    obtain ⟨D, hDD⟩ : ∃ D, nv B32 K2 = D := ⟨_, rfl⟩
    rw [hDD] at hM
    have HDD : Hid (D = val (bN mag) / 2 ^ k + (if val (bN mag) / 2 ^ k * 2 ^ k = val (bN mag) then 0 else 1)) := (by rw [if_pos (HCV.out.1 rfl), ← hDD]; exact H2.out.2.2.1 : D = val (bN mag) / 2 ^ k + (if val (bN mag) / 2 ^ k * 2 ^ k = val (bN mag) then 0 else 1))
    obtain ⟨bb, hbb⟩ : ∃ bb, (true && decide (D ≠ 0)) = bb := ⟨_, rfl⟩
    have HBB : Hid ((true && decide (D ≠ 0)) = bb) := hbb
    rw [hbb] at hM
    have HM : Hid (Calls Tryz.prog 47 #[.bool true, v2] w4 fun e w' => ∃ s, e = .returned (whole bb s) ∧ bN s = magN D ∧ w4.grownBy w' none) := hM
    obtain ⟨a0, a1⟩ := rblks HG4.out
    have HGM := HG4
    clear hM hDD hbb
    go_wp2_with fail
    clear a0 a1
    refine HM.out.mono ?_
    rintro e w9 ⟨ss, rfl, hs, g9⟩
    have GM : ((w.alloc (wObj true mag)).alloc (wObj false eS)).grownBy w9 none := grownBy_trans HGM.out g9
    obtain ⟨_, hb⟩ := blks2 GM
    have hc0 := hb.c0
    have hc1 := hb.c1
    have hf0 := hb.fr 0
    have hf1 := hb.fr 1
    have HSS : Hid (bN ss = magN D ∧ w.grownBy w9 none) := ⟨hs, grownBy_trans (grow2 _ _ _) GM⟩
    clear GM g9 hs HM HGM
    go_wp2_with fail
    refine bodyPost_ret (res_cell rfl _ _ (w.heap.size + 1) _ _ _ _ rfl (hb.put _ _)) rfl ?_
    exact ⟨ss, by rw [show cei mag k = D from HDD.out.symm, HBB.out], by rw [show cei mag k = D from HDD.out.symm]; exact HSS.out.1, grown_set (grown_set HSS.out.2 (by omega)) (by omega)⟩
  · have hcb : (cv == 0) = false := by rw [beq_eq_false_iff_ne]; exact h0
    have hcn : (cv != 0) = true := by rw [bne_iff_ne]; exact h0
    have hMo := more_any (w4.alloc (.cells #[.int .u32 1] 72)) v2 (.slice (some ⟨w4.heap.size, 0, none⟩) 1 1) K2 [1] (H4.out.kept (grow1 _ _)) (one_new w4) H2.out.2.1 (by intro x hx; simp at hx; subst hx; decide) (by have := H2.out.2.2.2.1; omega) (by simp)
    have HMo : Hid (Calls Tryz.prog 48 #[v2, .slice (some ⟨w4.heap.size, 0, none⟩) 1 1] (w4.alloc (.cells #[.int .u32 1] 72)) fun e w' => ∃ v K, e = .returned v ∧ D4 w' v K ∧ (∀ x ∈ K, x < B32) ∧ nv B32 K = nv B32 K2 + nv B32 [1] ∧ K.length ≤ max K2.length [1].length + 1 ∧ (K.length = 0 ∨ K[K.length - 1]?.getD 0 ≠ 0) ∧ (w4.alloc (.cells #[.int .u32 1] 72)).grownBy w' none) := hMo
    have HC0 : Hid (cv ≠ 0) := h0
    clear hMo h0
    go_wp2_with fail
    refine HMo.out.mono ?_
    rintro e w5 ⟨v5, K5, rfl, d5, r5, n5, l5, _, g5⟩
    have HG5 : Hid (((w.alloc (wObj true mag)).alloc (wObj false eS)).grownBy w5 none) := grownBy_trans HG4.out (grownBy_trans (grow1 _ _) g5)
    have hM := made_any true w5 v5 K5 d5 r5 (by have := H2.out.2.2.2.1; simp at l5; omega)
    obtain ⟨D, hDD⟩ : ∃ D, nv B32 K5 = D := ⟨_, rfl⟩
    rw [hDD] at hM
    have HDD : Hid (D = val (bN mag) / 2 ^ k + (if val (bN mag) / 2 ^ k * 2 ^ k = val (bN mag) then 0 else 1)) := (by rw [if_neg (fun h => HC0.out (HCV.out.2 h)), ← hDD, n5, H2.out.2.2.1]; simp [nv] : D = val (bN mag) / 2 ^ k + (if val (bN mag) / 2 ^ k * 2 ^ k = val (bN mag) then 0 else 1))
    obtain ⟨bb, hbb⟩ : ∃ bb, (true && decide (D ≠ 0)) = bb := ⟨_, rfl⟩
    have HBB : Hid ((true && decide (D ≠ 0)) = bb) := hbb
    rw [hbb] at hM
    have HM : Hid (Calls Tryz.prog 47 #[.bool true, v5] w5 fun e w' => ∃ s, e = .returned (whole bb s) ∧ bN s = magN D ∧ w5.grownBy w' none) := hM
    obtain ⟨a0, a1⟩ := rblks HG5.out
    have HGM := HG5
    clear hM hDD hbb d5 r5 n5 l5 g5 HMo
    go_wp2_with fail
    clear a0 a1
    refine HM.out.mono ?_
    rintro e w9 ⟨ss, rfl, hs, g9⟩
    have GM : ((w.alloc (wObj true mag)).alloc (wObj false eS)).grownBy w9 none := grownBy_trans HGM.out g9
    obtain ⟨_, hb⟩ := blks2 GM
    have hc0 := hb.c0
    have hc1 := hb.c1
    have hf0 := hb.fr 0
    have hf1 := hb.fr 1
    have HSS : Hid (bN ss = magN D ∧ w.grownBy w9 none) := ⟨hs, grownBy_trans (grow2 _ _ _) GM⟩
    clear GM g9 hs HM HGM
    go_wp2_with fail
    refine bodyPost_ret (res_cell rfl _ _ (w.heap.size + 1) _ _ _ _ rfl (hb.put _ _)) rfl ?_
    exact ⟨ss, by rw [show cei mag k = D from HDD.out.symm, HBB.out], by rw [show cei mag k = D from HDD.out.symm]; exact HSS.out.1, grown_set (grown_set HSS.out.2 (by omega)) (by omega)⟩

/-- The document's Shift of a number that may be. -/
theorem rShift_z (neg : Bool) (mag : ByteArray) (h : may neg mag = true) (h0 : mag.size ≠ 0) (n : Int) (hn : n ≤ 131072) (hn1 : -9223372036854775808 ≤ n) (w : World) :
    Calls Tryz.prog 19 #[whole neg mag, .int .i64 n] w fun e w' => ∃ b s, e = .returned (whole b s) ∧ IsZ (shz (num neg mag) n) b s ∧ w.grownBy w' none := by
  have hm := may_size h
  have hv := val_pos h h0
  rcases Int.lt_or_le n 0 with hn0 | hn0
  · have hfar : ∀ x k : Nat, x ≤ val (bN mag) → (n < -8 * (mag.size : Int) ∧ k = 8 * mag.size + 1 ∨ (k : Int) = -n) → x / 2 ^ (-n).toNat = x / 2 ^ k := fun x k hx hk => by
      rcases hk with ⟨h1, rfl⟩ | h1
      · refine floor_far x _ _ (Nat.lt_of_le_of_lt hx (Nat.lt_of_lt_of_le (val8 mag) (Nat.pow_le_pow_right (by decide) (by omega)))) (by omega)
      · rw [show (-n).toNat = k by omega]
    have key : ∀ k : Nat, (n < -8 * (mag.size : Int) ∧ k = 8 * mag.size + 1 ∨ (k : Int) = -n) → ∀ e w', RsQ neg (if neg then cei mag k else flo mag k) w e w' → ∃ b s, e = .returned (whole b s) ∧ IsZ (shz (num neg mag) n) b s ∧ w.grownBy w' none := by
      rintro k hk e w' ⟨s, rfl, hs, hg⟩
      refine ⟨_, s, rfl, isZ_made ?_ hs, hg⟩
      rw [shz_down _ n _ hn0 rfl]
      cases neg
      · rw [num_f, pos_floor, hfar _ k (Nat.le_refl _) hk]
        rfl
      · rw [num_t, neg_floor _ _ hv, hfar _ k (Nat.sub_le _ _) hk, ceil_eq _ k hv]
        rfl
    rcases Int.lt_or_le n (-8 * (mag.size : Int)) with hf | hf
    · cases neg
      · exact (rShift_p_far mag hm h n hn0 hn1 hf _ rfl w).mono (key _ (.inl ⟨hf, rfl⟩))
      · exact (rShift_t_far mag hm h n hn0 hn1 hf _ rfl w).mono (key _ (.inl ⟨hf, rfl⟩))
    · obtain ⟨k, hk⟩ : ∃ k : Nat, (k : Int) = -n := ⟨(-n).toNat, by omega⟩
      cases neg
      · exact (rShift_p_near mag hm h n hn0 hn1 hf k hk w).mono (key _ (.inr hk))
      · exact (rShift_t_near mag hm h n hn0 hn1 hf k hk w).mono (key _ (.inr hk))
  · obtain ⟨m, rfl⟩ := Int.eq_ofNat_of_zero_le hn0
    exact rShift_up neg mag hm m (by omega) w
end Go.Proofs.YtjenbicaepldlaaGreatDoor

namespace Go.Proofs.YtjenbicaepldlaaGreatDoor
open Go.RowKit Go.Lib Go.Sort

theorem BlkL.win {w : World} {B : Nat} {M : List Nat} (h : BlkL w B 72 enc4 (ints M)) (a k c : Nat) (hk : a + k ≤ M.length) (hc : k ≤ c) : D4 w (.slice (some ⟨B, a, none⟩) k c) ((M.drop a).take k) := by
  have hl : ((M.drop a).take k).length = k := by rw [List.length_take, List.length_drop]; omega
  refine .inr ⟨B, a, c, by rw [hl], by omega, fun j hj => ?_⟩
  rw [hl] at hj
  have := h.cell (a + j) (by rw [ints_length]; omega)
  rw [ints_at] at this
  rw [this, List.getElem?_take, if_pos hj, List.getElem?_drop]

set_option maxHeartbeats 1600000 in
set_option maxRecDepth 1000000 in
theorem fits_blk (w : World) (B R j n g : Nat) (vv : Value) (U V X : List Nat) (hX : (U.drop j).take (n + 1) = X) (hB : BlkL w B 72 enc4 (ints U)) (hU : ∀ x ∈ U, x < B32) (hR : U.length = R) (hR9 : R ≤ 1000000) (hV : D4 w vv V) (rV : ∀ x ∈ V, x < B32) (hn : V.length = n) (hj : j + n + 1 ≤ R) (hg : g ≤ 4294967295) :
    Calls Tryz.prog 93 #[.slice (some ⟨B, 0, none⟩) R R, vv, .int .i64 (j : Int), .int .u64 (g : Int)] w fun e w' => e = .returned (.bool (decide (g * nv B32 V ≤ nv B32 X))) ∧ w.grownBy w' none := by
  have HXX : Hid ((U.drop j).take (n + 1) = X) := hX
  clear hX
  obtain ⟨av, cv, rfl⟩ := hV.slice
  rw [hn] at hV ⊢
  have hgI : (g : Int) ≤ 4294967295 := by omega
  have hw1 : IntKind.u32.wrap (g : Int) = (g : Int) := by rw [IntKind.wrap_u32]; omega
  have hw2 : (g : Int) % 4294967296 = (g : Int) := by omega
  have hnI : (n : Int) ≤ 1000000 := by omega
  have hjI : (j : Int) + (n : Int) + 1 ≤ R := by omega
  have hRI : (R : Int) ≤ 1000000 := by omega
  have hb1 : BlkL (w.alloc (.cells #[.int .u32 (g : Int)] 72)) w.heap.size 72 enc4 (ints [g]) := heap_alloc_new _ _
  have hP := product_any (w.alloc (.cells #[.int .u32 (g : Int)] 72)) (.slice (some ⟨w.heap.size, 0, none⟩) 1 1) (.slice av n cv) [g] V hb1.d4 (hV.kept (grow1 _ _)) (by intro x hx; simp at hx; subst hx; simp only [B32]; omega) rV (by simp) (by omega)
  have HP : Hid (Calls Tryz.prog 68 #[.slice (some ⟨w.heap.size, 0, none⟩) 1 1, .slice av n cv] (w.alloc (.cells #[.int .u32 (g : Int)] 72)) fun e w' => ∃ v K, e = .returned v ∧ D4 w' v K ∧ (∀ x ∈ K, x < B32) ∧ nv B32 K = nv B32 [g] * nv B32 V ∧ K.length ≤ [g].length + V.length ∧ Trim K ∧ (w.alloc (.cells #[.int .u32 (g : Int)] 72)).grownBy w' none) := hP
  have HB : Hid (BlkL w B 72 enc4 (ints U) ∧ (∀ x ∈ U, x < B32) ∧ U.length = R ∧ V.length = n ∧ j + n + 1 ≤ R) := ⟨hB, hU, hR, hn, hj⟩
  clear hB hU hR hV rV hn hb1 hP hR9
  go_enter Tryz.func93, Tryz.ntmps93
  go_wp2_with fail
  refine HP.out.mono ?_
  rintro e w1 ⟨v1, K1, rfl, d1, r1, n1, l1, t1, g1⟩
  have hG1 : w.grownBy w1 none := grownBy_trans (grow1 _ _) g1
  have H1 : Hid (D4 w1 v1 K1 ∧ (∀ x ∈ K1, x < B32) ∧ nv B32 K1 = g * nv B32 V ∧ K1.length ≤ 1000002 ∧ Trim K1 ∧ w.grownBy w1 none) := ⟨d1, r1, by rw [n1]; simp [nv], by have := HB.out; simp at l1; omega, t1, hG1⟩
  clear d1 r1 n1 l1 t1 g1 hG1 HP
  go_wp2_with fail
  rw [show j + n + 1 - j = n + 1 by omega]
  have hb := HB.out
  have hD2 := (hb.1.kept H1.out.2.2.2.2.2 (by simp)).win j (n + 1) (R - j) (by omega) (by omega)
  have hr2 : ∀ x ∈ (U.drop j).take (n + 1), x < B32 := fun x hx => hb.2.1 x (List.mem_of_mem_drop (List.mem_of_mem_take hx))
  have hl2 : ((U.drop j).take (n + 1)).length = n + 1 := by rw [List.length_take, List.length_drop]; omega
  have hC := cut_any w1 _ _ hD2 hr2 (by omega)
  have HC : Hid (Calls Tryz.prog 90 #[.slice (some ⟨B, j, none⟩) (n + 1) (R - j)] w1 fun e w' => ∃ v' k, e = .returned v' ∧ k ≤ ((U.drop j).take (n + 1)).length ∧ D4 w1 v' (((U.drop j).take (n + 1)).take k) ∧ nv B32 (((U.drop j).take (n + 1)).take k) = nv B32 ((U.drop j).take (n + 1)) ∧ (k = 0 ∨ (((U.drop j).take (n + 1)).take k)[k - 1]?.getD 0 ≠ 0) ∧ w' = w1) := hC
  have HX : Hid ((∀ x ∈ (U.drop j).take (n + 1), x < B32) ∧ ((U.drop j).take (n + 1)).length = n + 1) := ⟨hr2, hl2⟩
  rw [HXX.out] at HC HX
  clear hb hD2 hr2 hl2 hC
  refine HC.out.mono ?_
  rintro e w2 ⟨v2, k, rfl, hk, d2, n2, t2, hw2⟩
  subst hw2
  have hT : Trim (X.take k) := by
    rcases t2 with h | h
    · left; rw [h]; rfl
    · right
      have e : (X.take k).length = k := by rw [List.length_take, Nat.min_eq_left hk]
      rw [e]; exact h
  have hN := under_any w2 v1 v2 K1 (X.take k) H1.out.1 d2 H1.out.2.1 (fun x hx => HX.out.1 x (List.mem_of_mem_take hx)) H1.out.2.2.2.2.1 hT (by have := H1.out.2.2.2.1; omega) (by have := HX.out.2; rw [List.length_take]; omega)
  rw [H1.out.2.2.1, n2] at hN
  obtain ⟨c, hc⟩ : ∃ c, cmpN (g * nv B32 V) (nv B32 X) = c := ⟨_, rfl⟩
  rw [hc] at hN
  have HN : Hid (Calls Tryz.prog 49 #[v1, v2] w2 fun e w' => e = .returned (.int .i64 c) ∧ w2.grownBy w' none) := hN
  have HCC : Hid (decide (c ≤ 0) = decide (g * nv B32 V ≤ nv B32 X)) := (by
    refine decide_eq_decide.2 ?_
    rw [← hc]
    unfold cmpN
    constructor <;> intro h <;> (repeat' split at h) <;> (try omega) <;> (repeat' split) <;> omega : decide (c ≤ 0) = decide (g * nv B32 V ≤ nv B32 X))
  clear hk d2 n2 t2 hT hN hc HC
  go_wp2_with fail
  refine HN.out.mono ?_
  rintro e w3 ⟨rfl, g3⟩
  have HG3 : Hid (w.grownBy w3 none) := grownBy_trans H1.out.2.2.2.2.2 g3
  clear g3 HN
  go_wp2_with fail
  go_ret
  exact ⟨ret_bool HCC.out, HG3.out⟩
end Go.Proofs.YtjenbicaepldlaaGreatDoor
