/-
  The program's rootDigits.
-/
import Derived.Test.YtjngcpbdilhkbaaGreatDoorWor
import Derived.Test.YtjngcpbdilhkbaaGreatDoorBunTtm
import Derived.Test.YtjngcpbdilhkbaaGreatDoorBunShf
namespace Go.Proofs.YtjngcpbdilhkbaaGreatDoor
open Go.RowKit Go.Lib Go.Sort

/-- What rootDigits answers: the root of N, in digits of its own. -/
def RtR (w : World) (N m : Nat) (e : Ending) (w' : World) : Prop := ∃ v K, e = .returned v ∧ Row w' w.heap.size v K ∧ (∀ x ∈ K, x < B32) ∧ Trim K ∧ nv B32 K * nv B32 K ≤ N ∧ N < (nv B32 K + 1) * (nv B32 K + 1) ∧ K.length ≤ m ∧ w.grownBy w' none

theorem len_two {L : List Nat} (hT : Trim L) (h : bl (nv B32 L) ≤ 64) : L.length ≤ 2 := by
  refine trim_length hT ?_
  have h1 := lt_bl (nv B32 L)
  have h2 : (2 : Nat) ^ bl (nv B32 L) ≤ 2 ^ 64 := Nat.pow_le_pow_right (by decide) h
  have h3 : B32 ^ 2 = 2 ^ 64 := by decide
  omega
theorem root_le {r N : Nat} (h : r * r ≤ N) : r ≤ N := by
  cases r with
  | zero => omega
  | succ r => exact Nat.le_trans (Nat.le_mul_of_pos_left _ (by omega)) h

set_option maxHeartbeats 1600000 in
set_option maxRecDepth 1000000 in
theorem rootDigits_short (w : World) (va : Value) (A : List Nat) (hA : D4 w va A) (ra : ∀ x ∈ A, x < B32) (tA : Trim A) (hb : bl (nv B32 A) ≤ 64) :
    Calls Tryz.prog 50 #[va] w (RtR w (nv B32 A) A.length) := by
  have l2 := len_two tA hb
  have hn : nv B32 A < 18446744073709551616 := by
    have h1 := lt_bl (nv B32 A)
    have h2 : (2 : Nat) ^ bl (nv B32 A) ≤ 2 ^ 64 := Nat.pow_le_pow_right (by decide) hb
    have h3 : (2 : Nat) ^ 64 = 18446744073709551616 := by decide
    omega
  have HBt : Hid (Calls Tryz.prog 62 #[va] w fun e w' => e = .returned (.int .i64 (bl (nv B32 A))) ∧ w' = w) := bitsOf_any w va A hA ra tA (by omega)
  have HWd : Hid (Calls Tryz.prog 85 #[va] w fun e w' => e = .returned (.int .u64 ((nv B32 A : Nat) : Int)) ∧ w' = w) := word_any w va A hA ra l2
  have HRw : Hid (∀ w, Calls Tryz.prog 84 #[.int .u64 ((nv B32 A : Nat) : Int)] w fun e w' => ∃ r : Nat, e = .returned (.int .u64 (r : Int)) ∧ r * r ≤ nv B32 A ∧ nv B32 A < (r + 1) * (r + 1) ∧ r < 4294967296 ∧ w' = w) := rootWord_any _ hn
  have HLA : Hid (nv B32 A < B32 ^ A.length) := nv_lt B32 A ra
  obtain ⟨N, hN⟩ : ∃ N, nv B32 A = N := ⟨_, rfl⟩
  obtain ⟨m, hm⟩ : ∃ m, A.length = m := ⟨_, rfl⟩
  rw [hN] at HBt HWd HRw HLA hb ⊢
  rw [hm] at HLA ⊢
  have hbI : (bl N : Int) ≤ 64 := by omega
  clear hA ra tA l2 hn hb hN hm
  go_enter Tryz.func50, Tryz.ntmps50
  go_wp2_with fail
  refine HBt.out.mono ?_
  rintro e w1 ⟨rfl, rfl⟩
  go_wp2_with fail
  refine HWd.out.mono ?_
  rintro e w1 ⟨rfl, rfl⟩
  go_wp2_with fail
  refine (HRw.out _).mono ?_
  rintro e w1 ⟨r, rfl, h1, h2, h3, rfl⟩
  have HR : Hid (r * r ≤ N ∧ N < (r + 1) * (r + 1)) := ⟨h1, h2⟩
  have HDw : Hid (∀ w, Calls Tryz.prog 83 #[.int .u64 (r : Int)] w fun e w' => ∃ v K, e = .returned v ∧ Row w' w.heap.size v K ∧ (∀ x ∈ K, x < B32) ∧ nv B32 K = r ∧ Trim K ∧ K.length ≤ 2 ∧ w.grownBy w' none) := digitsOfWord_any r (by omega)
  clear h1 h2 h3
  go_wp2_with fail
  refine (HDw.out _).mono ?_
  rintro e w2 ⟨v, K, rfl, k1, k2, k3, k4, k5, k6⟩
  have HK : Hid (Row w2 w1.heap.size v K ∧ (∀ x ∈ K, x < B32) ∧ nv B32 K = r ∧ Trim K ∧ w1.grownBy w2 none) := ⟨k1, k2, k3, k4, k6⟩
  clear k1 k2 k3 k4 k5 k6
  go_wp2_with fail
  go_ret
  obtain ⟨k1, k2, k3, k4, k6⟩ := HK.out
  refine ⟨v, K, rfl, k1, k2, k4, by rw [k3]; exact HR.out.1, by rw [k3]; exact HR.out.2, trim_length k4 ?_, k6⟩
  rw [k3]
  exact Nat.lt_of_le_of_lt (root_le HR.out.1) HLA.out

set_option maxHeartbeats 3200000 in
set_option maxRecDepth 1000000 in
theorem rootDigits_long (w : World) (va : Value) (A : List Nat) (hA : D4 w va A) (ra : ∀ x ∈ A, x < B32) (tA : Trim A) (la : A.length ≤ 5000) (hb : 64 < bl (nv B32 A))
    (ih : ∀ (w : World) (v : Value) (K : List Nat), D4 w v K → (∀ x ∈ K, x < B32) → Trim K → K.length ≤ 5000 → nv B32 K < nv B32 A → Calls Tryz.prog 50 #[v] w (RtR w (nv B32 K) K.length)) :
    Calls Tryz.prog 50 #[va] w (RtR w (nv B32 A) A.length) := by
  have HBt : Hid (Calls Tryz.prog 62 #[va] w fun e w' => e = .returned (.int .i64 (bl (nv B32 A))) ∧ w' = w) := bitsOf_any w va A hA ra tA (by omega)
  have hbl : bl (nv B32 A) ≤ 160000 := by
    obtain ⟨E, hE⟩ : ∃ E, E = 160000 := ⟨_, rfl⟩
    rw [← hE]
    have := nv_lt B32 A ra
    refine bl_le (Nat.lt_of_lt_of_le this ?_)
    have e : B32 ^ A.length = 2 ^ (32 * A.length) := by rw [show B32 = 2 ^ 32 by decide, ← Nat.pow_mul]
    rw [e]
    exact Nat.pow_le_pow_right (by decide) (by omega)
  obtain ⟨h, hh⟩ : ∃ h, bl (nv B32 A) / 4 = h := ⟨_, rfl⟩
  obtain ⟨g, hg2⟩ : ∃ g, 2 * h = g := ⟨_, rfl⟩
  have HSd : Hid (∀ w', w.grownBy w' none → Calls Tryz.prog 79 #[va, .int .i64 (g : Int)] w' fun e w'' => ∃ v' K, e = .returned v' ∧ Row w'' w'.heap.size v' K ∧ (∀ x ∈ K, x < B32) ∧ nv B32 K = nv B32 A / 2 ^ g ∧ Trim K ∧ K.length ≤ A.length ∧ w'.grownBy w'' none) := fun w' hg => shiftDown_any w' va A g (hA.kept hg) ra (by omega) (by omega)
  have HI : Hid (∀ (w : World) (v : Value) (K : List Nat), D4 w v K → (∀ x ∈ K, x < B32) → Trim K → K.length ≤ 5000 → nv B32 K < nv B32 A → Calls Tryz.prog 50 #[v] w (RtR w (nv B32 K) K.length)) := ih
  have HA : Hid (D4 w va A ∧ (∀ x ∈ A, x < B32) ∧ Trim A ∧ A.length ≤ 5000 ∧ 64 < bl (nv B32 A) ∧ 2 * h = g ∧ h ≤ 40000) := ⟨hA, ra, tA, la, hb, hg2, by omega⟩
  have hlt : nv B32 A / 2 ^ g < nv B32 A := by
    refine Nat.div_lt_self ?_ (Nat.one_lt_two_pow (by omega))
    rcases Nat.eq_zero_or_pos (nv B32 A) with k | k
    · rw [k] at hb; simp [bl] at hb
    · exact k
  have HLT : Hid (nv B32 A / 2 ^ g < nv B32 A) := hlt
  obtain ⟨bn, hbn⟩ : ∃ bn, bl (nv B32 A) = bn := ⟨_, rfl⟩
  rw [hbn] at HBt hh hbl hb
  have hhI : (bn : Int) / 4 = (h : Int) := by omega
  have hb1 : (65 : Int) ≤ (bn : Int) := by omega
  have hh2 : (h : Int) ≤ 40000 := by omega
  have hh3 : (2 : Int) * (h : Int) = (g : Int) := by omega
  clear hA ra tA la hb ih hlt hbl hh hbn hg2
  go_enter Tryz.func50, Tryz.ntmps50
  go_wp2_with fail
  refine HBt.out.mono ?_
  rintro e w1 ⟨rfl, rfl⟩
  go_wp2_with fail
  refine (HSd.out _ (World.grownBy.refl _ _)).mono ?_
  rintro e w2 ⟨v2, K2, rfl, k1, k2, k3, k4, k5, k6⟩
  have HK2 : Hid (Row w2 w1.heap.size v2 K2 ∧ (∀ x ∈ K2, x < B32) ∧ nv B32 K2 = nv B32 A / 2 ^ g ∧ Trim K2 ∧ K2.length ≤ A.length ∧ w1.grownBy w2 none) := ⟨k1, k2, k3, k4, k5, k6⟩
  clear k1 k2 k3 k4 k5 k6
  go_wp2_with fail
  refine (HI.out w2 v2 K2 HK2.out.1.d4 HK2.out.2.1 HK2.out.2.2.2.1 (by have := HK2.out.2.2.2.2.1; have := HA.out.2.2.2.1; omega) (by rw [HK2.out.2.2.1]; exact HLT.out)).mono ?_
  rintro e w3 ⟨v3, K3, rfl, k1, k2, k3, k4, k5, k6, k7⟩
  have HK3 : Hid (Row w3 w2.heap.size v3 K3 ∧ (∀ x ∈ K3, x < B32) ∧ Trim K3 ∧ nv B32 K2 < (nv B32 K3 + 1) * (nv B32 K3 + 1) ∧ K3.length ≤ 5000 ∧ w1.grownBy w3 none ∧ w2.heap.size ≤ w3.heap.size) := ⟨k1, k2, k3, k5, by have := HK2.out.2.2.2.2.1; have := HA.out.2.2.2.1; omega, grownBy_trans HK2.out.2.2.2.2.2 k7, k7.size⟩
  clear k1 k2 k3 k4 k5 k6 k7
  have HAd : Hid (Calls Tryz.prog 30 #[v3, .slice (some ⟨w3.heap.size, 0, none⟩) 1 1] (w3.alloc (.cells #[.int .u32 1] 64)) fun e w' => ∃ v' K, e = .returned v' ∧ D4 w' v' K ∧ (∀ x ∈ K, x < B32) ∧ nv B32 K = nv B32 K3 + 1 ∧ K.length ≤ 5001 ∧ w1.grownBy w' none) := by
    obtain ⟨k1, k2, k3, k5, k6, k7, h23⟩ := HK3.out
    have hb1 : BlkL (w3.alloc (.cells #[.int .u32 1] 64)) w3.heap.size 64 enc4 (ints [1]) := heap_alloc_new _ _
    have hr3 : Row (w3.alloc (.cells #[.int .u32 1] 64)) w2.heap.size v3 K3 := k1.kept (grow1 _ _) (by cases v3.ownBlock <;> simp)
    have h12 := HK2.out.2.2.2.2.2.size
    refine (addTo_row _ _ v3 _ K3 [1] hr3 hb1.d4 ?_ k2 (by intro x hx; simp at hx; subst hx; decide) (by omega) (by simp) (by simp; omega)).mono ?_
    · intro b n c e
      injection e with e _ _
      injection e with e
      subst e
      intro he
      have := (k1.lt he.symm).2
      simp at this
    · rintro e w' ⟨v', K, rfl, r1, r2, r3, r4, r5, r6, r7, r8⟩
      refine ⟨v', K, rfl, r1.d4, r2, by rw [r3]; simp [nv], by simp at r5; omega, ?_⟩
      exact grown_row (grownBy_trans k7 (grow1 _ _)) (hr3.base h12) r8
  go_wp2_with fail
  refine HAd.out.mono ?_
  rintro e w4 ⟨v4, K4, rfl, r1, r2, r3, r4, r5⟩
  have HSu : Hid (Calls Tryz.prog 77 #[v4, .int .i64 (h : Int)] w4 fun e w' => ∃ B K, e = .returned (.slice (some ⟨B, 0, none⟩) K.length K.length) ∧ w4.heap.size ≤ B ∧ BlkL w' B 64 enc4 (ints K) ∧ K.length = h / 32 + K4.length + 1 ∧ (∀ x ∈ K, x < B32) ∧ nv B32 K = nv B32 K4 * 2 ^ h ∧ w4.grownBy w' none) := shiftUp_any w4 v4 K4 h r1 r2 (by omega) (by have := HA.out.2.2.2.2.2.2; omega)
  have HK4 : Hid (nv B32 K4 = nv B32 K3 + 1 ∧ K4.length ≤ 5001 ∧ w1.grownBy w4 none) := ⟨r3, r4, r5⟩
  clear r1 r2 r3 r4 r5 HAd
  go_wp2_with fail
  refine HSu.out.mono ?_
  rintro e w5 ⟨B5, K5, rfl, q1, q2, q3, q4, q5, q6⟩
  have hl5 : K5.length ≤ 7000 := by have := HK4.out.2.1; have := HA.out.2.2.2.2.2.2; omega
  have HTr : Hid (Calls Tryz.prog 53 #[.slice (some ⟨B5, 0, none⟩) K5.length K5.length] w5 fun e w' => ∃ v' K, e = .returned v' ∧ Row w5 w1.heap.size v' K ∧ (∀ x ∈ K, x < B32) ∧ nv B32 K = (nv B32 K3 + 1) * 2 ^ h ∧ Trim K ∧ K.length ≤ 7000 ∧ w' = w5) := by
    have hrow := q2.row (base := w1.heap.size) (Nat.le_trans HK4.out.2.2.size q1) (by unfold maxLen; omega)
    refine (trim_row _ _ _ K5 hrow (by omega)).mono ?_
    rintro e w' ⟨v', k, rfl, t1, t2, t3, t4, _, rfl⟩
    refine ⟨v', _, rfl, t2, fun x hx => q4 x (List.mem_of_mem_take hx), by rw [t3, q5, HK4.out.1], t4, ?_, rfl⟩
    rw [List.length_take]; omega
  have HG5 : Hid (w1.grownBy w5 none) := grownBy_trans HK4.out.2.2 q6
  obtain ⟨n5, hn5⟩ : ∃ n5, K5.length = n5 := ⟨_, rfl⟩
  rw [hn5] at HTr ⊢
  clear q1 q2 q3 q4 q5 q6 HSu hl5 hn5
  go_wp2_with fail
  refine HTr.out.mono ?_
  rintro e w6 ⟨v6, K6, rfl, t1, t2, t3, t4, t5, rfl⟩
  have HK6 : Hid (Row w6 w1.heap.size v6 K6 ∧ (∀ x ∈ K6, x < B32) ∧ nv B32 K6 = (nv B32 K3 + 1) * 2 ^ h ∧ Trim K6 ∧ K6.length ≤ 7000) := ⟨t1, t2, t3, t4, t5⟩
  clear t1 t2 t3 t4 t5 HTr
  have HS0 : Hid (nv B32 A < ((nv B32 K3 + 1) * 2 ^ h) * ((nv B32 K3 + 1) * 2 ^ h)) := by
    have h1 := HK3.out.2.2.2.1
    rw [HK2.out.2.2.1, ← HA.out.2.2.2.2.2.1] at h1
    exact root_start h1
  go_wp2_with fail
  have HBIG : Hid (1 < nv B32 A) := by
    rcases Nat.lt_or_ge 1 (nv B32 A) with k | k
    · exact k
    · exfalso
      have h1 := bl_mono k
      have h2 : bl 1 = 1 := by decide
      have := HA.out.2.2.2.2.1
      omega
  have HB : Hid (D4 w1 va A ∧ (∀ x ∈ A, x < B32) ∧ Trim A ∧ A.length ≤ 5000) := ⟨HA.out.1, HA.out.2.1, HA.out.2.2.1, HA.out.2.2.2.1⟩
  go_loopg [6] ((nv B32 K3 + 1) * 2 ^ h) (fun q s6 wx => ∃ K, Row wx w1.heap.size s6 K ∧ (∀ x ∈ K, x < B32) ∧ Trim K ∧ nv B32 K = q ∧ 0 < q ∧ nv B32 A < (q + 1) * (q + 1) ∧ K.length ≤ 7000 ∧ w1.grownBy wx none)
  case atStart =>
    obtain ⟨t1, t2, t3, t4, t5⟩ := HK6.out
    have hp : 0 < (nv B32 K3 + 1) * 2 ^ h := Nat.mul_pos (by omega) (Nat.two_pow_pos _)
    refine ⟨K6, t1, t2, t4, t3, hp, ?_, t5, HG5.out⟩
    have := HS0.out
    have := Nat.mul_le_mul (Nat.le_succ ((nv B32 K3 + 1) * 2 ^ h)) (Nat.le_succ ((nv B32 K3 + 1) * 2 ^ h))
    exact Nat.lt_of_lt_of_le HS0.out this
  case round =>
    obtain ⟨K, i1, i2, i3, i4, i5, i6, i7, i8⟩ := hrel
    clear HK6 HG5 HS0 HK4 HK3 HK2 HI HSd HBt HLT HA
    have HD : Hid (Calls Tryz.prog 45 #[va, u6] wr (DivQ wr (nv B32 A) gk A.length)) := by
      have hne : K.length ≠ 0 := by
        intro e
        rw [List.length_eq_zero_iff.1 e] at i4
        simp [nv] at i4
        omega
      have := divide_any wr va u6 A K (HB.out.1.kept i8) i1.d4 HB.out.2.1 i2 HB.out.2.2.1 i3 (by have := HB.out.2.2.2; omega) (by omega) hne
      rw [i4] at this
      exact this
    have HI : Hid (Row wr w1.heap.size u6 K ∧ (∀ x ∈ K, x < B32) ∧ Trim K ∧ nv B32 K = gk ∧ 0 < gk ∧ nv B32 A < (gk + 1) * (gk + 1) ∧ K.length ≤ 7000 ∧ w1.grownBy wr none) := ⟨i1, i2, i3, i4, i5, i6, i7, i8⟩
    clear i1 i2 i3 i4 i5 i6 i7 i8
    go_wp2_with fail
    refine HD.out.mono ?_
    rintro e w7 ⟨vq, vr, Kq, Kr, rfl, d1, d2, d3, d4, d5, d6, d7, d8, d9, d10, d11, d12⟩
    have HAd : Hid (Calls Tryz.prog 30 #[vq, u6] w7 fun e w' => ∃ v' K', e = .returned v' ∧ D4 w' v' K' ∧ (∀ x ∈ K', x < B32) ∧ nv B32 K' = nv B32 A / gk + gk ∧ K'.length ≤ 12001 ∧ wr.grownBy w' none) := by
      obtain ⟨i1, i2, i3, i4, i5, i6, i7, i8⟩ := HI.out
      refine (addTo_row w7 wr.heap.size vq u6 Kq K d1 (i1.d4.kept d12) ?_ d4 i2 (by have := HB.out.2.2.2; omega) (by omega) d12.size).mono ?_
      · intro b n c e
        rcases i1.cases with ⟨e2, _⟩ | ⟨g2, c2, e2, _⟩
        · rw [e2] at e; cases e
        · rw [e2] at e
          injection e with e _ _
          injection e with e
          subst e
          intro he
          have h1 := (d1.lt he.symm).1
          have h2 := (i1.lt (g := g2) (by rw [e2]; rfl)).2
          simp at h1
          omega
      · rintro e w' ⟨v', K', rfl, r1, r2, r3, r4, r5, r6, r7, r8⟩
        refine ⟨v', K', rfl, r1.d4, r2, by rw [r3, d8, i4], ?_, grown_row d12 d1 r8⟩
        have := HB.out.2.2.2
        omega
    clear d1 d2 d3 d4 d5 d6 d7 d8 d9 d10 d11 d12 HD
    go_wp2_with fail
    refine HAd.out.mono ?_
    rintro e w8 ⟨v8, K8, rfl, r1, r2, r3, r4, r5⟩
    have HSd : Hid (Calls Tryz.prog 79 #[v8, .int .i64 1] w8 fun e w' => ∃ v' K', e = .returned v' ∧ Row w' w8.heap.size v' K' ∧ (∀ x ∈ K', x < B32) ∧ nv B32 K' = (nv B32 A / gk + gk) / 2 ∧ Trim K' ∧ K'.length ≤ 12001 ∧ wr.grownBy w' none) := by
      have := shiftDown_any w8 v8 K8 1 r1 r2 (by omega) (by omega)
      refine this.mono ?_
      rintro e w' ⟨v', K', rfl, s1, s2, s3, s4, s5, s6⟩
      exact ⟨v', K', rfl, s1, s2, by rw [s3, r3, Nat.pow_one], s4, by omega, grownBy_trans r5 s6⟩
    have HZ8 : Hid (wr.heap.size ≤ w8.heap.size) := r5.size
    clear r1 r2 r3 r4 r5 HAd
    go_wp2_with fail
    refine HSd.out.mono ?_
    rintro e w9 ⟨v9, K9, rfl, s1, s2, s3, s4, s5, s6⟩
    have HCm : Hid (Calls Tryz.prog 32 #[v9, u6] w9 fun e w' => e = .returned (.int .i64 (cmpN ((nv B32 A / gk + gk) / 2) gk)) ∧ w9.grownBy w' none) := by
      obtain ⟨i1, i2, i3, i4, i5, i6, i7, i8⟩ := HI.out
      have := cmpDigits_any w9 v9 u6 K9 K s1.d4 (i1.d4.kept s6) s2 i2 s4 i3 (by omega) (by omega)
      rw [s3, i4] at this
      exact this
    have HK9 : Hid (Row w9 w8.heap.size v9 K9 ∧ (∀ x ∈ K9, x < B32) ∧ nv B32 K9 = (nv B32 A / gk + gk) / 2 ∧ Trim K9 ∧ wr.grownBy w9 none) := ⟨s1, s2, s3, s4, s6⟩
    clear s1 s2 s3 s4 s5 s6 HSd
    by_cases hlt : (nv B32 A / gk + gk) / 2 < gk
    · have HLT : Hid ((nv B32 A / gk + gk) / 2 < gk) := hlt
      rw [cmpN_lt hlt] at HCm
      clear hlt
      go_wp2_with fail
      refine HCm.out.mono ?_
      rintro e w10 ⟨rfl, g10⟩
      have HG10 : Hid (w9.grownBy w10 none) := g10
      clear g10 HCm
      go_wp2_with fail
      obtain ⟨i1, i2, i3, i4, i5, i6, i7, i8⟩ := HI.out
      obtain ⟨s1, s2, s3, s4, s6⟩ := HK9.out
      have hw18 : w1.heap.size ≤ w8.heap.size := Nat.le_trans i8.size HZ8.out
      have hr10 : Row w10 w1.heap.size v9 K9 := (s1.base hw18).kept HG10.out (by cases v9.ownBlock <;> simp)
      go_roundg ((nv B32 A / gk + gk) / 2)
      case measure => exact HLT.out
      case rel =>
        refine ⟨K9, hr10, s2, s4, s3, ?_, newton_up i5, ?_, grownBy_trans i8 (grownBy_trans s6 HG10.out)⟩
        · rcases Nat.eq_zero_or_pos ((nv B32 A / gk + gk) / 2) with k | k
          · exfalso
            have h1 := newton_up (N := nv B32 A) i5
            rw [k] at h1
            have h2 := HBIG.out
            omega
          · exact k
        · have h1 : nv B32 K9 < B32 ^ K.length := by
            rw [s3]
            refine Nat.lt_trans HLT.out ?_
            rw [← i4]
            exact nv_lt B32 K i2
          have := trim_length s4 h1
          omega
    · have HLT : Hid (gk ≤ (nv B32 A / gk + gk) / 2) := Nat.le_of_not_lt hlt
      have hc0 : cmpN ((nv B32 A / gk + gk) / 2) gk = 0 ∨ cmpN ((nv B32 A / gk + gk) / 2) gk = 1 := by
        rcases cmpN_three ((nv B32 A / gk + gk) / 2) gk with h | h | h
        · unfold cmpN at h
          rw [if_neg hlt] at h
          split at h <;> omega
        · exact .inl h
        · exact .inr h
      obtain ⟨cc, hcc⟩ : ∃ cc, cmpN ((nv B32 A / gk + gk) / 2) gk = cc := ⟨_, rfl⟩
      rw [hcc] at HCm hc0
      have hc1 : (0 : Int) ≤ cc := by omega
      clear hlt hc0 hcc
      go_wp2_with fail
      refine HCm.out.mono ?_
      rintro e w10 ⟨rfl, g10⟩
      have HG10 : Hid (w9.grownBy w10 none) := g10
      clear g10 HCm
      go_wp2_with fail
      go_ret
      obtain ⟨i1, i2, i3, i4, i5, i6, i7, i8⟩ := HI.out
      obtain ⟨s1, s2, s3, s4, s6⟩ := HK9.out
      have hst := newton_stop HLT.out
      refine ⟨u6, K, rfl, i1.kept (grownBy_trans s6 HG10.out) (by cases u6.ownBlock <;> simp), i2, i3, by rw [i4]; exact hst, by rw [i4]; exact i6, trim_length i3 ?_, grownBy_trans i8 (grownBy_trans s6 HG10.out)⟩
      rw [i4]
      exact Nat.lt_of_le_of_lt (root_le hst) (nv_lt B32 A HB.out.2.1)

theorem rootDigits_any : ∀ (N : Nat) (w : World) (va : Value) (A : List Nat), nv B32 A = N → D4 w va A → (∀ x ∈ A, x < B32) → Trim A → A.length ≤ 5000 → Calls Tryz.prog 50 #[va] w (RtR w (nv B32 A) A.length) := by
  intro N
  induction N using Nat.strongRecOn with
  | ind N ih =>
    intro w va A hN hA ra tA la
    rcases Nat.lt_or_ge 64 (bl (nv B32 A)) with h | h
    · exact rootDigits_long w va A hA ra tA la h fun w v K k1 k2 k3 k4 k5 => ih _ (by rw [← hN]; exact k5) w v K rfl k1 k2 k3 k4
    · exact rootDigits_short w va A hA ra tA h
end Go.Proofs.YtjngcpbdilhkbaaGreatDoor
