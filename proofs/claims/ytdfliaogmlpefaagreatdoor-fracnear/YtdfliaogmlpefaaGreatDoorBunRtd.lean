/-
  The program's rootDigits.
  The program's product, as digits of the call's own.
  The program's Root.
  Quotients, opposites, magnitudes, roots: of numbers with a bound on their length.
-/
import Derived.Test.YtdfliaogmlpefaaGreatDoorBunWor
import Derived.Test.YtdfliaogmlpefaaGreatDoorBunTtm
import Derived.Test.YtdfliaogmlpefaaGreatDoorBunRdn
import Derived.Test.YtdfliaogmlpefaaGreatDoorBunPrg
import Derived.Test.YtdfliaogmlpefaaGreatDoorBunRed
import Derived.Test.YtdfliaogmlpefaaGreatDoorBunDva
import Derived.Test.YtdfliaogmlpefaaGreatDoorRga
namespace Go.Proofs.YtdfliaogmlpefaaGreatDoor
open Go.RowKit Go.Lib Go.Sort
set_option maxHeartbeats 6400000
set_option maxRecDepth 1000000
def RtR (w : World) (N m : Nat) (e : Ending) (w' : World) : Prop := ∃ v K, e = .returned v ∧ Row w' w.heap.size v K ∧ (∀ x ∈ K, x < B32) ∧ Trim K ∧ nv B32 K * nv B32 K ≤ N ∧ N < (nv B32 K + 1) * (nv B32 K + 1) ∧ K.length ≤ m ∧ w.grownBy w' none
theorem len_two {L : List Nat} (hT : Trim L) (h : bl (nv B32 L) ≤ 64) : L.length ≤ 2 := by
  refine trim_length hT ?_
  have h1 := lt_bl (nv B32 L)
  have h2 : (2 : Nat) ^ bl (nv B32 L) ≤ 2 ^ 64 := Nat.pow_le_pow_right (by decide) h
  have h3 : B32 ^ 2 = 2 ^ 64 := by decide
  omega
theorem root_le {r N : Nat} (h : r * r ≤ N) : r ≤ N := by
  cases r with
  | zero => omega
  | succ r => exact Nat.le_trans (Nat.le_mul_of_pos_left _ (by omega)) h
theorem rootDigits_short (w : World) (va : Value) (A : List Nat) (hA : D4 w va A) (ra : ∀ x ∈ A, x < B32) (tA : Trim A) (hb : bl (nv B32 A) ≤ 64) :
    Calls Tryz.prog 153 #[va] w (RtR w (nv B32 A) A.length) := by
  have l2 := len_two tA hb
  have hn : nv B32 A < 18446744073709551616 := by
    have h1 := lt_bl (nv B32 A)
    have h2 : (2 : Nat) ^ bl (nv B32 A) ≤ 2 ^ 64 := Nat.pow_le_pow_right (by decide) hb
    have h3 : (2 : Nat) ^ 64 = 18446744073709551616 := by decide
    omega
  have HBt : Hid (Calls Tryz.prog 151 #[va] w fun e w' => e = .returned (.int .i64 (bl (nv B32 A))) ∧ w' = w) := bitsOf_any w va A hA ra tA (by omega)
  have HWd : Hid (Calls Tryz.prog 178 #[va] w fun e w' => e = .returned (.int .u64 ((nv B32 A : Nat) : Int)) ∧ w' = w) := word_any w va A hA ra l2
  have HRw : Hid (∀ w, Calls Tryz.prog 177 #[.int .u64 ((nv B32 A : Nat) : Int)] w fun e w' => ∃ r : Nat, e = .returned (.int .u64 (r : Int)) ∧ r * r ≤ nv B32 A ∧ nv B32 A < (r + 1) * (r + 1) ∧ r < 4294967296 ∧ w' = w) := rootWord_any _ hn
  have HLA : Hid (nv B32 A < B32 ^ A.length) := nv_lt B32 A ra
  obtain ⟨N, hN⟩ : ∃ N, nv B32 A = N := ⟨_, rfl⟩
  obtain ⟨m, hm⟩ : ∃ m, A.length = m := ⟨_, rfl⟩
  rw [hN] at HBt HWd HRw HLA hb ⊢
  rw [hm] at HLA ⊢
  have hbI : (bl N : Int) ≤ 64 := by omega
  clear hA ra tA l2 hn hb hN hm
  go_enter Tryz.func153, Tryz.ntmps153
  go_wp2_with fail
  refine HBt.out.mono ?_
  rintro e w1 ⟨rfl, rfl⟩
  go_wp2_with fail
  refine HWd.out.mono ?_
  rintro e w1 ⟨rfl, rfl⟩
  go_wp2_with fail
  refine (HRw.out _).mono ?_
  rintro e w1 ⟨r, rfl, h1, h2, h3, rfl⟩
  have HR : Hid (r * r ≤ N ∧ N < (r + 1) * (r + 1)) := ⟨h1, h2⟩
  have HDw : Hid (∀ w, Calls Tryz.prog 176 #[.int .u64 (r : Int)] w fun e w' => ∃ v K, e = .returned v ∧ Row w' w.heap.size v K ∧ (∀ x ∈ K, x < B32) ∧ nv B32 K = r ∧ Trim K ∧ K.length ≤ 2 ∧ w.grownBy w' none) := digitsOfWord_any r (by omega)
  clear h1 h2 h3
  go_wp2_with fail
  refine (HDw.out _).mono ?_
  rintro e w2 ⟨v, K, rfl, k1, k2, k3, k4, k5, k6⟩
  have HK : Hid (Row w2 w1.heap.size v K ∧ (∀ x ∈ K, x < B32) ∧ nv B32 K = r ∧ Trim K ∧ w1.grownBy w2 none) := ⟨k1, k2, k3, k4, k6⟩
  clear k1 k2 k3 k4 k5 k6
  go_wp2_with fail
  go_ret
  obtain ⟨k1, k2, k3, k4, k6⟩ := HK.out
  refine ⟨v, K, rfl, k1, k2, k4, by rw [k3]; exact HR.out.1, by rw [k3]; exact HR.out.2, trim_length k4 ?_, k6⟩
  rw [k3]
  exact Nat.lt_of_le_of_lt (root_le HR.out.1) HLA.out
theorem rootDigits_long (w : World) (va : Value) (A : List Nat) (hA : D4 w va A) (ra : ∀ x ∈ A, x < B32) (tA : Trim A) (la : A.length ≤ 5000) (hb : 64 < bl (nv B32 A))
    (ih : ∀ (w : World) (v : Value) (K : List Nat), D4 w v K → (∀ x ∈ K, x < B32) → Trim K → K.length ≤ 5000 → nv B32 K < nv B32 A → Calls Tryz.prog 153 #[v] w (RtR w (nv B32 K) K.length)) :
    Calls Tryz.prog 153 #[va] w (RtR w (nv B32 A) A.length) := by
  have HBt : Hid (Calls Tryz.prog 151 #[va] w fun e w' => e = .returned (.int .i64 (bl (nv B32 A))) ∧ w' = w) := bitsOf_any w va A hA ra tA (by omega)
  have hbl : bl (nv B32 A) ≤ 160000 := by
    obtain ⟨E, hE⟩ : ∃ E, E = 160000 := ⟨_, rfl⟩
    rw [← hE]
    have := nv_lt B32 A ra
    refine bl_le (Nat.lt_of_lt_of_le this ?_)
    have e : B32 ^ A.length = 2 ^ (32 * A.length) := by rw [show B32 = 2 ^ 32 by decide, ← Nat.pow_mul]
    rw [e]
    exact Nat.pow_le_pow_right (by decide) (by omega)
  obtain ⟨h, hh⟩ : ∃ h, bl (nv B32 A) / 4 = h := ⟨_, rfl⟩
  obtain ⟨g, hg2⟩ : ∃ g, 2 * h = g := ⟨_, rfl⟩
  have HSd : Hid (∀ w', w.grownBy w' none → Calls Tryz.prog 150 #[va, .int .i64 (g : Int)] w' fun e w'' => ∃ v' K, e = .returned v' ∧ Row w'' w'.heap.size v' K ∧ (∀ x ∈ K, x < B32) ∧ nv B32 K = nv B32 A / 2 ^ g ∧ Trim K ∧ K.length ≤ A.length ∧ w'.grownBy w'' none) := fun w' hg => shiftDown_any w' va A g (hA.kept hg) ra (by omega) (by omega)
  have HI : Hid (∀ (w : World) (v : Value) (K : List Nat), D4 w v K → (∀ x ∈ K, x < B32) → Trim K → K.length ≤ 5000 → nv B32 K < nv B32 A → Calls Tryz.prog 153 #[v] w (RtR w (nv B32 K) K.length)) := ih
  have HA : Hid (D4 w va A ∧ (∀ x ∈ A, x < B32) ∧ Trim A ∧ A.length ≤ 5000 ∧ 64 < bl (nv B32 A) ∧ 2 * h = g ∧ h ≤ 40000) := ⟨hA, ra, tA, la, hb, hg2, by omega⟩
  have hlt : nv B32 A / 2 ^ g < nv B32 A := by
    refine Nat.div_lt_self ?_ (Nat.one_lt_two_pow (by omega))
    rcases Nat.eq_zero_or_pos (nv B32 A) with k | k
    · rw [k] at hb; simp [bl] at hb
    · exact k
  have HLT : Hid (nv B32 A / 2 ^ g < nv B32 A) := hlt
  obtain ⟨bn, hbn⟩ : ∃ bn, bl (nv B32 A) = bn := ⟨_, rfl⟩
  rw [hbn] at HBt hh hbl hb
  have hhI : (bn : Int) / 4 = (h : Int) := by omega
  have hb1 : (65 : Int) ≤ (bn : Int) := by omega
  have hh2 : (h : Int) ≤ 40000 := by omega
  have hh3 : (2 : Int) * (h : Int) = (g : Int) := by omega
  clear hA ra tA la hb ih hlt hbl hh hbn hg2
  go_enter Tryz.func153, Tryz.ntmps153
  go_wp2_with fail
  refine HBt.out.mono ?_
  rintro e w1 ⟨rfl, rfl⟩
  go_wp2_with fail
  refine (HSd.out _ (World.grownBy.refl _ _)).mono ?_
  rintro e w2 ⟨v2, K2, rfl, k1, k2, k3, k4, k5, k6⟩
  have HK2 : Hid (Row w2 w1.heap.size v2 K2 ∧ (∀ x ∈ K2, x < B32) ∧ nv B32 K2 = nv B32 A / 2 ^ g ∧ Trim K2 ∧ K2.length ≤ A.length ∧ w1.grownBy w2 none) := ⟨k1, k2, k3, k4, k5, k6⟩
  clear k1 k2 k3 k4 k5 k6
  go_wp2_with fail
  refine (HI.out w2 v2 K2 HK2.out.1.d4 HK2.out.2.1 HK2.out.2.2.2.1 (by have := HK2.out.2.2.2.2.1; have := HA.out.2.2.2.1; omega) (by rw [HK2.out.2.2.1]; exact HLT.out)).mono ?_
  rintro e w3 ⟨v3, K3, rfl, k1, k2, k3, k4, k5, k6, k7⟩
  have HK3 : Hid (Row w3 w2.heap.size v3 K3 ∧ (∀ x ∈ K3, x < B32) ∧ Trim K3 ∧ nv B32 K2 < (nv B32 K3 + 1) * (nv B32 K3 + 1) ∧ K3.length ≤ 5000 ∧ w1.grownBy w3 none ∧ w2.heap.size ≤ w3.heap.size) := ⟨k1, k2, k3, k5, by have := HK2.out.2.2.2.2.1; have := HA.out.2.2.2.1; omega, grownBy_trans HK2.out.2.2.2.2.2 k7, k7.size⟩
  clear k1 k2 k3 k4 k5 k6 k7
  have HAd : Hid (Calls Tryz.prog 108 #[v3, .slice (some ⟨w3.heap.size, 0, none⟩) 1 1] (w3.alloc (.cells #[.int .u32 1] 103)) fun e w' => ∃ v' K, e = .returned v' ∧ D4 w' v' K ∧ (∀ x ∈ K, x < B32) ∧ nv B32 K = nv B32 K3 + 1 ∧ K.length ≤ 5001 ∧ w1.grownBy w' none) := by
    obtain ⟨k1, k2, k3, k5, k6, k7, h23⟩ := HK3.out
    have hb1 : BlkL (w3.alloc (.cells #[.int .u32 1] 103)) w3.heap.size 103 enc4 (ints [1]) := heap_alloc_new _ _
    have hr3 : Row (w3.alloc (.cells #[.int .u32 1] 103)) w2.heap.size v3 K3 := k1.kept (grow1 _ _) (by cases v3.ownBlock <;> simp)
    have h12 := HK2.out.2.2.2.2.2.size
    refine (addTo_row _ _ v3 _ K3 [1] hr3 hb1.d4 ?_ k2 (by intro x hx; simp at hx; subst hx; decide) (by omega) (by simp) (by simp; omega)).mono ?_
    · intro b n c e
      injection e with e _ _
      injection e with e
      subst e
      intro he
      have := (k1.lt he.symm).2
      simp at this
    · rintro e w' ⟨v', K, rfl, r1, r2, r3, r4, r5, r6, r7, r8⟩
      refine ⟨v', K, rfl, r1.d4, r2, by rw [r3]; simp [nv], by simp at r5; omega, ?_⟩
      exact grown_row (grownBy_trans k7 (grow1 _ _)) (hr3.base h12) r8
  go_wp2_with fail
  refine HAd.out.mono ?_
  rintro e w4 ⟨v4, K4, rfl, r1, r2, r3, r4, r5⟩
  have HSu : Hid (Calls Tryz.prog 148 #[v4, .int .i64 (h : Int)] w4 fun e w' => ∃ B K, e = .returned (.slice (some ⟨B, 0, none⟩) K.length K.length) ∧ w4.heap.size ≤ B ∧ BlkL w' B 103 enc4 (ints K) ∧ K.length = h / 32 + K4.length + 1 ∧ (∀ x ∈ K, x < B32) ∧ nv B32 K = nv B32 K4 * 2 ^ h ∧ w4.grownBy w' none) := shiftUp_any w4 v4 K4 h r1 r2 (by omega) (by have := HA.out.2.2.2.2.2.2; omega)
  have HK4 : Hid (nv B32 K4 = nv B32 K3 + 1 ∧ K4.length ≤ 5001 ∧ w1.grownBy w4 none) := ⟨r3, r4, r5⟩
  clear r1 r2 r3 r4 r5 HAd
  go_wp2_with fail
  refine HSu.out.mono ?_
  rintro e w5 ⟨B5, K5, rfl, q1, q2, q3, q4, q5, q6⟩
  have hl5 : K5.length ≤ 7000 := by have := HK4.out.2.1; have := HA.out.2.2.2.2.2.2; omega
  have HTr : Hid (Calls Tryz.prog 129 #[.slice (some ⟨B5, 0, none⟩) K5.length K5.length] w5 fun e w' => ∃ v' K, e = .returned v' ∧ Row w5 w1.heap.size v' K ∧ (∀ x ∈ K, x < B32) ∧ nv B32 K = (nv B32 K3 + 1) * 2 ^ h ∧ Trim K ∧ K.length ≤ 7000 ∧ w' = w5) := by
    have hrow := q2.row (base := w1.heap.size) (Nat.le_trans HK4.out.2.2.size q1) (by unfold maxLen; omega)
    refine (trim_row _ _ _ K5 hrow (by omega)).mono ?_
    rintro e w' ⟨v', k, rfl, t1, t2, t3, t4, _, rfl⟩
    refine ⟨v', _, rfl, t2, fun x hx => q4 x (List.mem_of_mem_take hx), by rw [t3, q5, HK4.out.1], t4, ?_, rfl⟩
    rw [List.length_take]; omega
  have HG5 : Hid (w1.grownBy w5 none) := grownBy_trans HK4.out.2.2 q6
  obtain ⟨n5, hn5⟩ : ∃ n5, K5.length = n5 := ⟨_, rfl⟩
  rw [hn5] at HTr ⊢
  clear q1 q2 q3 q4 q5 q6 HSu hl5 hn5
  go_wp2_with fail
  refine HTr.out.mono ?_
  rintro e w6 ⟨v6, K6, rfl, t1, t2, t3, t4, t5, rfl⟩
  have HK6 : Hid (Row w6 w1.heap.size v6 K6 ∧ (∀ x ∈ K6, x < B32) ∧ nv B32 K6 = (nv B32 K3 + 1) * 2 ^ h ∧ Trim K6 ∧ K6.length ≤ 7000) := ⟨t1, t2, t3, t4, t5⟩
  clear t1 t2 t3 t4 t5 HTr
  have HS0 : Hid (nv B32 A < ((nv B32 K3 + 1) * 2 ^ h) * ((nv B32 K3 + 1) * 2 ^ h)) := by
    have h1 := HK3.out.2.2.2.1
    rw [HK2.out.2.2.1, ← HA.out.2.2.2.2.2.1] at h1
    exact root_start h1
  go_wp2_with fail
  have HBIG : Hid (1 < nv B32 A) := by
    rcases Nat.lt_or_ge 1 (nv B32 A) with k | k
    · exact k
    · exfalso
      have h1 := bl_mono k
      have h2 : bl 1 = 1 := by decide
      have := HA.out.2.2.2.2.1
      omega
  have HB : Hid (D4 w1 va A ∧ (∀ x ∈ A, x < B32) ∧ Trim A ∧ A.length ≤ 5000) := ⟨HA.out.1, HA.out.2.1, HA.out.2.2.1, HA.out.2.2.2.1⟩
  go_loopg [6] ((nv B32 K3 + 1) * 2 ^ h) (fun q s6 wx => ∃ K, Row wx w1.heap.size s6 K ∧ (∀ x ∈ K, x < B32) ∧ Trim K ∧ nv B32 K = q ∧ 0 < q ∧ nv B32 A < (q + 1) * (q + 1) ∧ K.length ≤ 7000 ∧ w1.grownBy wx none)
  case atStart =>
    obtain ⟨t1, t2, t3, t4, t5⟩ := HK6.out
    have hp : 0 < (nv B32 K3 + 1) * 2 ^ h := Nat.mul_pos (by omega) (Nat.two_pow_pos _)
    refine ⟨K6, t1, t2, t4, t3, hp, ?_, t5, HG5.out⟩
    have := HS0.out
    have := Nat.mul_le_mul (Nat.le_succ ((nv B32 K3 + 1) * 2 ^ h)) (Nat.le_succ ((nv B32 K3 + 1) * 2 ^ h))
    exact Nat.lt_of_lt_of_le HS0.out this
  case round =>
    obtain ⟨K, i1, i2, i3, i4, i5, i6, i7, i8⟩ := hrel
    clear HK6 HG5 HS0 HK4 HK3 HK2 HI HSd HBt HLT HA
    have HD : Hid (Calls Tryz.prog 107 #[va, u6] wr (DivQ wr (nv B32 A) gk A.length)) := by
      have hne : K.length ≠ 0 := by
        intro e
        rw [List.length_eq_zero_iff.1 e] at i4
        simp [nv] at i4
        omega
      have := divide_any wr va u6 A K (HB.out.1.kept i8) i1.d4 HB.out.2.1 i2 HB.out.2.2.1 i3 (by have := HB.out.2.2.2; omega) (by omega) hne
      rw [i4] at this
      exact this
    have HI : Hid (Row wr w1.heap.size u6 K ∧ (∀ x ∈ K, x < B32) ∧ Trim K ∧ nv B32 K = gk ∧ 0 < gk ∧ nv B32 A < (gk + 1) * (gk + 1) ∧ K.length ≤ 7000 ∧ w1.grownBy wr none) := ⟨i1, i2, i3, i4, i5, i6, i7, i8⟩
    clear i1 i2 i3 i4 i5 i6 i7 i8
    go_wp2_with fail
    refine HD.out.mono ?_
    rintro e w7 ⟨vq, vr, Kq, Kr, rfl, d1, d2, d3, d4, d5, d6, d7, d8, d9, d10, d11, d12⟩
    have HAd : Hid (Calls Tryz.prog 108 #[vq, u6] w7 fun e w' => ∃ v' K', e = .returned v' ∧ D4 w' v' K' ∧ (∀ x ∈ K', x < B32) ∧ nv B32 K' = nv B32 A / gk + gk ∧ K'.length ≤ 12001 ∧ wr.grownBy w' none) := by
      obtain ⟨i1, i2, i3, i4, i5, i6, i7, i8⟩ := HI.out
      refine (addTo_row w7 wr.heap.size vq u6 Kq K d1 (i1.d4.kept d12) ?_ d4 i2 (by have := HB.out.2.2.2; omega) (by omega) d12.size).mono ?_
      · intro b n c e
        rcases i1.cases with ⟨e2, _⟩ | ⟨g2, c2, e2, _⟩
        · rw [e2] at e; cases e
        · rw [e2] at e
          injection e with e _ _
          injection e with e
          subst e
          intro he
          have h1 := (d1.lt he.symm).1
          have h2 := (i1.lt (g := g2) (by rw [e2]; rfl)).2
          simp at h1
          omega
      · rintro e w' ⟨v', K', rfl, r1, r2, r3, r4, r5, r6, r7, r8⟩
        refine ⟨v', K', rfl, r1.d4, r2, by rw [r3, d8, i4], ?_, grown_row d12 d1 r8⟩
        have := HB.out.2.2.2
        omega
    clear d1 d2 d3 d4 d5 d6 d7 d8 d9 d10 d11 d12 HD
    go_wp2_with fail
    refine HAd.out.mono ?_
    rintro e w8 ⟨v8, K8, rfl, r1, r2, r3, r4, r5⟩
    have HSd : Hid (Calls Tryz.prog 150 #[v8, .int .i64 1] w8 fun e w' => ∃ v' K', e = .returned v' ∧ Row w' w8.heap.size v' K' ∧ (∀ x ∈ K', x < B32) ∧ nv B32 K' = (nv B32 A / gk + gk) / 2 ∧ Trim K' ∧ K'.length ≤ 12001 ∧ wr.grownBy w' none) := by
      have := shiftDown_any w8 v8 K8 1 r1 r2 (by omega) (by omega)
      refine this.mono ?_
      rintro e w' ⟨v', K', rfl, s1, s2, s3, s4, s5, s6⟩
      exact ⟨v', K', rfl, s1, s2, by rw [s3, r3, Nat.pow_one], s4, by omega, grownBy_trans r5 s6⟩
    have HZ8 : Hid (wr.heap.size ≤ w8.heap.size) := r5.size
    clear r1 r2 r3 r4 r5 HAd
    go_wp2_with fail
    refine HSd.out.mono ?_
    rintro e w9 ⟨v9, K9, rfl, s1, s2, s3, s4, s5, s6⟩
    have HCm : Hid (Calls Tryz.prog 144 #[v9, u6] w9 fun e w' => e = .returned (.int .i64 (cmpN ((nv B32 A / gk + gk) / 2) gk)) ∧ w9.grownBy w' none) := by
      obtain ⟨i1, i2, i3, i4, i5, i6, i7, i8⟩ := HI.out
      have := cmpDigits_any w9 v9 u6 K9 K s1.d4 (i1.d4.kept s6) s2 i2 s4 i3 (by omega) (by omega)
      rw [s3, i4] at this
      exact this
    have HK9 : Hid (Row w9 w8.heap.size v9 K9 ∧ (∀ x ∈ K9, x < B32) ∧ nv B32 K9 = (nv B32 A / gk + gk) / 2 ∧ Trim K9 ∧ wr.grownBy w9 none) := ⟨s1, s2, s3, s4, s6⟩
    clear s1 s2 s3 s4 s5 s6 HSd
    by_cases hlt : (nv B32 A / gk + gk) / 2 < gk
    · have HLT : Hid ((nv B32 A / gk + gk) / 2 < gk) := hlt
      rw [cmpN_lt hlt] at HCm
      clear hlt
      go_wp2_with fail
      refine HCm.out.mono ?_
      rintro e w10 ⟨rfl, g10⟩
      have HG10 : Hid (w9.grownBy w10 none) := g10
      clear g10 HCm
      go_wp2_with fail
      obtain ⟨i1, i2, i3, i4, i5, i6, i7, i8⟩ := HI.out
      obtain ⟨s1, s2, s3, s4, s6⟩ := HK9.out
      have hw18 : w1.heap.size ≤ w8.heap.size := Nat.le_trans i8.size HZ8.out
      have hr10 : Row w10 w1.heap.size v9 K9 := (s1.base hw18).kept HG10.out (by cases v9.ownBlock <;> simp)
      go_roundg ((nv B32 A / gk + gk) / 2)
      case measure => exact HLT.out
      case rel =>
        refine ⟨K9, hr10, s2, s4, s3, ?_, newton_up i5, ?_, grownBy_trans i8 (grownBy_trans s6 HG10.out)⟩
        · rcases Nat.eq_zero_or_pos ((nv B32 A / gk + gk) / 2) with k | k
          · exfalso
            have h1 := newton_up (N := nv B32 A) i5
            rw [k] at h1
            have h2 := HBIG.out
            omega
          · exact k
        · have h1 : nv B32 K9 < B32 ^ K.length := by
            rw [s3]
            refine Nat.lt_trans HLT.out ?_
            rw [← i4]
            exact nv_lt B32 K i2
          have := trim_length s4 h1
          omega
    · have HLT : Hid (gk ≤ (nv B32 A / gk + gk) / 2) := Nat.le_of_not_lt hlt
      have hc0 : cmpN ((nv B32 A / gk + gk) / 2) gk = 0 ∨ cmpN ((nv B32 A / gk + gk) / 2) gk = 1 := by
        rcases cmpN_three ((nv B32 A / gk + gk) / 2) gk with h | h | h
        · unfold cmpN at h
          rw [if_neg hlt] at h
          split at h <;> omega
        · exact .inl h
        · exact .inr h
      obtain ⟨cc, hcc⟩ : ∃ cc, cmpN ((nv B32 A / gk + gk) / 2) gk = cc := ⟨_, rfl⟩
      rw [hcc] at HCm hc0
      have hc1 : (0 : Int) ≤ cc := by omega
      clear hlt hc0 hcc
      go_wp2_with fail
      refine HCm.out.mono ?_
      rintro e w10 ⟨rfl, g10⟩
      have HG10 : Hid (w9.grownBy w10 none) := g10
      clear g10 HCm
      go_wp2_with fail
      go_ret
      obtain ⟨i1, i2, i3, i4, i5, i6, i7, i8⟩ := HI.out
      obtain ⟨s1, s2, s3, s4, s6⟩ := HK9.out
      have hst := newton_stop HLT.out
      refine ⟨u6, K, rfl, i1.kept (grownBy_trans s6 HG10.out) (by cases u6.ownBlock <;> simp), i2, i3, by rw [i4]; exact hst, by rw [i4]; exact i6, trim_length i3 ?_, grownBy_trans i8 (grownBy_trans s6 HG10.out)⟩
      rw [i4]
      exact Nat.lt_of_le_of_lt (root_le hst) (nv_lt B32 A HB.out.2.1)
theorem rootDigits_any : ∀ (N : Nat) (w : World) (va : Value) (A : List Nat), nv B32 A = N → D4 w va A → (∀ x ∈ A, x < B32) → Trim A → A.length ≤ 5000 → Calls Tryz.prog 153 #[va] w (RtR w (nv B32 A) A.length) := by
  intro N
  induction N using Nat.strongRecOn with
  | ind N ih =>
    intro w va A hN hA ra tA la
    rcases Nat.lt_or_ge 64 (bl (nv B32 A)) with h | h
    · exact rootDigits_long w va A hA ra tA la h fun w v K k1 k2 k3 k4 k5 => ih _ (by rw [← hN]; exact k5) w v K rfl k1 k2 k3 k4
    · exact rootDigits_short w va A hA ra tA h
theorem productP_row (w : World) (va vb : Value) (A B : List Nat) (hA : D4 w va A) (hB : D4 w vb B) (ra : ∀ x ∈ A, x < B32) (rb : ∀ x ∈ B, x < B32) (la : A.length ≤ 100000000) (lb : B.length ≤ 100000000) :
    Calls Tryz.prog 145 #[va, vb] w fun e w' => ∃ v K, e = .returned v ∧ Row w' w.heap.size v K ∧ (∀ x ∈ K, x < B32) ∧ nv B32 K = nv B32 A * nv B32 B ∧ K.length ≤ A.length + B.length ∧ Trim K ∧ w.grownBy w' none := by
  obtain ⟨aa, ca, rfl⟩ := hA.slice
  obtain ⟨ab, cb, rfl⟩ := hB.slice
  have HA : Hid (D4 w (.slice aa A.length ca) A) := hA
  have HB : Hid (D4 w (.slice ab B.length cb) B) := hB
  have HRa : Hid (∀ x ∈ A, x < B32) := ra
  have HRb : Hid (∀ x ∈ B, x < B32) := rb
  obtain ⟨p, hp⟩ : ∃ p, A.length = p := ⟨_, rfl⟩
  obtain ⟨q, hq⟩ : ∃ q, B.length = q := ⟨_, rfl⟩
  have HP : Unit → A.length = p := fun _ => hp
  have HQ : Unit → B.length = q := fun _ => hq
  have hp9 : (p : Int) ≤ 100000000 := by omega
  have hq9 : (q : Int) ≤ 100000000 := by omega
  have hmk := make4 w (p + q) (by omega)
  rw [show ((p + q : Nat) : Int) = (p : Int) + q by omega] at hmk
  rw [hp] at HA ⊢
  rw [hq] at HB ⊢
  clear hA hB ra rb hp hq la lb
  go_enter Tryz.func145, Tryz.ntmps145
  go_wp2_with fail
  clear hmk
  go_loopw [19] (fun t wr => ∃ (i : Nat) (L : List Nat), t = .int .i64 i ∧ i ≤ p ∧ L.length = p + q ∧ (∀ x ∈ L, x < B32) ∧ nv B32 L = nv B32 (A.take i) * nv B32 B ∧ (∀ j, i + q ≤ j → L[j]?.getD 0 = 0) ∧
    BlkL wr w.heap.size 103 enc4 (ints L) ∧ w.grownBy wr none) (fun t _ => p - (RowKit.intOf t).toNat)
  case atStart =>
    refine ⟨0, List.replicate (p + q) 0, rfl, by omega, by simp, fun x hx => by rw [List.eq_of_mem_replicate hx]; decide, by rw [nv_replicate]; simp [nv], fun j _ => ?_, heap_alloc_new _ _, grow1 _ _⟩
    rw [List.getElem?_replicate]
    split <;> rfl
  case round =>
    obtain ⟨i, L, rfl, hi, hL, hr, hv, hz, hBk, hg⟩ := hrel
    by_cases hi1 : i < p
    · have HV : Hid (nv B32 L = nv B32 (A.take i) * nv B32 B) := hv
      have HZ : Hid (∀ j, i + q ≤ j → L[j]?.getD 0 = 0) := hz
      have HR : Hid (∀ x ∈ L, x < B32) := hr
      have HBk : Hid (BlkL wr w.heap.size 103 enc4 (ints L)) := hBk
      have HG : Hid (w.grownBy wr none) := hg
      rcases HA.out with ⟨_, hnil⟩ | ⟨Ba, oa, ca', hve, hpc, hcA⟩
      · exfalso
        have := HP ()
        rw [hnil] at this
        simp at this
        omega
      · obtain ⟨haa, hpp, hcc⟩ := Value.slice.inj hve
        rw [HP ()] at hpc
        clear hpp hve
        subst haa
        subst hcc
        have HCA : Hid (∀ j, j < A.length → w.cell? ⟨Ba, oa + j, none⟩ = some (.int .u32 ((A[j]?.getD 0 : Nat) : Int))) := hcA
        have hx := grownBy_cell hg (HCA.out i (by rw [HP ()]; omega)) (by simp)
        have rX := d4_rng HRa.out i
        have SX := nv_take_succ B32 A i
        have SXH : Hid (nv B32 (A.take (i + 1)) = nv B32 (A.take i) + A[i]?.getD 0 * B32 ^ i) := SX
        clear SX hcA hv hz hr hBk hg
        generalize A[i]?.getD 0 = x at *
        have hxI : (x : Int) ≤ 4294967295 := by have : x < 4294967296 := rX; omega
        have hiI : (i : Int) < p := by omega
        generalize wr = wo at *
        go_wp2_with fail
        go_loopw [8, 26] (fun s t wr => ∃ (c k : Nat) (M : List Nat), s = .int .u64 c ∧ t = .int .i64 k ∧ (c : Int) ≤ 4294967295 ∧ k ≤ q ∧ M.length = p + q ∧ (∀ x ∈ M, x < B32) ∧ nv B32 M + c * B32 ^ (i + k) = nv B32 L + x * nv B32 (B.take k) * B32 ^ i ∧ (∀ j, i + q ≤ j → M[j]?.getD 0 = 0) ∧
          BlkL wr w.heap.size 103 enc4 (ints M) ∧ w.grownBy wr none) (fun _ t _ => q - (RowKit.intOf t).toNat)
        case atStart => exact ⟨0, 0, L, rfl, rfl, by omega, by omega, hL, HR.out, by simp [nv], HZ.out, HBk.out, HG.out⟩
        case round =>
          obtain ⟨c, k, M, rfl, rfl, hc, hk, hM, hmr, hmv, hmz, hmb, hmg⟩ := hrel
          have HMR : Hid (∀ x ∈ M, x < B32) := hmr
          have HMV : Hid (nv B32 M + c * B32 ^ (i + k) = nv B32 L + x * nv B32 (B.take k) * B32 ^ i) := hmv
          have HMZ : Hid (∀ j, i + q ≤ j → M[j]?.getD 0 = 0) := hmz
          have HMB : Hid (BlkL wr w.heap.size 103 enc4 (ints M)) := hmb
          have HMG : Hid (w.grownBy wr none) := hmg
          clear hx
          by_cases hk1 : k < q
          · rcases HB.out with ⟨_, hnil⟩ | ⟨Bb, ob, cb', hve, hqc, hcB⟩
            · exfalso
              have := HQ ()
              rw [hnil] at this
              simp at this
              omega
            · obtain ⟨hab, hqq, hcc2⟩ := Value.slice.inj hve
              rw [HQ ()] at hqc
              clear hqq hve
              subst hab
              subst hcc2
              have hy := grownBy_cell hmg (hcB k (by rw [HQ ()]; omega)) (by simp)
              have rY := d4_rng HRb.out k
              have hzc := hmb.cell (i + k) (by rw [ints_length]; omega)
              rw [ints_at] at hzc
              have hzf := hmb.frozen (i + k)
              have rZ := d4_rng HMR.out (i + k)
              have SY := nv_take_succ B32 B k
              have SYH : Hid (nv B32 (B.take (k + 1)) = nv B32 (B.take k) + B[k]?.getD 0 * B32 ^ k) := SY
              have RS : Hid (nv B32 (M.set (i + k) ((c + x * B[k]?.getD 0 + M[i + k]?.getD 0) % 4294967296)) + (c + x * B[k]?.getD 0 + M[i + k]?.getD 0) / 4294967296 * B32 ^ (i + k + 1) = nv B32 L + x * (nv B32 (B.take k) + B[k]?.getD 0 * B32 ^ k) * B32 ^ i) := row_step (by omega) hmv
              clear SY hcB hmr hmv hmz hmb hmg HMV
              generalize B[k]?.getD 0 = y at *
              generalize M[i + k]?.getD 0 = z at *
              have hm1 := mul_lt32 (x := x) (y := y) rX rY
              have hzI : (z : Int) ≤ 4294967295 := by have : z < 4294967296 := rZ; omega
              have hyI : (y : Int) ≤ 4294967295 := by have : y < 4294967296 := rY; omega
              obtain ⟨P, hP⟩ : ∃ P, x * y = P := ⟨_, rfl⟩
              have hPI : (y : Int) * (x : Int) = (P : Int) := by rw [← hP, Int.mul_comm]; simp
              rw [hP] at hm1 RS
              have hw1 : IntKind.u64.wrap ((y : Int) * (x : Int)) = (P : Int) := by rw [hPI, IntKind.wrap_u64]; omega
              have hw2 : IntKind.u64.wrap ((P : Int) + (z : Int)) = (P : Int) + z := by rw [IntKind.wrap_u64]; omega
              have hw3 : IntKind.u64.wrap ((c : Int) + ((P : Int) + (z : Int))) = (c : Int) + (P + z) := by rw [IntKind.wrap_u64]; omega
              have hw4 : IntKind.i64.wrap ((i : Int) + (k : Int)) = ((i + k : Nat) : Int) := by rw [IntKind.wrap_i64]; omega
              have hw5 : IntKind.u64.wrap (y : Int) = (y : Int) := by rw [IntKind.wrap_u64]; omega
              have hw6 : IntKind.u64.wrap (z : Int) = (z : Int) := by rw [IntKind.wrap_u64]; omega
              have hw7 : IntKind.u64.wrap (x : Int) = (x : Int) := by rw [IntKind.wrap_u64]; omega
              have hik : ((i + k : Nat) : Int) < (p : Int) + q := by omega
              have hkq : (k : Int) < q := by omega
              clear hP rX rY rZ
              go_wp2_with fail
              go_roundw
              case rel =>
                have hr1 : (c + P + z) % 4294967296 < B32 := Nat.mod_lt _ (by decide)
                refine ⟨(c + P + z) / 4294967296, k + 1, M.set (i + k) ((c + P + z) % 4294967296), num_eq (by omega), rfl, by omega, by omega, by simp [hM], set_rng HMR.out hr1, ?_, fun j hj => ?_, ?_, grown_set HMG.out (Nat.le_refl _)⟩
                · rw [SYH.out, ← Nat.add_assoc]
                  exact RS.out
                · rw [List.getElem?_set_ne (by omega)]
                  exact HMZ.out j hj
                · have e := HMB.out.set (i + k) (((c + P + z) % 4294967296 : Nat) : Int)
                  rw [ints_set] at e
                  rw [show ((c : Int) + (P + z)) % 4294967296 = (((c + P + z) % 4294967296 : Nat) : Int) by omega]
                  exact e
              case measure => simp [RowKit.intOf]; omega
          · obtain rfl : k = q := by omega
            have hzc := hmb.cell (i + k) (by rw [ints_length]; omega)
            have hzf := hmb.frozen (i + k)
            have hz0 : M[i + k]?.getD 0 = 0 := HMZ.out (i + k) (Nat.le_refl _)
            have hwi : ((i + k : Nat) : Int) < (p : Int) + k := by omega
            clear hmr hmv hmz hmb hmg
            go_wp2_with fail
            go_roundw
            case rel =>
              have hset := nv_set B32 M (i + k) c (by omega)
              rw [hz0, Nat.zero_mul, Nat.add_zero] at hset
              have hmv := HMV.out
              rw [nv_take_all B32 B k (by rw [HQ ()]; exact Nat.le_refl _), HV.out] at hmv
              have hcr : c < B32 := by simp only [B32]; omega
              refine ⟨i + 1, M.set (i + k) c, rfl, by omega, by simp [hM], set_rng HMR.out hcr, ?_, fun j hj => ?_, ?_, grown_set HMG.out (Nat.le_refl _)⟩
              · rw [hset, hmv, SXH.out, Nat.add_mul]
                congr 1
                rw [Nat.mul_assoc, Nat.mul_assoc, Nat.mul_comm (nv B32 B)]
              · rw [List.getElem?_set_ne (by omega)]
                exact HMZ.out j (by omega)
              · have e := HMB.out.set (i + k) (c : Int)
                rw [ints_set] at e
                exact e
            case measure => simp [RowKit.intOf]; omega
    · obtain rfl : i = p := by omega
      have hvv : nv B32 L = nv B32 A * nv B32 B := by rw [hv, nv_take_all B32 A i (by rw [HP ()]; exact Nat.le_refl _)]
      have hct := trim_row wr w.heap.size _ L (hBk.row (Nat.le_refl _) (by unfold maxLen; omega)) (by omega)
      rw [hL] at hct
      have HCT : Hid (Calls Tryz.prog 129 #[.slice (some ⟨w.heap.size, 0, none⟩) (i + q) (i + q)] wr fun e w' => ∃ v' k, e = .returned v' ∧ k ≤ i + q ∧ Row wr w.heap.size v' (L.take k) ∧ nv B32 (L.take k) = nv B32 L ∧ Trim (L.take k) ∧ w' = wr) := by
        refine hct.mono ?_
        rintro e w' ⟨v', k, h1, h2, h3, h4, h5, _, h6⟩
        exact ⟨v', k, h1, h2, h3, h4, h5, h6⟩
      have HVV : Unit → nv B32 L = nv B32 A * nv B32 B := fun _ => hvv
      have HR : Hid (∀ x ∈ L, x < B32) := hr
      have HG : Hid (w.grownBy wr none) := hg
      clear hct hvv hr hv hBk hg hz
      go_wp2_with fail
      refine HCT.out.mono ?_
      rintro e w1 ⟨v', k, rfl, hk, hD, hnk, hlast, rfl⟩
      have hlen : (L.take k).length = k := by rw [List.length_take, hL, Nat.min_eq_left hk]
      have HD : Hid (Row w1 w.heap.size v' (L.take k)) := hD
      have HNK : Unit → nv B32 (L.take k) = nv B32 L := fun _ => hnk
      have HLT : Hid (Trim (L.take k)) := hlast
      clear hD hnk hlast HCT
      go_wp2_with fail
      go_ret
      exact ⟨v', L.take k, rfl, HD.out, fun x hx => HR.out x (List.mem_of_mem_take hx), by rw [HNK (), HVV ()], by omega, HLT.out, HG.out⟩
theorem blksR {n1 : Bool} {m1 : ByteArray} {w w1 : World} (g : (((w.alloc (wObj n1 m1)).alloc (wObj false eS)).alloc (wObj false eS)).grownBy w1 none) :
    WBlk w1 w.heap.size (.bool n1) (.string m1) ∧ WBlk w1 (w.heap.size + 1) (.bool false) (.string eS) ∧ WBlk w1 (w.heap.size + 1 + 1) (.bool false) (.string eS) := by
  refine ⟨WBlk.kept (old_alloc _ _ (old_alloc _ _ (heap_alloc_new _ _))) g (by simp), WBlk.kept (old_alloc _ _ (heap_alloc2_new _ _ _)) g (by simp), WBlk.kept (at_alloc3 _ _ _ _) g (by simp)⟩
theorem root_neg (mag : ByteArray) (h : may true mag = true) (w : World) :
    Calls Tryz.prog 112 #[whole true mag] w fun e w' => e = .returned (.tuple #[whole false eS, whole false eS, .int .i64 7]) ∧ w.grownBy w' none := by
  have hm := may_size h
  have HC : Hid (∀ w, Calls Tryz.prog 81 #[whole true mag] w fun e w' => e = .returned (.int .i64 0) ∧ w.grownBy w' none) := fun w => by
    have := check_any true mag (by unfold maxLen; omega) w
    rw [chk_yes h] at this
    refine this.mono ?_
    rintro e w' ⟨rfl, rfl⟩
    exact ⟨rfl, grow1 _ _⟩
  clear h hm
  go_enter Tryz.func112, Tryz.ntmps112
  go_wp2_with fail
  refine (HC.out _).mono ?_
  rintro e w1 ⟨rfl, g1⟩
  have HG1 : Hid ((((w.alloc (wObj true mag)).alloc (wObj false eS)).alloc (wObj false eS)).grownBy w1 none) := g1
  obtain ⟨hA, _, _⟩ := blksR g1
  have a0 := hA.c0
  clear g1 HC
  go_wp2_with fail
  refine (zero_any _).mono ?_
  rintro e w2 ⟨rfl, rfl⟩
  clear a0
  go_wp2_with fail
  refine (zero_any _).mono ?_
  rintro e w2 ⟨rfl, rfl⟩
  have HG2 : Hid ((((w.alloc (wObj true mag)).alloc (wObj false eS)).alloc (wObj false eS)).grownBy ((w1.alloc (wObj false eS)).alloc (wObj false eS)) none) := grownBy_trans HG1.out (grow2 _ _ _)
  clear hA
  obtain ⟨_, hC, hD⟩ := blksR HG2.out
  have c0 := hC.c0
  have c1 := hC.c1
  have c2 := hC.fr 0
  have c3 := hC.fr 1
  have d0 := hD.c0
  have d1 := hD.c1
  have d2 := hD.fr 0
  have d3 := hD.fr 1
  go_wp2_with fail
  refine bodyPost_ret (res_cell2_tmp rfl _ _ (w.heap.size + 1) (w.heap.size + 1 + 1) _ _ _ _ _ _ _ _ rfl (((hC.put _ _).other (by omega)).other (by omega)) rfl (((hD.other (by omega)).other (by omega)).put _ _)) rfl ?_
  exact ⟨rfl, grown_set (grown_set (grown_set (grown_set (grownBy_trans (grow3 _ _ _ _) HG2.out) (by omega)) (by omega)) (by omega)) (by omega)⟩
def RootR (V : Nat) (e : Ending) : Prop := ∃ r s s', e = .returned (.tuple #[whole false s, whole false s', .int .i64 0]) ∧ r * r ≤ V ∧ V < (r + 1) * (r + 1) ∧ bN s = magN r ∧ bN s' = magN (V - r * r)
theorem root_yes (mag : ByteArray) (h : may false mag = true) (w : World) :
    Calls Tryz.prog 112 #[whole false mag] w fun e w' => RootR (val (bN mag)) e ∧ w.grownBy w' none := by
  have hm := may_size h
  have HM : Hid (may false mag = true ∧ mag.size ≤ 16384) := ⟨h, hm⟩
  have HC : Hid (∀ w, Calls Tryz.prog 81 #[whole false mag] w fun e w' => e = .returned (.int .i64 0) ∧ w.grownBy w' none) := fun w => by
    have := check_any false mag (by unfold maxLen; omega) w
    rw [chk_yes h] at this
    refine this.mono ?_
    rintro e w' ⟨rfl, rfl⟩
    exact ⟨rfl, grow1 _ _⟩
  clear h hm
  go_enter Tryz.func112, Tryz.ntmps112
  go_wp2_with fail
  refine (HC.out _).mono ?_
  rintro e w1 ⟨rfl, g1⟩
  have HG1 : Hid ((((w.alloc (wObj false mag)).alloc (wObj false eS)).alloc (wObj false eS)).grownBy w1 none) := g1
  obtain ⟨hA, _, _⟩ := blksR g1
  have a0 := hA.c0
  have a1 := hA.c1
  clear g1 HC
  go_wp2_with fail
  refine (digitsOf_any mag HM.out.2 _).mono ?_
  rintro e w2 ⟨B, L, rfl, hB, hL, g2, l2, r2, v2⟩
  have HRt : Hid (Calls Tryz.prog 153 #[.slice (some ⟨B, 0, none⟩) L.length L.length] w2 (RtR w2 (nv B32 L) L.length)) := rootDigits_any _ w2 _ L rfl hL.d4 r2 (trim_digits HM.out.1 l2 r2 v2) (by have := HM.out.2; omega)
  have HL : Hid (w1.heap.size ≤ B ∧ BlkL w2 B 103 enc4 (ints L) ∧ L.length ≤ 4096 ∧ (∀ x ∈ L, x < B32) ∧ nv B32 L = val (bN mag) ∧ w1.grownBy w2 none) := ⟨hB, hL, by have := HM.out.2; omega, r2, v2, g2⟩
  obtain ⟨nl, hnl⟩ : ∃ nl, L.length = nl := ⟨_, rfl⟩
  have HNL : Hid (L.length = nl) := hnl
  rw [hnl] at HRt ⊢
  clear hB hL g2 l2 r2 v2 a0 a1 hA hnl
  go_wp2_with fail
  refine HRt.out.mono ?_
  rintro e w3 ⟨v3, K3, rfl, k1, k2, k3, k4, k5, k6, k7⟩
  have HK3 : Hid (Row w3 w2.heap.size v3 K3 ∧ (∀ x ∈ K3, x < B32) ∧ Trim K3 ∧ nv B32 K3 * nv B32 K3 ≤ nv B32 L ∧ nv B32 L < (nv B32 K3 + 1) * (nv B32 K3 + 1) ∧ K3.length ≤ nl ∧ w2.grownBy w3 none) := ⟨k1, k2, k3, k4, k5, k6, k7⟩
  have HBl : Hid (bl (nv B32 L) ≤ 131072) := by
    have := (bl_max HM.out.1 131072 rfl).2
    rw [← HL.out.2.2.2.2.1] at this
    exact this
  have HMd : Hid (Calls Tryz.prog 110 #[.bool false, v3] w3 fun e w'' => (∃ s, e = .returned (.tuple #[whole false s, .int .i64 0]) ∧ bN s = magN (nv B32 K3)) ∧ w3.grownBy w'' none) := by
    refine (madeP_any false w3 v3 K3 k1.d4 k2 (by have := HL.out.2.2.1; have := HNL.out; omega)).mono ?_
    rintro e w' ⟨hmd, hg⟩
    refine ⟨?_, hg⟩
    rcases hmd with ⟨_, s, rfl, hs⟩ | ⟨hbig, _⟩
    · exact ⟨s, rfl, hs⟩
    · have h1 := bl_mono (root_le k4)
      have := HBl.out
      omega
  clear k1 k2 k3 k4 k5 k6 k7 HRt
  go_wp2_with fail
  refine HMd.out.mono ?_
  rintro e w4 ⟨⟨s, rfl, hs⟩, g4⟩
  have HS : Hid (bN s = magN (nv B32 K3)) := hs
  have G4 := grownBy_trans HG1.out (grownBy_trans HL.out.2.2.2.2.2 (grownBy_trans HK3.out.2.2.2.2.2.2 g4))
  obtain ⟨_, hC, hD⟩ := blksR G4
  have c0 := hC.c0
  have c1 := hC.c1
  have c2 := hC.fr 0
  have c3 := hC.fr 1
  have hwl : w.heap.size + 1 + 1 + 1 ≤ w1.heap.size := by have := HG1.out.size; simpa using this
  have h12 := HL.out.2.2.2.2.2.size
  -- behind the store into the root's block
  obtain ⟨w5, hw5⟩ : ∃ w5, (w4.setCell ⟨w.heap.size + 1, 0, none⟩ (.bool false)).setCell ⟨w.heap.size + 1, 1, none⟩ (.string s) = w5 := ⟨_, rfl⟩
  have hC5 : WBlk w5 (w.heap.size + 1) (.bool false) (.string s) := by rw [← hw5]; exact hC.put _ _
  have hD5 : WBlk w5 (w.heap.size + 1 + 1) (.bool false) (.string eS) := by rw [← hw5]; exact (hD.other (by omega)).other (by omega)
  have hr5 : Row w5 w2.heap.size v3 K3 := by
    have hne : v3.ownBlock = none ∨ v3.ownBlock ≠ some (w.heap.size + 1) := by
      cases he : v3.ownBlock with
      | none => exact .inl rfl
      | some g =>
        have := (HK3.out.1.lt he).1
        exact .inr (by intro e; injection e with e; omega)
    rw [← hw5]
    exact ((HK3.out.1.kept g4 (by cases v3.ownBlock <;> simp)).kept (grownBy_setCell _ _ _ _) hne).kept (grownBy_setCell _ _ _ _) hne
  have hb5 : BlkL w5 B 103 enc4 (ints L) := by
    have hB := HL.out.1
    rw [← hw5]
    exact ((HL.out.2.1.kept (grownBy_trans HK3.out.2.2.2.2.2.2 g4) (by simp)).kept (grownBy_setCell _ _ _ _) (by intro e; injection e with e; omega)).kept (grownBy_setCell _ _ _ _) (by intro e; injection e with e; omega)
  have hg5 : w.grownBy w5 none := by
    rw [← hw5]
    exact grown_set (grown_set (grownBy_trans (grow3 _ _ _ _) G4) (by omega)) (by omega)
  have h5B : B < w5.heap.size := hb5.lt
  have HX : Hid (WBlk w5 (w.heap.size + 1) (.bool false) (.string s) ∧ WBlk w5 (w.heap.size + 1 + 1) (.bool false) (.string eS) ∧ Row w5 w2.heap.size v3 K3 ∧ BlkL w5 B 103 enc4 (ints L) ∧ w.grownBy w5 none ∧ w1.heap.size ≤ B ∧ w.heap.size + 1 + 1 + 1 ≤ w1.heap.size ∧ B < w5.heap.size) := ⟨hC5, hD5, hr5, hb5, hg5, HL.out.1, hwl, h5B⟩
  have HW5 : Hid ((w4.setCell ⟨w.heap.size + 1, 0, none⟩ (.bool false)).setCell ⟨w.heap.size + 1, 1, none⟩ (.string s) = w5) := hw5
  clear hC5 hD5 hr5 hb5 hg5 hwl h12 hw5 g4 G4 hs hD h5B
  go_wp2_with fail
  rw [HW5.out]
  have HPr : Hid (Calls Tryz.prog 145 #[v3, v3] w5 fun e w' => ∃ v K, e = .returned v ∧ Row w' w5.heap.size v K ∧ (∀ x ∈ K, x < B32) ∧ nv B32 K = nv B32 K3 * nv B32 K3 ∧ Trim K ∧ w5.grownBy w' none) := by
    have hl : K3.length ≤ 4096 := by have := HK3.out.2.2.2.2.2.1; have := HL.out.2.2.1; have := HNL.out; omega
    refine (productP_row w5 v3 v3 K3 K3 HX.out.2.2.1.d4 HX.out.2.2.1.d4 HK3.out.2.1 HK3.out.2.1 (by omega) (by omega)).mono ?_
    rintro e w' ⟨v, K, rfl, p1, p2, p3, p4, p5, p6⟩
    exact ⟨v, K, rfl, p1, p2, p3, p5, p6⟩
  refine HPr.out.mono ?_
  rintro e w6 ⟨v6, K6, rfl, p1, p2, p3, p5, p6⟩
  have HTk : Hid (Calls Tryz.prog 109 #[.slice (some ⟨B, 0, none⟩) nl nl, v6] w6 fun e w' => ∃ v' K, e = .returned v' ∧ D4 w' v' K ∧ (∀ x ∈ K, x < B32) ∧ K.length ≤ 4096 ∧ nv B32 K = nv B32 L - nv B32 K3 * nv B32 K3 ∧ w6.grownBy w' (some B)) := by
    have hb6 := HX.out.2.2.2.1.kept p6 (by simp)
    have hl := HL.out.2.2.1
    have hrow := hb6.row (base := B) (Nat.le_refl _) (by unfold maxLen; omega)
    have hlen : K6.length ≤ L.length := trim_length p5 (by rw [p3]; exact Nat.lt_of_le_of_lt HK3.out.2.2.2.1 (nv_lt B32 L HL.out.2.2.2.1))
    have := takeFrom_row w6 B _ v6 L K6 hrow p1.d4 (by
      intro b n c e
      rcases p1.cases with ⟨e2, _⟩ | ⟨g2, c2, e2, hg2, _⟩
      · rw [e2] at e; cases e
      · rw [e2] at e
        injection e with e _ _
        injection e with e
        subst e
        intro he
        have h1 := HX.out.2.2.2.2.2.2.2
        have he2 : some g2 = some B := he
        injection he2 with he2
        omega) HL.out.2.2.2.1 p2 hlen (by rw [p3]; exact HK3.out.2.2.2.1) (by omega)
    rw [HNL.out] at this
    refine this.mono ?_
    rintro e w' ⟨v', K, rfl, t1, t2, t3, t4, t5, t6⟩
    exact ⟨v', K, rfl, t1, t2, by have := HNL.out; omega, by rw [t5, p3], t6⟩
  have HP6 : Hid (w5.grownBy w6 none) := p6
  clear p1 p2 p3 p5 p6 HPr c0 c1 c2 c3 hC
  go_wp2_with fail
  refine HTk.out.mono ?_
  rintro e w7 ⟨v7, K7, rfl, t1, t2, t4, t5, t6⟩
  have HMd2 : Hid (Calls Tryz.prog 110 #[.bool false, v7] w7 fun e w'' => (∃ s, e = .returned (.tuple #[whole false s, .int .i64 0]) ∧ bN s = magN (nv B32 L - nv B32 K3 * nv B32 K3)) ∧ w7.grownBy w'' none) := by
    refine (madeP_any false w7 v7 K7 t1 t2 (by omega)).mono ?_
    rintro e w' ⟨hmd, hg⟩
    rw [t5] at hmd
    refine ⟨?_, hg⟩
    rcases hmd with ⟨_, s, rfl, hs⟩ | ⟨hbig, _⟩
    · exact ⟨s, rfl, hs⟩
    · have h1 := bl_mono (Nat.sub_le (nv B32 L) (nv B32 K3 * nv B32 K3))
      have := HBl.out
      omega
  have HT6 : Hid (w6.grownBy w7 (some B)) := t6
  clear t1 t2 t4 t5 t6 HTk
  go_wp2_with fail
  refine HMd2.out.mono ?_
  rintro e w8 ⟨⟨s', rfl, hs'⟩, g8⟩
  have HS' : Hid (bN s' = magN (nv B32 L - nv B32 K3 * nv B32 K3)) := hs'
  obtain ⟨x1, x2, x3, x4, x5, x6, x7, x8⟩ := HX.out
  have hC8 : WBlk w8 (w.heap.size + 1) (.bool false) (.string s) := (((x1.kept HP6.out (by simp)).kept HT6.out (by intro e; injection e with e; omega)).kept g8 (by simp))
  have hD8 : WBlk w8 (w.heap.size + 1 + 1) (.bool false) (.string eS) := (((x2.kept HP6.out (by simp)).kept HT6.out (by intro e; injection e with e; omega)).kept g8 (by simp))
  have hg8 : w.grownBy w8 none := grownBy_trans (grownBy_new (grownBy_trans x5 HP6.out) (by omega) HT6.out) g8
  have c0 := hC8.c0
  have c1 := hC8.c1
  have c2 := hC8.fr 0
  have c3 := hC8.fr 1
  have d0 := hD8.c0
  have d1 := hD8.c1
  have d2 := hD8.fr 0
  have d3 := hD8.fr 1
  have HE : Hid (WBlk w8 (w.heap.size + 1) (.bool false) (.string s) ∧ WBlk w8 (w.heap.size + 1 + 1) (.bool false) (.string eS) ∧ w.grownBy w8 none) := ⟨hC8, hD8, hg8⟩
  obtain ⟨w9, hw9⟩ : ∃ w9, (w8.setCell ⟨w.heap.size + 1 + 1, 0, none⟩ (.bool false)).setCell ⟨w.heap.size + 1 + 1, 1, none⟩ (.string s') = w9 := ⟨_, rfl⟩
  have HW9 : Hid ((w8.setCell ⟨w.heap.size + 1 + 1, 0, none⟩ (.bool false)).setCell ⟨w.heap.size + 1 + 1, 1, none⟩ (.string s') = w9) := hw9
  have hC9 : WBlk w9 (w.heap.size + 1) (.bool false) (.string s) := by rw [← hw9]; exact (hC8.other (by omega)).other (by omega)
  have hD9 : WBlk w9 (w.heap.size + 1 + 1) (.bool false) (.string s') := by rw [← hw9]; exact hD8.put _ _
  have hg9 : w.grownBy w9 none := by rw [← hw9]; exact grown_set (grown_set hg8 (by omega)) (by omega)
  clear x1 x2 x3 x4 x5 x6 x7 x8 hC8 hD8 hg8 g8 hs' hw9
  go_wp2_with fail
  rw [HW9.out]
  clear c0 c1 c2 c3 d0 d1 d2 d3 HW9
  have c0 := hC9.c0
  have c1 := hC9.c1
  have c2 := hC9.fr 0
  have c3 := hC9.fr 1
  have d0 := hD9.c0
  have d1 := hD9.c1
  have d2 := hD9.fr 0
  have d3 := hD9.fr 1
  go_region
  go_wp2_with fail
  refine bodyPost_ret (res_cell2_tmp rfl _ _ (w.heap.size + 1) (w.heap.size + 1 + 1) _ _ _ _ _ _ _ _ rfl (((hC9.put _ _).other (by omega)).other (by omega)) rfl (((hD9.other (by omega)).other (by omega)).put _ _)) rfl ?_
  have hv := HL.out.2.2.2.2.1
  refine ⟨⟨nv B32 K3, s, s', rfl, ?_, ?_, HS.out, ?_⟩, grow_drew (grown_set (grown_set (grown_set (grown_set hg9 (by omega)) (by omega)) (by omega)) (by omega))⟩
  · rw [← hv]; exact HK3.out.2.2.2.1
  · rw [← hv]; exact HK3.out.2.2.2.2.1
  · rw [← hv]; exact HS'.out
end Go.Proofs.YtdfliaogmlpefaaGreatDoor
namespace Go.Proofs.YtdfliaogmlpefaaGreatDoor
open Go.RowKit Go.Lib Go.Sort
set_option linter.unusedVariables false
set_option maxHeartbeats 6400000
set_option maxRecDepth 1000000
theorem ediv_abs_le (x y : Int) : (x / y).natAbs ≤ x.natAbs := by
  rcases Int.lt_trichotomy y 0 with h | h | h
  · have h1 := Int.emod_add_mul_ediv x y
    have h2 := Int.emod_nonneg x (show y ≠ 0 by omega)
    have h3 := Int.emod_lt x (show y ≠ 0 by omega)
    have e : y.natAbs = (-y).toNat := by omega
    generalize hq : x / y = q at *
    generalize hr : x % y = r at *
    obtain ⟨d, rfl⟩ : ∃ d : Nat, y = -(d : Int) := ⟨y.natAbs, by omega⟩
    have hd : 1 ≤ d := by omega
    rcases Int.lt_trichotomy q 0 with hq0 | hq0 | hq0
    · obtain ⟨p, rfl⟩ : ∃ p : Nat, q = -(p : Int) := ⟨q.natAbs, by omega⟩
      have : (p : Int) ≤ (d : Int) * p := by have := Nat.le_mul_of_pos_left p hd; exact_mod_cast this
      have e2 : (-(d : Int)) * (-(p : Int)) = (d : Int) * p := by rw [Int.neg_mul_neg]
      omega
    · omega
    · obtain ⟨p, rfl⟩ : ∃ p : Nat, q = (p : Int) := ⟨q.natAbs, by omega⟩
      obtain ⟨p', rfl⟩ : ∃ p', p = p' + 1 := ⟨p - 1, by omega⟩
      have h5 : (p' : Int) ≤ (d : Int) * p' := by have := Nat.le_mul_of_pos_left p' hd; exact_mod_cast this
      have e2 : (-(d : Int)) * ((p' + 1 : Nat) : Int) = -((d : Int) * p') - d := by
        push_cast
        rw [Int.neg_mul, Int.mul_add]; omega
      omega
  · subst h; simp
  · have h1 := Int.emod_add_mul_ediv x y
    have h2 := Int.emod_nonneg x (show y ≠ 0 by omega)
    have h3 := Int.emod_lt_of_pos x h
    generalize hq : x / y = q at *
    generalize hr : x % y = r at *
    obtain ⟨d, rfl⟩ : ∃ d : Nat, y = (d : Int) := ⟨y.natAbs, by omega⟩
    have hd : 1 ≤ d := by omega
    rcases Int.lt_trichotomy q 0 with hq0 | hq0 | hq0
    · obtain ⟨p, rfl⟩ : ∃ p : Nat, q = -(p : Int) := ⟨q.natAbs, by omega⟩
      obtain ⟨p', rfl⟩ : ∃ p', p = p' + 1 := ⟨p - 1, by omega⟩
      have h5 : (p' : Int) ≤ (d : Int) * p' := by have := Nat.le_mul_of_pos_left p' hd; exact_mod_cast this
      have e2 : ((d : Int)) * (-((p' + 1 : Nat) : Int)) = -((d : Int) * p') - d := by
        push_cast
        rw [Int.mul_neg, Int.mul_add]; omega
      omega
    · omega
    · obtain ⟨p, rfl⟩ : ∃ p : Nat, q = (p : Int) := ⟨q.natAbs, by omega⟩
      have : (p : Int) ≤ (d : Int) * p := by have := Nat.le_mul_of_pos_left p hd; exact_mod_cast this
      omega
theorem emod_abs_lt (x y : Int) (h : y ≠ 0) : (x % y).natAbs < y.natAbs := by
  have h2 := Int.emod_nonneg x h
  have h3 := Int.emod_lt x h
  omega
theorem Sz.size0 {k : Nat} {x : Int} {n : Bool} {s : ByteArray} (h : Sz k x n s) (hk : k ≤ 16384) (hx : x ≠ 0) : s.size ≠ 0 := by
  intro e
  have hn := h.num
  rw [empty_of_size e] at hn
  apply hx
  rw [← hn]
  cases n <;> rfl
theorem div_sz {k l : Nat} {x y : Int} {n1 n2 : Bool} {s1 s2 : ByteArray} (hk : k ≤ 16384) (hl : l ≤ 16384) (hy : y ≠ 0) (h1 : Sz k x n1 s1) (h2 : Sz l y n2 s2) (w : World) :
    Calls Tryz.prog 55 #[whole n1 s1, whole n2 s2] w fun e w' => ∃ n s n' s', e = .returned (.tuple #[whole n s, whole n' s', .int .i64 0]) ∧ Sz k (x / y) n s ∧ Sz l (x % y) n' s' ∧ w.grownBy w' none := by
  refine (div_yes n1 n2 s1 s2 (h1.may hk) (h2.may hl) (h2.size0 hl hy) w).mono ?_
  rw [h1.num, h2.num]
  rintro e w' ⟨⟨n, s, n', s', rfl, a, b⟩, hg⟩
  exact ⟨n, s, n', s', rfl, ⟨a, Nat.lt_of_le_of_lt (ediv_abs_le x y) h1.2⟩, ⟨b, Nat.lt_trans (emod_abs_lt x y hy) h2.2⟩, hg⟩
theorem ngs_z {z : Int} {n : Bool} {s : ByteArray} (h : IsZ z n s) (hm : may n s = true) : IsZ (-z) (ngs n s) s := by
  have hn := h.num
  refine ⟨?_, by rw [Int.natAbs_neg]; exact h.2⟩
  have hv : (s.size = 0) ↔ val (bN s) = 0 := by
    constructor
    · intro e; rw [empty_of_size e]; rfl
    · intro e
      refine Nat.eq_zero_of_not_pos fun hp => ?_
      have := val_pos hm (by omega)
      omega
  unfold ngs
  rcases sgn_cases hm with ⟨a, b, c, d⟩ | ⟨a, b, c, d⟩ | ⟨a, b, c, d⟩
  · subst b
    have : s.size = 0 := hv.2 d
    rw [this]
    symm
    exact decide_eq_false (by omega)
  · subst b
    have : s.size ≠ 0 := fun e => by have := hv.1 e; omega
    simp only [Bool.not_false, Bool.true_and]
    exact decide_eq_decide.2 (by omega)
  · subst b
    symm
    exact decide_eq_false (by omega)
theorem Sz.nat {k : Nat} {r : Nat} {s : ByteArray} (hs : bN s = magN r) (hr : r < 256 ^ k) : Sz k (r : Int) false s :=
  ⟨⟨by symm; exact decide_eq_false (by omega), by rw [Int.natAbs_natCast]; exact hs⟩, by rw [Int.natAbs_natCast]; exact hr⟩
end Go.Proofs.YtdfliaogmlpefaaGreatDoor
