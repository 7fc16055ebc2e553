/-
  The program's product of magnitudes.
  The program's short, where it says no.
  The document's difference of numbers.
  The program's Add, Sub, Mul of numbers that may be, and of others.
  The program's Sub and Mul.
  The program's Cmp.
  What the law WholeSums asks beside the numbers: are they long; is an answer the document's.
-/
import Derived.Test.YtdfliaogmlpefaaGreatDoorBunPrd
import Derived.Test.YtdfliaogmlpefaaGreatDoorBunMor
import Derived.Test.YtdfliaogmlpefaaGreatDoorBunAll
import Derived.Test.YtdfliaogmlpefaaGreatDoorBunWka
namespace Go.Proofs.YtdfliaogmlpefaaGreatDoor
open Go.RowKit Go.Lib Go.Sort
set_option maxHeartbeats 6400000
set_option maxRecDepth 1000000
theorem productP_any (w : World) (va vb : Value) (A B : List Nat) (hA : D4 w va A) (hB : D4 w vb B) (ra : ∀ x ∈ A, x < B32) (rb : ∀ x ∈ B, x < B32) (la : A.length ≤ 100000000) (lb : B.length ≤ 100000000) :
    Calls Tryz.prog 145 #[va, vb] w fun e w' => ∃ v K, e = .returned v ∧ D4 w' v K ∧ (∀ x ∈ K, x < B32) ∧ nv B32 K = nv B32 A * nv B32 B ∧ K.length ≤ A.length + B.length ∧ Trim K ∧ w.grownBy w' none := by
  obtain ⟨aa, ca, rfl⟩ := hA.slice
  obtain ⟨ab, cb, rfl⟩ := hB.slice
  have HA : Hid (D4 w (.slice aa A.length ca) A) := hA
  have HB : Hid (D4 w (.slice ab B.length cb) B) := hB
  have HRa : Hid (∀ x ∈ A, x < B32) := ra
  have HRb : Hid (∀ x ∈ B, x < B32) := rb
  obtain ⟨p, hp⟩ : ∃ p, A.length = p := ⟨_, rfl⟩
  obtain ⟨q, hq⟩ : ∃ q, B.length = q := ⟨_, rfl⟩
  have HP : Unit → A.length = p := fun _ => hp
  have HQ : Unit → B.length = q := fun _ => hq
  have hp9 : (p : Int) ≤ 100000000 := by omega
  have hq9 : (q : Int) ≤ 100000000 := by omega
  have hmk := make4 w (p + q) (by omega)
  rw [show ((p + q : Nat) : Int) = (p : Int) + q by omega] at hmk
  rw [hp] at HA ⊢
  rw [hq] at HB ⊢
  clear hA hB ra rb hp hq la lb
  go_enter Tryz.func145, Tryz.ntmps145
  go_wp2_with fail
  clear hmk
  go_loopw [19] (fun t wr => ∃ (i : Nat) (L : List Nat), t = .int .i64 i ∧ i ≤ p ∧ L.length = p + q ∧ (∀ x ∈ L, x < B32) ∧ nv B32 L = nv B32 (A.take i) * nv B32 B ∧ (∀ j, i + q ≤ j → L[j]?.getD 0 = 0) ∧
    BlkL wr w.heap.size 103 enc4 (ints L) ∧ w.grownBy wr none) (fun t _ => p - (RowKit.intOf t).toNat)
  case atStart =>
    refine ⟨0, List.replicate (p + q) 0, rfl, by omega, by simp, fun x hx => by rw [List.eq_of_mem_replicate hx]; decide, by rw [nv_replicate]; simp [nv], fun j _ => ?_, heap_alloc_new _ _, grow1 _ _⟩
    rw [List.getElem?_replicate]
    split <;> rfl
  case round =>
    obtain ⟨i, L, rfl, hi, hL, hr, hv, hz, hBk, hg⟩ := hrel
    by_cases hi1 : i < p
    · have HV : Hid (nv B32 L = nv B32 (A.take i) * nv B32 B) := hv
      have HZ : Hid (∀ j, i + q ≤ j → L[j]?.getD 0 = 0) := hz
      have HR : Hid (∀ x ∈ L, x < B32) := hr
      have HBk : Hid (BlkL wr w.heap.size 103 enc4 (ints L)) := hBk
      have HG : Hid (w.grownBy wr none) := hg
      rcases HA.out with ⟨_, hnil⟩ | ⟨Ba, oa, ca', hve, hpc, hcA⟩
      · exfalso
        have := HP ()
        rw [hnil] at this
        simp at this
        omega
      · obtain ⟨haa, hpp, hcc⟩ := Value.slice.inj hve
        rw [HP ()] at hpc
        clear hpp hve
        subst haa
        subst hcc
        have HCA : Hid (∀ j, j < A.length → w.cell? ⟨Ba, oa + j, none⟩ = some (.int .u32 ((A[j]?.getD 0 : Nat) : Int))) := hcA
        have hx := grownBy_cell hg (HCA.out i (by rw [HP ()]; omega)) (by simp)
        have rX := d4_rng HRa.out i
        have SX := nv_take_succ B32 A i
        have SXH : Hid (nv B32 (A.take (i + 1)) = nv B32 (A.take i) + A[i]?.getD 0 * B32 ^ i) := SX
        clear SX hcA hv hz hr hBk hg
        generalize A[i]?.getD 0 = x at *
        have hxI : (x : Int) ≤ 4294967295 := by have : x < 4294967296 := rX; omega
        have hiI : (i : Int) < p := by omega
        generalize wr = wo at *
        go_wp2_with fail
        go_loopw [8, 26] (fun s t wr => ∃ (c k : Nat) (M : List Nat), s = .int .u64 c ∧ t = .int .i64 k ∧ (c : Int) ≤ 4294967295 ∧ k ≤ q ∧ M.length = p + q ∧ (∀ x ∈ M, x < B32) ∧ nv B32 M + c * B32 ^ (i + k) = nv B32 L + x * nv B32 (B.take k) * B32 ^ i ∧ (∀ j, i + q ≤ j → M[j]?.getD 0 = 0) ∧
          BlkL wr w.heap.size 103 enc4 (ints M) ∧ w.grownBy wr none) (fun _ t _ => q - (RowKit.intOf t).toNat)
        case atStart => exact ⟨0, 0, L, rfl, rfl, by omega, by omega, hL, HR.out, by simp [nv], HZ.out, HBk.out, HG.out⟩
        case round =>
          obtain ⟨c, k, M, rfl, rfl, hc, hk, hM, hmr, hmv, hmz, hmb, hmg⟩ := hrel
          have HMR : Hid (∀ x ∈ M, x < B32) := hmr
          have HMV : Hid (nv B32 M + c * B32 ^ (i + k) = nv B32 L + x * nv B32 (B.take k) * B32 ^ i) := hmv
          have HMZ : Hid (∀ j, i + q ≤ j → M[j]?.getD 0 = 0) := hmz
          have HMB : Hid (BlkL wr w.heap.size 103 enc4 (ints M)) := hmb
          have HMG : Hid (w.grownBy wr none) := hmg
          clear hx
          by_cases hk1 : k < q
          · rcases HB.out with ⟨_, hnil⟩ | ⟨Bb, ob, cb', hve, hqc, hcB⟩
            · exfalso
              have := HQ ()
              rw [hnil] at this
              simp at this
              omega
            · obtain ⟨hab, hqq, hcc2⟩ := Value.slice.inj hve
              rw [HQ ()] at hqc
              clear hqq hve
              subst hab
              subst hcc2
              have hy := grownBy_cell hmg (hcB k (by rw [HQ ()]; omega)) (by simp)
              have rY := d4_rng HRb.out k
              have hzc := hmb.cell (i + k) (by rw [ints_length]; omega)
              rw [ints_at] at hzc
              have hzf := hmb.frozen (i + k)
              have rZ := d4_rng HMR.out (i + k)
              have SY := nv_take_succ B32 B k
              have SYH : Hid (nv B32 (B.take (k + 1)) = nv B32 (B.take k) + B[k]?.getD 0 * B32 ^ k) := SY
              have RS : Hid (nv B32 (M.set (i + k) ((c + x * B[k]?.getD 0 + M[i + k]?.getD 0) % 4294967296)) + (c + x * B[k]?.getD 0 + M[i + k]?.getD 0) / 4294967296 * B32 ^ (i + k + 1) = nv B32 L + x * (nv B32 (B.take k) + B[k]?.getD 0 * B32 ^ k) * B32 ^ i) := row_step (by omega) hmv
              clear SY hcB hmr hmv hmz hmb hmg HMV
              generalize B[k]?.getD 0 = y at *
              generalize M[i + k]?.getD 0 = z at *
              have hm1 := mul_lt32 (x := x) (y := y) rX rY
              have hzI : (z : Int) ≤ 4294967295 := by have : z < 4294967296 := rZ; omega
              have hyI : (y : Int) ≤ 4294967295 := by have : y < 4294967296 := rY; omega
              obtain ⟨P, hP⟩ : ∃ P, x * y = P := ⟨_, rfl⟩
              have hPI : (y : Int) * (x : Int) = (P : Int) := by rw [← hP, Int.mul_comm]; simp
              rw [hP] at hm1 RS
              have hw1 : IntKind.u64.wrap ((y : Int) * (x : Int)) = (P : Int) := by rw [hPI, IntKind.wrap_u64]; omega
              have hw2 : IntKind.u64.wrap ((P : Int) + (z : Int)) = (P : Int) + z := by rw [IntKind.wrap_u64]; omega
              have hw3 : IntKind.u64.wrap ((c : Int) + ((P : Int) + (z : Int))) = (c : Int) + (P + z) := by rw [IntKind.wrap_u64]; omega
              have hw4 : IntKind.i64.wrap ((i : Int) + (k : Int)) = ((i + k : Nat) : Int) := by rw [IntKind.wrap_i64]; omega
              have hw5 : IntKind.u64.wrap (y : Int) = (y : Int) := by rw [IntKind.wrap_u64]; omega
              have hw6 : IntKind.u64.wrap (z : Int) = (z : Int) := by rw [IntKind.wrap_u64]; omega
              have hw7 : IntKind.u64.wrap (x : Int) = (x : Int) := by rw [IntKind.wrap_u64]; omega
              have hik : ((i + k : Nat) : Int) < (p : Int) + q := by omega
              have hkq : (k : Int) < q := by omega
              clear hP rX rY rZ
              go_wp2_with fail
              go_roundw
              case rel =>
                have hr1 : (c + P + z) % 4294967296 < B32 := Nat.mod_lt _ (by decide)
                refine ⟨(c + P + z) / 4294967296, k + 1, M.set (i + k) ((c + P + z) % 4294967296), num_eq (by omega), rfl, by omega, by omega, by simp [hM], set_rng HMR.out hr1, ?_, fun j hj => ?_, ?_, grown_set HMG.out (Nat.le_refl _)⟩
                · rw [SYH.out, ← Nat.add_assoc]
                  exact RS.out
                · rw [List.getElem?_set_ne (by omega)]
                  exact HMZ.out j hj
                · have e := HMB.out.set (i + k) (((c + P + z) % 4294967296 : Nat) : Int)
                  rw [ints_set] at e
                  rw [show ((c : Int) + (P + z)) % 4294967296 = (((c + P + z) % 4294967296 : Nat) : Int) by omega]
                  exact e
              case measure => simp [RowKit.intOf]; omega
          · obtain rfl : k = q := by omega
            have hzc := hmb.cell (i + k) (by rw [ints_length]; omega)
            have hzf := hmb.frozen (i + k)
            have hz0 : M[i + k]?.getD 0 = 0 := HMZ.out (i + k) (Nat.le_refl _)
            have hwi : ((i + k : Nat) : Int) < (p : Int) + k := by omega
            clear hmr hmv hmz hmb hmg
            go_wp2_with fail
            go_roundw
            case rel =>
              have hset := nv_set B32 M (i + k) c (by omega)
              rw [hz0, Nat.zero_mul, Nat.add_zero] at hset
              have hmv := HMV.out
              rw [nv_take_all B32 B k (by rw [HQ ()]; exact Nat.le_refl _), HV.out] at hmv
              have hcr : c < B32 := by simp only [B32]; omega
              refine ⟨i + 1, M.set (i + k) c, rfl, by omega, by simp [hM], set_rng HMR.out hcr, ?_, fun j hj => ?_, ?_, grown_set HMG.out (Nat.le_refl _)⟩
              · rw [hset, hmv, SXH.out, Nat.add_mul]
                congr 1
                rw [Nat.mul_assoc, Nat.mul_assoc, Nat.mul_comm (nv B32 B)]
              · rw [List.getElem?_set_ne (by omega)]
                exact HMZ.out j (by omega)
              · have e := HMB.out.set (i + k) (c : Int)
                rw [ints_set] at e
                exact e
            case measure => simp [RowKit.intOf]; omega
    · obtain rfl : i = p := by omega
      have hvv : nv B32 L = nv B32 A * nv B32 B := by rw [hv, nv_take_all B32 A i (by rw [HP ()]; exact Nat.le_refl _)]
      have hct := trim_any wr _ L hBk.d4 (by omega)
      rw [hL] at hct
      have HCT : Hid (Calls Tryz.prog 129 #[.slice (some ⟨w.heap.size, 0, none⟩) (i + q) (i + q)] wr fun e w' => ∃ v' k, e = .returned v' ∧ k ≤ i + q ∧ D4 wr v' (L.take k) ∧ nv B32 (L.take k) = nv B32 L ∧ Trim (L.take k) ∧ w' = wr) := hct
      have HVV : Unit → nv B32 L = nv B32 A * nv B32 B := fun _ => hvv
      have HR : Hid (∀ x ∈ L, x < B32) := hr
      have HG : Hid (w.grownBy wr none) := hg
      clear hct hvv hr hv hBk hg hz
      go_wp2_with fail
      refine HCT.out.mono ?_
      rintro e w1 ⟨v', k, rfl, hk, hD, hnk, hlast, rfl⟩
      have hlen : (L.take k).length = k := by rw [List.length_take, hL, Nat.min_eq_left hk]
      have HD : Hid (D4 w1 v' (L.take k)) := hD
      have HNK : Unit → nv B32 (L.take k) = nv B32 L := fun _ => hnk
      have HLT : Hid (Trim (L.take k)) := hlast
      clear hD hnk hlast HCT
      go_wp2_with fail
      go_ret
      exact ⟨v', L.take k, rfl, HD.out, fun x hx => HR.out x (List.mem_of_mem_take hx), by rw [HNK (), HVV ()], by omega, HLT.out, HG.out⟩
theorem short_big (n1 n2 : Bool) (m1 m2 : ByteArray) (h9 : m1.size + m2.size ≤ 9223372036854775807) (h8 : 8 ≤ m1.size + m2.size) (w : World) :
    Calls Tryz.prog 100 #[whole n1 m1, whole n2 m2] w fun e w' => e = .returned (.tuple #[.int .i64 0, .int .i64 0, .bool false]) ∧ w.grownBy w' none := by
  have h8' : (8 : Int) ≤ (m1.size : Int) + m2.size := by omega
  have hw : IntKind.i64.wrap ((m1.size : Int) + (m2.size : Int)) = (m1.size : Int) + m2.size := by rw [IntKind.wrap_i64]; omega
  clear h9 h8
  go_enter Tryz.func100, Tryz.ntmps100
  go_wp2_with fail
  go_ret3
  exact ⟨rfl, grow2 _ _ _⟩
theorem short_few (n1 n2 : Bool) (m1 m2 : ByteArray) (z1 : m1.size ≤ maxLen) (z2 : m2.size ≤ maxLen) (S : Int) (hw : IntKind.i64.wrap ((m1.size : Int) + (m2.size : Int)) = S) (hS : S ≤ 7) (h : (may n1 m1 && may n2 m2) = false) (w : World) :
    Calls Tryz.prog 100 #[whole n1 m1, whole n2 m2] w fun e w' => ∃ x y, e = .returned (.tuple #[.int .i64 x, .int .i64 y, .bool false]) ∧ w.grownBy w' none := by
  have key : ∀ (n : Bool) (m : ByteArray), m.size ≤ maxLen → ∃ x b, (may n m = false → b = false) ∧ ∀ w, Calls Tryz.prog 143 #[whole n m] w fun e w' => e = .returned (.tuple #[.int .i64 x, .bool b]) ∧ w.grownBy w' none := by
    intro n m hz
    cases hm : may n m
    · exact ⟨0, false, fun _ => rfl, fun w => small_no n m hz hm w⟩
    · exact ⟨_, _, fun e => by simp at e, fun w => small_yes n m hm w⟩
  obtain ⟨x, b1, e1, s1⟩ := key n1 m1 z1
  obtain ⟨y, b2, e2, s2⟩ := key n2 m2 z2
  have hb : b1 = false ∨ b2 = false := by
    cases h1 : may n1 m1
    · exact .inl (e1 h1)
    · rw [h1, Bool.true_and] at h; exact .inr (e2 h)
  have S1 : Hid (∀ w, Calls Tryz.prog 143 #[whole n1 m1] w fun e w' => e = .returned (.tuple #[.int .i64 x, .bool b1]) ∧ w.grownBy w' none) := s1
  have S2 : Hid (∀ w, Calls Tryz.prog 143 #[whole n2 m2] w fun e w' => e = .returned (.tuple #[.int .i64 y, .bool b2]) ∧ w.grownBy w' none) := s2
  clear s1 s2 key e1 e2 h z1 z2
  go_enter Tryz.func100, Tryz.ntmps100
  go_wp2_with fail
  refine (S1.out _).mono ?_
  rintro e w1 ⟨rfl, hg1⟩
  have hb2 : WBlk w1 (w.heap.size + 1) (.bool n2) (.string m2) := WBlk.kept (w := (w.alloc (wObj n1 m1)).alloc (wObj n2 m2)) (heap_alloc2_new _ _ _) hg1 (by simp)
  have hc0 := hb2.c0
  have hc1 := hb2.c1
  have HG1 : Hid (w.grownBy w1 none) := grownBy_trans (grow2 _ _ _) hg1
  clear hg1 hb2 S1
  go_wp2_with fail
  refine (S2.out _).mono ?_
  rintro e w2 ⟨rfl, hg2⟩
  have HG2 : Hid (w.grownBy w2 none) := grownBy_trans HG1.out hg2
  clear hg2 S2
  cases b1
  · go_wp2_with fail
    go_ret3
    exact ⟨x, y, rfl, HG2.out⟩
  · obtain rfl : b2 = false := by simpa using hb
    go_wp2_with fail
    go_ret3
    exact ⟨x, y, rfl, HG2.out⟩
theorem short_no (n1 n2 : Bool) (m1 m2 : ByteArray) (z1 : m1.size ≤ maxLen) (z2 : m2.size ≤ maxLen) (h : ¬ (may n1 m1 = true ∧ may n2 m2 = true ∧ m1.size + m2.size ≤ 7)) (w : World) :
    Calls Tryz.prog 100 #[whole n1 m1, whole n2 m2] w fun e w' => ∃ x y, e = .returned (.tuple #[.int .i64 x, .int .i64 y, .bool false]) ∧ w.grownBy w' none := by
  have y1 := z1
  have y2 := z2
  unfold maxLen at y1 y2
  by_cases h9 : m1.size + m2.size ≤ 9223372036854775807
  · by_cases h8 : m1.size + m2.size ≤ 7
    · exact short_few n1 n2 m1 m2 z1 z2 ((m1.size : Int) + m2.size) (by rw [IntKind.wrap_i64]; omega) (by omega) (by cases h1 : may n1 m1 <;> cases h2 : may n2 m2 <;> simp_all) w
    · refine (short_big n1 n2 m1 m2 h9 (by omega) w).mono ?_
      rintro e w' ⟨rfl, hg⟩
      exact ⟨0, 0, rfl, hg⟩
  · refine short_few n1 n2 m1 m2 z1 z2 _ rfl (by rw [IntKind.wrap_i64]; omega) ?_ w
    cases h1 : may n1 m1
    · rfl
    · cases h2 : may n2 m2
      · rfl
      · have := may_size h1
        have := may_size h2
        omega
theorem num_ngs (n : Bool) (m : ByteArray) : num (ngs n m) m = -num n m := by
  by_cases h0 : m.size = 0
  · obtain rfl := empty_of_size h0
    cases n <;> rfl
  · cases n
    · have : ngs false m = true := by simp [ngs, h0]
      rw [this, num_t, num_f]
    · have : ngs true m = false := by simp [ngs]
      rw [this, num_t, num_f]; omega
theorem may_ngs {n : Bool} {m : ByteArray} (h : may n m = true) : may (ngs n m) m = true := by
  by_cases h0 : m.size = 0
  · obtain rfl := empty_of_size h0
    cases n <;> rfl
  · cases n <;> simp_all [may]
theorem rMinus_z (n1 n2 : Bool) (m1 m2 : ByteArray) (h1 : may n1 m1 = true) (h2 : may n2 m2 = true) (w : World) :
    Calls Tryz.prog 121 #[whole n1 m1, whole n2 m2] w fun e w' => ∃ n s, e = .returned (whole n s) ∧ IsZ (num n1 m1 - num n2 m2) n s ∧ w.grownBy w' none := by
  go_enter Tryz.func121, Tryz.ntmps121
  go_wp2_with fail
  have HKK : Hid (∀ w', ((w.alloc (wObj n1 m1)).alloc (wObj n2 m2)).grownBy w' none → w'.cell? ⟨w.heap.size, 0, none⟩ = some (Value.bool n1) ∧ w'.cell? ⟨w.heap.size, 1, none⟩ = some (Value.string m1) ∧ w'.cell? ⟨w.heap.size + 1, 0, none⟩ = some (Value.bool n2) ∧ w'.cell? ⟨w.heap.size + 1, 1, none⟩ = some (Value.string m2)) :=
    fun w' hg => ⟨grownBy_cell hg (WBlk.c0 (b := .string m1) (old_alloc _ _ (heap_alloc_new _ _))) (by simp), grownBy_cell hg (WBlk.c1 (a := .bool n1) (old_alloc _ _ (heap_alloc_new _ _))) (by simp), grownBy_cell hg (WBlk.c0 (b := .string m2) (heap_alloc2_new _ _ _)) (by simp), grownBy_cell hg (WBlk.c1 (a := .bool n2) (heap_alloc2_new _ _ _)) (by simp)⟩
  go_region_held3 (fun w' => w'.cell? ⟨w.heap.size, 0, none⟩ = some (Value.bool n1) ∧ w'.cell? ⟨w.heap.size, 1, none⟩ = some (Value.string m1) ∧ w'.cell? ⟨w.heap.size + 1, 0, none⟩ = some (Value.bool n2) ∧ w'.cell? ⟨w.heap.size + 1, 1, none⟩ = some (Value.string m2))
    (first | (go_keep; done) | exact HKK.out _ (grownBy_trans (grow1 _ _) (by assumption)) | exact HKK.out _ (grown_set (grown_set (grownBy_trans (grow1 _ _) GM) (by simp)) (by simp)) | exact HKK.out _ (grow_drew (grow1 _ _)) | fail)
    (first
      | (go_at_call 67; refine (rNeg_any n2 m2 _).mono ?_; rintro e wA ⟨rfl, hgA⟩; have GA : (((w.alloc (wObj n1 m1)).alloc (wObj n2 m2)).alloc (wObj false eS)).grownBy wA none := (by first | exact grownBy_trans (by assumption) hgA | exact grownBy_undrew hgA | fail))
      | (go_at_call 72; refine (rPlus_z n1 (ngs n2 m2) m1 m2 h1 (may_ngs h2) _).mono ?_; rw [num_ngs]; rintro e wM ⟨n, s, rfl, hs, hGM⟩; have GM : (((w.alloc (wObj n1 m1)).alloc (wObj n2 m2)).alloc (wObj false eS)).grownBy wM none := grownBy_trans (by assumption) hGM; have hW : WBlk wM (w.heap.size + 2) (.bool false) (.string eS) := WBlk.kept (at_alloc3 _ _ _ _) GM (by simp); have hc0 := hW.c0; have hc1 := hW.c1; have hf0 := hW.fr 0; have hf1 := hW.fr 1)
      | fail)
  go_wp2_with fail
  refine bodyPost_ret (res_cell rfl _ _ (w.heap.size + 2) _ _ _ _ rfl (hW.put _ _)) rfl ?_
  exact ⟨n, s, ret_val (by simp), by rw [Int.sub_eq_add_neg]; exact hs, grown_set (grown_set (grownBy_trans (grow3 _ _ _ _) GM) (by omega)) (by omega)⟩
theorem num_abs (n : Bool) (m : ByteArray) : (num n m).natAbs = val (bN m) := by cases n <;> simp [num_f, num_t]
theorem num_lt (n : Bool) (m : ByteArray) : (num n m).natAbs < 256 ^ m.size := by
  rw [num_abs]
  have := val_lt (bN m) (bN_rng m)
  rwa [bN_length] at this
theorem num_seven {n : Bool} {m : ByteArray} (h : m.size ≤ 7) : (num n m).natAbs < 72057594037927936 :=
  Nat.lt_of_lt_of_le (num_lt n m) (Nat.pow_le_pow_right (by decide) h)
theorem num_mul_seven {n1 n2 : Bool} {m1 m2 : ByteArray} (h : m1.size + m2.size ≤ 7) : (num n1 m1 * num n2 m2).natAbs < 72057594037927936 := by
  have a := num_lt n1 m1
  have b := num_lt n2 m2
  rw [Int.natAbs_mul]
  have e : 256 ^ m1.size * 256 ^ m2.size ≤ 256 ^ 7 := by rw [← Nat.pow_add]; exact Nat.pow_le_pow_right (by decide) h
  refine Nat.lt_of_lt_of_le (Nat.mul_lt_mul'' a b) e
theorem zres_short {z : Int} (h : z.natAbs < 72057594037927936 * 2) (s : ByteArray) (hs : bN s = magN z.natAbs) : ZRes z (.returned (.tuple #[whole (decide (z < 0)) s, .int .i64 0])) := by
  refine .inl ⟨?_, _, s, rfl, rfl, hs⟩
  have := bl_le (x := z.natAbs) (k := 57) (by simpa using h)
  omega
theorem blks3 {n1 n2 : Bool} {m1 m2 : ByteArray} {w w1 : World} (g : (((w.alloc (wObj n1 m1)).alloc (wObj n2 m2)).alloc (wObj false eS)).grownBy w1 none) :
    WBlk w1 w.heap.size (.bool n1) (.string m1) ∧ WBlk w1 (w.heap.size + 1) (.bool n2) (.string m2) ∧ WBlk w1 (w.heap.size + 2) (.bool false) (.string eS) := by
  refine ⟨WBlk.kept (old_alloc _ _ (at_alloc1 _ _ _)) g (by simp), WBlk.kept (at_alloc2 _ _ _ _) g (by simp), WBlk.kept (at_alloc3 _ _ _ _) g (by simp)⟩
theorem blks3_cells {n1 n2 : Bool} {m1 m2 : ByteArray} {w w1 : World} (g : (((w.alloc (wObj n1 m1)).alloc (wObj n2 m2)).alloc (wObj false eS)).grownBy w1 none) :
    w1.cell? ⟨w.heap.size, 0, none⟩ = some (.bool n1) ∧ w1.cell? ⟨w.heap.size, 1, none⟩ = some (.string m1) ∧ w1.cell? ⟨w.heap.size + 1, 0, none⟩ = some (.bool n2) ∧ w1.cell? ⟨w.heap.size + 1, 1, none⟩ = some (.string m2) := by
  obtain ⟨a, b, _⟩ := blks3 g
  exact ⟨a.c0, a.c1, b.c0, b.c1⟩
theorem add_short (n1 n2 : Bool) (m1 m2 : ByteArray) (h1 : may n1 m1 = true) (h2 : may n2 m2 = true) (h7 : m1.size + m2.size ≤ 7) (w : World) :
    Calls Tryz.prog 53 #[whole n1 m1, whole n2 m2] w fun e w' => ZRes (num n1 m1 + num n2 m2) e ∧ w.grownBy w' none := by
  have hS : ∀ w, Calls Tryz.prog 100 #[whole n1 m1, whole n2 m2] w fun e w' => e = .returned (.tuple #[.int .i64 (num n1 m1), .int .i64 (num n2 m2), .bool true]) ∧ w.grownBy w' none := fun w => short_yes n1 n2 m1 m2 h1 h2 h7 w
  have HS : Hid (∀ w, Calls Tryz.prog 100 #[whole n1 m1, whole n2 m2] w fun e w' => e = .returned (.tuple #[.int .i64 (num n1 m1), .int .i64 (num n2 m2), .bool true]) ∧ w.grownBy w' none) := hS
  have a1 := num_seven (n := n1) (show m1.size ≤ 7 by omega)
  have a2 := num_seven (n := n2) (show m2.size ≤ 7 by omega)
  clear hS
  generalize num n1 m1 = x at *
  generalize num n2 m2 = y at *
  have hw : IntKind.i64.wrap (x + y) = x + y := by rw [IntKind.wrap_i64]; omega
  have HO : Hid (∀ w, Calls Tryz.prog 52 #[.int .i64 (x + y)] w fun e w' => ∃ s, e = .returned (whole (decide (x + y < 0)) s) ∧ bN s = magN (x + y).natAbs ∧ w.grownBy w' none) := fun w => of_any (x + y) (by omega) (by omega) w
  have HZ : Hid (∀ s, bN s = magN (x + y).natAbs → ZRes (x + y) (.returned (.tuple #[whole (decide (x + y < 0)) s, .int .i64 0]))) := fun s hs => zres_short (by omega) s hs
  clear a1 a2 h7
  go_enter Tryz.func53, Tryz.ntmps53
  go_wp2_with fail
  refine (HS.out _).mono ?_
  rintro e w1 ⟨rfl, g1⟩
  have HG1 : Hid ((((w.alloc (wObj n1 m1)).alloc (wObj n2 m2)).alloc (wObj false eS)).grownBy w1 none) := g1
  clear g1 HS
  go_wp2_with fail
  refine (HO.out _).mono ?_
  rintro e w2 ⟨s, rfl, hs, g2⟩
  have HG2 : Hid ((((w.alloc (wObj n1 m1)).alloc (wObj n2 m2)).alloc (wObj false eS)).grownBy w2 none) := grownBy_trans HG1.out g2
  have HZ2 := HZ.out s hs
  have HZ3 : Hid (ZRes (x + y) (.returned (.tuple #[whole (decide (x + y < 0)) s, .int .i64 0]))) := HZ2
  obtain ⟨_, _, hb⟩ := blks3 HG2.out
  have hc0 := hb.c0
  have hc1 := hb.c1
  have hf0 := hb.fr 0
  have hf1 := hb.fr 1
  clear g2 hs HZ HZ2 HO HG1
  go_wp2_with fail
  refine bodyPost_ret (res_cell_tmp rfl _ _ (w.heap.size + 2) _ _ _ _ rfl (hb.put _ _)) rfl ?_
  exact ⟨HZ3.out, grown_set (grown_set (grownBy_trans (grow3 _ _ _ _) HG2.out) (by omega)) (by omega)⟩
theorem ZRes.ans {z : Int} {e : Ending} (h : ZRes z e) : ∃ n s er, e = .returned (.tuple #[whole n s, .int .i64 er]) := by
  rcases h with ⟨_, n, s, rfl, _⟩ | ⟨_, rfl⟩ <;> exact ⟨_, _, _, rfl⟩
theorem add_long (n1 n2 : Bool) (m1 m2 : ByteArray) (z1 : m1.size ≤ maxLen) (z2 : m2.size ≤ maxLen) (h : ¬ (may n1 m1 = true ∧ may n2 m2 = true ∧ m1.size + m2.size ≤ 7)) (Q : Ending → Prop)
    (hQ : ∀ e, Q e → ∃ n s er, e = .returned (.tuple #[whole n s, .int .i64 er])) (hS : ∀ w v, DW w v [(n1, m1), (n2, m2)] → Calls Tryz.prog 101 #[v] w fun e w' => Q e ∧ w.grownBy w' none) (w : World) :
    Calls Tryz.prog 53 #[whole n1 m1, whole n2 m2] w fun e w' => Q e ∧ w.grownBy w' none := by
  have HS : Hid (∀ w, Calls Tryz.prog 100 #[whole n1 m1, whole n2 m2] w fun e w' => ∃ x y, e = .returned (.tuple #[.int .i64 x, .int .i64 y, .bool false]) ∧ w.grownBy w' none) := fun w => short_no n1 n2 m1 m2 z1 z2 h w
  have HM : Hid (∀ w : World, Calls Tryz.prog 101 #[.slice (some ⟨w.heap.size, 0, none⟩) 2 2] (w.alloc (.cells #[.bool n1, .string m1, .bool n2, .string m2] 23)) fun e w' => Q e ∧ (w.alloc (.cells #[.bool n1, .string m1, .bool n2, .string m2] 23)).grownBy w' none) := fun w => hS _ _ (dw_two w n1 n2 m1 m2)
  have HQ : Hid (∀ e, Q e → ∃ n s er, e = .returned (.tuple #[whole n s, .int .i64 er])) := hQ
  clear h hQ hS
  go_enter Tryz.func53, Tryz.ntmps53
  go_wp2_with fail
  refine (HS.out _).mono ?_
  rintro e w1 ⟨x, y, rfl, g1⟩
  have HG1 : Hid ((((w.alloc (wObj n1 m1)).alloc (wObj n2 m2)).alloc (wObj false eS)).grownBy w1 none) := g1
  obtain ⟨c0, c1, c2, c3⟩ := blks3_cells g1
  clear g1 HS
  go_wp2_with fail
  refine (HM.out _).mono ?_
  rintro e w2 ⟨hq, g2⟩
  have HG2 : Hid ((((w.alloc (wObj n1 m1)).alloc (wObj n2 m2)).alloc (wObj false eS)).grownBy w2 none) := grownBy_trans HG1.out (grownBy_trans (grow1 _ _) g2)
  obtain ⟨n, s, er, rfl⟩ := HQ.out _ hq
  have HQ2 : Hid (Q (.returned (.tuple #[whole n s, .int .i64 er]))) := hq
  obtain ⟨_, _, hb⟩ := blks3 HG2.out
  have hc0 := hb.c0
  have hc1 := hb.c1
  have hf0 := hb.fr 0
  have hf1 := hb.fr 1
  clear g2 hq HM HQ HG1 c0 c1 c2 c3
  go_wp2_with fail
  refine bodyPost_ret (res_cell_tmp rfl _ _ (w.heap.size + 2) _ _ _ _ rfl (hb.put _ _)) rfl ?_
  exact ⟨HQ2.out, grown_set (grown_set (grownBy_trans (grow3 _ _ _ _) HG2.out) (by omega)) (by omega)⟩
theorem sumZ_two (n1 n2 : Bool) (m1 m2 : ByteArray) : sumZ [(n1, m1), (n2, m2)] = num n1 m1 + num n2 m2 := by simp [sumZ]
theorem add_yes (n1 n2 : Bool) (m1 m2 : ByteArray) (h1 : may n1 m1 = true) (h2 : may n2 m2 = true) (w : World) :
    Calls Tryz.prog 53 #[whole n1 m1, whole n2 m2] w fun e w' => ZRes (num n1 m1 + num n2 m2) e ∧ w.grownBy w' none := by
  by_cases h7 : m1.size + m2.size ≤ 7
  · exact add_short n1 n2 m1 m2 h1 h2 h7 w
  · refine add_long n1 n2 m1 m2 (by have := may_size h1; unfold maxLen; omega) (by have := may_size h2; unfold maxLen; omega) (fun h => h7 h.2.2) (ZRes (num n1 m1 + num n2 m2)) (fun e h => h.ans) ?_ w
    intro w v hd
    have := sum_any w v _ hd (by simp) (by simp [mayAll, h1, h2])
    rw [sumZ_two] at this
    exact this
theorem keep2 (w : World) (n1 n2 : Bool) (m1 m2 : ByteArray) : ∀ w', ((w.alloc (wObj n1 m1)).alloc (wObj n2 m2)).grownBy w' none → w'.cell? ⟨w.heap.size, 0, none⟩ = some (Value.bool n1) ∧ w'.cell? ⟨w.heap.size, 1, none⟩ = some (Value.string m1) ∧ w'.cell? ⟨w.heap.size + 1, 0, none⟩ = some (Value.bool n2) ∧ w'.cell? ⟨w.heap.size + 1, 1, none⟩ = some (Value.string m2) :=
  fun w' hg => ⟨grownBy_cell hg (WBlk.c0 (b := .string m1) (old_alloc _ _ (heap_alloc_new _ _))) (by simp), grownBy_cell hg (WBlk.c1 (a := .bool n1) (old_alloc _ _ (heap_alloc_new _ _))) (by simp), grownBy_cell hg (WBlk.c0 (b := .string m2) (heap_alloc2_new _ _ _)) (by simp), grownBy_cell hg (WBlk.c1 (a := .bool n2) (heap_alloc2_new _ _ _)) (by simp)⟩
theorem checkTwo (n1 n2 : Bool) (m1 m2 : ByteArray) (z1 : m1.size ≤ maxLen) (z2 : m2.size ≤ maxLen) :
    Hid (∀ w : World, Calls Tryz.prog 103 #[.slice (some ⟨w.heap.size, 0, none⟩) 2 2] (w.alloc (.cells #[.bool n1, .string m1, .bool n2, .string m2] 23)) fun e w' => e = .returned (.int .i64 (if may n1 m1 = true ∧ may n2 m2 = true then 0 else 2)) ∧ (w.alloc (.cells #[.bool n1, .string m1, .bool n2, .string m2] 23)).grownBy w' none) := fun w => by
  have := checkAll_any _ _ _ (dw_two w n1 n2 m1 m2) (by simp) (by intro p hp; simp at hp; rcases hp with rfl | rfl <;> assumption)
  have e : (mayAll [(n1, m1), (n2, m2)] = true) = (may n1 m1 = true ∧ may n2 m2 = true) := by simp [mayAll]
  simp only [e] at this
  exact this
theorem digits_dgs (m : ByteArray) (hm : m.size ≤ 16384) (w : World) :
    Calls Tryz.prog 106 #[.string m] w fun e w' => ∃ v, e = .returned v ∧ Wds w w' v m := by
  refine (digitsOf_any m hm w).mono ?_
  rintro e w' ⟨B, L, rfl, _, hb, hg, hl, hr, hv⟩
  exact ⟨_, rfl, L, hb.d4, hr, by omega, hv, hg⟩
theorem prodP_wds {w0 w1 w2 : World} {va vb : Value} {m1 m2 : ByteArray} (h1 : Wds w0 w1 va m1) (h2 : Wds w1 w2 vb m2) :
    Calls Tryz.prog 145 #[va, vb] w2 fun e w' => ∃ v, e = .returned v ∧ ∃ K, D4 w' v K ∧ (∀ x ∈ K, x < B32) ∧ K.length ≤ 8192 ∧ nv B32 K = val (bN m1) * val (bN m2) ∧ w2.grownBy w' none := by
  obtain ⟨A, dA, rA, lA, vA, gA⟩ := h1
  obtain ⟨B, dB, rB, lB, vB, gB⟩ := h2
  refine (productP_any w2 va vb A B (dA.kept gB) dB rA rB (by omega) (by omega)).mono ?_
  rintro e w' ⟨v, K, rfl, dK, rK, vK, lK, _, gK⟩
  exact ⟨v, rfl, K, dK, rK, by omega, by rw [vK, vA, vB], gK⟩
theorem mul_made (n1 n2 : Bool) (m1 m2 : ByteArray) (e : Ending) (h : Made (n1 != n2) (val (bN m1) * val (bN m2)) e) : ZRes (num n1 m1 * num n2 m2) e := by
  refine made_z h ?_
  cases n1 <;> cases n2 <;> simp [num_f, num_t, Int.mul_neg, Int.neg_mul]
theorem sub_short (n1 n2 : Bool) (m1 m2 : ByteArray) (h1 : may n1 m1 = true) (h2 : may n2 m2 = true) (h7 : m1.size + m2.size ≤ 7) (w : World) :
    Calls Tryz.prog 57 #[whole n1 m1, whole n2 m2] w fun e w' => ZRes (num n1 m1 - num n2 m2) e ∧ w.grownBy w' none := by
  have hS : ∀ w, Calls Tryz.prog 100 #[whole n1 m1, whole n2 m2] w fun e w' => e = .returned (.tuple #[.int .i64 (num n1 m1), .int .i64 (num n2 m2), .bool true]) ∧ w.grownBy w' none := fun w => short_yes n1 n2 m1 m2 h1 h2 h7 w
  have HS : Hid (∀ w, Calls Tryz.prog 100 #[whole n1 m1, whole n2 m2] w fun e w' => e = .returned (.tuple #[.int .i64 (num n1 m1), .int .i64 (num n2 m2), .bool true]) ∧ w.grownBy w' none) := hS
  have a1 := num_seven (n := n1) (show m1.size ≤ 7 by omega)
  have a2 := num_seven (n := n2) (show m2.size ≤ 7 by omega)
  clear hS
  generalize num n1 m1 = x at *
  generalize num n2 m2 = y at *
  have hw : IntKind.i64.wrap (x - y) = x - y := by rw [IntKind.wrap_i64]; omega
  have HO : Hid (∀ w, Calls Tryz.prog 52 #[.int .i64 (x - y)] w fun e w' => ∃ s, e = .returned (whole (decide (x - y < 0)) s) ∧ bN s = magN (x - y).natAbs ∧ w.grownBy w' none) := fun w => of_any (x - y) (by omega) (by omega) w
  have HZ : Hid (∀ s, bN s = magN (x - y).natAbs → ZRes (x - y) (.returned (.tuple #[whole (decide (x - y < 0)) s, .int .i64 0]))) := fun s hs => zres_short (by omega) s hs
  clear a1 a2 h7
  go_enter Tryz.func57, Tryz.ntmps57
  go_wp2_with fail
  refine (HS.out _).mono ?_
  rintro e w1 ⟨rfl, g1⟩
  have HG1 : Hid ((((w.alloc (wObj n1 m1)).alloc (wObj n2 m2)).alloc (wObj false eS)).grownBy w1 none) := g1
  clear g1 HS
  go_wp2_with fail
  refine (HO.out _).mono ?_
  rintro e w2 ⟨s, rfl, hs, g2⟩
  have HG2 : Hid ((((w.alloc (wObj n1 m1)).alloc (wObj n2 m2)).alloc (wObj false eS)).grownBy w2 none) := grownBy_trans HG1.out g2
  have HZ2 := HZ.out s hs
  have HZ3 : Hid (ZRes (x - y) (.returned (.tuple #[whole (decide (x - y < 0)) s, .int .i64 0]))) := HZ2
  obtain ⟨_, _, hb⟩ := blks3 HG2.out
  have hc0 := hb.c0
  have hc1 := hb.c1
  have hf0 := hb.fr 0
  have hf1 := hb.fr 1
  clear g2 hs HZ HZ2 HO HG1
  go_wp2_with fail
  refine bodyPost_ret (res_cell_tmp rfl _ _ (w.heap.size + 2) _ _ _ _ rfl (hb.put _ _)) rfl ?_
  exact ⟨HZ3.out, grown_set (grown_set (grownBy_trans (grow3 _ _ _ _) HG2.out) (by omega)) (by omega)⟩
theorem sub_bad (n1 n2 : Bool) (m1 m2 : ByteArray) (z1 : m1.size ≤ maxLen) (z2 : m2.size ≤ maxLen) (h : may n2 m2 = false) (w : World) :
    Calls Tryz.prog 57 #[whole n1 m1, whole n2 m2] w fun e w' => e = .returned (.tuple #[whole false eS, .int .i64 2]) ∧ w.grownBy w' none := by
  have HS : Hid (∀ w, Calls Tryz.prog 100 #[whole n1 m1, whole n2 m2] w fun e w' => ∃ x y, e = .returned (.tuple #[.int .i64 x, .int .i64 y, .bool false]) ∧ w.grownBy w' none) := fun w => short_no n1 n2 m1 m2 z1 z2 (by simp [h]) w
  have HC : Hid (∀ w, Calls Tryz.prog 81 #[whole n2 m2] w fun e w' => e = .returned (.int .i64 2) ∧ w' = w.alloc (wObj n2 m2)) := fun w => by
    have := check_any n2 m2 z2 w
    rw [chk_no h] at this
    exact this
  clear h
  go_enter Tryz.func57, Tryz.ntmps57
  go_wp2_with fail
  refine (HS.out _).mono ?_
  rintro e w1 ⟨x, y, rfl, g1⟩
  have HG1 : Hid ((((w.alloc (wObj n1 m1)).alloc (wObj n2 m2)).alloc (wObj false eS)).grownBy w1 none) := g1
  obtain ⟨c0, c1, c2, c3⟩ := blks3_cells g1
  clear g1 HS
  go_wp2_with fail
  refine (HC.out _).mono ?_
  rintro e w' ⟨rfl, rfl⟩
  clear HC
  go_wp2_with fail
  refine (zero_any _).mono ?_
  rintro e w' ⟨rfl, rfl⟩
  have HG2 : Hid ((((w.alloc (wObj n1 m1)).alloc (wObj n2 m2)).alloc (wObj false eS)).grownBy ((w1.alloc (wObj n2 m2)).alloc (wObj false eS)) none) := grownBy_trans HG1.out (grow2 _ _ _)
  obtain ⟨_, _, hb⟩ := blks3 HG2.out
  have hc0 := hb.c0
  have hc1 := hb.c1
  have hf0 := hb.fr 0
  have hf1 := hb.fr 1
  clear HG1 c0 c1 c2 c3
  go_wp2_with fail
  refine bodyPost_ret (res_cell_tmp rfl _ _ (w.heap.size + 2) _ _ _ _ rfl (hb.put _ _)) rfl ?_
  exact ⟨rfl, grown_set (grown_set (grownBy_trans (grow3 _ _ _ _) HG2.out) (by omega)) (by omega)⟩
theorem sub_long (n1 n2 : Bool) (m1 m2 : ByteArray) (z1 : m1.size ≤ maxLen) (z2 : m2.size ≤ maxLen) (h2 : may n2 m2 = true) (h : ¬ (may n1 m1 = true ∧ may n2 m2 = true ∧ m1.size + m2.size ≤ 7)) (Q : Ending → Prop)
    (hQ : ∀ e, Q e → ∃ n s er, e = .returned (.tuple #[whole n s, .int .i64 er])) (hS : ∀ w v, DW w v [(n1, m1), (ngs n2 m2, m2)] → Calls Tryz.prog 101 #[v] w fun e w' => Q e ∧ w.grownBy w' none) (w : World) :
    Calls Tryz.prog 57 #[whole n1 m1, whole n2 m2] w fun e w' => Q e ∧ w.grownBy w' none := by
  have HS : Hid (∀ w, Calls Tryz.prog 100 #[whole n1 m1, whole n2 m2] w fun e w' => ∃ x y, e = .returned (.tuple #[.int .i64 x, .int .i64 y, .bool false]) ∧ w.grownBy w' none) := fun w => short_no n1 n2 m1 m2 z1 z2 h w
  have HC : Hid (∀ w, Calls Tryz.prog 81 #[whole n2 m2] w fun e w' => e = .returned (.int .i64 0) ∧ w' = w.alloc (wObj n2 m2)) := fun w => by
    have := check_any n2 m2 z2 w
    rw [chk_yes h2] at this
    exact this
  have HO : Hid (∀ w, Calls Tryz.prog 111 #[whole n2 m2] w fun e w' => e = .returned (whole (ngs n2 m2) m2) ∧ w.grownBy w' none) := fun w => opposite_any n2 m2 w
  have HM : Hid (∀ w : World, Calls Tryz.prog 101 #[.slice (some ⟨w.heap.size, 0, none⟩) 2 2] (w.alloc (.cells #[.bool n1, .string m1, .bool (ngs n2 m2), .string m2] 23)) fun e w' => Q e ∧ (w.alloc (.cells #[.bool n1, .string m1, .bool (ngs n2 m2), .string m2] 23)).grownBy w' none) := fun w => hS _ _ (dw_two w n1 (ngs n2 m2) m1 m2)
  have HQ : Hid (∀ e, Q e → ∃ n s er, e = .returned (.tuple #[whole n s, .int .i64 er])) := hQ
  clear h hQ hS h2
  generalize ngs n2 m2 = n3 at *
  go_enter Tryz.func57, Tryz.ntmps57
  go_wp2_with fail
  refine (HS.out _).mono ?_
  rintro e w1 ⟨x, y, rfl, g1⟩
  have HG1 : Hid ((((w.alloc (wObj n1 m1)).alloc (wObj n2 m2)).alloc (wObj false eS)).grownBy w1 none) := g1
  obtain ⟨c0, c1, c2, c3⟩ := blks3_cells g1
  clear g1 HS
  go_wp2_with fail
  refine (HC.out _).mono ?_
  rintro e w' ⟨rfl, rfl⟩
  clear HC c0 c1 c2 c3
  have HG2 : Hid ((((w.alloc (wObj n1 m1)).alloc (wObj n2 m2)).alloc (wObj false eS)).grownBy (w1.alloc (wObj n2 m2)) none) := grownBy_trans HG1.out (grow1 _ _)
  obtain ⟨c0, c1, c2, c3⟩ := blks3_cells HG2.out
  go_wp2_with fail
  have HKK : Hid (∀ w', ((w.alloc (wObj n1 m1)).alloc (wObj n2 m2)).grownBy w' none → w'.cell? ⟨w.heap.size, 0, none⟩ = some (Value.bool n1) ∧ w'.cell? ⟨w.heap.size, 1, none⟩ = some (Value.string m1) ∧ w'.cell? ⟨w.heap.size + 1, 0, none⟩ = some (Value.bool n2) ∧ w'.cell? ⟨w.heap.size + 1, 1, none⟩ = some (Value.string m2)) := keep2 w n1 n2 m1 m2
  go_region_held3 (fun w' => w'.cell? ⟨w.heap.size, 0, none⟩ = some (Value.bool n1) ∧ w'.cell? ⟨w.heap.size, 1, none⟩ = some (Value.string m1) ∧ w'.cell? ⟨w.heap.size + 1, 0, none⟩ = some (Value.bool n2) ∧ w'.cell? ⟨w.heap.size + 1, 1, none⟩ = some (Value.string m2))
    (first | (go_keep; done) | exact HKK.out _ (grownBy_trans (grow1 _ _) (by assumption)) | exact HKK.out _ (grownBy_trans (grow1 _ _) (grownBy_trans (by assumption) (grow1 _ _))) | exact HKK.out _ (grown_set (grown_set (grownBy_trans (grow1 _ _) GM) (by simp)) (by simp)) | exact HKK.out _ (grow_drew (grownBy_trans (grow1 _ _) HG2.out)) | fail)
    (first
      | (go_at_call 111; refine (HO.out _).mono ?_; rintro e wA ⟨rfl, hgA⟩; have GA : (((w.alloc (wObj n1 m1)).alloc (wObj n2 m2)).alloc (wObj false eS)).grownBy wA none := (by first | exact grownBy_trans HG2.out hgA | exact grownBy_trans HG2.out (grownBy_undrew hgA) | fail))
      | (go_at_call 101; refine (HM.out _).mono ?_; rintro e wM ⟨hq, gM⟩; have GM : (((w.alloc (wObj n1 m1)).alloc (wObj n2 m2)).alloc (wObj false eS)).grownBy wM none := grownBy_trans GA (grownBy_trans (grow1 _ _) gM); obtain ⟨n, s, er, rfl⟩ := HQ.out _ hq; have HQ2 : Hid (Q (.returned (.tuple #[whole n s, .int .i64 er]))) := hq; obtain ⟨_, _, hb⟩ := blks3 GM; have hc0 := hb.c0; have hc1 := hb.c1; have hf0 := hb.fr 0; have hf1 := hb.fr 1)
      | fail)
  go_wp2_with fail
  refine bodyPost_ret (res_cell_tmp rfl _ _ (w.heap.size + 2) _ _ _ _ rfl (hb.put _ _)) rfl ?_
  exact ⟨HQ2.out, grown_set (grown_set (grownBy_trans (grow3 _ _ _ _) GM) (by omega)) (by omega)⟩
theorem sub_yes (n1 n2 : Bool) (m1 m2 : ByteArray) (h1 : may n1 m1 = true) (h2 : may n2 m2 = true) (w : World) :
    Calls Tryz.prog 57 #[whole n1 m1, whole n2 m2] w fun e w' => ZRes (num n1 m1 - num n2 m2) e ∧ w.grownBy w' none := by
  by_cases h7 : m1.size + m2.size ≤ 7
  · exact sub_short n1 n2 m1 m2 h1 h2 h7 w
  · refine sub_long n1 n2 m1 m2 (by have := may_size h1; unfold maxLen; omega) (by have := may_size h2; unfold maxLen; omega) h2 (fun h => h7 h.2.2) (ZRes (num n1 m1 - num n2 m2)) (fun e h => h.ans) ?_ w
    intro w v hd
    have := sum_any w v _ hd (by simp) (by simp [mayAll, h1, may_ngs h2])
    rw [sumZ_two, num_ngs, ← Int.sub_eq_add_neg] at this
    exact this
theorem mul_short (n1 n2 : Bool) (m1 m2 : ByteArray) (h1 : may n1 m1 = true) (h2 : may n2 m2 = true) (h7 : m1.size + m2.size ≤ 7) (w : World) :
    Calls Tryz.prog 102 #[whole n1 m1, whole n2 m2] w fun e w' => ZRes (num n1 m1 * num n2 m2) e ∧ w.grownBy w' none := by
  have hS : ∀ w, Calls Tryz.prog 100 #[whole n1 m1, whole n2 m2] w fun e w' => e = .returned (.tuple #[.int .i64 (num n1 m1), .int .i64 (num n2 m2), .bool true]) ∧ w.grownBy w' none := fun w => short_yes n1 n2 m1 m2 h1 h2 h7 w
  have HS : Hid (∀ w, Calls Tryz.prog 100 #[whole n1 m1, whole n2 m2] w fun e w' => e = .returned (.tuple #[.int .i64 (num n1 m1), .int .i64 (num n2 m2), .bool true]) ∧ w.grownBy w' none) := hS
  have a1 := num_mul_seven (n1 := n1) (n2 := n2) h7
  clear hS
  generalize num n1 m1 = x at *
  generalize num n2 m2 = y at *
  obtain ⟨p, hp⟩ : ∃ p, x * y = p := ⟨_, rfl⟩
  rw [hp] at a1 ⊢
  have hw : IntKind.i64.wrap (x * y) = p := by rw [hp, IntKind.wrap_i64]; omega
  have HO : Hid (∀ w, Calls Tryz.prog 52 #[.int .i64 p] w fun e w' => ∃ s, e = .returned (whole (decide (p < 0)) s) ∧ bN s = magN p.natAbs ∧ w.grownBy w' none) := fun w => of_any p (by omega) (by omega) w
  have HZ : Hid (∀ s, bN s = magN p.natAbs → ZRes p (.returned (.tuple #[whole (decide (p < 0)) s, .int .i64 0]))) := fun s hs => zres_short (by omega) s hs
  clear a1 h7 hp
  go_enter Tryz.func102, Tryz.ntmps102
  go_wp2_with fail
  refine (HS.out _).mono ?_
  rintro e w1 ⟨rfl, g1⟩
  have HG1 : Hid ((((w.alloc (wObj n1 m1)).alloc (wObj n2 m2)).alloc (wObj false eS)).grownBy w1 none) := g1
  clear g1 HS
  go_wp2_with fail
  refine (HO.out _).mono ?_
  rintro e w2 ⟨s, rfl, hs, g2⟩
  have HG2 : Hid ((((w.alloc (wObj n1 m1)).alloc (wObj n2 m2)).alloc (wObj false eS)).grownBy w2 none) := grownBy_trans HG1.out g2
  have HZ2 := HZ.out s hs
  have HZ3 : Hid (ZRes p (.returned (.tuple #[whole (decide (p < 0)) s, .int .i64 0]))) := HZ2
  obtain ⟨_, _, hb⟩ := blks3 HG2.out
  have hc0 := hb.c0
  have hc1 := hb.c1
  have hf0 := hb.fr 0
  have hf1 := hb.fr 1
  clear g2 hs HZ HZ2 HO HG1
  go_wp2_with fail
  refine bodyPost_ret (res_cell_tmp rfl _ _ (w.heap.size + 2) _ _ _ _ rfl (hb.put _ _)) rfl ?_
  exact ⟨HZ3.out, grown_set (grown_set (grownBy_trans (grow3 _ _ _ _) HG2.out) (by omega)) (by omega)⟩
theorem mul_long (n1 n2 : Bool) (m1 m2 : ByteArray) (h1 : may n1 m1 = true) (h2 : may n2 m2 = true) (h7 : ¬ m1.size + m2.size ≤ 7) (w : World) :
    Calls Tryz.prog 102 #[whole n1 m1, whole n2 m2] w fun e w' => ZRes (num n1 m1 * num n2 m2) e ∧ w.grownBy w' none := by
  have l1 := may_size h1
  have l2 := may_size h2
  have z1 : m1.size ≤ maxLen := by unfold maxLen; omega
  have z2 : m2.size ≤ maxLen := by unfold maxLen; omega
  have HS : Hid (∀ w, Calls Tryz.prog 100 #[whole n1 m1, whole n2 m2] w fun e w' => ∃ x y, e = .returned (.tuple #[.int .i64 x, .int .i64 y, .bool false]) ∧ w.grownBy w' none) := fun w => short_no n1 n2 m1 m2 z1 z2 (fun k => h7 k.2.2) w
  have HC := checkTwo n1 n2 m1 m2 z1 z2
  rw [if_pos ⟨h1, h2⟩] at HC
  have HZ : Hid (∀ e, Made (n1 != n2) (val (bN m1) * val (bN m2)) e → ZRes (num n1 m1 * num n2 m2) e) := mul_made n1 n2 m1 m2
  clear h7
  go_enter Tryz.func102, Tryz.ntmps102
  go_wp2_with fail
  refine (HS.out _).mono ?_
  rintro e w1 ⟨x, y, rfl, g1⟩
  have HG1 : Hid ((((w.alloc (wObj n1 m1)).alloc (wObj n2 m2)).alloc (wObj false eS)).grownBy w1 none) := g1
  obtain ⟨c0, c1, c2, c3⟩ := blks3_cells g1
  clear g1 HS
  go_wp2_with fail
  refine (HC.out _).mono ?_
  rintro e w2 ⟨rfl, g2⟩
  have HG2 : Hid ((((w.alloc (wObj n1 m1)).alloc (wObj n2 m2)).alloc (wObj false eS)).grownBy w2 none) := grownBy_trans HG1.out (grownBy_trans (grow1 _ _) g2)
  clear HC g2 HG1 c0 c1 c2 c3
  obtain ⟨c0, c1, c2, c3⟩ := blks3_cells HG2.out
  go_wp2_with fail
  have HKK : Hid (∀ w', ((w.alloc (wObj n1 m1)).alloc (wObj n2 m2)).grownBy w' none → w'.cell? ⟨w.heap.size, 0, none⟩ = some (Value.bool n1) ∧ w'.cell? ⟨w.heap.size, 1, none⟩ = some (Value.string m1) ∧ w'.cell? ⟨w.heap.size + 1, 0, none⟩ = some (Value.bool n2) ∧ w'.cell? ⟨w.heap.size + 1, 1, none⟩ = some (Value.string m2)) := keep2 w n1 n2 m1 m2
  go_region_held3 (fun w' => w'.cell? ⟨w.heap.size, 0, none⟩ = some (Value.bool n1) ∧ w'.cell? ⟨w.heap.size, 1, none⟩ = some (Value.string m1) ∧ w'.cell? ⟨w.heap.size + 1, 0, none⟩ = some (Value.bool n2) ∧ w'.cell? ⟨w.heap.size + 1, 1, none⟩ = some (Value.string m2))
    (first | (go_keep; done) | exact HKK.out _ (grownBy_trans (grow1 _ _) (by assumption)) | exact HKK.out _ (grown_set (grown_set (grownBy_trans (grow1 _ _) GM) (by simp)) (by simp)) | exact HKK.out _ (grow_drew (grownBy_trans (grow1 _ _) HG2.out)) | fail)
    (first
      | (go_at_call 106; refine (digits_dgs _ (by first | exact l1 | exact l2) _).mono ?_; rintro e wA ⟨vA, rfl, hWA⟩; have GA : (((w.alloc (wObj n1 m1)).alloc (wObj n2 m2)).alloc (wObj false eS)).grownBy wA none := (by have hgA := hWA.grown; first | exact grownBy_trans (by assumption) hgA | exact grownBy_trans HG2.out hgA | exact grownBy_trans HG2.out (grownBy_undrew hgA) | fail))
      | (go_at_call 145; refine (prodP_wds (by assumption) (by assumption)).mono ?_; rintro e wP ⟨vP, rfl, K, hDK, hRK, hLK, hVK, hGK⟩; have GP : (((w.alloc (wObj n1 m1)).alloc (wObj n2 m2)).alloc (wObj false eS)).grownBy wP none := grownBy_trans (by assumption) hGK)
      | (go_at_call 110; refine (madeP_any (n1 != n2) _ _ K hDK hRK (by omega)).mono ?_; rw [hVK]; rintro e wM ⟨hMM, hGM⟩; have GM : (((w.alloc (wObj n1 m1)).alloc (wObj n2 m2)).alloc (wObj false eS)).grownBy wM none := grownBy_trans GP hGM; have hZ := HZ.out _ hMM; obtain ⟨n, s, er, rfl⟩ := hZ.ans; have HZ2 : Hid (ZRes (num n1 m1 * num n2 m2) (.returned (.tuple #[whole n s, .int .i64 er]))) := hZ; obtain ⟨_, _, hb⟩ := blks3 GM; have hc0 := hb.c0; have hc1 := hb.c1; have hf0 := hb.fr 0; have hf1 := hb.fr 1)
      | fail)
  go_wp2_with fail
  refine bodyPost_ret (res_cell_tmp rfl _ _ (w.heap.size + 2) _ _ _ _ rfl (hb.put _ _)) rfl ?_
  exact ⟨HZ2.out, grown_set (grown_set (grownBy_trans (grow3 _ _ _ _) GM) (by omega)) (by omega)⟩
theorem mul_yes (n1 n2 : Bool) (m1 m2 : ByteArray) (h1 : may n1 m1 = true) (h2 : may n2 m2 = true) (w : World) :
    Calls Tryz.prog 102 #[whole n1 m1, whole n2 m2] w fun e w' => ZRes (num n1 m1 * num n2 m2) e ∧ w.grownBy w' none := by
  by_cases h7 : m1.size + m2.size ≤ 7
  · exact mul_short n1 n2 m1 m2 h1 h2 h7 w
  · exact mul_long n1 n2 m1 m2 h1 h2 h7 w
theorem may_hd {n : Bool} {m : ByteArray} (h : may n m = true) : m.size = 0 ∨ (bN m).head?.getD 0 ≠ 0 := by
  by_cases h0 : m.size = 0
  · exact .inl h0
  · right
    rw [bN_head m (by omega)]
    exact may_head h (by omega)
theorem isZ_size {z : Int} {n : Bool} {s : ByteArray} (h : IsZ z n s) : s.size = (bl z.natAbs + 7) / 8 := by
  rw [← bN_length, h.2, magN_len]
end Go.Proofs.YtdfliaogmlpefaaGreatDoor
