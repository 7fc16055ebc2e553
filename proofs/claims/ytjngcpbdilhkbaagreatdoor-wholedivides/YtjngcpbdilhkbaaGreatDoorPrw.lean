/-
  The program's product, as digits of the call's own.
-/
import Derived.Test.YtjngcpbdilhkbaaGreatDoorBunPrg
import Derived.Test.YtjngcpbdilhkbaaGreatDoorBunRed
namespace Go.Proofs.YtjngcpbdilhkbaaGreatDoor
open Go.RowKit Go.Lib Go.Sort

set_option maxHeartbeats 6400000 in
set_option maxRecDepth 1000000 in
theorem productP_row (w : World) (va vb : Value) (A B : List Nat) (hA : D4 w va A) (hB : D4 w vb B) (ra : ∀ x ∈ A, x < B32) (rb : ∀ x ∈ B, x < B32) (la : A.length ≤ 100000000) (lb : B.length ≤ 100000000) :
    Calls Tryz.prog 46 #[va, vb] w fun e w' => ∃ v K, e = .returned v ∧ Row w' w.heap.size v K ∧ (∀ x ∈ K, x < B32) ∧ nv B32 K = nv B32 A * nv B32 B ∧ K.length ≤ A.length + B.length ∧ Trim K ∧ w.grownBy w' none := by
  obtain ⟨aa, ca, rfl⟩ := hA.slice
  obtain ⟨ab, cb, rfl⟩ := hB.slice
  have HA : Hid (D4 w (.slice aa A.length ca) A) := hA
  have HB : Hid (D4 w (.slice ab B.length cb) B) := hB
  have HRa : Hid (∀ x ∈ A, x < B32) := ra
  have HRb : Hid (∀ x ∈ B, x < B32) := rb
  obtain ⟨p, hp⟩ : ∃ p, A.length = p := ⟨_, rfl⟩
  obtain ⟨q, hq⟩ : ∃ q, B.length = q := ⟨_, rfl⟩
  have HP : Unit → A.length = p := fun _ => hp
  have HQ : Unit → B.length = q := fun _ => hq
  have hp9 : (p : Int) ≤ 100000000 := by omega
  have hq9 : (q : Int) ≤ 100000000 := by omega
  have hmk := make4 w (p + q) (by omega)
  rw [show ((p + q : Nat) : Int) = (p : Int) + q by omega] at hmk
  rw [hp] at HA ⊢
  rw [hq] at HB ⊢
  clear hA hB ra rb hp hq la lb
  go_enter Tryz.func46, Tryz.ntmps46
  go_wp2_with fail
  clear hmk
  go_loopw [19] (fun t wr => ∃ (i : Nat) (L : List Nat), t = .int .i64 i ∧ i ≤ p ∧ L.length = p + q ∧ (∀ x ∈ L, x < B32) ∧ nv B32 L = nv B32 (A.take i) * nv B32 B ∧ (∀ j, i + q ≤ j → L[j]?.getD 0 = 0) ∧
    BlkL wr w.heap.size 64 enc4 (ints L) ∧ w.grownBy wr none) (fun t _ => p - (RowKit.intOf t).toNat)
  case atStart =>
    refine ⟨0, List.replicate (p + q) 0, rfl, by omega, by simp, fun x hx => by rw [List.eq_of_mem_replicate hx]; decide, by rw [nv_replicate]; simp [nv], fun j _ => ?_, heap_alloc_new _ _, grow1 _ _⟩
    rw [List.getElem?_replicate]
    split <;> rfl
  case round =>
    obtain ⟨i, L, rfl, hi, hL, hr, hv, hz, hBk, hg⟩ := hrel
    by_cases hi1 : i < p
    · have HV : Hid (nv B32 L = nv B32 (A.take i) * nv B32 B) := hv
      have HZ : Hid (∀ j, i + q ≤ j → L[j]?.getD 0 = 0) := hz
      have HR : Hid (∀ x ∈ L, x < B32) := hr
      have HBk : Hid (BlkL wr w.heap.size 64 enc4 (ints L)) := hBk
      have HG : Hid (w.grownBy wr none) := hg
      rcases HA.out with ⟨_, hnil⟩ | ⟨Ba, oa, ca', hve, hpc, hcA⟩
      · exfalso
        have := HP ()
        rw [hnil] at this
        simp at this
        omega
      · obtain ⟨haa, hpp, hcc⟩ := Value.slice.inj hve
        rw [HP ()] at hpc
        clear hpp hve
        subst haa
        subst hcc
        have HCA : Hid (∀ j, j < A.length → w.cell? ⟨Ba, oa + j, none⟩ = some (.int .u32 ((A[j]?.getD 0 : Nat) : Int))) := hcA
        have hx := grownBy_cell hg (HCA.out i (by rw [HP ()]; omega)) (by simp)
        have rX := d4_rng HRa.out i
        have SX := nv_take_succ B32 A i
        have SXH : Hid (nv B32 (A.take (i + 1)) = nv B32 (A.take i) + A[i]?.getD 0 * B32 ^ i) := SX
        clear SX hcA hv hz hr hBk hg
        generalize A[i]?.getD 0 = x at *
        have hxI : (x : Int) ≤ 4294967295 := by have : x < 4294967296 := rX; omega
        have hiI : (i : Int) < p := by omega
        generalize wr = wo at *
        go_wp2_with fail
        go_loopw [8, 26] (fun s t wr => ∃ (c k : Nat) (M : List Nat), s = .int .u64 c ∧ t = .int .i64 k ∧ (c : Int) ≤ 4294967295 ∧ k ≤ q ∧ M.length = p + q ∧ (∀ x ∈ M, x < B32) ∧ nv B32 M + c * B32 ^ (i + k) = nv B32 L + x * nv B32 (B.take k) * B32 ^ i ∧ (∀ j, i + q ≤ j → M[j]?.getD 0 = 0) ∧
          BlkL wr w.heap.size 64 enc4 (ints M) ∧ w.grownBy wr none) (fun _ t _ => q - (RowKit.intOf t).toNat)
        case atStart => exact ⟨0, 0, L, rfl, rfl, by omega, by omega, hL, HR.out, by simp [nv], HZ.out, HBk.out, HG.out⟩
        case round =>
          obtain ⟨c, k, M, rfl, rfl, hc, hk, hM, hmr, hmv, hmz, hmb, hmg⟩ := hrel
          have HMR : Hid (∀ x ∈ M, x < B32) := hmr
          have HMV : Hid (nv B32 M + c * B32 ^ (i + k) = nv B32 L + x * nv B32 (B.take k) * B32 ^ i) := hmv
          have HMZ : Hid (∀ j, i + q ≤ j → M[j]?.getD 0 = 0) := hmz
          have HMB : Hid (BlkL wr w.heap.size 64 enc4 (ints M)) := hmb
          have HMG : Hid (w.grownBy wr none) := hmg
          clear hx
          by_cases hk1 : k < q
          · rcases HB.out with ⟨_, hnil⟩ | ⟨Bb, ob, cb', hve, hqc, hcB⟩
            · exfalso
              have := HQ ()
              rw [hnil] at this
              simp at this
              omega
            · obtain ⟨hab, hqq, hcc2⟩ := Value.slice.inj hve
              rw [HQ ()] at hqc
              clear hqq hve
              subst hab
              subst hcc2
              have hy := grownBy_cell hmg (hcB k (by rw [HQ ()]; omega)) (by simp)
              have rY := d4_rng HRb.out k
              have hzc := hmb.cell (i + k) (by rw [ints_length]; omega)
              rw [ints_at] at hzc
              have hzf := hmb.frozen (i + k)
              have rZ := d4_rng HMR.out (i + k)
              have SY := nv_take_succ B32 B k
              have SYH : Hid (nv B32 (B.take (k + 1)) = nv B32 (B.take k) + B[k]?.getD 0 * B32 ^ k) := SY
              have RS : Hid (nv B32 (M.set (i + k) ((c + x * B[k]?.getD 0 + M[i + k]?.getD 0) % 4294967296)) + (c + x * B[k]?.getD 0 + M[i + k]?.getD 0) / 4294967296 * B32 ^ (i + k + 1) = nv B32 L + x * (nv B32 (B.take k) + B[k]?.getD 0 * B32 ^ k) * B32 ^ i) := row_step (by omega) hmv
              clear SY hcB hmr hmv hmz hmb hmg HMV
              generalize B[k]?.getD 0 = y at *
              generalize M[i + k]?.getD 0 = z at *
              have hm1 := mul_lt32 (x := x) (y := y) rX rY
              have hzI : (z : Int) ≤ 4294967295 := by have : z < 4294967296 := rZ; omega
              have hyI : (y : Int) ≤ 4294967295 := by have : y < 4294967296 := rY; omega
              obtain ⟨P, hP⟩ : ∃ P, x * y = P := ⟨_, rfl⟩
              have hPI : (y : Int) * (x : Int) = (P : Int) := by rw [← hP, Int.mul_comm]; simp
              rw [hP] at hm1 RS
              have hw1 : IntKind.u64.wrap ((y : Int) * (x : Int)) = (P : Int) := by rw [hPI, IntKind.wrap_u64]; omega
              have hw2 : IntKind.u64.wrap ((P : Int) + (z : Int)) = (P : Int) + z := by rw [IntKind.wrap_u64]; omega
              have hw3 : IntKind.u64.wrap ((c : Int) + ((P : Int) + (z : Int))) = (c : Int) + (P + z) := by rw [IntKind.wrap_u64]; omega
              have hw4 : IntKind.i64.wrap ((i : Int) + (k : Int)) = ((i + k : Nat) : Int) := by rw [IntKind.wrap_i64]; omega
              have hw5 : IntKind.u64.wrap (y : Int) = (y : Int) := by rw [IntKind.wrap_u64]; omega
              have hw6 : IntKind.u64.wrap (z : Int) = (z : Int) := by rw [IntKind.wrap_u64]; omega
              have hw7 : IntKind.u64.wrap (x : Int) = (x : Int) := by rw [IntKind.wrap_u64]; omega
              have hik : ((i + k : Nat) : Int) < (p : Int) + q := by omega
              have hkq : (k : Int) < q := by omega
              clear hP rX rY rZ
              go_wp2_with fail
              go_roundw
              case rel =>
                have hr1 : (c + P + z) % 4294967296 < B32 := Nat.mod_lt _ (by decide)
                refine ⟨(c + P + z) / 4294967296, k + 1, M.set (i + k) ((c + P + z) % 4294967296), num_eq (by omega), rfl, by omega, by omega, by simp [hM], set_rng HMR.out hr1, ?_, fun j hj => ?_, ?_, grown_set HMG.out (Nat.le_refl _)⟩
                · rw [SYH.out, ← Nat.add_assoc]
                  exact RS.out
                · rw [List.getElem?_set_ne (by omega)]
                  exact HMZ.out j hj
                · have e := HMB.out.set (i + k) (((c + P + z) % 4294967296 : Nat) : Int)
                  rw [ints_set] at e
                  rw [show ((c : Int) + (P + z)) % 4294967296 = (((c + P + z) % 4294967296 : Nat) : Int) by omega]
                  exact e
              case measure => simp [RowKit.intOf]; omega
          · obtain rfl : k = q := by omega
            have hzc := hmb.cell (i + k) (by rw [ints_length]; omega)
            have hzf := hmb.frozen (i + k)
            have hz0 : M[i + k]?.getD 0 = 0 := HMZ.out (i + k) (Nat.le_refl _)
            have hwi : ((i + k : Nat) : Int) < (p : Int) + k := by omega
            clear hmr hmv hmz hmb hmg
            go_wp2_with fail
            go_roundw
            case rel =>
              have hset := nv_set B32 M (i + k) c (by omega)
              rw [hz0, Nat.zero_mul, Nat.add_zero] at hset
              have hmv := HMV.out
              rw [nv_take_all B32 B k (by rw [HQ ()]; exact Nat.le_refl _), HV.out] at hmv
              have hcr : c < B32 := by simp only [B32]; omega
              refine ⟨i + 1, M.set (i + k) c, rfl, by omega, by simp [hM], set_rng HMR.out hcr, ?_, fun j hj => ?_, ?_, grown_set HMG.out (Nat.le_refl _)⟩
              · rw [hset, hmv, SXH.out, Nat.add_mul]
                congr 1
                rw [Nat.mul_assoc, Nat.mul_assoc, Nat.mul_comm (nv B32 B)]
              · rw [List.getElem?_set_ne (by omega)]
                exact HMZ.out j (by omega)
              · have e := HMB.out.set (i + k) (c : Int)
                rw [ints_set] at e
                exact e
            case measure => simp [RowKit.intOf]; omega
    · obtain rfl : i = p := by omega
      have hvv : nv B32 L = nv B32 A * nv B32 B := by rw [hv, nv_take_all B32 A i (by rw [HP ()]; exact Nat.le_refl _)]
      have hct := trim_row wr w.heap.size _ L (hBk.row (Nat.le_refl _) (by unfold maxLen; omega)) (by omega)
      rw [hL] at hct
      have HCT : Hid (Calls Tryz.prog 53 #[.slice (some ⟨w.heap.size, 0, none⟩) (i + q) (i + q)] wr fun e w' => ∃ v' k, e = .returned v' ∧ k ≤ i + q ∧ Row wr w.heap.size v' (L.take k) ∧ nv B32 (L.take k) = nv B32 L ∧ Trim (L.take k) ∧ w' = wr) := by
        refine hct.mono ?_
        rintro e w' ⟨v', k, h1, h2, h3, h4, h5, _, h6⟩
        exact ⟨v', k, h1, h2, h3, h4, h5, h6⟩
      have HVV : Unit → nv B32 L = nv B32 A * nv B32 B := fun _ => hvv
      have HR : Hid (∀ x ∈ L, x < B32) := hr
      have HG : Hid (w.grownBy wr none) := hg
      clear hct hvv hr hv hBk hg hz
      go_wp2_with fail
      refine HCT.out.mono ?_
      rintro e w1 ⟨v', k, rfl, hk, hD, hnk, hlast, rfl⟩
      have hlen : (L.take k).length = k := by rw [List.length_take, hL, Nat.min_eq_left hk]
      have HD : Hid (Row w1 w.heap.size v' (L.take k)) := hD
      have HNK : Unit → nv B32 (L.take k) = nv B32 L := fun _ => hnk
      have HLT : Hid (Trim (L.take k)) := hlast
      clear hD hnk hlast HCT
      go_wp2_with fail
      go_ret
      exact ⟨v', L.take k, rfl, HD.out, fun x hx => HR.out x (List.mem_of_mem_take hx), by rw [HNK (), HVV ()], by omega, HLT.out, HG.out⟩
end Go.Proofs.YtjngcpbdilhkbaaGreatDoor
