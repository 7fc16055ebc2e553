/-
  The program's raise: digits that the call owns, times a digit and a digit more, in their place.
-/
import Derived.Test.YtmgbkcfocbbofabGreatDoorBunMor
import Derived.Test.YtmgbkcfocbbofabGreatDoorPrd
namespace Go.Proofs.YtmgbkcfocbbofabGreatDoor
open Go.RowKit Go.Lib Go.Sort

theorem raise_digit (T1 T2 P c x y X m : Nat) (h : T1 + c * P = X * y + m) (hT : T2 = T1 + (c + x * y) % 4294967296 * P) : T2 + (c + x * y) / 4294967296 * (P * B32) = (X + x * P) * y + m := by
  have e1 : (c + x * y) % 4294967296 * P + (c + x * y) / 4294967296 * (P * B32) = c * P + x * y * P := by
    rw [Nat.mul_comm P B32, ← Nat.mul_assoc, ← Nat.add_mul, ← Nat.add_mul]
    congr 1
    simp only [B32]
    omega
  have e2 : (X + x * P) * y = X * y + x * y * P := by rw [Nat.add_mul, Nat.mul_right_comm]
  omega

set_option maxHeartbeats 3200000 in
set_option maxRecDepth 1000000 in
theorem raise_row (w : World) (base y m : Nat) (v : Value) (L : List Nat) (hA : Row w base v L) (rL : ∀ x ∈ L, x < B32) (hy : y < 4294967296) (hm : m < 4294967296) (ll : L.length ≤ 100000000) (hbase : base ≤ w.heap.size) :
    Calls Tryz.prog 40 #[v, .int .u32 (y : Int), .int .u32 (m : Int)] w fun e w' => ∃ v' K, e = .returned v' ∧ Row w' base v' K ∧ (∀ x ∈ K, x < B32) ∧ nv B32 K = nv B32 L * y + m ∧ K.length ≤ L.length + 1 ∧
      (v'.ownBlock = v.ownBlock ∨ ∃ g, v'.ownBlock = some g ∧ w.heap.size ≤ g) ∧ w.grownBy w' v.ownBlock := by
  obtain ⟨row, hrow⟩ : ∃ row, v.ownBlock = row := ⟨_, rfl⟩
  obtain ⟨ab, cp, rfl⟩ := hA.d4.slice
  obtain ⟨k, hk⟩ : ∃ k, L.length = k := ⟨_, rfl⟩
  have HK : Unit → L.length = k := fun _ => hk
  have HRW : Unit → (Value.slice ab k cp).ownBlock = row := fun _ => by rw [← hk]; exact hrow
  rw [hrow]
  rw [hk] at hA ll ⊢
  have HA : Hid (Row w base (.slice ab k cp) L) := hA
  have HRL : Hid (∀ x ∈ L, x < B32) := rL
  have hkI : (k : Int) ≤ 100000000 := by omega
  have hyI : (y : Int) ≤ 4294967295 := by omega
  have hmI : (m : Int) ≤ 4294967295 := by omega
  clear hA rL hk hrow hm ll
  go_enter Tryz.func40, Tryz.ntmps40
  go_wp2_with fail
  go_loopw [7, 14] (fun s t wr => ∃ (c i : Nat) (M : List Nat), s = .int .u64 c ∧ t = .int .i64 i ∧ (c : Int) ≤ 4294967295 ∧ i ≤ k ∧ M.length = k ∧ (∀ x ∈ M, x < B32) ∧ nv B32 (M.take i) + c * B32 ^ i = nv B32 (L.take i) * y + m ∧ M.drop i = L.drop i ∧
    Row wr base (.slice ab k cp) M ∧ w.grownBy wr row) (fun _ t _ => k - (RowKit.intOf t).toNat)
  case atStart => exact ⟨m, 0, L, rfl, rfl, hmI, by omega, HK (), HRL.out, by simp [nv], rfl, HA.out, World.grownBy.refl _ _⟩
  case round =>
    obtain ⟨c, i, M, rfl, rfl, hc, hi, hM, hr, hv, hd, hR, hg⟩ := hrel
    have HR : Hid (∀ x ∈ M, x < B32) := hr
    have HV : Hid (nv B32 (M.take i) + c * B32 ^ i = nv B32 (L.take i) * y + m) := hv
    have HD : Hid (M.drop i = L.drop i) := hd
    have HBk : Hid (Row wr base (.slice ab k cp) M) := hR
    have HG : Hid (w.grownBy wr row) := hg
    have HM : Unit → M.length = k := fun _ => hM
    by_cases hi1 : i < k
    · obtain ⟨g, rfl, hcp⟩ : ∃ g, ab = some ⟨g, 0, none⟩ ∧ k ≤ cp := by
        rcases hR.cases with ⟨_, e⟩ | ⟨g, c, e, _, hc⟩
        · rw [e] at hM; simp at hM; omega
        · obtain ⟨rfl, _, rfl⟩ := Value.slice.inj e
          exact ⟨g, rfl, by omega⟩
      have hcell := Row.cell (by rw [hM]; exact hR) i (by omega)
      rw [drop_at hd] at hcell
      have hcell' : wr.cell? ⟨g, i, none⟩ = some (.int .u32 ((L[i]?.getD 0 : Nat) : Int)) := hcell
      have hfr := hR.frozen i
      have rx : L[i]?.getD 0 < 4294967296 := d4_rng HRL.out i
      have SL : Hid (nv B32 (L.take (i + 1)) = nv B32 (L.take i) + L[i]?.getD 0 * B32 ^ i) := nv_take_succ B32 L i
      clear hr hv hd hR hg hcell hM
      generalize L[i]?.getD 0 = x at *
      have hxI : (x : Int) ≤ 4294967295 := by omega
      have hm1 := mul_lt32 (x := x) (y := y) rx hy
      obtain ⟨P, hP⟩ : ∃ P, x * y = P := ⟨_, rfl⟩
      have HP : Unit → x * y = P := fun _ => hP
      have hPI : (x : Int) * (y : Int) = (P : Int) := by rw [← hP]; simp
      rw [hP] at hm1
      have hw1 : IntKind.u64.wrap ((x : Int) * (y : Int)) = (P : Int) := by rw [hPI, IntKind.wrap_u64]; omega
      have hw2 : IntKind.u64.wrap ((c : Int) + (P : Int)) = (c : Int) + P := by rw [IntKind.wrap_u64]; omega
      have hw5 : IntKind.u64.wrap (y : Int) = (y : Int) := by rw [IntKind.wrap_u64]; omega
      have hw7 : IntKind.u64.wrap (x : Int) = (x : Int) := by rw [IntKind.wrap_u64]; omega
      have hik : (i : Int) < k := by omega
      clear hP rx
      go_wp2_with fail
      go_roundw
      case rel =>
        have hr1 : (c + P) % 4294967296 < B32 := Nat.mod_lt _ (by decide)
        refine ⟨(c + P) / 4294967296, i + 1, M.set i ((c + P) % 4294967296), num_eq (by omega), rfl, by omega, by omega, by simp [HM ()], set_rng HR.out hr1, ?_, take_step HD.out, ?_, ?_⟩
        · rw [SL.out, Nat.pow_succ, ← HP ()]
          exact raise_digit _ _ _ _ _ _ _ _ HV.out (nv_take_set B32 M i _ (by rw [HM ()]; omega))
        · have e := HBk.out.set i ((c + P) % 4294967296)
          rw [show ((c : Int) + P) % 4294967296 = (((c + P) % 4294967296 : Nat) : Int) by omega]
          exact e
        · have e : row = some g := (HRW ()).symm
          rw [e]
          rw [e] at HG
          exact grownBy_trans HG.out (grownBy_setCell _ _ _ _)
      case measure => simp [RowKit.intOf]; omega
    · obtain rfl : i = k := by omega
      have hvv : nv B32 M + c * B32 ^ i = nv B32 L * y + m := by
        have := HV.out
        rwa [nv_take_all B32 M i (by rw [hM]; exact Nat.le_refl _), nv_take_all B32 L i (by rw [HK ()]; exact Nat.le_refl _)] at this
      have HVV : Unit → nv B32 M + c * B32 ^ i = nv B32 L * y + m := fun _ => hvv
      clear hr hv hd hR hg hvv
      by_cases hc0 : c = 0
      · subst hc0
        go_wp2_with fail
        go_ret
        exact ⟨_, M, rfl, HBk.out, HR.out, by have := HVV (); simpa using this, by omega, .inl (HRW ()), HG.out⟩
      · have hcp : (0 : Int) < c := by omega
        have hw : IntKind.u32.wrap (c : Int) = (c : Int) := by rw [IntKind.wrap_u32]; omega
        have hsz := HG.out.size
        have HR1 : Hid (Row (wr.alloc (.cells #[.int .u32 (c : Int)] 55)) base (.slice ab i cp) M) := Row.kept HBk.out (World.grownBy_alloc _ _ none) (by cases (Value.slice ab i cp).ownBlock <;> simp)
        go_wp2_with (at_builtin; refine wpList_append_digit rfl _ _ rfl base (.slice ab i cp) M c rfl HR1.out (by rw [hM]; omega) (by simp; omega) ⟨wr.heap.size, 0, none⟩ rfl (by simp) ?_)
        intro v' w' hR' hg' ho'
        have HF : Hid (Row w' base v' (M ++ [c]) ∧ (v'.ownBlock = row ∨ ∃ g, v'.ownBlock = some g ∧ w.heap.size ≤ g) ∧ w.grownBy w' row) := (by
          refine ⟨hR', ?_, grownBy_trans HG.out (grownBy_trans (World.grownBy_alloc _ _ _) (by rw [← HRW ()]; exact hg'))⟩
          rcases ho' with e | e
          · exact .inl (e.trans (HRW ()))
          · exact .inr ⟨_, e, by omega⟩)
        clear hR' hg' ho'
        go_wp2_with fail
        go_ret
        obtain ⟨f1, f2, f3⟩ := HF.out
        refine ⟨_, M ++ [c], rfl, f1, fun x hx => ?_, ?_, by simp [hM], f2, f3⟩
        · rcases List.mem_append.1 hx with h | h
          · exact HR.out x h
          · simp at h; subst h; simp only [B32]; omega
        · rw [nv_append, hM, ← HVV ()]
          simp [nv]
          rw [Nat.mul_comm]
end Go.Proofs.YtmgbkcfocbbofabGreatDoor
