/-
  The program's Conj.
-/
import Derived.Test.YthldipnfaiobaabGreatDoorTld
namespace Go.Proofs.YthldipnfaiobaabGreatDoor
open Go.RowKit Go.Lib Go.Sort
set_option linter.unusedVariables false
set_option linter.unusedSimpArgs false
set_option maxHeartbeats 1600000
set_option maxRecDepth 1000000
theorem checked_two (w : World) (v u : Value) (L B : List Int) (h : Ints w v L) (hu : Ints w u B) (hl : L.length ≤ 1000000000000) (hl2 : B.length ≤ 1000000000000) :
    Calls Tryz.prog 20 #[.slice (some ⟨w.heap.size, 0, none⟩) 2 2] (w.alloc (.cells #[v, u] 22)) fun e w' => e = .returned (.int .i64 (chk [L, B])) ∧ w.grownBy w' none := by
  refine (checked_any _ _ [L, B] (intsL2 h hu) (by simp) (by intro M hM; simp at hM; rcases hM with rfl | rfl <;> assumption)).mono ?_
  rintro e w' ⟨rfl, rfl⟩
  exact ⟨rfl, grow1 _ _⟩
theorem inv_any {B : List Int} (h : B.any noL = false) : (inv B).any noL = false := by
  rw [List.any_eq_false] at h ⊢
  intro x hx
  rw [← inv_eq] at hx
  obtain ⟨y, hy, rfl⟩ := List.mem_map.1 hx
  have h1 := noL_no (by simpa using h y (by simpa using hy))
  simp [noL]
  omega
theorem PdQ.told {w w2 : World} {M : List Int} {n : Nat} {v2 : Value} (h : PdQ w M n (.returned v2) w2) (hn : n ≤ 1000000) (hM : M.length ≤ 1000000000) :
    (∃ ab k c, v2 = .slice ab k c) ∧ w.grownBy w2 none ∧ Calls Tryz.prog 22 #[v2] w2 fun e w' => Told1 w2 e w' (tldE (sh M)) (tldL (sh M)) := by
  obtain ⟨v', Ps, e, hP, hf, hlen, heach, hG⟩ := h
  cases e
  have hfl : Ps.flatten.length ≤ 1000000000 := by
    rw [hf]
    have h1 := sh_len M
    omega
  have HT := ptold_any w2 v2 Ps hP.intsL (by omega) hfl
  rw [hf] at HT
  obtain ⟨ab, c, rfl⟩ := hP.form
  exact ⟨⟨ab, _, c, rfl⟩, hG, HT⟩
def cjE (L B : List Int) : Int := if chk [L, B] = 0 then tldE (sh (inv B ++ L ++ B)) else chk [L, B]
def cjL (L B : List Int) : List Int := if chk [L, B] = 0 then tldL (sh (inv B ++ L ++ B)) else []
theorem conj_in (w : World) (v u x : Value) (L B : List Int) (hx : Ints w x (inv B)) (hv : Ints w v L) (hu : Ints w u B) (hL : L.any noL = false ∧ L.length ≤ 4096) (hB : B.any noL = false ∧ B.length ≤ 4096) :
    Calls Tryz.prog 21 #[.slice (some ⟨w.heap.size, 0, none⟩) 3 3] (w.alloc (.cells #[x, v, u] 22)) fun e w' => PdQ (w.alloc (.cells #[x, v, u] 22)) (inv B ++ L ++ B) 3 e w' := by
  have hi : (inv B).length = B.length := by rw [← inv_eq]; simp
  have := product_any _ _ [inv B, L, B] (intsL3 hx hv hu) (by simp) (by intro M hM; simp at hM; rcases hM with rfl | rfl | rfl <;> omega) (by intro M hM; simp at hM; rcases hM with rfl | rfl | rfl; exact inv_any hB.1; exact hL.1; exact hB.1)
  have e : [inv B, L, B].flatten = inv B ++ L ++ B := by simp
  rw [e] at this
  exact this
theorem conj_top (w : World) (v u : Value) (L B : List Int) (h : Ints w v L) (hu : Ints w u B) (hl : L.length ≤ 1000000000000) (hl2 : B.length ≤ 1000000000000) :
    Calls Tryz.prog 12 #[v, u] w fun e w' => Told1 w e w' (cjE L B) (cjL L B) := by
  have HC := checked_two w v u L B h hu hl hl2
  have HI : Hid (∀ w1, w.grownBy w1 none → Ints w1 v L ∧ Ints w1 u B) := fun w1 hg => ⟨h.kept hg, hu.kept hg⟩
  have HOk : Hid (chk [L, B] = 0 → (L.any noL = false ∧ L.length ≤ 4096) ∧ (B.any noL = false ∧ B.length ≤ 4096)) := fun h0 => ⟨chk_ok h0 L (by simp), chk_ok h0 B (by simp)⟩
  obtain ⟨ab, c, rfl, _⟩ := h.reads
  obtain ⟨ub, uc, rfl, _⟩ := hu.reads
  clear h hu hl hl2
  obtain ⟨n, hn⟩ : ∃ n, L.length = n := ⟨_, rfl⟩
  obtain ⟨k, hk⟩ : ∃ k, B.length = k := ⟨_, rfl⟩
  have HN : Unit → L.length = n ∧ B.length = k := fun _ => ⟨hn, hk⟩
  rw [hn, hk] at HC HI ⊢
  clear hn hk
  obtain ⟨r, hr⟩ : ∃ r, chk [L, B] = r := ⟨_, rfl⟩
  have HE : Hid (chk [L, B] = r) := hr
  rw [hr] at HC HOk
  clear hr
  by_cases h0 : r = 0
  · subst h0
    have HO2 : Hid ((L.any noL = false ∧ L.length ≤ 4096) ∧ (B.any noL = false ∧ B.length ≤ 4096)) := HOk.out rfl
    clear HOk
    go_enter Tryz.func12, Tryz.ntmps12
    go_wp2_with fail
    refine HC.mono ?_
    rintro e w1 ⟨rfl, hg1⟩
    have HG1 : Hid (w.grownBy w1 none) := hg1
    clear hg1 HC
    have HV := inverse_any w1 _ B (HI.out w1 HG1.out).2 (by have := HO2.out.2.2; omega) HO2.out.2.1
    rw [(HN ()).2] at HV
    go_wp2_with fail
    refine HV.mono ?_
    rintro e w2 ⟨rfl, hO, hg2⟩
    have HG2 : Hid (w.grownBy w2 none) := grownBy_trans HG1.out hg2
    have HP : Hid (Calls Tryz.prog 21 #[.slice (some ⟨w2.heap.size, 0, none⟩) 3 3] (w2.alloc (.cells #[.slice (some ⟨w1.heap.size, 0, none⟩) k k, .slice ab n c, .slice ub k uc] 22)) fun e w' => PdQ (w2.alloc (.cells #[.slice (some ⟨w1.heap.size, 0, none⟩) k k, .slice ab n c, .slice ub k uc] 22)) (inv B ++ L ++ B) 3 e w') := conj_in w2 _ _ _ L B hO.ints (HI.out w2 HG2.out).1 (HI.out w2 HG2.out).2 HO2.out.1 HO2.out.2
    clear hO hg2 HV
    go_wp2_with fail
    refine HP.out.mono ?_
    intro e w3 hQ
    have hQ0 := hQ
    obtain ⟨v3, _, rfl, _⟩ := hQ0
    have hi : (inv B).length = B.length := by rw [← inv_eq]; simp
    obtain ⟨⟨vb, vk, vc, rfl⟩, hG3, hT⟩ := hQ.told (by omega) (by have h1 := HO2.out.1.2; have h2 := HO2.out.2.2; simp [hi]; omega)
    have HG3 : Hid (w.grownBy w3 none) := grownBy_trans HG2.out (grownBy_trans (grow1 _ _) hG3)
    have HT : Hid (Calls Tryz.prog 22 #[.slice vb vk vc] w3 fun e w' => Told1 w3 e w' (tldE (sh (inv B ++ L ++ B))) (tldL (sh (inv B ++ L ++ B)))) := hT
    clear hQ hG3 hT hi HP
    go_wp2_with fail
    refine HT.out.mono ?_
    rintro e w4 ⟨hG4, v4, rfl, hF4⟩
    have HF : Hid (Told1 w (.returned (.tuple #[v4, .int .i64 (tldE (sh (inv B ++ L ++ B)))])) w4 (cjE L B) (cjL L B)) := by
      refine ⟨grownBy_trans HG3.out hG4, v4, ?_, ?_⟩
      · unfold cjE
        rw [if_pos HE.out]
      · unfold cjL
        rw [if_pos HE.out]
        exact hF4.mono HG3.out.size
    clear hG4 hF4
    generalize tldE (sh (inv B ++ L ++ B)) = y at *
    go_wp2_with fail
    go_ret2
    exact HF.out
  · have hb : (r != 0) = true := by simpa using h0
    have HR : Hid (r ≠ 0) := h0
    clear h0
    go_enter Tryz.func12, Tryz.ntmps12
    go_wp2_with fail
    refine HC.mono ?_
    rintro e w1 ⟨rfl, hg1⟩
    have HG1 : Hid (w.grownBy w1 none) := hg1
    clear hg1
    go_wp2_with fail
    go_ret2
    unfold cjE cjL
    rw [HE.out, if_neg HR.out, if_neg HR.out]
    exact ⟨HG1.out, _, rfl, Fr.nil _ _⟩
end Go.Proofs.YthldipnfaiobaabGreatDoor
