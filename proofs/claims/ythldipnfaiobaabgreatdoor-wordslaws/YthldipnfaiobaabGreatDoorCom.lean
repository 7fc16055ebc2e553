/-
  slices.Equal over int; the program's Commute.
-/
import Derived.Test.YthldipnfaiobaabGreatDoorCnj
namespace Go.Proofs.YthldipnfaiobaabGreatDoor
open Go.RowKit Go.Lib Go.Sort
set_option linter.unusedVariables false
set_option linter.unusedSimpArgs false
set_option maxHeartbeats 1600000
set_option maxRecDepth 1000000
theorem equal_any (w : World) (u v : Value) (A B : List Int) (hA : Ints w u A) (hB : Ints w v B) (hl : A.length ≤ 1000000000000) (hl2 : B.length ≤ 1000000000000) :
    Calls Tryz.prog 50 #[u, v] w fun e w' => e = .returned (.bool (decide (A = B))) ∧ w.grownBy w' none := by
  obtain ⟨ab, c, rfl, HR⟩ := hA.reads
  obtain ⟨ab', c', rfl, HR'⟩ := hB.reads
  by_cases hab : A.length = B.length
  · have HR1 : Hid (∀ w', w.grownBy w' none → ∀ i, i < A.length → ∃ B off, ab = some ⟨B, off, none⟩ ∧ w'.cell? ⟨B, off + i, none⟩ = some (.int .i64 (A[i]?.getD 0)) ∧ A.length ≤ c) := HR
    have HR2 : Hid (∀ w', w.grownBy w' none → ∀ i, i < B.length → ∃ B' off, ab' = some ⟨B', off, none⟩ ∧ w'.cell? ⟨B', off + i, none⟩ = some (.int .i64 (B[i]?.getD 0)) ∧ B.length ≤ c') := HR'
    obtain ⟨n, hn⟩ : ∃ n, A.length = n := ⟨_, rfl⟩
    have HN : Unit → A.length = n ∧ B.length = n := fun _ => ⟨hn, hab ▸ hn⟩
    have hnI : (n : Int) ≤ 1000000000000 := by omega
    rw [hn] at HR1 hab ⊢
    rw [← hab] at HR2 ⊢
    clear HR HR' hA hB hl hl2 hn hab
    go_enter Tryz.func50, Tryz.ntmps50
    go_wp2
    go_loopw [13] (fun s wr => ∃ i : Nat, i ≤ n ∧ s = .int .i64 i ∧ (∀ j, j < i → A[j]?.getD 0 = B[j]?.getD 0) ∧ w.grownBy wr none) (fun s _ => match s with | .int _ i => n - i.toNat | _ => 0)
    case atStart => exact ⟨0, by omega, rfl, fun j hj => by omega, grow0 _⟩
    case round =>
      obtain ⟨i, hi, rfl, hp, hg⟩ := hrel
      have HP : Hid (∀ j, j < i → A[j]?.getD 0 = B[j]?.getD 0) := hp
      have HG : Hid (w.grownBy wr none) := hg
      clear hp hg
      by_cases hlt : i < n
      · obtain ⟨B1, off, rfl, hc, hnc⟩ := HR1.out wr HG.out i hlt
        obtain ⟨B2, off2, rfl, hc2, hnc2⟩ := HR2.out wr HG.out i hlt
        have hltI : (i : Int) < n := by omega
        have HS : Hid (∀ x y, A[i]?.getD 0 = x → B[i]?.getD 0 = y → (x = y → ∀ j, j < i + 1 → A[j]?.getD 0 = B[j]?.getD 0) ∧ (x ≠ y → A ≠ B)) := by
          rintro x y rfl rfl
          refine ⟨fun e j hj => ?_, fun e h => e (by rw [h])⟩
          rcases Nat.lt_or_ge j i with h | h
          · exact HP.out j h
          · obtain rfl : j = i := by omega
            exact e
        have HS2 : Hid (∃ x y, A[i]?.getD 0 = x ∧ B[i]?.getD 0 = y) := ⟨_, _, rfl, rfl⟩
        obtain ⟨x, y, hx, hy⟩ := HS2.out
        have HS3 : Hid ((x = y → ∀ j, j < i + 1 → A[j]?.getD 0 = B[j]?.getD 0) ∧ (x ≠ y → A ≠ B)) := HS.out x y hx hy
        rw [hx] at hc
        rw [hy] at hc2
        clear hx hy HS2
        by_cases hxy : x = y
        · subst hxy
          go_wp2
          go_region
          all_goals go_wp2
          all_goals go_roundw
          case rel => exact ⟨i + 1, by omega, by simp, HS3.out.1 trivial, grow_drew HG.out⟩
          case measure => simp; omega
        · have hb : (x != y) = true := by simpa using hxy
          have HXY : Hid (x ≠ y) := hxy
          clear hxy
          go_wp2
          go_region
          all_goals go_wp2
          all_goals go_ret
          all_goals exact ⟨ret_bool (decide_eq_false (HS3.out.2 HXY.out)).symm, grow_drew HG.out⟩
      · have e : i = n := by omega
        subst e
        go_wp2
        go_ret
        exact ⟨ret_bool (decide_eq_true (same_prefix (by rw [(HN ()).1, (HN ()).2]) (fun j hj => HP.out j (by rw [(HN ()).1] at hj; exact hj)))).symm, HG.out⟩
  · have HN : Unit → ¬ A = B := fun _ h => hab (by rw [h])
    obtain ⟨p, hp⟩ : ∃ p, A.length = p := ⟨_, rfl⟩
    obtain ⟨q, hq⟩ : ∃ q, B.length = q := ⟨_, rfl⟩
    rw [hp, hq] at hab ⊢
    have hb : ((p : Int) != (q : Int)) = true := by simpa using (show (p : Int) ≠ q by omega)
    clear HR HR' hA hB hl hl2 hp hq hab
    go_enter Tryz.func50, Tryz.ntmps50
    go_wp2
    go_ret
    exact ⟨ret_bool (decide_eq_false (HN ())).symm, grow0 _⟩
def PlQ (w : World) (M : List Int) (e : Ending) (w' : World) : Prop :=
  ∃ ab k c, e = .returned (.slice ab k c) ∧ w.grownBy w' none ∧ Calls Tryz.prog 42 #[.slice ab k c] w' fun e w'' => ∃ v', e = .returned v' ∧ Own w'' w'.heap.size v' (sh M) ∧ w'.grownBy w'' none
theorem prd_two (w : World) (v u : Value) (L B : List Int) (hv : Ints w v L) (hu : Ints w u B) (hL : L.any noL = false ∧ L.length ≤ 4096) (hB : B.any noL = false ∧ B.length ≤ 4096) :
    Calls Tryz.prog 21 #[.slice (some ⟨w.heap.size, 0, none⟩) 2 2] (w.alloc (.cells #[v, u] 22)) fun e w' => PlQ w (L ++ B) e w' := by
  refine (product_any _ _ [L, B] (intsL2 hv hu) (by simp) (by intro M hM; simp at hM; rcases hM with rfl | rfl <;> omega) (by intro M hM; simp at hM; rcases hM with rfl | rfl; exact hL.1; exact hB.1)).mono ?_
  rintro e w2 ⟨v2, Ps, rfl, hP, hf, hlen, heach, hG⟩
  have ef : [L, B].flatten = L ++ B := by simp
  rw [ef] at hf
  have hfl : Ps.flatten.length ≤ 1000000000 := by
    rw [hf]
    have h1 := sh_len (L ++ B)
    have h2 := hL.2
    have h3 := hB.2
    rw [List.length_append] at h1
    omega
  have hl2 : Ps.length ≤ 2 := by simpa using hlen
  have HT := letters_any w2 v2 Ps hP.intsL (by omega) hfl
  rw [hf] at HT
  obtain ⟨ab, c, rfl⟩ := hP.form
  exact ⟨ab, _, c, rfl, grownBy_trans (grow1 _ _) hG, HT⟩
def cmB (L B : List Int) : Bool := decide (chk [L, B] = 0) && decide (sh (L ++ B) = sh (B ++ L))
theorem commute_top (w : World) (v u : Value) (L B : List Int) (h : Ints w v L) (hu : Ints w u B) (hl : L.length ≤ 1000000000000) (hl2 : B.length ≤ 1000000000000) :
    Calls Tryz.prog 29 #[v, u] w fun e w' => e = .returned (.tuple #[.bool (cmB L B), .int .i64 (chk [L, B])]) ∧ w.grownBy w' none := by
  have HC := checked_two w v u L B h hu hl hl2
  have HI : Hid (∀ w1, w.grownBy w1 none → Ints w1 v L ∧ Ints w1 u B) := fun w1 hg => ⟨h.kept hg, hu.kept hg⟩
  have HOk : Hid (chk [L, B] = 0 → (L.any noL = false ∧ L.length ≤ 4096) ∧ (B.any noL = false ∧ B.length ≤ 4096)) := fun h0 => ⟨chk_ok h0 L (by simp), chk_ok h0 B (by simp)⟩
  obtain ⟨ab, c, rfl, _⟩ := h.reads
  obtain ⟨ub, uc, rfl, _⟩ := hu.reads
  clear h hu hl hl2
  obtain ⟨n, hn⟩ : ∃ n, L.length = n := ⟨_, rfl⟩
  obtain ⟨k, hk⟩ : ∃ k, B.length = k := ⟨_, rfl⟩
  rw [hn, hk] at HC HI ⊢
  clear hn hk
  obtain ⟨b, hb0⟩ : ∃ b, cmB L B = b := ⟨_, rfl⟩
  have HB : Hid (cmB L B = b) := hb0
  rw [hb0]
  clear hb0
  obtain ⟨r, hr⟩ : ∃ r, chk [L, B] = r := ⟨_, rfl⟩
  have HE : Hid (chk [L, B] = r) := hr
  rw [hr] at HC HOk ⊢
  clear hr
  by_cases h0 : r = 0
  · subst h0
    have HO2 : Hid ((L.any noL = false ∧ L.length ≤ 4096) ∧ (B.any noL = false ∧ B.length ≤ 4096)) := HOk.out rfl
    clear HOk
    go_enter Tryz.func29, Tryz.ntmps29
    go_wp2_with fail
    refine HC.mono ?_
    rintro e w1 ⟨rfl, hg1⟩
    have HG1 : Hid (w.grownBy w1 none) := hg1
    clear hg1 HC
    go_wp2_with fail
    refine (prd_two w1 _ _ L B (HI.out w1 HG1.out).1 (HI.out w1 HG1.out).2 HO2.out.1 HO2.out.2).mono ?_
    rintro e w2 ⟨pb, pk, pc, rfl, hg2, hl2⟩
    have HG2 : Hid (w.grownBy w2 none) := grownBy_trans HG1.out hg2
    have HL2 : Hid (Calls Tryz.prog 42 #[.slice pb pk pc] w2 fun e w'' => ∃ v', e = .returned v' ∧ Own w'' w2.heap.size v' (sh (L ++ B)) ∧ w2.grownBy w'' none) := hl2
    clear hg2 hl2
    go_wp2_with fail
    refine HL2.out.mono ?_
    rintro e w3 ⟨v3, rfl, hO3, hg3⟩
    have HI3 : Hid (∀ w', w3.grownBy w' none → Ints w' v3 (sh (L ++ B))) := fun w' hg => hO3.ints.kept hg
    have HG3 : Hid (w.grownBy w3 none) := grownBy_trans HG2.out hg3
    obtain ⟨xb, xc, rfl⟩ := hO3.form
    clear hO3 hg3 HL2
    obtain ⟨xk, hxk⟩ : ∃ xk, (sh (L ++ B)).length = xk := ⟨_, rfl⟩
    rw [hxk] at HI3 ⊢
    clear hxk
    go_wp2_with fail
    refine (prd_two w3 _ _ B L (HI.out w3 HG3.out).2 (HI.out w3 HG3.out).1 HO2.out.2 HO2.out.1).mono ?_
    rintro e w4 ⟨qb, qk, qc, rfl, hg4, hl4⟩
    have HG34 : Hid (w3.grownBy w4 none) := hg4
    have HL4 : Hid (Calls Tryz.prog 42 #[.slice qb qk qc] w4 fun e w'' => ∃ v', e = .returned v' ∧ Own w'' w4.heap.size v' (sh (B ++ L)) ∧ w4.grownBy w'' none) := hl4
    clear hg4 hl4
    go_wp2_with fail
    refine HL4.out.mono ?_
    rintro e w5 ⟨v5, rfl, hO5, hg5⟩
    have HG35 : Hid (w3.grownBy w5 none) := grownBy_trans HG34.out hg5
    have HS1 : Hid ((sh (L ++ B)).length ≤ 1000000000000 ∧ (sh (B ++ L)).length ≤ 1000000000000) := by
      have h1 := sh_len (L ++ B)
      have h2 := sh_len (B ++ L)
      have h3 := HO2.out.1.2
      have h4 := HO2.out.2.2
      rw [List.length_append] at h1 h2
      exact ⟨by omega, by omega⟩
    have HEq := equal_any w5 _ v5 (sh (L ++ B)) (sh (B ++ L)) (HI3.out w5 HG35.out) hO5.ints HS1.out.1 HS1.out.2
    have hbe : decide (sh (L ++ B) = sh (B ++ L)) = b := by
      have := HB.out
      unfold cmB at this
      rw [HE.out] at this
      simpa using this
    rw [hbe] at HEq
    obtain ⟨yb, yc, rfl⟩ := hO5.form
    have HEq2 : Hid (Calls Tryz.prog 50 #[.slice xb xk xc, .slice yb (sh (B ++ L)).length yc] w5 fun e w' => e = .returned (.bool b) ∧ w5.grownBy w' none) := HEq
    clear hO5 hg5 HL4 hbe HEq HS1
    obtain ⟨yk, hyk⟩ : ∃ yk, (sh (B ++ L)).length = yk := ⟨_, rfl⟩
    rw [hyk] at HEq2 ⊢
    clear hyk
    go_wp2_with fail
    refine HEq2.out.mono ?_
    rintro e w6 ⟨rfl, hg6⟩
    have HG6 : Hid (w.grownBy w6 none) := grownBy_trans HG3.out (grownBy_trans HG35.out hg6)
    clear hg6
    go_wp2_with fail
    go_ret2
    exact ⟨rfl, HG6.out⟩
  · have hb : (r != 0) = true := by simpa using h0
    have hbf : b = false := by
      have := HB.out
      unfold cmB at this
      rw [← this, HE.out]
      simp [h0]
    subst hbf
    have HR : Hid (r ≠ 0) := h0
    clear h0
    go_enter Tryz.func29, Tryz.ntmps29
    go_wp2_with fail
    refine HC.mono ?_
    rintro e w1 ⟨rfl, hg1⟩
    have HG1 : Hid (w.grownBy w1 none) := hg1
    clear hg1
    go_wp2_with fail
    go_ret2
    exact ⟨rfl, HG1.out⟩
end Go.Proofs.YthldipnfaiobaabGreatDoor
