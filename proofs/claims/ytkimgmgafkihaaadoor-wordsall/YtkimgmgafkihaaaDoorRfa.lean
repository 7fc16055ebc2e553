/-
  The document's Letter, Letters, Check, Same, Joined, Inverse; the law's num.
-/
import Derived.Test.YtkimgmgafkihaaaDoorApp
namespace Go.Proofs.YtkimgmgafkihaaaDoor
open Go.RowKit Go.Lib Go.Sort
set_option linter.unusedVariables false
set_option maxHeartbeats 1600000
set_option maxRecDepth 1000000
theorem num_any (n : Int) (w : World) :
    Calls Tryd.prog 6 #[.int .i64 n] w fun e w' => e = .returned (.int .i64 n) ∧ w' = w := by
  go_enter Tryd.func6, Tryd.ntmps6
  go_wp2
  go_ret
  exact ⟨rfl, rfl⟩
theorem same_prefix {A B : List Int} (hl : A.length = B.length) (h : ∀ j, j < A.length → A[j]?.getD 0 = B[j]?.getD 0) : A = B := by
  apply List.ext_getElem hl
  intro i h1 h2
  have := h i h1
  rwa [List.getElem?_eq_getElem h1, List.getElem?_eq_getElem h2] at this
theorem rSame_any (w : World) (u v : Value) (A B : List Int) (hA : Ints w u A) (hB : Ints w v B) (hl : A.length ≤ 1000000000000) (hl2 : B.length ≤ 1000000000000) :
    Calls Tryd.prog 9 #[u, v] w fun e w' => e = .returned (.bool (decide (A = B))) ∧ w.grownBy w' none := by
  obtain ⟨ab, c, rfl, HR⟩ := hA.reads
  obtain ⟨ab', c', rfl, HR'⟩ := hB.reads
  by_cases hab : A.length = B.length
  · have HR1 : Hid (∀ w', w.grownBy w' none → ∀ i, i < A.length → ∃ B off, ab = some ⟨B, off, none⟩ ∧ w'.cell? ⟨B, off + i, none⟩ = some (.int .i64 (A[i]?.getD 0)) ∧ A.length ≤ c) := HR
    have HR2 : Hid (∀ w', w.grownBy w' none → ∀ i, i < B.length → ∃ B' off, ab' = some ⟨B', off, none⟩ ∧ w'.cell? ⟨B', off + i, none⟩ = some (.int .i64 (B[i]?.getD 0)) ∧ B.length ≤ c') := HR'
    obtain ⟨n, hn⟩ : ∃ n, A.length = n := ⟨_, rfl⟩
    have HN : Unit → A.length = n ∧ B.length = n := fun _ => ⟨hn, hab ▸ hn⟩
    have hnI : (n : Int) ≤ 1000000000000 := by omega
    rw [hn] at HR1 hab ⊢
    rw [← hab] at HR2 ⊢
    clear HR HR' hA hB hl hl2 hn hab
    go_enter Tryd.func9, Tryd.ntmps9
    go_wp2
    go_loopw [5] (fun s wr => ∃ i : Nat, i ≤ n ∧ s = .int .i64 i ∧ (∀ j, j < i → A[j]?.getD 0 = B[j]?.getD 0) ∧ w.grownBy wr none) (fun s _ => match s with | .int _ i => n - i.toNat | _ => 0)
    case atStart => exact ⟨0, by omega, rfl, fun j hj => by omega, grow0 _⟩
    case round =>
      obtain ⟨i, hi, rfl, hp, hg⟩ := hrel
      have HP : Hid (∀ j, j < i → A[j]?.getD 0 = B[j]?.getD 0) := hp
      have HG : Hid (w.grownBy wr none) := hg
      clear hp hg
      by_cases hlt : i < n
      · obtain ⟨B1, off, rfl, hc, hnc⟩ := HR1.out wr HG.out i hlt
        obtain ⟨B2, off2, rfl, hc2, hnc2⟩ := HR2.out wr HG.out i hlt
        have hltI : (i : Int) < n := by omega
        have HS : Hid (∀ x y, A[i]?.getD 0 = x → B[i]?.getD 0 = y → (x = y → ∀ j, j < i + 1 → A[j]?.getD 0 = B[j]?.getD 0) ∧ (x ≠ y → A ≠ B)) := by
          rintro x y rfl rfl
          refine ⟨fun e j hj => ?_, fun e h => e (by rw [h])⟩
          rcases Nat.lt_or_ge j i with h | h
          · exact HP.out j h
          · obtain rfl : j = i := by omega
            exact e
        have HS2 : Hid (∃ x y, A[i]?.getD 0 = x ∧ B[i]?.getD 0 = y) := ⟨_, _, rfl, rfl⟩
        obtain ⟨x, y, hx, hy⟩ := HS2.out
        have HS3 : Hid ((x = y → ∀ j, j < i + 1 → A[j]?.getD 0 = B[j]?.getD 0) ∧ (x ≠ y → A ≠ B)) := HS.out x y hx hy
        rw [hx] at hc
        rw [hy] at hc2
        clear hx hy HS2
        by_cases hxy : x = y
        · subst hxy
          go_wp2
          go_region
          all_goals go_wp2
          all_goals go_roundw
          case rel => exact ⟨i + 1, by omega, by simp, HS3.out.1 trivial, grow_drew HG.out⟩
          case measure => simp; omega
        · have hb : (x != y) = true := by simpa using hxy
          have HXY : Hid (x ≠ y) := hxy
          clear hxy
          go_wp2
          go_region
          all_goals go_wp2
          all_goals go_ret
          all_goals exact ⟨ret_bool (decide_eq_false (HS3.out.2 HXY.out)).symm, grow_drew HG.out⟩
      · have e : i = n := by omega
        subst e
        go_wp2
        go_ret
        exact ⟨ret_bool (decide_eq_true (same_prefix (by rw [(HN ()).1, (HN ()).2]) (fun j hj => HP.out j (by rw [(HN ()).1] at hj; exact hj)))).symm, HG.out⟩
  · have HN : Unit → ¬ A = B := fun _ h => hab (by rw [h])
    obtain ⟨p, hp⟩ : ∃ p, A.length = p := ⟨_, rfl⟩
    obtain ⟨q, hq⟩ : ∃ q, B.length = q := ⟨_, rfl⟩
    rw [hp, hq] at hab ⊢
    have hb : ((p : Int) != (q : Int)) = true := by simpa using (show (p : Int) ≠ q by omega)
    clear HR HR' hA hB hl hl2 hp hq hab
    go_enter Tryd.func9, Tryd.ntmps9
    go_wp2
    go_ret
    exact ⟨ret_bool (decide_eq_false (HN ())).symm, grow0 _⟩
def inv (L : List Int) : List Int := (L.map (fun k => -k)).reverse
theorem inv_len (L : List Int) : (inv L).length = L.length := by simp [inv]
theorem joined_snoc (Ls : List (List Int)) (i : Nat) (h : i < Ls.length) : (Ls.take (i + 1)).flatten = (Ls.take i).flatten ++ (Ls[i]?.getD []) := by
  rw [List.take_succ_eq_append_getElem h, List.flatten_append, List.getElem?_eq_getElem h]
  congr 1
  simp
theorem flatten_take_le (Ls : List (List Int)) (i : Nat) (h : i < Ls.length) : (Ls.take i).flatten.length + (Ls[i]?.getD []).length ≤ Ls.flatten.length := by
  have e : Ls.flatten = (Ls.take (i + 1)).flatten ++ (Ls.drop (i + 1)).flatten := by rw [← List.flatten_append, List.take_append_drop]
  rw [e, joined_snoc Ls i h, List.length_append, List.length_append]
  omega
end Go.Proofs.YtkimgmgafkihaaaDoor
