/-
  Letters and words: the program's noLetter, slices.IndexFunc, ContainsFunc, checked.
-/
import Derived.Test.YtkimgmgafkihaaaDoorIng
namespace Go.Proofs.YtkimgmgafkihaaaDoor
open Go.RowKit Go.Lib Go.Sort
set_option linter.unusedVariables false
set_option maxHeartbeats 1600000
set_option maxRecDepth 1000000
def noL (k : Int) : Bool := k == 0 || decide (k < -64) || decide (64 < k)
theorem noL_no {k : Int} (h : noL k = false) : k ≠ 0 ∧ -64 ≤ k ∧ k ≤ 64 := by
  simp [noL] at h
  omega
theorem noLetter_any (k : Int) (w : World) : Calls Tryd.prog 39 #[.int .i64 k] w fun e w' => e = .returned (.bool (noL k)) ∧ w' = w := by
  by_cases h0 : k = 0
  · subst h0
    go_enter Tryd.func39, Tryd.ntmps39
    go_wp2
    go_ret
    exact ⟨rfl, rfl⟩
  · have e0 : (k == 0) = false := by simpa using h0
    by_cases h1 : k < -64
    · go_enter Tryd.func39, Tryd.ntmps39
      go_wp2
      go_ret
      exact ⟨ret_bool (by simp [noL, h1]), rfl⟩
    · go_enter Tryd.func39, Tryd.ntmps39
      go_wp2
      go_ret
      exact ⟨ret_bool (by simp [noL, h0]; omega), rfl⟩
abbrev fnV (n : Nat) : Value := .func (.func n) #[] #[]
theorem indexFunc_any (w : World) (v : Value) (L : List Int) (h : Ints w v L) (hl : L.length ≤ 1000000000000) :
    Calls Tryd.prog 48 #[v, fnV 39] w fun e w' => ∃ r : Int, e = .returned (.int .i64 r) ∧ decide (0 ≤ r) = L.any noL ∧ w' = w := by
  obtain ⟨ab, c, rfl, HR⟩ := h.reads
  have HR1 : Hid (∀ i, i < L.length → ∃ B off, ab = some ⟨B, off, none⟩ ∧ w.cell? ⟨B, off + i, none⟩ = some (.int .i64 (L[i]?.getD 0)) ∧ L.length ≤ c) := fun i hi => HR w (grow0 w) i hi
  obtain ⟨n, hn⟩ : ∃ n, L.length = n := ⟨_, rfl⟩
  have HN : Unit → L.length = n := fun _ => hn
  have hnI : (n : Int) ≤ 1000000000000 := by omega
  rw [hn] at HR1 ⊢
  clear HR h hl hn
  go_enter Tryd.func48, Tryd.ntmps48
  go_wp2
  go_loopw [8] (fun s wr => ∃ i : Nat, i ≤ n ∧ s = .int .i64 i ∧ (L.take i).any noL = false ∧ wr = w) (fun s _ => match s with | .int _ i => n - i.toNat | _ => 0)
  case atStart => exact ⟨0, by omega, rfl, by simp, rfl⟩
  case round =>
    obtain ⟨i, hi, rfl, hp, rfl⟩ := hrel
    have HP : Hid ((L.take i).any noL = false) := hp
    clear hp
    by_cases hlt : i < n
    · obtain ⟨B, off, rfl, hc, hnc⟩ := HR1.out i hlt
      have hx : L[i]?.getD 0 = L[i]'(by rw [HN ()]; exact hlt) := by rw [List.getElem?_eq_getElem (by rw [HN ()]; exact hlt)]; rfl
      have HT : Hid ((L.take (i + 1)).any noL = noL (L[i]?.getD 0)) := by
        show (L.take (i + 1)).any noL = noL (L[i]?.getD 0)
        rw [List.take_succ_eq_append_getElem (by rw [HN ()]; exact hlt), List.any_append, HP.out, hx]
        simp
      have hltI : (i : Int) < n := by omega
      have HY : Hid (noL (L[i]?.getD 0) = true → L.any noL = true) := fun h => List.any_eq_true.2 ⟨_, List.getElem_mem (by rw [HN ()]; exact hlt), by rw [← hx]; exact h⟩
      clear hx
      generalize L[i]?.getD 0 = x at *
      cases hb : noL x with
      | true =>
        go_wp2_with (go_at_call 39; refine (noLetter_any x _).mono ?_; rw [hb]; rintro e w' ⟨rfl, rfl⟩)
        go_ret
        exact ⟨_, rfl, by rw [HY.out hb]; simp, rfl⟩
      | false =>
        go_wp2_with (go_at_call 39; refine (noLetter_any x _).mono ?_; rw [hb]; rintro e w' ⟨rfl, rfl⟩)
        go_roundw
        case rel => exact ⟨i + 1, by omega, by simp, by rw [HT.out]; exact hb, trivial⟩
        case measure => simp; omega
    · have e : i = n := by omega
      subst e
      go_wp2
      go_ret
      refine ⟨_, rfl, ?_, rfl⟩
      have := HP.out
      rw [← HN (), List.take_length] at this
      rw [this]
      simp
theorem containsFunc_any (w : World) (v : Value) (L : List Int) (h : Ints w v L) (hl : L.length ≤ 1000000000000) :
    Calls Tryd.prog 38 #[v, fnV 39] w fun e w' => e = .returned (.bool (L.any noL)) ∧ w' = w := by
  have HI := indexFunc_any w v L h hl
  clear h hl
  go_enter Tryd.func38, Tryd.ntmps38
  go_wp2_with fail
  refine HI.mono ?_
  rintro e w' ⟨r, rfl, hr, rfl⟩
  go_wp2_with fail
  go_ret
  exact ⟨rfl, rfl⟩
def chk (Ls : List (List Int)) : Int := if Ls.any (fun L => L.any noL) then 2 else if Ls.any (fun L => decide (4096 < L.length)) then 3 else 0
theorem chk_ok {Ls : List (List Int)} (h : chk Ls = 0) : ∀ L ∈ Ls, L.any noL = false ∧ L.length ≤ 4096 := by
  unfold chk at h
  split at h
  · omega
  · split at h
    · omega
    · rename_i h1 h2
      simp only [Bool.not_eq_true, List.any_eq_false] at h1 h2
      intro L hL
      have a := h1 L hL
      have b := h2 L hL
      simp at b
      exact ⟨by simpa using a, b⟩
theorem checked_any (w : World) (v : Value) (Ls : List (List Int)) (h : IntsL w v Ls) (hl : Ls.length ≤ 1000000000000) (hl2 : ∀ L ∈ Ls, L.length ≤ 1000000000000) :
    Calls Tryd.prog 25 #[v] w fun e w' => e = .returned (.int .i64 (chk Ls)) ∧ w' = w := by
  obtain ⟨ab, c, rfl, HR⟩ := h.reads
  have HR1 : Hid (∀ i, i < Ls.length → ∃ B off u, ab = some ⟨B, off, none⟩ ∧ w.cell? ⟨B, off + i, none⟩ = some u ∧ Ints w u (Ls[i]?.getD []) ∧ Ls.length ≤ c) := fun i hi => HR w (grow0 w) i hi
  have HL2 : Hid (∀ L ∈ Ls, L.length ≤ 1000000000000) := hl2
  obtain ⟨n, hn⟩ : ∃ n, Ls.length = n := ⟨_, rfl⟩
  have HN : Unit → Ls.length = n := fun _ => hn
  have hnI : (n : Int) ≤ 1000000000000 := by omega
  rw [hn] at HR1 ⊢
  clear HR h hl hn hl2
  go_enter Tryd.func25, Tryd.ntmps25
  go_wp2
  go_loopw [3, 8] (fun s t wr => ∃ (i : Nat) (x : Int), i ≤ n ∧ s = .int .i64 x ∧ t = .int .i64 i ∧ ((Ls.take i).any (fun L => L.any noL) = false ∧ x = if (Ls.take i).any (fun L => decide (4096 < L.length)) then 3 else 0) ∧ wr = w) (fun _ t _ => match t with | .int _ i => n - i.toNat | _ => 0)
  case atStart => exact ⟨0, 0, by omega, rfl, rfl, by simp, rfl⟩
  case round =>
    obtain ⟨i, x, hi, rfl, rfl, hp, rfl⟩ := hrel
    have HP : Hid ((Ls.take i).any (fun L => L.any noL) = false ∧ x = if (Ls.take i).any (fun L => decide (4096 < L.length)) then 3 else 0) := hp
    clear hp
    by_cases hlt : i < n
    · obtain ⟨B, off, u, rfl, hc, hu, hnc⟩ := HR1.out i hlt
      have hlt' : i < Ls.length := by rw [HN ()]; exact hlt
      have hx : Ls[i]?.getD [] = Ls[i] := by rw [List.getElem?_eq_getElem hlt']; rfl
      have hlen := HL2.out _ (List.getElem_mem hlt')
      have HT : Hid ((Ls.take (i + 1)).any (fun L => L.any noL) = (Ls[i]).any noL ∧ (Ls.take (i + 1)).any (fun L => decide (4096 < L.length)) = ((Ls.take i).any (fun L => decide (4096 < L.length)) || decide (4096 < Ls[i].length))) := by
        show _ ∧ _
        rw [List.take_succ_eq_append_getElem hlt', List.any_append, List.any_append, HP.out.1]
        simp
      have HY : Hid (Ls[i].any noL = true → chk Ls = 2) := fun h => by
        unfold chk
        rw [if_pos (List.any_eq_true.2 ⟨_, List.getElem_mem hlt', h⟩)]
      have hltI : (i : Int) < n := by omega
      rw [hx] at hu
      clear hx
      generalize Ls[i] = L at *
      have HC := containsFunc_any _ u L hu hlen
      obtain ⟨ab', c', rfl, _⟩ := hu.reads
      obtain ⟨m, hm⟩ : ∃ m, L.length = m := ⟨_, rfl⟩
      rw [hm] at HC hc hlen
      have HM : Hid (L.length = m) := hm
      have hmI : (m : Int) ≤ 1000000000000 := by omega
      clear hm hu
      cases hb : L.any noL with
      | true =>
        rw [hb] at HC
        go_wp2_with (go_at_call 38; refine HC.mono ?_; rintro e w' ⟨rfl, rfl⟩)
        go_ret
        exact ⟨ret_num (HY.out hb).symm, rfl⟩
      | false =>
        rw [hb] at HC
        by_cases hm : 4096 < (m : Int)
        · go_wp2_with (go_at_call 38; refine HC.mono ?_; rintro e w' ⟨rfl, rfl⟩)
          go_roundw
          case rel => exact ⟨i + 1, 3, by omega, rfl, by simp, by rw [HT.out.1, HT.out.2]; refine ⟨hb, ?_⟩; rw [HM.out]; simp [show 4096 < m by omega], trivial⟩
          case measure => simp; omega
        · go_wp2_with (go_at_call 38; refine HC.mono ?_; rintro e w' ⟨rfl, rfl⟩)
          go_roundw
          case rel => exact ⟨i + 1, x, by omega, rfl, by simp, by rw [HT.out.1, HT.out.2]; refine ⟨hb, ?_⟩; rw [HM.out, decide_eq_false (show ¬ 4096 < m by omega), Bool.or_false]; exact HP.out.2, trivial⟩
          case measure => simp; omega
    · have e : i = n := by omega
      subst e
      go_wp2
      go_ret
      refine ⟨ret_num ?_, rfl⟩
      have := HP.out
      rw [← HN (), List.take_length] at this
      rw [this.2]
      unfold chk
      rw [this.1]
      simp
end Go.Proofs.YtkimgmgafkihaaaDoor
