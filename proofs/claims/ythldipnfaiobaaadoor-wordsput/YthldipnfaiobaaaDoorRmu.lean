/-
  The document's ended, all, Mul.
-/
import Derived.Test.YthldipnfaiobaaaDoorTld
import Derived.Test.YthldipnfaiobaaaDoorRfs
namespace Go.Proofs.YthldipnfaiobaaaDoor
open Go.RowKit Go.Lib Go.Sort
set_option linter.unusedVariables false
set_option linter.unusedSimpArgs false
set_option maxHeartbeats 1600000
set_option maxRecDepth 1000000
theorem rEnded_any (w : World) (base : Nat) (v : Value) (M : List Int) (h : Fr w base v M) (hl : M.length ≤ 1000000000) :
    Calls Tryd.prog 64 #[v] w fun e w' => ∃ v', e = .returned (.tuple #[v', .int .i64 (tldE M)]) ∧ Fr w base v' (tldL M) ∧ w' = w := by
  have HF : Hid (Fr w base v M) := h
  obtain ⟨ab, c, rfl⟩ := h.form
  clear h
  unfold tldE tldL
  obtain ⟨m, hm⟩ : ∃ m, M.length = m := ⟨_, rfl⟩
  rw [hm] at HF ⊢
  have hmI : (m : Int) ≤ 1000000000 := by omega
  clear hm hl
  by_cases hb : 4096 < m
  · have hbI : (4096 : Int) < m := by omega
    rw [if_pos hb, if_pos hb]
    go_enter Tryd.func64, Tryd.ntmps64
    go_wp2_with fail
    go_ret2
    exact ⟨_, rfl, Fr.nil _ _, rfl⟩
  · have hbI : ¬ (4096 : Int) < m := by omega
    rw [if_neg hb, if_neg hb]
    go_enter Tryd.func64, Tryd.ntmps64
    go_wp2_with fail
    go_ret2
    exact ⟨_, rfl, HF.out, rfl⟩
theorem chk_two {Ls : List (List Int)} {L : List Int} (h : chk [L] = 2) (hm : L ∈ Ls) : chk Ls = 2 := by
  have h1 : L.any noL = true := by
    unfold chk at h
    by_cases e : L.any noL
    · exact e
    · simp [e] at h
      split at h <;> omega
  unfold chk
  rw [if_pos (List.any_eq_true.2 ⟨L, hm, h1⟩)]
theorem chk_parts (A : List (List Int)) (L : List Int) : (chk [L] = 0 → chk (A ++ [L]) = chk A) ∧ (chk [L] = 3 → chk A ≠ 2 → chk (A ++ [L]) = 3) ∧ (chk [L] = 0 ∨ chk [L] = 2 ∨ chk [L] = 3) := by
  unfold chk
  simp only [List.any_append, List.any_cons, List.any_nil, Bool.or_false]
  cases (A.any fun L => L.any noL) <;> cases (L.any noL) <;> cases (A.any fun L => decide (4096 < L.length)) <;> cases (decide (4096 < L.length)) <;> simp
theorem rAll_any (w : World) (v : Value) (Ls : List (List Int)) (h : IntsL w v Ls) (hl : Ls.length ≤ 1000000) (hl2 : ∀ L ∈ Ls, L.length ≤ 1000000000000) :
    Calls Tryd.prog 63 #[v] w fun e w' => e = .returned (.int .i64 (chk Ls)) ∧ w' = w := by
  obtain ⟨ab, c, rfl, HR⟩ := h.reads
  have HR1 : Hid (∀ i, i < Ls.length → ∃ B off u, ab = some ⟨B, off, none⟩ ∧ w.cell? ⟨B, off + i, none⟩ = some u ∧ Ints w u (Ls[i]?.getD []) ∧ Ls.length ≤ c) := fun i hi => HR w (grow0 w) i hi
  have HL2 : Hid (∀ L ∈ Ls, L.length ≤ 1000000000000) := hl2
  obtain ⟨n, hn⟩ : ∃ n, Ls.length = n := ⟨_, rfl⟩
  have HN : Unit → Ls.length = n := fun _ => hn
  have hnI : (n : Int) ≤ 1000000 := by omega
  rw [hn] at HR1 ⊢
  clear HR h hl hn hl2
  go_enter Tryd.func63, Tryd.ntmps63
  go_wp2_with fail
  go_loopw [3, 4] (fun s t wr => ∃ (i : Nat) (r : Int), i ≤ n ∧ t = .int .i64 (i : Int) ∧ s = .int .i64 r ∧ (chk (Ls.take i) = r ∧ r ≠ 2) ∧ w = wr) (fun _ t _ => match t with | .int _ i => n - i.toNat | _ => 0)
  case atStart => exact ⟨0, 0, by omega, rfl, rfl, ⟨rfl, by decide⟩, rfl⟩
  case round =>
    obtain ⟨i, r, hi, rfl, rfl, hr, rfl⟩ := hrel
    have HRr : Hid (chk (Ls.take i) = r ∧ r ≠ 2) := hr
    clear hr
    by_cases hlt : i < n
    · obtain ⟨B, off, u, rfl, hc, hu, hnc⟩ := HR1.out i hlt
      have hlt' : i < Ls.length := by rw [HN ()]; exact hlt
      have hmem : Ls[i]?.getD [] ∈ Ls := by
        rw [List.getElem?_eq_getElem hlt']
        exact List.getElem_mem hlt'
      have HT : Hid (Ls.take (i + 1) = Ls.take i ++ [Ls[i]?.getD []]) := by
        show _ = _
        rw [List.take_succ_eq_append_getElem hlt', List.getElem?_eq_getElem hlt']
        rfl
      have HC := rCheck_any w u (Ls[i]?.getD []) hu (HL2.out _ hmem)
      have HP : Hid (∀ q, chk [Ls[i]?.getD []] = q → (q = 2 → chk Ls = 2) ∧ (q = 0 → chk (Ls.take (i + 1)) = r) ∧ (q = 3 → chk (Ls.take (i + 1)) = 3) ∧ (q = 0 ∨ q = 2 ∨ q = 3)) := by
        rintro q rfl
        obtain ⟨p1, p2, p3⟩ := chk_parts (Ls.take i) (Ls[i]?.getD [])
        refine ⟨fun e => chk_two e hmem, fun e => ?_, fun e => ?_, p3⟩
        · rw [HT.out, p1 e]; exact HRr.out.1
        · rw [HT.out]; exact p2 e (by rw [HRr.out.1]; exact HRr.out.2)
      obtain ⟨q, hq⟩ : ∃ q, chk [Ls[i]?.getD []] = q := ⟨_, rfl⟩
      obtain ⟨q1, q2, q3, q4⟩ := HP.out q hq
      rw [hq] at HC
      have hltI : (i : Int) < n := by omega
      obtain ⟨ub, uc, rfl, _⟩ := hu.reads
      clear hu HP hq hmem
      generalize (Ls[i]?.getD []).length = m2 at *
      rcases q4 with rfl | rfl | rfl
      · have H2 : Hid (chk (Ls.take (i + 1)) = r) := q2 rfl
        clear q1 q2 q3
        go_wp2_with fail
        refine HC.mono ?_
        rintro e w' ⟨rfl, hw⟩
        obtain rfl := hw.symm
        go_wp2_with fail
        go_roundw
        case rel => exact ⟨i + 1, r, by omega, by simp, rfl, ⟨H2.out, HRr.out.2⟩, trivial⟩
        case measure => simp; omega
      · have H1 : Hid (chk Ls = 2) := q1 rfl
        clear q1 q2 q3
        go_wp2_with fail
        refine HC.mono ?_
        rintro e w' ⟨rfl, hw⟩
        obtain rfl := hw.symm
        go_wp2_with fail
        go_ret
        exact ⟨by rw [H1.out]; rfl, rfl⟩
      · have H3 : Hid (chk (Ls.take (i + 1)) = 3) := q3 rfl
        clear q1 q2 q3
        go_wp2_with fail
        refine HC.mono ?_
        rintro e w' ⟨rfl, hw⟩
        obtain rfl := hw.symm
        go_wp2_with fail
        go_roundw
        case rel => exact ⟨i + 1, 3, by omega, by simp, rfl, ⟨H3.out, by decide⟩, trivial⟩
        case measure => simp; omega
    · have e : i = n := by omega
      subst e
      have HTt : Hid (chk Ls = r) := by
        show _ = _
        rw [← HRr.out.1, ← HN (), List.take_length]
      go_wp2_with fail
      go_ret
      exact ⟨by rw [HTt.out]; rfl, rfl⟩
end Go.Proofs.YthldipnfaiobaaaDoor
