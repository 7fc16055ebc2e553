/-
  The law WordsLaws: rooted.
-/
import Derived.Test.YthldipnfaiobaabGreatDoorLpc
import Derived.Test.YthldipnfaiobaabGreatDoorRdp
import Derived.Test.YthldipnfaiobaabGreatDoorAlk
import Derived.Test.YthldipnfaiobaabGreatDoorCom
import Derived.Test.YthldipnfaiobaabGreatDoorKno
import Derived.Test.YthldipnfaiobaabGreatDoorRfa
namespace Go.Proofs.YthldipnfaiobaabGreatDoor
open Go.RowKit Go.Lib Go.Sort
set_option linter.unusedVariables false
set_option linter.unusedSimpArgs false
theorem word_ok {L : List Int} (h : chk [L] = 0) : L.any noL = false ∧ L.length ≤ 4096 := chk_ok h L (by simp)
theorem nz {L : List Int} (h : ∀ x ∈ L, noL x = false) : ∀ x ∈ L, x ≠ 0 := fun x hx => (noL_no (h x hx)).1
theorem chk_sub {L : List Int} (h : ∀ x ∈ L, noL x = false) (hl : L.length ≤ 4096) : chk [L] = 0 := chk_word.2 ⟨h, hl⟩
theorem chk_which2 (U V : List Int) (hU : chk [U] = 0) (hV : chk [V] = 0) : chk [U, V] = 0 := by
  have h1 := word_ok hU
  have h2 := word_ok hV
  unfold chk
  simp [h1.1, h2.1]
  omega
theorem root_ok (w : World) (v : Value) (L : List Int) (h : Ints w v L) (hL : chk [L] = 0) :
    Calls Tryz.prog 16 #[v] w fun e w' => w.grownBy w' none ∧ ((sh L = [] ∧ e = .returned (.tuple #[.slice none 0 0, .int .i64 0, .int .i64 7])) ∨ ∃ u B P n, e = .returned (.tuple #[u, .int .i64 ((n : Nat) : Int), .int .i64 0]) ∧ RD (sh L) B P n ∧ Ints w' u (inv B ++ P ++ B)) := by
  have hok := word_ok hL
  refine (root_top w v L h (by have := hok.2; omega)).mono ?_
  rintro e w' ⟨hg, u, n, e2, rfl, hh⟩
  refine ⟨hg, ?_⟩
  rcases hh with ⟨h1, _⟩ | ⟨m, _, hm, hc, rfl, rfl, rfl⟩ | ⟨m, p, _, hm, hc, hp, rfl, rfl, hF⟩
  · exact absurd hL h1
  · refine .inl ⟨?_, rfl⟩
    rcases Nat.eq_zero_or_pos (sh L).length with e | e
    · exact List.length_eq_zero_iff.1 e
    · have := core_pos hm (red_sh L) e
      rw [hc] at this
      simp at this
  · have h0 : 0 < (sh L).length := by
      have := coreOf_len _ _ hm.le
      omega
    exact .inr ⟨u, _, _, _, rfl, RD.of (red_sh L) (nz (sh_letters hok.1)) h0 hm hp, hF.ints⟩
theorem RD.root {S B P : List Int} {n : Nat} (h : RD S B P n) (hn : ∀ x ∈ S, noL x = false) (hl : S.length ≤ 4096) : chk [inv B ++ P ++ B] = 0 ∧ RD (inv B ++ P ++ B) B P 1 ∧ (inv B ++ P ++ B).length ≤ S.length ∧ 2 * B.length + n * P.length = S.length := by
  have hw := h.wrap (X := P) (s := 1) (.inl rfl) (by omega)
  rw [rp_one] at hw
  have hlen : S.length = 2 * B.length + P.length * n := by rw [h.eq]; simp [inv_len, rp_len]; omega
  have hPn : P.length ≤ P.length * n := Nat.le_mul_of_pos_right _ h.pos
  have hxl : (inv B ++ P ++ B).length = 2 * B.length + P.length := by simp [inv_len]; omega
  refine ⟨chk_sub (fun x hx => ?_) (by omega), hw, by omega, by rw [Nat.mul_comm n]; omega⟩
  have hp1 : rp P n = P ++ rp P (n - 1) := by have := h.pos; rw [show n = 1 + (n - 1) by omega, rp_add, rp_one, show 1 + (n - 1) - 1 = n - 1 by omega]
  have hmem : x ∈ S := by
    rw [h.eq, hp1]
    simp only [List.mem_append] at hx ⊢
    rcases hx with (hx | hx) | hx
    · exact .inl (.inl hx)
    · exact .inl (.inr (.inl hx))
    · exact .inr hx
  exact hn x hmem
theorem root_again (w : World) (v : Value) {S B P : List Int} {n : Nat} (hd : RD S B P n) (hn : ∀ x ∈ S, noL x = false) (hl : S.length ≤ 4096) (h : Ints w v (inv B ++ P ++ B)) :
    Calls Tryz.prog 16 #[v] w fun e w' => w.grownBy w' none ∧ ∃ u, e = .returned (.tuple #[u, .int .i64 1, .int .i64 0]) ∧ Ints w' u (inv B ++ P ++ B) := by
  obtain ⟨h1, h2, _⟩ := hd.root hn hl
  refine (root_ok w v _ h h1).mono ?_
  rintro e w' ⟨hg, hh⟩
  refine ⟨hg, ?_⟩
  rw [sh_red h2.redS] at hh
  rcases hh with ⟨e0, _⟩ | ⟨u, B', P', n', rfl, hd', hI⟩
  · exfalso
    have hl0 := congrArg List.length e0
    have hp := h2.prim.1
    simp only [List.length_append, List.length_nil] at hl0
    omega
  · obtain ⟨rfl, rfl⟩ := hd'.uniq h2
    have hlen := congrArg List.length hd'.eq
    simp only [List.length_append, inv_len, rp_len] at hlen
    have hp := h2.prim.1
    have hn1 : n' = 1 := by
      have h3 : P'.length * n' = P'.length * 1 := by omega
      exact Nat.eq_of_mul_eq_mul_left hp h3
    subst hn1
    exact ⟨u, rfl, hI⟩
theorem pow_ok (w : World) (v : Value) {S B P : List Int} {n : Nat} (hd : RD S B P n) (hn : ∀ x ∈ S, noL x = false) (hl : S.length ≤ 4096) (h : Ints w v (inv B ++ P ++ B)) :
    Calls Tryz.prog 15 #[v, .int .i64 (n : Int)] w fun e w' => w.grownBy w' none ∧ ∃ u, e = .returned (.tuple #[u, .int .i64 0]) ∧ Ints w' u S := by
  obtain ⟨h1, h2, h3, h4⟩ := hd.root hn hl
  obtain ⟨c1, c2, c3⟩ := h2.cut
  rw [rp_one] at c2
  have hsh := sh_red h2.redS
  have hnP : n ≤ n * P.length := Nat.le_mul_of_pos_right _ hd.prim.1
  have hE : powE (inv B ++ P ++ B) B.length n = 0 := by
    unfold powE
    rw [if_pos h1, hsh, c2, c3]
    unfold pwE
    have := hd.pos
    have := hd.prim.1
    rw [if_neg (by omega), if_neg (by omega), if_neg (by simp; omega)]
  have hLp : powL (inv B ++ P ++ B) B.length n = S := by
    unfold powL
    rw [if_pos h1, hsh, c2, c3]
    have hE2 : pwE P B n = 0 := by
      unfold powE at hE
      rwa [if_pos h1, hsh, c2, c3] at hE
    rw [if_pos hE2]
    unfold pwL
    have := hd.pos
    have := hd.prim.1
    rw [if_neg (by omega), if_neg (by omega), hd.eq]
    simp
  refine (pow_told w v _ (n : Int) h (by omega) B.length (by rw [hsh]; exact c1)).mono ?_
  rintro e w' ⟨hg, u, rfl, hF⟩
  rw [hE]
  rw [hLp] at hF
  exact ⟨hg, u, rfl, hF.ints⟩
theorem text_back (U : List Int) (h : chk [U] = 0) : rdE (bN (txB U)) = 0 ∧ rdL (bN (txB U)) = U := by
  by_cases h0 : U = []
  · subst h0
    have e : bN (txB []) = [46] := by simp [txB, bN]
    unfold rdE rdL
    rw [if_pos e, if_pos e]
    exact ⟨rfl, rfl⟩
  · have e : bN (txB U) = jnN U := by
      unfold txB
      rw [if_neg (by simpa using h0)]
      simp [bN, jnN]
    have hw := chk_word.1 h
    have hv : rdV (jnN U) = some U := rdV_ok ⟨h0, hw.1, hw.2, rfl⟩
    have hne : jnN U ≠ [46] := by
      intro e2
      rw [e2] at hv
      revert hv
      simp [rdV, rd, stp, st0]
    unfold rdE rdL
    rw [e, if_neg hne, if_neg hne, hv]
    exact ⟨rfl, rfl⟩
theorem txB_size (U : List Int) (h : ∀ x ∈ U, noL x = false) (hl : U.length ≤ 600) : (txB U).size ≤ 20000 := by
  unfold txB
  split
  · decide
  · have := jn_len U h
    unfold jn at this
    omega
end Go.Proofs.YthldipnfaiobaabGreatDoor
