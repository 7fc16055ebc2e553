/-
  Powers: of lists alone.
-/
import Derived.Test.YthldipnfaiobaaaDoorRma
import Derived.Test.YthldipnfaiobaaaDoorRoo
import Derived.Test.YthldipnfaiobaaaDoorTld
namespace Go.Proofs.YthldipnfaiobaaaDoor
open Go.RowKit Go.Lib Go.Sort
set_option linter.unusedVariables false
set_option linter.unusedSimpArgs false
theorem cut_ex (L : List Int) : ∃ m, Cut L m := by
  have key : ∀ k : Nat, (∃ m, Cut L m) ∨ ∀ j, j < k → 2 * j + 1 < L.length ∧ L[j]?.getD 0 + L[L.length - 1 - j]?.getD 0 = 0 := by
    intro k
    induction k with
    | zero => exact .inr fun j hj => by omega
    | succ k ih =>
      rcases ih with h | h
      · exact .inl h
      · by_cases hk : 2 * k + 1 < L.length ∧ L[k]?.getD 0 + L[L.length - 1 - k]?.getD 0 = 0
        · refine .inr fun j hj => ?_
          rcases Nat.lt_or_ge j k with e | e
          · exact h j e
          · obtain rfl : j = k := by omega
            exact hk
        · exact .inl ⟨k, h, hk⟩
  rcases key (L.length + 1) with h | h
  · exact h
  · have := (h L.length (by omega)).1
    omega
theorem cut_turn {S : List Int} {m : Nat} (h : Cut S m) : Cut (inv S) m := by
  have key : ∀ k, 2 * k + 1 < S.length → ((inv S)[k]?.getD 0 + (inv S)[(inv S).length - 1 - k]?.getD 0 = 0 ↔ S[k]?.getD 0 + S[S.length - 1 - k]?.getD 0 = 0) := by
    intro k hk
    rw [inv_len, inv_at S k (by omega), inv_at S (S.length - 1 - k) (by omega), show S.length - 1 - (S.length - 1 - k) = k by omega]
    omega
  refine ⟨fun k hk => ?_, fun hh => ?_⟩
  · have := h.1 k hk
    exact ⟨by rw [inv_len]; exact this.1, (key k this.1).2 this.2⟩
  · rw [inv_len] at hh
    refine h.2 ⟨hh.1, (key m hh.1).1 ?_⟩
    rw [inv_len]
    exact hh.2
theorem core_turn {S : List Int} {m : Nat} (h : 2 * m ≤ S.length) : coreOf (inv S) m = inv (coreOf S m) := by
  have h1 : (coreOf S m).length = S.length - 2 * m := coreOf_len S m h
  have h2 : (coreOf (inv S) m).length = S.length - 2 * m := by rw [coreOf_len _ _ (by rw [inv_len]; exact h), inv_len]
  apply same_prefix (by rw [h2, inv_len, h1])
  intro j hj
  rw [h2] at hj
  rw [inv_at _ _ (by rw [h1]; exact hj), h1]
  unfold coreOf
  rw [inv_len, List.getElem?_take, if_pos hj, List.getElem?_drop, List.getElem?_take, if_pos (by omega), List.getElem?_drop, inv_at _ _ (by omega), show S.length - 1 - (m + j) = m + (S.length - 2 * m - 1 - j) by omega]
theorem take_turn {S : List Int} {m : Nat} (h : 2 * m ≤ S.length) : inv ((inv S).take m) = byOf S m := by
  have hl : ((inv S).take m).length = m := by rw [List.length_take, inv_len]; omega
  apply same_prefix (by rw [inv_len, hl, byOf_len S m h])
  intro j hj
  rw [inv_len, hl] at hj
  rw [inv_at _ _ (by rw [hl]; exact hj), hl, List.getElem?_take, if_pos (by omega), inv_at _ _ (by omega)]
  unfold byOf
  rw [List.getElem?_drop, show S.length - 1 - (m - 1 - j) = S.length - m + j by omega]
  omega
def powE (L : List Int) (m : Nat) (n : Int) : Int := if chk [L] = 0 then pwE (coreOf (sh L) m) (byOf (sh L) m) n else chk [L]
def powL (L : List Int) (m : Nat) (n : Int) : List Int := if chk [L] = 0 then (if pwE (coreOf (sh L) m) (byOf (sh L) m) n = 0 then pwL (coreOf (sh L) m) (byOf (sh L) m) n else []) else []
theorem pow_told (w : World) (v : Value) (L : List Int) (n : Int) (h : Ints w v L) (hl : L.length ≤ 1000000000000) (m : Nat) (hm : Cut (sh L) m) :
    Calls Tryd.prog 30 #[v, .int .i64 n] w fun e w' => Told1 w e w' (powE L m n) (powL L m n) := by
  refine (pow_top w v L n h hl).mono ?_
  rintro e w' ⟨hg, u, e2, rfl, hh⟩
  refine ⟨hg, u, ?_, ?_⟩
  · rcases hh with ⟨h1, _, rfl⟩ | ⟨m', h1, h2, rfl, _⟩
    · unfold powE
      rw [if_neg h1]
    · obtain rfl := h2.uniq hm
      unfold powE
      rw [if_pos h1]
  · rcases hh with ⟨h1, rfl, _⟩ | ⟨m', h1, h2, rfl, h3⟩
    · unfold powL
      rw [if_neg h1]
      exact Fr.nil _ _
    · obtain rfl := h2.uniq hm
      unfold powL
      rw [if_pos h1]
      exact h3
theorem pow_tld {C B C' : List Int} {n : Int} {q nn : Nat} (h0 : 0 < C.length) (hn0 : n ≠ 0) (hnn : nn = n.natAbs ∨ (nn = 8192 ∧ 8192 < n.natAbs)) (hC' : C' = if n < 0 then inv C else C) (hq : q ≤ nn) (hor : q = nn ∨ C'.length = 0 ∨ 8192 < (inv B ++ rp C' q).length) :
    tldE (inv B ++ rp C' q ++ B) = pwE C B n ∧ tldL (inv B ++ rp C' q ++ B) = if pwE C B n = 0 then pwL C B n else [] := by
  have hcl : C'.length = C.length := by rw [hC']; split <;> simp [inv_len]
  have hlen : (inv B ++ rp C' q ++ B).length = 2 * B.length + q * C.length := by rw [List.length_append, List.length_append, inv_len, rp_len, hcl, Nat.mul_comm]; omega
  have hlen2 : (inv B ++ rp C' q).length = B.length + q * C.length := by rw [List.length_append, inv_len, rp_len, hcl, Nat.mul_comm]
  rw [hlen2, hcl] at hor
  have hqa : q ≤ n.natAbs := by omega
  have hmul : q * C.length ≤ n.natAbs * C.length := Nat.mul_le_mul hqa (Nat.le_refl _)
  have hq1 : q ≤ q * C.length := Nat.le_mul_of_pos_right _ h0
  have hE : pwE C B n = if 4096 < n ∨ n < -4096 then 3 else if 4096 < 2 * B.length + n.natAbs * C.length then 3 else 0 := by unfold pwE; rw [if_neg (by omega)]
  have hL : pwL C B n = inv B ++ rp C' n.natAbs ++ B := by unfold pwL; rw [if_neg (by omega), hC']
  by_cases hb : 4096 < 2 * B.length + q * C.length
  · have hE3 : pwE C B n = 3 := by
      rw [hE]
      split
      · rfl
      · rw [if_pos (by omega)]
    unfold tldE tldL
    rw [hlen, if_pos hb, if_pos hb, hE3]
    exact ⟨rfl, rfl⟩
  · have hqn : q = n.natAbs := by omega
    have hE0 : pwE C B n = 0 := by
      rw [hE, ← hqn, if_neg (by omega), if_neg hb]
    unfold tldE tldL
    rw [hlen, if_neg hb, if_neg hb, hE0, if_pos rfl, hL, hqn]
    exact ⟨rfl, rfl⟩
end Go.Proofs.YthldipnfaiobaaaDoor
