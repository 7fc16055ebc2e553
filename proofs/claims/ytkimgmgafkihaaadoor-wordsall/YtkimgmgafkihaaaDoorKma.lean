/-
  Beginnings that a list ends with (borders), periods, turns: of lists alone.
-/
import Derived.Test.YtkimgmgafkihaaaDoorBas
namespace Go.Proofs.YtkimgmgafkihaaaDoor
set_option linter.unusedVariables false
set_option linter.unusedSimpArgs false
def Bd (W T : List Int) (n : Nat) : Prop := n ≤ W.length ∧ W.take n <:+ T
theorem Bd.zero (W T : List Int) : Bd W T 0 := ⟨Nat.zero_le _, by rw [List.take_zero]; exact List.nil_suffix⟩
theorem Bd.le {W T : List Int} {n : Nat} (h : Bd W T n) : n ≤ T.length := by
  have := h.2.length_le
  rw [List.length_take, Nat.min_eq_left h.1] at this
  exact this
theorem snoc_suffix {A T : List Int} {x k : Int} : A ++ [x] <:+ T ++ [k] ↔ A <:+ T ∧ x = k := by
  rw [← List.reverse_prefix, List.reverse_append, List.reverse_append, ← List.reverse_prefix (l₁ := A)]
  simp only [List.reverse_cons, List.reverse_nil, List.nil_append, List.singleton_append, List.cons_append]
  rw [List.cons_prefix_cons]
  exact ⟨fun h => ⟨h.2, h.1⟩, fun h => ⟨h.2, h.1⟩⟩
theorem Bd.snoc {W T : List Int} {r : Nat} {k : Int} : Bd W (T ++ [k]) (r + 1) ↔ Bd W T r ∧ r < W.length ∧ W[r]?.getD 0 = k := by
  constructor
  · rintro ⟨h1, h2⟩
    have hr : r < W.length := by omega
    rw [List.take_succ_eq_append_getElem hr, snoc_suffix] at h2
    refine ⟨⟨by omega, h2.1⟩, hr, ?_⟩
    rw [List.getElem?_eq_getElem hr]
    exact h2.2
  · rintro ⟨⟨h1, h2⟩, hr, hk⟩
    refine ⟨by omega, ?_⟩
    rw [List.take_succ_eq_append_getElem hr, snoc_suffix]
    rw [List.getElem?_eq_getElem hr] at hk
    exact ⟨h2, hk⟩
theorem Bd.trans {W T : List Int} {n b : Nat} (h : Bd W T n) (k : Bd W (W.take n) b) : Bd W T b := ⟨k.1, k.2.trans h.2⟩
theorem Bd.two {W T : List Int} {n b : Nat} (h : Bd W T n) (k : Bd W T b) (hb : b ≤ n) : Bd W (W.take n) b := by
  refine ⟨k.1, List.suffix_of_suffix_length_le k.2 h.2 ?_⟩
  rw [List.length_take, List.length_take]
  omega
def Lng (W T : List Int) (n : Nat) : Prop := Bd W T n ∧ ∀ b, Bd W T b → b ≤ n
def LB (W : List Int) (i b : Nat) : Prop := b < i ∧ Bd W (W.take i) b ∧ ∀ c, c < i → Bd W (W.take i) c → c ≤ b
def Way (W T : List Int) (k : Int) (n : Nat) : Prop := Bd W T n ∧ n < W.length ∧ ∀ r, Bd W (T ++ [k]) (r + 1) → r ≤ n
theorem Way.start {W T : List Int} {k : Int} {n : Nat} (h : Lng W T n) (hn : n < W.length) : Way W T k n := ⟨h.1, hn, fun r hr => h.2 r (Bd.snoc.1 hr).1⟩
theorem Way.step {W T : List Int} {k : Int} {n b : Nat} (h : Way W T k n) (h0 : 0 < n) (hne : W[n]?.getD 0 ≠ k) (hb : LB W n b) : Way W T k b := by
  refine ⟨h.1.trans hb.2.1, by have := h.2.1; have := hb.1; omega, fun r hr => ?_⟩
  have h1 := h.2.2 r hr
  have h2 := Bd.snoc.1 hr
  have h3 : r ≠ n := fun e => hne (e ▸ h2.2.2)
  exact hb.2.2 r (by omega) (h.1.two h2.1 h1)
theorem Way.yes {W T : List Int} {k : Int} {n : Nat} (h : Way W T k n) (he : W[n]?.getD 0 = k) : Lng W (T ++ [k]) (n + 1) := by
  refine ⟨Bd.snoc.2 ⟨h.1, h.2.1, he⟩, fun b hb => ?_⟩
  cases b with
  | zero => omega
  | succ r => have := h.2.2 r hb; omega
theorem Way.no {W T : List Int} {k : Int} (h : Way W T k 0) (he : W[0]?.getD 0 ≠ k) : Lng W (T ++ [k]) 0 := by
  refine ⟨Bd.zero _ _, fun b hb => ?_⟩
  cases b with
  | zero => omega
  | succ r =>
    have h1 := h.2.2 r hb
    have h2 := Bd.snoc.1 hb
    obtain rfl : r = 0 := by omega
    exact absurd h2.2.2 he
theorem tail_suffix {A : List Int} {x : Int} {T : List Int} (h : A.length ≤ T.length) : A <:+ x :: T ↔ A <:+ T := by
  rw [List.suffix_cons_iff]
  constructor
  · rintro (e | e)
    · have := congrArg List.length e; simp at this; omega
    · exact e
  · exact fun e => .inr e
theorem LB.lng {W : List Int} {i b : Nat} (hi : 0 < i) (hW : i ≤ W.length) : LB W i b ↔ Lng W ((W.take i).drop 1) b := by
  have hl : (W.take i).length = i := by rw [List.length_take]; omega
  obtain ⟨x, T, hT⟩ : ∃ x T, W.take i = x :: T := by
    cases h : W.take i with
    | nil => rw [h] at hl; simp at hl; omega
    | cons x T => exact ⟨x, T, rfl⟩
  have hTl : T.length + 1 = i := by rw [hT] at hl; simpa using hl
  have key : ∀ c, c < i → (Bd W (W.take i) c ↔ Bd W ((W.take i).drop 1) c) := by
    intro c hc
    unfold Bd
    rw [hT]
    simp only [List.drop_succ_cons, List.drop_zero]
    constructor
    · rintro ⟨h1, h2⟩
      exact ⟨h1, (tail_suffix (by rw [List.length_take]; omega)).1 h2⟩
    · rintro ⟨h1, h2⟩
      exact ⟨h1, (tail_suffix (by rw [List.length_take]; omega)).2 h2⟩
  constructor
  · rintro ⟨h1, h2, h3⟩
    refine ⟨(key b h1).1 h2, fun c hc => ?_⟩
    have : c < i := by
      have := hc.le
      rw [hT] at this
      simp at this
      omega
    exact h3 c this ((key c this).2 hc)
  · rintro ⟨h1, h2⟩
    have hb : b < i := by
      have := h1.le
      rw [hT] at this
      simp at this
      omega
    exact ⟨hb, (key b hb).2 h1, fun c hc hd => h2 c ((key c hc).1 hd)⟩
theorem drop_take_succ {W : List Int} {i : Nat} (hi : 0 < i) (hW : i < W.length) : (W.take (i + 1)).drop 1 = (W.take i).drop 1 ++ [W[i]?.getD 0] := by
  rw [List.take_succ_eq_append_getElem hW, List.drop_append_of_le_length (by rw [List.length_take]; omega), List.getElem?_eq_getElem hW]
  rfl
theorem LB.one (W : List Int) (h : 0 < W.length) : LB W 1 0 := ⟨by omega, Bd.zero _ _, fun c hc _ => by omega⟩
def Per (W : List Int) (q : Nat) : Prop := ∀ j, j + q < W.length → W[j]?.getD 0 = W[j + q]?.getD 0
theorem bd_per {W : List Int} {b : Nat} (hb : b ≤ W.length) : Bd W W b ↔ Per W (W.length - b) := by
  have hs : W.take b <:+ W ↔ W.take b = W.drop (W.length - b) := by
    rw [List.suffix_iff_eq_drop, List.length_take, Nat.min_eq_left hb]
  unfold Bd
  rw [hs]
  constructor
  · rintro ⟨_, h⟩ j hj
    have h1 : (W.take b)[j]? = (W.drop (W.length - b))[j]? := by rw [h]
    rw [List.getElem?_take, if_pos (by omega), List.getElem?_drop] at h1
    rw [h1, Nat.add_comm]
  · intro h
    refine ⟨hb, List.ext_getElem (by simp; omega) fun j h1 h2 => ?_⟩
    have hj : j < b := by simp at h1; omega
    have := h j (by omega)
    rw [List.getElem?_eq_getElem (by omega), List.getElem?_eq_getElem (by omega)] at this
    simp only [Option.getD_some] at this
    rw [List.getElem_take, List.getElem_drop, this]
    congr 1
    omega
theorem Per.sub {W : List Int} {p q : Nat} (hp : Per W p) (hq : Per W q) (hpq : p < q) (hl : p + q ≤ W.length) : Per W (q - p) := by
  intro j hj
  rcases Nat.lt_or_ge (j + q) W.length with h | h
  · have h1 := hq j h
    have h2 := hp (j + (q - p)) (by omega)
    rw [show j + (q - p) + p = j + q by omega] at h2
    rw [h1, h2]
  · have h1 := hp (j - p) (by omega)
    have h2 := hq (j - p) (by omega)
    rw [show j - p + p = j by omega] at h1
    rw [show j - p + q = j + (q - p) by omega] at h2
    rw [← h1, h2]
theorem Per.gcd {W : List Int} : ∀ (p q : Nat), 0 < p → 0 < q → Per W p → Per W q → p + q ≤ W.length → Per W (Nat.gcd p q)
  | p, q, h0, h1, hp, hq, hl => by
    rcases Nat.lt_trichotomy p q with h | h | h
    · have := Per.gcd p (q - p) h0 (by omega) hp (hp.sub hq h hl) (by omega)
      rwa [Nat.gcd_sub_self_right (by omega)] at this
    · subst h
      rwa [Nat.gcd_self]
    · have := Per.gcd (p - q) q (by omega) h1 (hq.sub hp h (by omega)) hq (by omega)
      rwa [Nat.gcd_sub_self_left (by omega)] at this
termination_by p q => p + q
def Rt (W : List Int) (p : Nat) : Prop := 0 < p ∧ p ∣ W.length ∧ Per W p ∧ ∀ q, 0 < q → q ∣ W.length → Per W q → p ≤ q
theorem Rt.uniq {W : List Int} {p q : Nat} (h : Rt W p) (k : Rt W q) : p = q :=
  Nat.le_antisymm (h.2.2.2 q k.1 k.2.1 k.2.2.1) (k.2.2.2 p h.1 h.2.1 h.2.2.1)
theorem per_len (W : List Int) : Per W W.length := fun j hj => by omega
theorem rt_of {W : List Int} {b : Nat} (hW : 0 < W.length) (hb : LB W W.length b) : Rt W (if W.length % (W.length - b) = 0 then W.length - b else W.length) := by
  have hbl := hb.1
  have hB : Bd W W b := by have := hb.2.1; rwa [List.take_length] at this
  have hper := (bd_per (by omega)).1 hB
  have hmin : ∀ q, 0 < q → q < W.length → Per W q → W.length - b ≤ q := by
    intro q h0 h1 hq
    have : Bd W W (W.length - q) := (bd_per (by omega)).2 (by rw [show W.length - (W.length - q) = q by omega]; exact hq)
    have := hb.2.2 (W.length - q) (by omega) (by rw [List.take_length]; exact this)
    omega
  split
  · rename_i h
    refine ⟨by omega, Nat.dvd_of_mod_eq_zero h, hper, fun q h0 hd hq => ?_⟩
    rcases Nat.lt_or_ge q W.length with h1 | h1
    · exact hmin q h0 h1 hq
    · have := Nat.le_of_dvd hW hd; omega
  · rename_i h
    refine ⟨hW, Nat.dvd_refl _, per_len W, fun q h0 hd hq => ?_⟩
    rcases Nat.lt_or_ge q W.length with h1 | h1
    · exfalso
      have h2 := hmin q h0 h1 hq
      have h3 : 2 * q ≤ W.length := by
        obtain ⟨c, hc⟩ := hd
        have : c ≠ 0 := fun e => by subst e; rw [Nat.mul_zero] at hc; omega
        have : c ≠ 1 := fun e => by subst e; rw [Nat.mul_one] at hc; omega
        have h4 : q * 2 ≤ q * c := Nat.mul_le_mul_left q (by omega)
        omega
      have h4 := Per.gcd (W.length - b) q (by omega) h0 hper hq (by omega)
      have h5 := hmin _ (Nat.gcd_pos_of_pos_left q (by omega)) (by have := Nat.le_of_dvd h0 (Nat.gcd_dvd_right (W.length - b) q); omega) h4
      have h6 : Nat.gcd (W.length - b) q = W.length - b := Nat.le_antisymm (Nat.le_of_dvd (by omega) (Nat.gcd_dvd_left (W.length - b) q)) h5
      have h7 : W.length - b ∣ q := by rw [← h6]; exact Nat.gcd_dvd_right _ _
      exact h (Nat.mod_eq_zero_of_dvd (Nat.dvd_trans h7 hd))
    · exact h1
end Go.Proofs.YtkimgmgafkihaaaDoor
