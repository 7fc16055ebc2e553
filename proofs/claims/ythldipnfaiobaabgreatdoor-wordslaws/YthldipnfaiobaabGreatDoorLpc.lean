/-
  Roots and words that commute: of lists alone.
-/
import Derived.Test.YthldipnfaiobaabGreatDoorLpb
namespace Go.Proofs.YthldipnfaiobaabGreatDoor
open Go.RowKit Go.Lib Go.Sort
set_option linter.unusedVariables false
set_option linter.unusedSimpArgs false
theorem rp_inv (P : List Int) (n : Nat) : inv (rp P n) = rp (inv P) n := by
  induction n with
  | zero => rfl
  | succ n ih =>
    rw [rp, inv_append, ih, show n + 1 = 1 + n by omega, rp_add, rp_one]
theorem per_inv {P : List Int} {g : Nat} (h : Per P g) : Per (inv P) g := fun j hj => by
  rw [inv_len] at hj
  rw [inv_at _ _ (by omega), inv_at _ _ hj]
  have := h (P.length - 1 - (j + g)) (by omega)
  rw [show P.length - 1 - (j + g) + g = P.length - 1 - j by omega] at this
  omega
theorem Prim.inv {P : List Int} (h : Prim P) : Prim (inv P) := by
  refine ⟨by rw [inv_len]; exact h.1, fun g hg hd hP => ?_⟩
  rw [inv_len] at hd ⊢
  have := per_inv hP
  rw [inv_inv] at this
  exact h.2 g hg hd this
theorem inv_ends (P : List Int) (h0 : 0 < P.length) : (inv P)[0]?.getD 0 = -(P[P.length - 1]?.getD 0) ∧ (inv P)[(inv P).length - 1]?.getD 0 = -(P[0]?.getD 0) := by
  refine ⟨?_, ?_⟩
  · rw [inv_at _ _ h0, Nat.sub_zero]
  · rw [inv_len, inv_at _ _ (by omega), show P.length - 1 - (P.length - 1) = 0 by omega]
theorem CE.inv {P : List Int} (h : CE P) (h0 : 0 < P.length) : CE (inv P) := by
  obtain ⟨h1, h2⟩ := inv_ends P h0
  unfold CE at h ⊢
  rw [h1, h2]
  omega
structure RD (S B P : List Int) (n : Nat) : Prop where
  eq : S = YthldipnfaiobaabGreatDoor.inv B ++ rp P n ++ B
  prim : Prim P
  ce : CE P
  red : Red P
  pos : 0 < n
  redS : Red S
theorem RD.cut {S B P : List Int} {n : Nat} (h : RD S B P n) : Cut S B.length ∧ coreOf S B.length = rp P n ∧ byOf S B.length = B := by
  have := cut_of (B := B) (CE.rp h.ce h.prim.1 h.pos).cr
  rw [← h.eq] at this
  exact this
theorem RD.of {S : List Int} {m p : Nat} (hr : Red S) (hn : ∀ x ∈ S, x ≠ 0) (h0 : 0 < S.length) (hm : Cut S m) (hp : Rt (coreOf S m) p) : RD S (byOf S m) ((coreOf S m).take p) ((coreOf S m).length / p) := by
  have hc := core_pos hm hr h0
  obtain ⟨h1, h2, h3, h4⟩ := rt_prim hp hc
  have hparts := cut_parts hm
  have hcn : ∀ x ∈ coreOf S m, x ≠ 0 := fun x hx => hn x (core_mem hx)
  have hce := (cut_cr hm).ends hc hcn
  have hCr : Red (coreOf S m) := by
    rw [← hparts] at hr
    exact red_right (red_left hr)
  refine ⟨by rw [← h2]; exact hparts.symm, h1, ?_, red_take hCr p, h4, hr⟩
  obtain ⟨e1, e2⟩ := rp_ends ((coreOf S m).take p) ((coreOf S m).length / p) h1.1 h4
  rw [← h2] at e1 e2
  unfold CE at hce ⊢
  rw [← e1, ← e2]
  exact hce
theorem RD.uniq {S B P B' P' : List Int} {n n' : Nat} (h : RD S B P n) (k : RD S B' P' n') : B = B' ∧ P = P' := by
  obtain ⟨c1, c2, c3⟩ := h.cut
  obtain ⟨d1, d2, d3⟩ := k.cut
  have hl := c1.uniq d1
  rw [← hl] at d2 d3
  refine ⟨c3.symm.trans d3, ?_⟩
  have e : rp P n = rp P' n' := c2.symm.trans d2
  have r1 := prim_rt h.prim n h.pos
  have r2 := prim_rt k.prim n' k.pos
  rw [← e] at r2
  have hlen := r1.uniq r2
  have p1 : rp P n = P ++ rp P (n - 1) := by have := h.pos; rw [show n = 1 + (n - 1) by omega, rp_add, rp_one, show 1 + (n - 1) - 1 = n - 1 by omega]
  have p2 : rp P' n' = P' ++ rp P' (n' - 1) := by have := k.pos; rw [show n' = 1 + (n' - 1) by omega, rp_add, rp_one, show 1 + (n' - 1) - 1 = n' - 1 by omega]
  rw [p1, p2] at e
  exact List.append_inj_left e hlen
theorem conj_mul (B X Y : List Int) : sh (sh (inv B ++ X ++ B) ++ sh (inv B ++ Y ++ B)) = sh (inv B ++ (X ++ Y) ++ B) := by
  rw [sh_left, sh_right]
  have h := sh_eqv (X := B ++ inv B) (Y := []) (by rw [sh_inv_right]; rfl) (inv B ++ X) (Y ++ B)
  simp only [List.append_nil, List.append_assoc, List.nil_append] at h ⊢
  exact h
theorem conj_back (B X : List Int) : sh (inv (inv B) ++ sh (inv B ++ X ++ B) ++ inv B) = sh X := by
  rw [sh_mid, inv_inv]
  have h1 := sh_eqv (X := B ++ inv B) (Y := []) (by rw [sh_inv_right]; rfl) [] (X ++ B ++ inv B)
  have h2 := sh_eqv (X := B ++ inv B) (Y := []) (by rw [sh_inv_right]; rfl) X []
  simp only [List.append_nil, List.append_assoc, List.nil_append] at h1 h2 ⊢
  rw [h1, h2]
theorem conj_forth (B X : List Int) : sh (inv B ++ sh (inv (inv B) ++ X ++ inv B) ++ B) = sh X := by
  have := conj_back (inv B) X
  simp only [inv_inv] at this ⊢
  exact this
theorem red_wrap {B E : List Int} (hB : Red B) (hE : Red E) (h0 : 0 < E.length) (h : 0 < B.length → -(B[0]?.getD 0) + E[0]?.getD 0 ≠ 0 ∧ E[E.length - 1]?.getD 0 + B[0]?.getD 0 ≠ 0) : Red (inv B ++ E ++ B) := by
  refine red_append (red_append (red_inv hB) hE fun h1 _ e => ?_) hB fun h1 h2 e => ?_
  · rw [inv_len] at h1
    rw [(inv_ends B h1).2] at e
    exact (h h1).1 e
  · rw [List.length_append, List.getElem?_append_right (by omega), show (inv B).length + E.length - 1 - (inv B).length = E.length - 1 by omega] at e
    exact (h h2).2 e
theorem RD.edge {S B P : List Int} {n : Nat} (h : RD S B P n) : Red B ∧ (0 < B.length → -(B[0]?.getD 0) + P[0]?.getD 0 ≠ 0 ∧ P[P.length - 1]?.getD 0 + B[0]?.getD 0 ≠ 0) := by
  have hr := h.redS
  rw [h.eq] at hr
  refine ⟨red_right hr, fun h0 => ?_⟩
  obtain ⟨e1, e2⟩ := rp_ends P n h.prim.1 h.pos
  have hl : 0 < (rp P n).length := by rw [rp_len]; exact Nat.mul_pos h.prim.1 h.pos
  refine ⟨fun e => ?_, fun e => ?_⟩
  · have := hr (B.length - 1) (by simp [inv_len]; omega)
    rw [List.append_assoc, List.getElem?_append_left (by rw [inv_len]; omega), List.getElem?_append_right (by rw [inv_len]; omega), inv_len, show B.length - 1 + 1 - B.length = 0 by omega, List.getElem?_append_left hl, e1] at this
    have h3 := (inv_ends B h0).2
    rw [inv_len] at h3
    rw [h3] at this
    exact this e
  · have := hr (B.length + (rp P n).length - 1) (by simp [inv_len]; omega)
    rw [List.getElem?_append_left (by simp [inv_len]; omega), List.getElem?_append_right (l₁ := inv B) (by rw [inv_len]; omega), List.getElem?_append_right (l₁ := inv B ++ rp P n) (by simp [inv_len]; omega), inv_len, List.length_append, inv_len, show B.length + (rp P n).length - 1 - B.length = (rp P n).length - 1 by omega, show B.length + (rp P n).length - 1 + 1 - (B.length + (rp P n).length) = 0 by omega, e2] at this
    exact this e
theorem RD.wrap {S B P X : List Int} {n s : Nat} (h : RD S B P n) (hX : X = P ∨ X = inv P) (hs : 0 < s) : RD (inv B ++ rp X s ++ B) B X s := by
  obtain ⟨hB, hedge⟩ := h.edge
  have hP0 := h.prim.1
  have hprim : Prim X := by rcases hX with rfl | rfl; exact h.prim; exact h.prim.inv
  have hce : CE X := by rcases hX with rfl | rfl; exact h.ce; exact h.ce.inv hP0
  have hred : Red X := by rcases hX with rfl | rfl; exact h.red; exact red_inv h.red
  refine ⟨rfl, hprim, hce, hred, hs, ?_⟩
  refine red_wrap hB (red_rp hred hce hprim.1 s) (by rw [rp_len]; exact Nat.mul_pos hprim.1 hs) fun h0 => ?_
  obtain ⟨e1, e2⟩ := rp_ends X s hprim.1 hs
  rw [e1, e2]
  obtain ⟨f1, f2⟩ := hedge h0
  rcases hX with rfl | rfl
  · exact ⟨f1, f2⟩
  · obtain ⟨i1, i2⟩ := inv_ends P hP0
    rw [i1, i2]
    omega
theorem comm_root {S R B P D Q : List Int} {n k : Nat} (h : RD S B P n) (g : RD R D Q k) : sh (S ++ R) = sh (R ++ S) ↔ (inv B ++ P ++ B = inv D ++ Q ++ D ∨ inv B ++ P ++ B = inv (inv D ++ Q ++ D)) := by
  have hS : sh (inv B ++ rp P n ++ B) = S := by rw [← h.eq]; exact sh_red h.redS
  have hR : sh (inv D ++ rp Q k ++ D) = R := by rw [← g.eq]; exact sh_red g.redS
  constructor
  · intro hc
    obtain ⟨T, hT⟩ : ∃ T, sh (inv (inv B) ++ R ++ inv B) = T := ⟨_, rfl⟩
    have hTR : sh (inv B ++ T ++ B) = R := by rw [← hT, conj_forth, sh_red g.redS]
    have hcT : sh (rp P n ++ T) = sh (T ++ rp P n) := by
      have h1 : sh (inv (inv B) ++ S ++ inv B) = rp P n := by rw [← hS, conj_back, sh_red (red_rp h.red h.ce h.prim.1 n)]
      rw [← hT, ← h1, conj_mul, conj_mul, ← sh_mid, hc, sh_mid]
    have hTr : Red T := by rw [← hT]; exact red_sh _
    have hT0 : 0 < T.length := by
      rcases Nat.eq_zero_or_pos T.length with e | e
      · exfalso
        rw [List.length_eq_zero_iff.1 e, List.append_nil, sh_inv_left] at hTR
        have h1 := g.eq
        rw [← hTR] at h1
        have := congrArg List.length h1
        have hq : 0 < (rp Q k).length := by rw [rp_len]; exact Nat.mul_pos g.prim.1 g.pos
        simp at this
        omega
      · exact e
    obtain ⟨s, hs, e⟩ := comm_T h.prim h.pos h.ce h.red hTr hT0 hcT
    have fin : ∀ X, (X = P ∨ X = inv P) → T = rp X s → D = B ∧ Q = X := by
      intro X hX hTX
      have hw := h.wrap hX hs
      have e1 : R = inv B ++ rp X s ++ B := by rw [← hTR, hTX, sh_red hw.redS]
      rw [← e1] at hw
      exact g.uniq hw
    rcases e with e | e
    · obtain ⟨rfl, rfl⟩ := fin P (.inl rfl) e
      exact .inl rfl
    · obtain ⟨rfl, e2⟩ := fin (inv P) (.inr rfl) (by rw [← rp_inv, ← e, inv_inv])
      refine .inr ?_
      rw [e2, inv_append, inv_append, inv_inv, inv_inv]
      simp
  · intro hx
    have key : ∀ Q', D = B → Q = Q' → sh (rp P n ++ rp Q' k) = sh (rp Q' k ++ rp P n) → sh (S ++ R) = sh (R ++ S) := by
      intro Q' e1 e2 e3
      subst e1 e2
      rw [← hS, ← hR, conj_mul, conj_mul]
      exact sh_eqv e3 _ _
    rcases hx with e | e
    · obtain ⟨c1, c2, c3⟩ := cut_of (B := B) h.ce.cr
      obtain ⟨d1, d2, d3⟩ := cut_of (B := D) g.ce.cr
      rw [← e] at d1 d2 d3
      have hl := c1.uniq d1
      rw [← hl] at d2 d3
      refine key P (d3.symm.trans c3) (d2.symm.trans c2) ?_
      rw [← rp_add, ← rp_add, Nat.add_comm]
    · have e' : inv B ++ P ++ B = inv D ++ inv Q ++ D := by
        rw [e, inv_append, inv_append, inv_inv]
        simp
      obtain ⟨c1, c2, c3⟩ := cut_of (B := B) h.ce.cr
      obtain ⟨d1, d2, d3⟩ := cut_of (B := D) (g.ce.inv g.prim.1).cr
      rw [← e'] at d1 d2 d3
      have hl := c1.uniq d1
      rw [← hl] at d2 d3
      have hPQ : inv Q = P := d2.symm.trans c2
      refine key (inv P) (d3.symm.trans c3) (by rw [← hPQ, inv_inv]) ?_
      have h1 : sh (P ++ inv P) = sh (inv P ++ P) := by rw [sh_inv_right, sh_inv_left]
      have h2 := comm_pow h1 n
      exact (comm_pow h2.symm k).symm
end Go.Proofs.YthldipnfaiobaabGreatDoor
