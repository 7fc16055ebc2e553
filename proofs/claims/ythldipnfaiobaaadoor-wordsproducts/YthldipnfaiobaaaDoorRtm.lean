/-
  The document's times.
-/
import Derived.Test.YthldipnfaiobaaaDoorRco
namespace Go.Proofs.YthldipnfaiobaaaDoor
open Go.RowKit Go.Lib Go.Sort
set_option linter.unusedVariables false
set_option linter.unusedSimpArgs false
set_option maxHeartbeats 3200000
set_option maxRecDepth 1000000
def TmQ (w : World) (L : List Int) (n : Nat) (e : Ending) (w' : World) : Prop :=
  ∃ (m q : Nat) (v : Value), Cut L m ∧ e = .returned v ∧ Fr w' w.heap.size v (inv (inv (L.take m)) ++ rp (coreOf L m) q ++ inv (L.take m)) ∧ w.grownBy w' none ∧ q ≤ n ∧ (inv (inv (L.take m)) ++ rp (coreOf L m) q).length ≤ 20000 ∧ (q = n ∨ (coreOf L m).length = 0 ∨ 8192 < (inv (inv (L.take m)) ++ rp (coreOf L m) q).length)
theorem times_any (w : World) (v : Value) (L : List Int) (n : Nat) (h : Ints w v L) (hl : L.length ≤ 4096) (hL : ∀ x ∈ L, noL x = false) (hn : n ≤ 9223372036854775807) :
    Calls Tryd.prog 60 #[v, .int .i64 (n : Int)] w fun e w' => TmQ w L n e w' := by
  have HCo := rCore_any w v L h (by omega) hL
  have HLn : Hid (∀ i, (inv (L.take i)).any noL = false) := fun i => any_no (inv_letters fun x hx => hL x (List.mem_of_mem_take hx))
  have HLl : Hid (L.length ≤ 4096) := hl
  obtain ⟨va, vc, rfl, _⟩ := h.reads
  have hnI : (n : Int) ≤ 9223372036854775807 := by omega
  clear h hL hl
  go_enter Tryd.func60, Tryd.ntmps60
  go_wp2_with fail
  refine HCo.mono ?_
  rintro e w1 ⟨m, u, v, hcut, rfl, hu, hv, hG1, _, _⟩
  have HCut : Hid (Cut L m) := hcut
  have HG1 : Hid (w.grownBy w1 none) := hG1
  have HU : Hid (Ints w1 u (coreOf L m)) := hu
  have HV : Hid (Ints w1 v (inv (L.take m))) := hv
  have hcl := coreOf_len L m hcut.le
  have hle := hcut.le
  have hLl := HLl.out
  have hbl : (inv (L.take m)).length = m := by rw [inv_len, List.length_take]; omega
  have HI := rInverse_any w1 v _ hv (by omega) (HLn.out m)
  have HQ : Hid (∀ q v' w', w.grownBy w' none → q ≤ n → (inv (inv (L.take m)) ++ rp (coreOf L m) q).length ≤ 20000 → (q = n ∨ (coreOf L m).length = 0 ∨ 8192 < (inv (inv (L.take m)) ++ rp (coreOf L m) q).length) → Fr w' w.heap.size v' (inv (inv (L.take m)) ++ rp (coreOf L m) q ++ inv (L.take m)) → TmQ w L n (.returned v') w') := fun q v' w' hg h1 hb h2 h3 => ⟨m, q, v', HCut.out, rfl, h3, hg, h1, hb, h2⟩
  obtain ⟨ua, uc, rfl, _⟩ := hu.reads
  obtain ⟨vb, vd, rfl, _⟩ := hv.reads
  have hil : (inv (inv (L.take m))).length = m := by rw [inv_len, hbl]
  have HCl : Hid ((coreOf L m).length ≤ 4096 ∧ m ≤ 4096) := by show _ ∧ _; omega
  generalize coreOf L m = C at *
  generalize inv (L.take m) = B at *
  generalize inv B = D at *
  obtain ⟨k, hk⟩ : ∃ k, C.length = k := ⟨_, rfl⟩
  have HK : Unit → C.length = k ∧ D.length = m ∧ B.length = m := fun _ => ⟨hk, hil, hbl⟩
  rw [hk] at HU HCl ⊢
  rw [hbl] at HV HI ⊢
  have hkI : (k : Int) ≤ 4096 := by have := HCl.out; omega
  clear hu hv hcut hG1 hcl hle hbl hil hk hLl
  go_wp2_with fail
  refine HI.mono ?_
  rintro e w2 ⟨v2, rfl, hO2, hG2⟩
  have HO2 : Hid (Own w2 w1.heap.size v2 D) := hO2
  have HG2 : Hid (w1.grownBy w2 none) := hG2
  clear hO2 hG2
  go_wp2_with fail
  go_loopw [7, 8] (fun s t wr => ∃ (q : Nat), q ≤ n ∧ t = .int .i64 (q : Int) ∧ (D ++ rp C q).length ≤ 20000 ∧ Own wr w1.heap.size s (D ++ rp C q) ∧ w1.grownBy wr none) (fun _ t _ => match t with | .int _ i => n - i.toNat | _ => 0)
  case atStart => exact ⟨0, by omega, rfl, by have := HK (); have := HCl.out; simp [rp]; omega, by rw [rp, List.append_nil]; exact HO2.out, HG2.out⟩
  case round =>
    obtain ⟨q, hq, rfl, hlen, hO, hG⟩ := hrel
    have HG : Hid (w1.grownBy wr none) := hG
    obtain ⟨bb, cc, rfl⟩ := hO.form
    have HO : Hid (Own wr w1.heap.size (.slice bb (D ++ rp C q).length cc) (D ++ rp C q)) := hO
    have HNx : Hid (D ++ rp C (q + 1) = D ++ rp C q ++ C) := by show _ = _; rw [rp, List.append_assoc]
    obtain ⟨z, hz⟩ : ∃ z, (D ++ rp C q).length = z := ⟨_, rfl⟩
    have HZ : Unit → (D ++ rp C q).length = z := fun _ => hz
    rw [hz] at hlen HO ⊢
    have hzI : (z : Int) ≤ 20000 := by omega
    have hqI : (q : Int) ≤ n := by omega
    clear hO hG hz
    by_cases hqn : q < n
    · have hqnI : (q : Int) < n := by omega
      by_cases hz8 : z ≤ 8192
      · have hz8I : (z : Int) ≤ 8192 := by omega
        by_cases hk0 : 0 < k
        · have hk0I : (0 : Int) < k := by omega
          have HLen : Hid ((D ++ rp C q).length + C.length ≤ 1000000000000) := by show _ ≤ _; rw [HZ (), (HK ()).1]; have := HCl.out; omega
          have HS : Hid (w1.heap.size ≤ wr.heap.size) := HG.out.size
          go_wp2_with (at_builtin; refine wpList_append_ints rfl _ _ rfl w1.heap.size (.slice bb z cc) (D ++ rp C q) rfl HO.out (.slice ua k uc) C rfl (HU.out.kept HG.out) HLen.out HS.out ?_)
          intro v' w' hO' hg'
          rw [← List.append_assoc, ← HNx.out] at hO'
          have HO' : Hid (Own w' w1.heap.size v' (D ++ rp C (q + 1))) := hO'
          have HG' : Hid (w1.grownBy w' none) := grownBy_own HG.out HO.out hg'
          have HL' : Hid ((D ++ rp C (q + 1)).length ≤ 20000) := by show _ ≤ _; rw [HNx.out, List.length_append, HZ (), (HK ()).1]; have := HCl.out; omega
          clear hO' hg'
          go_wp2_with fail
          go_roundw
          case rel => exact ⟨q + 1, by omega, num_eq (by omega), HL'.out, HO'.out, HG'.out⟩
          case measure => simp; omega
        · have hk00 : k = 0 := by omega
          subst hk00
          have HLen : Hid ((D ++ rp C q).length + B.length ≤ 1000000000000) := by show _ ≤ _; rw [HZ (), (HK ()).2.2]; have := HCl.out; omega
          have HS : Hid (w1.heap.size ≤ wr.heap.size) := HG.out.size
          have HFin : Hid (∀ v' w', Own w' w1.heap.size v' (D ++ rp C q ++ B) → wr.grownBy w' (Value.slice bb z cc).ownBlock → TmQ w L n (.returned v') w') := fun v' w' hO' hg' => HQ.out q v' w' (grownBy_trans HG1.out (grownBy_own HG.out HO.out hg')) hq (by rw [HZ ()]; omega) (.inr (.inl (HK ()).1)) (hO'.fr.mono HG1.out.size)
          go_wp2_with (at_builtin; refine wpList_append_ints rfl _ _ rfl w1.heap.size (.slice bb z cc) (D ++ rp C q) rfl HO.out (.slice vb m vd) B rfl (HV.out.kept HG.out) HLen.out HS.out ?_)
          intro v' w' hO' hg'
          rw [← List.append_assoc] at hO'
          have HE : Hid (TmQ w L n (.returned v') w') := HFin.out v' w' hO' hg'
          clear hO' hg'
          go_wp2_with fail
          go_ret
          exact HE.out
      · have hz8I : 8192 < (z : Int) := by omega
        have HLen : Hid ((D ++ rp C q).length + B.length ≤ 1000000000000) := by show _ ≤ _; rw [HZ (), (HK ()).2.2]; have := HCl.out; omega
        have HS : Hid (w1.heap.size ≤ wr.heap.size) := HG.out.size
        have HFin : Hid (∀ v' w', Own w' w1.heap.size v' (D ++ rp C q ++ B) → wr.grownBy w' (Value.slice bb z cc).ownBlock → TmQ w L n (.returned v') w') := fun v' w' hO' hg' => HQ.out q v' w' (grownBy_trans HG1.out (grownBy_own HG.out HO.out hg')) hq (by rw [HZ ()]; omega) (.inr (.inr (by rw [HZ ()]; omega))) (hO'.fr.mono HG1.out.size)
        go_wp2_with (at_builtin; refine wpList_append_ints rfl _ _ rfl w1.heap.size (.slice bb z cc) (D ++ rp C q) rfl HO.out (.slice vb m vd) B rfl (HV.out.kept HG.out) HLen.out HS.out ?_)
        intro v' w' hO' hg'
        rw [← List.append_assoc] at hO'
        have HE : Hid (TmQ w L n (.returned v') w') := HFin.out v' w' hO' hg'
        clear hO' hg'
        go_wp2_with fail
        go_ret
        exact HE.out
    · have e : q = n := by omega
      subst e
      have HLen : Hid ((D ++ rp C q).length + B.length ≤ 1000000000000) := by show _ ≤ _; rw [HZ (), (HK ()).2.2]; have := HCl.out; omega
      have HS : Hid (w1.heap.size ≤ wr.heap.size) := HG.out.size
      have HFin : Hid (∀ v' w', Own w' w1.heap.size v' (D ++ rp C q ++ B) → wr.grownBy w' (Value.slice bb z cc).ownBlock → TmQ w L q (.returned v') w') := fun v' w' hO' hg' => HQ.out q v' w' (grownBy_trans HG1.out (grownBy_own HG.out HO.out hg')) (Nat.le_refl _) (by rw [HZ ()]; omega) (.inl rfl) (hO'.fr.mono HG1.out.size)
      go_wp2_with (at_builtin; refine wpList_append_ints rfl _ _ rfl w1.heap.size (.slice bb z cc) (D ++ rp C q) rfl HO.out (.slice vb m vd) B rfl (HV.out.kept HG.out) HLen.out HS.out ?_)
      intro v' w' hO' hg'
      rw [← List.append_assoc] at hO'
      have HE : Hid (TmQ w L q (.returned v') w') := HFin.out v' w' hO' hg'
      clear hO' hg'
      go_wp2_with fail
      go_ret
      exact HE.out
end Go.Proofs.YthldipnfaiobaaaDoor
