/-
  The program's product, (pieces).told and Mul.
-/
import Derived.Test.YthldipnfaiobaabGreatDoorTms
import Derived.Test.YthldipnfaiobaabGreatDoorTop
namespace Go.Proofs.YthldipnfaiobaabGreatDoor
open Go.RowKit Go.Lib Go.Sort
set_option linter.unusedVariables false
set_option linter.unusedSimpArgs false
set_option maxHeartbeats 3200000
set_option maxRecDepth 1000000
def PdQ (w : World) (M : List Int) (n : Nat) (e : Ending) (w' : World) : Prop :=
  ∃ v' Ps, e = .returned v' ∧ Pc w' w.heap.size v' Ps ∧ Ps.flatten = sh M ∧ Ps.length ≤ n ∧ (∀ l ∈ Ps, 0 < l.length ∧ l.length ≤ 1000000) ∧ w.grownBy w' none
structure PdS (w : World) (M : List Int) (n : Nat) (s : Value) (Ps : List (List Int)) (wr : World) : Prop where
  pc : Pc wr w.heap.size s Ps
  eq : Ps.flatten = sh M
  len : Ps.length ≤ n
  each : ∀ l ∈ Ps, 0 < l.length ∧ l.length ≤ 1000000
  grown : w.grownBy wr none
theorem PdS.times {w wr w2 : World} {M : List Int} {n : Nat} {s t : Value} {Ps : List (List Int)} {L : List Int} (h : PdS w M n s Ps wr) (hM : ∀ x ∈ M, noL x = false) (hL : ∀ x ∈ L, noL x = false) (hl : L.length ≤ 1000000) (hr : Red L) (hg : wr.grownBy w2 none) (ht : Fr w2 0 t L) : TmsS w2 w.heap.size s Ps L s t Ps L w2 :=
  ⟨h.pc.kept0 hg, ht, by rw [h.eq]; exact red_sh _, hr, rfl, Nat.le_refl _, h.each, hl, fun x hx => hM x (sh_mem (by rw [← h.eq]; exact hx)), hL, rfl, grownBy_any (grow0 _)⟩
theorem PdS.next {w wr w2 w3 : World} {M : List Int} {n : Nat} {s v' : Value} {Ps : List (List Int)} {L : List Int} (h : PdS w M n s Ps wr) (hg : wr.grownBy w2 none) {e : Ending} (k : TmsQ w2 w.heap.size s Ps L e w3) : ∃ v' Ps', e = .returned v' ∧ PdS w (M ++ L) (n + 1) v' Ps' w3 := by
  obtain ⟨v', Ps', rfl, h1, h2, h3, h4, h5⟩ := k
  refine ⟨v', Ps', rfl, ⟨h1, by rw [h2, h.eq, sh_left], by have := h.len; omega, h4, ?_⟩⟩
  have hgg := grownBy_trans h.grown hg
  cases hb : s.ownBlock with
  | none => rw [hb] at h5; exact grownBy_trans hgg h5
  | some g =>
    rw [hb] at h5
    refine grownBy_new hgg ?_ h5
    rcases h.pc.cases with ⟨rfl, _⟩ | ⟨g', c, rfl, hb', _⟩
    · simp [Value.ownBlock] at hb
    · simp [Value.ownBlock] at hb
      omega
theorem PdS.swap {w wr : World} {M M' : List Int} {n : Nat} {s : Value} {Ps : List (List Int)} (h : PdS w M n s Ps wr) (e : sh M = sh M') : PdS w M' n s Ps wr := ⟨h.pc, h.eq.trans e, h.len, h.each, h.grown⟩
theorem product_any (w : World) (v : Value) (Ls : List (List Int)) (h : IntsL w v Ls) (hl : Ls.length ≤ 1000000) (hl2 : ∀ L ∈ Ls, L.length ≤ 1000000) (hN : ∀ L ∈ Ls, L.any noL = false) :
    Calls Tryz.prog 21 #[v] w fun e w' => PdQ w Ls.flatten Ls.length e w' := by
  obtain ⟨ab, c, rfl, HR⟩ := h.reads
  have HR1 : Hid (∀ w', w.grownBy w' none → ∀ i, i < Ls.length → ∃ B off u, ab = some ⟨B, off, none⟩ ∧ w'.cell? ⟨B, off + i, none⟩ = some u ∧ Ints w' u (Ls[i]?.getD []) ∧ Ls.length ≤ c) := HR
  have HL : Hid (∀ L ∈ Ls, L.length ≤ 1000000 ∧ L.any noL = false) := fun L hL => ⟨hl2 L hL, hN L hL⟩
  obtain ⟨n, hn⟩ : ∃ n, Ls.length = n := ⟨_, rfl⟩
  have HNn : Unit → Ls.length = n := fun _ => hn
  have hnI : (n : Int) ≤ 1000000 := by omega
  rw [hn] at HR1 ⊢
  have HLn : Hid (n ≤ 1000000) := by show n ≤ 1000000; omega
  clear HR h hl hn hl2 hN
  go_enter Tryz.func21, Tryz.ntmps21
  go_wp2_with fail
  go_loopw [3, 8] (fun s t wr => ∃ (i : Nat) (Ps : List (List Int)), i ≤ n ∧ t = .int .i64 (i : Int) ∧ PdS w (Ls.take i).flatten i s Ps wr) (fun _ t _ => match t with | .int _ i => n - i.toNat | _ => 0)
  case atStart => exact ⟨0, [], by omega, rfl, ⟨Pc.nil _ _, rfl, by simp, by simp, grow0 _⟩⟩
  case round =>
    obtain ⟨i, Ps, hi, rfl, hS⟩ := hrel
    have HS : Hid (PdS w (Ls.take i).flatten i u3 Ps wr) := hS
    clear hS
    by_cases hlt : i < n
    · obtain ⟨B, off, x, rfl, hc, hx, hnc⟩ := HR1.out wr HS.out.grown i hlt
      have hlt' : i < Ls.length := by rw [HNn ()]; exact hlt
      have HT : Hid ((Ls.take (i + 1)).flatten = (Ls.take i).flatten ++ (Ls[i]?.getD [])) := joined_snoc Ls i hlt'
      have hltI : (i : Int) < n := by omega
      have HB : Hid ((Ls[i]?.getD []).length ≤ 1000000 ∧ (Ls[i]?.getD []).any noL = false) := by
        rw [List.getElem?_eq_getElem hlt']
        exact HL.out _ (List.getElem_mem hlt')
      have HA : Hid (∀ x ∈ (Ls.take i).flatten, noL x = false) := by
        intro x hx
        obtain ⟨l, hl, hxl⟩ := List.mem_flatten.1 hx
        simpa using List.any_eq_false.1 (HL.out l (List.mem_of_mem_take hl)).2 x hxl
      generalize Ls[i]?.getD [] = L at *
      have HX : Hid (Ints wr x L) := hx
      obtain ⟨xb, xc, rfl, _⟩ := hx.reads
      obtain ⟨m, hm⟩ : ∃ m, L.length = m := ⟨_, rfl⟩
      rw [hm] at HX hc
      clear hm hx
      obtain ⟨sb, sc, hsf⟩ := HS.out.pc.form
      subst hsf
      go_wp2_with fail
      refine (short_fr wr _ L HX.out HB.out.1 HB.out.2).mono ?_
      rintro e w2 ⟨rfl, hF, hG⟩
      have HG2 : Hid (wr.grownBy w2 none) := hG
      have HF : Hid (TmsS w2 w.heap.size (.slice sb Ps.length sc) Ps (sh L) (.slice sb Ps.length sc) (.slice (some ⟨wr.heap.size, 0, none⟩) (sh L).length (sh L).length) Ps (sh L) w2) := HS.out.times HA.out (fun x hx => by simpa using List.any_eq_false.1 HB.out.2 x (sh_mem hx)) (Nat.le_trans (sh_len L) HB.out.1) (red_sh L) hG (hF.mono (Nat.zero_le _))
      have HW : Hid (w.heap.size ≤ w2.heap.size) := Nat.le_trans HS.out.grown.size hG.size
      clear hF hG hc
      obtain ⟨k, hk⟩ : ∃ k, (sh L).length = k := ⟨_, rfl⟩
      rw [hk] at HF ⊢
      clear hk
      obtain ⟨k2, hk2⟩ : ∃ k2, Ps.length = k2 := ⟨_, rfl⟩
      rw [hk2] at HF HS ⊢
      have HK2 : Unit → Ps.length = k2 := fun _ => hk2
      clear hk2
      go_wp2_with fail
      refine (ptimes_any w2 w.heap.size _ _ Ps (sh L) HF.out (by have := HS.out.len; have := HLn.out; omega) HW.out).mono ?_
      intro e w3 hQ
      obtain ⟨v', Ps', rfl, hS'⟩ := HS.out.next (v' := .slice none 0 0) HG2.out hQ
      have HS' : Hid (PdS w (Ls.take (i + 1)).flatten (i + 1) v' Ps' w3) := hS'.swap (by rw [HT.out, sh_right])
      clear hQ hS'
      go_wp2_with fail
      go_roundw
      case rel => exact ⟨i + 1, Ps', by omega, by simp, HS'.out⟩
      case measure => simp; omega
    · have e : i = n := by omega
      subst e
      have HTt : Hid (Ls.take i = Ls) := by show _ = _; rw [← HNn (), List.take_length]
      go_wp2_with fail
      go_ret
      refine ⟨_, Ps, rfl, HS.out.pc, ?_, HS.out.len, HS.out.each, HS.out.grown⟩
      rw [HS.out.eq, HTt.out]
end Go.Proofs.YthldipnfaiobaabGreatDoor
