/-
  The program's (pieces).told and Mul.
-/
import Derived.Test.YthldipnfaiobaabGreatDoorPrd
namespace Go.Proofs.YthldipnfaiobaabGreatDoor
open Go.RowKit Go.Lib Go.Sort
set_option linter.unusedVariables false
set_option linter.unusedSimpArgs false
set_option maxHeartbeats 3200000
set_option maxRecDepth 1000000
def tldE (M : List Int) : Int := if 4096 < M.length then 3 else 0
def tldL (M : List Int) : List Int := if 4096 < M.length then [] else M
theorem ptold_any (w : World) (v : Value) (Ls : List (List Int)) (h : IntsL w v Ls) (hl : Ls.length ≤ 1000000) (hl2 : Ls.flatten.length ≤ 1000000000) :
    Calls Tryz.prog 22 #[v] w fun e w' => Told1 w e w' (tldE Ls.flatten) (tldL Ls.flatten) := by
  have HC := letters_any w v Ls h hl hl2
  obtain ⟨ab, c, rfl, HR⟩ := h.reads
  have HR1 : Hid (∀ i, i < Ls.length → ∃ B off u, ab = some ⟨B, off, none⟩ ∧ w.cell? ⟨B, off + i, none⟩ = some u ∧ Ints w u (Ls[i]?.getD []) ∧ Ls.length ≤ c) := fun i hi => HR w (grow0 w) i hi
  have HL2 : Hid (Ls.flatten.length ≤ 1000000000) := hl2
  obtain ⟨n, hn⟩ : ∃ n, Ls.length = n := ⟨_, rfl⟩
  have HN : Unit → Ls.length = n := fun _ => hn
  have hnI : (n : Int) ≤ 1000000 := by omega
  rw [hn] at HR1 HC ⊢
  have HC1 : Hid (Calls Tryz.prog 42 #[.slice ab n c] w fun e w' => ∃ v', e = .returned v' ∧ Own w' w.heap.size v' Ls.flatten ∧ w.grownBy w' none) := HC
  clear HR h hl hn hl2 HC
  go_enter Tryz.func22, Tryz.ntmps22
  go_wp2_with fail
  go_loopw [4, 9] (fun s t wr => ∃ (i : Nat), i ≤ n ∧ t = .int .i64 (i : Int) ∧ s = .int .i64 (((Ls.take i).flatten.length : Nat) : Int) ∧ w = wr) (fun _ t _ => match t with | .int _ i => n - i.toNat | _ => 0)
  case atStart => exact ⟨0, by omega, rfl, rfl, rfl⟩
  case round =>
    obtain ⟨i, hi, rfl, rfl, rfl⟩ := hrel
    by_cases hlt : i < n
    · obtain ⟨B, off, u, rfl, hc, hu, hnc⟩ := HR1.out i hlt
      have hlt' : i < Ls.length := by rw [HN ()]; exact hlt
      have HT : Hid ((Ls.take (i + 1)).flatten.length = (Ls.take i).flatten.length + (Ls[i]?.getD []).length) := by
        show _ = _
        rw [joined_snoc Ls i hlt', List.length_append]
      have HLen : Hid ((Ls.take i).flatten.length + (Ls[i]?.getD []).length ≤ 1000000000) := by
        have h1 := HL2.out
        have h2 := flatten_take_le Ls i hlt'
        show _ ≤ _
        omega
      have hltI : (i : Int) < n := by omega
      obtain ⟨ub, uc, rfl, _⟩ := hu.reads
      clear hu
      generalize Ls[i]?.getD [] = M at *
      obtain ⟨m2, hm2⟩ : ∃ m2, M.length = m2 := ⟨_, rfl⟩
      rw [hm2] at HLen HT hc
      generalize (Ls.take i).flatten.length = m at *
      have h1 := HLen.out
      have h1I : (m : Int) + m2 ≤ 1000000000 := by omega
      have hp : (0 : Int) ≤ m + m2 := by omega
      clear hm2
      go_wp2_with fail
      go_roundw
      case rel => exact ⟨i + 1, by omega, by simp, by rw [HT.out]; simp, trivial⟩
      case measure => simp; omega
    · have e : i = n := by omega
      subst e
      have HTt : Hid (Ls.take i = Ls) := by show _ = _; rw [← HN (), List.take_length]
      rw [HTt.out]
      obtain ⟨m, hm⟩ : ∃ m, Ls.flatten.length = m := ⟨_, rfl⟩
      have HM : Unit → Ls.flatten.length = m := fun _ => hm
      have hmI : (m : Int) ≤ 1000000000 := by have := HL2.out; omega
      rw [hm]
      clear hm
      by_cases hbig : 4096 < m
      · have hbI : (4096 : Int) < m := by omega
        go_wp2_with fail
        go_ret2
        unfold tldE tldL
        rw [HM (), if_pos hbig, if_pos hbig]
        exact ⟨grow0 _, _, rfl, Fr.nil _ _⟩
      · have hbI : ¬ (4096 : Int) < m := by omega
        go_wp2_with fail
        refine HC1.out.mono ?_
        rintro e w2 ⟨v2, rfl, hO, hG⟩
        have HF : Hid (Fr w2 w.heap.size v2 Ls.flatten) := hO.fr
        have HG : Hid (w.grownBy w2 none) := hG
        clear hO hG
        go_wp2_with fail
        go_ret2
        unfold tldE tldL
        rw [HM (), if_neg hbig, if_neg hbig]
        exact ⟨HG.out, _, rfl, HF.out⟩
def mulE (Ls : List (List Int)) : Int := if chk Ls = 0 then tldE (sh Ls.flatten) else chk Ls
def mulL (Ls : List (List Int)) : List Int := if chk Ls = 0 then tldL (sh Ls.flatten) else []
theorem flat_len {Ls : List (List Int)} (h : ∀ L ∈ Ls, L.length ≤ 4096) : Ls.flatten.length ≤ Ls.length * 4096 := by
  induction Ls with
  | nil => simp
  | cons L Ls ih =>
    have h1 := h L (by simp)
    have h2 := ih fun l hl => h l (by simp [hl])
    rw [List.flatten_cons, List.length_append, List.length_cons]
    omega
theorem mul_top (w : World) (v : Value) (Ls : List (List Int)) (h : IntsL w v Ls) (hl : Ls.length ≤ 100000) (hl2 : ∀ L ∈ Ls, L.length ≤ 1000000000000) :
    Calls Tryz.prog 6 #[v] w fun e w' => Told1 w e w' (mulE Ls) (mulL Ls) := by
  have HC := checked_any w v Ls h (by omega) hl2
  have HI : Hid (IntsL w v Ls) := h
  have HOk : Hid (chk Ls = 0 → ∀ L ∈ Ls, L.any noL = false ∧ L.length ≤ 4096) := fun h0 => chk_ok h0
  have HLn : Hid (Ls.length ≤ 100000) := hl
  obtain ⟨ab, c, rfl, _⟩ := h.reads
  clear h hl hl2
  obtain ⟨n, hn⟩ : ∃ n, Ls.length = n := ⟨_, rfl⟩
  have HN : Unit → Ls.length = n := fun _ => hn
  rw [hn] at HC HI ⊢
  clear hn
  obtain ⟨r, hr⟩ : ∃ r, chk Ls = r := ⟨_, rfl⟩
  have HE : Hid (chk Ls = r) := hr
  rw [hr] at HC HOk
  clear hr
  by_cases h0 : r = 0
  · subst h0
    have HO2 : Hid (∀ L ∈ Ls, L.any noL = false ∧ L.length ≤ 4096) := HOk.out rfl
    clear HOk
    go_enter Tryz.func6, Tryz.ntmps6
    go_wp2_with fail
    refine HC.mono ?_
    rintro e w1 ⟨rfl, hw⟩
    obtain rfl := hw.symm
    go_wp2_with fail
    refine (product_any w _ Ls HI.out (by have := HLn.out; omega) (fun L hL => by have := (HO2.out L hL).2; omega) (fun L hL => (HO2.out L hL).1)).mono ?_
    rintro e w2 ⟨v2, Ps, rfl, hP, hf, hlen, heach, hG⟩
    have hPl : Ps.length ≤ 1000000 := by have := HLn.out; have := HN (); omega
    have hfl : Ps.flatten.length ≤ 1000000000 := by
      rw [hf]
      have h1 := sh_len Ls.flatten
      have h2 := flat_len fun L hL => (HO2.out L hL).2
      have := HLn.out
      omega
    have HT : Hid (Calls Tryz.prog 22 #[v2] w2 fun e w' => Told1 w2 e w' (tldE Ps.flatten) (tldL Ps.flatten)) := ptold_any w2 v2 Ps hP.intsL hPl hfl
    obtain ⟨vb, vc, rfl⟩ := hP.form
    rw [hf] at HT
    have HG : Hid (w.grownBy w2 none) := hG
    clear hP hf hlen heach hG hPl hfl
    obtain ⟨k, hk⟩ : ∃ k, Ps.length = k := ⟨_, rfl⟩
    rw [hk] at HT ⊢
    clear hk
    go_wp2_with fail
    refine HT.out.mono ?_
    rintro e w3 ⟨hG3, v3, rfl, hF3⟩
    have HF : Hid (Told1 w (.returned (.tuple #[v3, .int .i64 (tldE (sh Ls.flatten))])) w3 (mulE Ls) (mulL Ls)) := by
      refine ⟨grownBy_trans HG.out hG3, v3, ?_, ?_⟩
      · unfold mulE
        rw [if_pos HE.out]
      · unfold mulL
        rw [if_pos HE.out]
        exact hF3.mono HG.out.size
    clear hG3 hF3
    generalize tldE (sh Ls.flatten) = y at *
    go_wp2_with fail
    go_ret2
    exact HF.out
  · have hb : (r != 0) = true := by simpa using h0
    have HR : Hid (r ≠ 0) := h0
    clear h0
    go_enter Tryz.func6, Tryz.ntmps6
    go_wp2_with fail
    refine HC.mono ?_
    rintro e w1 ⟨rfl, hw⟩
    obtain rfl := hw.symm
    go_wp2_with fail
    go_ret2
    unfold mulE mulL
    rw [HE.out, if_neg HR.out, if_neg HR.out]
    exact ⟨grow0 _, _, rfl, Fr.nil _ _⟩
end Go.Proofs.YthldipnfaiobaabGreatDoor
