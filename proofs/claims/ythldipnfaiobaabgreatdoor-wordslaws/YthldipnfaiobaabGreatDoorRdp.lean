/-
  The program's Read.
-/
import Derived.Test.YthldipnfaiobaabGreatDoorLtr
import Derived.Test.YthldipnfaiobaabGreatDoorRoo
namespace Go.Proofs.YthldipnfaiobaabGreatDoor
open Go.RowKit Go.Lib Go.Sort
set_option linter.unusedVariables false
set_option linter.unusedSimpArgs false
set_option maxHeartbeats 3200000
set_option maxRecDepth 1000000
def rdE (S : List Nat) : Int := if S = [46] then 0 else match rdV S with | some _ => 0 | none => 260
def rdL (S : List Nat) : List Int := if S = [46] then [] else match rdV S with | some V => V | none => []
structure RdS (w wr : World) (S : List Nat) (T : ByteArray) (W : List Int) (x : Value) (m : Bool) : Prop where
  own : Own wr w.heap.size x W
  grown : w.grownBy wr none
  tlen : T.size ≤ 20000
  wlen : W.length ≤ 4096
  no : ∀ y ∈ W, noL y = false
  more : m = true → S = pre W ++ bN T
  done : m = false → RdOk S W
theorem RdS.nope {w wr : World} {S : List Nat} {T a b : ByteArray} {W : List Int} {x : Value} {f : Bool} (h : RdS w wr S T W x true) (hc : CutQ T a b f) (hb : (∀ l, noL l = false → a ≠ itB l) ∨ W.length = 4096) : rdV S = none := by
  cases hr : rdV S with
  | none => rfl
  | some V =>
    exfalso
    have hA : (∀ y ∈ bN a, y ≠ 32) ∧ (bN T = bN a ∨ ∃ B, bN T = bN a ++ 32 :: B) := by
      rcases hc with ⟨_, h1, h2⟩ | ⟨_, rfl, h2⟩
      · exact ⟨h2, .inr ⟨_, h1⟩⟩
      · exact ⟨h2, .inl rfl⟩
    obtain ⟨⟨k, hk, e⟩, hl⟩ := rd_next (rdV_is hr) h.no (h.more rfl) hA.1 hA.2
    rcases hb with hb | hb
    · exact hb k hk ((itN_is k a).1 e)
    · omega
theorem RdS.next {w wr w1 w2 : World} {S : List Nat} {T a b : ByteArray} {W : List Int} {x x' : Value} {f : Bool} {k : Int} (h : RdS w wr S T W x true) (hc : CutQ T a b f) (hbs : b.size ≤ T.size) (hk : noL k = false) (ha : a = itB k) (hl : W.length ≠ 4096) (ho : Own w2 w.heap.size x' (W ++ [k])) (hg : w.grownBy w2 none) : RdS w w2 S b (W ++ [k]) x' f := by
  have hit := (itN_is k a).2 ha
  refine ⟨ho, hg, Nat.le_trans hbs h.tlen, by have := h.wlen; simp; omega, fun y hy => ?_, fun e => ?_, fun e => ?_⟩
  · rcases List.mem_append.1 hy with hy | hy
    · exact h.no y hy
    · simp at hy; rw [hy]; exact hk
  · rcases hc with ⟨_, h1, h2⟩ | ⟨e2, _⟩
    · rw [h.more rfl, h1, hit, pre_snoc]
      simp
    · rw [e] at e2; cases e2
  · rcases hc with ⟨e2, _⟩ | ⟨_, rfl, _⟩
    · rw [e] at e2; cases e2
    · refine ⟨by simp, fun y hy => ?_, by have := h.wlen; simp; omega, ?_⟩
      · rcases List.mem_append.1 hy with hy | hy
        · exact h.no y hy
        · simp at hy; rw [hy]; exact hk
      · rw [h.more rfl, hit, jnN_snoc]
theorem read_top (s : ByteArray) (hs : s.size ≤ 20000) (w : World) (he : Errs w) (ht : Tab w) :
    Calls Tryz.prog 28 #[.string s] w fun e w' => Told1 w e w' (rdE (bN s)) (rdL (bN s)) := by
  have HE : Hid (Errs w) := he
  have HT : Hid (Tab w) := ht
  clear he ht
  have hdot : bN s = [46] ↔ s.toList = [46] := by
    unfold bN
    rw [ByteArray.toList_eq]
    constructor
    · intro h
      have : s.data.toList.map UInt8.toNat = ([46] : List UInt8).map UInt8.toNat := h
      exact (List.map_inj_right (fun a b hab => UInt8.toNat_inj.1 hab)).1 this
    · intro h; rw [h]; rfl
  have HRE : Hid (rdE (bN s) = (if bN s = [46] then 0 else match rdV (bN s) with | some _ => 0 | none => 260) ∧ rdL (bN s) = (if bN s = [46] then [] else match rdV (bN s) with | some V => V | none => [])) := ⟨rfl, rfl⟩
  by_cases h46 : s.toList = [46]
  · have hb : (s.toList == [46]) = true := by simpa using h46
    have HR2 : Hid (rdE (bN s) = 0 ∧ rdL (bN s) = []) := by
      refine ⟨?_, ?_⟩
      · rw [HRE.out.1, if_pos (hdot.2 h46)]
      · rw [HRE.out.2, if_pos (hdot.2 h46)]
    clear HRE hdot h46
    go_enter Tryz.func28, Tryz.ntmps28
    go_wp2_with fail
    go_ret2
    rw [HR2.out.1, HR2.out.2]
    exact ⟨grow1 _ _, _, rfl, (Own.empty w (0, 0)).fr⟩
  · have hb : (s.toList == [46]) = false := by simpa using h46
    have HR2 : Hid ((rdV (bN s) = none → rdE (bN s) = 260 ∧ rdL (bN s) = []) ∧ ∀ V, rdV (bN s) = some V → rdE (bN s) = 0 ∧ rdL (bN s) = V) := by
      have h1 := HRE.out
      rw [if_neg (fun e => h46 (hdot.1 e)), if_neg (fun e => h46 (hdot.1 e))] at h1
      refine ⟨fun e => ?_, fun V e => ?_⟩
      · rw [h1.1, h1.2, e]
        exact ⟨rfl, rfl⟩
      · rw [h1.1, h1.2, e]
        exact ⟨rfl, rfl⟩
    generalize rdE (bN s) = rE at *
    generalize rdL (bN s) = rL at *
    have HS0 : Hid (RdS w (w.alloc (.cells #[] 3 (0, 0))) (bN s) s [] (.slice (some ⟨w.heap.size, 0, none⟩) 0 0) true) := ⟨Own.empty w (0, 0), grow1 _ _, hs, by simp, by simp, fun _ => by simp [pre], fun e => by cases e⟩
    generalize bN s = S at *
    clear HRE hdot h46 hs
    go_enter Tryz.func28, Tryz.ntmps28
    go_wp2_with fail
    go_loopw [0, 4, 5] (fun u x t wr => ∃ (T : ByteArray) (W : List Int) (m : Bool), u = .string T ∧ t = .bool m ∧ RdS w wr S T W x m) (fun u _ t _ => match u, t with | .string T, .bool true => T.size + 1 | _, _ => 0)
    case atStart => exact ⟨s, [], true, rfl, rfl, HS0.out⟩
    case round =>
      obtain ⟨T, W, m, rfl, rfl, hS⟩ := hrel
      have HS : Hid (RdS w wr S T W u4 m) := hS
      clear hS
      cases m with
      | true =>
        have HC := cut_blank T HS.out.tlen wr
        go_wp2_with fail
        refine HC.mono ?_
        rintro e w1 ⟨a, b, f, rfl, hc, ha, hb2, g1⟩
        have HQ : Hid (CutQ T a b f ∧ a.size ≤ T.size ∧ b.size ≤ T.size) := ⟨hc, ha, hb2⟩
        have HFs : Hid (f = true → b.size < T.size) := by
          intro e
          rcases hc with ⟨_, h1, _⟩ | ⟨e2, _⟩
          · have := congrArg List.length h1
            rw [List.length_append, List.length_cons, bN_length, bN_length, bN_length] at this
            omega
          · rw [e] at e2; cases e2
        have G1 : Hid (w.grownBy w1 none) := grownBy_trans HS.out.grown g1
        have HO1 : Hid (Own w1 w.heap.size u4 W) := HS.out.own.kept0 g1
        clear hc ha hb2 g1 HC
        go_wp2_with fail
        refine (letter_any a (by have := HQ.out.2.1; have := HS.out.tlen; omega) w1 (HE.out.kept G1.out) (HT.out.kept G1.out)).mono ?_
        rintro e w2 ⟨k, ok, rfl, hq, g2⟩
        have G2 : Hid (w.grownBy w2 none) := grownBy_trans G1.out g2
        have HO2 : Hid (Own w2 w.heap.size u4 W) := HO1.out.kept0 g2
        clear g2 HO1
        rcases hq with ⟨rfl, hk, hak⟩ | ⟨rfl, hno⟩
        · obtain ⟨ob, oc, rfl⟩ := HO2.out.form
          have HK : Hid (noL k = false ∧ a = itB k) := ⟨hk, hak⟩
          have hwl := HS.out.wlen
          obtain ⟨n, hn⟩ : ∃ n, W.length = n := ⟨_, rfl⟩
          have HN : Unit → W.length = n := fun _ => hn
          rw [hn] at HO2 HS hwl ⊢
          have hnI : (n : Int) ≤ 4096 := by omega
          clear hk hak hn
          by_cases hful : n = 4096
          · have HV : Hid (rdV S = none) := HS.out.nope HQ.out.1 (.inr (by rw [HN ()]; exact hful))
            subst hful
            go_wp2_with fail
            go_ret2
            rw [(HR2.out.1 HV.out).1, (HR2.out.1 HV.out).2]
            exact ⟨G2.out, _, rfl, Fr.nil _ _⟩
          · have hfb : ((n : Int) == 4096) = false := by simpa using (show (n : Int) ≠ 4096 by omega)
            go_wp2_with (at_builtin; refine wpList_append_int rfl _ _ rfl w.heap.size (.slice ob n oc) W k rfl (HO2.out.kept0 (grow1 _ _)) (by have := HN (); omega) (by have := G2.out.size; simp; omega) _ rfl (by simp) ?_)
            intro v' w' hO' hg' _
            have HN' : Hid (RdS w w' S b (W ++ [k]) v' f) := HS.out.next (w1 := w2) HQ.out.1 HQ.out.2.2 HK.out.1 HK.out.2 (by rw [HN ()]; exact hful) hO' (grownBy_own (grownBy_trans G2.out (grow1 _ _)) (HO2.out.kept0 (grow1 _ _)) hg')
            clear hO' hg'
            go_wp2_with fail
            go_roundw
            case rel => exact ⟨b, W ++ [k], f, rfl, rfl, HN'.out⟩
            case measure =>
              cases f with
              | true => have := HFs.out rfl; simp; omega
              | false => simp
        · have HV : Hid (rdV S = none) := HS.out.nope HQ.out.1 (.inl hno)
          clear hno
          go_wp2_with fail
          go_ret2
          rw [(HR2.out.1 HV.out).1, (HR2.out.1 HV.out).2]
          exact ⟨G2.out, _, rfl, Fr.nil _ _⟩
      | false =>
        have HV : Hid (rdV S = some W) := rdV_ok (HS.out.done rfl)
        have HO := HS.out.own
        have hne := (HS.out.done rfl).1
        obtain ⟨g, c, rfl, hgb, hlc⟩ : ∃ g c, u4 = .slice (some ⟨g, 0, none⟩) W.length c ∧ w.heap.size ≤ g ∧ W.length ≤ c := by
          rcases HO.cases with ⟨_, e⟩ | h
          · exact absurd e hne
          · exact h
        have HF : Hid (Fr wr w.heap.size (.slice (some ⟨g, 0, none⟩) W.length W.length) W) := HO.cut rfl
        have hwl := HS.out.wlen
        have G2 : Hid (w.grownBy wr none) := HS.out.grown
        obtain ⟨n, hn⟩ : ∃ n, W.length = n := ⟨_, rfl⟩
        rw [hn] at HF hlc hwl ⊢
        have hnI : (n : Int) ≤ 4096 := by omega
        have hncI : (n : Int) ≤ c := by omega
        have hn0 : (0 : Int) ≤ n := by omega
        clear HO hne hn HS
        go_wp2_with fail
        go_ret2
        rw [(HR2.out.2 W HV.out).1, (HR2.out.2 W HV.out).2]
        exact ⟨G2.out, _, rfl, HF.out⟩
end Go.Proofs.YthldipnfaiobaabGreatDoor
