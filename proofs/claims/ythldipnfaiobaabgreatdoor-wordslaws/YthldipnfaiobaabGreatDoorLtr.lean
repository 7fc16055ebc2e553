/-
  The program's letter; strings.Cut at a blank.
-/
import Derived.Test.YthldipnfaiobaabGreatDoorTpa
import Derived.Test.YthldipnfaiobaabGreatDoorSha
import Derived.Test.YthldipnfaiobaabGreatDoorShc
import Derived.Test.YthldipnfaiobaabGreatDoorChk
namespace Go.Proofs.YthldipnfaiobaabGreatDoor
open Go.RowKit Go.Lib Go.Sort
set_option linter.unusedVariables false
set_option linter.unusedSimpArgs false
set_option maxHeartbeats 1600000
set_option maxRecDepth 1000000
def Errs (w : World) : Prop := (∃ ev, w.cell? ⟨2, 0, none⟩ = some ev ∧ (ev = .nilIface ∨ ∃ te pe, ev = .iface te pe)) ∧ ∃ ev, w.cell? ⟨3, 0, none⟩ = some ev ∧ (ev = .nilIface ∨ ∃ te pe, ev = .iface te pe)
theorem Errs.kept {w w' : World} (h : Errs w) (hg : w.grownBy w' none) : Errs w' := by
  obtain ⟨⟨e1, h1, h2⟩, e2, h3, h4⟩ := h
  exact ⟨⟨e1, grownBy_cell hg h1 (by simp), h2⟩, e2, grownBy_cell hg h3 (by simp), h4⟩
theorem itN_is (k : Int) (s : ByteArray) : bN s = itN k ↔ s = itB k := by
  constructor
  · intro h
    apply bN_inj
    rw [h]
    simp [itN, itB, bN]
  · rintro rfl
    simp [itN, itB, bN]
theorem grown_bytes (w : World) (t : TypeId) (x : ByteArray) : w.grownBy (Lib.bytesWorld w t x) none := grownBy_of_below (Lib.bytesWorld_below w t x)
theorem atoi_any (s : ByteArray) (hs : s.size ≤ 20000) (w : World) (he : Errs w) : Calls Tryz.prog 62 #[.string s] w fun e w' => w.grownBy w' none ∧ ((∃ v, Lib.atoiAll s.data.toList = .ok v ∧ e = .returned (.tuple #[.int .i64 v, .nilIface])) ∨ ((∀ v, Lib.atoiAll s.data.toList ≠ .ok v) ∧ ∃ v t p, e = .returned (.tuple #[.int .i64 v, .iface t (.pointer (some p))]))) := by
  obtain ⟨⟨e1, h1, h2⟩, e2, h3, h4⟩ := he
  cases hr : Lib.atoiAll s.data.toList with
  | ok v =>
    refine (Tryz.strconv_Atoi_ok s (by omega) v hr w).mono ?_
    rintro e w' ⟨rfl, hw⟩
    refine ⟨?_, .inl ⟨v, rfl, rfl⟩⟩
    rcases hw with rfl | ⟨t, rfl⟩
    · exact grow0 _
    · exact grown_bytes _ _ _
  | «syntax» =>
    refine (Tryz.strconv_Atoi_syntax s (by omega) hr e1 w h1 h2).mono ?_
    rintro e w' ⟨N, rfl, _, hb⟩
    exact ⟨grownBy_of_below hb, .inr ⟨(fun v e => by cases e), _, _, _, rfl⟩⟩
  | range =>
    refine (Tryz.strconv_Atoi_range s (by omega) hr e2 w h3 h4).mono ?_
    rintro e w' ⟨N, rfl, _, hb⟩
    exact ⟨grownBy_of_below hb, .inr ⟨(fun v e => by cases e), _, _, _, rfl⟩⟩
def LtQ (s : ByteArray) (k : Int) (b : Bool) : Prop := (b = true ∧ noL k = false ∧ s = itB k) ∨ (b = false ∧ ∀ l, noL l = false → s ≠ itB l)
theorem neq_nil_iface (t : TypeId) (p : Value) (w : World) : (binOp .neq 85 (.iface t p) .nilIface).run Tryz.prog w = .ok (.bool true) w := by kernel_rfl
theorem letter_any (s : ByteArray) (hs : s.size ≤ 20000) (w : World) (he : Errs w) (ht : Tab w) :
    Calls Tryz.prog 49 #[.string s] w fun e w' => ∃ k b, e = .returned (.tuple #[.int .i64 k, .bool b]) ∧ LtQ s k b ∧ w.grownBy w' none := by
  have HT : Hid (Tab w) := ht
  have HA := atoi_any s hs w he
  clear ht he
  go_enter Tryz.func49, Tryz.ntmps49
  go_wp2_with fail
  refine HA.mono ?_
  rintro e w1 ⟨g1, hh⟩
  have G1 : Hid (w.grownBy w1 none) := g1
  clear g1 HA
  rcases hh with ⟨v, hv, rfl⟩ | ⟨hv, v, t, p, rfl⟩
  · by_cases hn : noL v = true
    · have HL := noLetter_any v w1
      rw [hn] at HL
      have HQ : Hid (LtQ s 0 false) := .inr ⟨rfl, fun l hl e => by
        rw [e] at hv
        have := (it_all hl).2.2
        have e2 : (itB l).data.toList = Lib.itoa l := by simp [itB]
        rw [e2, this] at hv
        cases hv
        rw [hl] at hn
        cases hn⟩
      clear hv hn
      go_wp2_with fail
      refine HL.mono ?_
      rintro e nw ⟨rfl, hw⟩
      obtain rfl := hw.symm
      clear hw
      go_wp2_with fail
      go_ret2
      exact ⟨_, _, rfl, HQ.out, G1.out⟩
    · have hn' : noL v = false := by simpa using hn
      have HL := noLetter_any v w1
      rw [hn'] at HL
      have HIt := itoa_any v (noL_no hn').2 w1 (HT.out.kept G1.out)
      have HN : Hid (noL v = false) := hn'
      have HV : Hid (Lib.atoiAll s.data.toList = .ok v) := hv
      have eB : (⟨(Lib.itoa v).toArray⟩ : ByteArray) = itB v := rfl
      rw [eB] at HIt
      clear hv hn hn' eB
      by_cases hs2 : s = itB v
      · have HQ : Hid (LtQ s v true) := .inl ⟨rfl, HN.out, hs2⟩
        have hb1 : ((itB v).toList == s.toList) = true := by rw [hs2]; simp
        have hb2 : ((itB v).toList != s.toList) = false := by rw [hs2]; simp
        clear hs2
        generalize itB v = x at *
        go_wp2_with fail
        refine HL.mono ?_
        rintro e nw ⟨rfl, hw⟩
        obtain rfl := hw.symm
        clear hw
        go_wp2_with fail
        refine HIt.mono ?_
        rintro e w2 ⟨rfl, g2⟩
        have G2 : Hid (w.grownBy w2 none) := grownBy_trans G1.out g2
        clear g2
        go_wp2_with fail
        go_ret2
        exact ⟨_, _, rfl, HQ.out, G2.out⟩
      · have HQ : Hid (LtQ s 0 false) := .inr ⟨rfl, fun l hl e => by
          have hv := HV.out
          rw [e] at hv
          have := (it_all hl).2.2
          have e2 : (itB l).data.toList = Lib.itoa l := by simp [itB]
          rw [e2, this] at hv
          cases hv
          exact hs2 e⟩
        have hne : ¬ (itB v).toList = s.toList := fun e => hs2 (bN_inj (by unfold bN; rw [← ByteArray.toList_eq, ← ByteArray.toList_eq, e]))
        have hb1 : ((itB v).toList == s.toList) = false := by simpa using hne
        have hb2 : ((itB v).toList != s.toList) = true := by simpa using hne
        clear hs2 hne HV HN
        generalize itB v = x at *
        go_wp2_with fail
        refine HL.mono ?_
        rintro e nw ⟨rfl, hw⟩
        obtain rfl := hw.symm
        clear hw
        go_wp2_with fail
        refine HIt.mono ?_
        rintro e w2 ⟨rfl, g2⟩
        have G2 : Hid (w.grownBy w2 none) := grownBy_trans G1.out g2
        clear g2
        go_wp2_with fail
        go_ret2
        exact ⟨_, _, rfl, HQ.out, G2.out⟩
  · have HQ : Hid (LtQ s 0 false) := .inr ⟨rfl, fun l hl e => by
      rw [e] at hv
      have := (it_all hl).2.2
      have e2 : (itB l).data.toList = Lib.itoa l := by simp [itB]
      rw [e2, this] at hv
      exact hv l rfl⟩
    have hq := fun w => neq_nil_iface t (.pointer (some p)) w
    clear hv
    go_wp2_with fail
    go_ret2
    exact ⟨_, _, rfl, HQ.out, G1.out⟩
theorem indexByte_cases (l : List UInt8) (c : UInt8) : (Lib.indexByte l c = -1 ∧ c ∉ l) ∨ ∃ i : Nat, Lib.indexByte l c = i ∧ i < l.length ∧ l = l.take i ++ c :: l.drop (i + 1) ∧ c ∉ l.take i := by
  induction l with
  | nil => exact .inl ⟨rfl, by simp⟩
  | cons b l ih =>
    by_cases hb : b = c
    · subst hb
      exact .inr ⟨0, by simp [Lib.indexByte], by simp, by simp, by simp⟩
    · have hb' : (b == c) = false := by simpa using hb
      rcases ih with ⟨h1, h2⟩ | ⟨i, h1, h2, h3, h4⟩
      · exact .inl ⟨by simp [Lib.indexByte, hb', h1], by simp [h2]; exact fun e => hb e.symm⟩
      · refine .inr ⟨i + 1, ?_, by simpa using h2, ?_, ?_⟩
        · have : (Lib.indexByte l c == -1) = false := by rw [h1]; simp
          simp only [Lib.indexByte, hb', this]
          rw [h1]
          simp
        · rw [List.take_succ_cons, List.drop_succ_cons, List.cons_append, ← h3]
        · rw [List.take_succ_cons]
          simp only [List.mem_cons, not_or]
          exact ⟨fun e => hb e.symm, h4⟩
def CutQ (s a b : ByteArray) (f : Bool) : Prop := (f = true ∧ bN s = bN a ++ 32 :: bN b ∧ ∀ x ∈ bN a, x ≠ 32) ∨ (f = false ∧ a = s ∧ ∀ x ∈ bN s, x ≠ 32)
theorem not32 {l : List UInt8} (h : (32 : UInt8) ∉ l) : ∀ x ∈ l.map UInt8.toNat, x ≠ 32 := by
  intro x hx e
  obtain ⟨b, hb, rfl⟩ := List.mem_map.1 hx
  have : b = 32 := UInt8.toNat_inj.1 e
  exact h (this ▸ hb)
theorem slite_cut (s : ByteArray) (hs : s.size ≤ 20000) (w : World) :
    Calls Tryz.prog 61 #[.string s, .string ⟨#[32]⟩] w fun e w' => ∃ a b f, e = .returned (.tuple #[.string a, .string b, .bool f]) ∧ CutQ s a b f ∧ a.size ≤ s.size ∧ b.size ≤ s.size ∧ w.grownBy w' none := by
  have HI : Calls Tryz.prog 70 #[.string s, .string ⟨#[32]⟩] w fun e w' => e = .returned (.int .i64 (Lib.indexByte s.data.toList 32)) ∧ w' = w := Any.stringslite_Index_one (ρ := Tryz.laysM145_ren) { Tryz.laysM145 with } s 32 w
  have hsz : s.data.toList.length = s.size := by rw [Array.length_toList]; rfl
  rcases indexByte_cases s.data.toList 32 with ⟨h1, h2⟩ | ⟨i, h1, h2, h3, h4⟩
  · rw [h1] at HI
    have HQ : Hid (CutQ s s ⟨#[]⟩ false) := .inr ⟨rfl, rfl, not32 h2⟩
    clear h1 h2
    go_enter Tryz.func61, Tryz.ntmps61
    go_wp2_with fail
    refine HI.mono ?_
    rintro e nw ⟨rfl, hw⟩
    obtain rfl := hw.symm
    clear hw
    go_wp2_with fail
    refine bodyPost_ret (results_tmp3 rfl _ _ _) rfl ?_
    exact ⟨_, _, _, rfl, HQ.out, Nat.le_refl _, Nat.zero_le _, grow0 _⟩
  · rw [h1] at HI
    have hlt : i < s.size := by rw [← hsz]; exact h2
    have e1 : (s.extract 0 i).data.toList = s.data.toList.take i := by simp
    have e2 : (s.extract (i + 1) s.size).data.toList = s.data.toList.drop (i + 1) := by rw [Lib.extract_to_end]
    have HQ : Hid (CutQ s (s.extract 0 i) (s.extract (i + 1) s.size) true) := .inl ⟨rfl, by
      have h5 := congrArg (List.map UInt8.toNat) h3
      rw [List.map_append, List.map_cons] at h5
      unfold bN
      rw [e1, e2]
      exact h5, by
      unfold bN
      rw [e1]
      exact not32 h4⟩
    obtain ⟨j, hj⟩ : ∃ j, i + 1 = j := ⟨_, rfl⟩
    rw [hj] at HQ
    have HSz : Hid ((s.extract 0 i).size ≤ s.size ∧ (s.extract j s.size).size ≤ s.size) := by
      show _ ∧ _
      simp [ByteArray.size_extract]
      omega
    have hiI : (i : Int) < s.size := by omega
    have hi0 : (0 : Int) ≤ i := by omega
    have hile : (i : Int) ≤ s.size := by omega
    have hwj : IntKind.i64.wrap ((i : Int) + 1) = (j : Int) := by rw [IntKind.wrap_i64]; omega
    have hj0 : (0 : Int) ≤ j := by omega
    have hjl : (j : Int) ≤ s.size := by omega
    clear h1 h2 h3 h4 e1 e2 hsz hj
    go_enter Tryz.func61, Tryz.ntmps61
    go_wp2_with fail
    refine HI.mono ?_
    rintro e nw ⟨rfl, hw⟩
    obtain rfl := hw.symm
    clear hw
    go_wp2_with fail
    go_region_held3 (fun _ => True) (trivial) (fail)
    all_goals (
      go_wp2_with fail
      refine bodyPost_ret (results_tmp3 rfl _ _ _) rfl ?_
      exact ⟨_, _, _, rfl, HQ.out, HSz.out.1, HSz.out.2, grow_drew (grow0 _)⟩)
theorem cut_blank (s : ByteArray) (hs : s.size ≤ 20000) (w : World) :
    Calls Tryz.prog 48 #[.string s, .string ⟨#[32]⟩] w fun e w' => ∃ a b f, e = .returned (.tuple #[.string a, .string b, .bool f]) ∧ CutQ s a b f ∧ a.size ≤ s.size ∧ b.size ≤ s.size ∧ w.grownBy w' none := by
  have HC := slite_cut s hs w
  go_enter Tryz.func48, Tryz.ntmps48
  go_wp2_with fail
  refine HC.mono ?_
  rintro e w1 ⟨a, b, f, rfl, h1, h2, h3, h4⟩
  have H : Hid (CutQ s a b f ∧ a.size ≤ s.size ∧ b.size ≤ s.size ∧ w.grownBy w1 none) := ⟨h1, h2, h3, h4⟩
  clear h1 h2 h3 h4
  go_wp2_with fail
  refine bodyPost_ret (results_tmp3 rfl _ _ _) rfl ?_
  exact ⟨_, _, _, rfl, H.out⟩
end Go.Proofs.YthldipnfaiobaabGreatDoor
