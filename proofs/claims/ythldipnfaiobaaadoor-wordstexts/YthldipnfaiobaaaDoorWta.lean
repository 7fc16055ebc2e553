/-
  The law WordsTexts: its walk.
-/
import Derived.Test.YthldipnfaiobaaaDoorRdr
import Derived.Test.YthldipnfaiobaaaDoorWpb
namespace Go.Proofs.YthldipnfaiobaaaDoor
open Go.RowKit Go.Lib Go.Sort
set_option linter.unusedVariables false
set_option linter.unusedSimpArgs false
set_option maxHeartbeats 3200000
set_option maxRecDepth 1000000
theorem rdL_len (S : List Nat) : (rdL S).length ≤ 4096 := by
  unfold rdL
  split
  · simp
  · cases h : rdV S with
    | none => simp
    | some V => exact (rdV_is h).2.2.1
theorem wtexts_any (s : ByteArray) (hs : s.size ≤ 9223372036854775807) (w : World) (he : Errs w) (ht : Tab w) :
    Calls Tryd.prog 8 #[.string s] w fun e w' => e = .returned (.bool true) ∧ w.grownBy w' none := by
  have HT : Hid (Tab w) := ht
  have HE : Hid (Errs w) := he
  clear ht he
  by_cases h2 : 20000 < s.size
  · have h2I : (20000 : Int) < s.size := by omega
    have hsI : (s.size : Int) ≤ 9223372036854775807 := by omega
    have HK := known_any w HT.out
    clear h2 hs
    go_enter Tryd.func8, Tryd.ntmps8
    go_wp2_with fail
    refine HK.mono ?_
    rintro e w2 ⟨rfl, g2⟩
    have G2 : Hid (w.grownBy w2 none) := g2
    clear g2
    go_wp2_with fail
    go_ret
    exact ⟨rfl, G2.out⟩
  · have h2I : (s.size : Int) ≤ 20000 := by omega
    have HP : Hid (∀ w1, w.grownBy w1 none → Calls Tryd.prog 47 #[.string s] w1 fun e w' => Told1 w1 e w' (rdE (bN s)) (rdL (bN s))) := fun w1 hg => read_top s (by omega) w1 (HE.out.kept hg) (HT.out.kept hg)
    have HD : Hid (∀ w1, Calls Tryd.prog 48 #[.string s] w1 fun e w' => Told1 w1 e w' (rdE (bN s)) (rdL (bN s))) := fun w1 => rRead_any s (by omega) w1
    have HLn : Hid ((rdL (bN s)).length ≤ 100000) := Nat.le_trans (rdL_len _) (by decide)
    generalize rdE (bN s) = rE at *
    generalize rdL (bN s) = rL at *
    clear h2 hs
    go_enter Tryd.func8, Tryd.ntmps8
    go_wp2_with fail
    refine (HP.out w (grow0 w)).mono ?_
    rintro e w2 ⟨g2, a, rfl, ha⟩
    have G2 : Hid (w.grownBy w2 none) := g2
    have HA : Hid (Fr w2 w.heap.size a rL) := ha
    clear g2 ha
    go_wp2_with fail
    refine (HP.out w2 G2.out).mono ?_
    rintro e w3 ⟨g3, b, rfl, hb⟩
    have G3 : Hid (w2.grownBy w3 none) := g3
    have HB : Hid (Fr w3 w2.heap.size b rL) := hb
    clear g3 hb
    go_wp2_with fail
    refine (HD.out w3).mono ?_
    rintro e w4 ⟨g4, t, rfl, ht⟩
    have G4 : Hid (w3.grownBy w4 none) := g4
    have HTt : Hid (Fr w4 w3.heap.size t rL) := ht
    clear g4 ht
    go_wp2_with fail
    refine (told_three w w2 w3 w4 a b t rE rL HA.out HB.out HTt.out G2.out G3.out G4.out HLn.out).mono ?_
    rintro e w5 ⟨rfl, g5⟩
    have G5 : Hid (w.grownBy w5 none) := g5
    clear g5
    go_wp2_with fail
    refine (known_any w5 (HT.out.kept G5.out)).mono ?_
    rintro e w6 ⟨rfl, g6⟩
    have G6 : Hid (w.grownBy w6 none) := grownBy_trans G5.out g6
    clear g6
    go_wp2_with fail
    go_ret
    exact ⟨rfl, G6.out⟩
end Go.Proofs.YthldipnfaiobaaaDoor
