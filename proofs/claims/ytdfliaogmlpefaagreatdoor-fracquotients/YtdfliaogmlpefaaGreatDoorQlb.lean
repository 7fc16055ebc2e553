/-
  FracTexts of any fraction and any text.
-/
import Derived.Test.YtdfliaogmlpefaaGreatDoorBunFre
import Derived.Deep.CutRange
import Derived.Test.YtdfliaogmlpefaaGreatDoorBunFrb
import Derived.Test.YtdfliaogmlpefaaGreatDoorBunWka
import Derived.Test.YtdfliaogmlpefaaGreatDoorBunRed
import Derived.WalkMore
import Derived.Laws.DeepStrings4
import Derived.Test.YtdfliaogmlpefaaGreatDoorRga
import Derived.Test.YtdfliaogmlpefaaGreatDoorBunFrz
import Derived.Test.YtdfliaogmlpefaaGreatDoorFri
import Derived.Test.YtdfliaogmlpefaaGreatDoorBunFrp
import Derived.Test.YtdfliaogmlpefaaGreatDoorBunMor
import Derived.Test.YtdfliaogmlpefaaGreatDoorBunOna
import Derived.Deep.CutBlock
import Derived.Test.YtdfliaogmlpefaaGreatDoorFrv
namespace Go.Proofs.YtdfliaogmlpefaaGreatDoor
open Go.RowKit Go.Lib Go.Sort
set_option linter.unusedVariables false
theorem dq_1 {W : World} {B : Nat} {n d : Bool} {s t : ByteArray} (hB : W.heap[B]? = some (.cells #[.bool n, .string s, .bool d, .string t] 25 (0, 0))) :
    DQ W (.slice (some ⟨B, 0, none⟩) 1 1) [(n, s, d, t)] := by
  refine ⟨B, 0, 1, rfl, by simp, fun j p hp => ?_⟩
  simp only [World.cell?, hB]
  match j, hp with
  | 0, hp => cases hp; exact ⟨rfl, rfl, rfl, rfl⟩
theorem longq_one {n d : Bool} {s t : ByteArray} (mo : Nat) (hmo : mo ≤ 100000) (h : s.size ≤ mo ∧ t.size ≤ mo) :
    Hid (∀ (W : World) (B : Nat), W.heap[B]? = some (.cells #[.bool n, .string s, .bool d, .string t] 25 (0, 0)) → Calls Tryz.prog 9 #[.int .i64 mo, .slice (some ⟨B, 0, none⟩) 1 1] W fun e w' => e = .returned (.bool false) ∧ W.grownBy w' none) := fun W B hB => by
  refine longq_no mo (by omega) W _ _ (dq_1 hB) (by simp) ?_
  intro p hp
  simp at hp
  subst hp
  exact ⟨by show (s.size : Int) ≤ mo; omega, by show (t.size : Int) ≤ mo; omega⟩
theorem longq_one_yes {n d : Bool} {s t : ByteArray} (mo : Nat) (hmo : mo ≤ 100000) (z1 : s.size ≤ maxLen) (z2 : t.size ≤ maxLen) (h : ¬ (s.size ≤ mo ∧ t.size ≤ mo)) :
    Hid (∀ (W : World) (B : Nat), W.heap[B]? = some (.cells #[.bool n, .string s, .bool d, .string t] 25 (0, 0)) → Calls Tryz.prog 9 #[.int .i64 mo, .slice (some ⟨B, 0, none⟩) 1 1] W fun e w' => e = .returned (.bool true) ∧ W.grownBy w' none) := fun W B hB => by
  refine longq_yes mo (by omega) W _ _ (dq_1 hB) (by simp) ?_ ?_
  · intro p hp
    simp at hp
    subst hp
    exact ⟨z1, z2⟩
  · refine ⟨_, List.mem_singleton.2 rfl, ?_⟩
    show (mo : Int) < (s.size : Int) ∨ (mo : Int) < (t.size : Int)
    omega
end Go.Proofs.YtdfliaogmlpefaaGreatDoor
