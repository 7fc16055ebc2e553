/-
  The program's short, where it says no.
-/
import Derived.Test.YtmgbkcfocbbofabGreatDoorSht
namespace Go.Proofs.YtmgbkcfocbbofabGreatDoor
open Go.RowKit Go.Lib Go.Sort

set_option maxHeartbeats 1600000 in
set_option maxRecDepth 1000000 in
theorem short_big (n1 n2 : Bool) (m1 m2 : ByteArray) (h9 : m1.size + m2.size ≤ 9223372036854775807) (h8 : 8 ≤ m1.size + m2.size) (w : World) :
    Calls Tryz.prog 48 #[whole n1 m1, whole n2 m2] w fun e w' => e = .returned (.tuple #[.int .i64 0, .int .i64 0, .bool false]) ∧ w.grownBy w' none := by
  have h8' : (8 : Int) ≤ (m1.size : Int) + m2.size := by omega
  have hw : IntKind.i64.wrap ((m1.size : Int) + (m2.size : Int)) = (m1.size : Int) + m2.size := by rw [IntKind.wrap_i64]; omega
  clear h9 h8
  go_enter Tryz.func48, Tryz.ntmps48
  go_wp2_with fail
  go_ret3
  exact ⟨rfl, grow2 _ _ _⟩

set_option maxHeartbeats 1600000 in
set_option maxRecDepth 1000000 in
theorem short_few (n1 n2 : Bool) (m1 m2 : ByteArray) (z1 : m1.size ≤ maxLen) (z2 : m2.size ≤ maxLen) (S : Int) (hw : IntKind.i64.wrap ((m1.size : Int) + (m2.size : Int)) = S) (hS : S ≤ 7) (h : (may n1 m1 && may n2 m2) = false) (w : World) :
    Calls Tryz.prog 48 #[whole n1 m1, whole n2 m2] w fun e w' => ∃ x y, e = .returned (.tuple #[.int .i64 x, .int .i64 y, .bool false]) ∧ w.grownBy w' none := by
  have key : ∀ (n : Bool) (m : ByteArray), m.size ≤ maxLen → ∃ x b, (may n m = false → b = false) ∧ ∀ w, Calls Tryz.prog 71 #[whole n m] w fun e w' => e = .returned (.tuple #[.int .i64 x, .bool b]) ∧ w.grownBy w' none := by
    intro n m hz
    cases hm : may n m
    · exact ⟨0, false, fun _ => rfl, fun w => small_no n m hz hm w⟩
    · exact ⟨_, _, fun e => by simp at e, fun w => small_yes n m hm w⟩
  obtain ⟨x, b1, e1, s1⟩ := key n1 m1 z1
  obtain ⟨y, b2, e2, s2⟩ := key n2 m2 z2
  have hb : b1 = false ∨ b2 = false := by
    cases h1 : may n1 m1
    · exact .inl (e1 h1)
    · rw [h1, Bool.true_and] at h; exact .inr (e2 h)
  have S1 : Hid (∀ w, Calls Tryz.prog 71 #[whole n1 m1] w fun e w' => e = .returned (.tuple #[.int .i64 x, .bool b1]) ∧ w.grownBy w' none) := s1
  have S2 : Hid (∀ w, Calls Tryz.prog 71 #[whole n2 m2] w fun e w' => e = .returned (.tuple #[.int .i64 y, .bool b2]) ∧ w.grownBy w' none) := s2
  clear s1 s2 key e1 e2 h z1 z2
  go_enter Tryz.func48, Tryz.ntmps48
  go_wp2_with fail
  refine (S1.out _).mono ?_
  rintro e w1 ⟨rfl, hg1⟩
  have hb2 : WBlk w1 (w.heap.size + 1) (.bool n2) (.string m2) := WBlk.kept (w := (w.alloc (wObj n1 m1)).alloc (wObj n2 m2)) (heap_alloc2_new _ _ _) hg1 (by simp)
  have hc0 := hb2.c0
  have hc1 := hb2.c1
  have HG1 : Hid (w.grownBy w1 none) := grownBy_trans (grow2 _ _ _) hg1
  clear hg1 hb2 S1
  go_wp2_with fail
  refine (S2.out _).mono ?_
  rintro e w2 ⟨rfl, hg2⟩
  have HG2 : Hid (w.grownBy w2 none) := grownBy_trans HG1.out hg2
  clear hg2 S2
  cases b1
  · go_wp2_with fail
    go_ret3
    exact ⟨x, y, rfl, HG2.out⟩
  · obtain rfl : b2 = false := by simpa using hb
    go_wp2_with fail
    go_ret3
    exact ⟨x, y, rfl, HG2.out⟩
/-- short says no, but of numbers that may be and are short. -/
theorem short_no (n1 n2 : Bool) (m1 m2 : ByteArray) (z1 : m1.size ≤ maxLen) (z2 : m2.size ≤ maxLen) (h : ¬ (may n1 m1 = true ∧ may n2 m2 = true ∧ m1.size + m2.size ≤ 7)) (w : World) :
    Calls Tryz.prog 48 #[whole n1 m1, whole n2 m2] w fun e w' => ∃ x y, e = .returned (.tuple #[.int .i64 x, .int .i64 y, .bool false]) ∧ w.grownBy w' none := by
  have y1 := z1
  have y2 := z2
  unfold maxLen at y1 y2
  by_cases h9 : m1.size + m2.size ≤ 9223372036854775807
  · by_cases h8 : m1.size + m2.size ≤ 7
    · exact short_few n1 n2 m1 m2 z1 z2 ((m1.size : Int) + m2.size) (by rw [IntKind.wrap_i64]; omega) (by omega) (by cases h1 : may n1 m1 <;> cases h2 : may n2 m2 <;> simp_all) w
    · refine (short_big n1 n2 m1 m2 h9 (by omega) w).mono ?_
      rintro e w' ⟨rfl, hg⟩
      exact ⟨0, 0, rfl, hg⟩
  · refine short_few n1 n2 m1 m2 z1 z2 _ rfl (by rw [IntKind.wrap_i64]; omega) ?_ w
    cases h1 : may n1 m1
    · rfl
    · cases h2 : may n2 m2
      · rfl
      · have := may_size h1
        have := may_size h2
        omega
end Go.Proofs.YtmgbkcfocbbofabGreatDoor
