/-
  WholeDivides, of any two numbers.
-/
import Derived.Test.YtjngcpbdilhkbaaGreatDoorDdw
namespace Go.Proofs.YtjngcpbdilhkbaaGreatDoor
open Go.RowKit Go.Lib Go.Sort
set_option linter.unusedVariables false

set_option maxHeartbeats 6400000 in
set_option maxRecDepth 1000000 in
theorem divides_long1 (na nb : Bool) (sa sb : ByteArray) (la : sa.size ≤ maxLen) (h : 400 < sa.size) (w : World) (htab : Lib.TabIs Tryz.prog w "internal/strconv.uint64pow10" .u64 Lib.pow10Tab) :
    Calls Tryz.prog 4 #[whole na sa, whole nb sb] w fun e w' => e = .returned (.bool true) ∧ w.grownBy w' none := by
  have HW : Hid (Calls Tryz.prog 6 #[] ((w.alloc (wObj na sa)).alloc (wObj nb sb)) fun e w' => e = .returned (.bool true) ∧ ((w.alloc (wObj na sa)).alloc (wObj nb sb)).grownBy w' none) := by
    obtain ⟨gp, hgp⟩ := pow10_g
    exact works_any _ (tab_kept hgp htab (grow2 _ _ _))
  unfold maxLen at la
  have laI : (sa.size : Int) ≤ 9223372036854775807 := by omega
  have hI : (401 : Int) ≤ sa.size := by omega
  clear htab la h
  go_enter Tryz.func4, Tryz.ntmps4
  go_wp2_with fail
  refine HW.out.mono ?_
  rintro e w1 ⟨rfl, g1⟩
  have HG : Hid (w.grownBy w1 none) := grownBy_trans (grow2 _ _ _) g1
  clear g1
  go_wp2_with fail
  go_ret
  exact ⟨rfl, HG.out⟩

set_option maxHeartbeats 6400000 in
set_option maxRecDepth 1000000 in
theorem divides_long2 (na nb : Bool) (sa sb : ByteArray) (lb : sb.size ≤ maxLen) (h0 : sa.size ≤ 400) (h : 400 < sb.size) (w : World) (htab : Lib.TabIs Tryz.prog w "internal/strconv.uint64pow10" .u64 Lib.pow10Tab) :
    Calls Tryz.prog 4 #[whole na sa, whole nb sb] w fun e w' => e = .returned (.bool true) ∧ w.grownBy w' none := by
  have HW : Hid (Calls Tryz.prog 6 #[] ((w.alloc (wObj na sa)).alloc (wObj nb sb)) fun e w' => e = .returned (.bool true) ∧ ((w.alloc (wObj na sa)).alloc (wObj nb sb)).grownBy w' none) := by
    obtain ⟨gp, hgp⟩ := pow10_g
    exact works_any _ (tab_kept hgp htab (grow2 _ _ _))
  unfold maxLen at lb
  have laI : (sa.size : Int) ≤ 400 := by omega
  have lbI : (sb.size : Int) ≤ 9223372036854775807 := by omega
  have hI : (401 : Int) ≤ sb.size := by omega
  clear htab lb h h0
  go_enter Tryz.func4, Tryz.ntmps4
  go_wp2_with fail
  refine HW.out.mono ?_
  rintro e w1 ⟨rfl, g1⟩
  have HG : Hid (w.grownBy w1 none) := grownBy_trans (grow2 _ _ _) g1
  clear g1
  go_wp2_with fail
  go_ret
  exact ⟨rfl, HG.out⟩

set_option maxHeartbeats 6400000 in
set_option maxRecDepth 1000000 in
theorem divides_bad1 (na nb : Bool) (sa sb : ByteArray) (la : sa.size ≤ 400) (lb : sb.size ≤ 400) (h : may na sa = false) (w : World) (htab : Lib.TabIs Tryz.prog w "internal/strconv.uint64pow10" .u64 Lib.pow10Tab) :
    Calls Tryz.prog 4 #[whole na sa, whole nb sb] w fun e w' => e = .returned (.bool true) ∧ w.grownBy w' none := by
  have HW : Hid (Calls Tryz.prog 6 #[] (((w.alloc (wObj na sa)).alloc (wObj nb sb)).alloc (wObj na sa)) fun e w' => e = .returned (.bool true) ∧ (((w.alloc (wObj na sa)).alloc (wObj nb sb)).alloc (wObj na sa)).grownBy w' none) := by
    obtain ⟨gp, hgp⟩ := pow10_g
    exact works_any _ (tab_kept hgp htab (grow3 _ _ _ _))
  have HC : Hid (∀ w : World, Calls Tryz.prog 15 #[whole na sa] w fun e w' => e = .returned (.int .i64 2) ∧ w' = w.alloc (wObj na sa)) := fun w => by
    have := check_any na sa (by unfold maxLen; omega) w
    rw [chk_no h] at this
    exact this
  have laI : (sa.size : Int) ≤ 400 := by omega
  have lbI : (sb.size : Int) ≤ 400 := by omega
  clear htab la lb h
  go_enter Tryz.func4, Tryz.ntmps4
  go_wp2_with (first | (go_at_call 15; refine (HC.out _).mono ?_; rintro e w1 ⟨rfl, rfl⟩) | (go_at_call 14; refine (num_any _ _).mono ?_; rintro e w1 ⟨rfl, rfl⟩) | fail)
  refine HW.out.mono ?_
  rintro e w1 ⟨rfl, g1⟩
  have HG : Hid (w.grownBy w1 none) := grownBy_trans (grow3 _ _ _ _) g1
  clear g1
  go_wp2_with fail
  go_ret
  exact ⟨rfl, HG.out⟩

set_option maxHeartbeats 6400000 in
set_option maxRecDepth 1000000 in
theorem divides_bad2 (na nb : Bool) (sa sb : ByteArray) (la : sa.size ≤ 400) (lb : sb.size ≤ 400) (ha : may na sa = true) (h : may nb sb = false) (w : World) (htab : Lib.TabIs Tryz.prog w "internal/strconv.uint64pow10" .u64 Lib.pow10Tab) :
    Calls Tryz.prog 4 #[whole na sa, whole nb sb] w fun e w' => e = .returned (.bool true) ∧ w.grownBy w' none := by
  have HW : Hid (Calls Tryz.prog 6 #[] ((((w.alloc (wObj na sa)).alloc (wObj nb sb)).alloc (wObj na sa)).alloc (wObj nb sb)) fun e w' => e = .returned (.bool true) ∧ ((((w.alloc (wObj na sa)).alloc (wObj nb sb)).alloc (wObj na sa)).alloc (wObj nb sb)).grownBy w' none) := by
    obtain ⟨gp, hgp⟩ := pow10_g
    exact works_any _ (tab_kept hgp htab (grow4 _ _ _ _ _))
  obtain ⟨k, hk⟩ : ∃ k : Nat, k = 1 := ⟨_, rfl⟩
  have HC : Hid (∀ (n : Bool) (s : ByteArray) (w : World), (n = na ∧ s = sa) ∨ (n = nb ∧ s = sb) → Calls Tryz.prog 15 #[whole n s] w fun e w' => e = .returned (.int .i64 (chk n s)) ∧ w' = w.alloc (wObj n s)) := (by
    intro n s w hh
    rcases hh with ⟨rfl, rfl⟩ | ⟨rfl, rfl⟩
    · exact check_any n s (by unfold maxLen; omega) w
    · exact check_any n s (by unfold maxLen; omega) w)
  have e1 := chk_yes ha
  have e2 := chk_no h
  have laI : (sa.size : Int) ≤ 400 := by omega
  have lbI : (sb.size : Int) ≤ 400 := by omega
  clear htab la lb h ha
  go_enter Tryz.func4, Tryz.ntmps4
  go_wp2_with (first | (go_at_call 15; refine (HC.out _ _ _ (by first | exact .inl ⟨rfl, rfl⟩ | exact .inr ⟨rfl, rfl⟩)).mono ?_; rintro e w1 ⟨rfl, rfl⟩) | (go_at_call 14; refine (num_any _ _).mono ?_; rintro e w1 ⟨rfl, rfl⟩) | fail)
  refine HW.out.mono ?_
  rintro e w1 ⟨rfl, g1⟩
  have HG : Hid (w.grownBy w1 none) := grownBy_trans (grow4 _ _ _ _ _) g1
  clear g1
  go_wp2_with fail
  go_ret
  exact ⟨rfl, HG.out⟩

theorem divides_any (na nb : Bool) (sa sb : ByteArray) (la : sa.size ≤ maxLen) (lb : sb.size ≤ maxLen) (w : World) (htab : Lib.TabIs Tryz.prog w "internal/strconv.uint64pow10" .u64 Lib.pow10Tab) :
    Calls Tryz.prog 4 #[whole na sa, whole nb sb] w fun e w' => e = .returned (.bool true) ∧ w.grownBy w' none := by
  rcases Nat.lt_or_ge 400 sa.size with h1 | h1
  · exact divides_long1 na nb sa sb la h1 w htab
  rcases Nat.lt_or_ge 400 sb.size with h2 | h2
  · exact divides_long2 na nb sa sb lb h1 h2 w htab
  cases ha : may na sa
  · exact divides_bad1 na nb sa sb h1 h2 ha w htab
  cases hb : may nb sb
  · exact divides_bad2 na nb sa sb h1 h2 ha hb w htab
  exact divides_yes na nb sa sb _ _ (may_sz ha h1) (may_sz hb h2) w htab
end Go.Proofs.YtjngcpbdilhkbaaGreatDoor
