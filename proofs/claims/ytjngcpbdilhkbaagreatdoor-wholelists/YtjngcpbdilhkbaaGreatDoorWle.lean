/-
  WholeLists, of any list.
-/
import Derived.Test.YtjngcpbdilhkbaaGreatDoorWld
namespace Go.Proofs.YtjngcpbdilhkbaaGreatDoor
open Go.RowKit Go.Lib Go.Sort
set_option linter.unusedVariables false

set_option maxHeartbeats 3200000 in
set_option maxRecDepth 1000000 in
theorem lists_many (ao : Option Addr) (n c : Nat) (w : World) (hn : 60 < n) (hn9 : n ≤ 9223372036854775807) (htab : Lib.TabIs Tryz.prog w "internal/strconv.uint64pow10" .u64 Lib.pow10Tab) :
    Calls Tryz.prog 3 #[.slice ao n c] w fun e w' => e = .returned (.bool true) ∧ w.grownBy w' none := by
  have HW : Hid (Calls Tryz.prog 6 #[] w fun e w' => e = .returned (.bool true) ∧ w.grownBy w' none) := works_any _ htab
  have h1 : (61 : Int) ≤ n := by omega
  have h2 : (n : Int) ≤ 9223372036854775807 := by omega
  clear htab hn hn9
  go_enter Tryz.func3, Tryz.ntmps3
  go_wp2_with fail
  refine HW.out.mono ?_
  rintro e w1 ⟨rfl, g1⟩
  have HG : Hid (w.grownBy w1 none) := g1
  clear g1
  go_wp2_with fail
  go_ret
  exact ⟨rfl, HG.out⟩
set_option maxHeartbeats 3200000 in
set_option maxRecDepth 1000000 in
theorem lists_long (ao : Option Addr) (n c : Nat) (l : List (Bool × ByteArray)) (w : World) (hS : SrcW w ao n l) (hnc : n ≤ c) (hx0 : ao = none → c = 0) (hn : n ≤ 60) (hs : ∀ p ∈ l, p.2.size ≤ maxLen) (hlo : anyLong l = true) (htab : Lib.TabIs Tryz.prog w "internal/strconv.uint64pow10" .u64 Lib.pow10Tab) :
    Calls Tryz.prog 3 #[.slice ao n c] w fun e w' => e = .returned (.bool true) ∧ w.grownBy w' none := by
  obtain ⟨gp, hgp⟩ := pow10_g
  have HT : Hid (∀ w', w.grownBy w' none → Lib.TabIs Tryz.prog w' "internal/strconv.uint64pow10" .u64 Lib.pow10Tab) := fun w' hg => tab_kept hgp htab hg
  have HL : Hid (Calls Tryz.prog 5 #[.slice ao n c] w fun e w' => e = .returned (.bool true) ∧ w.grownBy w' none) := by
    have := long_src hS hnc hx0 (by omega) hs
    rw [hlo] at this
    exact this
  have h1 : (n : Int) ≤ 60 := by omega
  clear htab hgp hn hS hs hlo
  go_enter Tryz.func3, Tryz.ntmps3
  go_wp2_with fail
  refine HL.out.mono ?_
  rintro e w1 ⟨rfl, g1⟩
  have HG : Hid (w.grownBy w1 none) := g1
  clear g1
  go_wp2_with fail
  refine (works_any _ (HT.out _ HG.out)).mono ?_
  rintro e w2 ⟨rfl, g2⟩
  have HG2 : Hid (w.grownBy w2 none) := grownBy_trans HG.out g2
  clear g2
  go_wp2_with fail
  go_ret
  exact ⟨rfl, HG2.out⟩
theorem lists_any (ao : Option Addr) (n c : Nat) (l : List (Bool × ByteArray)) (w : World) (hS : SrcW w ao n l) (hnc : n ≤ c) (hx0 : ao = none → c = 0) (hc9 : c ≤ 9223372036854775807) (hs : ∀ p ∈ l, p.2.size ≤ maxLen) (htab : Lib.TabIs Tryz.prog w "internal/strconv.uint64pow10" .u64 Lib.pow10Tab) :
    Calls Tryz.prog 3 #[.slice ao n c] w fun e w' => e = .returned (.bool true) ∧ w.grownBy w' none := by
  rcases Nat.lt_or_ge 60 n with h | h
  · exact lists_many ao n c w h (by omega) htab
  cases hlo : anyLong l
  · cases hma : mayAll l
    · exact lists_bad ao n c l w hS hnc hx0 h hc9 hs hlo hma htab
    · exact lists_yes ao n c l w hS hnc hx0 h hc9 hs hlo hma htab
  · exact lists_long ao n c l w hS hnc hx0 h hs hlo htab
end Go.Proofs.YtjngcpbdilhkbaaGreatDoor
