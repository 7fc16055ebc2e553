/-
  The laws' long and bad, of a list that may not be there.
-/
import Derived.Test.YtjngcpbdilhkbaaGreatDoorWla
import Derived.Test.YtjngcpbdilhkbaaGreatDoorBunPrg
namespace Go.Proofs.YtjngcpbdilhkbaaGreatDoor
open Go.RowKit Go.Lib Go.Sort
set_option linter.unusedVariables false

set_option maxHeartbeats 1600000 in
set_option maxRecDepth 1000000 in
theorem long_nil (ao : Option Addr) (c : Nat) (w : World) : Calls Tryz.prog 5 #[.slice ao 0 c] w fun e w' => e = .returned (.bool false) ∧ w.grownBy w' none := by
  go_enter Tryz.func5, Tryz.ntmps5
  go_wp2
  go_loopw [3] (fun s wr => s = .int .i64 0 ∧ wr = w) (fun _ _ => 0)
  case atStart => exact ⟨rfl, rfl⟩
  case round =>
    obtain ⟨rfl, rfl⟩ := hrel
    go_wp2
    go_ret
    exact ⟨rfl, World.grownBy.refl _ _⟩
set_option maxHeartbeats 1600000 in
set_option maxRecDepth 1000000 in
theorem bad_nil (ao : Option Addr) (c : Nat) (w : World) : Calls Tryz.prog 9 #[.slice ao 0 c] w fun e w' => e = .returned (.bool false) ∧ w.grownBy w' none := by
  go_enter Tryz.func9, Tryz.ntmps9
  go_wp2
  go_loopw [3] (fun s wr => s = .int .i64 0 ∧ wr = w) (fun _ _ => 0)
  case atStart => exact ⟨rfl, rfl⟩
  case round =>
    obtain ⟨rfl, rfl⟩ := hrel
    go_wp2
    go_ret
    exact ⟨rfl, World.grownBy.refl _ _⟩
theorem SrcW.dw {w : World} {B off n c : Nat} {l : List (Bool × ByteArray)} (h : SrcW w (some ⟨B, off, none⟩) n l) (hc : n ≤ c) : DW w (.slice (some ⟨B, off, none⟩) n c) l := by
  obtain ⟨rfl, h⟩ := h
  rcases h with h | ⟨B', off', e, h⟩
  · obtain rfl := List.length_eq_zero_iff.1 h
    exact ⟨B, off, c, rfl, hc, by intro j p hp; simp at hp⟩
  · cases e
    exact ⟨B, off, c, rfl, hc, h⟩
theorem long_src {w : World} {ao : Option Addr} {n c : Nat} {l : List (Bool × ByteArray)} (h : SrcW w ao n l) (hc : n ≤ c) (hx0 : ao = none → c = 0) (hl : n ≤ 1000000000) (hs : ∀ p ∈ l, p.2.size ≤ maxLen) :
    Calls Tryz.prog 5 #[.slice ao n c] w fun e w' => e = .returned (.bool (anyLong l)) ∧ w.grownBy w' none := by
  rcases h.2 with rfl | ⟨B, off, rfl, _⟩
  · obtain rfl := List.length_eq_zero_iff.1 h.1
    exact long_nil ao c w
  · exact long_any w _ l (h.dw hc) (by rw [h.1]; exact hl) hs
theorem bad_src {w : World} {ao : Option Addr} {n c : Nat} {l : List (Bool × ByteArray)} (h : SrcW w ao n l) (hc : n ≤ c) (hx0 : ao = none → c = 0) (hl : n ≤ 1000000000) (hs : ∀ p ∈ l, p.2.size ≤ maxLen) :
    Calls Tryz.prog 9 #[.slice ao n c] w fun e w' => e = .returned (.bool (!mayAll l)) ∧ w.grownBy w' none := by
  rcases h.2 with rfl | ⟨B, off, rfl, _⟩
  · obtain rfl := List.length_eq_zero_iff.1 h.1
    exact bad_nil ao c w
  · exact bad_any w _ l (h.dw hc) (by rw [h.1]; exact hl) hs
end Go.Proofs.YtjngcpbdilhkbaaGreatDoor
