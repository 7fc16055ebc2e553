/-
  A number's text cut at its comma; read; told.
-/
import Derived.Test.YtfnminljpifloabCpx
import Derived.Lib.Bytealg
namespace Go.Proofs.Ytfnminljpifloab
open Go.RowKit Go.Lib Go.Sort Ieee
attribute [local go_sem] extBits extFrom

/-- The text that is read, and its two parts. -/
abbrev txA : ByteArray := ⟨#[51, 102, 102, 48, 48, 48, 48, 48, 48, 48, 48, 48, 48, 48, 48, 48]⟩
abbrev txB : ByteArray := ⟨#[56, 48, 48, 48, 48, 48, 48, 48, 48, 48, 48, 48, 48, 48, 48, 48]⟩
abbrev txZ : ByteArray := ⟨#[51, 102, 102, 48, 48, 48, 48, 48, 48, 48, 48, 48, 48, 48, 48, 48, 44, 56, 48, 48, 48, 48, 48, 48, 48, 48, 48, 48, 48, 48, 48, 48, 48]⟩

theorem extIndex (w : World) : (callFunc 40 #[.string txZ, .int .u8 44]).run Try.prog w = .ok (.value (.int .i64 16)) w := by
  rw [run_callFunc_extern Try.func40 (by kernel_rfl) (by kernel_rfl) (by kernel_rfl) (e := Extern.BytealgIndexByte.indexByte) (by kernel_rfl), run_indexByteString]
  rfl
attribute [local go_sem] extIndex

set_option maxHeartbeats 1600000 in
set_option maxRecDepth 1000000 in
theorem cut_tx (w : World) :
    Calls Try.prog 36 #[.string txZ, .int .u8 44] w fun e w' => e = .returned (.int .i64 16) ∧ w' = w := by
  go_enter Try.func36, Try.ntmps36
  go_wp2
  go_ret
  exact ⟨rfl, rfl⟩
set_option maxHeartbeats 1600000 in
set_option maxRecDepth 1000000 in
theorem index_tx (w : World) :
    Calls Try.prog 34 #[.string txZ, .string ⟨#[44]⟩] w fun e w' => e = .returned (.int .i64 16) ∧ w' = w := by
  go_enter Try.func34, Try.ntmps34
  go_wp2_with (go_at_call 36; refine (cut_tx _).mono ?_; rintro e w' ⟨rfl, rfl⟩)
  go_ret
  exact ⟨rfl, rfl⟩
set_option maxHeartbeats 1600000 in
set_option maxRecDepth 1000000 in
theorem liteCut_tx (w : World) :
    Calls Try.prog 31 #[.string txZ, .string ⟨#[44]⟩] w fun e w' => e = .returned (.tuple #[.string txA, .string txB, .bool true]) ∧ w.grownBy w' none := by
  have s1 : txZ.extract 0 16 = txA := by rfl
  have s2 : txZ.extract 17 33 = txB := by rfl
  go_enter Try.func31, Try.ntmps31
  go_wp2_with (go_at_call 34; refine (index_tx _).mono ?_; rintro e w' ⟨rfl, rfl⟩)
  go_region
  go_wp2_with fail
  go_ret3
  exact ⟨rfl, grownBy_drewN (World.grownBy.refl _ _) 1⟩
set_option maxHeartbeats 1600000 in
set_option maxRecDepth 1000000 in
theorem cutS_tx (w : World) :
    Calls Try.prog 22 #[.string txZ, .string ⟨#[44]⟩] w fun e w' => e = .returned (.tuple #[.string txA, .string txB, .bool true]) ∧ w.grownBy w' none := by
  go_enter Try.func22, Try.ntmps22
  go_wp2_with (go_at_call 31; refine (liteCut_tx _).mono ?_; rintro e w' ⟨rfl, hg⟩)
  go_ret3
  exact ⟨rfl, hg⟩

end Go.Proofs.Ytfnminljpifloab
