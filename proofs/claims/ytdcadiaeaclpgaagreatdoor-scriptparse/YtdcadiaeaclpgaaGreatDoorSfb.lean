/- What the listed variables hold: the table, the two errors. Of any one row that lists them in this order. -/
import Derived.Test.YtdcadiaeaclpgaaGreatDoorBunSha
import Derived.Test.YtdcadiaeaclpgaaGreatDoorBunSlj
import Derived.WalkKit
import Derived.ProofKit
import Derived.OpenShut
import Derived.LaidMore
import Derived.Lay
import Derived.SevenTiedAt
import Derived.Stop.Joined
import Derived.Stop.LaidErr
import Derived.Lib.LaidTab
import Derived.Test.YtdcadiaeaclpgaaGreatDoorRows
namespace Go.Proofs.YtdcadiaeaclpgaaGreatDoor
open Go.ChangeAt Go.ChangeShapes Go.Deep Go.Lib Go.RowKit Go.WideShapes
set_option linter.unusedVariables false
theorem Tryz.cellsES:Tryz.prog.cellsOf 253=1:=by kernel_rfl
theorem Tryz.cellsSs:Tryz.prog.cellsOf 9=1:=by kernel_rfl
theorem Tryz.gSyn : Tryz.prog.globalNamed "strconv.ErrSyntax" = some 4 := by kernel_rfl
theorem Tryz.gRan : Tryz.prog.globalNamed "strconv.ErrRange" = some 5 := by kernel_rfl
theorem Tryz.gSynT:(Tryz.prog.globals[4]?).map (·.type)=some 95:=by kernel_rfl
theorem Tryz.gRanT:(Tryz.prog.globals[5]?).map (·.type)=some 95:=by kernel_rfl
theorem Tryz.starE : "*" ++ "errors.errorString" = "*errors.errorString" := by decide
theorem Tryz.rowE (u : TypeId) (h : Tryz.prog.typeName? 3 u = some "*errors.errorString") : u = 251 :=
 typeName_ptr_named (nm := "errors.errorString") (by rw [Tryz.starE]; kernel_rfl) (by kernel_rfl) (by decide) u (by rw [Tryz.starE]; exact h)
abbrev laidS : List (String × DataW Unit) := [("math/bits.deBruijn32tab", Rows.laid_math_bits_deBruijn32tab), ("math/bits.deBruijn64tab", Rows.laid_math_bits_deBruijn64tab), ("internal/strconv.uint64pow10", Rows.laid_internal_strconv_uint64pow10), ("unicode/utf8.acceptRanges", Rows.laid_unicode_utf8_acceptRanges), ("strconv.ErrRange", Rows.laid_strconv_ErrRange), ("strconv.ErrSyntax", Rows.laid_strconv_ErrSyntax), ("unicode/utf8.first", Rows.laid_unicode_utf8_first)]
theorem tab_of {W:World} (h:laidMetH Tryz.prog laidS W):Tab W:=by
 rw [MakeChecks.laidMetH_plain _ _ _ (by kernel_rfl)]at h
 have h2:=laidMet.tail (laidMet.tail h)
 have e:(Rows.laid_internal_strconv_uint64pow10:DataW Unit)=Lib.tabData .u64 Lib.pow10Tab:=by kernel_rfl
 rw [e]at h2
 exact Lib.tabIs_of_head (g:=1) (by kernel_rfl) (by kernel_rfl) Tryz.underlying168 Tryz.underlying143 (by kernel_rfl) (by kernel_rfl) h2
theorem errs_of {W:World} (h:laidMetH Tryz.prog laidS W):Errs W:=by
 rw [MakeChecks.laidMetH_plain _ _ _ (by kernel_rfl)]at h
 have h2:=laidMet.tail (laidMet.tail (laidMet.tail (laidMet.tail h)))
 obtain⟨a1,s1,hv1,_⟩:=laid_sentinel h2 Tryz.gRan Tryz.gRanT Tryz.underlying95 Tryz.rowE Tryz.underlying251 Tryz.underlying253 rfl rfl Tryz.underlying9 Tryz.cellsES Tryz.cellsSs
 obtain⟨a2,s2,hv2,_⟩:=laid_sentinel (laidMet.tail h2) Tryz.gSyn Tryz.gSynT Tryz.underlying95 Tryz.rowE Tryz.underlying251 Tryz.underlying253 rfl rfl Tryz.underlying9 Tryz.cellsES Tryz.cellsSs
 exact⟨⟨_,by simpa using World.var?_cell Tryz.gSyn hv2 0,.inr ⟨_,_,rfl⟩⟩,_,by simpa using World.var?_cell Tryz.gRan hv1 0,.inr ⟨_,_,rfl⟩⟩
end Go.Proofs.YtdcadiaeaclpgaaGreatDoor
