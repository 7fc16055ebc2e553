/-
  The law ScriptLine: its walk.
-/
import Derived.Test.YtdcadiaeaclpgaaGreatDoorBunSrr
import Derived.Test.YtdcadiaeaclpgaaGreatDoorBunScs
namespace Go.Proofs.YtdcadiaeaclpgaaGreatDoor
open Go Go.RowKit Go.Lib Go.Sort
set_option linter.unusedVariables false
set_option linter.unusedSimpArgs false
theorem bigS_few {s:St} (h:bigS s=false):s.ags.length≤70∧(∀ a∈s.ags,a.Few)∧∀ a∈s.ags,a.wd.length≤100:=by
 simp only [bigS,Bool.or_eq_false_iff,decide_eq_false_iff_not,List.any_eq_false] at h
 obtain ⟨h1,_,_,h4⟩:=h
 refine ⟨by omega,fun a ha=>bigA_few (by simpa using h4 a ha),fun a ha=>?_⟩
 have:=h4 a ha
 simp [bigA] at this
 omega
theorem bigS_fit {s:St} (h:bigS s=false):s.Fit:=by
 simp only [bigS,Bool.or_eq_false_iff,decide_eq_false_iff_not,List.any_eq_false] at h
 obtain ⟨h1,h2,h3,h4⟩:=h
 refine ⟨by unfold maxLen; omega,by unfold maxLen; omega,by omega,fun a ha=>?_⟩
 have:=h4 a ha
 simp [bigA] at this
 obtain ⟨b1,b2,b3,b4,b5,b6⟩:=this
 exact ⟨by unfold maxLen; omega,⟨by unfold maxLen; omega,by unfold maxLen; omega,by unfold maxLen; omega,by unfold maxLen; omega⟩,by omega⟩
end Go.Proofs.YtdcadiaeaclpgaaGreatDoor
