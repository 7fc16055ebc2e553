/-
  Proved: for any text ScriptRead answers true (the statement whose line it is, or the refusal, is the document's; what is told is the caller's), the card tied; no condition beyond the listed variables of the library's.
-/
import Derived.Test.YtdcadiaeaclpgaaGreatDoorBunSok
import Derived.Test.YtdcadiaeaclpgaaGreatDoorSfb
import Derived.Test.YtdcadiaeaclpgaaGreatDoorLaw
import Derived.Test.YtdcadiaeaclpgaaGreatDoorTie
import Derived.Test.YtdcadiaeaclpgaaGreatDoorCards
import Derived.WalkKit
import Derived.Deep.Slices
import Derived.ChangeMaps5
import Derived.ProofKit
import Derived.OpenShut
import Derived.LaidMore
import Derived.Lay
import Derived.SevenTiedAt
import Derived.Stop.Joined
import Derived.Stop.LaidErr
import Derived.Lib.LaidTab
namespace Go.Proofs.YtdcadiaeaclpgaaGreatDoor.scriptRead
open Go.ChangeAt Go.ChangeShapes Go.Deep Go.Lib Go.RowKit Go.WideShapes
set_option linter.unusedVariables false
theorem own:ownKnob Tryz.prog.godebug=none:=by kernel_rfl
theorem laid_is:Rows.scriptReadRow.laid=laidS:=rfl
set_option maxRecDepth 100000 in
theorem lifted (os:Os) (started:os.Started) (H:Type) (enc:TypeId × Value→H) :
    ReturnsInHanded {} Tryz.checked os 4 .any (fun w args=>(Rows.scriptReadSpec.pre enc Tryz.prog Tryz.f4 Rows.scriptReadRow.domain false w args∧laidMetH Tryz.prog Rows.scriptReadRow.laid w)∧sizedMet enc Tryz.prog Tryz.f4 (OpenSpec.ofChange Rows.scriptReadSpec) false w args)
     (Rows.scriptReadSpec.post enc Tryz.prog Tryz.f4 false true false false):=by
 refine returnsInHanded_of_change_and (C:=Tryz.checked) (X:=fun w _=>laidMetH Tryz.prog Rows.scriptReadRow.laid w) (fun _ _ _ hh h=>h.of_heap hh) own started (by kernel_rfl) Tryz.func4
  (ChangeSpec.witness_shaped (enc:=enc) (C:=Tryz.checked) (os:=os) (X:=fun w _=>laidMetH Tryz.prog Rows.scriptReadRow.laid w) false (World.laidAll Tryz.prog os Rows.scriptReadRow.laid) #[.string ⟨#[]⟩] 8 (World.laidAll_os _ _ _)
   (World.shaped_of_ZipB (by kernel_rfl) (by kernel_rfl)) (by kernel_rfl) (by kernel_rfl) (by kernel_rfl)
   (by rw [MakeChecks.laidMetH_plain _ _ _ (by kernel_rfl)]; exact laidMet_laidAll _ (by kernel_rfl) (by kernel_rfl))) ?_
 intro W base args ds gs before hval0 hW hc hwt hL _
 have hval:∀ (j:Nat) t v,Tryz.f4.params[j]?=some t→args[j]?=some v→Value.okWide Tryz.prog W .any base t v:=hval0
 have hW':=hW
 obtain ⟨p,q,hA0,hV,rfl,_,_⟩:=hW
 have hA:DataW.TrodAll enc Tryz.prog W 0 (fun _=>true) true Tryz.f4.params.toList args.toList ds p:=hA0
 rw [Tryz.params4] at hA hval
 obtain ⟨v0,vs0,d0,ds0,p0,q0,hargs,rfl,rfl,t0,r0⟩:=trodAll_cons hA
 obtain ⟨rfl,rfl,rfl⟩:=trodAll_nil r0
 obtain rfl:args=#[v0]:=by cases args; simp_all
 obtain ⟨rfl,rfl⟩:=trodVars_none hV
 obtain ⟨str,rfl,rfl,rfl,hstr⟩:=Go.ChangeMaps.open_string Tryz.underlying9 (hval 0 9 v0 rfl rfl) t0
 clear hA0 hval0
 simp only [List.append_nil] at hW'
 have hl:str.data.toList.length≤maxLen:=by
  rw [Array.length_toList]
  exact hstr
 have hb:=slaw_read W str.data.toList hl (tab_of hL) (errs_of hL)
 rw [bA_of] at hb
 refine hb.mono fun e W' ⟨he,hg⟩=>?_
 subst he
 exact ⟨_,rfl,post_law (by kernel_rfl) (by kernel_rfl) rfl rfl Tryz.underlying4 hW' rfl (below_of_grownBy hg)⟩
theorem holds:Rows.ScriptReadSaid :=
 OpenClaim.holds_of_wide 4 Tryz.f4 rfl rfl rfl rfl rfl rfl rfl ⟨rfl,rfl,rfl,rfl,rfl⟩ rfl rfl rfl rfl rfl (by kernel_rfl) Tryz.func4 (by kernel_rfl)
  (of_decide_eq_true (by kernel_rfl)) (by unfold Func.isWrapper; first | (rw [if_pos (by decide +kernel)]; kernel_rfl) | (rw [if_neg (by decide +kernel)]; exact ⟨rfl,rfl⟩))
  (fun os started H enc _=>lifted os started H enc)
theorem card:Rows.ScriptReadCardSaid :=
 Claim7.holds_tied_plain_at .later [] [.data,.data,.data,.data,.sentinel,.sentinel,.pinned] true Rows.scriptReadCard.stood.harness true holds (fun _ h=>by cases h) (by kernel_rfl) (fun _ h=>by cases h) scriptRead_row_tie rfl ⟨rfl,rfl⟩ (by kernel_rfl) rfl
  (fun f fn hf hfn=>by
   obtain rfl:f=4:=Option.some.inj ((show Tryz.prog.funcNamed Rows.scriptReadRow.func=some 4 by kernel_rfl).symm.trans hf) |>.symm
   obtain rfl:fn=Tryz.f4:=(Option.some.inj (Tryz.func4.symm.trans hfn)).symm
   exact ⟨by kernel_rfl,fun j t ht=>by
    rw [Tryz.params4] at ht
    have hm:t∈[9]:=by simpa using Array.mem_of_getElem? ht
    have hall:([9].all fun u=>!Tryz.prog.wantsStandIn u)=true:=by kernel_rfl
    exact (show Tryz.prog.wantsStandIn t=false by simpa using List.all_eq_true.1 hall t hm)⟩)
  (by kernel_rfl)
end Go.Proofs.YtdcadiaeaclpgaaGreatDoor.scriptRead
namespace Go.Proofs.YtdcadiaeaclpgaaGreatDoor
theorem scriptRead_holds:Rows.ScriptReadCardSaid:=scriptRead.card
#print axioms scriptRead_holds
end Go.Proofs.YtdcadiaeaclpgaaGreatDoor
