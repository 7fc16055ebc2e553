/- Four functions of the library, laid: Count of one byte, IndexByte, CutSuffix, HasSuffix. -/
import Derived.Test.YtdcadiaeaclpgaaGreatDoorBunSha
import Derived.Test.YtdcadiaeaclpgaaGreatDoorBunSoc
import Derived.Shelf.Strings.Count
import Derived.Shelf.Small.Strs
import Derived.Shelf.Small.Wraps
import Derived.Test.YtdcadiaeaclpgaaGreatDoorBunSrq
namespace Go.Proofs.YtdcadiaeaclpgaaGreatDoor
open Go Go.RowKit Go.Lib Go.Sort
set_option linter.unusedVariables false
set_option linter.unusedSimpArgs false
def Tryz.lays138_ren:Go.Shelf.Ren:=⟨fun|138=>77|143=>104|195=>102|217=>106|218=>103|219=>123|224=>147|225=>146|266=>131|267=>148|314=>165|n=>n,fun|0=>0|3=>3|4=>4|5=>5|9=>9|46=>170|51=>145|146=>191|n=>n,fun|1=>0|n=>n⟩
theorem Tryz.lays138:Go.Proofs.Lays.n138 Tryz.prog Tryz.lays138_ren:={
 mixed:=by kernel_rfl
 f138:=Tryz.func77.trans (congrArg some (by kernel_rfl))
 f143:=Tryz.func104.trans (congrArg some (by kernel_rfl))
 f195:=Tryz.func102.trans (congrArg some (by kernel_rfl))
 f217:=Tryz.func106.trans (congrArg some (by kernel_rfl))
 f218:=Tryz.func103.trans (congrArg some (by kernel_rfl))
 f219:=Tryz.func123.trans (congrArg some (by kernel_rfl))
 f224:=Tryz.func147.trans (congrArg some (by kernel_rfl))
 f225:=Tryz.func146.trans (congrArg some (by kernel_rfl))
 f266:=Tryz.func131.trans (congrArg some (by kernel_rfl))
 f267:=Tryz.func148.trans (congrArg some (by kernel_rfl))
 f314:=Tryz.func165.trans (congrArg some (by kernel_rfl))
 t0:=Tryz.underlying0
 a0:=Tryz.isAgg0
 z0:=Tryz.sizeOf0
 v0:=Tryz.zeroValue0
 t3:=Tryz.underlying3
 a3:=Tryz.isAgg3
 z3:=Tryz.sizeOf3
 v3:=Tryz.zeroValue3
 t4:=Tryz.underlying4
 a4:=Tryz.isAgg4
 z4:=Tryz.sizeOf4
 v4:=Tryz.zeroValue4
 t5:=Tryz.underlying5
 a5:=Tryz.isAgg5
 z5:=Tryz.sizeOf5
 v5:=Tryz.zeroValue5
 t9:=Tryz.underlying9
 a9:=Tryz.isAgg9
 z9:=Tryz.sizeOf9
 v9:=Tryz.zeroValue9
 t46:=Tryz.underlying170
 a46:=Tryz.isAgg170
 z46:=Tryz.sizeOf170
 v46:=Tryz.zeroValue170
 t51:=Tryz.underlying145
 a51:=Tryz.isAgg145
 z51:=Tryz.sizeOf145
 v51:=Tryz.zeroValue145
 t146:=Tryz.underlying191
 a146:=Tryz.isAgg191
 z146:=Tryz.sizeOf191
 v146:=Tryz.zeroValue191
 g1:=by kernel_rfl }
def Tryz.lays137_ren:Go.Shelf.Ren:=⟨fun|137=>80|217=>106|266=>131|n=>n,fun|3=>3|5=>5|9=>9|n=>n,fun |n=>n⟩
theorem Tryz.lays137:Go.Proofs.Lays.n137 Tryz.prog Tryz.lays137_ren:={
 mixed:=by kernel_rfl
 f137:=Tryz.func80.trans (congrArg some (by kernel_rfl))
 f217:=Tryz.func106.trans (congrArg some (by kernel_rfl))
 f266:=Tryz.func131.trans (congrArg some (by kernel_rfl))
 t3:=Tryz.underlying3
 a3:=Tryz.isAgg3
 z3:=Tryz.sizeOf3
 v3:=Tryz.zeroValue3
 t5:=Tryz.underlying5
 a5:=Tryz.isAgg5
 z5:=Tryz.sizeOf5
 v5:=Tryz.zeroValue5
 t9:=Tryz.underlying9
 a9:=Tryz.isAgg9
 z9:=Tryz.sizeOf9
 v9:=Tryz.zeroValue9 }
def Tryz.lays104_ren:Go.Shelf.Ren:=⟨fun|104=>57|207=>105|211=>81|n=>n,fun|3=>3|4=>4|9=>9|24=>110|n=>n,fun |n=>n⟩
theorem Tryz.lays104:Go.Proofs.Lays.n104 Tryz.prog Tryz.lays104_ren:={
 mixed:=by kernel_rfl
 f104:=Tryz.func57.trans (congrArg some (by kernel_rfl))
 f207:=Tryz.func105.trans (congrArg some (by kernel_rfl))
 f211:=Tryz.func81.trans (congrArg some (by kernel_rfl))
 t3:=Tryz.underlying3
 a3:=Tryz.isAgg3
 z3:=Tryz.sizeOf3
 v3:=Tryz.zeroValue3
 t4:=Tryz.underlying4
 a4:=Tryz.isAgg4
 z4:=Tryz.sizeOf4
 v4:=Tryz.zeroValue4
 t9:=Tryz.underlying9
 a9:=Tryz.isAgg9
 z9:=Tryz.sizeOf9
 v9:=Tryz.zeroValue9
 t24:=Tryz.underlying110
 a24:=Tryz.isAgg110
 z24:=Tryz.sizeOf110
 v24:=Tryz.zeroValue110 }
def Tryz.lays100_ren:Go.Shelf.Ren:=⟨fun|100=>78|207=>105|n=>n,fun|3=>3|4=>4|9=>9|n=>n,fun |n=>n⟩
theorem Tryz.lays100:Go.Proofs.Lays.n100 Tryz.prog Tryz.lays100_ren:={
 mixed:=by kernel_rfl
 f100:=Tryz.func78.trans (congrArg some (by kernel_rfl))
 f207:=Tryz.func105.trans (congrArg some (by kernel_rfl))
 t3:=Tryz.underlying3
 a3:=Tryz.isAgg3
 z3:=Tryz.sizeOf3
 v3:=Tryz.zeroValue3
 t4:=Tryz.underlying4
 a4:=Tryz.isAgg4
 z4:=Tryz.sizeOf4
 v4:=Tryz.zeroValue4
 t9:=Tryz.underlying9
 a9:=Tryz.isAgg9
 z9:=Tryz.sizeOf9
 v9:=Tryz.zeroValue9 }
theorem Tryz.strings_Count_one (s:ByteArray) (c:UInt8) (w:World) :
    Calls Tryz.prog 77 #[.string s,.string ⟨#[c]⟩] w fun e w'=>e=.returned (.int .i64 (Lib.countByte s.data.toList c))∧w'=w:=Any.strings_Count_one Tryz.lays138 s c w
theorem Tryz.strings_IndexByte (s:ByteArray) (c:Int) (w:World) :
    Calls Tryz.prog 80 #[.string s,.int .u8 c] w fun e w'=>e=.returned (.int .i64 (Lib.indexByte s.data.toList c.toNat.toUInt8))∧w'=w:=Any.strings_IndexByte Tryz.lays137 s c w
theorem Tryz.strings_CutSuffix (s p:ByteArray) (w:World) (hs:s.size≤9223372036854775807) :
    Calls Tryz.prog 57 #[.string s,.string p] w fun e w'=>e=.returned (.tuple #[.string ⟨(Lib.trimSuffix s.data.toList p.data.toList).toArray⟩,.bool (Lib.hasSuffix s.data.toList p.data.toList)])∧w'=w:=Any.strings_CutSuffix Tryz.lays104 s p w hs
theorem Tryz.strings_HasSuffix (s p:ByteArray) (w:World) (hs:s.size≤9223372036854775807) :
    Calls Tryz.prog 78 #[.string s,.string p] w fun e w'=>e=.returned (.bool (Lib.hasSuffix s.data.toList p.data.toList))∧w'=w:=Any.strings_HasSuffix Tryz.lays100 s p w hs
def lnP (R:List UInt8):List UInt8:=R.takeWhile fun c=>!(c == 10)
def rsP (R:List UInt8):List UInt8:=(R.dropWhile fun c=>!(c == 10)).drop 1
def ndP (R:List UInt8):Bool:=R.contains 10
theorem JD {c:UInt8} {R:List UInt8} (hc:¬c=10):lnP (c::R)=c::lnP R:=by
 unfold lnP
 rw [List.takeWhile_cons,if_pos (by simpa using hc)]
theorem rsP_ne {c:UInt8} {R:List UInt8} (hc:¬c=10):rsP (c::R)=rsP R:=by
 unfold rsP
 rw [List.dropWhile_cons,if_pos (by simpa using hc)]
theorem YC:∀ {R:List UInt8},ndP R=true→R=lnP R++10::rsP R
 |[],h=>by simp [ndP]at h
 |c::R,h=>by
  by_cases hc:c=10
  ·subst hc
   simp [lnP,rsP]
  ·have h1:ndP R=true:=by
     unfold ndP at h ⊢
     rw [List.contains_cons]at h
     have:(10 == c)=false:=by rw [beq_eq_false_iff_ne];exact fun e=>hc e.symm
     rw [this]at h
     exact h
   have h2:=YC h1
   rw [JD hc,rsP_ne hc,List.cons_append,←h2]
theorem ZdM:∀ {R:List UInt8},ndP R=false→lnP R=R
 |[],_=>rfl
 |c::R,h=>by
  unfold ndP at h
  rw [List.contains_cons,Bool.or_eq_false_iff]at h
  have hc:¬c=10:=by
   have:=h.1
   rw [beq_eq_false_iff_ne]at this
   exact fun e=>this e.symm
  rw [JD hc,ZdM h.2]
theorem ln_no (R:List UInt8):ndP (lnP R)=false:=by
 induction R with
 |nil=>rfl
 |cons c R ih =>
  by_cases hc:c=10
  ·subst hc
   rfl
  ·rw [JD hc]
   unfold ndP at ih ⊢
   rw [List.contains_cons,Bool.or_eq_false_iff]
   exact⟨by rw [beq_eq_false_iff_ne];exact fun e=>hc e.symm,ih⟩
theorem Jf {R:List UInt8} (h:ndP R=true):(lnP R).length+1+(rsP R).length=R.length:=by
 have:=congrArg List.length (YC h)
 rw [List.length_append,List.length_cons]at this
 omega
theorem ln_len (R:List UInt8):(lnP R).length≤R.length:=(List.takeWhile_sublist _).length_le
theorem ix_yes:∀ {R:List UInt8},ndP R=true→Lib.indexByte R 10=((lnP R).length:Int)
 |[],h=>by simp [ndP]at h
 |c::R,h=>by
  unfold Lib.indexByte
  by_cases hc:c=10
  ·subst hc
   rfl
  ·have h1:ndP R=true:=by
     unfold ndP at h ⊢
     rw [List.contains_cons]at h
     have:(10 == c)=false:=by rw [beq_eq_false_iff_ne];exact fun e=>hc e.symm
     rw [this]at h
     exact h
   have h2:=ix_yes h1
   have e2:(c == 10)=false:=by rw [beq_eq_false_iff_ne];exact hc
   have e3:(lnP (c::R)).length=(lnP R).length+1:=by
    rw [JD hc,List.length_cons]
   rw [e2,h2,e3]
   have e4:(((lnP R).length:Int) == -1)=false:=by rw [beq_eq_false_iff_ne];omega
   rw [e4]
   simp
theorem ix_no:∀ {R:List UInt8},ndP R=false→Lib.indexByte R 10=-1
 |[],_=>rfl
 |c::R,h=>by
  unfold ndP at h
  rw [List.contains_cons,Bool.or_eq_false_iff]at h
  have e2:(c == 10)=false:=by
   have:=h.1
   rw [beq_eq_false_iff_ne]at this ⊢
   exact fun e=>this e.symm
  unfold Lib.indexByte
  rw [e2,ix_no (R:=R) h.2]
  rfl
theorem sufx (l:List UInt8):Lib.hasSuffix l [10]=decide (l.getLast?=some 10):=by
 rcases List.eq_nil_or_concat l with rfl|⟨L,b,rfl⟩
 ·rfl
 ·rw [List.concat_eq_append,List.getLast?_append,List.getLast?_singleton]
  show List.isSuffixOf _ _=decide (some b=some 10)
  by_cases hb:b=10
  ·subst hb
   rw [decide_eq_true rfl]
   exact List.isSuffixOf_iff_suffix.2 ⟨L,rfl⟩
  ·rw [decide_eq_false (fun h=>hb (Option.some.inj h)),Bool.eq_false_iff]
   intro h
   obtain⟨t,ht⟩:=List.isSuffixOf_iff_suffix.1 h
   have:=List.append_inj_right' ht rfl
   exact hb (by simpa using this.symm)
theorem Zam (l:List UInt8):Lib.hasSuffix (l++[10]) [10]=true:=by
 rw [sufx,List.getLast?_append]
 rfl
theorem suf_no {l:List UInt8} (h:ndP l=false):Lib.hasSuffix l [10]=false:=by
 rw [sufx,decide_eq_false_iff_not]
 intro h2
 have h3:=List.mem_of_getLast? h2
 unfold ndP at h
 rw [List.contains_iff_mem.2 h3]at h
 cases h
theorem Zbc (l:List UInt8):Lib.trimSuffix (l++[10]) [10]=l:=by
 unfold Lib.trimSuffix
 rw [if_pos (Zam l)]
 simp
theorem trim_no {l:List UInt8} (h:ndP l=false):Lib.trimSuffix l [10]=l:=by
 unfold Lib.trimSuffix
 rw [if_neg (by rw [suf_no h];simp)]
noncomputable def alN:Nat→List UInt8→List St × Bool
 |0,R=>([],R.isEmpty)
 |n+1,R=>if R.isEmpty then([],true)else if ndP R then match stU (lnP R)with
  |none=>([],false)
  |some s=>(s::(alN n (rsP R)).1,(alN n (rsP R)).2)
  else([],false)
theorem U4 (n:Nat):alN n []=([],true):=by
 cases n<;>rfl
theorem Jd {n:Nat} {R:List UInt8} (hn:R.length≤n) (h0:R≠[]) (h:ndP R=false):alN n R=([],false):=by
 cases n with
 |zero=>exact absurd (List.length_eq_zero_iff.1 (by omega)) h0
 |succ n =>
  unfold alN
  rw [if_neg (by simpa using h0),if_neg (by rw [h];simp)]
theorem nd_ne {R:List UInt8} (h:ndP R=true):R≠[]:=by
 rintro rfl
 simp [ndP]at h
theorem Za0 {n:Nat} {R:List UInt8} (hn:R.length≤n) (h:ndP R=true) (hs:stU (lnP R)=none):alN n R=([],false):=by
 cases n with
 |zero=>exact absurd (List.length_eq_zero_iff.1 (by omega)) (nd_ne h)
 |succ n =>
  unfold alN
  rw [if_neg (by simpa using nd_ne h),if_pos h,hs]
theorem U3 {n:Nat} {R:List UInt8} {s:St} (hn:R.length≤n) (h:ndP R=true) (hs:stU (lnP R)=some s):∃m,n=m+1∧(rsP R).length≤m∧alN n R=(s::(alN m (rsP R)).1,(alN m (rsP R)).2):=by
 cases n with
 |zero=>exact absurd (List.length_eq_zero_iff.1 (by omega)) (nd_ne h)
 |succ n =>
  refine⟨n,rfl,by have:=Jf h;omega,?_⟩
  rw [alN,if_neg (by simpa using nd_ne h),if_pos h,hs]
theorem Zdp:∀(n:Nat) (R:List UInt8),(alN n R).1.length≤n
 |0,R=>Nat.le_refl _
 |n+1,R=>by
  unfold alN
  split
  ·simp
  ·split
   ·split
    ·simp
    ·simp only [List.length_cons]
     have:=Zdp n (rsP R)
     omega
   ·simp
def linesN (R:List UInt8):Nat:=R.count 10+(if R≠[]∧¬R.getLast?=some 10 then 1 else 0)
theorem ZbI {R:List UInt8} (h:ndP R=true):linesN R=1+linesN (rsP R):=by
 have hs:=YC h
 have h0:(lnP R).count 10=0:=by
  rw [List.count_eq_zero]
  intro hm
  have:=ln_no R
  unfold ndP at this
  rw [List.contains_iff_mem.2 hm]at this
  cases this
 have hc:R.count 10=1+(rsP R).count 10:=by
  rw [hs,List.count_append,←hs,h0,List.count_cons_self]
  omega
 unfold linesN
 rw [hc,Nat.add_assoc]
 congr 2
 by_cases hr:rsP R=[]
 ·have hl:R.getLast?=some 10:=by
    rw [hs,hr,List.getLast?_append]
    rfl
  rw [if_neg (by rw [hl];simp),if_neg (by rw [hr];simp)]
 ·have hl:R.getLast?=(rsP R).getLast?:=by
    have e:∀A B:List UInt8,B≠[]→(A++10::B).getLast?=B.getLast?:=fun A B hB=>by
     rw [List.getLast?_append,List.getLast?_cons]
     cases h2:B.getLast? with
     |none=>exact absurd (List.getLast?_eq_none_iff.1 h2) hB
     |some x=>rfl
    have e2:=e (lnP R) (rsP R) hr
    rw [←hs]at e2
    exact e2
  rw [hl]
  simp only [ne_eq,nd_ne h,hr,not_false_eq_true,true_and]
theorem ZfK {R:List UInt8} (h0:R≠[]) (h:ndP R=false):linesN R=1:=by
 have hm:¬(10:UInt8)∈R:=fun hm=>by
  unfold ndP at h
  rw [List.contains_iff_mem.2 hm]at h
  cases h
 unfold linesN
 rw [List.count_eq_zero.2 hm,if_pos ⟨h0,fun h2=>hm (List.mem_of_getLast? h2)⟩]
theorem ZeR:∀(n:Nat) (R:List UInt8),R.length≤n→if(alN n R).2=true then(alN n R).1.length=linesN R else(alN n R).1.length<linesN R:=by
 intro n
 induction n with
 |zero =>
  intro R hn
  obtain rfl:=List.length_eq_zero_iff.1 (show R.length=0 by omega)
  rfl
 |succ n ih =>
  intro R hn
  by_cases h0:R=[]
  ·subst h0
   rw [U4]
   rfl
  cases h:ndP R with
  |false =>
   rw [Jd hn h0 h]
   simp only [Bool.false_eq_true,if_false]
   rw [ZfK h0 h]
   decide
  |true =>
   cases hs:stU (lnP R)with
   |none =>
    rw [Za0 hn h hs]
    simp only [Bool.false_eq_true,if_false]
    rw [ZbI h]
    show 0<_
    omega
   |some s =>
    obtain⟨m,hm,hl,e⟩:=U3 hn h hs
    obtain rfl:m=n:=by omega
    rw [e,ZbI h]
    have:=ih (rsP R) hl
    simp only [List.length_cons]
    split
    ·rename_i h2
     rw [if_pos h2]at this
     omega
    ·rename_i h2
     rw [if_neg h2]at this
     omega
end Go.Proofs.YtdcadiaeaclpgaaGreatDoor
