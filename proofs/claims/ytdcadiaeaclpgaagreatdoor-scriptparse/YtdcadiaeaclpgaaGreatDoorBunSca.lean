/- Which texts are words of letters, which are names; letters, counts. -/
import Derived.Test.YtdcadiaeaclpgaaGreatDoorBunChk
import Derived.Test.YtdcadiaeaclpgaaGreatDoorBunAll
namespace Go.Proofs.YtdcadiaeaclpgaaGreatDoor
open Go.RowKit Go.Lib Go.Sort
set_option linter.unusedVariables false
set_option linter.unusedSimpArgs false
set_option maxHeartbeats 3200000
set_option maxRecDepth 1000000
def smallB (b:Nat):Bool:=decide (97≤b) && decide (b≤122)
def nameB (b:Nat):Bool:=smallB b || (b == 45 || (decide (48≤b) && decide (b≤57)))
def isVb (s:ByteArray):Bool:=decide (1≤s.size∧s.size≤16) && (bN s).all smallB
def isNm (s:ByteArray):Bool:=decide (1≤s.size∧s.size≤32) && (smallB ((bN s)[0]?.getD 0) && (bN s).all nameB)
def isLt (k:Int):Bool:=decide (k≠0) && (decide (-4096≤k) && decide (k≤4096))
def isCt (n:Int):Bool:=decide (0≤n) && decide (n≤2147483647)
def isWd (L:List Int):Bool:=decide (L.length≤4096) && L.all isLt
theorem grow0 (w:World):w.grownBy w none:=⟨rfl,rfl,rfl,Nat.le_refl _,fun _ _ _=>rfl⟩
theorem Xo (b:Nat) (hb:b<256) (w:World) :
    Calls Tryz.prog 62 #[.int .u8 b] w fun e w'=>e=.returned (.bool (smallB b))∧w'=w:=by
 go_enter Tryz.func62,Tryz.ntmps62
 go_wp2
 all_goals go_ret
 all_goals refine⟨Zh ?_,rfl⟩
 all_goals (rw [Bool.eq_iff_iff];simp [smallB];try omega)
theorem X9 (k:Int) (w:World) :
    Calls Tryz.prog 90 #[.int .i64 k] w fun e w'=>e=.returned (.bool (isLt k))∧w'=w:=by
 go_enter Tryz.func90,Tryz.ntmps90
 go_wp2
 all_goals go_ret
 all_goals refine⟨Zh ?_,rfl⟩
 all_goals (rw [Bool.eq_iff_iff];simp [isLt];try omega)
theorem VE (k:Int) (w:World) :
    Calls Tryz.prog 65 #[.int .i64 k] w fun e w'=>e=.returned (.bool (isCt k))∧w'=w:=by
 go_enter Tryz.func65,Tryz.ntmps65
 go_wp2
 all_goals go_ret
 all_goals refine⟨Zh ?_,rfl⟩
 all_goals (rw [Bool.eq_iff_iff];simp [isCt];try omega)
theorem Y8 {f:Nat→Bool} {L:List Nat} {i b:Nat} (h:(L.take i).all f=true) (hb:L[i]?=some b) (hf:f b=true):(L.take (i+1)).all f=true:=by
 rw [List.take_add_one,hb,List.all_append,h]
 simp [hf]
theorem UM {f:Nat→Bool} {L:List Nat} {i b:Nat} (hb:L[i]?=some b) (hf:f b=false):L.all f=false:=by
 rw [List.all_eq_false]
 exact⟨b,List.mem_of_getElem? hb,by simp [hf]⟩
theorem UE (s:ByteArray) (hs:s.size≤maxLen) (w:World) :
    Calls Tryz.prog 37 #[.string s] w fun e w'=>e=.returned (.bool (isVb s))∧w'=w:=by
 unfold maxLen at hs
 by_cases h0:s.size=0
 ·obtain rfl:=Zi h0
  go_enter Tryz.func37,Tryz.ntmps37
  go_wp2
  go_ret
  exact⟨rfl,rfl⟩
 ·have he:=Zu h0
  by_cases h1:s.size≤16
  ·obtain⟨n,hn⟩:∃n,s.size=n:=⟨_,rfl⟩
   have HB:Hid (∀i,i<n→∃b,b<256∧(bN s)[i]?=some b∧∃h:i<s.size,s[i].toNat=b):=fun i hi=>⟨_,UInt8.toNat_lt _,bN_at s i (by omega),by omega,rfl⟩
   have HV:Hid (isVb s=(bN s).all smallB):=by
    show _=_
    unfold isVb
    rw [decide_eq_true (by omega)]
    rfl
   have HL:Hid ((bN s).take n=bN s):=by
    show _=_
    rw [←hn,←Ze,List.take_length]
   have hnI:(n:Int)≤16:=by omega
   go_enter Tryz.func37,Tryz.ntmps37
   go_wp2
   go_loopw [13] (fun s' wr=>∃i:Nat,i≤n∧s'=.int .i64 i∧((bN s).take i).all smallB=true∧wr=w) (fun s _=>match s with|.int _ i=>n-i.toNat|_=>0)
   case atStart=>exact⟨0,by omega,rfl,rfl,rfl⟩
   case round =>
    obtain⟨i,hi,rfl,hp,rfl⟩:=hrel
    have HP:Hid (((bN s).take i).all smallB=true):=hp
    clear hp
    by_cases hlt:i<n
    ·obtain⟨b,hb,hbi,hs1,hs2⟩:=HB.out i hlt
     have HBI:Hid ((bN s)[i]?=some b):=hbi
     have hC:=Xo b hb
     have hltI:(i:Int)<n:=by omega
     clear hbi
     cases hsb:smallB b
     ·rw [hsb]at hC
      have HF:Hid (smallB b=false):=hsb
      go_wp2_with fail
      refine(hC _).mono ?_
      rintro e w' ⟨rfl,rfl⟩
      go_wp2_with fail
      go_ret
      refine⟨Zh ?_,rfl⟩
      rw [HV.out,UM HBI.out HF.out]
     ·rw [hsb]at hC
      have HF:Hid (((bN s).take (i+1)).all smallB=true):=Y8 HP.out HBI.out hsb
      go_wp2_with fail
      refine(hC _).mono ?_
      rintro e w' ⟨rfl,rfl⟩
      go_wp2_with fail
      go_roundw
      case rel=>exact⟨i+1,by omega,Zl (by omega),HF.out,trivial⟩
      case measure=>simp;omega
    ·have e:i=n:=by omega
     subst e
     go_wp2
     go_ret
     refine⟨Zh ?_,rfl⟩
     rw [HV.out,←HL.out]
     exact HP.out.symm
  ·have h1I:(17:Int)≤s.size:=by omega
   have hsI:(s.size:Int)≤9223372036854775807:=by omega
   have HV:Hid (isVb s=false):=by
    show _=_
    unfold isVb
    rw [decide_eq_false (by omega)]
    rfl
   clear hs h0 h1
   go_enter Tryz.func37,Tryz.ntmps37
   go_wp2
   all_goals go_ret
   all_goals exact⟨Zh HV.out.symm,rfl⟩
theorem Y7 (s:ByteArray) (hs:s.size≤maxLen) (w:World) :
    Calls Tryz.prog 38 #[.string s] w fun e w'=>e=.returned (.bool (isNm s))∧w'=w:=by
 unfold maxLen at hs
 by_cases h0:s.size=0
 ·obtain rfl:=Zi h0
  go_enter Tryz.func38,Tryz.ntmps38
  go_wp2
  go_ret
  exact⟨rfl,rfl⟩
 ·have he:=Zu h0
  by_cases h1:s.size≤32
  ·obtain⟨n,hn⟩:∃n,s.size=n:=⟨_,rfl⟩
   have HB:Hid (∀i,i<n→∃b,b<256∧(bN s)[i]?=some b∧∃h:i<s.size,s[i].toNat=b):=fun i hi=>⟨_,UInt8.toNat_lt _,bN_at s i (by omega),by omega,rfl⟩
   have HV:Hid (isNm s=(smallB ((bN s)[0]?.getD 0) && (bN s).all nameB)):=by
    show _=_
    unfold isNm
    rw [decide_eq_true (by omega)]
    rfl
   have HL:Hid ((bN s).take n=bN s):=by
    show _=_
    rw [←hn,←Ze,List.take_length]
   have hnI:(n:Int)≤32:=by omega
   obtain⟨a,ha,hai,hs1,hs2⟩:=HB.out 0 (by omega)
   have hC0:=Xo a ha
   have HA:Hid (smallB ((bN s)[0]?.getD 0)=smallB a):=by
    show _=_
    rw [hai]
    rfl
   clear hai
   cases hsa:smallB a
   ·rw [hsa]at hC0 HA
    go_enter Tryz.func38,Tryz.ntmps38
    go_wp2_with fail
    refine(hC0 _).mono ?_
    rintro e w' ⟨rfl,rfl⟩
    go_wp2_with fail
    go_ret
    refine⟨Zh ?_,rfl⟩
    rw [HV.out,HA.out]
    rfl
   rw [hsa]at hC0 HA
   go_enter Tryz.func38,Tryz.ntmps38
   go_wp2_with fail
   refine(hC0 _).mono ?_
   rintro e w ⟨rfl,rfl⟩
   clear hs1 hs2 hC0 ha hsa
   go_wp2_with fail
   go_loopw [20] (fun s' wr=>∃i:Nat,i≤n∧s'=.int .i64 i∧((bN s).take i).all nameB=true∧wr=w) (fun s _=>match s with|.int _ i=>n-i.toNat|_=>0)
   case atStart=>exact⟨0,by omega,rfl,rfl,rfl⟩
   case round =>
    obtain⟨i,hi,rfl,hp,rfl⟩:=hrel
    have HP:Hid (((bN s).take i).all nameB=true):=hp
    clear hp
    by_cases hlt:i<n
    ·obtain⟨b,hb,hbi,hs1,hs2⟩:=HB.out i hlt
     have HBI:Hid ((bN s)[i]?=some b):=hbi
     have hC:=Xo b hb
     have hltI:(i:Int)<n:=by omega
     have hbI:(b:Int)<256:=by omega
     clear hbi
     cases hsb:smallB b
     ·rw [hsb]at hC
      have HF:Hid (smallB b=false):=hsb
      clear hsb
      go_wp2_with fail
      refine(hC _).mono ?_
      rintro e w' ⟨rfl,rfl⟩
      go_wp2
      all_goals (rename_i hh;first
       |(go_ret
         refine⟨Zh ?_,rfl⟩
         have hq:nameB b=false:=by
          simp only [nameB,HF.out,Bool.false_or]
          simp at hh ⊢
          omega
         rw [HV.out,UM HBI.out hq]
         simp)
       |(have hq:nameB b=true:=by
           simp only [nameB,HF.out,Bool.false_or]
           simp at hh ⊢
           omega
         exact⟨⟨i+1,by omega,Zl (by omega),Y8 HP.out HBI.out hq,trivial⟩,by simp;omega⟩))
     ·rw [hsb]at hC
      have HF:Hid (((bN s).take (i+1)).all nameB=true):=Y8 HP.out HBI.out (by simp [nameB,hsb])
      clear hsb
      go_wp2_with fail
      refine(hC _).mono ?_
      rintro e w' ⟨rfl,rfl⟩
      go_wp2_with fail
      go_roundw
      case rel=>exact⟨i+1,by omega,Zl (by omega),HF.out,trivial⟩
      case measure=>simp;omega
    ·have e:i=n:=by omega
     subst e
     go_wp2
     go_ret
     refine⟨Zh ?_,rfl⟩
     rw [HV.out,HA.out,←HL.out]
     simpa using HP.out.symm
  ·have h1I:(33:Int)≤s.size:=by omega
   have hsI:(s.size:Int)≤9223372036854775807:=by omega
   have HV:Hid (isNm s=false):=by
    show _=_
    unfold isNm
    rw [decide_eq_false (by omega)]
    rfl
   clear hs h0 h1
   go_enter Tryz.func38,Tryz.ntmps38
   go_wp2
   all_goals go_ret
   all_goals exact⟨Zh HV.out.symm,rfl⟩
theorem J7 (s:ByteArray) (hs:s.size≤maxLen) (w:World) :
    Calls Tryz.prog 40 #[.string s] w fun e w'=>e=.returned (.bool (isVb s))∧w'=w:=by
 unfold maxLen at hs
 by_cases h0:s.size=0
 ·obtain rfl:=Zi h0
  go_enter Tryz.func40,Tryz.ntmps40
  go_wp2
  go_ret
  exact⟨rfl,rfl⟩
 ·by_cases h1:s.size≤16
  ·obtain⟨n,hn⟩:∃n,s.size=n:=⟨_,rfl⟩
   have HB:Hid (∀i,i<n→∃b,b<256∧(bN s)[i]?=some b∧∃h:i<s.size,s[i].toNat=b):=fun i hi=>⟨_,UInt8.toNat_lt _,bN_at s i (by omega),by omega,rfl⟩
   have HV:Hid (isVb s=(bN s).all smallB):=by
    show _=_
    unfold isVb
    rw [decide_eq_true (by omega)]
    rfl
   have HL:Hid ((bN s).take n=bN s):=by
    show _=_
    rw [←hn,←Ze,List.take_length]
   have hnI:(n:Int)≤16:=by omega
   have hn0:(1:Int)≤n:=by omega
   go_enter Tryz.func40,Tryz.ntmps40
   go_wp2
   go_loopw [3] (fun s' wr=>∃i:Nat,i≤n∧s'=.int .i64 i∧((bN s).take i).all smallB=true∧wr=w) (fun s _=>match s with|.int _ i=>n-i.toNat|_=>0)
   case atStart=>exact⟨0,by omega,rfl,rfl,rfl⟩
   case round =>
    obtain⟨i,hi,rfl,hp,rfl⟩:=hrel
    have HP:Hid (((bN s).take i).all smallB=true):=hp
    clear hp
    by_cases hlt:i<n
    ·obtain⟨b,hb,hbi,hs1,hs2⟩:=HB.out i hlt
     have HBI:Hid ((bN s)[i]?=some b):=hbi
     have hltI:(i:Int)<n:=by omega
     have hbI:(b:Int)<256:=by omega
     clear hbi
     go_wp2
     all_goals (rename_i hh;first
         |(go_ret
           refine⟨Zh ?_,rfl⟩
           have hq:smallB b=false:=by
            simp only [smallB]
            simp at hh ⊢
            omega
           rw [HV.out,UM HBI.out hq])
         |(have hq:smallB b=true:=by
             simp only [smallB]
             simp at hh ⊢
             omega
           exact⟨⟨i+1,by omega,Zl (by omega),Y8 HP.out HBI.out hq,trivial⟩,by simp;omega⟩))
    ·have e:i=n:=by omega
     subst e
     go_wp2
     go_ret
     refine⟨Zh ?_,rfl⟩
     rw [HV.out,←HL.out]
     exact HP.out.symm
  ·have h1I:(17:Int)≤s.size:=by omega
   have hsI:(s.size:Int)≤9223372036854775807:=by omega
   have HV:Hid (isVb s=false):=by
    show _=_
    unfold isVb
    rw [decide_eq_false (by omega)]
    rfl
   clear hs h0 h1
   go_enter Tryz.func40,Tryz.ntmps40
   go_wp2
   all_goals go_ret
   all_goals exact⟨Zh HV.out.symm,rfl⟩
abbrev enc8:Int→Value:=Value.int .i64
theorem Tryz.info8:(Tryz.prog.info? 3).map (fun i=>(i.zero,i.size,i.bytes))=some (some (.int .i64 0),1,8):=by kernel_rfl
def Ints (w:World) (v:Value) (L:List Int):Prop :=
 (v=.slice none 0 0∧L=[])∨(∃B off c,v=.slice (some ⟨B,off,none⟩) L.length c∧L.length≤c∧∀j,j<L.length→w.cell? ⟨B,off+j,none⟩=some (.int .i64 (L[j]?.getD 0)))∨(L=[]∧∃a,v=.slice (some a) 0 0)
theorem Ints.keptB {w w':World} {v:Value} {L:List Int} {row:Option Nat} (h:Ints w v L) (hg:w.grownBy w' row) (ha:v.ownBlock=none∨v.ownBlock≠row):Ints w' v L:=by
 rcases h with h|⟨B,off,c,rfl,hc,h⟩|h
 ·exact .inl h
 ·refine .inr (.inl ⟨B,off,c,rfl,hc,fun j hj=>Zd hg (h j hj) ?_⟩)
  intro e
  simp [Value.ownBlock]at ha
  exact ha e.symm
 ·exact .inr (.inr h)
theorem Ints.kept {w w':World} {v:Value} {L:List Int} (h:Ints w v L) (hg:w.grownBy w' none):Ints w' v L :=
 h.keptB hg (by cases v.ownBlock<;>simp)
theorem Ints.reads {w:World} {v:Value} {L:List Int} (h:Ints w v L):∃ab c,v=.slice ab L.length c∧∀w',w.grownBy w' none→∀i,i<L.length→∃B off,ab=some ⟨B,off,none⟩∧w'.cell? ⟨B,off+i,none⟩=some (.int .i64 (L[i]?.getD 0))∧L.length≤c:=by
 rcases h with ⟨rfl,rfl⟩|⟨B,off,c,rfl,hc,h⟩|⟨rfl,a,rfl⟩
 ·exact⟨none,0,rfl,fun _ _ i hi=>by simp at hi⟩
 ·exact⟨_,c,rfl,fun w' hg i hi=>⟨B,off,rfl,Zd hg (h i hi) (by simp),hc⟩⟩
 ·exact⟨some a,0,rfl,fun _ _ i hi=>by simp at hi⟩
theorem Ints.src {w:World} {v:Value} {L:List Int} (h:Ints w v L):(v=.slice none 0 0∧L=[])∨∃a c,v=.slice (some a) L.length c∧∀j,j<L.length→w.cell? (a.add j)=some (.int .i64 (L[j]?.getD 0)):=by
 rcases h with h|⟨B,off,c,rfl,hc,h⟩|⟨rfl,a,rfl⟩
 ·exact .inl h
 ·exact .inr ⟨_,c,rfl,fun j hj=>by rw [Addr.add_lit];exact h j hj⟩
 ·exact .inr ⟨a,0,rfl,fun j hj=>by simp at hj⟩
theorem Ints.nil (w:World):Ints w (.slice none 0 0) []:=.inl ⟨rfl,rfl⟩
def OwI (w:World) (base:Nat) (v:Value) (L:List Int):Prop:=w.ownsRow base 3 1 v L.length (L.map enc8)
theorem OwI.nil (w:World) (base:Nat):OwI w base (.slice none 0 0) []:=World.ownsRow_nil _ _ _ _
theorem OwI.cases {w:World} {base:Nat} {v:Value} {L:List Int} (h:OwI w base v L):(v=.slice none 0 0∧L=[])∨∃g c,v=.slice (some ⟨g,0,none⟩) L.length c∧base≤g∧L.length≤c:=by
 rcases h.2 with ⟨e,hn⟩|⟨g,cap,cur,rfl,hb,_,hc,_⟩
 ·exact .inl ⟨e,List.length_eq_zero_iff.1 hn⟩
 ·exact .inr ⟨g,cap,rfl,hb,hc⟩
theorem OwI.cell {w:World} {base g n c:Nat} {L:List Int} (h:OwI w base (.slice (some ⟨g,0,none⟩) n c) L) (i:Nat) (hi:i<L.length):w.cell? ⟨g,i,none⟩=some (.int .i64 (L[i]?.getD 0)):=by
 have:=World.ownsRow.cells h (g:=g) rfl i (.int .i64 (L[i]?.getD 0)) (by simp [hi])
 rwa [Addr.add_lit,Nat.zero_add]at this
theorem OwI.kept {w w':World} {base:Nat} {v:Value} {L:List Int} {row:Option Nat} (h:OwI w base v L) (hg:w.grownBy w' row) (hne:v.ownBlock=none∨v.ownBlock≠row):OwI w' base v L:=World.ownsRow.kept h hg hne
theorem OwI.kept0 {w w':World} {base:Nat} {v:Value} {L:List Int} (h:OwI w base v L) (hg:w.grownBy w' none):OwI w' base v L:=h.kept hg (by cases v.ownBlock<;>simp)
theorem OwI.mono {w:World} {base base':Nat} {v:Value} {L:List Int} (h:OwI w base v L) (hb:base'≤base):OwI w base' v L:=by
 refine⟨h.1,?_⟩
 rcases h.2 with h|⟨g,cap,cur,e,hg,r⟩
 ·exact .inl h
 ·exact .inr ⟨g,cap,cur,e,Nat.le_trans hb hg,r⟩
def Fr (w:World) (base:Nat) (v:Value) (L:List Int):Prop :=
 (v=.slice none 0 0∧L=[])∨∃B off c cur,v=.slice (some ⟨B,off,none⟩) L.length c∧base≤B∧w.heap[B]?=some (.cells cur 3 (0,0))∧L.length≤c∧c≤maxLen∧off+c≤cur.size∧∀j,j<L.length→cur[off+j]?=some (.int .i64 (L[j]?.getD 0))
theorem Fr.ints {w:World} {base:Nat} {v:Value} {L:List Int} (h:Fr w base v L):Ints w v L:=by
 rcases h with h|⟨B,off,c,cur,rfl,hb,hg,hl,hm,hs,h⟩
 ·exact .inl h
 ·exact .inr (.inl ⟨B,off,c,rfl,hl,fun j hj=>by simp [World.cell?,hg,h j hj]⟩)
theorem Fr.kept {w w':World} {base:Nat} {v:Value} {L:List Int} {row:Option Nat} (h:Fr w base v L) (hg:w.grownBy w' row) (hne:v.ownBlock=none∨v.ownBlock≠row):Fr w' base v L:=by
 rcases h with h|⟨B,off,c,cur,rfl,hb,hgg,r⟩
 ·exact .inl h
 ·refine .inr ⟨B,off,c,cur,rfl,hb,?_,r⟩
  rw [hg.block B (Array.getElem?_eq_some_iff.1 hgg).1 (by simpa [Value.ownBlock]using hne)]
  exact hgg
theorem Fr.kept0 {w w':World} {base:Nat} {v:Value} {L:List Int} (h:Fr w base v L) (hg:w.grownBy w' none):Fr w' base v L:=h.kept hg (by cases v.ownBlock<;>simp)
theorem Fr.mono {w:World} {base base':Nat} {v:Value} {L:List Int} (h:Fr w base v L) (hb:base'≤base):Fr w base' v L:=by
 rcases h with h|⟨B,off,c,cur,e,hg,r⟩
 ·exact .inl h
 ·exact .inr ⟨B,off,c,cur,e,Nat.le_trans hb hg,r⟩
theorem OwI.fr {w:World} {base:Nat} {v:Value} {L:List Int} (h:OwI w base v L):Fr w base v L:=by
 have h':=h
 rcases h'.2 with ⟨e,hn⟩|⟨g,cap,cur,rfl,hb,hg,hc,hm,hs,ht⟩
 ·exact .inl ⟨e,List.length_eq_zero_iff.1 hn⟩
 ·refine .inr ⟨g,0,cap,cur,rfl,hb,hg,hc,hm,by omega,fun j hj=>?_⟩
  have:=h.cell j hj
  rw [Nat.zero_add]
  simpa [World.cell?,hg]using this
end Go.Proofs.YtdcadiaeaclpgaaGreatDoor
namespace Go.Proofs.YtdcadiaeaclpgaaGreatDoor
open Go Go.RowKit Go.Lib Go.Sort
set_option linter.unusedVariables false
set_option maxHeartbeats 3200000
set_option maxRecDepth 1000000
theorem Xm {a w w':World} {v:Value} {L:List Int} (h:a.grownBy w none) (ho:OwI w a.heap.size v L) (k:w.grownBy w' v.ownBlock):a.grownBy w' none:=by
 cases hv:v.ownBlock with
 |none=>rw [hv]at k;exact Za h k
 |some g=>rw [hv]at k;exact Zq h (World.ownsRow.lt ho g hv).1 k
theorem YU (w:World) (base:Nat) (ty:TypeId) (v:Value) (A:List Int) (h:OwI w base v A) (s:Value) (L:List Int) (hs:Ints w s L) (hl:A.length+L.length≤1000000000000) (hb:base≤w.heap.size) :
    ∃v' w',(Builtin.append_ #[43,43] ty #[v,s]).run Tryz.prog w=.ok v' w'∧OwI w' base v' (A++L)∧w.grownBy w' v.ownBlock:=by
 obtain⟨i0,hi,hz0,hz1,hz2⟩:=info_parts Tryz.info8
 rcases hs.src with ⟨rfl,rfl⟩|⟨a,c,rfl,h5⟩
 ·have hr:=run_append_owned_none (P:=Tryz.prog) (w:=w) base 43 ty 3 i0 1 Tryz.underlying43 hi v A.length _ h
  exact⟨v,w,hr,by simpa using h,World.grownBy.refl _ _⟩
 ·have hadd:∀j u,(L.map enc8)[j]?=some u→w.cell? (a.add j)=some u:=by
    intro j u hj
    have hlt:j<L.length:=by simpa using (List.getElem?_eq_some_iff.1 hj).1
    rw [h5 j hlt]
    rw [List.getElem?_map,List.getElem?_eq_getElem hlt]at hj
    rw [List.getElem?_eq_getElem hlt]
    simpa using hj
  have h1:∀u∈L.map enc8,u.oneCell'=true:=by
   intro u hu
   obtain⟨x,_,rfl⟩:=List.mem_map.1 hu
   rfl
  obtain⟨v',w',hr,ho,hg,_⟩:=run_append_own (P:=Tryz.prog) w base 43 ty 3 i0 (.int .i64 0) 1 8 Tryz.underlying43 hi hz0 hz1 hz2 rfl (by decide) v A.length _ h a L.length c (L.map enc8) (by simp) hadd h1 (by unfold maxLen;omega) (by omega) hb
  refine⟨v',w',hr,?_,hg⟩
  unfold OwI
  rw [List.map_append,List.length_append]
  exact ho
theorem Z1 {w:World} {ops:Array Oper} {rest:List Oper} {o:Oper} {a:Act} {Q:Exit→Act→World→Prop} (hgd:o.guard=none) (s x:Operand)
    (ho:o.op=.call { callee:=.builtin .append,args:=#[s,x],argTypes:=#[43,43] })
    (base:Nat) (v:Value) (A:List Int) (hs:a.eval s=v) (hR:OwI w base v A) (u:Value) (L:List Int) (hx:a.eval x=u) (hu:Ints w u L) (hl:A.length+L.length≤1000000000000) (hb:base≤w.heap.size)
    (h:∀v' w',OwI w' base v' (A++L)→w.grownBy w' v.ownBlock→wpList Tryz.prog ops Q rest (a.put o.dst v') w'):wpList Tryz.prog ops Q (o::rest) a w :=
 wpList_plain hgd fun K hK=>by
  obtain⟨v',w',hr,h2,h3⟩:=YU w base o.type v A hR u L hu hl hb
  unfold Oper.wp execOp
  simp only [ho,resolve,invoke,builtin,Sem.run_bind,Sem.run_pure,Result.andThen_ok,List.map_toArray,List.map_cons,List.map_nil,hs,hx,hr]
  exact hK _ _ (h v' w' h2 h3)
theorem OwI.form {w:World} {base:Nat} {v:Value} {L:List Int} (h:OwI w base v L):∃ab c,v=.slice ab L.length c:=by
 rcases h.cases with ⟨rfl,rfl⟩|⟨g,c,rfl,_,_⟩
 ·exact⟨none,0,rfl⟩
 ·exact⟨_,c,rfl⟩
end Go.Proofs.YtdcadiaeaclpgaaGreatDoor
namespace Go.Proofs.YtdcadiaeaclpgaaGreatDoor
open Go.RowKit Go.Lib Go.Sort
set_option linter.unusedVariables false
set_option linter.unusedSimpArgs false
set_option maxHeartbeats 3200000
set_option maxRecDepth 1000000
theorem VT {A B:List Int} (hl:A.length=B.length) (h:∀j,j<A.length→A[j]?.getD 0=B[j]?.getD 0):A=B:=by
 apply List.ext_getElem hl
 intro i h1 h2
 have:=h i h1
 rwa [List.getElem?_eq_getElem h1,List.getElem?_eq_getElem h2]at this
theorem Zc3 (w:World) (u v:Value) (A B:List Int) (hA:Ints w u A) (hB:Ints w v B) (hl:A.length≤1000000000000) (hl2:B.length≤1000000000000) :
    Calls Tryz.prog 67 #[u,v] w fun e w'=>e=.returned (.bool (decide (A=B)))∧w.grownBy w' none:=by
 obtain⟨ab,c,rfl,HR⟩:=hA.reads
 obtain⟨ab',c',rfl,HR'⟩:=hB.reads
 by_cases hab:A.length=B.length
 ·have HR1:Hid (∀w',w.grownBy w' none→∀i,i<A.length→∃B off,ab=some ⟨B,off,none⟩∧w'.cell? ⟨B,off+i,none⟩=some (.int .i64 (A[i]?.getD 0))∧A.length≤c):=HR
  have HR2:Hid (∀w',w.grownBy w' none→∀i,i<B.length→∃B' off,ab'=some ⟨B',off,none⟩∧w'.cell? ⟨B',off+i,none⟩=some (.int .i64 (B[i]?.getD 0))∧B.length≤c'):=HR'
  obtain⟨n,hn⟩:∃n,A.length=n:=⟨_,rfl⟩
  have HN:Unit→A.length=n∧B.length=n:=fun _=>⟨hn,hab ▸ hn⟩
  have hnI:(n:Int)≤1000000000000:=by omega
  rw [hn]at HR1 hab ⊢
  rw [←hab]at HR2 ⊢
  clear HR HR' hA hB hl hl2 hn hab
  go_enter Tryz.func67,Tryz.ntmps67
  go_wp2
  go_loopw [13] (fun s wr=>∃i:Nat,i≤n∧s=.int .i64 i∧(∀j,j<i→A[j]?.getD 0=B[j]?.getD 0)∧w.grownBy wr none) (fun s _=>match s with|.int _ i=>n-i.toNat|_=>0)
  case atStart=>exact⟨0,by omega,rfl,fun j hj=>by omega,grow0 _⟩
  case round =>
   obtain⟨i,hi,rfl,hp,hg⟩:=hrel
   have HP:Hid (∀j,j<i→A[j]?.getD 0=B[j]?.getD 0):=hp
   have HG:Hid (w.grownBy wr none):=hg
   clear hp hg
   by_cases hlt:i<n
   ·obtain⟨B1,off,rfl,hc,hnc⟩:=HR1.out wr HG.out i hlt
    obtain⟨B2,off2,rfl,hc2,hnc2⟩:=HR2.out wr HG.out i hlt
    have hltI:(i:Int)<n:=by omega
    have HS:Hid (∀x y,A[i]?.getD 0=x→B[i]?.getD 0=y→(x=y→∀j,j<i+1→A[j]?.getD 0=B[j]?.getD 0)∧(x≠y→A≠B)):=by
     rintro x y rfl rfl
     refine⟨fun e j hj=>?_,fun e h=>e (by rw [h])⟩
     rcases Nat.lt_or_ge j i with h|h
     ·exact HP.out j h
     ·obtain rfl:j=i:=by omega
      exact e
    have HS2:Hid (∃x y,A[i]?.getD 0=x∧B[i]?.getD 0=y):=⟨_,_,rfl,rfl⟩
    obtain⟨x,y,hx,hy⟩:=HS2.out
    have HS3:Hid ((x=y→∀j,j<i+1→A[j]?.getD 0=B[j]?.getD 0)∧(x≠y→A≠B)):=HS.out x y hx hy
    rw [hx]at hc
    rw [hy]at hc2
    clear hx hy HS2
    by_cases hxy:x=y
    ·subst hxy
     go_wp2
     go_region
     all_goals go_wp2
     all_goals go_roundw
     case rel=>exact⟨i+1,by omega,by simp,HS3.out.1 trivial,Zf HG.out⟩
     case measure=>simp;omega
    ·have hb:(x != y)=true:=by simpa using hxy
     have HXY:Hid (x≠y):=hxy
     clear hxy
     go_wp2
     go_region
     all_goals go_wp2
     all_goals go_ret
     all_goals exact⟨Zh (decide_eq_false (HS3.out.2 HXY.out)).symm,Zf HG.out⟩
   ·have e:i=n:=by omega
    subst e
    go_wp2
    go_ret
    exact⟨Zh (decide_eq_true (VT (by rw [(HN ()).1,(HN ()).2]) (fun j hj=>HP.out j (by rw [(HN ()).1]at hj;exact hj)))).symm,HG.out⟩
 ·have HN:Unit→¬A=B:=fun _ h=>hab (by rw [h])
  obtain⟨p,hp⟩:∃p,A.length=p:=⟨_,rfl⟩
  obtain⟨q,hq⟩:∃q,B.length=q:=⟨_,rfl⟩
  rw [hp,hq]at hab ⊢
  have hb:((p:Int) != (q:Int))=true:=by simpa using (show(p:Int)≠q by omega)
  clear HR HR' hA hB hl hl2 hp hq hab
  go_enter Tryz.func67,Tryz.ntmps67
  go_wp2
  go_ret
  exact⟨Zh (decide_eq_false (HN ())).symm,grow0 _⟩
theorem Jg (w:World) (u v:Value) (A B:List Int) (hA:Ints w u A) (hB:Ints w v B) (hl:A.length≤1000000000000) (hl2:B.length≤1000000000000) :
    Calls Tryz.prog 27 #[u,v] w fun e w'=>e=.returned (.bool (decide (A=B)))∧w.grownBy w' none:=by
 obtain⟨ab,c,rfl,HR⟩:=hA.reads
 obtain⟨ab',c',rfl,HR'⟩:=hB.reads
 by_cases hab:A.length=B.length
 ·have HR1:Hid (∀w',w.grownBy w' none→∀i,i<A.length→∃B off,ab=some ⟨B,off,none⟩∧w'.cell? ⟨B,off+i,none⟩=some (.int .i64 (A[i]?.getD 0))∧A.length≤c):=HR
  have HR2:Hid (∀w',w.grownBy w' none→∀i,i<B.length→∃B' off,ab'=some ⟨B',off,none⟩∧w'.cell? ⟨B',off+i,none⟩=some (.int .i64 (B[i]?.getD 0))∧B.length≤c'):=HR'
  obtain⟨n,hn⟩:∃n,A.length=n:=⟨_,rfl⟩
  have HN:Unit→A.length=n∧B.length=n:=fun _=>⟨hn,hab ▸ hn⟩
  have hnI:(n:Int)≤1000000000000:=by omega
  rw [hn]at HR1 hab ⊢
  rw [←hab]at HR2 ⊢
  clear HR HR' hA hB hl hl2 hn hab
  go_enter Tryz.func27,Tryz.ntmps27
  go_wp2
  go_loopw [5] (fun s wr=>∃i:Nat,i≤n∧s=.int .i64 i∧(∀j,j<i→A[j]?.getD 0=B[j]?.getD 0)∧w.grownBy wr none) (fun s _=>match s with|.int _ i=>n-i.toNat|_=>0)
  case atStart=>exact⟨0,by omega,rfl,fun j hj=>by omega,grow0 _⟩
  case round =>
   obtain⟨i,hi,rfl,hp,hg⟩:=hrel
   have HP:Hid (∀j,j<i→A[j]?.getD 0=B[j]?.getD 0):=hp
   have HG:Hid (w.grownBy wr none):=hg
   clear hp hg
   by_cases hlt:i<n
   ·obtain⟨B1,off,rfl,hc,hnc⟩:=HR1.out wr HG.out i hlt
    obtain⟨B2,off2,rfl,hc2,hnc2⟩:=HR2.out wr HG.out i hlt
    have hltI:(i:Int)<n:=by omega
    have HS:Hid (∀x y,A[i]?.getD 0=x→B[i]?.getD 0=y→(x=y→∀j,j<i+1→A[j]?.getD 0=B[j]?.getD 0)∧(x≠y→A≠B)):=by
     rintro x y rfl rfl
     refine⟨fun e j hj=>?_,fun e h=>e (by rw [h])⟩
     rcases Nat.lt_or_ge j i with h|h
     ·exact HP.out j h
     ·obtain rfl:j=i:=by omega
      exact e
    have HS2:Hid (∃x y,A[i]?.getD 0=x∧B[i]?.getD 0=y):=⟨_,_,rfl,rfl⟩
    obtain⟨x,y,hx,hy⟩:=HS2.out
    have HS3:Hid ((x=y→∀j,j<i+1→A[j]?.getD 0=B[j]?.getD 0)∧(x≠y→A≠B)):=HS.out x y hx hy
    rw [hx]at hc
    rw [hy]at hc2
    clear hx hy HS2
    by_cases hxy:x=y
    ·subst hxy
     go_wp2
     go_region
     all_goals go_wp2
     all_goals go_roundw
     case rel=>exact⟨i+1,by omega,by simp,HS3.out.1 trivial,Zf HG.out⟩
     case measure=>simp;omega
    ·have hb:(x != y)=true:=by simpa using hxy
     have HXY:Hid (x≠y):=hxy
     clear hxy
     go_wp2
     go_region
     all_goals go_wp2
     all_goals go_ret
     all_goals exact⟨Zh (decide_eq_false (HS3.out.2 HXY.out)).symm,Zf HG.out⟩
   ·have e:i=n:=by omega
    subst e
    go_wp2
    go_ret
    exact⟨Zh (decide_eq_true (VT (by rw [(HN ()).1,(HN ()).2]) (fun j hj=>HP.out j (by rw [(HN ()).1]at hj;exact hj)))).symm,HG.out⟩
 ·have HN:Unit→¬A=B:=fun _ h=>hab (by rw [h])
  obtain⟨p,hp⟩:∃p,A.length=p:=⟨_,rfl⟩
  obtain⟨q,hq⟩:∃q,B.length=q:=⟨_,rfl⟩
  rw [hp,hq]at hab ⊢
  have hb:((p:Int) != (q:Int))=true:=by simpa using (show(p:Int)≠q by omega)
  clear HR HR' hA hB hl hl2 hp hq hab
  go_enter Tryz.func27,Tryz.ntmps27
  go_wp2
  go_ret
  exact⟨Zh (decide_eq_false (HN ())).symm,grow0 _⟩
theorem J0 {f:Int→Bool} {L:List Int} {i:Nat} (h:(L.take i).all f=true) (hi:i<L.length) (hf:f (L[i]?.getD 0)=true):(L.take (i+1)).all f=true:=by
 rw [List.take_add_one,List.getElem?_eq_getElem hi,List.all_append,h]
 rw [List.getElem?_eq_getElem hi]at hf
 simpa using hf
theorem ZbJ {f:Int→Bool} {L:List Int} {i:Nat} (hi:i<L.length) (hf:f (L[i]?.getD 0)=false):L.all f=false:=by
 rw [List.all_eq_false]
 rw [List.getElem?_eq_getElem hi]at hf
 exact⟨_,List.getElem_mem hi,by simpa using hf⟩
theorem Zcs (w:World) (v:Value) (L:List Int) (h:Ints w v L) (hl:L.length≤1000000000000) :
    Calls Tryz.prog 64 #[v] w fun e w'=>e=.returned (.bool (isWd L))∧w.grownBy w' none:=by
 obtain⟨ab,c,rfl,HR⟩:=h.reads
 have HR1:Hid (∀w',w.grownBy w' none→∀i,i<L.length→∃B off,ab=some ⟨B,off,none⟩∧w'.cell? ⟨B,off+i,none⟩=some (.int .i64 (L[i]?.getD 0))∧L.length≤c):=HR
 obtain⟨n,hn⟩:∃n,L.length=n:=⟨_,rfl⟩
 have HN:Unit→L.length=n:=fun _=>hn
 rw [hn]at HR1 ⊢
 clear HR h
 by_cases h4:n≤4096
 ·have HV:Hid (isWd L=L.all isLt):=by
    show _=_
    unfold isWd
    rw [decide_eq_true (by omega)]
    rfl
  have hnI:(n:Int)≤4096:=by omega
  clear hn hl
  go_enter Tryz.func64,Tryz.ntmps64
  go_wp2
  go_loopw [10] (fun s wr=>∃i:Nat,i≤n∧s=.int .i64 i∧(L.take i).all isLt=true∧w.grownBy wr none) (fun s _=>match s with|.int _ i=>n-i.toNat|_=>0)
  case atStart=>exact⟨0,by omega,rfl,rfl,grow0 _⟩
  case round =>
   obtain⟨i,hi,rfl,hp,hg⟩:=hrel
   have HP:Hid ((L.take i).all isLt=true):=hp
   have HG:Hid (w.grownBy wr none):=hg
   clear hp hg
   by_cases hlt:i<n
   ·obtain⟨B1,off,rfl,hc,hnc⟩:=HR1.out wr HG.out i hlt
    have hltI:(i:Int)<n:=by omega
    have HT:Hid (isLt (L[i]?.getD 0)=true→(L.take (i+1)).all isLt=true):=fun hf=>J0 HP.out (by rw [HN ()];exact hlt) hf
    have HF:Hid (isLt (L[i]?.getD 0)=false→isWd L=false):=fun hf=>by rw [HV.out];exact ZbJ (by rw [HN ()];exact hlt) hf
    generalize L[i]?.getD 0=x at *
    have hC:=X9 x
    generalize isLt x=b at *
    cases b
    ·go_wp2_with fail
     refine(hC _).mono ?_
     rintro e w' ⟨rfl,rfl⟩
     go_wp2_with fail
     go_ret
     exact⟨Zh (HF.out trivial).symm,HG.out⟩
    ·go_wp2_with fail
     refine(hC _).mono ?_
     rintro e w' ⟨rfl,rfl⟩
     go_wp2_with fail
     go_roundw
     case rel=>exact⟨i+1,by omega,Zl (by omega),HT.out trivial,HG.out⟩
     case measure=>simp;omega
   ·have e:i=n:=by omega
    subst e
    go_wp2
    go_ret
    refine⟨Zh ?_,HG.out⟩
    rw [HV.out,←HP.out,←HN (),List.take_length]
 ·have HV:Hid (isWd L=false):=by
    show _=_
    unfold isWd
    rw [decide_eq_false (by omega)]
    rfl
  have hnI:(4097:Int)≤n:=by omega
  have hn2:(n:Int)≤1000000000000:=by omega
  clear hn hl h4
  go_enter Tryz.func64,Tryz.ntmps64
  go_wp2
  all_goals go_ret
  all_goals exact⟨Zh HV.out.symm,grow0 _⟩
end Go.Proofs.YtdcadiaeaclpgaaGreatDoor
