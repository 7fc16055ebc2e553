/- What can't be read is given up: must; Read's deferred function. -/
import Derived.Test.YtdcadiaeaclpgaaGreatDoorScy
import Derived.WalkLawsBesides
import Derived.Defers
import Derived.Recover
import Derived.Scope
import Derived.RangeFuncFrom
import Derived.RangeFuncNested
import Derived.RangeFuncBound
import Derived.RangeFuncCalls
import Derived.RangeFuncLeaves
import Derived.RangeFuncBox
import Derived.Shelf.Abstract
import Derived.Shelf.RegionOpen
import Derived.OwnWalkIn
import Derived.TacticsInMore
import Derived.LoopNIn
import Derived.LoopIn
namespace Go.Proofs.YtdcadiaeaclpgaaGreatDoor
open Go.RowKit Go.Lib Go.Sort
set_option linter.unusedVariables false
set_option linter.unusedSimpArgs false
set_option maxHeartbeats 3200000
set_option maxRecDepth 1000000
abbrev upV:Value:=.iface 28 (.int .i64 400)
abbrev upE:Ending:=.panicked [{ v:=upV,recovered:=false }]
theorem Ya (w:World):Calls Tryz.prog 70 #[.bool true] w fun e w'=>e=.returned (.tuple #[])∧w'=w:=by
 go_enter Tryz.func70,Tryz.ntmps70
 go_wp2
 go_end0
 exact⟨rfl,rfl⟩
theorem Yy (w:World):Calls Tryz.prog 70 #[.bool false] w fun e w'=>e=upE∧w'=w:=by
 go_enter Tryz.func70,Tryz.ntmps70
 go_wp2
 exact⟨rfl,rfl,rfl⟩
theorem ZfG (p:Addr) (x:Int) (older:List PanicEntry) (w:World) (hc:w.cell? p=some (.int .i64 x)) (hz:w.frozen? p=false) :
    CallsD Tryz.prog 45 #[.pointer (some p)] (.panicking ({ v:=upV,recovered:=false }::older)) w fun e u' w' =>
     e=.returned (.tuple #[])∧u'=.panicking ({ v:=upV,recovered:=true }::older)∧w'=w.setCell p (.int .i64 400):=by
 refine callsD_of_wpS Tryz.func45 rfl fun c₀ cs hu=>?_
 apply wpS_seq
 apply wpS_region
 simp [wpOpsS,go_sem,recoverD,hu,Tryz.ntmps45,Exit.thenS]
 have he:∀w,(binOp .eql 20 upV upV).run Tryz.prog w=.ok (.bool true) w:=fun w=>by kernel_rfl
 refine wpS_of_wp ?_
 go_wp2
 simp [bodyPostS,results,Tryz.results45]
theorem ZcB (p:Addr) (w:World) :
    CallsD Tryz.prog 45 #[.pointer (some p)] .returning w fun e u' w'=>e=.returned (.tuple #[])∧u'=.returning∧w'=w:=by
 refine callsD_of_wpS Tryz.func45 rfl fun c₀ cs hu=>?_
 apply wpS_seq
 apply wpS_region
 simp [wpOpsS,go_sem,recoverD,hu,Tryz.ntmps45,Exit.thenS]
 have he:∀w,(binOp .eql 20 .nilIface upV).run Tryz.prog w=.ok (.bool false) w:=fun w=>by kernel_rfl
 have he2:∀w,(binOp .neq 20 .nilIface .nilIface).run Tryz.prog w=.ok (.bool false) w:=fun w=>by kernel_rfl
 refine wpS_of_wp ?_
 go_wp2
 cases c₀
 simp_all [bodyPostS,results,Tryz.results45]
theorem read_up (s:ByteArray) (w:World) (HS:Hid (∀W,w.grownBy W none→Calls Tryz.prog 46 #[.string s] W fun e w'=>e=upE∧W.grownBy w' none)) :
    Calls Tryz.prog 18 #[.string s] w fun e w'=>e=.returned (.tuple #[.agg #[.string eS,.string eS,.slice none 0 0],.int .i64 400])∧w.grownBy w' none:=by
 have hmf:∀(fn:Fn) (first cap:Array Value) (w:World),(Instr.makeFunc fn first cap).run Tryz.prog w=.ok (.func fn first cap) w:=fun _ _ _ _=>rfl
 go_enter_defers Tryz.func18,Tryz.ntmps18
 go_wp2_with fail
 refine(HS.out _ (grow2 _ _ _)).mono ?_
 rintro e w1 ⟨rfl,hg⟩
 have HG:Hid (w.grownBy w1 none):=Za (grow2 _ _ _) hg
 have h0:w1.heap[w.heap.size]?=some (.cells #[.string eS,.string eS,.slice none 0 0] 24):=(hg.block _ (by simp;omega) (by simp)).trans (Zx _ _ _)
 have h1:w1.heap[w.heap.size+1]?=some (.cells #[.int .i64 0] 28):=by
  have h:=heap_alloc_new (w.alloc (.cells #[.string eS,.string eS,.slice none 0 0] 24)) (.cells #[.int .i64 0] 28)
  have e:(w.alloc (.cells #[.string eS,.string eS,.slice none 0 0] 24)).heap.size=w.heap.size+1:=by simp
  rw [e]at h
  exact(hg.block _ (by simp) (by simp)).trans h
 clear hg
 have hc:w1.cell? ⟨w.heap.size+1,0,none⟩=some (.int .i64 0):=by simp [World.cell?,h1]
 have hz:w1.frozen? ⟨w.heap.size+1,0,none⟩=false:=by simp [World.frozen?,h1]
 show bodyPostD Tryz.prog Tryz.f18 _ (Exit.panic _) _ _
 refine leaves_cons (f:=45) (args:=#[.pointer (some ⟨w.heap.size+1,0,none⟩)]) (by simp) (by simp [go_sem]) ?_
 refine(ZfG ⟨w.heap.size+1,0,none⟩ 0 [] w1 hc hz).mono ?_
 rintro e u' w'' ⟨rfl,rfl,rfl⟩
 have r0:(w1.setCell ⟨w.heap.size+1,0,none⟩ (.int .i64 400)).heap[w.heap.size]?=some (.cells #[.string eS,.string eS,.slice none 0 0] 24):=by
  simp [World.setCell,Array.getElem?_modify,h0]
 have r1:(w1.setCell ⟨w.heap.size+1,0,none⟩ (.int .i64 400)).cell? ⟨w.heap.size+1,0,none⟩=some (.int .i64 400):=by
  simp [World.cell?,World.setCell,Array.getElem?_modify,h1]
 have HG2:w.grownBy (w1.setCell ⟨w.heap.size+1,0,none⟩ (.int .i64 400)) none:=Zb HG.out (by omega)
 clear h0 h1 hc hz HG HS
 generalize w1.setCell ⟨w.heap.size+1,0,none⟩ (.int .i64 400)=w2 at *
 have q0:w2.cell? ⟨w.heap.size,0,none⟩=some (.string eS):=by simp [World.cell?,r0]
 have q1:w2.cell? ⟨w.heap.size,1,none⟩=some (.string eS):=by simp [World.cell?,r0]
 have q2:w2.cell? ⟨w.heap.size,2,none⟩=some (.slice none 0 0):=by simp [World.cell?,r0]
 simp [Leaves,settle,results,Tryz.results18,go_sem,q0,q1,q2,r1]
 exact HG2
theorem read_ok (s vb nm:ByteArray) (n:Nat) (R:World→Nat→Value→Prop) (hR:∀w1 w2 b v,R w1 b v→(∀k,b≤k→w2.heap[k]?=w1.heap[k]?)→R w2 b v) (w:World)
    (HS:Hid (∀W,w.grownBy W none→Calls Tryz.prog 46 #[.string s] W fun e w'=>∃ab c,e=.returned (.agg #[.string vb,.string nm,.slice ab n c])∧R w' W.heap.size (.slice ab n c)∧W.grownBy w' none)) :
    Calls Tryz.prog 18 #[.string s] w fun e w'=>∃ab c,e=.returned (.tuple #[.agg #[.string vb,.string nm,.slice ab n c],.int .i64 0])∧R w' (w.heap.size+2) (.slice ab n c)∧w.grownBy w' none:=by
 have hmf:∀(fn:Fn) (first cap:Array Value) (w:World),(Instr.makeFunc fn first cap).run Tryz.prog w=.ok (.func fn first cap) w:=fun _ _ _ _=>rfl
 go_enter_defers Tryz.func18,Tryz.ntmps18
 go_wp2_with fail
 refine(HS.out _ (grow2 _ _ _)).mono ?_
 rintro e w1 ⟨ab,c,rfl,hr,hg⟩
 have HG:Hid (w.grownBy w1 none):=Za (grow2 _ _ _) hg
 have h0:w1.heap[w.heap.size]?=some (.cells #[.string eS,.string eS,.slice none 0 0] 24):=(hg.block _ (by simp;omega) (by simp)).trans (Zx _ _ _)
 have h1:w1.heap[w.heap.size+1]?=some (.cells #[.int .i64 0] 28):=by
  have h:=heap_alloc_new (w.alloc (.cells #[.string eS,.string eS,.slice none 0 0] 24)) (.cells #[.int .i64 0] 28)
  have e:(w.alloc (.cells #[.string eS,.string eS,.slice none 0 0] 24)).heap.size=w.heap.size+1:=by simp
  rw [e]at h
  exact(hg.block _ (by simp) (by simp)).trans h
 have c0:w1.cell? ⟨w.heap.size,0,none⟩=some (.string eS):=by simp [World.cell?,h0]
 have c1:w1.cell? ⟨w.heap.size,1,none⟩=some (.string eS):=by simp [World.cell?,h0]
 have c2:w1.cell? ⟨w.heap.size,2,none⟩=some (.slice none 0 0):=by simp [World.cell?,h0]
 have f0:w1.frozen? ⟨w.heap.size,0,none⟩=false:=by simp [World.frozen?,h0]
 have f1:w1.frozen? ⟨w.heap.size,1,none⟩=false:=by simp [World.frozen?,h0]
 have f2:w1.frozen? ⟨w.heap.size,2,none⟩=false:=by simp [World.frozen?,h0]
 have d0:w1.cell? ⟨w.heap.size+1,0,none⟩=some (.int .i64 0):=by simp [World.cell?,h1]
 have g0:w1.frozen? ⟨w.heap.size+1,0,none⟩=false:=by simp [World.frozen?,h1]
 have hsz:((w.alloc (.cells #[.string eS,.string eS,.slice none 0 0] 24)).alloc (.cells #[.int .i64 0] 28)).heap.size=w.heap.size+2:=by simp
 have HRr:Hid (R w1 (w.heap.size+2) (.slice ab n c)):=by
  rw [←hsz]
  exact hr
 have H0:Hid (w1.heap[w.heap.size]?=some (.cells #[.string eS,.string eS,.slice none 0 0] 24)):=h0
 have H1:Hid (w1.heap[w.heap.size+1]?=some (.cells #[.int .i64 0] 28)):=h1
 clear hg h0 h1 hr hsz
 go_wp2_with fail
 have h0:=H0.out
 have h1:=H1.out
 have r0:((((w1.setCell ⟨w.heap.size,0,none⟩ (.string vb)).setCell ⟨w.heap.size,1,none⟩ (.string nm)).setCell ⟨w.heap.size,2,none⟩ (.slice ab n c)).setCell ⟨w.heap.size+1,0,none⟩ (.int .i64 0)).heap[w.heap.size]?=some (.cells #[.string vb,.string nm,.slice ab n c] 24):=by
  simp [World.setCell,Array.getElem?_modify,h0]
 have r1:((((w1.setCell ⟨w.heap.size,0,none⟩ (.string vb)).setCell ⟨w.heap.size,1,none⟩ (.string nm)).setCell ⟨w.heap.size,2,none⟩ (.slice ab n c)).setCell ⟨w.heap.size+1,0,none⟩ (.int .i64 0)).heap[w.heap.size+1]?=some (.cells #[.int .i64 0] 28):=by
  simp [World.setCell,Array.getElem?_modify,h1]
 have r2:R ((((w1.setCell ⟨w.heap.size,0,none⟩ (.string vb)).setCell ⟨w.heap.size,1,none⟩ (.string nm)).setCell ⟨w.heap.size,2,none⟩ (.slice ab n c)).setCell ⟨w.heap.size+1,0,none⟩ (.int .i64 0)) (w.heap.size+2) (.slice ab n c):=by
  refine hR _ _ _ _ HRr.out (fun k hk=>?_)
  have e1:w.heap.size≠k:=by omega
  have e2:w.heap.size+1≠k:=by omega
  simp [World.setCell,Array.getElem?_modify,e1,e2]
 have r3:w.grownBy ((((w1.setCell ⟨w.heap.size,0,none⟩ (.string vb)).setCell ⟨w.heap.size,1,none⟩ (.string nm)).setCell ⟨w.heap.size,2,none⟩ (.slice ab n c)).setCell ⟨w.heap.size+1,0,none⟩ (.int .i64 0)) none :=
  Zb (Zb (Zb (Zb HG.out (by omega)) (by omega)) (by omega)) (by omega)
 clear h0 h1 H0 H1 HRr HG HS c0 c1 c2 f0 f1 f2 d0 g0
 refine leaves_cons (f:=45) (args:=#[.pointer (some ⟨w.heap.size+1,0,none⟩)]) (by simp) (by simp [go_sem]) ?_
 generalize((((w1.setCell ⟨w.heap.size,0,none⟩ (.string vb)).setCell ⟨w.heap.size,1,none⟩ (.string nm)).setCell ⟨w.heap.size,2,none⟩ (.slice ab n c)).setCell ⟨w.heap.size+1,0,none⟩ (.int .i64 0))=w2 at *
 refine(ZcB ⟨w.heap.size+1,0,none⟩ w2).mono ?_
 rintro e u' w'' ⟨rfl,rfl,rfl⟩
 have q0:w''.cell? ⟨w.heap.size,0,none⟩=some (.string vb):=by simp [World.cell?,r0]
 have q1:w''.cell? ⟨w.heap.size,1,none⟩=some (.string nm):=by simp [World.cell?,r0]
 have q2:w''.cell? ⟨w.heap.size,2,none⟩=some (.slice ab n c):=by simp [World.cell?,r0]
 have q3:w''.cell? ⟨w.heap.size+1,0,none⟩=some (.int .i64 0):=by simp [World.cell?,r1]
 simp [Leaves,settle,results,Tryz.results18,go_sem,q0,q1,q2,q3]
 first|exact⟨ab,c,⟨rfl,rfl⟩,r2,r3⟩|exact⟨ab,c,rfl,r2,r3⟩|(refine⟨ab,c,?_,r2,r3⟩;simp)
end Go.Proofs.YtdcadiaeaclpgaaGreatDoor
namespace Go.Proofs.YtdcadiaeaclpgaaGreatDoor
open Go Go.RowKit Go.Lib Go.Sort
set_option linter.unusedVariables false
set_option maxHeartbeats 3200000
set_option maxRecDepth 1000000
def viaJ (J:Nat→Act→World→Prop) (Q:Exit→Act→World→Prop):Exit→Act→World→Prop
 |.goto l,a,w=>J l a w
 |e,a,w=>Q e a w
theorem UZ {P:Program} {c:Code} {a:Act} {w:World} {Q:Exit→Act→World→Prop} (J:Nat→Act→World→Prop) (μ:Nat→Act→World→Nat)
    (hJ:∀l a w,J l a w→∃rest,findLabel c l=some rest∧rest.wp P (viaJ (fun l' a' w'=>J l' a' w'∧μ l' a' w'<μ l a w) Q) a w)
    (h0:c.wp P (viaJ J Q) a w):(Code.scope c).wp P Q a w:=by
 intro b k cs
 have gone:∀n l a w rest,μ l a w=n→J l a w→findLabel c l=some rest→∃e a' w',Q e a' w'∧Arrives P (lone (b.at a (.code rest::.inScope c::k)) cs w) b k cs e a' w':=by
  intro n
  induction n using Nat.strongRecOn with
  |_ n ih =>
   intro l a w rest hn hl hr
   obtain⟨rest',hr',hw⟩:=hJ l a w hl
   obtain rfl:rest'=rest:=Option.some.inj (hr'.symm.trans hr)
   obtain⟨e,a1,w1,hq,harr⟩:=hw b (.inScope c::k) cs
   cases e with
   |goto l' =>
    obtain⟨hq1,hq2⟩:=hq
    obtain⟨rest2,hr2,_⟩:=hJ l' a1 w1 hq1
    have hg:gotoIn l' (.inScope c::k)=some (.code rest2::.inScope c::k):=by simp [gotoIn,hr2]
    obtain⟨e2,a2,w2,hq3,harr2⟩:=ih _ (by omega) l' a1 w1 rest2 rfl hq1 hr2
    exact⟨e2,a2,w2,hq3,.of_steps (harr _ hg) harr2⟩
   |normal=>exact⟨.normal,a1,w1,hq,Steps.trans harr (.one step_inScope)⟩
   |exit id=>exact⟨.exit id,a1,w1,hq,fun k' hk=>harr k' (by simp [exitTo,hk])⟩
   |ret=>exact⟨_,a1,w1,hq,harr⟩
   |panic ch=>exact⟨_,a1,w1,hq,harr⟩
   |outgrown=>exact⟨_,a1,w1,hq,harr⟩
 obtain⟨e,a1,w1,hq,harr⟩:=h0 b (.inScope c::k) cs
 cases e with
 |goto l' =>
  obtain⟨rest2,hr2,_⟩:=hJ l' a1 w1 hq
  have hg:gotoIn l' (.inScope c::k)=some (.code rest2::.inScope c::k):=by simp [gotoIn,hr2]
  obtain⟨e2,a2,w2,hq3,harr2⟩:=gone _ l' a1 w1 rest2 rfl hq hr2
  exact⟨e2,a2,w2,hq3,.of_steps (.head step_scope (harr _ hg)) harr2⟩
 |normal=>exact⟨.normal,a1,w1,hq,.head step_scope (Steps.trans harr (.one step_inScope))⟩
 |exit id=>exact⟨.exit id,a1,w1,hq,fun k' hk=>.head step_scope (harr k' (by simp [exitTo,hk]))⟩
 |ret=>exact⟨_,a1,w1,hq,.of_steps (.one step_scope) harr⟩
 |panic ch=>exact⟨_,a1,w1,hq,.of_steps (.one step_scope) harr⟩
 |outgrown=>exact⟨_,a1,w1,hq,.of_steps (.one step_scope) harr⟩
end Go.Proofs.YtdcadiaeaclpgaaGreatDoor
namespace Go.Proofs.YtdcadiaeaclpgaaGreatDoor
open Go Go.RowKit Go.Lib Go.Sort
set_option linter.unusedVariables false
set_option linter.unusedSimpArgs false
set_option maxHeartbeats 3200000
set_option maxRecDepth 1000000
def nxt (s:ByteArray) (i lo hi:Nat):Bool:=match (bN s)[i]? with|some b=>decide (lo≤b∧b≤hi)|none=>false
theorem ZaD {s:ByteArray} {i lo hi:Nat} (h:¬i<s.size):nxt s i lo hi=false:=by
 unfold nxt
 rw [List.getElem?_eq_none (by rw [Ze];omega)]
theorem nxt_in {s:ByteArray} {i lo hi:Nat} (h:i<s.size):nxt s i lo hi=decide (lo≤s[i].toNat∧s[i].toNat≤hi):=by
 unfold nxt
 rw [bN_at s i h]
theorem Zfe (s:ByteArray) (hs:s.size≤maxLen) (i lo hi:Nat) (hi0:i≤s.size) (hlo:lo<256) (hhi:hi<256) (p q:Nat) (w:World) (hp:w.cell? ⟨p,0,none⟩=some (.int .i64 i)) (hq:w.cell? ⟨q,0,none⟩=some (.string s)) :
    Calls Tryz.prog 166 #[.int .u8 lo,.int .u8 hi,.pointer (some ⟨p,0,none⟩),.pointer (some ⟨q,0,none⟩)] w fun e w'=>e=.returned (.bool (nxt s i lo hi))∧w'=w:=by
 unfold maxLen at hs
 have hsI:(s.size:Int)≤9223372036854775807:=by omega
 by_cases h:i<s.size
 ·have HN:Hid (nxt s i lo hi=decide (lo≤s[i].toNat∧s[i].toNat≤hi)):=nxt_in h
  have hI:(i:Int)<s.size:=by omega
  obtain⟨b,hb⟩:∃b,s[i].toNat=b:=⟨_,rfl⟩
  have hb2:b<256:=by
   rw [←hb]
   exact UInt8.toNat_lt _
  rw [hb]at HN
  generalize nxt s i lo hi=r at *
  have hbI:(b:Int)<256:=by omega
  have hlI:(lo:Int)<256:=by omega
  have hhI:(hi:Int)<256:=by omega
  clear hs hi0
  go_enter Tryz.func166,Tryz.ntmps166
  go_wp2
  all_goals go_ret
  all_goals refine⟨Zh ?_,rfl⟩
  all_goals rw [HN.out]
  all_goals simp [*]
 ·have HN:Hid (nxt s i lo hi=false):=ZaD h
  obtain rfl:i=s.size:=by omega
  generalize nxt s s.size lo hi=r at *
  clear hs h hi0
  go_enter Tryz.func166,Tryz.ntmps166
  go_wp2
  all_goals go_ret
  all_goals refine⟨Zh ?_,rfl⟩
  all_goals rw [HN.out]
def hd1 (s:ByteArray) (m:UInt8):Bool:=decide ((bN s)[0]?=some m.toNat)
theorem hd1_0 {s:ByteArray} {m:UInt8} (h:s.size=0):hd1 s m=false:=by
 unfold hd1
 rw [List.getElem?_eq_none (by rw [Ze];omega)]
 rfl
theorem hd1_ext {s:ByteArray} {m:UInt8} (h:0<s.size):hd1 s m=decide ((s.extract 0 1).toList=(⟨#[m]⟩:ByteArray).toList):=by
 unfold hd1
 rw [bN_at s 0 h,ByteArray.toList_eq,ByteArray.toList_eq]
 have e:(s.extract 0 1).data.toList=[s[0]]:=by
  apply List.ext_getElem
  ·simp
   omega
  ·intro j h1 h2
   simp at h2
   subst h2
   simp
   rfl
 rw [e]
 congr 1
 simp [UInt8.toNat_inj]
theorem US (s:ByteArray) (hs:s.size≤maxLen) (m:UInt8) (w:World) :
    Calls Tryz.prog 93 #[.string s,.string ⟨#[m]⟩] w fun e w'=>e=.returned (.bool (hd1 s m))∧w'=w:=by
 unfold maxLen at hs
 have hsI:(s.size:Int)≤9223372036854775807:=by omega
 have e1:(⟨#[m]⟩:ByteArray).size=1:=rfl
 by_cases h:s.size=0
 ·have HN:Hid (hd1 s m=false):=hd1_0 h
  obtain rfl:=Zi h
  generalize hd1 _ _=r at *
  clear hs h hsI
  go_enter Tryz.func93,Tryz.ntmps93
  go_wp2
  all_goals go_ret
  all_goals exact⟨Zh HN.out.symm,rfl⟩
 ·have HN:Hid (hd1 s m=decide ((s.extract 0 1).toList=(⟨#[m]⟩:ByteArray).toList)):=hd1_ext (by omega)
  have hI:(1:Int)≤s.size:=by omega
  generalize hd1 _ _=r at *
  clear hs h
  go_enter Tryz.func93,Tryz.ntmps93
  go_wp2
  all_goals go_ret
  refine⟨Zh ?_,rfl⟩
  rw [HN.out]
  have e2:(⟨#[m]⟩:ByteArray).toList=[m]:=by rw [ByteArray.toList_eq]
  rw [e2]
  rw [Bool.eq_iff_iff]
  simp
theorem Zcp (s:ByteArray) (hs:s.size≤maxLen) (m:UInt8) (w:World) :
    Calls Tryz.prog 71 #[.string s,.string ⟨#[m]⟩] w fun e w'=>e=.returned (.bool (hd1 s m))∧w'=w:=by
 have HH:=US s hs m w
 generalize hd1 s m=r at *
 clear hs
 go_enter Tryz.func71,Tryz.ntmps71
 go_wp2_with fail
 refine HH.mono ?_
 rintro e w ⟨rfl,rfl⟩
 go_wp2_with fail
 go_ret
 exact⟨rfl,rfl⟩
def tl1 (s:ByteArray) (m:UInt8):ByteArray:=if hd1 s m then s.extract 1 s.size else s
theorem ZcY {s:ByteArray} {m:UInt8} (h:hd1 s m=true):1≤s.size:=by
 rcases Nat.eq_zero_or_pos s.size with h0|h0
 ·rw [hd1_0 h0]at h
  cases h
 ·exact h0
theorem ZaR (s:ByteArray) (hs:s.size≤maxLen) (m:UInt8) (w:World) :
    Calls Tryz.prog 72 #[.string s,.string ⟨#[m]⟩] w fun e w'=>e=.returned (.string (tl1 s m))∧w'=w:=by
 have HH:=US s hs m
 have HT:Hid (tl1 s m=if hd1 s m then s.extract 1 s.size else s):=rfl
 have HP:Hid (hd1 s m=true→1≤s.size):=ZcY
 unfold maxLen at hs
 have hsI:(s.size:Int)≤9223372036854775807:=by omega
 clear hs
 have HI:Hid (∀w,Calls Tryz.prog 94 #[.string s,.string ⟨#[m]⟩] w fun e w'=>e=.returned (.string (tl1 s m))∧w'=w):=by
  intro w
  generalize tl1 s m=t at *
  generalize hd1 s m=r at *
  cases r
  ·go_enter Tryz.func94,Tryz.ntmps94
   go_wp2_with fail
   refine(HH _).mono ?_
   rintro e w ⟨rfl,rfl⟩
   go_wp2_with fail
   go_ret
   rw [HT.out]
   exact⟨rfl,rfl⟩
  ·have hI:(1:Int)≤s.size:=by have:=HP.out rfl;omega
   go_enter Tryz.func94,Tryz.ntmps94
   go_wp2_with fail
   refine(HH _).mono ?_
   rintro e w ⟨rfl,rfl⟩
   go_wp2_with fail
   go_ret
   rw [HT.out]
   exact⟨rfl,rfl⟩
 generalize tl1 s m=t at *
 clear HH HT HP
 go_enter Tryz.func72,Tryz.ntmps72
 go_wp2_with fail
 refine(HI.out _).mono ?_
 rintro e w ⟨rfl,rfl⟩
 go_wp2_with fail
 go_ret
 exact⟨rfl,rfl⟩
theorem XZ (s:ByteArray) (hs:s.size≤maxLen) (m:UInt8) (w:World) :
    Calls Tryz.prog 95 #[.string s,.string ⟨#[m]⟩] w fun e w'=>e=.returned (.tuple #[.string (tl1 s m),.bool (hd1 s m)])∧w'=w:=by
 have HH:=US s hs m
 have HT:Hid (tl1 s m=if hd1 s m then s.extract 1 s.size else s):=rfl
 have HP:Hid (hd1 s m=true→1≤s.size):=ZcY
 unfold maxLen at hs
 have hsI:(s.size:Int)≤9223372036854775807:=by omega
 clear hs
 have HI:Hid (∀w,Calls Tryz.prog 124 #[.string s,.string ⟨#[m]⟩] w fun e w'=>e=.returned (.tuple #[.string (tl1 s m),.bool (hd1 s m)])∧w'=w):=by
  intro w
  generalize tl1 s m=t at *
  generalize hd1 s m=r at *
  cases r
  ·go_enter Tryz.func124,Tryz.ntmps124
   go_wp2_with fail
   refine(HH _).mono ?_
   rintro e w ⟨rfl,rfl⟩
   go_wp2_with fail
   go_ret2
   rw [HT.out]
   exact⟨rfl,rfl⟩
  ·have hI:(1:Int)≤s.size:=by have:=HP.out rfl;omega
   go_enter Tryz.func124,Tryz.ntmps124
   go_wp2_with fail
   refine(HH _).mono ?_
   rintro e w ⟨rfl,rfl⟩
   go_wp2_with fail
   go_ret2
   rw [HT.out]
   exact⟨rfl,rfl⟩
 generalize tl1 s m=t at *
 generalize hd1 s m=r at *
 clear HH HT HP
 go_enter Tryz.func95,Tryz.ntmps95
 go_wp2_with fail
 refine(HI.out _).mono ?_
 rintro e w ⟨rfl,rfl⟩
 go_wp2_with fail
 go_ret2
 exact⟨rfl,rfl⟩
theorem Zb7 (s:ByteArray) (hs:s.size≤maxLen) (m:UInt8) (h:hd1 s m=true) (w:World) :
    Calls Tryz.prog 126 #[.string s,.string ⟨#[m]⟩] w fun e w'=>e=.returned (.string (tl1 s m))∧w'=w:=by
 have HC:=XZ s hs m
 rw [h]at HC
 generalize tl1 s m=t at *
 clear hs h
 go_enter Tryz.func126,Tryz.ntmps126
 go_wp2_with fail
 refine(HC _).mono ?_
 rintro e w ⟨rfl,rfl⟩
 go_wp2_with fail
 refine(Ya _).mono ?_
 rintro e w ⟨rfl,rfl⟩
 go_wp2_with fail
 go_ret
 exact⟨rfl,rfl⟩
theorem Zdc (s:ByteArray) (hs:s.size≤maxLen) (m:UInt8) (h:hd1 s m=false) (w:World) :
    Calls Tryz.prog 126 #[.string s,.string ⟨#[m]⟩] w fun e w'=>e=upE∧w'=w:=by
 have HC:=XZ s hs m
 rw [h]at HC
 generalize tl1 s m=t at *
 clear hs h
 go_enter Tryz.func126,Tryz.ntmps126
 go_wp2_with fail
 refine(HC _).mono ?_
 rintro e w ⟨rfl,rfl⟩
 go_wp2_with fail
 refine(Yy _).mono ?_
 rintro e w ⟨rfl,rfl⟩
 exact⟨rfl,rfl,rfl⟩
end Go.Proofs.YtdcadiaeaclpgaaGreatDoor
namespace Go.Proofs.YtdcadiaeaclpgaaGreatDoor
open Go.RowKit Go.Lib Go.Sort Go.Shelf
attribute [local go_sem] Oper.semAt_some
set_option linter.unusedVariables false
set_option maxHeartbeats 3200000
set_option maxRecDepth 1000000
def YieldG (F:Fence) (m:Nat) (P:Program) (l:Nat) (It:Nat→World→Nat→Array Value→Prop) (Wr:Nat→Prop) (T:Nat) (b:Bool) (B:Nat) (J:Nat→(Nat→Prop)→World→Prop):Prop :=
 ∀t o W base vs,t<T→J t o W→B≤base→base≤W.heap.size→(∀r,o r→r<base)→It t W base vs→YieldAt F m P l vs W fun e W' =>
  e=.returned (.bool (b || decide (t+1<T)))∧∃o',J (t+1) o' W'∧W.heap.size≤W'.heap.size∧(∀i,(B≤i∨Wr i)→i<base→¬o i→W'.heap[i]?=W.heap[i]?)∧(∀r,o' r→o r∨(base≤r∧r<W'.heap.size))
def HandsG (F:Fence) (n:Nat) (P:Program) (gf:Nat) (lb:Array Value) (It:Nat→World→Nat→Array Value→Prop) (Wr:Nat→Prop) (T:Nat) (b:Bool) (B:Nat) (Nd Ne:World→Prop):Prop :=
 ∀(l:Nat) (J:Nat→(Nat→Prop)→World→Prop),(∀t o W,J t o W→Ne W)→(∀t o W W',J t o W→W.grownBy W' none→J t o W') →
  (∀t o W W' r,J t o W→W.grownBy W' (some r)→(B≤r∨Wr r)→¬o r→J t o W')→YieldG F (n-1) P l It Wr T b B J →
  ∀o W,B≤W.heap.size→(∀r,o r→r<W.heap.size∧¬Wr r)→J 0 o W→Nd W→CallsIn F n P gf (#[.func (.yield l) #[] #[]]++lb) W fun e W' =>
   (∃v,e=.returned v)∧∃o',J T o' W'∧(∀r,o' r→r<W'.heap.size)
def lvExit:Option Nat→Exit
 |none=>.ret
 |some id=>.exit id
def lvCode:Option Nat→Code
 |none=>.ret
 |some id=>.exit id
def roundG (go:Bool) (lv:Option Nat) (B base:Nat) (Wr:Nat→Prop) (I:Nat × (Nat→Prop)→World→Prop) (t:Nat) (o:Nat→Prop) (W:World) (e:Exit) (_:Act) (W':World):Prop :=
 e=(if go then .normal else lvExit lv)∧∃o',I (t,o') W'∧W.heap.size≤W'.heap.size∧(∀i,(B≤i∨Wr i)→i<base→¬o i→W'.heap[i]?=W.heap[i]?)∧(∀r,o' r→o r∨(base≤r∧r<W'.heap.size))
def putAll (ps:Array Tmp) (vs:Array Value) (tmps:Array Value):Array Value:=(ps.zip vs).foldl (fun tmps (t,a)=>tmps.setIfInBounds t a) tmps
theorem XW {F:Fence} {n:Nat} {P:Program} {g:Operand} {ps:Array Tmp} {assign body:Code} {Q:Exit→Act→World→Prop} {a:Act} {w:World}
    (hro:F.round=none) (h1:1≤n) {gf:Nat} {lb:Array Value} (hg:a.eval g=.func (.func gf) #[] lb) (hFg:F.fn gf) (eg:∀args w,(callFunc gf args).run P w=.ok (.enter gf args) w)
    (It:Nat→World→Nat→Array Value→Prop) (hIt:∀t W W' (row:Option Nat) base vs,It t W base vs→W.grownBy W' row→(∀r,row=some r→r<base)→It t W' base vs) (hIs:∀t W base vs,It t W base vs→vs.size=ps.size)
    (Wr:Nat→Prop) (hWr:∀r,Wr r→r<w.heap.size) (T:Nat) (b:Bool) (lv:Option Nat) (hb0:(b || decide (0<T))=true)
    (I:Nat × (Nat→Prop)→World→Prop) (hI:∀q W W',I q W→W.grownBy W' none→I q W') (hIB:∀q W W' r,I q W→W.grownBy W' (some r)→(w.heap.size≤r∨Wr r)→¬q.2 r→I q W')
    (o0:Nat→Prop) (ho0:∀r,o0 r→r<w.heap.size∧¬Wr r) (h0:I (0,o0) w) (Nd Ne:World→Prop) (hNd:∀W,w.grownBy W none→Nd W) (hNe:∀q W,I q W→Ne W) (hit:HandsG F (n-1) P gf lb It Wr T b (w.heap.size+2) Nd Ne)
    (As:Array Value→Act→World→Prop) (hAs:∀vs a1 W1 W2,As vs a1 W1→W1.grownBy W2 (some (w.heap.size+1))→As vs a1 W2)
    (hassign:∀(l t base:Nat) (vs:Array Value) (W:World) (K:Act→World→Prop),It t W base vs→w.heap.size+2≤base→base≤W.heap.size→(∀a1 W1,W.grownBy W1 none→As vs a1 W1→K a1 W1)→assign.wpIn (F.inRound l) (n-1-1) P (Exit.then K (fun _ _ _=>False)) { tmps:=putAll ps vs a.tmps,defers:=[] } W)
    (hbody:∀(l t:Nat) (o:Nat→Prop) (base:Nat) (vs:Array Value) (a1:Act) (W:World),t<T→I (t,o) W→w.heap.size+2≤base→base≤W.heap.size→(∀r,o r→r<base)→It t W base vs→As vs a1 W →
     body.wpIn (F.inRound l) (n-1-1) P (roundG (b || decide (t+1<T)) lv w.heap.size base Wr I (t+1) o W) a1 W)
    (hdone:∀(D:Nat) (o:Nat→Prop) (W:World),D=w.heap.size→I (T,o) W→(∀r,o r→r<W.heap.size)→W.heap[D]?=some (.deferred (some []))→¬o D →
     if b=true then Q .normal { a with defers:={ target:=.collected D,args:=#[] }::a.defers } W else(lvCode lv).wpIn F n P Q { a with defers:={ target:=.collected D,args:=#[] }::a.defers } W) :
    (Code.rangeFunc g ps assign body).wpIn F n P Q a w:=by
 refine wpIn_rangeFunc fun fn hfn=>?_
 rw [hro]
 obtain⟨r,hr⟩:∃r:Loop,r={ state:=.ready,pending:=none,fn,tmps:=a.tmps,params:=ps,assign,body,defers:=w.heap.size }:=⟨_,rfl⟩
 have hen:(Instr.enterLoop fn a.tmps ps assign body none).run P w=.ok (w.heap.size+1,[{ target:=.collected w.heap.size,args:=#[] }]) ((w.alloc (.deferred (some []))).alloc (.loop r)):=by
  rw [hr];exact run_enterLoop_outer _ _ _ _ _
 have rs:r.state=.ready:=by rw [hr]
 have rp:r.pending=none:=by rw [hr]
 have back:({ { r with state:=.busy } with state:=.ready,pending:=none }:Loop)=r:=by rw [hr]
 obtain⟨rd,hrd⟩:∃rd:Loop,rd={ { r with state:=.busy } with state:=.done,pending:=some (lvCode lv) }:=⟨_,rfl⟩
 have hyl:∀(W:World) (vs:Array Value),vs.size=ps.size→W.heap[w.heap.size+1]?=some (.loop r)→(Instr.yield (w.heap.size+1) vs).run P W=.ok (.round (w.heap.size+1) fn (putAll ps vs a.tmps) assign body) W:=by
  intro W vs hsz hl
  have:=run_yield (P:=P) (args:=vs) hl (by rw [hr];exact hsz)
  rw [hr]at this
  exact this
 clear hr
 have hl1:((w.alloc (.deferred (some []))).alloc (.loop r)).heap[w.heap.size+1]?=some (.loop r):=by
  have:=World.alloc_heap_new (w.alloc (.deferred (some []))) (.loop r)
  rwa [World.size_alloc]at this
 have hd1:((w.alloc (.deferred (some []))).alloc (.loop r)).heap[w.heap.size]?=some (.deferred (some [])):=(Below.heap_alloc _ _ _ (by simp)).trans (World.alloc_heap_new w _)
 have hi1:I (0,o0) ((w.alloc (.deferred (some []))).alloc (.loop r)):=hI _ _ _ (hI _ _ _ h0 (World.grownBy_alloc _ _ none)) (World.grownBy_alloc _ _ none)
 have hn1:Nd ((w.alloc (.deferred (some []))).alloc (.loop r)):=hNd _ (Za (World.grownBy_alloc _ _ none) (World.grownBy_alloc _ _ none))
 have hsz1:w.heap.size+2≤((w.alloc (.deferred (some []))).alloc (.loop r)).heap.size:=by simp
 generalize hW1:(w.alloc (.deferred (some []))).alloc (.loop r)=W1 at *
 refine⟨w.heap.size+1,[{ target:=.collected w.heap.size,args:=#[] }],W1,{ target:=.fn (.func gf) lb,args:=#[.func (.yield (w.heap.size+1)) #[] #[]] },W1,gf,#[.func (.yield (w.heap.size+1)) #[] #[]]++lb,W1,hen,?_,?_,?_,fun _=>h1,?_⟩
 ·simp only [resolve,hg]
  simp [go_sem]
 ·intro f' hf'
  simp [Target.leads]at hf'
  subst hf'
  exact hFg
 ·simp [invoke,go_sem,eg]
 have blk:∀ {W W':World} {i:Nat} {o:Obj},W.grownBy W' none→W.heap[i]?=some o→W'.heap[i]?=some o:=fun {W W' i o} hg h=>(hg.block i (Array.getElem?_eq_some_iff.1 h).1 (by simp)).trans h
 refine(hit (w.heap.size+1) (fun t o W=>I (t,o) W∧W.heap[w.heap.size+1]?=some (.loop (if(b || decide (t<T))=true then r else rd))∧W.heap[w.heap.size]?=some (.deferred (some []))∧¬o (w.heap.size+1)∧¬o w.heap.size) (fun _ _ _ h=>hNe _ _ h.1) ?_ ?_ ?_ o0 _ hsz1 (fun r e=>⟨by have:=(ho0 r e).1;omega,(ho0 r e).2⟩) ⟨hi1,(by rw [if_pos hb0];exact hl1),hd1,?_,?_⟩ hn1).mono ?_
 ·rintro t o W W' ⟨hi,hl,hd,ho⟩ hg
  exact⟨hI _ _ _ hi hg,blk hg hl,blk hg hd,ho⟩
 ·rintro t o W W' r ⟨hi,hl,hd,ho⟩ hg hB hr
  have hr1:r≠w.heap.size+1∧r≠w.heap.size:=by
   rcases hB with h|h
   ·omega
   ·have:=hWr r h
    omega
  refine⟨hIB _ _ _ r hi hg (hB.imp (fun h=>by omega) id) hr,?_,?_,ho⟩
  ·exact(hg.block _ (Array.getElem?_eq_some_iff.1 hl).1 (by intro e;injection e with e;omega)).trans hl
  ·exact(hg.block _ (Array.getElem?_eq_some_iff.1 hd).1 (by intro e;injection e with e;omega)).trans hd
 ·rintro t o W base vs ht ⟨hi,hl,hd,ho,hoD⟩ hB hbs hob hv
  rw [if_pos (by simp [ht])]at hl
  refine⟨_,_,_,_,hyl W vs (hIs _ _ _ _ hv) hl,roundIn_of_wpIn hfn (hassign _ t base vs W _ hv hB hbs fun a1 W2 hg2 hAs2=>?_)⟩
  have hl2:=blk hg2 hl
  have hd2:=blk hg2 hd
  have hlt:=(Array.getElem?_eq_some_iff.1 hl2).1
  refine⟨_,run_beginRound hl2 rs,?_⟩
  have kA:=grownBy_putObj' W2 (w.heap.size+1) (.loop { r with state:=.busy })
  have hlb:(W2.putObj (w.heap.size+1) (.loop { r with state:=.busy })).heap[w.heap.size+1]?=some (.loop { r with state:=.busy }):=World.putObj_heap_same hlt
  have hdb:(W2.putObj (w.heap.size+1) (.loop { r with state:=.busy })).heap[w.heap.size]?=some (.deferred (some [])):=(World.putObj_heap_other (by omega)).trans hd2
  have hi2:I (t,o) (W2.putObj (w.heap.size+1) (.loop { r with state:=.busy })):=hIB _ _ _ _ (hI _ _ _ hi hg2) kA (.inl (by omega)) ho
  have hv2:It t (W2.putObj (w.heap.size+1) (.loop { r with state:=.busy })) base vs:=hIt _ _ _ _ _ _ (hIt _ _ _ _ _ _ hv hg2 (fun r e=>by cases e)) kA (fun r e=>by injection e with e;omega)
  have hs2:=hg2.size
  have hsA:=kA.size
  refine wpIn_mono (hbody _ t o base vs a1 _ ht hi2 hB (by omega) hob hv2 (hAs _ _ _ _ hAs2 kA)) ?_
  rintro e a3 W3 ⟨he,o',hi3,hs3,hf3,hfr⟩
  have hl3:W3.heap[w.heap.size+1]?=some (.loop { r with state:=.busy }):=(hf3 _ (.inl (by omega)) (by omega) ho).trans hlb
  have hd3:W3.heap[w.heap.size]?=some (.deferred (some [])):=(hf3 _ (.inl (Nat.le_refl _)) (by omega) hoD).trans hdb
  have ho3:¬o' (w.heap.size+1)∧¬o' w.heap.size:=by
   constructor
   ·intro e
    rcases hfr _ e with h|h
    ·exact ho h
    ·omega
   ·intro e
    rcases hfr _ e with h|h
    ·exact hoD h
    ·omega
  have fin:∀rx:Loop,rx=(if(b || decide (t+1<T))=true then r else rd)→(fun o W=>I (t+1,o) W∧W.heap[w.heap.size+1]?=some (.loop (if(b || decide (t+1<T))=true then r else rd))∧W.heap[w.heap.size]?=some (.deferred (some []))∧¬o (w.heap.size+1)∧¬o w.heap.size) o' (W3.putObj (w.heap.size+1) (.loop rx))∧W.heap.size≤(W3.putObj (w.heap.size+1) (.loop rx)).heap.size∧(∀i,(w.heap.size+2≤i∨Wr i)→i<base→¬o i→(W3.putObj (w.heap.size+1) (.loop rx)).heap[i]?=W.heap[i]?)∧(∀r,o' r→o r∨(base≤r∧r<(W3.putObj (w.heap.size+1) (.loop rx)).heap.size)):=by
   intro rx hrx
   have kB:=grownBy_putObj' W3 (w.heap.size+1) (.loop rx)
   have hsB:=kB.size
   refine⟨⟨hIB _ _ _ _ hi3 kB (.inl (by omega)) ho3.1,?_,(World.putObj_heap_other (by omega)).trans hd3,ho3⟩,by omega,fun i hB2 hib hn=>?_,?_⟩
   ·rw [←hrx];exact World.putObj_heap_same (Array.getElem?_eq_some_iff.1 hl3).1
   ·have hi1:i≠w.heap.size+1:=by
      rcases hB2 with h|h
      ·omega
      ·have:=hWr i h
       omega
    have ne:some i≠some (w.heap.size+1):=fun h=>by injection h with h;omega
    rw [kB.block i (by omega) ne,hf3 i (hB2.imp (fun h=>by omega) id) hib hn,kA.block i (by omega) ne,hg2.block i (by omega) (by simp)]
   ·exact fun r e=>(hfr r e).imp id (fun h=>⟨h.1,by omega⟩)
  cases hgo:(b || decide (t+1<T))with
  |true =>
   rw [hgo,if_pos rfl]at he
   subst he
   have hen3:=run_endRound (P:=P) none hl3
   simp only [Option.isNone_none,if_true]at hen3
   rw [back]at hen3
   have:=fin r (by rw [hgo,if_pos rfl])
   exact⟨_,_,hen3,rfl,o',this⟩
  |false =>
   rw [hgo,if_neg (by simp)]at he
   have h3:=fin rd (by rw [hgo,if_neg (by simp)])
   have hen3:=run_endRound (P:=P) (some (lvCode lv)) hl3
   simp only [Option.isNone_some]at hen3
   rw [if_neg (by simp)]at hen3
   rw [←hrd]at hen3
   cases lv with
   |none=>subst he;exact⟨_,_,hen3,rfl,o',h3⟩
   |some id=>subst he;exact⟨_,_,hen3,rfl,o',h3⟩
 ·intro e;have:=(ho0 _ e).1;omega
 ·intro e;have:=(ho0 _ e).1;omega
 ·rintro e W2 ⟨⟨v,rfl⟩,o',⟨hi,hl,hd,ho,hoD⟩,hob⟩
  have hlt:=(Array.getElem?_eq_some_iff.1 hl).1
  have fin:∀ob:Obj,_:=fun ob=>hdone _ o' _ rfl (hIB _ _ _ _ hi (grownBy_putObj' W2 (w.heap.size+1) ob) (.inl (by omega)) ho) (fun r e=>Nat.lt_of_lt_of_le (hob r e) (grownBy_putObj' W2 (w.heap.size+1) ob).size) ((World.putObj_heap_other (by omega)).trans hd) hoD
  cases b with
  |true =>
   rw [if_pos (by simp)]at hl
   have hend:=run_endLoop (P:=P) hl (by rw [rs];simp)
   rw [rp]at hend
   refine⟨none,_,hend,?_⟩
   simp only [if_true]at fin
   exact fin _
  |false =>
   rw [if_neg (by simp)]at hl
   have hend:=run_endLoop (P:=P) hl (by rw [hrd];simp)
   rw [hrd]at hend
   refine⟨some (lvCode lv),_,hend,?_⟩
   simp only [Bool.false_eq_true,if_false]at fin
   exact fin _
end Go.Proofs.YtdcadiaeaclpgaaGreatDoor
