/-
  What can't be read is given up: must; Read's deferred function.
  Read, where statement answers.
  A scope with several labels: what holds at each jump, and a measure that falls from jump to jump. Of no one function.
  The program's numeral: its inner function.
  Marks of one byte ahead of a text: HasPrefix, CutPrefix, TrimPrefix; behind.
-/
import Derived.Test.YtdcadiaeaclpgaaGreatDoorScy
import Derived.WalkLawsBesides
import Derived.Defers
import Derived.Recover
import Derived.Scope
namespace Go.Proofs.YtdcadiaeaclpgaaGreatDoor
open Go.RowKit Go.Lib Go.Sort
set_option linter.unusedVariables false
set_option linter.unusedSimpArgs false
set_option maxHeartbeats 3200000
set_option maxRecDepth 1000000
abbrev upV:Value:=.iface 28 (.int .i64 400)
abbrev upE:Ending:=.panicked [{ v:=upV,recovered:=false }]
theorem must_yes (w:World):Calls Tryz.prog 70 #[.bool true] w fun e w'=>e=.returned (.tuple #[])∧w'=w:=by
 go_enter Tryz.func70,Tryz.ntmps70
 go_wp2
 go_end0
 exact ⟨rfl,rfl⟩
theorem must_no (w:World):Calls Tryz.prog 70 #[.bool false] w fun e w'=>e=upE∧w'=w:=by
 go_enter Tryz.func70,Tryz.ntmps70
 go_wp2
 exact ⟨rfl,rfl,rfl⟩
theorem catch_up (p:Addr) (x:Int) (older:List PanicEntry) (w:World) (hc:w.cell? p=some (.int .i64 x)) (hz:w.frozen? p=false) :
    CallsD Tryz.prog 45 #[.pointer (some p)] (.panicking ({ v:=upV,recovered:=false } :: older)) w fun e u' w' =>
     e=.returned (.tuple #[])∧u'=.panicking ({ v:=upV,recovered:=true } :: older)∧w'=w.setCell p (.int .i64 400):=by
 refine callsD_of_wpS Tryz.func45 rfl fun c₀ cs hu=>?_
 apply wpS_seq
 apply wpS_region
 simp [wpOpsS,go_sem,recoverD,hu,Tryz.ntmps45,Exit.thenS]
 have he:∀ w,(binOp .eql 20 upV upV).run Tryz.prog w=.ok (.bool true) w:=fun w=>by kernel_rfl
 refine wpS_of_wp ?_
 go_wp2
 simp [bodyPostS,results,Tryz.results45]
theorem catch_idle (p:Addr) (w:World) :
    CallsD Tryz.prog 45 #[.pointer (some p)] .returning w fun e u' w'=>e=.returned (.tuple #[])∧u'=.returning∧w'=w:=by
 refine callsD_of_wpS Tryz.func45 rfl fun c₀ cs hu=>?_
 apply wpS_seq
 apply wpS_region
 simp [wpOpsS,go_sem,recoverD,hu,Tryz.ntmps45,Exit.thenS]
 have he:∀ w,(binOp .eql 20 .nilIface upV).run Tryz.prog w=.ok (.bool false) w:=fun w=>by kernel_rfl
 have he2:∀ w,(binOp .neq 20 .nilIface .nilIface).run Tryz.prog w=.ok (.bool false) w:=fun w=>by kernel_rfl
 refine wpS_of_wp ?_
 go_wp2
 cases c₀
 simp_all [bodyPostS,results,Tryz.results45]
theorem read_up (s:ByteArray) (w:World) (HS:Hid (∀ W,w.grownBy W none→Calls Tryz.prog 46 #[.string s] W fun e w'=>e=upE∧W.grownBy w' none)) :
    Calls Tryz.prog 18 #[.string s] w fun e w'=>e=.returned (.tuple #[.agg #[.string eS,.string eS,.slice none 0 0],.int .i64 400])∧w.grownBy w' none:=by
 have hmf:∀ (fn:Fn) (first cap:Array Value) (w:World),(Instr.makeFunc fn first cap).run Tryz.prog w=.ok (.func fn first cap) w:=fun _ _ _ _=>rfl
 go_enter_defers Tryz.func18,Tryz.ntmps18
 go_wp2_with fail
 refine (HS.out _ (grow2 _ _ _)).mono ?_
 rintro e w1 ⟨rfl,hg⟩
 have HG:Hid (w.grownBy w1 none):=grownBy_trans (grow2 _ _ _) hg
 have h0:w1.heap[w.heap.size]?=some (.cells #[.string eS,.string eS,.slice none 0 0] 24):=(hg.block _ (by simp; omega) (by simp)).trans (at_alloc1 _ _ _)
 have h1:w1.heap[w.heap.size+1]?=some (.cells #[.int .i64 0] 28):=by
  have h:=heap_alloc_new (w.alloc (.cells #[.string eS,.string eS,.slice none 0 0] 24)) (.cells #[.int .i64 0] 28)
  have e:(w.alloc (.cells #[.string eS,.string eS,.slice none 0 0] 24)).heap.size=w.heap.size+1:=by simp
  rw [e] at h
  exact (hg.block _ (by simp) (by simp)).trans h
 clear hg
 have hc:w1.cell? ⟨w.heap.size+1,0,none⟩=some (.int .i64 0):=by simp [World.cell?,h1]
 have hz:w1.frozen? ⟨w.heap.size+1,0,none⟩=false:=by simp [World.frozen?,h1]
 show bodyPostD Tryz.prog Tryz.f18 _ (Exit.panic _) _ _
 refine leaves_cons (f:=45) (args:=#[.pointer (some ⟨w.heap.size+1,0,none⟩)]) (by simp) (by simp [go_sem]) ?_
 refine (catch_up ⟨w.heap.size+1,0,none⟩ 0 [] w1 hc hz).mono ?_
 rintro e u' w'' ⟨rfl,rfl,rfl⟩
 have r0:(w1.setCell ⟨w.heap.size+1,0,none⟩ (.int .i64 400)).heap[w.heap.size]?=some (.cells #[.string eS,.string eS,.slice none 0 0] 24):=by
  simp [World.setCell,Array.getElem?_modify,h0]
 have r1:(w1.setCell ⟨w.heap.size+1,0,none⟩ (.int .i64 400)).cell? ⟨w.heap.size+1,0,none⟩=some (.int .i64 400):=by
  simp [World.cell?,World.setCell,Array.getElem?_modify,h1]
 have HG2:w.grownBy (w1.setCell ⟨w.heap.size+1,0,none⟩ (.int .i64 400)) none:=grown_set HG.out (by omega)
 clear h0 h1 hc hz HG HS
 generalize w1.setCell ⟨w.heap.size+1,0,none⟩ (.int .i64 400)=w2 at *
 have q0:w2.cell? ⟨w.heap.size,0,none⟩=some (.string eS):=by simp [World.cell?,r0]
 have q1:w2.cell? ⟨w.heap.size,1,none⟩=some (.string eS):=by simp [World.cell?,r0]
 have q2:w2.cell? ⟨w.heap.size,2,none⟩=some (.slice none 0 0):=by simp [World.cell?,r0]
 simp [Leaves,settle,results,Tryz.results18,go_sem,q0,q1,q2,r1]
 exact HG2
theorem read_ok (s vb nm:ByteArray) (n:Nat) (R:World→Nat→Value→Prop) (hR:∀ w1 w2 b v,R w1 b v→(∀ k,b≤k→w2.heap[k]?=w1.heap[k]?)→R w2 b v) (w:World)
    (HS:Hid (∀ W,w.grownBy W none→Calls Tryz.prog 46 #[.string s] W fun e w'=>∃ ab c,e=.returned (.agg #[.string vb,.string nm,.slice ab n c])∧R w' W.heap.size (.slice ab n c)∧W.grownBy w' none)) :
    Calls Tryz.prog 18 #[.string s] w fun e w'=>∃ ab c,e=.returned (.tuple #[.agg #[.string vb,.string nm,.slice ab n c],.int .i64 0])∧R w' (w.heap.size+2) (.slice ab n c)∧w.grownBy w' none:=by
 have hmf:∀ (fn:Fn) (first cap:Array Value) (w:World),(Instr.makeFunc fn first cap).run Tryz.prog w=.ok (.func fn first cap) w:=fun _ _ _ _=>rfl
 go_enter_defers Tryz.func18,Tryz.ntmps18
 go_wp2_with fail
 refine (HS.out _ (grow2 _ _ _)).mono ?_
 rintro e w1 ⟨ab,c,rfl,hr,hg⟩
 have HG:Hid (w.grownBy w1 none):=grownBy_trans (grow2 _ _ _) hg
 have h0:w1.heap[w.heap.size]?=some (.cells #[.string eS,.string eS,.slice none 0 0] 24):=(hg.block _ (by simp; omega) (by simp)).trans (at_alloc1 _ _ _)
 have h1:w1.heap[w.heap.size+1]?=some (.cells #[.int .i64 0] 28):=by
  have h:=heap_alloc_new (w.alloc (.cells #[.string eS,.string eS,.slice none 0 0] 24)) (.cells #[.int .i64 0] 28)
  have e:(w.alloc (.cells #[.string eS,.string eS,.slice none 0 0] 24)).heap.size=w.heap.size+1:=by simp
  rw [e] at h
  exact (hg.block _ (by simp) (by simp)).trans h
 have c0:w1.cell? ⟨w.heap.size,0,none⟩=some (.string eS):=by simp [World.cell?,h0]
 have c1:w1.cell? ⟨w.heap.size,1,none⟩=some (.string eS):=by simp [World.cell?,h0]
 have c2:w1.cell? ⟨w.heap.size,2,none⟩=some (.slice none 0 0):=by simp [World.cell?,h0]
 have f0:w1.frozen? ⟨w.heap.size,0,none⟩=false:=by simp [World.frozen?,h0]
 have f1:w1.frozen? ⟨w.heap.size,1,none⟩=false:=by simp [World.frozen?,h0]
 have f2:w1.frozen? ⟨w.heap.size,2,none⟩=false:=by simp [World.frozen?,h0]
 have d0:w1.cell? ⟨w.heap.size+1,0,none⟩=some (.int .i64 0):=by simp [World.cell?,h1]
 have g0:w1.frozen? ⟨w.heap.size+1,0,none⟩=false:=by simp [World.frozen?,h1]
 have hsz:((w.alloc (.cells #[.string eS,.string eS,.slice none 0 0] 24)).alloc (.cells #[.int .i64 0] 28)).heap.size=w.heap.size+2:=by simp
 have HRr:Hid (R w1 (w.heap.size+2) (.slice ab n c)):=by
  rw [← hsz]
  exact hr
 have H0:Hid (w1.heap[w.heap.size]?=some (.cells #[.string eS,.string eS,.slice none 0 0] 24)):=h0
 have H1:Hid (w1.heap[w.heap.size+1]?=some (.cells #[.int .i64 0] 28)):=h1
 clear hg h0 h1 hr hsz
 go_wp2_with fail
 have h0:=H0.out
 have h1:=H1.out
 have r0:((((w1.setCell ⟨w.heap.size,0,none⟩ (.string vb)).setCell ⟨w.heap.size,1,none⟩ (.string nm)).setCell ⟨w.heap.size,2,none⟩ (.slice ab n c)).setCell ⟨w.heap.size+1,0,none⟩ (.int .i64 0)).heap[w.heap.size]?=some (.cells #[.string vb,.string nm,.slice ab n c] 24):=by
  simp [World.setCell,Array.getElem?_modify,h0]
 have r1:((((w1.setCell ⟨w.heap.size,0,none⟩ (.string vb)).setCell ⟨w.heap.size,1,none⟩ (.string nm)).setCell ⟨w.heap.size,2,none⟩ (.slice ab n c)).setCell ⟨w.heap.size+1,0,none⟩ (.int .i64 0)).heap[w.heap.size+1]?=some (.cells #[.int .i64 0] 28):=by
  simp [World.setCell,Array.getElem?_modify,h1]
 have r2:R ((((w1.setCell ⟨w.heap.size,0,none⟩ (.string vb)).setCell ⟨w.heap.size,1,none⟩ (.string nm)).setCell ⟨w.heap.size,2,none⟩ (.slice ab n c)).setCell ⟨w.heap.size+1,0,none⟩ (.int .i64 0)) (w.heap.size+2) (.slice ab n c):=by
  refine hR _ _ _ _ HRr.out (fun k hk=>?_)
  have e1:w.heap.size≠k:=by omega
  have e2:w.heap.size+1≠k:=by omega
  simp [World.setCell,Array.getElem?_modify,e1,e2]
 have r3:w.grownBy ((((w1.setCell ⟨w.heap.size,0,none⟩ (.string vb)).setCell ⟨w.heap.size,1,none⟩ (.string nm)).setCell ⟨w.heap.size,2,none⟩ (.slice ab n c)).setCell ⟨w.heap.size+1,0,none⟩ (.int .i64 0)) none :=
  grown_set (grown_set (grown_set (grown_set HG.out (by omega)) (by omega)) (by omega)) (by omega)
 clear h0 h1 H0 H1 HRr HG HS c0 c1 c2 f0 f1 f2 d0 g0
 refine leaves_cons (f:=45) (args:=#[.pointer (some ⟨w.heap.size+1,0,none⟩)]) (by simp) (by simp [go_sem]) ?_
 generalize ((((w1.setCell ⟨w.heap.size,0,none⟩ (.string vb)).setCell ⟨w.heap.size,1,none⟩ (.string nm)).setCell ⟨w.heap.size,2,none⟩ (.slice ab n c)).setCell ⟨w.heap.size+1,0,none⟩ (.int .i64 0))=w2 at *
 refine (catch_idle ⟨w.heap.size+1,0,none⟩ w2).mono ?_
 rintro e u' w'' ⟨rfl,rfl,rfl⟩
 have q0:w''.cell? ⟨w.heap.size,0,none⟩=some (.string vb):=by simp [World.cell?,r0]
 have q1:w''.cell? ⟨w.heap.size,1,none⟩=some (.string nm):=by simp [World.cell?,r0]
 have q2:w''.cell? ⟨w.heap.size,2,none⟩=some (.slice ab n c):=by simp [World.cell?,r0]
 have q3:w''.cell? ⟨w.heap.size+1,0,none⟩=some (.int .i64 0):=by simp [World.cell?,r1]
 simp [Leaves,settle,results,Tryz.results18,go_sem,q0,q1,q2,q3]
 first | exact ⟨ab,c,⟨rfl,rfl⟩,r2,r3⟩ | exact ⟨ab,c,rfl,r2,r3⟩ | (refine ⟨ab,c,?_,r2,r3⟩; simp)
end Go.Proofs.YtdcadiaeaclpgaaGreatDoor
namespace Go.Proofs.YtdcadiaeaclpgaaGreatDoor
open Go Go.RowKit Go.Lib Go.Sort
set_option linter.unusedVariables false
set_option maxHeartbeats 3200000
set_option maxRecDepth 1000000
def viaJ (J:Nat→Act→World→Prop) (Q:Exit→Act→World→Prop):Exit→Act→World→Prop
 |.goto l,a,w=>J l a w
 |e,a,w=>Q e a w
theorem wp_scope_many {P:Program} {c:Code} {a:Act} {w:World} {Q:Exit→Act→World→Prop} (J:Nat→Act→World→Prop) (μ:Nat→Act→World→Nat)
    (hJ:∀ l a w,J l a w→∃ rest,findLabel c l=some rest∧rest.wp P (viaJ (fun l' a' w'=>J l' a' w'∧μ l' a' w' < μ l a w) Q) a w)
    (h0:c.wp P (viaJ J Q) a w):(Code.scope c).wp P Q a w:=by
 intro b k cs
 have gone:∀ n l a w rest,μ l a w=n→J l a w→findLabel c l=some rest→∃ e a' w',Q e a' w'∧Arrives P (lone (b.at a (.code rest :: .inScope c :: k)) cs w) b k cs e a' w':=by
  intro n
  induction n using Nat.strongRecOn with
  |_ n ih =>
   intro l a w rest hn hl hr
   obtain ⟨rest',hr',hw⟩:=hJ l a w hl
   obtain rfl:rest'=rest:=Option.some.inj (hr'.symm.trans hr)
   obtain ⟨e,a1,w1,hq,harr⟩:=hw b (.inScope c :: k) cs
   cases e with
   |goto l' =>
    obtain ⟨hq1,hq2⟩:=hq
    obtain ⟨rest2,hr2,_⟩:=hJ l' a1 w1 hq1
    have hg:gotoIn l' (.inScope c :: k)=some (.code rest2 :: .inScope c :: k):=by simp [gotoIn,hr2]
    obtain ⟨e2,a2,w2,hq3,harr2⟩:=ih _ (by omega) l' a1 w1 rest2 rfl hq1 hr2
    exact ⟨e2,a2,w2,hq3,.of_steps (harr _ hg) harr2⟩
   |normal=>exact ⟨.normal,a1,w1,hq,Steps.trans harr (.one step_inScope)⟩
   |exit id=>exact ⟨.exit id,a1,w1,hq,fun k' hk=>harr k' (by simp [exitTo,hk])⟩
   |ret=>exact ⟨_,a1,w1,hq,harr⟩
   |panic ch=>exact ⟨_,a1,w1,hq,harr⟩
   |outgrown=>exact ⟨_,a1,w1,hq,harr⟩
 obtain ⟨e,a1,w1,hq,harr⟩:=h0 b (.inScope c :: k) cs
 cases e with
 |goto l' =>
  obtain ⟨rest2,hr2,_⟩:=hJ l' a1 w1 hq
  have hg:gotoIn l' (.inScope c :: k)=some (.code rest2 :: .inScope c :: k):=by simp [gotoIn,hr2]
  obtain ⟨e2,a2,w2,hq3,harr2⟩:=gone _ l' a1 w1 rest2 rfl hq hr2
  exact ⟨e2,a2,w2,hq3,.of_steps (.head step_scope (harr _ hg)) harr2⟩
 |normal=>exact ⟨.normal,a1,w1,hq,.head step_scope (Steps.trans harr (.one step_inScope))⟩
 |exit id=>exact ⟨.exit id,a1,w1,hq,fun k' hk=>.head step_scope (harr k' (by simp [exitTo,hk]))⟩
 |ret=>exact ⟨_,a1,w1,hq,.of_steps (.one step_scope) harr⟩
 |panic ch=>exact ⟨_,a1,w1,hq,.of_steps (.one step_scope) harr⟩
 |outgrown=>exact ⟨_,a1,w1,hq,.of_steps (.one step_scope) harr⟩
end Go.Proofs.YtdcadiaeaclpgaaGreatDoor
namespace Go.Proofs.YtdcadiaeaclpgaaGreatDoor
open Go Go.RowKit Go.Lib Go.Sort
set_option linter.unusedVariables false
set_option linter.unusedSimpArgs false
set_option maxHeartbeats 3200000
set_option maxRecDepth 1000000
def nxt (s:ByteArray) (i lo hi:Nat):Bool:=match (bN s)[i]? with | some b=>decide (lo≤b∧b≤hi) | none=>false
theorem nxt_out {s:ByteArray} {i lo hi:Nat} (h:¬ i < s.size):nxt s i lo hi=false:=by
 unfold nxt
 rw [List.getElem?_eq_none (by rw [bN_length]; omega)]
theorem nxt_in {s:ByteArray} {i lo hi:Nat} (h:i < s.size):nxt s i lo hi=decide (lo≤s[i].toNat∧s[i].toNat≤hi):=by
 unfold nxt
 rw [bN_at s i h]
theorem next_any (s:ByteArray) (hs:s.size≤maxLen) (i lo hi:Nat) (hi0:i≤s.size) (hlo:lo < 256) (hhi:hi < 256) (p q:Nat) (w:World) (hp:w.cell? ⟨p,0,none⟩=some (.int .i64 i)) (hq:w.cell? ⟨q,0,none⟩=some (.string s)) :
    Calls Tryz.prog 166 #[.int .u8 lo,.int .u8 hi,.pointer (some ⟨p,0,none⟩),.pointer (some ⟨q,0,none⟩)] w fun e w'=>e=.returned (.bool (nxt s i lo hi))∧w'=w:=by
 unfold maxLen at hs
 have hsI:(s.size:Int)≤9223372036854775807:=by omega
 by_cases h:i < s.size
 ·have HN:Hid (nxt s i lo hi=decide (lo≤s[i].toNat∧s[i].toNat≤hi)):=nxt_in h
  have hI:(i:Int) < s.size:=by omega
  obtain ⟨b,hb⟩:∃ b,s[i].toNat=b:=⟨_,rfl⟩
  have hb2:b < 256:=by
   rw [← hb]
   exact UInt8.toNat_lt _
  rw [hb] at HN
  generalize nxt s i lo hi=r at *
  have hbI:(b:Int) < 256:=by omega
  have hlI:(lo:Int) < 256:=by omega
  have hhI:(hi:Int) < 256:=by omega
  clear hs hi0
  go_enter Tryz.func166,Tryz.ntmps166
  go_wp2
  all_goals go_ret
  all_goals refine ⟨ret_bool ?_,rfl⟩
  all_goals rw [HN.out]
  all_goals simp [*]
 ·have HN:Hid (nxt s i lo hi=false):=nxt_out h
  obtain rfl:i=s.size:=by omega
  generalize nxt s s.size lo hi=r at *
  clear hs h hi0
  go_enter Tryz.func166,Tryz.ntmps166
  go_wp2
  all_goals go_ret
  all_goals refine ⟨ret_bool ?_,rfl⟩
  all_goals rw [HN.out]
def hd1 (s:ByteArray) (m:UInt8):Bool:=decide ((bN s)[0]?=some m.toNat)
theorem hd1_0 {s:ByteArray} {m:UInt8} (h:s.size=0):hd1 s m=false:=by
 unfold hd1
 rw [List.getElem?_eq_none (by rw [bN_length]; omega)]
 rfl
theorem hd1_ext {s:ByteArray} {m:UInt8} (h:0 < s.size):hd1 s m=decide ((s.extract 0 1).toList=(⟨#[m]⟩:ByteArray).toList):=by
 unfold hd1
 rw [bN_at s 0 h,ByteArray.toList_eq,ByteArray.toList_eq]
 have e:(s.extract 0 1).data.toList=[s[0]]:=by
  apply List.ext_getElem
  ·simp
   omega
  ·intro j h1 h2
   simp at h2
   subst h2
   simp
   rfl
 rw [e]
 congr 1
 simp [UInt8.toNat_inj]
theorem has1_any (s:ByteArray) (hs:s.size≤maxLen) (m:UInt8) (w:World) :
    Calls Tryz.prog 93 #[.string s,.string ⟨#[m]⟩] w fun e w'=>e=.returned (.bool (hd1 s m))∧w'=w:=by
 unfold maxLen at hs
 have hsI:(s.size:Int)≤9223372036854775807:=by omega
 have e1:(⟨#[m]⟩:ByteArray).size=1:=rfl
 by_cases h:s.size=0
 ·have HN:Hid (hd1 s m=false):=hd1_0 h
  obtain rfl:=empty_of_size h
  generalize hd1 _ _=r at *
  clear hs h hsI
  go_enter Tryz.func93,Tryz.ntmps93
  go_wp2
  all_goals go_ret
  all_goals exact ⟨ret_bool HN.out.symm,rfl⟩
 ·have HN:Hid (hd1 s m=decide ((s.extract 0 1).toList=(⟨#[m]⟩:ByteArray).toList)):=hd1_ext (by omega)
  have hI:(1:Int)≤s.size:=by omega
  generalize hd1 _ _=r at *
  clear hs h
  go_enter Tryz.func93,Tryz.ntmps93
  go_wp2
  all_goals go_ret
  refine ⟨ret_bool ?_,rfl⟩
  rw [HN.out]
  have e2:(⟨#[m]⟩:ByteArray).toList=[m]:=by rw [ByteArray.toList_eq]
  rw [e2]
  rw [Bool.eq_iff_iff]
  simp
theorem hasPre_any (s:ByteArray) (hs:s.size≤maxLen) (m:UInt8) (w:World) :
    Calls Tryz.prog 71 #[.string s,.string ⟨#[m]⟩] w fun e w'=>e=.returned (.bool (hd1 s m))∧w'=w:=by
 have HH:=has1_any s hs m w
 generalize hd1 s m=r at *
 clear hs
 go_enter Tryz.func71,Tryz.ntmps71
 go_wp2_with fail
 refine HH.mono ?_
 rintro e w ⟨rfl,rfl⟩
 go_wp2_with fail
 go_ret
 exact ⟨rfl,rfl⟩
def tl1 (s:ByteArray) (m:UInt8):ByteArray:=if hd1 s m then s.extract 1 s.size else s
theorem hd1_pos {s:ByteArray} {m:UInt8} (h:hd1 s m=true):1≤s.size:=by
 rcases Nat.eq_zero_or_pos s.size with h0 | h0
 ·rw [hd1_0 h0] at h
  cases h
 ·exact h0
theorem trimPre_any (s:ByteArray) (hs:s.size≤maxLen) (m:UInt8) (w:World) :
    Calls Tryz.prog 72 #[.string s,.string ⟨#[m]⟩] w fun e w'=>e=.returned (.string (tl1 s m))∧w'=w:=by
 have HH:=has1_any s hs m
 have HT:Hid (tl1 s m=if hd1 s m then s.extract 1 s.size else s):=rfl
 have HP:Hid (hd1 s m=true→1≤s.size):=hd1_pos
 unfold maxLen at hs
 have hsI:(s.size:Int)≤9223372036854775807:=by omega
 clear hs
 have HI:Hid (∀ w,Calls Tryz.prog 94 #[.string s,.string ⟨#[m]⟩] w fun e w'=>e=.returned (.string (tl1 s m))∧w'=w):=by
  intro w
  generalize tl1 s m=t at *
  generalize hd1 s m=r at *
  cases r
  ·go_enter Tryz.func94,Tryz.ntmps94
   go_wp2_with fail
   refine (HH _).mono ?_
   rintro e w ⟨rfl,rfl⟩
   go_wp2_with fail
   go_ret
   rw [HT.out]
   exact ⟨rfl,rfl⟩
  ·have hI:(1:Int)≤s.size:=by have:=HP.out rfl; omega
   go_enter Tryz.func94,Tryz.ntmps94
   go_wp2_with fail
   refine (HH _).mono ?_
   rintro e w ⟨rfl,rfl⟩
   go_wp2_with fail
   go_ret
   rw [HT.out]
   exact ⟨rfl,rfl⟩
 generalize tl1 s m=t at *
 clear HH HT HP
 go_enter Tryz.func72,Tryz.ntmps72
 go_wp2_with fail
 refine (HI.out _).mono ?_
 rintro e w ⟨rfl,rfl⟩
 go_wp2_with fail
 go_ret
 exact ⟨rfl,rfl⟩
theorem cutPre_any (s:ByteArray) (hs:s.size≤maxLen) (m:UInt8) (w:World) :
    Calls Tryz.prog 95 #[.string s,.string ⟨#[m]⟩] w fun e w'=>e=.returned (.tuple #[.string (tl1 s m),.bool (hd1 s m)])∧w'=w:=by
 have HH:=has1_any s hs m
 have HT:Hid (tl1 s m=if hd1 s m then s.extract 1 s.size else s):=rfl
 have HP:Hid (hd1 s m=true→1≤s.size):=hd1_pos
 unfold maxLen at hs
 have hsI:(s.size:Int)≤9223372036854775807:=by omega
 clear hs
 have HI:Hid (∀ w,Calls Tryz.prog 124 #[.string s,.string ⟨#[m]⟩] w fun e w'=>e=.returned (.tuple #[.string (tl1 s m),.bool (hd1 s m)])∧w'=w):=by
  intro w
  generalize tl1 s m=t at *
  generalize hd1 s m=r at *
  cases r
  ·go_enter Tryz.func124,Tryz.ntmps124
   go_wp2_with fail
   refine (HH _).mono ?_
   rintro e w ⟨rfl,rfl⟩
   go_wp2_with fail
   go_ret2
   rw [HT.out]
   exact ⟨rfl,rfl⟩
  ·have hI:(1:Int)≤s.size:=by have:=HP.out rfl; omega
   go_enter Tryz.func124,Tryz.ntmps124
   go_wp2_with fail
   refine (HH _).mono ?_
   rintro e w ⟨rfl,rfl⟩
   go_wp2_with fail
   go_ret2
   rw [HT.out]
   exact ⟨rfl,rfl⟩
 generalize tl1 s m=t at *
 generalize hd1 s m=r at *
 clear HH HT HP
 go_enter Tryz.func95,Tryz.ntmps95
 go_wp2_with fail
 refine (HI.out _).mono ?_
 rintro e w ⟨rfl,rfl⟩
 go_wp2_with fail
 go_ret2
 exact ⟨rfl,rfl⟩
theorem behind_yes (s:ByteArray) (hs:s.size≤maxLen) (m:UInt8) (h:hd1 s m=true) (w:World) :
    Calls Tryz.prog 126 #[.string s,.string ⟨#[m]⟩] w fun e w'=>e=.returned (.string (tl1 s m))∧w'=w:=by
 have HC:=cutPre_any s hs m
 rw [h] at HC
 generalize tl1 s m=t at *
 clear hs h
 go_enter Tryz.func126,Tryz.ntmps126
 go_wp2_with fail
 refine (HC _).mono ?_
 rintro e w ⟨rfl,rfl⟩
 go_wp2_with fail
 refine (must_yes _).mono ?_
 rintro e w ⟨rfl,rfl⟩
 go_wp2_with fail
 go_ret
 exact ⟨rfl,rfl⟩
theorem behind_no (s:ByteArray) (hs:s.size≤maxLen) (m:UInt8) (h:hd1 s m=false) (w:World) :
    Calls Tryz.prog 126 #[.string s,.string ⟨#[m]⟩] w fun e w'=>e=upE∧w'=w:=by
 have HC:=cutPre_any s hs m
 rw [h] at HC
 generalize tl1 s m=t at *
 clear hs h
 go_enter Tryz.func126,Tryz.ntmps126
 go_wp2_with fail
 refine (HC _).mono ?_
 rintro e w ⟨rfl,rfl⟩
 go_wp2_with fail
 refine (must_no _).mono ?_
 rintro e w ⟨rfl,rfl⟩
 exact ⟨rfl,rfl,rfl⟩
end Go.Proofs.YtdcadiaeaclpgaaGreatDoor
