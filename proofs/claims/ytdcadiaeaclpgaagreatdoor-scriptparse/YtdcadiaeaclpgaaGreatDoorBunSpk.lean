/- The law ScriptParse: its short ways. -/
import Derived.Test.YtdcadiaeaclpgaaGreatDoorBunSpi
import Derived.Test.YtdcadiaeaclpgaaGreatDoorBunSrq
namespace Go.Proofs.YtdcadiaeaclpgaaGreatDoor
open Go Go.RowKit Go.Lib Go.Sort Go.Shelf
set_option linter.unusedVariables false
set_option linter.unusedSimpArgs false
attribute [local go_sem] Oper.semAt_some
set_option maxHeartbeats 12800000
set_option maxRecDepth 1000000
theorem load_bl (w:World) (g:Nat) (v:Bool) (h:w.heap[g]?=some (.cells #[.bool v] 4 (0,0))):(loadVar 4 ⟨g,0,none⟩).run Tryz.prog w=.ok (.bool v) w:=by
 have hc:w.cell? ⟨g,0,none⟩=some (.bool v):=by simp [World.cell?,h]
 simp [go_sem,loadVar,hc]
theorem Zaw (tmps:Array Value) (w:World) (g:Nat) (v:Bool) (hp:tmps.getD 4 undef=.pointer (some ⟨g,0,none⟩)) (h:w.heap[g]?=some (.cells #[.bool v] 4 (0,0))):(results Tryz.f6 tmps).run Tryz.prog w=.ok (.bool v) w:=by
 have hp':tmps[4]?.getD undef=.pointer (some ⟨g,0,none⟩):=by simpa using hp
 simp [results,hp',asAddr,load_bl w g v h]
theorem ZfA (f:Fn) (a b:Array Value) (w:World):(binOp .eql 77 (.func f a b) .nilFunc).run Tryz.prog w=.ok (.bool false) w:=by kernel_rfl
theorem Zfd (s:ByteArray) (lv:Int) (h1:6000<s.size) (h2:s.size≤1048576) (w:World) (ht:Tab w) (he:Errs w) :
    Calls Tryz.prog 6 #[.string s,.int .i64 lv] w fun e w'=>e=.returned (.bool true)∧w.grownBy w' none:=by
 have HKn:Hid (∀W,w.grownBy W none→Calls Tryz.prog 10 #[] W fun e w'=>e=.returned (.bool true)∧W.grownBy w' none):=fun W hg=>XV W (ht.kept hg) (he.kept hg)
 have i1:(6000:Int)<s.size:=by omega
 have i2:(s.size:Int)≤1048576:=by omega
 clear ht he
 go_enter Tryz.func6,Tryz.ntmps6
 go_wp2_with fail
 refine(HKn.out _ (grow2 _ _ _)).mono ?_
 rintro e w2 ⟨rfl,g2⟩
 have hb:w2.heap[w.heap.size+1]?=some (.cells #[.bool false] 4 (0,0)):=by
  have h0:=heap_alloc2_new w (.cells #[.int .i64 lv] 3) (.cells #[.bool false] 4)
  exact(g2.block _ (Zg h0) (by simp)).trans h0
 have c1:w2.cell? ⟨w.heap.size+1,0,none⟩=some (.bool false):=by simp [World.cell?,hb]
 have f1:w2.frozen? ⟨w.heap.size+1,0,none⟩=false:=by simp [World.frozen?,hb]
 have hR:Hid ((w2.setCell ⟨w.heap.size+1,0,none⟩ (.bool true)).heap[w.heap.size+1]?=some (.cells #[.bool true] 4 (0,0))):=by
  show _=_
  simp [World.setCell,Array.getElem?_modify,hb]
 have hG:Hid (w.grownBy (w2.setCell ⟨w.heap.size+1,0,none⟩ (.bool true)) none):=Zb (Za (grow2 _ _ _) g2) (by omega)
 clear hb g2
 go_wp2_with fail
 refine bodyPost_ret (Zaw _ _ _ true rfl hR.out) rfl ?_
 exact⟨rfl,hG.out⟩
theorem ZdP (s:ByteArray) (lv:Int) (h1:1048576<s.size) (hm:s.size≤maxLen) (w:World) (ht:Tab w) (he:Errs w) :
    Calls Tryz.prog 6 #[.string s,.int .i64 lv] w fun e w'=>e=.returned (.bool true)∧w.grownBy w' none:=by
 have HKn:Hid (∀W,w.grownBy W none→Calls Tryz.prog 10 #[] W fun e w'=>e=.returned (.bool true)∧W.grownBy w' none):=fun W hg=>XV W (ht.kept hg) (he.kept hg)
 have HP:Hid (∀W,Calls Tryz.prog 29 #[.string s] W fun e w'=>e=.returned (.tuple #[.slice none 0 0,.int .i64 0,.int .i64 3])∧W.grownBy w' none):=fun W=>ZdK s h1 hm W
 have HD:Hid (∀W,Calls Tryz.prog 30 #[.string s] W fun e w'=>e=.returned (.tuple #[.slice none 0 0,.int .i64 0,.int .i64 3])∧W.grownBy w' none):=fun W=>Zcx s h1 hm W
 have HS:Hid (∀W,Calls Tryz.prog 31 #[.slice none 0 0,.slice none 0 0] W fun e w'=>e=.returned (.bool true)∧W.grownBy w' none):=fun W=>UB W _ _ [] (.inl ⟨rfl,none,0,rfl⟩) (.inl ⟨rfl,none,0,rfl⟩) (by simp) (fun s h=>by simp at h)
 have i1:(6000:Int)<s.size:=by omega
 have i2:(1048576:Int)<s.size:=by omega
 clear ht he hm
 go_enter Tryz.func6,Tryz.ntmps6
 go_wp2_with fail
 refine(HP.out _).mono ?_
 rintro e w2 ⟨rfl,g2⟩
 have hb2:Hid (w2.heap[w.heap.size+1]?=some (.cells #[.bool false] 4 (0,0))):=by
  have h0:=heap_alloc2_new w (.cells #[.int .i64 lv] 3) (.cells #[.bool false] 4)
  exact(g2.block _ (Zg h0) (by simp)).trans h0
 have G2:Hid (w.grownBy w2 none):=Za (grow2 _ _ _) g2
 clear g2 HP
 go_wp2_with fail
 refine(HD.out _).mono ?_
 rintro e w3 ⟨rfl,g3⟩
 have hb3:Hid (w3.heap[w.heap.size+1]?=some (.cells #[.bool false] 4 (0,0))):=(g3.block _ (Zg hb2.out) (by simp)).trans hb2.out
 have G3:Hid (w.grownBy w3 none):=Za G2.out g3
 clear g3 HD G2 hb2
 go_wp2_with fail
 refine(HS.out _).mono ?_
 rintro e w4 ⟨rfl,g4⟩
 have hb4:Hid (w4.heap[w.heap.size+1]?=some (.cells #[.bool false] 4 (0,0))):=(g4.block _ (Zg hb3.out) (by simp)).trans hb3.out
 have G4:Hid (w.grownBy w4 none):=Za G3.out g4
 clear g4 HS G3 hb3
 go_wp2_with fail
 refine(HKn.out _ G4.out).mono ?_
 rintro e w5 ⟨rfl,g5⟩
 have hb:=(g5.block _ (Zg hb4.out) (by simp)).trans hb4.out
 have c1:w5.cell? ⟨w.heap.size+1,0,none⟩=some (.bool false):=by simp [World.cell?,hb]
 have f1:w5.frozen? ⟨w.heap.size+1,0,none⟩=false:=by simp [World.frozen?,hb]
 have hR:Hid ((w5.setCell ⟨w.heap.size+1,0,none⟩ (.bool true)).heap[w.heap.size+1]?=some (.cells #[.bool true] 4 (0,0))):=by
  show _=_
  simp [World.setCell,Array.getElem?_modify,hb]
 have hG:Hid (w.grownBy (w5.setCell ⟨w.heap.size+1,0,none⟩ (.bool true)) none):=Zb (Za G4.out g5) (by omega)
 clear hb g5
 go_wp2_with fail
 refine bodyPost_ret (Zaw _ _ _ true rfl hR.out) rfl ?_
 exact⟨rfl,hG.out⟩
end Go.Proofs.YtdcadiaeaclpgaaGreatDoor
namespace Go.Proofs.YtdcadiaeaclpgaaGreatDoor
open Go Go.RowKit Go.Lib Go.Sort Go.Shelf
set_option linter.unusedVariables false
set_option linter.unusedSimpArgs false
set_option maxHeartbeats 12800000
set_option maxRecDepth 1000000
theorem Zeu {l d:Nat} {P:Program} {ops:Array Oper} {Q:Exit→Act→World→Prop} {i:Nat} {K K':Act→World→Prop} {a:Act} {w:World} (hnd:∀o,ops[i]?=some o→∀c,o.op≠.defer c)
    (hK:∀a w,K a w→K' a w) (h:wpOp P ops (fun e a w=>e=.normal∧Q .normal a w) i K a w):wpOpIn (Fence.wide.inRound l) d P ops Q i K' a w:=by
 unfold wpOp at h
 unfold wpOpIn
 cases ho:ops[i]? with
 |none =>
  rw [ho]at h
  exact hK _ _ h
 |some o =>
  rw [ho]at h
  simp only at h ⊢
  split at h
  ·rename_i hw
   rw [if_pos hw]
   rcases h with h|⟨_,a',w',h',_⟩
   ·refine⟨fun f _=>trivial,?_⟩
    rw [Oper.semAt_eq _ _ _ (hnd o ho)]
    unfold Oper.wp at h
    generalize(execOp a.eval o).run P w=r at *
    cases r with
    |ok x w' =>
     cases x with
     |value v=>exact hK _ _ h
     |skip=>exact hK _ _ h
     |defer dd=>exact hK _ _ h
     |enter f args =>
      refine⟨fun h=>by simp [Fence.wide,Fence.inRound]at h,callsIn_wide.2 (Calls.mono h fun e w'' he=>?_)⟩
      cases e with
      |returned v=>exact hK _ _ he
      |panicked c=>exact absurd he.1 (by simp)
      |outgrown =>
       obtain⟨_,_,he,_⟩:=he
       cases he
     |row row args=>exact⟨fun h=>by simp [Fence.wide,Fence.inRound]at h,fun c cs _=>let ⟨v,w1,r1,s1⟩:=h c cs;⟨v,w1,hK _ _ r1,stepsIn_wide.2 s1⟩⟩
     |_=>exact h.elim
    |halt x w' =>
     cases x<;>first|exact h.elim|exact absurd h.1 (by simp)
   ·cases h'
  ·rename_i hw
   rw [if_neg hw]
   exact⟨fun f _=>trivial,hK _ _ h⟩
theorem UJ {l d:Nat} {P:Program} {md:Region.Mode} {ops:Array Oper} {Q:Exit→Act→World→Prop} (hnd:∀(i:Nat) (o:Oper),ops[i]?=some o→∀c,o.op≠.defer c):∀(fuel:Nat) (listed:Array Bool) (a:Act) (w:World),
    wpAny P md ops (fun e a w=>e=.normal∧Q .normal a w) fuel listed a w→wpAnyIn (Fence.wide.inRound l) d P md ops Q fuel listed a w
 |0,listed,a,w,h=>⟨h.1,h.2.2⟩
 |fuel+1,listed,a,w,h=>⟨fun e=>(h.1 e).2,fun i hi=>Zeu (hnd i) (fun a w hk=>UJ hnd fuel _ a w hk) (h.2 i hi)⟩
def noDefer (ops:Array Oper):Bool:=ops.all fun o=>match o.op with
 |.defer _=>false
 |_=>true
theorem Zcz {ops:Array Oper} (h:noDefer ops=true) (i:Nat) (o:Oper) (hi:ops[i]?=some o):∀c,o.op≠.defer c:=by
 intro c e
 have h1:=Array.all_eq_true_iff_forall_mem.1 h o (Array.mem_of_getElem? hi)
 rw [e]at h1
 cases h1
theorem Xl {l d:Nat} {P:Program} {ops:Array Oper} {Q:Exit→Act→World→Prop} {S:World→Prop} {id:Nat} {a:Act} {w:World} (hm:P.follows .mixedOrders=true) (hn:noDefer ops=true) (hS:S w.drew)
    (h:S w.drew→wpAnyH P .any ops (fun e a w=>e=.normal∧Q .normal a w) S ops.size (Array.replicate ops.size false) a w.drew):(Code.region id ops true).wpIn (Fence.wide.inRound l) d P Q a w :=
 wpIn_region_any hm (UJ (Zcz hn) _ _ _ _ (wpAny_of_held _ _ _ _ (h hS)))
end Go.Proofs.YtdcadiaeaclpgaaGreatDoor
namespace Go.Proofs.YtdcadiaeaclpgaaGreatDoor
open Go Go.RowKit Go.Lib Go.Sort Go.Shelf
set_option linter.unusedVariables false
set_option linter.unusedSimpArgs false
attribute [local go_sem] Oper.semAt_some
set_option maxHeartbeats 12800000
set_option maxRecDepth 1000000
theorem stU_fit {L:List UInt8} (hL:L.length≤6000) {s:St} (h:stU L=some s):s.Fit:=by
 have h1:=rdS_fit hL
 unfold rdS at h1
 rw [h]at h1
 exact h1
theorem al_fit {L:List UInt8} (hL:L.length≤6000):∀s∈(alN L.length L).1,s.Fit:=fun s hs=>by
 obtain⟨t,ht⟩:=List.mem_iff_getElem?.1 hs
 obtain⟨l,_,h1,h2⟩:=(al_wl L.length L (Nat.le_refl _)).1 t s ht
 exact stU_fit (by omega) h1
def AaQ (w w':World) (S:List St) (e:Ending):Prop:=∃v left P,e=.returned (.tuple #[v,.string left])∧RowU w' w.heap.size v P∧P.map (·.1)=S
def LpS (w9:World) (turn g14:Nat) (Ds:List Nat) (W:World):Prop :=
 Ds.Nodup∧w9.grownBy W none∧w9.heap.size≤g14∧W.heap[g14]?=some (.cells #[.int .i64 (turn:Nat)] 3 (0,0))∧∀D∈Ds,w9.heap.size≤D∧W.heap[D]?=some (.deferred (some []))
def LpI (w9:World) (sv left:ByteArray) (lv ke:Int) (A C k n2 c2 n3 c3:Nat) (ab2 ab3:Option Addr) (kk:Nat) (a:Act) (W:World):Prop :=
 ∃(turn g14:Nat) (Ds:List Nat) (tl:List Value),a={ tmps:=(([.string sv,.int .i64 lv,undef,.pointer (some ⟨A,0,none⟩),.pointer (some ⟨A+1,0,none⟩),.slice ab2 n2 c2,.int .i64 (k:Nat),.int .i64 ke,.slice ab3 n3 c3,.int .i64 (k:Nat),.int .i64 ke,.pointer (some ⟨C,0,none⟩),.string left,.func (.func 55) #[] #[.pointer (some ⟨C+1,0,none⟩)],.pointer (some ⟨g14,0,none⟩)]:List Value)++tl).toArray,defers:=Ds.map mk }∧tl.length=100∧turn+kk=2∧LpS w9 turn g14 Ds W
theorem Zdf (tl:List Value) (h:tl.length=100):∃u:Nat→Value,tl=[u 15,u 16,u 17,u 18,u 19,u 20,u 21,u 22,u 23,u 24,u 25,u 26,u 27,u 28,u 29,u 30,u 31,u 32,u 33,u 34,u 35,u 36,u 37,u 38,u 39,u 40,u 41,u 42,u 43,u 44,u 45,u 46,u 47,u 48,u 49,u 50,u 51,u 52,u 53,u 54,u 55,u 56,u 57,u 58,u 59,u 60,u 61,u 62,u 63,u 64,u 65,u 66,u 67,u 68,u 69,u 70,u 71,u 72,u 73,u 74,u 75,u 76,u 77,u 78,u 79,u 80,u 81,u 82,u 83,u 84,u 85,u 86,u 87,u 88,u 89,u 90,u 91,u 92,u 93,u 94,u 95,u 96,u 97,u 98,u 99,u 100,u 101,u 102,u 103,u 104,u 105,u 106,u 107,u 108,u 109,u 110,u 111,u 112,u 113,u 114]:=by
 refine⟨fun i=>tl.getD (i-15) undef,?_⟩
 have e:tl=(List.range 100).map (fun i=>tl.getD i undef):=by
  apply List.ext_getElem
  ·simp [h]
  ·intro i h1 h2
   simp [List.getElem?_eq_getElem h1]
 exact e
def AtI (W5:World) (g:Nat) (q:Nat × (Nat→Prop)) (W:World):Prop:=W5.grownBy W (some g)∧W.heap[g]?=some (.cells #[.int .i64 (q.1:Nat)] 3 (0,0))
theorem AtI.kept {W5:World} {g:Nat} {q:Nat × (Nat→Prop)} {W W':World} {row:Option Nat} (h:AtI W5 g q W) (hg:W.grownBy W' row) (hr:∀r,row=some r→W5.heap.size≤r∧r≠g):AtI W5 g q W':=by
 obtain⟨h1,h2⟩:=h
 refine⟨⟨hg.os.trans h1.os,hg.tape.trans h1.tape,hg.output.trans h1.output,Nat.le_trans h1.size hg.size,fun i hi hn=>?_⟩,(hg.block g (Zg h2) (fun e=>(hr g e.symm).2 rfl)).trans h2⟩
 have h3:=h1.size
 exact(hg.block i (by omega) (fun e=>by have:=(hr i e.symm).1;omega)).trans (h1.block i hi hn)
theorem turn_ex (turn k:Nat) (lv:Int):∃(T:Nat) (b:Bool),T≤k∧(b=true→T=k)∧(b=false→0<T)∧(b=false→turn=0∧lv=(T:Nat))∧(b=true→turn=0→∀t:Nat,t<k→lv≠(t:Int)+1):=by
 by_cases h:turn=0∧1≤lv∧lv≤(k:Nat)
 ·exact⟨lv.toNat,false,by omega,by simp,fun _=>by omega,fun _=>⟨h.1,by omega⟩,by simp⟩
 ·exact⟨k,true,Nat.le_refl _,fun _=>rfl,by simp,by simp,fun _ h0 t ht=>by omega⟩
theorem Zb8 (L:List UInt8) (hL:L.length≤6000) (lv:Int) (w:World) (ht:Tab w) (he:Errs w) :
    Calls Tryz.prog 6 #[.string (bA L),.int .i64 lv] w fun e w'=>e=.returned (.bool true)∧w.grownBy w' none:=by
 have HKn:Hid (∀W,w.grownBy W none→Calls Tryz.prog 10 #[] W fun e w'=>e=.returned (.bool true)∧W.grownBy w' none):=fun W hg=>XV W (ht.kept hg) (he.kept hg)
 have EG:Hid (∀args w,(callFunc 55 args).run Tryz.prog w=.ok (.enter 55 args) w):=enters_of Tryz.func55 (by kernel_rfl) rfl
 have HAh:Hid (∀T b,T≤(alN L.length L).1.length→(b=true→T=(alN L.length L).1.length)→(b=false→0<T)→∀m B bt,HandsG Fence.wide m Tryz.prog 55 #[.pointer (some ⟨bt,0,none⟩)] (StIt (alN L.length L).1) (fun _=>False) T b B (fun W=>W.heap[bt]?=some (.cells #[.string (bA L)] 9 (0,0))) Errs):=fun T b k1 k2 k3 m B bt=>JO L hL T b k1 k2 k3 m B bt
 have HP:Hid (∀W,w.grownBy W none→Calls Tryz.prog 29 #[.string (bA L)] W fun e w'=>PaQ W w' (alN L.length L).1 (alN L.length L).2 e∧W.grownBy w' none):=fun W hg=>Zeb L hL W (he.kept hg)
 have HD:Hid (∀W,w.grownBy W none→Calls Tryz.prog 30 #[.string (bA L)] W fun e w'=>PaQ W w' (alN L.length L).1 (alN L.length L).2 e∧W.grownBy w' none):=fun W hg=>ZcG L hL W (ht.kept hg)
 have HA:Hid (∀W,w.grownBy W none→Calls Tryz.prog 32 #[.string (bA L)] W fun e w'=>AaQ W w' (alN L.length L).1 e∧W.grownBy w' none):=fun W hg=>(Zbo L hL W (ht.kept hg)).mono fun e w' ⟨v,left,P,h1,h2,h3,h4,h5⟩=>⟨⟨v,left,P,h1,h2,h3⟩,h5⟩
 have hfit:=al_fit hL
 have hal:=UU L.length L (Nat.le_refl _)
 have HSs:Hid (∀(b:Bool) W u v,Sts W u (if b=true then(alN L.length L).1 else [])→Sts W v (if b=true then(alN L.length L).1 else [])→Calls Tryz.prog 31 #[u,v] W fun e w'=>e=.returned (.bool true)∧W.grownBy w' none):=fun b W u v hu hv=>UB W u v _ hu hv (by split;omega;simp) (fun s hs=>by
  cases b with
  |true=>exact hfit s hs
  |false=>simp at hs)
 have HSm:Hid (∀W u v s,s∈(alN L.length L).1→Stv W u s→Stv W v s→Calls Tryz.prog 14 #[u,v] W fun e w'=>e=.returned (.bool true)∧W.grownBy w' none):=fun W u v s hs hu hv=>(VI W u v _ _ hu hv (hfit s hs) (hfit s hs)).mono fun e w' h=>by
  rw [St.eqb_iff.2 rfl]at h
  exact h
 have hsz:=Zo L
 have hsI:((bA L).size:Int)≤6000:=by omega
 have HE:Hid (Errs w):=he
 generalize alN L.length L=tot at *
 obtain⟨S,ok⟩:=tot
 simp only at HAh HP HD HA HSs HSm hal
 have HSl:Hid (S.length≤3000):=by
  show _≤_
  omega
 obtain⟨ke,hke⟩:∃ke,(if ok=true then(0:Int)else 400)=ke:=⟨_,rfl⟩
 obtain⟨M,hM⟩:∃M,(if ok=true then S else [])=M:=⟨_,rfl⟩
 have HQ:Hid (∀W w' e,PaQ W w' S ok e→∃v P,e=.returned (.tuple #[v,.int .i64 S.length,.int .i64 ke])∧RowU w' W.heap.size v P∧P.map (·.1)=M):=fun W w' e h=>by
  rw [←hke,←hM]
  exact h
 have HSs2:Hid (∀W u v,Sts W u M→Sts W v M→Calls Tryz.prog 31 #[u,v] W fun e w'=>e=.returned (.bool true)∧W.grownBy w' none):=fun W u v hu hv=>HSs.out ok W u v (by rw [hM];exact hu) (by rw [hM];exact hv)
 have HAQ:Hid (∀W w' e,AaQ W w' S e→∃v left P,e=.returned (.tuple #[v,.string left])∧RowU w' W.heap.size v P∧P.map (·.1)=S):=fun W w' e h=>h
 generalize hPq:PaQ=PQ at *
 generalize hAq:AaQ=AQ at *
 clear hfit hal ht he hL hsz hke hM HSs hPq hAq
 obtain⟨k,hk⟩:∃k,S.length=k:=⟨_,rfl⟩
 have HKl:Hid (S.length=k):=hk
 rw [hk]at HSl
 simp only [hk]at HQ
 clear hk
 generalize bA L=sv at *
 refine(callsIn_wide (n:=5)).1 ?_
 refine callsIn_of_wp_marks Tryz.func6 rfl trivial (wpIn_wide.2 ?_) rfl
 simp only [Tryz.ntmps6,List.size_toArray,List.length_cons,List.length_nil,Nat.reduceAdd,Nat.reduceSub,Array.replicate_succ,Array.replicate_zero,List.push_toArray,List.append_toArray,List.nil_append,List.cons_append]
 go_wp2_with fail
 refine(HP.out _ (grow2 _ _ _)).mono ?_
 rintro e w2 ⟨hq2,g2⟩
 obtain⟨v2,P2,rfl,hR2,hm2⟩:=HQ.out _ _ _ hq2
 have hA2:Hid (w2.heap[w.heap.size]?=some (.cells #[.int .i64 lv] 3 (0,0))∧w2.heap[w.heap.size+1]?=some (.cells #[.bool false] 4 (0,0))):=by
  have h0:(w.alloc (.cells #[.int .i64 lv] 3)).heap[w.heap.size]?=some (.cells #[.int .i64 lv] 3 (0,0)):=heap_alloc_new _ _
  have h1:=((grow1 _ (.cells #[.bool false] 4)).block _ (Zg h0) (by simp)).trans h0
  have h2:=heap_alloc2_new w (.cells #[.int .i64 lv] 3) (.cells #[.bool false] 4)
  exact⟨(g2.block _ (Zg h1) (by simp)).trans h1,(g2.block _ (Zg h2) (by simp)).trans h2⟩
 have HSt2:Hid (Sts w2 v2 M):=by
  show Sts _ _ _
  rw [←hm2]
  exact hR2.sts
 obtain⟨ab2,c2,rfl⟩:=hR2.form
 have G2:Hid (w.grownBy w2 none):=Za (grow2 _ _ _) g2
 clear g2 HP hR2 hm2 hq2
 generalize P2.length=n2 at *
 go_wp2_with fail
 refine(HD.out _ G2.out).mono ?_
 rintro e w3 ⟨hq3,g3⟩
 obtain⟨v3,P3,rfl,hR3,hm3⟩:=HQ.out _ _ _ hq3
 have hA3:Hid (w3.heap[w.heap.size]?=some (.cells #[.int .i64 lv] 3 (0,0))∧w3.heap[w.heap.size+1]?=some (.cells #[.bool false] 4 (0,0))):=⟨(g3.block _ (Zg hA2.out.1) (by simp)).trans hA2.out.1,(g3.block _ (Zg hA2.out.2) (by simp)).trans hA2.out.2⟩
 have HSt3:Hid (Sts w3 v3 M):=by
  show Sts _ _ _
  rw [←hm3]
  exact hR3.sts
 obtain⟨ab3,c3,rfl⟩:=hR3.form
 have HSt2':Hid (Sts w3 (.slice ab2 n2 c2) M):=HSt2.out.kept g3
 have G3:Hid (w.grownBy w3 none):=Za G2.out g3
 clear g3 HD hR3 hm3 hA2 G2 HSt2 hq3 HQ
 generalize P3.length=n3 at *
 go_wp2_with fail
 refine(HSs2.out _ _ _ HSt2'.out HSt3.out).mono ?_
 rintro e w4 ⟨rfl,g4⟩
 have hA4:Hid (w4.heap[w.heap.size]?=some (.cells #[.int .i64 lv] 3 (0,0))∧w4.heap[w.heap.size+1]?=some (.cells #[.bool false] 4 (0,0))):=⟨(g4.block _ (Zg hA3.out.1) (by simp)).trans hA3.out.1,(g4.block _ (Zg hA3.out.2) (by simp)).trans hA3.out.2⟩
 have G4:Hid (w.grownBy w4 none):=Za G3.out g4
 clear g4 HSs2 hA3 G3 HSt2' HSt3
 go_wp2_with fail
 refine(HA.out _ G4.out).mono ?_
 rintro e w5 ⟨hq5,g5⟩
 obtain⟨v5,left,P5,rfl,hR5,hm5⟩:=HAQ.out _ _ _ hq5
 obtain⟨ab5,c5,rfl⟩:=hR5.form
 have hPl5:P5.length=k:=by
  rw [←HKl.out,←hm5,List.length_map]
 rw [hPl5]at hR5 ⊢
 clear hPl5
 have hseq:=ZfA (.func 55) #[] #[.pointer (some ⟨w5.heap.size+1,0,none⟩)]
 have HRv:Hid (RowU w5 w4.heap.size (.slice ab5 k c5) P5∧P5.map (·.1)=S):=⟨hR5,hm5⟩
 have hA5:Hid (w5.heap[w.heap.size]?=some (.cells #[.int .i64 lv] 3 (0,0))∧w5.heap[w.heap.size+1]?=some (.cells #[.bool false] 4 (0,0))):=⟨(g5.block _ (Zg hA4.out.1) (by simp)).trans hA4.out.1,(g5.block _ (Zg hA4.out.2) (by simp)).trans hA4.out.2⟩
 have G5:Hid (w.grownBy w5 none):=Za G4.out g5
 have HC1:Hid (Calls Tryz.prog 33 #[.string sv] (w5.alloc (.cells #[.slice ab5 k c5] 51)) fun e w'=>e=.returned (.func (.func 55) #[] #[.pointer (some ⟨w5.heap.size+1,0,none⟩)])∧w'=(w5.alloc (.cells #[.slice ab5 k c5] 51)).alloc (.cells #[.string sv] 9)):=by
  have h:=Zbi sv (w5.alloc (.cells #[.slice ab5 k c5] 51))
  have hz:(w5.alloc (.cells #[.slice ab5 k c5] 51)).heap.size=w5.heap.size+1:=by simp
  rw [hz]at h
  exact h
 clear g5 HA hR5 hm5 hA4 G4 hq5 HAQ
 go_wp2_with fail
 refine HC1.out.mono ?_
 rintro e w9 ⟨rfl,hw9⟩
 have hse:=hseq w9
 clear hseq HC1
 have H9:Hid (w5.grownBy w9 none∧w9.heap.size=w5.heap.size+2∧w9.heap[w5.heap.size]?=some (.cells #[.slice ab5 k c5] 51 (0,0))∧w9.heap[w5.heap.size+1]?=some (.cells #[.string sv] 9 (0,0))):=by
  have h0:(w5.alloc (.cells #[.slice ab5 k c5] 51)).heap[w5.heap.size]?=some (.cells #[.slice ab5 k c5] 51 (0,0)):=heap_alloc_new _ _
  have h1:=heap_alloc2_new w5 (.cells #[.slice ab5 k c5] 51) (.cells #[.string sv] 9)
  rw [hw9]
  exact⟨grow2 _ _ _,by simp,((grow1 _ _).block _ (Zg h0) (by simp)).trans h0,h1⟩
 clear hw9
 go_wp2_with fail
 obtain⟨A,hA⟩:∃A,w.heap.size=A:=⟨_,rfl⟩
 obtain⟨C,hC⟩:∃C,w5.heap.size=C:=⟨_,rfl⟩
 have HAC:Hid (w.heap.size=A∧w5.heap.size=C∧A+1<C):=⟨hA,hC,by have:=Zg hA5.out.2;omega⟩
 rw [hA]at hA5 ⊢
 rw [hC]at H9 ⊢
 clear hA hC hse
 have HS0:Hid (LpS w9 0 w9.heap.size [] (w9.alloc (.cells #[.int .i64 0] 3))):=⟨List.nodup_nil,grow1 _ _,Nat.le_refl _,heap_alloc_new _ _,fun D h=>by simp at h⟩
 refine wp_loop_ghost_k (LpI w9 sv left lv ke A C k n2 c2 n3 c3 ab2 ab3) 2 ⟨0,w9.heap.size,[],_,rfl,rfl,rfl,HS0.out⟩ ?_
 intro kk a wo hI J2 K2 hJ2 hK2
 obtain⟨turn,g14,Ds,tl,rfl,hlen,hk,hS⟩:=hI
 obtain⟨u,hu⟩:=Zdf tl hlen
 subst hu
 clear hlen HS0
 simp only [List.cons_append,List.nil_append]
 have HS:Hid (LpS w9 turn g14 Ds wo):=hS
 have HKK:Hid (turn+kk=2):=hk
 have c14:wo.cell? ⟨g14,0,none⟩=some (.int .i64 (turn:Nat)):=by simp [World.cell?,hS.2.2.2.1]
 clear hS
 cases kk with
 |zero =>
  obtain rfl:turn=2:=by omega
  have HGo:Hid (w.grownBy wo none):=Za G5.out (Za H9.out.1 HS.out.2.1)
  clear hk
  go_wp2_with fail
  refine(HKn.out _ HGo.out).mono ?_
  rintro e w3 ⟨rfl,g3⟩
  have hB3:w3.heap[A+1]?=some (.cells #[.bool false] 4 (0,0)):=by
   have h1:=(H9.out.1.block _ (Zg hA5.out.2) (by simp)).trans hA5.out.2
   have h2:=(HS.out.2.1.block _ (Zg h1) (by simp)).trans h1
   exact(g3.block _ (Zg h2) (by simp)).trans h2
  have r1:w3.cell? ⟨A+1,0,none⟩=some (.bool false):=by simp [World.cell?,hB3]
  have r2:w3.frozen? ⟨A+1,0,none⟩=false:=by simp [World.frozen?,hB3]
  have HR4:Hid ((w3.setCell ⟨A+1,0,none⟩ (.bool true)).heap[A+1]?=some (.cells #[.bool true] 4 (0,0))):=by
   show _=_
   simp [World.setCell,Array.getElem?_modify,hB3]
  have HG4:Hid (w.grownBy (w3.setCell ⟨A+1,0,none⟩ (.bool true)) none):=Zb (Za HGo.out g3) (by have:=HAC.out;omega)
  have HDs:Hid (∀D∈Ds,w.heap.size≤D∧(w3.setCell ⟨A+1,0,none⟩ (.bool true)).heap[D]?=some (.deferred (some []))∧¬D=A+1):=fun D hD=>by
   obtain⟨h1,h2⟩:=HS.out.2.2.2.2 D hD
   have h3:=HAC.out
   have h4:=H9.out.2.1
   have h5:=(g3.block _ (Zg h2) (by simp)).trans h2
   refine⟨by omega,((Zc w3 (A+1) 0 (.bool true)).block _ (Zg h5) (fun e=>by injection e with e;omega)).trans h5,by omega⟩
  clear hB3 g3
  go_wp2_with fail
  refine ZY _ w.heap.size (fun r=>r=A+1) (fun W=>W.heap[A+1]?=some (.cells #[.bool true] 4 (0,0))∧w.grownBy W none) (fun W hi=>Zaw _ _ _ true rfl hi.1) ?_ ?_ Ds _ HS.out.1 HDs.out ⟨HR4.out,HG4.out⟩
  ·exact fun W D hi hD hne=>⟨(World.putObj_heap_other (fun e=>hne e.symm)).trans hi.1,Zq hi.2 hD (grownBy_putObj' W D _)⟩
  ·exact fun W hi=>⟨rfl,hi.2⟩
 |succ kk =>
  have hturn:turn=0∨turn=1:=by omega
  clear hk
  have htd:decide ((turn:Int)<2)=true:=decide_eq_true (by omega)
  go_wp2_with fail
  obtain⟨T,b,q1,q2,q3,q4,q5⟩:=turn_ex turn k lv
  have HTb:Hid (T≤k∧(b=true→T=k)∧(b=false→0<T)∧(b=false→turn=0∧lv=(T:Nat))∧(b=true→turn=0→∀t:Nat,t<k→lv≠(t:Int)+1)):=⟨q1,q2,q3,q4,q5⟩
  have HGo:Hid (w9.grownBy wo none):=HS.out.2.1
  have hz5:(wo.alloc (.cells #[.int .i64 0] 3)).heap.size=wo.heap.size+1:=by simp
  have hg5:wo.grownBy (wo.alloc (.cells #[.int .i64 0] 3)) none:=grow1 _ _
  have hi5:AtI (wo.alloc (.cells #[.int .i64 0] 3)) wo.heap.size (0,fun _=>False) (wo.alloc (.cells #[.int .i64 0] 3)):=⟨World.grownBy.refl _ _,heap_alloc_new _ _⟩
  have hbt:(wo.alloc (.cells #[.int .i64 0] 3)).heap[C+1]?=some (.cells #[.string sv] 9 (0,0)):=by
   have h1:=(HGo.out.block _ (Zg H9.out.2.2.2) (by simp)).trans H9.out.2.2.2
   exact(hg5.block _ (Zg h1) (by simp)).trans h1
  have HW5:Hid (w9.grownBy (wo.alloc (.cells #[.int .i64 0] 3)) none∧wo.grownBy (wo.alloc (.cells #[.int .i64 0] 3)) none∧(wo.alloc (.cells #[.int .i64 0] 3)).heap.size=wo.heap.size+1∧w9.heap.size≤wo.heap.size∧g14<wo.heap.size):=⟨Za HGo.out hg5,hg5,hz5,HGo.out.size,Zg HS.out.2.2.2.1⟩
  generalize hw5:wo.alloc (.cells #[.int .i64 0] 3)=W5 at *
  clear hw5
  refine(wpIn_wide (n:=5)).1 ?_
  refine XW (ps:=#[71,72]) rfl (by omega) rfl trivial EG.out (StIt S) (fun t W W' row base vs h hg hr=>h.kept hg hr) (fun t W base vs h=>by obtain⟨_,_,_,rfl,_⟩:=h;rfl) (fun _=>False) (fun r e=>e.elim) T b (some 2) (by cases hb:b with|true=>rfl|false=>simpa using q3 hb) (AtI W5 wo.heap.size)
   (fun q W W' h hg=>h.kept hg (fun r e=>by cases e))
   (fun q W W' r h hg hr hne=>h.kept hg (fun r' e=>by injection e with e;subst e;rcases hr with hr|hr;exact⟨hr,by omega⟩;exact hr.elim))
   (fun _=>False) (fun r e=>e.elim) hi5 (fun W=>W.heap[C+1]?=some (.cells #[.string sv] 9 (0,0))) Errs (fun W' hg=>(hg.block _ (Zg hbt) (by simp)).trans hbt)
   (fun q W h=>HE.out.kept (Zq (Za G5.out (Za H9.out.1 HW5.out.1)) (by have h1:=G5.out.size;have h2:=H9.out.1.size;have h3:=HW5.out;omega) h.1))
   (HAh.out T b (by rw [HKl.out];exact q1) (fun hb=>by rw [HKl.out];exact q2 hb) q3 (5-1) (W5.heap.size+2) (C+1))
   (fun vs a1 W1=>(∃g17,wo.heap.size+3≤g17∧∀x vb nm v,vs=#[.int .i64 x,.agg #[.string vb,.string nm,v]]→W1.heap[g17]?=some (sObj vb nm v)∧a1={ tmps:=#[.string sv,.int .i64 lv,undef,.pointer (some ⟨A,0,none⟩),.pointer (some ⟨A+1,0,none⟩),.slice ab2 n2 c2,.int .i64 (k:Nat),.int .i64 ke,.slice ab3 n3 c3,.int .i64 (k:Nat),.int .i64 ke,.pointer (some ⟨C,0,none⟩),.string left,.func (.func 55) #[] #[.pointer (some ⟨C+1,0,none⟩)],.pointer (some ⟨g14,0,none⟩),.pointer (some ⟨wo.heap.size,0,none⟩),.int .i64 x,.pointer (some ⟨g17,0,none⟩),u 18,u 19,u 20,u 21,u 22,u 23,u 24,u 25,u 26,u 27,u 28,u 29,u 30,u 31,u 32,u 33,u 34,u 35,u 36,u 37,u 38,u 39,u 40,u 41,u 42,u 43,u 44,u 45,u 46,u 47,u 48,u 49,u 50,u 51,u 52,u 53,u 54,u 55,u 56,u 57,u 58,u 59,u 60,u 61,u 62,u 63,u 64,u 65,.int .i64 (turn:Nat),.bool true,u 68,u 69,.func (.func 55) #[] #[.pointer (some ⟨C+1,0,none⟩)],.int .i64 x,.agg #[.string vb,.string nm,v],u 73,u 74,u 75,u 76,u 77,u 78,u 79,u 80,u 81,u 82,u 83,u 84,u 85,u 86,u 87,u 88,u 89,u 90,u 91,u 92,u 93,u 94,u 95,u 96,u 97,u 98,u 99,u 100,u 101,u 102,u 103,u 104,u 105,u 106,u 107,u 108,u 109,u 110,u 111,u 112,u 113,u 114],defers:=[] }))
   (fun vs a1 W1 W2 h hg=>by
    obtain⟨g17,h1,h2⟩:=h
    refine⟨g17,h1,fun x vb nm v e=>?_⟩
    obtain⟨h3,h4⟩:=h2 x vb nm v e
    exact⟨(hg.block _ (Zg h3) (fun e=>by injection e with e;omega)).trans h3,h4⟩) ?_ ?_ ?_
  ·intro l2 t base vs Wx K hIt hb1 hb2 hK
   obtain⟨s,v,hs,rfl,hAg⟩:=hIt
   obtain⟨ab,c,rfl⟩:=hAg.args.form
   have HK:Hid (∀(a1:Act) (W1:World),Wx.grownBy W1 none→(∃g17,wo.heap.size+3≤g17∧∀x vb nm v,(#[.int .i64 (t:Nat),.agg #[.string s.vb,.string s.nm,.slice ab s.ags.length c]]:Array Value)=#[.int .i64 x,.agg #[.string vb,.string nm,v]]→W1.heap[g17]?=some (sObj vb nm v)∧a1={ tmps:=#[.string sv,.int .i64 lv,undef,.pointer (some ⟨A,0,none⟩),.pointer (some ⟨A+1,0,none⟩),.slice ab2 n2 c2,.int .i64 (k:Nat),.int .i64 ke,.slice ab3 n3 c3,.int .i64 (k:Nat),.int .i64 ke,.pointer (some ⟨C,0,none⟩),.string left,.func (.func 55) #[] #[.pointer (some ⟨C+1,0,none⟩)],.pointer (some ⟨g14,0,none⟩),.pointer (some ⟨wo.heap.size,0,none⟩),.int .i64 x,.pointer (some ⟨g17,0,none⟩),u 18,u 19,u 20,u 21,u 22,u 23,u 24,u 25,u 26,u 27,u 28,u 29,u 30,u 31,u 32,u 33,u 34,u 35,u 36,u 37,u 38,u 39,u 40,u 41,u 42,u 43,u 44,u 45,u 46,u 47,u 48,u 49,u 50,u 51,u 52,u 53,u 54,u 55,u 56,u 57,u 58,u 59,u 60,u 61,u 62,u 63,u 64,u 65,.int .i64 (turn:Nat),.bool true,u 68,u 69,.func (.func 55) #[] #[.pointer (some ⟨C+1,0,none⟩)],.int .i64 x,.agg #[.string vb,.string nm,v],u 73,u 74,u 75,u 76,u 77,u 78,u 79,u 80,u 81,u 82,u 83,u 84,u 85,u 86,u 87,u 88,u 89,u 90,u 91,u 92,u 93,u 94,u 95,u 96,u 97,u 98,u 99,u 100,u 101,u 102,u 103,u 104,u 105,u 106,u 107,u 108,u 109,u 110,u 111,u 112,u 113,u 114],defers:=[] })→K a1 W1):=hK
   have HB:Hid (wo.heap.size+3≤Wx.heap.size):=by
    show _≤_
    omega
   rw [Uy]
   clear hK hAg hs hb1 hb2 hi5 hbt hz5 hg5 q1 q2 q3 q4 q5 c14 htd
   generalize s.ags.length=m at *
   generalize s.vb=vb at *
   generalize s.nm=nm at *
   gi_wp2
   refine HK.out _ _ (grow1 _ _) ⟨Wx.heap.size,HB.out,fun x vb2 nm2 u2 e=>?_⟩
   have e1:=congrArg (fun z:Array Value=>z[0]?) e
   have e2:=congrArg (fun z:Array Value=>z[1]?) e
   simp at e1 e2
   obtain⟨rfl,rfl,rfl⟩:=e2
   subst e1
   exact⟨heap_alloc_new _ _,rfl⟩
  ·intro l2 t O base vs a1 Wb ht hI2 hb1 hb2 hob hIt hAs
   obtain⟨s,v,hs,hvs,hAg⟩:=hIt
   obtain⟨ab,c,rfl⟩:=hAg.args.form
   obtain⟨g17,hg17,hA17⟩:=hAs
   obtain⟨h17,rfl⟩:=hA17 _ _ _ _ hvs
   have HI2:Hid (AtI W5 wo.heap.size (t,O) Wb):=hI2
   have h5:=HW5.out
   have hac:=HAC.out
   have h9:=H9.out
   have hGb:w9.grownBy Wb none:=Zq h5.1 (by omega) hI2.1
   have hG5b:w5.grownBy Wb none:=Za h9.1 hGb
   have hkt:t<k:=by have:=HTb.out.1;omega
   obtain⟨B,off,v6,eab,hat⟩:∃B off v6,ab5=some ⟨B,off,none⟩∧StAt Wb B (off+t*3) s v6:=by
    have hst:=(HRv.out.1.kept0 hG5b).sts
    rw [HRv.out.2]at hst
    obtain⟨ab6,c6,e6,hrd⟩:=hst.reads
    injection e6 with e61 e62 e63
    subst e61
    obtain⟨B,off,v6,r1,r2,_⟩:=hrd Wb (grow0 _) t s hs
    exact⟨B,off,v6,r1,r2⟩
   subst eab
   obtain⟨ab7,c7,rfl⟩:=hat.a.form
   have HC:Hid (∀W,Wb.grownBy W none→Calls Tryz.prog 14 #[.agg #[.string s.vb,.string s.nm,.slice ab s.ags.length c],.agg #[.string s.vb,.string s.nm,.slice ab7 s.ags.length c7]] W fun e w'=>e=.returned (.bool true)∧W.grownBy w' none):=fun W hg=>HSm.out W _ _ s (List.mem_of_getElem? hs) ⟨_,rfl,hAg.args.kept hg⟩ ⟨_,rfl,hat.a.kept hg⟩
   have h11:Wb.heap[C]?=some (.cells #[.slice (some ⟨B,off,none⟩) k c5] 51 (0,0)):=(hGb.block _ (Zg h9.2.2.1) (by simp)).trans h9.2.2.1
   have hA9:=(h9.1.block _ (Zg hA5.out.1) (by simp)).trans hA5.out.1
   have h3:Wb.heap[A]?=some (.cells #[.int .i64 lv] 3 (0,0)):=(hGb.block _ (Zg hA9) (by simp)).trans hA9
   have h14:Wb.heap[g14]?=some (.cells #[.int .i64 (turn:Nat)] 3 (0,0)):=by
    have h0:=(h5.2.1.block _ (Zg HS.out.2.2.2.1) (by simp)).trans HS.out.2.2.2.1
    exact(hI2.1.block _ (Zg h0) (fun e=>by injection e with e;omega)).trans h0
   have h15:=hI2.2
   simp only at h15
   have HY:Hid (∀W',Wb.grownBy W' none→W'.cell? ⟨wo.heap.size,0,none⟩=some (.int .i64 (t:Nat))∧W'.frozen? ⟨wo.heap.size,0,none⟩=false∧W'.cell? ⟨A,0,none⟩=some (.int .i64 lv)∧W'.cell? ⟨g14,0,none⟩=some (.int .i64 (turn:Nat))∧W'.heap[wo.heap.size]?=some (.cells #[.int .i64 (t:Nat)] 3 (0,0))):=fun W' hg=>by
    have k1:=(hg.block _ (Zg h15) (by simp)).trans h15
    have k2:=(hg.block _ (Zg h3) (by simp)).trans h3
    have k3:=(hg.block _ (Zg h14) (by simp)).trans h14
    exact⟨by simp [World.cell?,k1],by simp [World.frozen?,k1],by simp [World.cell?,k2],by simp [World.cell?,k3],k1⟩
   have c15:=(HY.out Wb (grow0 _)).1
   have c11:Wb.cell? ⟨C,0,none⟩=some (.slice (some ⟨B,off,none⟩) k c5):=by simp [World.cell?,h11]
   have d0:Wb.cell? ⟨g17,0,none⟩=some (.string s.vb):=by simp [World.cell?,h17,sObj]
   have d1:Wb.cell? ⟨g17,1,none⟩=some (.string s.nm):=by simp [World.cell?,h17,sObj]
   have d2:Wb.cell? ⟨g17,2,none⟩=some (.slice ab s.ags.length c):=by simp [World.cell?,h17,sObj]
   have e0:=hat.c0
   have e1:=hat.c1
   have e2:=hat.c2
   have hkI:(t:Int)<k:=by omega
   have hkG:decide ((k:Int)≤(t:Int))=false:=decide_eq_false (by omega)
   have hkN:¬k≤t:=by omega
   obtain⟨bv,hbv⟩:∃bv,(b || decide (t+1<T))=bv:=⟨_,rfl⟩
   have HBv:Hid ((b || decide (t+1<T))=bv):=hbv
   have HB:Hid (W5.heap.size=wo.heap.size+1∧W5.heap.size+2≤base∧base≤Wb.heap.size∧t<T∧g14<wo.heap.size∧A<wo.heap.size∧t<3001):=⟨h5.2.2.1,hb1,hb2,ht,h5.2.2.2.2,by omega,by have:=HSl.out;omega⟩
   have hcell:off+t*3+0=off+t*3:=rfl
   rw [hbv]
   clear hI2 h5 hac h9 hGb hG5b hat h11 hA9 h3 h14 h15 h17 hA17 hg17 hvs hAg hs ht hb1 hb2 hob hi5 hbt hz5 hg5 q1 q2 q3 q4 q5 c14 htd hbv hcell
   generalize s.ags.length=m at *
   generalize s.vb=vb at *
   generalize s.nm=nm at *
   have HS8:Hid (∀w',Wb.grownBy w' none→w'.cell? ⟨wo.heap.size,0,none⟩=some (.int .i64 (t:Nat))∧w'.cell? ⟨C,0,none⟩=some (.slice (some ⟨B,off,none⟩) k c5)∧w'.cell? ⟨g17,0,none⟩=some (.string vb)∧w'.cell? ⟨g17,1,none⟩=some (.string nm)∧w'.cell? ⟨g17,2,none⟩=some (.slice ab m c)∧w'.cell? ⟨B,off+t*3,none⟩=some (.string vb)∧w'.cell? ⟨B,off+t*3+1,none⟩=some (.string nm)∧w'.cell? ⟨B,off+t*3+2,none⟩=some (.slice ab7 m c7)):=fun w' h=>⟨Zd h c15 (by simp),Zd h c11 (by simp),Zd h d0 (by simp),Zd h d1 (by simp),Zd h d2 (by simp),Zd h e0 (by simp),Zd h e1 (by simp),Zd h e2 (by simp)⟩
   gi_wp2
   refine Xl (S:=fun w'=>w'.cell? ⟨wo.heap.size,0,none⟩=some (.int .i64 (t:Nat))∧w'.cell? ⟨C,0,none⟩=some (.slice (some ⟨B,off,none⟩) k c5)∧w'.cell? ⟨g17,0,none⟩=some (.string vb)∧w'.cell? ⟨g17,1,none⟩=some (.string nm)∧w'.cell? ⟨g17,2,none⟩=some (.slice ab m c)∧w'.cell? ⟨B,off+t*3,none⟩=some (.string vb)∧w'.cell? ⟨B,off+t*3+1,none⟩=some (.string nm)∧w'.cell? ⟨B,off+t*3+2,none⟩=some (.slice ab7 m c7)) (by kernel_rfl) (by kernel_rfl) (HS8.out _ (Zf (World.grownBy.refl _ _))) (fun hHeld=>?_)
   refine wpAnyH_take (i:=0) (v:=.int .i64 (t:Nat)) rfl (by kernel_rfl) (by kernel_rfl) (by kernel_rfl) (fun _ _ _ h=>absurd h.1 (by simp)) (Or.inl ⟨by kernel_rfl,?_⟩) (by assumption) ?_
   ·(intro w hSw;(try dsimp only at hSw);go_simp;try(first|with_reducible rfl|(simp [*];done)|(simp;omega)))
   (try simp only [Act.put,List.getElem_toArray,List.getElem_cons_succ,List.getElem_cons_zero,List.setIfInBounds_toArray,List.set_cons_zero,List.set_cons_succ])
   refine wpAnyH_take (i:=1) (v:=.int .i64 (t:Nat)) rfl (by kernel_rfl) (by kernel_rfl) (by kernel_rfl) (fun _ _ _ h=>absurd h.1 (by simp)) (Or.inl ⟨by kernel_rfl,?_⟩) (by assumption) ?_
   ·(intro w hSw;(try dsimp only at hSw);go_simp;try(first|with_reducible rfl|(simp [*];done)|(simp;omega)))
   (try simp only [Act.put,List.getElem_toArray,List.getElem_cons_succ,List.getElem_cons_zero,List.setIfInBounds_toArray,List.set_cons_zero,List.set_cons_succ])
   refine wpAnyH_take (i:=2) (v:=.bool false) rfl (by kernel_rfl) (by kernel_rfl) (by kernel_rfl) (fun _ _ _ h=>absurd h.1 (by simp)) (Or.inl ⟨by kernel_rfl,?_⟩) (by assumption) ?_
   ·(intro w hSw;(try dsimp only at hSw);go_simp;try(first|with_reducible rfl|(simp [*];done)|(simp;omega)))
   (try simp only [Act.put,List.getElem_toArray,List.getElem_cons_succ,List.getElem_cons_zero,List.setIfInBounds_toArray,List.set_cons_zero,List.set_cons_succ])
   refine wpAnyH_take (i:=3) (v:=.bool false) rfl (by kernel_rfl) (by kernel_rfl) (by kernel_rfl) (fun _ _ _ h=>absurd h.1 (by simp)) (Or.inl ⟨by kernel_rfl,?_⟩) (by assumption) ?_
   ·(intro w hSw;(try dsimp only at hSw);go_simp;try(first|with_reducible rfl|(simp [*];done)|(simp;omega)))
   (try simp only [Act.put,List.getElem_toArray,List.getElem_cons_succ,List.getElem_cons_zero,List.setIfInBounds_toArray,List.set_cons_zero,List.set_cons_succ])
   refine wpAnyH_take (i:=4) (v:=.int .i64 (t:Nat)) rfl (by kernel_rfl) (by kernel_rfl) (by kernel_rfl) (fun _ _ _ h=>absurd h.1 (by simp)) (Or.inl ⟨by kernel_rfl,?_⟩) (by assumption) ?_
   ·(intro w hSw;(try dsimp only at hSw);go_simp;try(first|with_reducible rfl|(simp [*];done)|(simp;omega)))
   (try simp only [Act.put,List.getElem_toArray,List.getElem_cons_succ,List.getElem_cons_zero,List.setIfInBounds_toArray,List.set_cons_zero,List.set_cons_succ])
   refine wpAnyH_take (i:=5) (v:=.slice (some ⟨B,off,none⟩) k c5) rfl (by kernel_rfl) (by kernel_rfl) (by kernel_rfl) (fun _ _ _ h=>absurd h.1 (by simp)) (Or.inl ⟨by kernel_rfl,?_⟩) (by assumption) ?_
   ·(intro w hSw;(try dsimp only at hSw);go_simp;try(first|with_reducible rfl|(simp [*];done)|(simp;omega)))
   (try simp only [Act.put,List.getElem_toArray,List.getElem_cons_succ,List.getElem_cons_zero,List.setIfInBounds_toArray,List.set_cons_zero,List.set_cons_succ])
   refine wpAnyH_take (i:=6) (v:=.int .i64 (k:Nat)) rfl (by kernel_rfl) (by kernel_rfl) (by kernel_rfl) (fun _ _ _ h=>absurd h.1 (by simp)) (Or.inl ⟨by kernel_rfl,?_⟩) (by assumption) ?_
   ·(intro w hSw;(try dsimp only at hSw);go_simp;try(first|with_reducible rfl|(simp [*];done)|(simp;omega)))
   (try simp only [Act.put,List.getElem_toArray,List.getElem_cons_succ,List.getElem_cons_zero,List.setIfInBounds_toArray,List.set_cons_zero,List.set_cons_succ])
   refine wpAnyH_take (i:=7) (v:=.bool false) rfl (by kernel_rfl) (by kernel_rfl) (by kernel_rfl) (fun _ _ _ h=>absurd h.1 (by simp)) (Or.inl ⟨by kernel_rfl,?_⟩) (by assumption) ?_
   ·(intro w hSw;(try dsimp only at hSw);go_simp;try(first|with_reducible rfl|(simp [*];done)|(simp;omega)))
   (try simp only [Act.put,List.getElem_toArray,List.getElem_cons_succ,List.getElem_cons_zero,List.setIfInBounds_toArray,List.set_cons_zero,List.set_cons_succ])
   refine wpAnyH_take (i:=8) (v:=.bool false) rfl (by kernel_rfl) (by kernel_rfl) (by kernel_rfl) (fun _ _ _ h=>absurd h.1 (by simp)) (Or.inl ⟨by kernel_rfl,?_⟩) (by assumption) ?_
   ·(intro w hSw;(try dsimp only at hSw);go_simp;try(first|with_reducible rfl|(simp [*];done)|(simp;omega)))
   (try simp only [Act.put,List.getElem_toArray,List.getElem_cons_succ,List.getElem_cons_zero,List.setIfInBounds_toArray,List.set_cons_zero,List.set_cons_succ])
   refine wpAnyH_take (i:=9) (v:=.bool false) rfl (by kernel_rfl) (by kernel_rfl) (by kernel_rfl) (fun _ _ _ h=>absurd h.1 (by simp)) (Or.inl ⟨by kernel_rfl,?_⟩) (by assumption) ?_
   ·(intro w hSw;(try dsimp only at hSw);go_simp;try(first|with_reducible rfl|(simp [*];done)|(simp;omega)))
   (try simp only [Act.put,List.getElem_toArray,List.getElem_cons_succ,List.getElem_cons_zero,List.setIfInBounds_toArray,List.set_cons_zero,List.set_cons_succ])
   refine wpAnyH_take (i:=10) (v:=.agg #[.string vb,.string nm,.slice ab m c]) rfl (by kernel_rfl) (by kernel_rfl) (by kernel_rfl) (fun _ _ _ h=>absurd h.1 (by simp)) (Or.inl ⟨by kernel_rfl,?_⟩) (by assumption) ?_
   ·(intro w hSw;(try dsimp only at hSw);go_simp;try(first|with_reducible rfl|(simp [*];done)|(simp;omega)))
   (try simp only [Act.put,List.getElem_toArray,List.getElem_cons_succ,List.getElem_cons_zero,List.setIfInBounds_toArray,List.set_cons_zero,List.set_cons_succ])
   refine wpAnyH_take (i:=11) (v:=.slice (some ⟨B,off,none⟩) k c5) rfl (by kernel_rfl) (by kernel_rfl) (by kernel_rfl) (fun _ _ _ h=>absurd h.1 (by simp)) (Or.inl ⟨by kernel_rfl,?_⟩) (by assumption) ?_
   ·(intro w hSw;(try dsimp only at hSw);go_simp;try(first|with_reducible rfl|(simp [*];done)|(simp;omega)))
   (try simp only [Act.put,List.getElem_toArray,List.getElem_cons_succ,List.getElem_cons_zero,List.setIfInBounds_toArray,List.set_cons_zero,List.set_cons_succ])
   refine wpAnyH_take (i:=12) (v:=.int .i64 (t:Nat)) rfl (by kernel_rfl) (by kernel_rfl) (by kernel_rfl) (fun _ _ _ h=>absurd h.1 (by simp)) (Or.inl ⟨by kernel_rfl,?_⟩) (by assumption) ?_
   ·(intro w hSw;(try dsimp only at hSw);go_simp;try(first|with_reducible rfl|(simp [*];done)|(simp;omega)))
   (try simp only [Act.put,List.getElem_toArray,List.getElem_cons_succ,List.getElem_cons_zero,List.setIfInBounds_toArray,List.set_cons_zero,List.set_cons_succ])
   refine wpAnyH_take (i:=13) (v:=.pointer (some ⟨B,off+t*3,none⟩)) rfl (by kernel_rfl) (by kernel_rfl) (by kernel_rfl) (fun _ _ _ h=>absurd h.1 (by simp)) (Or.inl ⟨by kernel_rfl,?_⟩) (by assumption) ?_
   ·(intro w hSw;(try dsimp only at hSw);go_simp;try(first|with_reducible rfl|(simp [*];done)|(simp;omega)))
   (try simp only [Act.put,List.getElem_toArray,List.getElem_cons_succ,List.getElem_cons_zero,List.setIfInBounds_toArray,List.set_cons_zero,List.set_cons_succ])
   refine wpAnyH_take (i:=14) (v:=.agg #[.string vb,.string nm,.slice ab7 m c7]) rfl (by kernel_rfl) (by kernel_rfl) (by kernel_rfl) (fun _ _ _ h=>absurd h.1 (by simp)) (Or.inl ⟨by kernel_rfl,?_⟩) (by assumption) ?_
   ·(intro w hSw;(try dsimp only at hSw);go_simp;try(first|with_reducible rfl|(simp [*];done)|(simp;omega)))
   (try simp only [Act.put,List.getElem_toArray,List.getElem_cons_succ,List.getElem_cons_zero,List.setIfInBounds_toArray,List.set_cons_zero,List.set_cons_succ])
   refine wpAnyH_ready (rs:=[15]) (by kernel_rfl) (by simp) ?_
   refine AllReadyH.cons rfl (fun K hK=>?_) AllReadyH.nil
   (try simp only [Act.put,List.getElem_toArray,List.getElem_cons_succ,List.getElem_cons_zero,List.setIfInBounds_toArray,List.set_cons_zero,List.set_cons_succ])
   go_simp
   refine(HC.out _ (Zf (grow0 _))).mono ?_
   rintro e w3 ⟨rfl,g3⟩
   have G3:Wb.grownBy w3 none:=Zj g3
   have hS3:=HS8.out w3 G3
   simp only []
   refine hK.out _ _ hS3 (fun hHeld2=>?_)
   clear hK K
   refine wpAnyH_take (i:=16) (v:=.bool false) rfl (by kernel_rfl) (by kernel_rfl) (by kernel_rfl) (fun _ _ _ h=>absurd h.1 (by simp)) (Or.inl ⟨by kernel_rfl,?_⟩) (by assumption) ?_
   ·(intro w hSw;(try dsimp only at hSw);go_simp;try(first|with_reducible rfl|(simp [*];done)|(simp;omega)))
   (try simp only [Act.put,List.getElem_toArray,List.getElem_cons_succ,List.getElem_cons_zero,List.setIfInBounds_toArray,List.set_cons_zero,List.set_cons_succ])
   refine wpAnyH_take (i:=17) (v:=.bool false) rfl (by kernel_rfl) (by kernel_rfl) (by kernel_rfl) (fun _ _ _ h=>absurd h.1 (by simp)) (Or.inl ⟨by kernel_rfl,?_⟩) (by assumption) ?_
   ·(intro w hSw;(try dsimp only at hSw);go_simp;try(first|with_reducible rfl|(simp [*];done)|(simp;omega)))
   (try simp only [Act.put,List.getElem_toArray,List.getElem_cons_succ,List.getElem_cons_zero,List.setIfInBounds_toArray,List.set_cons_zero,List.set_cons_succ])
   refine wpAnyH_done (by kernel_rfl) ⟨rfl,?_⟩ _
   obtain⟨y1,y2,y3,y4,y5⟩:=HY.out w3 G3
   have g4:w3.grownBy (w3.setCell ⟨wo.heap.size,0,none⟩ (.int .i64 ((t:Int)+1))) (some wo.heap.size):=Zc _ _ _ _
   have n4:(w3.setCell ⟨wo.heap.size,0,none⟩ (.int .i64 ((t:Int)+1))).heap[wo.heap.size]?=some (.cells #[.int .i64 ((t:Int)+1)] 3 (0,0)):=by
    simp [World.setCell,Array.getElem?_modify,y5]
   have z1:(w3.setCell ⟨wo.heap.size,0,none⟩ (.int .i64 ((t:Int)+1))).cell? ⟨wo.heap.size,0,none⟩=some (.int .i64 ((t:Int)+1)):=by simp [World.cell?,n4]
   have hBB:=HB.out
   have z3:(w3.setCell ⟨wo.heap.size,0,none⟩ (.int .i64 ((t:Int)+1))).cell? ⟨A,0,none⟩=some (.int .i64 lv):=Zd g4 y3 (fun e=>by injection e with e;omega)
   have z4:(w3.setCell ⟨wo.heap.size,0,none⟩ (.int .i64 ((t:Int)+1))).cell? ⟨g14,0,none⟩=some (.int .i64 (turn:Nat)):=Zd g4 y4 (fun e=>by injection e with e;omega)
   have FIN:Hid (∀act,roundG bv (some 2) W5.heap.size base (fun _=>False) (AtI W5 wo.heap.size) (t+1) O Wb (if bv then .normal else .exit 2) act (w3.setCell ⟨wo.heap.size,0,none⟩ (.int .i64 ((t:Int)+1)))):=by
    intro act
    have hs3:=G3.size
    have hs4:=g4.size
    refine⟨by cases bv<;>rfl,fun _=>False,⟨Za (Za HI2.out.1 (Xk G3)) g4,n4⟩,by omega,fun i hi hib hO=>?_,fun r e=>e.elim⟩
    have hi3:W5.heap.size≤i:=by
     rcases hi with h|h
     ·exact h
     ·exact h.elim
    rw [g4.block i (by omega) (fun e=>by injection e with e;omega),G3.block i (by omega) (by simp)]
   have htI:(t:Int)≤3001:=by omega
   have HQv:Hid ((turn=0→(((t:Int)+1) == lv)=!bv)∧(turn=1→bv=true)):=by
    have h1:=HTb.out
    have h2:=HBv.out
    refine⟨fun h0=>?_,fun h0=>?_⟩
    ·cases hb:b with
     |true =>
      have h3:=h1.2.2.2.2 hb h0 t (by omega)
      rw [hb]at h2
      rw [←h2,beq_eq_false_iff_ne.2 (fun e=>h3 e.symm)]
      rfl
     |false =>
      obtain⟨_,h4⟩:=h1.2.2.2.1 hb
      rw [hb,Bool.false_or]at h2
      rw [←h2,h4]
      by_cases hc:t+1<T
      ·rw [decide_eq_true hc,beq_eq_false_iff_ne.2 (by omega)]
       rfl
      ·rw [decide_eq_false hc,beq_iff_eq.2 (by omega)]
       rfl
    ·cases hb:b with
     |true =>
      rw [hb]at h2
      exact h2.symm
     |false =>
      have:=(h1.2.2.2.1 hb).1
      omega
   clear n4 g4 hBB y3 y4 y5 hS3 hHeld hHeld2 c15 c11 d0 d1 d2 e0 e1 e2 hkG hkN g3 G3
   rcases hturn with rfl|rfl
   ·have hq:=HQv.out.1 rfl
    cases bv
    ·gi_wp2
     exact FIN.out _
    ·gi_wp2
     exact FIN.out _
   ·obtain rfl:bv=true:=HQv.out.2 rfl
    gi_wp2
    exact FIN.out _
  ·intro D O Wx hD hI2 hob2 hDd hoD
   have h5:=HW5.out
   have hac:=HAC.out
   have h9:=H9.out
   have hGx:w9.grownBy Wx none:=Zq h5.1 (by omega) hI2.1
   have h11:Wx.heap[C]?=some (.cells #[.slice ab5 k c5] 51 (0,0)):=(hGx.block _ (Zg h9.2.2.1) (by simp)).trans h9.2.2.1
   have hA9:=(h9.1.block _ (Zg hA5.out.1) (by simp)).trans hA5.out.1
   have h3:Wx.heap[A]?=some (.cells #[.int .i64 lv] 3 (0,0)):=(hGx.block _ (Zg hA9) (by simp)).trans hA9
   have h14:Wx.heap[g14]?=some (.cells #[.int .i64 (turn:Nat)] 3 (0,0)):=by
    have h0:=(h5.2.1.block _ (Zg HS.out.2.2.2.1) (by simp)).trans HS.out.2.2.2.1
    exact(hI2.1.block _ (Zg h0) (fun e=>by injection e with e;omega)).trans h0
   have h15:=hI2.2
   simp only at h15
   have hws:=hI2.1.size
   have x15:Wx.cell? ⟨wo.heap.size,0,none⟩=some (.int .i64 (T:Nat)):=by simp [World.cell?,h15]
   have x11:Wx.cell? ⟨C,0,none⟩=some (.slice ab5 k c5):=by simp [World.cell?,h11]
   have x3:Wx.cell? ⟨A,0,none⟩=some (.int .i64 lv):=by simp [World.cell?,h3]
   have x14:Wx.cell? ⟨g14,0,none⟩=some (.int .i64 (turn:Nat)):=by simp [World.cell?,h14]
   have HDn:Hid (LpS w9 (turn+1) Wx.heap.size (D::Ds) (Wx.alloc (.cells #[.int .i64 ((turn:Int)+1)] 3))):=by
    obtain⟨r1,r2,r3,r4,r5⟩:=HS.out
    refine⟨List.nodup_cons.2 ⟨fun hm=>?_,r1⟩,Za hGx (grow1 _ _),by omega,heap_alloc_new _ _,fun D' hD'=>?_⟩
    ·have:=Zg (r5 D hm).2
     omega
    ·rcases List.mem_cons.1 hD' with rfl|hm
     ·exact⟨by omega,((grow1 _ _).block _ (Zg hDd) (by simp)).trans hDd⟩
     ·obtain⟨s1,s2⟩:=r5 D' hm
      have s3:=(h5.2.1.block _ (Zg s2) (by simp)).trans s2
      have s4:=(hI2.1.block _ (Zg s3) (fun e=>by injection e with e;have:=Zg s2;omega)).trans s3
      exact⟨s1,((grow1 _ _).block _ (Zg s4) (by simp)).trans s4⟩
   have hTk:=HTb.out
   have htI:(turn:Int)≤1:=by omega
   clear h5 hac h9 hGx h11 hA9 h3 h14 h15 hI2 hob2 hDd hoD hi5 hbt hz5 hg5 q1 q2 q3 q4 q5 c14 htd hws hD
   by_cases hTe:T=k
   ·have hne:((T:Int) != (k:Int))=false:=by rw [hTe];simp
    subst hTe
    clear hTk
    cases b with
    |true =>
     rw [if_pos rfl]
     go_wp2_with fail
     all_goals exact Handed.intro kk (by omega) (hJ2 _ _ _ ⟨turn+1,Wx.heap.size,D::Ds,_,rfl,rfl,by have:=HKK.out;omega,HDn.out⟩)
    |false =>
     rw [if_neg (by simp)]
     show Code.wpIn _ _ _ (Code.exit 2) _ _ _
     gi_wp2
     go_wp2_with fail
     all_goals exact Handed.intro kk (by omega) (hJ2 _ _ _ ⟨turn+1,Wx.heap.size,D::Ds,_,rfl,rfl,by have:=HKK.out;omega,HDn.out⟩)
   ·have hne:((T:Int) != (k:Int))=true:=by
      rw [bne_iff_ne]
      omega
    have hbf:b=false:=by
     cases hb:b with
     |true=>exact absurd (hTk.2.1 hb) hTe
     |false=>rfl
    subst hbf
    obtain⟨rfl,hlv⟩:=hTk.2.2.2.1 rfl
    have hlq:((T:Int) != lv)=false:=by
     rw [hlv]
     simp
    clear hTk hlv
    rw [if_neg (by simp)]
    show Code.wpIn _ _ _ (Code.exit 2) _ _ _
    gi_wp2
    go_wp2_with fail
    all_goals exact Handed.intro kk (by omega) (hJ2 _ _ _ ⟨0+1,Wx.heap.size,D::Ds,_,rfl,rfl,by have:=HKK.out;omega,HDn.out⟩)
theorem ZcO (s:ByteArray) (lv:Int) (hm:s.size≤maxLen) (w:World) (ht:Tab w) (he:Errs w) :
    Calls Tryz.prog 6 #[.string s,.int .i64 lv] w fun e w'=>e=.returned (.bool true)∧w.grownBy w' none:=by
 by_cases h1:s.size≤6000
 ·have hL:s.data.toList.length≤6000:=by
    rw [Array.length_toList]
    exact h1
  have h:=Zb8 s.data.toList hL lv w ht he
  rw [bA_of]at h
  exact h
 ·by_cases h2:s.size≤1048576
  ·exact Zfd s lv (by omega) h2 w ht he
  ·exact ZdP s lv (by omega) hm w ht he
end Go.Proofs.YtdcadiaeaclpgaaGreatDoor
