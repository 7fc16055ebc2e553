/- The program's statement. -/
import Derived.Test.YtdcadiaeaclpgaaGreatDoorBunSrl
import Derived.Deep.RegionLaw
import Derived.Deep.RegionHeld3
import Derived.Test.YtdcadiaeaclpgaaGreatDoorBunSra
import Derived.Test.YtdcadiaeaclpgaaGreatDoorBunScs
namespace Go.Proofs.YtdcadiaeaclpgaaGreatDoor
open Go Go.RowKit Go.Lib Go.Sort
set_option linter.unusedVariables false
set_option linter.unusedSimpArgs false
set_option maxHeartbeats 6400000
set_option maxRecDepth 1000000
theorem XD (L:List UInt8) (hL:L.length≤20000) (w:World) (he:Errs w) :
    Calls Tryz.prog 46 #[.string (bA L)] w fun e w'=>stA L w' w.heap.size e∧w.grownBy w' none:=by
 have hmf:∀(fn:Fn) (first cap:Array Value) (w:World),(Instr.makeFunc fn first cap).run Tryz.prog w=.ok (.func fn first cap) w:=fun _ _ _ _=>rfl
 have hm1:=Ya
 have hm2:=Yy
 have HEr:Hid (Errs w):=he
 have HTk:Hid (∀(M:List UInt8) (u:Bool) (wx:World),M.length≤20000→SW w wx M u→Calls Tryz.prog 68 #[.pointer (some ⟨w.heap.size+1,0,none⟩),.pointer (some ⟨w.heap.size+2,0,none⟩)] wx fun e w'=>∃A B f w1,e=.returned (.string (bA A))∧CutN M A B f∧wx.grownBy w1 none∧w'=(w1.setCell ⟨w.heap.size+1,0,none⟩ (.string (bA B))).setCell ⟨w.heap.size+2,0,none⟩ (.bool f)):=fun M u wx hM h=>by
  refine(Ze7 M hM (w.heap.size+1) (w.heap.size+2) (by omega) u wx h.s h.f).mono ?_
  rintro e w' ⟨A,B,f,w1,h1,h2,h3,h4⟩
  exact⟨A,B,f,w1,h1,h2.n hM,h3,h4⟩
 have HS0:Hid (SW w (((w.alloc stZ).alloc (.cells #[.string (bA L)] 9)).alloc (.cells #[.bool true] 4)) L true):=by
  refine⟨?_,?_,?_,grow3 _ _ _ _⟩
  ·exact((grow2 (w.alloc stZ) _ _).block _ (by simp) (by simp)).trans (heap_alloc_new _ _)
  ·have h:=Zx (w.alloc stZ) (.cells #[.string (bA L)] 9) (.cells #[.bool true] 4)
   have e:(w.alloc stZ).heap.size=w.heap.size+1:=by simp
   rw [e]at h
   exact h
  ·have h:=heap_alloc_new ((w.alloc stZ).alloc (.cells #[.string (bA L)] 9)) (.cells #[.bool true] 4)
   have e:((w.alloc stZ).alloc (.cells #[.string (bA L)] 9)).heap.size=w.heap.size+2:=by simp
   rw [e]at h
   exact h
 have HL20:Hid (L.length≤20000):=hL
 obtain⟨A0,hA0⟩:∃A0,stU L=A0:=⟨_,rfl⟩
 have HA0:Hid (stU L=A0):=hA0
 clear he hL hA0
 go_enter Tryz.func46,Tryz.ntmps46
 generalize hc3:Code.region 3 _ _=c3
 generalize hc4:Code.region 4 _ _=c4
 generalize hc7:Code.region 7 _ _=c7
 generalize hcl:Code.block 0 _=cl
 go_wp2_with fail
 change Code.wp _ _ _ _ (((w.alloc stZ).alloc (.cells #[.string (bA L)] 9)).alloc (.cells #[.bool true] 4))
 generalize(((w.alloc stZ).alloc (.cells #[.string (bA L)] 9)).alloc (.cells #[.bool true] 4))=wx at *
 subst hc3
 go_wp2_with fail
 refine(HTk.out L true wx HL20.out HS0.out).mono ?_
 rintro e w2 ⟨A,B,f,w1,rfl,hcut,hg,rfl⟩
 have HS1:=HS0.out.took (B:=B) (f':=f) hg
 generalize(w1.setCell ⟨w.heap.size+1,0,none⟩ (.string (bA B))).setCell ⟨w.heap.size+2,0,none⟩ (.bool f)=w2 at *
 have HS2:Hid (SW w (w2.alloc (.cells #[.string (bA A),.string eS,.slice none 0 0] 24)) B f):=HS1.kept (grow1 _ _)
 have HD2:Hid (DB (w2.alloc (.cells #[.string (bA A),.string eS,.slice none 0 0] 24)) w2.heap.size (bA A) eS (.slice none 0 0)):=heap_alloc_new _ _
 have HB2:Hid (w.heap.size+2<w2.heap.size):=Zg HS1.f
 have HC:Hid (CutN L A B f):=hcut
 clear hg hcut HS1 HS0
 go_wp2_with fail
 change Code.wp _ _ _ _ (w2.alloc (.cells #[.string (bA A),.string eS,.slice none 0 0] 24))
 generalize w2.alloc (.cells #[.string (bA A),.string eS,.slice none 0 0] 24)=w3 at *
 generalize w2.heap.size=B3 at *
 subst hc4
 have HStU:Hid (A0=if isVb (bA A)=true then(if((remU f B).headD []).head?=some 61 then(if isNm (bA ((remU f B).headD []).tail)=true then stM (bA A) (bA ((remU f B).headD []).tail) (finG [] (remU f B).tail)else none)else stM (bA A) eS (finG [] (remU f B)))else none):=by
  show A0=_
  rw [←HA0.out]
  unfold stU stM
  rw [HC.out.pcs]
 have HVb:=UE (bA A) (by rw [Zo];have:=HC.out.a;unfold maxLen;omega)
 have d0:=HD2.out.c0
 cases hv:isVb (bA A)
 ·have HN:Hid (∀w' base,stA L w' base upE):=fun w' base=>Vw (by rw [HA0.out,HStU.out,hv];rfl) _ _
  rw [hv]at HVb
  clear hv HStU
  go_wp2_with fail
  refine(HVb _).mono ?_
  rintro e w4 ⟨rfl,rfl⟩
  go_wp2_with fail
  refine(hm2 _).mono ?_
  rintro e w5 ⟨rfl,rfl⟩
  go_wp2_with fail
  simp only [bodyPost]
  exact⟨trivial,HN.out _ _,HS2.out.g⟩
 rw [hv]at HVb HStU
 have HPre:=Zcp (bA B) (by rw [Zo];have:=HC.out.b;unfold maxLen;omega) 61
 rw [JY]at HPre
 have s0:w3.cell? ⟨w.heap.size+1,0,none⟩=some (.string (bA B)):=by
  have:=HS2.out.s
  simp only [World.cell?,this]
  rfl
 clear hv
 by_cases hb:B.head?=some 61
 case' neg =>
  have HFin:Hid (A0=stM (bA A) eS (finG [] (remU f B))):=by
   show A0=_
   rw [HStU.out,if_pos (by trivial),if_neg (fun h=>hb (HC.out.head.1 h))]
  rw [decide_eq_false hb]at HPre
  have HMl:Hid (B.length≤20000):=HC.out.b
  clear hb HStU
  go_wp2_with fail
  refine(HVb _).mono ?_
  rintro e w4 ⟨rfl,hw4⟩
  obtain rfl:=hw4.symm
  clear hw4
  go_wp2_with fail
  refine(hm1 _).mono ?_
  rintro e w5 ⟨rfl,hw5⟩
  obtain rfl:=hw5.symm
  clear hw5
  go_wp2_with fail
  refine(HPre _).mono ?_
  rintro e w5 ⟨rfl,hw5⟩
  obtain rfl:=hw5.symm
  clear hw5
  go_wp2_with fail
  obtain⟨nm,HDz,HFz⟩:∃nm,Hid (DB w3 B3 (bA A) nm (.slice none 0 0))∧Hid (A0=stM (bA A) nm (finG [] (remU f B))):=⟨eS,HD2,HFin⟩
  obtain⟨wz,hwz⟩:∃wz,wz=w3:=⟨_,rfl⟩
  subst hwz
  obtain⟨M0,hM0⟩:∃M0,M0=B:=⟨_,rfl⟩
  subst hM0
  obtain⟨f0,hf0⟩:∃f0,f0=f:=⟨_,rfl⟩
  subst hf0
  have HSz:=HS2
  clear HFin HD2 HS2 HPre HVb d0 s0
 case' pos =>
  obtain rfl:f=true:=by
   cases hf:f
   ·rw [HC.out.no hf]at hb
    cases hb
   ·rfl
  have HHd:Hid (((remU true B).headD []).head?=some 61):=HC.out.head.2 hb
  rw [decide_eq_true hb]at HPre
  have HBl:Hid (B.length≤20000):=HC.out.b
  clear hb
  go_wp2_with fail
  refine(HVb _).mono ?_
  rintro e w4 ⟨rfl,hw4⟩
  obtain rfl:=hw4.symm
  clear hw4
  go_wp2_with fail
  refine(hm1 _).mono ?_
  rintro e w5 ⟨rfl,hw5⟩
  obtain rfl:=hw5.symm
  clear hw5
  go_wp2_with fail
  refine(HPre _).mono ?_
  rintro e w5 ⟨rfl,hw5⟩
  obtain rfl:=hw5.symm
  clear hw5 s0 HPre HVb d0
  go_wp2_with fail
  refine(HTk.out B true w3 HBl.out HS2.out).mono ?_
  rintro e w4 ⟨A2,B2,f2,w5,rfl,hcut,hg,rfl⟩
  have HS4:Hid (SW w ((w5.setCell ⟨w.heap.size+1,0,none⟩ (.string (bA B2))).setCell ⟨w.heap.size+2,0,none⟩ (.bool f2)) B2 f2):=HS2.out.took hg
  have HD4:Hid (DB ((w5.setCell ⟨w.heap.size+1,0,none⟩ (.string (bA B2))).setCell ⟨w.heap.size+2,0,none⟩ (.bool f2)) B3 (bA A) eS (.slice none 0 0)):=HD2.out.took hg (by have:=HB2.out;omega) (by have:=HB2.out;omega)
  generalize(w5.setCell ⟨w.heap.size+1,0,none⟩ (.string (bA B2))).setCell ⟨w.heap.size+2,0,none⟩ (.bool f2)=w6 at *
  have HC2:Hid (CutN B A2 B2 f2):=hcut
  have HRem:Hid (remU true B=A2::remU f2 B2):=hcut.pcs
  have hA2h:A2.head?=some 61:=by
   have:=HHd.out
   rw [HRem.out]at this
   exact this
  have HTr:=ZaR (bA A2) (by rw [Zo];have:=hcut.a;unfold maxLen;omega) 61
  rw [Zd9,if_pos hA2h]at HTr
  have HNm:=Y7 (bA A2.tail) (by rw [Zo,List.length_tail];have:=hcut.a;unfold maxLen;omega)
  have HStU2:Hid (A0=if isNm (bA A2.tail)=true then stM (bA A) (bA A2.tail) (finG [] (remU f2 B2))else none):=by
   show A0=_
   rw [HStU.out,if_pos (by trivial),if_pos HHd.out,HRem.out]
   rfl
  have d1:=HD4.out.c1
  have e1:=HD4.out.fr 1
  have HS7:Hid (SW w (w6.setCell ⟨B3,1,none⟩ (.string (bA A2.tail))) B2 f2):=HS4.out.keptB HB2.out (Zc _ _ _ _) (Zb HS4.out.g (by have:=HB2.out;omega))
  have HD7:Hid (DB (w6.setCell ⟨B3,1,none⟩ (.string (bA A2.tail))) B3 (bA A) (bA A2.tail) (.slice none 0 0)):=HD4.out.put1 _
  clear hg hcut HS2 HD2 HStU HHd HRem hA2h HBl
  go_wp2_with fail
  refine(HTr _).mono ?_
  rintro e w7 ⟨rfl,hw7⟩
  obtain rfl:=hw7.symm
  clear hw7
  go_wp2_with fail
  change Code.wp _ _ _ _ (w6.setCell ⟨B3,1,none⟩ (.string (bA A2.tail)))
  clear d1 e1 HS4 HD4 HTr
  generalize w6.setCell ⟨B3,1,none⟩ (.string (bA A2.tail))=wz at *
  subst hc7
  have d1:=HD7.out.c1
  cases hn:isNm (bA A2.tail)
  ·have HN:Hid (∀w' base,stA L w' base upE):=fun w' base=>Vw (by rw [HA0.out,HStU2.out,hn];rfl) _ _
   rw [hn]at HNm
   clear hn HStU2
   go_wp2_with fail
   refine(HNm _).mono ?_
   rintro e w8 ⟨rfl,rfl⟩
   go_wp2_with fail
   refine(hm2 _).mono ?_
   rintro e w9 ⟨rfl,rfl⟩
   go_wp2_with fail
   simp only [bodyPost]
   exact⟨trivial,HN.out _ _,HS7.out.g⟩
  rw [hn]at HNm HStU2
  have HFin:Hid (A0=stM (bA A) (bA A2.tail) (finG [] (remU f2 B2))):=by
   show A0=_
   rw [HStU2.out,if_pos (by trivial)]
  have HMl:Hid (B2.length≤20000):=HC2.out.b
  clear hn HStU2
  go_wp2_with fail
  refine(HNm _).mono ?_
  rintro e w8 ⟨rfl,hw8⟩
  obtain rfl:=hw8.symm
  clear hw8
  go_wp2_with fail
  refine(hm1 _).mono ?_
  rintro e w9 ⟨rfl,hw9⟩
  obtain rfl:=hw9.symm
  clear hw9
  go_wp2_with fail
  obtain⟨nm,HDz,HFz⟩:∃nm,Hid (DB wz B3 (bA A) nm (.slice none 0 0))∧Hid (A0=stM (bA A) nm (finG [] (remU f2 B2))):=⟨_,HD7,HFin⟩
  obtain⟨M0,hM0⟩:∃M0,M0=B2:=⟨_,rfl⟩
  subst hM0
  obtain⟨f0,hf0⟩:∃f0,f0=f2:=⟨_,rfl⟩
  subst hf0
  have HSz:=HS7
  clear HFin HD7 HS7 HNm d1 HC2
 all_goals (
  subst hcl
  go_wp2_with fail
  have HRz:Hid (RowA wz (B3+1) (.slice none 0 0) []):=RowA.nil _ _
  go_loopw [] (fun wr=>∃(M:List UInt8) (f:Bool) (P:List (Ag × Value)) (ab:Option Addr) (c:Nat),(M.length≤20000∧P.length≤64∧A0=stM (bA A) nm (finG (P.map (·.1)) (remU f M)))∧SW w wr M f∧DB wr B3 (bA A) nm (.slice ab P.length c)∧RowA wr (B3+1) (.slice ab P.length c) P) (fun wr=>match wr.cell? ⟨w.heap.size+2,0,none⟩,wr.cell? ⟨w.heap.size+1,0,none⟩with|some (.bool true),some (.string s)=>s.size+1|_,_=>0)
  case atStart=>exact⟨M0,f0,[],none,0,⟨HMl.out,by simp,HFz.out⟩,HSz.out,HDz.out,HRz.out⟩
  case round =>
   obtain⟨M,f,P,ab,c,⟨hM,hP,hF⟩,hS,hD,hR⟩:=hrel
   obtain⟨n,hn⟩:∃n,P.length=n:=⟨_,rfl⟩
   have HPn:Unit→P.length=n:=fun _=>hn
   rw [hn]at hP hD hR
   have HM:Hid (M.length≤20000):=hM
   have HF:Hid (A0=stM (bA A) nm (finG (P.map (·.1)) (remU f M))):=hF
   have HS:Hid (SW w wr M f):=hS
   have HD:Hid (DB wr B3 (bA A) nm (.slice ab n c)):=hD
   have HR:Hid (RowA wr (B3+1) (.slice ab n c) P):=hR
   have hnI:(n:Int)≤64:=by omega
   have hnN:n≤64:=hP
   have q0:wr.cell? ⟨w.heap.size+1+1,0,none⟩=some (.bool f):=by
    show wr.cell? ⟨w.heap.size+2,0,none⟩=_
    have:=hS.f
    simp only [World.cell?,this]
    rfl
   have q1:wr.cell? ⟨w.heap.size+1,0,none⟩=some (.string (bA M)):=by
    have:=hS.s
    simp only [World.cell?,this]
    rfl
   have k0:=hD.c0
   have k1:=hD.c1
   have k2:=hD.c2
   clear hM hF hS hD hR hn hP
   cases f
   ·have HF2:Hid (stU L=some ⟨bA A,nm,P.map (·.1)⟩):=by
      show _=_
      rw [HA0.out,HF.out]
      show stM _ _ (finG _ [])=_
      rw [Zbz (by rw [List.length_map,HPn ()];exact hnN)]
      rfl
    have r0:=HS.out.r
    have z0:wr.cell? ⟨w.heap.size,0,none⟩=some (.string eS):=by simp only [World.cell?,r0];rfl
    have z1:wr.cell? ⟨w.heap.size,1,none⟩=some (.string eS):=by simp only [World.cell?,r0];rfl
    have z2:wr.cell? ⟨w.heap.size,2,none⟩=some (.slice none 0 0):=by simp only [World.cell?,r0];rfl
    have y0:wr.frozen? ⟨w.heap.size,0,none⟩=false:=by simp only [World.frozen?,r0];rfl
    have y1:wr.frozen? ⟨w.heap.size,1,none⟩=false:=by simp only [World.frozen?,r0];rfl
    have y2:wr.frozen? ⟨w.heap.size,2,none⟩=false:=by simp only [World.frozen?,r0];rfl
    have H5:Hid ((((wr.setCell ⟨w.heap.size,0,none⟩ (.string (bA A))).setCell ⟨w.heap.size,1,none⟩ (.string nm)).setCell ⟨w.heap.size,2,none⟩ (.slice ab n c)).heap[w.heap.size]?=some (.cells #[.string (bA A),.string nm,.slice ab n c] 24)):=by
     show _=_
     simp [World.setCell,Array.getElem?_modify,r0]
    have HG5:Hid (w.grownBy (((wr.setCell ⟨w.heap.size,0,none⟩ (.string (bA A))).setCell ⟨w.heap.size,1,none⟩ (.string nm)).setCell ⟨w.heap.size,2,none⟩ (.slice ab n c)) none):=Zb (Zb (Zb HS.out.g (Nat.le_refl _)) (Nat.le_refl _)) (Nat.le_refl _)
    have HR5:Hid (RowA (((wr.setCell ⟨w.heap.size,0,none⟩ (.string (bA A))).setCell ⟨w.heap.size,1,none⟩ (.string nm)).setCell ⟨w.heap.size,2,none⟩ (.slice ab n c)) (B3+1) (.slice ab n c) P):=((HR.out.keptB (by have:=HB2.out;omega) (Zc _ _ _ _)).keptB (by have:=HB2.out;omega) (Zc _ _ _ _)).keptB (by have:=HB2.out;omega) (Zc _ _ _ _)
    clear r0
    go_wp2_with fail
    refine bodyPost_ret (Zcr rfl _ _ w.heap.size _ _ _ _ _ rfl H5.out) rfl ?_
    exact⟨Ze4 HF2.out (by rw [List.length_map];exact(HPn ()).symm) (HR5.out.told.mono (by have:=HB2.out;omega)),HG5.out⟩
   ·obtain⟨p,ps,hsp⟩:∃p ps,spl 32 M=p::ps:=by
      cases h:spl 32 M with
      |nil=>exact absurd h (X3 _ _)
      |cons p ps=>exact⟨p,ps,rfl⟩
    have HSp:Hid (spl 32 M=p::ps):=hsp
    have hp20:Hid (p.length≤20000):=Nat.le_trans (XS M p (by rw [hsp];simp)) HM.out
    have HF3:Hid (A0=stM (bA A) nm (finG (P.map (·.1)) (p::ps))):=by
     show A0=_
     rw [HF.out,←hsp]
     rfl
    clear hsp
    by_cases h64:n<64
    ·have h64I:(n:Int)<64:=by omega
     clear h64
     cases hag:agU p with
     |none =>
      have HN:Hid (∀w' base,stA L w' base upE):=fun w' base=>Vw (by rw [HA0.out,HF3.out,Za4 hag];rfl) _ _
      have HArg:Hid (∀W,w.grownBy W none→Calls Tryz.prog 73 #[.string (bA p)] W fun e w'=>e=upE∧W.grownBy w' none):=fun W hg=>(Vd p hp20.out W (HEr.out.kept hg)).mono fun e w' h=>by
       unfold agA at h
       rw [hag]at h
       exact h
      clear hag
      go_wp2_with fail
      refine(hm1 _).mono ?_
      rintro e w4 ⟨rfl,hw4⟩
      obtain rfl:=hw4.symm
      clear hw4
      go_wp2_with fail
      refine wp_region_held_drew (S:=fun w'=>w'.cell? ⟨B3,2,none⟩=some (.slice ab n c)) (by kernel_rfl) (by go_keep) (fun hHeld=>?_)
      refine wpAnyH_take (i:=0) (v:=.pointer (some ⟨B3,2,none⟩)) rfl (by kernel_rfl) (by kernel_rfl) (by kernel_rfl) (fun _ _ _ h=>h) (Or.inl ⟨by kernel_rfl,?_⟩) (by assumption) ?_
      ·(intro w hSw;(try dsimp only at hSw);go_simp;(try(first|with_reducible rfl|(simp [*];done))))
      (try simp only [Act.put,List.getElem_toArray,List.getElem_cons_succ,List.getElem_cons_zero,List.setIfInBounds_toArray,List.set_cons_zero,List.set_cons_succ])
      refine wpAnyH_take (i:=1) (v:=.slice ab n c) rfl (by kernel_rfl) (by kernel_rfl) (by kernel_rfl) (fun _ _ _ h=>h) (Or.inl ⟨by kernel_rfl,?_⟩) (by assumption) ?_
      ·(intro w hSw;(try dsimp only at hSw);go_simp;(try(first|with_reducible rfl|(simp [*];done))))
      (try simp only [Act.put,List.getElem_toArray,List.getElem_cons_succ,List.getElem_cons_zero,List.setIfInBounds_toArray,List.set_cons_zero,List.set_cons_succ])
      refine wpAnyH_take (i:=2) (v:=.func (.func 68) #[] #[.pointer (some ⟨w.heap.size+1,0,none⟩),.pointer (some ⟨w.heap.size+1+1,0,none⟩)]) rfl (by kernel_rfl) (by kernel_rfl) (by kernel_rfl) (fun _ _ _ h=>h) (Or.inl ⟨by kernel_rfl,?_⟩) (by assumption) ?_
      ·(intro w hSw;(try dsimp only at hSw);go_simp;(try(first|with_reducible rfl|(simp [*];done))))
      (try simp only [Act.put,List.getElem_toArray,List.getElem_cons_succ,List.getElem_cons_zero,List.setIfInBounds_toArray,List.set_cons_zero,List.set_cons_succ])
      refine wpAnyH_ready (rs:=[3]) (by kernel_rfl) (by simp) ?_
      refine AllReadyH.cons rfl (fun K hK=>?_) AllReadyH.nil
      (try simp only [Act.put,List.getElem_toArray,List.getElem_cons_succ,List.getElem_cons_zero,List.setIfInBounds_toArray,List.set_cons_zero,List.set_cons_succ])
      go_simp
      refine(HTk.out M true _ HM.out (HS.out.kept (Zf (World.grownBy.refl _ _)))).mono ?_
      rintro e wq ⟨A',B',f',w1',rfl,hcut,hg,rfl⟩
      have HGq:Hid (wr.grownBy w1' none):=Zj hg
      have hpA:=(List.cons.inj (HSp.out.symm.trans hcut.pcs)).1
      subst hpA
      have S5:Hid (SW w ((w1'.setCell ⟨w.heap.size+1,0,none⟩ (.string (bA B'))).setCell ⟨w.heap.size+2,0,none⟩ (.bool f')) B' f'):=HS.out.took HGq.out
      have D5:Hid (DB ((w1'.setCell ⟨w.heap.size+1,0,none⟩ (.string (bA B'))).setCell ⟨w.heap.size+2,0,none⟩ (.bool f')) B3 (bA A) nm (.slice ab n c)):=HD.out.took HGq.out (by have:=HB2.out;omega) (by have:=HB2.out;omega)
      generalize(w1'.setCell ⟨w.heap.size+1,0,none⟩ (.string (bA B'))).setCell ⟨w.heap.size+2,0,none⟩ (.bool f')=w5 at *
      clear hcut hg
      dsimp only
      refine hK.out _ _ D5.out.c2 (fun hHeld2=>?_)
      clear hK K
      refine wpAnyH_ready (rs:=[4]) (by kernel_rfl) (by simp) ?_
      refine AllReadyH.cons rfl (fun K hK=>?_) AllReadyH.nil
      (try simp only [Act.put,List.getElem_toArray,List.getElem_cons_succ,List.getElem_cons_zero,List.setIfInBounds_toArray,List.set_cons_zero,List.set_cons_succ])
      go_simp
      refine(HArg.out _ S5.out.g).mono ?_
      rintro e w6 ⟨rfl,hg6⟩
      have HG6:Hid (w.grownBy w6 none):=Za S5.out.g hg6
      clear hg6
      go_wp2_with fail
      simp only [bodyPost]
      exact⟨trivial,HN.out _ _,HG6.out⟩
     |some a =>
      have HArg:Hid (∀W,w.grownBy W none→Calls Tryz.prog 73 #[.string (bA p)] W fun e w'=>(∃ab n c,e=.returned (agv a (.slice ab n c))∧OwI w' W.heap.size (.slice ab n c) a.wd)∧W.grownBy w' none):=fun W hg=>(Vd p hp20.out W (HEr.out.kept hg)).mono fun e w' h=>by
       unfold agA at h
       rw [hag]at h
       exact h
      have HFn:Hid (∀u:Value,A0=stM (bA A) nm (finG ((P++[(a,u)]).map (·.1)) ps)):=fun u=>by
       rw [HF3.out,←Y0 hag]
       simp
      have HP1:Hid (∀u:Value,(P++[(a,u)]).length=n+1):=fun u=>by
       rw [List.length_append,HPn ()]
       rfl
      have HBr:Hid (B3<wr.heap.size):=Zg HD.out
      have hmM:(bA M).size=M.length:=Zo M
      clear hag
      go_wp2_with fail
      refine(hm1 _).mono ?_
      rintro e w4 ⟨rfl,hw4⟩
      obtain rfl:=hw4.symm
      clear hw4
      go_wp2_with fail
      go_region_law (first
       |(refine Y1 rfl _ _ rfl (B3+1) (.slice ab n c) P rfl (R6.out.kept0 (grow1 _ _)) a ab2 n2 c2 w6.heap.size rfl (heap_alloc_new _ _) (O6.out.kept0 (grow1 _ _)) (by rw [HPn ()];omega) (by have:=Zg D6.out;simp;omega) ?_
         intro v' w7 hR7 hg7
         obtain⟨ab3,c3,rfl⟩:=hR7.form
         rw [HP1.out]at hR7 ⊢
         have R7:Hid (RowA w7 (B3+1) (.slice ab3 (n+1) c3) (P++[(a,.slice ab2 n2 c2)])):=hR7
         have G7:Hid (w.grownBy w7 none):=Vb (Za S6.out.g (grow1 _ _)) (R6.out.kept0 (grow1 _ _)) (by have:=HB2.out;omega) hg7
         have S7:Hid (SW w w7 B' f'):=(S6.out.kept (grow1 _ _)).keptR (fun k hk=>(HR.out.ne (by have:=HB2.out;omega))) hg7 G7.out
         have D7:Hid (DB w7 B3 (bA A) nm (.slice ab n c)):=(D6.out.kept (grow1 _ _) (by simp)).kept hg7 (HR.out.ne (by omega))
         have k8:=D7.out.c2
         have y8:=D7.out.fr 2
         clear hR7 hg7)
       |(go_simp
         go_at_call 68
         refine(HTk.out M true _ HM.out (HS.out.kept (Zf (World.grownBy.refl _ _)))).mono ?_
         rintro e wq ⟨A',B',f',w1',rfl,hcut,hg,rfl⟩
         have HGq:Hid (wr.grownBy w1' none):=Zj hg
         have hpA:=(List.cons.inj (HSp.out.symm.trans hcut.pcs)).1
         have HRe:Hid (ps=remU f' B'):=(List.cons.inj (HSp.out.symm.trans hcut.pcs)).2
         have HCu:Hid (B'.length≤20000∧(f'=true→B'.length<M.length)):=⟨hcut.b,hcut.lt⟩
         subst hpA
         have S5:Hid (SW w ((w1'.setCell ⟨w.heap.size+1,0,none⟩ (.string (bA B'))).setCell ⟨w.heap.size+2,0,none⟩ (.bool f')) B' f'):=HS.out.took HGq.out
         have D5:Hid (DB ((w1'.setCell ⟨w.heap.size+1,0,none⟩ (.string (bA B'))).setCell ⟨w.heap.size+2,0,none⟩ (.bool f')) B3 (bA A) nm (.slice ab n c)):=HD.out.took HGq.out (by have:=HB2.out;omega) (by have:=HB2.out;omega)
         have R5:Hid (RowA ((w1'.setCell ⟨w.heap.size+1,0,none⟩ (.string (bA B'))).setCell ⟨w.heap.size+2,0,none⟩ (.bool f')) (B3+1) (.slice ab n c) P):=HR.out.took HGq.out (by have:=HB2.out;omega) (by have:=HB2.out;omega)
         generalize(w1'.setCell ⟨w.heap.size+1,0,none⟩ (.string (bA B'))).setCell ⟨w.heap.size+2,0,none⟩ (.bool f')=w5 at *
         have k5:=D5.out.c2
         clear hcut hg HGq
         dsimp only)
       |(go_simp
         go_at_call 73
         refine(HArg.out _ S5.out.g).mono ?_
         rintro e w6 ⟨⟨ab2,n2,c2,rfl,hO⟩,hg6⟩
         have S6:Hid (SW w w6 B' f'):=S5.out.kept hg6
         have D6:Hid (DB w6 B3 (bA A) nm (.slice ab n c)):=D5.out.kept hg6 (by simp)
         have R6:Hid (RowA w6 (B3+1) (.slice ab n c) P):=R5.out.kept0 hg6
         have O6:Hid (OwI w6 (B3+1) (.slice ab2 n2 c2) a.wd):=hO.mono (by have:=Zg D5.out;omega)
         have k6:=D6.out.c2
         have k7:=(D6.out.kept (grow1 w6 (.cells (agc a (.slice ab2 n2 c2)) 45)) (by simp)).c2
         clear hg6 hO
         dsimp only))
      all_goals (
       go_wp2_with fail
       have S8:SW w (w7.setCell ⟨B3,2,none⟩ (.slice ab3 (n+1) c3)) B' f':=S7.out.keptB HB2.out (Zc _ _ _ _) (Zb G7.out (by have:=HB2.out;omega))
       have D8:=D7.out.put2 (.slice ab3 (n+1) c3)
       have R8:RowA (w7.setCell ⟨B3,2,none⟩ (.slice ab3 (n+1) c3)) (B3+1) (.slice ab3 (n+1) c3) (P++[(a,.slice ab2 n2 c2)]):=R7.out.keptB (by omega) (Zc _ _ _ _)
       have m0:(w7.setCell ⟨B3,2,none⟩ (.slice ab3 (n+1) c3)).cell? ⟨w.heap.size+2,0,none⟩=some (.bool f'):=by
        have:=S8.f
        simp only [World.cell?,this]
        rfl
       have m1:(w7.setCell ⟨B3,2,none⟩ (.slice ab3 (n+1) c3)).cell? ⟨w.heap.size+1,0,none⟩=some (.string (bA B')):=by
        have:=S8.s
        simp only [World.cell?,this]
        rfl
       have q0':wr.cell? ⟨w.heap.size+2,0,none⟩=some (.bool true):=q0
       have hmB:(bA B').size=B'.length:=Zo B'
       refine⟨⟨B',f',P++[(a,.slice ab2 n2 c2)],ab3,c3,⟨HCu.out.1,by rw [HP1.out];omega,by rw [←HRe.out];exact HFn.out _⟩,S8,by rw [HP1.out];exact D8,by rw [HP1.out];exact R8⟩,?_⟩
       rw [m0,m1,q1,q0']
       cases f'
       ·exact Nat.succ_pos _
       ·have:=HCu.out.2 rfl
        show(bA B').size+1<(bA M).size+1
        omega)
    ·have h64I:decide ((n:Int)<64)=false:=decide_eq_false (by omega)
     have HN:Hid (∀w' base,stA L w' base upE):=fun w' base=>Vw (by rw [HA0.out,HF3.out,Zdr (by rw [List.length_map,HPn ()];omega)];rfl) _ _
     clear h64
     go_wp2_with fail
     refine(hm2 _).mono ?_
     rintro e w4 ⟨rfl,rfl⟩
     go_wp2_with fail
     simp only [bodyPost]
     exact⟨trivial,HN.out _ _,HS.out.g⟩)
theorem Fr.moved {w1 w2:World} {b:Nat} {v:Value} {L:List Int} (h:Fr w1 b v L) (hk:∀k,b≤k→w2.heap[k]?=w1.heap[k]?):Fr w2 b v L:=by
 rcases h with h|⟨B,off,c,cur,e,hb,hg,r⟩
 ·exact .inl h
 ·exact .inr ⟨B,off,c,cur,e,hb,(hk B hb).trans hg,r⟩
theorem AgsF.moved {w1 w2:World} {b:Nat} {v:Value} {G:List Ag} (h:AgsF w1 b v G) (hk:∀k,b≤k→w2.heap[k]?=w1.heap[k]?):AgsF w2 b v G:=by
 rcases h with h|⟨B,c,cur,e,h1,h2,h3,h4,h5,h6⟩
 ·exact .inl h
 ·refine .inr ⟨B,c,cur,e,h1,(hk B h1).trans h2,h3,h4,h5,fun j a hj=>?_⟩
  obtain⟨u,hu,hx⟩:=h6 j a hj
  exact⟨u,hu.moved hk,hx⟩
theorem AgsF.kept {w1 w2:World} {b:Nat} {v:Value} {G:List Ag} (h:AgsF w1 b v G) (hg:w1.grownBy w2 none):AgsF w2 b v G:=by
 rcases h with h|⟨B,c,cur,e,h1,h2,h3,h4,h5,h6⟩
 ·exact .inl h
 ·refine .inr ⟨B,c,cur,e,h1,(hg.block B (Zg h2) (by simp)).trans h2,h3,h4,h5,fun j a hj=>?_⟩
  obtain⟨u,hu,hx⟩:=h6 j a hj
  exact⟨u,hu.kept0 hg,hx⟩
theorem AgsF.args {w:World} {b:Nat} {v:Value} {G:List Ag} (h:AgsF w b v G):Args w v G:=by
 rcases h with ⟨rfl,rfl⟩|⟨B,c,cur,rfl,h1,h2,h3,h4,h5,h6⟩
 ·exact .inl ⟨rfl,none,0,rfl⟩
 ·refine .inr ⟨B,0,c,rfl,h3,fun j a hj=>?_⟩
  obtain⟨u,hu,hx⟩:=h6 j a hj
  refine⟨u,?_,hu.ints⟩
  have hc:∀i x,i<12→(agc a u).toList[i]?=some x→w.cell? ⟨B,0+j*12+i,none⟩=some x:=fun i x hi hx2=>by
   rw [Nat.zero_add]
   simp only [World.cell?,h2]
   rw [hx i hi]
   exact hx2
  exact⟨hc 0 _ (by omega) rfl,hc 1 _ (by omega) rfl,hc 2 _ (by omega) rfl,hc 3 _ (by omega) rfl,hc 4 _ (by omega) rfl,hc 5 _ (by omega) rfl,hc 6 _ (by omega) rfl,hc 7 _ (by omega) rfl,hc 8 _ (by omega) rfl,hc 9 _ (by omega) rfl,hc 10 _ (by omega) rfl,hc 11 _ (by omega) rfl⟩
def rdA (L:List UInt8) (w:World) (base:Nat) (e:Ending):Prop:=match stU L with
 |some s=>∃ab c,e=.returned (.tuple #[.agg #[.string s.vb,.string s.nm,.slice ab s.ags.length c],.int .i64 0])∧AgsF w base (.slice ab s.ags.length c) s.ags
 |none=>e=.returned (.tuple #[.agg #[.string eS,.string eS,.slice none 0 0],.int .i64 400])
theorem Xi (L:List UInt8) (hL:L.length≤20000) (w:World) (he:Errs w) :
    Calls Tryz.prog 18 #[.string (bA L)] w fun e w'=>rdA L w' (w.heap.size+2) e∧w.grownBy w' none:=by
 cases hs:stU L with
 |none =>
  refine(read_up (bA L) w (fun W hg=>(XD L hL W (he.kept hg)).mono fun e w' h=>?_)).mono ?_
  ·unfold stA at h
   rw [hs]at h
   exact h
  ·rintro e w' ⟨rfl,hg⟩
   refine⟨?_,hg⟩
   unfold rdA
   rw [hs]
 |some s =>
  refine(read_ok (bA L) s.vb s.nm s.ags.length (fun w b v=>AgsF w b v s.ags) (fun w1 w2 b v h hk=>h.moved hk) w (fun W hg=>(XD L hL W (he.kept hg)).mono fun e w' h=>?_)).mono ?_
  ·unfold stA at h
   rw [hs]at h
   obtain⟨⟨ab,c,h1,h2⟩,h3⟩:=h
   exact⟨ab,c,h1,h2,h3⟩
  ·rintro e w' ⟨ab,c,rfl,h1,hg⟩
   refine⟨?_,hg⟩
   unfold rdA
   rw [hs]
   exact⟨ab,c,rfl,h1⟩
def kA:ByteArray:=⟨#[97]⟩
def kst:St:=⟨⟨#[99,105,114,99,108,101]⟩,⟨#[99]⟩,[⟨1,⟨#[97]⟩,Gz.zero,[],0⟩,⟨3,eS,Gz.zero,[],0⟩,⟨4,eS,Gz.zero,[1,-2],0⟩,⟨5,eS,Gz.zero,[],7⟩]⟩
def kL:List UInt8:=[99,105,114,99,108,101,32,61,99,32,97,32,40,105,110,102,41,32,91,49,46,45,50,93,32,35,55]
def dL:List UInt8:=[100,114,97,119,32,32,99]
theorem spl_k:spl 32 kL=[[99,105,114,99,108,101],[61,99],[97],[40,105,110,102,41],[91,49,46,45,50,93],[35,55]]:=by kernel_rfl
theorem spl_d:spl 32 dL=[[100,114,97,119],[],[99]]:=by kernel_rfl
theorem ag_1:agU [97]=some ⟨1,⟨#[97]⟩,Gz.zero,[],0⟩:=by
 unfold agU
 rw [if_neg (by decide),if_neg (by decide),if_neg (by decide),if_neg (by decide)]
 rfl
theorem ag_3:agU [40,105,110,102,41]=some ⟨3,eS,Gz.zero,[],0⟩:=by
 unfold agU
 rw [if_pos rfl]
theorem word_k:wordU [49,46,45,50,93]=some [1,-2]:=by kernel_rfl
theorem ag_4:agU [91,49,46,45,50,93]=some ⟨4,eS,Gz.zero,[1,-2],0⟩:=by
 unfold agU
 rw [if_neg (by decide),if_neg (by decide),if_pos (by decide)]
 have e:([91,49,46,45,50,93]:List UInt8).tail=[49,46,45,50,93]:=rfl
 rw [e,word_k]
theorem ct_k:ctU [55]=some 7:=by kernel_rfl
theorem ag_5:agU [35,55]=some ⟨5,eS,Gz.zero,[],7⟩:=by
 unfold agU
 rw [if_neg (by decide),if_neg (by decide),if_neg (by decide),if_pos (by decide)]
 have e:([35,55]:List UInt8).tail=[55]:=rfl
 rw [e,ct_k]
theorem ag_no:agU []=none:=by
 unfold agU
 rw [if_neg (by decide),if_neg (by decide),if_neg (by decide),if_neg (by decide)]
 rfl
theorem st_k:stU kL=some kst:=by
 unfold stU
 rw [spl_k]
 dsimp only
 rw [if_pos (by kernel_rfl),if_pos (by decide),if_pos (by kernel_rfl)]
 have e:finG [] ([[61,99],[97],[40,105,110,102,41],[91,49,46,45,50,93],[35,55]]:List (List UInt8)).tail=some kst.ags:=by
  show finG [] [[97],[40,105,110,102,41],[91,49,46,45,50,93],[35,55]]=_
  rw [←Y0 ag_1,←Y0 ag_3,←Y0 ag_4,←Y0 ag_5,Zbz (by decide)]
  rfl
 rw [e]
 rfl
theorem st_d:stU dL=none:=by
 unfold stU
 rw [spl_d]
 dsimp only
 rw [if_pos (by kernel_rfl),if_neg (by decide),Za4 ag_no]
theorem ok_k:okS kst=true:=by kernel_rfl
theorem few_k:∀a∈kst.ags,a.Few:=by
 intro a ha
 simp [kst]at ha
 rcases ha with rfl|rfl|rfl|rfl<;>exact⟨by decide,by decide,by decide,by decide⟩
theorem fit_k:kst.Fit:=by
 refine⟨by decide,by decide,by decide,?_⟩
 intro a ha
 simp [kst]at ha
 rcases ha with rfl|rfl|rfl|rfl<;>exact⟨by decide,⟨by decide,by decide,by decide,by decide⟩,by decide⟩
theorem line_k:lineB kst=bA kL:=by
 have e1:itB 7=⟨#[55]⟩:=by
  unfold itB Lib.itoa
  rw [if_neg (by decide),show(7:Int).toNat=7 from rfl,Lib.decDigits_one (by decide)]
  rfl
 have i1:Lib.itoa 1=[49]:=by
  unfold Lib.itoa
  rw [if_neg (by decide),show(1:Int).toNat=1 from rfl,Lib.decDigits_one (by decide)]
  rfl
 have i2:Lib.itoa (-2)=[45,50]:=by
  unfold Lib.itoa
  rw [if_pos (by decide),show(-2:Int).natAbs=2 from rfl,Lib.decDigits_one (by decide)]
  rfl
 have e2:ltB [1,-2]=⟨#[49,46,45,50]⟩:=by
  unfold ltB
  rw [List.map_cons,List.map_cons,List.map_nil,i1,i2]
  rfl
 have e3:lineL kst=[⟨#[99,105,114,99,108,101]⟩,⟨#[61]⟩++⟨#[99]⟩,⟨#[97]⟩,⟨#[40,105,110,102,41]⟩,⟨#[91]⟩++⟨#[49,46,45,50]⟩++⟨#[93]⟩,⟨#[35]⟩++⟨#[55]⟩]:=by
  unfold lineL
  rw [if_neg (by decide)]
  show [_,_]++[agT _,agT _,agT _,agT _]=_
  have a1:agT ⟨1,⟨#[97]⟩,Gz.zero,[],0⟩=⟨#[97]⟩:=by simp [agT]
  have a3:agT ⟨3,eS,Gz.zero,[],0⟩=⟨#[40,105,110,102,41]⟩:=by simp [agT]
  have a4:agT ⟨4,eS,Gz.zero,[1,-2],0⟩=⟨#[91]⟩++⟨#[49,46,45,50]⟩++⟨#[93]⟩:=by simp [agT,e2]
  have a5:agT ⟨5,eS,Gz.zero,[],7⟩=⟨#[35]⟩++⟨#[55]⟩:=by simp [agT,e1]
  rw [a1,a3,a4,a5]
  rfl
 unfold lineB
 rw [if_pos ok_k]
 unfold lnB
 rw [e3]
 rfl
abbrev kb0:Obj:=.cells #[.int .i64 1,.int .i64 (-2)] 3
abbrev kb1 (b:Nat):Obj:=.cells #[.int .i64 1,.string ⟨#[97]⟩,.bool false,.string ⟨#[]⟩,.bool false,.string ⟨#[]⟩,.bool false,.string ⟨#[]⟩,.bool false,.string ⟨#[]⟩,.slice none 0 0,.int .i64 0,.int .i64 3,.string ⟨#[]⟩,.bool false,.string ⟨#[]⟩,.bool false,.string ⟨#[]⟩,.bool false,.string ⟨#[]⟩,.bool false,.string ⟨#[]⟩,.slice none 0 0,.int .i64 0,.int .i64 4,.string ⟨#[]⟩,.bool false,.string ⟨#[]⟩,.bool false,.string ⟨#[]⟩,.bool false,.string ⟨#[]⟩,.bool false,.string ⟨#[]⟩,.slice (some ⟨b,0,none⟩) 2 2,.int .i64 0,.int .i64 5,.string ⟨#[]⟩,.bool false,.string ⟨#[]⟩,.bool false,.string ⟨#[]⟩,.bool false,.string ⟨#[]⟩,.bool false,.string ⟨#[]⟩,.slice none 0 0,.int .i64 7] 45
abbrev kb2 (b:Nat):Obj:=.cells #[.string ⟨#[99,105,114,99,108,101]⟩,.string ⟨#[99]⟩,.slice (some ⟨b,0,none⟩) 4 4] 24
theorem Zfu {w:World} {b d:Nat} (h0:w.heap[b]?=some kb0) (h1:w.heap[d]?=some (kb1 b)):Args w (.slice (some ⟨d,0,none⟩) 4 4) kst.ags:=by
 refine .inr ⟨d,0,4,rfl,Nat.le_refl _,fun j a ha=>?_⟩
 have hj:j<4:=(List.getElem?_eq_some_iff.1 ha).1
 match j,ha with
  |0,ha =>
   obtain rfl:=Option.some.inj ha
   exact⟨.slice none 0 0,⟨(by simp only [World.cell?,h1];rfl),(by simp only [World.cell?,h1];rfl),(by simp only [World.cell?,h1];rfl),(by simp only [World.cell?,h1];rfl),(by simp only [World.cell?,h1];rfl),(by simp only [World.cell?,h1];rfl),(by simp only [World.cell?,h1];rfl),(by simp only [World.cell?,h1];rfl),(by simp only [World.cell?,h1];rfl),(by simp only [World.cell?,h1];rfl),(by simp only [World.cell?,h1];rfl),(by simp only [World.cell?,h1];rfl)⟩,Ints.nil _⟩
  |1,ha =>
   obtain rfl:=Option.some.inj ha
   exact⟨.slice none 0 0,⟨(by simp only [World.cell?,h1];rfl),(by simp only [World.cell?,h1];rfl),(by simp only [World.cell?,h1];rfl),(by simp only [World.cell?,h1];rfl),(by simp only [World.cell?,h1];rfl),(by simp only [World.cell?,h1];rfl),(by simp only [World.cell?,h1];rfl),(by simp only [World.cell?,h1];rfl),(by simp only [World.cell?,h1];rfl),(by simp only [World.cell?,h1];rfl),(by simp only [World.cell?,h1];rfl),(by simp only [World.cell?,h1];rfl)⟩,Ints.nil _⟩
  |2,ha =>
   obtain rfl:=Option.some.inj ha
   exact⟨.slice (some ⟨b,0,none⟩) 2 2,⟨(by simp only [World.cell?,h1];rfl),(by simp only [World.cell?,h1];rfl),(by simp only [World.cell?,h1];rfl),(by simp only [World.cell?,h1];rfl),(by simp only [World.cell?,h1];rfl),(by simp only [World.cell?,h1];rfl),(by simp only [World.cell?,h1];rfl),(by simp only [World.cell?,h1];rfl),(by simp only [World.cell?,h1];rfl),(by simp only [World.cell?,h1];rfl),(by simp only [World.cell?,h1];rfl),(by simp only [World.cell?,h1];rfl)⟩,.inr (.inl ⟨b,0,2,rfl,Nat.le_refl _,fun j hj=>by
    have hj2:j<2:=hj
    match j,hj2 with
    |0,_=>simp only [World.cell?,h0];rfl
    |1,_=>simp only [World.cell?,h0];rfl⟩)⟩
  |3,ha =>
   obtain rfl:=Option.some.inj ha
   exact⟨.slice none 0 0,⟨(by simp only [World.cell?,h1];rfl),(by simp only [World.cell?,h1];rfl),(by simp only [World.cell?,h1];rfl),(by simp only [World.cell?,h1];rfl),(by simp only [World.cell?,h1];rfl),(by simp only [World.cell?,h1];rfl),(by simp only [World.cell?,h1];rfl),(by simp only [World.cell?,h1];rfl),(by simp only [World.cell?,h1];rfl),(by simp only [World.cell?,h1];rfl),(by simp only [World.cell?,h1];rfl),(by simp only [World.cell?,h1];rfl)⟩,Ints.nil _⟩
  |j+4,ha=>omega
def RdK (W:World) (e:Ending) (w':World):Prop:=∃ab c,e=.returned (.tuple #[.agg #[.string ⟨#[99,105,114,99,108,101]⟩,.string ⟨#[99]⟩,.slice ab 4 c],.int .i64 0])∧Args w' (.slice ab 4 c) kst.ags∧W.grownBy w' none
theorem read_k (W:World) (he:Errs W):Calls Tryz.prog 18 #[.string ⟨#[99,105,114,99,108,101,32,61,99,32,97,32,40,105,110,102,41,32,91,49,46,45,50,93,32,35,55]⟩] W (RdK W):=by
 refine(Xi kL (by decide) W he).mono ?_
 rintro e w' ⟨h,hg⟩
 unfold rdA at h
 rw [st_k]at h
 obtain⟨ab,c,h1,h2⟩:=h
 exact⟨ab,c,h1,h2.args,hg⟩
theorem read_d (W:World) (he:Errs W):Calls Tryz.prog 18 #[.string ⟨#[100,114,97,119,32,32,99]⟩] W fun e w'=>e=.returned (.tuple #[.agg #[.string eS,.string eS,.slice none 0 0],.int .i64 400])∧W.grownBy w' none:=by
 refine(Xi dL (by decide) W he).mono ?_
 rintro e w' ⟨h,hg⟩
 unfold rdA at h
 rw [st_d]at h
 exact⟨h,hg⟩
theorem XV (w:World) (ht:Tab w) (he:Errs w) :
    Calls Tryz.prog 10 #[] w fun e w'=>e=.returned (.bool true)∧w.grownBy w' none:=by
 have HT:Hid (Tab w):=ht
 have HE:Hid (Errs w):=he
 have H0:Hid ((((w.alloc kb0).alloc (kb1 w.heap.size)).alloc (kb2 (w.heap.size+1))).heap[w.heap.size]?=some kb0):=((grow2 (w.alloc kb0) _ _).block _ (by simp) (by simp)).trans (heap_alloc_new _ _)
 have H1:Hid ((((w.alloc kb0).alloc (kb1 w.heap.size)).alloc (kb2 (w.heap.size+1))).heap[w.heap.size+1]?=some (kb1 w.heap.size)):=by
  show _=_
  have h:=Zx (w.alloc kb0) (kb1 w.heap.size) (kb2 (w.heap.size+1))
  have e:(w.alloc kb0).heap.size=w.heap.size+1:=by simp
  rw [e]at h
  exact h
 have H2:Hid ((((w.alloc kb0).alloc (kb1 w.heap.size)).alloc (kb2 (w.heap.size+1))).heap[w.heap.size+2]?=some (kb2 (w.heap.size+1))):=by
  show _=_
  have h:=heap_alloc_new ((w.alloc kb0).alloc (kb1 w.heap.size)) (kb2 (w.heap.size+1))
  have e:((w.alloc kb0).alloc (kb1 w.heap.size)).heap.size=w.heap.size+2:=by simp
  rw [e]at h
  exact h
 have HG3:Hid (w.grownBy (((w.alloc kb0).alloc (kb1 w.heap.size)).alloc (kb2 (w.heap.size+1))) none):=grow3 _ _ _ _
 clear ht he
 go_enter Tryz.func10,Tryz.ntmps10
 generalize hc2:Code.region 2 _ _=c2
 generalize hc5:Code.region 5 _ _=c5
 go_wp2_with fail
 change Code.wp _ _ _ _ (((w.alloc kb0).alloc (kb1 w.heap.size)).alloc (kb2 (w.heap.size+1)))
 generalize((w.alloc kb0).alloc (kb1 w.heap.size)).alloc (kb2 (w.heap.size+1))=w3 at *
 subst hc2
 have h2:=H2.out
 have k0:w3.cell? ⟨w.heap.size+1+1,0,none⟩=some (.string ⟨#[99,105,114,99,108,101]⟩):=by
  show w3.cell? ⟨w.heap.size+2,0,none⟩=_
  simp only [World.cell?,h2]
  rfl
 have k1:w3.cell? ⟨w.heap.size+1+1,1,none⟩=some (.string ⟨#[99]⟩):=by
  show w3.cell? ⟨w.heap.size+2,1,none⟩=_
  simp only [World.cell?,h2]
  rfl
 have k2:w3.cell? ⟨w.heap.size+1+1,2,none⟩=some (.slice (some ⟨w.heap.size+1,0,none⟩) 4 4):=by
  show w3.cell? ⟨w.heap.size+2,2,none⟩=_
  simp only [World.cell?,h2]
  rfl
 have HSv:Hid (Stv w3 (.agg #[.string ⟨#[99,105,114,99,108,101]⟩,.string ⟨#[99]⟩,.slice (some ⟨w.heap.size+1,0,none⟩) 4 4]) kst):=⟨_,rfl,Zfu H0.out H1.out⟩
 have HLn:Hid (Calls Tryz.prog 12 #[.agg #[.string ⟨#[99,105,114,99,108,101]⟩,.string ⟨#[99]⟩,.slice (some ⟨w.heap.size+1,0,none⟩) 4 4]] w3 fun e w'=>e=.returned (.tuple #[.string ⟨#[99,105,114,99,108,101,32,61,99,32,97,32,40,105,110,102,41,32,91,49,46,45,50,93,32,35,55]⟩,.int .i64 0])∧w3.grownBy w' none):=by
  refine(ZdW w3 _ kst HSv.out fit_k few_k (HT.out.kept HG3.out)).mono ?_
  rintro e w' ⟨rfl,hg⟩
  refine⟨?_,hg⟩
  rw [line_k]
  unfold chkS
  rw [if_pos ok_k]
  rfl
 clear h2
 go_wp2_with fail
 refine HLn.out.mono ?_
 rintro e w4 ⟨rfl,hg4⟩
 have G4:Hid (w3.grownBy w4 none):=hg4
 clear hg4 HLn k0 k1 k2
 go_wp2_with fail
 refine(read_k w4 (HE.out.kept (Za HG3.out G4.out))).mono ?_
 rintro e w5 ⟨ab,c,rfl,hA,hg5⟩
 have HA5:Hid (Args w5 (.slice ab 4 c) kst.ags):=hA
 have G5:Hid (w3.grownBy w5 none):=Za G4.out hg5
 clear hA hg5
 go_wp2_with fail
 have HE5:Hid (Errs (w5.alloc (.cells #[.string ⟨#[99,105,114,99,108,101]⟩,.string ⟨#[99]⟩,.slice ab 4 c] 24))):=HE.out.kept (Za HG3.out (Za G5.out (grow1 _ _)))
 refine(read_d (w5.alloc (.cells #[.string ⟨#[99,105,114,99,108,101]⟩,.string ⟨#[99]⟩,.slice ab 4 c] 24)) HE5.out).mono ?_
 rintro e w6 ⟨rfl,hg6⟩
 have G56:Hid (w5.grownBy (w6.alloc stZ) none):=Za (Za (grow1 _ _) hg6) (grow1 _ _)
 have H4:Hid ((w6.alloc stZ).heap[w5.heap.size]?=some (.cells #[.string ⟨#[99,105,114,99,108,101]⟩,.string ⟨#[99]⟩,.slice ab 4 c] 24)):=by
  show _=_
  rw [(grow1 w6 stZ).block _ (by have:=hg6.size;simp at this;omega) (by simp),hg6.block _ (by simp) (by simp)]
  exact heap_alloc_new _ _
 clear hg6
 go_wp2_with fail
 change Code.wp _ _ _ _ (w6.alloc stZ)
 have G36:Hid (w3.grownBy (w6.alloc stZ) none):=Za G5.out G56.out
 generalize w6.alloc stZ=w7 at *
 subst hc5
 have h2:w7.heap[w.heap.size+2]?=some (kb2 (w.heap.size+1)):=(G36.out.block _ (Zg H2.out) (by simp)).trans H2.out
 have h4:=H4.out
 have k0:w7.cell? ⟨w.heap.size+1+1,0,none⟩=some (.string ⟨#[99,105,114,99,108,101]⟩):=by
  show w7.cell? ⟨w.heap.size+2,0,none⟩=_
  simp only [World.cell?,h2]
  rfl
 have k1:w7.cell? ⟨w.heap.size+1+1,1,none⟩=some (.string ⟨#[99]⟩):=by
  show w7.cell? ⟨w.heap.size+2,1,none⟩=_
  simp only [World.cell?,h2]
  rfl
 have k2:w7.cell? ⟨w.heap.size+1+1,2,none⟩=some (.slice (some ⟨w.heap.size+1,0,none⟩) 4 4):=by
  show w7.cell? ⟨w.heap.size+2,2,none⟩=_
  simp only [World.cell?,h2]
  rfl
 have j0:w7.cell? ⟨w5.heap.size,0,none⟩=some (.string ⟨#[99,105,114,99,108,101]⟩):=by
  simp only [World.cell?,h4]
  rfl
 have j1:w7.cell? ⟨w5.heap.size,1,none⟩=some (.string ⟨#[99]⟩):=by
  simp only [World.cell?,h4]
  rfl
 have j2:w7.cell? ⟨w5.heap.size,2,none⟩=some (.slice ab 4 c):=by
  simp only [World.cell?,h4]
  rfl
 have HSm:Hid (Calls Tryz.prog 14 #[.agg #[.string ⟨#[99,105,114,99,108,101]⟩,.string ⟨#[99]⟩,.slice (some ⟨w.heap.size+1,0,none⟩) 4 4],.agg #[.string ⟨#[99,105,114,99,108,101]⟩,.string ⟨#[99]⟩,.slice ab 4 c]] w7 fun e w'=>e=.returned (.bool true)∧w7.grownBy w' none):=by
  refine(VI w7 _ _ kst kst (HSv.out.kept G36.out) ⟨_,rfl,HA5.out.kept G56.out⟩ fit_k fit_k).mono ?_
  rintro e w' ⟨rfl,hg⟩
  refine⟨?_,hg⟩
  rw [St.eqb_iff.2 rfl]
 clear h2 h4
 go_wp2_with fail
 refine HSm.out.mono ?_
 rintro e w8 ⟨rfl,hg8⟩
 have G8:Hid (w.grownBy w8 none):=Za HG3.out (Za G36.out hg8)
 clear hg8 HSm
 go_wp2_with fail
 go_ret
 exact⟨rfl,G8.out⟩
end Go.Proofs.YtdcadiaeaclpgaaGreatDoor
