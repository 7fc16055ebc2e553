/-
  The program's statement.
-/
import Derived.Test.YtdcadiaeaclpgaaGreatDoorBunSrl
import Derived.Deep.RegionLaw
import Derived.Deep.RegionHeld3
namespace Go.Proofs.YtdcadiaeaclpgaaGreatDoor
open Go Go.RowKit Go.Lib Go.Sort
set_option linter.unusedVariables false
set_option linter.unusedSimpArgs false
set_option maxHeartbeats 6400000
set_option maxRecDepth 1000000
theorem statement_any (L:List UInt8) (hL:L.length≤20000) (w:World) (he:Errs w) :
    Calls Tryz.prog 46 #[.string (bA L)] w fun e w'=>stA L w' w.heap.size e∧w.grownBy w' none:=by
 have hmf:∀ (fn:Fn) (first cap:Array Value) (w:World),(Instr.makeFunc fn first cap).run Tryz.prog w=.ok (.func fn first cap) w:=fun _ _ _ _=>rfl
 have hm1:=must_yes
 have hm2:=must_no
 have HEr:Hid (Errs w):=he
 have HTk:Hid (∀ (M:List UInt8) (u:Bool) (wx:World),M.length≤20000→SW w wx M u→Calls Tryz.prog 68 #[.pointer (some ⟨w.heap.size+1,0,none⟩),.pointer (some ⟨w.heap.size+2,0,none⟩)] wx fun e w'=>∃ A B f w1,e=.returned (.string (bA A))∧CutN M A B f∧wx.grownBy w1 none∧w'=(w1.setCell ⟨w.heap.size+1,0,none⟩ (.string (bA B))).setCell ⟨w.heap.size+2,0,none⟩ (.bool f)):=fun M u wx hM h=>by
  refine (take_any M hM (w.heap.size+1) (w.heap.size+2) (by omega) u wx h.s h.f).mono ?_
  rintro e w' ⟨A,B,f,w1,h1,h2,h3,h4⟩
  exact ⟨A,B,f,w1,h1,h2.n hM,h3,h4⟩
 have HS0:Hid (SW w (((w.alloc stZ).alloc (.cells #[.string (bA L)] 9)).alloc (.cells #[.bool true] 4)) L true):=by
  refine ⟨?_,?_,?_,grow3 _ _ _ _⟩
  ·exact ((grow2 (w.alloc stZ) _ _).block _ (by simp) (by simp)).trans (heap_alloc_new _ _)
  ·have h:=at_alloc1 (w.alloc stZ) (.cells #[.string (bA L)] 9) (.cells #[.bool true] 4)
   have e:(w.alloc stZ).heap.size=w.heap.size+1:=by simp
   rw [e] at h
   exact h
  ·have h:=heap_alloc_new ((w.alloc stZ).alloc (.cells #[.string (bA L)] 9)) (.cells #[.bool true] 4)
   have e:((w.alloc stZ).alloc (.cells #[.string (bA L)] 9)).heap.size=w.heap.size+2:=by simp
   rw [e] at h
   exact h
 have HL20:Hid (L.length≤20000):=hL
 obtain ⟨A0,hA0⟩:∃ A0,stU L=A0:=⟨_,rfl⟩
 have HA0:Hid (stU L=A0):=hA0
 clear he hL hA0
 go_enter Tryz.func46,Tryz.ntmps46
 generalize hc3:Code.region 3 _ _=c3
 generalize hc4:Code.region 4 _ _=c4
 generalize hc7:Code.region 7 _ _=c7
 generalize hcl:Code.block 0 _=cl
 go_wp2_with fail
 change Code.wp _ _ _ _ (((w.alloc stZ).alloc (.cells #[.string (bA L)] 9)).alloc (.cells #[.bool true] 4))
 generalize (((w.alloc stZ).alloc (.cells #[.string (bA L)] 9)).alloc (.cells #[.bool true] 4))=wx at *
 subst hc3
 go_wp2_with fail
 refine (HTk.out L true wx HL20.out HS0.out).mono ?_
 rintro e w2 ⟨A,B,f,w1,rfl,hcut,hg,rfl⟩
 have HS1:=HS0.out.took (B:=B) (f':=f) hg
 generalize (w1.setCell ⟨w.heap.size+1,0,none⟩ (.string (bA B))).setCell ⟨w.heap.size+2,0,none⟩ (.bool f)=w2 at *
 have HS2:Hid (SW w (w2.alloc (.cells #[.string (bA A),.string eS,.slice none 0 0] 24)) B f):=HS1.kept (grow1 _ _)
 have HD2:Hid (DB (w2.alloc (.cells #[.string (bA A),.string eS,.slice none 0 0] 24)) w2.heap.size (bA A) eS (.slice none 0 0)):=heap_alloc_new _ _
 have HB2:Hid (w.heap.size+2 < w2.heap.size):=heap_lt HS1.f
 have HC:Hid (CutN L A B f):=hcut
 clear hg hcut HS1 HS0
 go_wp2_with fail
 change Code.wp _ _ _ _ (w2.alloc (.cells #[.string (bA A),.string eS,.slice none 0 0] 24))
 generalize w2.alloc (.cells #[.string (bA A),.string eS,.slice none 0 0] 24)=w3 at *
 generalize w2.heap.size=B3 at *
 subst hc4
 have HStU:Hid (A0=if isVb (bA A)=true then (if ((remU f B).headD []).head?=some 61 then (if isNm (bA ((remU f B).headD []).tail)=true then stM (bA A) (bA ((remU f B).headD []).tail) (finG [] (remU f B).tail) else none) else stM (bA A) eS (finG [] (remU f B))) else none):=by
  show A0=_
  rw [← HA0.out]
  unfold stU stM
  rw [HC.out.pcs]
 have HVb:=isVerb_any (bA A) (by rw [bA_size]; have:=HC.out.a; unfold maxLen; omega)
 have d0:=HD2.out.c0
 cases hv:isVb (bA A)
 ·have HN:Hid (∀ w' base,stA L w' base upE):=fun w' base=>stA_none (by rw [HA0.out,HStU.out,hv]; rfl) _ _
  rw [hv] at HVb
  clear hv HStU
  go_wp2_with fail
  refine (HVb _).mono ?_
  rintro e w4 ⟨rfl,rfl⟩
  go_wp2_with fail
  refine (hm2 _).mono ?_
  rintro e w5 ⟨rfl,rfl⟩
  go_wp2_with fail
  simp only [bodyPost]
  exact ⟨trivial,HN.out _ _,HS2.out.g⟩
 rw [hv] at HVb HStU
 have HPre:=hasPre_any (bA B) (by rw [bA_size]; have:=HC.out.b; unfold maxLen; omega) 61
 rw [hd1_bA] at HPre
 have s0:w3.cell? ⟨w.heap.size+1,0,none⟩=some (.string (bA B)):=by
  have:=HS2.out.s
  simp only [World.cell?,this]
  rfl
 clear hv
 by_cases hb:B.head?=some 61
 case' neg =>
  have HFin:Hid (A0=stM (bA A) eS (finG [] (remU f B))):=by
   show A0=_
   rw [HStU.out,if_pos (by trivial),if_neg (fun h=>hb (HC.out.head.1 h))]
  rw [decide_eq_false hb] at HPre
  have HMl:Hid (B.length≤20000):=HC.out.b
  clear hb HStU
  go_wp2_with fail
  refine (HVb _).mono ?_
  rintro e w4 ⟨rfl,hw4⟩
  obtain rfl:=hw4.symm
  clear hw4
  go_wp2_with fail
  refine (hm1 _).mono ?_
  rintro e w5 ⟨rfl,hw5⟩
  obtain rfl:=hw5.symm
  clear hw5
  go_wp2_with fail
  refine (HPre _).mono ?_
  rintro e w5 ⟨rfl,hw5⟩
  obtain rfl:=hw5.symm
  clear hw5
  go_wp2_with fail
  obtain ⟨nm,HDz,HFz⟩:∃ nm,Hid (DB w3 B3 (bA A) nm (.slice none 0 0))∧Hid (A0=stM (bA A) nm (finG [] (remU f B))):=⟨eS,HD2,HFin⟩
  obtain ⟨wz,hwz⟩:∃ wz,wz=w3:=⟨_,rfl⟩
  subst hwz
  obtain ⟨M0,hM0⟩:∃ M0,M0=B:=⟨_,rfl⟩
  subst hM0
  obtain ⟨f0,hf0⟩:∃ f0,f0=f:=⟨_,rfl⟩
  subst hf0
  have HSz:=HS2
  clear HFin HD2 HS2 HPre HVb d0 s0
 case' pos =>
  obtain rfl:f=true:=by
   cases hf:f
   ·rw [HC.out.no hf] at hb
    cases hb
   ·rfl
  have HHd:Hid (((remU true B).headD []).head?=some 61):=HC.out.head.2 hb
  rw [decide_eq_true hb] at HPre
  have HBl:Hid (B.length≤20000):=HC.out.b
  clear hb
  go_wp2_with fail
  refine (HVb _).mono ?_
  rintro e w4 ⟨rfl,hw4⟩
  obtain rfl:=hw4.symm
  clear hw4
  go_wp2_with fail
  refine (hm1 _).mono ?_
  rintro e w5 ⟨rfl,hw5⟩
  obtain rfl:=hw5.symm
  clear hw5
  go_wp2_with fail
  refine (HPre _).mono ?_
  rintro e w5 ⟨rfl,hw5⟩
  obtain rfl:=hw5.symm
  clear hw5 s0 HPre HVb d0
  go_wp2_with fail
  refine (HTk.out B true w3 HBl.out HS2.out).mono ?_
  rintro e w4 ⟨A2,B2,f2,w5,rfl,hcut,hg,rfl⟩
  have HS4:Hid (SW w ((w5.setCell ⟨w.heap.size+1,0,none⟩ (.string (bA B2))).setCell ⟨w.heap.size+2,0,none⟩ (.bool f2)) B2 f2):=HS2.out.took hg
  have HD4:Hid (DB ((w5.setCell ⟨w.heap.size+1,0,none⟩ (.string (bA B2))).setCell ⟨w.heap.size+2,0,none⟩ (.bool f2)) B3 (bA A) eS (.slice none 0 0)):=HD2.out.took hg (by have:=HB2.out; omega) (by have:=HB2.out; omega)
  generalize (w5.setCell ⟨w.heap.size+1,0,none⟩ (.string (bA B2))).setCell ⟨w.heap.size+2,0,none⟩ (.bool f2)=w6 at *
  have HC2:Hid (CutN B A2 B2 f2):=hcut
  have HRem:Hid (remU true B=A2 :: remU f2 B2):=hcut.pcs
  have hA2h:A2.head?=some 61:=by
   have:=HHd.out
   rw [HRem.out] at this
   exact this
  have HTr:=trimPre_any (bA A2) (by rw [bA_size]; have:=hcut.a; unfold maxLen; omega) 61
  rw [tl1_bA,if_pos hA2h] at HTr
  have HNm:=isName_any (bA A2.tail) (by rw [bA_size,List.length_tail]; have:=hcut.a; unfold maxLen; omega)
  have HStU2:Hid (A0=if isNm (bA A2.tail)=true then stM (bA A) (bA A2.tail) (finG [] (remU f2 B2)) else none):=by
   show A0=_
   rw [HStU.out,if_pos (by trivial),if_pos HHd.out,HRem.out]
   rfl
  have d1:=HD4.out.c1
  have e1:=HD4.out.fr 1
  have HS7:Hid (SW w (w6.setCell ⟨B3,1,none⟩ (.string (bA A2.tail))) B2 f2):=HS4.out.keptB HB2.out (grownBy_setCell _ _ _ _) (grown_set HS4.out.g (by have:=HB2.out; omega))
  have HD7:Hid (DB (w6.setCell ⟨B3,1,none⟩ (.string (bA A2.tail))) B3 (bA A) (bA A2.tail) (.slice none 0 0)):=HD4.out.put1 _
  clear hg hcut HS2 HD2 HStU HHd HRem hA2h HBl
  go_wp2_with fail
  refine (HTr _).mono ?_
  rintro e w7 ⟨rfl,hw7⟩
  obtain rfl:=hw7.symm
  clear hw7
  go_wp2_with fail
  change Code.wp _ _ _ _ (w6.setCell ⟨B3,1,none⟩ (.string (bA A2.tail)))
  clear d1 e1 HS4 HD4 HTr
  generalize w6.setCell ⟨B3,1,none⟩ (.string (bA A2.tail))=wz at *
  subst hc7
  have d1:=HD7.out.c1
  cases hn:isNm (bA A2.tail)
  ·have HN:Hid (∀ w' base,stA L w' base upE):=fun w' base=>stA_none (by rw [HA0.out,HStU2.out,hn]; rfl) _ _
   rw [hn] at HNm
   clear hn HStU2
   go_wp2_with fail
   refine (HNm _).mono ?_
   rintro e w8 ⟨rfl,rfl⟩
   go_wp2_with fail
   refine (hm2 _).mono ?_
   rintro e w9 ⟨rfl,rfl⟩
   go_wp2_with fail
   simp only [bodyPost]
   exact ⟨trivial,HN.out _ _,HS7.out.g⟩
  rw [hn] at HNm HStU2
  have HFin:Hid (A0=stM (bA A) (bA A2.tail) (finG [] (remU f2 B2))):=by
   show A0=_
   rw [HStU2.out,if_pos (by trivial)]
  have HMl:Hid (B2.length≤20000):=HC2.out.b
  clear hn HStU2
  go_wp2_with fail
  refine (HNm _).mono ?_
  rintro e w8 ⟨rfl,hw8⟩
  obtain rfl:=hw8.symm
  clear hw8
  go_wp2_with fail
  refine (hm1 _).mono ?_
  rintro e w9 ⟨rfl,hw9⟩
  obtain rfl:=hw9.symm
  clear hw9
  go_wp2_with fail
  obtain ⟨nm,HDz,HFz⟩:∃ nm,Hid (DB wz B3 (bA A) nm (.slice none 0 0))∧Hid (A0=stM (bA A) nm (finG [] (remU f2 B2))):=⟨_,HD7,HFin⟩
  obtain ⟨M0,hM0⟩:∃ M0,M0=B2:=⟨_,rfl⟩
  subst hM0
  obtain ⟨f0,hf0⟩:∃ f0,f0=f2:=⟨_,rfl⟩
  subst hf0
  have HSz:=HS7
  clear HFin HD7 HS7 HNm d1 HC2
 all_goals (
  subst hcl
  go_wp2_with fail
  have HRz:Hid (RowA wz (B3+1) (.slice none 0 0) []):=RowA.nil _ _
  go_loopw [] (fun wr=>∃ (M:List UInt8) (f:Bool) (P:List (Ag × Value)) (ab:Option Addr) (c:Nat),(M.length≤20000∧P.length≤64∧A0=stM (bA A) nm (finG (P.map (·.1)) (remU f M)))∧SW w wr M f∧DB wr B3 (bA A) nm (.slice ab P.length c)∧RowA wr (B3+1) (.slice ab P.length c) P) (fun wr=>match wr.cell? ⟨w.heap.size+2,0,none⟩,wr.cell? ⟨w.heap.size+1,0,none⟩ with | some (.bool true),some (.string s)=>s.size+1 | _,_=>0)
  case atStart=>exact ⟨M0,f0,[],none,0,⟨HMl.out,by simp,HFz.out⟩,HSz.out,HDz.out,HRz.out⟩
  case round =>
   obtain ⟨M,f,P,ab,c,⟨hM,hP,hF⟩,hS,hD,hR⟩:=hrel
   obtain ⟨n,hn⟩:∃ n,P.length=n:=⟨_,rfl⟩
   have HPn:Unit→P.length=n:=fun _=>hn
   rw [hn] at hP hD hR
   have HM:Hid (M.length≤20000):=hM
   have HF:Hid (A0=stM (bA A) nm (finG (P.map (·.1)) (remU f M))):=hF
   have HS:Hid (SW w wr M f):=hS
   have HD:Hid (DB wr B3 (bA A) nm (.slice ab n c)):=hD
   have HR:Hid (RowA wr (B3+1) (.slice ab n c) P):=hR
   have hnI:(n:Int)≤64:=by omega
   have hnN:n≤64:=hP
   have q0:wr.cell? ⟨w.heap.size+1+1,0,none⟩=some (.bool f):=by
    show wr.cell? ⟨w.heap.size+2,0,none⟩=_
    have:=hS.f
    simp only [World.cell?,this]
    rfl
   have q1:wr.cell? ⟨w.heap.size+1,0,none⟩=some (.string (bA M)):=by
    have:=hS.s
    simp only [World.cell?,this]
    rfl
   have k0:=hD.c0
   have k1:=hD.c1
   have k2:=hD.c2
   clear hM hF hS hD hR hn hP
   cases f
   ·have HF2:Hid (stU L=some ⟨bA A,nm,P.map (·.1)⟩):=by
      show _=_
      rw [HA0.out,HF.out]
      show stM _ _ (finG _ [])=_
      rw [finG_nil (by rw [List.length_map,HPn ()]; exact hnN)]
      rfl
    have r0:=HS.out.r
    have z0:wr.cell? ⟨w.heap.size,0,none⟩=some (.string eS):=by simp only [World.cell?,r0]; rfl
    have z1:wr.cell? ⟨w.heap.size,1,none⟩=some (.string eS):=by simp only [World.cell?,r0]; rfl
    have z2:wr.cell? ⟨w.heap.size,2,none⟩=some (.slice none 0 0):=by simp only [World.cell?,r0]; rfl
    have y0:wr.frozen? ⟨w.heap.size,0,none⟩=false:=by simp only [World.frozen?,r0]; rfl
    have y1:wr.frozen? ⟨w.heap.size,1,none⟩=false:=by simp only [World.frozen?,r0]; rfl
    have y2:wr.frozen? ⟨w.heap.size,2,none⟩=false:=by simp only [World.frozen?,r0]; rfl
    have H5:Hid ((((wr.setCell ⟨w.heap.size,0,none⟩ (.string (bA A))).setCell ⟨w.heap.size,1,none⟩ (.string nm)).setCell ⟨w.heap.size,2,none⟩ (.slice ab n c)).heap[w.heap.size]?=some (.cells #[.string (bA A),.string nm,.slice ab n c] 24)):=by
     show _=_
     simp [World.setCell,Array.getElem?_modify,r0]
    have HG5:Hid (w.grownBy (((wr.setCell ⟨w.heap.size,0,none⟩ (.string (bA A))).setCell ⟨w.heap.size,1,none⟩ (.string nm)).setCell ⟨w.heap.size,2,none⟩ (.slice ab n c)) none):=grown_set (grown_set (grown_set HS.out.g (Nat.le_refl _)) (Nat.le_refl _)) (Nat.le_refl _)
    have HR5:Hid (RowA (((wr.setCell ⟨w.heap.size,0,none⟩ (.string (bA A))).setCell ⟨w.heap.size,1,none⟩ (.string nm)).setCell ⟨w.heap.size,2,none⟩ (.slice ab n c)) (B3+1) (.slice ab n c) P):=((HR.out.keptB (by have:=HB2.out; omega) (grownBy_setCell _ _ _ _)).keptB (by have:=HB2.out; omega) (grownBy_setCell _ _ _ _)).keptB (by have:=HB2.out; omega) (grownBy_setCell _ _ _ _)
    clear r0
    go_wp2_with fail
    refine bodyPost_ret (res_cellSt rfl _ _ w.heap.size _ _ _ _ _ rfl H5.out) rfl ?_
    exact ⟨stA_some HF2.out (by rw [List.length_map]; exact (HPn ()).symm) (HR5.out.told.mono (by have:=HB2.out; omega)),HG5.out⟩
   ·obtain ⟨p,ps,hsp⟩:∃ p ps,spl 32 M=p :: ps:=by
      cases h:spl 32 M with
      |nil=>exact absurd h (spl_ne _ _)
      |cons p ps=>exact ⟨p,ps,rfl⟩
    have HSp:Hid (spl 32 M=p :: ps):=hsp
    have hp20:Hid (p.length≤20000):=Nat.le_trans (spl_len M p (by rw [hsp]; simp)) HM.out
    have HF3:Hid (A0=stM (bA A) nm (finG (P.map (·.1)) (p :: ps))):=by
     show A0=_
     rw [HF.out,← hsp]
     rfl
    clear hsp
    by_cases h64:n < 64
    ·have h64I:(n:Int) < 64:=by omega
     clear h64
     cases hag:agU p with
     |none =>
      have HN:Hid (∀ w' base,stA L w' base upE):=fun w' base=>stA_none (by rw [HA0.out,HF3.out,finG_bad hag]; rfl) _ _
      have HArg:Hid (∀ W,w.grownBy W none→Calls Tryz.prog 73 #[.string (bA p)] W fun e w'=>e=upE∧W.grownBy w' none):=fun W hg=>(argument_any p hp20.out W (HEr.out.kept hg)).mono fun e w' h=>by
       unfold agA at h
       rw [hag] at h
       exact h
      clear hag
      go_wp2_with fail
      refine (hm1 _).mono ?_
      rintro e w4 ⟨rfl,hw4⟩
      obtain rfl:=hw4.symm
      clear hw4
      go_wp2_with fail
      refine wp_region_held_drew (S:=fun w'=>w'.cell? ⟨B3,2,none⟩=some (.slice ab n c)) (by kernel_rfl) (by go_keep) (fun hHeld=>?_)
      refine wpAnyH_take (i:=0) (v:=.pointer (some ⟨B3,2,none⟩)) rfl (by kernel_rfl) (by kernel_rfl) (by kernel_rfl) (fun _ _ _ h=>h) (Or.inl ⟨by kernel_rfl,?_⟩) (by assumption) ?_
      ·(intro w hSw; (try dsimp only at hSw); go_simp; (try (first | with_reducible rfl | (simp [*]; done))))
      (try simp only [Act.put,List.getElem_toArray,List.getElem_cons_succ,List.getElem_cons_zero,List.setIfInBounds_toArray,List.set_cons_zero,List.set_cons_succ])
      refine wpAnyH_take (i:=1) (v:=.slice ab n c) rfl (by kernel_rfl) (by kernel_rfl) (by kernel_rfl) (fun _ _ _ h=>h) (Or.inl ⟨by kernel_rfl,?_⟩) (by assumption) ?_
      ·(intro w hSw; (try dsimp only at hSw); go_simp; (try (first | with_reducible rfl | (simp [*]; done))))
      (try simp only [Act.put,List.getElem_toArray,List.getElem_cons_succ,List.getElem_cons_zero,List.setIfInBounds_toArray,List.set_cons_zero,List.set_cons_succ])
      refine wpAnyH_take (i:=2) (v:=.func (.func 68) #[] #[.pointer (some ⟨w.heap.size+1,0,none⟩),.pointer (some ⟨w.heap.size+1+1,0,none⟩)]) rfl (by kernel_rfl) (by kernel_rfl) (by kernel_rfl) (fun _ _ _ h=>h) (Or.inl ⟨by kernel_rfl,?_⟩) (by assumption) ?_
      ·(intro w hSw; (try dsimp only at hSw); go_simp; (try (first | with_reducible rfl | (simp [*]; done))))
      (try simp only [Act.put,List.getElem_toArray,List.getElem_cons_succ,List.getElem_cons_zero,List.setIfInBounds_toArray,List.set_cons_zero,List.set_cons_succ])
      refine wpAnyH_ready (rs:=[3]) (by kernel_rfl) (by simp) ?_
      refine AllReadyH.cons rfl (fun K hK=>?_) AllReadyH.nil
      (try simp only [Act.put,List.getElem_toArray,List.getElem_cons_succ,List.getElem_cons_zero,List.setIfInBounds_toArray,List.set_cons_zero,List.set_cons_succ])
      go_simp
      refine (HTk.out M true _ HM.out (HS.out.kept (grow_drew (World.grownBy.refl _ _)))).mono ?_
      rintro e wq ⟨A',B',f',w1',rfl,hcut,hg,rfl⟩
      have HGq:Hid (wr.grownBy w1' none):=grownBy_undrew hg
      have hpA:=(List.cons.inj (HSp.out.symm.trans hcut.pcs)).1
      subst hpA
      have S5:Hid (SW w ((w1'.setCell ⟨w.heap.size+1,0,none⟩ (.string (bA B'))).setCell ⟨w.heap.size+2,0,none⟩ (.bool f')) B' f'):=HS.out.took HGq.out
      have D5:Hid (DB ((w1'.setCell ⟨w.heap.size+1,0,none⟩ (.string (bA B'))).setCell ⟨w.heap.size+2,0,none⟩ (.bool f')) B3 (bA A) nm (.slice ab n c)):=HD.out.took HGq.out (by have:=HB2.out; omega) (by have:=HB2.out; omega)
      generalize (w1'.setCell ⟨w.heap.size+1,0,none⟩ (.string (bA B'))).setCell ⟨w.heap.size+2,0,none⟩ (.bool f')=w5 at *
      clear hcut hg
      dsimp only
      refine hK.out _ _ D5.out.c2 (fun hHeld2=>?_)
      clear hK K
      refine wpAnyH_ready (rs:=[4]) (by kernel_rfl) (by simp) ?_
      refine AllReadyH.cons rfl (fun K hK=>?_) AllReadyH.nil
      (try simp only [Act.put,List.getElem_toArray,List.getElem_cons_succ,List.getElem_cons_zero,List.setIfInBounds_toArray,List.set_cons_zero,List.set_cons_succ])
      go_simp
      refine (HArg.out _ S5.out.g).mono ?_
      rintro e w6 ⟨rfl,hg6⟩
      have HG6:Hid (w.grownBy w6 none):=grownBy_trans S5.out.g hg6
      clear hg6
      go_wp2_with fail
      simp only [bodyPost]
      exact ⟨trivial,HN.out _ _,HG6.out⟩
     |some a =>
      have HArg:Hid (∀ W,w.grownBy W none→Calls Tryz.prog 73 #[.string (bA p)] W fun e w'=>(∃ ab n c,e=.returned (agv a (.slice ab n c))∧OwI w' W.heap.size (.slice ab n c) a.wd)∧W.grownBy w' none):=fun W hg=>(argument_any p hp20.out W (HEr.out.kept hg)).mono fun e w' h=>by
       unfold agA at h
       rw [hag] at h
       exact h
      have HFn:Hid (∀ u:Value,A0=stM (bA A) nm (finG ((P++[(a,u)]).map (·.1)) ps)):=fun u=>by
       rw [HF3.out,← finG_step hag]
       simp
      have HP1:Hid (∀ u:Value,(P++[(a,u)]).length=n+1):=fun u=>by
       rw [List.length_append,HPn ()]
       rfl
      have HBr:Hid (B3 < wr.heap.size):=heap_lt HD.out
      have hmM:(bA M).size=M.length:=bA_size M
      clear hag
      go_wp2_with fail
      refine (hm1 _).mono ?_
      rintro e w4 ⟨rfl,hw4⟩
      obtain rfl:=hw4.symm
      clear hw4
      go_wp2_with fail
      go_region_law (first
       |(refine step_append_arg rfl _ _ rfl (B3+1) (.slice ab n c) P rfl (R6.out.kept0 (grow1 _ _)) a ab2 n2 c2 w6.heap.size rfl (heap_alloc_new _ _) (O6.out.kept0 (grow1 _ _)) (by rw [HPn ()]; omega) (by have:=heap_lt D6.out; simp; omega) ?_
         intro v' w7 hR7 hg7
         obtain ⟨ab3,c3,rfl⟩:=hR7.form
         rw [HP1.out] at hR7 ⊢
         have R7:Hid (RowA w7 (B3+1) (.slice ab3 (n+1) c3) (P++[(a,.slice ab2 n2 c2)])):=hR7
         have G7:Hid (w.grownBy w7 none):=grownBy_rowA (grownBy_trans S6.out.g (grow1 _ _)) (R6.out.kept0 (grow1 _ _)) (by have:=HB2.out; omega) hg7
         have S7:Hid (SW w w7 B' f'):=(S6.out.kept (grow1 _ _)).keptR (fun k hk=>(HR.out.ne (by have:=HB2.out; omega))) hg7 G7.out
         have D7:Hid (DB w7 B3 (bA A) nm (.slice ab n c)):=(D6.out.kept (grow1 _ _) (by simp)).kept hg7 (HR.out.ne (by omega))
         have k8:=D7.out.c2
         have y8:=D7.out.fr 2
         clear hR7 hg7)
       |(go_simp
         go_at_call 68
         refine (HTk.out M true _ HM.out (HS.out.kept (grow_drew (World.grownBy.refl _ _)))).mono ?_
         rintro e wq ⟨A',B',f',w1',rfl,hcut,hg,rfl⟩
         have HGq:Hid (wr.grownBy w1' none):=grownBy_undrew hg
         have hpA:=(List.cons.inj (HSp.out.symm.trans hcut.pcs)).1
         have HRe:Hid (ps=remU f' B'):=(List.cons.inj (HSp.out.symm.trans hcut.pcs)).2
         have HCu:Hid (B'.length≤20000∧(f'=true→B'.length < M.length)):=⟨hcut.b,hcut.lt⟩
         subst hpA
         have S5:Hid (SW w ((w1'.setCell ⟨w.heap.size+1,0,none⟩ (.string (bA B'))).setCell ⟨w.heap.size+2,0,none⟩ (.bool f')) B' f'):=HS.out.took HGq.out
         have D5:Hid (DB ((w1'.setCell ⟨w.heap.size+1,0,none⟩ (.string (bA B'))).setCell ⟨w.heap.size+2,0,none⟩ (.bool f')) B3 (bA A) nm (.slice ab n c)):=HD.out.took HGq.out (by have:=HB2.out; omega) (by have:=HB2.out; omega)
         have R5:Hid (RowA ((w1'.setCell ⟨w.heap.size+1,0,none⟩ (.string (bA B'))).setCell ⟨w.heap.size+2,0,none⟩ (.bool f')) (B3+1) (.slice ab n c) P):=HR.out.took HGq.out (by have:=HB2.out; omega) (by have:=HB2.out; omega)
         generalize (w1'.setCell ⟨w.heap.size+1,0,none⟩ (.string (bA B'))).setCell ⟨w.heap.size+2,0,none⟩ (.bool f')=w5 at *
         have k5:=D5.out.c2
         clear hcut hg HGq
         dsimp only)
       |(go_simp
         go_at_call 73
         refine (HArg.out _ S5.out.g).mono ?_
         rintro e w6 ⟨⟨ab2,n2,c2,rfl,hO⟩,hg6⟩
         have S6:Hid (SW w w6 B' f'):=S5.out.kept hg6
         have D6:Hid (DB w6 B3 (bA A) nm (.slice ab n c)):=D5.out.kept hg6 (by simp)
         have R6:Hid (RowA w6 (B3+1) (.slice ab n c) P):=R5.out.kept0 hg6
         have O6:Hid (OwI w6 (B3+1) (.slice ab2 n2 c2) a.wd):=hO.mono (by have:=heap_lt D5.out; omega)
         have k6:=D6.out.c2
         have k7:=(D6.out.kept (grow1 w6 (.cells (agc a (.slice ab2 n2 c2)) 45)) (by simp)).c2
         clear hg6 hO
         dsimp only))
      all_goals (
       go_wp2_with fail
       have S8:SW w (w7.setCell ⟨B3,2,none⟩ (.slice ab3 (n+1) c3)) B' f':=S7.out.keptB HB2.out (grownBy_setCell _ _ _ _) (grown_set G7.out (by have:=HB2.out; omega))
       have D8:=D7.out.put2 (.slice ab3 (n+1) c3)
       have R8:RowA (w7.setCell ⟨B3,2,none⟩ (.slice ab3 (n+1) c3)) (B3+1) (.slice ab3 (n+1) c3) (P++[(a,.slice ab2 n2 c2)]):=R7.out.keptB (by omega) (grownBy_setCell _ _ _ _)
       have m0:(w7.setCell ⟨B3,2,none⟩ (.slice ab3 (n+1) c3)).cell? ⟨w.heap.size+2,0,none⟩=some (.bool f'):=by
        have:=S8.f
        simp only [World.cell?,this]
        rfl
       have m1:(w7.setCell ⟨B3,2,none⟩ (.slice ab3 (n+1) c3)).cell? ⟨w.heap.size+1,0,none⟩=some (.string (bA B')):=by
        have:=S8.s
        simp only [World.cell?,this]
        rfl
       have q0':wr.cell? ⟨w.heap.size+2,0,none⟩=some (.bool true):=q0
       have hmB:(bA B').size=B'.length:=bA_size B'
       refine ⟨⟨B',f',P++[(a,.slice ab2 n2 c2)],ab3,c3,⟨HCu.out.1,by rw [HP1.out]; omega,by rw [← HRe.out]; exact HFn.out _⟩,S8,by rw [HP1.out]; exact D8,by rw [HP1.out]; exact R8⟩,?_⟩
       rw [m0,m1,q1,q0']
       cases f'
       ·exact Nat.succ_pos _
       ·have:=HCu.out.2 rfl
        show (bA B').size+1 < (bA M).size+1
        omega)
    ·have h64I:decide ((n:Int) < 64)=false:=decide_eq_false (by omega)
     have HN:Hid (∀ w' base,stA L w' base upE):=fun w' base=>stA_none (by rw [HA0.out,HF3.out,finG_long (by rw [List.length_map,HPn ()]; omega)]; rfl) _ _
     clear h64
     go_wp2_with fail
     refine (hm2 _).mono ?_
     rintro e w4 ⟨rfl,rfl⟩
     go_wp2_with fail
     simp only [bodyPost]
     exact ⟨trivial,HN.out _ _,HS.out.g⟩)
end Go.Proofs.YtdcadiaeaclpgaaGreatDoor
