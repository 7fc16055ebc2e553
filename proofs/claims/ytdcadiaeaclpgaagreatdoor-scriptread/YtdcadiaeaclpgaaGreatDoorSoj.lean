/-
  The document's guess; its Read.
-/
import Derived.Test.YtdcadiaeaclpgaaGreatDoorSoi
import Derived.Test.YtdcadiaeaclpgaaGreatDoorSoe
namespace Go.Proofs.YtdcadiaeaclpgaaGreatDoor
open Go Go.RowKit Go.Lib Go.Sort
set_option linter.unusedVariables false
set_option linter.unusedSimpArgs false
set_option maxHeartbeats 6400000
set_option maxRecDepth 1000000
theorem guess_any (L:List UInt8) (hL:L.length≤6000) (w:World) :
    Calls Tryz.prog 48 #[.string (bA L)] w fun e w'=>gsQ L w' w.heap.size e∧w.grownBy w' none:=by
 by_cases hq:L=[40,105,110,102,41]
 ·subst hq
  exact guess_inf w
 by_cases hn:L=[]
 ·subst hn
  exact guess_nil w
 by_cases h40:L.head?=some 40
 ·exact guess_number L hL hq h40 w
 by_cases h91:L.head?=some 91
 ·exact guess_word L hL hq h91 w
 by_cases h35:L.head?=some 35
 ·exact guess_count L (by omega) hq h35 w
 ·exact guess_name L (by omega) hq hn h40 h91 h35 w
theorem rdF_fit {s:ByteArray} {x:Fq} (h:rdF s=some x):x.p.size≤maxLen∧x.q.size≤maxLen:=by
 have h1:=(rdF_sound h).1
 simp only [mayQ,Bool.and_eq_true,decide_eq_true_eq] at h1
 unfold maxLen
 omega
theorem wdG_len {L:List UInt8} {n:Nat} (h:L.length≤n):(wdG L).length≤n+1:=by
 unfold wdG
 split
 ·simp
 ·rw [List.length_map]
  exact spl_count h
theorem Gz.zero_fit:Gz.zero.Fit:=⟨by decide,by decide,by decide,by decide⟩
theorem gsA_fit {L:List UInt8} (hL:L.length≤6000):(gsA L).Fit:=by
 have e0:eS.size≤maxLen:=by decide
 unfold gsA
 split
 ·exact ⟨e0,Gz.zero_fit,by simp⟩
 split
 ·exact ⟨e0,Gz.zero_fit,by simp⟩
 split
 ·split
  ·rename_i z hz
   refine ⟨e0,?_,by simp⟩
   unfold gzG at hz
   split at hz
   ·split at hz
    ·cases hz
    ·rename_i x hx
     split at hz
     ·cases hz
     ·rename_i y hy
      obtain rfl:=Option.some.inj hz
      exact ⟨(rdF_fit hx).1,(rdF_fit hx).2,(rdF_fit hy).1,(rdF_fit hy).2⟩
   ·cases hz
  ·exact ⟨e0,Gz.zero_fit,by simp⟩
 split
 ·refine ⟨e0,Gz.zero_fit,?_⟩
  have:=wdG_len (L:=inB L) (n:=6000) (by unfold inB; simp; omega)
  show (wdG (inB L)).length≤_
  omega
 split
 ·exact ⟨e0,Gz.zero_fit,by simp⟩
 ·refine ⟨?_,Gz.zero_fit,by simp⟩
  show (bA L).size≤_
  rw [bA_size]
  unfold maxLen
  omega
theorem RowS.ne_ag {w:World} {b b' g n c:Nat} {v:Value} {P:List ByteArray} {Q:List (Ag × Value)} (hO:RowA w b v Q) (hR:RowS w b' (.slice (some ⟨g,0,none⟩) n c) P):v.ownBlock≠some g:=by
 intro h
 obtain ⟨cur,hg⟩:=hO.tag h
 rcases hR.2 with ⟨e2,_⟩ | ⟨g2,cap2,cur2,e2,hb2,hg2,_⟩
 ·cases e2
 ·injection e2 with h3
  have h4:=Option.some.inj h3
  injection h4 with h5
  rw [h5,hg2] at hg
  injection hg with hg
  injection hg with _ h6
  revert h6
  decide
theorem load_rowSt (w:World) (g:Nat) (t:TypeId) (a b c:Value) (fr:Nat × Nat) (hg:w.heap[g]?=some (.cells #[a,b,c] t fr)):(loadVar 24 ⟨g,0,none⟩).run Tryz.prog w=.ok (.agg #[a,b,c]) w :=
 run_loadVar_row w g t 24 #[a,b,c] fr _ hg Tryz.underlying24 rfl Tryz.sizeSt
theorem res_cellSt_tmp {fn:Func} {p u:Tmp} (h:fn.results=#[.cell p 24,.tmp u]) (tmps:Array Value) (w:World) (g:Nat) (t:TypeId) (a b c:Value) (fr:Nat × Nat)
    (hp:tmps.getD p undef=.pointer (some ⟨g,0,none⟩)) (hg:w.heap[g]?=some (.cells #[a,b,c] t fr)):(results fn tmps).run Tryz.prog w=.ok (.tuple #[.agg #[a,b,c],tmps.getD u undef]) w:=by
 rw [results_cell_tmp h,hp]
 simp [asAddr,Result.andThen,load_rowSt w g t a b c fr hg]
theorem stG_fit {L:List UInt8} (hL:L.length≤6000):(stG L).Fit:=by
 have hsl:=spl_len (m:=32) L
 have hb:∀ p:List UInt8,p.length≤6000→(bA p).size≤maxLen:=fun p h=>by
  rw [bA_size]
  unfold maxLen
  omega
 have hf:∀ P:List (List UInt8),(∀ p∈P,p.length≤6000)→∀ a∈(P.take 66).map gsA,a.Fit:=fun P h a ha=>by
  obtain ⟨p,hp,rfl⟩:=List.mem_map.1 ha
  have:=h p (List.mem_of_mem_take hp)
  exact gsA_fit (by omega)
 have hl:∀ P:List (List UInt8),((P.take 66).map gsA).length≤1000000000000:=fun P=>by
  rw [List.length_map,List.length_take]
  omega
 unfold stG
 cases hs:spl 32 L with
 |nil=>exact absurd hs (spl_ne _ _)
 |cons v ps =>
  have hv:=hsl v (by rw [hs]; simp)
  have hp:∀ p∈ps,p.length≤6000:=fun p hp=>by
   have:=hsl p (by rw [hs]; simp [hp])
   omega
  dsimp only
  split
  ·refine ⟨hb _ (by omega),hb _ ?_,hl _,hf _ (fun p h=>hp p (List.mem_of_mem_tail h))⟩
   rw [List.length_tail]
   cases ps with
   |nil=>simp
   |cons p ps2 =>
    have:=hp p (by simp)
    simp
    omega
  ·exact ⟨hb _ (by omega),(show eS.size≤maxLen by decide),hl _,hf _ hp⟩
structure RJ (w wx:World) (B:Nat) (vb nm:ByteArray) (v:Value):Prop where
 r:wx.heap[w.heap.size]?=some stZ
 d:DB wx B vb nm v
 b:w.heap.size < B
 g:w.grownBy wx none
theorem RJ.kept {w wx wy:World} {B:Nat} {vb nm:ByteArray} {v:Value} (h:RJ w wx B vb nm v) (hg:wx.grownBy wy none):RJ w wy B vb nm v :=
 ⟨(hg.block _ (heap_lt h.r) (by simp)).trans h.r,h.d.kept hg (by simp),h.b,grownBy_trans h.g hg⟩
theorem rread_st (L:List UInt8) (hL:L.length≤6000) (w:World) (ht:Tab w) :
    Calls Tryz.prog 19 #[.string (bA L)] w fun e w'=>rdA L w' (w.heap.size+1) e∧w.grownBy w' none:=by
 have HT:Hid (Tab w):=ht
 have hsl:∀ p∈spl 32 L,p.length≤L.length:=spl_len _
 have HGs:Hid (∀ p∈spl 32 L,∀ W,Calls Tryz.prog 48 #[.string (bA p)] W fun e w'=>gsQ p w' W.heap.size e∧W.grownBy w' none):=fun p hp W=>guess_any p (by have:=hsl p hp; omega) W
 have HPn:Hid (spl 32 L≠[]):=spl_ne _ _
 have HCt:Hid ((spl 32 L).length≤6001):=spl_count hL
 have HCu:Hid (∀ W,Calls Tryz.prog 47 #[.string (bA L),.int .u8 32] W fun e w'=>∃ v,e=.returned v∧RowS w' W.heap.size v ((spl 32 L).map bA)∧W.grownBy w' none):=fun W=>rcut_any L (by omega) 32 32 (by decide) W
 have HFit:Hid ((stG L).Fit):=stG_fit hL
 have HLn:Hid (∀ W v,w.grownBy W none→Stv W v (stG L)→Calls Tryz.prog 13 #[v] W fun e w'=>e=.returned (.tuple #[.string (lineB (stG L)),.int .i64 (chkS (stG L))])∧W.grownBy w' none):=fun W v hg hv=>rLine_anyW W v (stG L) hv HFit.out (ht.kept hg)
 have HEnd:Hid (stU L=if okS (stG L)=true∧(lnB (stG L)).data.toList=L then some (stG L) else none):=(read_same L).symm
 have hsz:=bA_size L
 obtain ⟨v,ps,hvp⟩:∃ v ps,spl 32 L=v :: ps:=by
  cases h:spl 32 L with
  |nil=>exact absurd h HPn.out
  |cons v ps=>exact ⟨v,ps,rfl⟩
 have HSG:Hid (stG L=if (ps.headD []).head?=some 61∧1 < (ps.headD []).length then ⟨bA v,bA (ps.headD []).tail,(ps.tail.take 66).map gsA⟩ else ⟨bA v,eS,(ps.take 66).map gsA⟩):=by
  show _=_
  unfold stG
  rw [hvp]
 have HPs:Hid (∀ p∈ps,p.length≤6000):=fun p hp=>by
  have:=hsl p (by rw [hvp]; simp [hp])
  omega
 simp only [hvp] at HCu HCt
 have HGs2:Hid (∀ p∈ps,∀ W,Calls Tryz.prog 48 #[.string (bA p)] W fun e w'=>gsQ p w' W.heap.size e∧W.grownBy w' none):=fun p hp=>HGs.out p (by rw [hvp]; simp [hp])
 clear ht hsl HGs HPn hvp
 go_enter Tryz.func19,Tryz.ntmps19
 go_wp2_with fail
 refine (HCu.out _).mono ?_
 rintro e w1 ⟨v1,rfl,hr1,g1⟩
 obtain ⟨g,cp,rfl,hbg⟩:=RowS.some1 hr1 (by simp)
 obtain ⟨n,hn⟩:∃ n,ps.length=n:=⟨_,rfl⟩
 have HLn2:Unit→ps.length=n:=fun _=>hn
 have hn3:n+1≤6001:=by
  have:=HCt.out
  simp at this
  omega
 have hnI:((n+1:Nat):Int)≤6001:=by omega
 have hml:((v :: ps).map bA).length=n+1:=by simp [hn]
 rw [hml] at hr1 ⊢
 have HR1:Hid (RowS w1 (w.heap.size+1) (.slice (some ⟨g,0,none⟩) (n+1) cp) ((v :: ps).map bA)):=by
  have e:(w.alloc stZ).heap.size=w.heap.size+1:=by simp
  have h:RowS _ _ _ _:=hr1
  rw [e] at h
  exact h
 have HBg:Hid (w.heap.size < g):=by
  have e:(w.alloc stZ).heap.size=w.heap.size+1:=by simp
  have h:=hbg
  rw [e] at h
  exact h
 have HZ1:Hid (w1.heap[w.heap.size]?=some stZ):=(g1.block _ (by simp) (by simp)).trans (heap_alloc_new _ _)
 have G1:Hid (w.grownBy w1 none):=grownBy_trans (grow1 _ _) g1
 have l0:w1.cell? ⟨g,0,none⟩=some (.string (bA v)):=RowS.cell HR1.out 0 (bA v) rfl
 clear hr1 hbg hml g1 HCt HCu hn
 go_upto_region 4 with fail
 change Code.wp _ _ _ _ (w1.alloc (sObj (bA v) eS (.slice none 0 0)))
 have H2:Hid (RJ w (w1.alloc (sObj (bA v) eS (.slice none 0 0))) w1.heap.size (bA v) eS (.slice none 0 0)) :=
  ⟨((grow1 w1 _).block _ (heap_lt HZ1.out) (by simp)).trans HZ1.out,heap_alloc_new _ _,heap_lt HZ1.out,grownBy_trans G1.out (grow1 _ _)⟩
 have R2:Hid (RowS (w1.alloc (sObj (bA v) eS (.slice none 0 0))) (w.heap.size+1) (.slice (some ⟨g,0,none⟩) (n+1) cp) ((v :: ps).map bA)):=HR1.out.kept (grow1 _ _)
 have HgB:Hid (g < w1.heap.size):=(World.ownsRow.lt HR1.out g rfl).2
 generalize w1.alloc (sObj (bA v) eS (.slice none 0 0))=w2 at *
 generalize w1.heap.size=B3 at *
 clear HZ1 G1 HR1 l0
 have HTail:Hid (∀ p:List UInt8,p∈ps→(bA p).extract 1 p.length=bA p.tail):=fun p _=>by
  have:=bA_drop p 1
  rw [bA_size] at this
  rw [this,List.drop_one]
 rcases hps:ps with _ | ⟨p,ps2⟩
 ·have hn0:n=0:=by
    rw [← HLn2 (),hps]
    rfl
  have hnle:(n:Int)≤0:=by omega
  have hn0Z:¬ 0 < n:=by omega
  have hn0b:decide ((1:Int) < (n:Int)+1)=false:=decide_eq_false (by omega)
  clear hn0
  have HSG2:Hid (stG L=⟨bA v,eS,(ps.take 66).map gsA⟩):=by
   show _=_
   rw [HSG.out,hps]
   rfl
  clear hps
  go_upto_region 7 with fail
  clear hnle hn0Z hn0b
  obtain ⟨nm,fr,q,HD,HSq,HSp,HfrI⟩:∃ (nm:ByteArray) (fr:Nat) (q:List (List UInt8)),Hid (RJ w w2 B3 (bA v) nm (.slice none 0 0))∧Hid (stG L=⟨bA v,nm,(q.take 66).map gsA⟩)∧Hid (q=(v :: ps).drop fr∧fr+q.length=n+1∧∀ x∈q,x∈ps)∧fr=1:=⟨eS,1,ps,H2,HSG2,⟨rfl,by have:=HLn2 (); omega,fun x hx=>hx⟩,rfl⟩
  have hfr:(fr:Int)=1:=by omega
  have hfrN:Unit→fr=1:=fun _=>HfrI
  have RZ:=R2
  generalize hwz:w2=wz at *
  clear hwz H2 HSG2 R2 HfrI
  have HQ1:=HSp.out.1
  have HQ:Hid (∀ j x,q[j]?=some x→((v :: ps).map bA)[fr+j]?=some (bA x)):=fun j x hx=>by
   rw [HQ1,List.getElem?_drop] at hx
   rw [List.getElem?_map,hx]
   rfl
  have HQin:Hid (∀ x∈q,∀ W,Calls Tryz.prog 48 #[.string (bA x)] W fun e w'=>gsQ x w' W.heap.size e∧W.grownBy w' none):=fun x hx=>HGs2.out x (HSp.out.2.2 x hx)
  have hql:=HSp.out.2.1
  obtain ⟨lq,hlq⟩:∃ lq,q.length=lq:=⟨_,rfl⟩
  have HLq:Unit→q.length=lq:=fun _=>hlq
  rw [hlq] at hql
  have hqlI:(fr:Int)+lq=(n:Int)+1:=by omega
  clear HQ1 hlq HSp HGs2 HPs HTail HSG HLn2
  go_wp2_with fail
  have HA0:Hid (RowA wz (B3+1) (.slice none 0 0) []):=RowA.nil _ _
  go_loopw [7] (fun s7 wr=>∃ (j:Nat) (P:List (Ag × Value)) (ab:Option Addr) (c:Nat),(j≤lq∧j≤66)∧s7=.int .i64 ((fr+j:Nat):Int)∧P.length=j∧P.map (·.1)=(q.take j).map gsA∧RJ w wr B3 (bA v) nm (.slice ab j c)∧RowA wr (B3+1) (.slice ab j c) P∧RowS wr (w.heap.size+1) (.slice (some ⟨g,0,none⟩) (n+1) cp) ((v :: ps).map bA)) (fun s7 _=>match s7 with | .int _ i=>n+1 - i.toNat | _=>0)
  case atStart=>exact ⟨0,[],none,0,⟨by omega,by omega⟩,num_eq (by omega),rfl,rfl,HD.out,HA0.out,RZ.out⟩
  case round =>
   obtain ⟨j,P,ab,c,⟨hj,hj66⟩,rfl,hPl,hPm,hJ,hA,hR⟩:=hrel
   have HPl:Hid (P.length=j):=hPl
   have HPm:Hid (P.map (·.1)=(q.take j).map gsA):=hPm
   have HJ:Hid (RJ w wr B3 (bA v) nm (.slice ab j c)):=hJ
   have HA:Hid (RowA wr (B3+1) (.slice ab j c) P):=hA
   have HR:Hid (RowS wr (w.heap.size+1) (.slice (some ⟨g,0,none⟩) (n+1) cp) ((v :: ps).map bA)):=hR
   have HNE:Hid ((Value.slice ab j c).ownBlock≠some g):=RowS.ne_ag hA hR
   have b0:=hJ.d.c0
   have b1:=hJ.d.c1
   have b2:=hJ.d.c2
   have hjI:(j:Int)≤66:=by omega
   clear hPl hPm hJ hA hR HA0 HD RZ
   by_cases hgo:j < lq∧j < 66
   ·obtain ⟨x,hx⟩:∃ x,q[j]?=some x:=⟨_,List.getElem?_eq_getElem (by rw [HLq ()]; exact hgo.1)⟩
    have HC:=HQin.out x (List.mem_of_getElem? hx)
    have l0:wr.cell? ⟨g,fr+j,none⟩=some (.string (bA x)):=RowS.cell HR.out (fr+j) (bA x) (HQ.out j x hx)
    have hlt1:((fr+j:Nat):Int) < ((n+1:Nat):Int):=by omega
    have hlt2:(j:Int) < 66:=by omega
    have HNx:Hid (∀ u:Value,(P++[(gsA x,u)]).map (·.1)=(q.take (j+1)).map gsA):=fun u=>by
     have e:q.take (j+1)=q.take j++q[j]?.toList:=List.take_add_one
     rw [List.map_append,HPm.out,e,hx]
     simp
    have HP1:Hid (∀ u:Value,(P++[(gsA x,u)]).length=j+1):=fun u=>by
     rw [List.length_append,HPl.out]
     rfl
    have HGo:Hid (j < lq∧j < 66):=hgo
    have HgsQ:Hid (∀ w' base e,gsQ x w' base e→∃ ab n c,e=.returned (agv (gsA x) (.slice ab n c))∧OwI w' base (.slice ab n c) (gsA x).wd):=fun _ _ _ h=>h
    clear hx hgo
    generalize bA x=sx at *
    generalize gsQ x=QX at *
    rw [hfrN ()] at l0
    have l0':wr.cell? ⟨g,0+(1+j),none⟩=some (.string sx):=by rw [Nat.zero_add]; exact l0
    have hi0:(0:Int)≤1+(j:Int):=by omega
    have hi1:(1:Int)+(j:Int) < (n:Int)+1:=by have:=HGo.out; omega
    have hi3:1+j < n+1:=by omega
    have hi2:((1:Int)+(j:Int)).toNat=1+j:=by omega
    go_upto_region 10 with fail
    all_goals (
     go_region_law (first
      |(refine step_append_arg rfl _ _ rfl (B3+1) (.slice ab j c) P rfl (R6.out.kept0 (grow1 _ _)) (gsA x) ab2 n2 c2 w6.heap.size rfl (heap_alloc_new _ _) (O6.out.kept0 (grow1 _ _)) (by have:=HPl.out; omega) (by have:=heap_lt J6.out.d; simp; omega) ?_
        intro v7 w7 hR7 hg7
        obtain ⟨ab3,c3,rfl⟩:=hR7.form
        rw [HP1.out] at hR7 ⊢
        have R7:Hid (RowA w7 (B3+1) (.slice ab3 (j+1) c3) (P++[(gsA x,.slice ab2 n2 c2)])):=hR7
        have G7:Hid (w.grownBy w7 none):=grownBy_rowA (grownBy_trans J6.out.g (grow1 _ _)) (R6.out.kept0 (grow1 _ _)) (by have:=J6.out.b; omega) hg7
        have D7:Hid (DB w7 B3 (bA v) nm (.slice ab j c)):=(J6.out.d.kept (grow1 _ _) (by simp)).kept hg7 (HA.out.ne (by omega))
        have Z7:Hid (w7.heap[w.heap.size]?=some stZ):=(hg7.block _ (by have:=heap_lt J6.out.r; simp; omega) (fun e=>HA.out.ne (k:=w.heap.size) (by have:=HJ.out.b; omega) e.symm)).trans (((grow1 w6 _).block _ (heap_lt J6.out.r) (by simp)).trans J6.out.r)
        have S7:Hid (RowS w7 (w.heap.size+1) (.slice (some ⟨g,0,none⟩) (n+1) cp) ((v :: ps).map bA)):=World.ownsRow.kept (T6.out.kept (grow1 _ _)) hg7 (.inr (fun e=>HNE.out (by rw [← e]; rfl)))
        have k8:=D7.out.c2
        have y8:=D7.out.fr 2
        clear hR7 hg7)
      |(go_simp
        go_at_call 48
        refine (HC _).mono ?_
        rintro e w6 ⟨hQ,hg6⟩
        obtain ⟨ab2,n2,c2,rfl,hO⟩:=HgsQ.out _ _ _ hQ
        have g6:wr.grownBy w6 none:=by
         first | exact hg6 | exact grownBy_undrew hg6
        have J6:Hid (RJ w w6 B3 (bA v) nm (.slice ab j c)):=HJ.out.kept g6
        have R6:Hid (RowA w6 (B3+1) (.slice ab j c) P):=HA.out.kept0 g6
        have T6:Hid (RowS w6 (w.heap.size+1) (.slice (some ⟨g,0,none⟩) (n+1) cp) ((v :: ps).map bA)):=HR.out.kept g6
        have O6:Hid (OwI w6 (B3+1) (.slice ab2 n2 c2) (gsA x).wd):=hO.mono (by have:=heap_lt HJ.out.d; simp; omega)
        have k6:=J6.out.d.c2
        have k7:=(J6.out.d.kept (grow1 w6 (.cells (agc (gsA x) (.slice ab2 n2 c2)) 45)) (by simp)).c2
        clear hQ hO hg6 g6
        dsimp only))
     all_goals (
      have J8:Hid (RJ w (w7.setCell ⟨B3,2,none⟩ (.slice ab3 (j+1) c3)) B3 (bA v) nm (.slice ab3 (j+1) c3)) :=
       ⟨by
        have h1:=Z7.out
        have hb:=HJ.out.b
        have e1:¬ (B3=w.heap.size):=by omega
        simp [World.setCell,Array.getElem?_modify,h1,e1],D7.out.put2 _,HJ.out.b,grown_set G7.out (by have:=HJ.out.b; omega)⟩
      have R8:Hid (RowA (w7.setCell ⟨B3,2,none⟩ (.slice ab3 (j+1) c3)) (B3+1) (.slice ab3 (j+1) c3) (P++[(gsA x,.slice ab2 n2 c2)])):=R7.out.keptB (by omega) (grownBy_setCell _ _ _ _)
      have S8:Hid (RowS (w7.setCell ⟨B3,2,none⟩ (.slice ab3 (j+1) c3)) (w.heap.size+1) (.slice (some ⟨g,0,none⟩) (n+1) cp) ((v :: ps).map bA)):=World.ownsRow.kept S7.out (grownBy_setCell _ _ _ _) (.inr (fun e=>by
       have h1:g=B3:=Option.some.inj e
       have:=HgB.out
       omega))
      generalize w7.setCell ⟨B3,2,none⟩ (.slice ab3 (j+1) c3)=w8 at *
      go_wp2_with fail
      go_roundw
      case rel=>exact ⟨j+1,_,ab3,c3,⟨by have:=HGo.out; omega,by have:=HGo.out; omega⟩,num_eq (by omega),HP1.out _,HNx.out _,J8.out,R8.out,S8.out⟩
      case measure=>simp <;> omega))
   ·skip
    have HE:Hid (P.map (·.1)=(q.take 66).map gsA):=by
     show _=_
     rw [HPm.out]
     by_cases h66:j=66
     ·rw [h66]
     ·have hjl:j=lq:=by omega
      rw [List.take_of_length_le (by rw [HLq ()]; omega),List.take_of_length_le (by rw [HLq ()]; omega)]
    have HAg:Hid (AgsF wr (B3+1) (.slice ab j c) (stG L).ags):=by
     have h:=HA.out.told
     rw [HE.out] at h
     show AgsF _ _ _ _
     rw [HSq.out]
     exact h
    have HNm:Hid ((stG L).vb=bA v∧(stG L).nm=nm∧(stG L).ags.length=j):=by
     have h:=HSq.out
     have h2:=congrArg List.length HE.out
     rw [List.length_map,HPl.out] at h2
     refine ⟨by rw [h],by rw [h],?_⟩
     rw [h]
     exact h2.symm
    have HSt:Hid (Stv wr (.agg #[.string (bA v),.string nm,.slice ab j c]) (stG L)):=⟨_,by rw [HNm.out.1,HNm.out.2.1],HAg.out.args⟩
    have HLw:=HLn.out wr _ HJ.out.g HSt.out
    have hsplit:1+j=n+1∨(1+j < n+1∧j=66):=by omega
    have HCase:Hid ((okS (stG L)=false∧stU L=none)∨(okS (stG L)=true∧((lnB (stG L)=bA L∧stU L=some (stG L))∨(¬ lnB (stG L)=bA L∧stU L=none)))):=by
     have h:=HEnd.out
     show _∨_
     cases hok:okS (stG L)
     ·rw [hok,if_neg (by simp)] at h
      exact .inl ⟨rfl,h⟩
     ·rw [hok] at h
      refine .inr ⟨rfl,?_⟩
      by_cases hl:lnB (stG L)=bA L
      ·rw [if_pos ⟨rfl,by rw [hl,bA_list]⟩] at h
       exact .inl ⟨hl,h⟩
      ·rw [if_neg (fun h2=>hl ((bA_of _).symm.trans (congrArg bA h2.2)))] at h
       exact .inr ⟨hl,h⟩
    clear hgo
    rcases hsplit with hs | ⟨hs,h66⟩
    case' inl =>
     have hb1:decide ((1:Int)+(j:Int) < (n:Int)+1)=false:=decide_eq_false (by omega)
     have hb2:¬ 1+j < n+1:=by omega
     have hb3:¬ ((1:Int)+(j:Int) < (n:Int)+1):=by omega
     clear hs
    case' inr =>
     have hb1:(1:Int)+(j:Int) < (n:Int)+1:=by omega
     have hb2:decide ((j:Int) < 66)=false:=decide_eq_false (by omega)
     have hb3:¬ j < 66:=by omega
     clear h66 hs
    all_goals (
     go_upto_region 11 with fail
     clear b0 b1 b2
     have b0:=HJ.out.d.c0
     have b1:=HJ.out.d.c1
     have b2:=HJ.out.d.c2
     rcases HCase.out with ⟨hok,hU⟩ | ⟨hok,⟨hl,hU⟩ | ⟨hl,hU⟩⟩
     case' inl =>
      have HR4:Hid (∀ w' base,rdA L w' base (.returned (.tuple #[.agg #[.string eS,.string eS,.slice none 0 0],.int .i64 400]))):=fun w' base=>by
       unfold rdA
       rw [hU]
      have e1:lineB (stG L)=eS:=by
       unfold lineB
       rw [if_neg (by rw [hok]; simp)]
      have e2:chkS (stG L)=2:=by
       unfold chkS
       rw [hok]
       rfl
      rw [e1,e2] at HLw
     case' inr.inr =>
      have HR4:Hid (∀ w' base,rdA L w' base (.returned (.tuple #[.agg #[.string eS,.string eS,.slice none 0 0],.int .i64 400]))):=fun w' base=>by
       unfold rdA
       rw [hU]
      have e1:lineB (stG L)=lnB (stG L):=by
       unfold lineB
       rw [if_pos hok]
      have e2:chkS (stG L)=0:=by
       unfold chkS
       rw [hok]
       rfl
      rw [e1,e2] at HLw
      have hne:((lnB (stG L)).toList == (bA L).toList)=false:=by
       rw [beq_eq_false_iff_ne]
       intro h
       rw [ByteArray.toList_eq,ByteArray.toList_eq] at h
       exact hl (ba_eq h)
      generalize lnB (stG L)=back at *
     case' inr.inl =>
      have HR4:Hid (∀ w' base,AgsF w' base (.slice ab j c) (stG L).ags→rdA L w' base (.returned (.tuple #[.agg #[.string (bA v),.string nm,.slice ab j c],.int .i64 0]))):=fun w' base h=>by
       unfold rdA
       rw [hU]
       exact ⟨ab,c,by rw [HNm.out.1,HNm.out.2.1,HNm.out.2.2],by rw [HNm.out.2.2]; exact h⟩
      have e1:lineB (stG L)=bA L:=by
       unfold lineB
       rw [if_pos hok,hl]
      have e2:chkS (stG L)=0:=by
       unfold chkS
       rw [hok]
       rfl
      rw [e1,e2] at HLw
      have hne:((bA L).toList == (bA L).toList)=true:=by simp
     all_goals (
      clear hok hU
      go_wp2_with fail
      refine HLw.mono ?_
      rintro e w9 ⟨rfl,g9⟩
      have J9:=HJ.out.kept g9
      have z0:w9.cell? ⟨w.heap.size,0,none⟩=some (.string eS):=by simp only [World.cell?,J9.r]; rfl
      have z1:w9.cell? ⟨w.heap.size,1,none⟩=some (.string eS):=by simp only [World.cell?,J9.r]; rfl
      have z2:w9.cell? ⟨w.heap.size,2,none⟩=some (.slice none 0 0):=by simp only [World.cell?,J9.r]; rfl
      have y0:w9.frozen? ⟨w.heap.size,0,none⟩=false:=by simp only [World.frozen?,J9.r]; rfl
      have y1:w9.frozen? ⟨w.heap.size,1,none⟩=false:=by simp only [World.frozen?,J9.r]; rfl
      have y2:w9.frozen? ⟨w.heap.size,2,none⟩=false:=by simp only [World.frozen?,J9.r]; rfl
      have c0:=J9.d.c0
      have c1:=J9.d.c1
      have c2:=J9.d.c2
      have G9:Hid (w.grownBy w9 none):=J9.g
      have JR:Hid (w9.heap[w.heap.size]?=some stZ):=J9.r
      have HA9:Hid (AgsF w9 (B3+1) (.slice ab j c) (stG L).ags):=HAg.out.kept g9
      have H5:Hid ((((w9.setCell ⟨w.heap.size,0,none⟩ (.string eS)).setCell ⟨w.heap.size,1,none⟩ (.string eS)).setCell ⟨w.heap.size,2,none⟩ (.slice none 0 0)).heap[w.heap.size]?=some (.cells #[.string eS,.string eS,.slice none 0 0] 24)):=by
       have h:=JR.out
       show _=_
       simp [World.setCell,Array.getElem?_modify,h]
      have H6:Hid ((((w9.setCell ⟨w.heap.size,0,none⟩ (.string (bA v))).setCell ⟨w.heap.size,1,none⟩ (.string nm)).setCell ⟨w.heap.size,2,none⟩ (.slice ab j c)).heap[w.heap.size]?=some (.cells #[.string (bA v),.string nm,.slice ab j c] 24)):=by
       have h:=JR.out
       show _=_
       simp [World.setCell,Array.getElem?_modify,h]
      clear g9 J9
      go_wp2_with fail
      first
       |(refine bodyPost_ret (res_cellSt_tmp rfl _ _ w.heap.size _ (.string eS) (.string eS) (.slice none 0 0) _ rfl H5.out) rfl ?_
         exact ⟨HR4.out _ _,grown_set (grown_set (grown_set G9.out (Nat.le_refl _)) (Nat.le_refl _)) (Nat.le_refl _)⟩)
       |(refine bodyPost_ret (res_cellSt_tmp rfl _ _ w.heap.size _ (.string (bA v)) (.string nm) (.slice ab j c) _ rfl H6.out) rfl ?_
         exact ⟨HR4.out _ _ ((HA9.out.mono (by have:=HJ.out.b; omega)).moved (fun k hk=>by
          have e1:¬ w.heap.size=k:=by omega
          simp [World.setCell,Array.getElem?_modify,e1])),grown_set (grown_set (grown_set G9.out (Nat.le_refl _)) (Nat.le_refl _)) (Nat.le_refl _)⟩)))
 ·have hpm:p∈ps:=by
    rw [hps]
    simp
  have l1:w2.cell? ⟨g,1,none⟩=some (.string (bA p)):=RowS.cell R2.out 1 (bA p) (by rw [hps]; rfl)
  have hn1:1≤n:=by
   rw [← HLn2 (),hps]
   simp
  have hn1I:(1:Int) < ((n+1:Nat):Int):=by omega
  have hxt:=HTail.out p hpm
  have hpz:=bA_size p
  have hp3:=HPs.out p hpm
  have hx0:∀ h:0 < (bA p).size,p[0]?=some (bA p)[0]:=fun h=>bA_at h
  have hps2:ps=p :: ps2:=hps
  obtain ⟨m,hm⟩:∃ m,p.length=m:=⟨_,rfl⟩
  rw [hm] at hxt hpz hp3
  have hmI:(m:Int)≤6000:=by omega
  by_cases hm1:m≤1
  ·have hm1I:decide ((1:Int) < (m:Int))=false:=decide_eq_false (by omega)
   have hm1N:¬ 1 < m:=by omega
   have HSG2:Hid (stG L=⟨bA v,eS,(ps.take 66).map gsA⟩):=by
    show _=_
    rw [HSG.out,if_neg]
    rintro ⟨_,h⟩
    rw [hps2] at h
    simp at h
    omega
   clear hps hx0 hps2 hm hpm
   generalize bA p=sp at *
   go_upto_region 7 with fail
   obtain ⟨nm,fr,q,HD,HSq,HSp,HfrI⟩:∃ (nm:ByteArray) (fr:Nat) (q:List (List UInt8)),Hid (RJ w w2 B3 (bA v) nm (.slice none 0 0))∧Hid (stG L=⟨bA v,nm,(q.take 66).map gsA⟩)∧Hid (q=(v :: ps).drop fr∧fr+q.length=n+1∧∀ x∈q,x∈ps)∧fr=1:=⟨eS,1,ps,H2,HSG2,⟨rfl,by have:=HLn2 (); omega,fun x hx=>hx⟩,rfl⟩
   have hfr:(fr:Int)=1:=by omega
   have hfrN:Unit→fr=1:=fun _=>HfrI
   have RZ:=R2
   generalize hwz:w2=wz at *
   clear hwz H2 HSG2 R2 HfrI hxt hpz hp3 l1
   have HQ1:=HSp.out.1
   have HQ:Hid (∀ j x,q[j]?=some x→((v :: ps).map bA)[fr+j]?=some (bA x)):=fun j x hx=>by
    rw [HQ1,List.getElem?_drop] at hx
    rw [List.getElem?_map,hx]
    rfl
   have HQin:Hid (∀ x∈q,∀ W,Calls Tryz.prog 48 #[.string (bA x)] W fun e w'=>gsQ x w' W.heap.size e∧W.grownBy w' none):=fun x hx=>HGs2.out x (HSp.out.2.2 x hx)
   have hql:=HSp.out.2.1
   obtain ⟨lq,hlq⟩:∃ lq,q.length=lq:=⟨_,rfl⟩
   have HLq:Unit→q.length=lq:=fun _=>hlq
   rw [hlq] at hql
   have hqlI:(fr:Int)+lq=(n:Int)+1:=by omega
   clear HQ1 hlq HSp HGs2 HPs HTail HSG HLn2
   go_wp2_with fail
   have HA0:Hid (RowA wz (B3+1) (.slice none 0 0) []):=RowA.nil _ _
   go_loopw [7] (fun s7 wr=>∃ (j:Nat) (P:List (Ag × Value)) (ab:Option Addr) (c:Nat),(j≤lq∧j≤66)∧s7=.int .i64 ((fr+j:Nat):Int)∧P.length=j∧P.map (·.1)=(q.take j).map gsA∧RJ w wr B3 (bA v) nm (.slice ab j c)∧RowA wr (B3+1) (.slice ab j c) P∧RowS wr (w.heap.size+1) (.slice (some ⟨g,0,none⟩) (n+1) cp) ((v :: ps).map bA)) (fun s7 _=>match s7 with | .int _ i=>n+1 - i.toNat | _=>0)
   case atStart=>exact ⟨0,[],none,0,⟨by omega,by omega⟩,num_eq (by omega),rfl,rfl,HD.out,HA0.out,RZ.out⟩
   case round =>
    obtain ⟨j,P,ab,c,⟨hj,hj66⟩,rfl,hPl,hPm,hJ,hA,hR⟩:=hrel
    have HPl:Hid (P.length=j):=hPl
    have HPm:Hid (P.map (·.1)=(q.take j).map gsA):=hPm
    have HJ:Hid (RJ w wr B3 (bA v) nm (.slice ab j c)):=hJ
    have HA:Hid (RowA wr (B3+1) (.slice ab j c) P):=hA
    have HR:Hid (RowS wr (w.heap.size+1) (.slice (some ⟨g,0,none⟩) (n+1) cp) ((v :: ps).map bA)):=hR
    have HNE:Hid ((Value.slice ab j c).ownBlock≠some g):=RowS.ne_ag hA hR
    have b0:=hJ.d.c0
    have b1:=hJ.d.c1
    have b2:=hJ.d.c2
    have hjI:(j:Int)≤66:=by omega
    clear hPl hPm hJ hA hR HA0 HD RZ
    by_cases hgo:j < lq∧j < 66
    ·obtain ⟨x,hx⟩:∃ x,q[j]?=some x:=⟨_,List.getElem?_eq_getElem (by rw [HLq ()]; exact hgo.1)⟩
     have HC:=HQin.out x (List.mem_of_getElem? hx)
     have l0:wr.cell? ⟨g,fr+j,none⟩=some (.string (bA x)):=RowS.cell HR.out (fr+j) (bA x) (HQ.out j x hx)
     have hlt1:((fr+j:Nat):Int) < ((n+1:Nat):Int):=by omega
     have hlt2:(j:Int) < 66:=by omega
     have HNx:Hid (∀ u:Value,(P++[(gsA x,u)]).map (·.1)=(q.take (j+1)).map gsA):=fun u=>by
      have e:q.take (j+1)=q.take j++q[j]?.toList:=List.take_add_one
      rw [List.map_append,HPm.out,e,hx]
      simp
     have HP1:Hid (∀ u:Value,(P++[(gsA x,u)]).length=j+1):=fun u=>by
      rw [List.length_append,HPl.out]
      rfl
     have HGo:Hid (j < lq∧j < 66):=hgo
     have HgsQ:Hid (∀ w' base e,gsQ x w' base e→∃ ab n c,e=.returned (agv (gsA x) (.slice ab n c))∧OwI w' base (.slice ab n c) (gsA x).wd):=fun _ _ _ h=>h
     clear hx hgo
     generalize bA x=sx at *
     generalize gsQ x=QX at *
     rw [hfrN ()] at l0
     have l0':wr.cell? ⟨g,0+(1+j),none⟩=some (.string sx):=by rw [Nat.zero_add]; exact l0
     have hi0:(0:Int)≤1+(j:Int):=by omega
     have hi1:(1:Int)+(j:Int) < (n:Int)+1:=by have:=HGo.out; omega
     have hi3:1+j < n+1:=by omega
     have hi2:((1:Int)+(j:Int)).toNat=1+j:=by omega
     go_upto_region 10 with fail
     all_goals (
      go_region_law (first
       |(refine step_append_arg rfl _ _ rfl (B3+1) (.slice ab j c) P rfl (R6.out.kept0 (grow1 _ _)) (gsA x) ab2 n2 c2 w6.heap.size rfl (heap_alloc_new _ _) (O6.out.kept0 (grow1 _ _)) (by have:=HPl.out; omega) (by have:=heap_lt J6.out.d; simp; omega) ?_
         intro v7 w7 hR7 hg7
         obtain ⟨ab3,c3,rfl⟩:=hR7.form
         rw [HP1.out] at hR7 ⊢
         have R7:Hid (RowA w7 (B3+1) (.slice ab3 (j+1) c3) (P++[(gsA x,.slice ab2 n2 c2)])):=hR7
         have G7:Hid (w.grownBy w7 none):=grownBy_rowA (grownBy_trans J6.out.g (grow1 _ _)) (R6.out.kept0 (grow1 _ _)) (by have:=J6.out.b; omega) hg7
         have D7:Hid (DB w7 B3 (bA v) nm (.slice ab j c)):=(J6.out.d.kept (grow1 _ _) (by simp)).kept hg7 (HA.out.ne (by omega))
         have Z7:Hid (w7.heap[w.heap.size]?=some stZ):=(hg7.block _ (by have:=heap_lt J6.out.r; simp; omega) (fun e=>HA.out.ne (k:=w.heap.size) (by have:=HJ.out.b; omega) e.symm)).trans (((grow1 w6 _).block _ (heap_lt J6.out.r) (by simp)).trans J6.out.r)
         have S7:Hid (RowS w7 (w.heap.size+1) (.slice (some ⟨g,0,none⟩) (n+1) cp) ((v :: ps).map bA)):=World.ownsRow.kept (T6.out.kept (grow1 _ _)) hg7 (.inr (fun e=>HNE.out (by rw [← e]; rfl)))
         have k8:=D7.out.c2
         have y8:=D7.out.fr 2
         clear hR7 hg7)
       |(go_simp
         go_at_call 48
         refine (HC _).mono ?_
         rintro e w6 ⟨hQ,hg6⟩
         obtain ⟨ab2,n2,c2,rfl,hO⟩:=HgsQ.out _ _ _ hQ
         have g6:wr.grownBy w6 none:=by
          first | exact hg6 | exact grownBy_undrew hg6
         have J6:Hid (RJ w w6 B3 (bA v) nm (.slice ab j c)):=HJ.out.kept g6
         have R6:Hid (RowA w6 (B3+1) (.slice ab j c) P):=HA.out.kept0 g6
         have T6:Hid (RowS w6 (w.heap.size+1) (.slice (some ⟨g,0,none⟩) (n+1) cp) ((v :: ps).map bA)):=HR.out.kept g6
         have O6:Hid (OwI w6 (B3+1) (.slice ab2 n2 c2) (gsA x).wd):=hO.mono (by have:=heap_lt HJ.out.d; simp; omega)
         have k6:=J6.out.d.c2
         have k7:=(J6.out.d.kept (grow1 w6 (.cells (agc (gsA x) (.slice ab2 n2 c2)) 45)) (by simp)).c2
         clear hQ hO hg6 g6
         dsimp only))
      all_goals (
       have J8:Hid (RJ w (w7.setCell ⟨B3,2,none⟩ (.slice ab3 (j+1) c3)) B3 (bA v) nm (.slice ab3 (j+1) c3)) :=
        ⟨by
         have h1:=Z7.out
         have hb:=HJ.out.b
         have e1:¬ (B3=w.heap.size):=by omega
         simp [World.setCell,Array.getElem?_modify,h1,e1],D7.out.put2 _,HJ.out.b,grown_set G7.out (by have:=HJ.out.b; omega)⟩
       have R8:Hid (RowA (w7.setCell ⟨B3,2,none⟩ (.slice ab3 (j+1) c3)) (B3+1) (.slice ab3 (j+1) c3) (P++[(gsA x,.slice ab2 n2 c2)])):=R7.out.keptB (by omega) (grownBy_setCell _ _ _ _)
       have S8:Hid (RowS (w7.setCell ⟨B3,2,none⟩ (.slice ab3 (j+1) c3)) (w.heap.size+1) (.slice (some ⟨g,0,none⟩) (n+1) cp) ((v :: ps).map bA)):=World.ownsRow.kept S7.out (grownBy_setCell _ _ _ _) (.inr (fun e=>by
        have h1:g=B3:=Option.some.inj e
        have:=HgB.out
        omega))
       generalize w7.setCell ⟨B3,2,none⟩ (.slice ab3 (j+1) c3)=w8 at *
       go_wp2_with fail
       go_roundw
       case rel=>exact ⟨j+1,_,ab3,c3,⟨by have:=HGo.out; omega,by have:=HGo.out; omega⟩,num_eq (by omega),HP1.out _,HNx.out _,J8.out,R8.out,S8.out⟩
       case measure=>simp <;> omega))
    ·skip
     have HE:Hid (P.map (·.1)=(q.take 66).map gsA):=by
      show _=_
      rw [HPm.out]
      by_cases h66:j=66
      ·rw [h66]
      ·have hjl:j=lq:=by omega
       rw [List.take_of_length_le (by rw [HLq ()]; omega),List.take_of_length_le (by rw [HLq ()]; omega)]
     have HAg:Hid (AgsF wr (B3+1) (.slice ab j c) (stG L).ags):=by
      have h:=HA.out.told
      rw [HE.out] at h
      show AgsF _ _ _ _
      rw [HSq.out]
      exact h
     have HNm:Hid ((stG L).vb=bA v∧(stG L).nm=nm∧(stG L).ags.length=j):=by
      have h:=HSq.out
      have h2:=congrArg List.length HE.out
      rw [List.length_map,HPl.out] at h2
      refine ⟨by rw [h],by rw [h],?_⟩
      rw [h]
      exact h2.symm
     have HSt:Hid (Stv wr (.agg #[.string (bA v),.string nm,.slice ab j c]) (stG L)):=⟨_,by rw [HNm.out.1,HNm.out.2.1],HAg.out.args⟩
     have HLw:=HLn.out wr _ HJ.out.g HSt.out
     have hsplit:1+j=n+1∨(1+j < n+1∧j=66):=by omega
     have HCase:Hid ((okS (stG L)=false∧stU L=none)∨(okS (stG L)=true∧((lnB (stG L)=bA L∧stU L=some (stG L))∨(¬ lnB (stG L)=bA L∧stU L=none)))):=by
      have h:=HEnd.out
      show _∨_
      cases hok:okS (stG L)
      ·rw [hok,if_neg (by simp)] at h
       exact .inl ⟨rfl,h⟩
      ·rw [hok] at h
       refine .inr ⟨rfl,?_⟩
       by_cases hl:lnB (stG L)=bA L
       ·rw [if_pos ⟨rfl,by rw [hl,bA_list]⟩] at h
        exact .inl ⟨hl,h⟩
       ·rw [if_neg (fun h2=>hl ((bA_of _).symm.trans (congrArg bA h2.2)))] at h
        exact .inr ⟨hl,h⟩
     clear hgo
     rcases hsplit with hs | ⟨hs,h66⟩
     case' inl =>
      have hb1:decide ((1:Int)+(j:Int) < (n:Int)+1)=false:=decide_eq_false (by omega)
      have hb2:¬ 1+j < n+1:=by omega
      have hb3:¬ ((1:Int)+(j:Int) < (n:Int)+1):=by omega
      clear hs
     case' inr =>
      have hb1:(1:Int)+(j:Int) < (n:Int)+1:=by omega
      have hb2:decide ((j:Int) < 66)=false:=decide_eq_false (by omega)
      have hb3:¬ j < 66:=by omega
      clear h66 hs
     all_goals (
      go_upto_region 11 with fail
      clear b0 b1 b2
      have b0:=HJ.out.d.c0
      have b1:=HJ.out.d.c1
      have b2:=HJ.out.d.c2
      rcases HCase.out with ⟨hok,hU⟩ | ⟨hok,⟨hl,hU⟩ | ⟨hl,hU⟩⟩
      case' inl =>
       have HR4:Hid (∀ w' base,rdA L w' base (.returned (.tuple #[.agg #[.string eS,.string eS,.slice none 0 0],.int .i64 400]))):=fun w' base=>by
        unfold rdA
        rw [hU]
       have e1:lineB (stG L)=eS:=by
        unfold lineB
        rw [if_neg (by rw [hok]; simp)]
       have e2:chkS (stG L)=2:=by
        unfold chkS
        rw [hok]
        rfl
       rw [e1,e2] at HLw
      case' inr.inr =>
       have HR4:Hid (∀ w' base,rdA L w' base (.returned (.tuple #[.agg #[.string eS,.string eS,.slice none 0 0],.int .i64 400]))):=fun w' base=>by
        unfold rdA
        rw [hU]
       have e1:lineB (stG L)=lnB (stG L):=by
        unfold lineB
        rw [if_pos hok]
       have e2:chkS (stG L)=0:=by
        unfold chkS
        rw [hok]
        rfl
       rw [e1,e2] at HLw
       have hne:((lnB (stG L)).toList == (bA L).toList)=false:=by
        rw [beq_eq_false_iff_ne]
        intro h
        rw [ByteArray.toList_eq,ByteArray.toList_eq] at h
        exact hl (ba_eq h)
       generalize lnB (stG L)=back at *
      case' inr.inl =>
       have HR4:Hid (∀ w' base,AgsF w' base (.slice ab j c) (stG L).ags→rdA L w' base (.returned (.tuple #[.agg #[.string (bA v),.string nm,.slice ab j c],.int .i64 0]))):=fun w' base h=>by
        unfold rdA
        rw [hU]
        exact ⟨ab,c,by rw [HNm.out.1,HNm.out.2.1,HNm.out.2.2],by rw [HNm.out.2.2]; exact h⟩
       have e1:lineB (stG L)=bA L:=by
        unfold lineB
        rw [if_pos hok,hl]
       have e2:chkS (stG L)=0:=by
        unfold chkS
        rw [hok]
        rfl
       rw [e1,e2] at HLw
       have hne:((bA L).toList == (bA L).toList)=true:=by simp
      all_goals (
       clear hok hU
       go_wp2_with fail
       refine HLw.mono ?_
       rintro e w9 ⟨rfl,g9⟩
       have J9:=HJ.out.kept g9
       have z0:w9.cell? ⟨w.heap.size,0,none⟩=some (.string eS):=by simp only [World.cell?,J9.r]; rfl
       have z1:w9.cell? ⟨w.heap.size,1,none⟩=some (.string eS):=by simp only [World.cell?,J9.r]; rfl
       have z2:w9.cell? ⟨w.heap.size,2,none⟩=some (.slice none 0 0):=by simp only [World.cell?,J9.r]; rfl
       have y0:w9.frozen? ⟨w.heap.size,0,none⟩=false:=by simp only [World.frozen?,J9.r]; rfl
       have y1:w9.frozen? ⟨w.heap.size,1,none⟩=false:=by simp only [World.frozen?,J9.r]; rfl
       have y2:w9.frozen? ⟨w.heap.size,2,none⟩=false:=by simp only [World.frozen?,J9.r]; rfl
       have c0:=J9.d.c0
       have c1:=J9.d.c1
       have c2:=J9.d.c2
       have G9:Hid (w.grownBy w9 none):=J9.g
       have JR:Hid (w9.heap[w.heap.size]?=some stZ):=J9.r
       have HA9:Hid (AgsF w9 (B3+1) (.slice ab j c) (stG L).ags):=HAg.out.kept g9
       have H5:Hid ((((w9.setCell ⟨w.heap.size,0,none⟩ (.string eS)).setCell ⟨w.heap.size,1,none⟩ (.string eS)).setCell ⟨w.heap.size,2,none⟩ (.slice none 0 0)).heap[w.heap.size]?=some (.cells #[.string eS,.string eS,.slice none 0 0] 24)):=by
        have h:=JR.out
        show _=_
        simp [World.setCell,Array.getElem?_modify,h]
       have H6:Hid ((((w9.setCell ⟨w.heap.size,0,none⟩ (.string (bA v))).setCell ⟨w.heap.size,1,none⟩ (.string nm)).setCell ⟨w.heap.size,2,none⟩ (.slice ab j c)).heap[w.heap.size]?=some (.cells #[.string (bA v),.string nm,.slice ab j c] 24)):=by
        have h:=JR.out
        show _=_
        simp [World.setCell,Array.getElem?_modify,h]
       clear g9 J9
       go_wp2_with fail
       first
        |(refine bodyPost_ret (res_cellSt_tmp rfl _ _ w.heap.size _ (.string eS) (.string eS) (.slice none 0 0) _ rfl H5.out) rfl ?_
          exact ⟨HR4.out _ _,grown_set (grown_set (grown_set G9.out (Nat.le_refl _)) (Nat.le_refl _)) (Nat.le_refl _)⟩)
        |(refine bodyPost_ret (res_cellSt_tmp rfl _ _ w.heap.size _ (.string (bA v)) (.string nm) (.slice ab j c) _ rfl H6.out) rfl ?_
          exact ⟨HR4.out _ _ ((HA9.out.mono (by have:=HJ.out.b; omega)).moved (fun k hk=>by
           have e1:¬ w.heap.size=k:=by omega
           simp [World.setCell,Array.getElem?_modify,e1])),grown_set (grown_set (grown_set G9.out (Nat.le_refl _)) (Nat.le_refl _)) (Nat.le_refl _)⟩)))
  ·have hm1I:(1:Int) < (m:Int):=by omega
   have hs1:0 < (bA p).size:=by omega
   have hs1I:(0:Int) < (bA p).size:=by omega
   have hx:=hx0 hs1
   by_cases h61:p.head?=some 61
   ·have hc:(bA p)[0]=61:=by
      rw [List.head?_eq_getElem?,hx] at h61
      exact Option.some.inj h61
    have HSG2:Hid (stG L=⟨bA v,bA p.tail,(ps2.take 66).map gsA⟩):=by
     show _=_
     rw [HSG.out,if_pos]
     ·rw [hps2]
      rfl
     ·rw [hps2]
      exact ⟨h61,by show 1 < p.length; omega⟩
    have H2b:Hid (RJ w (w2.setCell ⟨B3,1,none⟩ (.string (bA p.tail))) B3 (bA v) (bA p.tail) (.slice none 0 0)) :=
     ⟨by
      have:=H2.out.r
      have hb:=H2.out.b
      have e1:¬ (B3=w.heap.size):=by omega
      simp [World.setCell,Array.getElem?_modify,this,e1],H2.out.d.put1 _,H2.out.b,grown_set H2.out.g (by have:=H2.out.b; omega)⟩
    have R2b:Hid (RowS (w2.setCell ⟨B3,1,none⟩ (.string (bA p.tail))) (w.heap.size+1) (.slice (some ⟨g,0,none⟩) (n+1) cp) ((v :: ps).map bA)):=World.ownsRow.kept R2.out (grownBy_setCell _ _ _ _) (.inr (fun e=>by
     have h1:g=B3:=Option.some.inj e
     have:=HgB.out
     omega))
    have d1:=H2.out.d.c1
    have f1:=H2.out.d.fr 1
    generalize bA p.tail=spt at *
    clear hps hx0 hm hpm hx h61
    generalize bA p=sp at *
    go_upto_region 7 with fail
    obtain ⟨nm,fr,q,HD,HSq,HSp,HfrI⟩:∃ (nm:ByteArray) (fr:Nat) (q:List (List UInt8)),Hid (RJ w (w2.setCell ⟨B3,1,none⟩ (.string spt)) B3 (bA v) nm (.slice none 0 0))∧Hid (stG L=⟨bA v,nm,(q.take 66).map gsA⟩)∧Hid (q=(v :: ps).drop fr∧fr+q.length=n+1∧∀ x∈q,x∈ps)∧fr=2:=⟨spt,2,ps2,H2b,HSG2,⟨by rw [hps2]; rfl,by have h1:=HLn2 (); rw [hps2] at h1; simp at h1; omega,fun x hx=>by rw [hps2]; simp [hx]⟩,rfl⟩
    have hfr:(fr:Int)=2:=by omega
    have hfrN:Unit→fr=2:=fun _=>HfrI
    have RZ:=R2b
    generalize hwz:w2.setCell ⟨B3,1,none⟩ (.string spt)=wz at *
    clear hwz H2 HSG2 R2 HfrI hxt hpz hp3 l1 H2b R2b d1 f1 hps2
    have HQ1:=HSp.out.1
    have HQ:Hid (∀ j x,q[j]?=some x→((v :: ps).map bA)[fr+j]?=some (bA x)):=fun j x hx=>by
     rw [HQ1,List.getElem?_drop] at hx
     rw [List.getElem?_map,hx]
     rfl
    have HQin:Hid (∀ x∈q,∀ W,Calls Tryz.prog 48 #[.string (bA x)] W fun e w'=>gsQ x w' W.heap.size e∧W.grownBy w' none):=fun x hx=>HGs2.out x (HSp.out.2.2 x hx)
    have hql:=HSp.out.2.1
    obtain ⟨lq,hlq⟩:∃ lq,q.length=lq:=⟨_,rfl⟩
    have HLq:Unit→q.length=lq:=fun _=>hlq
    rw [hlq] at hql
    have hqlI:(fr:Int)+lq=(n:Int)+1:=by omega
    clear HQ1 hlq HSp HGs2 HPs HTail HSG HLn2
    go_wp2_with fail
    have HA0:Hid (RowA wz (B3+1) (.slice none 0 0) []):=RowA.nil _ _
    go_loopw [7] (fun s7 wr=>∃ (j:Nat) (P:List (Ag × Value)) (ab:Option Addr) (c:Nat),(j≤lq∧j≤66)∧s7=.int .i64 ((fr+j:Nat):Int)∧P.length=j∧P.map (·.1)=(q.take j).map gsA∧RJ w wr B3 (bA v) nm (.slice ab j c)∧RowA wr (B3+1) (.slice ab j c) P∧RowS wr (w.heap.size+1) (.slice (some ⟨g,0,none⟩) (n+1) cp) ((v :: ps).map bA)) (fun s7 _=>match s7 with | .int _ i=>n+1 - i.toNat | _=>0)
    case atStart=>exact ⟨0,[],none,0,⟨by omega,by omega⟩,num_eq (by omega),rfl,rfl,HD.out,HA0.out,RZ.out⟩
    case round =>
     obtain ⟨j,P,ab,c,⟨hj,hj66⟩,rfl,hPl,hPm,hJ,hA,hR⟩:=hrel
     have HPl:Hid (P.length=j):=hPl
     have HPm:Hid (P.map (·.1)=(q.take j).map gsA):=hPm
     have HJ:Hid (RJ w wr B3 (bA v) nm (.slice ab j c)):=hJ
     have HA:Hid (RowA wr (B3+1) (.slice ab j c) P):=hA
     have HR:Hid (RowS wr (w.heap.size+1) (.slice (some ⟨g,0,none⟩) (n+1) cp) ((v :: ps).map bA)):=hR
     have HNE:Hid ((Value.slice ab j c).ownBlock≠some g):=RowS.ne_ag hA hR
     have b0:=hJ.d.c0
     have b1:=hJ.d.c1
     have b2:=hJ.d.c2
     have hjI:(j:Int)≤66:=by omega
     clear hPl hPm hJ hA hR HA0 HD RZ
     by_cases hgo:j < lq∧j < 66
     ·obtain ⟨x,hx⟩:∃ x,q[j]?=some x:=⟨_,List.getElem?_eq_getElem (by rw [HLq ()]; exact hgo.1)⟩
      have HC:=HQin.out x (List.mem_of_getElem? hx)
      have l0:wr.cell? ⟨g,fr+j,none⟩=some (.string (bA x)):=RowS.cell HR.out (fr+j) (bA x) (HQ.out j x hx)
      have hlt1:((fr+j:Nat):Int) < ((n+1:Nat):Int):=by omega
      have hlt2:(j:Int) < 66:=by omega
      have HNx:Hid (∀ u:Value,(P++[(gsA x,u)]).map (·.1)=(q.take (j+1)).map gsA):=fun u=>by
       have e:q.take (j+1)=q.take j++q[j]?.toList:=List.take_add_one
       rw [List.map_append,HPm.out,e,hx]
       simp
      have HP1:Hid (∀ u:Value,(P++[(gsA x,u)]).length=j+1):=fun u=>by
       rw [List.length_append,HPl.out]
       rfl
      have HGo:Hid (j < lq∧j < 66):=hgo
      have HgsQ:Hid (∀ w' base e,gsQ x w' base e→∃ ab n c,e=.returned (agv (gsA x) (.slice ab n c))∧OwI w' base (.slice ab n c) (gsA x).wd):=fun _ _ _ h=>h
      clear hx hgo
      generalize bA x=sx at *
      generalize gsQ x=QX at *
      rw [hfrN ()] at l0
      have l0':wr.cell? ⟨g,0+(2+j),none⟩=some (.string sx):=by rw [Nat.zero_add]; exact l0
      have hi0:(0:Int)≤2+(j:Int):=by omega
      have hi1:(2:Int)+(j:Int) < (n:Int)+1:=by have:=HGo.out; omega
      have hi3:2+j < n+1:=by omega
      have hi2:((2:Int)+(j:Int)).toNat=2+j:=by omega
      go_upto_region 10 with fail
      all_goals (
       go_region_law (first
        |(refine step_append_arg rfl _ _ rfl (B3+1) (.slice ab j c) P rfl (R6.out.kept0 (grow1 _ _)) (gsA x) ab2 n2 c2 w6.heap.size rfl (heap_alloc_new _ _) (O6.out.kept0 (grow1 _ _)) (by have:=HPl.out; omega) (by have:=heap_lt J6.out.d; simp; omega) ?_
          intro v7 w7 hR7 hg7
          obtain ⟨ab3,c3,rfl⟩:=hR7.form
          rw [HP1.out] at hR7 ⊢
          have R7:Hid (RowA w7 (B3+1) (.slice ab3 (j+1) c3) (P++[(gsA x,.slice ab2 n2 c2)])):=hR7
          have G7:Hid (w.grownBy w7 none):=grownBy_rowA (grownBy_trans J6.out.g (grow1 _ _)) (R6.out.kept0 (grow1 _ _)) (by have:=J6.out.b; omega) hg7
          have D7:Hid (DB w7 B3 (bA v) nm (.slice ab j c)):=(J6.out.d.kept (grow1 _ _) (by simp)).kept hg7 (HA.out.ne (by omega))
          have Z7:Hid (w7.heap[w.heap.size]?=some stZ):=(hg7.block _ (by have:=heap_lt J6.out.r; simp; omega) (fun e=>HA.out.ne (k:=w.heap.size) (by have:=HJ.out.b; omega) e.symm)).trans (((grow1 w6 _).block _ (heap_lt J6.out.r) (by simp)).trans J6.out.r)
          have S7:Hid (RowS w7 (w.heap.size+1) (.slice (some ⟨g,0,none⟩) (n+1) cp) ((v :: ps).map bA)):=World.ownsRow.kept (T6.out.kept (grow1 _ _)) hg7 (.inr (fun e=>HNE.out (by rw [← e]; rfl)))
          have k8:=D7.out.c2
          have y8:=D7.out.fr 2
          clear hR7 hg7)
        |(go_simp
          go_at_call 48
          refine (HC _).mono ?_
          rintro e w6 ⟨hQ,hg6⟩
          obtain ⟨ab2,n2,c2,rfl,hO⟩:=HgsQ.out _ _ _ hQ
          have g6:wr.grownBy w6 none:=by
           first | exact hg6 | exact grownBy_undrew hg6
          have J6:Hid (RJ w w6 B3 (bA v) nm (.slice ab j c)):=HJ.out.kept g6
          have R6:Hid (RowA w6 (B3+1) (.slice ab j c) P):=HA.out.kept0 g6
          have T6:Hid (RowS w6 (w.heap.size+1) (.slice (some ⟨g,0,none⟩) (n+1) cp) ((v :: ps).map bA)):=HR.out.kept g6
          have O6:Hid (OwI w6 (B3+1) (.slice ab2 n2 c2) (gsA x).wd):=hO.mono (by have:=heap_lt HJ.out.d; simp; omega)
          have k6:=J6.out.d.c2
          have k7:=(J6.out.d.kept (grow1 w6 (.cells (agc (gsA x) (.slice ab2 n2 c2)) 45)) (by simp)).c2
          clear hQ hO hg6 g6
          dsimp only))
       all_goals (
        have J8:Hid (RJ w (w7.setCell ⟨B3,2,none⟩ (.slice ab3 (j+1) c3)) B3 (bA v) nm (.slice ab3 (j+1) c3)) :=
         ⟨by
          have h1:=Z7.out
          have hb:=HJ.out.b
          have e1:¬ (B3=w.heap.size):=by omega
          simp [World.setCell,Array.getElem?_modify,h1,e1],D7.out.put2 _,HJ.out.b,grown_set G7.out (by have:=HJ.out.b; omega)⟩
        have R8:Hid (RowA (w7.setCell ⟨B3,2,none⟩ (.slice ab3 (j+1) c3)) (B3+1) (.slice ab3 (j+1) c3) (P++[(gsA x,.slice ab2 n2 c2)])):=R7.out.keptB (by omega) (grownBy_setCell _ _ _ _)
        have S8:Hid (RowS (w7.setCell ⟨B3,2,none⟩ (.slice ab3 (j+1) c3)) (w.heap.size+1) (.slice (some ⟨g,0,none⟩) (n+1) cp) ((v :: ps).map bA)):=World.ownsRow.kept S7.out (grownBy_setCell _ _ _ _) (.inr (fun e=>by
         have h1:g=B3:=Option.some.inj e
         have:=HgB.out
         omega))
        generalize w7.setCell ⟨B3,2,none⟩ (.slice ab3 (j+1) c3)=w8 at *
        go_wp2_with fail
        go_roundw
        case rel=>exact ⟨j+1,_,ab3,c3,⟨by have:=HGo.out; omega,by have:=HGo.out; omega⟩,num_eq (by omega),HP1.out _,HNx.out _,J8.out,R8.out,S8.out⟩
        case measure=>simp <;> omega))
     ·skip
      have HE:Hid (P.map (·.1)=(q.take 66).map gsA):=by
       show _=_
       rw [HPm.out]
       by_cases h66:j=66
       ·rw [h66]
       ·have hjl:j=lq:=by omega
        rw [List.take_of_length_le (by rw [HLq ()]; omega),List.take_of_length_le (by rw [HLq ()]; omega)]
      have HAg:Hid (AgsF wr (B3+1) (.slice ab j c) (stG L).ags):=by
       have h:=HA.out.told
       rw [HE.out] at h
       show AgsF _ _ _ _
       rw [HSq.out]
       exact h
      have HNm:Hid ((stG L).vb=bA v∧(stG L).nm=nm∧(stG L).ags.length=j):=by
       have h:=HSq.out
       have h2:=congrArg List.length HE.out
       rw [List.length_map,HPl.out] at h2
       refine ⟨by rw [h],by rw [h],?_⟩
       rw [h]
       exact h2.symm
      have HSt:Hid (Stv wr (.agg #[.string (bA v),.string nm,.slice ab j c]) (stG L)):=⟨_,by rw [HNm.out.1,HNm.out.2.1],HAg.out.args⟩
      have HLw:=HLn.out wr _ HJ.out.g HSt.out
      have hsplit:2+j=n+1∨(2+j < n+1∧j=66):=by omega
      have HCase:Hid ((okS (stG L)=false∧stU L=none)∨(okS (stG L)=true∧((lnB (stG L)=bA L∧stU L=some (stG L))∨(¬ lnB (stG L)=bA L∧stU L=none)))):=by
       have h:=HEnd.out
       show _∨_
       cases hok:okS (stG L)
       ·rw [hok,if_neg (by simp)] at h
        exact .inl ⟨rfl,h⟩
       ·rw [hok] at h
        refine .inr ⟨rfl,?_⟩
        by_cases hl:lnB (stG L)=bA L
        ·rw [if_pos ⟨rfl,by rw [hl,bA_list]⟩] at h
         exact .inl ⟨hl,h⟩
        ·rw [if_neg (fun h2=>hl ((bA_of _).symm.trans (congrArg bA h2.2)))] at h
         exact .inr ⟨hl,h⟩
      clear hgo
      rcases hsplit with hs | ⟨hs,h66⟩
      case' inl =>
       have hb1:decide ((2:Int)+(j:Int) < (n:Int)+1)=false:=decide_eq_false (by omega)
       have hb2:¬ 2+j < n+1:=by omega
       have hb3:¬ ((2:Int)+(j:Int) < (n:Int)+1):=by omega
       clear hs
      case' inr =>
       have hb1:(2:Int)+(j:Int) < (n:Int)+1:=by omega
       have hb2:decide ((j:Int) < 66)=false:=decide_eq_false (by omega)
       have hb3:¬ j < 66:=by omega
       clear h66 hs
      all_goals (
       go_upto_region 11 with fail
       clear b0 b1 b2
       have b0:=HJ.out.d.c0
       have b1:=HJ.out.d.c1
       have b2:=HJ.out.d.c2
       rcases HCase.out with ⟨hok,hU⟩ | ⟨hok,⟨hl,hU⟩ | ⟨hl,hU⟩⟩
       case' inl =>
        have HR4:Hid (∀ w' base,rdA L w' base (.returned (.tuple #[.agg #[.string eS,.string eS,.slice none 0 0],.int .i64 400]))):=fun w' base=>by
         unfold rdA
         rw [hU]
        have e1:lineB (stG L)=eS:=by
         unfold lineB
         rw [if_neg (by rw [hok]; simp)]
        have e2:chkS (stG L)=2:=by
         unfold chkS
         rw [hok]
         rfl
        rw [e1,e2] at HLw
       case' inr.inr =>
        have HR4:Hid (∀ w' base,rdA L w' base (.returned (.tuple #[.agg #[.string eS,.string eS,.slice none 0 0],.int .i64 400]))):=fun w' base=>by
         unfold rdA
         rw [hU]
        have e1:lineB (stG L)=lnB (stG L):=by
         unfold lineB
         rw [if_pos hok]
        have e2:chkS (stG L)=0:=by
         unfold chkS
         rw [hok]
         rfl
        rw [e1,e2] at HLw
        have hne:((lnB (stG L)).toList == (bA L).toList)=false:=by
         rw [beq_eq_false_iff_ne]
         intro h
         rw [ByteArray.toList_eq,ByteArray.toList_eq] at h
         exact hl (ba_eq h)
        generalize lnB (stG L)=back at *
       case' inr.inl =>
        have HR4:Hid (∀ w' base,AgsF w' base (.slice ab j c) (stG L).ags→rdA L w' base (.returned (.tuple #[.agg #[.string (bA v),.string nm,.slice ab j c],.int .i64 0]))):=fun w' base h=>by
         unfold rdA
         rw [hU]
         exact ⟨ab,c,by rw [HNm.out.1,HNm.out.2.1,HNm.out.2.2],by rw [HNm.out.2.2]; exact h⟩
        have e1:lineB (stG L)=bA L:=by
         unfold lineB
         rw [if_pos hok,hl]
        have e2:chkS (stG L)=0:=by
         unfold chkS
         rw [hok]
         rfl
        rw [e1,e2] at HLw
        have hne:((bA L).toList == (bA L).toList)=true:=by simp
       all_goals (
        clear hok hU
        go_wp2_with fail
        refine HLw.mono ?_
        rintro e w9 ⟨rfl,g9⟩
        have J9:=HJ.out.kept g9
        have z0:w9.cell? ⟨w.heap.size,0,none⟩=some (.string eS):=by simp only [World.cell?,J9.r]; rfl
        have z1:w9.cell? ⟨w.heap.size,1,none⟩=some (.string eS):=by simp only [World.cell?,J9.r]; rfl
        have z2:w9.cell? ⟨w.heap.size,2,none⟩=some (.slice none 0 0):=by simp only [World.cell?,J9.r]; rfl
        have y0:w9.frozen? ⟨w.heap.size,0,none⟩=false:=by simp only [World.frozen?,J9.r]; rfl
        have y1:w9.frozen? ⟨w.heap.size,1,none⟩=false:=by simp only [World.frozen?,J9.r]; rfl
        have y2:w9.frozen? ⟨w.heap.size,2,none⟩=false:=by simp only [World.frozen?,J9.r]; rfl
        have c0:=J9.d.c0
        have c1:=J9.d.c1
        have c2:=J9.d.c2
        have G9:Hid (w.grownBy w9 none):=J9.g
        have JR:Hid (w9.heap[w.heap.size]?=some stZ):=J9.r
        have HA9:Hid (AgsF w9 (B3+1) (.slice ab j c) (stG L).ags):=HAg.out.kept g9
        have H5:Hid ((((w9.setCell ⟨w.heap.size,0,none⟩ (.string eS)).setCell ⟨w.heap.size,1,none⟩ (.string eS)).setCell ⟨w.heap.size,2,none⟩ (.slice none 0 0)).heap[w.heap.size]?=some (.cells #[.string eS,.string eS,.slice none 0 0] 24)):=by
         have h:=JR.out
         show _=_
         simp [World.setCell,Array.getElem?_modify,h]
        have H6:Hid ((((w9.setCell ⟨w.heap.size,0,none⟩ (.string (bA v))).setCell ⟨w.heap.size,1,none⟩ (.string nm)).setCell ⟨w.heap.size,2,none⟩ (.slice ab j c)).heap[w.heap.size]?=some (.cells #[.string (bA v),.string nm,.slice ab j c] 24)):=by
         have h:=JR.out
         show _=_
         simp [World.setCell,Array.getElem?_modify,h]
        clear g9 J9
        go_wp2_with fail
        first
         |(refine bodyPost_ret (res_cellSt_tmp rfl _ _ w.heap.size _ (.string eS) (.string eS) (.slice none 0 0) _ rfl H5.out) rfl ?_
           exact ⟨HR4.out _ _,grown_set (grown_set (grown_set G9.out (Nat.le_refl _)) (Nat.le_refl _)) (Nat.le_refl _)⟩)
         |(refine bodyPost_ret (res_cellSt_tmp rfl _ _ w.heap.size _ (.string (bA v)) (.string nm) (.slice ab j c) _ rfl H6.out) rfl ?_
           exact ⟨HR4.out _ _ ((HA9.out.mono (by have:=HJ.out.b; omega)).moved (fun k hk=>by
            have e1:¬ w.heap.size=k:=by omega
            simp [World.setCell,Array.getElem?_modify,e1])),grown_set (grown_set (grown_set G9.out (Nat.le_refl _)) (Nat.le_refl _)) (Nat.le_refl _)⟩)))
   ·have h61p:¬ ((bA p)[0].toNat:Int)=61:=fun h=>by
      apply h61
      rw [List.head?_eq_getElem?,hx]
      congr 1
      apply UInt8.toNat_inj.1
      have:(61:UInt8).toNat=61:=by decide
      omega
    have HSG2:Hid (stG L=⟨bA v,eS,(ps.take 66).map gsA⟩):=by
     show _=_
     rw [HSG.out,if_neg]
     rintro ⟨h,_⟩
     rw [hps2] at h
     exact h61 h
    clear hps hx0 hps2 hm hpm hx h61
    generalize bA p=sp at *
    go_upto_region 7 with fail
    generalize (sp[0].toNat:Int)=x61 at *
    have hx61:(x61 == 61)=false:=by
     first
      |assumption
      |exact beq_eq_false_iff_ne.2 h61p
    clear hs1 hs1I hpz
    simp only [hx61]
    clear hx61 h61p
    obtain ⟨nm,fr,q,HD,HSq,HSp,HfrI⟩:∃ (nm:ByteArray) (fr:Nat) (q:List (List UInt8)),Hid (RJ w w2 B3 (bA v) nm (.slice none 0 0))∧Hid (stG L=⟨bA v,nm,(q.take 66).map gsA⟩)∧Hid (q=(v :: ps).drop fr∧fr+q.length=n+1∧∀ x∈q,x∈ps)∧fr=1:=⟨eS,1,ps,H2,HSG2,⟨rfl,by have:=HLn2 (); omega,fun x hx=>hx⟩,rfl⟩
    have hfr:(fr:Int)=1:=by omega
    have hfrN:Unit→fr=1:=fun _=>HfrI
    have RZ:=R2
    generalize hwz:w2=wz at *
    clear hwz H2 HSG2 R2 HfrI hxt hp3 l1
    have HQ1:=HSp.out.1
    have HQ:Hid (∀ j x,q[j]?=some x→((v :: ps).map bA)[fr+j]?=some (bA x)):=fun j x hx=>by
     rw [HQ1,List.getElem?_drop] at hx
     rw [List.getElem?_map,hx]
     rfl
    have HQin:Hid (∀ x∈q,∀ W,Calls Tryz.prog 48 #[.string (bA x)] W fun e w'=>gsQ x w' W.heap.size e∧W.grownBy w' none):=fun x hx=>HGs2.out x (HSp.out.2.2 x hx)
    have hql:=HSp.out.2.1
    obtain ⟨lq,hlq⟩:∃ lq,q.length=lq:=⟨_,rfl⟩
    have HLq:Unit→q.length=lq:=fun _=>hlq
    rw [hlq] at hql
    have hqlI:(fr:Int)+lq=(n:Int)+1:=by omega
    clear HQ1 hlq HSp HGs2 HPs HTail HSG HLn2
    go_wp2_with fail
    have HA0:Hid (RowA wz (B3+1) (.slice none 0 0) []):=RowA.nil _ _
    go_loopw [7] (fun s7 wr=>∃ (j:Nat) (P:List (Ag × Value)) (ab:Option Addr) (c:Nat),(j≤lq∧j≤66)∧s7=.int .i64 ((fr+j:Nat):Int)∧P.length=j∧P.map (·.1)=(q.take j).map gsA∧RJ w wr B3 (bA v) nm (.slice ab j c)∧RowA wr (B3+1) (.slice ab j c) P∧RowS wr (w.heap.size+1) (.slice (some ⟨g,0,none⟩) (n+1) cp) ((v :: ps).map bA)) (fun s7 _=>match s7 with | .int _ i=>n+1 - i.toNat | _=>0)
    case atStart=>exact ⟨0,[],none,0,⟨by omega,by omega⟩,num_eq (by omega),rfl,rfl,HD.out,HA0.out,RZ.out⟩
    case round =>
     obtain ⟨j,P,ab,c,⟨hj,hj66⟩,rfl,hPl,hPm,hJ,hA,hR⟩:=hrel
     have HPl:Hid (P.length=j):=hPl
     have HPm:Hid (P.map (·.1)=(q.take j).map gsA):=hPm
     have HJ:Hid (RJ w wr B3 (bA v) nm (.slice ab j c)):=hJ
     have HA:Hid (RowA wr (B3+1) (.slice ab j c) P):=hA
     have HR:Hid (RowS wr (w.heap.size+1) (.slice (some ⟨g,0,none⟩) (n+1) cp) ((v :: ps).map bA)):=hR
     have HNE:Hid ((Value.slice ab j c).ownBlock≠some g):=RowS.ne_ag hA hR
     have b0:=hJ.d.c0
     have b1:=hJ.d.c1
     have b2:=hJ.d.c2
     have hjI:(j:Int)≤66:=by omega
     clear hPl hPm hJ hA hR HA0 HD RZ
     by_cases hgo:j < lq∧j < 66
     ·obtain ⟨x,hx⟩:∃ x,q[j]?=some x:=⟨_,List.getElem?_eq_getElem (by rw [HLq ()]; exact hgo.1)⟩
      have HC:=HQin.out x (List.mem_of_getElem? hx)
      have l0:wr.cell? ⟨g,fr+j,none⟩=some (.string (bA x)):=RowS.cell HR.out (fr+j) (bA x) (HQ.out j x hx)
      have hlt1:((fr+j:Nat):Int) < ((n+1:Nat):Int):=by omega
      have hlt2:(j:Int) < 66:=by omega
      have HNx:Hid (∀ u:Value,(P++[(gsA x,u)]).map (·.1)=(q.take (j+1)).map gsA):=fun u=>by
       have e:q.take (j+1)=q.take j++q[j]?.toList:=List.take_add_one
       rw [List.map_append,HPm.out,e,hx]
       simp
      have HP1:Hid (∀ u:Value,(P++[(gsA x,u)]).length=j+1):=fun u=>by
       rw [List.length_append,HPl.out]
       rfl
      have HGo:Hid (j < lq∧j < 66):=hgo
      have HgsQ:Hid (∀ w' base e,gsQ x w' base e→∃ ab n c,e=.returned (agv (gsA x) (.slice ab n c))∧OwI w' base (.slice ab n c) (gsA x).wd):=fun _ _ _ h=>h
      clear hx hgo
      generalize bA x=sx at *
      generalize gsQ x=QX at *
      rw [hfrN ()] at l0
      have l0':wr.cell? ⟨g,0+(1+j),none⟩=some (.string sx):=by rw [Nat.zero_add]; exact l0
      have hi0:(0:Int)≤1+(j:Int):=by omega
      have hi1:(1:Int)+(j:Int) < (n:Int)+1:=by have:=HGo.out; omega
      have hi3:1+j < n+1:=by omega
      have hi2:((1:Int)+(j:Int)).toNat=1+j:=by omega
      go_upto_region 10 with fail
      all_goals (
       go_region_law (first
        |(refine step_append_arg rfl _ _ rfl (B3+1) (.slice ab j c) P rfl (R6.out.kept0 (grow1 _ _)) (gsA x) ab2 n2 c2 w6.heap.size rfl (heap_alloc_new _ _) (O6.out.kept0 (grow1 _ _)) (by have:=HPl.out; omega) (by have:=heap_lt J6.out.d; simp; omega) ?_
          intro v7 w7 hR7 hg7
          obtain ⟨ab3,c3,rfl⟩:=hR7.form
          rw [HP1.out] at hR7 ⊢
          have R7:Hid (RowA w7 (B3+1) (.slice ab3 (j+1) c3) (P++[(gsA x,.slice ab2 n2 c2)])):=hR7
          have G7:Hid (w.grownBy w7 none):=grownBy_rowA (grownBy_trans J6.out.g (grow1 _ _)) (R6.out.kept0 (grow1 _ _)) (by have:=J6.out.b; omega) hg7
          have D7:Hid (DB w7 B3 (bA v) nm (.slice ab j c)):=(J6.out.d.kept (grow1 _ _) (by simp)).kept hg7 (HA.out.ne (by omega))
          have Z7:Hid (w7.heap[w.heap.size]?=some stZ):=(hg7.block _ (by have:=heap_lt J6.out.r; simp; omega) (fun e=>HA.out.ne (k:=w.heap.size) (by have:=HJ.out.b; omega) e.symm)).trans (((grow1 w6 _).block _ (heap_lt J6.out.r) (by simp)).trans J6.out.r)
          have S7:Hid (RowS w7 (w.heap.size+1) (.slice (some ⟨g,0,none⟩) (n+1) cp) ((v :: ps).map bA)):=World.ownsRow.kept (T6.out.kept (grow1 _ _)) hg7 (.inr (fun e=>HNE.out (by rw [← e]; rfl)))
          have k8:=D7.out.c2
          have y8:=D7.out.fr 2
          clear hR7 hg7)
        |(go_simp
          go_at_call 48
          refine (HC _).mono ?_
          rintro e w6 ⟨hQ,hg6⟩
          obtain ⟨ab2,n2,c2,rfl,hO⟩:=HgsQ.out _ _ _ hQ
          have g6:wr.grownBy w6 none:=by
           first | exact hg6 | exact grownBy_undrew hg6
          have J6:Hid (RJ w w6 B3 (bA v) nm (.slice ab j c)):=HJ.out.kept g6
          have R6:Hid (RowA w6 (B3+1) (.slice ab j c) P):=HA.out.kept0 g6
          have T6:Hid (RowS w6 (w.heap.size+1) (.slice (some ⟨g,0,none⟩) (n+1) cp) ((v :: ps).map bA)):=HR.out.kept g6
          have O6:Hid (OwI w6 (B3+1) (.slice ab2 n2 c2) (gsA x).wd):=hO.mono (by have:=heap_lt HJ.out.d; simp; omega)
          have k6:=J6.out.d.c2
          have k7:=(J6.out.d.kept (grow1 w6 (.cells (agc (gsA x) (.slice ab2 n2 c2)) 45)) (by simp)).c2
          clear hQ hO hg6 g6
          dsimp only))
       all_goals (
        have J8:Hid (RJ w (w7.setCell ⟨B3,2,none⟩ (.slice ab3 (j+1) c3)) B3 (bA v) nm (.slice ab3 (j+1) c3)) :=
         ⟨by
          have h1:=Z7.out
          have hb:=HJ.out.b
          have e1:¬ (B3=w.heap.size):=by omega
          simp [World.setCell,Array.getElem?_modify,h1,e1],D7.out.put2 _,HJ.out.b,grown_set G7.out (by have:=HJ.out.b; omega)⟩
        have R8:Hid (RowA (w7.setCell ⟨B3,2,none⟩ (.slice ab3 (j+1) c3)) (B3+1) (.slice ab3 (j+1) c3) (P++[(gsA x,.slice ab2 n2 c2)])):=R7.out.keptB (by omega) (grownBy_setCell _ _ _ _)
        have S8:Hid (RowS (w7.setCell ⟨B3,2,none⟩ (.slice ab3 (j+1) c3)) (w.heap.size+1) (.slice (some ⟨g,0,none⟩) (n+1) cp) ((v :: ps).map bA)):=World.ownsRow.kept S7.out (grownBy_setCell _ _ _ _) (.inr (fun e=>by
         have h1:g=B3:=Option.some.inj e
         have:=HgB.out
         omega))
        generalize w7.setCell ⟨B3,2,none⟩ (.slice ab3 (j+1) c3)=w8 at *
        go_wp2_with fail
        go_roundw
        case rel=>exact ⟨j+1,_,ab3,c3,⟨by have:=HGo.out; omega,by have:=HGo.out; omega⟩,num_eq (by omega),HP1.out _,HNx.out _,J8.out,R8.out,S8.out⟩
        case measure=>simp <;> omega))
     ·skip
      have HE:Hid (P.map (·.1)=(q.take 66).map gsA):=by
       show _=_
       rw [HPm.out]
       by_cases h66:j=66
       ·rw [h66]
       ·have hjl:j=lq:=by omega
        rw [List.take_of_length_le (by rw [HLq ()]; omega),List.take_of_length_le (by rw [HLq ()]; omega)]
      have HAg:Hid (AgsF wr (B3+1) (.slice ab j c) (stG L).ags):=by
       have h:=HA.out.told
       rw [HE.out] at h
       show AgsF _ _ _ _
       rw [HSq.out]
       exact h
      have HNm:Hid ((stG L).vb=bA v∧(stG L).nm=nm∧(stG L).ags.length=j):=by
       have h:=HSq.out
       have h2:=congrArg List.length HE.out
       rw [List.length_map,HPl.out] at h2
       refine ⟨by rw [h],by rw [h],?_⟩
       rw [h]
       exact h2.symm
      have HSt:Hid (Stv wr (.agg #[.string (bA v),.string nm,.slice ab j c]) (stG L)):=⟨_,by rw [HNm.out.1,HNm.out.2.1],HAg.out.args⟩
      have HLw:=HLn.out wr _ HJ.out.g HSt.out
      have hsplit:1+j=n+1∨(1+j < n+1∧j=66):=by omega
      have HCase:Hid ((okS (stG L)=false∧stU L=none)∨(okS (stG L)=true∧((lnB (stG L)=bA L∧stU L=some (stG L))∨(¬ lnB (stG L)=bA L∧stU L=none)))):=by
       have h:=HEnd.out
       show _∨_
       cases hok:okS (stG L)
       ·rw [hok,if_neg (by simp)] at h
        exact .inl ⟨rfl,h⟩
       ·rw [hok] at h
        refine .inr ⟨rfl,?_⟩
        by_cases hl:lnB (stG L)=bA L
        ·rw [if_pos ⟨rfl,by rw [hl,bA_list]⟩] at h
         exact .inl ⟨hl,h⟩
        ·rw [if_neg (fun h2=>hl ((bA_of _).symm.trans (congrArg bA h2.2)))] at h
         exact .inr ⟨hl,h⟩
      clear hgo
      rcases hsplit with hs | ⟨hs,h66⟩
      case' inl =>
       have hb1:decide ((1:Int)+(j:Int) < (n:Int)+1)=false:=decide_eq_false (by omega)
       have hb2:¬ 1+j < n+1:=by omega
       have hb3:¬ ((1:Int)+(j:Int) < (n:Int)+1):=by omega
       clear hs
      case' inr =>
       have hb1:(1:Int)+(j:Int) < (n:Int)+1:=by omega
       have hb2:decide ((j:Int) < 66)=false:=decide_eq_false (by omega)
       have hb3:¬ j < 66:=by omega
       clear h66 hs
      all_goals (
       go_upto_region 11 with fail
       clear b0 b1 b2
       have b0:=HJ.out.d.c0
       have b1:=HJ.out.d.c1
       have b2:=HJ.out.d.c2
       rcases HCase.out with ⟨hok,hU⟩ | ⟨hok,⟨hl,hU⟩ | ⟨hl,hU⟩⟩
       case' inl =>
        have HR4:Hid (∀ w' base,rdA L w' base (.returned (.tuple #[.agg #[.string eS,.string eS,.slice none 0 0],.int .i64 400]))):=fun w' base=>by
         unfold rdA
         rw [hU]
        have e1:lineB (stG L)=eS:=by
         unfold lineB
         rw [if_neg (by rw [hok]; simp)]
        have e2:chkS (stG L)=2:=by
         unfold chkS
         rw [hok]
         rfl
        rw [e1,e2] at HLw
       case' inr.inr =>
        have HR4:Hid (∀ w' base,rdA L w' base (.returned (.tuple #[.agg #[.string eS,.string eS,.slice none 0 0],.int .i64 400]))):=fun w' base=>by
         unfold rdA
         rw [hU]
        have e1:lineB (stG L)=lnB (stG L):=by
         unfold lineB
         rw [if_pos hok]
        have e2:chkS (stG L)=0:=by
         unfold chkS
         rw [hok]
         rfl
        rw [e1,e2] at HLw
        have hne:((lnB (stG L)).toList == (bA L).toList)=false:=by
         rw [beq_eq_false_iff_ne]
         intro h
         rw [ByteArray.toList_eq,ByteArray.toList_eq] at h
         exact hl (ba_eq h)
        generalize lnB (stG L)=back at *
       case' inr.inl =>
        have HR4:Hid (∀ w' base,AgsF w' base (.slice ab j c) (stG L).ags→rdA L w' base (.returned (.tuple #[.agg #[.string (bA v),.string nm,.slice ab j c],.int .i64 0]))):=fun w' base h=>by
         unfold rdA
         rw [hU]
         exact ⟨ab,c,by rw [HNm.out.1,HNm.out.2.1,HNm.out.2.2],by rw [HNm.out.2.2]; exact h⟩
        have e1:lineB (stG L)=bA L:=by
         unfold lineB
         rw [if_pos hok,hl]
        have e2:chkS (stG L)=0:=by
         unfold chkS
         rw [hok]
         rfl
        rw [e1,e2] at HLw
        have hne:((bA L).toList == (bA L).toList)=true:=by simp
       all_goals (
        clear hok hU
        go_wp2_with fail
        refine HLw.mono ?_
        rintro e w9 ⟨rfl,g9⟩
        have J9:=HJ.out.kept g9
        have z0:w9.cell? ⟨w.heap.size,0,none⟩=some (.string eS):=by simp only [World.cell?,J9.r]; rfl
        have z1:w9.cell? ⟨w.heap.size,1,none⟩=some (.string eS):=by simp only [World.cell?,J9.r]; rfl
        have z2:w9.cell? ⟨w.heap.size,2,none⟩=some (.slice none 0 0):=by simp only [World.cell?,J9.r]; rfl
        have y0:w9.frozen? ⟨w.heap.size,0,none⟩=false:=by simp only [World.frozen?,J9.r]; rfl
        have y1:w9.frozen? ⟨w.heap.size,1,none⟩=false:=by simp only [World.frozen?,J9.r]; rfl
        have y2:w9.frozen? ⟨w.heap.size,2,none⟩=false:=by simp only [World.frozen?,J9.r]; rfl
        have c0:=J9.d.c0
        have c1:=J9.d.c1
        have c2:=J9.d.c2
        have G9:Hid (w.grownBy w9 none):=J9.g
        have JR:Hid (w9.heap[w.heap.size]?=some stZ):=J9.r
        have HA9:Hid (AgsF w9 (B3+1) (.slice ab j c) (stG L).ags):=HAg.out.kept g9
        have H5:Hid ((((w9.setCell ⟨w.heap.size,0,none⟩ (.string eS)).setCell ⟨w.heap.size,1,none⟩ (.string eS)).setCell ⟨w.heap.size,2,none⟩ (.slice none 0 0)).heap[w.heap.size]?=some (.cells #[.string eS,.string eS,.slice none 0 0] 24)):=by
         have h:=JR.out
         show _=_
         simp [World.setCell,Array.getElem?_modify,h]
        have H6:Hid ((((w9.setCell ⟨w.heap.size,0,none⟩ (.string (bA v))).setCell ⟨w.heap.size,1,none⟩ (.string nm)).setCell ⟨w.heap.size,2,none⟩ (.slice ab j c)).heap[w.heap.size]?=some (.cells #[.string (bA v),.string nm,.slice ab j c] 24)):=by
         have h:=JR.out
         show _=_
         simp [World.setCell,Array.getElem?_modify,h]
        clear g9 J9
        go_wp2_with fail
        first
         |(refine bodyPost_ret (res_cellSt_tmp rfl _ _ w.heap.size _ (.string eS) (.string eS) (.slice none 0 0) _ rfl H5.out) rfl ?_
           exact ⟨HR4.out _ _,grown_set (grown_set (grown_set G9.out (Nat.le_refl _)) (Nat.le_refl _)) (Nat.le_refl _)⟩)
         |(refine bodyPost_ret (res_cellSt_tmp rfl _ _ w.heap.size _ (.string (bA v)) (.string nm) (.slice ab j c) _ rfl H6.out) rfl ?_
           exact ⟨HR4.out _ _ ((HA9.out.mono (by have:=HJ.out.b; omega)).moved (fun k hk=>by
            have e1:¬ w.heap.size=k:=by omega
            simp [World.setCell,Array.getElem?_modify,e1])),grown_set (grown_set (grown_set G9.out (Nat.le_refl _)) (Nat.le_refl _)) (Nat.le_refl _)⟩)))
end Go.Proofs.YtdcadiaeaclpgaaGreatDoor
