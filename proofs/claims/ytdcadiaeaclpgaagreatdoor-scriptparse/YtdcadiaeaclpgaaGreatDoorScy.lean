/- The document's SameStmt. -/
import Derived.Test.YtdcadiaeaclpgaaGreatDoorBunScs
namespace Go.Proofs.YtdcadiaeaclpgaaGreatDoor
open Go.RowKit Go.Lib Go.Sort
set_option linter.unusedVariables false
set_option linter.unusedSimpArgs false
set_option maxHeartbeats 12800000
set_option maxRecDepth 1000000
theorem VI (w:World) (u v:Value) (s t:St) (hu:Stv w u s) (hv:Stv w v t) (fs:s.Fit) (ft:t.Fit) :
    Calls Tryz.prog 14 #[u,v] w fun e w'=>e=.returned (.bool (s.eqb t))∧w.grownBy w' none:=by
 obtain⟨u,rfl,hA⟩:=hu
 obtain⟨v,rfl,hB⟩:=hv
 have HQ:Hid (s.eqb t=(decide (s.vb=t.vb) && (decide (s.nm=t.nm) && eqAs s.ags t.ags))):=rfl
 obtain⟨ab,c,rfl,HR⟩:=hA.reads
 obtain⟨ab2,c2,rfl,HR'⟩:=hB.reads
 have HFA:Hid (∀a∈s.ags,a.Fit):=fs.ags
 have HFB:Hid (∀a∈t.ags,a.Fit):=ft.ags
 have hl1:=fs.len
 have hl2:=ft.len
 obtain⟨a1,b1,A⟩:=s
 obtain⟨a2,b2,B⟩:=t
 simp only at HR HR' HQ HFA HFB hl1 hl2 ⊢
 clear hA hB fs ft
 generalize St.eqb _ _=q at *
 have HN2:Hid (a1≠a2∨b1≠b2∨A.length≠B.length→q=false):=fun h=>by
  rw [HQ.out]
  rcases h with h|h|h
  ·simp [h]
  ·simp [h]
  ·simp [ZeU h]
 by_cases h1:a1=a2
 ·by_cases h2:b1=b2
  ·by_cases h3:A.length=B.length
   ·subst h1 h2
    have HQ2:Hid (q=eqAs A B):=by
     show _=_
     rw [HQ.out]
     simp
    have HR1:Hid (∀w',w.grownBy w' none→∀i a,A[i]?=some a→∃B off wv,ab=some ⟨B,off,none⟩∧AgAt w' B (off+i*12) a wv∧Ints w' wv a.wd∧A.length≤c):=HR
    have HR2:Hid (∀w',w.grownBy w' none→∀i a,B[i]?=some a→∃B' off wv,ab2=some ⟨B',off,none⟩∧AgAt w' B' (off+i*12) a wv∧Ints w' wv a.wd∧B.length≤c2):=HR'
    obtain⟨n,hn⟩:∃n,A.length=n:=⟨_,rfl⟩
    have HN:Unit→A.length=n∧B.length=n:=fun _=>⟨hn,h3 ▸ hn⟩
    have hnI:(n:Int)≤1000000000000:=by omega
    rw [hn]at h3 ⊢
    rw [←h3]
    simp only [hn]at HR1
    simp only [←h3]at HR2
    clear HR HR' hl1 hl2 hn h3 HQ HN2
    go_enter Tryz.func14,Tryz.ntmps14
    go_wp2
    go_loopw [5] (fun s wr=>∃i:Nat,i≤n∧s=.int .i64 i∧(∀j,j<i→A[j]?=B[j]?)∧((w.alloc (sObj a1 b1 (.slice ab n c))).alloc (sObj a1 b1 (.slice ab2 n c2))).grownBy wr none) (fun s _=>match s with|.int _ i=>n-i.toNat|_=>0)
    case atStart=>exact⟨0,by omega,rfl,fun j hj=>by omega,grow0 _⟩
    case round =>
     obtain⟨i,hi,rfl,hp,hg⟩:=hrel
     have HP:Hid (∀j,j<i→A[j]?=B[j]?):=hp
     have HGb:Hid (((w.alloc (sObj a1 b1 (.slice ab n c))).alloc (sObj a1 b1 (.slice ab2 n c2))).grownBy wr none):=hg
     have HG:Hid (w.grownBy wr none):=Za (grow2 _ _ _) hg
     have s2:wr.cell? ⟨w.heap.size,2,none⟩=some (.slice ab n c):=UF (Za (grow1 _ _) hg)
     have t2:wr.cell? ⟨w.heap.size+1,2,none⟩=some (.slice ab2 n c2):=by
      have:=UF (w:=w.alloc (sObj a1 b1 (.slice ab n c))) hg
      simpa using this
     clear hp hg
     by_cases hlt:i<n
     ·obtain⟨x,hx⟩:∃x,A[i]?=some x:=⟨_,List.getElem?_eq_getElem (by rw [(HN ()).1];exact hlt)⟩
      obtain⟨y,hy⟩:∃y,B[i]?=some y:=⟨_,List.getElem?_eq_getElem (by rw [(HN ()).2];exact hlt)⟩
      obtain⟨B1,off,wv,rfl,hat,hin,hnc⟩:=HR1.out wr HG.out i x hx
      obtain⟨B2,off2,wv2,rfl,hat2,hin2,hnc2⟩:=HR2.out wr HG.out i y hy
      have hltI:(i:Int)<n:=by omega
      have HC:Hid (∀W,wr.grownBy W none→Calls Tryz.prog 36 #[agv x wv,agv y wv2] W fun e w'=>e=.returned (.bool (x.eqb y))∧W.grownBy w' none):=fun W hg=>ZX W x y wv wv2 (HFA.out x (List.mem_of_getElem? hx)) (HFB.out y (List.mem_of_getElem? hy)) (hin.kept hg) (hin2.kept hg)
      have HT:Hid (x.eqb y=true→∀j,j<i+1→A[j]?=B[j]?):=fun h j hj=>by
       rcases Nat.lt_or_ge j i with h1|h1
       ·exact HP.out j h1
       ·obtain rfl:j=i:=by omega
        rw [hx,hy,Ag.eqb_iff.1 h]
      have HX:Hid (x.eqb y=false→q=false):=fun h=>by
       rw [HQ2.out]
       cases hq:eqAs A B
       ·rfl
       ·have e:=XA.1 hq
        rw [e,hy]at hx
        obtain rfl:=Option.some.inj hx
        rw [Ag.eqb_iff.2 rfl]at h
        cases h
      generalize x.eqb y=bq at *
      obtain⟨ab3,c3,rfl⟩:=hin.form
      obtain⟨ab4,c4,rfl⟩:=hin2.form
      generalize x.wd.length=n3 at *
      generalize y.wd.length=n4 at *
      have HY:Hid (∀w',wr.grownBy w' none→w'.cell? ⟨w.heap.size,2,none⟩=some (.slice (some ⟨B1,off,none⟩) n c)∧w'.cell? ⟨w.heap.size+1,2,none⟩=some (.slice (some ⟨B2,off2,none⟩) n c2)∧w'.cell? ⟨B1,off+i*12,none⟩=some (.int .i64 x.k)∧w'.cell? ⟨B1,off+i*12+1,none⟩=some (.string x.nm)∧w'.cell? ⟨B1,off+i*12+2,none⟩=some (.bool x.z.a)∧w'.cell? ⟨B1,off+i*12+3,none⟩=some (.string x.z.b)∧w'.cell? ⟨B1,off+i*12+4,none⟩=some (.bool x.z.c)∧w'.cell? ⟨B1,off+i*12+5,none⟩=some (.string x.z.d)∧w'.cell? ⟨B1,off+i*12+6,none⟩=some (.bool x.z.e)∧w'.cell? ⟨B1,off+i*12+7,none⟩=some (.string x.z.f)∧w'.cell? ⟨B1,off+i*12+8,none⟩=some (.bool x.z.g)∧w'.cell? ⟨B1,off+i*12+9,none⟩=some (.string x.z.h)∧w'.cell? ⟨B1,off+i*12+10,none⟩=some (.slice ab3 n3 c3)∧w'.cell? ⟨B1,off+i*12+11,none⟩=some (.int .i64 x.ct)∧w'.cell? ⟨B2,off2+i*12,none⟩=some (.int .i64 y.k)∧w'.cell? ⟨B2,off2+i*12+1,none⟩=some (.string y.nm)∧w'.cell? ⟨B2,off2+i*12+2,none⟩=some (.bool y.z.a)∧w'.cell? ⟨B2,off2+i*12+3,none⟩=some (.string y.z.b)∧w'.cell? ⟨B2,off2+i*12+4,none⟩=some (.bool y.z.c)∧w'.cell? ⟨B2,off2+i*12+5,none⟩=some (.string y.z.d)∧w'.cell? ⟨B2,off2+i*12+6,none⟩=some (.bool y.z.e)∧w'.cell? ⟨B2,off2+i*12+7,none⟩=some (.string y.z.f)∧w'.cell? ⟨B2,off2+i*12+8,none⟩=some (.bool y.z.g)∧w'.cell? ⟨B2,off2+i*12+9,none⟩=some (.string y.z.h)∧w'.cell? ⟨B2,off2+i*12+10,none⟩=some (.slice ab4 n4 c4)∧w'.cell? ⟨B2,off2+i*12+11,none⟩=some (.int .i64 y.ct)):=fun w' h=>by
       obtain⟨k0,k1,k2,k3,k4,k5,k6,k7,k8,k9,k10,k11⟩:=hat.kept h (by simp)
       obtain⟨l0,l1,l2,l3,l4,l5,l6,l7,l8,l9,l10,l11⟩:=hat2.kept h (by simp)
       exact⟨Zd h s2 (by simp),Zd h t2 (by simp),k0,k1,k2,k3,k4,k5,k6,k7,k8,k9,k10,k11,l0,l1,l2,l3,l4,l5,l6,l7,l8,l9,l10,l11⟩
      clear hin hin2 hx hy hat hat2
      cases bq
      ·go_wp2_with fail
       obtain⟨m0,m1,k0,k1,k2,k3,k4,k5,k6,k7,k8,k9,k10,k11,l0,l1,l2,l3,l4,l5,l6,l7,l8,l9,l10,l11⟩:=HY.out _ (World.grownBy.refl _ _)
       go_region_held3 (fun w'=>w'.cell? ⟨w.heap.size,2,none⟩=some (.slice (some ⟨B1,off,none⟩) n c)∧w'.cell? ⟨w.heap.size+1,2,none⟩=some (.slice (some ⟨B2,off2,none⟩) n c2)∧w'.cell? ⟨B1,off+i*12,none⟩=some (.int .i64 x.k)∧w'.cell? ⟨B1,off+i*12+1,none⟩=some (.string x.nm)∧w'.cell? ⟨B1,off+i*12+2,none⟩=some (.bool x.z.a)∧w'.cell? ⟨B1,off+i*12+3,none⟩=some (.string x.z.b)∧w'.cell? ⟨B1,off+i*12+4,none⟩=some (.bool x.z.c)∧w'.cell? ⟨B1,off+i*12+5,none⟩=some (.string x.z.d)∧w'.cell? ⟨B1,off+i*12+6,none⟩=some (.bool x.z.e)∧w'.cell? ⟨B1,off+i*12+7,none⟩=some (.string x.z.f)∧w'.cell? ⟨B1,off+i*12+8,none⟩=some (.bool x.z.g)∧w'.cell? ⟨B1,off+i*12+9,none⟩=some (.string x.z.h)∧w'.cell? ⟨B1,off+i*12+10,none⟩=some (.slice ab3 n3 c3)∧w'.cell? ⟨B1,off+i*12+11,none⟩=some (.int .i64 x.ct)∧w'.cell? ⟨B2,off2+i*12,none⟩=some (.int .i64 y.k)∧w'.cell? ⟨B2,off2+i*12+1,none⟩=some (.string y.nm)∧w'.cell? ⟨B2,off2+i*12+2,none⟩=some (.bool y.z.a)∧w'.cell? ⟨B2,off2+i*12+3,none⟩=some (.string y.z.b)∧w'.cell? ⟨B2,off2+i*12+4,none⟩=some (.bool y.z.c)∧w'.cell? ⟨B2,off2+i*12+5,none⟩=some (.string y.z.d)∧w'.cell? ⟨B2,off2+i*12+6,none⟩=some (.bool y.z.e)∧w'.cell? ⟨B2,off2+i*12+7,none⟩=some (.string y.z.f)∧w'.cell? ⟨B2,off2+i*12+8,none⟩=some (.bool y.z.g)∧w'.cell? ⟨B2,off2+i*12+9,none⟩=some (.string y.z.h)∧w'.cell? ⟨B2,off2+i*12+10,none⟩=some (.slice ab4 n4 c4)∧w'.cell? ⟨B2,off2+i*12+11,none⟩=some (.int .i64 y.ct))
        (first|(go_keep;done)|with_reducible exact HY.out _ (by assumption)|with_reducible exact HY.out _ (Zf (World.grownBy.refl _ _))|fail)
        (first|(go_at_call 36;refine(HC.out _ (by first|exact grow0 _|exact Zf (grow0 _))).mono ?_;rintro e w1 ⟨rfl,g1⟩;have G1:wr.grownBy w1 none:=(by first|exact g1|exact Zj g1))|fail)
       all_goals (
        have HG1:Hid (w.grownBy w1 none):=Za HG.out G1
        clear m0 m1 k0 k1 k2 k3 k4 k5 k6 k7 k8 k9 k10 k11 l0 l1 l2 l3 l4 l5 l6 l7 l8 l9 l10 l11
        go_wp2_with fail
        go_ret
        exact⟨Zh (HX.out trivial).symm,HG1.out⟩)
      ·go_wp2_with fail
       obtain⟨m0,m1,k0,k1,k2,k3,k4,k5,k6,k7,k8,k9,k10,k11,l0,l1,l2,l3,l4,l5,l6,l7,l8,l9,l10,l11⟩:=HY.out _ (World.grownBy.refl _ _)
       go_region_held3 (fun w'=>w'.cell? ⟨w.heap.size,2,none⟩=some (.slice (some ⟨B1,off,none⟩) n c)∧w'.cell? ⟨w.heap.size+1,2,none⟩=some (.slice (some ⟨B2,off2,none⟩) n c2)∧w'.cell? ⟨B1,off+i*12,none⟩=some (.int .i64 x.k)∧w'.cell? ⟨B1,off+i*12+1,none⟩=some (.string x.nm)∧w'.cell? ⟨B1,off+i*12+2,none⟩=some (.bool x.z.a)∧w'.cell? ⟨B1,off+i*12+3,none⟩=some (.string x.z.b)∧w'.cell? ⟨B1,off+i*12+4,none⟩=some (.bool x.z.c)∧w'.cell? ⟨B1,off+i*12+5,none⟩=some (.string x.z.d)∧w'.cell? ⟨B1,off+i*12+6,none⟩=some (.bool x.z.e)∧w'.cell? ⟨B1,off+i*12+7,none⟩=some (.string x.z.f)∧w'.cell? ⟨B1,off+i*12+8,none⟩=some (.bool x.z.g)∧w'.cell? ⟨B1,off+i*12+9,none⟩=some (.string x.z.h)∧w'.cell? ⟨B1,off+i*12+10,none⟩=some (.slice ab3 n3 c3)∧w'.cell? ⟨B1,off+i*12+11,none⟩=some (.int .i64 x.ct)∧w'.cell? ⟨B2,off2+i*12,none⟩=some (.int .i64 y.k)∧w'.cell? ⟨B2,off2+i*12+1,none⟩=some (.string y.nm)∧w'.cell? ⟨B2,off2+i*12+2,none⟩=some (.bool y.z.a)∧w'.cell? ⟨B2,off2+i*12+3,none⟩=some (.string y.z.b)∧w'.cell? ⟨B2,off2+i*12+4,none⟩=some (.bool y.z.c)∧w'.cell? ⟨B2,off2+i*12+5,none⟩=some (.string y.z.d)∧w'.cell? ⟨B2,off2+i*12+6,none⟩=some (.bool y.z.e)∧w'.cell? ⟨B2,off2+i*12+7,none⟩=some (.string y.z.f)∧w'.cell? ⟨B2,off2+i*12+8,none⟩=some (.bool y.z.g)∧w'.cell? ⟨B2,off2+i*12+9,none⟩=some (.string y.z.h)∧w'.cell? ⟨B2,off2+i*12+10,none⟩=some (.slice ab4 n4 c4)∧w'.cell? ⟨B2,off2+i*12+11,none⟩=some (.int .i64 y.ct))
        (first|(go_keep;done)|with_reducible exact HY.out _ (by assumption)|with_reducible exact HY.out _ (Zf (World.grownBy.refl _ _))|fail)
        (first|(go_at_call 36;refine(HC.out _ (by first|exact grow0 _|exact Zf (grow0 _))).mono ?_;rintro e w1 ⟨rfl,g1⟩;have G1:wr.grownBy w1 none:=(by first|exact g1|exact Zj g1))|fail)
       all_goals (
        have HG1:Hid (((w.alloc (sObj a1 b1 (.slice (some ⟨B1,off,none⟩) n c))).alloc (sObj a1 b1 (.slice (some ⟨B2,off2,none⟩) n c2))).grownBy w1 none):=Za HGb.out G1
        clear m0 m1 k0 k1 k2 k3 k4 k5 k6 k7 k8 k9 k10 k11 l0 l1 l2 l3 l4 l5 l6 l7 l8 l9 l10 l11
        go_wp2_with fail
        exact⟨⟨i+1,by omega,Zl (by omega),HT.out trivial,HG1.out⟩,by simp;omega⟩)
     ·have e:i=n:=by omega
      subst e
      have HF:Hid (q=true):=by
       show _=_
       rw [HQ2.out]
       exact XA.2 (Ze6 (by rw [(HN ()).1,(HN ()).2]) (fun j hj=>HP.out j (by rw [(HN ()).1]at hj;exact hj)))
      go_wp2
      go_ret
      exact⟨Zh HF.out.symm,HG.out⟩
   ·have HF:Hid (q=false):=HN2.out (.inr (.inr h3))
    subst h1 h2
    obtain⟨p,hp⟩:∃p,A.length=p:=⟨_,rfl⟩
    obtain⟨r,hr⟩:∃r,B.length=r:=⟨_,rfl⟩
    rw [hp,hr]at h3 ⊢
    have hb:((p:Int) != (r:Int))=true:=by simpa using (show(p:Int)≠r by omega)
    clear HR HR' hl1 hl2 hp hr h3 HQ HN2
    go_enter Tryz.func14,Tryz.ntmps14
    go_wp2
    go_ret
    exact⟨Zh HF.out.symm,grow2 _ _ _⟩
  ·have HF:Hid (q=false):=HN2.out (.inr (.inl h2))
   subst h1
   have hne:¬b1.toList=b2.toList:=fun e=>h2 (YQ e)
   clear HR HR' hl1 hl2 h2 HQ HN2
   generalize A.length=p at *
   generalize B.length=r at *
   go_enter Tryz.func14,Tryz.ntmps14
   go_wp2_with fail
   go_ret
   exact⟨Zh HF.out.symm,grow2 _ _ _⟩
 ·have HF:Hid (q=false):=HN2.out (.inl h1)
  have hne:¬a1.toList=a2.toList:=fun e=>h1 (YQ e)
  clear HR HR' hl1 hl2 h1 HQ HN2
  generalize A.length=p at *
  generalize B.length=r at *
  go_enter Tryz.func14,Tryz.ntmps14
  go_wp2_with fail
  go_ret
  exact⟨Zh HF.out.symm,grow2 _ _ _⟩
end Go.Proofs.YtdcadiaeaclpgaaGreatDoor
