/- Lists of whole numbers: may they all be? The program's checkAll, the laws' bad. -/
import Derived.Test.YtdcadiaeaclpgaaGreatDoorBunWds
import Derived.Test.YtdcadiaeaclpgaaGreatDoorBunPrd
import Derived.Test.YtdcadiaeaclpgaaGreatDoorBunMor
namespace Go.Proofs.YtdcadiaeaclpgaaGreatDoor
open Go.RowKit Go.Lib Go.Sort
set_option maxHeartbeats 1600000
set_option maxRecDepth 1000000
def DW (w:World) (v:Value) (l:List (Bool × ByteArray)):Prop :=
 ∃B off c,v=.slice (some ⟨B,off,none⟩) l.length c∧l.length≤c∧∀j p,l[j]?=some p→w.cell? ⟨B,off+j*2,none⟩=some (.bool p.1)∧w.cell? ⟨B,off+j*2+1,none⟩=some (.string p.2)
theorem DW.kept {w w':World} {v:Value} {l:List (Bool × ByteArray)} (h:DW w v l) (hg:w.grownBy w' none):DW w' v l:=by
 obtain⟨B,off,c,rfl,hc,h⟩:=h
 exact⟨B,off,c,rfl,hc,fun j p hj=>⟨Zd hg (h j p hj).1 (by simp),Zd hg (h j p hj).2 (by simp)⟩⟩
def mayAll (l:List (Bool × ByteArray)):Bool:=l.all fun p=>may p.1 p.2
theorem Zal (l:List (Bool × ByteArray)) (k:Nat) (p:Bool × ByteArray) (h:l[k]?=some p):mayAll (l.take (k+1))=(mayAll (l.take k) && may p.1 p.2):=by
 rw [List.take_add_one,h]
 simp [mayAll,List.all_append]
theorem X4 (w:World) (v:Value) (l:List (Bool × ByteArray)) (h:DW w v l) (hl:l.length≤1000000000) (hs:∀p∈l,p.2.size≤maxLen) :
    Calls Tryz.prog 161 #[v] w fun e w'=>e=.returned (.int .i64 (if mayAll l=true then 0 else 2))∧w.grownBy w' none:=by
 obtain⟨B,off,c,rfl,hc,h⟩:=h
 have HC:Hid (∀j p,l[j]?=some p→w.cell? ⟨B,off+j*2,none⟩=some (.bool p.1)∧w.cell? ⟨B,off+j*2+1,none⟩=some (.string p.2)):=h
 obtain⟨n,hn⟩:∃n,l.length=n:=⟨_,rfl⟩
 have HN:Hid (l.length=n):=hn
 have HS:Hid (∀p∈l,p.2.size≤maxLen):=hs
 rw [hn]at hc hl ⊢
 have hlI:(n:Int)≤1000000000:=by omega
 obtain⟨R,hR⟩:∃R:Int,(if mayAll l=true then 0 else 2)=R:=⟨_,rfl⟩
 rw [hR]
 have HR1:mayAll l=true→R=0:=fun e=>by rw [←hR,if_pos e]
 have HR2:mayAll l=false→R=2:=fun e=>by rw [←hR,if_neg (by simp [e])]
 clear h hn hl hs hR
 go_enter Tryz.func161,Tryz.ntmps161
 go_wp2
 go_loopw [7] (fun s wr=>∃k,k≤n∧s=.int .i64 k∧mayAll (l.take k)=true∧w.grownBy wr none) (fun s _=>n-(RowKit.intOf s).toNat)
 case atStart=>exact⟨0,by omega,rfl,rfl,World.grownBy.refl _ _⟩
 case round =>
  obtain⟨k,hk,rfl,hm,hg⟩:=hrel
  have HM:Hid (mayAll (l.take k)=true):=hm
  have HG:Hid (w.grownBy wr none):=hg
  by_cases hk1:k<n
  ·have hkl:k<l.length:=by have:=HN.out;omega
   have hp:l[k]?=some l[k]:=List.getElem?_eq_getElem hkl
   have hcs:=HC.out k _ hp
   have hc1:=Zd hg hcs.1 (by simp)
   have hc2:=Zd hg hcs.2 (by simp)
   have hsz:=HS.out l[k] (List.getElem_mem hkl)
   have HT:Hid (mayAll (l.take (k+1))=(mayAll (l.take k) && may l[k].1 l[k].2)):=Zal l k _ hp
   have HL:Hid (mayAll l=false∨may l[k].1 l[k].2=true):=by
    cases hb:may l[k].1 l[k].2
    ·left
     have:mayAll l=false:=by
      unfold mayAll
      rw [List.all_eq_false]
      exact⟨l[k],List.getElem_mem hkl,by simp [hb]⟩
     exact this
    ·right;rfl
   generalize l[k]=p at *
   obtain⟨neg,mag⟩:=p
   clear hm hg hcs hp
   have hma:=fun w=>Yn neg mag hsz w
   cases hb:may neg mag
   ·rw [chk_no hb]at hma
    have HMA:Hid (∀w,Calls Tryz.prog 139 #[whole neg mag] w fun e w'=>e=.returned (.int .i64 2)∧w'=w.alloc (wObj neg mag)):=hma
    have hml:R=2:=by
     rcases HL.out with h|h
     ·exact HR2 h
     ·simp [hb]at h
    clear hma HR1 HR2
    go_wp2_with (go_at_call 139;refine(HMA.out _).mono ?_;rintro e w1 ⟨rfl,rfl⟩)
    go_ret
    exact⟨Zv (by rw [hml]),Za HG.out (grow2 _ _ _)⟩
   ·rw [VH hb]at hma
    have HMA:Hid (∀w,Calls Tryz.prog 139 #[whole neg mag] w fun e w'=>e=.returned (.int .i64 0)∧w'=w.alloc (wObj neg mag)):=hma
    clear hma
    go_wp2_with (go_at_call 139;refine(HMA.out _).mono ?_;rintro e w1 ⟨rfl,rfl⟩)
    go_roundw
    case rel=>exact⟨k+1,by omega,rfl,by rw [HT.out,HM.out,hb];rfl,Za HG.out (grow2 _ _ _)⟩
    case measure=>simp [RowKit.intOf];omega
  ·obtain rfl:k=n:=by omega
   have hml:R=0:=by
    apply HR1
    have:=HM.out
    rwa [←HN.out,List.take_length]at this
   clear hm hg HR1 HR2
   go_wp2
   go_ret
   exact⟨Zv (by rw [hml]),HG.out⟩
theorem Zj {a b:World} {row:Option Nat} (h:a.drew.grownBy b row):a.grownBy b row :=
 ⟨h.os,h.tape,h.output,h.size,fun i hi hn=>h.block i hi hn⟩
theorem Yp (w:World) (a b c:Obj):(((w.alloc a).alloc b).alloc c).heap[w.heap.size+2]?=some c:=by
 have h:=heap_alloc_new ((w.alloc a).alloc b) c
 rw [World.size_alloc,World.size_alloc]at h
 exact h
theorem Y2 (a b:Nat) (ha:a≤18446744073709551615) (hb:b≤18446744073709551615) (w:World) :
    Calls Tryz.prog 175 #[.int .u64 a,.int .u64 b] w fun e w'=>e=.returned (.int .u64 ((Nat.gcd a b:Nat):Int))∧w.grownBy w' none:=by
 obtain⟨g,hg⟩:∃g,Nat.gcd a b=g:=⟨_,rfl⟩
 rw [hg]
 have HG:Unit→Nat.gcd a b=g:=fun _=>hg
 clear hg
 go_enter Tryz.func175,Tryz.ntmps175
 go_wp2
 go_loopw [0,1] (fun s t wr=>∃(x y:Nat),s=.int .u64 x∧t=.int .u64 y∧x≤18446744073709551615∧y≤18446744073709551615∧Nat.gcd x y=g∧w.grownBy wr none) (fun _ t _=>(RowKit.intOf t).toNat)
 case atStart=>exact⟨a,b,rfl,rfl,ha,hb,HG (),World.grownBy.refl _ _⟩
 case round =>
  obtain⟨x,y,rfl,rfl,hx,hy,he,hgr⟩:=hrel
  have HE:Unit→Nat.gcd x y=g:=fun _=>he
  have HGr:Hid (w.grownBy wr none):=hgr
  clear he hgr
  by_cases hy0:y=0
  ·subst hy0
   have:x=g:=by rw [←HE (),Nat.gcd_zero_right]
   subst this
   go_wp2
   go_ret
   exact⟨rfl,HGr.out⟩
  ·have hyI:(0:Int)<y:=by omega
   have hne:((y:Int) == 0)=false:=by rw [beq_eq_false_iff_ne];omega
   go_wp2
   go_region
   go_wp2
   go_roundw
   case rel =>
    refine⟨y,x % y,rfl,Zl (by omega),hy,?_,?_,Zf HGr.out⟩
    ·have:=Nat.mod_lt x (show 0<y by omega)
     omega
    ·rw [←HE (),Nat.gcd_comm y,←Nat.gcd_rec,Nat.gcd_comm]
   case measure =>
    have:=Nat.mod_lt x (show 0<y by omega)
    simp [RowKit.intOf]
    omega
theorem Zek (n1 n2:Bool) (m1 m2:ByteArray) (h1:m1.size≤8) (h2:m2.size≤8) (w:World) :
    Calls Tryz.prog 162 #[whole n1 m1,whole n2 m2] w fun e w'=>∃s,e=.returned (whole false s)∧bN s=magN (Nat.gcd (val (bN m1)) (val (bN m2)))∧w.grownBy w' none:=by
 have v1:=Zbx h1
 have v2:=Zbx h2
 have g0:=fun w=>Y2 (val (bN m1)) (val (bN m2)) (by omega) (by omega) w
 have hgl:Nat.gcd (val (bN m1)) (val (bN m2))<18446744073709551616:=by
  rcases Nat.eq_zero_or_pos (val (bN m1))with h|h
  ·rw [h,Nat.gcd_zero_left];exact v2
  ·exact Nat.lt_of_le_of_lt (Nat.gcd_le_left _ h) v1
 have mg:=fun w=>YJ (Nat.gcd (val (bN m1)) (val (bN m2))) hgl w
 have G0:Hid (∀w,Calls Tryz.prog 175 #[.int .u64 (val (bN m1)),.int .u64 (val (bN m2))] w fun e w'=>e=.returned (.int .u64 ((Nat.gcd (val (bN m1)) (val (bN m2)):Nat):Int))∧w.grownBy w' none):=g0
 have MG:Hid (∀w,Calls Tryz.prog 163 #[.int .u64 ((Nat.gcd (val (bN m1)) (val (bN m2)):Nat):Int)] w fun e w'=>∃s,e=.returned (.string s)∧bN s=magN (Nat.gcd (val (bN m1)) (val (bN m2)))∧w.grownBy w' none):=mg
 clear g0 mg v1 v2 hgl
 generalize Nat.gcd (val (bN m1)) (val (bN m2))=g at *
 go_enter Tryz.func162,Tryz.ntmps162
 go_wp2_with fail
 have HKK:Hid (∀w',((w.alloc (wObj n1 m1)).alloc (wObj n2 m2)).grownBy w' none→w'.cell? ⟨w.heap.size,1,none⟩=some (Value.string m1)∧w'.cell? ⟨w.heap.size+1,1,none⟩=some (Value.string m2)∧((w.alloc (wObj n1 m1)).alloc (wObj n2 m2)).grownBy w' none) :=
  fun w' hg=>⟨Zd hg (WBlk.c1 (a:=.bool n1) (Zn _ _ (heap_alloc_new _ _))) (by simp),Zd hg (WBlk.c1 (a:=.bool n2) (heap_alloc2_new _ _ _)) (by simp),hg⟩
 go_region_held3 (fun w'=>w'.cell? ⟨w.heap.size,1,none⟩=some (Value.string m1)∧w'.cell? ⟨w.heap.size+1,1,none⟩=some (Value.string m2)∧((w.alloc (wObj n1 m1)).alloc (wObj n2 m2)).grownBy w' none) (first|(go_keep;done)|exact HKK.out _ (Zf (grow1 _ _))|exact HKK.out _ (Zb (Zb (Za (grow1 _ _) GM) (by simp)) (by simp))|exact HKK.out _ (Za (grow1 _ _) GM)|exact HKK.out _ (Za (grow1 _ _) GG)|fail) (first|(go_at_call 176;refine(Zci _ (by first|exact h1|exact h2) _).mono ?_;rintro e w' ⟨rfl,rfl⟩)|(go_at_call 175;refine(G0.out _).mono ?_;rintro e wG ⟨rfl,hgG⟩;have GG:((((w.alloc (wObj n1 m1)).alloc (wObj n2 m2)).alloc (wObj false eS))).grownBy wG none:=Zj hgG)|(go_at_call 163;refine(MG.out _).mono ?_;rintro e wM ⟨s,rfl,hs,hgM⟩;have GM:((((w.alloc (wObj n1 m1)).alloc (wObj n2 m2)).alloc (wObj false eS))).grownBy wM none:=Za GG hgM;have hW:WBlk wM (w.heap.size+2) (.bool false) (.string eS):=WBlk.kept (w:=(((w.alloc (wObj n1 m1)).alloc (wObj n2 m2)).alloc (wObj false eS))) (Yp _ _ _ _) GM (by simp);have hc0:=hW.c0;have hc1:=hW.c1;have hf0:=hW.fr 0;have hf1:=hW.fr 1)|fail)
 go_wp2_with fail
 refine bodyPost_ret (ZV rfl _ _ (w.heap.size+2) _ _ _ _ rfl (hW.put _ _)) rfl ?_
 exact⟨s,rfl,hs,Zb (Zb (Za (grow3 _ _ _ _) GM) (by omega)) (by omega)⟩
theorem ZcN {L:List Nat} {neg:Bool} {mag:ByteArray} (h:may neg mag=true) (hl:L.length=(mag.size+3) / 4) (hr:∀x∈L,x<B32) (hv:nv B32 L=val (bN mag)):Trim L:=by
 by_cases hp:mag.size=0
 ·left;omega
 ·right
  have h0:=Vk h (by omega)
  have h3:=U7 mag (by omega) h0
  obtain⟨k,hk⟩:∃k,L.length=k+1:=⟨L.length-1,by omega⟩
  have h1:=JJ B32 L k hk
  have h2:=nv_lt B32 (L.take k) (fun x hx=>hr x (List.mem_of_mem_take hx))
  rw [List.length_take,Nat.min_eq_left (by omega)]at h2
  rw [hk,Nat.add_sub_cancel]
  intro hz
  rw [hz,Nat.mul_zero,Nat.add_zero]at h1
  rw [←hv,h1]at h3
  rw [show(256:Nat)=2 ^ 8 from rfl,←Nat.pow_mul]at h3
  have h4:B32 ^ k≤2 ^ (8*(mag.size-1)):=by
   rw [show B32=2 ^ 32 from rfl,←Nat.pow_mul]
   exact Nat.pow_le_pow_right (by decide) (by omega)
  omega
def WdT (w w':World) (v:Value) (m:ByteArray):Prop :=
 ∃L,D4 w' v L∧(∀x∈L,x<B32)∧L.length≤4096∧Trim L∧nv B32 L=val (bN m)∧w.grownBy w' none
theorem WdT.grown {w w':World} {v:Value} {m:ByteArray} (h:WdT w w' v m):w.grownBy w' none:=by
 obtain⟨_,_,_,_,_,_,hg⟩:=h
 exact hg
theorem JK (neg:Bool) (m:ByteArray) (h:may neg m=true) (w:World) :
    Calls Tryz.prog 111 #[.string m] w fun e w'=>∃v,e=.returned v∧WdT w w' v m:=by
 have hm:=ZH h
 refine(Zae m hm w).mono ?_
 rintro e w' ⟨B,L,rfl,_,hb,hg,hl,hr,hv⟩
 exact⟨_,rfl,L,hb.d4,hr,by omega,ZcN h hl hr hv,hv,hg⟩
def IsZ (z:Int) (n:Bool) (s:ByteArray):Prop:=n=decide (z<0)∧bN s=magN z.natAbs
theorem num_f (m:ByteArray):num false m=(val (bN m):Int):=rfl
theorem num_t (m:ByteArray):num true m=-(val (bN m):Int):=rfl
theorem IsZ.one {z:Int} {n n':Bool} {s s':ByteArray} (h:IsZ z n s) (h':IsZ z n' s'):whole n s=whole n' s':=by
 have e:s=s':=Yx (h.2.trans h'.2.symm)
 rw [h.1,h'.1,e]
theorem ZcJ {K:List Nat} (hr:∀x∈K,x<B32) (h:K.length≠0→B32 ^ (K.length-1)≤nv B32 K):Trim K:=by
 rcases Nat.eq_zero_or_pos K.length with h0|h0
 ·exact .inl h0
 ·right
  intro e
  obtain⟨k,hk⟩:∃k,K.length=k+1:=⟨K.length-1,by omega⟩
  have h1:=h (by omega)
  rw [hk,Nat.add_sub_cancel]at h1 e
  rw [JJ B32 K k hk,e,Nat.mul_zero,Nat.add_zero]at h1
  have hlt:=nv_lt B32 (K.take k) (fun x hx=>hr x (List.mem_of_mem_take hx))
  rw [List.length_take,hk,Nat.min_eq_left (by omega)]at hlt
  omega
theorem YL {n:Bool} {m:ByteArray} {L:List Nat} (h:may n m=true) (hL:L.length=(m.size+3) / 4) (hr:∀x∈L,x<B32) (hv:nv B32 L=val (bN m)):Trim L:=by
 refine ZcJ hr (fun h0=>?_)
 have hp:0<m.size:=by omega
 have h1:=U7 m hp (Vk h hp)
 rw [hv,show B32 ^ (L.length-1)=256 ^ (4*(L.length-1))by rw [Nat.pow_mul]]
 exact Nat.le_trans (Nat.pow_le_pow_right (by decide) (by omega)) h1
theorem Row.lt {w:World} {base g:Nat} {v:Value} {L:List Nat} (h:Row w base v L) (hg:v.ownBlock=some g):base≤g∧g<w.heap.size:=by
 rcases h.2 with ⟨rfl,_⟩|⟨g',cap,cur,rfl,hb,hgg,_⟩
 ·cases hg
 ·cases hg
  exact⟨hb,(Array.getElem?_eq_some_iff.1 hgg).1⟩
theorem Jz {w:World} {base:Nat} {v:Value} {L:List Nat} (h:Row w base v L):∀b n c,v=.slice (some b) n c→v.ownBlock=some b.block:=by
 intro b n c e
 rcases h.cases with ⟨e',_⟩|⟨g,c',e',_⟩
 ·rw [e']at e;cases e
 ·rw [e']at e ⊢;cases e;rfl
def Apt (va vb:Value):Prop:=va.ownBlock=none∨va.ownBlock≠vb.ownBlock
theorem Apt.swap {va vb:Value} (h:Apt va vb):Apt vb va:=by
 unfold Apt at *
 rcases h with h|h
 ·cases hb:vb.ownBlock
  ·exact .inl rfl
  ·exact .inr (by rw [h];simp)
 ·exact .inr (fun e=>h e.symm)
def ZRes (z:Int) (e:Ending):Prop :=
 (bl z.natAbs≤131072∧∃n s,e=.returned (.tuple #[whole n s,.int .i64 0])∧IsZ z n s)∨(131072<bl z.natAbs∧e=.returned (.tuple #[whole false eS,.int .i64 4]))
theorem made_z {neg:Bool} {n:Nat} {z:Int} {e:Ending} (h:Made neg n e) (hz:z=if neg then -(n:Int)else n):ZRes z e:=by
 have ha:z.natAbs=n:=by rw [hz];cases neg<;>simp
 rcases h with ⟨hb,s,rfl,hs⟩|⟨hb,rfl⟩
 ·refine .inl ⟨by rw [ha];exact hb,_,s,rfl,?_,by rw [ha];exact hs⟩
  rw [hz]
  cases neg
  ·simp
  ·simp only [Bool.true_and,if_true]
   exact decide_eq_decide.2 (by omega)
 ·exact .inr ⟨by rw [ha];exact hb,rfl⟩
end Go.Proofs.YtdcadiaeaclpgaaGreatDoor
