/- The program's shiftDown. -/
import Derived.Test.YtdcadiaeaclpgaaGreatDoorBunRed
namespace Go.Proofs.YtdcadiaeaclpgaaGreatDoor
open Go.RowKit Go.Lib Go.Sort Go.Shelf
attribute [local go_sem] Oper.semAt_some
set_option maxHeartbeats 8000000
set_option maxRecDepth 100000
def dn (L:List Nat) (b j:Nat):Nat:=(L[j+1]?.getD 0*4294967296+L[j]?.getD 0) / 2 ^ b % 4294967296
theorem Zay (b:Nat) (hb:b<32):∀(L M:List Nat),M.length=L.length→(∀x∈L,x<B32)→(∀j,j<L.length→M[j]?.getD 0=dn L b j)→nv B32 M=nv B32 L / 2 ^ b
 |[],M,hl,_,_=>by
  rw [List.length_eq_zero_iff.1 hl]
  simp [nv]
 |x::L,M,hl,hr,h=>by
  cases M with
  |nil=>simp at hl
  |cons m M =>
   have hl':M.length=L.length:=by simpa using hl
   have ih:=Zay b hb L M hl' (fun y hy=>hr y (List.mem_cons_of_mem _ hy)) (fun j hj=>by
    have:=h (j+1) (by simp;omega)
    simpa [dn]using this)
   have h0:=h 0 (by simp)
   have hx:x<4294967296:=hr x (by simp)
   simp [dn]at h0
   rw [nv,nv,ih,h0]
   have hy:nv B32 L % 4294967296=L[0]?.getD 0:=by
    have:=YN B32 L 0 (fun y hy=>hr y (List.mem_cons_of_mem _ hy))
    simpa using this
   have hp:0<2 ^ b:=Nat.pow_pos (by decide)
   obtain⟨c,hc⟩:∃c,2 ^ b*c=4294967296:=⟨2 ^ (32-b),by rw [←Nat.pow_add,show b+(32-b)=32 by omega]⟩
   rw [←hy]
   generalize nv B32 L=N at *
   generalize 2 ^ b=P at *
   simp only [B32]
   have hq:x / P<c:=by
    rw [Nat.div_lt_iff_lt_mul hp,Nat.mul_comm,hc]
    exact hx
   have d1:(x+4294967296*N) / P=x / P+c*N:=by rw [←hc,Nat.mul_assoc,Nat.add_mul_div_left _ _ hp]
   have d2:(N % 4294967296*4294967296+x) / P=x / P+c*(N % 4294967296):=by
    rw [Nat.add_comm,Nat.mul_comm (N % 4294967296)]
    conv=>lhs;rw [show 4294967296*(N % 4294967296)=P*(c*(N % 4294967296))by rw [←Nat.mul_assoc,hc]]
    rw [Nat.add_mul_div_left _ _ hp]
   have hm:N % 4294967296 % P=N % P:=by
    rw [←hc]
    exact Nat.mod_mul_right_mod N P c
   have e1:c*N=4294967296*(N / P)+c*(N % P):=by
    have:=Nat.div_add_mod N P
    conv=>lhs;rw [←this]
    rw [Nat.mul_add,←Nat.mul_assoc,Nat.mul_comm c P,hc]
   have e2:c*(N % 4294967296)=4294967296*(N % 4294967296 / P)+c*(N % P):=by
    have:=Nat.div_add_mod (N % 4294967296) P
    rw [hm]at this
    conv=>lhs;rw [←this]
    rw [Nat.mul_add,←Nat.mul_assoc,Nat.mul_comm c P,hc]
   have hlt:c*(N % P)+x / P<4294967296:=by
    have h1:N % P+1≤P:=Nat.mod_lt N hp
    have h2:c*(N % P+1)≤c*P:=Nat.mul_le_mul_left _ h1
    rw [Nat.mul_comm c P,hc,Nat.mul_add]at h2
    omega
   rw [d1,d2,e1,e2]
   generalize c*(N % P)=a at *
   generalize x / P=y at *
   omega
def SdI (w:World) (b:Nat) (vs:Value) (L:List Nat) (t:Nat) (W:World):Prop :=
 ∃(M:List Nat) (X:Nat),M.length=L.length∧(∀j,j<L.length→L.length≤j+t→M[j]?.getD 0=dn L b j)∧(∀x∈M,x<B32)∧BlkL W (w.heap.size+1) 145 enc4 (ints M)∧X % 4294967296=L[L.length-t]?.getD 0∧X<18446744073709551616 ∧
  W.heap[w.heap.size]?=some (.cells #[.int .i64 (b:Int)] 3 (0,0))∧W.heap[w.heap.size+2]?=some (.cells #[.slice (some ⟨w.heap.size+1,0,none⟩) L.length L.length] 146 (0,0)) ∧
  W.heap[w.heap.size+3]?=some (.cells #[.int .u64 (X:Int)] 143 (0,0))∧W.heap[w.heap.size+4]?=some (.cells #[vs] 146 (0,0))∧w.grownBy W none
theorem dn_lt (L:List Nat) (b j:Nat):dn L b j<B32:=by
 unfold dn B32
 exact Nat.mod_lt _ (by decide)
theorem SdI.drew {w W:World} {b:Nat} {v:Value} {L:List Nat} {t:Nat} (h:SdI w b v L t W):SdI w b v L t W.drew:=by
 obtain⟨M,X,h1,h2,h3,h4,h5,h6,h7,h8,h9,h10,hg⟩:=h
 exact⟨M,X,h1,h2,h3,h4,h5,h6,h7,h8,h9,h10,Zf hg⟩
theorem SdI_own (w:World) (b:Nat) (v:Value) (L:List Nat) (B:Nat) (hB:w.heap.size≤B):OwnFrom B (SdI w b v L):=by
 rintro t W W' row ⟨M,X,h1,h2,h3,h4,h5,h6,h7,h8,h9,h10,hg⟩ hgr hrow
 exact⟨M,X,h1,h2,h3,ZR hgr hrow h4 rfl,h5,h6,ZR hgr hrow h7 rfl,ZR hgr hrow h8 rfl,ZR hgr hrow h9 rfl,ZR hgr hrow h10 rfl,VY hB hg hgr hrow⟩
theorem SdI.step {w W W2:World} {b t q:Nat} {v:Value} {L:List Nat} {M:List Nat} (hL:∀x∈L,x<B32) (hM:M.length=L.length) (hd:∀j,j<L.length→L.length≤j+t→M[j]?.getD 0=dn L b j) (hr:∀x∈M,x<B32) (hBk:BlkL W (w.heap.size+1) 145 enc4 (ints M))
    (h7:W.heap[w.heap.size]?=some (.cells #[.int .i64 (b:Int)] 3 (0,0))) (h8:W.heap[w.heap.size+2]?=some (.cells #[.slice (some ⟨w.heap.size+1,0,none⟩) L.length L.length] 146 (0,0)))
    (h9:W.heap[w.heap.size+3]?=some (.cells #[.int .u64 ((L[q+1]?.getD 0*4294967296+L[q]?.getD 0:Nat):Int)] 143 (0,0))) (h10:W.heap[w.heap.size+4]?=some (.cells #[v] 146 (0,0))) (hg:w.grownBy W none) (hq:q+t+1=L.length)
    (hW2:W2=W.setCell ⟨w.heap.size+1,q,none⟩ (.int .u32 ((dn L b q:Nat):Int))):SdI w b v L (t+1) W2:=by
 have k1:=Zc W (w.heap.size+1) q (.int .u32 ((dn L b q:Nat):Int))
 have keep:∀i o,W.heap[i]?=some o→i≠w.heap.size+1→W2.heap[i]?=some o:=fun i o ho hne=>by
  rw [hW2]
  exact(k1.block i (Array.getElem?_eq_some_iff.1 ho).1 (by intro e;injection e with e;exact hne e)).trans ho
 have x1:L[q+1]?.getD 0<4294967296:=Zt hL (q+1)
 have x0:L[q]?.getD 0<4294967296:=Zt hL q
 refine⟨M.set q (dn L b q),_,by simp [hM],fun j hj hjt=>?_,ZM hr (dn_lt L b q),?_,?_,?_,keep _ _ h7 (by omega),keep _ _ h8 (by omega),keep _ _ h9 (by omega),keep _ _ h10 (by omega),?_⟩
 ·by_cases h:j=q
  ·subst h
   rw [List.getElem?_set_self (by omega),Option.getD_some]
  ·rw [List.getElem?_set_ne (by omega)]
   exact hd j hj (by omega)
 ·rw [hW2]
  have e:=hBk.set q ((dn L b q:Nat):Int)
  rw [ZF]at e
  exact e
 ·rw [show L.length-(t+1)=q by omega]
  generalize L[q+1]?.getD 0=u1 at *
  generalize L[q]?.getD 0=u0 at *
  omega
 ·generalize L[q+1]?.getD 0=u1 at *
  generalize L[q]?.getD 0=u0 at *
  omega
 ·rw [hW2]
  exact Zb hg (by omega)
theorem YG (L:List Nat) (q:Nat) (hr:∀x∈L,x<B32):nv B32 (L.drop q)=nv B32 L / B32 ^ q:=by
 rcases Nat.le_total q L.length with h|h
 ·have h1:=Z9 L q
  have h2:=nv_lt B32 (L.take q) (fun x hx=>hr x (List.mem_of_mem_take hx))
  rw [List.length_take,Nat.min_eq_left h]at h2
  rw [h1,Nat.add_mul_div_left _ _ (Nat.pow_pos (by decide)),Nat.div_eq_of_lt h2,Nat.zero_add]
 ·have h2:=nv_lt B32 L hr
  rw [List.drop_of_length_le h,Nat.div_eq_of_lt (Nat.lt_of_lt_of_le h2 (Nat.pow_le_pow_right (by decide) h))]
  rfl
theorem ZaZ (N n:Nat):N / B32 ^ (n / 32) / 2 ^ (n % 32)=N / 2 ^ n:=by
 have e:B32=2 ^ 32:=by decide
 rw [Nat.div_div_eq_div_mul,e,←Nat.pow_mul,←Nat.pow_add]
 congr 2
 omega
theorem D4.from {w:World} {ab:Option Addr} {n c:Nat} {L:List Nat} (h:D4 w (.slice ab n c) L) (hn:L.length=n) (q:Nat) (hq:q<n):∃B off,ab=some ⟨B,off,none⟩∧n≤c∧D4 w (.slice (some ⟨B,off+q,none⟩) (n-q) (c-q)) (L.drop q):=by
 rcases h with ⟨e,e'⟩|⟨B,off,c',e,hc,h⟩
 ·rw [e']at hn;simp at hn;omega
 ·obtain⟨rfl,e2,rfl⟩:=Value.slice.inj e
  refine⟨B,off,rfl,by omega,.inr ⟨B,off+q,c-q,by rw [List.length_drop,hn],by rw [List.length_drop];omega,fun j hj=>?_⟩⟩
  rw [List.length_drop]at hj
  rw [List.getElem?_drop,Nat.add_assoc]
  exact h (q+j) (by omega)
theorem Uc (w:World) (va:Value) (A:List Nat) (n:Nat) (hA:D4 w va A) (ra:∀x∈A,x<B32) (la:A.length≤1000000) (hn:n / 32<A.length) (hn9:n≤10000000) :
    Calls Tryz.prog 219 #[va,.int .i64 (n:Int)] w fun e w'=>∃v' K,e=.returned v'∧Row w' w.heap.size v' K∧(∀x∈K,x<B32)∧nv B32 K=nv B32 A / 2 ^ n∧Trim K∧K.length≤A.length∧w.grownBy w' none:=by
 obtain⟨aa,ca,rfl⟩:=hA.slice
 obtain⟨p,hp⟩:∃p,A.length=p:=⟨_,rfl⟩
 have HP:Unit→A.length=p:=fun _=>hp
 obtain⟨q,hq⟩:∃q,n / 32=q:=⟨_,rfl⟩
 obtain⟨b,hb⟩:∃b,n % 32=b:=⟨_,rfl⟩
 rw [hq]at hn
 rw [hp]at hA hn la ⊢
 obtain⟨Ba,oa,rfl,hpc,hD⟩:=hA.from hp q hn
 have HD:Hid (D4 w (.slice (some ⟨Ba,oa+q,none⟩) (p-q) (ca-q)) (A.drop q)):=hD
 have HRa:Hid (∀x∈A,x<B32):=ra
 have hqI:(n:Int) / 32=(q:Int):=by omega
 have hbI:(n:Int) % 32=(b:Int):=by omega
 have hqp:(q:Int)<p:=by omega
 have hpI:(p:Int)≤1000000:=by omega
 have hbI9:(b:Int)≤31:=by omega
 have hnI:(n:Int)≤10000000:=by omega
 have hmk:=fun w=>make4 w (p-q) (by omega)
 have hpq:((p-q:Nat):Int)=(p:Int)-q:=by omega
 simp only [hpq]at hmk
 clear hA ra hD
 refine(callsIn_wide (n:=5)).1 ?_
 refine callsIn_of_wp_marks Tryz.func219 rfl trivial ?_ rfl
 simp only [Tryz.ntmps219,List.size_toArray,List.length_cons,List.length_nil,Nat.reduceAdd,Nat.reduceSub,Array.replicate_succ,Array.replicate_zero,List.push_toArray,List.append_toArray,List.nil_append,List.cons_append]
 gi_wp2
 refine⟨trivial,?_⟩
 refine(callsIn_wide.2 (Yt _ _ _ _)).mono ?_
 rintro e w' ⟨rfl,rfl⟩
 gi_wp2
 have hlen:(A.drop q).length=p-q:=by rw [List.length_drop,HP ()]
 have HRD:Hid (∀x∈A.drop q,x<B32):=fun x hx=>HRa.out x (List.mem_of_mem_drop hx)
 obtain⟨D,hDD⟩:∃D,A.drop q=D:=⟨_,rfl⟩
 have HDD:Unit→A.drop q=D:=fun _=>hDD
 rw [hDD]at hlen HRD HD
 clear hDD
 have hlI:(D.length:Int)≤1000000000:=by omega
 refine X6 rfl (by omega) (gf:=193) (lb:=#[.pointer (some ⟨w.heap.size+1+1+1+1,0,none⟩)]) rfl trivial (enters_of Tryz.func193 (by kernel_rfl) rfl)
  (encC D) D.length (fun _=>rfl) (SdI w b (.slice (some ⟨Ba,oa+q,none⟩) (p-q) (ca-q)) D) (SdI_own w b _ D _ (by simp;omega)) ?start
  (Ui Fence.wide (5-1) trivial rfl (by omega) (w.heap.size+1+1+1+1) D (ca-q) (some ⟨Ba,oa+q,none⟩) hlI _ ?reads)
  (fun t=>{ tmps:=#[.slice (some ⟨Ba,oa,none⟩) p ca,.int .i64 (n:Int),undef,undef,.slice none 0 0,.int .i64 (q:Int),.pointer (some ⟨w.heap.size,0,none⟩),.pointer (some ⟨w.heap.size+1+1,0,none⟩),.pointer (some ⟨w.heap.size+1+1+1,0,none⟩),.int .i64 ((D.length-1-t:Nat):Int),.int .u32 ((D[D.length-1-t]?.getD 0:Nat):Int),.int .i64 (n:Int),.int .i64 (q:Int),.int .i64 (n:Int),.int .i64 (b:Int),.int .i64 (q:Int),.slice (some ⟨Ba,oa,none⟩) p ca,.int .i64 (p:Int),.bool false,.slice (some ⟨Ba,oa,none⟩) p ca,.int .i64 (p:Int),.int .i64 (q:Int),.int .i64 ((p:Int)-q),.slice (some ⟨w.heap.size+1,0,none⟩) (p-q) (p-q),.slice (some ⟨Ba,oa,none⟩) p ca,.int .i64 (q:Int),.slice (some ⟨Ba,oa+q,none⟩) (p-q) (ca-q),.func (.func 193) #[] #[.pointer (some ⟨w.heap.size+1+1+1+1,0,none⟩)],.int .i64 ((D.length-1-t:Nat):Int),.int .u32 ((D[D.length-1-t]?.getD 0:Nat):Int),undef,undef,undef,undef,undef,undef,undef,undef,undef,undef,undef,undef,undef,undef,undef,undef,undef],defers:=[] }) ?assign ?body ?done
 case start =>
  refine⟨List.replicate (p-q) 0,0,by rw [hlen];simp,fun j hj hjt=>by omega,fun x hx=>by rw [List.eq_of_mem_replicate hx];decide,Zn _ _ (Zn _ _ (Zn _ _ (heap_alloc2_new _ _ _))),?_,by decide,Zn _ _ (Zn _ _ (Zn _ _ (Zx _ _ _))),?_,?_,?_,Za (grow4 _ _ _ _ _) (grow1 _ _)⟩
  ·rw [Nat.sub_zero,List.getElem?_eq_none (Nat.le_refl _)];rfl
  ·rw [hlen];exact Zn _ _ (Zn _ _ (Yp _ _ _ _))
  ·have:=Zn _ (Obj.cells #[Value.slice (some ⟨Ba,oa+q,none⟩) (p-q) (ca-q)] 146) (heap_alloc_new (((w.alloc (Obj.cells #[Value.int IntKind.i64 (b:Int)] 3)).alloc (Obj.cells (List.map enc4 (ints (List.replicate (p-q) 0))).toArray 145)).alloc (Obj.cells #[Value.slice (some ⟨w.heap.size+1,0,none⟩) (p-q) (p-q)] 146)) (Obj.cells #[Value.int IntKind.u64 0] 143))
   simpa using this
  ·have:=heap_alloc_new ((((w.alloc (Obj.cells #[Value.int IntKind.i64 (b:Int)] 3)).alloc (Obj.cells (List.map enc4 (ints (List.replicate (p-q) 0))).toArray 145)).alloc (Obj.cells #[Value.slice (some ⟨w.heap.size+1,0,none⟩) (p-q) (p-q)] 146)).alloc (Obj.cells #[Value.int IntKind.u64 0] 143)) (Obj.cells #[Value.slice (some ⟨Ba,oa+q,none⟩) (p-q) (ca-q)] 146)
   simpa using this
 case reads =>
  rintro t W ⟨M,X,h1,h2,h3,h4,h5,h6,h7,h8,h9,h10,hg⟩
  refine⟨by rw [hlen];simp [World.cell?,h10],fun qq hqq=>⟨Ba,oa+q,rfl,?_,by omega⟩⟩
  rcases HD.out.kept hg with ⟨e,_⟩|⟨B',off',c',e,_,hc⟩
  ·cases e
  ·obtain⟨e1,_,_⟩:=Value.slice.inj e
   cases e1
   exact hc qq (by omega)
 case assign =>
  intro l t W K hK
  simp only [encC]
  generalize((D.length-1-t:Nat):Int)=qq at hK ⊢
  generalize((D[D.length-1-t]?.getD 0:Nat):Int)=dd at hK ⊢
  gi_wp2
  exact hK
 case body =>
  rintro l t W ht ⟨M,X,h1,h2,h3,h4,h5,h6,h7,h8,h9,h10,hg⟩
  obtain⟨qq,hqq⟩:∃qq,qq+t+1=D.length:=⟨D.length-1-t,by omega⟩
  have x1:D[qq+1]?.getD 0<4294967296:=Zt HRD.out (qq+1)
  have x0:D[qq]?.getD 0<4294967296:=Zt HRD.out qq
  rw [show D.length-t=qq+1 by omega]at h5
  rw [show D.length-1-t=qq by omega]
  have hZ:dn D b qq=(D[qq+1]?.getD 0*4294967296+D[qq]?.getD 0) / 2 ^ b % 4294967296:=rfl
  have ST:=fun(V V2:World) (k:W.grownBy V (some (w.heap.size+3))) (hw:V.heap[w.heap.size+3]?=some (.cells #[.int .u64 ((D[qq+1]?.getD 0*4294967296+D[qq]?.getD 0:Nat):Int)] 143 (0,0))) (hV2:V2=V.setCell ⟨w.heap.size+1,qq,none⟩ (.int .u32 ((dn D b qq:Nat):Int))) =>
   SdI.step (t:=t) (W2:=V2) HRD.out h1 h2 h3 (h4.kept k (by intro e;injection e with e;omega))
    ((k.block _ (Array.getElem?_eq_some_iff.1 h7).1 (by intro e;injection e with e;omega)).trans h7)
    ((k.block _ (Array.getElem?_eq_some_iff.1 h8).1 (by intro e;injection e with e;omega)).trans h8) hw
    ((k.block _ (Array.getElem?_eq_some_iff.1 h10).1 (by intro e;injection e with e;omega)).trans h10)
    ⟨k.os.trans hg.os,k.tape.trans hg.tape,k.output.trans hg.output,Nat.le_trans hg.size k.size,fun i hi hn=>(k.block i (Nat.lt_of_lt_of_le hi hg.size) (by intro e;injection e with e;omega)).trans (hg.block i hi hn)⟩ hqq hV2
  rw [hZ]at ST
  clear hZ
  have c7:W.cell? ⟨w.heap.size,0,none⟩=some (.int .i64 (b:Int)):=by simp [World.cell?,h7]
  have c8:W.cell? ⟨w.heap.size+1+1,0,none⟩=some (.slice (some ⟨w.heap.size+1,0,none⟩) D.length D.length):=by simp [World.cell?,h8]
  have c9:W.cell? ⟨w.heap.size+1+1+1,0,none⟩=some (.int .u64 (X:Int)):=by simp [World.cell?,h9]
  have f9:W.frozen? ⟨w.heap.size+1+1+1,0,none⟩=false:=by simp [World.frozen?,h9]
  generalize D[qq+1]?.getD 0=y at *
  generalize D[qq]?.getD 0=x at *
  have hXI:(X:Int)≤18446744073709551615:=by omega
  have hX5:(X:Int) % 4294967296=(y:Int):=by omega
  have hyI:(y:Int)≤4294967295:=by omega
  have hxI:(x:Int)≤4294967295:=by omega
  have hor:=or32 (y:Int) (x:Int) (by omega) (by omega) (by omega) (by omega)
  obtain⟨Z,hZZ⟩:∃Z,y*4294967296+x=Z:=⟨_,rfl⟩
  have hZI:(y:Int)*4294967296+x=(Z:Int):=by omega
  have hZ9:(Z:Int)≤18446744073709551615:=by omega
  rw [hZI]at hor
  rw [hZZ]at ST
  have k1:W.grownBy (((W.setCell ⟨w.heap.size+1+1+1,0,none⟩ (.int .u64 (y:Int))).setCell ⟨w.heap.size+1+1+1,0,none⟩ (.int .u64 ((y:Int)*4294967296))).setCell ⟨w.heap.size+1+1+1,0,none⟩ (.int .u64 (Z:Int))) (some (w.heap.size+3)):=Za (Za (Zc _ _ _ _) (Zc _ _ _ _)) (Zc _ _ _ _)
  have d7:=Zd k1 c7 (by intro e;injection e with e;omega)
  have d8:=Zd k1 c8 (by intro e;injection e with e;omega)
  have hw9:(((W.setCell ⟨w.heap.size+1+1+1,0,none⟩ (.int .u64 (y:Int))).setCell ⟨w.heap.size+1+1+1,0,none⟩ (.int .u64 ((y:Int)*4294967296))).setCell ⟨w.heap.size+1+1+1,0,none⟩ (.int .u64 (Z:Int))).heap[w.heap.size+3]?=some (.cells #[.int .u64 (Z:Int)] 143 (0,0)):=by
   have e:W.heap[w.heap.size+1+1+1]?=some (.cells #[.int .u64 (X:Int)] 143 (0,0)):=h9
   simp [World.setCell,Array.getElem?_modify,e]
  have KO:KeepsOthers W (((W.setCell ⟨w.heap.size+1+1+1,0,none⟩ (.int .u64 (y:Int))).setCell ⟨w.heap.size+1+1+1,0,none⟩ (.int .u64 ((y:Int)*4294967296))).setCell ⟨w.heap.size+1+1+1,0,none⟩ (.int .u64 (Z:Int))):=((KeepsOthers.setCell _ _ _).trans (KeepsOthers.setCell _ _ _)).trans (KeepsOthers.setCell _ _ _)
  have hB4:=h4.kept k1 (by intro e;injection e with e;omega)
  have f4:=hB4.frozen qq
  have d4c:=hB4.cell qq (by rw [Zk];omega)
  have hST:=ST _ _ k1 hw9 rfl
  have hQD:(qq:Int)<D.length:=by omega
  clear ST h1 h2 h3 h4 h5 h6 h7 h8 h9 h10 hg
  gi_wp2
  clear c7 c8 c9 f9
  have d9:(((W.setCell ⟨w.heap.size+1+1+1,0,none⟩ (.int .u64 (y:Int))).setCell ⟨w.heap.size+1+1+1,0,none⟩ (.int .u64 ((y:Int)*4294967296))).setCell ⟨w.heap.size+1+1+1,0,none⟩ (.int .u64 (Z:Int))).cell? ⟨w.heap.size+1+1+1,0,none⟩=some (.int .u64 (Z:Int)):=by simp [World.cell?,hw9]
  generalize((W.setCell ⟨w.heap.size+1+1+1,0,none⟩ (.int .u64 (y:Int))).setCell ⟨w.heap.size+1+1+1,0,none⟩ (.int .u64 ((y:Int)*4294967296))).setCell ⟨w.heap.size+1+1+1,0,none⟩ (.int .u64 (Z:Int))=V at *
  have FIN:Hid (∀act,roundTo (SdI w b (.slice (some ⟨Ba,oa+q,none⟩) (p-q) (ca-q)) D) (t+1) W Exit.normal act ((V.setCell ⟨w.heap.size+1,qq,none⟩ (.int .u32 ((Z:Int) / 2 ^ b % 4294967296))).drew)):=(by
   intro act
   have e1:(Z:Int) / 2 ^ b % 4294967296=((Z / 2 ^ b % 4294967296:Nat):Int):=by simp
   rw [e1]
   exact⟨(KO.trans (KeepsOthers.setCell _ _ _)).trans (KeepsOthers.drew _),hST.drew⟩)
  have hmx:Tryz.prog.follows .mixedOrders=true:=by kernel_rfl
  have hD9:(D.length:Int)≤1000000:=by omega
  clear hST KO k1 hw9 hB4 hlen hpq hmk hqq ht
  gi_region
  all_goals gi_wp2
  all_goals exact FIN.out _
 case done =>
  rintro DD W hD' ⟨M,X,h1,h2,h3,h4,h5,h6,h7,h8,h9,h10,hg⟩ hK
  have c8:W.cell? ⟨w.heap.size+1+1,0,none⟩=some (.slice (some ⟨w.heap.size+1,0,none⟩) (p-q) (p-q)):=by rw [←hlen];simp [World.cell?,h8]
  have hvM:nv B32 M=nv B32 D / 2 ^ b:=Zay b (by omega) D M h1 HRD.out (fun j hj=>h2 j hj (by omega))
  have hMl:M.length=p-q:=h1.trans hlen
  have hRW:Row W w.heap.size (.slice (some ⟨w.heap.size+1,0,none⟩) (p-q) (p-q)) M:=by
   have:=h4.row (base:=w.heap.size) (by omega) (by unfold maxLen;omega)
   rwa [hMl]at this
  have hTR:=Yj W w.heap.size (.slice (some ⟨w.heap.size+1,0,none⟩) (p-q) (p-q)) M hRW (by omega)
  have HTR:Hid (Calls Tryz.prog 154 #[.slice (some ⟨w.heap.size+1,0,none⟩) (p-q) (p-q)] W fun e w'=>∃v' k,e=.returned v'∧k≤M.length∧Row W w.heap.size v' (M.take k)∧nv B32 (M.take k)=nv B32 M∧Trim (M.take k)∧v'.ownBlock=(Value.slice (some ⟨w.heap.size+1,0,none⟩) (p-q) (p-q)).ownBlock∧w'=W):=hTR
  have hDne:DD≠w.heap.size+1:=by
   intro e
   subst e
   rw [h4]at hK
   cases hK
  have HF:Hid ((∀x∈M,x<B32)∧nv B32 M=nv B32 A / 2 ^ n∧w.grownBy W none):=(by
   refine⟨h3,?_,hg⟩
   rw [hvM,←HDD (),YG A q HRa.out,←hq,←hb]
   exact ZaZ _ _)
  clear h1 h2 h3 h4 h5 h6 h7 h8 h9 h10 hg hTR hvM hRW
  gi_wp2
  refine⟨trivial,?_⟩
  refine(callsIn_wide.2 HTR.out).mono ?_
  rintro e w2 ⟨v',k,rfl,hk,hDk,vk,tk,hob,hw2⟩
  subst hw2
  gi_wp2
  refine⟨by simp,.inl ⟨_,_,rfl,run_takeDeferred hK,?_⟩⟩
  have kD:=grownBy_putObj' w2 DD (.deferred none)
  have hDs:w.heap.size≤DD:=by simp at hD';omega
  obtain⟨f1,f2,f3⟩:=HF.out
  refine⟨_,results_tmp rfl _ _ _,v',M.take k,rfl,hDk.kept kD (.inr (by rw [hob];intro e;exact hDne (Option.some.inj e).symm)),fun x hx=>f1 x (List.mem_of_mem_take hx),by rw [vk,f2],tk,by rw [List.length_take];omega,?_⟩
  exact⟨kD.os.trans f3.os,kD.tape.trans f3.tape,kD.output.trans f3.output,Nat.le_trans f3.size kD.size,fun i hi hn=>(kD.block i (Nat.lt_of_lt_of_le hi f3.size) (by intro e;injection e with e;omega)).trans (f3.block i hi hn)⟩
end Go.Proofs.YtdcadiaeaclpgaaGreatDoor
namespace Go.Proofs.YtdcadiaeaclpgaaGreatDoor
open Go.RowKit Go.Lib Go.Sort Go.Shelf
attribute [local go_sem] Oper.semAt_some
set_option maxHeartbeats 8000000
set_option maxRecDepth 100000
theorem V7 (w:World) (va:Value) (A:List Nat) (n:Nat) (hA:D4 w va A) (ra:∀x∈A,x<B32) (la:A.length≤1000000) (hn:A.length≤n / 32) (hn9:n≤10000000) :
    Calls Tryz.prog 219 #[va,.int .i64 (n:Int)] w fun e w'=>∃v' K,e=.returned v'∧Row w' w.heap.size v' K∧(∀x∈K,x<B32)∧nv B32 K=nv B32 A / 2 ^ n∧Trim K∧K.length≤A.length∧w.grownBy w' none:=by
 have hz:nv B32 A / 2 ^ n=0:=by
  have h1:=nv_lt B32 A ra
  have h2:B32 ^ A.length≤2 ^ n:=by
   have e:B32=2 ^ 32:=by decide
   rw [e,←Nat.pow_mul]
   exact Nat.pow_le_pow_right (by decide) (by omega)
  exact Nat.div_eq_of_lt (Nat.lt_of_lt_of_le h1 h2)
 obtain⟨aa,ca,rfl⟩:=hA.slice
 obtain⟨p,hp⟩:∃p,A.length=p:=⟨_,rfl⟩
 obtain⟨q,hq⟩:∃q,n / 32=q:=⟨_,rfl⟩
 obtain⟨b,hb⟩:∃b,n % 32=b:=⟨_,rfl⟩
 rw [hp]at hn la ⊢
 have hqI:(n:Int) / 32=(q:Int):=by omega
 have hbI:(n:Int) % 32=(b:Int):=by omega
 have hqp:(p:Int)≤q:=by omega
 have hpI:(p:Int)≤1000000:=by omega
 have hnI:(n:Int)≤10000000:=by omega
 have HZ:Unit→nv B32 A / 2 ^ n=0:=fun _=>hz
 clear hA ra hz hp hq hb
 refine(callsIn_wide (n:=5)).1 ?_
 refine callsIn_of_wp_marks Tryz.func219 rfl trivial ?_ rfl
 simp only [Tryz.ntmps219,List.size_toArray,List.length_cons,List.length_nil,Nat.reduceAdd,Nat.reduceSub,Array.replicate_succ,Array.replicate_zero,List.push_toArray,List.append_toArray,List.nil_append,List.cons_append]
 gi_wp2
 refine⟨_,results_tmp rfl _ _ _,.slice none 0 0,[],rfl,Row.nil _ _,by simp,by rw [HZ ()];rfl,.inl rfl,by simp,grow1 _ _⟩
theorem U9 (w:World) (va:Value) (A:List Nat) (n:Nat) (hA:D4 w va A) (ra:∀x∈A,x<B32) (la:A.length≤1000000) (hn9:n≤10000000) :
    Calls Tryz.prog 219 #[va,.int .i64 (n:Int)] w fun e w'=>∃v' K,e=.returned v'∧Row w' w.heap.size v' K∧(∀x∈K,x<B32)∧nv B32 K=nv B32 A / 2 ^ n∧Trim K∧K.length≤A.length∧w.grownBy w' none:=by
 rcases Nat.lt_or_ge (n / 32) A.length with h|h
 ·exact Uc w va A n hA ra la h hn9
 ·exact V7 w va A n hA ra la h hn9
end Go.Proofs.YtdcadiaeaclpgaaGreatDoor
