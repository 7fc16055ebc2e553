/- The document's digits: words, at, bits. -/
import Derived.Test.YtdcadiaeaclpgaaGreatDoorBunChk
namespace Go.Proofs.YtdcadiaeaclpgaaGreatDoor
open Go.RowKit Go.Lib Go.Sort
set_option maxHeartbeats 3200000
set_option maxRecDepth 1000000
abbrev B32:Nat:=4294967296
theorem Ym (B:Nat):∀(L:List Nat) (q x:Nat),q<L.length→nv B (L.set q x)+(L[q]?.getD 0)*B ^ q=nv B L+x*B ^ q
 |[],q,x,h=>by simp at h
 |d::t,0,x,_=>by simp [nv];omega
 |d::t,q+1,x,h=>by
  have ih:=Ym B t q x (by simpa using h)
  simp only [List.set_cons_succ,nv,List.getElem?_cons_succ,Nat.pow_succ]
  have h2:=congrArg (B*·) ih
  simp only [Nat.mul_add]at h2
  rw [show t[q]?.getD 0*(B ^ q*B)=B*(t[q]?.getD 0*B ^ q)by rw [Nat.mul_comm (B ^ q) B,←Nat.mul_assoc,←Nat.mul_assoc,Nat.mul_comm _ B],
   show x*(B ^ q*B)=B*(x*B ^ q)by rw [Nat.mul_comm (B ^ q) B,←Nat.mul_assoc,←Nat.mul_assoc,Nat.mul_comm _ B]]
  omega
theorem ZO (B n:Nat):nv B (List.replicate n 0)=0:=by
 induction n with
 |zero=>rfl
 |succ n ih=>rw [List.replicate_succ,nv,ih];simp
def D4 (w:World) (v:Value) (L:List Nat):Prop :=
 (v=.slice none 0 0∧L=[])∨∃B off c,v=.slice (some ⟨B,off,none⟩) L.length c∧L.length≤c∧∀j,j<L.length→w.cell? ⟨B,off+j,none⟩=some (.int .u32 ((L[j]?.getD 0:Nat):Int))
theorem D4.kept {w w':World} {v:Value} {L:List Nat} (h:D4 w v L) (hg:w.grownBy w' none):D4 w' v L:=by
 rcases h with h|⟨B,off,c,rfl,hc,h⟩
 ·exact .inl h
 ·exact .inr ⟨B,off,c,rfl,hc,fun j hj=>Zd hg (h j hj) (by simp)⟩
theorem Z6 (L:List Nat) (i:Nat):(ints L)[i]?.getD 0=((L[i]?.getD 0:Nat):Int):=by
 simp only [ints,List.getElem?_map]
 cases L[i]?<;>rfl
theorem BlkL.d4 {w:World} {B:Nat} {L:List Nat} {t:TypeId} (h:BlkL w B t enc4 (ints L)):D4 w (.slice (some ⟨B,0,none⟩) L.length L.length) L :=
 .inr ⟨B,0,L.length,rfl,Nat.le_refl _,fun j hj=>by
  rw [Nat.zero_add,h.cell j (by rw [Zk];exact hj),Z6]⟩
theorem Zde {L:List Nat} {i b:Nat} (hr:∀x∈L,x<B32) (hv:nv B32 L<256 ^ i) (hb:b<256) :
    L[i / 4]?.getD 0+b*2 ^ (8*(i % 4))<B32∧b*2 ^ (8*(i % 4))<B32:=by
 have h1:=YN B32 L (i / 4) hr
 have h2:nv B32 L / B32 ^ (i / 4)<2 ^ (8*(i % 4)):=by
  rw [Nat.div_lt_iff_lt_mul (Nat.pow_pos (by decide))]
  rw [show B32=2 ^ 32 from rfl,←Nat.pow_mul,←Nat.pow_add]
  rw [show(256:Nat)=2 ^ 8 from rfl,←Nat.pow_mul]at hv
  rw [show 8*(i % 4)+32*(i / 4)=8*i by omega]
  exact hv
 have h3:L[i / 4]?.getD 0<2 ^ (8*(i % 4)):=by
  rw [←h1]
  exact Nat.lt_of_le_of_lt (Nat.mod_le _ _) h2
 have h4:i % 4=0∨i % 4=1∨i % 4=2∨i % 4=3:=by omega
 rcases h4 with h|h|h|h<;>rw [h]at h3 ⊢<;>simp only [B32]<;>omega
theorem Zer {L:List Nat} {V i b:Nat} (hq:i / 4<L.length) (hv:nv B32 L=V % 256 ^ i) (hb:V / 256 ^ i % 256=b) :
    nv B32 (L.set (i / 4) (L[i / 4]?.getD 0+b*2 ^ (8*(i % 4))))=V % 256 ^ (i+1):=by
 have h:=Ym B32 L (i / 4) (L[i / 4]?.getD 0+b*2 ^ (8*(i % 4))) hq
 rw [Nat.mod_pow_succ,hb,←hv]
 have e:b*2 ^ (8*(i % 4))*B32 ^ (i / 4)=256 ^ i*b:=by
  rw [show B32=2 ^ 32 from rfl,←Nat.pow_mul,Nat.mul_assoc,←Nat.pow_add,show 8*(i % 4)+32*(i / 4)=8*i by omega,Nat.pow_mul,Nat.mul_comm]
 rw [Nat.add_mul,e]at h
 omega
theorem ZM {L:List Nat} {q x:Nat} (hr:∀x∈L,x<B32) (hx:x<B32):∀y∈L.set q x,y<B32:=by
 intro y hy
 rcases List.mem_or_eq_of_mem_set hy with h|h
 ·exact hr y h
 ·omega
theorem ZF (L:List Nat) (q x:Nat):(ints L).set q (x:Int)=ints (L.set q x):=by simp [ints,List.map_set]
theorem ZeZ (x b s:Nat) (h:x+b*2 ^ s<4294967296) (hb:b<4294967296):((x:Int)+(b:Int) % 4294967296*2 ^ s) % 4294967296=((x+b*2 ^ s:Nat):Int):=by
 have e1:(b:Int) % 4294967296=b:=by omega
 have e2:(b:Int)*2 ^ s=((b*2 ^ s:Nat):Int):=by simp
 rw [e1,e2]
 generalize b*2 ^ s=t at *
 omega
theorem Tryz.info4:(Tryz.prog.info? 145).map (fun i=>(i.zero,i.size,i.bytes))=some (some (.int .u32 0),1,4):=by kernel_rfl
theorem Tryz.info1:(Tryz.prog.info? 5).map (fun i=>(i.zero,i.size,i.bytes))=some (some (.int .u8 0),1,1):=by kernel_rfl
theorem Vl (z:Value) (n:Nat) (hz:z.cells=#[z]):madeCells z.cells n=(List.replicate n z).toArray:=by
 apply Array.ext
 ·simp [size_madeCells]
 ·intro j h1 h2
  simp [madeCells,hz,Nat.mod_one]
theorem make4 (w:World) (n:Nat) (hn:n≤1000000000) :
    (Instr.makeSlice 146 (.int .i64 n) (.int .i64 n)).run Tryz.prog w=.ok (.slice (some ⟨w.heap.size,0,none⟩) n n) (w.alloc (.cells ((ints (List.replicate n 0)).map enc4).toArray 145)):=by
 obtain⟨i0,hi,hz0,hz1,hz2⟩:=info_parts Tryz.info4
 have h:=run_make (P:=Tryz.prog) w 146 145 i0 _ Tryz.underlying146 hi hz0 .i64 .i64 n n (by omega) (by omega) (by rw [hz2];omega) (by omega)
 rw [h,hz1,Vl _ _ rfl]
 simp [ints]
theorem make1 (w:World) (n:Nat) (hn:n≤1000000000) :
    (Instr.makeSlice 91 (.int .i64 n) (.int .i64 n)).run Tryz.prog w=.ok (.slice (some ⟨w.heap.size,0,none⟩) n n) (w.alloc (.cells ((ints (List.replicate n 0)).map encB).toArray 5)):=by
 obtain⟨i0,hi,hz0,hz1,hz2⟩:=info_parts Tryz.info1
 have h:=run_make (P:=Tryz.prog) w 91 5 i0 _ Tryz.underlying91 hi hz0 .i64 .i64 n n (by omega) (by omega) (by rw [hz2];omega) (by omega)
 rw [h,hz1,Vl _ _ rfl]
 simp [ints]
theorem Zae (m:ByteArray) (hm:m.size≤16384) (w:World) :
    Calls Tryz.prog 111 #[.string m] w fun e w'=>∃B L,e=.returned (.slice (some ⟨B,0,none⟩) L.length L.length)∧w.heap.size≤B∧BlkL w' B 145 enc4 (ints L)∧w.grownBy w' none ∧
     L.length=(m.size+3) / 4∧(∀x∈L,x<B32)∧nv B32 L=val (bN m):=by
 have hmk:=make4 w ((m.size+3) / 4) (by omega)
 rw [show((((m.size+3) / 4:Nat)):Int)=((m.size:Int)+3) / 4 by omega]at hmk
 obtain⟨n,hn⟩:∃n,(m.size+3) / 4=n:=⟨_,rfl⟩
 rw [hn]at hmk
 go_enter Tryz.func111,Tryz.ntmps111
 go_wp2
 go_loopw [4] (fun x wr=>∃(i:Nat) (L:List Nat),x=.int .i64 i∧i≤m.size∧L.length=n∧(∀x∈L,x<B32)∧nv B32 L=val (bN m) % 256 ^ i∧BlkL wr w.heap.size 145 enc4 (ints L)∧w.grownBy wr none) (fun x _=>m.size-(RowKit.intOf x).toNat)
 case atStart=>exact⟨0,List.replicate n 0,rfl,by omega,by simp,fun x hx=>by rw [List.eq_of_mem_replicate hx];decide,by rw [ZO,Nat.pow_zero,Nat.mod_one],heap_alloc_new _ _,grow1 _ _⟩
 case round =>
  obtain⟨i,L,rfl,hi,hL,hr,hv,hB,hg⟩:=hrel
  clear hmk
  have HR:Hid (∀x∈L,x<B32):=hr
  have HV:Hid (nv B32 L=val (bN m) % 256 ^ i):=hv
  have HB:Hid (BlkL wr w.heap.size 145 enc4 (ints L)):=hB
  by_cases hi1:i<m.size
  ·have hq:i / 4<n:=by omega
   have hc:=hB.cell (i / 4) (by rw [Zk];omega)
   rw [Z6]at hc
   have hf:=hB.frozen (i / 4)
   have hb:=(m[m.size-1-i]'(by omega)).toNat_lt
   have hrm:=Zde (i:=i) hr (by rw [hv];exact Nat.mod_lt _ (Nat.pow_pos (by decide))) hb
   clear hr hv hB
   have hw1:IntKind.i64.wrap ((i:Int) / 4)=((i / 4:Nat):Int):=by rw [IntKind.wrap_i64];omega
   have hw2:IntKind.i64.wrap (8*((i:Int) % 4))=((8*(i % 4):Nat):Int):=by rw [IntKind.wrap_i64];omega
   obtain⟨p,hp⟩:∃p:Nat,m.size-1-i=p:=⟨_,rfl⟩
   have hpm:p<m.size:=by omega
   have hq1:((i / 4:Nat):Int)<n:=by omega
   go_wp2
   rw [show(m.size:Int)-1-(i:Int)=(p:Int)by omega]
   go_region
   go_wp2
   go_roundw
   case rel =>
    have hb2:val (bN m) / 256 ^ i % 256=m[p].toNat:=by
     have h1:=YN 256 (bN m).reverse i (fun x hx=>Xg m x (by simpa using hx))
     rw [←JL,List.getElem?_reverse (by rw [Ze];exact hi1),Ze,hp,bN_at m p hpm]at h1
     exact h1
    have hqL:i / 4<L.length:=by omega
    have hle:L[i / 4]?.getD 0=L[i / 4]:=by rw [List.getElem?_eq_getElem hqL];rfl
    have hrm2:L[i / 4]?.getD 0+m[p].toNat*2 ^ (8*(i % 4))<B32:=by
     have:=hrm.1
     simp only [hp]at this
     exact this
    refine⟨i+1,L.set (i / 4) (L[i / 4]?.getD 0+m[p].toNat*2 ^ (8*(i % 4))),rfl,by omega,by simp [hL],ZM HR.out hrm2,Zer hqL HV.out hb2,?_,Zf (Zb hg (Nat.le_refl _))⟩
    have e:=HB.out.set (i / 4) ((L[i / 4]?.getD 0+m[p].toNat*2 ^ (8*(i % 4)):Nat):Int)
    rw [ZF]at e
    rw [ZeZ (L[i / 4]) (m[p].toNat) (8*(i % 4)) (by rw [←hle];exact hrm2) (by have:=(m[p]).toNat_lt;omega),←hle]
    exact e
   case measure=>simp [RowKit.intOf];omega
  ·have hi0:i=m.size:=by omega
   subst hi0
   have hvv:nv B32 L=val (bN m):=by
    rw [hv]
    have:=Xx (bN m) (Xg m)
    rw [Ze]at this
    exact Nat.mod_eq_of_lt this
   clear hr hv hB
   go_wp2
   go_ret
   exact⟨w.heap.size,L,by rw [hL];rfl,Nat.le_refl _,HB.out,hg,by rw [hL,←hn],HR.out,hvv⟩
theorem Zt {L:List Nat} (hr:∀x∈L,x<B32) (i:Nat):L[i]?.getD 0<B32:=by
 cases h:L[i]? with
 |none=>simp
 |some y=>exact hr y (List.mem_of_getElem? h)
theorem ZbM (w:World) (v:Value) (L:List Nat) (h:D4 w v L) (hr:∀x∈L,x<B32) (hl:L.length≤1000000000) (i:Nat) (_hi:i≤9223372036854775807) :
    Calls Tryz.prog 152 #[v,.int .i64 i] w fun e w'=>e=.returned (.int .u64 ((L[i]?.getD 0:Nat):Int))∧w'=w:=by
 have hlt:=Zt hr i
 by_cases hi1:i<L.length
 ·rcases h with ⟨_,rfl⟩|⟨B,off,c,rfl,hc,h⟩
  ·simp at hi1
  ·have hx:=h i hi1
   generalize L[i]?.getD 0=x at *
   have hx32:(x:Int)≤4294967295:=by have:x<4294967296:=hlt;omega
   clear hlt hr h
   go_enter Tryz.func152,Tryz.ntmps152
   go_wp2
   go_ret
   exact⟨rfl,rfl⟩
 ·have hz:L[i]?.getD 0=0:=by rw [List.getElem?_eq_none (by omega)];rfl
  rw [hz]
  obtain⟨ao,c,rfl⟩:∃ao c,v=.slice ao L.length c:=by
   rcases h with ⟨rfl,rfl⟩|⟨B,off,c,rfl,_⟩
   ·exact⟨_,_,rfl⟩
   ·exact⟨_,_,rfl⟩
  clear h hlt hz hr
  go_enter Tryz.func152,Tryz.ntmps152
  go_wp2
  go_ret
  exact⟨rfl,rfl⟩
theorem Zez {x:Nat} (h:0<x):bl x=bl (x / 2)+1:=by
 by_cases h1:x=1
 ·subst h1;decide
 ·have:=bl_up (x / 2) 1 (x % 2) (by omega) (by omega)
  rw [show x / 2*2 ^ 1+x % 2=x by omega]at this
  omega
theorem JJ (B:Nat) (L:List Nat) (k:Nat) (h:L.length=k+1):nv B L=nv B (L.take k)+B ^ k*(L[k]?.getD 0):=by
 have e:L=L.take k++[L[k]?.getD 0]:=by
  have h1:L[k]?=some (L[k]'(by omega)):=List.getElem?_eq_getElem (by omega)
  have h2:L.take (k+1)=L:=List.take_of_length_le (by omega)
  refine h2.symm.trans ?_
  rw [Zw h1,h1]
  rfl
 conv=>lhs;rw [e]
 rw [ZE,List.length_take,Nat.min_eq_left (by omega)]
 simp [nv]
theorem V1:bl 0=0:=rfl
theorem Zdv (w:World) (v:Value) (L:List Nat) (h:D4 w v L) (hr:∀x∈L,x<B32) (hl:L.length≤1000000000) :
    Calls Tryz.prog 180 #[v] w fun e w'=>e=.returned (.int .i64 ((32*(L.length-1)+bl (L[L.length-1]?.getD 0):Nat):Int))∧w'=w:=by
 by_cases h0:L.length=0
 ·obtain rfl:L=[]:=by simpa using h0
  obtain⟨ao,c,rfl⟩:∃ao c,v=.slice ao 0 c:=by
   rcases h with ⟨rfl,_⟩|⟨B,off,c,rfl,_⟩
   ·exact⟨_,_,rfl⟩
   ·exact⟨_,_,rfl⟩
  clear h
  go_enter Tryz.func180,Tryz.ntmps180
  go_wp2
  go_ret
  exact⟨rfl,rfl⟩
 ·rcases h with ⟨_,rfl⟩|⟨B,off,c,rfl,hc,h⟩
  ·simp at h0
  ·have hx:=h (L.length-1) (by omega)
   have hlt:=Zt hr (L.length-1)
   clear h hr
   generalize L[L.length-1]?.getD 0=x at *
   generalize L.length=n at *
   have hx32:(x:Int)≤4294967295:=by have:x<4294967296:=hlt;omega
   have hb32:bl x≤1000:=by
    rcases Nat.eq_zero_or_pos x with rfl|hp
    ·simp [V1]
    ·obtain⟨k,hk⟩:=YS hp
     have h1:=(X5.1 hk).1
     have:k<32:=by
      rcases Nat.lt_or_ge k 32 with h|h
      ·exact h
      ·have h2:2 ^ 32≤2 ^ k:=Nat.pow_le_pow_right (by decide) h
       have h3:x<2 ^ 32:=hlt
       omega
     omega
   have hT0:32*(n-1)+bl x≤40000000000:=by omega
   obtain⟨T,hT⟩:∃T,32*(n-1)+bl x=T:=⟨_,rfl⟩
   rw [hT]at hT0 ⊢
   have HT:Unit→32*(n-1)+bl x=T:=fun _=>hT
   have HT0:Hid (T≤40000000000):=hT0
   have HX32:Hid ((x:Int)≤4294967295):=(by omega:(x:Int)≤4294967295)
   clear hlt hb32 hx32 hT hT0
   obtain⟨q,rfl⟩:∃q,n=q+1:=⟨n-1,by omega⟩
   rw [Nat.add_sub_cancel]at hx
   have hlI:(q:Int)≤1000000000:=by omega
   clear hl h0
   go_enter Tryz.func180,Tryz.ntmps180
   go_wp2
   go_loopw [3,4] (fun s t wr=>∃(k y:Nat),s=.int .i64 k∧t=.int .u32 y∧(y:Int)≤4294967295∧k+bl y=T∧wr=w) (fun _ t _=>(RowKit.intOf t).toNat)
   case atStart=>exact⟨32*q,x,Zl (by omega),rfl,HX32.out,HT (),rfl⟩
   case round =>
    obtain⟨k,y,rfl,rfl,hy,he,rfl⟩:=hrel
    have HE:Hid (k+bl y=T):=he
    have hk:k≤40000000000:=by have:=HT0.out;omega
    clear he
    by_cases hp:0<y
    ·go_wp2
     go_roundw
     case rel=>exact⟨k+1,y / 2,rfl,Zl (by omega),by omega,by have:=HE.out;rw [Zez hp]at this;omega,trivial⟩
     case measure=>simp [RowKit.intOf];omega
    ·obtain rfl:y=0:=by omega
     have he:=HE.out
     rw [V1]at he
     obtain rfl:k=T:=by omega
     clear he HE
     go_wp2
     go_ret
     exact⟨rfl,rfl⟩
theorem Vk {neg:Bool} {mag:ByteArray} (h:may neg mag=true) (hp:0<mag.size):mag[0].toNat≠0:=by
 unfold may at h
 rw [if_neg (by omega),Yl mag hp]at h
 simp at h
 exact h.2
theorem U7 (mag:ByteArray) (hp:0<mag.size) (h0:mag[0].toNat≠0):256 ^ (mag.size-1)≤val (bN mag):=by
 have h1:=bl_val mag hp h0
 obtain⟨k,hk⟩:=YS (show 0<mag[0].toNat by omega)
 rw [hk]at h1
 have h2:=(X5.1 (show bl (val (bN mag))=(8*(mag.size-1)+k)+1 by omega)).1
 rw [show(256:Nat)=2 ^ 8 from rfl,←Nat.pow_mul]
 exact Nat.le_trans (Nat.pow_le_pow_right (by decide) (by omega)) h2
theorem Yu (B:Nat) (L:List Nat) (k:Nat) (hk:k<L.length) (h0:L[k]?.getD 0=0):nv B (L.take (k+1))=nv B (L.take k):=by
 have h1:L[k]?=some (L[k]'hk):=List.getElem?_eq_getElem hk
 rw [Zw h1,ZE]
 rw [h1]at h0
 simp at h0
 simp [nv,h0]
theorem Z2 (w:World) (v:Value) (L:List Nat) (h:D4 w v L) (hr:∀x∈L,x<B32) (hl:L.length≤1000000000) :
    Calls Tryz.prog 130 #[v] w fun e w'=>∃v' k,e=.returned v'∧k≤L.length∧D4 w v' (L.take k)∧nv B32 (L.take k)=nv B32 L∧(k=0∨(L.take k)[k-1]?.getD 0≠0)∧w'=w:=by
 rcases h with ⟨rfl,rfl⟩|⟨B,off,c,rfl,hc,h⟩
 ·go_enter Tryz.func130,Tryz.ntmps130
  go_wp2
  go_loopw [3] (fun s wr=>s=.int .i64 0∧wr=w) (fun _ _=>0)
  case atStart=>exact⟨rfl,rfl⟩
  case round =>
   obtain⟨rfl,rfl⟩:=hrel
   go_wp2
   go_ret
   exact⟨_,0,rfl,by simp,.inl ⟨rfl,rfl⟩,rfl,.inl rfl,rfl⟩
 ·have HC:Hid (∀j,j<L.length→w.cell? ⟨B,off+j,none⟩=some (.int .u32 ((L[j]?.getD 0:Nat):Int))):=h
  have HR:Hid (∀x∈L,x<B32):=hr
  have hlI:(L.length:Int)≤1000000000:=by omega
  obtain⟨n,hn⟩:∃n,L.length=n:=⟨_,rfl⟩
  have HN:Hid (L.length=n):=hn
  rw [hn]at hc hlI ⊢
  clear h hr hl hn
  go_enter Tryz.func130,Tryz.ntmps130
  go_wp2
  go_loopw [3] (fun s wr=>∃k,k≤n∧s=.int .i64 k∧nv B32 (L.take k)=nv B32 L∧wr=w) (fun s _=>(RowKit.intOf s).toNat)
  case atStart=>exact⟨n,Nat.le_refl _,rfl,by rw [←HN.out,List.take_length],rfl⟩
  case round =>
   obtain⟨k,hk,rfl,hv,rfl⟩:=hrel
   have HV:Hid (nv B32 (L.take k)=nv B32 L):=hv
   clear hv
   by_cases hk0:k=0
   ·subst hk0
    go_wp2
    go_ret
    exact⟨_,0,rfl,by omega,.inr ⟨B,off,c,by simp,by simp,fun j hj=>by simp at hj⟩,HV.out,.inl rfl,rfl⟩
   ·obtain⟨q,rfl⟩:∃q,k=q+1:=⟨k-1,by omega⟩
    have hx:=HC.out q (by have:=HN.out;omega)
    by_cases hz:L[q]?.getD 0=0
    ·rw [hz]at hx
     go_wp2
     go_roundw
     case rel=>exact⟨q,by omega,Zl (by omega),by rw [←HV.out,Yu B32 L q (by have:=HN.out;omega) hz],trivial⟩
     case measure=>simp [RowKit.intOf]
    ·have hz1:(((L[q]?.getD 0:Nat):Int) == 0)=false:=by
       rw [beq_eq_false_iff_ne];omega
     have HZ:Hid (L[q]?.getD 0≠0):=hz
     clear hz
     generalize((L[q]?.getD 0:Nat):Int)=x at *
     go_wp2
     go_ret
     refine⟨_,q+1,rfl,by have:=HN.out;omega,.inr ⟨B,off,c,?_,?_,fun j hj=>?_⟩,HV.out,.inr ?_,rfl⟩
     ·rw [List.length_take,HN.out,Nat.min_eq_left hk];rfl
     ·rw [List.length_take,HN.out,Nat.min_eq_left hk];omega
     ·rw [List.length_take,HN.out,Nat.min_eq_left hk]at hj
      rw [HC.out j (by have:=HN.out;omega),List.getElem?_take,if_pos hj]
     ·rw [List.getElem?_take,if_pos (by omega)];exact HZ.out
theorem Zea (L:List Nat) (k:Nat) (hr:∀x∈L,x<B32):(L[k / 4]?.getD 0) / 2 ^ (8*(k % 4)) % 256=nv B32 L / 256 ^ k % 256:=by
 have h1:=YN B32 L (k / 4) hr
 rw [←h1]
 have e:nv B32 L / 256 ^ k=nv B32 L / B32 ^ (k / 4) / 2 ^ (8*(k % 4)):=by
  rw [Nat.div_div_eq_div_mul,show B32=2 ^ 32 from rfl,show(256:Nat)=2 ^ 8 from rfl,←Nat.pow_mul,←Nat.pow_mul,←Nat.pow_add,show 32*(k / 4)+8*(k % 4)=8*k by omega]
 rw [e]
 generalize nv B32 L / B32 ^ (k / 4)=x
 have h4:k % 4=0∨k % 4=1∨k % 4=2∨k % 4=3:=by omega
 rcases h4 with h|h|h|h<;>rw [h]<;>simp only [B32]<;>omega
theorem ZaI {V n:Nat} (h:V<256 ^ (n+1)) (h0:V / 256 ^ n % 256=0):V<256 ^ n:=by
 have e:=Nat.mod_pow_succ (b:=256) (k:=n) (x:=V)
 rw [Nat.mod_eq_of_lt h,h0,Nat.mul_zero,Nat.add_zero]at e
 rw [e]
 exact Nat.mod_lt _ (Nat.pow_pos (by decide))
theorem ZbO:∀(r:List Nat),(∀x∈r,x<256)→(r=[]∨r.getLast?.getD 0≠0)→magN (val r.reverse)=r.reverse
 |[],_,_=>by simp [val,ZL]
 |b::t,h,h0=>by
  have hb:=h b (by simp)
  rw [List.reverse_cons,Yi]
  by_cases ht:t=[]
  ·subst ht
   have:b≠0:=by
    rcases h0 with h0|h0
    ·simp at h0
    ·simpa using h0
   rw [List.reverse_nil,val_nil,Nat.zero_mul,Nat.zero_add,Yr (by omega),Nat.div_eq_of_lt hb,ZL,Nat.mod_eq_of_lt hb]
  ·have hl:t.getLast?.getD 0≠0:=by
     rcases h0 with h0|h0
     ·simp at h0
     ·rw [List.getLast?_cons]at h0
      cases hg:t.getLast? with
      |none=>simp at hg;exact absurd hg ht
      |some y=>rw [hg]at h0;simpa using h0
   have ih:=ZbO t (fun x hx=>h x (by simp [hx])) (.inr hl)
   have hp:0<val t.reverse:=by
    rcases Nat.eq_zero_or_pos (val t.reverse)with hz|hp
    ·rw [hz,ZL]at ih
     have:=congrArg List.length ih
     simp at this
     exact absurd (List.eq_nil_of_length_eq_zero this.symm) ht
    ·exact hp
   rw [Yr (by omega),show(val t.reverse*256+b) / 256=val t.reverse by omega,show(val t.reverse*256+b) % 256=b by omega,ih]
theorem Zax (l:List Nat) (h:∀x∈l,x<256) (h0:l=[]∨l.head?.getD 0≠0):magN (val l)=l:=by
 have:=ZbO l.reverse (fun x hx=>h x (by simpa using hx)) (by
  rcases h0 with rfl|h0
  ·exact .inl rfl
  ·right;rwa [List.getLast?_reverse])
 rwa [List.reverse_reverse]at this
theorem ZbF (b:Nat) (l:List Nat):val (b::l)=b*256 ^ l.length+val l:=by
 rw [JL,JL,List.reverse_cons,ZE,List.length_reverse]
 simp [nv]
 rw [Nat.add_comm,Nat.mul_comm]
theorem blk_new (w:World) (q:Nat):BlkL ((w.alloc (wObj false eS)).alloc (.cells ((ints (List.replicate (q+1) 0)).map encB).toArray 5)) (w.heap.size+1) 5 encB (List.replicate (q+1-0) 0++ints []):=by
 have h:=heap_alloc_new (w.alloc (wObj false eS)) (.cells ((ints (List.replicate (q+1) 0)).map encB).toArray 5)
 rw [World.size_alloc]at h
 unfold BlkL
 rw [h]
 simp [ints]
theorem Xd (neg:Bool) (w:World) (v:Value) (L:List Nat) (h:D4 w v L) (hr:∀x∈L,x<B32) (hl:L.length≤100000000) :
    Calls Tryz.prog 110 #[.bool neg,v] w fun e w'=>∃s,e=.returned (whole (neg && decide (nv B32 L≠0)) s)∧bN s=magN (nv B32 L)∧w.grownBy w' none:=by
 obtain⟨V,hV⟩:∃V,nv B32 L=V:=⟨_,rfl⟩
 rw [hV]
 go_enter Tryz.func110,Tryz.ntmps110
 go_wp2_with fail
 refine(Z2 _ v L (h.kept (grow1 _ _)) hr (by omega)).mono ?_
 rintro e w1 ⟨v',k,rfl,hk,hd,hv,hlast,rfl⟩
 rw [hV]at hv
 have hKl:(L.take k).length=k:=by rw [List.length_take,Nat.min_eq_left hk]
 have hrK:∀x∈L.take k,x<B32:=fun x hx=>hr x (List.mem_of_mem_take hx)
 have hk9:k≤100000000:=by omega
 generalize L.take k=K at *
 clear h hr hl hk hV
 by_cases hk0:k=0
 ·subst hk0
  obtain rfl:K=[]:=by simpa using hKl
  obtain⟨ao,c,rfl⟩:∃ao c,v'=.slice ao 0 c:=by
   rcases hd with ⟨rfl,_⟩|⟨B,off,c,rfl,_⟩
   ·exact⟨_,_,rfl⟩
   ·exact⟨_,_,rfl⟩
  have hV0:V=0:=by rw [←hv];rfl
  clear hd hlast hrK hKl hv
  go_wp2_with fail
  refine bodyPost_ret (ZV rfl _ _ w.heap.size _ _ _ _ rfl (heap_alloc_new _ _)) rfl ?_
  refine⟨eS,XY ?_,by rw [hV0,ZL];rfl,grow1 _ _⟩
  rw [hV0]
  cases neg<;>rfl
 ·have hlast2:K[k-1]?.getD 0≠0:=by
    rcases hlast with h|h
    ·exact absurd h hk0
    ·exact h
  have hVlo:B32 ^ (k-1)≤V:=by
   obtain⟨q,rfl⟩:∃q,k=q+1:=⟨k-1,by omega⟩
   have h1:=JJ B32 K q hKl
   rw [Nat.add_sub_cancel]at hlast2 ⊢
   have h2:B32 ^ q*1≤B32 ^ q*K[q]?.getD 0:=Nat.mul_le_mul_left _ (by omega)
   omega
  have hVhi:V<256 ^ (4*k):=by
   have h1:=nv_lt B32 K hrK
   rw [hKl,hv]at h1
   rw [show(256:Nat) ^ (4*k)=B32 ^ k by rw [Nat.pow_mul]]
   exact h1
  have hVp:0<V:=Nat.lt_of_lt_of_le (Nat.pow_pos (by decide)) hVlo
  have hbyte:=fun j=>Zea K j hrK
  rw [hv]at hbyte
  rcases hd with ⟨_,rfl⟩|⟨B,off,c,rfl,hc,hcell⟩
  ·simp at hKl;omega
  ·rw [hKl]at hc hcell ⊢
   have HC:Hid (∀j,j<k→(w.alloc (wObj false eS)).cell? ⟨B,off+j,none⟩=some (.int .u32 ((K[j]?.getD 0:Nat):Int))):=hcell
   have HR:Hid (∀x∈K,x<B32):=hrK
   have HBY:Hid (∀j,K[j / 4]?.getD 0 / 2 ^ (8*(j % 4)) % 256=V / 256 ^ j % 256):=hbyte
   have HVh:Hid (V<256 ^ (4*k)):=hVhi
   have HVp:Hid (0<V):=hVp
   have hkI:(k:Int)≤100000000:=by omega
   have hkp:0<k:=by omega
   clear hcell hrK hbyte hVhi hVp hVlo hlast hlast2 hKl hk0 hk9 hv
   go_wp2_with fail
   go_loopw [5] (fun s wr=>∃n,n≤4*k∧s=.int .i64 n∧V<256 ^ n∧wr=w.alloc (wObj false eS)) (fun s _=>(RowKit.intOf s).toNat)
   case atStart=>exact⟨4*k,Nat.le_refl _,Zl (by omega),HVh.out,rfl⟩
   case round =>
    obtain⟨n,hn,rfl,hVn,rfl⟩:=hrel
    have hn0:n≠0:=by
     intro e
     subst e
     have:=HVp.out
     simp at hVn
     omega
    obtain⟨q,rfl⟩:∃q,n=q+1:=⟨n-1,by omega⟩
    have HVn:Hid (V<256 ^ (q+1)):=hVn
    have hx:=HC.out (q / 4) (by omega)
    have hby:=HBY.out q
    have hrx:=Zt HR.out (q / 4)
    clear hVn hn0
    generalize K[q / 4]?.getD 0=x at *
    have hxI:(x:Int)≤4294967295:=by have:x<4294967296:=hrx;omega
    have HBYq:Hid (x / 2 ^ (8*(q % 4)) % 256=V / 256 ^ q % 256):=hby
    clear hby hrx
    have hq8:(q:Int)≤400000000:=by omega
    have htm:((x:Int) / 2 ^ (8*(q % 4))).tmod 256=((x / 2 ^ (8*(q % 4)) % 256:Nat):Int):=by
     have e:((x:Int) / 2 ^ (8*(q % 4)))=((x / 2 ^ (8*(q % 4)):Nat):Int):=by simp
     rw [e]
     generalize x / 2 ^ (8*(q % 4))=t
     rw [Int.tmod_eq_emod_of_nonneg (by omega)]
     omega
    by_cases hz:x / 2 ^ (8*(q % 4)) % 256=0
    ·have hzb:(((x:Int) / 2 ^ (8*(q % 4))).tmod 256 == 0)=true:=by rw [htm,hz];rfl
     clear htm
     have HZ:Hid (x / 2 ^ (8*(q % 4)) % 256=0):=hz
     clear hz
     go_wp2_with fail
     go_roundw
     case rel=>exact⟨q,by omega,rfl,ZaI HVn.out (by rw [←HBYq.out];exact HZ.out),trivial⟩
     case measure=>simp [RowKit.intOf]
    ·have hzb:(((x:Int) / 2 ^ (8*(q % 4))).tmod 256 == 0)=false:=by
       rw [htm,beq_eq_false_iff_ne]
       omega
     clear htm
     have HZ:Hid (x / 2 ^ (8*(q % 4)) % 256≠0):=hz
     clear hz
     have hmk:=make1 (w.alloc (wObj false eS)) (q+1) (by omega)
     rw [show((q+1:Nat):Int)=(q:Int)+1 by omega,World.size_alloc]at hmk
     go_wp2_with fail
     go_loopw [7] (fun s wr=>∃(i:Nat) (M:List Nat),i≤q+1∧s=.int .i64 i∧M.length=i∧(∀y∈M,y<256)∧val M=V % 256 ^ i ∧
      BlkL wr (w.heap.size+1) 5 encB (List.replicate (q+1-i) 0++ints M)∧(w.alloc (wObj false eS)).grownBy wr none) (fun s _=>q+1-(RowKit.intOf s).toNat)
     case atStart=>exact⟨0,[],by omega,rfl,rfl,by simp,by simp [val,Nat.mod_one],blk_new w q,grow1 _ _⟩
     case round =>
      obtain⟨i,M,hi,rfl,hM,hMr,hMv,hBk,hg⟩:=hrel
      clear hmk hzb hx
      have HMr:Hid (∀y∈M,y<256):=hMr
      have HMv:Hid (val M=V % 256 ^ i):=hMv
      have HBk:Hid (BlkL wr (w.heap.size+1) 5 encB (List.replicate (q+1-i) 0++ints M)):=hBk
      have HGr:Hid ((w.alloc (wObj false eS)).grownBy wr none):=hg
      by_cases hi1:i<q+1
      ·have hx2:=Zd hg (HC.out (i / 4) (by omega)) (by simp)
       have hby2:=HBY.out i
       have hrx2:=Zt HR.out (i / 4)
       have hc2:=hBk.cell (q-i) (by simp;omega)
       have hf2:=hBk.frozen (q-i)
       clear hMr hMv hBk hg
       generalize K[i / 4]?.getD 0=y at *
       have hyI:(y:Int)≤4294967295:=by have:y<4294967296:=hrx2;omega
       have HBY2:Hid (y / 2 ^ (8*(i % 4)) % 256=V / 256 ^ i % 256):=hby2
       clear hby2 hrx2
       go_wp2_with fail
       go_roundw
       case rel =>
        have hyb:((y:Int) / 2 ^ (8*(i % 4)) % 256)=((V / 256 ^ i % 256:Nat):Int):=by
         rw [←HBY2.out]
         simp
        refine⟨i+1,(V / 256 ^ i % 256)::M,by omega,rfl,by simp [hM],?_,?_,?_,Zb HGr.out (by simp)⟩
        ·intro z hz
         rcases List.mem_cons.1 hz with rfl|hz
         ·omega
         ·exact HMr.out z hz
        ·rw [ZbF,hM,HMv.out,Nat.mod_pow_succ,Nat.mul_comm,Nat.add_comm]
        ·have e:=HBk.out.set (q-i) ((V / 256 ^ i % 256:Nat):Int)
         rw [show q+1-i=(q-i)+1 by omega,Zby]at e
         rw [show q+1-(i+1)=q-i by omega,hyb]
         exact e
       case measure=>simp [RowKit.intOf];omega
      ·obtain rfl:i=q+1:=by omega
       have hMV:val M=V:=by rw [hMv];exact Nat.mod_eq_of_lt HVn.out
       have hMN:magN V=M:=by
        rw [←hMV]
        apply Zax M hMr
        right
        cases M with
        |nil=>simp at hM
        |cons b t =>
         have hlt:=Xx t (fun z hz=>hMr z (by simp [hz]))
         have htl:t.length=q:=by simpa using hM
         rw [htl]at hlt
         rw [ZbF,htl]at hMV
         intro hb
         simp at hb
         rw [hb,Nat.zero_mul,Nat.zero_add]at hMV
         have h1:=HBYq.out
         rw [←hMV,Nat.div_eq_of_lt hlt]at h1
         exact HZ.out h1
       have hcv:=YM (w:=wr) (s:=.slice (some ⟨w.heap.size+1,0,none⟩) (q+1) (q+1)) (L:=ints M) (.inr ⟨_,_,_,by rw [Zk,hM],fun j u hj=>by
        have hj2:=(List.getElem?_eq_some_iff.1 hj).1
        simp [Zk,hM]at hj2
        have h1:=hBk.cell j (by simp [Zk];omega)
        rw [Nat.zero_add,h1,←hj]
        simp [Zk,hM,hj2]⟩)
       have hW:WBlk wr w.heap.size (.bool false) (.string eS):=WBlk.kept (w:=w.alloc (wObj false eS)) (heap_alloc_new _ _) hg (by simp)
       have hc0:=hW.c0
       have hc1:=hW.c1
       have hf0:=hW.fr 0
       have hf1:=hW.fr 1
       have HMN:Unit→magN V=M:=fun _=>hMN
       clear hMr hMv hBk hg hMV hMN
       go_wp2_with fail
       refine bodyPost_ret (ZV rfl _ _ w.heap.size _ _ _ _ rfl (hW.put _ _)) rfl ?_
       refine⟨strOf (ints M),XY ?_,by rw [HMN ()];exact Yk M HMr.out,Zb (Zb (Za (grow1 _ _) HGr.out) (Nat.le_refl _)) (Nat.le_refl _)⟩
       have hVne:decide (V≠0)=true:=decide_eq_true (by have:=HVp.out;omega)
       rw [hVne,Bool.and_true]
theorem d4_two (w:World) (a b:Nat):D4 (w.alloc (.cells #[.int .u32 a,.int .u32 b] 145)) (.slice (some ⟨w.heap.size,0,none⟩) 2 2) [a,b]:=by
 have h:BlkL (w.alloc (.cells #[.int .u32 a,.int .u32 b] 145)) w.heap.size 145 enc4 (ints [a,b]):=heap_alloc_new _ _
 exact h.d4
theorem Zdn (n:Int) (h0:-9223372036854775808≤n) (h1:n≤9223372036854775807) (w:World) :
    Calls Tryz.prog 86 #[.int .i64 n] w fun e w'=>∃s,e=.returned (whole (decide (n<0)) s)∧bN s=magN n.natAbs∧w.grownBy w' none:=by
 by_cases hn:n<0
 ·obtain⟨a,rfl⟩:∃a:Nat,n=-(a:Int):=⟨n.natAbs,by omega⟩
  have hw:IntKind.u64.wrap (-IntKind.u64.wrap (-(a:Int)))=a:=by rw [IntKind.wrap_u64,IntKind.wrap_u64];omega
  go_enter Tryz.func86,Tryz.ntmps86
  go_wp2_with fail
  have hd:=d4_two (w.alloc (wObj false eS)) (a % 4294967296) (a / 4294967296)
  rw [World.size_alloc,show((a % 4294967296:Nat):Int)=(a:Int) % 4294967296 by omega,show((a / 4294967296:Nat):Int)=(a:Int) / 4294967296 by omega]at hd
  have hv:nv B32 [a % 4294967296,a / 4294967296]=a:=by simp [nv,B32];omega
  refine(Xd true _ _ _ hd (fun x hx=>by simp at hx;rcases hx with rfl|rfl<;>simp only [B32]<;>omega) (by simp)).mono ?_
  rintro e w1 ⟨s,rfl,hs,hg⟩
  rw [hv]at hs
  have hN:(true && decide (nv B32 [a % 4294967296,a / 4294967296]≠0))=true:=by rw [hv];rw [Bool.true_and];exact decide_eq_true (by omega)
  rw [hN]
  have hg2:=Za (grow1 (w.alloc (wObj false eS)) _) hg
  have hb:WBlk w1 w.heap.size (.bool false) (.string eS):=WBlk.kept (w:=w.alloc (wObj false eS)) (heap_alloc_new _ _) hg2 (by simp)
  have hc0:=hb.c0
  have hc1:=hb.c1
  have hf0:=hb.fr 0
  have hf1:=hb.fr 1
  have HG:Hid ((w.alloc (wObj false eS)).grownBy w1 none):=hg2
  clear hg hg2 hd hv hN
  go_wp2_with fail
  refine bodyPost_ret (ZV rfl _ _ w.heap.size _ _ _ _ rfl (hb.put _ _)) rfl ?_
  refine⟨s,XY ?_,by rw [hs];first|rfl|(congr 1;omega),Zb (Zb (Za (grow1 _ _) HG.out) (Nat.le_refl _)) (Nat.le_refl _)⟩
  rw [decide_eq_true (by omega)]
 ·obtain⟨a,rfl⟩:=Int.eq_ofNat_of_zero_le (show 0≤n by omega)
  go_enter Tryz.func86,Tryz.ntmps86
  go_wp2_with fail
  have hd:=d4_two (w.alloc (wObj false eS)) (a % 4294967296) (a / 4294967296)
  rw [World.size_alloc,show((a % 4294967296:Nat):Int)=(a:Int) % 4294967296 by omega,show((a / 4294967296:Nat):Int)=(a:Int) / 4294967296 by omega]at hd
  have hv:nv B32 [a % 4294967296,a / 4294967296]=a:=by simp [nv,B32];omega
  refine(Xd false _ _ _ hd (fun x hx=>by simp at hx;rcases hx with rfl|rfl<;>simp only [B32]<;>omega) (by simp)).mono ?_
  rintro e w1 ⟨s,rfl,hs,hg⟩
  rw [hv]at hs
  have hN:(false && decide (nv B32 [a % 4294967296,a / 4294967296]≠0))=false:=by rw [hv];rfl
  rw [hN]
  have hg2:=Za (grow1 (w.alloc (wObj false eS)) _) hg
  have hb:WBlk w1 w.heap.size (.bool false) (.string eS):=WBlk.kept (w:=w.alloc (wObj false eS)) (heap_alloc_new _ _) hg2 (by simp)
  have hc0:=hb.c0
  have hc1:=hb.c1
  have hf0:=hb.fr 0
  have hf1:=hb.fr 1
  have HG:Hid ((w.alloc (wObj false eS)).grownBy w1 none):=hg2
  clear hg hg2 hd hv hN
  go_wp2_with fail
  refine bodyPost_ret (ZV rfl _ _ w.heap.size _ _ _ _ rfl (hb.put _ _)) rfl ?_
  refine⟨s,XY ?_,by rw [hs];first|rfl|(congr 1;omega),Zb (Zb (Za (grow1 _ _) HG.out) (Nat.le_refl _)) (Nat.le_refl _)⟩
  rw [decide_eq_false (by omega)]
end Go.Proofs.YtdcadiaeaclpgaaGreatDoor
