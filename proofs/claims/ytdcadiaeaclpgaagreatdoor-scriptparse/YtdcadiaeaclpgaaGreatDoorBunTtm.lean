/- The program's takeTimes and giveBack: digits that are taken off others in their place, and given back. -/
import Derived.Test.YtdcadiaeaclpgaaGreatDoorBunShd
import Derived.Test.YtdcadiaeaclpgaaGreatDoorBunMor
import Derived.Test.YtdcadiaeaclpgaaGreatDoorBunPrd
import Derived.Deep.LoopGhost
import Derived.WalkMore
import Derived.Test.YtdcadiaeaclpgaaGreatDoorBunRed
import Derived.Shelf.SlicesE.Clone
import Derived.Test.YtdcadiaeaclpgaaGreatDoorBunAll
import Derived.Test.YtdcadiaeaclpgaaGreatDoorBunWka
namespace Go.Proofs.YtdcadiaeaclpgaaGreatDoor
open Go.RowKit Go.Lib Go.Sort
set_option maxHeartbeats 6400000
set_option maxRecDepth 1000000
theorem ZcX {A A' T N P o o' y t z d:Nat} (h:A+T=N+o*P) (hs:A'+z*P=A+d*P) (he:d+(o+y*t)=z+4294967296*o'):A'+(T+y*t*P)=N+o'*(P*4294967296):=by
 have e:=congrArg (·*P) he
 simp only [Nat.add_mul]at e
 rw [show 4294967296*o'*P=o'*(P*4294967296)by rw [Nat.mul_comm 4294967296 o',Nat.mul_assoc,Nat.mul_comm 4294967296 P]]at e
 omega
theorem Zc2 {A A' T N P o o' y t z d:Nat} (h:A+o*P=N+T) (hs:A'+z*P=A+d*P) (he:d+4294967296*o'=o+(y*t+z)):A'+o'*(P*4294967296)=N+(T+y*t*P):=by
 have e:=congrArg (·*P) he
 simp only [Nat.add_mul]at e
 rw [show 4294967296*o'*P=o'*(P*4294967296)by rw [Nat.mul_comm 4294967296 o',Nat.mul_assoc,Nat.mul_comm 4294967296 P]]at e
 omega
theorem ZdQ (t y V k a:Nat):t*(V+y*B32 ^ k)*B32 ^ a=t*V*B32 ^ a+y*t*B32 ^ (a+k):=by
 rw [Nat.mul_add,Nat.add_mul,Nat.pow_add,Nat.mul_comm (B32 ^ a) (B32 ^ k),Nat.mul_comm y t]
 simp only [Nat.mul_assoc]
theorem owed_lt {o y t z r w':Nat} (ho:o≤4294967295) (hy:y≤4294967295) (ht:t≤4294967295) (hz:z≤4294967295) (hr:(o+y*t) % 4294967296=r) (hw:4294967296+z-r=w') :
    (o+y*t) / 4294967296+(1-w' / 4294967296)≤4294967295∧w' % 4294967296+(o+y*t)=z+4294967296*((o+y*t) / 4294967296+(1-w' / 4294967296))∧w'<8589934592∧o+y*t≤18446744069414584320:=by
 have h1:y*t≤4294967295*4294967295:=Nat.mul_le_mul hy ht
 generalize y*t=p at *
 omega
theorem UQ (w:World) (B a n c t:Nat) (vb:Value) (M D:List Nat) (hB:BlkL w B 145 enc4 (ints M)) (hM:∀x∈M,x<B32) (hl:a+n+1≤M.length) (hc:n+1≤c) (hm9:M.length≤1000000) (hD:D4 w vb D) (hap:∀b n c,vb=.slice (some b) n c→some b.block≠some B) (hDr:∀x∈D,x<B32) (hn:D.length=n) (ht:t≤4294967295) :
    Calls Tryz.prog 229 #[.slice (some ⟨B,a,none⟩) (n+1) c,vb,.int .u64 (t:Int)] w fun e w'=>∃(r:Bool) (M':List Nat),e=.returned (.bool r)∧BlkL w' B 145 enc4 (ints M')∧M'.length=M.length∧(∀x∈M',x<B32)∧(∀j,j<a∨a+n<j→M'[j]?.getD 0=M[j]?.getD 0) ∧
     (r=true→nv B32 M'+t*nv B32 D*B32 ^ a=nv B32 M)∧(r=false→nv B32 M'+t*nv B32 D*B32 ^ a=nv B32 M+B32 ^ (a+n+1))∧w.grownBy w' (some B):=by
 obtain⟨ab,cb,rfl,hrd⟩:=hD.readsO hap
 have HN:Unit→D.length=n:=fun _=>hn
 rw [hn]at hrd ⊢
 have HRD:Hid (∀w',w.grownBy w' (some B)→∀i,i<n→∃B' off,ab=some ⟨B',off,none⟩∧w'.cell? ⟨B',off+i,none⟩=some (.int .u32 ((D[i]?.getD 0:Nat):Int))∧n≤cb):=hrd
 have HDR:Hid (∀x∈D,x<B32):=hDr
 have HB0:Hid (BlkL w B 145 enc4 (ints M)):=hB
 have HM0:Hid (∀x∈M,x<B32):=hM
 have HL:Hid (a+n+1≤M.length):=hl
 have htI:(t:Int)≤4294967295:=by omega
 have hnI:(n:Int)≤1000000:=by omega
 have hcI:(n:Int)+1≤c:=by omega
 have hwt:IntKind.u64.wrap (t:Int)=(t:Int):=by rw [IntKind.wrap_u64];omega
 clear hB hM hD hap hDr hrd hl hm9
 go_enter Tryz.func229,Tryz.ntmps229
 go_wp2_with fail
 go_loopw [7,14] (fun s u wr=>∃(o k:Nat) (K:List Nat),s=.int .u64 (o:Int)∧u=.int .i64 (k:Int)∧o≤4294967295∧k≤n∧BlkL wr B 145 enc4 (ints K)∧K.length=M.length∧(∀x∈K,x<B32)∧(∀j,j<a∨a+k≤j→K[j]?.getD 0=M[j]?.getD 0) ∧
  nv B32 K+t*nv B32 (D.take k)*B32 ^ a=nv B32 M+o*B32 ^ (a+k)∧w.grownBy wr (some B)) (fun _ u _=>n-(RowKit.intOf u).toNat)
 case atStart=>exact⟨0,0,M,rfl,rfl,by omega,by omega,HB0.out,rfl,HM0.out,fun _ _=>rfl,by simp [nv],World.grownBy.refl _ _⟩
 case round =>
  obtain⟨o,k,K,rfl,rfl,ho,hk,hBk,hKl,hKr,hKa,hv,hg⟩:=hrel
  have HBK:Hid (BlkL wr B 145 enc4 (ints K)):=hBk
  have HKL:Unit→K.length=M.length:=fun _=>hKl
  have HKR:Hid (∀x∈K,x<B32):=hKr
  have HKA:Hid (∀j,j<a∨a+k≤j→K[j]?.getD 0=M[j]?.getD 0):=hKa
  have HV:Hid (nv B32 K+t*nv B32 (D.take k)*B32 ^ a=nv B32 M+o*B32 ^ (a+k)):=hv
  have HG:Hid (w.grownBy wr (some B)):=hg
  have hoI:(o:Int)≤4294967295:=by omega
  by_cases hk1:k<n
  ·obtain⟨B',off,rfl,hy,hcb⟩:=HRD.out wr hg k hk1
   have hzl:a+k<K.length:=by rw [hKl];have:=HL.out;omega
   have hz:=hBk.cell (a+k) (by rw [Zk];exact hzl)
   rw [Z6]at hz
   have hzf:=hBk.frozen (a+k)
   have rY:=Zt HDR.out k
   have rZ:=Zt hKr (a+k)
   have SY:=Zp B32 D k
   have HSY:Hid (nv B32 (D.take (k+1))=nv B32 (D.take k)+D[k]?.getD 0*B32 ^ k):=SY
   have HST:Hid (∀d,nv B32 (K.set (a+k) d)+K[a+k]?.getD 0*B32 ^ (a+k)=nv B32 K+d*B32 ^ (a+k)):=fun d=>Ym B32 K (a+k) d hzl
   clear SY hBk hKl hKr hKa hv hg
   generalize D[k]?.getD 0=y at *
   generalize K[a+k]?.getD 0=z at *
   have hyN:y≤4294967295:=by have:y<4294967296:=rY;omega
   have hzN:z≤4294967295:=by have:z<4294967296:=rZ;omega
   have hyI:(y:Int)≤4294967295:=by omega
   have hzI:(z:Int)≤4294967295:=by omega
   have hkI:(k:Int)<n:=by omega
   obtain⟨r,hr⟩:∃r,(o+y*t) % 4294967296=r:=⟨_,rfl⟩
   obtain⟨wd,hwd⟩:∃wd,4294967296+z-r=wd:=⟨_,rfl⟩
   obtain⟨q1,q2,q3,q4⟩:=owed_lt ho hyN ht hzN hr hwd
   have Q2:Hid (wd % 4294967296+(o+y*t)=z+4294967296*((o+y*t) / 4294967296+(1-wd / 4294967296))):=q2
   obtain⟨p,hp⟩:∃p,y*t=p:=⟨_,rfl⟩
   have hpI:(y:Int)*(t:Int)=(p:Int):=by rw [←hp];simp
   rw [hp]at hr q1 q4
   have hw1:IntKind.u64.wrap ((y:Int)*(t:Int))=(p:Int):=by rw [hpI,IntKind.wrap_u64];omega
   have hw2:IntKind.u64.wrap ((o:Int)+(p:Int))=(o:Int)+p:=by rw [IntKind.wrap_u64];omega
   have hw3:IntKind.u64.wrap (4294967296+(z:Int))=4294967296+(z:Int):=by rw [IntKind.wrap_u64];omega
   have hri:((o:Int)+p) % 4294967296=(r:Int):=by omega
   have hw4:IntKind.u64.wrap (4294967296+(z:Int)-(r:Int))=(wd:Int):=by rw [IntKind.wrap_u64];omega
   have hw5:IntKind.u64.wrap (y:Int)=(y:Int):=by rw [IntKind.wrap_u64];omega
   have hw6:IntKind.u64.wrap (z:Int)=(z:Int):=by rw [IntKind.wrap_u64];omega
   have hw7:IntKind.u64.wrap (1-(wd:Int) / 4294967296)=1-(wd:Int) / 4294967296:=by rw [IntKind.wrap_u64];omega
   have hw8:IntKind.u64.wrap (((o:Int)+p) / 4294967296+(1-(wd:Int) / 4294967296))=((o:Int)+p) / 4294967296+(1-(wd:Int) / 4294967296):=by rw [IntKind.wrap_u64];omega
   have hwN:(wd:Int)<8589934592:=by omega
   clear q2 hr hwd
   go_wp2_with fail
   go_roundw
   case rel =>
    have hd:wd % 4294967296<B32:=Nat.mod_lt _ (by decide)
    refine⟨(o+p) / 4294967296+(1-wd / 4294967296),k+1,K.set (a+k) (wd % 4294967296),Zl (by omega),rfl,q1,by omega,?_,by simp [HKL ()],ZM HKR.out hd,fun j hj=>?_,?_,Za HG.out (Zc _ _ _ _)⟩
    ·have e:=HBK.out.set (a+k) ((wd % 4294967296:Nat):Int)
     rw [ZF]at e
     rw [show((wd:Int)) % 4294967296=((wd % 4294967296:Nat):Int)by omega]
     exact e
    ·rw [List.getElem?_set_ne (by omega)]
     exact HKA.out j (by omega)
    ·rw [HSY.out,ZdQ,show a+(k+1)=a+k+1 by omega,Nat.pow_succ]
     have q:=Q2.out
     rw [hp]at q
     have:=ZcX (y:=y) (t:=t) HV.out (HST.out (wd % 4294967296)) (by rw [hp];exact q)
     exact this
   case measure=>simp [RowKit.intOf];omega
  ·obtain rfl:k=n:=by omega
   have hzl:a+k<K.length:=by rw [hKl];have:=HL.out;omega
   have hz:=hBk.cell (a+k) (by rw [Zk];exact hzl)
   rw [Z6]at hz
   have hzf:=hBk.frozen (a+k)
   have rZ:=Zt hKr (a+k)
   have HST:Hid (∀d,nv B32 (K.set (a+k) d)+K[a+k]?.getD 0*B32 ^ (a+k)=nv B32 K+d*B32 ^ (a+k)):=fun d=>Ym B32 K (a+k) d hzl
   clear hBk hKl hKr hKa hv hg
   generalize K[a+k]?.getD 0=z at *
   have hzN:z≤4294967295:=by have:z<4294967296:=rZ;omega
   have hzI:(z:Int)≤4294967295:=by omega
   obtain⟨wd,hwd⟩:∃wd,4294967296+z-o=wd:=⟨_,rfl⟩
   have hw3:IntKind.u64.wrap (4294967296+(z:Int))=4294967296+(z:Int):=by rw [IntKind.wrap_u64];omega
   have hw4:IntKind.u64.wrap (4294967296+(z:Int)-(o:Int))=(wd:Int):=by rw [IntKind.wrap_u64];omega
   have hw6:IntKind.u64.wrap (z:Int)=(z:Int):=by rw [IntKind.wrap_u64];omega
   have hwN:(wd:Int)<8589934592:=by omega
   have HWD:Hid (4294967296+z-o=wd):=hwd
   clear hwd
   go_wp2_with fail
   go_ret
   have hd:wd % 4294967296<B32:=Nat.mod_lt _ (by decide)
   have hwd:=HWD.out
   have hv:=HV.out
   rw [Zr B32 D k (by rw [HN ()];exact Nat.le_refl _)]at hv
   have hst:=HST.out (wd % 4294967296)
   refine⟨_,K.set (a+k) (wd % 4294967296),rfl,?_,by simp [HKL ()],ZM HKR.out hd,fun j hj=>?_,fun hr=>?_,fun hr=>?_,Za HG.out (Zc _ _ _ _)⟩
   ·have e:=HBK.out.set (a+k) ((wd % 4294967296:Nat):Int)
    rw [ZF]at e
    rw [show((wd:Int)) % 4294967296=((wd % 4294967296:Nat):Int)by omega]
    exact e
   ·rw [List.getElem?_set_ne (by omega)]
    exact HKA.out j (by omega)
   ·have hge:4294967296≤wd:=by simp at hr;omega
    have e1:wd % 4294967296+o=z:=by omega
    have e2:=congrArg (·*B32 ^ (a+k)) e1
    simp only [Nat.add_mul]at e2
    omega
   ·have hlt:wd<4294967296:=by simp at hr;omega
    have e1:wd % 4294967296+o=z+4294967296:=by omega
    have e2:=congrArg (·*B32 ^ (a+k)) e1
    simp only [Nat.add_mul]at e2
    rw [Nat.pow_succ,Nat.mul_comm (B32 ^ (a+k)) B32]
    simp only [B32]at *
    omega
theorem JT (w:World) (B a n c t:Nat) (vb:Value) (M D:List Nat) (hB:BlkL w B 145 enc4 (ints M)) (hM:∀x∈M,x<B32) (hl:a+n+1≤M.length) (hc:n+1≤c) (hm9:M.length≤1000000) (hD:D4 w vb D) (hap:∀b n c,vb=.slice (some b) n c→some b.block≠some B) (hDr:∀x∈D,x<B32) (hn:D.length=n) (ht:t≤4294967295) :
    Calls Tryz.prog 230 #[.slice (some ⟨B,a,none⟩) (n+1) c,vb,.int .u64 (t:Int)] w fun e w'=>∃(q:Nat) (M':List Nat),e=.returned (.tuple #[])∧BlkL w' B 145 enc4 (ints M')∧M'.length=M.length∧(∀x∈M',x<B32)∧(∀j,j<a∨a+n<j→M'[j]?.getD 0=M[j]?.getD 0) ∧
     nv B32 M'+q*B32 ^ (a+n+1)=nv B32 M+t*nv B32 D*B32 ^ a∧w.grownBy w' (some B):=by
 obtain⟨ab,cb,rfl,hrd⟩:=hD.readsO hap
 have HN:Unit→D.length=n:=fun _=>hn
 rw [hn]at hrd ⊢
 have HRD:Hid (∀w',w.grownBy w' (some B)→∀i,i<n→∃B' off,ab=some ⟨B',off,none⟩∧w'.cell? ⟨B',off+i,none⟩=some (.int .u32 ((D[i]?.getD 0:Nat):Int))∧n≤cb):=hrd
 have HDR:Hid (∀x∈D,x<B32):=hDr
 have HB0:Hid (BlkL w B 145 enc4 (ints M)):=hB
 have HM0:Hid (∀x∈M,x<B32):=hM
 have HL:Hid (a+n+1≤M.length):=hl
 have htI:(t:Int)≤4294967295:=by omega
 have hnI:(n:Int)≤1000000:=by omega
 have hcI:(n:Int)+1≤c:=by omega
 have hwt:IntKind.u64.wrap (t:Int)=(t:Int):=by rw [IntKind.wrap_u64];omega
 clear hB hM hD hap hDr hrd hl hm9
 go_enter Tryz.func230,Tryz.ntmps230
 go_wp2_with fail
 go_loopw [6,11] (fun s u wr=>∃(o k:Nat) (K:List Nat),s=.int .u64 (o:Int)∧u=.int .i64 (k:Int)∧o≤4294967295∧k≤n∧BlkL wr B 145 enc4 (ints K)∧K.length=M.length∧(∀x∈K,x<B32)∧(∀j,j<a∨a+k≤j→K[j]?.getD 0=M[j]?.getD 0) ∧
  nv B32 K+o*B32 ^ (a+k)=nv B32 M+t*nv B32 (D.take k)*B32 ^ a∧w.grownBy wr (some B)) (fun _ u _=>n-(RowKit.intOf u).toNat)
 case atStart=>exact⟨0,0,M,rfl,rfl,by omega,by omega,HB0.out,rfl,HM0.out,fun _ _=>rfl,by simp [nv],World.grownBy.refl _ _⟩
 case round =>
  obtain⟨o,k,K,rfl,rfl,ho,hk,hBk,hKl,hKr,hKa,hv,hg⟩:=hrel
  have HBK:Hid (BlkL wr B 145 enc4 (ints K)):=hBk
  have HKL:Unit→K.length=M.length:=fun _=>hKl
  have HKR:Hid (∀x∈K,x<B32):=hKr
  have HKA:Hid (∀j,j<a∨a+k≤j→K[j]?.getD 0=M[j]?.getD 0):=hKa
  have HV:Hid (nv B32 K+o*B32 ^ (a+k)=nv B32 M+t*nv B32 (D.take k)*B32 ^ a):=hv
  have HG:Hid (w.grownBy wr (some B)):=hg
  have hoI:(o:Int)≤4294967295:=by omega
  by_cases hk1:k<n
  ·obtain⟨B',off,rfl,hy,hcb⟩:=HRD.out wr hg k hk1
   have hzl:a+k<K.length:=by rw [hKl];have:=HL.out;omega
   have hz:=hBk.cell (a+k) (by rw [Zk];exact hzl)
   rw [Z6]at hz
   have hzf:=hBk.frozen (a+k)
   have rY:=Zt HDR.out k
   have rZ:=Zt hKr (a+k)
   have SY:=Zp B32 D k
   have HSY:Hid (nv B32 (D.take (k+1))=nv B32 (D.take k)+D[k]?.getD 0*B32 ^ k):=SY
   have HST:Hid (∀d,nv B32 (K.set (a+k) d)+K[a+k]?.getD 0*B32 ^ (a+k)=nv B32 K+d*B32 ^ (a+k)):=fun d=>Ym B32 K (a+k) d hzl
   clear SY hBk hKl hKr hKa hv hg
   generalize D[k]?.getD 0=y at *
   generalize K[a+k]?.getD 0=z at *
   have hyN:y≤4294967295:=by have:y<4294967296:=rY;omega
   have hzN:z≤4294967295:=by have:z<4294967296:=rZ;omega
   have hyI:(y:Int)≤4294967295:=by omega
   have hzI:(z:Int)≤4294967295:=by omega
   have hkI:(k:Int)<n:=by omega
   have hm1:=Vs (x:=y) (y:=t) (by omega) (by omega)
   obtain⟨p,hp⟩:∃p,y*t=p:=⟨_,rfl⟩
   have hpI:(y:Int)*(t:Int)=(p:Int):=by rw [←hp];simp
   rw [hp]at hm1
   have hw1:IntKind.u64.wrap ((y:Int)*(t:Int))=(p:Int):=by rw [hpI,IntKind.wrap_u64];omega
   have hw2:IntKind.u64.wrap ((p:Int)+(z:Int))=(p:Int)+z:=by rw [IntKind.wrap_u64];omega
   have hw3:IntKind.u64.wrap ((o:Int)+((p:Int)+(z:Int)))=(o:Int)+(p+z):=by rw [IntKind.wrap_u64];omega
   have hw5:IntKind.u64.wrap (y:Int)=(y:Int):=by rw [IntKind.wrap_u64];omega
   have hw6:IntKind.u64.wrap (z:Int)=(z:Int):=by rw [IntKind.wrap_u64];omega
   go_wp2_with fail
   go_roundw
   case rel =>
    have hd:(o+(p+z)) % 4294967296<B32:=Nat.mod_lt _ (by decide)
    refine⟨(o+(p+z)) / 4294967296,k+1,K.set (a+k) ((o+(p+z)) % 4294967296),Zl (by omega),rfl,by omega,by omega,?_,by simp [HKL ()],ZM HKR.out hd,fun j hj=>?_,?_,Za HG.out (Zc _ _ _ _)⟩
    ·have e:=HBK.out.set (a+k) (((o+(p+z)) % 4294967296:Nat):Int)
     rw [ZF]at e
     rw [show((o:Int)+(p+z)) % 4294967296=(((o+(p+z)) % 4294967296:Nat):Int)by omega]
     exact e
    ·rw [List.getElem?_set_ne (by omega)]
     exact HKA.out j (by omega)
    ·rw [HSY.out,ZdQ,show a+(k+1)=a+k+1 by omega,Nat.pow_succ]
     exact Zc2 (y:=y) (t:=t) HV.out (HST.out ((o+(p+z)) % 4294967296)) (by rw [hp];omega)
   case measure=>simp [RowKit.intOf];omega
  ·obtain rfl:k=n:=by omega
   have hzl:a+k<K.length:=by rw [hKl];have:=HL.out;omega
   have hz:=hBk.cell (a+k) (by rw [Zk];exact hzl)
   rw [Z6]at hz
   have hzf:=hBk.frozen (a+k)
   have rZ:=Zt hKr (a+k)
   have HST:Hid (∀d,nv B32 (K.set (a+k) d)+K[a+k]?.getD 0*B32 ^ (a+k)=nv B32 K+d*B32 ^ (a+k)):=fun d=>Ym B32 K (a+k) d hzl
   clear hBk hKl hKr hKa hv hg
   generalize K[a+k]?.getD 0=z at *
   have hzN:z≤4294967295:=by have:z<4294967296:=rZ;omega
   have hzI:(z:Int)≤4294967295:=by omega
   have hw3:IntKind.u64.wrap ((o:Int)+(z:Int))=(o:Int)+(z:Int):=by rw [IntKind.wrap_u64];omega
   have hw6:IntKind.u64.wrap (z:Int)=(z:Int):=by rw [IntKind.wrap_u64];omega
   go_wp2_with fail
   go_end0
   have hd:(o+z) % 4294967296<B32:=Nat.mod_lt _ (by decide)
   have hv:=HV.out
   rw [Zr B32 D k (by rw [HN ()];exact Nat.le_refl _)]at hv
   have hst:=HST.out ((o+z) % 4294967296)
   refine⟨(o+z) / 4294967296,K.set (a+k) ((o+z) % 4294967296),rfl,?_,by simp [HKL ()],ZM HKR.out hd,fun j hj=>?_,?_,Za HG.out (Zc _ _ _ _)⟩
   ·have e:=HBK.out.set (a+k) (((o+z) % 4294967296:Nat):Int)
    rw [ZF]at e
    rw [show((o:Int)+z) % 4294967296=(((o+z) % 4294967296:Nat):Int)by omega]
    exact e
   ·rw [List.getElem?_set_ne (by omega)]
    exact HKA.out j (by omega)
   ·rw [Nat.pow_succ]
    have:=Zc2 (y:=0) (t:=0) (d:=(o+z) % 4294967296) (o':=(o+z) / 4294967296) hv hst (by omega)
    simpa using this
theorem ZaY {X V x v E u0 W v0 v1:Nat} (hx:x<E) (hu:u0<4294967296) (hX:X=x+E*(u0+4294967296*W)) (hV:V=v+E*(v0+4294967296*v1)) (hE:0<E) (hv1:0<v1):X / V≤W / v1:=by
 have hVp:0<V:=by
  rw [hV]
  have:0<E*(v0+4294967296*v1):=Nat.mul_pos hE (by omega)
  omega
 rw [Nat.le_div_iff_mul_le hv1]
 have h1:X / V*V≤X:=Nat.div_mul_le_self X V
 generalize X / V=q at *
 refine Nat.le_of_not_lt fun h=>?_
 have h2:W+1≤q*v1:=h
 have h3:E*(4294967296*(W+1))≤E*(4294967296*(q*v1)):=Nat.mul_le_mul_left _ (Nat.mul_le_mul_left _ h2)
 have h4:E*(4294967296*(q*v1))≤q*V:=by
  rw [hV,Nat.mul_add,Nat.mul_add,Nat.mul_add]
  have e:E*(4294967296*(q*v1))=q*(E*(4294967296*v1)):=by
   rw [Nat.mul_left_comm q E,Nat.mul_left_comm q 4294967296]
  omega
 have h5:X<E*(4294967296*(W+1)):=by
  rw [hX]
  have:E*(u0+4294967296*W)+E≤E*(4294967296*(W+1)):=by
   rw [←Nat.mul_succ]
   exact Nat.mul_le_mul_left _ (by omega)
  omega
 omega
theorem gd_less {X V x v E u0 W v0 v1 g l:Nat} (hx:x<E) (hX:X=x+E*(u0+4294967296*W)) (hV:V=v+E*(v0+4294967296*v1)) (hgl:g*v1+l=W) (hlt:l*4294967296+u0<g*v0):X / V<g:=by
 have hg:X<g*V:=by
  have h1:u0+4294967296*W+1≤g*(v0+4294967296*v1):=by
   have e:g*(4294967296*v1)=4294967296*(g*v1):=Nat.mul_left_comm g 4294967296 v1
   rw [Nat.mul_add,e]
   omega
  have h2:E*(u0+4294967296*W+1)≤E*(g*(v0+4294967296*v1)):=Nat.mul_le_mul_left _ h1
  have h3:E*(g*(v0+4294967296*v1))≤g*V:=by
   rw [hV,Nat.mul_left_comm E g,Nat.mul_add g v]
   omega
  rw [Nat.mul_succ]at h2
  omega
 exact Nat.div_lt_of_lt_mul (by rw [Nat.mul_comm];exact hg)
theorem gd_end {u2 u1 v1 g l:Nat} (hu:u1<4294967296) (huv:u2≤v1) (hgl:g*v1+l=u2*4294967296+u1) (hl:4294967296≤l):g<4294967296:=by
 refine Nat.lt_of_not_le fun h=>?_
 have h1:4294967296*v1≤g*v1:=Nat.mul_le_mul_right _ h
 omega
theorem ZbD (L:List Nat) (n:Nat) (hr:∀x∈L,x<B32) (hl:L.length=n+3):nv B32 (L.take n)<B32 ^ n∧nv B32 L=nv B32 (L.take n)+B32 ^ n*(L[n]?.getD 0+4294967296*(L[n+2]?.getD 0*4294967296+L[n+1]?.getD 0)):=by
 constructor
 ·have:=nv_lt B32 (L.take n) (fun x hx=>hr x (List.mem_of_mem_take hx))
  rwa [List.length_take,hl,Nat.min_eq_left (by omega)]at this
 ·have h1:=Zp B32 L n
  have h2:=Zp B32 L (n+1)
  have h3:=Zp B32 L (n+2)
  rw [List.take_of_length_le (show L.length≤n+2+1 by omega)]at h3
  have p1:B32 ^ (n+1)=B32 ^ n*4294967296:=Nat.pow_succ ..
  have p2:B32 ^ (n+2)=B32 ^ n*4294967296*4294967296:=by rw [Nat.pow_succ,p1]
  rw [h3,h2,h1,p2,p1]
  clear h1 h2 h3 p1 p2
  generalize L[n]?.getD 0=x at *
  generalize L[n+1]?.getD 0=y at *
  generalize L[n+2]?.getD 0=z at *
  simp only [Nat.mul_add]
  generalize B32 ^ n=P
  have e1:y*(P*4294967296)=P*(4294967296*y):=by rw [Nat.mul_comm y,Nat.mul_assoc]
  have e2:z*(P*4294967296*4294967296)=P*(4294967296*(z*4294967296)):=by rw [Nat.mul_comm z,Nat.mul_assoc,Nat.mul_assoc,Nat.mul_comm 4294967296 z]
  rw [e1,e2,Nat.mul_comm x P]
  omega
theorem Zel (L:List Nat) (n:Nat) (hr:∀x∈L,x<B32) (hl:L.length=n+2):nv B32 (L.take n)<B32 ^ n∧nv B32 L=nv B32 (L.take n)+B32 ^ n*(L[n]?.getD 0+4294967296*L[n+1]?.getD 0):=by
 constructor
 ·have:=nv_lt B32 (L.take n) (fun x hx=>hr x (List.mem_of_mem_take hx))
  rwa [List.length_take,hl,Nat.min_eq_left (by omega)]at this
 ·have h1:=Zp B32 L n
  have h2:=Zp B32 L (n+1)
  rw [List.take_of_length_le (show L.length≤n+1+1 by omega)]at h2
  rw [h2,h1,Nat.pow_succ]
  simp only [B32,Nat.mul_add]
  generalize 4294967296 ^ n=P
  rw [Nat.mul_comm (L[n+1]?.getD 0),Nat.mul_assoc,Nat.mul_comm (L[n]?.getD 0) P]
  omega
theorem Ub (w:World) (B a n c:Nat) (vb:Value) (M D:List Nat) (hB:BlkL w B 145 enc4 (ints M)) (hM:∀x∈M,x<B32) (hl:a+n+3≤M.length) (_hc:n+3≤c) (hm9:M.length≤1000000) (hD:D4 w vb D) (hDr:∀x∈D,x<B32) (hn:D.length=n+2) (hv1:D[n+1]?.getD 0≠0)
    (X:Nat) (hX:X=nv B32 ((M.drop a).take (n+3))) (hXV:X<4294967296*nv B32 D) :
    Calls Tryz.prog 228 #[.slice (some ⟨B,a,none⟩) (n+3) c,vb] w fun e w'=>∃g:Nat,e=.returned (.int .u64 (g:Int))∧g≤4294967295∧X / nv B32 D≤g∧w.grownBy w' none:=by
 have hPl:((M.drop a).take (n+3)).length=n+3:=by rw [List.length_take,List.length_drop];omega
 have hPr:∀x∈(M.drop a).take (n+3),x<B32:=fun x hx=>hM x (List.mem_of_mem_drop (List.mem_of_mem_take hx))
 obtain⟨hx,hXe⟩:=ZbD _ n hPr hPl
 rw [←hX]at hXe
 have hPat:∀j,j<n+3→((M.drop a).take (n+3))[j]?.getD 0=M[a+j]?.getD 0:=fun j hj=>by rw [List.getElem?_take,if_pos hj,List.getElem?_drop]
 rw [hPat n (by omega),hPat (n+1) (by omega),hPat (n+2) (by omega)]at hXe
 obtain⟨hv,hVe⟩:=Zel D n hDr hn
 have k0:=hB.cell (a+n) (by rw [Zk];omega)
 have k1:=hB.cell (a+(n+1)) (by rw [Zk];omega)
 have k2:=hB.cell (a+(n+2)) (by rw [Zk];omega)
 rw [Z6]at k0 k1 k2
 have r0:M[a+n]?.getD 0<4294967296:=Zt hM (a+n)
 have r1:M[a+(n+1)]?.getD 0<4294967296:=Zt hM (a+(n+1))
 have r2:M[a+(n+2)]?.getD 0<4294967296:=Zt hM (a+(n+2))
 have s0:D[n]?.getD 0<4294967296:=Zt hDr n
 have s1:D[n+1]?.getD 0<4294967296:=Zt hDr (n+1)
 generalize M[a+n]?.getD 0=u0 at *
 generalize M[a+(n+1)]?.getD 0=u1 at *
 generalize M[a+(n+2)]?.getD 0=u2 at *
 rcases hD with ⟨_,e⟩|⟨Bd,od,cd,rfl,hcd,hDc⟩
 ·rw [e]at hn;simp at hn
 have d0:=hDc n (by omega)
 have d1:=hDc (n+1) (by omega)
 generalize D[n]?.getD 0=v0 at *
 generalize D[n+1]?.getD 0=v1 at *
 have hE:0<B32 ^ n:=Nat.pow_pos (by decide)
 have HF:Hid (∀g l,X / nv B32 D≤g→g*v1+l=u2*4294967296+u1→l*4294967296+u0<g*v0→X / nv B32 D<g):=fun g l _ hgl hlt=>gd_less hx hXe hVe hgl hlt
 have HF0:Hid (X / nv B32 D≤(u2*4294967296+u1) / v1):=ZaY hx r0 hXe hVe hE (Nat.pos_of_ne_zero hv1)
 have hqB:X / nv B32 D<4294967296:=Nat.div_lt_of_lt_mul (by rw [Nat.mul_comm];exact hXV)
 have huv:u2≤v1:=by
  refine Nat.le_of_not_lt fun h=>?_
  have h1:B32 ^ n*(4294967296*((v1+1)*4294967296))≤B32 ^ n*(u0+4294967296*(u2*4294967296+u1)):=Nat.mul_le_mul_left _ (by omega)
  have h2:B32 ^ n*(v0+4294967296*v1)+B32 ^ n≤B32 ^ n*(4294967296*(v1+1)):=by
   rw [←Nat.mul_succ]
   exact Nat.mul_le_mul_left _ (by omega)
  have h3:4294967296*(B32 ^ n*(4294967296*(v1+1)))=B32 ^ n*(4294967296*((v1+1)*4294967296)):=by
   rw [Nat.mul_left_comm,Nat.mul_comm (v1+1) 4294967296]
  have h4:4294967296*(nv B32 D+1)≤4294967296*(B32 ^ n*(4294967296*(v1+1))):=Nat.mul_le_mul_left _ (by omega)
  omega
 have HE:Hid (∀g l,g*v1+l=u2*4294967296+u1→4294967296≤l→g<4294967296):=fun g l h h'=>gd_end r1 huv h h'
 rw [hn]
 rw [hn]at hcd
 generalize X / nv B32 D=q at *
 have hnI:(n:Int)≤1000000:=by omega
 clear hB hM hm9 hPl hPr hx hXe hPat hv hVe hDc hDr hX hXV hE huv
 have b1:(v1:Int)≤4294967295:=by omega
 have b0:(v0:Int)≤4294967295:=by omega
 have b2:(u2:Int)≤4294967295:=by omega
 have b3:(u1:Int)≤4294967295:=by omega
 have b4:(u0:Int)≤4294967295:=by omega
 have hvp:(1:Int)≤v1:=by omega
 have hvz:((v1:Int) == 0)=false:=by rw [beq_eq_false_iff_ne];omega
 have hw1:IntKind.u64.wrap (v1:Int)=(v1:Int):=by rw [IntKind.wrap_u64];omega
 have hor:=or32 (u2:Int) (u1:Int) (by omega) (by omega) (by omega) (by omega)
 obtain⟨W,hW⟩:∃W,u2*4294967296+u1=W:=⟨_,rfl⟩
 have hWI:(u2:Int)*4294967296+u1=(W:Int):=by omega
 rw [hWI]at hor
 have hW9:(W:Int)≤18446744073709551615:=by omega
 rw [hW]at HF HF0 HE
 clear r0 r1 r2 s0 s1
 go_enter Tryz.func228,Tryz.ntmps228
 go_wp2_with fail
 go_region
 go_wp2_with fail
 go_region
 go_wp2_with fail
 go_region
 go_wp2_with fail
 obtain⟨Q,hQ⟩:∃Q,W / v1=Q:=⟨_,rfl⟩
 obtain⟨R,hR⟩:∃R,W % v1=R:=⟨_,rfl⟩
 have hqi:(W:Int) / (v1:Int)=(Q:Int):=by rw [←hQ];simp
 have hwm:(W:Int) % (v1:Int)=(R:Int):=by rw [←hR];simp
 have hQW:Q≤W:=by rw [←hQ];exact Nat.div_le_self W v1
 have hml:R≤8589934591:=by
  have:=Nat.mod_lt W (show 0<v1 by omega)
  omega
 have HDM:Hid (Q*v1+R=W):=(by rw [←hQ,←hR,Nat.mul_comm];exact Nat.div_add_mod W v1:Q*v1+R=W)
 rw [hQ]at HF0
 have hwq:IntKind.u64.wrap ((W:Int) / (v1:Int))=(Q:Int):=by
  rw [hqi,IntKind.wrap_u64]
  omega
 have HQB:Hid (q<4294967296):=hqB
 clear hor hqi hQW hQ hR hqB
 rw [show n+2-1=n+1 from rfl]
 go_loopw [9,10] (fun s u wr=>∃g l:Nat,s=.int .u64 (g:Int)∧u=.int .u64 (l:Int)∧q≤g∧g*v1+l=W∧l≤8589934591∧wr=w.drew.drew.drew) (fun s _ _=>(RowKit.intOf s).toNat)
 case atStart=>exact⟨Q,R,Zl hwq,Zl hwm,HF0.out,HDM.out,hml,rfl⟩
 case round =>
  obtain⟨g,l,rfl,rfl,hqg,hgl,hl9,rfl⟩:=hrel
  have hgW:g≤W:=by
   have:g*1≤g*v1:=Nat.mul_le_mul_left _ (by omega)
   omega
  have HGL:Hid (g*v1+l=W):=hgl
  have hgI:(g:Int)≤18446744073709551615:=by omega
  have hlI:(l:Int)≤8589934591:=by omega
  clear hwq hwm hml HDM HF0 hgl
  have HL9:Hid (l≤8589934591):=hl9
  have HQG:Hid (q≤g):=hqg
  have hg0:(0:Int)≤(g:Int):=by omega
  have hl0:(0:Int)≤(l:Int):=by omega
  generalize hgi:(g:Int)=gi at *
  generalize hli:(l:Int)=li at *
  have HGI:Hid ((g:Int)=gi):=hgi
  have HLI:Hid ((l:Int)=li):=hli
  clear hl9 hqg hgW hgi hli
  by_cases hlB:(4294967296:Int)≤li
  ·have HGB:Hid (g<4294967296):=HE.out g l HGL.out (by have:=HLI.out;omega)
   have hb1:decide (li<4294967296)=false:=decide_eq_false (by omega)
   clear hlB hlI hgI
   go_wp2_with fail
   go_ret
   have e:=HGI.out
   have hgb:=HGB.out
   exact⟨g,by rw [e];rfl,by omega,HQG.out,Zf (Zf (Zf (World.grownBy.refl _ _)))⟩
  ·have hlBI:li≤4294967295:=by omega
   have hb1:decide (li<4294967296)=true:=decide_eq_true (by omega)
   clear hlB hlI
   by_cases hgB:(4294967296:Int)≤gi
   ·have hw2:IntKind.u64.wrap (gi-1)=gi-1:=by rw [IntKind.wrap_u64];omega
    have hw3:IntKind.u64.wrap (li+(v1:Int))=li+v1:=by rw [IntKind.wrap_u64];omega
    have hb2:decide (4294967296≤gi)=true:=decide_eq_true hgB
    have HGB:Hid (4294967296≤gi):=hgB
    clear hgB
    go_wp2_with fail
    go_roundw
    case rel =>
     have e1:=HGI.out
     have e2:=HLI.out
     have hgB:=HGB.out
     obtain⟨g',rfl⟩:∃g',g=g'+1:=⟨g-1,by omega⟩
     have e:=HGL.out
     have hl9:=HL9.out
     have hq0:=HQB.out
     rw [Nat.add_mul]at e
     exact⟨g',l+v1,Zl (by omega),Zl (by omega),by omega,by omega,by omega,trivial⟩
    case measure=>have e1:=HGI.out;have hgB:=HGB.out;simp [RowKit.intOf];omega
   ·have hgBI:gi≤4294967295:=by omega
    have hb2:decide (4294967296≤gi)=false:=decide_eq_false hgB
    clear hgB
    have e1:=HGI.out
    have e2:=HLI.out
    have hm1:=Vs (x:=g) (y:=v0) (by omega) (by omega)
    obtain⟨p,hp⟩:∃p,g*v0=p:=⟨_,rfl⟩
    obtain⟨pi,hpi⟩:∃pi:Int,(p:Int)=pi:=⟨_,rfl⟩
    have hpI:gi*(v0:Int)=pi:=by rw [←hpi,←hp,←e1];simp
    rw [hp]at hm1
    have hw1:IntKind.u64.wrap (gi*(v0:Int))=pi:=by rw [hpI,IntKind.wrap_u64];omega
    have hor2:=or32 li (u0:Int) (by omega) (by omega) (by omega) (by omega)
    have HP:Hid (g*v0=p):=hp
    have HPI:Hid ((p:Int)=pi):=hpi
    clear hp hpi hm1 e1 e2 hpI
    by_cases hlt:li*4294967296+(u0:Int)<pi
    ·have hqlt:=HF.out g l HQG.out HGL.out (by have:=HP.out;have:=HPI.out;have:=HLI.out;omega)
     have HQL:Hid (q<g):=hqlt
     have hg1:(1:Int)≤gi:=by have:=HGI.out;omega
     have hw2:IntKind.u64.wrap (gi-1)=gi-1:=by rw [IntKind.wrap_u64];omega
     have hw3:IntKind.u64.wrap (li+(v1:Int))=li+v1:=by rw [IntKind.wrap_u64];omega
     have hb3:decide (li*4294967296+(u0:Int)<pi)=true:=decide_eq_true hlt
     clear hqlt hlt
     go_wp2_with fail
     go_roundw
     case rel =>
      have e1:=HGI.out
      have e2:=HLI.out
      have hql:=HQL.out
      obtain⟨g',rfl⟩:∃g',g=g'+1:=⟨g-1,by omega⟩
      have e:=HGL.out
      rw [Nat.add_mul]at e
      exact⟨g',l+v1,Zl (by omega),Zl (by omega),by omega,by omega,by omega,trivial⟩
     case measure=>have e1:=HGI.out;simp [RowKit.intOf];omega
    ·have hb3:decide (li*4294967296+(u0:Int)<pi)=false:=decide_eq_false hlt
     clear hlt
     go_wp2_with fail
     go_ret
     have e:=HGI.out
     exact⟨g,by rw [e];rfl,by omega,HQG.out,Zf (Zf (Zf (World.grownBy.refl _ _)))⟩
theorem ZdR (L:List Nat) (g j:Nat):(L.take g)[j]?.getD 0=if j<g then L[j]?.getD 0 else 0:=by
 rw [List.getElem?_take];split<;>rfl
theorem ZbL {M M':List Nat} {g N:Nat} (h:∀j,j<g∨g+N≤j→M'[j]?.getD 0=M[j]?.getD 0) (hz:nv B32 (M.drop (g+N))=0) (hr:∀x∈M',x<B32) :
    ∃low,nv B32 M=low+B32 ^ g*nv B32 (M.drop g)∧nv B32 M'=low+B32 ^ g*nv B32 (M'.drop g)∧nv B32 (M'.drop g)<B32 ^ N∧nv B32 (M'.drop (g+N))=0:=by
 have h1:nv B32 (M'.take g)=nv B32 (M.take g):=V6 _ _ fun j=>by
  rw [ZdR,ZdR]
  split
  ·exact h j (.inl (by assumption))
  ·rfl
 have h2:nv B32 (M'.drop (g+N))=nv B32 (M.drop (g+N)):=V6 _ _ fun j=>by
  rw [List.getElem?_drop,List.getElem?_drop]
  exact h _ (.inr (by omega))
 rw [hz]at h2
 refine⟨nv B32 (M.take g),Z9 M g,by rw [←h1];exact Z9 M' g,?_,h2⟩
 have h3:=Z9 (M'.drop g) N
 rw [List.drop_drop,h2,Nat.mul_zero,Nat.add_zero]at h3
 rw [h3]
 have h4:=nv_lt B32 ((M'.drop g).take N) (fun x hx=>hr x (List.mem_of_mem_drop (List.mem_of_mem_take hx)))
 exact Nat.lt_of_lt_of_le h4 (Nat.pow_le_pow_right (by decide) (by rw [List.length_take];omega))
theorem Zaj {low X X' T P:Nat} (hP:0<P) (h:low+P*X'+T*P=low+P*X):X'+T=X:=by
 have e:P*(X'+T)=P*X:=by rw [Nat.mul_add,Nat.mul_comm P T];omega
 exact Nat.eq_of_mul_eq_mul_left hP e
theorem Uu {low X X' T P C:Nat} (hP:0<P) (h:low+P*X'+T*P=low+P*X+P*C):X'+T=X+C:=by
 have e:P*(X'+T)=P*(X+C):=by rw [Nat.mul_add,Nat.mul_add,Nat.mul_comm P T];omega
 exact Nat.eq_of_mul_eq_mul_left hP e
theorem Zdb (g n:Nat):B32 ^ (g+(n+2)+1)=B32 ^ g*B32 ^ (n+3):=by rw [←Nat.pow_add];congr 1
def DlI (w:World) (B Q R:Nat) (M D:List Nat) (g:Nat) (wr:World) (K Mx:List Nat):Prop :=
 g≤Q∧BlkL wr w.heap.size 145 enc4 (ints K)∧K.length=Q∧(∀x∈K,x<B32)∧(∀j,j<g→K[j]?.getD 0=0)∧BlkL wr B 145 enc4 (ints Mx)∧Mx.length=R∧(∀x∈Mx,x<B32)∧nv B32 (Mx.drop g)<nv B32 D∧nv B32 Mx+nv B32 D*nv B32 K=nv B32 M∧w.grownBy wr (some B)
def DmI (w wo:World) (B Q R:Nat) (D:List Nat) (g t:Nat) (wr:World) (K Mx Mi:List Nat):Prop :=
 t≤4294967295∧nv B32 (Mx.drop g) / nv B32 D≤t∧BlkL wr w.heap.size 145 enc4 (ints K)∧K.length=Q∧BlkL wr B 145 enc4 (ints Mi)∧Mi.length=R∧(∀x∈Mi,x<B32)∧nv B32 Mi=nv B32 Mx∧nv B32 (Mi.drop g)=nv B32 (Mx.drop g)∧w.grownBy wr (some B)∧wo.grownBy wr (some B)
theorem DmI.hit {w wo wr w1 w2:World} {B Q R n g t:Nat} {M D K Mx Mi M':List Nat} (hO:DlI w B Q R M D (g+1) wo K Mx) (hI:DmI w wo B Q R D g t wr K Mx Mi) (hB:B<w.heap.size) (hV:0<nv B32 D) (hD:D.length=n+2) (hDr:∀x∈D,x<B32)
    (hb:BlkL w1 B 145 enc4 (ints M')) (hl:M'.length=Mi.length) (hr:∀x∈M',x<B32) (ha:∀j,j<g∨g+(n+2)<j→M'[j]?.getD 0=Mi[j]?.getD 0) (he:nv B32 M'+t*nv B32 D*B32 ^ g=nv B32 Mi) (hg:wr.grownBy w1 (some B))
    (hw2:w2=w1.setCell ⟨w.heap.size,g,none⟩ (.int .u32 (t:Int))):DlI w B Q R M D g w2 (K.set g t) M':=by
 obtain⟨hgQ,_,hKl,hKr,hK0,_,hMl,hMr,hMv,hsum,_⟩:=hO
 obtain⟨ht,hq,hbK,_,hbM,hMil,hMir,hnv,hdr,hgw,_⟩:=hI
 have hVlt:=nv_lt B32 D hDr
 rw [hD]at hVlt
 have hz:nv B32 (Mi.drop (g+(n+3)))=0:=by
  have h1:=Z9 (Mi.drop g) (n+3)
  rw [List.drop_drop]at h1
  have hX:nv B32 (Mi.drop g)<B32 ^ (n+3):=by
   rw [hdr]
   have h2:=Z9 (Mx.drop g) 1
   rw [List.drop_drop]at h2
   have h3:=nv_lt B32 ((Mx.drop g).take 1) (fun x hx=>hMr x (List.mem_of_mem_drop (List.mem_of_mem_take hx)))
   have h4:B32 ^ ((Mx.drop g).take 1).length≤B32 ^ 1:=Nat.pow_le_pow_right (by decide) (by rw [List.length_take];omega)
   have h5:B32 ^ 1*(nv B32 (Mx.drop (g+1))+1)≤B32 ^ 1*B32 ^ (n+2):=Nat.mul_le_mul_left _ (by omega)
   rw [←Nat.pow_add,Nat.mul_add,show 1+(n+2)=n+3 by omega]at h5
   omega
  rcases Nat.eq_zero_or_pos (nv B32 (Mi.drop (g+(n+3))))with h|h
  ·exact h
  ·have:B32 ^ (n+3)*1≤B32 ^ (n+3)*nv B32 (Mi.drop (g+(n+3))):=Nat.mul_le_mul_left _ h
   omega
 obtain⟨low,e1,e2,hX',_⟩:=ZbL (M:=Mi) (M':=M') (g:=g) (N:=n+3) (fun j hj=>ha j (by omega)) hz hr
 have hc:=Zaj (X:=nv B32 (Mi.drop g)) (X':=nv B32 (M'.drop g)) (T:=t*nv B32 D) (low:=low) (P:=B32 ^ g) (Nat.pow_pos (by decide)) (by rw [←e1,←e2];exact he)
 rw [hdr]at hc
 have htq:t≤nv B32 (Mx.drop g) / nv B32 D:=(Nat.le_div_iff_mul_le hV).2 (by omega)
 have hteq:t=nv B32 (Mx.drop g) / nv B32 D:=Nat.le_antisymm htq hq
 have hmod:nv B32 (M'.drop g)<nv B32 D:=by
  have h1:=Nat.div_add_mod (nv B32 (Mx.drop g)) (nv B32 D)
  have h2:=Nat.mod_lt (nv B32 (Mx.drop g)) hV
  rw [←hteq,Nat.mul_comm]at h1
  omega
 have hKg:g<K.length:=by omega
 have hset:=Ym B32 K g t hKg
 rw [hK0 g (by omega),Nat.zero_mul,Nat.add_zero]at hset
 have k1:w1.grownBy w2 (some w.heap.size):=by rw [hw2];exact Zc _ _ _ _
 refine⟨by omega,?_,by simp [hKl],ZM hKr (by simp only [B32];omega),fun j hj=>?_,hb.kept k1 (by intro e;injection e with e;omega),by omega,hr,hmod,?_,?_⟩
 ·rw [hw2]
  have e:=(hbK.kept hg (by intro e;injection e with e;omega)).set g (t:Int)
  rw [ZF]at e
  exact e
 ·rw [List.getElem?_set_ne (by omega)]
  exact hK0 j (by omega)
 ·rw [hset,Nat.mul_add]
  have e3:nv B32 D*(t*B32 ^ g)=t*nv B32 D*B32 ^ g:=by rw [←Nat.mul_assoc,Nat.mul_comm (nv B32 D) t]
  omega
 ·exact⟨k1.os.trans (Za hgw hg).os,k1.tape.trans (Za hgw hg).tape,k1.output.trans (Za hgw hg).output,Nat.le_trans (Za hgw hg).size k1.size,fun i hi hn=>(k1.block i (Nat.lt_of_lt_of_le hi (Za hgw hg).size) (by intro e;injection e with e;omega)).trans ((Za hgw hg).block i hi hn)⟩
theorem DmI.miss {w wo wr w1 w2:World} {B Q R n g t q:Nat} {M D K Mx Mi M' M'':List Nat} (hO:DlI w B Q R M D (g+1) wo K Mx) (hI:DmI w wo B Q R D g t wr K Mx Mi) (hB:B<w.heap.size) (hD:D.length=n+2) (hDr:∀x∈D,x<B32)
    (hl:M'.length=Mi.length) (hr:∀x∈M',x<B32) (ha:∀j,j<g∨g+(n+2)<j→M'[j]?.getD 0=Mi[j]?.getD 0) (he:nv B32 M'+t*nv B32 D*B32 ^ g=nv B32 Mi+B32 ^ (g+(n+2)+1)) (hg:wr.grownBy w1 (some B))
    (hb2:BlkL w2 B 145 enc4 (ints M'')) (hl2:M''.length=M'.length) (hr2:∀x∈M'',x<B32) (ha2:∀j,j<g∨g+(n+2)<j→M''[j]?.getD 0=M'[j]?.getD 0) (he2:nv B32 M''+q*B32 ^ (g+(n+2)+1)=nv B32 M'+t*nv B32 D*B32 ^ g) (hg2:w1.grownBy w2 (some B)) :
    1≤t∧DmI w wo B Q R D g (t-1) w2 K Mx M'':=by
 obtain⟨hgQ,_,hKl,hKr,hK0,_,hMl,hMr,hMv,hsum,_⟩:=hO
 obtain⟨ht,hq,hbK,hKl',hbM,hMil,hMir,hnv,hdr,hgw,hgo⟩:=hI
 have hVlt:=nv_lt B32 D hDr
 rw [hD]at hVlt
 have hX:nv B32 (Mi.drop g)<B32 ^ (n+3):=by
  rw [hdr]
  have h2:=Z9 (Mx.drop g) 1
  rw [List.drop_drop]at h2
  have h3:=nv_lt B32 ((Mx.drop g).take 1) (fun x hx=>hMr x (List.mem_of_mem_drop (List.mem_of_mem_take hx)))
  have h4:B32 ^ ((Mx.drop g).take 1).length≤B32 ^ 1:=Nat.pow_le_pow_right (by decide) (by rw [List.length_take];omega)
  have h5:B32 ^ 1*(nv B32 (Mx.drop (g+1))+1)≤B32 ^ 1*B32 ^ (n+2):=Nat.mul_le_mul_left _ (by omega)
  rw [←Nat.pow_add,Nat.mul_add,show 1+(n+2)=n+3 by omega]at h5
  omega
 have hz:nv B32 (Mi.drop (g+(n+3)))=0:=by
  have h1:=Z9 (Mi.drop g) (n+3)
  rw [List.drop_drop]at h1
  rcases Nat.eq_zero_or_pos (nv B32 (Mi.drop (g+(n+3))))with h|h
  ·exact h
  ·have:B32 ^ (n+3)*1≤B32 ^ (n+3)*nv B32 (Mi.drop (g+(n+3))):=Nat.mul_le_mul_left _ h
   omega
 obtain⟨low,e1,e2,hX',hz'⟩:=ZbL (M:=Mi) (M':=M') (g:=g) (N:=n+3) (fun j hj=>ha j (by omega)) hz hr
 obtain⟨low2,f1,f2,hX'',_⟩:=ZbL (M:=M') (M':=M'') (g:=g) (N:=n+3) (fun j hj=>ha2 j (by omega)) hz' hr2
 have hP:0<B32 ^ g:=Nat.pow_pos (by decide)
 rw [Zdb]at he he2
 have hc:=Uu (X:=nv B32 (Mi.drop g)) (X':=nv B32 (M'.drop g)) (T:=t*nv B32 D) (low:=low) (P:=B32 ^ g) (C:=B32 ^ (n+3)) hP (by rw [←e1,←e2];exact he)
 have hlow:low2=low:=by
  have h1:B32 ^ g*nv B32 (M'.drop g)=B32 ^ g*nv B32 (M'.drop g):=rfl
  omega
 have hc2:=Zaj (X:=nv B32 (M'.drop g)+t*nv B32 D) (X':=nv B32 (M''.drop g)) (T:=q*B32 ^ (n+3)) (low:=low2) (P:=B32 ^ g) hP (by
  rw [←f2,Nat.mul_add,Nat.mul_comm (B32 ^ g) (t*nv B32 D),Nat.mul_assoc,Nat.mul_comm (B32 ^ (n+3)),he2,f1,Nat.add_assoc])
 rw [hc]at hc2
 have hq1:q=1:=by
  rcases Nat.lt_trichotomy q 1 with h|h|h
  ·obtain rfl:q=0:=by omega
   omega
  ·exact h
  ·have:2*B32 ^ (n+3)≤q*B32 ^ (n+3):=Nat.mul_le_mul_right _ h
   omega
 subst hq1
 rw [Nat.one_mul]at hc2
 have hXX:nv B32 (M''.drop g)=nv B32 (Mi.drop g):=by omega
 have htq:nv B32 (Mx.drop g) / nv B32 D<t:=by
  refine Nat.div_lt_of_lt_mul ?_
  rw [Nat.mul_comm]
  rw [hdr]at hc
  omega
 refine⟨Nat.lt_of_le_of_lt (Nat.zero_le _) htq,Nat.le_trans (Nat.sub_le _ _) ht,Nat.le_sub_one_of_lt htq,hbK.kept (Za hg hg2) (by intro e;injection e with e;omega),hKl',hb2,by omega,hr2,?_,by rw [hXX,hdr],Za hgw (Za hg hg2),Za hgo (Za hg hg2)⟩
 rw [f2,hlow,hXX,←e1,hnv]
theorem DlI.top {w wr:World} {B Q R n g:Nat} {M D K Mx:List Nat} (hO:DlI w B Q R M D (g+1) wr K Mx) (hD:D.length=n+2) (hDr:∀x∈D,x<B32) :
    nv B32 (Mx.drop g)=nv B32 ((Mx.drop g).take (n+3))∧nv B32 ((Mx.drop g).take (n+3))<4294967296*nv B32 D:=by
 obtain⟨hgQ,_,hKl,hKr,hK0,_,hMl,hMr,hMv,hsum,_⟩:=hO
 have hVlt:=nv_lt B32 D hDr
 rw [hD]at hVlt
 have h2:=Z9 (Mx.drop g) 1
 rw [List.drop_drop]at h2
 have h3:=nv_lt B32 ((Mx.drop g).take 1) (fun x hx=>hMr x (List.mem_of_mem_drop (List.mem_of_mem_take hx)))
 have h4:B32 ^ ((Mx.drop g).take 1).length≤B32 ^ 1:=Nat.pow_le_pow_right (by decide) (by rw [List.length_take];omega)
 rw [Nat.pow_one]at h2 h4
 have h5:B32*(nv B32 (Mx.drop (g+1))+1)≤B32*nv B32 D:=Nat.mul_le_mul_left _ hMv
 have h6:B32*(nv B32 D+1)≤B32*B32 ^ (n+2):=Nat.mul_le_mul_left _ hVlt
 rw [←Nat.pow_succ',Nat.succ_eq_add_one,show n+2+1=n+3 from rfl,Nat.mul_add,Nat.mul_one]at h6
 rw [Nat.mul_add,Nat.mul_one]at h5
 have h1:=Z9 (Mx.drop g) (n+3)
 rw [List.drop_drop]at h1
 have hz:nv B32 (Mx.drop (g+(n+3)))=0:=by
  rcases Nat.eq_zero_or_pos (nv B32 (Mx.drop (g+(n+3))))with h|h
  ·exact h
  ·have:B32 ^ (n+3)*1≤B32 ^ (n+3)*nv B32 (Mx.drop (g+(n+3))):=Nat.mul_le_mul_left _ h
   omega
 rw [hz,Nat.mul_zero,Nat.add_zero]at h1
 refine⟨h1,?_⟩
 rw [←h1]
 simp only [B32]at *
 omega
theorem D4.keptB {w w':World} {v:Value} {L:List Nat} {row:Option Nat} (h:D4 w v L) (hg:w.grownBy w' row) (ha:∀b n c,v=.slice (some b) n c→some b.block≠row):D4 w' v L:=by
 rcases h with h|⟨B,off,c,rfl,hc,h⟩
 ·exact .inl h
 ·exact .inr ⟨B,off,c,rfl,hc,fun j hj=>Zd hg (h j hj) (fun e=>ha _ _ _ rfl e.symm)⟩
theorem Ua (w:World) (B R n Q:Nat) (vb:Value) (M D:List Nat) (hB:BlkL w B 145 enc4 (ints M)) (hM:∀x∈M,x<B32) (hR:M.length=R) (hQ:R=Q+(n+2)) (hR9:R≤1000000) (hD:D4 w vb D) (hap:∀b n c,vb=.slice (some b) n c→some b.block≠some B) (hDr:∀x∈D,x<B32) (hn:D.length=n+2) (hv1:D[n+1]?.getD 0≠0)
    (htop:nv B32 (M.drop Q)<nv B32 D) :
    Calls Tryz.prog 218 #[.slice (some ⟨B,0,none⟩) R R,vb] w fun e w'=>∃K M',e=.returned (.slice (some ⟨w.heap.size,0,none⟩) Q Q)∧BlkL w' w.heap.size 145 enc4 (ints K)∧K.length=Q∧(∀x∈K,x<B32)∧BlkL w' B 145 enc4 (ints M')∧M'.length=R∧(∀x∈M',x<B32)∧nv B32 M'<nv B32 D∧nv B32 M'+nv B32 D*nv B32 K=nv B32 M∧w.grownBy w' (some B):=by
 have hBlt:B<w.heap.size:=hB.lt
 have hV:0<nv B32 D:=Nat.lt_of_le_of_lt (Nat.zero_le _) htop
 obtain⟨ab,cb,rfl⟩:=hD.slice
 rw [hn]at hD hap ⊢
 have HD:Hid (D4 w (.slice ab (n+2) cb) D):=hD
 have HAP:Hid (∀b n' c,(Value.slice ab (n+2) cb)=.slice (some b) n' c→some b.block≠some B):=hap
 have HDR:Hid (∀x∈D,x<B32):=hDr
 have HN:Unit→D.length=n+2:=fun _=>hn
 have HV1:Hid (D[n+1]?.getD 0≠0):=hv1
 have hmk:∀w:World,(Instr.makeSlice 146 (.int .i64 (Q:Int)) (.int .i64 (Q:Int))).run Tryz.prog w=.ok (.slice (some ⟨w.heap.size,0,none⟩) Q Q) (w.alloc (.cells ((ints (List.replicate Q 0)).map enc4).toArray 145)):=fun w=>make4 w Q (by omega)
 have HI0:Hid (DlI w B Q R M D Q (w.alloc (.cells ((ints (List.replicate Q 0)).map enc4).toArray 145)) (List.replicate Q 0) M):=(by
  refine⟨Nat.le_refl _,heap_alloc_new _ _,by simp,fun x hx=>by rw [List.eq_of_mem_replicate hx];decide,fun j hj=>?_,Zn _ _ hB,hR,hM,htop,by rw [ZO];simp,World.grownBy_alloc _ _ _⟩
  rw [List.getElem?_replicate]
  split<;>rfl)
 have hRI:(R:Int)-((n:Int)+2)=(Q:Int):=by omega
 have hQI:(Q:Int)+((n:Int)+2)=(R:Int):=by omega
 have hR9I:(R:Int)≤1000000:=by omega
 have HRQ:Hid (R=Q+(n+2)∧R≤1000000):=⟨hQ,hR9⟩
 clear hB hM hR hQ hR9 hD hap hDr hn hv1 htop
 go_enter Tryz.func218,Tryz.ntmps218
 go_wp2_with fail
 go_step3
 go_wp2_with fail
 go_step3
 go_wp2_with fail
 clear hmk
 go_loopg [6] Q (fun g s6 wx=>∃(a:Int) (K Mx:List Nat),s6=.int .i64 a∧a+1=(g:Int)∧DlI w B Q R M D g wx K Mx)
 case atStart=>exact⟨(Q:Int)-1,_,_,rfl,by omega,HI0.out⟩
 case round =>
  obtain⟨a,K,Mx,rfl,hag,hI⟩:=hrel
  have HI:Hid (DlI w B Q R M D gk wr K Mx):=hI
  clear hI HI0
  cases gk with
  |zero =>
   obtain rfl:a=-1:=by omega
   clear hag
   go_wp2_with fail
   rw [Exit.noGoto_ret]
   go_ret
   obtain⟨_,hbK,hKl,hKr,_,hbM,hMl,hMr,hMv,hsum,hg⟩:=HI.out
   exact⟨K,Mx,rfl,hbK,hKl,hKr,hbM,hMl,hMr,by simpa using hMv,hsum,hg⟩
  |succ g =>
   obtain rfl:a=(g:Int):=by omega
   have hgQ:g+1≤Q:=HI.out.1
   have hgR:(g:Int)+((n:Int)+2)+1≤R:=by omega
   clear hag
   go_wp2_with fail
   rw [show g+(n+2)+1-g=n+3 by omega]
   obtain⟨_,hbK,hKl,hKr,hK0,hbM,hMl,hMr,hMv,hsum,hg⟩:=HI.out
   have hRQ:=HRQ.out
   obtain⟨hX,hXV⟩:=DlI.top HI.out (HN ()) HDR.out
   have HGD:Hid (Calls Tryz.prog 228 #[.slice (some ⟨B,g,none⟩) (n+3) (R-g),.slice ab (n+2) cb] wr fun e w'=>∃t:Nat,e=.returned (.int .u64 (t:Int))∧t≤4294967295∧nv B32 (Mx.drop g) / nv B32 D≤t∧wr.grownBy w' none):=Ub wr B g n (R-g) (.slice ab (n+2) cb) Mx D hbM hMr (by omega) (by omega) (by omega) (HD.out.keptB hg HAP.out) HDR.out (HN ()) HV1.out (nv B32 (Mx.drop g)) hX (by rw [hX];exact hXV)
   clear hbK hKl hKr hK0 hMv hsum hX hXV
   refine HGD.out.mono ?_
   rintro e w1 ⟨t0,rfl,ht0,hqt,g1⟩
   have HI1:Hid (DmI w wr B Q R D g t0 w1 K Mx Mx):=(by
    obtain⟨_,hbK,hKl,_,_,hbM,hMl,hMr,_,_,hg⟩:=HI.out
    have hg1:wr.grownBy w1 (some B):=⟨g1.os,g1.tape,g1.output,g1.size,fun i hi _=>g1.block i hi (by simp)⟩
    exact⟨ht0,hqt,hbK.kept g1 (by simp),hKl,hbM.kept g1 (by simp),hMl,hMr,rfl,rfl,Za hg hg1,hg1⟩)
   obtain⟨q,hq⟩:∃q,nv B32 (Mx.drop g) / nv B32 D=q:=⟨_,rfl⟩
   have HQ:Hid (nv B32 (Mx.drop g) / nv B32 D=q):=hq
   rw [hq]at hqt
   obtain⟨k0,hk0⟩:∃k0,t0=q+k0:=⟨t0-q,by omega⟩
   have HK0:Hid (t0=q+k0):=hk0
   clear hbM hMl hMr hg hRQ g1 ht0 hqt hq hk0 HGD
   go_wp2_with fail
   generalize wr=wo at *
   go_loopg [8] k0 (fun k s8 wy=>∃(t:Nat) (Mi:List Nat),s8=.int .u64 (t:Int)∧t=q+k∧DmI w wo B Q R D g t wy K Mx Mi)
   case atStart=>exact⟨t0,Mx,rfl,HK0.out,HI1.out⟩
   case round =>
    obtain⟨t,Mi,rfl,htk,hJ⟩:=hrel
    have HJ:Hid (DmI w wo B Q R D g t wr K Mx Mi):=hJ
    have HTK:Hid (t=q+gk):=htk
    obtain⟨ht,_,hbK,hKl,hbM,hMl,hMr,_,_,hgw,_⟩:=hJ
    have hRQ:=HRQ.out
    have HTT:Hid (Calls Tryz.prog 229 #[.slice (some ⟨B,g,none⟩) (n+3) (R-g),.slice ab (n+2) cb,.int .u64 (t:Int)] wr fun e w'=>∃(r:Bool) (M':List Nat),e=.returned (.bool r)∧BlkL w' B 145 enc4 (ints M')∧M'.length=Mi.length∧(∀x∈M',x<B32)∧(∀j,j<g∨g+(n+2)<j→M'[j]?.getD 0=Mi[j]?.getD 0) ∧
        (r=true→nv B32 M'+t*nv B32 D*B32 ^ g=nv B32 Mi)∧(r=false→nv B32 M'+t*nv B32 D*B32 ^ g=nv B32 Mi+B32 ^ (g+(n+2)+1))∧wr.grownBy w' (some B)):=UQ wr B g (n+2) (R-g) t (.slice ab (n+2) cb) Mi D hbM hMr (by omega) (by omega) (by omega) (HD.out.keptB hgw HAP.out) HAP.out HDR.out (HN ()) ht
    have htI:(t:Int)≤4294967295:=by omega
    have HBK:Hid (BlkL wr w.heap.size 145 enc4 (ints K)∧K.length=Q):=⟨hbK,hKl⟩
    have HML:Hid (Mi.length=R):=hMl
    have HGW:Hid (w.grownBy wr (some B)):=hgw
    clear ht hbK hKl hbM hMl hMr hgw htk hRQ
    go_wp2_with fail
    refine HTT.out.mono ?_
    rintro e w2 ⟨r,M',rfl,hb2,hl2,hr2,ha2,hyes,hno,g2⟩
    cases r
    ·have hno2:=hno rfl
     have hRQ:=HRQ.out
     have hML:=HML.out
     have HGB:Hid (Calls Tryz.prog 230 #[.slice (some ⟨B,g,none⟩) (n+3) (R-g),.slice ab (n+2) cb,.int .u64 (t:Int)] w2 fun e w'=>∃(q:Nat) (M'':List Nat),e=.returned (.tuple #[])∧BlkL w' B 145 enc4 (ints M'')∧M''.length=M'.length∧(∀x∈M'',x<B32)∧(∀j,j<g∨g+(n+2)<j→M''[j]?.getD 0=M'[j]?.getD 0) ∧
      nv B32 M''+q*B32 ^ (g+(n+2)+1)=nv B32 M'+t*nv B32 D*B32 ^ g∧w2.grownBy w' (some B)):=JT w2 B g (n+2) (R-g) t (.slice ab (n+2) cb) M' D hb2 hr2 (by omega) (by omega) (by omega) (HD.out.keptB (Za HGW.out g2) HAP.out) HAP.out HDR.out (HN ()) (by omega)
     have HM:Hid (∀(q:Nat) (M'':List Nat) (w3:World),BlkL w3 B 145 enc4 (ints M'')→M''.length=M'.length→(∀x∈M'',x<B32)→(∀j,j<g∨g+(n+2)<j→M''[j]?.getD 0=M'[j]?.getD 0)→nv B32 M''+q*B32 ^ (g+(n+2)+1)=nv B32 M'+t*nv B32 D*B32 ^ g→w2.grownBy w3 (some B)→1≤t∧DmI w wo B Q R D g (t-1) w3 K Mx M'') :=
      fun q M'' w3 k1 k2 k3 k4 k5 k6=>DmI.miss HI.out HJ.out hBlt (HN ()) HDR.out hl2 hr2 ha2 hno2 g2 k1 k2 k3 k4 k5 k6
     clear hb2 hl2 hr2 ha2 hyes hno hno2 g2 hRQ hML HTT
     go_wp2_with fail
     refine HGB.out.mono ?_
     rintro e w3 ⟨qq,M'',rfl,k1,k2,k3,k4,k5,k6⟩
     obtain⟨h1t,hN⟩:=HM.out qq M'' w3 k1 k2 k3 k4 k5 k6
     have HN2:Hid (DmI w wo B Q R D g (t-1) w3 K Mx M''):=hN
     have h1I:(1:Int)≤t:=by omega
     have hw:IntKind.u64.wrap ((t:Int)-1)=(t:Int)-1:=by rw [IntKind.wrap_u64];omega
     clear k1 k2 k3 k4 k5 k6 hN HM HGB
     go_wp2_with fail
     have hq2:=HN2.out.2.1
     rw [HQ.out]at hq2
     have htk:=HTK.out
     obtain⟨k',hk'⟩:∃k',gk=k'+1:=⟨gk-1,by omega⟩
     go_roundg k'
     case measure=>omega
     case rel=>exact⟨t-1,M'',Zl (by omega),by omega,HN2.out⟩
    ·have hyes2:=hyes rfl
     have hKl:=HBK.out.2
     have hbK2:BlkL w2 w.heap.size 145 enc4 (ints K):=HBK.out.1.kept g2 (by intro e;injection e with e;omega)
     have hkc:=hbK2.cell g (by rw [Zk];omega)
     have hkf:=hbK2.frozen g
     have hgI:(g:Int)<Q:=by omega
     have hw1:IntKind.u32.wrap (t:Int)=(t:Int):=by rw [IntKind.wrap_u32];omega
     have hw2:(t:Int) % 4294967296=(t:Int):=by omega
     have HH:Hid (DlI w B Q R M D g (w2.setCell ⟨w.heap.size,g,none⟩ (.int .u32 (t:Int))) (K.set g t) M'):=DmI.hit HI.out HJ.out hBlt hV (HN ()) HDR.out hb2 hl2 hr2 ha2 hyes2 g2 rfl
     clear hb2 hl2 hr2 ha2 hyes hno hyes2 g2 HTT hKl hbK2
     go_wp2_with fail
     go_roundg g
     case measure=>omega
     case rel=>exact⟨(g:Int)-1,_,_,rfl,by omega,HH.out⟩
end Go.Proofs.YtdcadiaeaclpgaaGreatDoor
namespace Go.Proofs
open Go.Shelf
set_option maxHeartbeats 6400000
set_option maxRecDepth 1000000
def Tryz.clone_ren:Go.Shelf.Ren:=⟨fun|41=>215|n=>n,fun|0=>0|4=>4|22=>146|23=>145|n=>n,fun|n=>n⟩
theorem Tryz.clone_lays:Go.Proofs.SlLaysE0.n41 Tryz.prog Tryz.clone_ren:={
 mixed:=by kernel_rfl
 f41:=⟨Tryz.f215.name,by kernel_rfl,Tryz.func215.trans (congrArg some (by kernel_rfl))⟩
 t4:=Tryz.underlying4
 a4:=Tryz.isAgg4
 z4:=Tryz.sizeOf4
 v4:=Tryz.zeroValue4
 t22:=Tryz.underlying146
 a22:=Tryz.isAgg146
 z22:=Tryz.sizeOf146
 v22:=Tryz.zeroValue146 }
end Go.Proofs
namespace Go.Proofs.YtdcadiaeaclpgaaGreatDoor
open Go.RowKit Go.Lib Go.Sort
set_option maxHeartbeats 6400000
set_option maxRecDepth 1000000
theorem Jy (w:World) (v:Value) (L:List Nat) (h:D4 w v L) (hl:L.length≤1000000) :
    Calls Tryz.prog 215 #[v] w fun e w'=>∃v',e=.returned v'∧Row w' w.heap.size v' L∧w.grownBy w' none:=by
 rcases h with ⟨rfl,rfl⟩|⟨B,off,c,rfl,hc,h⟩
 ·refine(Go.Proofs.AnyE.slices_Clone_nil Tryz.clone_lays 0 0 w).mono ?_
  rintro e w' ⟨rfl,rfl⟩
  exact⟨_,rfl,Row.nil _ _,World.grownBy.refl _ _⟩
 ·obtain⟨i0,hi,hz0,hz1,hz2⟩:=info_parts Tryz.info4
  refine(Go.Proofs.AnyE.slices_Clone Tryz.clone_lays i0 (.int .u32 0) 1 4 hi hz0 hz1 hz2 (by simp [Value.cells]) (by decide) Tryz.sizeOf145 B off L.length c ((ints L).map enc4) w (by simp [ints]) (by unfold maxLen;omega) (by omega) ?_ ?_).mono ?_
  ·intro j u hu
   have hj:j<L.length:=by
    have:=List.getElem?_eq_some_iff.1 hu
    obtain⟨hlt,_⟩:=this
    simpa [ints]using hlt
   have:=h j hj
   rw [this]
   rw [List.getElem?_map,ints,List.getElem?_map,List.getElem?_eq_getElem hj]at hu
   rw [List.getElem?_eq_getElem hj]
   simpa [enc4]using hu
  ·intro u hu
   obtain⟨x,_,rfl⟩:=List.mem_map.1 hu
   rfl
  ·rintro e w' ⟨v',rfl,ho,_,hb⟩
   exact⟨v',rfl,ho,⟨hb.os,hb.tape,hb.output,hb.size,fun i hi _=>hb.block i hi⟩⟩
theorem lead32 (x:Nat) (hx:x<4294967296) (w:World) :
    Calls Tryz.prog 216 #[.int .u32 (x:Int)] w fun e w'=>e=.returned (.int .i64 (32-(bl x:Int)))∧w.grownBy w' none:=by
 have HL:Hid (∀w,Calls Tryz.prog 220 #[.int .u32 (x:Int)] w fun e w'=>e=.returned (.int .i64 (bl x))∧w'=w):=fun w=>Zaa x hx w
 have hb:bl x≤32:=bl_le hx
 generalize bl x=b at *
 have hbI:(b:Int)≤32:=by omega
 go_enter Tryz.func216,Tryz.ntmps216
 go_wp2_with (go_at_call 220;refine(HL.out _).mono ?_;rintro e w' ⟨rfl,rfl⟩)
 go_ret
 exact⟨rfl,World.grownBy.refl _ _⟩
theorem up_pow (n i:Nat):B32 ^ (n / 32+i)*2 ^ (n % 32)=B32 ^ i*2 ^ n:=by
 have e:B32=2 ^ 32:=by decide
 rw [e,←Nat.pow_mul,←Nat.pow_mul,←Nat.pow_add,←Nat.pow_add]
 congr 1
 omega
theorem up_step {M:List Nat} {sh c x S T n i:Nat} (hs:sh=n / 32+i) (hk:sh<M.length) (hz:M[sh]?.getD 0=0) (hv:nv B32 M+c*B32 ^ sh=S*2 ^ n) (hT:T=c+x*2 ^ (n % 32)) :
    nv B32 (M.set sh (T % 4294967296))+T / 4294967296*B32 ^ (sh+1)=(S+x*B32 ^ i)*2 ^ n:=by
 have h:=Ym B32 M sh (T % 4294967296) hk
 rw [hz,Nat.zero_mul,Nat.add_zero]at h
 have e1:T % 4294967296*B32 ^ sh+T / 4294967296*B32 ^ (sh+1)=T*B32 ^ sh:=by
  rw [Nat.pow_succ,Nat.mul_comm (B32 ^ sh) B32,←Nat.mul_assoc,←Nat.add_mul]
  congr 1
  simp only [B32]
  omega
 have e2:T*B32 ^ sh=c*B32 ^ sh+x*(B32 ^ i*2 ^ n):=by
  rw [hT,Nat.add_mul,Nat.mul_assoc,Nat.mul_comm (2 ^ (n % 32)),hs,up_pow]
 rw [Nat.add_mul,Nat.mul_assoc,h,Nat.add_assoc,e1,e2,←Nat.add_assoc,hv]
theorem VA (w:World) (va:Value) (A:List Nat) (n:Nat) (hA:D4 w va A) (ra:∀x∈A,x<B32) (la:A.length≤1000000) (hn:n≤10000000) :
    Calls Tryz.prog 217 #[va,.int .i64 (n:Int)] w fun e w'=>∃B K,e=.returned (.slice (some ⟨B,0,none⟩) K.length K.length)∧w.heap.size≤B∧BlkL w' B 145 enc4 (ints K)∧K.length=n / 32+A.length+1∧(∀x∈K,x<B32)∧nv B32 K=nv B32 A*2 ^ n∧w.grownBy w' none:=by
 obtain⟨aa,ca,rfl⟩:=hA.slice
 have HA:Hid (D4 w (.slice aa A.length ca) A):=hA
 have HRa:Hid (∀x∈A,x<B32):=ra
 obtain⟨p,hp⟩:∃p,A.length=p:=⟨_,rfl⟩
 have HP:Unit→A.length=p:=fun _=>hp
 have hp9:(p:Int)≤1000000:=by omega
 obtain⟨q,hq⟩:∃q,n / 32=q:=⟨_,rfl⟩
 obtain⟨b,hb⟩:∃b,n % 32=b:=⟨_,rfl⟩
 have hqI:(n:Int) / 32=(q:Int):=by omega
 have hbI:(n:Int) % 32=(b:Int):=by omega
 have hqI9:(q:Int)≤10000000:=by omega
 have hbI9:(b:Int)≤31:=by omega
 have hnI:(n:Int)≤10000000:=by omega
 have HQ:Unit→n / 32=q∧n % 32=b:=fun _=>⟨hq,hb⟩
 have hmk:=make4 w (q+p+1) (by omega)
 rw [show((q+p+1:Nat):Int)=(q:Int)+p+1 by omega]at hmk
 rw [hp]at HA ⊢
 rw [hq]
 clear hA ra hp la hn hq hb
 go_enter Tryz.func217,Tryz.ntmps217
 go_wp2_with fail
 clear hmk
 go_loopw [8,23] (fun s t wr=>∃(c i:Nat) (M:List Nat),s=.int .u64 c∧t=.int .i64 i∧c<2 ^ b∧i≤p∧M.length=q+p+1∧(∀x∈M,x<B32)∧nv B32 M+c*B32 ^ (q+i)=nv B32 (A.take i)*2 ^ n∧(∀j,q+i≤j→M[j]?.getD 0=0) ∧
  BlkL wr w.heap.size 145 enc4 (ints M)∧w.grownBy wr none) (fun _ t _=>p-(RowKit.intOf t).toNat)
 case atStart =>
  refine⟨0,0,List.replicate (q+p+1) 0,rfl,rfl,Nat.pow_pos (by decide),by omega,by simp,fun x hx=>by rw [List.eq_of_mem_replicate hx];decide,by rw [ZO];simp [nv],fun j _=>?_,heap_alloc_new _ _,grow1 _ _⟩
  rw [List.getElem?_replicate]
  split<;>rfl
 case round =>
  obtain⟨c,i,M,rfl,rfl,hc,hi,hM,hr,hv,hz,hBk,hg⟩:=hrel
  have HR:Hid (∀x∈M,x<B32):=hr
  have HV:Hid (nv B32 M+c*B32 ^ (q+i)=nv B32 (A.take i)*2 ^ n):=hv
  have HZ:Hid (∀j,q+i≤j→M[j]?.getD 0=0):=hz
  have HBk:Hid (BlkL wr w.heap.size 145 enc4 (ints M)):=hBk
  have HG:Hid (w.grownBy wr none):=hg
  have hb31:b≤31:=by omega
  have hpb:2 ^ b≤2 ^ 31:=Nat.pow_le_pow_right (by decide) hb31
  have e31:2 ^ 31=2147483648:=by decide
  have hcI:(c:Int)≤2147483647:=by omega
  by_cases hi1:i<p
  ·rcases HA.out with ⟨_,hnil⟩|⟨Ba,oa,ca',hve,hpc,hcA⟩
   ·exfalso
    have:=HP ()
    rw [hnil]at this
    simp at this
    omega
   ·obtain⟨haa,hpp,hcc⟩:=Value.slice.inj hve
    rw [HP ()]at hpc
    clear hpp hve
    subst haa
    subst hcc
    have hx:=Zd hg (hcA i (by rw [HP ()];omega)) (by simp)
    have rx:A[i]?.getD 0<4294967296:=Zt HRa.out i
    have SA:Hid (nv B32 (A.take (i+1))=nv B32 (A.take i)+A[i]?.getD 0*B32 ^ i):=Zp B32 A i
    have hzc:=hBk.cell (q+i) (by rw [Zk];omega)
    have hzf:=hBk.frozen (q+i)
    clear hcA hr hv hz hBk hg
    generalize A[i]?.getD 0=x at *
    have hxI:(x:Int)≤4294967295:=by omega
    obtain⟨Y,hY⟩:∃Y,x*2 ^ b=Y:=⟨_,rfl⟩
    have hYb:Y≤4294967295*2 ^ b:=by rw [←hY];exact Nat.mul_le_mul_right _ (by omega)
    have hYI:(x:Int)*2 ^ b=(Y:Int):=by rw [←hY];simp
    have hYn:Y≤9223372034707292160:=by
     have:4294967295*2 ^ b≤4294967295*2147483648:=Nat.mul_le_mul_left _ (by omega)
     omega
    have hor:bits .or .u64 (c:Int) (Y:Int)=(c:Int)+Y :=
     bits_join_low .u64 64 (by decide) wraps_u64 b (c:Int) (Y:Int) (by omega) (by exact_mod_cast hc) (by omega) (by omega) (by rw [←hYI,Int.mul_emod_left]) (by omega)
    have hT:Unit→c+Y=c+x*2 ^ (n % 32):=fun _=>by rw [(HQ ()).2,hY]
    have hc2:Unit→(c+Y) / 4294967296<2 ^ b:=fun _=>by
     rw [Nat.div_lt_iff_lt_mul (by decide)]
     omega
    have hik:((q+i:Nat):Int)<(q:Int)+p+1:=by omega
    have hwk:IntKind.i64.wrap ((q:Int)+(i:Int))=((q+i:Nat):Int):=by rw [IntKind.wrap_i64];omega
    clear hY hYb hpb e31 hc
    go_wp2_with fail
    go_roundw
    case rel =>
     have hr1:(c+Y) % 4294967296<B32:=Nat.mod_lt _ (by decide)
     refine⟨(c+Y) / 4294967296,i+1,M.set (q+i) ((c+Y) % 4294967296),Zl (by omega),rfl,hc2 (),by omega,by simp [hM],ZM HR.out hr1,?_,fun j hj=>?_,?_,Zb HG.out (Nat.le_refl _)⟩
     ·rw [SA.out,←Nat.add_assoc]
      exact up_step (by rw [(HQ ()).1]) (by omega) (HZ.out _ (Nat.le_refl _)) HV.out (hT ())
     ·rw [List.getElem?_set_ne (by omega)]
      exact HZ.out j (by omega)
     ·have e:=HBk.out.set (q+i) (((c+Y) % 4294967296:Nat):Int)
      rw [ZF]at e
      rw [show((c:Int)+Y) % 4294967296=(((c+Y) % 4294967296:Nat):Int)by omega]
      exact e
    case measure=>simp [RowKit.intOf];omega
  ·obtain rfl:i=p:=by omega
   have hzc:=hBk.cell (q+i) (by rw [Zk];omega)
   have hzf:=hBk.frozen (q+i)
   have hz0:M[q+i]?.getD 0=0:=HZ.out _ (Nat.le_refl _)
   have hwk:IntKind.i64.wrap ((q:Int)+(i:Int))=((q+i:Nat):Int):=by rw [IntKind.wrap_i64];omega
   have hik:((q+i:Nat):Int)<(q:Int)+i+1:=by omega
   have hcw:IntKind.u32.wrap (c:Int)=(c:Int):=by rw [IntKind.wrap_u32];omega
   clear hr hv hz hBk hg hpb e31 hc
   go_wp2_with fail
   go_ret
   have hset:=Ym B32 M (q+i) c (by omega)
   rw [hz0,Nat.zero_mul,Nat.add_zero]at hset
   have hvv:=HV.out
   rw [Zr B32 A i (by rw [HP ()];exact Nat.le_refl _)]at hvv
   have hlen:(M.set (q+i) c).length=q+i+1:=by simp [hM]
   refine⟨w.heap.size,M.set (q+i) c,by rw [hlen];rfl,Nat.le_refl _,?_,hlen,ZM HR.out (by simp only [B32];omega),by rw [hset];exact hvv,Zb HG.out (Nat.le_refl _)⟩
   have e:=HBk.out.set (q+i) (c:Int)
   rw [ZF]at e
   exact e
theorem D4.cell0 {w:World} {B off c d:Nat} (h:D4 w (.slice (some ⟨B,off,none⟩) 1 c) [d]):w.cell? ⟨B,off,none⟩=some (.int .u32 (d:Int)):=by
 rcases h with ⟨e,_⟩|⟨B',off',c',e,_,h⟩
 ·cases e
 ·obtain⟨e1,_,_⟩:=Value.slice.inj e
  cases e1
  exact h 0 (by simp)
theorem Row.base {w:World} {b b':Nat} {v:Value} {L:List Nat} (h:Row w b v L) (hb:b'≤b):Row w b' v L:=by
 refine⟨h.1,?_⟩
 rcases h.2 with h|⟨g,cap,cur,e,hg,rest⟩
 ·exact .inl h
 ·exact .inr ⟨g,cap,cur,e,Nat.le_trans hb hg,rest⟩
def DivQ (w:World) (a d:Nat) (N:Nat) (e:Ending) (w':World):Prop :=
 ∃vq vr Kq Kr,e=.returned (.tuple #[vq,vr])∧Row w' w.heap.size vq Kq∧Row w' w.heap.size vr Kr∧Apt vq vr∧(∀x∈Kq,x<B32)∧(∀x∈Kr,x<B32)∧Trim Kq∧Trim Kr∧nv B32 Kq=a / d∧nv B32 Kr=a % d∧Kq.length≤N∧Kr.length≤N∧w.grownBy w' none
theorem ZaO (w:World) (va vb:Value) (A D:List Nat) (hA:D4 w va A) (hB:D4 w vb D) (ra:∀x∈A,x<B32) (rb:∀x∈D,x<B32) (tA:Trim A) (tB:Trim D) (la:A.length≤100000) (lb:D.length≤100000) (hlt:nv B32 A<nv B32 D) :
    Calls Tryz.prog 201 #[va,vb] w (DivQ w (nv B32 A) (nv B32 D) A.length):=by
 have hC:=ZZ w va vb A D hA hB ra rb tA tB (by omega) (by omega)
 rw [show cmpN (nv B32 A) (nv B32 D)=-1 by unfold cmpN;rw [if_pos hlt]]at hC
 have HC:Hid (Calls Tryz.prog 198 #[va,vb] w fun e w'=>e=.returned (.int .i64 (-1))∧w.grownBy w' none):=hC
 have HA:Hid (D4 w va A):=hA
 have HQ:Unit→nv B32 A / nv B32 D=0∧nv B32 A % nv B32 D=nv B32 A:=fun _=>⟨Nat.div_eq_of_lt hlt,Nat.mod_eq_of_lt hlt⟩
 obtain⟨aa,ca,rfl⟩:=hA.slice
 obtain⟨ab,cb,rfl⟩:=hB.slice
 have HF:Hid ((∀x∈A,x<B32)∧Trim A∧A.length≤100000):=⟨ra,tA,la⟩
 clear hC hA hB ra rb tA tB hlt la
 go_enter Tryz.func201,Tryz.ntmps201
 go_wp2_with fail
 refine HC.out.mono ?_
 rintro e w1 ⟨rfl,g1⟩
 have HK:=Jy w1 _ A (HA.out.kept g1) (by have:=HF.out.2.2;omega)
 have HG1:Hid (w.grownBy w1 none):=g1
 clear g1 HC
 go_wp2_with fail
 refine HK.mono ?_
 rintro e w2 ⟨v',rfl,hR,g2⟩
 have HR:Hid (Row w2 w1.heap.size v' A):=hR
 have HG2:Hid (w.grownBy w2 none):=Za HG1.out g2
 clear hR g2 HK
 go_wp2_with fail
 go_ret2
 have hq:=HQ ()
 have hf:=HF.out
 refine⟨_,_,[],A,rfl,Row.nil _ _,HR.out.base HG1.out.size,.inl rfl,by simp,hf.1,.inl rfl,hf.2.1,by rw [hq.1];rfl,hq.2.symm,by simp,Nat.le_refl _,HG2.out⟩
theorem ZcP (w:World) (va:Value) (A:List Nat) (d:Nat) (Bd od cd:Nat) (hA:D4 w va A) (hB:D4 w (.slice (some ⟨Bd,od,none⟩) 1 cd) [d]) (ra:∀x∈A,x<B32) (hd:d<B32) (hd0:0<d) (tA:Trim A) (la:A.length≤100000) (_hcd:1≤cd) (hle:d≤nv B32 A) :
    Calls Tryz.prog 201 #[va,.slice (some ⟨Bd,od,none⟩) 1 cd] w (DivQ w (nv B32 A) d A.length):=by
 have hnd:nv B32 [d]=d:=by simp [nv]
 have hC:=ZZ w va _ A [d] hA hB ra (by intro x hx;simp at hx;subst hx;exact hd) tA (.inr (by simp;omega)) (by omega) (by simp)
 obtain⟨cv,hcv⟩:∃cv,cmpN (nv B32 A) (nv B32 [d])=cv:=⟨_,rfl⟩
 have hcv0:0≤cv:=by rw [←hcv,hnd];unfold cmpN;repeat' split;all_goals omega
 rw [hcv]at hC
 have HC:Hid (Calls Tryz.prog 198 #[va,.slice (some ⟨Bd,od,none⟩) 1 cd] w fun e w'=>e=.returned (.int .i64 cv)∧w.grownBy w' none):=hC
 have HA:Hid (D4 w va A):=hA
 have hc:=hB.cell0
 have HCD:Hid (w.cell? ⟨Bd,od,none⟩=some (.int .u32 (d:Int))):=hc
 obtain⟨aa,ca,rfl⟩:=hA.slice
 have HF:Hid ((∀x∈A,x<B32)∧Trim A∧A.length≤100000):=⟨ra,tA,la⟩
 have HD:Hid (d<B32∧0<d):=⟨hd,hd0⟩
 have HNZ:Hid (0<nv B32 A):=Nat.lt_of_lt_of_le hd0 hle
 clear hC hA hB ra tA la hc hd hd0 hle hnd hcv
 go_enter Tryz.func201,Tryz.ntmps201
 go_wp2_with fail
 refine HC.out.mono ?_
 rintro e w1 ⟨rfl,g1⟩
 have HK:=Jy w1 _ A (HA.out.kept g1) (by have:=HF.out.2.2;omega)
 have HG1:Hid (w.grownBy w1 none):=g1
 clear g1 HC
 go_wp2_with fail
 refine HK.mono ?_
 rintro e w2 ⟨v',rfl,hR,g2⟩
 have hcd2:=Zd (Za HG1.out g2) HCD.out (by simp)
 obtain⟨r,hr⟩:∃r,nv B32 A % d=r:=⟨_,rfl⟩
 have HRR:Hid (nv B32 A % d=r):=hr
 have HCB:Hid (Calls Tryz.prog 155 #[v',.int .u32 (d:Int)] w2 fun e w'=>∃K,e=.returned (.int .u32 (r:Int))∧K.length=A.length∧(∀x∈K,x<B32)∧nv B32 K=nv B32 A / d∧Row w' w1.heap.size v' K∧w2.grownBy w' v'.ownBlock):=by rw [←hr];exact Zai w2 w1.heap.size d v' A hR HF.out.1 HD.out.2 HD.out.1 (by have:=HF.out.2.2;omega)
 have HR:Hid (Row w2 w1.heap.size v' A):=hR
 have HG2:Hid (w1.grownBy w2 none):=g2
 clear hR g2 HK hr
 go_wp2_with fail
 refine HCB.out.mono ?_
 rintro e w3 ⟨K,rfl,hKl,hKr,hKv,hKR,g3⟩
 have hT:=Yj w3 w1.heap.size v' K hKR (by have:=HF.out.2.2;omega)
 have HT:Hid (Calls Tryz.prog 154 #[v'] w3 fun e w'=>∃v'' k,e=.returned v''∧k≤K.length∧Row w3 w1.heap.size v'' (K.take k)∧nv B32 (K.take k)=nv B32 K∧Trim (K.take k)∧v''.ownBlock=v'.ownBlock∧w'=w3):=hT
 have HG3:Hid (w.grownBy w3 none):=Za HG1.out (Ye HG2.out HR.out g3)
 have HK3:Hid (K.length=A.length∧(∀x∈K,x<B32)∧nv B32 K=nv B32 A / d):=⟨hKl,hKr,hKv⟩
 have hrB:r<B32:=by have h1:=HRR.out;have h2:=Nat.mod_lt (nv B32 A) HD.out.2;have h3:=HD.out.1;omega
 have hrow:Row (w3.alloc (.cells #[.int .u32 (r:Int)] 145)) w.heap.size (.slice (some ⟨w3.heap.size,0,none⟩) 1 1) [r]:=by
  have hb:BlkL (w3.alloc (.cells #[.int .u32 (r:Int)] 145)) w3.heap.size 145 enc4 (ints [r]):=heap_alloc_new _ _
  exact hb.row HG3.out.size (by simp [maxLen])
 have hT2:=Yj _ w.heap.size _ [r] hrow (by simp)
 have HT2:Hid (Calls Tryz.prog 154 #[.slice (some ⟨w3.heap.size,0,none⟩) 1 1] (w3.alloc (.cells #[.int .u32 (r:Int)] 145)) fun e w'=>∃v'' k,e=.returned v''∧k≤[r].length∧Row (w3.alloc (.cells #[.int .u32 (r:Int)] 145)) w.heap.size v'' ([r].take k)∧nv B32 ([r].take k)=nv B32 [r]∧Trim ([r].take k)∧v''.ownBlock=(Value.slice (some ⟨w3.heap.size,0,none⟩) 1 1).ownBlock∧w'=w3.alloc (.cells #[.int .u32 (r:Int)] 145)):=hT2
 have HRB:Hid (r<B32):=hrB
 clear hT hT2 hKl hKr hKv hKR g3 hrow HCB hcd2 hrB HR
 go_wp2_with fail
 refine HT.out.mono ?_
 rintro e w4 ⟨vq,k,rfl,hk,hRq,nq,tq,oq,hw4⟩
 subst hw4
 have HRQ:Hid (Row w4 w1.heap.size vq (K.take k)∧nv B32 (K.take k)=nv B32 K∧Trim (K.take k)):=⟨hRq,nq,tq⟩
 clear hRq nq tq HT oq
 go_wp2_with fail
 refine HT2.out.mono ?_
 rintro e w5 ⟨vr,k2,rfl,hk2,hRr,nr,tr,or,hw5⟩
 subst hw5
 have HRR2:Hid (Row (w4.alloc (.cells #[.int .u32 (r:Int)] 145)) w.heap.size vr ([r].take k2)∧nv B32 ([r].take k2)=nv B32 [r]∧Trim ([r].take k2)∧vr.ownBlock=some w4.heap.size):=⟨hRr,nr,tr,or⟩
 clear hRr nr tr or HT2
 go_wp2_with fail
 go_ret2
 obtain⟨a1,a2,a3⟩:=HRQ.out
 obtain⟨b1,b2,b3,b4⟩:=HRR2.out
 obtain⟨c1,c2,c3⟩:=HK3.out
 have hrB:=HRB.out
 have hA1:1≤A.length:=by
  rcases Nat.eq_zero_or_pos A.length with h|h
  ·have h1:=HNZ.out
   rw [List.length_eq_zero_iff.1 h]at h1
   simp [nv]at h1
  ·exact h
 refine⟨vq,vr,K.take k,[r].take k2,rfl,(a1.base HG1.out.size).kept (grow1 _ _) (by cases vq.ownBlock<;>simp),b1,?_,fun x hx=>c2 x (List.mem_of_mem_take hx),fun x hx=>?_,a3,b3,by rw [a2,c3],by rw [b2,HRR.out];simp [nv],?_,?_,Za HG3.out (grow1 _ _)⟩
 ·unfold Apt
  rw [b4]
  cases hob:vq.ownBlock with
  |none=>exact .inl rfl
  |some g =>
   right
   intro e
   have:=(a1.lt hob).2
   have e2:g=w4.heap.size:=Option.some.inj e
   omega
 ·have:=List.mem_of_mem_take hx
  simp at this
  subst this
  exact hrB
 ·rw [List.length_take];omega
 ·rw [List.length_take];simp;omega
theorem Ze1 {a d m k P:Nat} (h1:m<d*P) (h2:m+d*P*k=a*P):k=a / d∧m / P=a % d:=by
 have hP:0<P:=Nat.pos_of_ne_zero fun e=>by subst e;omega
 have hd:0<d:=Nat.pos_of_ne_zero fun e=>by subst e;omega
 have hk:a*P / (d*P)=k:=by
  rw [←h2,Nat.add_mul_div_left _ _ (Nat.mul_pos hd hP),Nat.div_eq_of_lt h1,Nat.zero_add]
 have hm:a*P % (d*P)=m:=by
  rw [←h2,Nat.add_mul_mod_self_left,Nat.mod_eq_of_lt h1]
 rw [Nat.mul_div_mul_right _ _ hP]at hk
 rw [Nat.mul_mod_mul_right]at hm
 exact⟨hk.symm,by rw [←hm,Nat.mul_div_cancel _ hP]⟩
theorem VV {L:List Nat} {k:Nat} (t:Trim L) (h:nv B32 L<B32 ^ k):L.length≤k:=by
 refine Nat.le_of_not_lt fun hlt=>?_
 have:=ZK t k hlt
 omega
theorem Zdj {L:List Nat} {k:Nat} (hr:∀x∈L,x<B32) (h:B32 ^ k≤nv B32 L):k<L.length:=by
 have h1:=nv_lt B32 L hr
 have h2:=Nat.lt_of_le_of_lt h h1
 exact(Nat.pow_lt_pow_iff_right (by decide)).1 h2
theorem ZbB {D D':List Nat} {n s:Nat} (hD:D.length=n+2) (rD:∀x∈D,x<B32) (tD:Trim D) (hs:s+bl (D[n+1]?.getD 0)=32) (rD':∀x∈D',x<B32) (tD':Trim D') (hv:nv B32 D'=nv B32 D*2 ^ s):D'.length=n+2∧D'[n+1]?.getD 0≠0:=by
 have h1:B32 ^ (n+1)≤nv B32 D:=ZK tD (n+1) (by omega)
 have h2:1≤2 ^ s:=Nat.pow_pos (by decide)
 have h3:B32 ^ (n+1)≤nv B32 D':=by
  rw [hv]
  exact Nat.le_trans h1 (Nat.le_mul_of_pos_right _ h2)
 have h4:=Zdj rD' h3
 have e32:B32=2 ^ 32:=by decide
 have h5:nv B32 D'<B32 ^ (n+2):=by
  have hb:=Jt rD tD (by omega)
  rw [hD,show n+2-1=n+1 by omega]at hb
  have h6:=lt_bl (nv B32 D)
  rw [hb]at h6
  rw [hv]
  refine Nat.lt_of_lt_of_le (Nat.mul_lt_mul_of_pos_right h6 h2) ?_
  rw [←Nat.pow_add,e32,←Nat.pow_mul]
  exact Nat.pow_le_pow_right (by decide) (by omega)
 have h6:=VV tD' h5
 have h7:D'.length=n+2:=by omega
 refine⟨h7,?_⟩
 rcases tD' with h|h
 ·omega
 ·rw [h7]at h
  exact h
theorem Zff {A D M:List Nat} {n s Q:Nat} (rA:∀x∈A,x<B32) (rM:∀x∈M,x<B32) (tD:Trim D) (hD:D.length=n+2) (hM:nv B32 M=nv B32 A*2 ^ s) (hQ:A.length+1=Q+(n+2)):nv B32 (M.drop Q)<nv B32 D*2 ^ s:=by
 rw [YG M Q rM,hM]
 have h1:=nv_lt B32 A rA
 have h2:B32 ^ (n+1)≤nv B32 D:=ZK tD (n+1) (by omega)
 have hp:0<2 ^ s:=Nat.pow_pos (by decide)
 refine Nat.lt_of_lt_of_le (Nat.div_lt_of_lt_mul (n:=B32 ^ Q) (k:=B32 ^ (n+1)*2 ^ s) ?_) (Nat.mul_le_mul_right _ h2)
 have e:B32 ^ Q*(B32 ^ (n+1)*2 ^ s)=B32 ^ A.length*2 ^ s:=by
  rw [←Nat.mul_assoc,←Nat.pow_add,show Q+(n+1)=A.length by omega]
 rw [e]
 exact Nat.mul_lt_mul_of_pos_right h1 hp
theorem ZaW (w:World) (va vb:Value) (A D:List Nat) (n:Nat) (hA:D4 w va A) (hB:D4 w vb D) (ra:∀x∈A,x<B32) (rb:∀x∈D,x<B32) (tA:Trim A) (tB:Trim D) (la:A.length≤100000) (hn:D.length=n+2) (hle:nv B32 D≤nv B32 A) :
    Calls Tryz.prog 201 #[va,vb] w (DivQ w (nv B32 A) (nv B32 D) A.length):=by
 have hAn:n+2≤A.length:=Zdj ra (Nat.le_trans (ZK tB (n+1) (by omega)) hle)
 have hC:=ZZ w va vb A D hA hB ra rb tA tB (by omega) (by omega)
 obtain⟨cv,hcv⟩:∃cv,cmpN (nv B32 A) (nv B32 D)=cv:=⟨_,rfl⟩
 have hcv0:0≤cv:=by rw [←hcv];unfold cmpN;repeat' split;all_goals omega
 rw [hcv]at hC
 obtain⟨aa,ca,rfl⟩:=hA.slice
 rcases hB with ⟨_,e⟩|⟨Bd,od,cd,rfl,hcd,hDc⟩
 ·rw [e]at hn;simp at hn
 have hB:D4 w (.slice (some ⟨Bd,od,none⟩) (n+2) cd) D:=.inr ⟨Bd,od,cd,by rw [hn],hcd,hDc⟩
 rw [hn]at hC hcd ⊢
 have hx:=hDc (n+1) (by omega)
 obtain⟨x,hxx⟩:∃x,D[n+1]?.getD 0=x:=⟨_,rfl⟩
 have rx:x<B32:=by rw [←hxx];exact Zt rb (n+1)
 have hx0:x≠0:=by
  rcases tB with h|h
  ·omega
  ·rw [hn]at h
   rw [←hxx]
   exact h
 rw [hxx]at hx
 obtain⟨s,hs⟩:∃s,s+bl x=32:=⟨32-bl x,by have:bl x≤32:=bl_le rx;omega⟩
 have hs31:s≤31:=by
  obtain⟨k,hk⟩:=YS (Nat.pos_of_ne_zero hx0)
  omega
 have HC:Hid (Calls Tryz.prog 198 #[.slice aa A.length ca,.slice (some ⟨Bd,od,none⟩) (n+2) cd] w fun e w'=>e=.returned (.int .i64 cv)∧w.grownBy w' none):=hC
 have HLZ:Hid (∀w,Calls Tryz.prog 216 #[.int .u32 (x:Int)] w fun e w'=>e=.returned (.int .i64 (s:Int))∧w.grownBy w' none):=fun w=>by
  have:=lead32 x rx w
  rw [show 32-(bl x:Int)=(s:Int)by omega]at this
  exact this
 have HXC:Hid (w.cell? ⟨Bd,od+(n+1),none⟩=some (.int .u32 (x:Int))):=hx
 have HA:Hid (D4 w (.slice aa A.length ca) A∧(∀x∈A,x<B32)∧A.length≤100000):=⟨hA,ra,la⟩
 have HB:Hid (D4 w (.slice (some ⟨Bd,od,none⟩) (n+2) cd) D∧(∀x∈D,x<B32)∧Trim D∧D.length=n+2):=⟨hB,rb,tB,hn⟩
 have HS:Hid (s+bl (D[n+1]?.getD 0)=32):=(by rw [hxx];exact hs:s+bl (D[n+1]?.getD 0)=32)
 obtain⟨Q,hQ⟩:∃Q,A.length+1=Q+(n+2):=⟨A.length-(n+1),by omega⟩
 have HQ:Hid (A.length+1=Q+(n+2)∧n+2≤A.length):=⟨hQ,hAn⟩
 have hnI:(n:Int)≤100000:=by omega
 have hsI:(s:Int)≤31:=by omega
 clear hA hB ra rb tA tB la hn hle hAn hC hcv hDc hx hxx rx hx0 hs hQ
 go_enter Tryz.func201,Tryz.ntmps201
 go_wp2_with fail
 refine HC.out.mono ?_
 rintro e w1 ⟨rfl,g1⟩
 have HG1:Hid (w.grownBy w1 none):=g1
 have hx1:=Zd g1 HXC.out (by simp)
 clear g1 HC
 go_wp2_with fail
 refine(HLZ.out _).mono ?_
 rintro e w2 ⟨rfl,g2⟩
 have HG2:Hid (w.grownBy w2 none):=Za HG1.out g2
 obtain⟨k1,k2,k3⟩:=HA.out
 have hU:=VA w2 (.slice aa A.length ca) A s (k1.kept HG2.out) k2 (by omega) (by omega)
 have HU:Hid (Calls Tryz.prog 217 #[.slice aa A.length ca,.int .i64 (s:Int)] w2 fun e w'=>∃B K,e=.returned (.slice (some ⟨B,0,none⟩) K.length K.length)∧w2.heap.size≤B∧BlkL w' B 145 enc4 (ints K)∧K.length=s / 32+A.length+1∧(∀x∈K,x<B32)∧nv B32 K=nv B32 A*2 ^ s∧w2.grownBy w' none):=hU
 clear g2 HLZ hx1 k1 k2 k3 hU
 go_wp2_with fail
 refine HU.out.mono ?_
 rintro e w3 ⟨B1,M,rfl,hB1,hbM,hMl,hMr,hMv,g3⟩
 have HG3:Hid (w.grownBy w3 none):=Za HG2.out g3
 have HM:Hid (w2.heap.size≤B1∧BlkL w3 B1 145 enc4 (ints M)∧M.length=A.length+1∧(∀x∈M,x<B32)∧nv B32 M=nv B32 A*2 ^ s):=⟨hB1,hbM,by omega,hMr,hMv⟩
 obtain⟨k1,k2,k3,k4⟩:=HB.out
 have hU:=VA w3 (.slice (some ⟨Bd,od,none⟩) (n+2) cd) D s (k1.kept HG3.out) k2 (by have:=HQ.out;have:=HA.out.2.2;omega) (by omega)
 have HU2:Hid (Calls Tryz.prog 217 #[.slice (some ⟨Bd,od,none⟩) (n+2) cd,.int .i64 (s:Int)] w3 fun e w'=>∃B K,e=.returned (.slice (some ⟨B,0,none⟩) K.length K.length)∧w3.heap.size≤B∧BlkL w' B 145 enc4 (ints K)∧K.length=s / 32+D.length+1∧(∀x∈K,x<B32)∧nv B32 K=nv B32 D*2 ^ s∧w3.grownBy w' none):=hU
 clear g3 HU hU k1 k2 k3 k4 hB1 hbM hMl hMr hMv
 go_wp2_with fail
 refine HU2.out.mono ?_
 rintro e w4 ⟨B2,L2,rfl,hB2,hbL,hLl,hLr,hLv,g4⟩
 have hT:=Yj w4 w.heap.size (.slice (some ⟨B2,0,none⟩) L2.length L2.length) L2 (hbL.row (Nat.le_trans HG3.out.size hB2) (by have:=HB.out.2.2.2;have:=HQ.out;have:=HA.out.2.2;unfold maxLen;omega)) (by have:=HB.out.2.2.2;have:=HQ.out;have:=HA.out.2.2;omega)
 have HT:Hid (Calls Tryz.prog 154 #[.slice (some ⟨B2,0,none⟩) L2.length L2.length] w4 fun e w'=>∃v' k,e=.returned v'∧k≤L2.length∧Row w4 w.heap.size v' (L2.take k)∧nv B32 (L2.take k)=nv B32 L2∧Trim (L2.take k)∧v'.ownBlock=(Value.slice (some ⟨B2,0,none⟩) L2.length L2.length).ownBlock∧w'=w4):=hT
 have HG4:Hid (w.grownBy w4 none):=Za HG3.out g4
 have HM4:Hid (B1<w3.heap.size∧BlkL w4 B1 145 enc4 (ints M)):=⟨HM.out.2.1.lt,HM.out.2.1.kept g4 (by simp)⟩
 have HL2:Hid (w3.heap.size≤B2∧(∀x∈L2,x<B32)∧nv B32 L2=nv B32 D*2 ^ s):=⟨hB2,hLr,hLv⟩
 clear HU2 hT hbL hLl hLr hLv g4 hB2
 go_wp2_with fail
 refine HT.out.mono ?_
 rintro e w5 ⟨v5,k,rfl,hk,hD5,hn5,ht5,ho5,hw5⟩
 subst hw5
 have hDr:∀x∈L2.take k,x<B32:=fun x hx=>HL2.out.2.1 x (List.mem_of_mem_take hx)
 have hDv:nv B32 (L2.take k)=nv B32 D*2 ^ s:=hn5.trans HL2.out.2.2
 obtain⟨hDl,hDt⟩:=ZbB HB.out.2.2.2 HB.out.2.1 HB.out.2.2.1 HS.out hDr ht5 hDv
 obtain⟨m1,m2,m3,m4,m5⟩:=HM.out
 have htop:=Zff (n:=n) (s:=s) (Q:=Q) HA.out.2.1 m4 HB.out.2.2.1 HB.out.2.2.2 m5 HQ.out.1
 have hLn:=Ua w5 B1 (A.length+1) n Q v5 M (L2.take k) HM4.out.2 m4 m3 HQ.out.1 (by have:=HA.out.2.2;omega) hD5.d4 (fun b n c e h=>by
  have h1:=Jz hD5 b n c e
  rw [ho5]at h1
  have h2:(Value.slice (some ⟨B2,0,none⟩) L2.length L2.length).ownBlock=some B2:=rfl
  rw [h2,h]at h1
  have h3:B2=B1:=Option.some.inj h1
  have h4:=HM4.out.1
  have h5:=HL2.out.1
  omega) hDr hDl hDt (by rw [hDv];exact htop)
 rw [hDv]at hLn
 have HLN:Hid (Calls Tryz.prog 218 #[.slice (some ⟨B1,0,none⟩) (A.length+1) (A.length+1),v5] w5 fun e w'=>∃K M',e=.returned (.slice (some ⟨w5.heap.size,0,none⟩) Q Q)∧BlkL w' w5.heap.size 145 enc4 (ints K)∧K.length=Q∧(∀x∈K,x<B32)∧BlkL w' B1 145 enc4 (ints M')∧M'.length=A.length+1∧(∀x∈M',x<B32)∧nv B32 M'<nv B32 D*2 ^ s∧nv B32 M'+nv B32 D*2 ^ s*nv B32 K=nv B32 M∧w5.grownBy w' (some B1)):=hLn
 have hM1:M.length=A.length+1:=m3
 have HB1:Hid (w2.heap.size≤B1∧nv B32 M=nv B32 A*2 ^ s):=⟨m1,m5⟩
 rw [hM1]
 clear hk hD5 hn5 ht5 ho5 hDr hDv hDl hDt m1 m2 m3 m4 m5 htop hLn HT HM hM1 HM4
 go_wp2_with fail
 refine HLN.out.mono ?_
 rintro e w6 ⟨K,M',rfl,hbK,hKl,hKr,hbM,hMl,hMr,hMlt,hsum,g6⟩
 have hg6:w.grownBy w6 none:=by
  have h1:=HB1.out.1
  have h2:=HG2.out.size
  exact Zq HG4.out (Nat.le_trans h2 h1) g6
 have HG6:Hid (w.grownBy w6 none):=hg6
 have hT1:=Yj w6 w.heap.size (.slice (some ⟨w5.heap.size,0,none⟩) K.length K.length) K (hbK.row HG4.out.size (by have:=HQ.out;have:=HA.out.2.2;unfold maxLen;omega)) (by have:=HQ.out;have:=HA.out.2.2;omega)
 have hT2:=Zb2 w6 (.slice (some ⟨B1,0,none⟩) M'.length M'.length) M' hbM.d4 (by have:=HA.out.2.2;omega)
 rw [hKl]at hT1
 rw [hMl]at hT2
 have HT1:Hid (Calls Tryz.prog 154 #[.slice (some ⟨w5.heap.size,0,none⟩) Q Q] w6 fun e w'=>∃v' k,e=.returned v'∧k≤Q∧Row w6 w.heap.size v' (K.take k)∧nv B32 (K.take k)=nv B32 K∧Trim (K.take k)∧v'.ownBlock=(Value.slice (some ⟨w5.heap.size,0,none⟩) Q Q).ownBlock∧w'=w6):=hT1
 have HT2:Hid (Calls Tryz.prog 154 #[.slice (some ⟨B1,0,none⟩) (A.length+1) (A.length+1)] w6 fun e w'=>∃v' k,e=.returned v'∧k≤A.length+1∧D4 w6 v' (M'.take k)∧nv B32 (M'.take k)=nv B32 M'∧Trim (M'.take k)∧w'=w6):=hT2
 have HKM:Hid (K.length=Q∧(∀x∈K,x<B32)∧M'.length=A.length+1∧(∀x∈M',x<B32)∧nv B32 M'<nv B32 D*2 ^ s∧nv B32 M'+nv B32 D*2 ^ s*nv B32 K=nv B32 A*2 ^ s):=⟨hKl,hKr,hMl,hMr,hMlt,hsum.trans HB1.out.2⟩
 clear hbK hKl hKr hbM hMl hMr hMlt hsum g6 hg6 hT1 hT2 HLN
 go_wp2_with fail
 refine HT1.out.mono ?_
 rintro e w7 ⟨vq,kq,rfl,hkq,hRq,nq,tq,oq,hw7⟩
 subst hw7
 have HVQ:Hid (Row w7 w.heap.size vq (K.take kq)∧nv B32 (K.take kq)=nv B32 K∧Trim (K.take kq)):=⟨hRq,nq,tq⟩
 clear hkq hRq nq tq oq HT1
 go_wp2_with fail
 refine HT2.out.mono ?_
 rintro e w8 ⟨vm,km,rfl,hkm,hRm,nm,tm,hw8⟩
 subst hw8
 have hSD:=U9 w8 vm (M'.take km) s hRm (fun x hx=>HKM.out.2.2.2.1 x (List.mem_of_mem_take hx)) (by have:=HA.out.2.2;have:=HKM.out.2.2.1;rw [List.length_take];omega) (by omega)
 rw [nm]at hSD
 have HSD:Hid (Calls Tryz.prog 219 #[vm,.int .i64 (s:Int)] w8 fun e w'=>∃v' Kr,e=.returned v'∧Row w' w8.heap.size v' Kr∧(∀x∈Kr,x<B32)∧nv B32 Kr=nv B32 M' / 2 ^ s∧Trim Kr∧Kr.length≤(M'.take km).length∧w8.grownBy w' none):=hSD
 clear hkm hRm nm tm hSD HT2
 go_wp2_with fail
 refine HSD.out.mono ?_
 rintro e w9 ⟨vr,Kr,rfl,hRr,rr,nr,tr,_,g9⟩
 have HFI:Hid (Row w9 w8.heap.size vr Kr∧(∀x∈Kr,x<B32)∧nv B32 Kr=nv B32 M' / 2 ^ s∧Trim Kr∧w8.grownBy w9 none):=⟨hRr,rr,nr,tr,g9⟩
 clear hRr rr nr tr g9 HSD
 go_wp2_with fail
 go_ret2
 obtain⟨f1,f2,f3,f4,f5⟩:=HFI.out
 obtain⟨a1,a2,a3⟩:=HVQ.out
 obtain⟨b1,b2,b3,b4,b5,b6⟩:=HKM.out
 obtain⟨hq,hr⟩:=Ze1 b5 b6
 refine⟨vq,vr,K.take kq,Kr,rfl,a1.kept f5 (by cases vq.ownBlock<;>simp),f1.base HG6.out.size,?_,fun x hx=>b2 x (List.mem_of_mem_take hx),f2,a3,f4,by rw [a2,hq],by rw [f3,hr],by rw [List.length_take];have:=HQ.out;omega,?_,Za HG6.out f5⟩
 ·unfold Apt
  cases hob:vq.ownBlock with
  |none=>exact .inl rfl
  |some g =>
   right
   intro e
   have h1:=(a1.lt hob).2
   have h2:=(f1.lt e.symm).1
   omega
 ·have h1:nv B32 Kr<B32 ^ (n+2):=by
    rw [f3,hr]
    have h2:=nv_lt B32 D HB.out.2.1
    rw [HB.out.2.2.2]at h2
    have h3:0<nv B32 D:=Nat.pos_of_ne_zero fun e=>by rw [e,Nat.zero_mul]at b5;omega
    exact Nat.lt_trans (Nat.mod_lt _ h3) h2
  have:=VV f4 h1
  have:=HQ.out
  omega
theorem Xb (w:World) (va vb:Value) (A D:List Nat) (hA:D4 w va A) (hB:D4 w vb D) (ra:∀x∈A,x<B32) (rb:∀x∈D,x<B32) (tA:Trim A) (tB:Trim D) (la:A.length≤100000) (lb:D.length≤100000) (hD:D.length≠0) :
    Calls Tryz.prog 201 #[va,vb] w (DivQ w (nv B32 A) (nv B32 D) A.length):=by
 rcases Nat.lt_or_ge (nv B32 A) (nv B32 D)with h|h
 ·exact ZaO w va vb A D hA hB ra rb tA tB la lb h
 ·by_cases h1:D.length=1
  ·obtain⟨d,rfl⟩:∃d,D=[d]:=by
     match D,h1 with
     |[d],_=>exact⟨d,rfl⟩
   have hd:nv B32 [d]=d:=by simp [nv]
   have hdr:d<B32:=rb d (by simp)
   have hd0:0<d:=by
    rcases tB with h2|h2
    ·simp at h2
    ·simp at h2;omega
   rcases hB with ⟨_,e⟩|⟨Bd,od,cd,rfl,hcd,hDc⟩
   ·simp at e
   rw [hd]at h ⊢
   exact ZcP w va A d Bd od cd hA (.inr ⟨Bd,od,cd,rfl,hcd,hDc⟩) ra hdr hd0 tA la (by simpa using hcd) h
  ·exact ZaW w va vb A D (D.length-2) hA hB ra rb tA tB la (by omega) h
end Go.Proofs.YtdcadiaeaclpgaaGreatDoor
