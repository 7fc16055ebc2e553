/- Which whole numbers may be: what the program's Check and the document's Formed, Fits, May answer; zero, num, arg. -/
import Derived.Test.YtdcadiaeaclpgaaGreatDoorBas
namespace Go.Proofs.YtdcadiaeaclpgaaGreatDoor
open Go.RowKit Go.Lib Go.Sort
set_option maxHeartbeats 1600000
set_option maxRecDepth 1000000
abbrev eS:ByteArray:=⟨#[]⟩
abbrev wObj (neg:Bool) (mag:ByteArray):Obj:=.cells #[.bool neg,.string mag] 38
theorem Tryz.sizeW:(Tryz.prog.info? 38).map (·.size)=some 2:=by kernel_rfl
theorem ZV {fn:Func} {p:Tmp} (h:fn.results=#[.cell p 38]) (tmps:Array Value) (w:World) (g:Nat) (t:TypeId) (a b:Value) (fr:Nat × Nat)
    (hp:tmps.getD p undef=.pointer (some ⟨g,0,none⟩)) (hg:w.heap[g]?=some (.cells #[a,b] t fr)):(results fn tmps).run Tryz.prog w=.ok (.agg #[a,b]) w :=
 results_cell_row h tmps w g t #[a,b] fr _ hp hg Tryz.underlying38 rfl Tryz.sizeW
theorem ZeE (w:World) (g:Nat) (t:TypeId) (a b:Value) (fr:Nat × Nat) (hg:w.heap[g]?=some (.cells #[a,b] t fr)):(loadVar 38 ⟨g,0,none⟩).run Tryz.prog w=.ok (.agg #[a,b]) w :=
 run_loadVar_row w g t 38 #[a,b] fr _ hg Tryz.underlying38 rfl Tryz.sizeW
theorem Zm {fn:Func} {p u:Tmp} (h:fn.results=#[.cell p 38,.tmp u]) (tmps:Array Value) (w:World) (g:Nat) (t:TypeId) (a b:Value) (fr:Nat × Nat)
    (hp:tmps.getD p undef=.pointer (some ⟨g,0,none⟩)) (hg:w.heap[g]?=some (.cells #[a,b] t fr)):(results fn tmps).run Tryz.prog w=.ok (.tuple #[.agg #[a,b],tmps.getD u undef]) w:=by
 rw [results_cell_tmp h,hp]
 simp [asAddr,Result.andThen,ZeE w g t a b fr hg]
theorem Z0 (w:World) :
    Calls Tryz.prog 140 #[] w fun e w'=>e=.returned (whole false eS)∧w'=w.alloc (wObj false eS):=by
 go_enter Tryz.func140,Tryz.ntmps140
 go_wp2
 refine bodyPost_ret (ZV rfl _ _ w.heap.size _ _ _ _ rfl (heap_alloc_new _ _)) rfl ?_
 exact⟨rfl,rfl⟩
def chk (neg:Bool) (mag:ByteArray):Int:=if may neg mag then 0 else 2
theorem Yn (neg:Bool) (mag:ByteArray) (hm:mag.size≤maxLen) (w:World) :
    Calls Tryz.prog 139 #[whole neg mag] w fun e w'=>e=.returned (.int .i64 (chk neg mag))∧w'=w.alloc (wObj neg mag):=by
 unfold maxLen at hm
 by_cases h0:mag.size=0
 ·obtain rfl:=Zi h0
  cases neg
  ·go_enter Tryz.func139,Tryz.ntmps139
   go_wp2
   go_ret
   exact⟨rfl,rfl⟩
  ·go_enter Tryz.func139,Tryz.ntmps139
   go_wp2
   go_ret
   exact⟨rfl,rfl⟩
 ·have he:=Zu h0
  have hp:0<mag.size:=by omega
  have hz:((mag[0].toNat:Int) == 0)=(mag[0].toNat == 0):=by
   rw [Bool.eq_iff_iff];simp
  cases h1:((mag[0].toNat:Int) == 0)
  ·rw [hz]at h1
   by_cases h2:mag.size≤16384
   ·have h3:((mag[0].toNat:Int) == 0)=false:=by rw [hz,h1]
    go_enter Tryz.func139,Tryz.ntmps139
    go_wp2
    go_ret
    refine⟨Zv ?_,rfl⟩
    unfold chk may
    rw [if_neg h0,Yl mag hp]
    simp [bne,h1,h2]
   ·have h3:((mag[0].toNat:Int) == 0)=false:=by rw [hz,h1]
    go_enter Tryz.func139,Tryz.ntmps139
    go_wp2
    go_ret
    refine⟨Zv ?_,rfl⟩
    unfold chk may
    rw [if_neg h0,Yl mag hp]
    simp [h2]
  ·have h2:mag[0].toNat=0:=by rw [hz]at h1;simpa using h1
   clear h1 hz
   go_enter Tryz.func139,Tryz.ntmps139
   go_wp2
   go_ret
   refine⟨Zv ?_,rfl⟩
   unfold chk may
   rw [if_neg h0,Yl mag hp]
   simp [h2]
theorem Uq (neg:Bool) (mag:ByteArray) (hm:mag.size≤maxLen) (w:World) :
    Calls Tryz.prog 143 #[whole neg mag] w fun e w'=>e=.returned (.bool (formed neg mag))∧w'=w.alloc (wObj neg mag):=by
 unfold maxLen at hm
 by_cases h0:mag.size=0
 ·obtain rfl:=Zi h0
  go_enter Tryz.func143,Tryz.ntmps143
  go_wp2
  go_ret
  exact⟨rfl,rfl⟩
 ·have he:=Zu h0
  have hp:0<mag.size:=by omega
  have hz:((mag[0].toNat:Int) == 0)=(mag[0].toNat == 0):=by
   rw [Bool.eq_iff_iff];simp
  go_enter Tryz.func143,Tryz.ntmps143
  go_wp2
  go_ret
  refine⟨Zh ?_,rfl⟩
  unfold formed
  rw [if_neg h0,Yl mag hp]
  rw [bne,hz];rfl
theorem may_eq (neg:Bool) (mag:ByteArray):may neg mag=(formed neg mag && decide (mag.size≤16384)):=by
 unfold may formed
 split
 ·rename_i h;simp [h]
 ·rw [Bool.and_comm]
theorem grow1 (w:World) (a:Obj):w.grownBy (w.alloc a) none:=World.grownBy_alloc _ _ _
theorem grow2 (w:World) (a b:Obj):w.grownBy ((w.alloc a).alloc b) none:=Za (grow1 _ _) (grow1 _ _)
theorem grow3 (w:World) (a b c:Obj):w.grownBy (((w.alloc a).alloc b).alloc c) none:=Za (grow2 _ _ _) (grow1 _ _)
theorem grow4 (w:World) (a b c d:Obj):w.grownBy ((((w.alloc a).alloc b).alloc c).alloc d) none:=Za (grow3 _ _ _ _) (grow1 _ _)
theorem Zf {w w':World} {row:Option Nat} (h:w.grownBy w' row):w.grownBy w'.drew row:=ZC h 1
theorem Zx (w:World) (a b:Obj):((w.alloc a).alloc b).heap[w.heap.size]?=some a:=by
 have h:=Below.heap_alloc (w.alloc a) b w.heap.size (by simp)
 rw [h,heap_alloc_new]
theorem J5 (w:World) (a b c:Obj):(((w.alloc a).alloc b).alloc c).heap[w.heap.size+1]?=some b:=by
 have:=Zx (w.alloc a) b c
 simpa using this
theorem VH {neg:Bool} {mag:ByteArray} (h:may neg mag=true):chk neg mag=0:=by simp [chk,h]
theorem chk_no {neg:Bool} {mag:ByteArray} (h:may neg mag=false):chk neg mag=2:=by simp [chk,h]
theorem ZH {neg:Bool} {mag:ByteArray} (h:may neg mag=true):mag.size≤16384:=by
 unfold may at h
 split at h
 ·omega
 ·simp at h;exact h.1
theorem Zn (w:World) (a:Obj) {i:Nat} {o:Obj} (h:w.heap[i]?=some o):(w.alloc a).heap[i]?=some o:=by
 rw [Below.heap_alloc w a i (Array.getElem?_eq_some_iff.1 h).1];exact h
def sgn (neg:Bool) (mag:ByteArray):Int:=if mag.size=0 then 0 else if neg then -1 else 1
theorem Yf {neg:Bool} (h:may neg ByteArray.empty=true):neg=false:=by
 have:may neg ByteArray.empty=!neg:=rfl
 rw [this]at h;simpa using h
theorem sign_no (neg:Bool) (mag:ByteArray) (hm:mag.size≤maxLen) (h:may neg mag=false) (w:World) :
    Calls Tryz.prog 117 #[whole neg mag] w fun e w'=>e=.returned (.int .i64 0)∧w.grownBy w' none:=by
 go_enter Tryz.func117,Tryz.ntmps117
 go_wp2_with (go_at_call 139;refine(Yn neg mag hm _).mono ?_;rw [chk_no h];rintro e w' ⟨rfl,rfl⟩)
 go_ret
 exact⟨rfl,grow2 _ _ _⟩
theorem Zfv (neg:Bool) (mag:ByteArray) (hm:mag.size≤maxLen) (h:may neg mag=true) (w:World) :
    Calls Tryz.prog 117 #[whole neg mag] w fun e w'=>e=.returned (.int .i64 (sgn neg mag))∧w.grownBy w' none:=by
 by_cases h0:mag.size=0
 ·obtain rfl:=Zi h0
  obtain rfl:=Yf h
  go_enter Tryz.func117,Tryz.ntmps117
  go_wp2_with (go_at_call 139;refine(Yn false ByteArray.empty hm _).mono ?_;rw [VH h];rintro e w' ⟨rfl,rfl⟩)
  go_region_held3 (fun w'=>w'.cell? ⟨w.heap.size,0,none⟩=some (Value.bool false)∧w'.cell? ⟨w.heap.size,1,none⟩=some (Value.string ByteArray.empty)) (first|(go_keep;done)|fail) (first|(go_at_call 140;refine(Z0 _).mono ?_;rintro e w' ⟨rfl,rfl⟩)|fail)
  go_wp2
  go_ret
  exact⟨rfl,Zf (grow3 _ _ _ _)⟩
 ·have he:=Zu h0
  have hs:sgn neg mag=if neg then -1 else 1:=by unfold sgn;rw [if_neg h0]
  cases neg
  ·go_enter Tryz.func117,Tryz.ntmps117
   go_wp2_with (go_at_call 139;refine(Yn false mag hm _).mono ?_;rw [VH h];rintro e w' ⟨rfl,rfl⟩)
   go_region_held3 (fun w'=>w'.cell? ⟨w.heap.size,0,none⟩=some (Value.bool false)∧w'.cell? ⟨w.heap.size,1,none⟩=some (Value.string mag)) (first|(go_keep;done)|fail) (first|(go_at_call 140;refine(Z0 _).mono ?_;rintro e w' ⟨rfl,rfl⟩)|fail)
   go_wp2
   go_ret
   exact⟨Zv (by rw [hs];rfl),Zf (grow3 _ _ _ _)⟩
  ·go_enter Tryz.func117,Tryz.ntmps117
   go_wp2_with (go_at_call 139;refine(Yn true mag hm _).mono ?_;rw [VH h];rintro e w' ⟨rfl,rfl⟩)
   go_region_held3 (fun w'=>w'.cell? ⟨w.heap.size,0,none⟩=some (Value.bool true)∧w'.cell? ⟨w.heap.size,1,none⟩=some (Value.string mag)) (first|(go_keep;done)|fail) (first|(go_at_call 140;refine(Z0 _).mono ?_;rintro e w' ⟨rfl,rfl⟩)|fail)
   go_wp2
   go_ret
   exact⟨Zv (by rw [hs];rfl),Zf (grow3 _ _ _ _)⟩
/-! The document's. -/
theorem ZdN (neg:Bool) (mag:ByteArray) (w:World) :
    Calls Tryz.prog 144 #[whole neg mag] w fun e w'=>e=.returned (.int .i64 (sgn neg mag))∧w.grownBy w' none:=by
 by_cases h0:mag.size=0
 ·obtain rfl:=Zi h0
  go_enter Tryz.func144,Tryz.ntmps144
  go_wp2
  go_ret
  exact⟨rfl,grow1 _ _⟩
 ·have he:=Zu h0
  have hs:sgn neg mag=if neg then -1 else 1:=by unfold sgn;rw [if_neg h0]
  cases neg
  ·go_enter Tryz.func144,Tryz.ntmps144
   go_wp2
   go_ret
   exact⟨Zv (by first|rfl|(rw [hs];rfl)),grow1 _ _⟩
  ·go_enter Tryz.func144,Tryz.ntmps144
   go_wp2
   go_ret
   exact⟨Zv (by first|rfl|(rw [hs];rfl)),grow1 _ _⟩
theorem Zd8:∀(l:List Nat) (n:Nat),(∀x∈l,x<256)→l.foldl (fun n b=>n*256+b) n<(n+1)*256 ^ l.length
 |[],n,_=>by simp
 |b::t,n,h=>by
  have h1:=Zd8 t (n*256+b) (fun x hx=>h x (by simp [hx]))
  have h2:=h b (by simp)
  have h3:(n*256+b+1)*256 ^ t.length≤(n+1)*256*256 ^ t.length:=Nat.mul_le_mul_right _ (by omega)
  rw [List.foldl_cons,List.length_cons,Nat.pow_succ]
  refine Nat.lt_of_lt_of_le h1 (Nat.le_trans h3 (Nat.le_of_eq ?_))
  rw [Nat.mul_assoc,Nat.mul_comm 256]
theorem Xx (l:List Nat) (h:∀x∈l,x<256):val l<256 ^ l.length:=by
 have:=Zd8 l 0 h
 simpa [val]using this
theorem Zw {l:List Nat} {k b:Nat} (h:l[k]?=some b):l.take (k+1)=l.take k++[b]:=by
 rw [List.take_add_one,h];rfl
theorem Zfi (s:ByteArray) (k:Nat) (h:k≤s.size):val ((bN s).take k)<256 ^ k:=by
 have:=Xx ((bN s).take k) (fun x hx=>Xg s x (List.mem_of_mem_take hx))
 rw [List.length_take,Ze,Nat.min_eq_left h]at this
 exact this
theorem or8 (x y:Int) (h₀:0≤x) (h₁:x≤72057594037927935) (h2:0≤y) (h3:y<256):bits .or .u64 (x*256) y=x*256+y :=
 bits_join .u64 64 (by decide) wraps_u64 8 (x*256) y (by omega) (by omega) (by omega) h2 (by omega) (by omega)
theorem Zci (mag:ByteArray) (h8:mag.size≤8) (w:World) :
    Calls Tryz.prog 176 #[.string mag] w fun e w'=>e=.returned (.int .u64 (val (bN mag)))∧w'=w:=by
 go_enter Tryz.func176,Tryz.ntmps176
 go_wp2
 go_loopw [3,7] (fun x i wr=>∃k,k≤mag.size∧x=.int .u64 ((val ((bN mag).take k):Nat):Int)∧i=.int .i64 k∧wr=w) (fun _ i _=>mag.size-(RowKit.intOf i).toNat)
 case atStart=>exact⟨0,by omega,rfl,rfl,rfl⟩
 case round =>
  obtain⟨k,hk,rfl,rfl,rfl⟩:=hrel
  by_cases hk1:k<mag.size
  ·have hb:=bN_at mag k hk1
   have hv:=Zfi mag k hk
   have hlt:val ((bN mag).take k)<72057594037927936:=by
    refine Nat.lt_of_lt_of_le hv ?_
    have:256 ^ k≤256 ^ 7:=Nat.pow_le_pow_right (by decide) (by omega)
    simpa using this
   have hs:val ((bN mag).take (k+1))=val ((bN mag).take k)*256+mag[k].toNat:=by rw [Zw hb,Yi]
   have HS:Hid (val ((bN mag).take (k+1))=val ((bN mag).take k)*256+mag[k].toNat):=hs
   have hy:=(mag[k]).toNat_lt
   have hor:=or8 (val ((bN mag).take k):Nat) (mag[k].toNat:Nat) (by omega) (by omega) (by omega) (by omega)
   clear hs hb hv
   generalize val ((bN mag).take k)=X at *
   go_wp2
   go_roundw
   case rel=>exact⟨k+1,by omega,Zl (by rw [HS.out];omega),rfl,trivial⟩
   case measure=>simp [RowKit.intOf];omega
  ·have hk0:k=mag.size:=by omega
   subst hk0
   have ht:(bN mag).take mag.size=bN mag:=by rw [List.take_of_length_le (by rw [Ze];exact Nat.le_refl _)]
   rw [ht]
   go_wp2
   go_ret
   exact⟨rfl,rfl⟩
def BlkL (w:World) (B:Nat) (t:TypeId) (enc:Int→Value) (L:List Int):Prop:=w.heap[B]?=some (.cells (L.map enc).toArray t (0,0))
theorem BlkL.lt {w:World} {B:Nat} {t:TypeId} {enc:Int→Value} {L:List Int} (h:BlkL w B t enc L):B<w.heap.size:=(Array.getElem?_eq_some_iff.1 h).1
theorem BlkL.cell {w:World} {B:Nat} {t:TypeId} {enc:Int→Value} {L:List Int} (h:BlkL w B t enc L) (i:Nat) (hi:i<L.length):w.cell? ⟨B,i,none⟩=some (enc (L[i]?.getD 0)):=by
 unfold BlkL at h
 simp [World.cell?,h,hi]
theorem BlkL.frozen {w:World} {B:Nat} {t:TypeId} {enc:Int→Value} {L:List Int} (h:BlkL w B t enc L) (i:Nat):w.frozen? ⟨B,i,none⟩=false:=by
 unfold BlkL at h
 simp [World.frozen?,h]
theorem BlkL.set {w:World} {B:Nat} {t:TypeId} {enc:Int→Value} {L:List Int} (h:BlkL w B t enc L) (i:Nat) (x:Int):BlkL (w.setCell ⟨B,i,none⟩ (enc x)) B t enc (L.set i x):=by
 unfold BlkL at *
 simp [World.setCell,Array.getElem?_modify,h]
theorem BlkL.kept {w w':World} {row:Option Nat} {B:Nat} {t:TypeId} {enc:Int→Value} {L:List Int} (h:BlkL w B t enc L) (hg:w.grownBy w' row) (hn:row≠some B):BlkL w' B t enc L :=
 (hg.block B h.lt (fun e=>hn e.symm)).trans h
theorem Zb {w w':World} {B i:Nat} {v:Value} (h:w.grownBy w' none) (hB:w.heap.size≤B):w.grownBy (w'.setCell ⟨B,i,none⟩ v) none :=
 Zq h hB (Zc _ _ _ _)
def ints (l:List Nat):List Int:=l.map (fun b:Nat=>(b:Int))
theorem Zk (l:List Nat):(ints l).length=l.length:=by simp [ints]
def magN (n:Nat):List Nat:=if n=0 then []else magN (n / 256)++[n % 256]
termination_by n
decreasing_by omega
theorem ZL:magN 0=[]:=by rw [magN];rfl
theorem Yr {n:Nat} (h:0<n):magN n=magN (n / 256)++[n % 256]:=by rw [magN,if_neg (by omega)]
def Src (w:World) (s:Value) (L:List Int):Prop :=
 (s=.slice none 0 0∧L=[])∨∃b off c,s=.slice (some ⟨b,off,none⟩) L.length c∧∀j u,(L.map encB)[j]?=some u→w.cell? ⟨b,off+j,none⟩=some u
def strOf (L:List Int):ByteArray:=L.foldl (fun r n=>r.push (UInt8.ofNat n.toNat)) ByteArray.empty
theorem YM {w:World} {s:Value} {L:List Int} (h:Src w s L):(convert 91 9 s).run Tryz.prog w=.ok (.string (strOf L)) w:=by
 rcases h with ⟨rfl,rfl⟩|⟨b,off,c,rfl,hc⟩
 ·rw [run_convert_bytes_string w 91 9 5 none 0 0 Tryz.underlying91 Tryz.underlying5 Tryz.underlying9]
  simp [Conv.bytesToString,Sem.run_pure,strOf]
 ·rw [run_convert_bytes_string w 91 9 5 _ _ _ Tryz.underlying91 Tryz.underlying5 Tryz.underlying9]
  have h1:=run_loadCells_list (P:=Tryz.prog) w ⟨b,off,none⟩ (L.map encB) (fun j v hv=>by rw [Addr.add_lit];exact hc j v hv)
  rw [List.length_map]at h1
  rw [run_bytesToString w ⟨b,off,none⟩ L.length c L h1]
  rfl
theorem Un:∀(l:List Nat) (r:ByteArray),(∀x∈l,x<256)→bN ((ints l).foldl (fun r n=>r.push (UInt8.ofNat n.toNat)) r)=bN r++l
 |[],r,_=>by simp [ints]
 |b::t,r,h=>by
  have e:ints (b::t)=(b:Int)::ints t:=rfl
  rw [e,List.foldl_cons,Un t _ (fun x hx=>h x (by simp [hx]))]
  have hb:b<256:=h b (by simp)
  have h1:bN (r.push (UInt8.ofNat (b:Int).toNat))=bN r++[b]:=by
   have h2:(UInt8.ofNat b).toNat=b:=by simp [UInt8.toNat_ofNat'];omega
   simp [bN,ByteArray.push,h2]
  rw [h1];simp
theorem Yk (l:List Nat) (h:∀x∈l,x<256):bN (strOf (ints l))=l:=by
 unfold strOf
 rw [Un l _ h]
 rfl
theorem Zby (q:Nat) (x:Int) (l:List Int):(List.replicate (q+1) 0++l).set q x=List.replicate q 0++x::l:=by
 rw [List.replicate_succ',List.append_assoc,List.set_append_right _ _ (by simp)]
 simp
theorem Zbn (n:Nat):∀x∈magN n,x<256:=by
 induction n using Nat.strongRecOn with
 |ind n ih =>
  intro x hx
  by_cases h:n=0
  ·subst h;rw [ZL]at hx;simp at hx
  ·rw [Yr (by omega)]at hx
   rcases List.mem_append.1 hx with hx|hx
   ·exact ih (n / 256) (by omega) x hx
   ·simp at hx;omega
theorem YJ (n:Nat) (hn:n<18446744073709551616) (w:World) :
    Calls Tryz.prog 163 #[.int .u64 n] w fun e w'=>∃s,e=.returned (.string s)∧bN s=magN n∧w.grownBy w' none:=by
 go_enter Tryz.func163,Tryz.ntmps163
 go_wp2
 go_loopw [0,4] (fun x i wr=>∃(m j:Nat) (L:List Nat),m<256 ^ (8-j)∧j≤8∧L.length=j∧magN n=magN m++L∧x=.int .u64 m∧i=.int .i64 (8-j:Nat) ∧
     BlkL wr w.heap.size 210 encB (List.replicate (8-j) 0++ints L)∧w.grownBy wr none) (fun x _ _=>(RowKit.intOf x).toNat)
 case atStart=>exact⟨n,0,[],by simpa using hn,by omega,rfl,by simp,rfl,rfl,heap_alloc_new _ _,grow1 _ _⟩
 case round =>
  obtain⟨m,j,L,hm,hj,hL,heq,rfl,rfl,hB,hg⟩:=hrel
  have HEQ:Hid (magN n=magN m++L):=heq
  have HB:Hid (BlkL wr w.heap.size 210 encB (List.replicate (8-j) 0++ints L)):=hB
  by_cases h0:0<m
  ·have hj8:j<8:=by
     rcases Nat.lt_or_ge j 8 with h|h
     ·exact h
     ·have:8-j=0:=by omega
      rw [this]at hm;simp at hm;omega
   have hc:=hB.cell (8-j-1) (by simp;omega)
   have hf:=hB.frozen (8-j-1)
   clear heq hB
   go_wp2
   go_roundw
   case rel =>
    obtain⟨q,hq⟩:∃q,8-j=q+1:=⟨8-j-1,by omega⟩
    refine⟨m / 256,j+1,m % 256::L,?_,by omega,by simp [hL],?_,Zl (by omega),Zl (by omega),?_,Zb hg (Nat.le_refl _)⟩
    ·have:8-(j+1)=q:=by omega
     rw [this];rw [hq,Nat.pow_succ]at hm;omega
    ·rw [HEQ.out,Yr h0];simp
    ·have e:=HB.out.set (8-j-1) ((m:Int) % 256)
     have:8-(j+1)=q:=by omega
     rw [this]
     rw [hq]at e
     rw [show q+1-1=q by omega,Zby]at e
     rw [hq,show q+1-1=q by omega]
     exact e
   case measure=>simp [RowKit.intOf];omega
  ·have hm0:m=0:=by omega
   subst hm0
   have hmag:magN n=L:=by rw [heq,ZL];rfl
   by_cases hj0:j=0
   ·subst hj0
    obtain rfl:L=[]:=by simpa using hL
    have hcv:=YM (w:=wr) (s:=.slice (some ⟨w.heap.size,0,none⟩) 0 0) (L:=[]) (.inr ⟨_,_,_,rfl,fun j u hj=>by simp at hj⟩)
    clear heq hB
    go_wp2
    go_ret
    exact⟨_,rfl,by rw [hmag];rfl,hg⟩
   ·have hcv:=YM (w:=wr) (s:=.slice (some ⟨w.heap.size,8-j,none⟩) j j) (L:=ints L) (.inr ⟨_,_,_,by rw [Zk,hL],fun i u hi=>by
      have hi2:=(List.getElem?_eq_some_iff.1 hi).1
      simp [Zk]at hi2
      have:=HB.out.cell (8-j+i) (by simp [Zk];omega)
      rw [this,←hi]
      rw [List.getElem?_append_right (by simp)]
      simp [hi2,Zk]⟩)
    clear heq hB
    have hrng:=Zbn n
    rw [hmag]at hrng
    have HM:Hid (magN n=L):=hmag
    clear hmag HB HEQ
    obtain⟨q,hq⟩:∃q,8-j=q:=⟨_,rfl⟩
    have hq8:q<8:=by omega
    have hjq:j=8-q:=by omega
    rw [hq]at hcv ⊢
    rw [hjq]at hcv
    clear hq hj0 hm h0
    have hqs:q=0∨q=1∨q=2∨q=3∨q=4∨q=5∨q=6∨q=7:=by omega
    rcases hqs with rfl|rfl|rfl|rfl|rfl|rfl|rfl|rfl
    all_goals go_wp2
    all_goals go_ret
    all_goals exact⟨_,rfl,by rw [HM.out];exact Yk L hrng,hg⟩
def nv (B:Nat):List Nat→Nat
 |[]=>0
 |d::t=>d+B*nv B t
theorem ZE (B:Nat):∀(a b:List Nat),nv B (a++b)=nv B a+B ^ a.length*nv B b
 |[],b=>by simp [nv]
 |d::t,b=>by
  simp only [List.cons_append,nv,ZE B t b,List.length_cons,Nat.pow_succ,Nat.mul_add]
  rw [Nat.add_assoc,←Nat.mul_assoc,Nat.mul_comm (B ^ t.length) B]
theorem nv_lt (B:Nat):∀(l:List Nat),(∀x∈l,x<B)→nv B l<B ^ l.length
 |[],_=>by simp [nv]
 |d::t,h=>by
  have h1:=nv_lt B t (fun x hx=>h x (by simp [hx]))
  have h2:=h d (by simp)
  have h3:B*(nv B t+1)≤B*B ^ t.length:=Nat.mul_le_mul_left _ h1
  simp only [nv,List.length_cons,Nat.pow_succ,Nat.mul_comm _ B]
  rw [Nat.mul_add]at h3
  omega
theorem YN (B:Nat):∀(l:List Nat) (k:Nat),(∀x∈l,x<B)→nv B l / B ^ k % B=l[k]?.getD 0
 |[],k,_=>by simp [nv]
 |d::t,0,h=>by
  have h2:=h d (by simp)
  simp [nv,Nat.mod_eq_of_lt h2]
 |d::t,k+1,h=>by
  have h2:=h d (by simp)
  have h1:=YN B t k (fun x hx=>h x (by simp [hx]))
  rw [Nat.pow_succ,Nat.mul_comm,←Nat.div_div_eq_div_mul]
  have e:nv B (d::t) / B=nv B t:=by
   simp only [nv]
   rw [Nat.add_mul_div_left _ _ (by omega),Nat.div_eq_of_lt h2,Nat.zero_add]
  rw [e,h1];simp
theorem JL (l:List Nat):val l=nv 256 l.reverse:=by
 have h:∀(r:List Nat),val r.reverse=nv 256 r:=by
  intro r
  induction r with
  |nil=>rfl
  |cons b t ih=>rw [List.reverse_cons,Yi,ih,nv];omega
 have:=h l.reverse
 rwa [List.reverse_reverse]at this
def bl (n:Nat):Nat:=if n=0 then 0 else n.log2+1
theorem X5 {n k:Nat}:bl n=k+1 ↔ 2 ^ k≤n∧n<2 ^ (k+1):=by
 unfold bl
 by_cases h:n=0
 ·subst h
  have:0<2 ^ k:=Nat.two_pow_pos k
  simp
 ·rw [if_neg h,←Nat.log2_eq_iff h];omega
theorem YS {n:Nat} (h:0<n):∃k,bl n=k+1:=⟨n.log2,by unfold bl;rw [if_neg (by omega)]⟩
theorem bl_up (b s r:Nat) (hb:0<b) (hr:r<2 ^ s):bl (b*2 ^ s+r)=s+bl b:=by
 obtain⟨k,hk⟩:=YS hb
 have h:=X5.1 hk
 rw [hk,←Nat.add_assoc,X5]
 constructor
 ·have:=Nat.mul_le_mul_right (2 ^ s) h.1
  rw [←Nat.pow_add,Nat.add_comm k s]at this
  omega
 ·have h2:=Nat.mul_le_mul_right (2 ^ s) (show b+1≤2 ^ (k+1)from h.2)
  rw [←Nat.pow_add,Nat.add_mul]at h2
  rw [show s+k+1=k+1+s by omega]
  omega
def WBlk (w:World) (B:Nat) (a b:Value):Prop:=w.heap[B]?=some (.cells #[a,b] 38 (0,0))
theorem WBlk.lt {w:World} {B:Nat} {a b:Value} (h:WBlk w B a b):B<w.heap.size:=(Array.getElem?_eq_some_iff.1 h).1
theorem WBlk.c0 {w:World} {B:Nat} {a b:Value} (h:WBlk w B a b):w.cell? ⟨B,0,none⟩=some a:=by
 unfold WBlk at h;simp [World.cell?,h]
theorem WBlk.c1 {w:World} {B:Nat} {a b:Value} (h:WBlk w B a b):w.cell? ⟨B,1,none⟩=some b:=by
 unfold WBlk at h;simp [World.cell?,h]
theorem WBlk.fr {w:World} {B:Nat} {a b:Value} (h:WBlk w B a b) (i:Nat):w.frozen? ⟨B,i,none⟩=false:=by
 unfold WBlk at h;simp [World.frozen?,h]
theorem WBlk.put {w:World} {B:Nat} {a b:Value} (h:WBlk w B a b) (x y:Value):WBlk ((w.setCell ⟨B,0,none⟩ x).setCell ⟨B,1,none⟩ y) B x y:=by
 unfold WBlk at *
 simp [World.setCell,Array.getElem?_modify,h]
theorem WBlk.kept {w w':World} {row:Option Nat} {B:Nat} {a b:Value} (h:WBlk w B a b) (hg:w.grownBy w' row) (hn:row≠some B):WBlk w' B a b :=
 (hg.block B h.lt (fun e=>hn e.symm)).trans h
theorem of_any (n:Int) (h0:-9223372036854775808≤n) (h1:n≤9223372036854775807) (w:World) :
    Calls Tryz.prog 142 #[.int .i64 n] w fun e w'=>∃s,e=.returned (whole (decide (n<0)) s)∧bN s=magN n.natAbs∧w.grownBy w' none:=by
 by_cases hn:n<0
 ·obtain⟨a,rfl⟩:∃a:Nat,n=-(a:Int):=⟨n.natAbs,by omega⟩
  go_enter Tryz.func142,Tryz.ntmps142
  have hw:IntKind.u64.wrap (-IntKind.u64.wrap (-(a:Int)))=a:=by rw [IntKind.wrap_u64,IntKind.wrap_u64];omega
  go_wp2_with fail
  refine(YJ a (by omega) _).mono ?_
  rintro e w1 ⟨s,rfl,hs,hg⟩
  have hb:WBlk w1 w.heap.size (.bool false) (.string eS):=WBlk.kept (w:=w.alloc (wObj false eS)) (heap_alloc_new _ _) hg (by simp)
  have hc0:=hb.c0
  have hc1:=hb.c1
  have hf0:=hb.fr 0
  have hf1:=hb.fr 1
  have HG:Hid ((w.alloc (wObj false eS)).grownBy w1 none):=hg
  clear hg
  go_wp2_with fail
  refine bodyPost_ret (ZV rfl _ _ w.heap.size _ _ _ _ rfl (hb.put _ _)) rfl ?_
  refine⟨s,XY ?_,by rw [hs];congr 1;omega,Zb (Zb (Za (grow1 _ _) HG.out) (Nat.le_refl _)) (Nat.le_refl _)⟩
  rw [decide_eq_true hn]
 ·obtain⟨a,rfl⟩:=Int.eq_ofNat_of_zero_le (show 0≤n by omega)
  go_enter Tryz.func142,Tryz.ntmps142
  go_wp2_with fail
  refine(YJ a (by omega) _).mono ?_
  rintro e w1 ⟨s,rfl,hs,hg⟩
  have hb:WBlk w1 w.heap.size (.bool false) (.string eS):=WBlk.kept (w:=w.alloc (wObj false eS)) (heap_alloc_new _ _) hg (by simp)
  have hc0:=hb.c0
  have hc1:=hb.c1
  have hf0:=hb.fr 0
  have hf1:=hb.fr 1
  have HG:Hid ((w.alloc (wObj false eS)).grownBy w1 none):=hg
  clear hg
  go_wp2_with fail
  refine bodyPost_ret (ZV rfl _ _ w.heap.size _ _ _ _ rfl (hb.put _ _)) rfl ?_
  refine⟨s,XY ?_,by rw [hs];rfl,Zb (Zb (Za (grow1 _ _) HG.out) (Nat.le_refl _)) (Nat.le_refl _)⟩
  rw [decide_eq_false (by omega)]
def num (neg:Bool) (mag:ByteArray):Int:=if neg then -(val (bN mag):Int)else val (bN mag)
theorem Zbx {mag:ByteArray} (h:mag.size≤8):val (bN mag)<18446744073709551616:=by
 have h1:=Xx (bN mag) (Xg mag)
 rw [Ze]at h1
 have:256 ^ mag.size≤256 ^ 8:=Nat.pow_le_pow_right (by decide) h
 have e:256 ^ 8=18446744073709551616:=by decide
 omega
theorem bl_val (mag:ByteArray) (hp:0<mag.size) (h0:mag[0].toNat≠0):bl (val (bN mag))=8*(mag.size-1)+bl mag[0].toNat:=by
 have e:bN mag=mag[0].toNat::(bN mag).tail:=by
  have h1:=Yl mag hp
  cases hb:bN mag with
  |nil=>have:=Ze mag;rw [hb]at this;simp at this;omega
  |cons a t=>rw [hb]at h1;simp at h1;rw [h1];rfl
 have hl:(bN mag).tail.length=mag.size-1:=by rw [List.length_tail,Ze]
 have hr:=Xx (bN mag).tail (fun x hx=>Xg mag x (List.mem_of_mem_tail hx))
 rw [hl,show(256:Nat)=2 ^ 8 from rfl,←Nat.pow_mul]at hr
 have hv:val (bN mag)=mag[0].toNat*2 ^ (8*(mag.size-1))+val (bN mag).tail:=by
  conv=>lhs;rw [e]
  rw [JL,JL,List.reverse_cons,ZE,List.length_reverse,hl,Nat.pow_mul]
  simp [nv]
  rw [Nat.add_comm,Nat.mul_comm]
 rw [hv,bl_up _ _ _ (by omega) hr]
end Go.Proofs.YtdcadiaeaclpgaaGreatDoor
