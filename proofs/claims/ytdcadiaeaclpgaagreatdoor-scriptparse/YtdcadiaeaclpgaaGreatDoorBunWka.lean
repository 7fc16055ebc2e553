/- Div of -7 by 2, Gcd of 12 and -18, as the laws ask them. -/
import Derived.Test.YtdcadiaeaclpgaaGreatDoorBunAll
import Derived.Shelf.Strings.Builder1
import Derived.Shelf.Strconv.Itoa1
import Derived.Shelf.Strconv.Itoa2
import Derived.Shelf.LaysM
import Derived.Test.YtdcadiaeaclpgaaGreatDoorProg
import Derived.Lib.ItoaMem
import Derived.Test.YtdcadiaeaclpgaaGreatDoorBunPrd
import Derived.Laws.DeepStrings4
import Derived.Lib.ItoaLen
import Derived.Test.YtdcadiaeaclpgaaGreatDoorBunRed
import Derived.Lib.SmallJoins
namespace Go.Proofs.YtdcadiaeaclpgaaGreatDoor
open Go.RowKit Go.Lib Go.Sort
set_option maxHeartbeats 3200000
set_option maxRecDepth 1000000
theorem Um (n:Nat) (h0:0<n) (h:n<256):magN n=[n]:=by
 rw [Yr h0,Nat.div_eq_of_lt h,ZL,Nat.mod_eq_of_lt h];rfl
end Go.Proofs.YtdcadiaeaclpgaaGreatDoor
namespace Go.Proofs
open Go.Shelf
set_option maxHeartbeats 3200000
set_option maxRecDepth 1000000
def Tryz.lays166_ren:Go.Shelf.Ren:=⟨fun|166=>50|240=>76|276=>101|n=>n,fun|0=>0|3=>3|4=>4|5=>5|9=>9|20=>20|37=>91|70=>90|72=>93|75=>95|80=>98|164=>140|n=>n,fun|n=>n⟩
theorem Tryz.lays166:Go.Proofs.Lays.n166 Tryz.prog Tryz.lays166_ren:={
 mixed:=by kernel_rfl
 f166:=Tryz.func50.trans (congrArg some (by kernel_rfl))
 f240:=Tryz.func76.trans (congrArg some (by kernel_rfl))
 f276:=Tryz.func101.trans (congrArg some (by kernel_rfl))
 t0:=Tryz.underlying0
 a0:=Tryz.isAgg0
 z0:=Tryz.sizeOf0
 v0:=Tryz.zeroValue0
 t3:=Tryz.underlying3
 a3:=Tryz.isAgg3
 z3:=Tryz.sizeOf3
 v3:=Tryz.zeroValue3
 t4:=Tryz.underlying4
 a4:=Tryz.isAgg4
 z4:=Tryz.sizeOf4
 v4:=Tryz.zeroValue4
 t9:=Tryz.underlying9
 a9:=Tryz.isAgg9
 z9:=Tryz.sizeOf9
 v9:=Tryz.zeroValue9
 t20:=Tryz.underlying20
 a20:=Tryz.isAgg20
 z20:=Tryz.sizeOf20
 v20:=Tryz.zeroValue20
 t37:=Tryz.underlying91
 a37:=Tryz.isAgg91
 z37:=Tryz.sizeOf91
 v37:=Tryz.zeroValue91
 t70:=Tryz.underlying90
 a70:=Tryz.isAgg90
 z70:=Tryz.sizeOf90
 v70:=Tryz.zeroValue90
 t72:=Tryz.underlying93
 a72:=Tryz.isAgg93
 z72:=Tryz.sizeOf93
 v72:=Tryz.zeroValue93
 t75:=Tryz.underlying95
 a75:=Tryz.isAgg95
 z75:=Tryz.sizeOf95
 v75:=Tryz.zeroValue95
 t164:=Tryz.underlying140
 a164:=Tryz.isAgg140
 z164:=Tryz.sizeOf140
 v164:=Tryz.zeroValue140 }
theorem Tryz.Builder_Extra_166:Builder.Extra Tryz.prog Tryz.lays166_ren:={
 sizeBuilder:=by kernel_rfl
 liesBuilder:=by kernel_rfl
 t5:=Tryz.underlying5
 a5:=Tryz.isAgg5
 z5:=Tryz.sizeOf5
 v5:=Tryz.zeroValue5
 infoByte:=by kernel_rfl
 cellsByte:=by kernel_rfl
 sizeByte:=by kernel_rfl
 neB5:=by decide }
open Go.RowKit in
theorem Tryz.Builder_WriteString (B b:Nat) (bs:List Value) (s:ByteArray) (w:World) (h:Lib.IsBuilder 93 5 B b bs w) (hlen:bs.length+s.size≤140737488355328) (hBw:B≤w.heap.size) :
    Calls Tryz.prog 50 #[.pointer (some ⟨b,0,none⟩),.string s] w fun e w'=>e=.returned (.tuple #[.int .i64 s.size,.nilIface])∧(Lib.BuilderAt 93 5 B b (.pointer (some ⟨b,0,none⟩)) (bs++Lib.strCells s) w'∧Below B w w'):=Any.Builder_WriteString Tryz.lays166 Tryz.Builder_Extra_166 B b bs s w h hlen hBw
def Tryz.lays167_ren:Go.Shelf.Ren:=⟨fun|167=>156|240=>76|276=>101|n=>n,fun|0=>0|4=>4|5=>5|9=>9|20=>20|37=>91|70=>90|72=>93|75=>95|80=>98|164=>140|n=>n,fun|n=>n⟩
theorem Tryz.lays167:Go.Proofs.Lays.n167 Tryz.prog Tryz.lays167_ren:={
 mixed:=by kernel_rfl
 f167:=Tryz.func156.trans (congrArg some (by kernel_rfl))
 f240:=Tryz.func76.trans (congrArg some (by kernel_rfl))
 f276:=Tryz.func101.trans (congrArg some (by kernel_rfl))
 t0:=Tryz.underlying0
 a0:=Tryz.isAgg0
 z0:=Tryz.sizeOf0
 v0:=Tryz.zeroValue0
 t4:=Tryz.underlying4
 a4:=Tryz.isAgg4
 z4:=Tryz.sizeOf4
 v4:=Tryz.zeroValue4
 t5:=Tryz.underlying5
 a5:=Tryz.isAgg5
 z5:=Tryz.sizeOf5
 v5:=Tryz.zeroValue5
 t9:=Tryz.underlying9
 a9:=Tryz.isAgg9
 z9:=Tryz.sizeOf9
 v9:=Tryz.zeroValue9
 t20:=Tryz.underlying20
 a20:=Tryz.isAgg20
 z20:=Tryz.sizeOf20
 v20:=Tryz.zeroValue20
 t37:=Tryz.underlying91
 a37:=Tryz.isAgg91
 z37:=Tryz.sizeOf91
 v37:=Tryz.zeroValue91
 t70:=Tryz.underlying90
 a70:=Tryz.isAgg90
 z70:=Tryz.sizeOf90
 v70:=Tryz.zeroValue90
 t72:=Tryz.underlying93
 a72:=Tryz.isAgg93
 z72:=Tryz.sizeOf93
 v72:=Tryz.zeroValue93
 t75:=Tryz.underlying95
 a75:=Tryz.isAgg95
 z75:=Tryz.sizeOf95
 v75:=Tryz.zeroValue95
 t164:=Tryz.underlying140
 a164:=Tryz.isAgg140
 z164:=Tryz.sizeOf140
 v164:=Tryz.zeroValue140 }
theorem Tryz.Builder_Extra_167:Builder.Extra Tryz.prog Tryz.lays167_ren:={
 sizeBuilder:=by kernel_rfl
 liesBuilder:=by kernel_rfl
 t5:=Tryz.underlying5
 a5:=Tryz.isAgg5
 z5:=Tryz.sizeOf5
 v5:=Tryz.zeroValue5
 infoByte:=by kernel_rfl
 cellsByte:=by kernel_rfl
 sizeByte:=by kernel_rfl
 neB5:=by decide }
open Go.RowKit in
theorem Tryz.Builder_WriteByte (B b:Nat) (bs:List Value) (c:Int) (w:World) (h:Lib.IsBuilder 93 5 B b bs w) (hlen:bs.length+1≤140737488355328) (hBw:B≤w.heap.size) :
    Calls Tryz.prog 156 #[.pointer (some ⟨b,0,none⟩),.int .u8 c] w fun e w'=>e=.returned .nilIface∧(Lib.BuilderAt 93 5 B b (.pointer (some ⟨b,0,none⟩)) (bs++[.int .u8 c]) w'∧Below B w w'):=Any.Builder_WriteByte Tryz.lays167 Tryz.Builder_Extra_167 B b bs c w h hlen hBw
def Tryz.lays169_ren:Go.Shelf.Ren:=⟨fun|169=>51|n=>n,fun|70=>90|9=>9|0=>0|72=>93|37=>91|127=>126|3=>3|5=>5|n=>n,fun|n=>n⟩
theorem Tryz.lays169:Go.Proofs.Lays.n169 Tryz.prog Tryz.lays169_ren:={
 mixed:=by kernel_rfl
 f169:=Tryz.func51.trans (congrArg some (by kernel_rfl))
 t0:=Tryz.underlying0
 a0:=Tryz.isAgg0
 z0:=Tryz.sizeOf0
 v0:=Tryz.zeroValue0
 t3:=Tryz.underlying3
 a3:=Tryz.isAgg3
 z3:=Tryz.sizeOf3
 v3:=Tryz.zeroValue3
 t9:=Tryz.underlying9
 a9:=Tryz.isAgg9
 z9:=Tryz.sizeOf9
 v9:=Tryz.zeroValue9
 t37:=Tryz.underlying91
 a37:=Tryz.isAgg91
 z37:=Tryz.sizeOf91
 v37:=Tryz.zeroValue91
 t70:=Tryz.underlying90
 a70:=Tryz.isAgg90
 z70:=Tryz.sizeOf90
 v70:=Tryz.zeroValue90
 t72:=Tryz.underlying93
 a72:=Tryz.isAgg93
 z72:=Tryz.sizeOf93
 v72:=Tryz.zeroValue93
 t127:=Tryz.underlying126
 a127:=Tryz.isAgg126
 z127:=Tryz.sizeOf126
 v127:=Tryz.zeroValue126 }
theorem Tryz.Builder_Extra_169:Builder.Extra Tryz.prog Tryz.lays169_ren:={
 sizeBuilder:=by kernel_rfl
 liesBuilder:=by kernel_rfl
 t5:=Tryz.underlying5
 a5:=Tryz.isAgg5
 z5:=Tryz.sizeOf5
 v5:=Tryz.zeroValue5
 infoByte:=by kernel_rfl
 cellsByte:=by kernel_rfl
 sizeByte:=by kernel_rfl
 neB5:=by decide }
open Go.RowKit in
theorem Tryz.Builder_String (B b:Nat) (l:List UInt8) (w:World) (h:Lib.IsBuilder 93 5 B b (Lib.byteCells l) w) (h0:l≠[]) :
    Calls Tryz.prog 51 #[.pointer (some ⟨b,0,none⟩)] w fun e w'=>e=.returned (.string ⟨l.toArray⟩)∧Below B w w':=Any.Builder_String Tryz.lays169 Tryz.Builder_Extra_169 B b l w h h0
def Tryz.laysM284_ren:Go.Shelf.Ren:=⟨fun|284=>114|129=>135|317=>134|318=>136|n=>n,fun|53=>143|3=>3|212=>168|0=>0|4=>4|46=>170|5=>5|9=>9|n=>n,fun|17=>1|n=>n⟩
theorem Tryz.laysM284:Go.Proofs.LaysM.n284 Tryz.prog Tryz.laysM284_ren:={
 mixed:=by kernel_rfl
 f129:=Tryz.func135.trans (congrArg some (by kernel_rfl))
 f284:=Tryz.func114.trans (congrArg some (by kernel_rfl))
 f317:=Tryz.func134.trans (congrArg some (by kernel_rfl))
 f318:=Tryz.func136.trans (congrArg some (by kernel_rfl))
 t0:=Tryz.underlying0
 a0:=Tryz.isAgg0
 z0:=Tryz.sizeOf0
 v0:=Tryz.zeroValue0
 t3:=Tryz.underlying3
 a3:=Tryz.isAgg3
 z3:=Tryz.sizeOf3
 v3:=Tryz.zeroValue3
 t4:=Tryz.underlying4
 a4:=Tryz.isAgg4
 z4:=Tryz.sizeOf4
 v4:=Tryz.zeroValue4
 t5:=Tryz.underlying5
 a5:=Tryz.isAgg5
 z5:=Tryz.sizeOf5
 v5:=Tryz.zeroValue5
 t9:=Tryz.underlying9
 a9:=Tryz.isAgg9
 z9:=Tryz.sizeOf9
 v9:=Tryz.zeroValue9
 t46:=Tryz.underlying170
 a46:=Tryz.isAgg170
 z46:=Tryz.sizeOf170
 v46:=Tryz.zeroValue170
 t53:=Tryz.underlying143
 a53:=Tryz.isAgg143
 z53:=Tryz.sizeOf143
 v53:=Tryz.zeroValue143
 t212:=Tryz.underlying168
 a212:=Tryz.isAgg168
 z212:=Tryz.sizeOf168
 v212:=Tryz.zeroValue168
 g17:=by kernel_rfl
 i0:=by kernel_rfl
 i3:=by kernel_rfl
 i4:=by kernel_rfl
 i5:=by kernel_rfl
 i9:=by kernel_rfl
 i46:=by kernel_rfl
 i53:=by kernel_rfl
 i212:=by kernel_rfl
 m17:=by kernel_rfl }
open Go.Lib in
theorem Tryz.internal_strconv_numDigits (u : Nat) (h1 : 1 ≤ u) (h2 : u < 18446744073709551616) (w : World) (htab : Lib.TabIs Tryz.prog w "internal/strconv.uint64pow10" .u64 Lib.pow10Tab) :
    Calls Tryz.prog 114 #[.int .u64 u] w fun e w'=>e=.returned (.int .i64 (Lib.nDigits u))∧w'=w:=Any.internal_strconv_numDigits Tryz.laysM284 u h1 h2 w htab
def Tryz.lays285_ren:Go.Shelf.Ren:=⟨fun|285=>115|n=>n,fun|37=>91|53=>143|3=>3|4=>4|51=>145|9=>9|5=>5|0=>0|n=>n,fun|n=>n⟩
theorem Tryz.lays285:Go.Proofs.Lays.n285 Tryz.prog Tryz.lays285_ren:={
 mixed:=by kernel_rfl
 f285:=Tryz.func115.trans (congrArg some (by kernel_rfl))
 t0:=Tryz.underlying0
 a0:=Tryz.isAgg0
 z0:=Tryz.sizeOf0
 v0:=Tryz.zeroValue0
 t3:=Tryz.underlying3
 a3:=Tryz.isAgg3
 z3:=Tryz.sizeOf3
 v3:=Tryz.zeroValue3
 t4:=Tryz.underlying4
 a4:=Tryz.isAgg4
 z4:=Tryz.sizeOf4
 v4:=Tryz.zeroValue4
 t5:=Tryz.underlying5
 a5:=Tryz.isAgg5
 z5:=Tryz.sizeOf5
 v5:=Tryz.zeroValue5
 t9:=Tryz.underlying9
 a9:=Tryz.isAgg9
 z9:=Tryz.sizeOf9
 v9:=Tryz.zeroValue9
 t37:=Tryz.underlying91
 a37:=Tryz.isAgg91
 z37:=Tryz.sizeOf91
 v37:=Tryz.zeroValue91
 t51:=Tryz.underlying145
 a51:=Tryz.isAgg145
 z51:=Tryz.sizeOf145
 v51:=Tryz.zeroValue145
 t53:=Tryz.underlying143
 a53:=Tryz.isAgg143
 z53:=Tryz.sizeOf143
 v53:=Tryz.zeroValue143 }
open Go.RowKit Go.Sort Go.Lib in
theorem Tryz.internal_strconv_formatBase10 (blk off cap:Nat) (u:Nat) (d:Array UInt8) (w:World) (hH:Holds (fun(b:UInt8)=>Value.int .u8 (b.toNat:Int)) w blk off d) (hu:u<10 ^ d.size) (hu64:u<18446744073709551616) (hsz:d.size<4611686018427387904) :
    Calls Tryz.prog 115 #[.slice (some ⟨blk,off,none⟩) d.size cap,.int .u64 u] w fun e w' =>
     e=.returned (.tuple #[])∧∃(n v':Nat) (dk:Array UInt8),w'=(putRow (fun(b:UInt8)=>Value.int .u8 (b.toNat:Int)) w blk off dk).drewN n∧FmtInv d.size u 0 v' dk:=Any.internal_strconv_formatBase10 Tryz.lays285 blk off cap u d w hH hu hu64 hsz
end Go.Proofs
namespace Go.Proofs.YtdcadiaeaclpgaaGreatDoor
open Go.RowKit Go.Lib Go.Sort
set_option maxHeartbeats 3200000
set_option maxRecDepth 1000000
abbrev encU:UInt8→Value:=fun b=>Value.int .u8 (b.toNat:Int)
theorem Jp (w:World) (blk off:Nat) (d:Array UInt8):w.grownBy (putRow encU w blk off d) (some blk):=by
 refine⟨rfl,rfl,rfl,?_,fun i hi hn=>?_⟩
 ·simp [putRow,mapBlock]
 ·have:i≠blk:=fun e=>hn (by rw [e])
  simp [putRow,mapBlock,Array.getElem?_modify,Ne.symm this]
def Dgs (n:Nat) (s:ByteArray):Prop:=plain s∧dec (bN s)=n
theorem Ut (u:Nat):∀(m:Nat) (l:List Nat),l.length=m→(∀t,t<m→l[t]?=some (48+u / 10 ^ (m-1-t) % 10))→dec l=u % 10 ^ m
 |0,l,hl,_=>by
  rw [List.length_eq_zero_iff.1 hl]
  simp [dec,Nat.mod_one]
 |m+1,l,hl,h=>by
  cases l with
  |nil=>simp at hl
  |cons x l =>
   have h0:=h 0 (by omega)
   simp at h0
   have hl':l.length=m:=by simpa using hl
   have ih:=Ut u m l hl' (fun t ht=>by
    have:=h (t+1) (by omega)
    rw [List.getElem?_cons_succ,show m+1-1-(t+1)=m-1-t by omega]at this
    exact this)
   rw [Yv,ih,hl',h0,Nat.add_sub_cancel_left,Nat.mod_pow_succ,Nat.mul_comm]
   omega
theorem ZaL (u:Nat):u=0∨10 ^ (Lib.nDigits u-1)≤u:=by
 induction u using Nat.strongRecOn with
 |ind u ih =>
  by_cases h:u<10
  ·rw [Lib.nDigits_small h]
   rcases Nat.eq_zero_or_pos u with h0|h0
   ·exact .inl h0
   ·exact .inr (by simp;omega)
  ·rw [Lib.nDigits_big h]
   right
   rcases ih (u / 10) (by omega)with h0|h0
   ·omega
   ·have hp:=Lib.nDigits_pos (u / 10)
    rw [show Lib.nDigits (u / 10)+1-1=(Lib.nDigits (u / 10)-1)+1 by omega,Nat.pow_succ]
    omega
theorem dg_nat (u j:Nat):(Lib.dg u j).toNat=48+u / 10 ^ j % 10:=by
 unfold Lib.dg
 have:u / 10 ^ j % 10<10:=Nat.mod_lt _ (by decide)
 rw [UInt8.toNat_ofNat']
 omega
theorem dgs_of {u v':Nat} {dk:Array UInt8} (h0:0<u) (h:FmtInv (Lib.nDigits u) u 0 v' dk) (s:ByteArray) (hs:s.data=dk):Dgs u s:=by
 have hsz:s.size=Lib.nDigits u:=by rw [←h.size,←hs];rfl
 have hat:∀t,t<Lib.nDigits u→(bN s)[t]?=some (48+u / 10 ^ (Lib.nDigits u-1-t) % 10):=fun t ht=>by
  rw [bN_at s t (by omega),←dg_nat,←h.done t (by omega) ht]
  have hlt:t<dk.size:=by rw [h.size];exact ht
  rw [getElem!_pos dk t hlt]
  subst hs
  rfl
 have hlen:(bN s).length=Lib.nDigits u:=by rw [Ze,hsz]
 have hp:=Lib.nDigits_pos u
 refine⟨⟨fun b hb=>?_,by omega,?_⟩,?_⟩
 ·obtain⟨t,ht⟩:=List.mem_iff_getElem?.1 hb
  have hlt:t<(bN s).length:=(List.getElem?_eq_some_iff.1 ht).1
  rw [hat t (by omega)]at ht
  have:=Option.some.inj ht
  unfold isDig
  omega
 ·right
  rw [List.head?_eq_getElem?,hat 0 (by omega)]
  simp only [Option.getD_some,Nat.sub_zero]
  rcases ZaL u with h1|h1
  ·omega
  ·have h2:=Lib.lt_pow_nDigits u
   have h3:u / 10 ^ (Lib.nDigits u-1)<10:=by
    rw [Nat.div_lt_iff_lt_mul (Nat.pow_pos (by decide)),Nat.mul_comm,←Nat.pow_succ,show(Lib.nDigits u-1).succ=Lib.nDigits u by omega]
    exact h2
   have h4:0<u / 10 ^ (Lib.nDigits u-1):=Nat.div_pos h1 (Nat.pow_pos (by decide))
   omega
 ·rw [Ut u (Lib.nDigits u) _ hlen hat,Nat.mod_eq_of_lt (Lib.lt_pow_nDigits u)]
abbrev lit36:ByteArray:=⟨#[48,49,50,51,52,53,54,55,56,57,97,98,99,100,101,102,103,104,105,106,107,108,109,110,111,112,113,114,115,116,117,118,119,120,121,122]⟩
abbrev lit200:ByteArray:=⟨#[48,48,48,49,48,50,48,51,48,52,48,53,48,54,48,55,48,56,48,57,49,48,49,49,49,50,49,51,49,52,49,53,49,54,49,55,49,56,49,57,50,48,50,49,50,50,50,51,50,52,50,53,50,54,50,55,50,56,50,57,51,48,51,49,51,50,51,51,51,52,51,53,51,54,51,55,51,56,51,57,52,48,52,49,52,50,52,51,52,52,52,53,52,54,52,55,52,56,52,57,53,48,53,49,53,50,53,51,53,52,53,53,53,54,53,55,53,56,53,57,54,48,54,49,54,50,54,51,54,52,54,53,54,54,54,55,54,56,54,57,55,48,55,49,55,50,55,51,55,52,55,53,55,54,55,55,55,56,55,57,56,48,56,49,56,50,56,51,56,52,56,53,56,54,56,55,56,56,56,57,57,48,57,49,57,50,57,51,57,52,57,53,57,54,57,55,57,56,57,57]⟩
instance (n:Nat) (s:ByteArray):Decidable (Dgs n s):=by unfold Dgs;exact inferInstance
theorem Zdz:∀n:Fin 10,Dgs n.1 (lit36.extract n.1 (n.1+1)):=by decide +kernel
theorem ZcA:∀n:Fin 90,Dgs (n.1+10) (lit200.extract ((n.1+10)*2) ((n.1+10)*2+2)):=by decide +kernel
theorem Zcl (n:Nat) (h:n<100) (w:World) :
    Calls Tryz.prog 113 #[.int .i64 n] w fun e w'=>∃s,e=.returned (.string s)∧Dgs n s∧w'=w:=by
 have h36:lit36.size=36:=rfl
 have h200:lit200.size=200:=rfl
 by_cases h1:n<10
 ·have h1I:(n:Int)≤9:=by omega
  have HD:Hid (Dgs n (lit36.extract n (n+1))):=Zdz ⟨n,h1⟩
  go_enter Tryz.func113,Tryz.ntmps113
  unfold lit36 at HD h36
  generalize(⟨#[48,49,50,51,52,53,54,55,56,57,97,98,99,100,101,102,103,104,105,106,107,108,109,110,111,112,113,114,115,116,117,118,119,120,121,122]⟩:ByteArray)=S at *
  go_wp2
  go_ret
  exact⟨_,rfl,HD.out,rfl⟩
 ·have h1I:(10:Int)≤n:=by omega
  have h2I:(n:Int)≤99:=by omega
  have HD:Hid (Dgs n (lit200.extract (n*2) (n*2+2))):=(by
   have:=ZcA ⟨n-10,by omega⟩
   simp only at this
   rw [show n-10+10=n by omega]at this
   exact this)
  go_enter Tryz.func113,Tryz.ntmps113
  go_wp2
  go_ret
  exact⟨_,rfl,HD.out,rfl⟩
theorem Vx (w:World) (m:Nat) (hm:m≤24):Holds encU (w.alloc (.cells Lib.zeros24 150)) w.heap.size 0 (Array.replicate m 0):=fun j hj=>by
 have hj2:j<m:=by simpa using hj
 have hz:Lib.zeros24=Array.replicate 24 (Value.int .u8 0):=rfl
 have e:=heap_alloc_new w (Obj.cells Lib.zeros24 150)
 constructor
 ·rw [getElem!_pos _ j hj]
  unfold World.cell?
  simp only [e]
  show Lib.zeros24[0+j]?=_
  rw [hz,Nat.zero_add,Array.getElem?_replicate,if_pos (by omega)]
  simp
 ·unfold World.frozen?
  simp only [e]
  simp
theorem ZeW (l:List UInt8):∀(r:ByteArray),l.foldl (fun r n=>r.push n) r=⟨r.data++l.toArray⟩:=by
 induction l with
 |nil=>intro r;simp
 |cons x l ih =>
  intro r
  rw [List.foldl_cons,ih]
  congr 1
  show r.data.push x++l.toArray=_
  simp
theorem ZaG (dk:Array UInt8):strOf (dk.toList.map fun b=>(b.toNat:Int))=⟨dk⟩:=by
 unfold strOf
 rw [List.foldl_map]
 have e:(fun(x:ByteArray) (y:UInt8)=>x.push (UInt8.ofNat ((y.toNat:Int)).toNat))=fun x y=>x.push y:=by
  funext x y
  simp
 rw [e,ZeW]
 simp
theorem ZfH (n : Nat) (hn : n < 4294967296) (w : World) (htab : Lib.TabIs Tryz.prog w "internal/strconv.uint64pow10" .u64 Lib.pow10Tab) :
    Calls Tryz.prog 194 #[.int .u64 n,.int .i64 10] w fun e w'=>∃s,e=.returned (.string s)∧Dgs n s∧w.grownBy w' none:=by
 by_cases h1:n<100
 ·have h1I:(n:Int)≤99:=by omega
  go_enter Tryz.func194,Tryz.ntmps194
  go_wp2_with fail
  refine(Zcl n h1 _).mono ?_
  rintro e w' ⟨s,rfl,hs,rfl⟩
  have HS:Hid (Dgs n s):=hs
  clear hs
  go_wp2_with fail
  go_ret
  exact⟨s,rfl,HS.out,World.grownBy.refl _ _⟩
 ·have h1I:(100:Int)≤n:=by omega
  have hnI:(n:Int)≤4294967295:=by omega
  have hnd:Lib.nDigits n≤20:=Lib.nDigits_le20 n (by omega)
  have hlt:=Lib.lt_pow_nDigits n
  have hDG:=fun v' dk s h hs=>dgs_of (u:=n) (v':=v') (dk:=dk) (by omega) h s hs
  obtain⟨m,hm⟩:∃m,Lib.nDigits n=m:=⟨_,rfl⟩
  rw [hm]at hnd hlt hDG
  have hmI:(m:Int)≤20:=by omega
  have hal:Tryz.prog.arrayLen 150=24:=by simp [Program.arrayLen,Tryz.underlying150]
  have hsl:∀W,(Instr.sliceAt 150 (.pointer (some ⟨w.heap.size,0,none⟩)) none (some (.int .i64 (m:Int))) none).run Tryz.prog W=.ok (.slice (some ⟨w.heap.size,0,none⟩) m 24) W:=fun W=>by
   rw [run_sliceAt_array_h W 150 ⟨w.heap.size,0,none⟩ (by simp [Program.arrayLen,Program.elem,Tryz.underlying150]) .i64 (m:Int) (by omega) (by rw [hal];omega)]
   go_simp
  go_enter Tryz.func194,Tryz.ntmps194
  go_wp2_with fail
  refine(Tryz.internal_strconv_numDigits n (by omega) (by omega) _ (Lib.tabIs_alloc htab _)).mono ?_
  rw [hm]
  rintro e w' ⟨rfl,rfl⟩
  go_wp2_with fail
  have hH:=Vx w m (by omega)
  have hfb:=Tryz.internal_strconv_formatBase10 w.heap.size 0 24 n (Array.replicate m 0) _ hH (by simpa using hlt) (by omega) (by simp;omega)
  simp only [Array.size_replicate]at hfb
  refine hfb.mono ?_
  rintro e w' ⟨rfl,k,v',dk,rfl,hF⟩
  have hsz:dk.size=m:=hF.size
  have hdk:=hDG v' dk ⟨dk⟩ hF rfl
  have hH2:=holds_putRow encU (w.alloc (.cells Lib.zeros24 150)) w.heap.size 0 (Array.replicate m 0) dk hH (by simp [hsz])
  have hcv:=YM (w:=(putRow encU (w.alloc (.cells Lib.zeros24 150)) w.heap.size 0 dk).drewN k) (s:=.slice (some ⟨w.heap.size,0,none⟩) m 24) (L:=dk.toList.map fun b=>(b.toNat:Int)) (.inr ⟨w.heap.size,0,24,(by simp [hsz]),fun j u hj=>by
   have hjs:j<dk.size:=by
    have:=(List.getElem?_eq_some_iff.1 hj).1
    simpa using this
   have h:=(hH2 j hjs).1
   rw [getElem!_pos dk j hjs]at h
   have hu:u=encU dk[j]:=by
    rw [List.getElem?_map,List.getElem?_map,List.getElem?_eq_getElem (by simpa using hjs)]at hj
    simpa using hj.symm
   rw [hu]
   exact h⟩)
  rw [ZaG]at hcv
  have HG:Hid (w.grownBy ((putRow encU (w.alloc (.cells Lib.zeros24 150)) w.heap.size 0 dk).drewN k) none):=ZC (Zq (grow1 _ _) (Nat.le_refl _) (Jp _ _ _ _)) k
  have HD:Hid (Dgs n ⟨dk⟩):=hdk
  clear hF hH hH2 htab hdk hDG hfb
  generalize(putRow encU (w.alloc (.cells Lib.zeros24 150)) w.heap.size 0 dk).drewN k=w2 at *
  go_wp2_with fail
  go_ret
  exact⟨_,rfl,HD.out,HG.out⟩
theorem XF (n : Nat) (hn : n < 4294967296) (w : World) (htab : Lib.TabIs Tryz.prog w "internal/strconv.uint64pow10" .u64 Lib.pow10Tab) :
    Calls Tryz.prog 157 #[.int .u32 n] w fun e w'=>∃s,e=.returned (.string s)∧Dgs n s∧w.grownBy w' none:=by
 have H:Hid (Calls Tryz.prog 194 #[.int .u64 n,.int .i64 10] w fun e w'=>∃s,e=.returned (.string s)∧Dgs n s∧w.grownBy w' none):=ZfH n hn w htab
 have hnI:(n:Int)≤4294967295:=by omega
 clear htab hn
 go_enter Tryz.func157,Tryz.ntmps157
 go_wp2_with fail
 go_enter Tryz.func172,Tryz.ntmps172
 go_wp2_with fail
 refine H.out.mono ?_
 rintro e w1 ⟨s,rfl,hs,hg⟩
 have HS:Hid (Dgs n s∧w.grownBy w1 none):=⟨hs,hg⟩
 clear hs hg
 go_wp2_with fail
 go_ret
 exact⟨s,rfl,HS.out.1,HS.out.2⟩
theorem ZeI {k:Nat} (h2:2≤k) (h8:k≤8):k=2∨k=3∨k=4∨k=5∨k=6∨k=7∨k=8:=by omega
theorem ZaC (k:Nat) (h2:2≤k) (h8:k≤8) (K:Int) (hK:(k:Int)=K) (w:World):Calls Tryz.prog 196 #[.int .u64 1,.int .u64 K] w fun e w'=>e=.returned (.tuple #[.int .u64 0,.int .u64 K])∧w'=w:=by
 rcases ZeI h2 h8 with rfl|rfl|rfl|rfl|rfl|rfl|rfl<;>subst hK<;>(
  go_enter Tryz.func196,Tryz.ntmps196
  go_wp2
  go_ret2
  exact⟨rfl,rfl⟩)
theorem Zdo (k:Nat) (h2:2≤k) (h8:k≤8) (w:World):Calls Tryz.prog 173 #[.int .u64 1,.int .u64 (k:Int)] w fun e w'=>e=.returned (.tuple #[.int .u64 0,.int .u64 (k:Int)])∧w'=w:=by
 have HM:Hid (∀w,Calls Tryz.prog 196 #[.int .u64 1,.int .u64 (k:Int)] w fun e w'=>e=.returned (.tuple #[.int .u64 0,.int .u64 (k:Int)])∧w'=w):=fun w=>ZaC k h2 h8 k rfl w
 have h2I:(2:Int)≤k:=by omega
 have h8I:(k:Int)≤8:=by omega
 go_enter Tryz.func173,Tryz.ntmps173
 go_wp2_with fail
 refine(HM.out _).mono ?_
 rintro e w' ⟨rfl,rfl⟩
 go_wp2_with fail
 go_ret2
 exact⟨rfl,rfl⟩
theorem Y4 (s:ByteArray) (h9:s.size≤1000000) (h0:s.size≠0) (b:Bool) (hb:decide ((bN s).head?=some 48)=b) (w:World) :
    Calls Tryz.prog 93 #[.string s,.string ⟨#[48]⟩] w fun e w'=>e=.returned (.bool b)∧w'=w:=by
 have hp:(1:Int)≤s.size:=by omega
 have h9':(s.size:Int)≤1000000:=by omega
 go_enter Tryz.func93,Tryz.ntmps93
 go_wp2
 go_ret
 refine⟨Zh ?_,rfl⟩
 rw [←hb,YV,ZW]
 have hl:(bN s).length=s.size:=Ze s
 cases hb:bN s with
 |nil=>rw [hb]at hl;simp at hl;omega
 |cons x l=>simp
theorem Yh (s:ByteArray) (h9:s.size≤1000000) (h0:s.size≠0) (b:Bool) (hb:decide ((bN s).head?=some 48)=b) (w:World) :
    Calls Tryz.prog 71 #[.string s,.string ⟨#[48]⟩] w fun e w'=>e=.returned (.bool b)∧w'=w:=by
 have HH:Hid (Calls Tryz.prog 93 #[.string s,.string ⟨#[48]⟩] w fun e w'=>e=.returned (.bool b)∧w'=w):=Y4 s h9 h0 b hb w
 go_enter Tryz.func71,Tryz.ntmps71
 go_wp2_with fail
 refine HH.out.mono ?_
 rintro e w' ⟨rfl,rfl⟩
 go_wp2_with fail
 go_ret
 exact⟨rfl,rfl⟩
theorem ZcD:∀k:Fin 9,∀S:ByteArray,bN S=List.replicate 64 48→bN (S.extract 0 k.1)=List.replicate k.1 48:=by
 intro k S h
 have hk:=k.2
 rw [ZW,h,List.drop_zero,Nat.sub_zero,List.take_replicate,Nat.min_eq_left (by omega)]
theorem Xz (k:Nat) (h8:k≤8) (w:World):Calls Tryz.prog 158 #[.string ⟨#[48]⟩,.int .i64 (k:Int)] w fun e w'=>∃s,e=.returned (.string s)∧bN s=List.replicate k 48∧w.grownBy w' none:=by
 rcases Nat.lt_or_ge k 2 with h2|h2
 ·obtain rfl|rfl:k=0∨k=1:=by omega
  ·go_enter Tryz.func158,Tryz.ntmps158
   go_wp2
   go_ret
   exact⟨_,rfl,rfl,World.grownBy.refl _ _⟩
  ·go_enter Tryz.func158,Tryz.ntmps158
   go_wp2
   go_ret
   exact⟨_,rfl,rfl,World.grownBy.refl _ _⟩
 ·have HM:Hid (∀w,Calls Tryz.prog 173 #[.int .u64 1,.int .u64 (k:Int)] w fun e w'=>e=.returned (.tuple #[.int .u64 0,.int .u64 (k:Int)])∧w'=w):=fun w=>Zdo k h2 h8 w
  have h2I:(2:Int)≤k:=by omega
  have h8I:(k:Int)≤8:=by omega
  have hk0:((k:Int) == 0)=false:=by rw [beq_eq_false_iff_ne];omega
  have hk1:((k:Int) == 1)=false:=by rw [beq_eq_false_iff_ne];omega
  go_enter Tryz.func158,Tryz.ntmps158
  go_wp2_with fail
  refine(HM.out _).mono ?_
  rintro e w' ⟨rfl,rfl⟩
  go_wp2_with fail
  refine(Yh _ (by decide) (by decide) false (by decide) _).mono ?_
  rintro e w' ⟨rfl,rfl⟩
  go_wp2_with fail
  refine(Yh _ (by decide) (by decide) false (by decide) _).mono ?_
  rintro e w' ⟨rfl,rfl⟩
  go_wp2_with fail
  refine(Yh _ (by decide) (by decide) true (by decide) _).mono ?_
  rintro e w' ⟨rfl,rfl⟩
  go_wp2_with fail
  go_ret
  exact⟨_,rfl,ZcD ⟨k,by omega⟩ _ (by decide),World.grownBy.refl _ _⟩
abbrev B9:Nat:=1000000000
theorem lt_bl (n:Nat):n<2 ^ bl n:=by
 rcases Nat.eq_zero_or_pos n with rfl|h
 ·decide
 ·obtain⟨k,hk⟩:=YS h
  rw [hk]
  exact(X5.1 hk).2
theorem Zdq {a b:Nat} (h:a≤b):bl a≤bl b:=bl_le (Nat.lt_of_le_of_lt h (lt_bl b))
theorem Vu {x:Nat} (h:0<x):bl (x / B9)+1≤bl x:=by
 rw [Zez h]
 have:x / B9≤x / 2:=Nat.div_le_div_left (by decide) (by decide)
 have:=Zdq this
 omega
def TgI (w wr:World) (n:Nat) (s d:Value):Prop :=
 ∃G L,Row wr w.heap.size s G∧Row wr w.heap.size d L∧Apt s d∧(∀x∈G,x<B9)∧(∀x∈L,x<B32)∧Trim L∧L.length≤4096∧G.length+bl (nv B32 L)≤131072 ∧
  nv B9 G+B9 ^ G.length*nv B32 L=n∧(nv B32 L=0→∃H g,G=H++[g]∧0<g)∧w.grownBy wr none
theorem Yb {L:List Nat} (h:Trim L):nv B32 L=0 ↔ L.length=0:=by
 constructor
 ·intro e
  rcases Nat.eq_zero_or_pos L.length with h0|h0
  ·exact h0
  ·have:=ZK h (L.length-1) (by omega)
   have hp:0<B32 ^ (L.length-1):=Nat.pow_pos (by decide)
   omega
 ·intro e
  rw [List.length_eq_zero_iff.1 e];rfl
theorem TgI.step {w wr w2 w3:World} {n:Nat} {s d s' d':Value} {G L K:List Nat} {k:Nat}
    (hG:Row wr w.heap.size s G) (hL:Row wr w.heap.size d L) (hp:Apt s d) (rG:∀x∈G,x<B9) (lL:L.length≤4096) (hbl:G.length+bl (nv B32 L)≤131072) (hn:nv B9 G+B9 ^ G.length*nv B32 L=n) (hg:w.grownBy wr none) (h0:0<nv B32 L)
    (rK:∀x∈K,x<B32) (lK:K.length=L.length) (vK:nv B32 K=nv B32 L / B9) (g2:wr.grownBy w2 d.ownBlock)
    (hS:Row w3 w.heap.size s' (G++[nv B32 L % B9])) (g3:(w2.alloc (.cells #[.int .u32 ((nv B32 L % B9:Nat):Int)] 145)).grownBy w3 s.ownBlock) (ho:s'.ownBlock=s.ownBlock∨s'.ownBlock=some (w2.heap.size+1))
    (hD:Row w3 w.heap.size d' (K.take k)) (vk:nv B32 (K.take k)=nv B32 K) (tk:Trim (K.take k)) (hd':d'.ownBlock=d.ownBlock) (hKk:k≤K.length):TgI w w3 n s' d':=by
 have hsz:=g2.size
 refine⟨G++[nv B32 L % B9],K.take k,hS,hD,?_,?_,fun x hx=>rK x (List.mem_of_mem_take hx),tk,by rw [List.length_take];omega,?_,?_,?_,?_⟩
 ·rcases ho with e|e
  ·unfold Apt;rw [e,hd'];exact hp
  ·right
   rw [e,hd']
   intro e2
   have:=(hL.lt e2.symm).2
   omega
 ·intro x hx
  rcases List.mem_append.1 hx with h|h
  ·exact rG x h
  ·simp at h;subst h;exact Nat.mod_lt _ (by decide)
 ·rw [vk,vK,List.length_append,List.length_singleton]
  have:=Vu h0
  omega
 ·rw [vk,vK,ZE,List.length_append,List.length_singleton,Nat.pow_succ,←hn]
  have e:=Nat.div_add_mod (nv B32 L) B9
  have:nv B9 [nv B32 L % B9]=nv B32 L % B9:=by simp [nv]
  rw [this,Nat.mul_assoc,Nat.add_assoc,←Nat.mul_add,Nat.add_comm (nv B32 L % B9),e]
 ·intro hz
  rw [vk,vK]at hz
  refine⟨G,_,rfl,?_⟩
  have:=Nat.div_add_mod (nv B32 L) B9
  rw [hz]at this
  omega
 ·have ga:w.grownBy w2 none:=Ye hg hL g2
  have hGk:Row w2 w.heap.size s G:=hG.kept g2 (by rcases hp with h|h;exact .inl h;exact .inr h)
  exact Ye (Za ga (grow1 _ _)) (hGk.kept (grow1 _ _) (by cases s.ownBlock<;>simp)) g3
theorem Vt {w w':World} {name:String} {k:IntKind} {zs:List Int} {g:Nat} (hg:Tryz.prog.globalNamed name=some g) (h:Lib.TabIs Tryz.prog w name k zs) (hb:w.grownBy w' none):Lib.TabIs Tryz.prog w' name k zs :=
 Joins.tab_stays hg h (Yg hb) (Nat.le_refl _)
theorem Zeg : ∃ g, Tryz.prog.globalNamed "internal/strconv.uint64pow10" = some g := ⟨1, by kernel_rfl⟩
theorem ZA {T e:TypeId} {B b:Nat} {p:Value} {bs:List Value} {w w':World} (h:Lib.BuilderAt T e B b p bs w) (hg:w.grownBy w' none):Lib.BuilderAt T e B b p bs w':=by
 obtain⟨hB,v,hb,ho,hn⟩:=h
 exact⟨hB,v,(hg.block b (Array.getElem?_eq_some_iff.1 hb).1 (by simp)).trans hb,ho.kept hg (by cases v.ownBlock<;>simp),hn⟩
theorem Vq {n:Bool} {m:ByteArray} (h:may n m=true) (h0:m.size≠0):val (bN m)≠0:=by
 have h3:=U7 m (by omega) (Vk h (by omega))
 have:=Nat.pow_pos (n:=m.size-1) (show 0<256 by decide)
 omega
theorem VP {n:Bool} {m:ByteArray} (h:may n m=true):(sgn n m=0∧n=false∧num n m=0∧val (bN m)=0)∨(sgn n m=1∧n=false∧num n m=(val (bN m):Int)∧0<val (bN m))∨(sgn n m=-1∧n=true∧num n m=-(val (bN m):Int)∧0<val (bN m)):=by
 by_cases h0:m.size=0
 ·obtain rfl:=Zi h0
  have:=Yf h
  subst this
  exact .inl ⟨rfl,rfl,rfl,rfl⟩
 ·have hv:=Vq h h0
  cases n
  ·exact .inr (.inl ⟨by simp [sgn,h0],rfl,num_f m,by omega⟩)
  ·exact .inr (.inr ⟨by simp [sgn,h0],rfl,num_t m,by omega⟩)
theorem JH {z k:Nat} (h:z<256 ^ k):bl z≤8*k:=by
 refine bl_le ?_
 rw [Nat.pow_mul]
 exact h
def TextOf (z:Int) (s:ByteArray):Prop:=isText s∧textZ s=z
theorem ZQ {wq w5 w6:World} (h:wq.grownBy w5 none) (b:Below wq.heap.size w5 w6):wq.grownBy w6 none :=
 ⟨b.os.trans h.os,b.tape.trans h.tape,b.output.trans h.output,Nat.le_trans h.size b.size,fun i hi hn=>(b.block i hi).trans (h.block i hi hn)⟩
theorem YA (l:List UInt8) (s:ByteArray):Lib.byteCells l++Lib.strCells s=Lib.byteCells (l++s.data.toList):=by simp [Lib.byteCells,Lib.strCells]
theorem Xc {x:Nat} {s:ByteArray} (h:Dgs x s) (hx:x<B9):s.size≤9:=by
 obtain⟨⟨hd,h0,hh⟩,hv⟩:=h
 rcases hh with h1|h1
 ·omega
 ·rcases Nat.lt_or_ge 9 s.size with hlt|hge
  ·exfalso
   have hlen:=Ze s
   cases hb:bN s with
   |nil=>rw [hb]at hlen;simp at hlen;omega
   |cons a l =>
    rw [hb]at hv hlen h1 hd
    have ha:=hd a (by simp)
    simp at h1 hlen
    rw [Yv]at hv
    have h9:10 ^ 9≤10 ^ l.length:=Nat.pow_le_pow_right (by decide) (by omega)
    have:1*10 ^ l.length≤(a-48)*10 ^ l.length:=Nat.mul_le_mul_right _ (by unfold isDig at ha;omega)
    have e9:10 ^ 9=B9:=by decide
    omega
  ·exact hge
def TbI (neg:Bool) (G:List Nat) (k:Nat) (l:List UInt8):Prop :=
 ∃D,l.map UInt8.toNat=(if neg then [45]else [])++D∧(∀b∈D,isDig b)∧D≠[]∧D.head?.getD 0≠48∧dec D=nv B9 (G.drop k)∧D.length≤9*(G.length-k)
theorem TbI.first {neg:Bool} {H:List Nat} {g:Nat} {s:ByteArray} (hg:0<g) (hg9:g<B9) (h:Dgs g s):TbI neg (H++[g]) H.length ((if neg then [45]else [])++s.data.toList):=by
 have hs:=Xc h hg9
 obtain⟨⟨hd,h0,hh⟩,hv⟩:=h
 have hlen:=Ze s
 refine⟨bN s,?_,hd,?_,?_,?_,?_⟩
 ·cases neg<;>simp [bN]
 ·intro e;rw [e]at hlen;simp at hlen;omega
 ·rcases hh with h1|h1
  ·cases hb:bN s with
   |nil=>rw [hb]at hlen;simp at hlen;omega
   |cons a l =>
    rw [hb]at hlen hv
    have:l=[]:=List.length_eq_zero_iff.1 (by simp at hlen;omega)
    subst this
    intro e
    simp at e
    rw [e]at hv
    simp [dec]at hv
    omega
  ·exact h1
 ·rw [hv,List.drop_left];simp [nv]
 ·rw [hlen];simp;omega
theorem ZaJ (m:Nat):dec (List.replicate m 48)=0:=by
 induction m with
 |zero=>rfl
 |succ m ih=>rw [List.replicate_succ,Yv,ih];simp
theorem TbI.next {neg:Bool} {G:List Nat} {k:Nat} {l:List UInt8} {s z:ByteArray} (hI:TbI neg G (k+1) l) (hk:k<G.length) (hx:G[k]?.getD 0<B9) (h:Dgs (G[k]?.getD 0) s) (hz:bN z=List.replicate (9-s.size) 48):TbI neg G k (l++z.data.toList++s.data.toList):=by
 have hs:=Xc h hx
 obtain⟨⟨hd,h0,hh⟩,hv⟩:=h
 have hlen:=Ze s
 obtain⟨D,hl,dD,nD,hD,vD,lD⟩:=hI
 refine⟨D++(bN z++bN s),?_,?_,by simp [nD],?_,?_,?_⟩
 ·simp only [List.map_append,hl]
  simp [bN]
 ·intro b hb
  rcases List.mem_append.1 hb with h|h
  ·exact dD b h
  ·rcases List.mem_append.1 h with h|h
   ·rw [hz]at h
    rw [List.eq_of_mem_replicate h]
    unfold isDig
    omega
   ·exact hd b h
 ·cases D with
  |nil=>exact absurd rfl nD
  |cons a D=>simpa using hD
 ·rw [Z8,Z8,hz,ZaJ,Nat.zero_mul,Nat.zero_add,hv,List.length_append,List.length_replicate,hlen,show 9-s.size+s.size=9 by omega,vD]
  have e:nv B9 (G.drop k)=G[k]?.getD 0+B9*nv B9 (G.drop (k+1)):=by
   rw [List.drop_eq_getElem_cons hk,nv,List.getElem?_eq_getElem hk]
   rfl
  rw [e,show(10:Nat) ^ 9=B9 by decide,Nat.mul_comm,Nat.add_comm]
 ·rw [List.length_append,List.length_append,hz,List.length_replicate,hlen]
  omega
theorem Yo {neg:Bool} {mag s:ByteArray} {D:List Nat} (hb:bN s=(if neg then [45]else [])++D) (dD:∀b∈D,isDig b) (nD:D≠[]) (hD:D.head?.getD 0≠48) (vD:dec D=val (bN mag)):TextOf (num neg mag) s:=by
 have hDl:0<D.length:=by cases D with
  |nil=>exact absurd rfl nD
  |cons a D=>simp
 cases neg
 ·simp only [Bool.false_eq_true,if_false,List.nil_append]at hb
  have hh:¬(bN s).head?=some 45:=by
   rw [hb]
   cases D with
   |nil=>exact absurd rfl nD
   |cons a D =>
    intro e
    simp at e
    have:=dD a (by simp)
    unfold isDig at this
    omega
  have hbare:bare s=s:=by unfold bare;rw [if_neg hh]
  have hsz:s.size=D.length:=by rw [←Ze,hb]
  refine⟨⟨?_,?_⟩,?_⟩
  ·rw [hbare]
   exact⟨by rw [hb];exact dD,by omega,.inr (by rw [hb];exact hD)⟩
  ·rw [hb]
   intro e
   rw [e]at dD
   have:=dD 45 (by simp)
   unfold isDig at this
   omega
  ·unfold textZ
   rw [if_neg hh,hbare,hb,vD]
   rfl
 ·simp only [if_true,List.singleton_append]at hb
  have hh:(bN s).head?=some 45:=by rw [hb];rfl
  have hbr:bN (bare s)=D:=by rw [YF hh,hb];rfl
  have hsz:(bare s).size=D.length:=by rw [←Ze,hbr]
  refine⟨⟨⟨by rw [hbr];exact dD,by omega,.inr (by rw [hbr];exact hD)⟩,?_⟩,?_⟩
  ·rw [hb]
   intro e
   injection e with _ e
   rw [e]at hD
   exact hD rfl
  ·unfold textZ
   rw [if_pos hh,hbr,vD]
   rfl
theorem TbI.last {neg:Bool} {mag:ByteArray} {G:List Nat} {l:List UInt8} (hI:TbI neg G 0 l) (hn:nv B9 G=val (bN mag)):TextOf (num neg mag) ⟨l.toArray⟩:=by
 obtain⟨D,hl,dD,nD,hD,vD,lD⟩:=hI
 rw [List.drop_zero,hn]at vD
 exact Yo (by rw [←hl];simp [bN]) dD nD hD vD
theorem Zfr (neg : Bool) (mag : ByteArray) (h : may neg mag = true) (h0 : mag.size ≠ 0) (w : World) (htab : Lib.TabIs Tryz.prog w "internal/strconv.uint64pow10" .u64 Lib.pow10Tab) :
    Calls Tryz.prog 132 #[whole neg mag] w fun e w'=>∃s,e=.returned (.tuple #[.string s,.int .i64 0])∧TextOf (num neg mag) s∧w.grownBy w' none:=by
 obtain⟨gp,hgp⟩:=Zeg
 have HT : Hid (∀ w', w.grownBy w' none → Lib.TabIs Tryz.prog w' "internal/strconv.uint64pow10" .u64 Lib.pow10Tab) := fun w' hg => Vt hgp htab hg
 have hms:=ZH h
 have hmx:mag.size≤maxLen:=by unfold maxLen;omega
 have HC:Hid (∀w,Calls Tryz.prog 139 #[whole neg mag] w fun e w'=>e=.returned (.int .i64 0)∧w'=w.alloc (wObj neg mag)):=fun w=>by
  have:=Yn neg mag hmx w
  rw [VH h]at this
  exact this
 have he:=Zu h0
 have hml:¬mag.toList=[]:=by rw [←List.isEmpty_iff,he];simp
 clear htab hgp
 go_enter Tryz.func132,Tryz.ntmps132
 go_wp2_with (go_at_call 139;refine(HC.out _).mono ?_;rintro e w' ⟨rfl,rfl⟩)
 go_region_held3 (fun w'=>w'.cell? ⟨w.heap.size,0,none⟩=some (Value.bool neg)∧w'.cell? ⟨w.heap.size,1,none⟩=some (Value.string mag)) (first|(go_keep;done)|fail) (first|(go_at_call 140;refine(Z0 _).mono ?_;rintro e w' ⟨rfl,rfl⟩)|fail)
 go_wp2_with fail
 refine(X0 mag hms _).mono ?_
 rintro e w1 ⟨B,L0,rfl,hB,hBk,g1,lL,rL,vL⟩
 have HI0:Hid (TgI (w.alloc (wObj neg mag)) w1 (val (bN mag)) (.slice none 0 0) (.slice (some ⟨B,0,none⟩) L0.length L0.length)):=(by
  have hv0:=Vq h h0
  have g1':=Zj g1
  refine⟨[],L0,Row.nil _ _,hBk.row (by simp at hB ⊢;omega) (by unfold maxLen;omega),.inl rfl,by simp,rL,YL h lL rL vL,by omega,?_,by rw [vL];simp [nv],fun e=>absurd (vL.symm.trans e) hv0,Za (grow2 _ _ _) g1'⟩
  rw [vL,List.length_nil,Nat.zero_add]
  have hlt:=Xx (bN mag) (Xg mag)
  rw [Ze]at hlt
  have:=JH hlt
  omega)
 generalize hn:val (bN mag)=n at HI0
 have HN:Unit→val (bN mag)=n:=fun _=>hn
 have hn0:Unit→n≠0:=fun _=>by rw [←hn];exact Vq h h0
 clear hB hBk g1 lL rL vL hn he hml
 go_wp2_with fail
 go_loopw [4,5] (fun s d wr=>(∃a m c,s=.slice a m c)∧(∃a m c,d=.slice a m c)∧TgI (w.alloc (wObj neg mag)) wr n s d) (fun s _ _=>131073-(match s with|.slice _ m _=>m|_=>0))
 case atStart=>exact⟨⟨_,_,_,rfl⟩,⟨_,_,_,rfl⟩,HI0.out⟩
 case round =>
  obtain⟨⟨sa,sm,sc,rfl⟩,⟨da,dm,dc,rfl⟩,hI⟩:=hrel
  have HI:Hid (TgI (w.alloc (wObj neg mag)) wr n (.slice sa sm sc) (.slice da dm dc)):=hI
  obtain⟨G,L,hG,hL,hp,rG,rL,tL,lL,hbl,hn,htop,hg⟩:=hI
  have hdm:dm=L.length:=by
   obtain⟨_,_,e⟩:=hL.d4.slice
   exact(Value.slice.inj e).2.1
  have hsm:sm=G.length:=by
   obtain⟨_,_,e⟩:=hG.d4.slice
   exact(Value.slice.inj e).2.1
  by_cases hd0:dm=0
  ·subst hd0
   obtain⟨H,g,rfl,hg0⟩:=htop ((Yb tL).2 hdm.symm)
   have hnn:nv B9 (H++[g])=n:=by rw [←hn,(Yb tL).2 hdm.symm,Nat.mul_zero,Nat.add_zero]
   have hsl:sm=H.length+1:=by rw [hsm];simp
   have HNN:Unit→nv B9 (H++[g])=val (bN mag):=fun _=>hnn.trans (HN ()).symm
   obtain⟨gb,rfl,hgc⟩:∃gb,sa=some ⟨gb,0,none⟩∧sm≤sc:=by
    rcases hG.cases with ⟨_,e⟩|⟨gb,c,e,_,hc⟩
    ·simp at e
    ·obtain⟨rfl,e2,rfl⟩:=Value.slice.inj e
     exact⟨gb,rfl,by omega⟩
   have HCG:Hid (∀w',wr.grownBy w' none→∀k,k<H.length+1→w'.cell? ⟨gb,k,none⟩=some (.int .u32 (((H++[g])[k]?.getD 0:Nat):Int))):=fun w' hgw k hk=>Zd hgw (Row.cell (by rw [hsm]at hG;exact hG) k (by simp;omega)) (by simp)
   have HRG:Hid (∀k:Nat,(H++[g])[k]?.getD 0<B9):=(by
    intro k
    cases hk:(H++[g])[k]? with
    |none=>decide
    |some x=>exact rG x (List.mem_iff_getElem?.2 ⟨k,hk⟩))
   have hA:WBlk wr w.heap.size (.bool neg) (.string mag):=WBlk.kept (heap_alloc_new _ _) hg (by simp)
   have HGW:Hid (w.grownBy wr none):=Za (grow1 _ _) hg
   have hwr:w.heap.size<wr.heap.size:=hA.lt
   have hHl:H.length≤131071:=by have:=hbl;simp at this;omega
   have hHI:(H.length:Int)≤131071:=by omega
   have hlast:(H++[g])[H.length]?.getD 0=g:=by simp
   clear hG hL hp rG rL tL lL hbl hn htop hg hdm hsm hnn HN hn0 HI HI0
   subst hsl
   generalize wr=wq at *
   have hcA:=(hA.kept (grow1 wq (.cells #[.pointer none,.slice none 0 0] 93)) (by simp)).c0
   have hf:Lib.IsBuilder 93 5 wq.heap.size wq.heap.size (Lib.byteCells []) (wq.alloc (.cells #[.pointer none,.slice none 0 0] 93)):=Lib.fresh_isBuilder 93 5 wq
   cases neg
   ·skip
    have HB4:Hid (Lib.IsBuilder 93 5 wq.heap.size wq.heap.size (Lib.byteCells ([]:List UInt8)) (wq.alloc (.cells #[.pointer none,.slice none 0 0] 93))):=hf
    have HGB4:Hid (wq.grownBy (wq.alloc (.cells #[.pointer none,.slice none 0 0] 93)) none):=grow1 _ _
    have hc4:=HCG.out _ HGB4.out H.length (by omega)
    rw [hlast]at hc4
    have HGT:Hid (∀x w',x<B9→wq.grownBy w' none→Calls Tryz.prog 157 #[.int .u32 (x:Int)] w' fun e w''=>∃s,e=.returned (.string s)∧Dgs x s∧w'.grownBy w'' none):=fun x w' hx hgw=>XF x (by unfold B9 at hx;omega) w' (HT.out _ (Za HGW.out hgw))
    have hg9:g<B9:=by have:=HRG.out H.length;rwa [hlast]at this
    clear hf hA
    go_wp2_with fail
    refine(HGT.out g _ hg9 HGB4.out).mono ?_
    rintro e w5 ⟨s5,rfl,hs5,hg5⟩
    have HT5:Hid (TbI false (H++[g]) H.length (([]:List UInt8)++s5.data.toList)):=TbI.first (neg:=false) hg0 hg9 hs5
    have hsz5:=Xc hs5 hg9
    have HB5:Hid (Lib.IsBuilder 93 5 wq.heap.size wq.heap.size (Lib.byteCells ([]:List UInt8)) w5):=(by
     rcases HB4.out with h|h
     ·exact .inl (ZA h hg5)
     ·exact .inr (ZA h hg5))
    have HGB5:Hid (wq.grownBy w5 none):=Za HGB4.out hg5
    clear hs5 hg5 HB4 HGB4 hc4
    go_wp2_with fail
    refine(Tryz.Builder_WriteString wq.heap.size wq.heap.size _ s5 _ HB5.out (by rw [Lib.byteCells_length];simp;omega) HGB5.out.size).mono ?_
    rintro e w6 ⟨rfl,hb6,hlw6⟩
    rw [YA]at hb6
    have HB6:Hid (Lib.IsBuilder 93 5 wq.heap.size wq.heap.size (Lib.byteCells (([]:List UInt8)++s5.data.toList)) w6):=.inr hb6
    have HGB6:Hid (wq.grownBy w6 none):=ZQ HGB5.out hlw6
    clear hb6 hlw6 HB5 HGB5
    go_wp2_with fail
    go_loopw [7] (fun t wz=>∃(k:Nat) (l:List UInt8),t=.int .i64 k∧k≤H.length∧TbI false (H++[g]) k l∧Lib.IsBuilder 93 5 wq.heap.size wq.heap.size (Lib.byteCells l) wz∧wq.grownBy wz none) (fun t _=>(RowKit.intOf t).toNat)
    case atStart=>exact⟨H.length,_,rfl,Nat.le_refl _,HT5.out,HB6.out,HGB6.out⟩
    case round =>
     obtain⟨k,l,rfl,hk,hTb,hBb,hGb⟩:=hrel
     have HTb:Hid (TbI false (H++[g]) k l):=hTb
     have HBb:Hid (Lib.IsBuilder 93 5 wq.heap.size wq.heap.size (Lib.byteCells l) wr):=hBb
     have HGb:Hid (wq.grownBy wr none):=hGb
     have hll:l.length≤2000000:=by
      obtain⟨D,hl,_,_,_,_,lD⟩:=hTb
      have:=congrArg List.length hl
      simp at this lD
      omega
     clear hTb hBb hGb
     by_cases hk0:k=0
     ·subst hk0
      have hl0:l≠[]:=by
       obtain⟨D,hl,_,nD,_⟩:=HTb.out
       intro e
       subst e
       have hlen:=congrArg List.length hl
       rw [List.length_map,List.length_nil,List.length_append]at hlen
       exact nD (List.length_eq_zero_iff.1 (by omega))
      have HFT:Hid (TextOf (num false mag) ⟨l.toArray⟩):=HTb.out.last (HNN ())
      go_wp2_with fail
      refine(Tryz.Builder_String wq.heap.size wq.heap.size l _ HBb.out hl0).mono ?_
      rintro e w7 ⟨rfl,hlw7⟩
      have HG7:Hid (w.grownBy w7 none):=Za HGW.out (ZQ HGb.out hlw7)
      clear hlw7 HBb HGb
      go_wp2_with fail
      go_ret2
      exact⟨_,rfl,HFT.out,HG7.out⟩
     ·obtain⟨q,rfl⟩:∃q,k=q+1:=⟨k-1,by omega⟩
      have hcq:=HCG.out _ HGb.out q (by omega)
      have hx9:=HRG.out q
      obtain⟨x,hx⟩:∃x,(H++[g])[q]?.getD 0=x:=⟨_,rfl⟩
      have HX:Unit→(H++[g])[q]?.getD 0=x:=fun _=>hx
      rw [hx]at hcq hx9
      have hqI:(q:Int)≤131071:=by omega
      clear hx
      go_wp2_with fail
      refine(HGT.out x _ hx9 HGb.out).mono ?_
      rintro e w8 ⟨s8,rfl,hs8,hg8⟩
      have hsz8:=Xc hs8 hx9
      have hsI:(s8.size:Int)≤9:=by omega
      have hs1:1≤s8.size:=by have:=hs8.1.2.1;omega
      have h9s:(9:Int)-s8.size=((9-s8.size:Nat):Int):=by omega
      have HD8:Hid (Dgs x s8):=hs8
      have HB8:Hid (Lib.IsBuilder 93 5 wq.heap.size wq.heap.size (Lib.byteCells l) w8):=(by
       rcases HBb.out with h|h
       ·exact .inl (ZA h hg8)
       ·exact .inr (ZA h hg8))
      have HGB8:Hid (wq.grownBy w8 none):=Za HGb.out hg8
      clear hs8 hg8 HBb HGb hcq
      go_wp2_with fail
      refine(Xz (9-s8.size) (by omega) _).mono ?_
      rintro e w9 ⟨z9,rfl,hz9,hg9'⟩
      have hzl:z9.size=9-s8.size:=by rw [←Ze,hz9,List.length_replicate]
      have HB9:Hid (Lib.IsBuilder 93 5 wq.heap.size wq.heap.size (Lib.byteCells l) w9):=(by
       rcases HB8.out with h|h
       ·exact .inl (ZA h hg9')
       ·exact .inr (ZA h hg9'))
      have HGB9:Hid (wq.grownBy w9 none):=Za HGB8.out hg9'
      have HN9:Hid (TbI false (H++[g]) q (l++z9.data.toList++s8.data.toList)):=HTb.out.next (by simp;omega) (by rw [HX ()];exact hx9) (by rw [HX ()];exact HD8.out) hz9
      clear hz9 hg9' HB8 HGB8
      go_wp2_with fail
      refine(Tryz.Builder_WriteString wq.heap.size wq.heap.size _ z9 _ HB9.out (by rw [Lib.byteCells_length];omega) HGB9.out.size).mono ?_
      rintro e w10 ⟨rfl,hb10,hlw10⟩
      rw [YA]at hb10
      have HB10:Hid (Lib.IsBuilder 93 5 wq.heap.size wq.heap.size (Lib.byteCells (l++z9.data.toList)) w10):=.inr hb10
      have HGB10:Hid (wq.grownBy w10 none):=ZQ HGB9.out hlw10
      have hzl2:z9.data.toList.length=z9.size:=by rw [Array.length_toList];rfl
      clear hb10 hlw10 HB9 HGB9
      go_wp2_with fail
      refine(Tryz.Builder_WriteString wq.heap.size wq.heap.size _ s8 _ HB10.out (by rw [Lib.byteCells_length,List.length_append];omega) HGB10.out.size).mono ?_
      rintro e w11 ⟨rfl,hb11,hlw11⟩
      rw [YA]at hb11
      have HB11:Hid (Lib.IsBuilder 93 5 wq.heap.size wq.heap.size (Lib.byteCells (l++z9.data.toList++s8.data.toList)) w11):=.inr hb11
      have HGB11:Hid (wq.grownBy w11 none):=ZQ HGB10.out hlw11
      clear hb11 hlw11 HB10 HGB10
      go_wp2_with fail
      go_roundw
      case rel=>exact⟨q,_,rfl,by omega,HN9.out,HB11.out,HGB11.out⟩
      case measure=>simp [RowKit.intOf]
   ·skip
    go_wp2_with fail
    refine(Tryz.Builder_WriteByte wq.heap.size wq.heap.size [] 45 _ hf (by decide) (by simp)).mono ?_
    rintro e w4 ⟨rfl,hb4,hlw4⟩
    have HB4:Hid (Lib.IsBuilder 93 5 wq.heap.size wq.heap.size (Lib.byteCells ([45]:List UInt8)) w4):=.inr hb4
    have HGB4:Hid (wq.grownBy w4 none):=ZQ (grow1 _ _) hlw4
    have hc4:=HCG.out _ HGB4.out H.length (by omega)
    rw [hlast]at hc4
    have HGT:Hid (∀x w',x<B9→wq.grownBy w' none→Calls Tryz.prog 157 #[.int .u32 (x:Int)] w' fun e w''=>∃s,e=.returned (.string s)∧Dgs x s∧w'.grownBy w'' none):=fun x w' hx hgw=>XF x (by unfold B9 at hx;omega) w' (HT.out _ (Za HGW.out hgw))
    have hg9:g<B9:=by have:=HRG.out H.length;rwa [hlast]at this
    clear hf hA
    go_wp2_with fail
    refine(HGT.out g _ hg9 HGB4.out).mono ?_
    rintro e w5 ⟨s5,rfl,hs5,hg5⟩
    have HT5:Hid (TbI true (H++[g]) H.length (([45]:List UInt8)++s5.data.toList)):=TbI.first (neg:=true) hg0 hg9 hs5
    have hsz5:=Xc hs5 hg9
    have HB5:Hid (Lib.IsBuilder 93 5 wq.heap.size wq.heap.size (Lib.byteCells ([45]:List UInt8)) w5):=(by
     rcases HB4.out with h|h
     ·exact .inl (ZA h hg5)
     ·exact .inr (ZA h hg5))
    have HGB5:Hid (wq.grownBy w5 none):=Za HGB4.out hg5
    clear hs5 hg5 HB4 HGB4 hc4
    go_wp2_with fail
    refine(Tryz.Builder_WriteString wq.heap.size wq.heap.size _ s5 _ HB5.out (by rw [Lib.byteCells_length];simp;omega) HGB5.out.size).mono ?_
    rintro e w6 ⟨rfl,hb6,hlw6⟩
    rw [YA]at hb6
    have HB6:Hid (Lib.IsBuilder 93 5 wq.heap.size wq.heap.size (Lib.byteCells (([45]:List UInt8)++s5.data.toList)) w6):=.inr hb6
    have HGB6:Hid (wq.grownBy w6 none):=ZQ HGB5.out hlw6
    clear hb6 hlw6 HB5 HGB5
    go_wp2_with fail
    go_loopw [7] (fun t wz=>∃(k:Nat) (l:List UInt8),t=.int .i64 k∧k≤H.length∧TbI true (H++[g]) k l∧Lib.IsBuilder 93 5 wq.heap.size wq.heap.size (Lib.byteCells l) wz∧wq.grownBy wz none) (fun t _=>(RowKit.intOf t).toNat)
    case atStart=>exact⟨H.length,_,rfl,Nat.le_refl _,HT5.out,HB6.out,HGB6.out⟩
    case round =>
     obtain⟨k,l,rfl,hk,hTb,hBb,hGb⟩:=hrel
     have HTb:Hid (TbI true (H++[g]) k l):=hTb
     have HBb:Hid (Lib.IsBuilder 93 5 wq.heap.size wq.heap.size (Lib.byteCells l) wr):=hBb
     have HGb:Hid (wq.grownBy wr none):=hGb
     have hll:l.length≤2000000:=by
      obtain⟨D,hl,_,_,_,_,lD⟩:=hTb
      have:=congrArg List.length hl
      simp at this lD
      omega
     clear hTb hBb hGb
     by_cases hk0:k=0
     ·subst hk0
      have hl0:l≠[]:=by
       obtain⟨D,hl,_,nD,_⟩:=HTb.out
       intro e
       subst e
       have hlen:=congrArg List.length hl
       rw [List.length_map,List.length_nil,List.length_append]at hlen
       exact nD (List.length_eq_zero_iff.1 (by omega))
      have HFT:Hid (TextOf (num true mag) ⟨l.toArray⟩):=HTb.out.last (HNN ())
      go_wp2_with fail
      refine(Tryz.Builder_String wq.heap.size wq.heap.size l _ HBb.out hl0).mono ?_
      rintro e w7 ⟨rfl,hlw7⟩
      have HG7:Hid (w.grownBy w7 none):=Za HGW.out (ZQ HGb.out hlw7)
      clear hlw7 HBb HGb
      go_wp2_with fail
      go_ret2
      exact⟨_,rfl,HFT.out,HG7.out⟩
     ·obtain⟨q,rfl⟩:∃q,k=q+1:=⟨k-1,by omega⟩
      have hcq:=HCG.out _ HGb.out q (by omega)
      have hx9:=HRG.out q
      obtain⟨x,hx⟩:∃x,(H++[g])[q]?.getD 0=x:=⟨_,rfl⟩
      have HX:Unit→(H++[g])[q]?.getD 0=x:=fun _=>hx
      rw [hx]at hcq hx9
      have hqI:(q:Int)≤131071:=by omega
      clear hx
      go_wp2_with fail
      refine(HGT.out x _ hx9 HGb.out).mono ?_
      rintro e w8 ⟨s8,rfl,hs8,hg8⟩
      have hsz8:=Xc hs8 hx9
      have hsI:(s8.size:Int)≤9:=by omega
      have hs1:1≤s8.size:=by have:=hs8.1.2.1;omega
      have h9s:(9:Int)-s8.size=((9-s8.size:Nat):Int):=by omega
      have HD8:Hid (Dgs x s8):=hs8
      have HB8:Hid (Lib.IsBuilder 93 5 wq.heap.size wq.heap.size (Lib.byteCells l) w8):=(by
       rcases HBb.out with h|h
       ·exact .inl (ZA h hg8)
       ·exact .inr (ZA h hg8))
      have HGB8:Hid (wq.grownBy w8 none):=Za HGb.out hg8
      clear hs8 hg8 HBb HGb hcq
      go_wp2_with fail
      refine(Xz (9-s8.size) (by omega) _).mono ?_
      rintro e w9 ⟨z9,rfl,hz9,hg9'⟩
      have hzl:z9.size=9-s8.size:=by rw [←Ze,hz9,List.length_replicate]
      have HB9:Hid (Lib.IsBuilder 93 5 wq.heap.size wq.heap.size (Lib.byteCells l) w9):=(by
       rcases HB8.out with h|h
       ·exact .inl (ZA h hg9')
       ·exact .inr (ZA h hg9'))
      have HGB9:Hid (wq.grownBy w9 none):=Za HGB8.out hg9'
      have HN9:Hid (TbI true (H++[g]) q (l++z9.data.toList++s8.data.toList)):=HTb.out.next (by simp;omega) (by rw [HX ()];exact hx9) (by rw [HX ()];exact HD8.out) hz9
      clear hz9 hg9' HB8 HGB8
      go_wp2_with fail
      refine(Tryz.Builder_WriteString wq.heap.size wq.heap.size _ z9 _ HB9.out (by rw [Lib.byteCells_length];omega) HGB9.out.size).mono ?_
      rintro e w10 ⟨rfl,hb10,hlw10⟩
      rw [YA]at hb10
      have HB10:Hid (Lib.IsBuilder 93 5 wq.heap.size wq.heap.size (Lib.byteCells (l++z9.data.toList)) w10):=.inr hb10
      have HGB10:Hid (wq.grownBy w10 none):=ZQ HGB9.out hlw10
      have hzl2:z9.data.toList.length=z9.size:=by rw [Array.length_toList];rfl
      clear hb10 hlw10 HB9 HGB9
      go_wp2_with fail
      refine(Tryz.Builder_WriteString wq.heap.size wq.heap.size _ s8 _ HB10.out (by rw [Lib.byteCells_length,List.length_append];omega) HGB10.out.size).mono ?_
      rintro e w11 ⟨rfl,hb11,hlw11⟩
      rw [YA]at hb11
      have HB11:Hid (Lib.IsBuilder 93 5 wq.heap.size wq.heap.size (Lib.byteCells (l++z9.data.toList++s8.data.toList)) w11):=.inr hb11
      have HGB11:Hid (wq.grownBy w11 none):=ZQ HGB10.out hlw11
      clear hb11 hlw11 HB10 HGB10
      go_wp2_with fail
      go_roundw
      case rel=>exact⟨q,_,rfl,by omega,HN9.out,HB11.out,HGB11.out⟩
      case measure=>simp [RowKit.intOf]
  ·have hL0:0<nv B32 L:=by
     rcases Nat.eq_zero_or_pos (nv B32 L)with e|e
     ·exact absurd ((Yb tL).1 e) (by omega)
     ·exact e
   have HCB:Hid (Calls Tryz.prog 155 #[.slice da dm dc,.int .u32 1000000000] wr fun e w'=>∃K,e=.returned (.int .u32 ((nv B32 L % B9:Nat):Int))∧K.length=L.length∧(∀x∈K,x<B32)∧nv B32 K=nv B32 L / B9∧Row w' (w.alloc (wObj neg mag)).heap.size (.slice da dm dc) K∧wr.grownBy w' (Value.slice da dm dc).ownBlock):=Zai wr _ B9 _ L hL rL (by decide) (by decide) (by omega)
   have hdmI:(dm:Int)≤4096:=by omega
   have hdI0:(0:Int)<dm:=by omega
   have hsI:(sm:Int)≤131072:=by omega
   have HALL:Hid (Row wr (w.alloc (wObj neg mag)).heap.size (.slice sa sm sc) G∧Row wr (w.alloc (wObj neg mag)).heap.size (.slice da dm dc) L∧Apt (.slice sa sm sc) (.slice da dm dc)∧(∀x∈G,x<B9)∧L.length≤4096∧G.length+bl (nv B32 L)≤131072∧nv B9 G+B9 ^ G.length*nv B32 L=n∧(w.alloc (wObj neg mag)).grownBy wr none∧0<nv B32 L):=⟨hG,hL,hp,rG,lL,hbl,hn,hg,hL0⟩
   have hblg:=Vu hL0
   have hsm2:sm+1≤131072:=by omega
   have HDM:Unit→dm=L.length:=fun _=>hdm
   have HSM:Unit→sm=G.length:=fun _=>hsm
   clear hG hL hp rG rL tL lL hbl hn htop hg hL0 hblg hdm hsm hd0
   go_wp2_with fail
   refine HCB.out.mono ?_
   rintro e w2 ⟨K,rfl,lK,rK,vK,hK,g2⟩
   obtain⟨r,hr⟩:∃r,nv B32 L % B9=r:=⟨_,rfl⟩
   rw [hr]
   have HR1:Hid (Row (w2.alloc (.cells #[.int .u32 (r:Int)] 145)) (w.alloc (wObj neg mag)).heap.size (.slice sa sm sc) G):=(by
    have h2:=HALL.out.1.kept g2 (by rcases HALL.out.2.2.1 with h|h;exact .inl h;exact .inr h)
    exact h2.kept (grow1 _ _) (by cases (Value.slice sa sm sc).ownBlock<;>simp))
   have hsz2:(w.alloc (wObj neg mag)).heap.size≤w2.heap.size:=Nat.le_trans HALL.out.2.2.2.2.2.2.2.1.size g2.size
   have HK:Hid (K.length=L.length∧(∀x∈K,x<B32)∧nv B32 K=nv B32 L / B9∧Row w2 (w.alloc (wObj neg mag)).heap.size (.slice da dm dc) K∧wr.grownBy w2 (Value.slice da dm dc).ownBlock):=⟨lK,rK,vK,hK,g2⟩
   clear lK rK vK hK g2 HCB
   go_wp2_with (at_builtin;refine ZB rfl _ _ rfl (w.alloc (wObj neg mag)).heap.size (.slice sa sm sc) G r rfl HR1.out (by have:=HSM ();omega) (Nat.le_trans hsz2 (by simp)) ⟨w2.heap.size,0,none⟩ rfl (by simp) ?_)
   intro v' w3 hR' hg' ho'
   rw [show w.heap.size+1=(w.alloc (wObj neg mag)).heap.size by simp]at hR'
   have HS:Hid (Row w3 (w.alloc (wObj neg mag)).heap.size v' (G++[r])∧(w2.alloc (.cells #[.int .u32 (r:Int)] 145)).grownBy w3 (Value.slice sa sm sc).ownBlock∧(v'.ownBlock=(Value.slice sa sm sc).ownBlock∨v'.ownBlock=some (w2.heap.size+1))):=⟨hR',hg',ho'⟩
   obtain⟨va,vc,hv'⟩:=hR'.d4.slice
   rw [List.length_append,List.length_singleton,←HSM ()]at hv'
   subst hv'
   have hKd:Row w3 (w.alloc (wObj neg mag)).heap.size (.slice da dm dc) K:=(by
    have k1:=HK.out.2.2.2.1.kept (grow1 w2 (.cells #[.int .u32 (r:Int)] 145)) (by cases (Value.slice da dm dc).ownBlock<;>simp)
    exact k1.kept hg' (by rcases HALL.out.2.2.1.swap with h|h;exact .inl h;exact .inr h))
   have HTR:Hid (Calls Tryz.prog 154 #[.slice da dm dc] w3 fun e w'=>∃v' k,e=.returned v'∧k≤K.length∧Row w3 (w.alloc (wObj neg mag)).heap.size v' (K.take k)∧nv B32 (K.take k)=nv B32 K∧Trim (K.take k)∧v'.ownBlock=(Value.slice da dm dc).ownBlock∧w'=w3):=Yj w3 _ _ K hKd (by have:=HK.out.1;have:=HDM ();omega)
   clear hR' hg' ho' hKd HR1
   go_wp2_with fail
   refine HTR.out.mono ?_
   rintro e w4 ⟨d',k,rfl,hk,hRk,vk,tk,od,hw4⟩
   subst hw4
   have HF:Hid (TgI (w.alloc (wObj neg mag)) w4 n (.slice va (sm+1) vc) d'):=(by
    obtain⟨a1,a2,a3,a4,a5,a6,a7,a8,a9⟩:=HALL.out
    obtain⟨b1,b2,b3,b4,b5⟩:=HK.out
    obtain⟨c1,c2,c3⟩:=HS.out
    subst hr
    exact TgI.step a1 a2 a3 a4 a5 a6 a7 a8 a9 b2 b1 b3 b5 c1 c2 c3 hRk vk tk od hk)
   obtain⟨da',dc',hd'⟩:=hRk.d4.slice
   have hTL:TgI (w.alloc (wObj neg mag)) w4 n (.slice va (sm+1) vc) d':=HF.out
   generalize(K.take k).length=dm' at hd'
   subst hd'
   clear hRk vk tk od HTR HS HK HALL hTL
   go_wp2_with fail
   go_roundw
   case rel=>exact⟨⟨_,_,_,rfl⟩,⟨_,_,_,rfl⟩,HF.out⟩
   case measure=>simp;omega
theorem Z5:TextOf (num false eS) ⟨#[48]⟩:=by
 refine⟨?_,?_⟩
 ·decide
 ·decide
theorem Zdk (w:World) :
    Calls Tryz.prog 132 #[whole false eS] w fun e w'=>∃s,e=.returned (.tuple #[.string s,.int .i64 0])∧TextOf (num false eS) s∧w.grownBy w' none:=by
 have HC:Hid (∀w,Calls Tryz.prog 139 #[whole false eS] w fun e w'=>e=.returned (.int .i64 0)∧w'=w.alloc (wObj false eS)):=fun w=>Yn false eS (by decide) w
 have HF:Hid (TextOf (num false eS) ⟨#[48]⟩):=Z5
 go_enter Tryz.func132,Tryz.ntmps132
 go_wp2_with (go_at_call 139;refine(HC.out _).mono ?_;rintro e w' ⟨rfl,rfl⟩)
 go_region_held3 (fun w'=>w'.cell? ⟨w.heap.size,0,none⟩=some (Value.bool false)∧w'.cell? ⟨w.heap.size,1,none⟩=some (Value.string eS)) (first|(go_keep;done)|fail) (first|(go_at_call 140;refine(Z0 _).mono ?_;rintro e w' ⟨rfl,rfl⟩)|fail)
 go_wp2_with fail
 go_ret2
 exact⟨_,rfl,HF.out,Zf (grow3 _ _ _ _)⟩
theorem Ze8 (neg : Bool) (mag : ByteArray) (h : may neg mag = true) (w : World) (htab : Lib.TabIs Tryz.prog w "internal/strconv.uint64pow10" .u64 Lib.pow10Tab) :
    Calls Tryz.prog 132 #[whole neg mag] w fun e w'=>∃s,e=.returned (.tuple #[.string s,.int .i64 0])∧TextOf (num neg mag) s∧w.grownBy w' none:=by
 by_cases h0:mag.size=0
 ·obtain rfl:=Zi h0
  obtain rfl:=Yf h
  exact Zdk w
 ·exact Zfr neg mag h h0 w htab
theorem UW {D:List Nat} (hd:∀b∈D,isDig b) (h0:D≠[]) (hh:D.head?.getD 0≠48):10 ^ (D.length-1)≤dec D:=by
 cases D with
 |nil=>exact absurd rfl h0
 |cons a D =>
  have ha:=hd a (by simp)
  unfold isDig at ha
  simp at hh
  rw [Yv,List.length_cons,Nat.add_sub_cancel]
  have:1*10 ^ D.length≤(a-48)*10 ^ D.length:=Nat.mul_le_mul_right _ (by omega)
  omega
theorem ZbX:∀(A B:List Nat),A.length=B.length→(∀b∈A,isDig b)→(∀b∈B,isDig b)→dec A=dec B→A=B
 |[],[],_,_,_,_=>rfl
 |[],_::_,h,_,_,_=>by simp at h
 |_::_,[],h,_,_,_=>by simp at h
 |a::A,b::B,h,hA,hB,e=>by
  have hl:A.length=B.length:=by simpa using h
  have ha:=hA a (by simp)
  have hb:=hB b (by simp)
  have l1:=Xh A (fun x hx=>hA x (List.mem_cons_of_mem _ hx))
  have l2:=Xh B (fun x hx=>hB x (List.mem_cons_of_mem _ hx))
  rw [Yv,Yv,hl]at e
  rw [hl]at l1
  unfold isDig at ha hb
  have h1:a-48=b-48:=by
   have e1:((a-48)*10 ^ B.length+dec A) / 10 ^ B.length=((b-48)*10 ^ B.length+dec B) / 10 ^ B.length:=by rw [e]
   rw [Nat.mul_comm (a-48),Nat.mul_comm (b-48),Nat.mul_add_div (Nat.pow_pos (by decide)),Nat.mul_add_div (Nat.pow_pos (by decide)),Nat.div_eq_of_lt l1,Nat.div_eq_of_lt l2]at e1
   omega
  rw [h1]at e
  have h2:dec A=dec B:=by omega
  rw [ZbX A B hl (fun x hx=>hA x (List.mem_cons_of_mem _ hx)) (fun x hx=>hB x (List.mem_cons_of_mem _ hx)) h2]
  congr 1
  omega
theorem VN {s t:ByteArray} (hs:plain s) (ht:plain t) (e:dec (bN s)=dec (bN t)):s=t:=by
 have ls:=Ze s
 have lt:=Ze t
 have key:∀ {s t:ByteArray},plain s→plain t→dec (bN s)=dec (bN t)→¬(bN s).length<(bN t).length:=by
  intro s t hs ht e hlt
  have ls:=Ze s
  have lt:=Ze t
  have h1:=Xh (bN s) hs.1
  have h0:=hs.2.1
  have h2:=UW ht.1 (by intro e;rw [e]at hlt;simp at hlt) (by rcases ht.2.2 with h|h;omega;exact h)
  have:10 ^ (bN s).length≤10 ^ ((bN t).length-1):=Nat.pow_le_pow_right (by decide) (by omega)
  omega
 have hl:(bN s).length=(bN t).length:=by
  have:=key hs ht e
  have:=key ht hs e.symm
  omega
 exact Yx (ZbX _ _ hl hs.1 ht.1 e)
theorem TextOf.one {z:Int} {s t:ByteArray} (hs:TextOf z s) (ht:TextOf z t):s=t:=by
 obtain⟨⟨ps,ns⟩,es⟩:=hs
 obtain⟨⟨pt,nt⟩,et⟩:=ht
 have he:=es.trans et.symm
 unfold textZ at he
 have nz:∀ {s:ByteArray},plain (bare s)→bN s≠[45,48]→(bN s).head?=some 45→dec (bN (bare s))≠0:=by
  intro s ps ns hh e
  apply ns
  have hb:=YF hh
  have hz:bare s=⟨#[48]⟩:=VN ps (by decide) (by rw [e];decide)
  rw [hz]at hb
  cases hc:bN s with
  |nil=>rw [hc]at hh;simp at hh
  |cons a l =>
   rw [hc]at hb hh
   have hb':bN ⟨#[48]⟩=l:=hb
   have hh':a=45:=by simpa using hh
   rw [hh',←hb']
   rfl
 by_cases h1:(bN s).head?=some 45<;>by_cases h2:(bN t).head?=some 45
 ·rw [if_pos h1,if_pos h2]at he
  have hb:bare s=bare t:=VN ps pt (by omega)
  have b1:=YF h1
  have b2:=YF h2
  rw [hb]at b1
  apply Yx
  cases hs:bN s with
  |nil=>rw [hs]at h1;simp at h1
  |cons a l =>
   cases ht:bN t with
   |nil=>rw [ht]at h2;simp at h2
   |cons c m =>
    rw [hs]at h1 b1
    rw [ht]at h2 b2
    simp at h1 h2 b1 b2
    rw [h1,h2,←b1,←b2]
 ·rw [if_pos h1,if_neg h2]at he
  have:=nz ps ns h1
  omega
 ·rw [if_neg h1,if_pos h2]at he
  have:=nz pt nt h2
  omega
 ·rw [if_neg h1,if_neg h2]at he
  have b1:bare s=s:=by unfold bare;rw [if_neg h1]
  have b2:bare t=t:=by unfold bare;rw [if_neg h2]
  rw [b1,b2]at he
  rw [b1]at ps
  rw [b2]at pt
  exact VN ps pt (by omega)
def decR (l:List Nat):Nat:=dec l.reverse
theorem Ze9:decR []=0:=rfl
theorem Zeh (l:List Nat) (b:Nat):decR (l++[b])=decR l+10 ^ l.length*(b-48):=by
 unfold decR
 rw [List.reverse_append,List.reverse_singleton,List.singleton_append,Yv,List.length_reverse,Nat.mul_comm,Nat.add_comm]
theorem D4.keptA {w w':World} {v:Value} {L:List Nat} {row:Option Nat} (h:D4 w v L) (hg:w.grownBy w' row) (ha:L=[]∨∀b n c,v=.slice (some b) n c→some b.block≠row):D4 w' v L:=by
 rcases h with h|⟨B,off,c,rfl,hc,h⟩
 ·exact .inl h
 ·refine .inr ⟨B,off,c,rfl,hc,fun j hj=>?_⟩
  rcases ha with rfl|ha
  ·simp at hj
  ·exact Zd hg (h j hj) (fun e=>ha _ _ _ rfl e.symm)
theorem RowB.lt {w:World} {base g:Nat} {v:Value} {L:List Nat} (h:RowB w base v L) (hg:v.ownBlock=some g):base≤g∧g<w.heap.size:=by
 rcases h.2 with ⟨rfl,_⟩|⟨g',cap,cur,rfl,hb,hgg,_⟩
 ·cases hg
 ·cases hg
  exact⟨hb,(Array.getElem?_eq_some_iff.1 hgg).1⟩
theorem RowB.slice {w:World} {base:Nat} {v:Value} {L:List Nat} (h:RowB w base v L):∃ab c,v=.slice ab L.length c:=by
 rcases h.cases with ⟨e,e'⟩|⟨g,c,e,_⟩
 ·subst e';exact⟨_,_,e⟩
 ·exact⟨_,_,e⟩
theorem Uk {w wr w':World} {v:Value} {L:List Nat} (hg:w.grownBy wr none) (hR:RowB wr w.heap.size v L) (k:wr.grownBy w' v.ownBlock):w.grownBy w' none:=by
 cases hob:v.ownBlock with
 |none=>rw [hob]at k;exact Za hg k
 |some g=>rw [hob]at k;exact Zq hg (hR.lt hob).1 k
def Aside (w:World) (l:Value) (L:List Nat) (out:Value):Prop:=D4 w l L∧(L=[]∨∀b n c,l=.slice (some b) n c→b.block<w.heap.size∧some b.block≠out.ownBlock)
theorem Aside.grow {w w':World} {l out out':Value} {L:List Nat} (h:Aside w l L out) (hg:w.grownBy w' out.ownBlock) (ho:out'.ownBlock=out.ownBlock∨∃g,out'.ownBlock=some g∧w.heap.size≤g):Aside w' l L out':=by
 obtain⟨hd,ha⟩:=h
 refine⟨hd.keptA hg ?_,?_⟩
 ·rcases ha with e|ha
  ·exact .inl e
  ·exact .inr fun b n c e=>(ha b n c e).2
 ·rcases ha with e|ha
  ·exact .inl e
  ·right
   intro b n c e
   obtain⟨h1,h2⟩:=ha b n c e
   refine⟨Nat.lt_of_lt_of_le h1 hg.size,?_⟩
   rcases ho with e2|⟨g,e2,hlt⟩
   ·rw [e2];exact h2
   ·rw [e2]
    intro e3
    have:=Option.some.inj e3
    omega
def GrI (w wr:World) (n:Nat) (l out:Value) (L:List Nat) (i r:Nat):Prop :=
 ∃O,RowB wr w.heap.size out O∧Aside wr l L out∧(∀b∈O,isDig b)∧O.length≤2000000∧i≤9∧r*10 ^ i<10 ^ 9∧i≤O.length∧decR O+10 ^ O.length*r+10 ^ (O.length-i)*(10 ^ 9*nv B32 L)=n∧(nv B32 L=0→0<r∨∃P b,O=P++[b]∧b≠48)∧O.length+9*bl (nv B32 L)+9≤9*131072+i∧w.grownBy wr none
def OtI (w wr:World) (n:Nat) (l out:Value) (L:List Nat):Prop :=
 ∃O,RowB wr w.heap.size out O∧Aside wr l L out∧(∀x∈L,x<B32)∧Trim L∧L.length≤4096∧(∀b∈O,isDig b)∧decR O+10 ^ O.length*nv B32 L=n∧(nv B32 L=0→∃P b,O=P++[b]∧b≠48)∧O.length+9*bl (nv B32 L)≤9*131072∧w.grownBy wr none
theorem GrI.step {w wr w':World} {n:Nat} {l out out':Value} {L:List Nat} {i r:Nat} {O:List Nat}
    (hR:RowB wr w.heap.size out O) (hA:Aside wr l L out) (hd:∀b∈O,isDig b) (hi:i<9) (hr:r*10 ^ i<10 ^ 9) (hio:i≤O.length) (hv:decR O+10 ^ O.length*r+10 ^ (O.length-i)*(10 ^ 9*nv B32 L)=n) (hgo:0<L.length∨0<r) (htz:nv B32 L=0 ↔ L.length=0) (hl:O.length+9*bl (nv B32 L)+9≤9*131072+i) (hg:w.grownBy wr none)
    (hR':RowB w' w.heap.size out' (O++[48+r % 10])) (hg':(wr.alloc (.cells #[.int .u8 ((48+r % 10:Nat):Int)] 5)).grownBy w' out.ownBlock) (ho:out'.ownBlock=out.ownBlock∨out'.ownBlock=some (wr.heap.size+1)):GrI w w' n l out' L (i+1) (r / 10):=by
 have hA1:Aside (wr.alloc (.cells #[.int .u8 ((48+r % 10:Nat):Int)] 5)) l L out:=⟨hA.1.kept (grow1 _ _),by
  rcases hA.2 with e|ha
  ·exact .inl e
  ·exact .inr fun b n c e=>⟨by have:=(ha b n c e).1;simp;omega,(ha b n c e).2⟩⟩
 refine⟨O++[48+r % 10],hR',hA1.grow hg' ?_,?_,by simp;omega,by omega,?_,by simp;omega,?_,?_,?_,?_⟩
 ·rcases ho with e|e
  ·exact .inl e
  ·exact .inr ⟨_,e,by simp⟩
 ·intro b hb
  rcases List.mem_append.1 hb with h|h
  ·exact hd b h
  ·simp at h;subst h;unfold isDig;omega
 ·rw [Nat.pow_succ,←Nat.mul_assoc,Nat.mul_right_comm]
  have:r / 10*10≤r:=Nat.div_mul_le_self r 10
  exact Nat.lt_of_le_of_lt (Nat.mul_le_mul_right _ this) hr
 ·rw [Zeh,List.length_append,List.length_singleton,Nat.pow_succ,show O.length+1-(i+1)=O.length-i by omega,←hv,Nat.add_sub_cancel_left]
  have:r=r % 10+10*(r / 10):=by omega
  have e:10 ^ O.length*r=10 ^ O.length*(r % 10)+10 ^ O.length*10*(r / 10):=by
   rw [Nat.mul_assoc,←Nat.mul_add,←this]
  omega
 ·intro hz
  by_cases h1:r / 10=0
  ·right
   refine⟨O,_,rfl,?_⟩
   have:=htz.1 hz
   omega
  ·exact .inl (by omega)
 ·simp;omega
 ·exact Uk (Za hg (grow1 _ _)) (hR.kept (grow1 _ _) (by cases out.ownBlock<;>simp)) hg'
theorem GrI.done {w wr:World} {n:Nat} {l out:Value} {L:List Nat} {i r:Nat} (h:GrI w wr n l out L i r) (hend:i=9∨(L.length=0∧r=0)) (rL:∀x∈L,x<B32) (tL:Trim L) (lL:L.length≤4096):OtI w wr n l out L:=by
 obtain⟨O,hR,hA,hd,_,hi,hr,hio,hv,htop,hlen,hg⟩:=h
 have htz:=Yb tL
 have hr0:r=0:=by
  rcases hend with rfl|h
  ·rcases Nat.eq_zero_or_pos r with e|e
   ·exact e
   ·have:1*10 ^ 9≤r*10 ^ 9:=Nat.mul_le_mul_right _ e
    omega
  ·exact h.2
 subst hr0
 refine⟨O,hR,hA,rL,tL,lL,hd,?_,fun hz=>?_,by omega,hg⟩
 ·rw [←hv,Nat.mul_zero,Nat.add_zero]
  rcases hend with rfl|h
  ·rw [←Nat.mul_assoc,←Nat.pow_add,Nat.sub_add_cancel hio]
  ·rw [htz.2 h.1];simp
 ·rcases htop hz with h|h
  ·omega
  ·exact h
def Turned (O M:List Nat) (i:Nat):Prop:=M.length=O.length∧∀j,j<O.length→M[j]?.getD 0=if j<i∨O.length≤j+i then O[O.length-1-j]?.getD 0 else O[j]?.getD 0
theorem Turned.done {O M:List Nat} {i:Nat} (h:Turned O M i) (hi:O.length≤i+i+1):M=O.reverse:=by
 apply List.ext_getElem?
 intro j
 by_cases hj:j<O.length
 ·have:=h.2 j hj
  rw [List.getElem?_eq_getElem (by rw [h.1];exact hj),List.getElem?_eq_getElem (by simpa using hj),List.getElem_reverse]
  rw [List.getElem?_eq_getElem (by rw [h.1];exact hj),Option.getD_some]at this
  rw [this]
  split
  ·rw [List.getElem?_eq_getElem (by omega)];rfl
  ·rename_i hc
   rw [List.getElem?_eq_getElem hj]
   have e:j=O.length-1-j:=by omega
   simp only [Option.getD_some]
   congr 1
   congr 1
 ·rw [List.getElem?_eq_none (by rw [h.1];omega),List.getElem?_eq_none (by simp;omega)]
theorem Turned.step {O M:List Nat} {i:Nat} (h:Turned O M i) (hi:i+i+1<O.length):Turned O ((M.set i (M[O.length-1-i]?.getD 0)).set (O.length-1-i) (M[i]?.getD 0)) (i+1):=by
 refine⟨by simp [h.1],fun j hj=>?_⟩
 have hi1:=h.2 i (by omega)
 have hi2:=h.2 (O.length-1-i) (by omega)
 rw [if_neg (by omega)]at hi1
 rw [if_neg (by omega)]at hi2
 by_cases h1:j=O.length-1-i
 ·subst h1
  rw [List.getElem?_set_self (by simp [h.1];omega),if_pos (by omega),Option.getD_some,hi1,show O.length-1-(O.length-1-i)=i by omega]
 ·rw [List.getElem?_set_ne (by omega)]
  by_cases h2:j=i
  ·subst h2
   rw [List.getElem?_set_self (by rw [h.1];omega),if_pos (by omega),Option.getD_some,hi2]
  ·rw [List.getElem?_set_ne (by omega),h.2 j hj]
   by_cases h3:j<i∨O.length≤j+i
   ·rw [if_pos h3,if_pos (by omega)]
   ·rw [if_neg h3,if_neg (by omega)]
theorem ZaK {neg:Bool} {mag s:ByteArray} {O:List Nat} (hd:∀b∈O,isDig b) (htop:∃P b,O=P++[b]∧b≠48) (hv:decR O=val (bN mag)) (hs:bN s=(O++(if neg then [45]else [])).reverse):TextOf (num neg mag) s:=by
 refine Yo (D:=O.reverse) ?_ (fun b hb=>hd b (by simpa using hb)) ?_ ?_ hv
 ·rw [hs,List.reverse_append]
  cases neg<;>simp
 ·obtain⟨P,b,rfl,_⟩:=htop
  simp
 ·obtain⟨P,b,rfl,hb⟩:=htop
  simpa using hb
theorem Zds (neg:Bool) (mag:ByteArray) (h:may neg mag=true) (h0:mag.size≠0) (w:World) :
    Calls Tryz.prog 87 #[whole neg mag] w fun e w'=>∃s,e=.returned (.string s)∧TextOf (num neg mag) s∧w.grownBy w' none:=by
 have hms:=ZH h
 have he:=Zu h0
 go_enter Tryz.func87,Tryz.ntmps87
 go_wp2_with fail
 refine(Zae mag hms _).mono ?_
 rintro e w1 ⟨B,L0,rfl,hB,hBk,g1,lL,rL,vL⟩
 obtain⟨n,hn⟩:∃n,val (bN mag)=n:=⟨_,rfl⟩
 have HN:Unit→val (bN mag)=n:=fun _=>hn
 have HI0:Hid (OtI (w.alloc (wObj neg mag)) w1 n (.slice (some ⟨B,0,none⟩) L0.length L0.length) (.slice none 0 0) L0):=(by
  have hv0:=Vq h h0
  refine⟨[],⟨rfl,.inl ⟨rfl,rfl⟩⟩,⟨hBk.d4,.inr fun b m c e=>?_⟩,rL,YL h lL rL vL,by omega,by simp,by rw [vL,hn];simp [Ze9],fun e=>absurd (vL.symm.trans e) hv0,?_,g1⟩
  ·cases e
   exact⟨hBk.lt,by simp [Value.ownBlock]⟩
  ·rw [vL,List.length_nil,Nat.zero_add]
   have hlt:=Xx (bN mag) (Xg mag)
   rw [Ze]at hlt
   have:=JH hlt
   omega)
 clear hB hBk lL rL vL hn he g1
 go_wp2_with fail
 go_loopw [3,4] (fun o l wr=>(∃a m c,o=.slice a m c)∧(∃a m c,l=.slice a m c)∧∃L,OtI (w.alloc (wObj neg mag)) wr n l o L) (fun o _ _=>9*131072+1-(match o with|.slice _ m _=>m|_=>0))
 case atStart=>exact⟨⟨_,_,_,rfl⟩,⟨_,_,_,rfl⟩,L0,HI0.out⟩
 case round =>
  obtain⟨⟨oa,om,oc,rfl⟩,⟨la,lm,lc,rfl⟩,L,hI⟩:=hrel
  obtain⟨O,hO,hA,rL,tL,lL,dO,hv,htop,hlen,hg⟩:=hI
  have hlm:lm=L.length:=by
   obtain⟨_,_,e⟩:=hA.1.slice
   exact(Value.slice.inj e).2.1
  have hom:om=O.length:=by
   obtain⟨_,_,e⟩:=hO.slice
   exact(Value.slice.inj e).2.1
  by_cases hl0:lm=0
  ·subst hl0
   have hz:=(Yb tL).2 hlm.symm
   have htp:=htop hz
   rw [hz,Nat.mul_zero,Nat.add_zero]at hv
   have hA0:WBlk wr w.heap.size (.bool neg) (.string mag):=WBlk.kept (heap_alloc_new _ _) hg (by simp)
   have hcA:=hA0.c0
   have HG:Hid ((w.alloc (wObj neg mag)).grownBy wr none):=hg
   have HTX:Hid (∀s,bN s=(O++(if neg then [45]else [])).reverse→TextOf (num neg mag) s):=fun s hs=>ZaK dO htp (hv.trans (HN ()).symm) hs
   have HO:Hid (RowB wr (w.alloc (wObj neg mag)).heap.size (.slice oa om oc) O):=hO
   have hO9:Unit→om=O.length∧O.length≤9*131072:=fun _=>⟨hom,by omega⟩
   have hO1:Unit→0<O.length:=fun _=>by
    obtain⟨P,b,e,_⟩:=htp
    rw [e];simp
   have hb256:Hid (∀x∈O,x<256):=fun x hx=>by have:=dO x hx;unfold isDig at this;omega
   have homI:(om:Int)≤1179648:=by omega
   clear hA rL tL lL dO hv htop hlen hg hlm hom hz htp hA0 HI0 hO
   cases neg
   ·have HO2:Hid (RowB wr (w.alloc (wObj false mag)).heap.size (.slice oa om oc) O):=HO.out
    have HG2:Hid ((w.alloc (wObj false mag)).grownBy wr none):=HG.out
    have HB2:Hid (∀x∈O,x<256):=hb256.out
    have HL:Unit→O.length=om:=fun _=>by have:=hO9 ();omega
    obtain⟨rb,hra,hrc⟩:∃rb,oa=some ⟨rb,0,none⟩∧om≤oc:=by
     rcases HO2.out.cases with ⟨_,e⟩|⟨gb,cc,e,_,hc⟩
     ·have:=HL ();have:=hO1 ();have:=hO9 ();rw [e]at this;simp at *;omega
     ·obtain⟨e1,e2,e3⟩:=Value.slice.inj e
      exact⟨gb,e1,by rw [e3];have:=HL ();omega⟩
    subst hra
    have hmI:((om:Nat):Int)≤1179649:=by omega
    have hm0:0<om:=by have:=HL ();have:=hO1 ();have:=hO9 ();omega
    clear homI
    generalize hPP:O=P at *
    generalize om=m at *
    generalize wr=wp at *
    have HG3:Hid ((w.alloc (wObj false mag)).grownBy wp none):=HG2.out
    go_wp2_with fail
    go_loopw [8,9] (fun s t wz=>∃(i:Nat) (M:List Nat),s=.int .i64 i∧t=.int .i64 ((m:Int)-1-i)∧i≤m∧(i+i≤m+1)∧Turned P M i∧(∀x∈M,x<256)∧RowB wz (w.alloc (wObj false mag)).heap.size (.slice (some ⟨rb,0,none⟩) m oc) M∧(w.alloc (wObj false mag)).grownBy wz none) (fun s _ _=>m-(RowKit.intOf s).toNat)
    case atStart=>exact⟨0,P,rfl,Zl (by omega),by omega,by omega,⟨rfl,fun j hj=>by rw [if_neg (by omega)]⟩,HB2.out,HO2.out,HG3.out⟩
    case round =>
     obtain⟨i,M,rfl,rfl,hi,hii,hT,hM2,hR,hgz⟩:=hrel
     have HT:Hid (Turned P M i):=hT
     have HM2:Hid (∀x∈M,x<256):=hM2
     have HRz:Hid (RowB wr (w.alloc (wObj false mag)).heap.size (.slice (some ⟨rb,0,none⟩) m oc) M):=hR
     have HGz:Hid ((w.alloc (wObj false mag)).grownBy wr none):=hgz
     have hMl:M.length=m:=hT.1.trans (HL ())
     by_cases hlt:i+i+1<m
     ·obtain⟨k,hk⟩:∃k,m-1-i=k:=⟨_,rfl⟩
      have hkI:(m:Int)-1-i=(k:Int):=by omega
      have c1:=RowB.cell (by rw [hMl];exact hR) i (by omega)
      have c2:=RowB.cell (by rw [hMl];exact hR) k (by omega)
      have f1:=hR.frozen i
      have f2:=hR.frozen k
      have hik:(i:Int)<k:=by omega
      have hkm:(k:Int)<m:=by omega
      have hne:i≠k:=by omega
      have x1:M[i]?.getD 0<256:=by
       cases h:M[i]? with
       |none=>decide
       |some x=>exact hM2 x (List.mem_iff_getElem?.2 ⟨i,h⟩)
      have x2:M[k]?.getD 0<256:=by
       cases h:M[k]? with
       |none=>decide
       |some x=>exact hM2 x (List.mem_iff_getElem?.2 ⟨k,h⟩)
      have HST:Hid (Turned P ((M.set i (M[k]?.getD 0)).set k (M[i]?.getD 0)) (i+1)):=(by
       have h:=HT.out.step (by rw [HL ()];exact hlt)
       rw [HL (),hk]at h
       exact h)
      have HM3:Hid (∀x∈(M.set i (M[k]?.getD 0)).set k (M[i]?.getD 0),x<256):=(by
       intro x hx
       rcases List.mem_or_eq_of_mem_set hx with h|h
       ·rcases List.mem_or_eq_of_mem_set h with h|h
        ·exact HM2.out x h
        ·rw [h];exact x2
       ·rw [h];exact x1)
      have HR3:Hid (RowB ((wr.setCell ⟨rb,i,none⟩ (.int .u8 ((M[k]?.getD 0:Nat):Int))).setCell ⟨rb,k,none⟩ (.int .u8 ((M[i]?.getD 0:Nat):Int))) (w.alloc (wObj false mag)).heap.size (.slice (some ⟨rb,0,none⟩) m oc) ((M.set i (M[k]?.getD 0)).set k (M[i]?.getD 0))):=(HRz.out.set i (M[k]?.getD 0)).set k (M[i]?.getD 0)
      have hbr:=(hR.lt rfl).1
      have HG4:Hid ((w.alloc (wObj false mag)).grownBy ((wr.setCell ⟨rb,i,none⟩ (.int .u8 ((M[k]?.getD 0:Nat):Int))).setCell ⟨rb,k,none⟩ (.int .u8 ((M[i]?.getD 0:Nat):Int))) none):=Zb (Zb HGz.out hbr) hbr
      clear hT hM2 hR hgz hbr
      generalize M[i]?.getD 0=x at *
      generalize M[k]?.getD 0=y at *
      rw [hkI]
      go_wp2_with fail
      go_roundw
      case rel=>exact⟨i+1,_,rfl,Zl (by omega),by omega,by omega,HST.out,HM3.out,HR3.out,HG4.out⟩
      case measure=>simp [RowKit.intOf];omega
     ·have hMr:=HT.out.done (by rw [HL ()];omega)
      have hcv:=YM (w:=wr) (s:=.slice (some ⟨rb,0,none⟩) m oc) (L:=ints M) (.inr ⟨rb,0,oc,by rw [Zk,hMl],fun j u hj=>by
       have hjl:j<M.length:=by
        have:=(List.getElem?_eq_some_iff.1 hj).1
        simpa [ints]using this
       have hcc:=RowB.cell (by rw [hMl];exact hR) j hjl
       rw [Nat.zero_add]
       rw [hcc]
       rw [←hj]
       simp [ints,hjl]⟩)
      have HTT:Hid (TextOf (num false mag) (strOf (ints M))):=HTX.out _ (by rw [Yk M hM2,hMr,←hPP];simp)
      have hnlt:¬(i:Int)<(m:Int)-1-i:=by omega
      clear hT hM2 hR hgz hMr
      generalize strOf (ints M)=st at *
      go_wp2_with fail
      go_ret
      exact⟨st,rfl,HTT.out,Za (grow1 _ _) HGz.out⟩
   ·have hbs2:(w.alloc (wObj true mag)).heap.size≤(wr.alloc (.cells #[.int .u8 45] 5)).heap.size:=Nat.le_trans HG.out.size (by simp)
    have HR1:Hid (RowB (wr.alloc (.cells #[.int .u8 45] 5)) (w.alloc (wObj true mag)).heap.size (.slice oa om oc) O):=HO.out.kept (grow1 _ _) (by cases (Value.slice oa om oc).ownBlock<;>simp)
    go_wp2_with (at_builtin;refine Z4 rfl _ _ rfl (w.alloc (wObj true mag)).heap.size (.slice oa om oc) O 45 rfl HR1.out (by have:=hO9 ();omega) hbs2 ⟨wr.heap.size,0,none⟩ rfl (by simp) ?_)
    intro v' w4 hR' hg' ho'
    rw [show w.heap.size+1=(w.alloc (wObj true mag)).heap.size by simp]at hR'
    obtain⟨ra,rc,hv'⟩:=hR'.slice
    rw [List.length_append,List.length_singleton,←(hO9 ()).1]at hv'
    subst hv'
    have HO2:Hid (RowB w4 (w.alloc (wObj true mag)).heap.size (.slice ra (om+1) rc) (O++[45])):=hR'
    have HG2:Hid ((w.alloc (wObj true mag)).grownBy w4 none):=Uk (Za HG.out (grow1 _ _)) HR1.out hg'
    have HB2:Hid (∀x∈O++[45],x<256):=(by
     intro x hx
     rcases List.mem_append.1 hx with h|h
     ·exact hb256.out x h
     ·simp at h;omega)
    clear hR' hg' ho' HR1 hbs2
    have HL:Unit→(O++[45]).length=om+1:=fun _=>by have:=hO9 ();simp;omega
    obtain⟨rb,hra,hrc⟩:∃rb,ra=some ⟨rb,0,none⟩∧om+1≤rc:=by
     rcases HO2.out.cases with ⟨_,e⟩|⟨gb,cc,e,_,hc⟩
     ·simp at e
     ·obtain⟨e1,e2,e3⟩:=Value.slice.inj e
      exact⟨gb,e1,by rw [e3];have:=HL ();omega⟩
    subst hra
    have hmI:((om+1:Nat):Int)≤1179649:=by omega
    have hm0:0<om+1:=by have:=HL ();have:=hO1 ();have:=hO9 ();omega
    clear homI
    generalize hPP:O++[45]=P at *
    generalize om+1=m at *
    generalize w4=wp at *
    have HG3:Hid ((w.alloc (wObj true mag)).grownBy wp none):=HG2.out
    go_wp2_with fail
    go_loopw [8,9] (fun s t wz=>∃(i:Nat) (M:List Nat),s=.int .i64 i∧t=.int .i64 ((m:Int)-1-i)∧i≤m∧(i+i≤m+1)∧Turned P M i∧(∀x∈M,x<256)∧RowB wz (w.alloc (wObj true mag)).heap.size (.slice (some ⟨rb,0,none⟩) m rc) M∧(w.alloc (wObj true mag)).grownBy wz none) (fun s _ _=>m-(RowKit.intOf s).toNat)
    case atStart=>exact⟨0,P,rfl,Zl (by omega),by omega,by omega,⟨rfl,fun j hj=>by rw [if_neg (by omega)]⟩,HB2.out,HO2.out,HG3.out⟩
    case round =>
     obtain⟨i,M,rfl,rfl,hi,hii,hT,hM2,hR,hgz⟩:=hrel
     have HT:Hid (Turned P M i):=hT
     have HM2:Hid (∀x∈M,x<256):=hM2
     have HRz:Hid (RowB wr (w.alloc (wObj true mag)).heap.size (.slice (some ⟨rb,0,none⟩) m rc) M):=hR
     have HGz:Hid ((w.alloc (wObj true mag)).grownBy wr none):=hgz
     have hMl:M.length=m:=hT.1.trans (HL ())
     by_cases hlt:i+i+1<m
     ·obtain⟨k,hk⟩:∃k,m-1-i=k:=⟨_,rfl⟩
      have hkI:(m:Int)-1-i=(k:Int):=by omega
      have c1:=RowB.cell (by rw [hMl];exact hR) i (by omega)
      have c2:=RowB.cell (by rw [hMl];exact hR) k (by omega)
      have f1:=hR.frozen i
      have f2:=hR.frozen k
      have hik:(i:Int)<k:=by omega
      have hkm:(k:Int)<m:=by omega
      have hne:i≠k:=by omega
      have x1:M[i]?.getD 0<256:=by
       cases h:M[i]? with
       |none=>decide
       |some x=>exact hM2 x (List.mem_iff_getElem?.2 ⟨i,h⟩)
      have x2:M[k]?.getD 0<256:=by
       cases h:M[k]? with
       |none=>decide
       |some x=>exact hM2 x (List.mem_iff_getElem?.2 ⟨k,h⟩)
      have HST:Hid (Turned P ((M.set i (M[k]?.getD 0)).set k (M[i]?.getD 0)) (i+1)):=(by
       have h:=HT.out.step (by rw [HL ()];exact hlt)
       rw [HL (),hk]at h
       exact h)
      have HM3:Hid (∀x∈(M.set i (M[k]?.getD 0)).set k (M[i]?.getD 0),x<256):=(by
       intro x hx
       rcases List.mem_or_eq_of_mem_set hx with h|h
       ·rcases List.mem_or_eq_of_mem_set h with h|h
        ·exact HM2.out x h
        ·rw [h];exact x2
       ·rw [h];exact x1)
      have HR3:Hid (RowB ((wr.setCell ⟨rb,i,none⟩ (.int .u8 ((M[k]?.getD 0:Nat):Int))).setCell ⟨rb,k,none⟩ (.int .u8 ((M[i]?.getD 0:Nat):Int))) (w.alloc (wObj true mag)).heap.size (.slice (some ⟨rb,0,none⟩) m rc) ((M.set i (M[k]?.getD 0)).set k (M[i]?.getD 0))):=(HRz.out.set i (M[k]?.getD 0)).set k (M[i]?.getD 0)
      have hbr:=(hR.lt rfl).1
      have HG4:Hid ((w.alloc (wObj true mag)).grownBy ((wr.setCell ⟨rb,i,none⟩ (.int .u8 ((M[k]?.getD 0:Nat):Int))).setCell ⟨rb,k,none⟩ (.int .u8 ((M[i]?.getD 0:Nat):Int))) none):=Zb (Zb HGz.out hbr) hbr
      clear hT hM2 hR hgz hbr
      generalize M[i]?.getD 0=x at *
      generalize M[k]?.getD 0=y at *
      rw [hkI]
      go_wp2_with fail
      go_roundw
      case rel=>exact⟨i+1,_,rfl,Zl (by omega),by omega,by omega,HST.out,HM3.out,HR3.out,HG4.out⟩
      case measure=>simp [RowKit.intOf];omega
     ·have hMr:=HT.out.done (by rw [HL ()];omega)
      have hcv:=YM (w:=wr) (s:=.slice (some ⟨rb,0,none⟩) m rc) (L:=ints M) (.inr ⟨rb,0,rc,by rw [Zk,hMl],fun j u hj=>by
       have hjl:j<M.length:=by
        have:=(List.getElem?_eq_some_iff.1 hj).1
        simpa [ints]using this
       have hcc:=RowB.cell (by rw [hMl];exact hR) j hjl
       rw [Nat.zero_add]
       rw [hcc]
       rw [←hj]
       simp [ints,hjl]⟩)
      have HTT:Hid (TextOf (num true mag) (strOf (ints M))):=HTX.out _ (by rw [Yk M hM2,hMr,←hPP];simp)
      have hnlt:¬(i:Int)<(m:Int)-1-i:=by omega
      clear hT hM2 hR hgz hMr
      generalize strOf (ints M)=st at *
      go_wp2_with fail
      go_ret
      exact⟨st,rfl,HTT.out,Za (grow1 _ _) HGz.out⟩
  ·have hL0:0<nv B32 L:=by
     rcases Nat.eq_zero_or_pos (nv B32 L)with e|e
     ·exact absurd ((Yb tL).1 e) (by omega)
     ·exact e
   have hlI0:(0:Int)<lm:=by omega
   have hlI:(lm:Int)≤4096:=by omega
   have hsm:=Jl wr _ L B9 hA.1 rL (by omega) (by decide) (by decide)
   have HSM:Hid (Calls Tryz.prog 112 #[.slice la lm lc,.int .u64 1000000000] wr fun e w'=>∃v K,e=.returned (.tuple #[v,.int .u64 ((nv B32 L % B9:Nat):Int)])∧D4 w' v K∧(∀x∈K,x<B32)∧nv B32 K=nv B32 L / B9∧K.length≤L.length∧Trim K∧(∃g,v.ownBlock=some g∧wr.heap.size≤g∧g<w'.heap.size)∧wr.grownBy w' none):=hsm
   have HALL:Hid (RowB wr (w.alloc (wObj neg mag)).heap.size (.slice oa om oc) O∧L.length≤4096∧(∀b∈O,isDig b)∧decR O+10 ^ O.length*nv B32 L=n∧O.length+9*bl (nv B32 L)≤9*131072∧(w.alloc (wObj neg mag)).grownBy wr none∧0<nv B32 L):=⟨hO,lL,dO,hv,hlen,hg,hL0⟩
   have HOM:Unit→om=O.length:=fun _=>hom
   clear hO hA rL tL lL dO hv htop hlen hg hlm hom hL0 hsm hl0
   go_wp2_with fail
   refine HSM.out.mono ?_
   rintro e w2 ⟨v,K,rfl,dK,rK,vK,lK,tK,hvo,g2⟩
   have hrl:nv B32 L % B9<10 ^ 9:=Nat.mod_lt _ (by decide)
   have HG0:Hid (GrI (w.alloc (wObj neg mag)) w2 n v (.slice oa om oc) K 0 (nv B32 L % B9)):=(by
    obtain⟨a1,a2,a3,a4,a5,a6,a7⟩:=HALL.out
    obtain⟨g,hvg,hg1,hg2⟩:=hvo
    have hb:=Vu a7
    rw [←vK]at hb
    refine⟨O,a1.kept g2 (by cases (Value.slice oa om oc).ownBlock<;>simp),⟨dK,.inr fun b m c e=>?_⟩,a3,by omega,by omega,by simpa using hrl,by omega,?_,fun hz=>?_,by omega,Za a6 g2⟩
    ·rw [e]at hvg
     have hbg:b.block=g:=by simpa [Value.ownBlock]using hvg
     refine⟨by omega,fun e2=>?_⟩
     have:=(a1.lt e2.symm).2
     omega
    ·rw [←a4,vK,Nat.sub_zero,Nat.add_assoc,←Nat.mul_add]
     congr 2
     have:=Nat.div_add_mod (nv B32 L) B9
     have e9:10 ^ 9=B9:=by decide
     rw [e9]
     omega
    ·left
     rw [vK]at hz
     have:=Nat.div_add_mod (nv B32 L) B9
     rw [hz]at this
     omega)
   have HR0:Hid (K.length=0→0<nv B32 L % B9):=(by
    intro hz
    obtain⟨a1,a2,a3,a4,a5,a6,a7⟩:=HALL.out
    have h1:=(Yb tK).2 hz
    rw [vK]at h1
    have:=Nat.div_add_mod (nv B32 L) B9
    rw [h1]at this
    omega)
   have HK:Hid ((∀x∈K,x<B32)∧Trim K∧K.length≤4096):=⟨rK,tK,Nat.le_trans lK HALL.out.2.1⟩
   have HOM2:Unit→om≤9*131072-9:=fun _=>by
    obtain⟨a1,a2,a3,a4,a5,a6,a7⟩:=HALL.out
    have hb:=Vu a7
    have:=HOM ()
    omega
   obtain⟨va,vc,hv⟩:=dK.slice
   subst hv
   generalize nv B32 L % B9=r0 at *
   have hkI:(K.length:Int)≤4096:=by have:=HK.out.2.2;omega
   obtain⟨km,hkm⟩:∃km,K.length=km:=⟨_,rfl⟩
   have HKM:Unit→K.length=km:=fun _=>hkm
   rw [hkm]at HG0 hkI HR0 ⊢
   clear dK rK vK lK tK hvo g2 HSM hkm
   go_wp2_with fail
   go_loopw [3,6,7] (fun o s t wz=>∃(i r m:Nat) (a:Option Addr) (c:Nat),o=.slice a m c∧s=.int .u64 r∧t=.int .i64 i∧om+i=m∧i≤9∧r<1000000000∧(0<i∨wz=w2∧r=r0)∧GrI (w.alloc (wObj neg mag)) wz n (.slice va km vc) o K i r) (fun _ _ t _=>9-(RowKit.intOf t).toNat)
   case atStart=>exact⟨0,r0,om,oa,oc,rfl,rfl,rfl,rfl,by omega,by simpa using hrl,.inr ⟨rfl,rfl⟩,HG0.out⟩
   case round =>
    obtain⟨i,r,m,a,c,rfl,rfl,rfl,hom,hi9,hr9,hi0,hGr⟩:=hrel
    have HGr:Hid (GrI (w.alloc (wObj neg mag)) wr n (.slice va km vc) (.slice a m c) K i r):=hGr
    have hrI:(r:Int)≤999999999:=by omega
    clear hGr
    by_cases hgo:i<9∧(0<km∨0<r)
    ·have hi8:(i:Int)≤8:=by omega
     obtain⟨Y,hY⟩:∃Y,48+r % 10=Y:=⟨_,rfl⟩
     have hY2:(48:Int)+(r:Int) % 10=(Y:Int):=by omega
     have hYI:(Y:Int)≤57:=by omega
     have hr10:((r / 10:Nat):Int)=(r:Int) / 10:=by simp
     obtain⟨O',b1,b2,b3,b4,b5,b6,b7,b8,b9,b10,b11⟩:=HGr.out
     have hmO:m=O'.length:=by
      obtain⟨_,_,e⟩:=b1.slice
      exact(Value.slice.inj e).2.1
     have hOl:O'.length≤2000000:=b4
     have hbase:=b11.size
     have HR1:Hid (RowB (wr.alloc (.cells #[.int .u8 (Y:Int)] 5)) (w.alloc (wObj neg mag)).heap.size (.slice a m c) O'):=b1.kept (grow1 _ _) (by cases (Value.slice a m c).ownBlock<;>simp)
     have HST:Hid (∀v' w',RowB w' (w.alloc (wObj neg mag)).heap.size v' (O'++[Y])→(wr.alloc (.cells #[.int .u8 (Y:Int)] 5)).grownBy w' (Value.slice a m c).ownBlock→(v'.ownBlock=(Value.slice a m c).ownBlock∨v'.ownBlock=some (wr.heap.size+1))→(∃a' c',v'=.slice a' (m+1) c')∧GrI (w.alloc (wObj neg mag)) w' n (.slice va km vc) v' K (i+1) (r / 10)):=(by
      intro v' w' hR' hg' ho'
      subst hY
      refine⟨?_,GrI.step b1 b2 b3 hgo.1 b6 b7 b8 (by rw [HKM ()];exact hgo.2) (Yb HK.out.2.1) b10 b11 hR' hg' ho'⟩
      obtain⟨a',c',e⟩:=hR'.slice
      rw [List.length_append,List.length_singleton,←hmO]at e
      exact⟨a',c',e⟩)
     have hmI:(m:Int)≤2000000:=by omega
     have HOL:Unit→O'.length≤1000000000:=fun _=>by omega
     clear b1 b2 b3 b4 b5 b6 b7 b8 b9 b10 b11 hY hmO hOl
     have hw1:IntKind.u8.wrap (Y:Int)=(Y:Int):=by rw [IntKind.wrap_u8];omega
     have hbs2:(w.alloc (wObj neg mag)).heap.size≤(wr.alloc (.cells #[.int .u8 (Y:Int)] 5)).heap.size:=Nat.le_trans hbase (by simp)
     by_cases hk0:0<km
     ·have hkI0:(0:Int)<km:=by omega
      go_wp2_with (at_builtin;refine Z4 rfl _ _ rfl (w.alloc (wObj neg mag)).heap.size (.slice a m c) O' Y rfl HR1.out (HOL ()) hbs2 ⟨wr.heap.size,0,none⟩ rfl (by simp) ?_)
      intro v' w3 hR' hg' ho'
      rw [show w.heap.size+1=(w.alloc (wObj neg mag)).heap.size by simp]at hR'
      obtain⟨⟨a',c',rfl⟩,hG'⟩:=HST.out v' w3 hR' hg' ho'
      have HG':Hid (GrI (w.alloc (wObj neg mag)) w3 n (.slice va km vc) (.slice a' (m+1) c') K (i+1) (r / 10)):=hG'
      clear hR' hg' ho' hG' HST HR1
      go_wp2_with fail
      go_roundw
      case rel=>exact⟨i+1,r / 10,m+1,a',c',rfl,Zl (by omega),rfl,by omega,by omega,by omega,.inl (by omega),HG'.out⟩
      case measure=>simp [RowKit.intOf];omega
     ·obtain rfl:km=0:=by omega
      have hrI0:(0:Int)<r:=by omega
      go_wp2_with (at_builtin;refine Z4 rfl _ _ rfl (w.alloc (wObj neg mag)).heap.size (.slice a m c) O' Y rfl HR1.out (HOL ()) hbs2 ⟨wr.heap.size,0,none⟩ rfl (by simp) ?_)
      intro v' w3 hR' hg' ho'
      rw [show w.heap.size+1=(w.alloc (wObj neg mag)).heap.size by simp]at hR'
      obtain⟨⟨a',c',rfl⟩,hG'⟩:=HST.out v' w3 hR' hg' ho'
      have HG':Hid (GrI (w.alloc (wObj neg mag)) w3 n (.slice va 0 vc) (.slice a' (m+1) c') K (i+1) (r / 10)):=hG'
      clear hR' hg' ho' hG' HST HR1
      go_wp2_with fail
      go_roundw
      case rel=>exact⟨i+1,r / 10,m+1,a',c',rfl,Zl (by omega),rfl,by omega,by omega,by omega,.inl (by omega),HG'.out⟩
      case measure=>simp [RowKit.intOf];omega
    ·have hend:i=9∨(km=0∧r=0):=by omega
     have hOT:=HGr.out.done (by rw [HKM ()];exact hend) HK.out.1 HK.out.2.1 HK.out.2.2
     have HOT:Hid (OtI (w.alloc (wObj neg mag)) wr n (.slice va km vc) (.slice a m c) K):=hOT
     have hmb:m≤9*131072:=by
      obtain⟨O',b1,_,_,_,_,_,_,_,b9,_⟩:=hOT
      obtain⟨_,_,e⟩:=b1.slice
      have:=(Value.slice.inj e).2.1
      omega
     have hip:1≤i:=by
      rcases hend with e|⟨e1,e2⟩
      ·omega
      ·rcases hi0 with h|⟨_,h⟩
       ·exact h
       ·have:=HR0.out e1
        omega
     clear hOT
     by_cases hi8:i<9
     ·have hkm0:km=0:=by omega
      have hr0:r=0:=by omega
      subst hkm0
      subst hr0
      have hi8I:(i:Int)≤8:=by omega
      go_wp2_with fail
      go_roundw
      case rel=>exact⟨⟨_,_,_,rfl⟩,⟨_,_,_,rfl⟩,K,HOT.out⟩
      case measure=>simp;omega
     ·obtain rfl:i=9:=by omega
      go_wp2_with fail
      go_roundw
      case rel=>exact⟨⟨_,_,_,rfl⟩,⟨_,_,_,rfl⟩,K,HOT.out⟩
      case measure=>simp;omega
theorem Zcm (w:World) :
    Calls Tryz.prog 87 #[whole false eS] w fun e w'=>∃s,e=.returned (.string s)∧TextOf (num false eS) s∧w.grownBy w' none:=by
 have HF:Hid (TextOf (num false eS) ⟨#[48]⟩):=Z5
 go_enter Tryz.func87,Tryz.ntmps87
 go_wp2_with fail
 go_ret
 exact⟨_,rfl,HF.out,grow1 _ _⟩
theorem VR (neg:Bool) (mag:ByteArray) (h:may neg mag=true) (w:World) :
    Calls Tryz.prog 87 #[whole neg mag] w fun e w'=>∃s,e=.returned (.string s)∧TextOf (num neg mag) s∧w.grownBy w' none:=by
 by_cases h0:mag.size=0
 ·obtain rfl:=Zi h0
  obtain rfl:=Yf h
  exact Zcm w
 ·exact Zds neg mag h h0 w
end Go.Proofs.YtdcadiaeaclpgaaGreatDoor
