/- Small laws on worlds that only grow, on strings' bytes and on the numbers that a walk shows. Of no one function. -/
import Derived.Test.YtdcadiaeaclpgaaGreatDoorRows
import Derived.WalkKit
import Derived.Deep.LoopGhost
import Derived.Lib.Walk
import Derived.Sort.WalkB12
import Derived.Lib.SlicesMore
import Derived.Lib.OwnBridge
import Derived.Lib.EndianBits
import Derived.Lib.AppendStr
import Derived.Deep.QuietTactic
import Derived.BigQuiet
import Derived.WalkMore
import Derived.Deep.RegionHeld3
import Derived.Laws.AppendOwnNone
namespace Go.Proofs.YtdcadiaeaclpgaaGreatDoor
open Go.RowKit Go.Lib Go.Sort
abbrev encB:Int→Value:=Value.int .u8
abbrev enc4:Int→Value:=Value.int .u32
theorem Za {a b c:World} {row:Option Nat} (h:a.grownBy b row) (k:b.grownBy c row):a.grownBy c row :=
 ⟨k.os.trans h.os,k.tape.trans h.tape,k.output.trans h.output,Nat.le_trans h.size k.size,fun i hi hn=>(k.block i (Nat.lt_of_lt_of_le hi h.size) hn).trans (h.block i hi hn)⟩
theorem Xk {a b:World} {row:Option Nat} (h:a.grownBy b none):a.grownBy b row :=
 ⟨h.os,h.tape,h.output,h.size,fun i hi _=>h.block i hi (by simp)⟩
theorem ZC {a b:World} {row:Option Nat} (h:a.grownBy b row) (n:Nat):a.grownBy (b.drewN n) row :=
 ⟨h.os,h.tape,h.output,h.size,fun i hi hn=>h.block i hi hn⟩
theorem Zc (a:World) (g o:Nat) (v:Value):a.grownBy (a.setCell ⟨g,o,none⟩ v) (some g) :=
 ⟨rfl,rfl,rfl,by simp [World.setCell],fun i _ hn=>Below.heap_setCell _ _ _ _ (by intro e;exact hn (by rw [e]))⟩
theorem ZG {w w':World} (h:Below w.heap.size w w'):w.grownBy w' none:=⟨h.os,h.tape,h.output,h.size,fun k hk _=>h.block k hk⟩
theorem Yg {w w':World} (h:w.grownBy w' none):Below w.heap.size w w':=⟨h.os,h.tape,h.output,h.size,fun k hk=>h.block k hk (by simp)⟩
theorem Zq {a b c:World} {rb:Nat} (h:a.grownBy b none) (hb:a.heap.size≤rb) (k:b.grownBy c (some rb)):a.grownBy c none :=
 ⟨k.os.trans h.os,k.tape.trans h.tape,k.output.trans h.output,Nat.le_trans h.size k.size,fun i hi hn=>(k.block i (Nat.lt_of_lt_of_le hi h.size) (by intro e;cases e;omega)).trans (h.block i hi hn)⟩
theorem Zd {a b:World} {row:Option Nat} {g o:Nat} {v:Value} (h:a.grownBy b row) (hc:a.cell? ⟨g,o,none⟩=some v) (hn:row≠some g):b.cell? ⟨g,o,none⟩=some v:=by
 have hlt:g<a.heap.size:=by
  rcases Nat.lt_or_ge g a.heap.size with hlt|hge
  ·exact hlt
  ·exfalso
   have:a.heap[g]?=Option.none:=Array.getElem?_eq_none hge
   simp [World.cell?,this]at hc
 rw [←hc]
 exact World.cell?_of_block (h.block g hlt (by intro e;exact hn e.symm))
theorem Zv {k:IntKind} {a b:Int} (h:a=b):Ending.returned (.int k a)=.returned (.int k b):=by rw [h]
theorem Zh {a b:Bool} (h:a=b):Ending.returned (.bool a)=.returned (.bool b):=by rw [h]
theorem XY {a b:Value} (h:a=b):Ending.returned a=.returned b:=by rw [h]
theorem Zl {k:IntKind} {a b:Int} (h:a=b):Value.int k a=.int k b:=by rw [h]
abbrev whole (neg:Bool) (mag:ByteArray):Value:=.agg #[.bool neg,.string mag]
def bN (s:ByteArray):List Nat:=s.data.toList.map UInt8.toNat
theorem Ze (s:ByteArray):(bN s).length=s.size:=by unfold bN;rw [List.length_map,Array.length_toList];rfl
theorem bN_at (s:ByteArray) (i:Nat) (h:i<s.size):(bN s)[i]?=some (s[i].toNat):=by
 have h1:i<s.data.toList.length:=by rw [Array.length_toList];exact h
 have e:s[i]=s.data.toList[i]:=rfl
 rw [e];unfold bN
 rw [List.getElem?_map,List.getElem?_eq_getElem h1];rfl
theorem Xg (s:ByteArray):∀x∈bN s,x<256:=by
 intro x hx
 simp only [bN,List.mem_map]at hx
 obtain⟨b,_,rfl⟩:=hx
 exact b.toNat_lt
theorem Yx {s t:ByteArray} (h:bN s=bN t):s=t:=by
 apply ByteArray.ext
 apply Array.toList_inj.1
 unfold bN at h
 exact(List.map_inj_right (fun a b hab=>UInt8.toNat_inj.1 hab)).1 h
theorem Zi {s:ByteArray} (h:s.size=0):s=ByteArray.empty:=by
 apply ByteArray.ext
 apply Array.eq_empty_of_size_eq_zero
 exact h
theorem Zu {s:ByteArray} (h:¬s.size=0):s.toList.isEmpty=false:=by
 rw [ByteArray.toList_eq,List.isEmpty_eq_false_iff]
 intro e
 apply h
 have:s.data.toList.length=0:=by rw [e];rfl
 rw [Array.length_toList]at this
 exact this
def val (l:List Nat):Nat:=l.foldl (fun n b=>n*256+b) 0
theorem val_nil:val []=0:=rfl
theorem Yi (l:List Nat) (b:Nat):val (l++[b])=val l*256+b:=by simp [val,List.foldl_append]
def may (neg:Bool) (mag:ByteArray):Bool:=if mag.size=0 then !neg else decide (mag.size≤16384) && (bN mag).head?.getD 0 != 0
def formed (neg:Bool) (mag:ByteArray):Bool:=if mag.size=0 then !neg else(bN mag).head?.getD 0 != 0
theorem Yl (s:ByteArray) (h:0<s.size):(bN s).head?.getD 0=s[0].toNat:=by
 rw [List.head?_eq_getElem?,bN_at s 0 h];rfl
end Go.Proofs.YtdcadiaeaclpgaaGreatDoor
