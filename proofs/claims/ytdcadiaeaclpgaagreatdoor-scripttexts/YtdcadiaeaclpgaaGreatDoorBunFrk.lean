/-
  The document's Fits and Told of fractions; the law's told; frac's Small.
  The laws' known, of what it asks.
-/
import Derived.Test.YtdcadiaeaclpgaaGreatDoorFri
import Derived.Test.YtdcadiaeaclpgaaGreatDoorBunFrb
import Derived.Deep.RegionWith
namespace Go.Proofs.YtdcadiaeaclpgaaGreatDoor
open Go.RowKit Go.Lib Go.Sort
set_option linter.unusedVariables false
set_option maxHeartbeats 1600000
set_option maxRecDepth 1000000
theorem rfits_any (n d:Bool) (s t:ByteArray) (z1:s.size≤maxLen) (z2:t.size≤maxLen) (w:World) :
    Calls Tryz.prog 121 #[frac n s d t] w fun e w'=>e=.returned (.bool (fitsB s t))∧w'=w.alloc (qObj n s d t):=by
 unfold maxLen at z1 z2
 have z1I:(s.size:Int)≤9223372036854775807:=by omega
 have z2I:(t.size:Int)≤9223372036854775807:=by omega
 by_cases h1:s.size≤1024
 ·have h1I:(s.size:Int)≤1024:=by omega
  by_cases h2:t.size≤1024
  ·have h2I:(t.size:Int)≤1024:=by omega
   have hb:fitsB s t=true:=decide_eq_true ⟨h1,h2⟩
   rw [hb]
   clear z1 z2 h1 h2 hb
   go_enter Tryz.func121,Tryz.ntmps121
   go_wp2
   go_ret
   exact ⟨ret_bool (by first | rfl | (simp; omega)),rfl⟩
  ·have h2I:(1025:Int)≤(t.size:Int):=by omega
   have hb:fitsB s t=false:=decide_eq_false (fun h=>h2 h.2)
   rw [hb]
   clear z1 z2 h1 h2 hb
   go_enter Tryz.func121,Tryz.ntmps121
   go_wp2
   go_ret
   exact ⟨ret_bool (by first | rfl | (simp; omega)),rfl⟩
 ·have h1I:(1025:Int)≤(s.size:Int):=by omega
  have hb:fitsB s t=false:=decide_eq_false (fun h=>h1 h.1)
  rw [hb]
  clear z1 z2 h1 hb
  go_enter Tryz.func121,Tryz.ntmps121
  go_wp2
  go_ret
  exact ⟨ret_bool (by first | rfl | (simp; omega)),rfl⟩
abbrev b1:ByteArray:=⟨#[1]⟩
abbrev b2:ByteArray:=⟨#[2]⟩
abbrev b3:ByteArray:=⟨#[3]⟩
abbrev b6:ByteArray:=⟨#[6]⟩
end Go.Proofs.YtdcadiaeaclpgaaGreatDoor
