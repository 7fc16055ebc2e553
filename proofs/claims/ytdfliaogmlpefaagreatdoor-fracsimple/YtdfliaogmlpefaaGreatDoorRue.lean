/-
  frac's functions of what has a value; the laws' same, cmp.
-/
import Derived.Test.YtdfliaogmlpefaaGreatDoorBunGar
import Derived.Test.YtdfliaogmlpefaaGreatDoorBunFrp
namespace Go.Proofs.YtdfliaogmlpefaaGreatDoor
open Go.RowKit Go.Lib Go.Sort
set_option linter.unusedVariables false
set_option maxHeartbeats 1600000
set_option maxRecDepth 1000000
theorem fsign_by (n d : Bool) (s t : ByteArray) (c : Int)
    (HM : Hid (∀ w, Calls Tryz.prog 40 #[frac n s d t] w fun e w' => e = .returned (.bool true) ∧ w.grownBy w' none))
    (HS : Hid (∀ w, Calls Tryz.prog 64 #[whole n s] w fun e w' => e = .returned (.int .i64 c) ∧ w.grownBy w' none)) (w : World) :
    Calls Tryz.prog 22 #[frac n s d t] w fun e w' => e = .returned (.int .i64 c) ∧ w.grownBy w' none := by
  go_enter Tryz.func22, Tryz.ntmps22
  go_wp2_with fail
  refine (HM.out _).mono ?_
  rintro e w1 ⟨rfl, g1⟩
  have hQ : QBlk w1 w.heap.size (.bool n) (.string s) (.bool d) (.string t) := QBlk.kept (w := w.alloc (qObj n s d t)) (heap_alloc_new _ _) g1 (by simp)
  have HG : Hid (w.grownBy w1 none) := grownBy_trans (grow1 _ _) g1
  have c0 := hQ.c0
  have c1 := hQ.c1
  clear g1 hQ
  go_wp2_with fail
  refine (HS.out _).mono ?_
  rintro e w2 ⟨rfl, g2⟩
  have HG2 : Hid (w.grownBy w2 none) := grownBy_trans HG.out g2
  clear g2 c0 c1
  go_wp2_with fail
  go_ret
  exact ⟨rfl, HG2.out⟩
theorem fsign_any {x y : Int} {n d : Bool} {s t : ByteArray} (h : IsQ x y n s d t) (w : World) :
    Calls Tryz.prog 22 #[frac n s d t] w fun e w' => e = .returned (.int .i64 (sgn n s)) ∧ w.grownBy w' none :=
  fsign_by n d s t _ (fun w => h.call w) (fun w => sign_yes n s (by have := may_size (h.zn.may (by decide)); unfold maxLen; omega) (h.zn.may (by decide)) w) w
theorem pow_up {k l z : Nat} (h : z < 256 ^ k) (hl : k ≤ l) : z < 256 ^ l := Nat.lt_of_lt_of_le h (Nat.pow_le_pow_right (by decide) hl)
theorem told_fit {N D : Int} {n d : Bool} {s t : ByteArray} (h : IsQ N D n s d t) : toldV n s d t = frac n s d t ∧ toldE s t = 0 := by
  have hm := h.may
  have hf : fitsB s t = true := by
    unfold mayQ at hm
    unfold fitsB
    exact (Bool.and_eq_true_iff.1 hm).1
  unfold toldV toldE
  rw [hf]
  exact ⟨rfl, rfl⟩
theorem low_to {x y N D : Int} {n d : Bool} {s t : ByteArray} (hy : y ≠ 0) (h : IsQ N D n s d t) (e : N * y = x * D) : Low x y n s d t := by
  obtain ⟨e1, e2⟩ := rnd_one hy h.pos h.low e
  exact ⟨e1 ▸ h.zn.1, e2 ▸ h.zd.1⟩
theorem sgn_cmp {n : Bool} {s : ByteArray} (h : may n s = true) : sgn n s = cmpZ (num n s) 0 := by
  unfold cmpZ
  rcases sgn_cases h with ⟨a, _, c, _⟩ | ⟨a, _, c, _⟩ | ⟨a, _, c, _⟩
  · rw [if_neg (by omega), if_pos (by omega), a]
  · rw [if_neg (by omega), if_neg (by omega), a]
  · rw [if_pos (by omega), a]
end Go.Proofs.YtdfliaogmlpefaaGreatDoor
