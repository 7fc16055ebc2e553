/-
  The walk over 'written', where the slice is empty, whatever its address.
-/
import Derived.Test.YtanbnefdodkniaaWtn
namespace Go.Proofs.Ytanbnefdodkniaa
open Go.RowKit Go.Lib Go.Sort

theorem run_append_nothing5 (w : World) (ty : TypeId) (d a : Addr) (c0 c : Nat) : (Builtin.append_ #[33, 33] ty #[.slice (some d) 0 c0, .slice (some a) 0 c]).run Try.prog w = .ok (.slice (some d) 0 c0) w := by
  obtain ⟨i1, hi, hz0, hz1, hz2⟩ := info_parts Try.info5
  simp [Builtin.append_, run_underlying Try.underlying33, sizeOf, typeInfo, hi, Builtin.lenOf, Builtin.firstCells, loadCells, loadCellsFrom, storeCells]
theorem wpList_append_nothing5 {w : World} {ops : Array Oper} {rest : List Oper} {o : Oper} {a : Act} {Q : Exit → Act → World → Prop} (hgd : o.guard = none) (s x : Operand)
    (ho : o.op = .call { callee := .builtin .append, args := #[s, x], argTypes := #[33, 33] }) (d ad : Addr) (c0 c : Nat) (hs : a.eval s = .slice (some d) 0 c0) (hx : a.eval x = .slice (some ad) 0 c)
    (h : wpList Try.prog ops Q rest (a.put o.dst (.slice (some d) 0 c0)) w) : wpList Try.prog ops Q (o :: rest) a w := by
  refine wpList_plain hgd fun K hK => ?_
  have hrun := run_append_nothing5 w o.type d ad c0 c
  unfold Oper.wp
  simp [execOp, ho, resolve, invoke, builtin, hs, hx, hrun, Result.andThen]
  exact hK _ _ h

set_option maxHeartbeats 2000000 in
set_option maxRecDepth 100000 in
theorem clone_empty (a : Addr) (c : Nat) (w : World) :
    Calls Try.prog 63 #[.slice (some a) 0 c] w fun e w' => ∃ v', e = .returned v' ∧ w'.ownsRow w.heap.size 5 1 v' 0 [] ∧ Below w.heap.size w w' := by
  have q22 : ∀ (w : World) (a : Option Addr) (n c n' c' : Nat), (binOp .eql 33 (.slice a n c) (.slice none n' c')).run Try.prog w = .ok (.bool a.isNone) w := fun w a n c n' c' => Lib.run_eql_slice_nil w _ _ a n c n' c' Try.underlying33
  go_enter Try.func63, Try.ntmps63
  go_wp2_with (at_builtin; refine wpList_append_nothing5 rfl _ _ rfl _ _ _ _ rfl rfl ?_)
  go_ret
  exact ⟨_, rfl, World.ownsRow_made w #[] 0 (Nat.le_refl _) (Nat.zero_le _) (by simp), (Below.refl _ w).alloc (Nat.le_refl _) _⟩

set_option maxHeartbeats 2000000 in
set_option maxRecDepth 100000 in
theorem open_empty (a : Addr) (c : Nat) (w : World) :
    Calls Try.prog 31 #[.slice (some a) 0 c] w fun e w' => ∃ rb v, e = .returned (rp rb) ∧ Rdr w' rb v [] 0 ∧ w.heap.size ≤ rb ∧ w.grownBy w' none := by
  go_enter Try.func31, Try.ntmps31
  go_wp2_with (go_at_call 63; refine (clone_empty a c _).mono ?_; rintro e w1 ⟨v', rfl, hown, hb⟩; obtain ⟨ao, n', c', rfl⟩ := slice_of hown)
  go_ret
  have hl := hown.lt
  refine ⟨w1.heap.size, .slice ao n' c', rfl, ⟨heap_alloc_new w1 _, ownsRow_any (hown.alloc _), ?_, Nat.zero_le _, by simp, by simp⟩, hb.size, grownBy_trans (grownBy_of_below hb) (World.grownBy_alloc _ _ _)⟩
  intro e; have := (hl _ e).2; omega

set_option maxHeartbeats 3200000 in
set_option maxRecDepth 1000000 in
theorem written_empty (a : Addr) (c : Nat) (w : World) : Calls Try.prog 44 #[.slice (some a) 0 c] w fun e w' => e = .returned (.bool true) ∧ w.grownBy w' none := by
  obtain ⟨z, j, ez, hz, hez⟩ : ∃ z j ez, gR [] 0 = (z, j, ez) ∧ ez ≠ 0 := ⟨_, _, _, rfl, by decide⟩
  go_enter Try.func44, Try.ntmps44
  go_wp2_with fail
  refine (open_empty a c w).mono ?_
  rintro e w1 ⟨rb, v, rfl, hr1, hb1, hg1⟩
  go_wp2_with fail
  refine (Number_val 0 0 110 hr1 rfl).mono ?_
  rintro e w2 ⟨rfl, hr2, hg2⟩
  have HG2 : Hid (w.grownBy w2 none) := grownBy_new hg1 hb1 hg2
  clear hr1 hr2 hg1 hg2
  rw [if_neg (by decide)]
  go_wp2_with (go_at_call 41; go_in)
  refine (open_empty a c w2).mono ?_
  rintro e w6 ⟨rb6, v6, rfl, hr6, hb6, hg6⟩
  have HR6 : Hid (Rdr w6 rb6 v6 [] 0) := hr6
  have HG6 : Hid (w.grownBy w6 none) := grownBy_trans HG2.out hg6
  have hb6' : w.heap.size ≤ rb6 := Nat.le_trans HG2.out.size hb6
  clear hr6 hg6 HG2 hb6
  go_wp2_with fail
  have GZ := Gauss_rd w6 rb6 v6 [] 0 HR6.out z j ez hz
  refine GZ.out.mono ?_
  clear GZ
  rintro e w7 ⟨rfl, hr7, hg7⟩
  have HG7 : Hid (w.grownBy w7 none) := grownBy_new HG6.out hb6' hg7
  rw [if_neg hez] at hr7
  rw [if_neg hez]
  have HR7 : Hid (Rdr w7 rb6 v6 [] 0) := hr7
  clear hr7 hg7 HG6 HR6
  go_wp2_with (first | (go_at_call 41; go_in) | (go_at_call 33; refine (place_any _ rb6 v6 [] 0 (HR7.out.al _)).mono ?_; rintro e w' ⟨rfl, rfl⟩))
  go_ret
  exact ⟨rfl, grownBy_trans HG7.out (World.grownBy_alloc _ _ _)⟩
end Go.Proofs.Ytanbnefdodkniaa
