/-
  Text of -300, as the laws ask it.
-/
import Derived.Test.YtgemkfiippooeaaGreatDoorCtb
import Derived.Test.YtgemkfiippooeaaGreatDoorBunWka
namespace Go.Proofs.YtgemkfiippooeaaGreatDoor
open Go.RowKit Go.Lib Go.Sort

theorem may300 : may true ⟨#[1, 44]⟩ = true := by decide

set_option maxHeartbeats 3200000 in
set_option maxRecDepth 1000000 in
theorem text_known (w : World) (htab : Lib.TabIs Tryz.prog w "internal/strconv.uint64pow10" .u64 Lib.pow10Tab) :
    Calls Tryz.prog 83 #[whole true ⟨#[1, 44]⟩] w fun e w' => e = .returned (.tuple #[.string ⟨#[45, 51, 48, 48]⟩, .int .i64 0]) ∧ w.grownBy w' none := by
  obtain ⟨gp, hgp⟩ := pow10_g
  obtain ⟨i0, hi, hz0, hz1, hz2⟩ := info_parts Tryz.info4
  have HT : Hid (∀ w', w.grownBy w' none → Lib.TabIs Tryz.prog w' "internal/strconv.uint64pow10" .u64 Lib.pow10Tab) := fun w' hg => tab_kept hgp htab hg
  clear htab
  go_enter Tryz.func83, Tryz.ntmps83
  go_wp2_with (go_at_call 78; refine (check_any true ⟨#[1, 44]⟩ (by unfold maxLen; decide) _).mono ?_; rw [chk_yes may300]; rintro e w' ⟨rfl, rfl⟩)
  go_region_held3 (fun w' => w'.cell? ⟨w.heap.size, 0, none⟩ = some (Value.bool true) ∧ w'.cell? ⟨w.heap.size, 1, none⟩ = some (Value.string ⟨#[1, 44]⟩)) (first | (go_keep; done) | fail) (first | (go_at_call 88; refine (zero_any _).mono ?_; rintro e w' ⟨rfl, rfl⟩) | fail)
  go_wp2_with fail
  refine (digitsOf300 _).mono ?_
  rintro e w1 ⟨Bd, rfl, hBd, hD, hg1⟩
  have hg1 := grownBy_undrew hg1
  have hA : WBlk w1 w.heap.size (.bool true) (.string ⟨#[1, 44]⟩) := WBlk.kept (old_alloc _ _ (old_alloc _ _ (heap_alloc_new _ _))) hg1 (by simp)
  have HG1 : Hid (w.grownBy w1 none) := grownBy_trans (grow3 _ _ _ _) hg1
  have hBd1 : w.heap.size < Bd := by simp at hBd; omega
  clear hg1 hBd
  go_wp2_with fail
  go_loopw [4, 5] (fun s d wr => (s = .slice none 0 0 ∧ d = .slice (some ⟨Bd, 0, none⟩) 1 1 ∧ wr = w1) ∨
    (d = .slice (some ⟨Bd, 0, none⟩) 0 1 ∧ (∃ g cap, s = .slice (some ⟨g, 0, none⟩) 1 cap ∧ wr.cell? ⟨g, 0, none⟩ = some (.int .u32 300)) ∧ w.grownBy wr none ∧ WBlk wr w.heap.size (.bool true) (.string ⟨#[1, 44]⟩))) (fun _ d _ => match d with | .slice _ n _ => n | _ => 0)
  case atStart => exact .inl ⟨rfl, rfl, rfl⟩
  case round =>
    rcases hrel with ⟨rfl, rfl, rfl⟩ | ⟨rfl, ⟨g, cap, rfl, hcg⟩, hgr, hAr⟩
    · go_wp2_with fail
      refine (cutBy300 _ Bd hD.lt hD).mono ?_
      rintro e w2 ⟨rfl, hD2, hg2⟩
      have hA2 := hA.kept hg2 (by intro e; injection e with e; omega)
      have HG2 : Hid (w.grownBy w2 none) := grownBy_new HG1.out (by omega) hg2
      have hlt2 : Bd < w2.heap.size := hD2.lt
      clear hg2 hA HG1 hD
      go_wp2_with fail
      refine (trim_one _ Bd (BlkL.kept hD2 (grow_drew (grow2 _ _ _)) (by simp))).mono ?_
      rintro e w3 ⟨rfl, rfl⟩
      go_wp2_with fail
      go_roundw
      case rel =>
        refine .inr ⟨rfl, ⟨_, _, rfl, ?_⟩, grow_drew (grownBy_trans HG2.out (grow2 _ _ _)), WBlk.kept hA2 (grow_drew (grow2 _ _ _)) (by simp)⟩
        have h := heap_alloc2_new w2 (Obj.cells #[Value.int IntKind.u32 300] 87) (Obj.cells (#[Value.int IntKind.u32 300] ++ Builtin.zeroCells #[Value.int IntKind.u32 0] ((Question.appendCap 1 0 87).cut (w2.tape w2.drawn (Question.appendCap 1 0 87)) - 1)) 87)
        show World.cell? _ _ = _
        unfold World.cell?
        simp only [World.drew]
        rw [show (((w2.alloc (Obj.cells #[Value.int IntKind.u32 300] 87)).alloc (Obj.cells (#[Value.int IntKind.u32 300] ++ Builtin.zeroCells #[Value.int IntKind.u32 0] ((Question.appendCap 1 0 87).cut (w2.tape w2.drawn (Question.appendCap 1 0 87)) - 1)) 87))).heap[w2.heap.size + 1]? = _ from h]
        show (#[Value.int IntKind.u32 300] ++ _)[0]? = _
        rw [Array.getElem?_append_left (by simp)]
        rfl
      case measure => simp
    · generalize wr = wq at *
      have hcA := (hAr.kept (grow1 wq (.cells #[.pointer none, .slice none 0 0] 114)) (by simp)).c0
      have hwr : w.heap.size < wq.heap.size := hAr.lt
      have hgl : g < wq.heap.size := by
        rcases Nat.lt_or_ge g wq.heap.size with h | h
        · exact h
        · exfalso
          have : wq.heap[g]? = Option.none := Array.getElem?_eq_none h
          simp [World.cell?, this] at hcg
      have HGr : Hid (w.grownBy wq none) := hgr
      have HCg : Hid (wq.cell? ⟨g, 0, none⟩ = some (.int .u32 300)) := hcg
      clear hgr hA HG1 hD hcg
      go_wp2_with fail
      have hf := Lib.fresh_isBuilder 114 5 wq
      refine (Tryz.Builder_WriteByte wq.heap.size wq.heap.size [] 45 _ hf (by decide) (by simp)).mono ?_
      rintro e w4 ⟨rfl, hb4, hlw4⟩
      have hgB4 : wq.grownBy w4 none := grownBy_of_below (((Below.refl _ wq).alloc (Nat.le_refl _) _).trans hlw4)
      have hc4 := grownBy_cell hgB4 HCg.out (by simp)
      have htb := HT.out _ (grownBy_trans HGr.out hgB4)
      have HG4 : Hid (w.grownBy w4 none) := grownBy_trans HGr.out hgB4
      have HB4 : Hid (Lib.BuilderAt 114 5 wq.heap.size wq.heap.size (.pointer (some ⟨wq.heap.size, 0, none⟩)) ([] ++ [.int .u8 45]) w4) := hb4
      have HTB : Hid (Lib.TabIs Tryz.prog w4 "internal/strconv.uint64pow10" .u64 Lib.pow10Tab) := htb
      have HLE : Hid (wq.heap.size ≤ w4.heap.size) := hgB4.size
      clear hf hb4 hlw4 hgB4 htb hcA hAr HT HCg HGr
      go_wp2_with fail
      refine (groupText300 w4 HTB.out).mono ?_
      rintro e w5 ⟨rfl, hg5⟩
      have hb5 := builder_kept HB4.out hg5
      have HG5 : Hid (w.grownBy w5 none) := grownBy_trans HG4.out hg5
      have hle5 : wq.heap.size ≤ w5.heap.size := Nat.le_trans HLE.out hg5.size
      clear HTB hc4 HB4 HG4 HLE hg5
      go_wp2_with fail
      refine (Tryz.Builder_WriteString wq.heap.size wq.heap.size _ ⟨#[51, 48, 48]⟩ _ (.inr hb5) (by decide) hle5).mono ?_
      rintro e w6 ⟨rfl, hb6, hlw6⟩
      have HG6 : Hid (w.grownBy w6 none) := by
        have h1 := HG5.out
        have hsz : w.heap.size ≤ wq.heap.size := by omega
        exact (⟨hlw6.os.trans h1.os, hlw6.tape.trans h1.tape, hlw6.output.trans h1.output, Nat.le_trans h1.size hlw6.size, fun i hi hn => (hlw6.block i (by omega)).trans (h1.block i hi hn)⟩ : w.grownBy w6 none)
      have HB6 : Hid (Lib.BuilderAt 114 5 wq.heap.size wq.heap.size (.pointer (some ⟨wq.heap.size, 0, none⟩)) (Lib.byteCells [45, 51, 48, 48]) w6) := hb6
      clear hb5 hb6 hlw6 HG5
      go_wp2_with fail
      go_loopw [7] (fun s wz => s = .int .i64 0 ∧ wz = w6) (fun _ _ => 0)
      case atStart => exact ⟨rfl, rfl⟩
      case round =>
        obtain ⟨rfl, rfl⟩ := hrel
        go_wp2_with fail
        refine (Tryz.Builder_String wq.heap.size wq.heap.size [45, 51, 48, 48] _ (.inr HB6.out) (by simp)).mono ?_
        rintro e w7 ⟨rfl, hlw7⟩
        have HG7 : Hid (w.grownBy w7 none) := by
          have h1 := HG6.out
          exact (⟨hlw7.os.trans h1.os, hlw7.tape.trans h1.tape, hlw7.output.trans h1.output, Nat.le_trans h1.size hlw7.size, fun i hi hn => (hlw7.block i (by omega)).trans (h1.block i hi hn)⟩ : w.grownBy w7 none)
        clear hlw7 HB6 HG6
        go_wp2_with fail
        go_ret2
        exact ⟨rfl, HG7.out⟩
end Go.Proofs.YtgemkfiippooeaaGreatDoor
