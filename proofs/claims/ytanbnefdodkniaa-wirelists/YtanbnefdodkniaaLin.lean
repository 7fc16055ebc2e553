/-
  The walk over WireLists, where the list is nil.
-/
import Derived.Test.YtanbnefdodkniaaLis
namespace Go.Proofs.Ytanbnefdodkniaa
open Go.RowKit Go.Lib Go.Sort

theorem small_nil : Small [] := fun p hp => by simp at hp

/-- 'append' of nothing to nil. -/
theorem run_append_nothing (w : World) (ty : TypeId) (ao : Option Addr) (c : Nat) : (Builtin.append_ #[83, 83] ty #[.slice none 0 0, .slice ao 0 c]).run Try.prog w = .ok (.slice none 0 0) w := by
  obtain ⟨i1, hi, hz0, hz1, hz2⟩ := info_parts Try.info84
  cases ao <;> simp [Builtin.append_, run_underlying Try.underlying83, sizeOf, typeInfo, hi, Builtin.lenOf, Builtin.firstCells, loadCells, loadCellsFrom]
theorem wpList_append_nothing {w : World} {ops : Array Oper} {rest : List Oper} {o : Oper} {a : Act} {Q : Exit → Act → World → Prop} (hgd : o.guard = none) (s x : Operand)
    (ho : o.op = .call { callee := .builtin .append, args := #[s, x], argTypes := #[83, 83] }) (ao : Option Addr) (c : Nat) (hs : a.eval s = .slice none 0 0) (hx : a.eval x = .slice ao 0 c)
    (h : wpList Try.prog ops Q rest (a.put o.dst (.slice none 0 0)) w) : wpList Try.prog ops Q (o :: rest) a w := by
  refine wpList_plain hgd fun K hK => ?_
  have hrun := run_append_nothing w o.type ao c
  unfold Oper.wp
  simp [execOp, ho, resolve, invoke, builtin, hs, hx, hrun, Result.andThen]
  exact hK _ _ h

set_option maxHeartbeats 3200000 in
set_option maxRecDepth 1000000 in
theorem lists_nil (ao : Option Addr) (c : Nat) (cut : Int) (w : World) : Calls Try.prog 7 #[.slice ao 0 c, .int .i64 cut] w fun e w' => e = .returned (.bool true) ∧ w.grownBy w' none := by
  obtain ⟨i1, hi, hz0, hz1, hz2⟩ := info_parts Try.info84
  have q7 : ∀ w, (Op.equalIn 10000 84 (.agg #[.int .u64 7, .int .u64 71]) (.agg #[.int .u64 7, .int .u64 71])).run Try.prog w = .ok true w := fun w => eq84 w 7 71
  go_enter Try.func7, Try.ntmps7
  go_wp2_with (first | (at_builtin; refine wpList_append_nothing rfl (.const (.slice none 0 0)) (.tmp 19) (by rfl) ao c (by rfl) (by rfl) ?_) | (at_builtin; refine wpList_append_own _ rfl _ _ 83 rfl w.heap.size 84 i1 (.agg #[.int .u64 0, .int .u64 0]) 2 16 Try.underlying83 hi hz0 hz1 hz2 rfl (by decide) _ _ _ rfl (World.ownsRow_nil _ _ _ _) ⟨w.heap.size, 0, none⟩ 1 1 [.int .u64 7, .int .u64 71] (by rfl) rfl ?e1 ?e2 ?e3 ?e4 ?e5 ?_))
  case e1 =>
    intro q u hq
    match q, hq with
    | 0, hq => simp at hq; subst hq; simp [Addr.add]
    | 1, hq => simp at hq; subst hq; simp [Addr.add]
  case e2 => intro u hu; simp at hu; rcases hu with rfl | rfl <;> rfl
  case e3 => unfold maxLen; omega
  case e4 => omega
  case e5 => simp
  intro v2 w2 ho2 hg2 _
  have hM : w2.ownsRow w.heap.size 84 2 v2 1 (cellsP ([] ++ [(7, 71)])) := by rw [cellsP_snoc]; exact ho2
  have hG2 : w.grownBy w2 none := grownBy_of_below ((below_of_grownBy (World.grownBy_alloc _ _ _)).grown hg2 (by simp) (fun k hk => by simp [Value.ownBlock] at hk))
  clear ho2 hg2
  obtain ⟨g, cap, rfl, hg1, hg2, hg3, hg4⟩ := own84_form hM (by omega)
  unfold maxLen at hg4
  have HP : Hid (SrcP w2 (.slice (some ⟨g, 0, none⟩) 0 cap) []) := .inr ⟨g, 0, cap, rfl, fun i p hp => by simp at hp⟩
  have HM : Hid (w2.ownsRow w.heap.size 84 2 (.slice (some ⟨g, 0, none⟩) 1 cap) 1 (cellsP ([] ++ [(7, 71)]))) := hM
  have HG2 : Hid (w.grownBy w2 none) := hG2
  clear hM hG2
  go_wp2_with fail
  refine (put_any _ [] w2 HP.out small_nil (by simp)).mono ?_
  rintro e w3 ⟨vb, rfl, hFb⟩
  have hM3 := ownsRow84_kept HM.out hFb.2 (by intro g _ e; cases e)
  have hMc := own_pairs hM3
  have hG3 := grownBy_trans HG2.out hFb.2
  obtain ⟨m7, m71⟩ := hMc 0 (7, 71) (by simp)
  simp only [Nat.zero_mul, Nat.zero_add] at m7 m71
  have HG3 : Hid (w.grownBy w3 none) := hG3
  have HFB : Hid (w3.ownsRow w2.heap.size 5 1 vb (listF []).length ((listF []).map encB)) := hFb.1
  clear HP HM HG2 hFb hM3 hMc hG3
  go_wp2_with (first | (go_at_call 41; go_in))
  refine (refnum_any 0 (by decide) w3).mono ?_
  rintro e w4 ⟨vw, rfl, hF4⟩
  clear m7 m71
  have hB5 := Src.kept HFB.out hF4.2 (by intro g _ e; cases e)
  have cva := conv_src (src_own hB5)
  have cvb := conv_src (L := listF []) hF4.src
  have HGW : Hid (w.grownBy w4 none) := grownBy_trans HG3.out hF4.2
  obtain ⟨gb, cb, rfl, hgb1, hgb2, hgb3, hgb4⟩ := len_own5 hB5 (by decide)
  unfold maxLen at hgb4
  have HB5 : Hid (w4.ownsRow w2.heap.size 5 1 (.slice (some ⟨gb, 0, none⟩) 1 cb) (listF []).length ((listF []).map encB)) := hB5
  have e1 : (listF []).length = 1 := rfl
  rw [e1] at cva hgb3
  rw [e1]
  clear hF4 HG3 HFB hB5 e1
  go_wp2
  go_loopw [8, 9] (fun x i wr => x = vw ∧ i = .int .i64 0 ∧ wr = w4) (fun _ _ _ => 0)
  case atStart => exact ⟨rfl, rfl, rfl⟩
  case round =>
    obtain ⟨rfl, rfl, rfl⟩ := hrel
    go_wp2_with fail
    refine (open_any _ (listF []) wr (src_own HB5.out) (by decide) (listF_rng [])).mono ?_
    rintro e w6 ⟨rb, v6, rfl, hr6, hb6, _, hg6⟩
    have tk := take_any w6 rb v6 (listF []) 0 0 hr6 (by omega)
    have HR6 : Hid (wr.grownBy w6 none) := hg6
    have TK : Hid (Calls Try.prog 47 #[rp rb, .int .i64 0, .func (.func 48) #[] #[]] w6 fun en w' => ∃ x, en = .returned (.tuple #[x, .int .i64 0]) ∧ w'.ownsRow w6.heap.size 84 2 x 0 [] ∧ Rdr w' rb v6 (listF []) 1 ∧ w6.grownBy w' (some rb)) := tk
    clear cva cvb tk hr6 hg6
    go_wp2_with fail
    refine TK.out.mono ?_
    rintro e w8 ⟨x8, rfl, hx8, hr8, hg8⟩
    obtain ⟨ao8, c8, rfl⟩ := own84_any hx8
    have HG8 : Hid (wr.grownBy w8 none) := grownBy_new HR6.out hb6 hg8
    have HR8 : Hid (Rdr w8 rb v6 (listF []) 1) := hr8
    clear hx8 hr8 hg8 TK HR6
    go_wp2_with (first | (go_at_call 41; go_in) | (go_at_call 34; refine (left_any w8 rb v6 (listF []) _ HR8.out).mono ?_; rintro e w' ⟨rfl, q8, rfl⟩))
    go_loopw [15] (fun i wx => i = .int .i64 0 ∧ wx = w8.drewN q8) (fun _ _ => 0)
    case atStart => exact ⟨rfl, rfl⟩
    case round =>
      obtain ⟨rfl, rfl⟩ := hrel
      have G9 : Hid (w.grownBy (w8.drewN q8) none) := grownBy_drewN (grownBy_trans HGW.out HG8.out) q8
      have HB9 : Hid ((w8.drewN q8).ownsRow w2.heap.size 5 1 (.slice (some ⟨gb, 0, none⟩) (listF []).length cb) (listF []).length ((listF []).map encB)) := Src.kept HB5.out (grownBy_drewN HG8.out q8) (by intro g _ e; cases e)
      clear HR8 HG8 HB5 HGW
      by_cases hcut : cut = 0
      · subst hcut
        have HSR : Hid (Src (w8.drewN q8) (.slice (some ⟨gb, 0, none⟩) 0 cb) []) := src_cut HB9.out 0 (by decide)
        go_wp2_with fail
        refine (open_any _ _ _ HSR.out (by simp) (by simp)).mono ?_
        rintro e w10 ⟨rb10, v10, rfl, hr10, hb10, _, hg10⟩
        have tk := take_any w10 rb10 v10 _ 0 0 hr10 (by omega)
        have G10 : Hid (w.grownBy w10 none ∧ w.heap.size ≤ rb10) := ⟨grownBy_trans G9.out hg10, by have := G9.out.size; omega⟩
        have TK : Hid (Calls Try.prog 47 #[rp rb10, .int .i64 0, .func (.func 48) #[] #[]] w10 fun en w' => ∃ x, en = .returned (.tuple #[x, .int .i64 110]) ∧ w'.ownsRow w10.heap.size 84 2 x 0 [] ∧ Rdr w' rb10 v10 [] 0 ∧ w10.grownBy w' (some rb10)) := tk
        clear tk hr10 hb10 hg10 G9 HB9 HSR
        go_wp2_with fail
        refine TK.out.mono ?_
        rintro e w11 ⟨x11, rfl, hx11, hr11, hg11⟩
        obtain ⟨ao11, c11, rfl⟩ := own84_any hx11
        have HR11 : Hid (Rdr w11 rb10 v10 [] 0) := hr11
        have G11 : Hid (w.grownBy w11 none) := grownBy_new G10.out.1 G10.out.2 hg11
        clear hx11 hr11 hg11 TK
        go_wp2_with (first | (go_at_call 41; go_in) | (go_at_call 33; refine (place_any w11 rb10 v10 _ 0 HR11.out).mono ?_; rintro e w' ⟨rfl, rfl⟩) | (go_at_call 30; refine (known_any _).mono ?_; rintro e w12 ⟨rfl, g12⟩))
        go_ret
        exact ⟨rfl, grownBy_trans G11.out g12⟩
      · by_cases hneg : cut < 0
        · clear hcut
          go_wp2_with (go_at_call 30; refine (known_any _).mono ?_; rintro e w3 ⟨rfl, g3⟩)
          go_ret
          exact ⟨rfl, grownBy_trans G9.out g3⟩
        · have hbig : (1 : Int) ≤ cut := by omega
          clear hcut
          go_wp2_with (go_at_call 30; refine (known_any _).mono ?_; rintro e w3 ⟨rfl, g3⟩)
          go_ret
          exact ⟨rfl, grownBy_trans G9.out g3⟩
end Go.Proofs.Ytanbnefdodkniaa
