/-
  The walk over WireReads.
-/
import Derived.Test.YtanbnefdodkniaaMst
import Derived.Deep.LoopGhost
namespace Go.Proofs.Ytanbnefdodkniaa
open Go.RowKit Go.Lib Go.Sort

/-- What the walk asks of the bytes that are handed in. -/
structure Bts (W : World) (v : Value) (L : List Int) : Prop where
  len : ∃ ao c, v = .slice ao L.length c
  app : ∀ w ty, W.grownBy w none → ∃ v' w', (Builtin.append_ #[33, 33] ty #[.slice none 0 0, v]).run Try.prog w = .ok v' w' ∧ Apps w w' w.heap.size (.slice none 0 0) v' [] L
  str : ∀ w, W.grownBy w none → (convert 33 9 v).run Try.prog w = .ok (.string (strOf L)) w
  rdr : ∀ w db, W.grownBy w none → W.heap.size ≤ db → w.heap[db]? = some (.cells #[v, .int .i64 0] 60 (0, 0)) → DRdr w db v L 0
  far : DFar v L W.heap.size
  max : L.length ≤ 1048576
  rng : ∀ x ∈ L, 0 ≤ x ∧ x ≤ 255

theorem bts_some {W : World} {b off cap : Nat} {L : List Int} (hl : L.length ≤ 1048576) (hc : L.length ≤ cap) (hm : cap ≤ maxLen) (hr : ∀ x ∈ L, 0 ≤ x ∧ x ≤ 255) (hL : L ≠ [])
    (h : ∀ j, j < L.length → W.cell? ⟨b, off + j, none⟩ = some (.int .u8 (L[j]?.getD 0))) : Bts W (.slice (some ⟨b, off, none⟩) L.length cap) L := by
  have hb : b < W.heap.size := by
    have h0 := h 0 (by cases L with | nil => exact absurd rfl hL | cons x xs => simp)
    exact World.block_lt_of_cell? W ⟨b, off + 0, none⟩ h0
  have S : ∀ w, W.grownBy w none → Src w (.slice (some ⟨b, off, none⟩) L.length cap) L := fun w hg => by
    refine .inr ⟨b, off, cap, rfl, fun j u hu => ?_⟩
    have hj : j < L.length := by have := (List.getElem?_eq_some_iff.1 hu).1; simpa using this
    rw [List.getElem?_map, List.getElem?_eq_getElem hj] at hu
    simp at hu
    subst hu
    rw [World.cell?_of_block (hg.block b hb (by simp)), h j hj, List.getElem?_eq_getElem hj]
    rfl
  refine ⟨⟨_, _, rfl⟩, fun w ty hg => ?_, fun w hg => conv_src (S w hg), fun w db hg hd hB => ?_, .inr ⟨b, off, _, _, rfl, hb⟩, hl, hr⟩
  · exact run_apps w w.heap.size ty (.slice none 0 0) _ [] L (World.ownsRow_nil _ _ _ _) (S w hg) (by simp; omega) (Nat.le_refl _)
  · refine ⟨hB, .inr ⟨b, off, cap, rfl, hc, hm, by omega, Nat.lt_of_lt_of_le hb hg.size, fun j hj => ?_⟩, Nat.zero_le _, by omega, hr⟩
    rw [World.cell?_of_block (hg.block b hb (by simp)), h j hj]

theorem run_append_nothing5n (w : World) (ty : TypeId) (ao : Option Addr) (c : Nat) : (Builtin.append_ #[33, 33] ty #[.slice none 0 0, .slice ao 0 c]).run Try.prog w = .ok (.slice none 0 0) w := by
  obtain ⟨i1, hi, hz0, hz1, hz2⟩ := info_parts Try.info5
  cases ao <;> simp [Builtin.append_, run_underlying Try.underlying33, sizeOf, typeInfo, hi, Builtin.lenOf, Builtin.firstCells, loadCells, loadCellsFrom]
theorem conv_empty (w : World) (ao : Option Addr) (c : Nat) : (convert 33 9 (.slice ao 0 c)).run Try.prog w = .ok (.string (strOf [])) w := by
  cases ao with
  | none =>
    rw [run_convert_bytes_string w 33 9 5 none 0 c Try.underlying33 Try.underlying5 Try.underlying9]
    simp [Conv.bytesToString, Sem.run_pure, strOf]
  | some a =>
    rw [run_convert_bytes_string w 33 9 5 _ _ _ Try.underlying33 Try.underlying5 Try.underlying9]
    have h1 := run_loadCells_list (P := Try.prog) w a [] (fun j v hv => by simp at hv)
    rw [run_bytesToString w a 0 c [] h1]
    rfl
theorem bts_empty {W : World} (ao : Option Addr) (c : Nat) : Bts W (.slice ao 0 c) [] := by
  refine ⟨⟨_, _, rfl⟩, fun w ty hg => ⟨_, _, run_append_nothing5n w ty ao c, World.ownsRow_nil _ _ _ _, World.grownBy.refl _ _, fun h => ⟨h, rfl⟩⟩, fun w hg => conv_empty w ao c, fun w db hg hd hB => ?_, .inl rfl, by simp, by simp⟩
  exact ⟨hB, .inl ⟨_, _, rfl, rfl⟩, Nat.zero_le _, by simp, by simp⟩

/-- What the walk asks of the script that is handed in. -/
structure Scr (W : World) (s : Value) (n : Nat) : Prop where
  cell : (∃ ao c, s = .slice ao 0 c ∧ n = 0) ∨ ∃ b off c, s = .slice (some ⟨b, off, none⟩) n c ∧ n ≤ 9223372036854775807 ∧ ∀ i, i < n → ∃ kind most, most ≤ 9223372036854775807 ∧ W.cell? ⟨b, off + i * 2, none⟩ = some (.int .i64 kind) ∧ W.cell? ⟨b, off + i * 2 + 1, none⟩ = some (.int .i64 most)

theorem wpList_apps_run {ops : Array Oper} {rest : List Oper} {o : Oper} {a : Act} {Q : Exit → Act → World → Prop} (w : World) (hgd : o.guard = none) (sl x : Operand)
    (ho : o.op = .call { callee := .builtin .append, args := #[sl, x], argTypes := #[33, 33] }) (P : Value → World → Prop)
    (hr : ∃ v' w', (Builtin.append_ #[33, 33] o.type #[a.eval sl, a.eval x]).run Try.prog w = .ok v' w' ∧ P v' w')
    (h : ∀ v' w', P v' w' → wpList Try.prog ops Q rest (a.put o.dst v') w') : wpList Try.prog ops Q (o :: rest) a w := by
  refine wpList_plain hgd fun K hK => ?_
  obtain ⟨v', w', hr, h2⟩ := hr
  unfold Oper.wp execOp
  simp only [ho, resolve, invoke, builtin, Sem.run_bind, Sem.run_pure, Result.andThen_ok, List.map_toArray, List.map_cons, List.map_nil, hr]
  exact hK _ _ (h v' w' h2)

theorem strOf_snoc (L : List Int) : strOf (L ++ [165]) = strOf L ++ ⟨#[165]⟩ := by
  have h1 : (strOf (L ++ [165])) = (strOf L).push 165 := by unfold strOf; rw [List.foldl_append]; rfl
  rw [h1]
  apply ByteArray.ext
  simp

set_option maxHeartbeats 3200000 in
set_option maxRecDepth 1000000 in
theorem reads_any (W : World) (v s : Value) (L : List Int) (n : Nat) (hB : Bts W v L) (hS : Scr W s n) : Calls Try.prog 4 #[v, s] W fun e w' => e = .returned (.bool true) ∧ W.grownBy w' none := by
  have hmx := hB.max
  have HBT : Hid (Bts W v L) := hB
  have HSC : Hid (Scr W s n) := hS
  obtain ⟨vo, vc, hv⟩ := hB.len
  have HA : Hid (∀ ty, ∃ v' w', (Builtin.append_ #[33, 33] ty #[.slice none 0 0, v]).run Try.prog W = .ok v' w' ∧ Apps W w' W.heap.size (.slice none 0 0) v' [] L) := fun ty => hB.app W ty (World.grownBy.refl _ _)
  clear hB hS
  subst hv
  go_enter Try.func4, Try.ntmps4
  go_wp2_with (at_builtin; refine wpList_apps_run _ rfl _ _ rfl _ (HA.out _) ?_)
  intro v1 w1 hA1
  have hg1 : W.grownBy w1 none := grownBy_of_below ((Below.refl _ W).grown hA1.2.1 (by simp) (by intro k hk; simp [Value.ownBlock] at hk))
  have ho1 : w1.ownsRow W.heap.size 5 1 v1 L.length (L.map encB) := by simpa using hA1.1
  have hz1 := hg1.size
  have hs1 : Src (w1.alloc (.cells #[.int .u8 165] 5)) (.slice (some ⟨w1.heap.size, 0, none⟩) 1 1) [165] := src_new w1 [165] 1 rfl
  have HS1 : Hid (Src (w1.alloc (.cells #[.int .u8 165] 5)) (.slice (some ⟨w1.heap.size, 0, none⟩) 1 1) [165]) := hs1
  have HO1 : Hid (w1.ownsRow W.heap.size 5 1 v1 L.length (L.map encB)) := ho1
  clear hA1 ho1 hs1
  go_wp2_with (at_builtin; refine wpList_apps _ rfl _ _ rfl W.heap.size _ _ L [165] rfl rfl (HO1.out.alloc _) HS1.out ?qa ?qb ?_)
  case qa => simp; omega
  case qb => simp; omega
  intro v2 w2 hA2
  have hg2 : W.grownBy w2 none := by
    have := (below_of_grownBy (grownBy_trans hg1 (World.grownBy_alloc w1 (.cells #[.int .u8 165] 5) none))).grown hA2.2.1 (Nat.le_trans hz1 (by simp)) (by intro k hk; exact (HO1.out.lt k hk).1)
    exact grownBy_of_below this
  obtain ⟨g, cap, rfl, hgb, hgl, hcap, hmax, HO2⟩ : ∃ g cap, v2 = .slice (some ⟨g, 0, none⟩) (L.length + 1) cap ∧ W.heap.size ≤ g ∧ g < w2.heap.size ∧ L.length + 1 ≤ cap ∧ cap ≤ maxLen ∧ Hid (w2.ownsRow W.heap.size 5 1 (.slice (some ⟨g, 0, none⟩) (L.length + 1) cap) (L.length + 1) ((L ++ [165]).map encB)) := by
    have ho := hA2.1
    rcases ho.2 with ⟨_, hn⟩ | ⟨g, cap, cur, rfl, hb, hg, hn, hm, hs, ht⟩
    · simp at hn
    · refine ⟨g, cap, by simp, hb, (Array.getElem?_eq_some_iff.1 hg).1, by simpa using hn, hm, ?_⟩
      have : (L ++ [165]).length = L.length + 1 := by simp
      rw [this] at ho
      exact ho
  clear hA2 HO1 HS1 HA
  unfold maxLen at hmax
  have HS2 : Hid (Src w2 (.slice (some ⟨g, 0, none⟩) L.length cap) L) := by
    refine .inr ⟨g, 0, cap, rfl, fun j u hu => ?_⟩
    have := HO2.out.cells (g := g) rfl j u (by
      have hj : j < L.length := by have := (List.getElem?_eq_some_iff.1 hu).1; simpa using this
      rw [List.map_append, List.getElem?_append_left (by simpa using hj)]; exact hu)
    rwa [Addr.add_lit] at this
  have hL1 : (L.length : Int) + 1 ≤ 1048577 := by omega
  go_wp2_with fail
  refine (open_any _ L w2 HS2.out (by omega) HBT.out.rng).mono ?_
  rintro e w3 ⟨rb, rv, rfl, hr3, hrb, hrv, hg3⟩
  have HO3 : Hid (w3.ownsRow W.heap.size 5 1 (.slice (some ⟨g, 0, none⟩) (L.length + 1) cap) (L.length + 1) ((L ++ [165]).map encB)) := HO2.out.kept hg3 (by simp [Value.ownBlock])
  have hW3 : W.grownBy w3 none := grownBy_trans hg2 hg3
  have cv1 : (convert 33 9 (.slice (some ⟨g, 0, none⟩) (L.length + 1) cap)).run Try.prog w3 = .ok (.string (strOf L ++ ⟨#[165]⟩)) w3 := by
    rw [← strOf_snoc]
    refine conv_src ?_
    have := src_own (L := L ++ [165]) (w := w3) (base := W.heap.size) (v := .slice (some ⟨g, 0, none⟩) (L.length + 1) cap) (by simpa using HO3.out)
    exact this
  have cv2 : (convert 33 9 (.slice vo L.length vc)).run Try.prog w3 = .ok (.string (strOf L)) w3 := HBT.out.str w3 hW3
  have HR3 : Hid (Rdr w3 rb rv L 0 ∧ W.grownBy w3 none) := ⟨hr3, hW3⟩
  have hg3l : g < w3.heap.size := Nat.lt_of_lt_of_le hgl hg3.size
  have HV : Hid (∀ g, rv.ownBlock = some g → w2.heap.size ≤ g) := hrv
  clear hr3 hW3 HO2 HS2 hg3 hrv
  have hzS : (strOf L).size ≤ 1048576 := by rw [strOf_size]; exact hmx
  have hadd : ∀ w, (binOp .add 9 (.string (strOf L)) (.string ⟨#[165]⟩)).run Try.prog w = .ok (.string (strOf L ++ ⟨#[165]⟩)) w := by
    intro w
    revert hzS
    generalize strOf L = SL
    intro hz
    simp [go_sem, binOp]
    omega
  generalize strOf L = SL at *
  clear hL1
  have hmax2 : cap ≤ 9223372036854775807 := by omega
  clear hmax
  go_upto_region 3 with fail
  go_cut [28] from 19 to 27 (fun c wx => c = .bool false ∧ wx = w3)
  case first =>
    go_wp2_with fail
    go_meet
    exact ⟨rfl, rfl⟩
  case rest =>
    obtain ⟨rfl, rfl⟩ := hcut
    clear cv1 cv2 hadd hzS
    generalize hl1 : L.length + 1 = l1 at *
    have hl2 : (l1 : Int) ≤ 1048577 := by omega
    have hl3 : l1 ≤ cap := hcap
    go_wp2_with fail
    go_loopw [7] (fun i wr => ∃ (m : Nat) (M : List Int), m ≤ l1 ∧ i = .int .i64 m ∧ wr.ownsRow W.heap.size 5 1 (.slice (some ⟨g, 0, none⟩) l1 cap) l1 (M.map encB) ∧ wc.grownBy wr (some g)) (fun i _ => l1 - (RowKit.intOf i).toNat)
    case atStart => exact ⟨0, L ++ [165], Nat.zero_le _, rfl, HO3.out, World.grownBy.refl _ _⟩
    case round =>
      obtain ⟨m, M, hm, rfl, hown, hgr⟩ := hrel
      by_cases hlt : m < l1
      · obtain ⟨c1, c2⟩ := own_at hown m hlt
        have HN : Hid (wr.setCell ⟨g, m, none⟩ (.int .u8 119) |>.ownsRow W.heap.size 5 1 (.slice (some ⟨g, 0, none⟩) l1 cap) l1 ((M.set m 119).map encB)) := own_set hown m 119
        have HG : Hid (wc.grownBy (wr.setCell ⟨g, m, none⟩ (.int .u8 119)) (some g)) := grownBy_trans hgr (grownBy_setCell _ _ _ _)
        clear hown hgr
        go_wp2_with fail
        go_roundw
        case rel => exact ⟨m + 1, _, by omega, by go_num, HN.out, HG.out⟩
        case measure => simp [RowKit.intOf]; omega
      · obtain rfl : m = l1 := by omega
        have hrg : ¬ rb = g := by omega
        have hR : Rdr wr rb rv L 0 := HR3.out.1.kept hgr (by intro e; cases e; omega) (by
          cases hu : rv.ownBlock with
          | none => exact .inl rfl
          | some x => right; intro e; cases e; have := HV.out _ hu; omega)
        have hWr : W.grownBy wr none := grownBy_new HR3.out.2 hgb hgr
        have hrl := hR.lt
        have hz := hg2.size
        have hT : Two W (wr.alloc (.cells #[.slice vo L.length vc, .int .i64 0] 60)) rb wr.heap.size rv (.slice vo L.length vc) L 0 := by
          refine ⟨hR.al _, HBT.out.rdr _ _ (grownBy_trans hWr (World.grownBy_alloc _ _ _)) hWr.size (heap_alloc_new wr _), by omega, ?_, HBT.out.far.mono (by omega), grownBy_trans hWr (World.grownBy_alloc _ _ _), by omega, hWr.size⟩
          intro e; have := (hR.own.lt _ e).2; omega
        have HT : Hid (Two W (wr.alloc (.cells #[.slice vo L.length vc, .int .i64 0] 60)) rb wr.heap.size rv (.slice vo L.length vc) L 0) := hT
        obtain ⟨db, hdb⟩ : ∃ db, wr.heap.size = db := ⟨_, rfl⟩
        obtain ⟨so, sc, rfl, hsn⟩ : ∃ so sc, s = .slice so n sc ∧ n ≤ 9223372036854775807 := by
          rcases HSC.out.cell with ⟨ao, c, rfl, rfl⟩ | ⟨b, off, c, rfl, hn, _⟩
          · exact ⟨ao, c, rfl, by omega⟩
          · exact ⟨_, c, rfl, hn⟩
        have HCS : Hid (∀ w', W.grownBy w' none → ∀ i, i < n → ∃ b off kind most, so = some ⟨b, off, none⟩ ∧ most ≤ 9223372036854775807 ∧ w'.cell? ⟨b, off + i * 2, none⟩ = some (.int .i64 kind) ∧ w'.cell? ⟨b, off + i * 2 + 1, none⟩ = some (.int .i64 most)) := by
          intro w' hg i hi
          rcases HSC.out.cell with ⟨ao, c, e, rfl⟩ | ⟨b, off, c, e, hn, hc⟩
          · omega
          · cases e
            obtain ⟨kind, most, h1, h2, h3⟩ := hc i hi
            refine ⟨b, off, kind, most, rfl, h1, ?_, ?_⟩
            · rw [← h2]; exact World.cell?_of_block (hg.block b (World.block_lt_of_cell? W _ h2) (by simp))
            · rw [← h3]; exact World.cell?_of_block (hg.block b (World.block_lt_of_cell? W _ h3) (by simp))
        clear hown hgr hR hWr hT HR3 HV HO3
        go_wp2_with fail
        rw [hdb] at HT
        clear hdb
        generalize wr.alloc (.cells #[.slice vo L.length vc, .int .i64 0] 60) = wd at *
        go_loopw [9] (fun i wx => ∃ m k : Nat, m ≤ n ∧ m ≤ 300 ∧ i = .int .i64 m ∧ Two W wx rb db rv (.slice vo L.length vc) L k) (fun i _ => 300 - (RowKit.intOf i).toNat)
        case atStart => exact ⟨0, 0, Nat.zero_le _, Nat.zero_le _, rfl, HT.out⟩
        case round =>
          obtain ⟨m, k, hmn, hm3, rfl, hTw⟩ := hrel
          by_cases h300 : m < 300
          · by_cases hlt : m < n
            · obtain ⟨b, off, kind, most, rfl, hmo, c1, c2⟩ := HCS.out _ hTw.base m hlt
              have HS : Hid (∀ w', Two W w' rb db rv (.slice vo L.length vc) L k → Calls Try.prog 32 #[rp rb, rp db, opv kind most] w' (StepQ W rb db rv (.slice vo L.length vc) L)) := fun w' h' => step_any W w' rb db rv _ L k kind most h' hmx hmo
              have hlt2 : (m : Int) < n := by omega
              have HTW : Hid (∀ q, Two W (wr.drewN q) rb db rv (.slice vo L.length vc) L k) := fun q => hTw.kept (grownBy_drewN (World.grownBy.refl _ _) q)
              clear hTw
              go_wp2_with fail
              go_region_with (first
                | (go_at_call 32; refine (HS.out _ (HTW.out 1)).mono ?_; rintro _ w5 ⟨rfl, k5, T5⟩; have s5 := T5.d.c1)
                | (go_at_call 33; refine (place_any _ rb rv L k5 T5.r).mono ?_; rintro _ _ ⟨rfl, rfl⟩)
                | (go_at_call 34; refine (left_any _ rb rv L k5 T5.r).mono ?_; rintro _ _ ⟨rfl, q6, rfl⟩)
                | (go_at_call 35; refine (dleft _ db _ L k5 (T5.d.drewN q6)).mono ?_; rintro _ _ ⟨rfl, q7, rfl⟩))
              all_goals
                go_wp2_with fail
                go_roundw
                case rel => exact ⟨m + 1, k5, by omega, by omega, by go_num, T5.kept (grownBy_drewN (World.grownBy.refl _ _) _)⟩
                case measure => simp [RowKit.intOf]; omega
            · obtain rfl : m = n := by omega
              go_wp2_with (go_at_call 30; refine (known_any _).mono ?_; rintro e w9 ⟨rfl, hg9⟩)
              go_ret
              exact ⟨rfl, grownBy_trans hTw.base hg9⟩
          · obtain rfl : m = 300 := by omega
            by_cases hlt : 300 < n
            · have hlt2 : (300 : Int) < n := by omega
              go_wp2_with (go_at_call 30; refine (known_any _).mono ?_; rintro e w9 ⟨rfl, hg9⟩)
              go_ret
              exact ⟨rfl, grownBy_trans hTw.base hg9⟩
            · obtain rfl : n = 300 := by omega
              go_wp2_with (go_at_call 30; refine (known_any _).mono ?_; rintro e w9 ⟨rfl, hg9⟩)
              go_ret
              exact ⟨rfl, grownBy_trans hTw.base hg9⟩
end Go.Proofs.Ytanbnefdodkniaa
