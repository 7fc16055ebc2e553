/-
  The walk over WireNil.
-/
import Derived.Test.YtanbnefdodkniaaDea
import Derived.Test.YtanbnefdodkniaaBck
namespace Go.Proofs.Ytanbnefdodkniaa
open Go.RowKit Go.Lib Go.Sort

/-- 'f == nil', of a function. -/
theorem eq_fn_nil {P : Program} (w : World) (d : Nat) (t : TypeId) {a b : Array TypeId} {c : Bool} (h : P.underlying t = some (.func a b c)) : (Op.equalIn (d + 1) t .nilFunc .nilFunc).run P w = .ok true w := by
  simp [Op.equalIn, run_underlying h]
theorem eql_fn_nil {P : Program} (w : World) (t : TypeId) {a b : Array TypeId} {c : Bool} (h : P.underlying t = some (.func a b c)) : (binOp .eql t .nilFunc .nilFunc).run P w = .ok (.bool true) w := by
  simp only [binOp]
  simp [Op.equal, Op.maxDepth, eq_fn_nil w 9999 t h]
theorem eq_fn_some {P : Program} (w : World) (d : Nat) (t : TypeId) {a b : Array TypeId} {c : Bool} (h : P.underlying t = some (.func a b c)) (f : Fn) (x y : Array Value) : (Op.equalIn (d + 1) t (.func f x y) .nilFunc).run P w = .ok false w := by
  simp [Op.equalIn, run_underlying h]
theorem eql_fn_some {P : Program} (w : World) (t : TypeId) {a b : Array TypeId} {c : Bool} (h : P.underlying t = some (.func a b c)) (f : Fn) (x y : Array Value) : (binOp .eql t (.func f x y) .nilFunc).run P w = .ok (.bool false) w := by
  simp only [binOp]
  simp [Op.equal, Op.maxDepth, eq_fn_some w 9999 t h f x y]

set_option maxHeartbeats 1600000 in
set_option maxRecDepth 1000000 in
theorem put_nilfn (w : World) : Calls Try.prog 49 #[.slice none 0 0, .nilFunc] w fun en w' => en = .returned (.tuple #[.slice none 0 0, .int .i64 1]) ∧ w' = w := by
  have q := fun w => eql_fn_nil w 93 Try.underlying93
  go_enter Try.func49, Try.ntmps49
  go_wp2
  go_ret2
  exact ⟨rfl, rfl⟩
set_option maxHeartbeats 1600000 in
set_option maxRecDepth 1000000 in
theorem put_empty (w : World) : Calls Try.prog 49 #[.slice none 0 0, .func (.func 50) #[] #[]] w fun en w' => ∃ v, en = .returned (.tuple #[v, .int .i64 0]) ∧ Forms w w' v [0] := by
  have q := fun w => eql_fn_some w 93 Try.underlying93
  go_enter Try.func49, Try.ntmps49
  go_wp2_with (go_at_call 10; refine (num_forms 0 (by decide) _).mono ?_; rintro e w1 ⟨v, rfl, hF⟩)
  go_loopw [6, 17] (fun x i wr => x = v ∧ i = .int .i64 0 ∧ wr = w1) (fun _ _ _ => 0)
  case atStart => exact ⟨rfl, rfl, rfl⟩
  case round =>
    obtain ⟨rfl, rfl, rfl⟩ := hrel
    go_wp2
    go_ret2
    exact ⟨_, rfl, hF⟩
set_option maxHeartbeats 1600000 in
set_option maxRecDepth 1000000 in
theorem take_nilfn (w : World) (p : Value) : Calls Try.prog 51 #[p, .int .i64 5, .nilFunc] w fun en w' => ∃ x, en = .returned (.tuple #[x, .int .i64 1]) ∧ w.grownBy w' none := by
  have q := fun w => eql_fn_nil w 144 Try.underlying144
  go_enter Try.func51, Try.ntmps51
  go_wp2
  go_ret2
  exact ⟨_, rfl, grownBy_trans (World.grownBy_alloc _ _ _) (World.grownBy_alloc _ _ _)⟩
set_option maxHeartbeats 1600000 in
set_option maxRecDepth 1000000 in
theorem take_dead (w : World) (p : Value) (h : Dead w p) : Calls Try.prog 47 #[p, .int .i64 (-1), .func (.func 48) #[] #[]] w fun en w' => ∃ x, en = .returned (.tuple #[x, .int .i64 1]) ∧ w.grownBy w' none := by
  have q := fun w => eql_fn_some w 89 Try.underlying89
  go_enter Try.func47, Try.ntmps47
  go_wp2_with (first | (go_at_call 91; go_in) | (go_at_call 73; refine (there_dead _ p ((h.al _).al _)).mono ?_; rintro e w' ⟨rfl, rfl⟩))
  go_ret2
  exact ⟨_, rfl, grownBy_trans (World.grownBy_alloc _ _ _) (World.grownBy_alloc _ _ _)⟩

theorem made_zero (n : Nat) : (madeCells #[Value.int .u8 0] n).toList = (List.replicate n (0 : Int)).map encB := by
  apply List.ext_getElem
  · simp [madeCells]
  · intro i h1 h2
    simp [madeCells, Nat.mod_one, encB]

theorem size_app (a b : ByteArray) : (a ++ b).size = a.size + b.size := ByteArray.size_append
theorem head_app (b : ByteArray) : (sB (⟨#[1]⟩ ++ b)).head?.getD 0 = 1 := by
  unfold sB
  rw [ByteArray.data_append]
  simp
theorem plain1 (b : ByteArray) (h : b.size = 16383) : plainW false (⟨#[1]⟩ ++ b) = true := by
  have hs : (⟨#[1]⟩ ++ b : ByteArray).size = 16384 := by rw [size_app, h]; rfl
  unfold plainW
  rw [hs, head_app]
  decide
theorem plain2 (b : ByteArray) (h : b.size = 16383) : plainW false (⟨#[1, 1]⟩ ++ b) = false := by
  have hs : (⟨#[1, 1]⟩ ++ b : ByteArray).size = 16385 := by rw [size_app, h]; rfl
  unfold plainW
  rw [hs]
  simp
theorem k_0 : strOf [0] = ⟨#[0]⟩ := rfl
theorem whole_alone {neg : Bool} {mag : ByteArray} (hp : plainW neg mag = true) : wR (wholeF neg mag) 0 = ((neg, mag), (wholeF neg mag).length, 0) := by
  have := whole_back [] neg mag [] hp
  simpa using this

set_option maxHeartbeats 4000000 in
set_option maxRecDepth 1000000 in
theorem nil_any (w : World) : Calls Try.prog 8 #[] w fun en w' => en = .returned (.bool true) ∧ w.grownBy w' none := by
  obtain ⟨i0, hi, hz0, hz1, hz2⟩ := info_parts Try.info5
  go_enter Try.func8, Try.ntmps8
  go_wp2_with fail
  refine (put_nilfn w).mono ?_
  rintro e w1 ⟨rfl, rfl⟩
  go_wp2_with fail
  refine (put_empty w1).mono ?_
  rintro e w2 ⟨v2, rfl, hF2⟩
  go_wp2_with fail
  refine (open_any _ [0] _ (src_new w2 [0] 1 rfl) (by simp) (by decide)).mono ?_
  rintro e w3 ⟨rb3, v3, rfl, _, _, _, hg3⟩
  go_wp2_with fail
  refine (take_nilfn w3 _).mono ?_
  rintro e w4 ⟨x4, rfl, hg4⟩
  go_wp2_with fail
  refine (take_dead w4 _ (.inl rfl)).mono ?_
  rintro e w5 ⟨x5, rfl, hg5⟩
  have k25 : w2.grownBy w5 none := grownBy_trans (grownBy_trans (grownBy_trans (World.grownBy_alloc _ _ _) hg3) hg4) hg5
  clear hg3 hg4 hg5
  go_wp2_with (at_make; refine wpList_make_full _ rfl _ _ 33 rfl w5.heap.size 5 i0 (.int .u8 0) 1 Try.underlying33 hi hz0 hz1 _ _ _ _ 16383 rfl rfl (by decide) (by decide) (by rw [hz2]; decide) (by decide) (Nat.le_refl _) ?_)
  intro w6 ho6 hg6
  obtain ⟨lg, hcv, hsz⟩ : ∃ lg : ByteArray, (convert 33 9 (.slice (some ⟨w5.heap.size, 0, none⟩) 16383 16383)).run Try.prog w6 = .ok (.string lg) w6 ∧ lg.size = 16383 := by
    refine ⟨strOf (List.replicate 16383 0), conv_src (src_own (base := w5.heap.size) ?_), by rw [strOf_size, List.length_replicate]⟩
    rw [List.length_replicate, ← made_zero]
    exact ho6
  have k26 := grownBy_trans k25 hg6
  clear ho6 hg6 k25
  go_wp2_with fail
  have hp1 := plain1 lg hsz
  have hs1 : (⟨#[1]⟩ ++ lg : ByteArray).size = 16384 := by rw [size_app, hsz]; rfl
  have hp2 := plain2 lg hsz
  have hs2 : (⟨#[1, 1]⟩ ++ lg : ByteArray).size = 16385 := by rw [size_app, hsz]; rfl
  have HH : Hid (plainW false (⟨#[1]⟩ ++ lg) = true ∧ plainW false (⟨#[1, 1]⟩ ++ lg) = false ∧ (⟨#[1]⟩ ++ lg : ByteArray).size = 16384 ∧ (⟨#[1, 1]⟩ ++ lg : ByteArray).size = 16385) := ⟨hp1, hp2, hs1, hs2⟩
  clear hp1 hp2 hs1 hs2 hcv
  refine (Whole_yes false _ HH.out.1 w6).mono ?_
  rintro e w7 ⟨v7, rfl, hF7⟩
  go_wp2_with fail
  refine (Whole_no false _ (by rw [HH.out.2.2.2]; decide) HH.out.2.1 w7).mono ?_
  rintro e w8 ⟨rfl, hg8⟩
  have ho8 := Src.kept hF7.1 hg8 (by intro g _ e; cases e)
  have k28 := grownBy_trans (grownBy_trans k26 hF7.2) hg8
  clear hF7 hg8 k26
  go_wp2_with fail
  refine (open_any v7 _ w8 (src_own ho8) (by have := wholeF_len false (⟨#[1]⟩ ++ lg); rw [HH.out.2.2.1] at this; omega) (wholeF_rng _ _)).mono ?_
  rintro e w9 ⟨rb9, v9, rfl, hr9, hb9, _, hg9⟩
  clear ho8
  go_wp2_with fail
  have hrd := Whole_rd w9 rb9 v9 _ 0 hr9
  rw [whole_alone HH.out.1] at hrd
  refine hrd.out.mono ?_
  rintro e w10 ⟨rfl, hr10, hg10⟩
  have k210 : w2.grownBy w10 none := grownBy_new (grownBy_trans k28 hg9) (by have := k28.size; omega) hg10
  clear hr9 hb9 hg9 hg10 hr10 k28
  rw [if_pos rfl]
  have k2 : w2.grownBy (w10.alloc (.cells #[.bool false, .string (⟨#[1]⟩ ++ lg)] 24)) none := grownBy_trans k210 (World.grownBy_alloc _ _ _)
  have hcv2 := conv_src (src_own (Src.kept (L := [0]) hF2.1 k2 (by intro g _ e; cases e)))
  rw [k_0] at hcv2
  have kk := grownBy_trans hF2.2 k2
  clear hF2 k2 k210
  go_wp2_with (go_at_call 41; go_in)
  refine (nothing_any _ _ (.inl rfl)).mono ?_
  rintro e w11 ⟨rfl, hg11⟩
  have k11 := grownBy_trans kk hg11
  clear kk hg11 hcv2
  go_wp2_with fail
  refine (nothing_any _ _ (.inr ⟨w11.heap.size, rfl, heap_alloc_new _ _⟩)).mono ?_
  rintro e w12 ⟨rfl, hg12⟩
  have k12 := grownBy_trans (grownBy_trans k11 (World.grownBy_alloc _ _ _)) hg12
  clear k11 hg12
  go_wp2_with (go_at_call 30; refine (known_any _).mono ?_; rintro e w13 ⟨rfl, hg13⟩)
  go_ret
  exact ⟨rfl, grownBy_trans k12 hg13⟩
#print axioms nil_any
end Go.Proofs.Ytanbnefdodkniaa
