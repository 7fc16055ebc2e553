/-
  The law WordsAll: its main walk.
-/
import Derived.Test.YtkimgmgafkihaaaDoorWal
import Derived.Deep.Cut
namespace Go.Proofs.YtkimgmgafkihaaaDoor
open Go.RowKit Go.Lib Go.Sort Go.Shelf
set_option linter.unusedVariables false
set_option linter.unusedSimpArgs false
attribute [local go_sem] Oper.semAt_some
set_option maxHeartbeats 8000000
set_option maxRecDepth 100000
def lwS (w : World) (A : Nat) (l most : Int) (L : Nat) (Ds : List Nat) : List (Nat × Obj) :=
  (w.heap.size, .cells #[.int .i64 l] 3 (0, 0)) :: (w.heap.size + 1, .cells #[.int .i64 most] 3 (0, 0)) :: (w.heap.size + 1 + 1, .cells #[.int .i64 (L : Int)] 3 (0, 0)) :: (w.heap.size + 1 + 1 + 1, .cells #[.bool false] 4 (0, 0)) :: (A, .cells #[.int .i64 l] 3 (0, 0)) :: (A + 1, .cells #[.int .i64 most] 3 (0, 0)) :: Ds.map (fun D => (D, .deferred (some [])))
def LwS (w : World) (A : Nat) (l most : Int) (L : Nat) (Ds : List Nat) (W : World) : Prop :=
  Ds.Nodup ∧ Keep (lwS w A l most L Ds) none W ∧ (∀ p ∈ lwS w A l most L Ds, w.heap.size ≤ p.1) ∧ w.grownBy W none
def LwI (w : World) (A : Nat) (l most lv : Int) (cc : Nat) (ce : Int) (L : Nat) (k : Nat) (a : Act) (W : World) : Prop :=
  ∃ (turn : Nat) (Ds : List Nat) (tl : List Value), a = { tmps := (([.int .i64 l, .int .i64 most, .int .i64 lv, .pointer (some ⟨w.heap.size, 0, none⟩), .pointer (some ⟨w.heap.size + 1, 0, none⟩), .pointer (some ⟨w.heap.size + 1 + 1, 0, none⟩), .pointer (some ⟨w.heap.size + 1 + 1 + 1, 0, none⟩), .int .u64 (cc : Int), .int .i64 ce, .int .u64 (cc : Int), .int .i64 ce, .func (.func 12) #[] #[.pointer (some ⟨A + 1, 0, none⟩), .pointer (some ⟨A, 0, none⟩)], .int .i64 0, .int .i64 (turn : Int)] : List Value) ++ tl).toArray, defers := Ds.map mk } ∧ tl.length = 112 ∧ turn + k = 2 ∧ LwS w A l most L Ds W
theorem slots_fn (tl : List Value) (h : tl.length = 112) : ∃ u : Nat → Value, tl = [u 14, u 15, u 16, u 17, u 18, u 19, u 20, u 21, u 22, u 23, u 24, u 25, u 26, u 27, u 28, u 29, u 30, u 31, u 32, u 33, u 34, u 35, u 36, u 37, u 38, u 39, u 40, u 41, u 42, u 43, u 44, u 45, u 46, u 47, u 48, u 49, u 50, u 51, u 52, u 53, u 54, u 55, u 56, u 57, u 58, u 59, u 60, u 61, u 62, u 63, u 64, u 65, u 66, u 67, u 68, u 69, u 70, u 71, u 72, u 73, u 74, u 75, u 76, u 77, u 78, u 79, u 80, u 81, u 82, u 83, u 84, u 85, u 86, u 87, u 88, u 89, u 90, u 91, u 92, u 93, u 94, u 95, u 96, u 97, u 98, u 99, u 100, u 101, u 102, u 103, u 104, u 105, u 106, u 107, u 108, u 109, u 110, u 111, u 112, u 113, u 114, u 115, u 116, u 117, u 118, u 119, u 120, u 121, u 122, u 123, u 124, u 125] := by
  refine ⟨fun i => tl.getD (i - 14) undef, ?_⟩
  have e : tl = (List.range 112).map (fun i => tl.getD i undef) := by
    apply List.ext_getElem
    · simp [h]
    · intro i h1 h2
      simp [List.getElem?_eq_getElem h1]
  exact e
theorem Bx.put {w W : World} {l most lv : Int} (h : Bx w l most lv W) (x : Int) : Bx w l most x (W.setCell ⟨w.heap.size + 1 + 1, 0, none⟩ (.int .i64 x)) := by
  obtain ⟨h1, h2, h3, h4, h5⟩ := h
  have hg := grownBy_setCell W (w.heap.size + 1 + 1) 0 (.int .i64 x)
  have k : ∀ {i : Nat} {o : Obj}, i ≠ w.heap.size + 1 + 1 → W.heap[i]? = some o → (W.setCell ⟨w.heap.size + 1 + 1, 0, none⟩ (.int .i64 x)).heap[i]? = some o := fun {i o} hi h => (hg.block i (Array.getElem?_eq_some_iff.1 h).1 (by intro e; injection e with e; omega)).trans h
  exact ⟨k (by omega) h1, k (by omega) h2, by simp [World.setCell, Array.getElem?_modify, h3], k (by omega) h4, grown_set h5 (by omega)⟩
def mo (l most : Int) : Nat → Bool
  | 0 => true
  | t + 1 => nxB l most (wd l most t)
theorem TB.mo {l most : Int} {T : Nat} {b : Bool} (h : TB l most T b) : ∀ t, t < T → mo l most t = true
  | 0, _ => rfl
  | t + 1, ht => h.2.1 t ht
theorem TB.mo_end {l most : Int} {T : Nat} (h : TB l most T true) : Go.Proofs.YtkimgmgafkihaaaDoor.mo l most T = false := by
  have h1 := h.1
  have h2 := h.2.2 rfl
  obtain ⟨t, rfl⟩ : ∃ t, T = t + 1 := ⟨T - 1, by omega⟩
  exact h2
theorem Ints.nil_any {W W' : World} {v : Value} (h : Ints W v []) : Ints W' v [] := by
  rcases h with h | ⟨B, off, c, rfl, hc, h⟩ | h
  · exact .inl h
  · exact .inr (.inl ⟨B, off, c, rfl, hc, fun j hj => by simp at hj⟩)
  · exact .inr (.inr h)
theorem Keep.none {S : List (Nat × Obj)} {o : Option Nat} {W : World} (h : Keep S o W) : Keep S none W := fun p hp => ⟨(h p hp).1, by simp⟩
def rdS (nb wb mb t : Nat) (v : Value) (m : Bool) : List (Nat × Obj) := [(nb, .cells #[.int .i64 (t : Int)] 3 (0, 0)), (wb, .cells #[v] 34 (0, 0)), (mb, .cells #[.bool m] 4 (0, 0))]
def LrI (w : World) (A : Nat) (l most : Int) (L : Nat) (Ds : List Nat) (nb wb mb : Nat) (q : Nat × Option Nat) (W : World) : Prop :=
  w.grownBy W none ∧ Keep (lwS w A l most L Ds) q.2 W ∧ ∃ v, Keep (rdS nb wb mb q.1 v (mo l most q.1)) q.2 W ∧ (mo l most q.1 = true → Ints W v (wd l most q.1) ∧ (wd l most q.1 = [] ∨ v.ownBlock = none ∨ v.ownBlock = q.2))
theorem LrI.grown0 {w : World} {A : Nat} {l most : Int} {L : Nat} {Ds : List Nat} {nb wb mb : Nat} {q : Nat × Option Nat} {W W' : World} (h : LrI w A l most L Ds nb wb mb q W) (hg : W.grownBy W' none) : LrI w A l most L Ds nb wb mb q W' := by
  obtain ⟨h1, h2, v, h3, h4⟩ := h
  exact ⟨grownBy_trans h1 hg, h2.grown0 hg, v, h3.grown0 hg, fun hm => ⟨(h4 hm).1.kept hg, (h4 hm).2⟩⟩
theorem LrI.grown {w : World} {A : Nat} {l most : Int} {L : Nat} {Ds : List Nat} {nb wb mb : Nat} {q : Nat × Option Nat} {W W' : World} {r X : Nat} (h : LrI w A l most L Ds nb wb mb q W) (hg : W.grownBy W' (some r)) (hX : X ≤ r) (hne : some r ≠ q.2)
    (hS : ∀ p ∈ lwS w A l most L Ds, w.heap.size ≤ p.1 ∧ p.1 < X) (hb : nb < X ∧ wb < X ∧ mb < X) (hw : w.heap.size ≤ X) : LrI w A l most L Ds nb wb mb q W' := by
  obtain ⟨h1, h2, v, h3, h4⟩ := h
  refine ⟨grownBy_new h1 (by omega) hg, h2.grown hg (fun p hp e => by injection e with e; have := hS p hp; omega), v, h3.grown hg (fun p hp e => ?_), fun hm => ?_⟩
  · injection e with e
    simp only [rdS, List.mem_cons, List.not_mem_nil, or_false] at hp
    rcases hp with rfl | rfl | rfl <;> (simp only at e; omega)
  · obtain ⟨k1, k2⟩ := h4 hm
    refine ⟨?_, k2⟩
    rcases k2 with k | k | k
    · rw [k] at k1 ⊢; exact k1.nil_any
    · exact k1.keptB hg (.inl k)
    · exact k1.keptB hg (.inr (fun e => hne (by rw [← k, e])))
theorem wall_main (l most lv : Int) (hlv : -9223372036854775808 ≤ lv ∧ lv < 9223372036854775808) (h1 : ¬ (l < 1 ∨ 64 < l ∨ most < 0)) (h2 : most ≤ 4096) (w : World) (ht : Tab w) :
    Calls Tryd.prog 3 #[.int .i64 l, .int .i64 most, .int .i64 lv] w fun e w' => e = .returned (.bool true) ∧ w.grownBy w' none := by
  have HT : Hid (Tab w) := ht
  have hE : (ctE l most == 2) = false := by simpa using ctE_not h1
  have HC : Hid (∀ w1, Calls Tryd.prog 4 #[.int .i64 l, .int .i64 most] w1 fun e w' => e = .returned (.tuple #[.int .u64 ((ctC l most : Nat) : Int), .int .i64 (ctE l most)]) ∧ w' = w1) := fun w1 => count_any l most (by omega) w1
  have HD : Hid (∀ w1, Calls Tryd.prog 5 #[.int .i64 l, .int .i64 most] w1 fun e w' => e = .returned (.tuple #[.int .u64 ((ctC l most : Nat) : Int), .int .i64 (ctE l most)]) ∧ w' = w1) := fun w1 => rCount_any l most (by omega) w1
  have HA : Hid (∀ w1 : World, Calls Tryd.prog 7 #[.int .i64 l, .int .i64 most] w1 fun e w' => e = .returned (.tuple #[.func (.func 12) #[] #[.pointer (some ⟨w1.heap.size + 1, 0, none⟩), .pointer (some ⟨w1.heap.size, 0, none⟩)], .int .i64 0]) ∧ w' = (w1.alloc (.cells #[.int .i64 l] 3)).alloc (.cells #[.int .i64 most] 3)) := allf_ok l most (by omega) (by omega) (by omega) (by omega)
  have HR : Hid ((1 ≤ l ∧ l ≤ 64) ∧ 0 ≤ most ∧ most ≤ 4096) := ⟨by omega, by omega, h2⟩
  have EG : Hid (∀ args w, (callFunc 12 args).run Tryd.prog w = .ok (.enter 12 args) w) := enters_of Tryd.func12 (by kernel_rfl) rfl
  generalize ctC l most = cc at *
  generalize ctE l most = ce at *
  clear ht h1
  have hd2 : decide (4096 < most) = false := decide_eq_false (by omega)
  refine (callsIn_wide (n := 5)).1 ?_
  refine callsIn_of_wp_marks Tryd.func3 rfl trivial (wpIn_wide.2 ?_) rfl
  simp only [Tryd.ntmps3, List.size_toArray, List.length_cons, List.length_nil, Nat.reduceAdd, Nat.reduceSub, Array.replicate_succ, Array.replicate_zero, List.push_toArray, List.append_toArray, List.nil_append, List.cons_append]
  generalize h12 : (Code.region 12 _ _).seq (Code.cond _ _ _) = c12
  go_wp2_with fail
  have HB0 : Hid (Bx w l most lv ((((w.alloc (.cells #[.int .i64 l] 3)).alloc (.cells #[.int .i64 most] 3)).alloc (.cells #[.int .i64 lv] 3)).alloc (.cells #[.bool false] 4))) := Bx.new w l most lv
  generalize ((((w.alloc (.cells #[.int .i64 l] 3)).alloc (.cells #[.int .i64 most] 3)).alloc (.cells #[.int .i64 lv] 3)).alloc (.cells #[.bool false] 4)) = W0 at *
  have c0 : W0.cell? ⟨w.heap.size, 0, none⟩ = some (.int .i64 l) := by simp [World.cell?, HB0.out.1]
  have c1 : W0.cell? ⟨w.heap.size + 1, 0, none⟩ = some (.int .i64 most) := by simp [World.cell?, HB0.out.2.1]
  refine (HC.out _).mono ?_
  rintro e w1 ⟨rfl, hw⟩
  obtain rfl := hw.symm
  go_wp2_with fail
  refine (HD.out _).mono ?_
  rintro e w1 ⟨rfl, hw⟩
  obtain rfl := hw.symm
  go_wp2_with fail
  refine (num_any ce _).mono ?_
  rintro e w1 ⟨rfl, hw⟩
  obtain rfl := hw.symm
  go_wp2_with fail
  refine (HA.out _).mono ?_
  rintro e w1 ⟨rfl, hw1⟩
  obtain ⟨A, hA⟩ : ∃ A, W0.heap.size = A := ⟨_, rfl⟩
  rw [hA]
  have HB1 : Hid (Bx w l most lv w1) := by rw [hw1]; exact HB0.out.kept (grow2 _ _ _)
  have HA1 : Hid (w1.heap[A]? = some (.cells #[.int .i64 l] 3 (0, 0)) ∧ w1.heap[A + 1]? = some (.cells #[.int .i64 most] 3 (0, 0)) ∧ w.heap.size + 1 + 1 + 1 < A) := by
    rw [hw1, ← hA]
    exact ⟨heap_alloc2_old _ _ _, heap_alloc2_new _ _ _, (Array.getElem?_eq_some_iff.1 HB0.out.2.2.2.1).1⟩
  clear hw1 hA c0 c1 HB0 HC HD HA
  have c1 : w1.cell? ⟨w.heap.size + 1, 0, none⟩ = some (.int .i64 most) := by simp [World.cell?, HB1.out.2.1]
  have hq := seq_not (.func 12) #[] #[.pointer (some ⟨A + 1, 0, none⟩), .pointer (some ⟨A, 0, none⟩)] w1
  go_wp2_with fail
  refine (num_any 0 _).mono ?_
  rintro e w2 ⟨rfl, hw⟩
  obtain rfl := hw.symm
  clear hq
  go_wp2_with fail
  subst h12
  go_cut [] from 19 (fun wx => ∃ L : Nat, 1 ≤ L ∧ L ≤ 400 ∧ Bx w l most (L : Int) wx ∧ wx.heap[A]? = some (.cells #[.int .i64 l] 3 (0, 0)) ∧ wx.heap[A + 1]? = some (.cells #[.int .i64 most] 3 (0, 0)))
  case first =>
    have c2 : w1.cell? ⟨w.heap.size + 1 + 1, 0, none⟩ = some (.int .i64 lv) := by simp [World.cell?, HB1.out.2.2.1]
    have f2 : w1.frozen? ⟨w.heap.size + 1 + 1, 0, none⟩ = false := by simp [World.frozen?, HB1.out.2.2.1]
    have HPut : Hid (∃ L : Nat, 1 ≤ L ∧ L ≤ 400 ∧ Bx w l most (L : Int) (w1.setCell ⟨w.heap.size + 1 + 1, 0, none⟩ (.int .i64 400)) ∧ (w1.setCell ⟨w.heap.size + 1 + 1, 0, none⟩ (.int .i64 400)).heap[A]? = some (.cells #[.int .i64 l] 3 (0, 0)) ∧ (w1.setCell ⟨w.heap.size + 1 + 1, 0, none⟩ (.int .i64 400)).heap[A + 1]? = some (.cells #[.int .i64 most] 3 (0, 0))) := by
      refine ⟨400, by omega, by omega, HB1.out.put 400, ?_, ?_⟩
      · exact (grownBy_setCell w1 (w.heap.size + 1 + 1) 0 (.int .i64 400)).block A (Array.getElem?_eq_some_iff.1 HA1.out.1).1 (by intro e; injection e with e; have := HA1.out.2.2; omega) |>.trans HA1.out.1
      · exact (grownBy_setCell w1 (w.heap.size + 1 + 1) 0 (.int .i64 400)).block (A + 1) (Array.getElem?_eq_some_iff.1 HA1.out.2.1).1 (by intro e; injection e with e; have := HA1.out.2.2; omega) |>.trans HA1.out.2.1
    by_cases q1 : lv < 1
    · have d1 : decide (lv < 1) = true := decide_eq_true q1
      go_wp2_with fail
      go_meet
      case rel => exact HPut.out
    · have d1 : decide (lv < 1) = false := decide_eq_false q1
      by_cases q2 : 400 < lv
      · have d2 : decide (400 < lv) = true := decide_eq_true q2
        go_wp2_with fail
        go_meet
        case rel => exact HPut.out
      · have d2 : decide (400 < lv) = false := decide_eq_false q2
        have HSame : Hid (∃ L : Nat, 1 ≤ L ∧ L ≤ 400 ∧ Bx w l most (L : Int) w1 ∧ w1.heap[A]? = some (.cells #[.int .i64 l] 3 (0, 0)) ∧ w1.heap[A + 1]? = some (.cells #[.int .i64 most] 3 (0, 0))) := by
          refine ⟨lv.toNat, by omega, by omega, ?_, HA1.out.1, HA1.out.2.1⟩
          rw [show ((lv.toNat : Nat) : Int) = lv by omega]
          exact HB1.out
        go_wp2_with fail
        go_meet
        case rel => exact HSame.out
  case rest =>
    obtain ⟨L, hL1, hL2, hB, hA1, hA2⟩ := hcut
    have HS0 : Hid (LwS w A l most L [] wc) := by
      obtain ⟨b1, b2, b3, b4, b5⟩ := hB
      have hAl := HA1.out.2.2
      refine ⟨List.nodup_nil, fun p hp => ?_, fun p hp => ?_, b5⟩
      · simp only [lwS, List.map_nil, List.mem_cons, List.not_mem_nil, or_false] at hp
        rcases hp with rfl | rfl | rfl | rfl | rfl | rfl
        · exact ⟨b1, by simp⟩
        · exact ⟨b2, by simp⟩
        · exact ⟨b3, by simp⟩
        · exact ⟨b4, by simp⟩
        · exact ⟨hA1, by simp⟩
        · exact ⟨hA2, by simp⟩
      · simp only [lwS, List.map_nil, List.mem_cons, List.not_mem_nil, or_false] at hp
        rcases hp with rfl | rfl | rfl | rfl | rfl | rfl <;> (simp only; omega)
    have HL : Hid (1 ≤ L ∧ L ≤ 400) := ⟨hL1, hL2⟩
    have hA4 := HA1.out.2.2
    clear hB hA1 hA2 HA1 HB1 c1 hL1 hL2 hE hd2
    go_wp2_with fail
    refine wp_loop_ghost_k (LwI w A l most lv cc ce L) 2 ⟨0, [], _, rfl, rfl, rfl, HS0.out⟩ ?_
    intro k a wo hI J2 K2 hJ2 hK2
    obtain ⟨turn, Ds, tl, rfl, hlen, hk, hS⟩ := hI
    obtain ⟨u, hu⟩ := slots_fn tl hlen
    subst hu
    clear hlen
    simp only [List.cons_append, List.nil_append]
    have HS : Hid (LwS w A l most L Ds wo) := hS
    have HKK : Hid (turn + k = 2) := hk
    clear hS HS0
    cases k with
    | zero =>
      obtain rfl : turn = 2 := by omega
      have HK := known_any wo (HT.out.kept HS.out.2.2.2)
      clear hk
      go_wp2_with fail
      refine HK.mono ?_
      rintro e w3 ⟨rfl, g3⟩
      have HS3 : Hid (Keep (lwS w A l most L Ds) none w3 ∧ w.grownBy w3 none) := ⟨HS.out.2.1.grown0 g3, grownBy_trans HS.out.2.2.2 g3⟩
      clear g3 HK
      have h4 := (HS3.out.1 (w.heap.size + 1 + 1 + 1, .cells #[.bool false] 4 (0, 0)) (by simp [lwS])).1
      have r1 : w3.cell? ⟨w.heap.size + 1 + 1 + 1, 0, none⟩ = some (.bool false) := by simp [World.cell?, h4]
      have r2 : w3.frozen? ⟨w.heap.size + 1 + 1 + 1, 0, none⟩ = false := by simp [World.frozen?, h4]
      have HR4 : Hid ((w3.setCell ⟨w.heap.size + 1 + 1 + 1, 0, none⟩ (.bool true)).heap[w.heap.size + 1 + 1 + 1]? = some (.cells #[.bool true] 4 (0, 0))) := by
        show _ = _
        simp [World.setCell, Array.getElem?_modify, h4]
      clear h4
      go_wp2_with fail
      refine leaves_marks _ w.heap.size (some (w.heap.size + 1 + 1 + 1)) (fun W => W.heap[w.heap.size + 1 + 1 + 1]? = some (.cells #[.bool true] 4 (0, 0)) ∧ w.grownBy W none) (fun W hi => res_all _ _ _ true rfl hi.1) ?_ ?_ Ds _ HS.out.1 ?_ ⟨HR4.out, grown_set HS3.out.2 (by omega)⟩
      · exact fun W D hi hD hne => ⟨(World.putObj_heap_other (fun e => hne (by rw [e]))).trans hi.1, grownBy_new hi.2 hD (grownBy_putObj' W D _)⟩
      · exact fun W hi => ⟨rfl, hi.2⟩
      · intro D hD
        have hm : (D, Obj.deferred (some [])) ∈ lwS w A l most L Ds := by simp [lwS, hD]
        have h5 := (HS3.out.1 _ hm).1
        have h6 := (HS3.out.1 (w.heap.size + 1 + 1 + 1, .cells #[.bool false] 4 (0, 0)) (by simp [lwS])).1
        have hne : D ≠ w.heap.size + 1 + 1 + 1 := fun e => by rw [e] at h5; rw [h5] at h6; cases h6
        refine ⟨HS.out.2.2.1 _ hm, ?_, fun e => hne (by injection e)⟩
        exact ((grownBy_setCell w3 (w.heap.size + 1 + 1 + 1) 0 (.bool true)).block D (Array.getElem?_eq_some_iff.1 h5).1 (by intro e; injection e with e; exact hne e)).trans h5
    | succ k =>
      have hturn : turn ≤ 1 := by omega
      clear hk
      have htd : decide ((turn : Int) < 2) = true := decide_eq_true (by omega)
      go_wp2_with fail
      obtain ⟨T, b, hTB, hTL, hbf, hbt⟩ := tb_ex l most L HL.out.1
      have HTB : Hid (TB l most T b ∧ T ≤ L ∧ (b = false → T = L) ∧ (b = true → T < L)) := ⟨hTB, hTL, hbf, hbt⟩
      clear hTB hTL hbf hbt
      obtain ⟨W5, hW5⟩ : ∃ W5, W5 = (((wo.alloc (.cells #[.int .i64 0] 3)).alloc (.cells #[] 3)).alloc (.cells #[.slice (some ⟨wo.heap.size + 1, 0, none⟩) 0 0] 34)).alloc (.cells #[.bool true] 4) := ⟨_, rfl⟩
      rw [← hW5]
      have hz5 : W5.heap.size = wo.heap.size + 4 := by rw [hW5]; simp
      have hSl : ∀ p ∈ lwS w A l most L Ds, w.heap.size ≤ p.1 ∧ p.1 < wo.heap.size := fun p hp => ⟨HS.out.2.2.1 p hp, HS.out.2.1.lt p hp⟩
      have hws : w.heap.size ≤ wo.heap.size := HS.out.2.2.2.size
      have HI5 : Hid (LrI w A l most L Ds wo.heap.size (wo.heap.size + 1 + 1) (wo.heap.size + 1 + 1 + 1) (0, none) W5) := by
        have hg5 : wo.grownBy W5 none := by rw [hW5]; exact grownBy_trans (grow3 _ _ _ _) (grow1 _ _)
        refine ⟨grownBy_trans HS.out.2.2.2 hg5, HS.out.2.1.grown0 hg5, .slice (some ⟨wo.heap.size + 1, 0, none⟩) 0 0, fun p hp => ?_, fun _ => ⟨.inr (.inr ⟨rfl, _, rfl⟩), .inl rfl⟩⟩
        have k : ∀ {W : World} {i : Nat} {o o' : Obj}, W.heap[i]? = some o → (W.alloc o').heap[i]? = some o := fun {W i o o'} h => ((grow1 W o').block i (Array.getElem?_eq_some_iff.1 h).1 (by simp)).trans h
        simp only [rdS, List.mem_cons, List.not_mem_nil, or_false] at hp
        rcases hp with rfl | rfl | rfl
        · refine ⟨?_, by simp⟩
          rw [hW5]
          exact k (k (k (heap_alloc_last _ _)))
        · refine ⟨?_, by simp⟩
          rw [hW5]
          refine k ?_
          simpa using heap_alloc_last ((wo.alloc (.cells #[.int .i64 0] 3)).alloc (.cells #[] 3)) (.cells #[.slice (some ⟨wo.heap.size + 1, 0, none⟩) 0 0] 34)
        · refine ⟨?_, by simp⟩
          rw [hW5]
          simpa [mo] using heap_alloc_last (((wo.alloc (.cells #[.int .i64 0] 3)).alloc (.cells #[] 3)).alloc (.cells #[.slice (some ⟨wo.heap.size + 1, 0, none⟩) 0 0] 34)) (.cells #[.bool true] 4)
      clear hW5
      refine (wpIn_wide (n := 5)).1 ?_
      have hT1 := HTB.out.1
      refine wpIn_words (p := 89) rfl (by omega) rfl trivial EG.out (wd l most) T b (some 2) 0 (by have := hT1.1; simp; omega) (LrI w A l most L Ds wo.heap.size (wo.heap.size + 1 + 1) (wo.heap.size + 1 + 1 + 1))
        (fun q W W' h hg => h.grown0 hg)
        (fun q W W' r h hg hr hne => h.grown hg hr hne (fun p hp => by have := hSl p hp; omega) (by omega) (by omega))
        none (fun r e => by cases e) HI5.out (AllNd (A + 1) A most l) (fun t => t = T)
        (fun q W h => ⟨h.2.1.cell (t := 3) (by simp [lwS]), h.2.1.cell (t := 3) (by simp [lwS])⟩)
        (all_hands l most T b hT1 HR.out.1 HR.out.2 (5 - 1) (W5.heap.size + 2) (A + 1) A)
        (fun v => { tmps := #[.int .i64 l, .int .i64 most, .int .i64 lv, .pointer (some ⟨w.heap.size, 0, none⟩), .pointer (some ⟨w.heap.size + 1, 0, none⟩), .pointer (some ⟨w.heap.size + 1 + 1, 0, none⟩), .pointer (some ⟨w.heap.size + 1 + 1 + 1, 0, none⟩), .int .u64 (cc : Int), .int .i64 ce, .int .u64 (cc : Int), .int .i64 ce, .func (.func 12) #[] #[.pointer (some ⟨A + 1, 0, none⟩), .pointer (some ⟨A, 0, none⟩)], .int .i64 0, .int .i64 (turn : Int), .pointer (some ⟨wo.heap.size, 0, none⟩), .pointer (some ⟨wo.heap.size + 1 + 1, 0, none⟩), .pointer (some ⟨wo.heap.size + 1 + 1 + 1, 0, none⟩), v, u 18, u 19, u 20, u 21, u 22, u 23, u 24, u 25, u 26, u 27, u 28, u 29, u 30, u 31, u 32, u 33, u 34, u 35, u 36, u 37, u 38, u 39, u 40, u 41, u 42, u 43, u 44, u 45, u 46, u 47, u 48, u 49, u 50, u 51, u 52, u 53, u 54, u 55, u 56, u 57, u 58, u 59, u 60, u 61, u 62, u 63, u 64, u 65, u 66, u 67, u 68, u 69, u 70, u 71, u 72, u 73, u 74, u 75, u 76, u 77, u 78, u 79, u 80, u 81, u 82, .int .i64 (turn : Int), .bool true, u 85, u 86, .slice (some ⟨wo.heap.size + 1, 0, none⟩) 0 0, .func (.func 12) #[] #[.pointer (some ⟨A + 1, 0, none⟩), .pointer (some ⟨A, 0, none⟩)], v, u 90, u 91, u 92, u 93, u 94, u 95, u 96, u 97, u 98, u 99, u 100, u 101, u 102, u 103, u 104, u 105, u 106, u 107, u 108, u 109, u 110, u 111, u 112, u 113, u 114, u 115, u 116, u 117, u 118, u 119, u 120, u 121, u 122, u 123, u 124, u 125], defers := [] }) ?_ ?_ ?_
      · intro l2 v W K hK
        gi_wp2
        exact hK
      · intro l2 t o base v W ht hI2 hb1 hb2 hob hv
        have hI3 := hI2
        obtain ⟨-, hK0, vw, hK1, hIn⟩ := hI3
        have hmo : mo l most t = true := hT1.mo t ht
        obtain ⟨hvw, hvo⟩ := hIn hmo
        obtain ⟨hLw, hlen⟩ := hT1.ok HR.out.1.1 HR.out.2.1 t ht
        have hlen2 : (wd l most t).length ≤ 4096 := by have := HR.out.2.2; omega
        have cm : W.cell? ⟨wo.heap.size + 1 + 1 + 1, 0, none⟩ = some (.bool true) := by
          have := hK1.cell (g := wo.heap.size + 1 + 1 + 1) (v := .bool (mo l most t)) (t := 4) (by simp [rdS])
          rw [hmo] at this
          exact this
        have cw : W.cell? ⟨wo.heap.size + 1 + 1, 0, none⟩ = some vw := hK1.cell (t := 34) (by simp [rdS])
        have HSm := rSame_any W v vw (wd l most t) (wd l most t) hv.ints hvw (by omega) (by omega)
        rw [decide_eq_true rfl] at HSm
        have HSame : Hid (CallsIn (Fence.wide.inRound l2) (5 - 1 - 1 - 1) Tryd.prog 9 #[v, vw] W fun e w' => e = .returned (.bool true) ∧ W.grownBy w' none) := callsIn_wide.2 HSm
        clear HSm
        obtain ⟨bv, hbv⟩ : ∃ bv, (b || decide (t + 1 < T)) = bv := ⟨_, rfl⟩
        have hLb : (((t + 1 : Nat) : Int) == (L : Int)) = !bv := by
          obtain ⟨-, q1, q2, q3⟩ := HTB.out
          rw [← hbv]
          cases b with
          | true =>
            have := q3 rfl
            simp
            omega
          | false =>
            have := q2 rfl
            subst this
            rw [Bool.false_or]
            by_cases hc : t + 1 < T
            · simp [hc]; omega
            · simp [hc]; omega
        rw [hbv]
        clear hbv hIn hK0 hK1
        obtain ⟨ab, c, rfl⟩ := hv.form
        obtain ⟨n, hn⟩ : ∃ n, (wd l most t).length = n := ⟨_, rfl⟩
        have HN : Unit → (wd l most t).length = n := fun _ => hn
        rw [hn] at hv HSame hlen hlen2 ⊢
        clear hn
        have hnI : (n : Int) ≤ 4096 := by omega
        have HV : Hid (Own W base (.slice ab n c) (wd l most t)) := hv
        have HI2 : Hid (LrI w A l most L Ds wo.heap.size (wo.heap.size + 1 + 1) (wo.heap.size + 1 + 1 + 1) (t, o) W) := hI2
        have HF : Hid (W5.heap.size + 2 ≤ base ∧ base ≤ W.heap.size ∧ (∀ r, o = some r → r < base) ∧ W5.heap.size = wo.heap.size + 4 ∧ w.heap.size ≤ wo.heap.size ∧ t < T) := ⟨hb1, hb2, hob, hz5, hws, ht⟩
        have HSl : Hid (∀ p ∈ lwS w A l most L Ds, w.heap.size ≤ p.1 ∧ p.1 < wo.heap.size) := hSl
        have HLw : Hid (LwL l (wd l most t)) := hLw
        clear hv hI2 hb1 hb2 hob hz5 hws hSl hmo hvw hvo hLw hlen ht hT1
        gi_wp2
        refine ⟨trivial, HSame.out.mono ?_⟩
        rintro e W1 ⟨rfl, g1⟩
        have G1 : Hid (W.grownBy W1 none) := g1
        have HV1 : Hid (Own W1 base (.slice ab n c) (wd l most t)) := HV.out.kept0 g1
        clear g1 HSame cm cw
        gi_wp2
        gi_loopw [18] (fun s wx => ∃ i : Nat, i ≤ n ∧ s = .int .i64 (i : Int) ∧ (∃ M : List Int, M.length = n ∧ Own wx base (.slice ab n c) M) ∧ W1.grownBy wx (Value.slice ab n c).ownBlock) (fun s _ => match s with | .int _ i => n - i.toNat | _ => 0)
        case atStart => exact ⟨0, by omega, rfl, ⟨_, HN (), HV1.out⟩, World.grownBy.refl _ _⟩
        case round =>
          obtain ⟨i, hi, rfl, ⟨M, hM, hO⟩, hg⟩ := hrel
          have HM : Unit → M.length = n := fun _ => hM
          have HO : Hid (Own wr base (.slice ab n c) M) := hO
          have HG : Hid (W1.grownBy wr (Value.slice ab n c).ownBlock) := hg
          clear hM hO hg
          by_cases hlt : i < n
          · have hltI : (i : Int) < n := by omega
            rcases HO.out.cases with ⟨_, e2⟩ | ⟨g, c', e, hbg, hnc⟩
            · exfalso
              have := HM ()
              rw [e2] at this
              simp at this
              omega
            rw [HM ()] at e
            injection e with e1 e2 e3
            subst e1 e3
            clear e2
            rw [HM ()] at hnc
            have c1 := HO.out.cell i (by rw [HM ()]; exact hlt)
            have f1 := HO.out.frozen i
            have HO2 : Hid (Own (wr.setCell ⟨g, i, none⟩ (.int .i64 99)) base (.slice (some ⟨g, 0, none⟩) n c) (M.set i 99)) := HO.out.set i 99
            have HG2 : Hid (W1.grownBy (wr.setCell ⟨g, i, none⟩ (.int .i64 99)) (Value.slice (some ⟨g, 0, none⟩) n c).ownBlock) := grownBy_trans HG.out (grownBy_setCell _ _ _ _)
            gi_wp2
            go_roundw
            case rel => exact ⟨i + 1, by omega, num_eq (by omega), ⟨_, by rw [List.length_set]; exact HM (), HO2.out⟩, HG2.out⟩
            case measure => simp; omega
          · have hltI : ¬ (i : Int) < n := by omega
            have hI3 : LrI w A l most L Ds wo.heap.size (wo.heap.size + 1 + 1) (wo.heap.size + 1 + 1 + 1) (t, o) wr := by
              have h1 := HI2.out.grown0 G1.out
              have hf := HF.out
              cases hvb : (Value.slice ab n c).ownBlock with
              | none => rw [hvb] at HG; exact h1.grown0 HG.out
              | some g =>
                rw [hvb] at HG
                have hgb := (HV.out.fr.blk g hvb).1
                exact h1.grown HG.out (X := W5.heap.size) (by omega) (fun e => by have := hf.2.2.1 g e.symm; omega) (fun p hp => by have := HSl.out p hp; omega) (by omega) (by omega)
            have HI3 : Hid (LrI w A l most L Ds wo.heap.size (wo.heap.size + 1 + 1) (wo.heap.size + 1 + 1 + 1) (t, o) wr) := hI3
            have HFr : Hid (W.heap.size ≤ wr.heap.size ∧ ∀ i, i < base → wr.heap[i]? = W.heap[i]?) := by
              have g2 : W.grownBy wr (Value.slice ab n c).ownBlock := grownBy_trans (grownBy_any G1.out) HG.out
              refine ⟨g2.size, fun i hi => g2.block i (by have := HF.out; omega) (fun e => ?_)⟩
              have := (HV.out.fr.blk i e.symm).1
              omega
            obtain ⟨-, hK0, vw2, hK1, hIn⟩ := hI3
            have hmo2 : mo l most t = true := HTB.out.1.mo t HF.out.2.2.2.2.2
            obtain ⟨hvw2, -⟩ := hIn hmo2
            have HNx := rNext_any wr vw2 (wd l most t) l most hvw2 HR.out.1 HLw.out (by rw [HN ()]; omega)
            obtain ⟨nv, hnv⟩ : ∃ nv, nxB l most (wd l most t) = nv := ⟨_, rfl⟩
            rw [hnv] at HNx
            have HNxt : Hid (CallsIn (Fence.wide.inRound l2) (5 - 1 - 1 - 1) Tryd.prog 10 #[vw2, .int .i64 l, .int .i64 most] wr fun e w' => ∃ v', e = .returned (.tuple #[v', .bool nv]) ∧ Own w' wr.heap.size v' (nxL l most (wd l most t)) ∧ wr.grownBy w' none) := callsIn_wide.2 HNx
            have HNV : Unit → nxB l most (wd l most t) = nv := fun _ => hnv
            have cw : wr.cell? ⟨wo.heap.size + 1 + 1, 0, none⟩ = some vw2 := hK1.cell (t := 34) (by simp [rdS])
            have cl : wr.cell? ⟨w.heap.size, 0, none⟩ = some (.int .i64 l) := hK0.cell (t := 3) (by simp [lwS])
            have cm : wr.cell? ⟨w.heap.size + 1, 0, none⟩ = some (.int .i64 most) := hK0.cell (t := 3) (by simp [lwS])
            clear HNx hnv hvw2 hIn hK0 hK1 hmo2 HG HO HM HV1 G1 HI2 HLw
            gi_wp2
            refine ⟨trivial, HNxt.out.mono ?_⟩
            rintro e W3 ⟨v', rfl, hO', g3⟩
            obtain ⟨ab', c', hv'⟩ := hO'.form
            obtain ⟨n', hn'⟩ : ∃ n', (nxL l most (wd l most t)).length = n' := ⟨_, rfl⟩
            rw [hn'] at hv'
            have HO3 : Hid (Own W3 wr.heap.size (.slice ab' n' c') (nxL l most (wd l most t))) := by rw [← hv']; exact hO'
            subst hv'
            have HFr3 : Hid (W.heap.size ≤ wr.heap.size ∧ wr.heap.size ≤ W3.heap.size ∧ ∀ i, i < base → W3.heap[i]? = W.heap[i]?) := ⟨HFr.out.1, g3.size, fun i hi => (g3.block i (by have := HFr.out.1; have := HF.out.2.1; omega) (by simp)).trans (HFr.out.2 i hi)⟩
            have hI4 := HI3.out.grown0 g3
            obtain ⟨hw4, hK4, vw4, hK5, -⟩ := hI4
            have b1 := (hK5 (wo.heap.size, .cells #[.int .i64 (t : Int)] 3 (0, 0)) (by simp [rdS])).1
            have b2 := (hK5 (wo.heap.size + 1 + 1, .cells #[vw4] 34 (0, 0)) (by simp [rdS])).1
            have b3 := (hK5 (wo.heap.size + 1 + 1 + 1, .cells #[.bool (mo l most t)] 4 (0, 0)) (by simp [rdS])).1
            have b4 := (hK4 (w.heap.size + 1 + 1, .cells #[.int .i64 (L : Int)] 3 (0, 0)) (by simp [lwS])).1
            have hLlt := (HSl.out (w.heap.size + 1 + 1, .cells #[.int .i64 (L : Int)] 3 (0, 0)) (by simp [lwS])).2
            simp only at b1 b2 b3 b4 hLlt
            have n1 : ¬ (w.heap.size + 1 + 1 = wo.heap.size) := by omega
            have n2 : ¬ (w.heap.size + 1 + 1 = wo.heap.size + 1 + 1) := by omega
            have n3 : ¬ (w.heap.size + 1 + 1 = wo.heap.size + 1 + 1 + 1) := by omega
            have x1 : W3.cell? ⟨wo.heap.size, 0, none⟩ = some (.int .i64 (t : Int)) := by simp [World.cell?, b1]
            have x2 : W3.cell? ⟨wo.heap.size + 1 + 1, 0, none⟩ = some vw4 := by simp [World.cell?, b2]
            have x3 : W3.cell? ⟨wo.heap.size + 1 + 1 + 1, 0, none⟩ = some (.bool (mo l most t)) := by simp [World.cell?, b3]
            have x4 : W3.cell? ⟨w.heap.size + 1 + 1, 0, none⟩ = some (.int .i64 (L : Int)) := by simp [World.cell?, b4]
            have y1 : W3.frozen? ⟨wo.heap.size, 0, none⟩ = false := by simp [World.frozen?, b1]
            have y2 : W3.frozen? ⟨wo.heap.size + 1 + 1, 0, none⟩ = false := by simp [World.frozen?, b2]
            have y3 : W3.frozen? ⟨wo.heap.size + 1 + 1 + 1, 0, none⟩ = false := by simp [World.frozen?, b3]
            have htI : IntKind.i64.wrap ((t : Int) + 1) = ((t + 1 : Nat) : Int) := by rw [IntKind.wrap_i64]; have := HF.out.2.2.2.2.2; have := HTB.out.2.1; have := HL.out.2; omega
            have FIN : Hid (∀ act, roundW bv (some 2) W5.heap.size base (LrI w A l most L Ds wo.heap.size (wo.heap.size + 1 + 1) (wo.heap.size + 1 + 1 + 1)) (t + 1) o W (if bv then .normal else .exit 2) act (((W3.setCell ⟨wo.heap.size + 1 + 1, 0, none⟩ (.slice ab' n' c')).setCell ⟨wo.heap.size + 1 + 1 + 1, 0, none⟩ (.bool nv)).setCell ⟨wo.heap.size, 0, none⟩ (.int .i64 ((t + 1 : Nat) : Int)))) := by
              intro act
              have hf := HF.out
              have hf3 := HFr3.out
              have ks1 := grownBy_setCell W3 (wo.heap.size + 1 + 1) 0 (.slice ab' n' c')
              have ks2 := grownBy_setCell (W3.setCell ⟨wo.heap.size + 1 + 1, 0, none⟩ (.slice ab' n' c')) (wo.heap.size + 1 + 1 + 1) 0 (.bool nv)
              have ks3 := grownBy_setCell ((W3.setCell ⟨wo.heap.size + 1 + 1, 0, none⟩ (.slice ab' n' c')).setCell ⟨wo.heap.size + 1 + 1 + 1, 0, none⟩ (.bool nv)) wo.heap.size 0 (.int .i64 ((t + 1 : Nat) : Int))
              have hsz : W3.heap.size ≤ (((W3.setCell ⟨wo.heap.size + 1 + 1, 0, none⟩ (.slice ab' n' c')).setCell ⟨wo.heap.size + 1 + 1 + 1, 0, none⟩ (.bool nv)).setCell ⟨wo.heap.size, 0, none⟩ (.int .i64 ((t + 1 : Nat) : Int))).heap.size := by
                have q1 := ks1.size
                have q2 := ks2.size
                have q3 := ks3.size
                omega
              have far : ∀ i, i < W3.heap.size → i ≠ wo.heap.size → i ≠ wo.heap.size + 1 + 1 → i ≠ wo.heap.size + 1 + 1 + 1 → (((W3.setCell ⟨wo.heap.size + 1 + 1, 0, none⟩ (.slice ab' n' c')).setCell ⟨wo.heap.size + 1 + 1 + 1, 0, none⟩ (.bool nv)).setCell ⟨wo.heap.size, 0, none⟩ (.int .i64 ((t + 1 : Nat) : Int))).heap[i]? = W3.heap[i]? := fun i hi h1 h2 h3 => by
                have q1 := ks1.size
                have q2 := ks2.size
                rw [ks3.block i (by omega) (fun e => h1 (by injection e)), ks2.block i (by omega) (fun e => h3 (by injection e)), ks1.block i hi (fun e => h2 (by injection e))]
              have hmo3 : mo l most (t + 1) = nv := HNV ()
              have main : ∀ o', (o' = o ∨ ∃ g, o' = some g ∧ wr.heap.size ≤ g ∧ g < W3.heap.size) → ((Value.slice ab' n' c').ownBlock = none ∨ (Value.slice ab' n' c').ownBlock = o') → roundW bv (some 2) W5.heap.size base (LrI w A l most L Ds wo.heap.size (wo.heap.size + 1 + 1) (wo.heap.size + 1 + 1 + 1)) (t + 1) o W (if bv then .normal else .exit 2) act (((W3.setCell ⟨wo.heap.size + 1 + 1, 0, none⟩ (.slice ab' n' c')).setCell ⟨wo.heap.size + 1 + 1 + 1, 0, none⟩ (.bool nv)).setCell ⟨wo.heap.size, 0, none⟩ (.int .i64 ((t + 1 : Nat) : Int))) := by
                intro o' ho' hvo
                have hno : ∀ i, i < wr.heap.size → some i ≠ o → some i ≠ o' := by
                  intro i hi hne
                  rcases ho' with rfl | ⟨g, rfl, hg, _⟩
                  · exact hne
                  · intro e; injection e with e; omega
                refine ⟨rfl, o', ⟨?_, ?_, .slice ab' n' c', ?_, fun _ => ⟨?_, .inr hvo⟩⟩, by omega, fun i h1 h2 h3 => ?_, ?_⟩
                · exact grown_set (grown_set (grown_set hw4 (by omega)) (by omega)) (by omega)
                · intro p hp
                  have h1 := HSl.out p hp
                  exact ⟨(far p.1 (by omega) (by omega) (by omega) (by omega)).trans (hK4 p hp).1, hno p.1 (by omega) (hK4 p hp).2⟩
                · intro p hp
                  have hq := hK5
                  simp only [rdS, List.mem_cons, List.not_mem_nil, or_false] at hp
                  rcases hp with rfl | rfl | rfl
                  · refine ⟨?_, hno _ (by show wo.heap.size < _; omega) (hK5 (wo.heap.size, .cells #[.int .i64 (t : Int)] 3 (0, 0)) (by simp [rdS])).2⟩
                    have z := heap_setCell_same _ wo.heap.size 0 _ 3 (.int .i64 ((t + 1 : Nat) : Int)) ((heap_setCell_other (W3.setCell ⟨wo.heap.size + 1 + 1, 0, none⟩ (.slice ab' n' c')) ⟨wo.heap.size + 1 + 1 + 1, 0, none⟩ wo.heap.size (.bool nv) (by show wo.heap.size ≠ wo.heap.size + 1 + 1 + 1; omega)).trans ((heap_setCell_other W3 ⟨wo.heap.size + 1 + 1, 0, none⟩ wo.heap.size (.slice ab' n' c') (by show wo.heap.size ≠ wo.heap.size + 1 + 1; omega)).trans b1))
                    exact z
                  · refine ⟨?_, hno _ (by show wo.heap.size + 1 + 1 < _; omega) (hK5 (wo.heap.size + 1 + 1, .cells #[vw4] 34 (0, 0)) (by simp [rdS])).2⟩
                    have z := heap_setCell_same W3 (wo.heap.size + 1 + 1) 0 _ 34 (.slice ab' n' c') b2
                    exact (heap_setCell_other _ ⟨wo.heap.size, 0, none⟩ (wo.heap.size + 1 + 1) _ (by show wo.heap.size + 1 + 1 ≠ wo.heap.size; omega)).trans ((heap_setCell_other _ ⟨wo.heap.size + 1 + 1 + 1, 0, none⟩ (wo.heap.size + 1 + 1) _ (by show wo.heap.size + 1 + 1 ≠ wo.heap.size + 1 + 1 + 1; omega)).trans z)
                  · refine ⟨?_, hno _ (by show wo.heap.size + 1 + 1 + 1 < _; omega) (hK5 (wo.heap.size + 1 + 1 + 1, .cells #[.bool (mo l most t)] 4 (0, 0)) (by simp [rdS])).2⟩
                    rw [show mo l most (t + 1, o').1 = nv from hmo3]
                    have z := heap_setCell_same _ (wo.heap.size + 1 + 1 + 1) 0 _ 4 (.bool nv) ((heap_setCell_other W3 ⟨wo.heap.size + 1 + 1, 0, none⟩ (wo.heap.size + 1 + 1 + 1) (.slice ab' n' c') (by show wo.heap.size + 1 + 1 + 1 ≠ wo.heap.size + 1 + 1; omega)).trans b3)
                    exact (heap_setCell_other _ ⟨wo.heap.size, 0, none⟩ (wo.heap.size + 1 + 1 + 1) _ (by show wo.heap.size + 1 + 1 + 1 ≠ wo.heap.size; omega)).trans z
                · have hfar : ∀ j, j < wr.heap.size → (Value.slice ab' n' c').ownBlock = none ∨ (Value.slice ab' n' c').ownBlock ≠ some j := by
                    intro j hj
                    cases hvb : (Value.slice ab' n' c').ownBlock with
                    | none => exact .inl rfl
                    | some g => exact .inr (fun e => by injection e with e; have := (HO3.out.fr.blk g hvb).1; omega)
                  exact (((HO3.out.kept ks1 (hfar _ (by omega))).kept ks2 (hfar _ (by omega))).kept ks3 (hfar _ (by omega))).ints
                · exact (far i (by omega) (by omega) (by omega) (by omega)).trans (hf3.2.2 i h2)
                · rcases ho' with rfl | ⟨g, rfl, hg1, hg2⟩
                  · exact .inl rfl
                  · exact .inr ⟨g, rfl, by omega, by omega⟩
              cases hvb : (Value.slice ab' n' c').ownBlock with
              | none => exact main o (.inl rfl) (.inl hvb)
              | some g => exact main (some g) (.inr ⟨g, rfl, HO3.out.fr.blk g hvb⟩) (.inr hvb)
            clear b1 b2 b3 b4 hLlt hK4 hK5 hw4 hO' g3 cw cl cm HNxt
            cases bv
            · simp only [Bool.not_false] at hLb
              gi_wp2
              exact FIN.out _
            · simp only [Bool.not_true] at hLb
              gi_wp2
              exact FIN.out _
      · intro D t1 o W hD hE hI2 hob hDd hoD
        have hE' : t1 = T := hE
        subst hE'
        obtain ⟨hw6, hK0, vw, hK1, -⟩ := hI2
        have HS6 : Hid (LwS w A l most L (D :: Ds) W) := by
          refine ⟨List.nodup_cons.2 ⟨fun hD2 => ?_, HS.out.1⟩, fun p hp => ?_, fun p hp => ?_, hw6⟩
          · have := (hSl (D, .deferred (some [])) (by simp [lwS, hD2])).2
            simp only at this
            omega
          · simp only [lwS, List.map_cons, List.mem_cons] at hp
            have hk := hK0.none
            rcases hp with rfl | rfl | rfl | rfl | rfl | rfl | rfl | hp
            · exact hk _ (by simp [lwS])
            · exact hk _ (by simp [lwS])
            · exact hk _ (by simp [lwS])
            · exact hk _ (by simp [lwS])
            · exact hk _ (by simp [lwS])
            · exact hk _ (by simp [lwS])
            · exact ⟨hDd, by simp⟩
            · exact hk _ (by simp only [lwS, List.mem_cons]; exact .inr (.inr (.inr (.inr (.inr (.inr hp))))))
          · simp only [lwS, List.map_cons, List.mem_cons] at hp
            rcases hp with rfl | rfl | rfl | rfl | rfl | rfl | rfl | hp
            · exact (hSl _ (by simp [lwS])).1
            · exact (hSl _ (by simp [lwS])).1
            · exact (hSl _ (by simp [lwS])).1
            · exact (hSl _ (by simp [lwS])).1
            · exact (hSl (A, .cells #[.int .i64 l] 3 (0, 0)) (by simp [lwS])).1
            · exact (hSl (A + 1, .cells #[.int .i64 most] 3 (0, 0)) (by simp [lwS])).1
            · simp only; omega
            · exact (hSl _ (by simp only [lwS, List.mem_cons]; exact .inr (.inr (.inr (.inr (.inr (.inr hp))))))).1
        have cn : W.cell? ⟨wo.heap.size, 0, none⟩ = some (.int .i64 (t1 : Int)) := hK1.cell (t := 3) (by simp [rdS])
        have cL : W.cell? ⟨w.heap.size + 1 + 1, 0, none⟩ = some (.int .i64 (L : Int)) := hK0.cell (t := 3) (by simp [lwS])
        have cm : W.cell? ⟨wo.heap.size + 1 + 1 + 1, 0, none⟩ = some (.bool (mo l most t1)) := hK1.cell (t := 4) (by simp [rdS])
        have hwt : IntKind.i64.wrap ((turn : Int) + 1) = ((turn + 1 : Nat) : Int) := by rw [IntKind.wrap_i64]; omega
        obtain ⟨-, q1, q2, q3⟩ := HTB.out
        cases b with
        | true =>
          have hmf : mo l most t1 = false := HTB.out.1.mo_end
          have hne : ((t1 : Int) == (L : Int)) = false := by have := q3 rfl; simp; omega
          rw [hmf] at cm
          rw [show (true || decide (t1 < t1)) = true from rfl, if_pos rfl]
          clear hmf q1 q2 q3 hK0 hK1 hDd hoD hob hD hE hw6 hSl hws hz5 hT1 HI5
          gi_wp2
          go_wp2_with fail
          all_goals exact Handed.intro k (by omega) (hJ2 _ _ _ ⟨turn + 1, D :: Ds, _, rfl, rfl, by have := HKK.out; omega, HS6.out⟩)
        | false =>
          obtain rfl := q2 rfl
          have hne : ((t1 : Int) == (t1 : Int)) = true := by simp
          rw [show (false || decide (t1 < t1)) = false by simp, if_neg (by simp)]
          clear q1 q2 q3 hK0 hK1 hDd hoD hob hD hE hw6 hSl hws hz5 hT1 HI5
          show Code.wpIn _ _ _ (Code.exit 2) _ _ _
          gi_wp2
          go_wp2_with fail
          all_goals exact Handed.intro k (by omega) (hJ2 _ _ _ ⟨turn + 1, D :: Ds, _, rfl, rfl, by have := HKK.out; omega, HS6.out⟩)
end Go.Proofs.YtkimgmgafkihaaaDoor
