/-
  What a nil reader and a zero one answer.
-/
import Derived.Test.YtanbnefdodkniaaRdw
namespace Go.Proofs.Ytanbnefdodkniaa
open Go.RowKit Go.Lib Go.Sort

/-- A nil reader, or a zero one. -/
def Dead (w : World) (p : Value) : Prop := p = .pointer none ∨ ∃ rb, p = rp rb ∧ w.heap[rb]? = some (.cells #[.slice none 0 0, .int .i64 0, .bool false] 100 (0, 0))
theorem Dead.kept {w w' : World} {p : Value} (h : Dead w p) (hg : w.grownBy w' none) : Dead w' p := by
  rcases h with h | ⟨rb, h1, h2⟩
  · exact .inl h
  · exact .inr ⟨rb, h1, (hg.block rb (Array.getElem?_eq_some_iff.1 h2).1 (by simp)).trans h2⟩
theorem Dead.al {w : World} {p : Value} (h : Dead w p) (o : Obj) : Dead (w.alloc o) p := h.kept (World.grownBy_alloc _ _ _)

set_option maxHeartbeats 1600000 in
theorem there_dead (w : World) (p : Value) (h : Dead w p) : Calls Try.prog 73 #[p] w fun e w' => e = .returned (.bool false) ∧ w' = w := by
  rcases h with rfl | ⟨rb, rfl, h⟩
  · go_enter Try.func73, Try.ntmps73
    go_wp2
    go_ret
    exact ⟨rfl, rfl⟩
  · have h2 : w.cell? ⟨rb, 2, none⟩ = some (.bool false) := by simp [World.cell?, h]
    go_enter Try.func73, Try.ntmps73
    go_wp2
    go_ret
    exact ⟨rfl, rfl⟩

/-- A method that answers its zero value and ErrNil. -/
def Nils (f : Nat) (args : Value → Array Value) (x : Value) : Prop := ∀ (w : World) (p : Value), Dead w p → Calls Try.prog f (args p) w fun en w' => en = .returned (.tuple #[x, .int .i64 1]) ∧ w.grownBy w' none

set_option maxHeartbeats 1600000 in
set_option maxRecDepth 1000000 in
theorem number_dead : Nils 36 (fun p => #[p]) (.int .u64 0) := by
  intro w p h
  show Calls Try.prog 36 #[p] w _
  go_enter Try.func36, Try.ntmps36
  go_wp2_with (first | (go_at_call 73; refine (there_dead _ p h).mono ?_; rintro e w' ⟨rfl, rfl⟩) | (go_at_call 74; go_in))
  go_ret2
  exact ⟨rfl, World.grownBy.refl _ _⟩
set_option maxHeartbeats 1600000 in
set_option maxRecDepth 1000000 in
theorem signed_dead : Nils 37 (fun p => #[p]) (.int .i64 0) := by
  intro w p h
  show Calls Try.prog 37 #[p] w _
  go_enter Try.func37, Try.ntmps37
  go_wp2_with (first | (go_at_call 73; refine (there_dead _ p h).mono ?_; rintro e w' ⟨rfl, rfl⟩) | (go_at_call 76; go_in))
  go_ret2
  exact ⟨rfl, World.grownBy.refl _ _⟩
set_option maxHeartbeats 1600000 in
set_option maxRecDepth 1000000 in
theorem float_dead (w : World) (p : Value) (h : Dead w p) : Calls Try.prog 43 #[p] w fun en w' => ∃ x, en = .returned (.tuple #[x, .int .i64 1]) ∧ w.grownBy w' none := by
  go_enter Try.func43, Try.ntmps43
  go_wp2_with (first | (go_at_call 73; refine (there_dead _ p h).mono ?_; rintro e w' ⟨rfl, rfl⟩) | (go_at_call 90; go_in))
  go_ret2
  exact ⟨_, rfl, World.grownBy.refl _ _⟩
set_option maxHeartbeats 1600000 in
set_option maxRecDepth 1000000 in
theorem complex_dead (w : World) (p : Value) (h : Dead w p) : Calls Try.prog 38 #[p] w fun en w' => ∃ x, en = .returned (.tuple #[x, .int .i64 1]) ∧ w.grownBy w' none := by
  go_enter Try.func38, Try.ntmps38
  go_wp2_with (first | (go_at_call 73; refine (there_dead _ p h).mono ?_; rintro e w' ⟨rfl, rfl⟩) | (go_at_call 78; go_in))
  go_ret2
  exact ⟨_, rfl, World.grownBy.refl _ _⟩
set_option maxHeartbeats 1600000 in
set_option maxRecDepth 1000000 in
theorem text_dead (w : World) (p : Value) (most : Int) (h : Dead w p) : Calls Try.prog 39 #[p, .int .i64 most] w fun en w' => en = .returned (.tuple #[.string ⟨#[]⟩, .int .i64 1]) ∧ w.grownBy w' none := by
  go_enter Try.func39, Try.ntmps39
  go_wp2_with (first | (go_at_call 73; refine (there_dead _ p (h.al _)).mono ?_; rintro e w' ⟨rfl, rfl⟩) | (go_at_call 82; go_in))
  go_ret2
  exact ⟨rfl, World.grownBy_alloc _ _ _⟩
set_option maxHeartbeats 1600000 in
set_option maxRecDepth 1000000 in
theorem place_dead (w : World) (p : Value) (h : Dead w p) : Calls Try.prog 33 #[p] w fun en w' => en = .returned (.int .i64 0) ∧ w' = w := by
  go_enter Try.func33, Try.ntmps33
  go_wp2_with (first | (go_at_call 73; refine (there_dead _ p h).mono ?_; rintro e w' ⟨rfl, rfl⟩))
  go_ret
  exact ⟨rfl, rfl⟩
set_option maxHeartbeats 1600000 in
set_option maxRecDepth 1000000 in
theorem left_dead (w : World) (p : Value) (h : Dead w p) : Calls Try.prog 34 #[p] w fun en w' => en = .returned (.int .i64 0) ∧ w' = w := by
  go_enter Try.func34, Try.ntmps34
  go_wp2_with (first | (go_at_call 73; refine (there_dead _ p h).mono ?_; rintro e w' ⟨rfl, rfl⟩))
  go_ret
  exact ⟨rfl, rfl⟩
set_option maxHeartbeats 1600000 in
set_option maxRecDepth 1000000 in
theorem backW_dead (w : World) (p f : Value) (h : Dead w p) : Calls Try.prog 95 #[p, f] w fun en w' => en = .returned (.tuple #[zw, .int .i64 1]) ∧ w.grownBy w' none := by
  go_enter Try.func95, Try.ntmps95
  go_wp2_with (first | (go_at_call 73; refine (there_dead _ p ((h.al _).al _)).mono ?_; rintro e w' ⟨rfl, rfl⟩))
  refine bodyPost_ret (v := .tuple #[zw, .int .i64 1]) (by simp [results, Try.results95, go_sem]) rfl ⟨rfl, ?_⟩
  exact grownBy_trans (World.grownBy_alloc _ _ _) (World.grownBy_alloc _ _ _)
set_option maxHeartbeats 1600000 in
set_option maxRecDepth 1000000 in
theorem whole_dead (w : World) (p : Value) (h : Dead w p) : Calls Try.prog 52 #[p] w fun en w' => en = .returned (.tuple #[zw, .int .i64 1]) ∧ w.grownBy w' none := by
  go_enter Try.func52, Try.ntmps52
  go_wp2_with (first | (go_at_call 95; refine (backW_dead _ p _ (h.al _)).mono ?_; rintro e w1 ⟨rfl, hg⟩; obtain ⟨a0, a1, f0, f1, hB⟩ := kept2 (heap_alloc_new w zo) hg (by simp)))
  obtain ⟨r0, r1, _⟩ := kept2 (over2 (x := .bool false) (y := .string ⟨#[]⟩) hB) (World.grownBy.refl _ none) (by simp)
  refine bodyPost_ret (v := .tuple #[zw, .int .i64 1]) (by simp [results, Try.results52, go_sem, r0, r1]) rfl ⟨rfl, ?_⟩
  exact grownBy_put (grownBy_put (grownBy_trans (World.grownBy_alloc _ _ _) hg) (Nat.le_refl _) _ _) (Nat.le_refl _) _ _

abbrev zf : Value := .agg #[.bool false, .string ⟨#[]⟩, .bool false, .string ⟨#[]⟩]
abbrev zfo : Obj := .cells #[.bool false, .string ⟨#[]⟩, .bool false, .string ⟨#[]⟩] 26
abbrev zg : Value := .agg #[.bool false, .string ⟨#[]⟩, .bool false, .string ⟨#[]⟩, .bool false, .string ⟨#[]⟩, .bool false, .string ⟨#[]⟩]
abbrev zgo : Obj := .cells #[.bool false, .string ⟨#[]⟩, .bool false, .string ⟨#[]⟩, .bool false, .string ⟨#[]⟩, .bool false, .string ⟨#[]⟩] 28

/-- A block as it was, cell by cell. -/
theorem keptN {w w1 : World} {row : Option Nat} {g : Nat} {c : Array Value} {t : TypeId} (h : w.heap[g]? = some (.cells c t (0, 0))) (hg : w.grownBy w1 row) (hne : row ≠ some g) :
    (∀ j u, c[j]? = some u → w1.cell? ⟨g, j, none⟩ = some u) ∧ (∀ j, w1.frozen? ⟨g, j, none⟩ = false) ∧ w1.heap[g]? = some (.cells c t (0, 0)) := by
  have e : w1.heap[g]? = some (.cells c t (0, 0)) := (hg.block g (Array.getElem?_eq_some_iff.1 h).1 (fun e => hne e.symm)).trans h
  refine ⟨fun j u hj => ?_, fun j => ?_, e⟩
  · simp [World.cell?, e, hj]
  · simp [World.frozen?, e]

set_option maxHeartbeats 1600000 in
set_option maxRecDepth 1000000 in
theorem backF_dead (w : World) (p f : Value) (h : Dead w p) : Calls Try.prog 99 #[p, f] w fun en w' => en = .returned (.tuple #[zf, .int .i64 1]) ∧ w.grownBy w' none := by
  go_enter Try.func99, Try.ntmps99
  go_wp2_with (first | (go_at_call 73; refine (there_dead _ p ((h.al _).al _)).mono ?_; rintro e w' ⟨rfl, rfl⟩))
  refine bodyPost_ret (v := .tuple #[zf, .int .i64 1]) (by simp [results, Try.results99, go_sem]) rfl ⟨rfl, ?_⟩
  exact grownBy_trans (World.grownBy_alloc _ _ _) (World.grownBy_alloc _ _ _)
set_option maxHeartbeats 1600000 in
set_option maxRecDepth 1000000 in
theorem backG_dead (w : World) (p f : Value) (h : Dead w p) : Calls Try.prog 86 #[p, f] w fun en w' => en = .returned (.tuple #[zg, .int .i64 1]) ∧ w.grownBy w' none := by
  go_enter Try.func86, Try.ntmps86
  go_wp2_with (first | (go_at_call 73; refine (there_dead _ p ((h.al _).al _)).mono ?_; rintro e w' ⟨rfl, rfl⟩))
  refine bodyPost_ret (v := .tuple #[zg, .int .i64 1]) (by simp [results, Try.results86, go_sem]) rfl ⟨rfl, ?_⟩
  exact grownBy_trans (World.grownBy_alloc _ _ _) (World.grownBy_alloc _ _ _)
set_option maxHeartbeats 1600000 in
set_option maxRecDepth 1000000 in
theorem frac_dead (w : World) (p : Value) (h : Dead w p) : Calls Try.prog 69 #[p] w fun en w' => en = .returned (.tuple #[zf, .int .i64 1]) ∧ w.grownBy w' none := by
  go_enter Try.func69, Try.ntmps69
  go_wp2_with (first | (go_at_call 99; refine (backF_dead _ p _ (h.al _)).mono ?_; rintro e w1 ⟨rfl, hg⟩; obtain ⟨a, f, hB⟩ := keptN (heap_alloc_new w zfo) hg (by simp); have a0 := a 0 _ rfl; have a1 := a 1 _ rfl; have a2 := a 2 _ rfl; have a3 := a 3 _ rfl; have f0 := f 0; have f1 := f 1; have f2 := f 2; have f3 := f 3; clear a f))
  refine bodyPost_ret (v := .tuple #[zf, .int .i64 1]) (by simp [results, Try.results69, go_sem, a0, a1, a2, a3]) rfl ⟨rfl, ?_⟩
  have g1 : w.grownBy w1 none := grownBy_trans (World.grownBy_alloc _ _ _) hg
  exact grownBy_put (grownBy_put (grownBy_put (grownBy_put g1 (Nat.le_refl _) _ _) (Nat.le_refl _) _ _) (Nat.le_refl _) _ _) (Nat.le_refl _) _ _
set_option maxHeartbeats 1600000 in
set_option maxRecDepth 1000000 in
theorem gauss_dead (w : World) (p : Value) (h : Dead w p) : Calls Try.prog 42 #[p] w fun en w' => en = .returned (.tuple #[zg, .int .i64 1]) ∧ w.grownBy w' none := by
  go_enter Try.func42, Try.ntmps42
  go_wp2_with (first | (go_at_call 86; refine (backG_dead _ p _ (h.al _)).mono ?_; rintro e w1 ⟨rfl, hg⟩; obtain ⟨a, f, hB⟩ := keptN (heap_alloc_new w zgo) hg (by simp); have a0 := a 0 _ rfl; have a1 := a 1 _ rfl; have a2 := a 2 _ rfl; have a3 := a 3 _ rfl; have a4 := a 4 _ rfl; have a5 := a 5 _ rfl; have a6 := a 6 _ rfl; have a7 := a 7 _ rfl; have f0 := f 0; have f1 := f 1; have f2 := f 2; have f3 := f 3; have f4 := f 4; have f5 := f 5; have f6 := f 6; have f7 := f 7; clear a f))
  refine bodyPost_ret (v := .tuple #[zg, .int .i64 1]) (by simp [results, Try.results42, go_sem, a0, a1, a2, a3, a4, a5, a6, a7]) rfl ⟨rfl, ?_⟩
  have g1 : w.grownBy w1 none := grownBy_trans (World.grownBy_alloc _ _ _) hg
  exact grownBy_put (grownBy_put (grownBy_put (grownBy_put (grownBy_put (grownBy_put (grownBy_put (grownBy_put g1 (Nat.le_refl _) _ _) (Nat.le_refl _) _ _) (Nat.le_refl _) _ _) (Nat.le_refl _) _ _) (Nat.le_refl _) _ _) (Nat.le_refl _) _ _) (Nat.le_refl _) _ _) (Nat.le_refl _) _ _

set_option maxHeartbeats 4000000 in
set_option maxRecDepth 1000000 in
theorem nothing_any (w : World) (p : Value) (h : Dead w p) : Calls Try.prog 53 #[p] w fun en w' => en = .returned (.bool true) ∧ w.grownBy w' none := by
  go_enter Try.func53, Try.ntmps53
  go_wp2_with fail
  refine (number_dead w p h).mono ?_
  rintro e w1 ⟨rfl, g1⟩
  have h1 := h.kept g1
  go_wp2_with fail
  refine (signed_dead w1 p h1).mono ?_
  rintro e w2 ⟨rfl, g2⟩
  have h2 := h1.kept g2
  have k2 := grownBy_trans g1 g2
  clear h1 g1 g2
  go_wp2_with fail
  refine (float_dead w2 p h2).mono ?_
  rintro e w3 ⟨x3, rfl, g3⟩
  have h3 := h2.kept g3
  have k3 := grownBy_trans k2 g3
  clear h2 k2 g3
  go_wp2_with fail
  refine (complex_dead w3 p h3).mono ?_
  rintro e w4 ⟨x4, rfl, g4⟩
  have h4 := h3.kept g4
  have k4 := grownBy_trans k3 g4
  clear h3 k3 g4
  go_wp2_with fail
  refine (text_dead w4 p (-1) h4).mono ?_
  rintro e w5 ⟨rfl, g5⟩
  have h5 := h4.kept g5
  have k5 := grownBy_trans k4 g5
  clear h4 k4 g5
  go_wp2_with fail
  refine (whole_dead w5 p h5).mono ?_
  rintro e w6 ⟨rfl, g6⟩
  have h6 := h5.kept g6
  have k6 := grownBy_trans k5 g6
  clear h5 k5 g6
  go_wp2_with fail
  refine (frac_dead _ p (h6.al _)).mono ?_
  rintro e w7 ⟨rfl, g7⟩
  have h7 := (h6.al zo).kept g7
  have k7 := grownBy_trans (grownBy_trans k6 (World.grownBy_alloc _ _ _)) g7
  obtain ⟨_, _, _, _, B7⟩ := kept2 (heap_alloc_new w6 zo) g7 (by simp)
  clear h6 k6 g7
  go_wp2_with fail
  refine (gauss_dead _ p (h7.al _)).mono ?_
  rintro e w8 ⟨rfl, g8⟩
  have h8 := ((h7.al zfo).kept g8).al zgo
  have k8 := grownBy_trans (grownBy_trans (grownBy_trans k7 (World.grownBy_alloc _ _ _)) g8) (World.grownBy_alloc w8 zgo none)
  obtain ⟨C8, _, D8⟩ := keptN (heap_alloc_new w7 zfo) g8 (by simp)
  have m7 := (Array.getElem?_eq_some_iff.1 B7).1
  obtain ⟨E8, _, B8⟩ := keptN ((Below.heap_alloc w7 zfo _ m7).trans B7) g8 (by simp)
  have m8 := (Array.getElem?_eq_some_iff.1 B8).1
  have m9 := (Array.getElem?_eq_some_iff.1 D8).1
  have c0 := C8 0 _ rfl
  have c1 := C8 1 _ rfl
  have c2 := C8 2 _ rfl
  have c3 := C8 3 _ rfl
  have e0 := E8 0 _ rfl
  have e1 := E8 1 _ rfl
  clear h7 k7 g8 B7 B8 D8 C8 E8
  go_wp2_with (first | (go_at_call 41; go_in) | (go_at_call 33; refine (place_dead _ p h8).mono ?_; rintro e w' ⟨rfl, rfl⟩) | (go_at_call 34; refine (left_dead _ p h8).mono ?_; rintro e w' ⟨rfl, rfl⟩))
  go_ret
  exact ⟨rfl, k8⟩
end Go.Proofs.Ytanbnefdodkniaa
