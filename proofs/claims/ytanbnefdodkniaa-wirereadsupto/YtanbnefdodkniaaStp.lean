/-
  The law's step: one call of both readers; they answer alike, and stand alike.
-/
import Derived.Test.YtanbnefdodkniaaDrj
import Derived.Test.YtanbnefdodkniaaLis
namespace Go.Proofs.Ytanbnefdodkniaa
open Go.RowKit Go.Lib Go.Sort

/-- Both readers over the same bytes, k of them gone; nothing of W has turned. -/
structure Two (W w : World) (rb db : Nat) (rv dv : Value) (L : List Int) (k : Nat) : Prop where
  r : Rdr w rb rv L k
  d : DRdr w db dv L k
  ne : rb ≠ db
  own : rv.ownBlock ≠ some db
  far : DFar dv L rb
  base : W.grownBy w none
  rbl : W.heap.size ≤ rb
  dbl : W.heap.size ≤ db

/-- The program's reader has gone on. -/
structure Mid (W w : World) (rb db : Nat) (rv dv : Value) (L : List Int) (k j : Nat) : Prop where
  r : Rdr w rb rv L j
  d : DRdr w db dv L k
  ne : rb ≠ db
  own : rv.ownBlock ≠ some db
  far : DFar dv L rb
  base : W.grownBy w none
  rbl : W.heap.size ≤ rb
  dbl : W.heap.size ≤ db

theorem Two.al {W w : World} {rb db : Nat} {rv dv : Value} {L : List Int} {k : Nat} (h : Two W w rb db rv dv L k) (o : Obj) : Two W (w.alloc o) rb db rv dv L k :=
  ⟨h.r.al o, h.d.al o, h.ne, h.own, h.far, grownBy_trans h.base (World.grownBy_alloc _ _ _), h.rbl, h.dbl⟩
theorem Two.kept {W w w' : World} {rb db : Nat} {rv dv : Value} {L : List Int} {k : Nat} (h : Two W w rb db rv dv L k) (hg : w.grownBy w' none) : Two W w' rb db rv dv L k :=
  ⟨h.r.kept0 hg, h.d.kept0 hg, h.ne, h.own, h.far, grownBy_trans h.base hg, h.rbl, h.dbl⟩
theorem Mid.al {W w : World} {rb db : Nat} {rv dv : Value} {L : List Int} {k j : Nat} (h : Mid W w rb db rv dv L k j) (o : Obj) : Mid W (w.alloc o) rb db rv dv L k j :=
  ⟨h.r.al o, h.d.al o, h.ne, h.own, h.far, grownBy_trans h.base (World.grownBy_alloc _ _ _), h.rbl, h.dbl⟩
theorem Two.mid {W w w' : World} {rb db : Nat} {rv dv : Value} {L : List Int} {k j : Nat} (h : Two W w rb db rv dv L k) (hr : Rdr w' rb rv L j) (hg : w.grownBy w' (some rb)) : Mid W w' rb db rv dv L k j :=
  ⟨hr, h.d.kept hg (by intro e; cases e; exact h.ne rfl) (fun r e => by cases e; exact h.far), h.ne, h.own, h.far, grownBy_new h.base h.rbl hg, h.rbl, h.dbl⟩
theorem Mid.two {W w w' : World} {rb db : Nat} {rv dv : Value} {L : List Int} {k j : Nat} (h : Mid W w rb db rv dv L k j) (hd : DRdr w' db dv L j) (hg : w.grownBy w' (some db)) : Two W w' rb db rv dv L j :=
  ⟨h.r.kept hg (by intro e; cases e; exact h.ne rfl) (.inr h.own), hd, h.ne, h.own, h.far, grownBy_new h.base h.dbl hg, h.rbl, h.dbl⟩

abbrev opv (kind most : Int) : Value := .agg #[.int .i64 kind, .int .i64 most]
abbrev opo (kind most : Int) : Obj := .cells #[.int .i64 kind, .int .i64 most] 63

/-- What a step comes to. -/
def StepQ (W : World) (rb db : Nat) (rv dv : Value) (L : List Int) (e : Ending) (w' : World) : Prop := e = .returned (.bool true) ∧ ∃ k, Two W w' rb db rv dv L k

set_option maxHeartbeats 1600000 in
set_option maxRecDepth 1000000 in
theorem step1 (W w : World) (rb db : Nat) (rv dv : Value) (L : List Int) (k : Nat) (most : Int) (h : Two W w rb db rv dv L k) : Calls Try.prog 32 #[rp rb, rp db, opv 1 most] w (StepQ W rb db rv dv L) := by
  obtain ⟨n, j, e, hn⟩ : ∃ n j e, nR L k = (n, j, e) := ⟨_, _, _, rfl⟩
  have h0 := h.al (opo 1 most)
  have H := number_n _ rb rv L k n j e hn h0.r
  have HD : Hid (∀ w1, DRdr w1 db dv L k → DReads 64 w1 db dv L j (.int .u64 n) e) := fun w1 h1 => dnumber_n w1 db dv L k n j e hn h1
  have HT : Hid (Two W (w.alloc (opo 1 most)) rb db rv dv L k) := h0
  clear hn h h0
  go_enter Try.func32, Try.ntmps32
  go_wp2_with fail
  refine H.out.mono ?_
  rintro e1 w1 ⟨rfl, hr, hg⟩
  have M := HT.out.mid hr hg
  go_wp2_with fail
  refine (HD.out _ M.d).out.mono ?_
  rintro e2 w2 ⟨rfl, hd, hg2⟩
  go_wp2_with (go_at_call 41; go_in)
  go_ret
  exact ⟨rfl, _, M.two hd hg2⟩

set_option maxHeartbeats 1600000 in
set_option maxRecDepth 1000000 in
theorem step2 (W w : World) (rb db : Nat) (rv dv : Value) (L : List Int) (k : Nat) (most : Int) (h : Two W w rb db rv dv L k) : Calls Try.prog 32 #[rp rb, rp db, opv 2 most] w (StepQ W rb db rv dv L) := by
  obtain ⟨n, j, e, hn⟩ : ∃ n j e, nR L k = (n, j, e) := ⟨_, _, _, rfl⟩
  have h0 := h.al (opo 2 most)
  have H := signed_n _ rb rv L k n j e hn h0.r
  have HD : Hid (∀ w1, DRdr w1 db dv L k → DReads 65 w1 db dv L j (.int .i64 (unf n)) e) := fun w1 h1 => dsigned w1 db dv L k n j e hn h1
  have HT : Hid (Two W (w.alloc (opo 2 most)) rb db rv dv L k) := h0
  clear hn h h0
  generalize unf n = u at *
  go_enter Try.func32, Try.ntmps32
  go_wp2_with fail
  refine H.out.mono ?_
  rintro e1 w1 ⟨rfl, hr, hg⟩
  have M := HT.out.mid hr hg
  go_wp2_with fail
  refine (HD.out _ M.d).out.mono ?_
  rintro e2 w2 ⟨rfl, hd, hg2⟩
  go_wp2_with (go_at_call 41; go_in)
  go_ret
  exact ⟨rfl, _, M.two hd hg2⟩

set_option maxHeartbeats 1600000 in
set_option maxRecDepth 1000000 in
theorem step3 (W w : World) (rb db : Nat) (rv dv : Value) (L : List Int) (k : Nat) (most : Int) (h : Two W w rb db rv dv L k) : Calls Try.prog 32 #[rp rb, rp db, opv 3 most] w (StepQ W rb db rv dv L) := by
  have h0 := h.al (opo 3 most)
  have H := Float_n _ rb rv L k h0.r
  have HD : Hid (∀ w1, DRdr w1 db dv L k → DReads 66 w1 db dv L (flR L k).2.1 (.int .u64 (flR L k).1) (flR L k).2.2) := fun w1 h1 => dfloat w1 db dv L k h1
  have HB : Hid (∀ w1, Calls Try.prog 58 #[.float .f64 (flR L k).1] w1 fun e w' => e = .returned (.int .u64 (flR L k).1) ∧ w' = w1) := by
    intro w1; have := bits_any (flR L k).1 w1; rw [flR_bits] at this; exact this
  have HT : Hid (Two W (w.alloc (opo 3 most)) rb db rv dv L k) := h0
  clear h h0
  generalize flR L k = r at *
  obtain ⟨n, j, e⟩ := r
  simp only [] at H HD HB
  go_enter Try.func32, Try.ntmps32
  go_wp2_with fail
  refine H.out.mono ?_
  rintro e1 w1 ⟨rfl, hr, hg⟩
  have M := HT.out.mid hr hg
  go_wp2_with fail
  refine (HD.out _ M.d).out.mono ?_
  rintro e2 w2 ⟨rfl, hd, hg2⟩
  go_wp2_with (first | (go_at_call 41; go_in) | (go_at_call 58; refine (HB.out _).mono ?_; rintro e3 w3 ⟨rfl, rfl⟩))
  go_ret
  exact ⟨rfl, _, M.two hd hg2⟩

set_option maxHeartbeats 1600000 in
set_option maxRecDepth 1000000 in
theorem step6 (W w : World) (rb db : Nat) (rv dv : Value) (L : List Int) (k : Nat) (most : Int) (h : Two W w rb db rv dv L k) : Calls Try.prog 32 #[rp rb, rp db, opv 6 most] w (StepQ W rb db rv dv L) := by
  have h0 := h.al (opo 6 most)
  have H := Whole_n _ rb rv L k h0.r
  have HD : Hid (∀ w1, DRdr w1 db dv L k → DReads 68 w1 db dv L (whR L k).2.1 (wv (whR L k).1) (whR L k).2.2) := fun w1 h1 => dwhole w1 db dv L k h1
  have HT : Hid (Two W (w.alloc (opo 6 most)) rb db rv dv L k) := h0
  clear h h0
  generalize whR L k = r at *
  obtain ⟨⟨x, y⟩, j, e⟩ := r
  simp only [] at H HD
  go_enter Try.func32, Try.ntmps32
  go_wp2_with fail
  refine H.out.mono ?_
  rintro e1 w1 ⟨rfl, hr, hg⟩
  have M := (HT.out.mid hr hg).al (wo (x, y))
  have hA := heap_alloc_new w1 (wo (x, y))
  have hl := M.d.lt
  have hdl := (HT.out.mid hr hg).d.lt
  go_wp2_with fail
  refine (HD.out _ M.d).out.mono ?_
  rintro e2 w2 ⟨rfl, hd, hg2⟩
  obtain ⟨p0, p1, _, _, hA2⟩ := kept2 hA hg2 (by intro e; cases e; omega)
  have hl2 : w1.heap.size < w2.heap.size := (Array.getElem?_eq_some_iff.1 hA2).1
  have m1 : ¬ w1.heap.size = w2.heap.size := by omega
  have m2 : ¬ w2.heap.size = w1.heap.size := by omega
  have HM : Hid (Two W (w2.alloc (wo (x, y))) rb db rv dv L j) := (M.two hd hg2).al _
  clear hA hA2 M hd hg2 hl hdl hr hg
  go_wp2_with (go_at_call 41; go_in)
  go_ret
  exact ⟨rfl, _, HM.out⟩
end Go.Proofs.Ytanbnefdodkniaa
