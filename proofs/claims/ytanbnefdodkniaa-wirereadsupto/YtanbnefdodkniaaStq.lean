/-
  The law's step: fractions, exact complex numbers, complex numbers.
-/
import Derived.Test.YtanbnefdodkniaaStp
import Derived.Test.YtanbnefdodkniaaWtn
namespace Go.Proofs.Ytanbnefdodkniaa
open Go.RowKit Go.Lib Go.Sort

set_option maxHeartbeats 1600000 in
set_option maxRecDepth 1000000 in
theorem step7 (W w : World) (rb db : Nat) (rv dv : Value) (L : List Int) (k : Nat) (most : Int) (h : Two W w rb db rv dv L k) : Calls Try.prog 32 #[rp rb, rp db, opv 7 most] w (StepQ W rb db rv dv L) := by
  have h0 := h.al (opo 7 most)
  have H := Frac_n _ rb rv L k h0.r
  have HD : Hid (∀ w1, DRdr w1 db dv L k → DReads 70 w1 db dv L (fcR L k).2.1 (fvp (fcR L k).1) (fcR L k).2.2) := fun w1 h1 => dfrac w1 db dv L k h1
  have HT : Hid (Two W (w.alloc (opo 7 most)) rb db rv dv L k) := h0
  clear h h0
  generalize fcR L k = r at *
  obtain ⟨⟨⟨x, y⟩, ⟨z, t⟩⟩, j, e⟩ := r
  simp only [] at H HD
  go_enter Try.func32, Try.ntmps32
  go_wp2_with fail
  refine H.out.mono ?_
  rintro e1 w1 ⟨rfl, hr, hg⟩
  have M := (HT.out.mid hr hg).al (fob (x, y) (z, t))
  have hA := heap_alloc_new w1 (fob (x, y) (z, t))
  have hl := M.d.lt
  have hdl := (HT.out.mid hr hg).d.lt
  go_wp2_with fail
  refine (HD.out _ M.d).out.mono ?_
  rintro e2 w2 ⟨rfl, hd, hg2⟩
  obtain ⟨_, _, hA2⟩ := keptN hA hg2 (by intro e; cases e; omega)
  obtain ⟨p0, p1, p2, p3, _⟩ := cells4 hA2
  have hl2 : w1.heap.size < w2.heap.size := (Array.getElem?_eq_some_iff.1 hA2).1
  have m1 : ¬ w1.heap.size = w2.heap.size := by omega
  have m2 : ¬ w2.heap.size = w1.heap.size := by omega
  have HM : Hid (Two W (w2.alloc (fob (x, y) (z, t))) rb db rv dv L j) := (M.two hd hg2).al _
  clear hA hA2 M hd hg2 hl hdl hr hg
  go_wp2_with (go_at_call 41; go_in)
  go_ret
  exact ⟨rfl, _, HM.out⟩

set_option maxHeartbeats 1600000 in
set_option maxRecDepth 1000000 in
theorem step8 (W w : World) (rb db : Nat) (rv dv : Value) (L : List Int) (k : Nat) (most : Int) (h : Two W w rb db rv dv L k) : Calls Try.prog 32 #[rp rb, rp db, opv 8 most] w (StepQ W rb db rv dv L) := by
  have h0 := h.al (opo 8 most)
  have H := Gauss_n _ rb rv L k h0.r
  have HD : Hid (∀ w1, DRdr w1 db dv L k → DReads 71 w1 db dv L (gaR L k).2.1 (gvp (gaR L k).1) (gaR L k).2.2) := fun w1 h1 => dgauss w1 db dv L k h1
  have HT : Hid (Two W (w.alloc (opo 8 most)) rb db rv dv L k) := h0
  clear h h0
  generalize gaR L k = r at *
  obtain ⟨zz0, j, e⟩ := r
  simp only [] at H HD
  go_enter Try.func32, Try.ntmps32
  go_wp2_with fail
  refine H.out.mono ?_
  rintro e1 w1 ⟨rfl, hr, hg⟩
  have M := (HT.out.mid hr hg).al (gop zz0)
  have hA := heap_alloc_new w1 (gop zz0)
  have hl := M.d.lt
  have hdl := (HT.out.mid hr hg).d.lt
  go_wp2_with fail
  refine (HD.out _ M.d).out.mono ?_
  rintro e2 w2 ⟨rfl, hd, hg2⟩
  obtain ⟨_, _, hA2⟩ := keptN hA hg2 (by intro e; cases e; omega)
  obtain ⟨p0, p1, p2, p3, p4, p5, p6, p7, _⟩ := cellsG hA2
  have hl2 : w1.heap.size < w2.heap.size := (Array.getElem?_eq_some_iff.1 hA2).1
  have m1 : ¬ w1.heap.size = w2.heap.size := by omega
  have m2 : ¬ w2.heap.size = w1.heap.size := by omega
  have HM : Hid (Two W (w2.alloc (gop zz0)) rb db rv dv L j) := (M.two hd hg2).al _
  clear hA hA2 M hd hg2 hl hdl hr hg
  go_wp2_with (go_at_call 41; go_in)
  go_ret
  exact ⟨rfl, _, HM.out⟩

set_option maxHeartbeats 1600000 in
set_option maxRecDepth 1000000 in
theorem step4 (W w : World) (rb db : Nat) (rv dv : Value) (L : List Int) (k : Nat) (most : Int) (h : Two W w rb db rv dv L k) : Calls Try.prog 32 #[rp rb, rp db, opv 4 most] w (StepQ W rb db rv dv L) := by
  have h0 := h.al (opo 4 most)
  have H := Complex_n _ rb rv L k h0.r
  have HD : Hid (∀ w1, DRdr w1 db dv L k → DReads 67 w1 db dv L (cxR L k).2.1 (two (cxR L k).1.1 (cxR L k).1.2) (cxR L k).2.2) := fun w1 h1 => dcomplex w1 db dv L k h1
  have HB1 : Hid (∀ w1, Calls Try.prog 58 #[.float .f64 (cxR L k).1.1] w1 fun e w' => e = .returned (.int .u64 (cxR L k).1.1) ∧ w' = w1) := by
    intro w1; have := bits_any (cxR L k).1.1 w1; rw [(cxR_bits L k).1] at this; exact this
  have HB2 : Hid (∀ w1, Calls Try.prog 58 #[.float .f64 (cxR L k).1.2] w1 fun e w' => e = .returned (.int .u64 (cxR L k).1.2) ∧ w' = w1) := by
    intro w1; have := bits_any (cxR L k).1.2 w1; rw [(cxR_bits L k).2] at this; exact this
  have HT : Hid (Two W (w.alloc (opo 4 most)) rb db rv dv L k) := h0
  clear h h0
  generalize cxR L k = r at *
  obtain ⟨⟨a, b⟩, j, e⟩ := r
  simp only [] at H HD HB1 HB2
  have q84 : ∀ w, (Op.equalIn 10000 84 (.agg #[.int .u64 a, .int .u64 b]) (.agg #[.int .u64 a, .int .u64 b])).run Try.prog w = .ok true w := fun w => eq84 w a b
  go_enter Try.func32, Try.ntmps32
  go_wp2_with fail
  refine H.out.mono ?_
  rintro e1 w1 ⟨rfl, hr, hg⟩
  have M := HT.out.mid hr hg
  go_wp2_with fail
  refine (HD.out _ M.d).out.mono ?_
  rintro e2 w2 ⟨rfl, hd, hg2⟩
  have HM : Hid (Two W (w2.alloc (.cells #[.int .u64 a, .int .u64 b] 84)) rb db rv dv L j) := (M.two hd hg2).al _
  clear M hd hg2 hr hg
  go_wp2_with fail
  go_quiet (first | (go_at_call 58; first | refine Calls.quiet_of_same (HB1.out _) | refine Calls.quiet_of_same (HB2.out _)) | (go_at_call 41; refine Calls.quiet_of_same (num_any _ _)))
  go_wp2
  go_ret
  exact ⟨rfl, _, HM.out.kept (grownBy_drewN (World.grownBy.refl _ _) _)⟩
end Go.Proofs.Ytanbnefdodkniaa
