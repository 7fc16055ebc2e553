/-
  The law WordsProducts: its walk.
-/
import Derived.Test.YthldipnfaiobaaaDoorWpa
import Derived.Test.YthldipnfaiobaaaDoorRpo
import Derived.Test.YthldipnfaiobaaaDoorRmv
import Derived.Test.YthldipnfaiobaaaDoorRcj
namespace Go.Proofs.YthldipnfaiobaaaDoor
open Go.RowKit Go.Lib Go.Sort
set_option linter.unusedVariables false
set_option linter.unusedSimpArgs false
set_option maxHeartbeats 3200000
set_option maxRecDepth 1000000
theorem told_three (w1 w2 w3 w4 : World) (a b t : Value) (r : Int) (A : List Int) (ha : Fr w2 w1.heap.size a A) (hb : Fr w3 w2.heap.size b A) (ht : Fr w4 w3.heap.size t A) (g12 : w1.grownBy w2 none) (g23 : w2.grownBy w3 none) (g34 : w3.grownBy w4 none) (hl : A.length ≤ 100000) :
    Calls Tryd.prog 21 #[a, b, .int .i64 r, t, .int .i64 r] w4 fun e w' => e = .returned (.bool true) ∧ w1.grownBy w' none := by
  have ha4 : Fr w4 w1.heap.size a A := ha.kept0 (grownBy_trans g23 g34)
  refine (told_at w4 a b t r A w1.heap.size w2.heap.size w2.heap.size w3.heap.size w3.heap.size w4.heap.size ha4 (fun g hg => (ha.blk g hg).2) (hb.at.kept0 g34) ht.at hl (.inl (Nat.le_refl _)) (.inl g23.size)).mono ?_
  rintro e w' ⟨rfl, hg⟩
  exact ⟨rfl, grown_fr (grownBy_trans g12 (grownBy_trans g23 g34)) ha4 (Nat.le_refl _) hg⟩
theorem tldL_len (M : List Int) : (tldL M).length ≤ 4096 := by
  unfold tldL
  split
  · simp
  · omega
theorem mulL_len (Ls : List (List Int)) : (mulL Ls).length ≤ 4096 := by
  unfold mulL
  split
  · exact tldL_len _
  · simp
theorem cjL_len (L B : List Int) : (cjL L B).length ≤ 4096 := by
  unfold cjL
  split
  · exact tldL_len _
  · simp
theorem powL_len (L : List Int) (m : Nat) (n : Int) : (powL L m n).length ≤ 4096 := by
  unfold powL
  split
  · split
    · rename_i h
      generalize coreOf (sh L) m = C at *
      generalize byOf (sh L) m = B at *
      unfold pwE at h
      unfold pwL
      split
      · simp
      · rename_i h2
        rw [if_neg h2] at h
        split at h
        · omega
        · split at h
          · omega
          · have hc : (if n < 0 then inv C else C).length = C.length := by split <;> simp [inv_len]
            rw [List.length_append, List.length_append, inv_len, rp_len, hc, Nat.mul_comm]
            omega
    · simp
  · simp
theorem muchN_each {Ls : List (List Int)} (h : muchN Ls ≤ 9000) : ∀ L ∈ Ls, L.length ≤ 9000 := by
  induction Ls with
  | nil => intro L hL; simp at hL
  | cons a l ih =>
    simp only [muchN, List.map_cons, List.sum_cons] at h ih
    intro L hL
    rcases List.mem_cons.1 hL with e | e
    · subst e; omega
    · exact ih (by omega) L e
theorem wprod_many (w : World) (v : Value) (Ls : List (List Int)) (n : Int) (h : IntsL w v Ls) (hl : 50 < Ls.length) (hl2 : Ls.length ≤ 1000000000000000) (ht : Tab w) :
    Calls Tryd.prog 4 #[v, .int .i64 n] w fun e w' => e = .returned (.bool true) ∧ w.grownBy w' none := by
  have HK := known_any w ht
  obtain ⟨va, vc, rfl, _⟩ := h.reads
  have hlI : (50 : Int) < Ls.length := by omega
  have hl3 : (Ls.length : Int) ≤ 1000000000000000 := by omega
  clear h hl hl2
  generalize Ls.length = k at *
  go_enter Tryd.func4, Tryd.ntmps4
  go_wp2_with fail
  refine HK.mono ?_
  rintro e w2 ⟨rfl, g2⟩
  have G2 : Hid (w.grownBy w2 none) := g2
  clear g2
  go_wp2_with fail
  go_ret
  exact ⟨rfl, G2.out⟩
theorem wprod_much (w : World) (v : Value) (Ls : List (List Int)) (n : Int) (h : IntsL w v Ls) (hl : Ls.length ≤ 50) (hl2 : ∀ L ∈ Ls, L.length ≤ 1000000000000000) (hm : 9000 < muchN Ls) (ht : Tab w) :
    Calls Tryd.prog 4 #[v, .int .i64 n] w fun e w' => e = .returned (.bool true) ∧ w.grownBy w' none := by
  have HK := known_any w ht
  have HMu := much_any w v Ls h (by omega) hl2
  rw [decide_eq_true hm] at HMu
  obtain ⟨va, vc, rfl, _⟩ := h.reads
  have hlI : (Ls.length : Int) ≤ 50 := by omega
  clear h hl hl2 hm
  generalize Ls.length = k at *
  go_enter Tryd.func4, Tryd.ntmps4
  go_wp2_with fail
  refine HMu.mono ?_
  rintro e w1 ⟨rfl, hw⟩
  obtain rfl := hw.symm
  go_wp2_with fail
  refine HK.mono ?_
  rintro e w2 ⟨rfl, g2⟩
  have G2 : Hid (w.grownBy w2 none) := g2
  clear g2
  go_wp2_with fail
  go_ret
  exact ⟨rfl, G2.out⟩
end Go.Proofs.YthldipnfaiobaaaDoor
