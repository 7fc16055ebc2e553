/-
  What wire.Open makes: a reader at the beginning of the bytes, in new memory.
-/
import Derived.Test.YtanbnefdodkniaaApp
import Derived.Lib.SliceRun
namespace Go.Proofs.Ytanbnefdodkniaa
open Go.RowKit Go.Lib Go.Sort

theorem grownBy_of_below {w w' : World} (h : Below w.heap.size w w') : w.grownBy w' none := ⟨h.os, h.tape, h.output, h.size, fun k hk _ => h.block k hk⟩
theorem below_of_grownBy {w w' : World} (h : w.grownBy w' none) : Below w.heap.size w w' := ⟨h.os, h.tape, h.output, h.size, fun k hk => h.block k hk (by simp)⟩

set_option maxHeartbeats 2000000 in
set_option maxRecDepth 100000 in
theorem clone_some (b off c : Nat) (L : List Int) (w : World) (hx : L.length ≤ 225000000000000)
    (hc : ∀ j u, (L.map encB)[j]? = some u → w.cell? ⟨b, off + j, none⟩ = some u) :
    Calls Try.prog 63 #[.slice (some ⟨b, off, none⟩) L.length c] w fun e w' => ∃ v', e = .returned v' ∧ w'.ownsRow w.heap.size 5 1 v' L.length (L.map encB) ∧ v' ≠ .slice none 0 0 ∧ Below w.heap.size w w' := by
  have q22 : ∀ (w : World) (a : Option Addr) (n c n' c' : Nat), (binOp .eql 33 (.slice a n c) (.slice none n' c')).run Try.prog w = .ok (.bool a.isNone) w := fun w a n c n' c' => Lib.run_eql_slice_nil w _ _ a n c n' c' Try.underlying33
  have A : Hid (Src (w.alloc (.cells #[] 5)) (.slice (some ⟨b, off, none⟩) L.length c) L) := .inr ⟨b, off, c, rfl, fun j u hj => Lib.cell?_alloc_some _ (hc j u hj)⟩
  clear hc
  go_enter Try.func63, Try.ntmps63
  go_wp2_with (at_builtin; refine wpList_apps _ rfl _ _ rfl w.heap.size _ _ [] L rfl rfl (World.ownsRow_made w #[] 0 (Nat.le_refl _) (Nat.zero_le _) (by simp)) A.out ?qc5 ?qc6 ?_)
  case qc5 => simpa using hx
  case qc6 => simp
  intro v' w1 hA
  go_wp2
  go_ret
  refine ⟨v', rfl, by simpa using hA.1, ?_, ?_⟩
  · intro e; exact absurd (hA.2.2 e).1 (by simp)
  · exact ((Below.refl _ w).alloc (Nat.le_refl _) _).grown hA.2.1 (by simp) (by intro k hk; simp [Value.ownBlock] at hk; omega)

set_option maxHeartbeats 1000000 in
theorem clone_nil (n c : Nat) (w : World) :
    Calls Try.prog 63 #[.slice none n c] w fun e w' => e = .returned (.slice none 0 0) ∧ w' = w := by
  have q22 : ∀ (w : World) (a : Option Addr) (n c n' c' : Nat), (binOp .eql 33 (.slice a n c) (.slice none n' c')).run Try.prog w = .ok (.bool a.isNone) w := fun w a n c n' c' => Lib.run_eql_slice_nil w _ _ a n c n' c' Try.underlying33
  go_enter Try.func63, Try.ntmps63
  go_wp2
  go_ret
  exact ⟨rfl, rfl⟩

theorem clone_any (s : Value) (L : List Int) (w : World) (h : Src w s L) (hx : L.length ≤ 225000000000000) :
    Calls Try.prog 63 #[s] w fun e w' => ∃ v', e = .returned v' ∧ w'.ownsRow w.heap.size 5 1 v' L.length (L.map encB) ∧ Below w.heap.size w w' := by
  rcases h with ⟨rfl, rfl⟩ | ⟨b, off, c, rfl, hc⟩
  · refine (clone_nil 0 0 w).mono ?_
    rintro e w' ⟨rfl, rfl⟩
    exact ⟨_, rfl, World.ownsRow_nil _ _ _ _, Below.refl _ _⟩
  · refine (clone_some b off c L w hx hc).mono ?_
    rintro e w' ⟨v', rfl, h1, _, h2⟩
    exact ⟨_, rfl, h1, h2⟩

theorem slice_of {w : World} {base : Nat} {v : Value} {n : Nat} {xs : List Value} (h : w.ownsRow base 5 1 v n xs) : ∃ ao m c, v = .slice ao m c := by
  rcases h.2 with ⟨rfl, _⟩ | ⟨g, cap, cur, rfl, _⟩
  · exact ⟨_, _, _, rfl⟩
  · exact ⟨_, _, _, rfl⟩
theorem ownsRow_any {w : World} {base : Nat} {v : Value} {n : Nat} {xs : List Value} (h : w.ownsRow base 5 1 v n xs) : w.ownsRow 0 5 1 v n xs := by
  refine ⟨h.1, ?_⟩
  rcases h.2 with hn | ⟨g, cap, cur, a, b, c⟩
  · exact .inl hn
  · exact .inr ⟨g, cap, cur, a, Nat.zero_le _, c⟩

set_option maxHeartbeats 2000000 in
set_option maxRecDepth 100000 in
theorem open_any (s : Value) (L : List Int) (w : World) (h : Src w s L) (hx : L.length ≤ 225000000000000) (hr : ∀ x ∈ L, 0 ≤ x ∧ x ≤ 255) :
    Calls Try.prog 31 #[s] w fun e w' => ∃ rb v, e = .returned (rp rb) ∧ Rdr w' rb v L 0 ∧ w.heap.size ≤ rb ∧ (∀ g, v.ownBlock = some g → w.heap.size ≤ g) ∧ w.grownBy w' none := by
  go_enter Try.func31, Try.ntmps31
  go_wp2_with (go_at_call 63; refine (clone_any s L _ h hx).mono ?_; rintro e w1 ⟨v', rfl, hown, hb⟩; obtain ⟨ao, n', c', rfl⟩ := slice_of hown)
  go_ret
  have hl := hown.lt
  refine ⟨w1.heap.size, .slice ao n' c', rfl, ⟨heap_alloc_new w1 _, ownsRow_any (hown.alloc _), ?_, Nat.zero_le _, hx, hr⟩, hb.size, fun g hg => (hl g hg).1, grownBy_of_below (hb.alloc hb.size _)⟩
  intro e
  have := (hl _ e).2
  omega
end Go.Proofs.Ytanbnefdodkniaa
