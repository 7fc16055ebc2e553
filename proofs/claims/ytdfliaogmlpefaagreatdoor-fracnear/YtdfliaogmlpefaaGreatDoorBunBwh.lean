/-
  slices.Backward of whole numbers.
  frac's folded: what it makes of numbers, over Int; its small functions.
  frac's folded, of quotients that make a fraction that may be.
-/
import Derived.Test.YtdfliaogmlpefaaGreatDoorBunRfs
import Derived.Test.YtdfliaogmlpefaaGreatDoorBunWla
import Derived.TacticsInMore
import Derived.LoopNIn
import Derived.LoopIn
import Derived.OwnWalkIn
import Derived.Test.YtdfliaogmlpefaaGreatDoorEul
import Derived.Test.YtdfliaogmlpefaaGreatDoorBunFre
import Derived.Test.YtdfliaogmlpefaaGreatDoorBunRfq
import Derived.Stop.RegionWithIn
import Derived.Sort.CutIn
namespace Go.Proofs.YtdfliaogmlpefaaGreatDoor
open Go.RowKit Go.Lib Go.Sort Go.Shelf
set_option linter.unusedVariables false
attribute [local go_sem] Oper.semAt_some
set_option maxHeartbeats 4000000
set_option maxRecDepth 1000000
def encW (Z : Nat → Bool × ByteArray) (K t : Nat) : Array Value := #[.int .i64 ((K - 1 - t : Nat) : Int), whole (Z (K - 1 - t)).1 (Z (K - 1 - t)).2]
theorem bwh_hands (F : Fence) (n : Nat) (hf : F.fn 159) (hro : F.round = none) (hn : 1 ≤ n) (Bs : Nat) (Z : Nat → Bool × ByteArray) (k : Nat) (cp : Nat) (ab : Option Addr) (hk9 : (k : Int) ≤ 1000000000) (I : Nat → World → Prop)
    (hI : ∀ t W, I t W → W.cell? ⟨Bs, 0, none⟩ = some (.slice ab k cp) ∧ ∀ q, q + t + 1 = k → ∃ B off, ab = some ⟨B, off, none⟩ ∧ W.cell? ⟨B, off + q * 2, none⟩ = some (.bool (Z q).1) ∧ W.cell? ⟨B, off + q * 2 + 1, none⟩ = some (.string (Z q).2) ∧ k ≤ cp) :
    Hands F n Tryz.prog 159 #[.pointer (some ⟨Bs, 0, none⟩)] (encW Z k) k I := by
  intro l J hJI hY W h0
  have HI : Hid (∀ t W, J t W → W.cell? ⟨Bs, 0, none⟩ = some (.slice ab k cp) ∧ ∀ q, q + t + 1 = k → ∃ B off, ab = some ⟨B, off, none⟩ ∧ W.cell? ⟨B, off + q * 2, none⟩ = some (.bool (Z q).1) ∧ W.cell? ⟨B, off + q * 2 + 1, none⟩ = some (.string (Z q).2) ∧ k ≤ cp) := fun t W h => hI t W (hJI t W h)
  have HY : Hid (∀ q t W, q + t + 1 = k → J t W → YieldAt F (n - 1) Tryz.prog l #[.int .i64 (q : Int), whole (Z q).1 (Z q).2] W fun e W' => e = .returned (.bool true) ∧ J (t + 1) W') := fun q t W hq hj => by
    have h := hY t W (by omega) hj
    unfold encW at h
    rw [show k - 1 - t = q by omega] at h
    exact h
  clear hI hJI hY
  have hcs := (HI.out 0 W h0).1
  have HJ0 : Hid (J 0 W) := h0
  clear h0
  refine callsIn_of_wp Tryz.func159 rfl hf ?_ hro
  simp only [Tryz.ntmps159, List.size_toArray, List.length_cons, List.length_nil, Nat.reduceAdd, Nat.reduceSub, Array.replicate_succ, Array.replicate_zero, List.push_toArray, List.append_toArray, List.nil_append, List.cons_append]
  gi_wp2
  clear hcs
  gi_loopw [3] (fun i wr => ∃ (m t : Nat), i = .int .i64 ((m : Int) - 1) ∧ t + m = k ∧ J t wr) (fun i _ => (RowKit.intOf i + 1).toNat)
  case atStart => exact ⟨k, 0, rfl, by omega, HJ0.out⟩
  case round =>
    obtain ⟨m, t, rfl, hm, hJ⟩ := hrel
    obtain ⟨hcs, hdig⟩ := HI.out t wr hJ
    rcases Nat.eq_zero_or_pos m with rfl | hm0
    · obtain rfl : t = k := by omega
      gi_wp2
      go_end0
      exact ⟨⟨_, rfl⟩, hJ⟩
    · obtain ⟨q, rfl⟩ : ∃ q, m = q + 1 := ⟨m - 1, by omega⟩
      obtain ⟨B, off, rfl, hc0, hc1, hcp⟩ := hdig q (by omega)
      have hY1 : YieldAt F (n - 1) Tryz.prog l #[.int .i64 (q : Int), whole (Z q).1 (Z q).2] wr fun e W' => e = .returned (.bool true) ∧ J (t + 1) W' := HY.out q t wr (by omega) hJ
      rw [show (((q + 1 : Nat) : Int) - 1) = (q : Int) by omega]
      have hqk : (q : Int) < (k : Int) := by omega
      clear hdig
      obtain ⟨fn, tmps, assign, body, hy, hR⟩ := hY1
      gi_wp2
      refine hR.mono ?_
      rintro e W3 ⟨rfl, hJ3⟩
      gi_wp2
      go_roundw
      case rel => exact ⟨q, t + 1, rfl, by omega, hJ3⟩
      case measure => simp [RowKit.intOf]
end Go.Proofs.YtdfliaogmlpefaaGreatDoor
namespace Go.Proofs.YtdfliaogmlpefaaGreatDoor
open Go.RowKit Go.Lib Go.Sort Go.Shelf
set_option linter.unusedVariables false
set_option maxHeartbeats 4000000
set_option maxRecDepth 1000000
def fo : List Int → Int × Int
  | [] => (1, 0)
  | q :: l => (q * (fo l).1 + (fo l).2, (fo l).1)
theorem Eu.fo : ∀ (l : List Int) (N D : Int), Eu N D l → Int.gcd N D = 1 → fo l = (N, D) ∧ ∀ j, 1 ≤ j → j ≤ l.length → 0 < (Go.Proofs.YtdfliaogmlpefaaGreatDoor.fo (l.drop j)).1 ∧ (Go.Proofs.YtdfliaogmlpefaaGreatDoor.fo (l.drop j)).1 ≤ D ∧ 0 ≤ (Go.Proofs.YtdfliaogmlpefaaGreatDoor.fo (l.drop j)).2 ∧ (Go.Proofs.YtdfliaogmlpefaaGreatDoor.fo (l.drop j)).2 ≤ D
  | [], N, D, h, _ => absurd h (by simp [Eu])
  | [q], N, D, h, hg => by
    obtain ⟨hD, e⟩ := h
    have h1 : D = 1 := by
      rw [e, Int.gcd_comm, Int.gcd_mul_left_right] at hg
      omega
    subst h1
    refine ⟨by simp [Go.Proofs.YtdfliaogmlpefaaGreatDoor.fo]; omega, fun j h1 h2 => ?_⟩
    have : j = 1 := by simp at h2; omega
    subst this
    simp [Go.Proofs.YtdfliaogmlpefaaGreatDoor.fo]
  | q :: q' :: l, N, D, h, hg => by
    obtain ⟨hD, h0, h1, h2⟩ := h
    have hg2 : Int.gcd D (N - q * D) = 1 := by
      rw [Int.gcd_sub_mul_right_right, Int.gcd_comm]
      exact hg
    obtain ⟨e, hj⟩ := Eu.fo (q' :: l) D (N - q * D) h2 hg2
    refine ⟨?_, fun j j1 j2 => ?_⟩
    · rw [Go.Proofs.YtdfliaogmlpefaaGreatDoor.fo, e]
      simp
      omega
    · obtain ⟨j, rfl⟩ : ∃ i, j = i + 1 := ⟨j - 1, by omega⟩
      rw [List.drop_succ_cons]
      rcases Nat.eq_zero_or_pos j with rfl | hp
      · rw [List.drop_zero, e]
        exact ⟨hD, Int.le_refl _, by show 0 ≤ N - q * D; omega, by show N - q * D ≤ D; omega⟩
      · obtain ⟨a, b, c, d⟩ := hj j hp (by simp at j2 ⊢; omega)
        exact ⟨a, by omega, c, by omega⟩
theorem mul_is {k l : Nat} {x y : Int} {n1 n2 n' : Bool} {s1 s2 s' : ByteArray} (hk : k + l ≤ 16384) (h1 : Sz k x n1 s1) (h2 : Sz l y n2 s2) (hq : IsZ (x * y) n' s') (w : World) :
    Calls Tryz.prog 102 #[whole n1 s1, whole n2 s2] w fun e w' => e = .returned (.tuple #[whole n' s', .int .i64 0]) ∧ w.grownBy w' none := by
  refine (mul_sz hk h1 h2 w).mono ?_
  rintro e w' ⟨n, s, rfl, hz, hg⟩
  obtain ⟨rfl, rfl⟩ := whole_inj (hz.1.one hq)
  exact ⟨rfl, hg⟩
theorem upright_pos (n : Bool) (s t : ByteArray) (w : World) :
    Calls Tryz.prog 127 #[whole n s, whole false t] w fun e w' => e = .returned (frac n s false t) ∧ w.grownBy w' none := by
  go_enter Tryz.func127, Tryz.ntmps127
  go_wp2_with fail
  refine bodyPost_ret (res_cellQ rfl _ _ (w.heap.size + 1 + 1) _ _ _ _ _ _ rfl (at_alloc3 _ _ _ _)) rfl ?_
  exact ⟨rfl, grow3 _ _ _ _⟩
theorem bwd_any (ab : Option Addr) (k cp : Nat) (w : World) : Calls Tryz.prog 125 #[.slice ab k cp] w fun e w' => e = .returned (.func (.func 159) #[] #[.pointer (some ⟨w.heap.size, 0, none⟩)]) ∧ w' = w.alloc (.cells #[.slice ab k cp] 48) := by
  have hmf : ∀ (fn : Fn) (first cap : Array Value) (w : World), (Instr.makeFunc fn first cap).run Tryz.prog w = .ok (.func fn first cap) w := fun _ _ _ _ => rfl
  go_enter Tryz.func125, Tryz.ntmps125
  go_wp2_with fail
  go_ret
  exact ⟨rfl, rfl⟩
end Go.Proofs.YtdfliaogmlpefaaGreatDoor
namespace Go.Proofs.YtdfliaogmlpefaaGreatDoor
open Go.RowKit Go.Lib Go.Sort Go.Shelf
set_option linter.unusedVariables false
attribute [local go_sem] Oper.semAt_some
set_option maxHeartbeats 4000000
set_option maxRecDepth 1000000
abbrev E4 := (Bool × ByteArray) × (Bool × ByteArray)
structure Folds (l : List Int) (Z : Nat → Bool × ByteArray) (E : Nat → E4) : Prop where
  z : ∀ i q, l[i]? = some q → Sz 1024 q (Z i).1 (Z i).2
  e : ∀ j, j ≤ l.length → Sz 1024 (fo (l.drop j)).1 (E j).1.1 (E j).1.2 ∧ Sz 1024 (fo (l.drop j)).2 (E j).2.1 (E j).2.2
  pos : ∀ j, 1 ≤ j → j ≤ l.length → 0 < (fo (l.drop j)).1
def fdI (w : World) (RB EB XB Bs : Nat) (ab : Option Addr) (K cp : Nat) (E : Nat → E4) (p : Nat × Option Nat) (W : World) : Prop :=
  p.2 = some XB ∧ p.1 ≤ K ∧ QBlk W RB (.bool false) (.string eS) (.bool false) (.string eS) ∧ W.heap[EB]? = some (.cells #[.int .i64 0] 29 (0, 0)) ∧ QBlk W XB (.bool (E (K - p.1)).1.1) (.string (E (K - p.1)).1.2) (.bool (E (K - p.1)).2.1) (.string (E (K - p.1)).2.2) ∧ W.cell? ⟨Bs, 0, none⟩ = some (.slice ab K cp) ∧ w.grownBy W none
theorem fitting_ok {n d : Bool} {s t : ByteArray} (h1 : s.size ≤ 1024) (h2 : t.size ≤ 1024) (w : World) :
    Calls Tryz.prog 126 #[frac n s d t] w fun e w' => e = .returned (.tuple #[frac n s d t, .int .i64 0]) ∧ w.grownBy w' none := by
  have h := fitting_any n d s t (by unfold maxLen; omega) (by unfold maxLen; omega) w
  have hf : fitsB s t = true := decide_eq_true ⟨h1, h2⟩
  unfold toldE at h
  rw [if_pos hf] at h
  have e : toldV n s d t = frac n s d t := by
    unfold toldV
    simp [hf, tB, tS]
  rw [e] at h
  exact h
theorem callsIn_round {n l : Nat} {P : Program} {f : FuncId} {args : Array Value} {w : World} {R : Ending → World → Prop} (h : Calls P f args w R) : CallsIn (Fence.wide.inRound l) n P f args w R := by
  have h1 := (callsIn_wide (n := n)).2 h
  unfold CallsIn at h1 ⊢
  exact h1
theorem grown_some {W W' : World} (h : W.grownBy W' none) (r : Nat) : W.grownBy W' (some r) := ⟨h.os, h.tape, h.output, h.size, fun i hi _ => h.block i hi (by simp)⟩
theorem keeps_of_grown {W W' : World} {r : Nat} {c : Array Value} {ty : TypeId} {f : Nat × Nat} (h : W.grownBy W' (some r)) (hr : W.heap[r]? = some (.cells c ty f)) : KeepsOthers W W' := by
  refine ⟨h.size, fun k o hk ho => ?_⟩
  refine (h.block k (Array.getElem?_eq_some_iff.1 hk).1 (fun e => ?_)).trans hk
  injection e with e
  subst e
  rw [hk] at hr
  cases hr
  cases ho
theorem fdI_own (w : World) (RB EB XB Bs B : Nat) (ab : Option Addr) (K cp : Nat) (E : Nat → E4) (h1 : RB < B) (h2 : EB < B) (h3 : XB < B) (h4 : Bs < B) (h5 : w.heap.size ≤ B) (p : Nat × Option Nat) (W W' : World) (row : Option Nat) (h : fdI w RB EB XB Bs ab K cp E p W) (hg : W.grownBy W' row) (hr : ∀ r, row = some r → B ≤ r) : fdI w RB EB XB Bs ab K cp E p W' := by
  obtain ⟨a, b, c, d, e, f, g⟩ := h
  have nb : ∀ i o, i < B → W.heap[i]? = some o → W'.heap[i]? = some o := fun i o hi h => (hg.block i (Array.getElem?_eq_some_iff.1 h).1 (fun e => by have := hr i e.symm; omega)).trans h
  refine ⟨a, b, nb _ _ h1 c, nb _ _ h2 d, nb _ _ h3 e, grownBy_cell hg f (fun e => by have := hr Bs e; omega), ?_⟩
  exact ⟨hg.os.trans g.os, hg.tape.trans g.tape, hg.output.trans g.output, Nat.le_trans g.size hg.size, fun i hi hn => (hg.block i (Nat.lt_of_lt_of_le hi g.size) (fun e => by have := hr i e.symm; omega)).trans (g.block i hi hn)⟩
def fdA (w : World) (XB : Nat) (ab : Option Addr) (K cp : Nat) (Z : Nat → Bool × ByteArray) (E : Nat → E4) (p : Nat × Option Nat) (x : Act × World) : Prop :=
  ∃ QB, x.1 = { tmps := #[.slice ab K cp, undef, .pointer (some ⟨w.heap.size, 0, none⟩), .pointer (some ⟨w.heap.size + 1, 0, none⟩), .pointer (some ⟨XB, 0, none⟩), undef, .pointer (some ⟨QB, 0, none⟩), undef, undef, whole false oneS, .agg #[.bool false, .string oneS, .bool false, .string ⟨#[]⟩], .slice ab K cp, .func (.func 159) #[] #[.pointer (some ⟨XB + 1, 0, none⟩)], .int .i64 ((K - 1 - p.1 : Nat) : Int), whole (Z (K - 1 - p.1)).1 (Z (K - 1 - p.1)).2, undef, undef, undef, undef, undef, undef, undef, undef, undef, undef, undef, undef, undef, undef, undef, undef, undef, undef, undef, undef, undef, undef, undef, undef, undef, undef, undef, undef, undef, undef, undef, undef, undef, undef, undef, undef], defers := [] } ∧ WBlk x.2 QB (.bool (Z (K - 1 - p.1)).1) (.string (Z (K - 1 - p.1)).2) ∧ XB + 1 < QB ∧ fdI w w.heap.size (w.heap.size + 1) XB (XB + 1) ab K cp E p x.2
theorem res_folded (tmps : Array Value) (w : World) (g g' : Nat) (a b c d v : Value) (hp : tmps.getD 2 undef = .pointer (some ⟨g, 0, none⟩)) (hg : w.heap[g]? = some (.cells #[a, b, c, d] 25 (0, 0)))
    (hq : tmps.getD 3 undef = .pointer (some ⟨g', 0, none⟩)) (hg' : (loadVar 29 ⟨g', 0, none⟩).run Tryz.prog w = .ok v w) : (results Tryz.f82 tmps).run Tryz.prog w = .ok (.tuple #[.agg #[a, b, c, d], v]) w := by
  have hp' : tmps[2]?.getD undef = .pointer (some ⟨g, 0, none⟩) := by simpa using hp
  have hq' : tmps[3]?.getD undef = .pointer (some ⟨g', 0, none⟩) := by simpa using hq
  simp [results, hp', hq', asAddr, load_rowQ w g _ a b c d _ hg, hg', Sem.run_bind, Result.andThen]
theorem folded_ok (l : List Int) (Z : Nat → Bool × ByteArray) (E : Nat → E4) (hF : Folds l Z E) (K : Nat) (hK : l.length = K) (hK9 : K ≤ 100000) (ab : Option Addr) (cp : Nat) (w : World)
    (hsrc : ∀ q, q < K → ∃ B off, ab = some ⟨B, off, none⟩ ∧ w.cell? ⟨B, off + q * 2, none⟩ = some (.bool (Z q).1) ∧ w.cell? ⟨B, off + q * 2 + 1, none⟩ = some (.string (Z q).2) ∧ K ≤ cp) :
    Calls Tryz.prog 82 #[.slice ab K cp] w fun e w' => e = .returned (.tuple #[frac (E 0).1.1 (E 0).1.2 (E 0).2.1 (E 0).2.2, .int .i64 0]) ∧ w.grownBy w' none := by
  have HS : Hid (∀ q, q < K → ∃ B off, ab = some ⟨B, off, none⟩ ∧ w.cell? ⟨B, off + q * 2, none⟩ = some (.bool (Z q).1) ∧ w.cell? ⟨B, off + q * 2 + 1, none⟩ = some (.string (Z q).2) ∧ K ≤ cp) := hsrc
  clear hsrc
  refine (callsIn_wide (n := 5)).1 ?_
  refine callsIn_of_wp_marks Tryz.func82 rfl trivial ?_ rfl
  simp only [Tryz.ntmps82, List.size_toArray, List.length_cons, List.length_nil, Nat.reduceAdd, Nat.reduceSub, Array.replicate_succ, Array.replicate_zero, List.push_toArray, List.append_toArray, List.nil_append, List.cons_append]
  gi_wp2
  refine ⟨trivial, ?_⟩
  refine (callsIn_wide.2 (fone_any _)).mono ?_
  rintro e w1 ⟨rfl, g1⟩
  gi_wp2
  refine ⟨trivial, ?_⟩
  refine (callsIn_wide.2 (bwd_any _ _ _ _)).mono ?_
  rintro e w2 ⟨rfl, rfl⟩
  gi_wp2
  have HG0 : Hid (w.grownBy w1 none ∧ w.heap.size + 1 < w1.heap.size) := (by
    refine ⟨grownBy_trans (grow2 _ _ _) g1, ?_⟩
    have := g1.size
    simp at this
    omega)
  have HI0 : Hid (fdI w w.heap.size (w.heap.size + 1) w1.heap.size (w1.heap.size + 1) ab K cp E (0, some w1.heap.size) ((w1.alloc (qObj false oneS false eS)).alloc (.cells #[.slice ab K cp] 48))) := (by
    have b1 : QBlk w1 w.heap.size (.bool false) (.string eS) (.bool false) (.string eS) := QBlk.kept (w := (w.alloc (qObj false eS false eS)).alloc (.cells #[.int .i64 0] 29)) (old_alloc _ _ (heap_alloc_new _ _)) g1 (by simp)
    have b2 : w1.heap[w.heap.size + 1]? = some (.cells #[.int .i64 0] 29 (0, 0)) := (g1.block (w.heap.size + 1) (by simp) (by simp)).trans (heap_alloc2_new _ _ _)
    have hE := hF.e K (by omega)
    rw [← hK, List.drop_length] at hE
    obtain ⟨e1, e2⟩ := isz_one hE.1.1
    obtain ⟨e3, e4⟩ := whole_inj (hE.2.1.one (⟨rfl, by rw [show Int.natAbs 0 = 0 from rfl, magN_zero]; rfl⟩ : IsZ 0 false eS))
    rw [hK] at e1 e2 e3 e4
    refine ⟨rfl, Nat.zero_le _, old_alloc _ _ (old_alloc _ _ b1), old_alloc _ _ (old_alloc _ _ b2), ?_, ?_, grownBy_trans HG0.out.1 (grow2 _ _ _)⟩
    · show QBlk _ _ (.bool (E (K - 0)).1.1) (.string (E (K - 0)).1.2) (.bool (E (K - 0)).2.1) (.string (E (K - 0)).2.2)
      rw [Nat.sub_zero, e1, e2, e3, e4]
      exact old_alloc _ _ (heap_alloc_new _ _)
    · have h := heap_alloc2_new w1 (qObj false oneS false eS) (.cells #[.slice ab K cp] 48)
      simp only [World.cell?, h]
      rfl)
  have hsz : ((w1.alloc (qObj false oneS false eS)).alloc (.cells #[.slice ab K cp] 48)).heap.size = w1.heap.size + 2 := by simp
  clear g1
  generalize (w1.alloc (qObj false oneS false eS)).alloc (.cells #[.slice ab K cp] 48) = W0 at *
  generalize w1.heap.size = XB at *
  have own := fun p W W' row => fdI_own w w.heap.size (w.heap.size + 1) XB (XB + 1) W0.heap.size ab K cp E (by have := HG0.out.2; omega) (by have := HG0.out.2; omega) (by omega) (by omega) (by have := HG0.out.2; omega) p W W' row
  refine wpIn_countedK rfl (by omega) (gf := 159) (lb := #[.pointer (some ⟨XB + 1, 0, none⟩)]) rfl trivial (enters_of Tryz.func159 (by kernel_rfl) rfl) (encW Z K) K (fun t => rfl)
    (fdI w w.heap.size (w.heap.size + 1) XB (XB + 1) ab K cp E) (fun p W W' row h hg hr => own p W W' row h hg (fun r e => (hr r e).1)) (some XB) (.inr ⟨XB, rfl, by omega⟩) HI0.out ?hit (fun p W W' r h hg hB _ => own p W W' (some r) h hg (fun r' e => by injection e with e; omega))
    (fdA w XB ab K cp Z E) ?ownA ?assign ?body ?done
  case hit =>
    refine hands_K (bwh_hands Fence.wide _ trivial rfl (by omega) (XB + 1) Z K cp ab (by omega) _ ?_)
    rintro t W ⟨o, h1, h2, h3, h4, h5, h6, h7⟩
    refine ⟨h6, fun q hq => ?_⟩
    obtain ⟨B, off, hb, c0, c1, hc⟩ := HS.out q (by omega)
    exact ⟨B, off, hb, grownBy_cell h7 c0 (by simp), grownBy_cell h7 c1 (by simp), hc⟩
  case ownA =>
    rintro a1 p W W' row ⟨QB, h1, h2, h3, h4⟩ hg hr
    refine ⟨QB, h1, ?_, h3, own p W W' row h4 hg (fun r e => (hr r e).1)⟩
    refine (hg.block QB h2.lt (fun e => ?_)).trans h2
    obtain ⟨_, o, ho, hc⟩ := hr QB e.symm
    have e2 : some o = some (Obj.cells #[.bool (Z (K - 1 - p.1)).1, .string (Z (K - 1 - p.1)).2] 23 (0, 0)) := ho.symm.trans h2
    obtain rfl := Option.some.inj e2
    cases hc
  case assign =>
    intro lo t o W ht hI
    have hW : XB + 1 < W.heap.size := World.block_lt_of_cell? W _ hI.2.2.2.2.2.1
    simp only [encW]
    gi_wp2
    exact ⟨⟨W.heap.size, rfl, heap_alloc_new _ _, by omega, own (t, o) _ _ none hI (grow1 _ _) (fun r e => by cases e)⟩, grow1 _ _⟩
  case body =>
    rintro lo t o a' W ht ⟨QB, rfl, hq, hQB, hI⟩
    obtain ⟨ho, hle, hR, hEr, hX, hBs, hgw⟩ := hI
    dsimp only at ho hle hX hq
    subst ho
    dsimp only
    obtain ⟨j, hj⟩ : ∃ j, K = t + 1 + j := ⟨K - 1 - t, by omega⟩
    have ej : K - 1 - t = j := by omega
    have ej1 : K - t = j + 1 := by omega
    have ej2 : K - (t + 1) = j := by omega
    rw [ej1] at hX
    rw [ej] at hq ⊢
    obtain ⟨q, hq0⟩ : ∃ q, l[j]? = some q := ⟨l[j]'(by omega), List.getElem?_eq_getElem _⟩
    have hfo : fo (l.drop j) = (q * (fo (l.drop (j + 1))).1 + (fo (l.drop (j + 1))).2, (fo (l.drop (j + 1))).1) := by
      have hlt : j < l.length := by omega
      have hd := List.drop_eq_getElem_cons hlt
      have hq1 : l[j] = q := by rw [List.getElem?_eq_getElem hlt] at hq0; exact Option.some.inj hq0
      rw [hd, hq1]
      rfl
    have zq := hF.z j q hq0
    obtain ⟨zA, zB⟩ := hF.e (j + 1) (by omega)
    obtain ⟨zC, zD⟩ := hF.e j (by omega)
    have hA0 := hF.pos (j + 1) (by omega) (by omega)
    rw [hfo] at zC zD
    generalize (fo (l.drop (j + 1))).1 = A at *
    generalize (fo (l.drop (j + 1))).2 = B at *
    have hI2 : ∀ W', QBlk W' w.heap.size (.bool false) (.string eS) (.bool false) (.string eS) → W'.heap[w.heap.size + 1]? = some (.cells #[.int .i64 0] 29 (0, 0)) → QBlk W' XB (.bool (E j).1.1) (.string (E j).1.2) (.bool (E j).2.1) (.string (E j).2.2) → W'.cell? ⟨XB + 1, 0, none⟩ = some (.slice ab K cp) → w.grownBy W' none → fdI w w.heap.size (w.heap.size + 1) XB (XB + 1) ab K cp E (t + 1, some XB) W' := fun W' a b c d e => ⟨rfl, by show t + 1 ≤ K; omega, a, b, by show QBlk W' XB (.bool (E (K - (t + 1))).1.1) (.string (E (K - (t + 1))).1.2) (.bool (E (K - (t + 1))).2.1) (.string (E (K - (t + 1))).2.2); rw [ej2]; exact c, d, e⟩
    generalize (E (j + 1)).1.1 = an at *
    generalize (E (j + 1)).1.2 = aS at *
    generalize (E (j + 1)).2.1 = bn at *
    generalize (E (j + 1)).2.2 = bS at *
    generalize (E j).1.1 = cn at *
    generalize (E j).1.2 = cS at *
    obtain ⟨e1, e2⟩ := whole_inj (zD.1.one zA.1)
    rw [e1, e2] at hI2
    obtain rfl : an = false := by rw [zA.1.1]; exact decide_eq_false (by omega)
    generalize (Z j).1 = zn at *
    generalize (Z j).2 = zS at *
    obtain ⟨mn, mS, zm⟩ := isz_ex (q * A)
    have zm2 : Sz 2048 (q * A) mn mS := by
      refine ⟨zm, ?_⟩
      rw [Int.natAbs_mul]
      generalize hk : 1024 = k at zq zA
      have h1 := Nat.mul_lt_mul_of_lt_of_lt zq.2 zA.2
      rw [← Nat.pow_add] at h1
      rw [show 2048 = k + k by omega]
      exact h1
    have HMl : Hid (∀ w, Calls Tryz.prog 102 #[whole zn zS, whole false aS] w fun e w' => e = .returned (.tuple #[whole mn mS, .int .i64 0]) ∧ w.grownBy w' none) := fun w => mul_is (by decide) zq zA zm w
    have HAd : Hid (∀ w, Calls Tryz.prog 53 #[whole mn mS, whole bn bS] w fun e w' => e = .returned (.tuple #[whole cn cS, .int .i64 0]) ∧ w.grownBy w' none) := fun w => add_is (by decide) zm2 (zB.up (by decide)) zC.1 w
    have hc1 : cS.size ≤ 1024 := by have h1 := isZ_size zC.1; have h2 := zC.bl; omega
    have ha1 : aS.size ≤ 1024 := by have h1 := isZ_size zA.1; have h2 := zA.bl; omega
    have HFt : Hid (∀ w, Calls Tryz.prog 126 #[frac cn cS false aS] w fun e w' => e = .returned (.tuple #[frac cn cS false aS, .int .i64 0]) ∧ w.grownBy w' none) := fun w => fitting_ok hc1 ha1 w
    have hne : (aS.toList == []) = false := nonempty_q (zA.size0 (by decide) (by omega))
    have HI2 : Hid (∀ W', QBlk W' w.heap.size (.bool false) (.string eS) (.bool false) (.string eS) → W'.heap[w.heap.size + 1]? = some (.cells #[.int .i64 0] 29 (0, 0)) → QBlk W' XB (.bool cn) (.string cS) (.bool false) (.string aS) → W'.cell? ⟨XB + 1, 0, none⟩ = some (.slice ab K cp) → w.grownBy W' none → fdI w w.heap.size (w.heap.size + 1) XB (XB + 1) ab K cp E (t + 1, some XB) W') := hI2
    have HB0 : Hid (QBlk W w.heap.size (.bool false) (.string eS) (.bool false) (.string eS) ∧ W.heap[w.heap.size + 1]? = some (.cells #[.int .i64 0] 29 (0, 0)) ∧ W.cell? ⟨XB + 1, 0, none⟩ = some (.slice ab K cp) ∧ w.grownBy W none) := ⟨hR, hEr, hBs, hgw⟩
    have HX0 : Hid (QBlk W XB (.bool false) (.string aS) (.bool bn) (.string bS)) := hX
    have HQ0 : Hid (WBlk W QB (.bool zn) (.string zS)) := hq
    have HLT : Hid (w.heap.size + 1 < XB ∧ XB + 1 < QB) := ⟨HG0.out.2, hQB⟩
    have x0 := hX.c0
    have x1 := hX.c1
    clear hI2 hR hEr hBs hgw hX hq hQB zq zA zB zC zD zm zm2 hA0 hq0 hfo e1 e2 hc1 ha1 ej ej1 ej2 own hF HS HI0 hj hle hK hK9 ht hsz
    gi_wp2
    gi_region_with (first | (refine ⟨trivial, ?_⟩; refine (callsIn_round (fzero_gr _)).mono ?_; rintro e w3 ⟨rfl, g3⟩; have G3 : W.grownBy w3 none := (by first | exact g3 | exact grownBy_undrew g3); have y := HX0.out.kept G3 (by simp); have y0 := y.c0; have y1 := y.c1) | fail)
    all_goals (
      have HX3 : Hid (QBlk w3 XB (.bool false) (.string aS) (.bool bn) (.string bS)) := HX0.out.kept G3 (by simp)
      have q3 := HQ0.out.kept G3 (by simp)
      have q0 := q3.c0
      have q1 := q3.c1
      have HG3 : Hid (W.grownBy w3 none) := G3
      clear q3 G3 g3 x0 x1 y
      gi_wp2
      refine ⟨trivial, ?_⟩
      refine (callsIn_round (HMl.out _)).mono ?_
      rintro e w4 ⟨rfl, g4⟩
      have HX4 : Hid (QBlk (w4.alloc (wObj mn mS)) XB (.bool false) (.string aS) (.bool bn) (.string bS)) := old_alloc _ _ (HX3.out.kept g4 (by simp))
      have HS4 : Hid (WBlk (w4.alloc (wObj mn mS)) w4.heap.size (.bool mn) (.string mS)) := heap_alloc_new _ _
      have HG4 : Hid (W.grownBy (w4.alloc (wObj mn mS)) none ∧ XB < w4.heap.size ∧ W.heap.size ≤ w4.heap.size) := (by
        have h1 := grownBy_trans HG3.out g4
        exact ⟨grownBy_trans h1 (grow1 _ _), Nat.lt_of_lt_of_le HX0.out.lt h1.size, h1.size⟩)
      clear g4 HX3 HG3 y0 y1 q0 q1
      gi_upto_region 8 with fail
      generalize w4.alloc (wObj mn mS) = V at *
      generalize w4.heap.size = SB at *
      have s0 := HS4.out.c0
      have s1 := HS4.out.c1
      have x2 := HX4.out.c2
      have x3 := HX4.out.c3
      gi_wp2
      refine ⟨trivial, ?_⟩
      refine (callsIn_round (HAd.out _)).mono ?_
      rintro e w5 ⟨rfl, g5⟩
      have hS5 := HS4.out.kept g5 (by simp)
      have k0 := hS5.c0
      have k1 := hS5.c1
      have k2 := hS5.fr 0
      have k3 := hS5.fr 1
      have ne1 : ¬ SB = XB := by have := HG4.out.2.1; omega
      have HX5 : Hid (QBlk ((w5.setCell ⟨SB, 0, none⟩ (.bool cn)).setCell ⟨SB, 1, none⟩ (.string cS)) XB (.bool false) (.string aS) (.bool bn) (.string bS)) := (by
        have hg : w5.grownBy ((w5.setCell ⟨SB, 0, none⟩ (.bool cn)).setCell ⟨SB, 1, none⟩ (.string cS)) (some SB) := grownBy_trans (grownBy_setCell _ _ _ _) (grownBy_setCell _ _ _ _)
        exact (HX4.out.kept g5 (by simp)).kept hg (by intro e; injection e with e; omega))
      have HS5 : Hid (WBlk ((w5.setCell ⟨SB, 0, none⟩ (.bool cn)).setCell ⟨SB, 1, none⟩ (.string cS)) SB (.bool cn) (.string cS)) := hS5.put _ _
      have HG5 : Hid (W.grownBy ((w5.setCell ⟨SB, 0, none⟩ (.bool cn)).setCell ⟨SB, 1, none⟩ (.string cS)) none) := grown_set (grown_set (grownBy_trans HG4.out.1 g5) HG4.out.2.2) HG4.out.2.2
      clear hS5 g5 s0 s1 x2 x3 HS4 HX4 ne1
      gi_upto_region 9 with fail
      clear k0 k1 k2 k3
      generalize (w5.setCell ⟨SB, 0, none⟩ (.bool cn)).setCell ⟨SB, 1, none⟩ (.string cS) = V5 at *
      have s0 := HS5.out.c0
      have s1 := HS5.out.c1
      have x0 := HX5.out.c0
      have x1 := HX5.out.c1
      gi_wp2
      refine ⟨trivial, ?_⟩
      refine (callsIn_round (upright_pos _ _ _ _)).mono ?_
      rintro e w6 ⟨rfl, g6⟩
      gi_wp2
      refine ⟨trivial, ?_⟩
      refine (callsIn_round (HFt.out _)).mono ?_
      rintro e w7 ⟨rfl, g7⟩
      have hX7 := HX5.out.kept (grownBy_trans g6 g7) (by simp)
      have HG7 : Hid (W.grownBy w7 none) := grownBy_trans HG5.out (grownBy_trans g6 g7)
      have x0 := hX7.c0
      have x1 := hX7.c1
      have x2 := hX7.c2
      have x3 := hX7.c3
      have f0 := hX7.fr 0
      have f1 := hX7.fr 1
      have f2 := hX7.fr 2
      have f3 := hX7.fr 3
      have HX7 : Hid (QBlk w7 XB (.bool false) (.string aS) (.bool bn) (.string bS)) := hX7
      clear hX7 g6 g7
      gi_wp2
      have hgr : W.grownBy ((((w7.setCell ⟨XB, 0, none⟩ (.bool cn)).setCell ⟨XB, 1, none⟩ (.string cS)).setCell ⟨XB, 2, none⟩ (.bool false)).setCell ⟨XB, 3, none⟩ (.string aS)) (some XB) := grownBy_trans (grown_some HG7.out XB) (grownBy_trans (grownBy_trans (grownBy_setCell _ _ _ _) (grownBy_setCell _ _ _ _)) (grownBy_trans (grownBy_setCell _ _ _ _) (grownBy_setCell _ _ _ _)))
      have hlt := HLT.out
      refine ⟨keeps_of_grown hgr HX0.out, some XB, HI2.out _ (HB0.out.1.kept hgr (by intro e; injection e with e; omega)) ((hgr.block _ (Array.getElem?_eq_some_iff.1 HB0.out.2.1).1 (by intro e; injection e with e; omega)).trans HB0.out.2.1) (HX7.out.put _ _ _ _) (grownBy_cell hgr HB0.out.2.2.1 (by intro e; injection e with e; omega)) ?_, .of hgr, .inl rfl⟩
      exact grown_put4 (grownBy_trans HB0.out.2.2.2 HG7.out) (by omega))
  case done =>
    rintro D o W hD ⟨h1, h2, h3, h4, h5, h6, h7⟩ hK'
    dsimp only at h5
    rw [Nat.sub_self] at h5
    have hlt := HG0.out.2
    have hDs : XB + 2 ≤ D := by omega
    have a0 := h5.c0
    have a1 := h5.c1
    have a2 := h5.c2
    have a3 := h5.c3
    have r0 := h3.c0
    have r1 := h3.c1
    have r2 := h3.c2
    have r3 := h3.c3
    have f0 := h3.fr 0
    have f1 := h3.fr 1
    have f2 := h3.fr 2
    have f3 := h3.fr 3
    have c4 : W.cell? ⟨w.heap.size + 1, 0, none⟩ = some (.int .i64 0) := by simp [World.cell?, h4]
    have f4 : W.frozen? ⟨w.heap.size + 1, 0, none⟩ = false := by simp [World.frozen?, h4]
    gi_wp2
    have u1 : QBlk (((((W.setCell ⟨w.heap.size, 0, none⟩ (.bool (E 0).1.1)).setCell ⟨w.heap.size, 1, none⟩ (.string (E 0).1.2)).setCell ⟨w.heap.size, 2, none⟩ (.bool (E 0).2.1)).setCell ⟨w.heap.size, 3, none⟩ (.string (E 0).2.2)).setCell ⟨w.heap.size + 1, 0, none⟩ (.int .i64 0)) w.heap.size (.bool (E 0).1.1) (.string (E 0).1.2) (.bool (E 0).2.1) (.string (E 0).2.2) := (h3.put _ _ _ _).kept (grownBy_setCell _ (w.heap.size + 1) 0 _) (by intro e; injection e with e; omega)
    have u2 : (((((W.setCell ⟨w.heap.size, 0, none⟩ (.bool (E 0).1.1)).setCell ⟨w.heap.size, 1, none⟩ (.string (E 0).1.2)).setCell ⟨w.heap.size, 2, none⟩ (.bool (E 0).2.1)).setCell ⟨w.heap.size, 3, none⟩ (.string (E 0).2.2)).setCell ⟨w.heap.size + 1, 0, none⟩ (.int .i64 0)).heap[w.heap.size + 1]? = some (.cells #[.int .i64 0] 29 (0, 0)) := by simp [World.setCell, Array.getElem?_modify, h4]
    have u3 : (((((W.setCell ⟨w.heap.size, 0, none⟩ (.bool (E 0).1.1)).setCell ⟨w.heap.size, 1, none⟩ (.string (E 0).1.2)).setCell ⟨w.heap.size, 2, none⟩ (.bool (E 0).2.1)).setCell ⟨w.heap.size, 3, none⟩ (.string (E 0).2.2)).setCell ⟨w.heap.size + 1, 0, none⟩ (.int .i64 0)).heap[D]? = some (.deferred (some [])) := (((((KeepsOthers.setCell _ _ _).trans (KeepsOthers.setCell _ _ _)).trans (KeepsOthers.setCell _ _ _)).trans (KeepsOthers.setCell _ _ _)).trans (KeepsOthers.setCell _ _ _)).same D _ hK' rfl
    have u4 : w.grownBy (((((W.setCell ⟨w.heap.size, 0, none⟩ (.bool (E 0).1.1)).setCell ⟨w.heap.size, 1, none⟩ (.string (E 0).1.2)).setCell ⟨w.heap.size, 2, none⟩ (.bool (E 0).2.1)).setCell ⟨w.heap.size, 3, none⟩ (.string (E 0).2.2)).setCell ⟨w.heap.size + 1, 0, none⟩ (.int .i64 0)) none := grown_set (grown_put4 h7 (Nat.le_refl _)) (by omega)
    clear a0 a1 a2 a3 r0 r1 r2 r3 f0 f1 f2 f3 c4 f4 h1 h2 h3 h4 h5 h6 h7 hK'
    generalize ((((W.setCell ⟨w.heap.size, 0, none⟩ (.bool (E 0).1.1)).setCell ⟨w.heap.size, 1, none⟩ (.string (E 0).1.2)).setCell ⟨w.heap.size, 2, none⟩ (.bool (E 0).2.1)).setCell ⟨w.heap.size, 3, none⟩ (.string (E 0).2.2)).setCell ⟨w.heap.size + 1, 0, none⟩ (.int .i64 0) = X at *
    refine ⟨by simp, .inl ⟨_, _, rfl, run_takeDeferred u3, ?_⟩⟩
    have kD := grownBy_putObj' X D (.deferred none)
    have nb : ∀ i o, i < XB + 2 → X.heap[i]? = some o → (X.putObj D (.deferred none)).heap[i]? = some o := fun i o hi hh => (kD.block i (Array.getElem?_eq_some_iff.1 hh).1 (by intro e; injection e with e; omega)).trans hh
    refine ⟨_, res_folded _ _ w.heap.size (w.heap.size + 1) _ _ _ _ (.int .i64 0) rfl (nb _ _ (by omega) u1) rfl (load_errno _ _ _ (nb _ _ (by omega) u2)), rfl, ?_⟩
    exact ⟨kD.os.trans u4.os, kD.tape.trans u4.tape, kD.output.trans u4.output, Nat.le_trans u4.size kD.size, fun i hi hn => (kD.block i (Nat.lt_of_lt_of_le hi u4.size) (by intro e; injection e with e; omega)).trans (u4.block i hi hn)⟩
end Go.Proofs.YtdfliaogmlpefaaGreatDoor
