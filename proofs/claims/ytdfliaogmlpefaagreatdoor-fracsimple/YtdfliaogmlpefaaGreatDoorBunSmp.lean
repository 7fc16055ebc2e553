/-
  The simplest fraction between two, by quotients, over Int.
  frac's after.
  frac's simplest: what its loop stands on.
-/
import Derived.Test.YtdfliaogmlpefaaGreatDoorBunBwh
import Derived.Test.YtdfliaogmlpefaaGreatDoorBunFre
import Derived.Deep.CutRange
import Derived.Deep.CutBlock
import Derived.Test.YtdfliaogmlpefaaGreatDoorBunWla
import Derived.Test.YtdfliaogmlpefaaGreatDoorBunRfs
namespace Go.Proofs.YtdfliaogmlpefaaGreatDoor
set_option linter.unusedVariables false
set_option maxHeartbeats 3200000
set_option maxRecDepth 1000000
def sm : Nat → Int → Int → Int → Int → List Int
  | 0, _, _, _, _ => []
  | f + 1, N1, D1, N2, D2 =>
    if N1 / D1 ≤ N2 / D2 ∧ N1 % D1 = 0 then [N1 / D1]
    else if N2 / D2 ≤ N1 / D1 ∧ N2 % D2 = 0 then [N2 / D2]
    else if N1 / D1 < N2 / D2 then [N1 / D1 + 1]
    else if N2 / D2 < N1 / D1 then [N2 / D2 + 1]
    else N1 / D1 :: sm f D1 (N1 % D1) D2 (N2 % D2)
theorem fo_gcd : ∀ l : List Int, Int.gcd (fo l).1 (fo l).2 = 1
  | [] => by decide
  | q :: l => by
    have h := fo_gcd l
    show Int.gcd (q * (fo l).1 + (fo l).2) (fo l).1 = 1
    rw [Int.gcd_comm, Int.add_comm, Int.gcd_add_mul_right_right, h]
structure SmB (B : Int) (N1 D1 N2 D2 : Int) (l : List Int) : Prop where
  ne : l ≠ []
  p : 0 < (fo l).1 ∧ 0 < (fo l).2
  le : ((fo l).1 ≤ N1 ∧ (fo l).2 ≤ D1) ∨ ((fo l).1 ≤ N2 ∧ (fo l).2 ≤ D2)
  q : ∀ (i : Nat) (q : Int), l[i]? = some q → 0 ≤ q ∧ q < B
  tails : ∀ j : Nat, 1 ≤ j → j ≤ l.length → 0 < (fo (l.drop j)).1 ∧ (fo (l.drop j)).1 < B ∧ 0 ≤ (fo (l.drop j)).2 ∧ (fo (l.drop j)).2 < B
theorem div_le_self (N D : Int) (hN : 0 ≤ N) (hD : 0 < D) : 0 ≤ N / D ∧ N / D ≤ N ∧ D * (N / D) + N % D = N ∧ 0 ≤ N % D ∧ N % D < D := by
  have h1 := Int.emod_nonneg N (Int.ne_of_gt hD)
  have h2 := Int.emod_lt_of_pos N hD
  have h3 := Int.emod_def N D
  have q0 : 0 ≤ N / D := Int.ediv_nonneg hN (Int.le_of_lt hD)
  have q1 : N / D ≤ N := by
    have := Int.mul_le_mul_of_nonneg_right (show (1 : Int) ≤ D by omega) q0
    rw [Int.one_mul] at this
    omega
  exact ⟨q0, q1, by omega, h1, h2⟩
theorem sm_single {B N1 D1 N2 D2 q : Int} (hB : 1 < B) (hq : 0 < q) (hqB : q < B) (h : (q ≤ N1 ∧ 1 ≤ D1) ∨ (q ≤ N2 ∧ 1 ≤ D2)) : SmB B N1 D1 N2 D2 [q] := by
  have e : fo [q] = (q, 1) := by simp [fo]
  refine ⟨by simp, by rw [e]; exact ⟨hq, by show (0 : Int) < 1; decide⟩, by rw [e]; exact h, fun i x hi => ?_, fun j h1 h2 => ?_⟩
  · match i, hi with
    | 0, hi => simp at hi; subst hi; exact ⟨by omega, hqB⟩
  · have : j = 1 := by simp at h2; omega
    subst this
    simp only [List.drop_one, List.tail_cons, fo]
    omega
theorem sm_bounds : ∀ (f : Nat) (N1 D1 N2 D2 B : Int), 0 < N1 → 0 < D1 → 0 < N2 → 0 < D2 → D1.toNat ≤ f → N1 < B → D1 < B → N2 < B → D2 < B → SmB B N1 D1 N2 D2 (sm f N1 D1 N2 D2)
  | 0, N1, D1, N2, D2, B, hN1, hD1, hN2, hD2, hf, b1, b2, b3, b4 => by omega
  | f + 1, N1, D1, N2, D2, B, hN1, hD1, hN2, hD2, hf, b1, b2, b3, b4 => by
    obtain ⟨a0, a1, a2, a3, a4⟩ := div_le_self N1 D1 (by omega) hD1
    obtain ⟨c0, c1, c2, c3, c4⟩ := div_le_self N2 D2 (by omega) hD2
    unfold sm
    generalize ha : N1 / D1 = a at *
    generalize hc : N2 / D2 = c at *
    generalize hr : N1 % D1 = r at *
    generalize hs : N2 % D2 = s at *
    split
    · rename_i h
      have hp : 0 < a := by
        rcases Int.lt_or_eq_of_le a0 with h1 | h1
        · exact h1
        · rw [← h1, h.2] at a2; simp at a2; omega
      exact sm_single (by omega) hp (by omega) (.inl ⟨a1, by omega⟩)
    · split
      · rename_i h
        have hp : 0 < c := by
          rcases Int.lt_or_eq_of_le c0 with h1 | h1
          · exact h1
          · rw [← h1, h.2] at c2; simp at c2; omega
        exact sm_single (by omega) hp (by omega) (.inr ⟨c1, by omega⟩)
      · split
        · exact sm_single (by omega) (by omega) (by omega) (.inr ⟨by omega, by omega⟩)
        · split
          · exact sm_single (by omega) (by omega) (by omega) (.inl ⟨by omega, by omega⟩)
          · rename_i h1 h2 h3 h4
            obtain rfl : a = c := by omega
            have hr0 : 0 < r := by
              rcases Int.lt_or_eq_of_le a3 with h | h
              · exact h
              · exact absurd ⟨Int.le_refl _, h.symm⟩ h1
            have hs0 : 0 < s := by
              rcases Int.lt_or_eq_of_le c3 with h | h
              · exact h
              · exact absurd ⟨Int.le_refl _, h.symm⟩ h2
            have ih := sm_bounds f D1 r D2 s B hD1 hr0 hD2 hs0 (by omega) b2 (by omega) b4 (by omega)
            generalize sm f D1 r D2 s = l at *
            obtain ⟨p1, p2⟩ := ih.p
            have e : fo (a :: l) = (a * (fo l).1 + (fo l).2, (fo l).1) := rfl
            have hap : 0 ≤ a * (fo l).1 := Int.mul_nonneg a0 (Int.le_of_lt p1)
            refine ⟨by simp, by rw [e]; exact ⟨by show 0 < a * (fo l).1 + (fo l).2; omega, p1⟩, ?_, fun i x hi => ?_, fun j j1 j2 => ?_⟩
            · rw [e]
              rcases ih.le with ⟨u, v⟩ | ⟨u, v⟩
              · left
                have := Int.mul_le_mul_of_nonneg_left u a0
                rw [Int.mul_comm D1 a] at a2
                exact ⟨by show a * (fo l).1 + (fo l).2 ≤ N1; omega, u⟩
              · right
                have := Int.mul_le_mul_of_nonneg_left u a0
                rw [Int.mul_comm D2 a] at c2
                exact ⟨by show a * (fo l).1 + (fo l).2 ≤ N2; omega, u⟩
            · cases i with
              | zero => simp at hi; subst hi; exact ⟨a0, by omega⟩
              | succ i => exact ih.q i x (by simpa using hi)
            · obtain ⟨j, rfl⟩ : ∃ i, j = i + 1 := ⟨j - 1, by omega⟩
              rw [List.drop_succ_cons]
              rcases Nat.eq_zero_or_pos j with rfl | hp
              · rw [List.drop_zero]
                rcases ih.le with ⟨u, v⟩ | ⟨u, v⟩
                · exact ⟨p1, by omega, by omega, by omega⟩
                · exact ⟨p1, by omega, by omega, by omega⟩
              · exact ih.tails j hp (by simp at j2; omega)
def Pre (X Y : Int) (A : List Int) (N D : Int) : Prop := ∀ l, Eu N D l → Eu X Y (A ++ l)
theorem Pre.nil (X Y : Int) : Pre X Y [] X Y := fun l h => h
theorem Pre.next {X Y N D : Int} {A : List Int} (h : Pre X Y A N D) (hD : 0 < D) (hr : 0 < N % D) : Pre X Y (A ++ [N / D]) D (N % D) := by
  intro l hl
  rw [List.append_assoc]
  refine h _ ?_
  have e : N - N / D * D = N % D := by rw [Int.emod_def, Int.mul_comm]
  cases l with
  | nil => exact absurd hl (by simp [Eu])
  | cons q l =>
    refine ⟨hD, by rw [e]; exact hr, by rw [e]; exact Int.emod_lt_of_pos N hD, by rw [e]; exact hl⟩
theorem Pre.last {X Y N D : Int} {A : List Int} (h : Pre X Y A N D) (hD : 0 < D) (hr : N % D = 0) (hg : Int.gcd X Y = 1) : fo (A ++ [N / D]) = (X, Y) := by
  have e : N = N / D * D := by have := Int.emod_def N D; rw [Int.mul_comm]; omega
  exact (Eu.fo _ _ _ (h [N / D] ⟨hD, e⟩) hg).1
end Go.Proofs.YtdfliaogmlpefaaGreatDoor
namespace Go.Proofs.YtdfliaogmlpefaaGreatDoor
open Go.RowKit Go.Lib Go.Sort
set_option linter.unusedVariables false
set_option maxHeartbeats 3200000
set_option maxRecDepth 1000000
theorem after_by (n m : Bool) (s t : ByteArray) (HA : Hid (∀ w, Calls Tryz.prog 53 #[whole n s, whole false oneS] w fun e w' => e = .returned (.tuple #[whole m t, .int .i64 0]) ∧ w.grownBy w' none)) (w : World) :
    Calls Tryz.prog 123 #[whole n s] w fun e w' => e = .returned (whole m t) ∧ w.grownBy w' none := by
  have HX : Hid (∀ w', ((w.alloc (wObj n s)).alloc (wObj false eS)).grownBy w' none → w'.cell? ⟨w.heap.size, 0, none⟩ = some (Value.bool n) ∧ w'.cell? ⟨w.heap.size, 1, none⟩ = some (Value.string s)) := fun w' hg => by
    have h : WBlk w' w.heap.size (.bool n) (.string s) := WBlk.kept (w := (w.alloc (wObj n s)).alloc (wObj false eS)) (old_alloc _ _ (heap_alloc_new _ _)) hg (by simp)
    exact ⟨h.c0, h.c1⟩
  go_enter Tryz.func123, Tryz.ntmps123
  go_upto_region 1 with fail
  have HU : Hid (WBlk ((w.alloc (wObj n s)).alloc (wObj false eS)) (w.heap.size + 1) (.bool false) (.string eS)) := heap_alloc2_new _ _ _
  have HG : Hid (w.grownBy ((w.alloc (wObj n s)).alloc (wObj false eS)) none) := grow2 _ _ _
  have HSz : Hid (((w.alloc (wObj n s)).alloc (wObj false eS)).heap.size = w.heap.size + 2) := (by show ((w.alloc (wObj n s)).alloc (wObj false eS)).heap.size = w.heap.size + 2; simp)
  generalize (w.alloc (wObj n s)).alloc (wObj false eS) = U at *
  go_cut [3] from 5 to 10 (fun s3 wx => ∃ P, s3 = .pointer (some ⟨P, 0, none⟩) ∧ WBlk wx P (.bool m) (.string t) ∧ w.heap.size + 1 < P ∧ WBlk wx (w.heap.size + 1) (.bool false) (.string eS) ∧ w.grownBy wx none)
  case first =>
    obtain ⟨k0, k1⟩ := HX.out _ (World.grownBy.refl _ _)
    go_region_held3 (fun w' => w'.cell? ⟨w.heap.size, 0, none⟩ = some (Value.bool n) ∧ w'.cell? ⟨w.heap.size, 1, none⟩ = some (Value.string s))
      (first | (go_keep; done) | exact HX.out _ (by assumption) | exact HX.out _ (grow_drew (World.grownBy.refl _ _)) | exact HX.out _ (grownBy_trans (by assumption) (grow1 _ _)) | exact HX.out _ (grownBy_trans (grow_drew (World.grownBy.refl _ _)) (grow1 _ _)) | exact HX.out _ (grown_set (grown_set GC (by first | exact Nat.le_refl _ | exact GA.size)) (by first | exact Nat.le_refl _ | exact GA.size)) | fail)
      (first
        | (go_at_call 58; refine (fone_any _).mono ?_; rintro e wA ⟨rfl, gA⟩; have GA : U.grownBy wA none := (by first | exact grownBy_undrew gA | exact grownBy_undrew (grownBy_trans (grow1 _ _) gA) | exact grownBy_trans (grow1 _ _) (grownBy_undrew gA) | exact gA | exact grownBy_trans (grow1 _ _) gA); obtain ⟨e0, e1⟩ := HX.out _ GA; (try (have hP : WBlk wA U.heap.size (.bool false) (.string eS) := (by first | exact WBlk.kept (heap_alloc_new _ _) gA (by simp) | exact WBlk.kept (heap_alloc_new _ _) (grownBy_undrew gA) (by simp)))))
        | (go_at_call 53; refine (HA.out _).mono ?_; rintro e wC ⟨rfl, gC⟩; have GC : U.grownBy wC none := (by first | exact grownBy_trans GA gC | exact grownBy_trans GA (grownBy_trans (grow1 _ _) gC)); (first | (have hQ : WBlk wC U.heap.size (.bool false) (.string eS) := WBlk.kept hP gC (by simp); have j0 := hQ.c0; have j1 := hQ.c1; have j2 := hQ.fr 0; have j3 := hQ.fr 1) | (have hQ : WBlk wC wA.heap.size (.bool false) (.string eS) := WBlk.kept (heap_alloc_new _ _) gC (by simp); have j0 := hQ.c0; have j1 := hQ.c1; have j2 := hQ.fr 0; have j3 := hQ.fr 1) | skip))
        | fail)
    all_goals (go_wp2_with fail; go_meet)
    · exact ⟨_, rfl, heap_alloc_new _ _, by have := HSz.out; have := GC.size; omega, old_alloc _ _ (HU.out.kept GC (by simp)), grownBy_trans HG.out (grownBy_trans GC (grow1 _ _))⟩
    · exact ⟨_, rfl, hQ.put _ _, by have := HSz.out; have := GA.size; omega, ((HU.out.kept GC (by simp)).other (by have := HSz.out; have := GA.size; omega)).other (by have := HSz.out; have := GA.size; omega), grown_set (grown_set (grownBy_trans HG.out GC) (by have := HSz.out; have := GA.size; omega)) (by have := HSz.out; have := GA.size; omega)⟩
    · exact ⟨_, rfl, hQ.put _ _, by have := HSz.out; omega, ((HU.out.kept GC (by simp)).other (by have := HSz.out; omega)).other (by have := HSz.out; omega), grown_set (grown_set (grownBy_trans HG.out GC) (by have := HSz.out; omega)) (by have := HSz.out; omega)⟩
  case rest =>
    obtain ⟨P, rfl, hP, hPl, hR, hg⟩ := hcut
    have c0 := hP.c0
    have c1 := hP.c1
    have r0 := hR.c0
    have r1 := hR.c1
    have f0 := hR.fr 0
    have f1 := hR.fr 1
    have HR : Hid (WBlk wc (w.heap.size + 1) (.bool false) (.string eS)) := hR
    have HG2 : Hid (w.grownBy wc none) := hg
    clear hP hR hg HX HU HG HSz
    go_wp2_with fail
    refine bodyPost_ret (res_cell rfl _ _ (w.heap.size + 1) _ _ _ _ rfl (HR.out.put _ _)) rfl ?_
    exact ⟨rfl, grown_set (grown_set HG2.out (by omega)) (by omega)⟩
theorem ez_ex (q : Int) : ∃ p : Bool × ByteArray, IsZ q p.1 p.2 := let ⟨n, s, h⟩ := isz_ex q; ⟨(n, s), h⟩
noncomputable def ez (q : Int) : Bool × ByteArray := Classical.choose (ez_ex q)
theorem ez_is (q : Int) : IsZ q (ez q).1 (ez q).2 := Classical.choose_spec (ez_ex q)
theorem ez_one {q : Int} {n : Bool} {s : ByteArray} (h : IsZ q n s) : n = (ez q).1 ∧ s = (ez q).2 := whole_inj (h.one (ez_is q))
structure SmP (b0 P1 Q1 P2 Q2 base : Nat) : Prop where
  l1 : b0 < P1
  l2 : b0 < Q1
  l3 : b0 < P2
  l4 : b0 < Q2
  u1 : P1 < base
  u2 : Q1 < base
  u3 : P2 < base
  u4 : Q2 < base
  a : P1 ≠ Q1
  b : P1 ≠ P2
  c : P1 ≠ Q2
  d : Q1 ≠ P2
  e : Q1 ≠ Q2
  f : P2 ≠ Q2
structure SmS (w W : World) (X1 Y1 X2 Y2 : Int) (P1 Q1 P2 Q2 base : Nat) (v : Value) (A : List Int) (N1 D1 N2 D2 : Int) : Prop where
  x : QBlk W w.heap.size (.bool (ez X1).1) (.string (ez X1).2) (.bool (ez Y1).1) (.string (ez Y1).2)
  y : QBlk W (w.heap.size + 1) (.bool (ez X2).1) (.string (ez X2).2) (.bool (ez Y2).1) (.string (ez Y2).2)
  r : QBlk W (w.heap.size + 1 + 1) (.bool false) (.string eS) (.bool false) (.string eS)
  p1 : WBlk W P1 (.bool (ez N1).1) (.string (ez N1).2)
  q1 : WBlk W Q1 (.bool (ez D1).1) (.string (ez D1).2)
  p2 : WBlk W P2 (.bool (ez N2).1) (.string (ez N2).2)
  q2 : WBlk W Q2 (.bool (ez D2).1) (.string (ez D2).2)
  row : RowW W base v (A.map ez)
  g : w.grownBy W none
theorem SmS.kept {w W W' : World} {X1 Y1 X2 Y2 : Int} {P1 Q1 P2 Q2 base : Nat} {v : Value} {A : List Int} {N1 D1 N2 D2 : Int} (h : SmS w W X1 Y1 X2 Y2 P1 Q1 P2 Q2 base v A N1 D1 N2 D2) (hg : W.grownBy W' none) : SmS w W' X1 Y1 X2 Y2 P1 Q1 P2 Q2 base v A N1 D1 N2 D2 :=
  ⟨h.x.kept hg (by simp), h.y.kept hg (by simp), h.r.kept hg (by simp), h.p1.kept hg (by simp), h.q1.kept hg (by simp), h.p2.kept hg (by simp), h.q2.kept hg (by simp), h.row.kept hg (by cases v.ownBlock <;> simp), grownBy_trans h.g hg⟩
theorem row_but {W W' : World} {P Q base : Nat} {v : Value} {L : List (Bool × ByteArray)} (h : RowW W base v L) (b : But2 W W' P Q) (hP : P < base) (hQ : Q < base) (hQ2 : Q < W.heap.size) : RowW W' base v L := by
  obtain ⟨V, v1, v2⟩ := b.cut hQ2
  have ne : ∀ r, r < base → v.ownBlock ≠ some r := fun r hr e => by have := (h.own r e).1; omega
  exact (h.kept v1 (.inr (ne P hP))).kept v2 (.inr (ne Q hQ))
theorem SmS.b1 {w W W' : World} {X1 Y1 X2 Y2 : Int} {P1 Q1 P2 Q2 base : Nat} {v : Value} {A : List Int} {N1 D1 N2 D2 M1 E1 : Int} (h : SmS w W X1 Y1 X2 Y2 P1 Q1 P2 Q2 base v A N1 D1 N2 D2) (hp : SmP (w.heap.size + 1 + 1) P1 Q1 P2 Q2 base) (b : But2 W W' P1 Q1) (h1 : WBlk W' P1 (.bool (ez M1).1) (.string (ez M1).2)) (h2 : WBlk W' Q1 (.bool (ez E1).1) (.string (ez E1).2)) :
    SmS w W' X1 Y1 X2 Y2 P1 Q1 P2 Q2 base v A M1 E1 N2 D2 := by
  have hl1 := hp.l1
  have hl2 := hp.l2
  have nb : ∀ i o, i ≠ P1 → i ≠ Q1 → W.heap[i]? = some o → W'.heap[i]? = some o := fun i o n1 n2 h => (b.block i (Array.getElem?_eq_some_iff.1 h).1 n1 n2).trans h
  refine ⟨nb _ _ (by omega) (by omega) h.x, nb _ _ (by omega) (by omega) h.y, nb _ _ (by omega) (by omega) h.r, h1, h2, nb _ _ (fun e => hp.b e.symm) (fun e => hp.d e.symm) h.p2, nb _ _ (fun e => hp.c e.symm) (fun e => hp.e e.symm) h.q2, row_but h.row b hp.u1 hp.u2 h.q1.lt, ?_⟩
  have g := h.g
  exact ⟨b.os.trans g.os, b.tape.trans g.tape, b.output.trans g.output, Nat.le_trans g.size b.size, fun i hi hn => (b.block i (Nat.lt_of_lt_of_le hi g.size) (by omega) (by omega)).trans (g.block i hi hn)⟩
theorem SmS.b2 {w W W' : World} {X1 Y1 X2 Y2 : Int} {P1 Q1 P2 Q2 base : Nat} {v : Value} {A : List Int} {N1 D1 N2 D2 M2 E2 : Int} (h : SmS w W X1 Y1 X2 Y2 P1 Q1 P2 Q2 base v A N1 D1 N2 D2) (hp : SmP (w.heap.size + 1 + 1) P1 Q1 P2 Q2 base) (b : But2 W W' P2 Q2) (h1 : WBlk W' P2 (.bool (ez M2).1) (.string (ez M2).2)) (h2 : WBlk W' Q2 (.bool (ez E2).1) (.string (ez E2).2)) :
    SmS w W' X1 Y1 X2 Y2 P1 Q1 P2 Q2 base v A N1 D1 M2 E2 := by
  have hl1 := hp.l3
  have hl2 := hp.l4
  have nb : ∀ i o, i ≠ P2 → i ≠ Q2 → W.heap[i]? = some o → W'.heap[i]? = some o := fun i o n1 n2 h => (b.block i (Array.getElem?_eq_some_iff.1 h).1 n1 n2).trans h
  refine ⟨nb _ _ (by omega) (by omega) h.x, nb _ _ (by omega) (by omega) h.y, nb _ _ (by omega) (by omega) h.r, nb _ _ hp.b hp.c h.p1, nb _ _ hp.d hp.e h.q1, h1, h2, row_but h.row b hp.u3 hp.u4 h.q2.lt, ?_⟩
  have g := h.g
  exact ⟨b.os.trans g.os, b.tape.trans g.tape, b.output.trans g.output, Nat.le_trans g.size b.size, fun i hi hn => (b.block i (Nat.lt_of_lt_of_le hi g.size) (by omega) (by omega)).trans (g.block i hi hn)⟩
structure SmN (B : Int) (F : Nat) (X1 Y1 X2 Y2 : Int) (f : Nat) (A : List Int) (N1 D1 N2 D2 : Int) : Prop where
  n1 : 0 < N1 ∧ N1 < B
  d1 : 0 < D1 ∧ D1 < B
  n2 : 0 < N2 ∧ N2 < B
  d2 : 0 < D2 ∧ D2 < B
  pre1 : Pre X1 Y1 A N1 D1
  pre2 : Pre X2 Y2 A N2 D2
  e : sm F X1 Y1 X2 Y2 = A ++ sm f N1 D1 N2 D2
  fuel : D1.toNat ≤ f
theorem SmN.next {B : Int} {F : Nat} {X1 Y1 X2 Y2 : Int} {f : Nat} {A : List Int} {N1 D1 N2 D2 : Int} (h : SmN B F X1 Y1 X2 Y2 (f + 1) A N1 D1 N2 D2) (hab : N1 / D1 = N2 / D2) (h1 : ¬ N1 % D1 = 0) (h2 : ¬ N2 % D2 = 0) : SmN B F X1 Y1 X2 Y2 f (A ++ [N1 / D1]) D1 (N1 % D1) D2 (N2 % D2) := by
  obtain ⟨a0, a1, a2, a3, a4⟩ := div_le_self N1 D1 (Int.le_of_lt h.n1.1) h.d1.1
  obtain ⟨c0, c1, c2, c3, c4⟩ := div_le_self N2 D2 (Int.le_of_lt h.n2.1) h.d2.1
  have hd1 := h.d1
  have hd2 := h.d2
  have hf := h.fuel
  refine ⟨hd1, ⟨by omega, by omega⟩, hd2, ⟨by omega, by omega⟩, h.pre1.next hd1.1 (by omega), ?_, ?_, by omega⟩
  · have := h.pre2.next hd2.1 (by omega)
    rw [hab]
    exact this
  · rw [h.e, sm, if_neg (fun h => h1 h.2), if_neg (fun h => h2 h.2), if_neg (by omega), if_neg (by omega), List.append_assoc]
    rfl
theorem SmN.len {B : Int} {F : Nat} {X1 Y1 X2 Y2 : Int} {f : Nat} {A : List Int} {N1 D1 N2 D2 : Int} (h : SmN B F X1 Y1 X2 Y2 f A N1 D1 N2 D2) (hY : Y1.natAbs < 256 ^ 100) : A.length ≤ 1300 := by
  obtain ⟨l, hl⟩ := eu_ex D1.toNat N1 D1 h.d1.1 (Nat.le_refl _)
  have := (h.pre1 l hl).short hY
  rw [List.length_append] at this
  omega
theorem SmN.endX {B : Int} {F : Nat} {X1 Y1 X2 Y2 : Int} {f : Nat} {A : List Int} {N1 D1 N2 D2 : Int} (h : SmN B F X1 Y1 X2 Y2 (f + 1) A N1 D1 N2 D2) (hg : Int.gcd X1 Y1 = 1) (hab : N1 / D1 ≤ N2 / D2) (h1 : N1 % D1 = 0) : fo (sm F X1 Y1 X2 Y2) = (X1, Y1) := by
  rw [h.e, sm, if_pos ⟨hab, h1⟩]
  exact h.pre1.last h.d1.1 h1 hg
theorem SmN.endY {B : Int} {F : Nat} {X1 Y1 X2 Y2 : Int} {f : Nat} {A : List Int} {N1 D1 N2 D2 : Int} (h : SmN B F X1 Y1 X2 Y2 (f + 1) A N1 D1 N2 D2) (hg : Int.gcd X2 Y2 = 1) (hn : ¬ (N1 / D1 ≤ N2 / D2 ∧ N1 % D1 = 0)) (hab : N2 / D2 ≤ N1 / D1) (h2 : N2 % D2 = 0) : fo (sm F X1 Y1 X2 Y2) = (X2, Y2) := by
  rw [h.e, sm, if_neg hn, if_pos ⟨hab, h2⟩]
  exact h.pre2.last h.d2.1 h2 hg
theorem SmN.lt {B : Int} {F : Nat} {X1 Y1 X2 Y2 : Int} {f : Nat} {A : List Int} {N1 D1 N2 D2 : Int} (h : SmN B F X1 Y1 X2 Y2 (f + 1) A N1 D1 N2 D2) (hab : N1 / D1 < N2 / D2) (h1 : ¬ N1 % D1 = 0) : sm F X1 Y1 X2 Y2 = A ++ [N1 / D1 + 1] := by
  rw [h.e, sm, if_neg (fun h => h1 h.2), if_neg (by omega), if_pos hab]
theorem SmN.gt {B : Int} {F : Nat} {X1 Y1 X2 Y2 : Int} {f : Nat} {A : List Int} {N1 D1 N2 D2 : Int} (h : SmN B F X1 Y1 X2 Y2 (f + 1) A N1 D1 N2 D2) (hab : N2 / D2 < N1 / D1) (h2 : ¬ N2 % D2 = 0) : sm F X1 Y1 X2 Y2 = A ++ [N2 / D2 + 1] := by
  rw [h.e, sm, if_neg (by omega), if_neg (fun h => h2 h.2), if_neg (by omega), if_pos hab]
end Go.Proofs.YtdfliaogmlpefaaGreatDoor
