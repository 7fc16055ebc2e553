/-
  The walk over WireWrites, as far as the first answer.
-/
import Derived.Test.YtanbnefdodkniaaWwb
import Derived.Deep.RegionHeld3
namespace Go.Proofs.Ytanbnefdodkniaa
open Go.RowKit Go.Lib Go.Sort
attribute [local go_sem] ext56 ext9

/-- What holds in every world may be asked more strictly. -/
theorem wpAnyH_mono {P : Program} {md : Region.Mode} {ops : Array Oper} {Q : Exit → Act → World → Prop} {S S' : World → Prop} (h : ∀ w, S' w → S w) :
    ∀ (fuel : Nat) (listed : Array Bool) (a : Act) (w : World), wpAnyH P md ops Q S' fuel listed a w → wpAnyH P md ops Q S fuel listed a w
  | 0, _, _, _, hw => hw
  | fuel + 1, _, _, _, hw => ⟨hw.1, fun i hi => wpOp_mono (fun a' w' h' => ⟨h w' h'.1, wpAnyH_mono h fuel _ a' w' h'.2⟩) (hw.2 i hi)⟩

/-- A form that was told: as a string in every world behind. -/
def FS (w w' : World) (v : Value) (s : ByteArray) : Prop := w.grownBy w' none ∧ ∀ w'', w'.grownBy w'' none → (convert 33 9 v).run Try.prog w'' = .ok (.string s) w''
theorem Forms.fs {w w' : World} {v : Value} {L : List Int} (h : Forms w w' v L) : FS w w' v (strOf L) := ⟨h.2, fun _ g => conv_src (h.src.far g)⟩
/-- A writer (function f). -/
def Writes (f : Nat) (x : Value) (s : ByteArray) : Prop := ∀ w, Calls Try.prog f #[x] w fun e w' => ∃ v, e = .returned v ∧ FS w w' v s
theorem Writes.out {f : Nat} {x : Value} {s : ByteArray} (h : Writes f x s) (w : World) : Calls Try.prog f #[x] w fun e w' => ∃ v, e = .returned v ∧ FS w w' v s := h w
theorem writes_of {f : Nat} {x : Value} {L : List Int} (h : ∀ w, Calls Try.prog f #[x] w fun e w' => ∃ v, e = .returned v ∧ Forms w w' v L) : Writes f x (strOf L) := fun w => (h w).mono (by rintro e w' ⟨v, rfl, hF⟩; exact ⟨v, rfl, hF.fs⟩)
theorem strOf_append (A B : List Int) : strOf (A ++ B) = strOf A ++ strOf B := by
  have h : ∀ (B : List Int) (s t : ByteArray), B.foldl (fun r n => r.push (UInt8.ofNat n.toNat)) (s ++ t) = s ++ B.foldl (fun r n => r.push (UInt8.ofNat n.toNat)) t := by
    intro B
    induction B with
    | nil => intro s t; rfl
    | cons x xs ih =>
      intro s t
      rw [List.foldl_cons, List.foldl_cons, ← ih]
      congr 1
      apply ByteArray.ext
      simp
  have h2 := h B (strOf A) ByteArray.empty
  rw [ByteArray.append_empty] at h2
  unfold strOf at h2 ⊢
  rw [List.foldl_append]
  exact h2

/-- What a writer that may refuse has told: the form, or nothing and ErrArg. -/
def TW (U : World) (v : Value) (E : Nat) (p : Bool) (L : List Int) : Prop := (p = false ∧ (∃ ao c, v = .slice ao 0 c) ∧ E = 2) ∨ (p = true ∧ E = 0 ∧ ∀ w', U.grownBy w' none → Src w' v L)
theorem TW.far {U U' : World} {v : Value} {E : Nat} {p : Bool} {L : List Int} (h : TW U v E p L) (hg : U.grownBy U' none) : TW U' v E p L := by
  rcases h with h | ⟨h1, h2, h3⟩
  · exact .inl h
  · exact .inr ⟨h1, h2, fun w' h => h3 w' (grownBy_trans hg h)⟩
theorem told_tw {U w1 : World} {v want : Value} {E : Nat} {p : Bool} {L : List Int} (h : TW U v E p L) (hg : U.grownBy w1 none) (hs : Src w1 want L) : Calls Try.prog 23 #[v, .int .i64 E, .bool p, want] w1 fun e w' => e = .returned (.bool true) ∧ w1.grownBy w' none := by
  rcases h with ⟨rfl, ⟨ao, c, rfl⟩, rfl⟩ | ⟨rfl, rfl, h⟩
  · refine (told_no ao c want w1).mono ?_
    rintro e w' ⟨rfl, rfl⟩
    exact ⟨rfl, World.grownBy.refl _ _⟩
  · refine (told_yes v want L w1 (h w1 hg) hs).mono ?_
    rintro e w' ⟨rfl, rfl⟩
    exact ⟨rfl, World.grownBy.refl _ _⟩
/-- A writer of the program's that may refuse; a writer of the document's; a question. -/
def WritesP (f : Nat) (x : Value) (p : Bool) (L : List Int) : Prop := ∀ w, Calls Try.prog f #[x] w fun e w' => ∃ v E, e = .returned (.tuple #[v, .int .i64 (E : Nat)]) ∧ w.grownBy w' none ∧ TW w' v E p L
theorem WritesP.out {f : Nat} {x : Value} {p : Bool} {L : List Int} (h : WritesP f x p L) (w : World) : Calls Try.prog f #[x] w fun e w' => ∃ v E, e = .returned (.tuple #[v, .int .i64 (E : Nat)]) ∧ w.grownBy w' none ∧ TW w' v E p L := h w
def WritesD (f : Nat) (x : Value) (L : List Int) : Prop := ∀ w, Calls Try.prog f #[x] w fun e w' => ∃ v, e = .returned v ∧ w.grownBy w' none ∧ ∀ w'', w'.grownBy w'' none → Src w'' v L
theorem WritesD.out {f : Nat} {x : Value} {L : List Int} (h : WritesD f x L) (w : World) : Calls Try.prog f #[x] w fun e w' => ∃ v, e = .returned v ∧ w.grownBy w' none ∧ ∀ w'', w'.grownBy w'' none → Src w'' v L := h w
def Asks (f : Nat) (x : Value) (p : Bool) : Prop := ∀ w, Calls Try.prog f #[x] w fun e w' => e = .returned (.bool p) ∧ w.grownBy w' none
theorem Asks.out {f : Nat} {x : Value} {p : Bool} (h : Asks f x p) (w : World) : Calls Try.prog f #[x] w fun e w' => e = .returned (.bool p) ∧ w.grownBy w' none := h w
theorem writesD_of {f : Nat} {x : Value} {L : List Int} (h : ∀ w, Calls Try.prog f #[x] w fun e w' => ∃ v, e = .returned v ∧ Forms w w' v L) : WritesD f x L := fun w => (h w).mono (by rintro e w' ⟨v, rfl, hF⟩; exact ⟨v, rfl, hF.2, fun _ g => hF.src.far g⟩)

set_option maxHeartbeats 6400000 in
set_option maxRecDepth 1000000 in
theorem writes_head (N : Nat) (S : Int) (X Y : Nat) (T : ByteArray) (a b c d : WN) (w : World) (sN sS sX sY sT : ByteArray)
    (hN : N < 18446744073709551616)
    (C29 : Writes 11 (.int .u64 N) sN) (C35 : Writes 12 (.int .i64 S) sS) (C39 : Writes 13 (.int .i64 S) sS) (C45 : Writes 14 (.float .f64 X) sX) (C48 : Writes 15 (.float .f64 X) sX)
    (C56 : Writes 16 (.complex .f64 X Y) (sX ++ sY)) (C59 : Writes 15 (.float .f64 X) sX) (C62 : Writes 15 (.float .f64 Y) sY) (C70 : Writes 17 (.string T) sT) (C74 : Writes 18 (.string T) sT)
    (pw pf pg : Bool) (LW LF LG : List Int) (P20 : WritesP 20 (wv a) pw LW) (P21 : WritesP 21 (fv a b) pf LF) (P22 : WritesP 22 (gv a b c d) pg LG) (P24 : Asks 24 (wv a) pw) (P25 : WritesD 25 (wv a) LW) (P26 : Asks 26 (fv a b) pf) (P27 : WritesD 27 (fv a b) LF) (P28 : Asks 28 (gv a b c d) pg) (P29 : WritesD 29 (gv a b c d) LG)
    (hnS : strOf (numF N) = sN) (hsX : sX.size ≤ 8) (hsY : sY.size ≤ 8) :
    Calls Try.prog 3 #[.agg (thingsB N S X Y T a b c d)] w fun e w' => e = .returned (.bool true) ∧ w.grownBy w' none := by
  have hnz : ¬ 9223372036854775807 < sX.size + sY.size := by omega
  have HNZ : Hid (¬ 9223372036854775807 < sX.size + sY.size) := hnz
  clear hnz
  clear hsX hsY
  go_enter Try.func3, Try.ntmps3
  go_wp2_with fail
  go_quiet (fail)
  go_upto_region 2 with fail
  have HW1 : Hid (w.grownBy ((w.alloc (.cells (thingsB N S X Y T a b c d) 30)).drewN nq) none) := grownBy_drewN (World.grownBy_alloc _ _ _) nq
  have HBK : Hid (∀ w', ((w.alloc (.cells (thingsB N S X Y T a b c d) 30)).drewN nq).grownBy w' none → w'.heap[w.heap.size]? = some (.cells (thingsB N S X Y T a b c d) 30)) := fun w' hg => by
    obtain ⟨_, _, h⟩ := keptN (w := (w.alloc (.cells (thingsB N S X Y T a b c d) 30)).drewN nq) (g := w.heap.size) (c := thingsB N S X Y T a b c d) (t := 30) (heap_alloc_new w _) hg (by simp)
    exact h
  generalize (w.alloc (.cells (thingsB N S X Y T a b c d) 30)).drewN nq = Ub at *
  have HK0 : Hid (∀ w', Ub.grownBy w' none → w'.cell? ⟨w.heap.size, 0, none⟩ = some (.int .u64 N)) := fun w' hg => by have h := HBK.out w' hg; simp [World.cell?, h]
  have k0 := HK0.out Ub (World.grownBy.refl _ _)
  go_cut [5, 6] from 19 to 24 (fun va vb wx => ∃ wA, Forms Ub wA va (numF N) ∧ Forms wA wx vb (numF N))
  case first =>
    go_region_held3 (fun w' => w'.cell? ⟨w.heap.size, 0, none⟩ = some (.int .u64 N))
      (first | (go_keep; done) | exact HK0.out _ G2 | exact HK0.out _ G1 | exact HK0.out _ (grownBy_drewN (World.grownBy.refl _ _) 1) | fail)
      (first
        | (go_at_call 10; have _q := G1; refine (num_forms N hN _).mono ?_; rintro e w2 ⟨v2, rfl, hF2⟩; have G2 : Ub.grownBy w2 none := grownBy_trans G1 hF2.2)
        | (go_at_call 10; refine (num_forms N hN _).mono ?_; rintro e w1 ⟨v1, rfl, hF1⟩; have G1 : Ub.grownBy w1 none := grownBy_undrew hF1.2; have F1 : Forms Ub w1 v1 (numF N) := ⟨hF1.1, G1⟩)
        | fail)
    all_goals
      go_wp2_with fail
      go_meet
      case rel => exact ⟨w1, F1, hF2⟩
  case rest =>
    obtain ⟨wA, FA, FB⟩ := hcut
    have hU0 : Ub.grownBy wc none := grownBy_trans FA.2 FB.2
    have HK : Hid (∀ w', wc.grownBy w' none → w'.cell? ⟨w.heap.size, 0, none⟩ = some (.int .u64 N) ∧ w'.cell? ⟨w.heap.size, 1, none⟩ = some (.int .i64 S) ∧ w'.cell? ⟨w.heap.size, 4, none⟩ = some (.string T)) := fun w' hg => by
      have h := HBK.out w' (grownBy_trans hU0 hg)
      exact ⟨by simp [World.cell?, h], by simp [World.cell?, h], by simp [World.cell?, h]⟩
    have HCA : Hid (∀ w', wc.grownBy w' none → (convert 33 9 u5).run Try.prog w' = .ok (.string sN) w') := fun w' hg => by
      rw [← hnS]
      exact conv_src ((FA.src.far FB.2).far hg)
    have HFF : Hid (Forms Ub wA u5 (numF N) ∧ Forms wA wc u6 (numF N)) := ⟨FA, FB⟩
    clear FA FB k0
    go_upto_region 3 with fail
    obtain ⟨U0, hU⟩ : ∃ U0, wc = U0 := ⟨_, rfl⟩
    rw [hU] at HK HCA ⊢
    go_cut [77] from 25 to 76 (fun c wx => c = .bool false ∧ U0.grownBy wx none)
    case first =>
      refine wp_region_held_drew (S := fun w' => U0.grownBy w' none) (by kernel_rfl) (grownBy_drewN (World.grownBy.refl _ _) 1) (fun hHeld => ?_)
      refine wpAnyH_take (i := 0) (v := ?_) rfl (by kernel_rfl) (by kernel_rfl) (by kernel_rfl) (fun _ _ _ h => h) (Or.inl ⟨by kernel_rfl, ?_⟩) (by assumption) ?_
      rotate_left
      · (intro wt hSw; (try dsimp only at hSw); go_simp; try (with_reducible rfl))
      refine wpAnyH_take (i := 1) (v := ?_) rfl (by kernel_rfl) (by kernel_rfl) (by kernel_rfl) (fun _ _ _ h => h) (Or.inl ⟨by kernel_rfl, ?_⟩) (by assumption) ?_
      rotate_left
      · (intro wt hSw; (try dsimp only at hSw); have kc := HCA.out wt (hSw); go_simp; try (with_reducible rfl))
      refine wpAnyH_take (i := 2) (v := ?_) rfl (by kernel_rfl) (by kernel_rfl) (by kernel_rfl) (fun _ _ _ h => h) (Or.inl ⟨by kernel_rfl, ?_⟩) (by assumption) ?_
      rotate_left
      · (intro wt hSw; (try dsimp only at hSw); go_simp; try (with_reducible rfl))
      refine wpAnyH_take (i := 3) (v := ?_) rfl (by kernel_rfl) (by kernel_rfl) (by kernel_rfl) (fun _ _ _ h => h) (Or.inl ⟨by kernel_rfl, ?_⟩) (by assumption) ?_
      rotate_left
      · (intro wt hSw; (try dsimp only at hSw); obtain ⟨k0, k1, k4⟩ := HK.out wt (hSw); go_simp; try (with_reducible rfl))
      refine wpAnyH_ready (rs := [4]) (by kernel_rfl) (by simp) ?_
      refine AllReadyH.cons rfl (fun K hK => ?_) AllReadyH.nil
      go_simp
      refine (C29.out _).mono ?_
      rintro e u4 ⟨v4, rfl, hF4⟩
      have GU4 : U0.grownBy u4 none := grownBy_undrew hF4.1
      have HV4 : Hid (∀ w', u4.grownBy w' none → (convert 33 9 v4).run Try.prog w' = .ok (.string sN) w') := hF4.2
      go_wp2_with fail
      refine hK.out _ _ (by exact GU4) (fun hHeld => ?_)
      clear hK K hHeld hF4
      refine wpAnyH_mono (S' := fun w' => u4.grownBy w' none) (fun w' h => grownBy_trans GU4 h) _ _ _ _ ?_
      have hHeld : (fun w' => u4.grownBy w' none) u4 := World.grownBy.refl _ _
      refine wpAnyH_take (i := 5) (v := ?_) rfl (by kernel_rfl) (by kernel_rfl) (by kernel_rfl) (fun _ _ _ h => h) (Or.inl ⟨by kernel_rfl, ?_⟩) (by assumption) ?_
      rotate_left
      · (intro wt hSw; (try dsimp only at hSw); have kc := HV4.out wt (hSw); go_simp; try (with_reducible rfl))
      refine wpAnyH_take (i := 6) (v := ?_) rfl (by kernel_rfl) (by kernel_rfl) (by kernel_rfl) (fun _ _ _ h => h) (Or.inl ⟨by kernel_rfl, ?_⟩) (by assumption) ?_
      rotate_left
      · (intro wt hSw; (try dsimp only at hSw); go_simp; try (with_reducible rfl))
      refine wpAnyH_take (i := 7) (v := ?_) rfl (by kernel_rfl) (by kernel_rfl) (by kernel_rfl) (fun _ _ _ h => h) (Or.inl ⟨by kernel_rfl, ?_⟩) (by assumption) ?_
      rotate_left
      · (intro wt hSw; (try dsimp only at hSw); go_simp; try (with_reducible rfl))
      refine wpAnyH_take (i := 8) (v := ?_) rfl (by kernel_rfl) (by kernel_rfl) (by kernel_rfl) (fun _ _ _ h => h) (Or.inl ⟨by kernel_rfl, ?_⟩) (by assumption) ?_
      rotate_left
      · (intro wt hSw; (try dsimp only at hSw); go_simp; try (with_reducible rfl))
      refine wpAnyH_take (i := 9) (v := ?_) rfl (by kernel_rfl) (by kernel_rfl) (by kernel_rfl) (fun _ _ _ h => h) (Or.inl ⟨by kernel_rfl, ?_⟩) (by assumption) ?_
      rotate_left
      · (intro wt hSw; (try dsimp only at hSw); obtain ⟨k0, k1, k4⟩ := HK.out wt (grownBy_trans GU4 hSw); go_simp; try (with_reducible rfl))
      refine wpAnyH_take (i := 12) (v := ?_) rfl (by kernel_rfl) (by kernel_rfl) (by kernel_rfl) (fun _ _ _ h => h) (Or.inl ⟨by kernel_rfl, ?_⟩) (by assumption) ?_
      rotate_left
      · (intro wt hSw; (try dsimp only at hSw); go_simp; try (with_reducible rfl))
      refine wpAnyH_take (i := 13) (v := ?_) rfl (by kernel_rfl) (by kernel_rfl) (by kernel_rfl) (fun _ _ _ h => h) (Or.inl ⟨by kernel_rfl, ?_⟩) (by assumption) ?_
      rotate_left
      · (intro wt hSw; (try dsimp only at hSw); obtain ⟨k0, k1, k4⟩ := HK.out wt (grownBy_trans GU4 hSw); go_simp; try (with_reducible rfl))
      refine wpAnyH_ready (rs := [10]) (by kernel_rfl) (by simp) ?_
      refine AllReadyH.cons rfl (fun K hK => ?_) AllReadyH.nil
      go_simp
      refine (C35.out _).mono ?_
      rintro e u10 ⟨v10, rfl, hF10⟩
      have GU10 : U0.grownBy u10 none := grownBy_trans GU4 hF10.1
      have HV10 : Hid (∀ w', u10.grownBy w' none → (convert 33 9 v10).run Try.prog w' = .ok (.string sS) w') := hF10.2
      have GB10 : u4.grownBy u10 none := hF10.1
      go_wp2_with fail
      refine hK.out _ _ (by exact hF10.1) (fun hHeld => ?_)
      clear hK K hHeld hF10
      refine wpAnyH_mono (S' := fun w' => u10.grownBy w' none) (fun w' h => grownBy_trans GB10 h) _ _ _ _ ?_
      have hHeld : (fun w' => u10.grownBy w' none) u10 := World.grownBy.refl _ _
      refine wpAnyH_take (i := 11) (v := ?_) rfl (by kernel_rfl) (by kernel_rfl) (by kernel_rfl) (fun _ _ _ h => h) (Or.inl ⟨by kernel_rfl, ?_⟩) (by assumption) ?_
      rotate_left
      · (intro wt hSw; (try dsimp only at hSw); have kc := HV10.out wt (hSw); go_simp; try (with_reducible rfl))
      refine wpAnyH_ready (rs := [14]) (by kernel_rfl) (by simp) ?_
      refine AllReadyH.cons rfl (fun K hK => ?_) AllReadyH.nil
      go_simp
      refine (C39.out _).mono ?_
      rintro e u14 ⟨v14, rfl, hF14⟩
      have GU14 : U0.grownBy u14 none := grownBy_trans GU10 hF14.1
      have HV14 : Hid (∀ w', u14.grownBy w' none → (convert 33 9 v14).run Try.prog w' = .ok (.string sS) w') := hF14.2
      have GB14 : u10.grownBy u14 none := hF14.1
      go_wp2_with fail
      refine hK.out _ _ (by exact hF14.1) (fun hHeld => ?_)
      clear hK K hHeld hF14
      refine wpAnyH_mono (S' := fun w' => u14.grownBy w' none) (fun w' h => grownBy_trans GB14 h) _ _ _ _ ?_
      have hHeld : (fun w' => u14.grownBy w' none) u14 := World.grownBy.refl _ _
      refine wpAnyH_take (i := 15) (v := ?_) rfl (by kernel_rfl) (by kernel_rfl) (by kernel_rfl) (fun _ _ _ h => h) (Or.inl ⟨by kernel_rfl, ?_⟩) (by assumption) ?_
      rotate_left
      · (intro wt hSw; (try dsimp only at hSw); have kc := HV14.out wt (hSw); go_simp; try (with_reducible rfl))
      refine wpAnyH_take (i := 16) (v := ?_) rfl (by kernel_rfl) (by kernel_rfl) (by kernel_rfl) (fun _ _ _ h => h) (Or.inl ⟨by kernel_rfl, ?_⟩) (by assumption) ?_
      rotate_left
      · (intro wt hSw; (try dsimp only at hSw); go_simp; try (with_reducible rfl))
      refine wpAnyH_take (i := 17) (v := ?_) rfl (by kernel_rfl) (by kernel_rfl) (by kernel_rfl) (fun _ _ _ h => h) (Or.inl ⟨by kernel_rfl, ?_⟩) (by assumption) ?_
      rotate_left
      · (intro wt hSw; (try dsimp only at hSw); go_simp; try (with_reducible rfl))
      refine wpAnyH_take (i := 18) (v := ?_) rfl (by kernel_rfl) (by kernel_rfl) (by kernel_rfl) (fun _ _ _ h => h) (Or.inl ⟨by kernel_rfl, ?_⟩) (by assumption) ?_
      rotate_left
      · (intro wt hSw; (try dsimp only at hSw); go_simp; try (with_reducible rfl))
      refine wpAnyH_take (i := 19) (v := ?_) rfl (by kernel_rfl) (by kernel_rfl) (by kernel_rfl) (fun _ _ _ h => h) (Or.inl ⟨by kernel_rfl, ?_⟩) (by assumption) ?_
      rotate_left
      · (intro wt hSw; (try dsimp only at hSw); go_simp; try (with_reducible rfl))
      refine wpAnyH_take (i := 22) (v := ?_) rfl (by kernel_rfl) (by kernel_rfl) (by kernel_rfl) (fun _ _ _ h => h) (Or.inl ⟨by kernel_rfl, ?_⟩) (by assumption) ?_
      rotate_left
      · (intro wt hSw; (try dsimp only at hSw); go_simp; try (with_reducible rfl))
      refine wpAnyH_ready (rs := [20]) (by kernel_rfl) (by simp) ?_
      refine AllReadyH.cons rfl (fun K hK => ?_) AllReadyH.nil
      go_simp
      refine (C45.out _).mono ?_
      rintro e u20 ⟨v20, rfl, hF20⟩
      have GU20 : U0.grownBy u20 none := grownBy_trans GU14 hF20.1
      have HV20 : Hid (∀ w', u20.grownBy w' none → (convert 33 9 v20).run Try.prog w' = .ok (.string sX) w') := hF20.2
      have GB20 : u14.grownBy u20 none := hF20.1
      go_wp2_with fail
      refine hK.out _ _ (by exact hF20.1) (fun hHeld => ?_)
      clear hK K hHeld hF20
      refine wpAnyH_mono (S' := fun w' => u20.grownBy w' none) (fun w' h => grownBy_trans GB20 h) _ _ _ _ ?_
      have hHeld : (fun w' => u20.grownBy w' none) u20 := World.grownBy.refl _ _
      refine wpAnyH_take (i := 21) (v := ?_) rfl (by kernel_rfl) (by kernel_rfl) (by kernel_rfl) (fun _ _ _ h => h) (Or.inl ⟨by kernel_rfl, ?_⟩) (by assumption) ?_
      rotate_left
      · (intro wt hSw; (try dsimp only at hSw); have kc := HV20.out wt (hSw); go_simp; try (with_reducible rfl))
      refine wpAnyH_ready (rs := [23]) (by kernel_rfl) (by simp) ?_
      refine AllReadyH.cons rfl (fun K hK => ?_) AllReadyH.nil
      go_simp
      refine (C48.out _).mono ?_
      rintro e u23 ⟨v23, rfl, hF23⟩
      have GU23 : U0.grownBy u23 none := grownBy_trans GU20 hF23.1
      have HV23 : Hid (∀ w', u23.grownBy w' none → (convert 33 9 v23).run Try.prog w' = .ok (.string sX) w') := hF23.2
      have GB23 : u20.grownBy u23 none := hF23.1
      go_wp2_with fail
      refine hK.out _ _ (by exact hF23.1) (fun hHeld => ?_)
      clear hK K hHeld hF23
      refine wpAnyH_mono (S' := fun w' => u23.grownBy w' none) (fun w' h => grownBy_trans GB23 h) _ _ _ _ ?_
      have hHeld : (fun w' => u23.grownBy w' none) u23 := World.grownBy.refl _ _
      refine wpAnyH_take (i := 24) (v := ?_) rfl (by kernel_rfl) (by kernel_rfl) (by kernel_rfl) (fun _ _ _ h => h) (Or.inl ⟨by kernel_rfl, ?_⟩) (by assumption) ?_
      rotate_left
      · (intro wt hSw; (try dsimp only at hSw); have kc := HV23.out wt (hSw); go_simp; try (with_reducible rfl))
      refine wpAnyH_take (i := 25) (v := ?_) rfl (by kernel_rfl) (by kernel_rfl) (by kernel_rfl) (fun _ _ _ h => h) (Or.inl ⟨by kernel_rfl, ?_⟩) (by assumption) ?_
      rotate_left
      · (intro wt hSw; (try dsimp only at hSw); go_simp; try (with_reducible rfl))
      refine wpAnyH_take (i := 26) (v := ?_) rfl (by kernel_rfl) (by kernel_rfl) (by kernel_rfl) (fun _ _ _ h => h) (Or.inl ⟨by kernel_rfl, ?_⟩) (by assumption) ?_
      rotate_left
      · (intro wt hSw; (try dsimp only at hSw); go_simp; try (with_reducible rfl))
      refine wpAnyH_take (i := 27) (v := ?_) rfl (by kernel_rfl) (by kernel_rfl) (by kernel_rfl) (fun _ _ _ h => h) (Or.inl ⟨by kernel_rfl, ?_⟩) (by assumption) ?_
      rotate_left
      · (intro wt hSw; (try dsimp only at hSw); go_simp; try (with_reducible rfl))
      refine wpAnyH_take (i := 28) (v := ?_) rfl (by kernel_rfl) (by kernel_rfl) (by kernel_rfl) (fun _ _ _ h => h) (Or.inl ⟨by kernel_rfl, ?_⟩) (by assumption) ?_
      rotate_left
      · (intro wt hSw; (try dsimp only at hSw); go_simp; try (with_reducible rfl))
      refine wpAnyH_take (i := 29) (v := ?_) rfl (by kernel_rfl) (by kernel_rfl) (by kernel_rfl) (fun _ _ _ h => h) (Or.inl ⟨by kernel_rfl, ?_⟩) (by assumption) ?_
      rotate_left
      · (intro wt hSw; (try dsimp only at hSw); go_simp; try (with_reducible rfl))
      refine wpAnyH_take (i := 30) (v := ?_) rfl (by kernel_rfl) (by kernel_rfl) (by kernel_rfl) (fun _ _ _ h => h) (Or.inl ⟨by kernel_rfl, ?_⟩) (by assumption) ?_
      rotate_left
      · (intro wt hSw; (try dsimp only at hSw); go_simp; try (with_reducible rfl))
      refine wpAnyH_take (i := 33) (v := ?_) rfl (by kernel_rfl) (by kernel_rfl) (by kernel_rfl) (fun _ _ _ h => h) (Or.inl ⟨by kernel_rfl, ?_⟩) (by assumption) ?_
      rotate_left
      · (intro wt hSw; (try dsimp only at hSw); go_simp; try (with_reducible rfl))
      refine wpAnyH_take (i := 36) (v := ?_) rfl (by kernel_rfl) (by kernel_rfl) (by kernel_rfl) (fun _ _ _ h => h) (Or.inl ⟨by kernel_rfl, ?_⟩) (by assumption) ?_
      rotate_left
      · (intro wt hSw; (try dsimp only at hSw); go_simp; try (with_reducible rfl))
      refine wpAnyH_ready (rs := [31]) (by kernel_rfl) (by simp) ?_
      refine AllReadyH.cons rfl (fun K hK => ?_) AllReadyH.nil
      go_simp
      refine (C56.out _).mono ?_
      rintro e u31 ⟨v31, rfl, hF31⟩
      have GU31 : U0.grownBy u31 none := grownBy_trans GU23 hF31.1
      have HV31 : Hid (∀ w', u31.grownBy w' none → (convert 33 9 v31).run Try.prog w' = .ok (.string (sX ++ sY)) w') := hF31.2
      have GB31 : u23.grownBy u31 none := hF31.1
      go_wp2_with fail
      refine hK.out _ _ (by exact hF31.1) (fun hHeld => ?_)
      clear hK K hHeld hF31
      refine wpAnyH_mono (S' := fun w' => u31.grownBy w' none) (fun w' h => grownBy_trans GB31 h) _ _ _ _ ?_
      have hHeld : (fun w' => u31.grownBy w' none) u31 := World.grownBy.refl _ _
      refine wpAnyH_take (i := 32) (v := ?_) rfl (by kernel_rfl) (by kernel_rfl) (by kernel_rfl) (fun _ _ _ h => h) (Or.inl ⟨by kernel_rfl, ?_⟩) (by assumption) ?_
      rotate_left
      · (intro wt hSw; (try dsimp only at hSw); have kc := HV31.out wt (hSw); go_simp; try (with_reducible rfl))
      refine wpAnyH_ready (rs := [34]) (by kernel_rfl) (by simp) ?_
      refine AllReadyH.cons rfl (fun K hK => ?_) AllReadyH.nil
      go_simp
      refine (C59.out _).mono ?_
      rintro e u34 ⟨v34, rfl, hF34⟩
      have GU34 : U0.grownBy u34 none := grownBy_trans GU31 hF34.1
      have HV34 : Hid (∀ w', u34.grownBy w' none → (convert 33 9 v34).run Try.prog w' = .ok (.string sX) w') := hF34.2
      have GB34 : u31.grownBy u34 none := hF34.1
      go_wp2_with fail
      refine hK.out _ _ (by exact hF34.1) (fun hHeld => ?_)
      clear hK K hHeld hF34
      refine wpAnyH_mono (S' := fun w' => u34.grownBy w' none) (fun w' h => grownBy_trans GB34 h) _ _ _ _ ?_
      have hHeld : (fun w' => u34.grownBy w' none) u34 := World.grownBy.refl _ _
      refine wpAnyH_take (i := 35) (v := ?_) rfl (by kernel_rfl) (by kernel_rfl) (by kernel_rfl) (fun _ _ _ h => h) (Or.inl ⟨by kernel_rfl, ?_⟩) (by assumption) ?_
      rotate_left
      · (intro wt hSw; (try dsimp only at hSw); have kc := HV34.out wt (hSw); go_simp; try (with_reducible rfl))
      refine wpAnyH_ready (rs := [37]) (by kernel_rfl) (by simp) ?_
      refine AllReadyH.cons rfl (fun K hK => ?_) AllReadyH.nil
      go_simp
      refine (C62.out _).mono ?_
      rintro e u37 ⟨v37, rfl, hF37⟩
      have GU37 : U0.grownBy u37 none := grownBy_trans GU34 hF37.1
      have HV37 : Hid (∀ w', u37.grownBy w' none → (convert 33 9 v37).run Try.prog w' = .ok (.string sY) w') := hF37.2
      have GB37 : u34.grownBy u37 none := hF37.1
      go_wp2_with fail
      refine hK.out _ _ (by exact hF37.1) (fun hHeld => ?_)
      clear hK K hHeld hF37
      refine wpAnyH_mono (S' := fun w' => u37.grownBy w' none) (fun w' h => grownBy_trans GB37 h) _ _ _ _ ?_
      have hHeld : (fun w' => u37.grownBy w' none) u37 := World.grownBy.refl _ _
      refine wpAnyH_take (i := 38) (v := ?_) rfl (by kernel_rfl) (by kernel_rfl) (by kernel_rfl) (fun _ _ _ h => h) (Or.inl ⟨by kernel_rfl, ?_⟩) (by assumption) ?_
      rotate_left
      · (intro wt hSw; (try dsimp only at hSw); have kc := HV37.out wt (hSw); go_simp; try (with_reducible rfl))
      refine wpAnyH_take (i := 39) (v := ?_) rfl (by kernel_rfl) (by kernel_rfl) (by kernel_rfl) (fun _ _ _ h => h) (Or.inl ⟨by kernel_rfl, ?_⟩) (by assumption) ?_
      rotate_left
      · (intro wt hSw; (try dsimp only at hSw); skip; go_simp; (rw [if_neg HNZ.out]))
      refine wpAnyH_take (i := 40) (v := ?_) rfl (by kernel_rfl) (by kernel_rfl) (by kernel_rfl) (fun _ _ _ h => h) (Or.inl ⟨by kernel_rfl, ?_⟩) (by assumption) ?_
      rotate_left
      · (intro wt hSw; (try dsimp only at hSw); go_simp; try (with_reducible rfl))
      refine wpAnyH_take (i := 41) (v := ?_) rfl (by kernel_rfl) (by kernel_rfl) (by kernel_rfl) (fun _ _ _ h => h) (Or.inl ⟨by kernel_rfl, ?_⟩) (by assumption) ?_
      rotate_left
      · (intro wt hSw; (try dsimp only at hSw); go_simp; try (with_reducible rfl))
      refine wpAnyH_take (i := 42) (v := ?_) rfl (by kernel_rfl) (by kernel_rfl) (by kernel_rfl) (fun _ _ _ h => h) (Or.inl ⟨by kernel_rfl, ?_⟩) (by assumption) ?_
      rotate_left
      · (intro wt hSw; (try dsimp only at hSw); go_simp; try (with_reducible rfl))
      refine wpAnyH_take (i := 43) (v := ?_) rfl (by kernel_rfl) (by kernel_rfl) (by kernel_rfl) (fun _ _ _ h => h) (Or.inl ⟨by kernel_rfl, ?_⟩) (by assumption) ?_
      rotate_left
      · (intro wt hSw; (try dsimp only at hSw); go_simp; try (with_reducible rfl))
      refine wpAnyH_take (i := 44) (v := ?_) rfl (by kernel_rfl) (by kernel_rfl) (by kernel_rfl) (fun _ _ _ h => h) (Or.inl ⟨by kernel_rfl, ?_⟩) (by assumption) ?_
      rotate_left
      · (intro wt hSw; (try dsimp only at hSw); obtain ⟨k0, k1, k4⟩ := HK.out wt (grownBy_trans GU37 hSw); go_simp; try (with_reducible rfl))
      refine wpAnyH_take (i := 47) (v := ?_) rfl (by kernel_rfl) (by kernel_rfl) (by kernel_rfl) (fun _ _ _ h => h) (Or.inl ⟨by kernel_rfl, ?_⟩) (by assumption) ?_
      rotate_left
      · (intro wt hSw; (try dsimp only at hSw); go_simp; try (with_reducible rfl))
      refine wpAnyH_take (i := 48) (v := ?_) rfl (by kernel_rfl) (by kernel_rfl) (by kernel_rfl) (fun _ _ _ h => h) (Or.inl ⟨by kernel_rfl, ?_⟩) (by assumption) ?_
      rotate_left
      · (intro wt hSw; (try dsimp only at hSw); obtain ⟨k0, k1, k4⟩ := HK.out wt (grownBy_trans GU37 hSw); go_simp; try (with_reducible rfl))
      refine wpAnyH_ready (rs := [45]) (by kernel_rfl) (by simp) ?_
      refine AllReadyH.cons rfl (fun K hK => ?_) AllReadyH.nil
      go_simp
      refine (C70.out _).mono ?_
      rintro e u45 ⟨v45, rfl, hF45⟩
      have GU45 : U0.grownBy u45 none := grownBy_trans GU37 hF45.1
      have HV45 : Hid (∀ w', u45.grownBy w' none → (convert 33 9 v45).run Try.prog w' = .ok (.string sT) w') := hF45.2
      have GB45 : u37.grownBy u45 none := hF45.1
      go_wp2_with fail
      refine hK.out _ _ (by exact hF45.1) (fun hHeld => ?_)
      clear hK K hHeld hF45
      refine wpAnyH_mono (S' := fun w' => u45.grownBy w' none) (fun w' h => grownBy_trans GB45 h) _ _ _ _ ?_
      have hHeld : (fun w' => u45.grownBy w' none) u45 := World.grownBy.refl _ _
      refine wpAnyH_take (i := 46) (v := ?_) rfl (by kernel_rfl) (by kernel_rfl) (by kernel_rfl) (fun _ _ _ h => h) (Or.inl ⟨by kernel_rfl, ?_⟩) (by assumption) ?_
      rotate_left
      · (intro wt hSw; (try dsimp only at hSw); have kc := HV45.out wt (hSw); go_simp; try (with_reducible rfl))
      refine wpAnyH_ready (rs := [49]) (by kernel_rfl) (by simp) ?_
      refine AllReadyH.cons rfl (fun K hK => ?_) AllReadyH.nil
      go_simp
      refine (C74.out _).mono ?_
      rintro e u49 ⟨v49, rfl, hF49⟩
      have GU49 : U0.grownBy u49 none := grownBy_trans GU45 hF49.1
      have HV49 : Hid (∀ w', u49.grownBy w' none → (convert 33 9 v49).run Try.prog w' = .ok (.string sT) w') := hF49.2
      have GB49 : u45.grownBy u49 none := hF49.1
      go_wp2_with fail
      refine hK.out _ _ (by exact hF49.1) (fun hHeld => ?_)
      clear hK K hHeld hF49
      refine wpAnyH_mono (S' := fun w' => u49.grownBy w' none) (fun w' h => grownBy_trans GB49 h) _ _ _ _ ?_
      have hHeld : (fun w' => u49.grownBy w' none) u49 := World.grownBy.refl _ _
      refine wpAnyH_take (i := 50) (v := ?_) rfl (by kernel_rfl) (by kernel_rfl) (by kernel_rfl) (fun _ _ _ h => h) (Or.inl ⟨by kernel_rfl, ?_⟩) (by assumption) ?_
      rotate_left
      · (intro wt hSw; (try dsimp only at hSw); have kc := HV49.out wt (hSw); go_simp; try (with_reducible rfl))
      refine wpAnyH_take (i := 51) (v := ?_) rfl (by kernel_rfl) (by kernel_rfl) (by kernel_rfl) (fun _ _ _ h => h) (Or.inl ⟨by kernel_rfl, ?_⟩) (by assumption) ?_
      rotate_left
      · (intro wt hSw; (try dsimp only at hSw); go_simp; try (with_reducible rfl))
      refine wpAnyH_take (i := 52) (v := ?_) rfl (by kernel_rfl) (by kernel_rfl) (by kernel_rfl) (fun _ _ _ h => h) (Or.inl ⟨by kernel_rfl, ?_⟩) (by assumption) ?_
      rotate_left
      · (intro wt hSw; (try dsimp only at hSw); go_simp; try (with_reducible rfl))
      refine wpAnyH_done (by kernel_rfl) ?_ _
      simp only [Act.put, List.getElem_toArray, List.getElem_cons_succ, List.getElem_cons_zero, List.setIfInBounds_toArray, List.set_cons_zero, List.set_cons_succ]
      go_wp2_with fail
      go_meet
      exact ⟨rfl, GU49⟩
    case rest =>
      obtain ⟨rfl, hG3⟩ := hcut
      have hn1 := (numF_len N).1
      obtain ⟨FA, FB⟩ := HFF.out
      rw [hU] at FB
      obtain ⟨g5, c5, rfl, hg51, hg52, _, _⟩ := len_own5 FA.1 (by omega)
      have O5 : wc.ownsRow Ub.heap.size 5 1 (.slice (some ⟨g5, 0, none⟩) (numF N).length c5) (numF N).length ((numF N).map encB) := Src.kept (Src.kept FA.1 FB.2 (by intro g _ e; cases e)) hG3 (by intro g _ e; cases e)
      have O6 : wc.ownsRow wA.heap.size 5 1 u6 (numF N).length ((numF N).map encB) := Src.kept FB.1 hG3 (by intro g _ e; cases e)
      have hwb := HW1.out.size
      have hn2 := (numF_len N).2
      have HSP : Hid (Calls Try.prog 19 #[.slice (some ⟨g5, 0, none⟩) (numF N).length c5] wc fun e w' => e = .returned (.tuple #[]) ∧ wc.grownBy w' (some g5)) := spoil_any g5 c5 (numF N) Ub wc O5 (by omega)
      have HBW : Hid (Ub.grownBy wc none) := grownBy_trans FA.2 (grownBy_trans FB.2 hG3)
      have HO6 : Hid (∀ w', wc.grownBy w' (some g5) → Src w' u6 (numF N)) := fun w' hg => src_own (Src.kept O6 hg (fun x hx e => by cases e; have := (O6.lt _ hx).1; omega))
      clear O5 O6 FA FB HCA HK
      go_wp2_with fail
      refine HSP.out.mono ?_
      rintro e w4 ⟨rfl, hG4⟩
      have HG4 : Hid (Ub.grownBy w4 none) := grownBy_new HBW.out hg51 hG4
      have HS6 : Hid (Src w4 u6 (numF N)) := HO6.out w4 hG4
      clear HO6 hG4 HSP
      have HKC : Hid (∀ w', Ub.grownBy w' none → w'.cell? ⟨w.heap.size, 0, none⟩ = some (.int .u64 N) ∧ w'.cell? ⟨w.heap.size, 5, none⟩ = some (.bool a.1) ∧ w'.cell? ⟨w.heap.size, 6, none⟩ = some (.string a.2) ∧ w'.cell? ⟨w.heap.size, 7, none⟩ = some (.bool b.1) ∧ w'.cell? ⟨w.heap.size, 8, none⟩ = some (.string b.2) ∧ w'.cell? ⟨w.heap.size, 9, none⟩ = some (.bool c.1) ∧ w'.cell? ⟨w.heap.size, 10, none⟩ = some (.string c.2) ∧ w'.cell? ⟨w.heap.size, 11, none⟩ = some (.bool d.1) ∧ w'.cell? ⟨w.heap.size, 12, none⟩ = some (.string d.2)) := fun w' hg => by
        have h := HBK.out w' hg
        refine ⟨?_, ?_, ?_, ?_, ?_, ?_, ?_, ?_, ?_⟩ <;> simp [World.cell?, h]
      obtain ⟨_, k5, k6, _⟩ := HKC.out w4 HG4.out
      go_wp2_with fail
      refine (P20.out _).mono ?_
      rintro e w5 ⟨v7, E8, rfl, hG5, T7⟩
      have HG5 : Hid (Ub.grownBy w5 none) := grownBy_trans HG4.out hG5
      have HT7 : Hid (TW w5 v7 E8 pw LW) := T7
      have HS65 : Hid (Src w5 u6 (numF N)) := HS6.out.far hG5
      clear k5 k6 hG5 T7 HS6 HG4
      obtain ⟨_, k5, k6, k7, k8, _⟩ := HKC.out w5 HG5.out
      go_wp2_with fail
      refine (P21.out _).mono ?_
      rintro e w6 ⟨v9, E10, rfl, hG6, T9⟩
      have HG6 : Hid (Ub.grownBy w6 none) := grownBy_trans HG5.out hG6
      have HT76 : Hid (TW w6 v7 E8 pw LW) := HT7.out.far hG6
      have HT9 : Hid (TW w6 v9 E10 pf LF) := T9
      have HS66 : Hid (Src w6 u6 (numF N)) := HS65.out.far hG6
      clear k5 k6 k7 k8 hG6 T9 HS65 HG5 HT7
      obtain ⟨_, k5, k6, k7, k8, k9, k10, k11, k12⟩ := HKC.out w6 HG6.out
      go_wp2_with fail
      refine (P22.out _).mono ?_
      rintro e w7 ⟨v11, E12, rfl, hG7, TT11⟩
      have HG7 : Hid (Ub.grownBy w7 none) := grownBy_trans HG6.out hG7
      have T7 : Hid (TW w7 v7 E8 pw LW) := HT76.out.far hG7
      have T9 : Hid (TW w7 v9 E10 pf LF) := HT9.out.far hG7
      have T11 : Hid (TW w7 v11 E12 pg LG) := TT11
      have HS67 : Hid (Src w7 u6 (numF N)) := HS66.out.far hG7
      clear k5 k6 k7 k8 k9 k10 k11 k12 hG7 TT11 HS66 HG6 HT76 HT9
      obtain ⟨U1, hU1⟩ : ∃ U1, w7 = U1 := ⟨_, rfl⟩
      rw [hU1] at HG7 T7 T9 T11 HS67 ⊢
      clear hU1
      have HK9 : Hid (∀ w', U1.grownBy w' none → w'.cell? ⟨w.heap.size, 0, none⟩ = some (.int .u64 N) ∧ w'.cell? ⟨w.heap.size, 5, none⟩ = some (.bool a.1) ∧ w'.cell? ⟨w.heap.size, 6, none⟩ = some (.string a.2) ∧ w'.cell? ⟨w.heap.size, 7, none⟩ = some (.bool b.1) ∧ w'.cell? ⟨w.heap.size, 8, none⟩ = some (.string b.2) ∧ w'.cell? ⟨w.heap.size, 9, none⟩ = some (.bool c.1) ∧ w'.cell? ⟨w.heap.size, 10, none⟩ = some (.string c.2) ∧ w'.cell? ⟨w.heap.size, 11, none⟩ = some (.bool d.1) ∧ w'.cell? ⟨w.heap.size, 12, none⟩ = some (.string d.2)) := fun w' hg => HKC.out w' (grownBy_trans HG7.out hg)
      have HCB : Hid (∀ w', U1.grownBy w' none → (convert 33 9 u6).run Try.prog w' = .ok (.string sN) w') := fun w' hg => by
        rw [← hnS]
        exact conv_src (HS67.out.far hg)
      go_wp2_with fail
      refine wp_region_held_drew (S := fun w' => U1.grownBy w' none) (by kernel_rfl) (grownBy_drewN (World.grownBy.refl _ _) 1) (fun hHeld => ?_)
      refine wpAnyH_take (i := 0) (v := ?_) rfl (by kernel_rfl) (by kernel_rfl) (by kernel_rfl) (fun _ _ _ h => h) (Or.inl ⟨by kernel_rfl, ?_⟩) (by assumption) ?_
      rotate_left
      · (intro wt hSw; (try dsimp only at hSw); go_simp; try (with_reducible rfl))
      refine wpAnyH_take (i := 1) (v := ?_) rfl (by kernel_rfl) (by kernel_rfl) (by kernel_rfl) (fun _ _ _ h => h) (Or.inl ⟨by kernel_rfl, ?_⟩) (by assumption) ?_
      rotate_left
      · (intro wt hSw; (try dsimp only at hSw); have kc := HCB.out wt (hSw); go_simp; try (with_reducible rfl))
      refine wpAnyH_take (i := 2) (v := ?_) rfl (by kernel_rfl) (by kernel_rfl) (by kernel_rfl) (fun _ _ _ h => h) (Or.inl ⟨by kernel_rfl, ?_⟩) (by assumption) ?_
      rotate_left
      · (intro wt hSw; (try dsimp only at hSw); go_simp; try (with_reducible rfl))
      refine wpAnyH_take (i := 3) (v := ?_) rfl (by kernel_rfl) (by kernel_rfl) (by kernel_rfl) (fun _ _ _ h => h) (Or.inl ⟨by kernel_rfl, ?_⟩) (by assumption) ?_
      rotate_left
      · (intro wt hSw; (try dsimp only at hSw); obtain ⟨k0, k5, k6, k7, k8, k9, k10, k11, k12⟩ := HK9.out wt (hSw); go_simp; try (with_reducible rfl))
      refine wpAnyH_ready (rs := [4]) (by kernel_rfl) (by simp) ?_
      refine AllReadyH.cons rfl (fun K hK => ?_) AllReadyH.nil
      go_simp
      refine (C29.out _).mono ?_
      rintro e u4 ⟨v4, rfl, hF4⟩
      have GU4 : U1.grownBy u4 none := grownBy_undrew hF4.1
      have HV4 : Hid (∀ w', u4.grownBy w' none → (convert 33 9 v4).run Try.prog w' = .ok (.string sN) w') := hF4.2
      go_wp2_with fail
      refine hK.out _ _ (by exact GU4) (fun hHeld => ?_)
      clear hK K hHeld hF4
      refine wpAnyH_mono (S' := fun w' => u4.grownBy w' none) (fun w' h => grownBy_trans GU4 h) _ _ _ _ ?_
      have hHeld : (fun w' => u4.grownBy w' none) u4 := World.grownBy.refl _ _
      refine wpAnyH_take (i := 5) (v := ?_) rfl (by kernel_rfl) (by kernel_rfl) (by kernel_rfl) (fun _ _ _ h => h) (Or.inl ⟨by kernel_rfl, ?_⟩) (by assumption) ?_
      rotate_left
      · (intro wt hSw; (try dsimp only at hSw); have kc := HV4.out wt (hSw); go_simp; try (with_reducible rfl))
      refine wpAnyH_take (i := 6) (v := ?_) rfl (by kernel_rfl) (by kernel_rfl) (by kernel_rfl) (fun _ _ _ h => h) (Or.inl ⟨by kernel_rfl, ?_⟩) (by assumption) ?_
      rotate_left
      · (intro wt hSw; (try dsimp only at hSw); go_simp; try (with_reducible rfl))
      refine wpAnyH_take (i := 7) (v := ?_) rfl (by kernel_rfl) (by kernel_rfl) (by kernel_rfl) (fun _ _ _ h => h) (Or.inl ⟨by kernel_rfl, ?_⟩) (by assumption) ?_
      rotate_left
      · (intro wt hSw; (try dsimp only at hSw); go_simp; try (with_reducible rfl))
      refine wpAnyH_take (i := 8) (v := ?_) rfl (by kernel_rfl) (by kernel_rfl) (by kernel_rfl) (fun _ _ _ h => h) (Or.inl ⟨by kernel_rfl, ?_⟩) (by assumption) ?_
      rotate_left
      · (intro wt hSw; (try dsimp only at hSw); go_simp; try (with_reducible rfl))
      refine wpAnyH_take (i := 9) (v := ?_) rfl (by kernel_rfl) (by kernel_rfl) (by kernel_rfl) (fun _ _ _ h => h) (Or.inl ⟨by kernel_rfl, ?_⟩) (by assumption) ?_
      rotate_left
      · (intro wt hSw; (try dsimp only at hSw); go_simp; try (with_reducible rfl))
      refine wpAnyH_take (i := 10) (v := ?_) rfl (by kernel_rfl) (by kernel_rfl) (by kernel_rfl) (fun _ _ _ h => h) (Or.inl ⟨by kernel_rfl, ?_⟩) (by assumption) ?_
      rotate_left
      · (intro wt hSw; (try dsimp only at hSw); go_simp; try (with_reducible rfl))
      refine wpAnyH_take (i := 11) (v := ?_) rfl (by kernel_rfl) (by kernel_rfl) (by kernel_rfl) (fun _ _ _ h => h) (Or.inl ⟨by kernel_rfl, ?_⟩) (by assumption) ?_
      rotate_left
      · (intro wt hSw; (try dsimp only at hSw); go_simp; try (with_reducible rfl))
      refine wpAnyH_take (i := 12) (v := ?_) rfl (by kernel_rfl) (by kernel_rfl) (by kernel_rfl) (fun _ _ _ h => h) (Or.inl ⟨by kernel_rfl, ?_⟩) (by assumption) ?_
      rotate_left
      · (intro wt hSw; (try dsimp only at hSw); go_simp; try (with_reducible rfl))
      refine wpAnyH_take (i := 13) (v := ?_) rfl (by kernel_rfl) (by kernel_rfl) (by kernel_rfl) (fun _ _ _ h => h) (Or.inl ⟨by kernel_rfl, ?_⟩) (by assumption) ?_
      rotate_left
      · (intro wt hSw; (try dsimp only at hSw); obtain ⟨k0, k5, k6, k7, k8, k9, k10, k11, k12⟩ := HK9.out wt (grownBy_trans GU4 hSw); go_simp; try (with_reducible rfl))
      refine wpAnyH_take (i := 15) (v := ?_) rfl (by kernel_rfl) (by kernel_rfl) (by kernel_rfl) (fun _ _ _ h => h) (Or.inl ⟨by kernel_rfl, ?_⟩) (by assumption) ?_
      rotate_left
      · (intro wt hSw; (try dsimp only at hSw); go_simp; try (with_reducible rfl))
      refine wpAnyH_take (i := 16) (v := ?_) rfl (by kernel_rfl) (by kernel_rfl) (by kernel_rfl) (fun _ _ _ h => h) (Or.inl ⟨by kernel_rfl, ?_⟩) (by assumption) ?_
      rotate_left
      · (intro wt hSw; (try dsimp only at hSw); go_simp; try (with_reducible rfl))
      refine wpAnyH_take (i := 17) (v := ?_) rfl (by kernel_rfl) (by kernel_rfl) (by kernel_rfl) (fun _ _ _ h => h) (Or.inl ⟨by kernel_rfl, ?_⟩) (by assumption) ?_
      rotate_left
      · (intro wt hSw; (try dsimp only at hSw); go_simp; try (with_reducible rfl))
      refine wpAnyH_take (i := 18) (v := ?_) rfl (by kernel_rfl) (by kernel_rfl) (by kernel_rfl) (fun _ _ _ h => h) (Or.inl ⟨by kernel_rfl, ?_⟩) (by assumption) ?_
      rotate_left
      · (intro wt hSw; (try dsimp only at hSw); obtain ⟨k0, k5, k6, k7, k8, k9, k10, k11, k12⟩ := HK9.out wt (grownBy_trans GU4 hSw); go_simp; try (with_reducible rfl))
      refine wpAnyH_ready (rs := [14]) (by kernel_rfl) (by simp) ?_
      refine AllReadyH.cons rfl (fun K hK => ?_) AllReadyH.nil
      go_simp
      refine (P24.out _).mono ?_
      rintro e u14 ⟨rfl, hF14⟩
      have GU14 : U1.grownBy u14 none := grownBy_trans GU4 hF14
      have GB14 : u4.grownBy u14 none := hF14
      go_wp2_with fail
      refine hK.out _ _ (by exact hF14) (fun hHeld => ?_)
      clear hK K hHeld hF14
      refine wpAnyH_mono (S' := fun w' => u14.grownBy w' none) (fun w' h => grownBy_trans GB14 h) _ _ _ _ ?_
      have hHeld : (fun w' => u14.grownBy w' none) u14 := World.grownBy.refl _ _
      refine wpAnyH_ready (rs := [19]) (by kernel_rfl) (by simp) ?_
      refine AllReadyH.cons rfl (fun K hK => ?_) AllReadyH.nil
      go_simp
      refine (P25.out _).mono ?_
      rintro e u19 ⟨v19, rfl, hF19, hT19⟩
      have GU19 : U1.grownBy u19 none := grownBy_trans GU14 hF19
      have GB19 : u14.grownBy u19 none := hF19
      have HT19 : Hid (∀ w', u19.grownBy w' none → Src w' v19 LW) := hT19
      go_wp2_with fail
      refine hK.out _ _ (by exact hF19) (fun hHeld => ?_)
      clear hK K hHeld hF19 hT19
      refine wpAnyH_mono (S' := fun w' => u19.grownBy w' none) (fun w' h => grownBy_trans GB19 h) _ _ _ _ ?_
      have hHeld : (fun w' => u19.grownBy w' none) u19 := World.grownBy.refl _ _
      refine wpAnyH_ready (rs := [20]) (by kernel_rfl) (by simp) ?_
      refine AllReadyH.cons rfl (fun K hK => ?_) AllReadyH.nil
      go_simp
      refine (told_tw T7.out GU19 (HT19.out u19 (World.grownBy.refl _ _))).mono ?_
      rintro e u20 ⟨rfl, hF20⟩
      have GU20 : U1.grownBy u20 none := grownBy_trans GU19 hF20
      have GB20 : u19.grownBy u20 none := hF20
      go_wp2_with fail
      refine hK.out _ _ (by exact hF20) (fun hHeld => ?_)
      clear hK K hHeld hF20
      refine wpAnyH_mono (S' := fun w' => u20.grownBy w' none) (fun w' h => grownBy_trans GB20 h) _ _ _ _ ?_
      have hHeld : (fun w' => u20.grownBy w' none) u20 := World.grownBy.refl _ _
      refine wpAnyH_take (i := 21) (v := ?_) rfl (by kernel_rfl) (by kernel_rfl) (by kernel_rfl) (fun _ _ _ h => h) (Or.inl ⟨by kernel_rfl, ?_⟩) (by assumption) ?_
      rotate_left
      · (intro wt hSw; (try dsimp only at hSw); go_simp; try (with_reducible rfl))
      refine wpAnyH_take (i := 22) (v := ?_) rfl (by kernel_rfl) (by kernel_rfl) (by kernel_rfl) (fun _ _ _ h => h) (Or.inl ⟨by kernel_rfl, ?_⟩) (by assumption) ?_
      rotate_left
      · (intro wt hSw; (try dsimp only at hSw); go_simp; try (with_reducible rfl))
      refine wpAnyH_take (i := 23) (v := ?_) rfl (by kernel_rfl) (by kernel_rfl) (by kernel_rfl) (fun _ _ _ h => h) (Or.inl ⟨by kernel_rfl, ?_⟩) (by assumption) ?_
      rotate_left
      · (intro wt hSw; (try dsimp only at hSw); go_simp; try (with_reducible rfl))
      refine wpAnyH_take (i := 24) (v := ?_) rfl (by kernel_rfl) (by kernel_rfl) (by kernel_rfl) (fun _ _ _ h => h) (Or.inl ⟨by kernel_rfl, ?_⟩) (by assumption) ?_
      rotate_left
      · (intro wt hSw; (try dsimp only at hSw); go_simp; try (with_reducible rfl))
      refine wpAnyH_take (i := 25) (v := ?_) rfl (by kernel_rfl) (by kernel_rfl) (by kernel_rfl) (fun _ _ _ h => h) (Or.inl ⟨by kernel_rfl, ?_⟩) (by assumption) ?_
      rotate_left
      · (intro wt hSw; (try dsimp only at hSw); go_simp; try (with_reducible rfl))
      refine wpAnyH_take (i := 26) (v := ?_) rfl (by kernel_rfl) (by kernel_rfl) (by kernel_rfl) (fun _ _ _ h => h) (Or.inl ⟨by kernel_rfl, ?_⟩) (by assumption) ?_
      rotate_left
      · (intro wt hSw; (try dsimp only at hSw); go_simp; try (with_reducible rfl))
      refine wpAnyH_take (i := 27) (v := ?_) rfl (by kernel_rfl) (by kernel_rfl) (by kernel_rfl) (fun _ _ _ h => h) (Or.inl ⟨by kernel_rfl, ?_⟩) (by assumption) ?_
      rotate_left
      · (intro wt hSw; (try dsimp only at hSw); obtain ⟨k0, k5, k6, k7, k8, k9, k10, k11, k12⟩ := HK9.out wt (grownBy_trans GU20 hSw); go_simp; try (with_reducible rfl))
      refine wpAnyH_take (i := 29) (v := ?_) rfl (by kernel_rfl) (by kernel_rfl) (by kernel_rfl) (fun _ _ _ h => h) (Or.inl ⟨by kernel_rfl, ?_⟩) (by assumption) ?_
      rotate_left
      · (intro wt hSw; (try dsimp only at hSw); go_simp; try (with_reducible rfl))
      refine wpAnyH_take (i := 30) (v := ?_) rfl (by kernel_rfl) (by kernel_rfl) (by kernel_rfl) (fun _ _ _ h => h) (Or.inl ⟨by kernel_rfl, ?_⟩) (by assumption) ?_
      rotate_left
      · (intro wt hSw; (try dsimp only at hSw); go_simp; try (with_reducible rfl))
      refine wpAnyH_take (i := 31) (v := ?_) rfl (by kernel_rfl) (by kernel_rfl) (by kernel_rfl) (fun _ _ _ h => h) (Or.inl ⟨by kernel_rfl, ?_⟩) (by assumption) ?_
      rotate_left
      · (intro wt hSw; (try dsimp only at hSw); obtain ⟨k0, k5, k6, k7, k8, k9, k10, k11, k12⟩ := HK9.out wt (grownBy_trans GU20 hSw); go_simp; try (with_reducible rfl))
      refine wpAnyH_ready (rs := [28]) (by kernel_rfl) (by simp) ?_
      refine AllReadyH.cons rfl (fun K hK => ?_) AllReadyH.nil
      go_simp
      refine (P26.out _).mono ?_
      rintro e u28 ⟨rfl, hF28⟩
      have GU28 : U1.grownBy u28 none := grownBy_trans GU20 hF28
      have GB28 : u20.grownBy u28 none := hF28
      go_wp2_with fail
      refine hK.out _ _ (by exact hF28) (fun hHeld => ?_)
      clear hK K hHeld hF28
      refine wpAnyH_mono (S' := fun w' => u28.grownBy w' none) (fun w' h => grownBy_trans GB28 h) _ _ _ _ ?_
      have hHeld : (fun w' => u28.grownBy w' none) u28 := World.grownBy.refl _ _
      refine wpAnyH_ready (rs := [32]) (by kernel_rfl) (by simp) ?_
      refine AllReadyH.cons rfl (fun K hK => ?_) AllReadyH.nil
      go_simp
      refine (P27.out _).mono ?_
      rintro e u32 ⟨v32, rfl, hF32, hT32⟩
      have GU32 : U1.grownBy u32 none := grownBy_trans GU28 hF32
      have GB32 : u28.grownBy u32 none := hF32
      have HT32 : Hid (∀ w', u32.grownBy w' none → Src w' v32 LF) := hT32
      go_wp2_with fail
      refine hK.out _ _ (by exact hF32) (fun hHeld => ?_)
      clear hK K hHeld hF32 hT32
      refine wpAnyH_mono (S' := fun w' => u32.grownBy w' none) (fun w' h => grownBy_trans GB32 h) _ _ _ _ ?_
      have hHeld : (fun w' => u32.grownBy w' none) u32 := World.grownBy.refl _ _
      refine wpAnyH_ready (rs := [33]) (by kernel_rfl) (by simp) ?_
      refine AllReadyH.cons rfl (fun K hK => ?_) AllReadyH.nil
      go_simp
      refine (told_tw T9.out GU32 (HT32.out u32 (World.grownBy.refl _ _))).mono ?_
      rintro e u33 ⟨rfl, hF33⟩
      have GU33 : U1.grownBy u33 none := grownBy_trans GU32 hF33
      have GB33 : u32.grownBy u33 none := hF33
      go_wp2_with fail
      refine hK.out _ _ (by exact hF33) (fun hHeld => ?_)
      clear hK K hHeld hF33
      refine wpAnyH_mono (S' := fun w' => u33.grownBy w' none) (fun w' h => grownBy_trans GB33 h) _ _ _ _ ?_
      have hHeld : (fun w' => u33.grownBy w' none) u33 := World.grownBy.refl _ _
      refine wpAnyH_take (i := 34) (v := ?_) rfl (by kernel_rfl) (by kernel_rfl) (by kernel_rfl) (fun _ _ _ h => h) (Or.inl ⟨by kernel_rfl, ?_⟩) (by assumption) ?_
      rotate_left
      · (intro wt hSw; (try dsimp only at hSw); go_simp; try (with_reducible rfl))
      refine wpAnyH_take (i := 35) (v := ?_) rfl (by kernel_rfl) (by kernel_rfl) (by kernel_rfl) (fun _ _ _ h => h) (Or.inl ⟨by kernel_rfl, ?_⟩) (by assumption) ?_
      rotate_left
      · (intro wt hSw; (try dsimp only at hSw); go_simp; try (with_reducible rfl))
      refine wpAnyH_take (i := 36) (v := ?_) rfl (by kernel_rfl) (by kernel_rfl) (by kernel_rfl) (fun _ _ _ h => h) (Or.inl ⟨by kernel_rfl, ?_⟩) (by assumption) ?_
      rotate_left
      · (intro wt hSw; (try dsimp only at hSw); go_simp; try (with_reducible rfl))
      refine wpAnyH_take (i := 37) (v := ?_) rfl (by kernel_rfl) (by kernel_rfl) (by kernel_rfl) (fun _ _ _ h => h) (Or.inl ⟨by kernel_rfl, ?_⟩) (by assumption) ?_
      rotate_left
      · (intro wt hSw; (try dsimp only at hSw); go_simp; try (with_reducible rfl))
      refine wpAnyH_take (i := 38) (v := ?_) rfl (by kernel_rfl) (by kernel_rfl) (by kernel_rfl) (fun _ _ _ h => h) (Or.inl ⟨by kernel_rfl, ?_⟩) (by assumption) ?_
      rotate_left
      · (intro wt hSw; (try dsimp only at hSw); go_simp; try (with_reducible rfl))
      refine wpAnyH_take (i := 39) (v := ?_) rfl (by kernel_rfl) (by kernel_rfl) (by kernel_rfl) (fun _ _ _ h => h) (Or.inl ⟨by kernel_rfl, ?_⟩) (by assumption) ?_
      rotate_left
      · (intro wt hSw; (try dsimp only at hSw); obtain ⟨k0, k5, k6, k7, k8, k9, k10, k11, k12⟩ := HK9.out wt (grownBy_trans GU33 hSw); go_simp; try (with_reducible rfl))
      refine wpAnyH_take (i := 41) (v := ?_) rfl (by kernel_rfl) (by kernel_rfl) (by kernel_rfl) (fun _ _ _ h => h) (Or.inl ⟨by kernel_rfl, ?_⟩) (by assumption) ?_
      rotate_left
      · (intro wt hSw; (try dsimp only at hSw); go_simp; try (with_reducible rfl))
      refine wpAnyH_take (i := 42) (v := ?_) rfl (by kernel_rfl) (by kernel_rfl) (by kernel_rfl) (fun _ _ _ h => h) (Or.inl ⟨by kernel_rfl, ?_⟩) (by assumption) ?_
      rotate_left
      · (intro wt hSw; (try dsimp only at hSw); obtain ⟨k0, k5, k6, k7, k8, k9, k10, k11, k12⟩ := HK9.out wt (grownBy_trans GU33 hSw); go_simp; try (with_reducible rfl))
      refine wpAnyH_ready (rs := [40]) (by kernel_rfl) (by simp) ?_
      refine AllReadyH.cons rfl (fun K hK => ?_) AllReadyH.nil
      go_simp
      refine (P28.out _).mono ?_
      rintro e u40 ⟨rfl, hF40⟩
      have GU40 : U1.grownBy u40 none := grownBy_trans GU33 hF40
      have GB40 : u33.grownBy u40 none := hF40
      go_wp2_with fail
      refine hK.out _ _ (by exact hF40) (fun hHeld => ?_)
      clear hK K hHeld hF40
      refine wpAnyH_mono (S' := fun w' => u40.grownBy w' none) (fun w' h => grownBy_trans GB40 h) _ _ _ _ ?_
      have hHeld : (fun w' => u40.grownBy w' none) u40 := World.grownBy.refl _ _
      refine wpAnyH_ready (rs := [43]) (by kernel_rfl) (by simp) ?_
      refine AllReadyH.cons rfl (fun K hK => ?_) AllReadyH.nil
      go_simp
      refine (P29.out _).mono ?_
      rintro e u43 ⟨v43, rfl, hF43, hT43⟩
      have GU43 : U1.grownBy u43 none := grownBy_trans GU40 hF43
      have GB43 : u40.grownBy u43 none := hF43
      have HT43 : Hid (∀ w', u43.grownBy w' none → Src w' v43 LG) := hT43
      go_wp2_with fail
      refine hK.out _ _ (by exact hF43) (fun hHeld => ?_)
      clear hK K hHeld hF43 hT43
      refine wpAnyH_mono (S' := fun w' => u43.grownBy w' none) (fun w' h => grownBy_trans GB43 h) _ _ _ _ ?_
      have hHeld : (fun w' => u43.grownBy w' none) u43 := World.grownBy.refl _ _
      refine wpAnyH_ready (rs := [44]) (by kernel_rfl) (by simp) ?_
      refine AllReadyH.cons rfl (fun K hK => ?_) AllReadyH.nil
      go_simp
      refine (told_tw T11.out GU43 (HT43.out u43 (World.grownBy.refl _ _))).mono ?_
      rintro e u44 ⟨rfl, hF44⟩
      have GU44 : U1.grownBy u44 none := grownBy_trans GU43 hF44
      have GB44 : u43.grownBy u44 none := hF44
      go_wp2_with fail
      refine hK.out _ _ (by exact hF44) (fun hHeld => ?_)
      clear hK K hHeld hF44
      refine wpAnyH_mono (S' := fun w' => u44.grownBy w' none) (fun w' h => grownBy_trans GB44 h) _ _ _ _ ?_
      have hHeld : (fun w' => u44.grownBy w' none) u44 := World.grownBy.refl _ _
      refine wpAnyH_take (i := 45) (v := ?_) rfl (by kernel_rfl) (by kernel_rfl) (by kernel_rfl) (fun _ _ _ h => h) (Or.inl ⟨by kernel_rfl, ?_⟩) (by assumption) ?_
      rotate_left
      · (intro wt hSw; (try dsimp only at hSw); go_simp; try (with_reducible rfl))
      refine wpAnyH_take (i := 46) (v := ?_) rfl (by kernel_rfl) (by kernel_rfl) (by kernel_rfl) (fun _ _ _ h => h) (Or.inl ⟨by kernel_rfl, ?_⟩) (by assumption) ?_
      rotate_left
      · (intro wt hSw; (try dsimp only at hSw); go_simp; try (with_reducible rfl))
      refine wpAnyH_ready (rs := [47]) (by kernel_rfl) (by simp) ?_
      refine AllReadyH.cons rfl (fun K hK => ?_) AllReadyH.nil
      go_simp
      refine (known_any _).mono ?_
      rintro e u47 ⟨rfl, hF47⟩
      have GU47 : U1.grownBy u47 none := grownBy_trans GU44 hF47
      have GB47 : u44.grownBy u47 none := hF47
      go_wp2_with fail
      refine hK.out _ _ (by exact hF47) (fun hHeld => ?_)
      clear hK K hHeld hF47
      refine wpAnyH_mono (S' := fun w' => u47.grownBy w' none) (fun w' h => grownBy_trans GB47 h) _ _ _ _ ?_
      have hHeld : (fun w' => u47.grownBy w' none) u47 := World.grownBy.refl _ _
      refine wpAnyH_take (i := 48) (v := ?_) rfl (by kernel_rfl) (by kernel_rfl) (by kernel_rfl) (fun _ _ _ h => h) (Or.inl ⟨by kernel_rfl, ?_⟩) (by assumption) ?_
      rotate_left
      · (intro wt hSw; (try dsimp only at hSw); go_simp; try (with_reducible rfl))
      refine wpAnyH_take (i := 49) (v := ?_) rfl (by kernel_rfl) (by kernel_rfl) (by kernel_rfl) (fun _ _ _ h => h) (Or.inl ⟨by kernel_rfl, ?_⟩) (by assumption) ?_
      rotate_left
      · (intro wt hSw; (try dsimp only at hSw); go_simp; try (with_reducible rfl))
      refine wpAnyH_done (by kernel_rfl) ?_ _
      simp only [Act.put, List.getElem_toArray, List.getElem_cons_succ, List.getElem_cons_zero, List.setIfInBounds_toArray, List.set_cons_zero, List.set_cons_succ]
      go_wp2_with fail
      go_ret
      exact ⟨rfl, grownBy_trans HW1.out (grownBy_trans HG7.out GU47)⟩
end Go.Proofs.Ytanbnefdodkniaa
