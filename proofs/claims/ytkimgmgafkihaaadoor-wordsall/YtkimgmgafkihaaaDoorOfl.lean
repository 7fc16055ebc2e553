/-
  What the program's ofLength hands over.
-/
import Derived.Test.YtkimgmgafkihaaaDoorWdt
namespace Go.Proofs.YtkimgmgafkihaaaDoor
open Go.RowKit Go.Lib Go.Sort Go.Shelf
set_option linter.unusedVariables false
set_option linter.unusedSimpArgs false
attribute [local go_sem] Oper.semAt_some
set_option maxHeartbeats 4000000
set_option maxRecDepth 100000
def OfNd (f bn bl : Nat) (n : Nat) (l : Int) (W : World) : Prop := (∃ cs, Ones cs ∧ W.heap[f]? = some (.cells cs 42 (0, 0))) ∧ W.cell? ⟨bn, 0, none⟩ = some (.int .i64 (n : Int)) ∧ W.cell? ⟨bl, 0, none⟩ = some (.int .i64 l)
def OfE (l most : Int) (T : Nat) (b : Bool) (n t0 t1 : Nat) : Prop := t0 < t1 ∧ t1 ≤ T ∧ (wd l most (t1 - 1)).length = n ∧ ((b || decide (t1 < T)) = true → goF l (wd l most (t1 - 1)) n = none)
def OfI (l most : Int) (T : Nat) (b : Bool) (n t0 pb B : Nat) (J : Nat → Option Nat → World → Prop) (k : Nat) (s : Value) (W : World) : Prop :=
  ∃ t o, J t o W ∧ (∀ r, o = some r → r < W.heap.size) ∧ B ≤ W.heap.size ∧ ((s = .bool true ∧ t0 ≤ t ∧ t < T ∧ (wd l most t).length = n ∧ Pil W pb (wd l most t) ∧ some pb ≠ o ∧ k = T - t) ∨ (s = .bool false ∧ OfE l most T b n t0 t ∧ k = 0))
theorem ofl_hands (l most : Int) (T : Nat) (b : Bool) (hTB : TB l most T b) (hl : 1 ≤ l ∧ l ≤ 64) (hm : 0 ≤ most ∧ most ≤ 4096) (m : Nat) (B t0 n f bn bl : Nat) (ht0 : t0 < T) (hw0 : wd l most t0 = List.replicate n 1) :
    HandsW Fence.wide m Tryd.prog 23 #[.pointer (some ⟨f, 0, none⟩), .pointer (some ⟨bn, 0, none⟩), .pointer (some ⟨bl, 0, none⟩)] (wd l most) T b B t0 (OfNd f bn bl n l) (OfE l most T b n t0) := by
  intro lo J hNd hJg hJr hY o W hB ho hJ0
  obtain ⟨⟨cs, hcs, hgf⟩, cn, cl⟩ := hNd _ _ _ hJ0
  have hn : n ≤ 4096 := by
    have := (hTB.ok hl.1 hm.1 t0 ht0).2
    rw [hw0] at this
    simp at this
    omega
  refine callsIn_wide.2 ?_
  go_enter Tryd.func23, Tryd.ntmps23
  generalize h0 : Code.region 0 _ _ = c0
  generalize h3 : Code.region 3 _ _ = c3
  generalize h6 : Code.region 6 _ _ = c6
  go_wp2_with fail
  subst h0
  refine wp_region_lit ?_
  refine wpList_load_row rfl _ _ rfl f rfl _ cs (0, 0) _ hgf Tryd.underlying42 rfl hcs.info ?_
  refine wpList_plain rfl (fun K hK => ?_)
  go_simp
  refine hK _ _ ?_
  have hz : Tryd.zeroCells42.size = cs.size := by rw [hcs.1]; kernel_rfl
  refine wpList_store_row rfl _ _ _ rfl W.heap.size cs rfl rfl 42 Tryd.zeroCells42 (heap_alloc_last W _) hcs.info hz hcs.all ?_
  rw [World.setRow_alloc_new]
  have HI0 : Hid (OfI l most T b n t0 W.heap.size B J (T - t0) (.bool true) (W.alloc (.cells cs 42))) :=
    ⟨t0, o, hJg _ _ _ _ hJ0 (grow1 _ _), fun r e => by have := ho r e; simp; omega, by simp; omega, .inl ⟨rfl, Nat.le_refl _, ht0, by rw [hw0]; simp, by rw [hw0]; exact hcs.pil (heap_alloc_last W _) n hn, fun e => by have := ho _ e.symm; omega, rfl⟩⟩
  apply wpList_nil
  obtain ⟨pb, hpb⟩ : ∃ pb, W.heap.size = pb := ⟨_, rfl⟩
  have HB : Hid (B ≤ pb ∧ bn < pb ∧ bl < pb) := ⟨by omega, by rw [← hpb]; exact block_lt_of_cell cn, by rw [← hpb]; exact block_lt_of_cell cl⟩
  rw [hpb] at HI0 ⊢
  have HT : Hid (TB l most T b ∧ (1 ≤ l ∧ l ≤ 64) ∧ (0 ≤ most ∧ most ≤ 4096)) := ⟨hTB, hl, hm⟩
  have HY : Hid (YieldW Fence.wide (m - 1) Tryd.prog lo (wd l most) T b B J) := hY
  have HJR : Hid (∀ t o W W' r, J t o W → W.grownBy W' (some r) → B ≤ r → some r ≠ o → J t o W') := hJr
  have HJG : Hid (∀ t o W W', J t o W → W.grownBy W' none → J t o W') := hJg
  have HND : Hid (∀ t o W, J t o W → OfNd f bn bl n l W) := hNd
  clear hz hK cn cl hgf hcs ho hB hJ0 hpb hw0 ht0 hTB hl hm hY hJr hJg hNd
  go_wp2_with fail
  subst h3 h6
  go_loopg [6] (T - t0) (fun k s wr => OfI l most T b n t0 pb B J k s wr)
  case atStart => exact HI0.out
  case round =>
    obtain ⟨t, o1, hJ, ho1, hB1, (⟨rfl, h1, h2, h3, hP, hne, rfl⟩ | ⟨rfl, hE, rfl⟩)⟩ := hrel
    · have HF : Hid (t0 ≤ t ∧ t < T ∧ (wd l most t).length = n ∧ some pb ≠ o1 ∧ (∀ r, o1 = some r → r < wr.heap.size) ∧ B ≤ wr.heap.size) := ⟨h1, h2, h3, hne, ho1, hB1⟩
      have HP : Hid (Pil wr pb (wd l most t)) := hP
      have hpl : pb < wr.heap.size := by
        obtain ⟨cur, hg, _⟩ := hP
        exact (Array.getElem?_eq_some_iff.1 hg).1
      obtain ⟨⟨cs1, hcs1, hgf1⟩, cn, cl⟩ := HND.out _ _ _ hJ
      obtain ⟨w1, hmk, hO1, hG1⟩ := make_zeros wr n (by omega)
      have cn1 := grownBy_cell hG1 cn (by simp)
      have hP1 : Pil w1 pb (wd l most t) := hP.kept hG1 (by simp)
      have hS1 : Ints w1 (.slice (some ⟨pb, 0, none⟩) n 4096) (wd l most t) := .inr (.inl ⟨pb, 0, 4096, by rw [h3], by rw [h3]; exact hn, fun j hj => by rw [Nat.zero_add]; exact hP1.cell j hj⟩)
      obtain ⟨w2, hcp, hO2, hG2⟩ := run_copy_ints w1 wr.heap.size wr.heap.size n n (List.replicate n 0) hO1 0 n n (by simp) _ (wd l most t) hS1 3 (by omega)
      have hz2 : (List.replicate n (0 : Int)).take 0 ++ (wd l most t).take (min (wd l most t).length n) ++ (List.replicate n 0).drop (0 + min (wd l most t).length n) = wd l most t := by
        rw [h3, Nat.min_self, ← h3, List.take_length, List.drop_eq_nil_of_le (by simp)]
        simp
      rw [hz2] at hO2
      have hG3 : wr.grownBy w2 none := grownBy_new hG1 (Nat.le_refl _) hG2
      have HP2 : Hid (Pil w2 pb (wd l most t)) := hP.kept hG3 (by simp)
      have hJ2 : J t o1 w2 := HJG.out _ _ _ _ hJ hG3
      have HY2 : Hid (YieldAt Fence.wide (m - 1) Tryd.prog lo #[.slice (some ⟨wr.heap.size, 0, none⟩) n n] w2 fun e W' => e = .returned (.bool (b || decide (t + 1 < T))) ∧ ∃ o', J (t + 1) o' W' ∧ w2.heap.size ≤ W'.heap.size ∧ (∀ i, B ≤ i → i < wr.heap.size → some i ≠ o1 → W'.heap[i]? = w2.heap[i]?) ∧ (o' = o1 ∨ ∃ g, o' = some g ∧ w2.heap.size ≤ g ∧ g < W'.heap.size)) :=
        HY.out t o1 w2 wr.heap.size _ h2 hJ2 hB1 hG3.size ho1 hO2
      have HS : Hid (wr.heap.size ≤ w2.heap.size) := hG3.size
      clear h1 h2 h3 hP hne ho1 hB1 hJ hgf1 hcs1 hO1 hG1 hP1 hS1 hO2 hG2 hz2 hG3 hJ2 cl HI0
      generalize h3 : Code.region 3 _ _ = c3
      generalize h6 : Code.region 6 _ _ = c6
      have hnI : (n : Int) ≤ 4096 := by omega
      go_wp2_with fail
      subst h6
      obtain ⟨fn, tmps, assign, body, hy, hR⟩ := HY2.out
      clear HY2 hmk hcp
      refine (wpIn_wide (n := m)).1 ?_
      gi_wp2
      refine ⟨fun h => by simp [Fence.wide] at h, hR.mono ?_⟩
      rintro e w3 ⟨rfl, o2, hJ3, hs3, hf3, hfr⟩
      have HJ3 : Hid (J (t + 1) o2 w3 ∧ (∀ r, o2 = some r → r < w3.heap.size) ∧ some pb ≠ o2 ∧ B ≤ w3.heap.size) := by
        have h1 := HF.out.2.2.2.2
        have h2 := HS.out
        refine ⟨hJ3, ?_, ?_, by omega⟩
        · rcases hfr with rfl | ⟨g, rfl, hg1, hg2⟩
          · intro r e; have := h1.1 r e; omega
          · intro r e; injection e with e; omega
        · rcases hfr with rfl | ⟨g, rfl, hg1, hg2⟩
          · exact HF.out.2.2.2.1
          · intro e; injection e with e; omega
      have HP3 : Hid (Pil w3 pb (wd l most t)) := by
        obtain ⟨cur, hg, r⟩ := HP2.out
        exact ⟨cur, (hf3 pb HB.out.1 hpl HF.out.2.2.2.1).trans hg, r⟩
      obtain ⟨-, cn3, cl3⟩ := HND.out _ _ _ hJ3
      clear hJ3 hs3 hf3 hfr hR hy HP HP2 cn cn1
      obtain ⟨bv, hbv⟩ : ∃ bv, (b || decide (t + 1 < T)) = bv := ⟨_, rfl⟩
      have HBV : Unit → (b || decide (t + 1 < T)) = bv := fun _ => hbv
      rw [hbv]
      clear hbv
      cases bv
      · gi_wp2
        go_wp2_with fail
        refine bodyPost_ret (results_none rfl _ _ _) rfl ?_
        refine ⟨⟨_, rfl⟩, t + 1, o2, ⟨by have := HF.out.1; omega, HF.out.2.1, HF.out.2.2.1, fun h => ?_⟩, HJ3.out.1, HJ3.out.2.1⟩
        rw [HBV ()] at h
        cases h
      · gi_wp2
        go_wp2_with fail
        obtain ⟨r, hr⟩ : ∃ r, goF l (wd l most t) n = r := ⟨_, rfl⟩
        have HK : Hid (∀ w', w3.grownBy w' (some pb) → w'.cell? ⟨bn, 0, none⟩ = some (.int .i64 (n : Int)) ∧ w'.cell? ⟨bl, 0, none⟩ = some (.int .i64 l)) := fun w' hg =>
          ⟨grownBy_cell hg cn3 (fun e => by injection e with e; have := HB.out; omega), grownBy_cell hg cl3 (fun e => by injection e with e; have := HB.out; omega)⟩
        have HGo : Hid (Calls Tryd.prog 24 #[.slice (some ⟨pb, 0, none⟩) n 4096, .int .i64 l] w3.drew fun e w' => e = .returned (.bool r.isSome) ∧ Pil w' pb (r.getD (wd l most t)) ∧ w3.drew.grownBy w' (some pb)) := by
          have h1 := HT.out
          have := goOn_own w3.drew pb n 4096 l (wd l most t) HF.out.2.2.1.symm (HP3.out.kept (grow_drew (World.grownBy.refl _ none)) (by simp)) hn (by omega) ((h1.1.ok h1.2.1.1 h1.2.2.1 t HF.out.2.1).1.l64 h1.2.1.2) h1.2.1.2
          rw [hr] at this
          exact this
        have HR : Unit → goF l (wd l most t) n = r := fun _ => hr
        clear hr
        subst h3
        cases r with
        | none =>
          rw [show (none : Option (List Int)).isSome = false from rfl] at HGo
          go_region_held3 (fun w' => w'.cell? ⟨bn, 0, none⟩ = some (.int .i64 (n : Int)) ∧ w'.cell? ⟨bl, 0, none⟩ = some (.int .i64 l)) (first | (go_keep; done) | with_reducible exact HK.out _ G4.out | fail) (first
            | (go_at_call 24; refine HGo.out.mono ?_; rintro e w4 ⟨rfl, hP4, hg4⟩; have HP4 : Hid (Pil w4 pb ((none : Option (List Int)).getD (wd l most t))) := hP4; have G4 : Hid (w3.grownBy w4 (some pb)) := grownBy_undrew hg4; clear hP4 hg4)
            | fail)
          all_goals (
            go_wp2_with fail
            go_roundg 0
            case measure => have := HF.out.2.1; omega
            case rel =>
              refine ⟨t + 1, o2, HJR.out _ _ _ _ _ HJ3.out.1 G4.out HB.out.1 HJ3.out.2.2.1, fun r e => Nat.lt_of_lt_of_le (HJ3.out.2.1 r e) G4.out.size, Nat.le_trans HJ3.out.2.2.2 G4.out.size, .inr ⟨rfl, ⟨by have := HF.out.1; omega, HF.out.2.1, HF.out.2.2.1, fun _ => HR ()⟩, rfl⟩⟩)
        | some V =>
          rw [show (some V).isSome = true from rfl] at HGo
          have HV : Hid (t + 1 < T ∧ wd l most (t + 1) = V ∧ V.length = n) := by
            have h1 := HT.out
            have h2 := HR ()
            rw [← HF.out.2.2.1] at h2
            obtain ⟨k1, k2⟩ := nx_some (most := most) h2
            exact ⟨h1.1.more HF.out.2.1 (HBV ()) k2, k1, by rw [← HF.out.2.2.1]; exact (goF_ok h1.2.1.1 (h1.1.ok h1.2.1.1 h1.2.2.1 t HF.out.2.1).1 _ (Nat.le_refl _) h2).1⟩
          go_region_held3 (fun w' => w'.cell? ⟨bn, 0, none⟩ = some (.int .i64 (n : Int)) ∧ w'.cell? ⟨bl, 0, none⟩ = some (.int .i64 l)) (first | (go_keep; done) | with_reducible exact HK.out _ G4.out | fail) (first
            | (go_at_call 24; refine HGo.out.mono ?_; rintro e w4 ⟨rfl, hP4, hg4⟩; have HP4 : Hid (Pil w4 pb V) := hP4; have G4 : Hid (w3.grownBy w4 (some pb)) := grownBy_undrew hg4; clear hP4 hg4)
            | fail)
          all_goals (
            go_wp2_with fail
            go_roundg (T - (t + 1))
            case measure => have := HF.out.2.1; omega
            case rel =>
              refine ⟨t + 1, o2, HJR.out _ _ _ _ _ HJ3.out.1 G4.out HB.out.1 HJ3.out.2.2.1, fun r e => Nat.lt_of_lt_of_le (HJ3.out.2.1 r e) G4.out.size, Nat.le_trans HJ3.out.2.2.2 G4.out.size, .inl ⟨rfl, by have := HF.out.1; omega, HV.out.1, by rw [HV.out.2.1]; exact HV.out.2.2, by rw [HV.out.2.1]; exact HP4.out, HJ3.out.2.2.1, rfl⟩⟩)
    · have HJ : Hid (J t o1 wr ∧ (∀ r, o1 = some r → r < wr.heap.size) ∧ OfE l most T b n t0 t) := ⟨hJ, ho1, hE⟩
      clear hJ ho1 hB1 hE HI0
      go_wp2_with fail
      go_end0
      exact ⟨⟨_, rfl⟩, t, o1, HJ.out.2.2, HJ.out.1, HJ.out.2.1⟩
end Go.Proofs.YtkimgmgafkihaaaDoor
