/-
  The law ScriptLine: its walk.
-/
import Derived.Test.YtdcadiaeaclpgaaGreatDoorSkl
import Derived.Test.YtdcadiaeaclpgaaGreatDoorBunScx
namespace Go.Proofs.YtdcadiaeaclpgaaGreatDoor
open Go Go.RowKit Go.Lib Go.Sort
set_option linter.unusedVariables false
set_option linter.unusedSimpArgs false
set_option maxHeartbeats 6400000
set_option maxRecDepth 1000000
theorem bigS_few {s : St} (h : bigS s = false) : s.ags.length ≤ 70 ∧ (∀ a ∈ s.ags, a.Few) ∧ ∀ a ∈ s.ags, a.wd.length ≤ 100 := by
  simp only [bigS, Bool.or_eq_false_iff, decide_eq_false_iff_not, List.any_eq_false] at h
  obtain ⟨h1, _, _, h4⟩ := h
  refine ⟨by omega, fun a ha => bigA_few (by simpa using h4 a ha), fun a ha => ?_⟩
  have := h4 a ha
  simp [bigA] at this
  omega
theorem bigS_fit {s : St} (h : bigS s = false) : s.Fit := by
  simp only [bigS, Bool.or_eq_false_iff, decide_eq_false_iff_not, List.any_eq_false] at h
  obtain ⟨h1, h2, h3, h4⟩ := h
  refine ⟨by unfold maxLen; omega, by unfold maxLen; omega, by omega, fun a ha => ?_⟩
  have := h4 a ha
  simp [bigA] at this
  obtain ⟨b1, b2, b3, b4, b5, b6⟩ := this
  exact ⟨by unfold maxLen; omega, ⟨by unfold maxLen; omega, by unfold maxLen; omega, by unfold maxLen; omega, by unfold maxLen; omega⟩, by omega⟩
theorem two_blocks (w : World) (o1 o2 : Obj) : ((w.alloc o1).alloc o2).heap[w.heap.size]? = some o1 ∧ ((w.alloc o1).alloc o2).heap[w.heap.size + 1]? = some o2 := by
  refine ⟨at_alloc1 _ _ _, ?_⟩
  have h := heap_alloc_new (w.alloc o1) o2
  have e : (w.alloc o1).heap.size = w.heap.size + 1 := by simp
  rw [e] at h
  exact h
theorem slaw_line (w : World) (u v : Value) (s t : St) (hu : Stv w u s) (hv : Stv w v t) (fs : s.FitW) (ft : t.FitW) (ht : Tab w) (he : Errs w) :
    Calls Tryz.prog 3 #[u, v] w fun e w' => e = .returned (.bool true) ∧ w.grownBy w' none := by
  have HT : Hid (Tab w) := ht
  have HE : Hid (Errs w) := he
  have HKn : Hid (∀ W, w.grownBy W none → Calls Tryz.prog 10 #[] W fun e w' => e = .returned (.bool true) ∧ W.grownBy w' none) := fun W hg => sknown_any W (ht.kept hg) (he.kept hg)
  obtain ⟨u1, rfl, hA⟩ := hu
  obtain ⟨ab, c, rfl, _⟩ := hA.reads
  obtain ⟨v1, rfl, hB⟩ := hv
  obtain ⟨ab2, c2, rfl, _⟩ := hB.reads
  have HSv : Hid (Stv w (.agg #[.string s.vb, .string s.nm, .slice ab s.ags.length c]) s) := ⟨_, rfl, hA⟩
  have HTv : Hid (Stv w (.agg #[.string t.vb, .string t.nm, .slice ab2 t.ags.length c2]) t) := ⟨_, rfl, hB⟩
  have HFs := @bigS_fit s
  have HFt := @bigS_fit t
  have HV1 : Hid (∀ W, w.grownBy W none → Calls Tryz.prog 9 #[.agg #[.string s.vb, .string s.nm, .slice ab s.ags.length c]] W fun e w' => e = .returned (.bool (bigS s)) ∧ W.grownBy w' none) := fun W hg => vast_any W _ s (HSv.out.kept hg) fs
  have HV2 : Hid (∀ W, w.grownBy W none → Calls Tryz.prog 9 #[.agg #[.string t.vb, .string t.nm, .slice ab2 t.ags.length c2]] W fun e w' => e = .returned (.bool (bigS t)) ∧ W.grownBy w' none) := fun W hg => vast_any W _ t (HTv.out.kept hg) ft
  have HFew := @bigS_few s
  have HFew2 := @bigS_few t
  have HSm1 : Hid (bigS s = false → ∀ W v, w.grownBy W none → Stv W v s → Calls Tryz.prog 14 #[v, .agg #[.string s.vb, .string s.nm, .slice ab s.ags.length c]] W fun e w' => e = .returned (.bool true) ∧ W.grownBy w' none) := fun hb W v hg hv => (rSame_any W _ _ s s hv (HSv.out.kept hg) (HFs hb) (HFs hb)).mono fun e w' h => by
    rw [St.eqb_iff.2 rfl] at h
    exact h
  have HSm2 : Hid (bigS s = false → bigS t = false → ∀ W, w.grownBy W none → Calls Tryz.prog 14 #[.agg #[.string s.vb, .string s.nm, .slice ab s.ags.length c], .agg #[.string t.vb, .string t.nm, .slice ab2 t.ags.length c2]] W fun e w' => e = .returned (.bool (s.eqb t)) ∧ W.grownBy w' none) := fun hb hb2 W hg => rSame_any W _ _ s t (HSv.out.kept hg) (HTv.out.kept hg) (HFs hb) (HFt hb2)
  have HSp1 : Hid (bigS s = false → bigS t = false → ∀ W, w.grownBy W none → Calls Tryz.prog 17 #[.agg #[.string s.vb, .string s.nm, .slice ab s.ags.length c], .agg #[.string t.vb, .string t.nm, .slice ab2 t.ags.length c2]] W fun e w' => e = .returned (.bool (s.eqb t)) ∧ W.grownBy w' none) := fun hb hb2 W hg => sSame_any W _ _ s t (HSv.out.kept hg) (HTv.out.kept hg) (HFs hb) (HFt hb2)
  have HSp2 : Hid (bigS s = false → ∀ W v, w.grownBy W none → Stv W v s → Calls Tryz.prog 17 #[.agg #[.string s.vb, .string s.nm, .slice ab s.ags.length c], v] W fun e w' => e = .returned (.bool true) ∧ W.grownBy w' none) := fun hb W v hg hv => (sSame_any W _ _ s s (HSv.out.kept hg) hv (HFs hb) (HFs hb)).mono fun e w' h => by
    rw [St.eqb_iff.2 rfl] at h
    exact h
  have HCk1 : Hid (bigS s = false → ∀ W v, w.grownBy W none → Stv W v s → Calls Tryz.prog 15 #[v] W fun e w' => e = .returned (.int .i64 (chkS s)) ∧ W.grownBy w' none) := fun hb W v hg hv => sCheck_any W v s hv (HFs hb)
  have HCk2 : Hid (bigS s = false → ∀ W, w.grownBy W none → Calls Tryz.prog 16 #[.agg #[.string s.vb, .string s.nm, .slice ab s.ags.length c]] W fun e w' => e = .returned (.int .i64 (chkS s)) ∧ W.grownBy w' none) := fun hb W hg => rCheck_any W _ s (HSv.out.kept hg) (HFs hb)
  have HLn1 : Hid (bigS s = false → ∀ W v, w.grownBy W none → Stv W v s → Calls Tryz.prog 12 #[v] W fun e w' => e = .returned (.tuple #[.string (lineB s), .int .i64 (chkS s)]) ∧ W.grownBy w' none) := fun hb W v hg hv => sLine_any W v s hv (HFs hb) (HFew hb).2.1 (ht.kept hg)
  have HLn2 : Hid (bigS s = false → ∀ W, w.grownBy W none → Calls Tryz.prog 13 #[.agg #[.string s.vb, .string s.nm, .slice ab s.ags.length c]] W fun e w' => e = .returned (.tuple #[.string (lineB s), .int .i64 (chkS s)]) ∧ W.grownBy w' none) := fun hb W hg => rLine_any W _ s (HSv.out.kept hg) (HFs hb) (HFew hb).2.1 (ht.kept hg)
  have HLe : Hid (bigS s = false → ∀ W, w.grownBy W none → Calls Tryz.prog 11 #[.agg #[.string s.vb, .string s.nm, .slice ab s.ags.length c]] W fun e w' => LnQ s w' e ∧ W.grownBy w' none) := fun hb W hg => lent_any W _ s (HSv.out.kept hg) (Nat.le_trans (HFew hb).1 (by decide)) (HFew hb).2.2
  have HN70 : Hid (bigS s = false → s.ags.length ≤ 70) := fun hb => (HFew hb).1
  clear hA hB fs ft ht he HFew HFew2
  obtain ⟨H20, H21⟩ := two_blocks w (sObj s.vb s.nm (.slice ab s.ags.length c)) (sObj t.vb t.nm (.slice ab2 t.ags.length c2))
  have HG2 : Hid (w.grownBy ((w.alloc (sObj s.vb s.nm (.slice ab s.ags.length c))).alloc (sObj t.vb t.nm (.slice ab2 t.ags.length c2))) none) := grow2 _ _ _
  have aH : Hid (((w.alloc (sObj s.vb s.nm (.slice ab s.ags.length c))).alloc (sObj t.vb t.nm (.slice ab2 t.ags.length c2))).heap[w.heap.size]? = some (sObj s.vb s.nm (.slice ab s.ags.length c))) := H20
  have bH : Hid (((w.alloc (sObj s.vb s.nm (.slice ab s.ags.length c))).alloc (sObj t.vb t.nm (.slice ab2 t.ags.length c2))).heap[w.heap.size + 1]? = some (sObj t.vb t.nm (.slice ab2 t.ags.length c2))) := H21
  clear H20 H21
  have HLQ : Hid (∀ w' e, LnQ s w' e → ∃ g cg, e = .returned (.agg #[.string s.vb, .string s.nm, .slice (some ⟨g, 0, none⟩) s.ags.length cg]) ∧ s.ags.length + 1 ≤ cg ∧ Stv w' (.agg #[.string s.vb, .string s.nm, .slice (some ⟨g, 0, none⟩) s.ags.length cg]) s ∧ w'.cell? ⟨g, s.ags.length * 12 + 11, none⟩ = some (.int .i64 4242)) := fun w' e h => by
    obtain ⟨g, cg, h1, h2, h3, h4⟩ := h
    exact ⟨g, cg, h1, h2, ⟨_, rfl, h3⟩, h4⟩
  generalize hbs : bigS s = bs at *
  generalize hbt : bigS t = bt at *
  clear hbs hbt HFs HFt
  generalize s.eqb t = bq at *
  generalize chkS s = r at *
  generalize lineB s = x at *
  generalize LnQ s = LQ at *
  generalize s.ags.length = n at *
  generalize t.ags.length = n2 at *
  generalize s.vb = vb at *
  generalize s.nm = nm at *
  generalize t.vb = vb2 at *
  generalize t.nm = nm2 at *
  go_enter Tryz.func3, Tryz.ntmps3
  generalize hc1 : Code.region 1 _ _ = c1
  generalize hc4 : Code.region 4 _ _ = c4
  go_wp2_with fail
  change Code.wp _ _ _ _ ((w.alloc (sObj vb nm (.slice ab n c))).alloc (sObj vb2 nm2 (.slice ab2 n2 c2)))
  generalize (w.alloc (sObj vb nm (.slice ab n c))).alloc (sObj vb2 nm2 (.slice ab2 n2 c2)) = w2 at *
  subst hc1
  have a0 : w2.cell? ⟨w.heap.size, 0, none⟩ = some (.string vb) := by simp only [World.cell?, aH.out]; rfl
  have a1 : w2.cell? ⟨w.heap.size, 1, none⟩ = some (.string nm) := by simp only [World.cell?, aH.out]; rfl
  have a2 : w2.cell? ⟨w.heap.size, 2, none⟩ = some (.slice ab n c) := by simp only [World.cell?, aH.out]; rfl
  have b0 : w2.cell? ⟨w.heap.size + 1, 0, none⟩ = some (.string vb2) := by simp only [World.cell?, bH.out]; rfl
  have b1 : w2.cell? ⟨w.heap.size + 1, 1, none⟩ = some (.string nm2) := by simp only [World.cell?, bH.out]; rfl
  have b2 : w2.cell? ⟨w.heap.size + 1, 2, none⟩ = some (.slice ab2 n2 c2) := by simp only [World.cell?, bH.out]; rfl
  cases bs
  case true =>
    go_wp2_with fail
    refine (HV1.out _ HG2.out).mono ?_
    rintro e w3 ⟨rfl, g3⟩
    have G3 : Hid (w.grownBy w3 none) := grownBy_trans HG2.out g3
    clear g3
    go_wp2_with fail
    refine (HKn.out _ G3.out).mono ?_
    rintro e w4 ⟨rfl, g4⟩
    have G4 : Hid (w.grownBy w4 none) := grownBy_trans G3.out g4
    clear g4
    go_wp2_with fail
    go_ret
    exact ⟨rfl, G4.out⟩
  case false =>
    go_wp2_with fail
    refine (HV1.out _ HG2.out).mono ?_
    rintro e w3 ⟨rfl, g3⟩
    have G23 : Hid (w2.grownBy w3 none) := g3
    have G3 : Hid (w.grownBy w3 none) := grownBy_trans HG2.out g3
    have aH3 : w3.heap[w.heap.size]? = some (sObj vb nm (.slice ab n c)) := (g3.block _ (heap_lt aH.out) (by simp)).trans aH.out
    have bH3 : w3.heap[w.heap.size + 1]? = some (sObj vb2 nm2 (.slice ab2 n2 c2)) := (g3.block _ (heap_lt bH.out) (by simp)).trans bH.out
    clear g3 a0 a1 a2 b0 b1 b2
    have b0 : w3.cell? ⟨w.heap.size + 1, 0, none⟩ = some (.string vb2) := by simp only [World.cell?, bH3]; rfl
    have b1 : w3.cell? ⟨w.heap.size + 1, 1, none⟩ = some (.string nm2) := by simp only [World.cell?, bH3]; rfl
    have b2 : w3.cell? ⟨w.heap.size + 1, 2, none⟩ = some (.slice ab2 n2 c2) := by simp only [World.cell?, bH3]; rfl
    have aH3' : Hid (w3.heap[w.heap.size]? = some (sObj vb nm (.slice ab n c))) := aH3
    have bH3' : Hid (w3.heap[w.heap.size + 1]? = some (sObj vb2 nm2 (.slice ab2 n2 c2))) := bH3
    clear aH3 bH3
    cases bt
    case true =>
      go_wp2_with fail
      refine (HV2.out _ G3.out).mono ?_
      rintro e w4 ⟨rfl, g4⟩
      have G4 : Hid (w.grownBy w4 none) := grownBy_trans G3.out g4
      clear g4
      go_wp2_with fail
      refine (HKn.out _ G4.out).mono ?_
      rintro e w5 ⟨rfl, g5⟩
      have G5 : Hid (w.grownBy w5 none) := grownBy_trans G4.out g5
      clear g5
      go_wp2_with fail
      go_ret
      exact ⟨rfl, G5.out⟩
    case false =>
      have hn70 : (n : Int) ≤ 70 := by have := HN70.out trivial; omega
      go_wp2_with fail
      refine (HV2.out _ G3.out).mono ?_
      rintro e w4 ⟨rfl, g4⟩
      have G4 : Hid (w.grownBy w4 none) := grownBy_trans G3.out g4
      have aH4 : w4.heap[w.heap.size]? = some (sObj vb nm (.slice ab n c)) := (g4.block _ (heap_lt aH3'.out) (by simp)).trans aH3'.out
      have bH4 : w4.heap[w.heap.size + 1]? = some (sObj vb2 nm2 (.slice ab2 n2 c2)) := (g4.block _ (heap_lt bH3'.out) (by simp)).trans bH3'.out
      clear g4 b0 b1 b2
      have a0 : w4.cell? ⟨w.heap.size, 0, none⟩ = some (.string vb) := by simp only [World.cell?, aH4]; rfl
      have a1 : w4.cell? ⟨w.heap.size, 1, none⟩ = some (.string nm) := by simp only [World.cell?, aH4]; rfl
      have a2 : w4.cell? ⟨w.heap.size, 2, none⟩ = some (.slice ab n c) := by simp only [World.cell?, aH4]; rfl
      have aH4' : Hid (w4.heap[w.heap.size]? = some (sObj vb nm (.slice ab n c))) := aH4
      have bH4' : Hid (w4.heap[w.heap.size + 1]? = some (sObj vb2 nm2 (.slice ab2 n2 c2))) := bH4
      clear aH4 bH4
      go_wp2_with fail
      refine (HLe.out trivial _ G4.out).mono ?_
      rintro e w5 ⟨hL, g5⟩
      obtain ⟨g, cg, rfl, hcg, hSt, hmk⟩ := HLQ.out _ _ hL
      have G6 : Hid (w.grownBy (w5.alloc (sObj vb nm (.slice (some ⟨g, 0, none⟩) n cg))) none) := grownBy_trans G4.out (grownBy_trans g5 (grow1 _ _))
      have HSM : Hid (Stv (w5.alloc (sObj vb nm (.slice (some ⟨g, 0, none⟩) n cg))) (.agg #[.string vb, .string nm, .slice (some ⟨g, 0, none⟩) n cg]) s) := hSt.kept (grow1 _ _)
      have HMk : Hid ((w5.alloc (sObj vb nm (.slice (some ⟨g, 0, none⟩) n cg))).cell? ⟨g, n * 12 + 11, none⟩ = some (.int .i64 4242)) := grownBy_cell (grow1 _ _) hmk (by simp)
      have aH6 : Hid ((w5.alloc (sObj vb nm (.slice (some ⟨g, 0, none⟩) n cg))).heap[w.heap.size]? = some (sObj vb nm (.slice ab n c))) := ((grownBy_trans g5 (grow1 _ _)).block _ (heap_lt aH4'.out) (by simp)).trans aH4'.out
      have bH6 : Hid ((w5.alloc (sObj vb nm (.slice (some ⟨g, 0, none⟩) n cg))).heap[w.heap.size + 1]? = some (sObj vb2 nm2 (.slice ab2 n2 c2))) := ((grownBy_trans g5 (grow1 _ _)).block _ (heap_lt bH4'.out) (by simp)).trans bH4'.out
      have mH6 : Hid ((w5.alloc (sObj vb nm (.slice (some ⟨g, 0, none⟩) n cg))).heap[w5.heap.size]? = some (sObj vb nm (.slice (some ⟨g, 0, none⟩) n cg))) := heap_alloc_new _ _
      clear hL g5 hSt hmk a0 a1 a2
      go_wp2_with fail
      change Code.wp _ _ _ _ (w5.alloc (sObj vb nm (.slice (some ⟨g, 0, none⟩) n cg)))
      generalize w5.alloc (sObj vb nm (.slice (some ⟨g, 0, none⟩) n cg)) = w6 at *
      generalize w5.heap.size = B5 at *
      subst hc4
      have HY : Hid (∀ W, w6.grownBy W none → W.cell? ⟨w.heap.size, 0, none⟩ = some (.string vb) ∧ W.cell? ⟨w.heap.size, 1, none⟩ = some (.string nm) ∧ W.cell? ⟨w.heap.size, 2, none⟩ = some (.slice ab n c) ∧ W.cell? ⟨w.heap.size + 1, 0, none⟩ = some (.string vb2) ∧ W.cell? ⟨w.heap.size + 1, 1, none⟩ = some (.string nm2) ∧ W.cell? ⟨w.heap.size + 1, 2, none⟩ = some (.slice ab2 n2 c2) ∧ W.cell? ⟨B5, 0, none⟩ = some (.string vb) ∧ W.cell? ⟨B5, 1, none⟩ = some (.string nm) ∧ W.cell? ⟨B5, 2, none⟩ = some (.slice (some ⟨g, 0, none⟩) n cg) ∧ W.cell? ⟨g, n * 12 + 11, none⟩ = some (.int .i64 4242)) := fun W hg => by
        have a := (hg.block _ (heap_lt aH6.out) (by simp)).trans aH6.out
        have b := (hg.block _ (heap_lt bH6.out) (by simp)).trans bH6.out
        have m := (hg.block _ (heap_lt mH6.out) (by simp)).trans mH6.out
        refine ⟨?_, ?_, ?_, ?_, ?_, ?_, ?_, ?_, ?_, grownBy_cell hg HMk.out (by simp)⟩
        · simp only [World.cell?, a]; rfl
        · simp only [World.cell?, a]; rfl
        · simp only [World.cell?, a]; rfl
        · simp only [World.cell?, b]; rfl
        · simp only [World.cell?, b]; rfl
        · simp only [World.cell?, b]; rfl
        · simp only [World.cell?, m]; rfl
        · simp only [World.cell?, m]; rfl
        · simp only [World.cell?, m]; rfl
      have HA1 : Hid (∀ W, w6.grownBy W none → Calls Tryz.prog 12 #[.agg #[.string vb, .string nm, .slice (some ⟨g, 0, none⟩) n cg]] W fun e w' => e = .returned (.tuple #[.string x, .int .i64 r]) ∧ W.grownBy w' none) := fun W hg => HLn1.out trivial W _ (grownBy_trans G6.out hg) (HSM.out.kept hg)
      have HA3 : Hid (∀ W, w6.grownBy W none → Calls Tryz.prog 14 #[.agg #[.string vb, .string nm, .slice (some ⟨g, 0, none⟩) n cg], .agg #[.string vb, .string nm, .slice ab n c]] W fun e w' => e = .returned (.bool true) ∧ W.grownBy w' none) := fun W hg => HSm1.out trivial W _ (grownBy_trans G6.out hg) (HSM.out.kept hg)
      have HA5 : Hid (∀ W, w6.grownBy W none → Calls Tryz.prog 15 #[.agg #[.string vb, .string nm, .slice (some ⟨g, 0, none⟩) n cg]] W fun e w' => e = .returned (.int .i64 r) ∧ W.grownBy w' none) := fun W hg => HCk1.out trivial W _ (grownBy_trans G6.out hg) (HSM.out.kept hg)
      have HA8 : Hid (∀ W, w6.grownBy W none → Calls Tryz.prog 17 #[.agg #[.string vb, .string nm, .slice ab n c], .agg #[.string vb, .string nm, .slice (some ⟨g, 0, none⟩) n cg]] W fun e w' => e = .returned (.bool true) ∧ W.grownBy w' none) := fun W hg => HSp2.out trivial W _ (grownBy_trans G6.out hg) (HSM.out.kept hg)
      have HA2 : Hid (∀ W, w6.grownBy W none → Calls Tryz.prog 13 #[.agg #[.string vb, .string nm, .slice ab n c]] W fun e w' => e = .returned (.tuple #[.string x, .int .i64 r]) ∧ W.grownBy w' none) := fun W hg => HLn2.out trivial W (grownBy_trans G6.out hg)
      have HA4 : Hid (∀ W, w6.grownBy W none → Calls Tryz.prog 14 #[.agg #[.string vb, .string nm, .slice ab n c], .agg #[.string vb2, .string nm2, .slice ab2 n2 c2]] W fun e w' => e = .returned (.bool bq) ∧ W.grownBy w' none) := fun W hg => HSm2.out trivial trivial W (grownBy_trans G6.out hg)
      have HA6 : Hid (∀ W, w6.grownBy W none → Calls Tryz.prog 16 #[.agg #[.string vb, .string nm, .slice ab n c]] W fun e w' => e = .returned (.int .i64 r) ∧ W.grownBy w' none) := fun W hg => HCk2.out trivial W (grownBy_trans G6.out hg)
      have HA7 : Hid (∀ W, w6.grownBy W none → Calls Tryz.prog 17 #[.agg #[.string vb, .string nm, .slice ab n c], .agg #[.string vb2, .string nm2, .slice ab2 n2 c2]] W fun e w' => e = .returned (.bool bq) ∧ W.grownBy w' none) := fun W hg => HSp1.out trivial trivial W (grownBy_trans G6.out hg)
      have HA9 : Hid (∀ W, w6.grownBy W none → Calls Tryz.prog 10 #[] W fun e w' => e = .returned (.bool true) ∧ W.grownBy w' none) := fun W hg => HKn.out W (grownBy_trans G6.out hg)
      have HAs : Hid (∀ W v b, w6.grownBy W none → ((v = .agg #[.string vb2, .string nm2, .slice ab2 n2 c2] ∧ b = bq) ∨ (v = .agg #[.string vb, .string nm, .slice (some ⟨g, 0, none⟩) n cg] ∧ b = true)) → Calls Tryz.prog 17 #[.agg #[.string vb, .string nm, .slice ab n c], v] W fun e w' => e = .returned (.bool b) ∧ W.grownBy w' none) := fun W v b hg h => by
        rcases h with ⟨rfl, rfl⟩ | ⟨rfl, rfl⟩
        · exact HA7.out W hg
        · exact HA8.out W hg
      clear HA7 HA8
      clear aH6 bH6 mH6 HMk HSM HSv HTv HV1 HV2 HSm1 HSm2 HSp1 HSp2 HCk1 HCk2 HLn1 HLn2 HLe HLQ HKn aH bH aH3' bH3' aH4' bH4'
      obtain ⟨y0, y1, y2, y3, y4, y5, y6, y7, y8, y9⟩ := HY.out w6 (grow0 _)
      go_wp2_with fail
      refine (HA1.out _ (grow0 _)).mono ?_
      rintro e w7 ⟨rfl, g7⟩
      have G7 : Hid (w6.grownBy w7 none) := g7
      clear y0 y1 y2 y3 y4 y5 y6 y7 y8 y9 g7
      obtain ⟨y0, y1, y2, y3, y4, y5, y6, y7, y8, y9⟩ := HY.out w7 G7.out
      go_wp2_with fail
      refine (HA2.out _ G7.out).mono ?_
      rintro e w8 ⟨rfl, g8⟩
      have G8 : Hid (w6.grownBy w8 none) := grownBy_trans G7.out g8
      clear y0 y1 y2 y3 y4 y5 y6 y7 y8 y9 g8
      obtain ⟨y0, y1, y2, y3, y4, y5, y6, y7, y8, y9⟩ := HY.out w8 G8.out
      go_wp2_with fail
      refine (HA3.out _ G8.out).mono ?_
      rintro e w9 ⟨rfl, g9⟩
      have G9 : Hid (w6.grownBy w9 none) := grownBy_trans G8.out g9
      clear y0 y1 y2 y3 y4 y5 y6 y7 y8 y9 g9
      obtain ⟨y0, y1, y2, y3, y4, y5, y6, y7, y8, y9⟩ := HY.out w9 G9.out
      go_wp2_with fail
      refine (HA4.out _ G9.out).mono ?_
      rintro e wa ⟨rfl, ga⟩
      have GA : w6.grownBy wa none := grownBy_trans G9.out ga
      have GD : w6.grownBy wa.drew none := grow_drew GA
      clear y0 y1 y2 y3 y4 y5 y6 y7 y8 y9 ga
      obtain ⟨y0, y1, y2, y3, y4, y5, y6, y7, y8, y9⟩ := HY.out wa GA
      obtain ⟨q, hq⟩ : ∃ q, n + 1 = q := ⟨_, rfl⟩
      have hwq : IntKind.i64.wrap ((n : Int) + 1) = (q : Int) := by rw [IntKind.wrap_i64]; omega
      have hn0 : (0 : Int) ≤ n := by omega
      have hq0 : (0 : Int) ≤ q := by omega
      have hqc : (q : Int) ≤ cg := by omega
      have hnq : (n : Int) < q := by omega
      clear hq hcg
      go_wp2_with fail
      go_region_held3 (fun w' => w'.cell? ⟨w.heap.size, 0, none⟩ = some (.string vb) ∧ w'.cell? ⟨w.heap.size, 1, none⟩ = some (.string nm) ∧ w'.cell? ⟨w.heap.size, 2, none⟩ = some (.slice ab n c) ∧ w'.cell? ⟨w.heap.size + 1, 0, none⟩ = some (.string vb2) ∧ w'.cell? ⟨w.heap.size + 1, 1, none⟩ = some (.string nm2) ∧ w'.cell? ⟨w.heap.size + 1, 2, none⟩ = some (.slice ab2 n2 c2) ∧ w'.cell? ⟨B5, 0, none⟩ = some (.string vb) ∧ w'.cell? ⟨B5, 1, none⟩ = some (.string nm) ∧ w'.cell? ⟨B5, 2, none⟩ = some (.slice (some ⟨g, 0, none⟩) n cg) ∧ w'.cell? ⟨g, n * 12 + 11, none⟩ = some (.int .i64 4242))
        (first | (go_keep; done) | with_reducible exact HY.out _ (by assumption) | with_reducible exact HY.out _ (grow_drew (by assumption)) | fail)
        (first
          | (go_at_call 15; refine (HA5.out _ (by first | with_reducible assumption | with_reducible exact grow_drew (by assumption))).mono ?_; rintro e wb ⟨rfl, gb⟩; have GB : w6.grownBy wb none := grownBy_trans (by first | with_reducible assumption | with_reducible exact grow_drew (by assumption)) gb; clear gb)
          | (go_at_call 16; refine (HA6.out _ (by first | with_reducible assumption | with_reducible exact grow_drew (by assumption))).mono ?_; rintro e wc ⟨rfl, gc⟩; have GC : w6.grownBy wc none := grownBy_trans (by first | with_reducible assumption | with_reducible exact grow_drew (by assumption)) gc; clear gc)
          | (go_at_call 17; refine (HAs.out _ _ _ (by first | with_reducible assumption | with_reducible exact grow_drew (by assumption)) (by first | exact .inl ⟨rfl, rfl⟩ | exact .inr ⟨rfl, rfl⟩)).mono ?_; rintro e wd ⟨rfl, gd⟩; have GE : w6.grownBy wd none := grownBy_trans (by first | with_reducible assumption | with_reducible exact grow_drew (by assumption)) gd; clear gd)
          | (go_at_call 10; refine (HA9.out _ (by first | with_reducible assumption | with_reducible exact grow_drew (by assumption))).mono ?_; rintro e wf ⟨rfl, gf⟩; have GG : w6.grownBy wf none := grownBy_trans (by first | with_reducible assumption | with_reducible exact grow_drew (by assumption)) gf; clear gf))
      all_goals (
        go_wp2_with fail
        go_ret
        refine ⟨ret_bool ?_, grownBy_trans G6.out GG⟩
        first | rfl | simp)
end Go.Proofs.YtdcadiaeaclpgaaGreatDoor
