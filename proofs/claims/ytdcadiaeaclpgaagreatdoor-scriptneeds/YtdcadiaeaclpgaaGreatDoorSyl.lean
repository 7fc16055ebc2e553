/-
  The law ScriptNeeds: its walk.
-/
import Derived.Test.YtdcadiaeaclpgaaGreatDoorBunSye
import Derived.BigQuiet
namespace Go.Proofs.YtdcadiaeaclpgaaGreatDoor
open Go Go.RowKit Go.Lib Go.Sort
set_option linter.unusedVariables false
set_option linter.unusedSimpArgs false
set_option maxHeartbeats 6400000
set_option maxRecDepth 1000000
theorem ckE_er (L : List St) : (ckE L).2 = 0 ∨ (ckE L).2 = 2 ∨ (ckE L).2 = 3 := by
  unfold ckE
  split
  · exact .inr (.inr rfl)
  · split
    · exact .inl rfl
    · exact .inr (.inl rfl)
theorem ordE_er (L : List St) : (ordE L).2 = 0 ∨ (ordE L).2 = 2 ∨ (ordE L).2 = 3 ∨ (ordE L).2 = 401 := by
  unfold ordE
  split
  · rcases ckE_er L with h | h | h
    · exact .inl h
    · exact .inr (.inl h)
    · exact .inr (.inr (.inl h))
  · split
    · exact .inr (.inr (.inr rfl))
    · exact .inl rfl
theorem ndE_er (L : List St) (nm : ByteArray) : (ndE L nm).2 = 0 ∨ ((ndE L nm).1 = [] ∧ ((ndE L nm).2 = 2 ∨ (ndE L nm).2 = 3 ∨ (ndE L nm).2 = 401)) := by
  unfold ndE
  split
  · rename_i h
    rcases ordE_er L with h1 | h1
    · exact absurd h1 h
    · exact .inr ⟨rfl, h1⟩
  · split
    · exact .inr ⟨rfl, .inr (.inr rfl)⟩
    · split
      · exact .inr ⟨rfl, .inr (.inr rfl)⟩
      · exact .inl rfl
theorem need_at {L S : List St} {N : List Int} (h : N.map (fun x => L[x.toNat]?) = S.map some) : N.length = S.length ∧ ∀ (i : Nat) (x : Int), N[i]? = some x → ∃ s, L[x.toNat]? = some s ∧ S[i]? = some s := by
  have hl : N.length = S.length := by
    have := congrArg List.length h
    simpa using this
  refine ⟨hl, fun i x hx => ?_⟩
  have hi : i < S.length := by
    rw [← hl]
    exact (List.getElem?_eq_some_iff.1 hx).1
  have h1 := congrArg (·[i]?) h
  simp only [List.getElem?_map, hx, List.getElem?_eq_getElem hi, Option.map_some, Option.some.injEq] at h1
  exact ⟨_, h1, List.getElem?_eq_getElem hi⟩
theorem pair_next {N : List Int} (h : N.Pairwise (· < ·)) {m : Nat} {x y : Int} (hx : N[m]? = some x) (hy : N[m + 1]? = some y) : x < y := by
  obtain ⟨h1, rfl⟩ := List.getElem?_eq_some_iff.1 hx
  obtain ⟨h2, rfl⟩ := List.getElem?_eq_some_iff.1 hy
  exact List.pairwise_iff_getElem.1 h m (m + 1) h1 h2 (by omega)
theorem slaw_needs (w : World) (v u : Value) (L : List St) (nm : ByteArray) (s : St) (hv : Sts w v L) (hl : L.length ≤ 1000000000000000) (hf : ∀ s ∈ L, s.FitW) (hnm : nm.size ≤ maxLen) (hu : Stv w u s) (fs : s.FitW) (ht : Tab w) (he : Errs w) :
    Calls Tryz.prog 8 #[v, .string nm, u] w fun e w' => e = .returned (.bool true) ∧ w.grownBy w' none := by
  have HT : Hid (Tab w) := ht
  have HKn : Hid (∀ W, w.grownBy W none → Calls Tryz.prog 10 #[] W fun e w' => e = .returned (.bool true) ∧ W.grownBy w' none) := fun W hg => sknown_any W (ht.kept hg) (he.kept hg)
  obtain ⟨abL, cL, rfl, HRL⟩ := hv.reads
  have HRL1 : Hid (∀ w', w.grownBy w' none → ∀ i s, L[i]? = some s → ∃ B off u, abL = some ⟨B, off, none⟩ ∧ StAt w' B (off + i * 3) s u ∧ L.length ≤ cL) := HRL
  have HSL : Hid (Sts w (.slice abL L.length cL) L) := hv
  obtain ⟨u1, rfl, hA⟩ := hu
  obtain ⟨ab, c, rfl, -⟩ := hA.reads
  have HSv : Hid (Stv w (.agg #[.string s.vb, .string s.nm, .slice ab s.ags.length c]) s) := ⟨_, rfl, hA⟩
  have HLg : Hid (∀ W, w.grownBy W none → Calls Tryz.prog 20 #[.slice abL L.length cL] W fun e w' => e = .returned (.bool (bigL L)) ∧ W.grownBy w' none) := fun W hg => large_any W _ L (HSL.out.kept hg) hl hf
  have HV1 : Hid (∀ W, w.grownBy W none → Calls Tryz.prog 9 #[.agg #[.string s.vb, .string s.nm, .slice ab s.ags.length c]] W fun e w' => e = .returned (.bool (bigS s)) ∧ W.grownBy w' none) := fun W hg => vast_any W _ s (HSv.out.kept hg) fs
  have HLnS : Hid (bigS s = false → ∀ W, w.grownBy W none → Calls Tryz.prog 12 #[.agg #[.string s.vb, .string s.nm, .slice ab s.ags.length c]] W fun e w' => e = .returned (.tuple #[.string (lineB s), .int .i64 (chkS s)]) ∧ W.grownBy w' none) := fun hb W hg => sLine_any W _ s (HSv.out.kept hg) (bigS_fit hb) (bigS_few hb).2.1 (ht.kept hg)
  have HLnT : Hid (∀ t v, bigS t = false → ∀ W, w.grownBy W none → Stv W v t → Calls Tryz.prog 12 #[v] W fun e w' => e = .returned (.tuple #[.string (lineB t), .int .i64 (chkS t)]) ∧ W.grownBy w' none) := fun t v hb W hg hv => sLine_any W v t hv (bigS_fit hb) (bigS_few hb).2.1 (ht.kept hg)
  have HSm : Hid (bigS s = false → ∀ t v, bigS t = false → ∀ W, w.grownBy W none → Stv W v t → Calls Tryz.prog 17 #[.agg #[.string s.vb, .string s.nm, .slice ab s.ags.length c], v] W fun e w' => e = .returned (.bool (s.eqb t)) ∧ W.grownBy w' none) := fun hb t v hb2 W hg hv => sSame_any W _ v s t (HSv.out.kept hg) hv (bigS_fit hb) (bigS_fit hb2)
  have HNd : Hid (bigL L = false → ∀ W, w.grownBy W none → Calls Tryz.prog 25 #[.slice abL L.length cL, .string nm] W fun e w' => (∃ u, e = .returned (.tuple #[u, .int .i64 (ndE L nm).2]) ∧ Ints w' u (ndE L nm).1) ∧ W.grownBy w' none) := fun hb W hg => needs_any W _ L nm (HSL.out.kept hg) hl (fun s hs => bigS_fit ((bigL_few hb).2 s hs)) hnm
  have HOr : Hid (∀ (S : List St) v, (∀ s ∈ S, bigS s = false) → S.length ≤ 40 → ∀ W, Sts W v S → Calls Tryz.prog 23 #[v] W fun e w' => e = .returned (.tuple #[.int .i64 (ordE S).1, .int .i64 (ordE S).2]) ∧ W.grownBy w' none) := fun S v hb h40 W hv => order_scene W v S hv (by omega) (fun s hs => bigS_fit (hb s hs))
  have HFew := @bigL_few L
  have HSame := fun t => @line_same s t
  have HG1 : Hid (w.grownBy (w.alloc (sObj s.vb s.nm (.slice ab s.ags.length c))) none) := grow1 _ _
  have aH : Hid ((w.alloc (sObj s.vb s.nm (.slice ab s.ags.length c))).heap[w.heap.size]? = some (sObj s.vb s.nm (.slice ab s.ags.length c))) := heap_alloc_new _ _
  have HSame2 : Hid (∀ t, chkS s = 0 → chkS t = 0 → decide (lineB t = lineB s) = s.eqb t) := fun t => @line_same s t
  have HFew2 : Hid (bigL L = false → L.length ≤ 40 ∧ ∀ s ∈ L, bigS s = false) := HFew
  obtain ⟨n, hn⟩ : ∃ n, L.length = n := ⟨_, rfl⟩
  have HLn : Unit → L.length = n := fun _ => hn
  simp only [hn] at HRL1 HSL HLg HNd HFew2 hl ⊢
  clear hv hf hnm hA fs ht he HRL HFew HSame hn
  generalize hbL : bigL L = bL at *
  generalize hbs : bigS s = bs at *
  clear hbL hbs
  have HR02 : Hid (chkS s = 0 ∨ chkS s = 2) := by
    show _ ∨ _
    unfold chkS
    split
    · exact .inl rfl
    · exact .inr rfl
  generalize chkS s = r at *
  generalize lineB s = x at *
  generalize s.eqb = eqs at *
  generalize s.ags.length = m at *
  generalize s.vb = vb at *
  generalize s.nm = snm at *
  go_enter Tryz.func8, Tryz.ntmps8
  generalize hc1 : Code.region 1 _ _ = c1
  generalize hc3 : Code.region 3 _ _ = c3
  go_wp2_with fail
  change Code.wp _ _ _ _ (w.alloc (sObj vb snm (.slice ab m c)))
  generalize w.alloc (sObj vb snm (.slice ab m c)) = w2 at *
  subst hc1
  have a0 : w2.cell? ⟨w.heap.size, 0, none⟩ = some (.string vb) := by simp only [World.cell?, aH.out]; rfl
  have a1 : w2.cell? ⟨w.heap.size, 1, none⟩ = some (.string snm) := by simp only [World.cell?, aH.out]; rfl
  have a2 : w2.cell? ⟨w.heap.size, 2, none⟩ = some (.slice ab m c) := by simp only [World.cell?, aH.out]; rfl
  clear a0 a1 a2
  cases bL
  case true =>
    go_wp2_with fail
    refine (HLg.out _ HG1.out).mono ?_
    rintro e w3 ⟨rfl, g3⟩
    have G3 : Hid (w.grownBy w3 none) := grownBy_trans HG1.out g3
    clear g3
    go_wp2_with fail
    refine (HKn.out _ G3.out).mono ?_
    rintro e w4 ⟨rfl, g4⟩
    have G4 : Hid (w.grownBy w4 none) := grownBy_trans G3.out g4
    clear g4
    go_wp2_with fail
    go_ret
    exact ⟨rfl, G4.out⟩
  case false =>
    go_wp2_with fail
    refine (HLg.out _ HG1.out).mono ?_
    rintro e w3 ⟨rfl, g3⟩
    have G3 : Hid (w.grownBy w3 none) := grownBy_trans HG1.out g3
    have aH3 : w3.heap[w.heap.size]? = some (sObj vb snm (.slice ab m c)) := (g3.block _ (heap_lt aH.out) (by simp)).trans aH.out
    clear g3
    have a0 : w3.cell? ⟨w.heap.size, 0, none⟩ = some (.string vb) := by simp only [World.cell?, aH3]; rfl
    have a1 : w3.cell? ⟨w.heap.size, 1, none⟩ = some (.string snm) := by simp only [World.cell?, aH3]; rfl
    have a2 : w3.cell? ⟨w.heap.size, 2, none⟩ = some (.slice ab m c) := by simp only [World.cell?, aH3]; rfl
    have aH3' : Hid (w3.heap[w.heap.size]? = some (sObj vb snm (.slice ab m c))) := aH3
    clear aH3
    cases bs
    case true =>
      go_wp2_with fail
      refine (HV1.out _ G3.out).mono ?_
      rintro e w4 ⟨rfl, g4⟩
      have G4 : Hid (w.grownBy w4 none) := grownBy_trans G3.out g4
      clear g4
      go_wp2_with fail
      refine (HKn.out _ G4.out).mono ?_
      rintro e w5 ⟨rfl, g5⟩
      have G5 : Hid (w.grownBy w5 none) := grownBy_trans G4.out g5
      clear g5
      go_wp2_with fail
      go_ret
      exact ⟨rfl, G5.out⟩
    case false =>
      go_wp2_with fail
      refine (HV1.out _ G3.out).mono ?_
      rintro e w4 ⟨rfl, g4⟩
      have G4 : Hid (w.grownBy w4 none) := grownBy_trans G3.out g4
      have aH4 : Hid (w4.heap[w.heap.size]? = some (sObj vb snm (.slice ab m c))) := (g4.block _ (heap_lt aH3'.out) (by simp)).trans aH3'.out
      clear g4 a0 a1 a2
      have a0 : w4.cell? ⟨w.heap.size, 0, none⟩ = some (.string vb) := by simp only [World.cell?, aH4.out]; rfl
      have a1 : w4.cell? ⟨w.heap.size, 1, none⟩ = some (.string snm) := by simp only [World.cell?, aH4.out]; rfl
      have a2 : w4.cell? ⟨w.heap.size, 2, none⟩ = some (.slice ab m c) := by simp only [World.cell?, aH4.out]; rfl
      go_wp2_with fail
      subst hc3
      go_wp2_with fail
      refine (HLnS.out trivial _ G4.out).mono ?_
      rintro e w5 ⟨rfl, g5⟩
      have G5 : Hid (w.grownBy w5 none) := grownBy_trans G4.out g5
      have aH5 : Hid (w5.heap[w.heap.size]? = some (sObj vb snm (.slice ab m c))) := (g5.block _ (heap_lt aH4.out) (by simp)).trans aH4.out
      have HY : Hid (∀ W, w5.grownBy W none → W.cell? ⟨w.heap.size, 0, none⟩ = some (.string vb) ∧ W.cell? ⟨w.heap.size, 1, none⟩ = some (.string snm) ∧ W.cell? ⟨w.heap.size, 2, none⟩ = some (.slice ab m c)) := fun W hg => by
        have a := (hg.block _ (heap_lt aH5.out) (by simp)).trans aH5.out
        refine ⟨?_, ?_, ?_⟩
        · simp only [World.cell?, a]; rfl
        · simp only [World.cell?, a]; rfl
        · simp only [World.cell?, a]; rfl
      clear g5 a0 a1 a2 HLg HV1 HLnS aH4 aH3' aH5 aH G4 G3 HG1
      have HFw := HFew2.out trivial
      have HB40 : Hid (∀ s ∈ L, bigS s = false) := HFw.2
      have hn40 : (n : Int) ≤ 40 := by have := HFw.1; omega
      clear HFw HFew2
      go_wp2_with fail
      obtain ⟨wz, hwz⟩ : ∃ wz, wz = w5 := ⟨_, rfl⟩
      have HZ0 : Hid (w5.grownBy wz none) := by rw [hwz]; exact grow0 _
      rw [← hwz]
      clear hwz
      go_loopw [9] (fun s9 wr => ∃ i : Nat, i ≤ n ∧ s9 = .int .i64 i ∧ w5.grownBy wr none) (fun s _ => match s with | .int _ i => n - i.toNat | _ => 0)
      case atStart => exact ⟨0, by omega, rfl, HZ0.out⟩
      case round =>
        obtain ⟨i, hi, rfl, hg⟩ := hrel
        have HG : Hid (w5.grownBy wr none) := hg
        have hiI : (i : Int) ≤ 40 := by omega
        clear hg
        by_cases hlt : i < n
        · have hlt' : i < L.length := by rw [HLn ()]; exact hlt
          obtain ⟨t, hit⟩ : ∃ t, L[i]? = some t := ⟨_, List.getElem?_eq_getElem hlt'⟩
          obtain ⟨B, off, u, rfl, hat, hnc⟩ := HRL1.out w (grow0 _) i _ hit
          obtain ⟨k0, k1, k2, hA⟩ := hat.kept (grownBy_trans G5.out HG.out)
          obtain ⟨ab2, c2, rfl, -⟩ := hA.reads
          have hbt := HB40.out t (List.mem_of_getElem? hit)
          have HY2 : Hid (∀ W, wr.grownBy W none → W.cell? ⟨B, off + i * 3, none⟩ = some (.string t.vb) ∧ W.cell? ⟨B, off + i * 3 + 1, none⟩ = some (.string t.nm) ∧ W.cell? ⟨B, off + i * 3 + 2, none⟩ = some (.slice ab2 t.ags.length c2)) := fun W hg => ⟨grownBy_cell hg k0 (by simp), grownBy_cell hg k1 (by simp), grownBy_cell hg k2 (by simp)⟩
          have HSt : Hid (Stv wr (.agg #[.string t.vb, .string t.nm, .slice ab2 t.ags.length c2]) t) := ⟨_, rfl, hA⟩
          have HC1 : Hid (∀ W, wr.grownBy W none → Calls Tryz.prog 12 #[.agg #[.string t.vb, .string t.nm, .slice ab2 t.ags.length c2]] W fun e w' => e = .returned (.tuple #[.string (lineB t), .int .i64 (chkS t)]) ∧ W.grownBy w' none) := fun W hg => HLnT.out t _ hbt W (grownBy_trans G5.out (grownBy_trans HG.out hg)) (HSt.out.kept hg)
          have HC2 : Hid (∀ W, wr.grownBy W none → Calls Tryz.prog 17 #[.agg #[.string vb, .string snm, .slice ab m c], .agg #[.string t.vb, .string t.nm, .slice ab2 t.ags.length c2]] W fun e w' => e = .returned (.bool (eqs t)) ∧ W.grownBy w' none) := fun W hg => HSm.out trivial t _ hbt W (grownBy_trans G5.out (grownBy_trans HG.out hg)) (HSt.out.kept hg)
          have HE := HSame2.out t
          have HR2 : chkS t = 0 ∨ chkS t = 2 := by
            unfold chkS
            split
            · exact .inl rfl
            · exact .inr rfl
          clear hA hat hit hbt HSt hlt'
          generalize chkS t = r2 at *
          generalize lineB t = x2 at *
          generalize eqs t = bq at *
          generalize t.ags.length = m2 at *
          generalize t.vb = vb2 at *
          generalize t.nm = nm2 at *
          have HEh : Hid (r = 0 → r2 = 0 → decide (x2 = x) = bq) := HE
          have HR2h : Hid (r2 = 0 ∨ r2 = 2) := HR2
          clear HE HR2
          have hltI : (i : Int) < n := by omega
          go_wp2_with fail
          refine (HC1.out _ (grow0 _)).mono ?_
          rintro e w6 ⟨rfl, g6⟩
          have G6 : Hid (wr.grownBy w6 none) := g6
          clear g6 k0 k1 k2
          go_wp2_with fail
          have HYZ : Hid (∀ W, wr.grownBy W none → W.cell? ⟨w.heap.size, 0, none⟩ = some (.string vb) ∧ W.cell? ⟨w.heap.size, 1, none⟩ = some (.string snm) ∧ W.cell? ⟨w.heap.size, 2, none⟩ = some (.slice ab m c) ∧ W.cell? ⟨B, off + i * 3, none⟩ = some (.string vb2) ∧ W.cell? ⟨B, off + i * 3 + 1, none⟩ = some (.string nm2) ∧ W.cell? ⟨B, off + i * 3 + 2, none⟩ = some (.slice ab2 m2 c2)) := fun W hg => by
            obtain ⟨y0, y1, y2⟩ := HY.out W (grownBy_trans HG.out hg)
            obtain ⟨z0, z1, z2⟩ := HY2.out W hg
            exact ⟨y0, y1, y2, z0, z1, z2⟩
          have GA : wr.grownBy w6 none := G6.out
          have GD : wr.grownBy w6.drew none := grow_drew GA
          obtain ⟨y0, y1, y2, z0, z1, z2⟩ := HYZ.out w6 GA
          have HEN : Hid (∀ wn, wr.grownBy wn none → ∃ j : Nat, j ≤ n ∧ Value.int .i64 ((i : Int) + 1) = .int .i64 j ∧ w5.grownBy wn none) := fun wn hg => ⟨i + 1, by omega, num_eq (by omega), grownBy_trans HG.out hg⟩
          rcases HR02.out with hr | hr
          · subst hr
            rcases HR2h.out with hr2 | hr2
            · subst hr2
              obtain rfl := HEh.out rfl rfl
              have hxe : (x2.toList == x.toList) = decide (x2 = x) := by
                rw [Bool.eq_iff_iff, beq_iff_eq, decide_eq_true_eq]
                exact ⟨fun h => by rw [ByteArray.toList_eq, ByteArray.toList_eq] at h; exact ba_eq h, fun h => by rw [h]⟩
              go_wp2_with fail
              go_region_held3 (fun w' => w'.cell? ⟨w.heap.size, 0, none⟩ = some (.string vb) ∧ w'.cell? ⟨w.heap.size, 1, none⟩ = some (.string snm) ∧ w'.cell? ⟨w.heap.size, 2, none⟩ = some (.slice ab m c) ∧ w'.cell? ⟨B, off + i * 3, none⟩ = some (.string vb2) ∧ w'.cell? ⟨B, off + i * 3 + 1, none⟩ = some (.string nm2) ∧ w'.cell? ⟨B, off + i * 3 + 2, none⟩ = some (.slice ab2 m2 c2))
                (first | (go_keep; done) | with_reducible exact HYZ.out _ (by assumption) | with_reducible exact HYZ.out _ (grow_drew (by assumption)) | fail)
                (first
                  | (go_at_call 17; refine (HC2.out _ (by first | with_reducible assumption | with_reducible exact grow_drew (by assumption))).mono ?_; rintro e wd ⟨rfl, gd⟩; have GE : wr.grownBy wd none := grownBy_trans (by first | with_reducible assumption | with_reducible exact grow_drew (by assumption)) gd; clear gd))
              all_goals (
                go_wp2_with fail
                first
                  | exact ⟨HEN.out _ (by first | with_reducible assumption | with_reducible exact grow_drew (by assumption) | exact grownBy_drewN GA _), by simp; omega⟩
                  | (go_roundw
                     case rel => exact HEN.out _ (by first | with_reducible assumption | with_reducible exact grow_drew (by assumption) | exact grownBy_drewN GA _)
                     case measure => simp <;> omega))
            · subst hr2
              go_quiet (fail)
              all_goals (
                go_wp2_with fail
                first
                  | exact ⟨HEN.out _ (by first | with_reducible assumption | with_reducible exact grow_drew (by assumption) | exact grownBy_drewN GA _), by simp; omega⟩
                  | (go_roundw
                     case rel => exact HEN.out _ (by first | with_reducible assumption | with_reducible exact grow_drew (by assumption) | exact grownBy_drewN GA _)
                     case measure => simp <;> omega))
          · subst hr
            rcases HR2h.out with hr2 | hr2 <;> subst hr2
            all_goals (
              go_quiet (fail)
              go_wp2_with fail
              first
                | exact ⟨HEN.out _ (by first | with_reducible assumption | with_reducible exact grow_drew (by assumption) | exact grownBy_drewN GA _), by simp; omega⟩
                | (go_roundw
                   case rel => exact HEN.out _ (by first | with_reducible assumption | with_reducible exact grow_drew (by assumption) | exact grownBy_drewN GA _)
                   case measure => simp <;> omega))
        · have e : i = n := by omega
          subst e
          have GNd : Hid (w.grownBy wr none) := grownBy_trans G5.out HG.out
          have HNw := HNd.out trivial wr GNd.out
          have HEr := ndE_er L nm
          obtain ⟨N, er, hnd⟩ : ∃ N er, ndE L nm = (N, er) := ⟨(ndE L nm).1, (ndE L nm).2, rfl⟩
          have HND : Hid (ndE L nm = (N, er)) := hnd
          simp only [hnd] at HNw HEr
          clear hnd HNd hi HLnT HSm HSame2 HSL
          by_cases her : er = 0
          case neg =>
            obtain ⟨rfl, he3⟩ : N = [] ∧ (er = 2 ∨ er = 3 ∨ er = 401) := by
              rcases HEr with h | h
              · exact absurd h her
              · exact h
            clear HEr her
            have HU : Hid (∀ w6 u, Ints w6 u [] → ∃ ab c, u = .slice ab 0 c) := fun w6 u h => by
              obtain ⟨ab, c, h1, _⟩ := h.reads
              exact ⟨ab, c, h1⟩
            rcases he3 with rfl | rfl | rfl
            all_goals (
              go_wp2_with fail
              refine HNw.mono ?_
              rintro e w6 ⟨⟨u, rfl, hI⟩, g6⟩
              obtain ⟨ab6, c6, rfl⟩ := HU.out _ _ hI
              have G6 : Hid (w.grownBy w6 none) := grownBy_trans GNd.out g6
              clear g6 hI
              go_wp2_with fail
              refine (HKn.out _ G6.out).mono ?_
              rintro e w7 ⟨rfl, g7⟩
              have G7 : Hid (w.grownBy w7 none) := grownBy_trans G6.out g7
              clear g7
              go_wp2_with fail
              go_ret
              exact ⟨rfl, G7.out⟩)
          case pos =>
            subst her
            go_wp2_with fail
            refine HNw.mono ?_
            rintro e w6 ⟨⟨u, rfl, hI⟩, g6⟩
            obtain ⟨ab6, c6, rfl, hR⟩ := hI.reads
            obtain ⟨S, hmap, hrng, hsort, hord, hlenS, hsub, sl, hsl, hnm⟩ := need_scene HND.out
            have HAt : Hid (∀ (i : Nat) (x : Int), N[i]? = some x → ∃ s, L[x.toNat]? = some s ∧ S[i]? = some s) := (need_at hmap).2
            have hNS := (need_at hmap).1
            have HNx : Hid (∀ (m : Nat) (x y : Int), N[m]? = some x → N[m + 1]? = some y → x < y) := fun m x y => pair_next hsort
            have HRg : Hid (∀ x ∈ N, 0 ≤ x ∧ x < (i : Int)) := by
              have e := HLn ()
              rw [e] at hrng
              exact hrng
            have HOd : Hid (ordE S = ((S.length : Int), 0)) := hord
            have HSb : Hid (∀ s ∈ S, bigS s = false) := fun s hs => HB40.out s (hsub s hs)
            have HLs : Hid (∃ s, S.getLast? = some s ∧ s.nm = nm) := ⟨sl, hsl, hnm⟩
            have HRd : Hid (∀ w', w6.grownBy w' none → ∀ (i : Nat) (x : Int), N[i]? = some x → ∃ B off, ab6 = some ⟨B, off, none⟩ ∧ w'.cell? ⟨B, off + i, none⟩ = some (.int .i64 x)) := fun w' hg i x hx => by
              have hlt : i < N.length := (List.getElem?_eq_some_iff.1 hx).1
              obtain ⟨B, off, h1, h2⟩ := hR w' hg i hlt
              rw [hx] at h2
              exact ⟨B, off, h1, h2.1⟩
            have hS40 : S.length ≤ 40 := by
              have e := HLn ()
              omega
            obtain ⟨k, hk⟩ : ∃ k, N.length = k := ⟨_, rfl⟩
            have HNk : Unit → N.length = k := fun _ => hk
            have HSk : Unit → S.length = k := fun _ => by rw [← hNS]; exact hk
            have hk40 : (k : Int) ≤ 40 := by omega
            have hk40N : k ≤ 40 := by omega
            simp only [hk]
            have G6 : Hid (w.grownBy w6 none) := grownBy_trans GNd.out g6
            have HRL6 : Hid (∀ w', w6.grownBy w' none → ∀ q s, L[q]? = some s → ∃ B off u, abL = some ⟨B, off, none⟩ ∧ StAt w' B (off + q * 3) s u ∧ Args w6 u s.ags ∧ i ≤ cL) := fun w' hg q s hs => by
              obtain ⟨B, off, u, h1, h2, h3⟩ := HRL1.out w6 G6.out q s hs
              exact ⟨B, off, u, h1, h2.kept hg, h2.a, h3⟩
            have HR0 : Hid (RowT w6 w6 w6.heap.size (.slice none 0 0) []) := RowT.nil _ _ _
            clear hI hR g6 hmap hrng hsort hord hlenS hsub hsl hnm hNS hS40 hk HNw HEr HND HRL1 HY HZ0
            go_wp2_with fail
            obtain ⟨wz6, hwz6⟩ : ∃ wz6, wz6 = w6 := ⟨_, rfl⟩
            have HZ6 : Hid (w6.grownBy wz6 none) := by rw [hwz6]; exact grow0 _
            have HR1 : Hid (RowT w6 wz6 w6.heap.size (.slice none 0 0) []) := by rw [hwz6]; exact HR0.out
            rw [← hwz6]
            clear hwz6 HR0
            go_loopw [14, 15] (fun s14 s15 wr => ∃ (j : Nat) (P : List (St × Value)) (ab : Option Addr) (c : Nat), (j ≤ k ∧ P.map (·.1) = S.take j) ∧ s14 = .slice ab j c ∧ s15 = .int .i64 j ∧ RowT w6 wr w6.heap.size (.slice ab j c) P ∧ w6.grownBy wr none) (fun s14 s15 _ => match s15 with | .int _ i => k - i.toNat | _ => 0)
            case atStart => exact ⟨0, [], none, 0, ⟨by omega, rfl⟩, rfl, rfl, HR1.out, HZ6.out⟩
            case round =>
              obtain ⟨j, P, ab7, c7, ⟨hj, hP⟩, rfl, rfl, hRow, hg⟩ := hrel
              have HRw : Hid (RowT w6 wr w6.heap.size (.slice ab7 j c7) P) := hRow
              have HPj : Hid (P.map (·.1) = S.take j) := hP
              have HGr : Hid (w6.grownBy wr none) := hg
              have HPl : Hid (P.length = j) := by
                have h1 := congrArg List.length hP
                have h2 := HSk ()
                rw [List.length_map, List.length_take] at h1
                show _ = _
                omega
              have hjI : (j : Int) ≤ 40 := by omega
              clear hRow hP hg
              by_cases hlt : j < k
              · obtain ⟨x7, hx7⟩ : ∃ x7, N[j]? = some x7 := ⟨_, List.getElem?_eq_getElem (by rw [HNk ()]; exact hlt)⟩
                obtain ⟨y, hy1, hy2⟩ := HAt.out j x7 hx7
                obtain ⟨hx0, hxn⟩ := HRg.out x7 (List.mem_of_getElem? hx7)
                obtain ⟨q, rfl⟩ : ∃ q : Nat, x7 = (q : Int) := ⟨x7.toNat, by omega⟩
                obtain ⟨B, off, rfl, hc⟩ := HRd.out wr HGr.out j _ hx7
                obtain ⟨BL, oL, uL, rfl, hst, hau, hcL⟩ := HRL6.out wr HGr.out q y (by simpa using hy1)
                have hjk : (j : Int) < k := by omega
                have hq0 : decide ((q : Int) < 0) = false := decide_eq_false (by omega)
                have hqn : decide ((i : Int) ≤ (q : Int)) = false := decide_eq_false (by omega)
                have hqN : decide (i ≤ q) = false := decide_eq_false (by omega)
                have hqN2 : ¬ i ≤ q := by omega
                clear hx0
                cases j with
                | zero =>
                  go_upto_region 17 with fail
                  simp only [Nat.add_zero] at hc
                  go_quiet (fail)
                  have GQ : wr.grownBy (wr.drewN nq) none := grownBy_drewN (World.grownBy.refl _ _) _
                  generalize wr.drewN nq = wq at *
                  have G7 : Hid (w6.grownBy wq none) := grownBy_trans HGr.out GQ
                  have HRq : Hid (RowT w6 wq w6.heap.size (.slice ab7 0 c7) P) := HRw.out.kept0 GQ
                  obtain ⟨Bq, offq, heq, hcq⟩ := HRd.out wq G7.out _ _ hx7
                  obtain ⟨rfl, rfl⟩ : Bq = B ∧ offq = off := by
                    have := Option.some.inj heq
                    injection this with h1 h2
                    exact ⟨h1.symm, h2.symm⟩
                  have hsq := hst.kept GQ
                  have k0 := hsq.c0
                  have k1 := hsq.c1
                  have k2 := hsq.c2
                  have HAu : Hid (Args w6 uL y.ags) := hau
                  have HSy : Hid (S[0]? = some y) := hy2
                  obtain ⟨abu, cu, rfl⟩ := hau.form
                  clear GQ hst hsq hau heq
                  simp only [Nat.add_zero] at hcq
                  go_wp2_with (at_builtin; refine wpList_append_st rfl _ _ rfl w6 w6.heap.size (.slice ab7 0 c7) P rfl (HRq.out.kept0 (grow1 _ _)) y (.slice abu y.ags.length cu) wq.heap.size rfl (heap_alloc_new _ _) HAu.out (by have := HPl.out; omega) (by have := G7.out.size; simp; omega) ?_)
                  intro v8 w8 hR8 hg8
                  have HG8 : Hid (w6.grownBy w8 none) := grownBy_rowT (grownBy_trans G7.out (grow1 _ _)) (HRq.out.kept0 (grow1 _ _)) (Nat.le_refl _) hg8
                  have HPl8 : Hid ((P ++ [((y, Value.slice abu y.ags.length cu) : St × Value)]).length = 0 + 1) := by
                    show _ = _
                    rw [List.length_append, List.length_singleton, HPl.out]
                  have HPj8 : Hid ((P ++ [((y, Value.slice abu y.ags.length cu) : St × Value)]).map (·.1) = S.take (0 + 1)) := by
                    have e : S.take (0 + 1) = S.take 0 ++ S[0]?.toList := List.take_add_one
                    show _ = _
                    rw [List.map_append, HPj.out, e, HSy.out]
                    rfl
                  obtain ⟨ao8, c8, rfl⟩ := hR8.form
                  rw [HPl8.out] at hR8
                  have HR8 : Hid (RowT w6 w8 w6.heap.size (.slice ao8 (0 + 1) c8) (P ++ [((y, Value.slice abu y.ags.length cu) : St × Value)])) := hR8
                  clear hR8 hg8
                  rw [HPl8.out]
                  go_wp2_with fail
                  go_roundw
                  case rel => exact ⟨0 + 1, _, ao8, c8, ⟨by omega, HPj8.out⟩, rfl, num_eq (by omega), HR8.out, HG8.out⟩
                  case measure => simp <;> omega
                | succ m7 =>
                  have hm7 : ∃ p7 : Nat, N[m7]? = some (p7 : Int) ∧ (p7 : Int) < (q : Int) := by
                    obtain ⟨z7, hz7⟩ : ∃ z7, N[m7]? = some z7 := ⟨_, List.getElem?_eq_getElem (by rw [HNk ()]; omega)⟩
                    obtain ⟨h1, _⟩ := HRg.out z7 (List.mem_of_getElem? hz7)
                    exact ⟨z7.toNat, by rw [hz7]; congr 1; omega, by have := HNx.out m7 z7 q hz7 hx7; omega⟩
                  obtain ⟨p7, hp7, hpq⟩ := hm7
                  obtain ⟨B', off', he7, hc7⟩ := HRd.out wr HGr.out m7 _ hp7
                  obtain ⟨rfl, rfl⟩ : B' = B ∧ off' = off := by
                    have := Option.some.inj he7
                    injection this with h1 h2
                    exact ⟨h1.symm, h2.symm⟩
                  have hpq2 : decide ((q : Int) ≤ (p7 : Int)) = false := decide_eq_false (by omega)
                  have hpqN : decide (q ≤ p7) = false := decide_eq_false (by omega)
                  have hpqN2 : ¬ q ≤ p7 := by omega
                  have hm0 : ((m7 + 1 : Nat) : Int) - 1 = (m7 : Int) := by omega
                  have hmp : decide ((0 : Int) < ((m7 + 1 : Nat) : Int)) = true := decide_eq_true (by omega)
                  clear hpq
                  go_upto_region 17 with fail
                  go_quiet (fail)
                  have GQ : wr.grownBy (wr.drewN nq) none := grownBy_drewN (World.grownBy.refl _ _) _
                  generalize wr.drewN nq = wq at *
                  have G7 : Hid (w6.grownBy wq none) := grownBy_trans HGr.out GQ
                  have HRq : Hid (RowT w6 wq w6.heap.size (.slice ab7 (m7 + 1) c7) P) := HRw.out.kept0 GQ
                  obtain ⟨Bq, offq, heq, hcq⟩ := HRd.out wq G7.out _ _ hx7
                  obtain ⟨rfl, rfl⟩ : Bq = B' ∧ offq = off' := by
                    have := Option.some.inj heq
                    injection this with h1 h2
                    exact ⟨h1.symm, h2.symm⟩
                  have hsq := hst.kept GQ
                  have k0 := hsq.c0
                  have k1 := hsq.c1
                  have k2 := hsq.c2
                  have HAu : Hid (Args w6 uL y.ags) := hau
                  have HSy : Hid (S[(m7 + 1)]? = some y) := hy2
                  obtain ⟨abu, cu, rfl⟩ := hau.form
                  clear GQ hst hsq hau heq
                  go_wp2_with (at_builtin; refine wpList_append_st rfl _ _ rfl w6 w6.heap.size (.slice ab7 (m7 + 1) c7) P rfl (HRq.out.kept0 (grow1 _ _)) y (.slice abu y.ags.length cu) wq.heap.size rfl (heap_alloc_new _ _) HAu.out (by have := HPl.out; omega) (by have := G7.out.size; simp; omega) ?_)
                  intro v8 w8 hR8 hg8
                  have HG8 : Hid (w6.grownBy w8 none) := grownBy_rowT (grownBy_trans G7.out (grow1 _ _)) (HRq.out.kept0 (grow1 _ _)) (Nat.le_refl _) hg8
                  have HPl8 : Hid ((P ++ [((y, Value.slice abu y.ags.length cu) : St × Value)]).length = m7 + 1 + 1) := by
                    show _ = _
                    rw [List.length_append, List.length_singleton, HPl.out]
                  have HPj8 : Hid ((P ++ [((y, Value.slice abu y.ags.length cu) : St × Value)]).map (·.1) = S.take (m7 + 1 + 1)) := by
                    have e : S.take (m7 + 1 + 1) = S.take (m7 + 1) ++ S[(m7 + 1)]?.toList := List.take_add_one
                    show _ = _
                    rw [List.map_append, HPj.out, e, HSy.out]
                    rfl
                  obtain ⟨ao8, c8, rfl⟩ := hR8.form
                  rw [HPl8.out] at hR8
                  have HR8 : Hid (RowT w6 w8 w6.heap.size (.slice ao8 (m7 + 1 + 1) c8) (P ++ [((y, Value.slice abu y.ags.length cu) : St × Value)])) := hR8
                  clear hR8 hg8
                  rw [HPl8.out]
                  go_wp2_with fail
                  go_roundw
                  case rel => exact ⟨m7 + 1 + 1, _, ao8, c8, ⟨by omega, HPj8.out⟩, rfl, num_eq (by omega), HR8.out, HG8.out⟩
                  case measure => simp <;> omega
              · obtain rfl : j = k := by omega
                obtain ⟨sl, hsl, hslm⟩ := HLs.out
                have hSlen := HSk ()
                obtain ⟨m7, rfl⟩ : ∃ m7, j = m7 + 1 := by
                  refine ⟨j - 1, ?_⟩
                  have : S.length ≠ 0 := fun h0 => by
                    obtain rfl := List.length_eq_zero_iff.1 h0
                    cases hsl
                  omega
                have hSP : P.map (·.1) = S := by
                  rw [HPj.out, List.take_of_length_le (by omega)]
                have HSts : Hid (Sts wr (.slice ab7 (m7 + 1) c7) S) := by
                  have h := HRw.out.sts HGr.out
                  rw [hSP] at h
                  exact h
                have HSm : Hid (S[m7]? = some sl) := by
                  show _ = _
                  rw [← hsl, List.getLast?_eq_getElem?, hSlen]
                  rfl
                have HW6 : Hid (w.grownBy wr none) := grownBy_trans G6.out HGr.out
                have HOw := HOr.out S (.slice ab7 (m7 + 1) c7) HSb.out (by omega) wr HSts.out
                rw [HOd.out, hSlen] at HOw
                have HSlm : Hid (sl.nm = nm) := hslm
                have hm0 : ((m7 + 1 : Nat) : Int) - 1 = (m7 : Int) := by omega
                have hmp : decide ((0 : Int) < ((m7 + 1 : Nat) : Int)) = true := decide_eq_true (by omega)
                clear hsl hslm hSlen hSP hlt
                go_wp2_with fail
                refine HOw.mono ?_
                rintro e w9 ⟨rfl, g9⟩
                have G9 : Hid (w.grownBy w9 none) := grownBy_trans HW6.out g9
                obtain ⟨ab9, c9, he9, hr9⟩ := (HSts.out.kept g9).reads
                obtain ⟨B9, off9, u9', hab9, hst9, hc9⟩ := hr9 w9 (grow0 _) m7 sl HSm.out
                have he9' : ab7 = ab9 := by
                  injection he9
                subst he9' hab9
                have k1 := hst9.c1
                rw [HSlm.out] at k1
                clear g9 he9 hr9 hst9
                have hnn : (nm.toList == nm.toList) = true := by simp
                go_wp2_with fail
                refine (HKn.out _ G9.out).mono ?_
                rintro e w10 ⟨rfl, g10⟩
                have G10 : Hid (w.grownBy w10 none) := grownBy_trans G9.out g10
                clear g10
                go_wp2_with fail
                go_ret
                exact ⟨rfl, G10.out⟩
end Go.Proofs.YtdcadiaeaclpgaaGreatDoor
