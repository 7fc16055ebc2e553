/-
  The law's lent.
-/
import Derived.Test.YtdcadiaeaclpgaaGreatDoorBunSrr
namespace Go.Proofs.YtdcadiaeaclpgaaGreatDoor
open Go Go.RowKit Go.Lib Go.Sort
set_option linter.unusedVariables false
set_option linter.unusedSimpArgs false
set_option maxHeartbeats 3200000
set_option maxRecDepth 1000000
theorem RowA.at {w : World} {base g m c : Nat} {P : List (Ag × Value)} (h : RowA w base (.slice (some ⟨g, 0, none⟩) m c) P) {j : Nat} {x : Ag × Value} (hx : P[j]? = some x) : AgAt w g (0 + j * 12) x.1 x.2 := by
  have hc : ∀ i u, i < 12 → (agc x.1 x.2).toList[i]? = some u → w.cell? ⟨g, 0 + j * 12 + i, none⟩ = some u := fun i u hi hu => by
    have := World.ownsRow.cells h.1 (g := g) rfl (j * 12 + i) u (by rw [cellsA_get P j x hx i hi]; exact hu)
    rwa [Addr.add_lit, ← Nat.add_assoc] at this
  exact ⟨hc 0 _ (by omega) rfl, hc 1 _ (by omega) rfl, hc 2 _ (by omega) rfl, hc 3 _ (by omega) rfl, hc 4 _ (by omega) rfl, hc 5 _ (by omega) rfl, hc 6 _ (by omega) rfl, hc 7 _ (by omega) rfl, hc 8 _ (by omega) rfl, hc 9 _ (by omega) rfl, hc 10 _ (by omega) rfl, hc 11 _ (by omega) rfl⟩
def LnQ (s : St) (w' : World) (e : Ending) : Prop := ∃ g c, e = .returned (.agg #[.string s.vb, .string s.nm, .slice (some ⟨g, 0, none⟩) s.ags.length c]) ∧ s.ags.length + 1 ≤ c ∧ Args w' (.slice (some ⟨g, 0, none⟩) s.ags.length c) s.ags ∧ w'.cell? ⟨g, s.ags.length * 12 + 11, none⟩ = some (.int .i64 4242)
abbrev mkA : Ag := ⟨0, eS, Gz.zero, [], 4242⟩
theorem lnq_row {w : World} {base n c : Nat} {ab : Option Addr} {vb nm : ByteArray} {P : List (Ag × Value)} {G : List Ag} (h : RowA w base (.slice ab (n + 1) c) (P ++ [(mkA, .slice none 0 0)])) (hP : P.map (·.1) = G) (hn : P.length = n) : LnQ ⟨vb, nm, G⟩ w (.returned (.agg #[.string vb, .string nm, .slice ab n c])) ∧ n + 1 ≤ c := by
  have hl : G.length = n := by rw [← hP, List.length_map, hn]
  rcases h.1.2 with ⟨e, hz⟩ | ⟨g, cap, cur, e, hb, hg, hc, _⟩
  · simp at hz
  · have hl2 : (P ++ [(mkA, Value.slice none 0 0)]).length = n + 1 := by simp [hn]
    rw [hl2] at hc e
    simp only [Value.slice.injEq] at e
    obtain ⟨rfl, _, rfl⟩ := e
    refine ⟨⟨g, c, ?_, ?_, ?_, ?_⟩, hc⟩
    · rw [hl]
    · show G.length + 1 ≤ c
      omega
    · refine .inr ⟨g, 0, c, rfl, by show G.length ≤ c; omega, fun j a hj => ?_⟩
      rw [← hP, List.getElem?_map] at hj
      cases hp : P[j]? with
      | none => rw [hp] at hj; cases hj
      | some x =>
        rw [hp] at hj
        cases hj
        have hx : (P ++ [(mkA, Value.slice none 0 0)])[j]? = some x := by
          rw [List.getElem?_append_left (List.getElem?_eq_some_iff.1 hp).1]
          exact hp
        exact ⟨x.2, h.at hx, (h.2 x (List.mem_of_getElem? hx)).ints⟩
    · have hx : (P ++ [(mkA, Value.slice none 0 0)])[n]? = some (mkA, .slice none 0 0) := by
        rw [List.getElem?_append_right (by omega), hn, Nat.sub_self]
        rfl
      have := (h.at hx).c11
      rw [Nat.zero_add] at this
      show w.cell? ⟨g, G.length * 12 + 11, none⟩ = _
      rw [hl]
      exact this
theorem lent_any (w : World) (v : Value) (s : St) (hv : Stv w v s) (hs : s.ags.length ≤ 100) (hf : ∀ a ∈ s.ags, a.wd.length ≤ 100) :
    Calls Tryz.prog 11 #[v] w fun e w' => LnQ s w' e ∧ w.grownBy w' none := by
  obtain ⟨u, rfl, hA⟩ := hv
  obtain ⟨ab, c, rfl, HR⟩ := hA.reads
  obtain ⟨vb, nm, ags⟩ := s
  simp only at HR hs hf
  have HR1 : Hid (∀ w', w.grownBy w' none → ∀ i a, ags[i]? = some a → ∃ B off wv, ab = some ⟨B, off, none⟩ ∧ AgAt w' B (off + i * 12) a wv ∧ Ints w' wv a.wd ∧ ags.length ≤ c) := HR
  have HF : Hid (∀ a ∈ ags, a.wd.length ≤ 100) := hf
  obtain ⟨n, hn⟩ : ∃ n, ags.length = n := ⟨_, rfl⟩
  have HLn : Unit → ags.length = n := fun _ => hn
  simp only
  rw [hn] at hs ⊢
  simp only [hn] at HR1
  have hnI : (n : Int) ≤ 100 := by omega
  clear hn hA HR hf
  obtain ⟨W2, hW2⟩ : ∃ W2, (w.alloc (sObj vb nm (.slice ab n c))).alloc stZ = W2 := ⟨_, rfl⟩
  have HG2 : Hid (w.grownBy W2 none) := by
    show w.grownBy W2 none
    rw [← hW2]
    exact grow2 _ _ _
  have HSz : Hid (W2.heap.size = w.heap.size + 2) := by
    show _ = _
    rw [← hW2]
    simp
  have HB : Hid (W2.heap[w.heap.size]? = some (sObj vb nm (.slice ab n c))) := by
    show _ = _
    rw [← hW2]
    exact at_alloc1 _ _ _
  have HZ : Hid (W2.heap[w.heap.size + 1]? = some stZ) := by
    show _ = _
    rw [← hW2]
    have h := heap_alloc_new (w.alloc (sObj vb nm (.slice ab n c))) stZ
    have e : (w.alloc (sObj vb nm (.slice ab n c))).heap.size = w.heap.size + 1 := by simp
    rw [e] at h
    exact h
  have HRz : Hid (RowA W2 W2.heap.size (.slice none 0 0) []) := RowA.nil _ _
  have HW2 : Hid ((w.alloc (sObj vb nm (.slice ab n c))).alloc stZ = W2) := hW2
  clear hW2
  go_enter Tryz.func11, Tryz.ntmps11
  generalize hc9 : Code.region 9 _ _ = c9
  go_wp2_with fail
  change Code.wp _ _ _ _ ((w.alloc (sObj vb nm (.slice ab n c))).alloc stZ)
  rw [HW2.out]
  go_loopw [3, 4] (fun s3 s4 wr => ∃ (i : Nat) (P : List (Ag × Value)), i ≤ n ∧ s4 = .int .i64 i ∧ P.map (·.1) = ags.take i ∧ RowA wr W2.heap.size s3 P ∧ W2.grownBy wr none) (fun _ s4 _ => match s4 with | .int _ i => n - i.toNat | _ => 0)
  case atStart => exact ⟨0, [], by omega, rfl, rfl, HRz.out, grow0 _⟩
  case round =>
    obtain ⟨i, P, hi, rfl, hP, hR, hg⟩ := hrel
    obtain ⟨ao, cp, rfl⟩ := hR.form
    have HP : Hid (P.map (·.1) = ags.take i) := hP
    have HG : Hid (W2.grownBy wr none) := hg
    have HPl : Hid (P.length = i) := by
      have := congrArg List.length hP
      rw [List.length_map, List.length_take, HLn ()] at this
      show P.length = i
      omega
    rw [HPl.out] at hR ⊢
    have HR : Hid (RowA wr W2.heap.size (.slice ao i cp) P) := hR
    have hb0 : wr.cell? ⟨w.heap.size, 2, none⟩ = some (.slice ab n c) := by
      have h := (hg.block _ (heap_lt HB.out) (by simp)).trans HB.out
      simp only [World.cell?, h]
      rfl
    clear hP hR hg
    by_cases hlt : i < n
    · have hlt' : i < ags.length := by rw [HLn ()]; exact hlt
      obtain ⟨a, hia⟩ : ∃ a, ags[i]? = some a := ⟨_, List.getElem?_eq_getElem hlt'⟩
      obtain ⟨B, off, wv, rfl, hat, hin, hnc⟩ := HR1.out wr (grownBy_trans HG2.out HG.out) i _ hia
      have hwl : a.wd.length ≤ 100 := HF.out a (List.mem_of_getElem? hia)
      have HTk : Hid (ags.take (i + 1) = P.map (·.1) ++ [a]) := by
        show _ = _
        rw [HP.out, List.take_add_one, hia]
        rfl
      obtain ⟨k0, k1, k2, k3, k4, k5, k6, k7, k8, k9, k10, k11⟩ := hat
      obtain ⟨ab2, c2, rfl⟩ := hin.form
      have HIn : Hid (Ints wr (.slice ab2 a.wd.length c2) a.wd) := hin
      obtain ⟨m, hm⟩ : ∃ m, a.wd.length = m := ⟨_, rfl⟩
      have HMl : Hid (a.wd.length ≤ 100) := hwl
      rw [hm] at HIn k10
      have hltI : (i : Int) < n := by omega
      have hiI : (0 : Int) ≤ i := by omega
      have H1 : Hid ((wr.alloc (.cells (agc a (.slice ab2 m c2)) 45)).heap[wr.heap.size]? = some (.cells (agc a (.slice ab2 m c2)) 45)) := heap_alloc_new _ _
      have HGr : Hid (wr.grownBy (wr.alloc (.cells (agc a (.slice ab2 m c2)) 45)) none) := grow1 _ _
      have HIn1 : Hid (Ints (wr.alloc (.cells (agc a (.slice ab2 m c2)) 45)) (.slice ab2 m c2) a.wd) := HIn.out.kept (grow1 _ _)
      clear hin hwl hm hlt' hia
      generalize hc6 : Code.region 6 _ _ = c6
      generalize hc7 : Code.region 7 _ _ = c7
      go_wp2_with fail
      change Code.wp _ _ _ _ (wr.alloc (.cells (agc a (.slice ab2 m c2)) 45))
      generalize wr.alloc (.cells (agc a (.slice ab2 m c2)) 45) = w1 at *
      clear k0 k1 k2 k3 k4 k5 k6 k7 k8 k9 k10 k11
      subst hc6
      have h1 := H1.out
      have j10 : w1.cell? ⟨wr.heap.size, 10, none⟩ = some (.slice ab2 m c2) := by
        simp only [World.cell?, h1]
        rfl
      clear h1
      go_wp2_with (at_builtin; refine wpList_append_ints rfl _ _ rfl W2.heap.size (.slice none 0 0) [] rfl (OwI.nil _ _) (.slice ab2 m c2) a.wd rfl HIn1.out (by simp; have := HMl.out; omega) (by have := HG.out.size; have := HGr.out.size; omega) ?_)
      intro v' w2 hO hg
      (try rw [List.nil_append] at hO)
      obtain ⟨ab3, c3, rfl⟩ := hO.form
      obtain ⟨m3, hm3⟩ : ∃ m3, a.wd.length = m3 := ⟨_, rfl⟩
      rw [hm3] at hO ⊢
      have hg0 : w1.grownBy w2 none := hg
      have h2 : w2.heap[wr.heap.size]? = some (.cells (agc a (.slice ab2 m c2)) 45) := (hg0.block _ (heap_lt H1.out) (by simp)).trans H1.out
      have i10 : w2.cell? ⟨wr.heap.size, 10, none⟩ = some (.slice ab2 m c2) := by
        simp only [World.cell?, h2]
        rfl
      have f10 : w2.frozen? ⟨wr.heap.size, 10, none⟩ = false := by
        simp only [World.frozen?, h2]
        rfl
      have HGr3 : Hid (wr.grownBy (w2.setCell ⟨wr.heap.size, 10, none⟩ (.slice ab3 m3 c3)) none) := grown_set (grownBy_trans HGr.out hg0) (Nat.le_refl _)
      have H3 : Hid ((w2.setCell ⟨wr.heap.size, 10, none⟩ (.slice ab3 m3 c3)).heap[wr.heap.size]? = some (.cells (agc a (.slice ab3 m3 c3)) 45)) := by
        show _ = _
        simp [World.setCell, Array.getElem?_modify, h2]
      have HO3 : Hid (OwI (w2.setCell ⟨wr.heap.size, 10, none⟩ (.slice ab3 m3 c3)) W2.heap.size (.slice ab3 m3 c3) a.wd) := hO.kept (grownBy_setCell _ _ _ _) (by
        cases hob : (Value.slice ab3 m3 c3).ownBlock with
        | none => exact .inl rfl
        | some g =>
          refine .inr fun e => ?_
          obtain rfl := Option.some.inj e
          obtain ⟨cur, ht⟩ := hO.tag hob
          rw [h2] at ht
          simp at ht)
      clear hO hg hg0 h2 hm3 j10
      go_wp2_with fail
      change Code.wp _ _ _ _ (w2.setCell ⟨wr.heap.size, 10, none⟩ (.slice ab3 m3 c3))
      clear i10 f10
      generalize w2.setCell ⟨wr.heap.size, 10, none⟩ (.slice ab3 m3 c3) = w3 at *
      subst hc7
      have HG23 : Hid (W2.grownBy (w3.alloc (.cells (agc a (.slice ab3 m3 c3)) 45)) none) := grownBy_trans HG.out (grownBy_trans HGr3.out (grow1 _ _))
      have HR3 : Hid (RowA (w3.alloc (.cells (agc a (.slice ab3 m3 c3)) 45)) W2.heap.size (.slice ao i cp) P) := HR.out.kept0 (grownBy_trans HGr3.out (grow1 _ _))
      have h3 := H3.out
      have l0 : w3.cell? ⟨wr.heap.size, 0, none⟩ = some (.int .i64 a.k) := by simp only [World.cell?, h3]; rfl
      have l1 : w3.cell? ⟨wr.heap.size, 1, none⟩ = some (.string a.nm) := by simp only [World.cell?, h3]; rfl
      have l2 : w3.cell? ⟨wr.heap.size, 2, none⟩ = some (.bool a.z.a) := by simp only [World.cell?, h3]; rfl
      have l3 : w3.cell? ⟨wr.heap.size, 3, none⟩ = some (.string a.z.b) := by simp only [World.cell?, h3]; rfl
      have l4 : w3.cell? ⟨wr.heap.size, 4, none⟩ = some (.bool a.z.c) := by simp only [World.cell?, h3]; rfl
      have l5 : w3.cell? ⟨wr.heap.size, 5, none⟩ = some (.string a.z.d) := by simp only [World.cell?, h3]; rfl
      have l6 : w3.cell? ⟨wr.heap.size, 6, none⟩ = some (.bool a.z.e) := by simp only [World.cell?, h3]; rfl
      have l7 : w3.cell? ⟨wr.heap.size, 7, none⟩ = some (.string a.z.f) := by simp only [World.cell?, h3]; rfl
      have l8 : w3.cell? ⟨wr.heap.size, 8, none⟩ = some (.bool a.z.g) := by simp only [World.cell?, h3]; rfl
      have l9 : w3.cell? ⟨wr.heap.size, 9, none⟩ = some (.string a.z.h) := by simp only [World.cell?, h3]; rfl
      have l10 : w3.cell? ⟨wr.heap.size, 10, none⟩ = some (.slice ab3 m3 c3) := by simp only [World.cell?, h3]; rfl
      have l11 : w3.cell? ⟨wr.heap.size, 11, none⟩ = some (.int .i64 a.ct) := by simp only [World.cell?, h3]; rfl
      clear h3
      go_wp2_with (at_builtin; refine wpList_append_arg1 rfl _ _ rfl W2.heap.size (.slice ao i cp) P rfl HR3.out a ab3 m3 c3 w3.heap.size rfl (heap_alloc_new _ _) (HO3.out.kept0 (grow1 _ _)) (by rw [HPl.out]; omega) (by have := HG23.out.size; exact this) ?_)
      intro v4 w4 hR4 hg4
      have HR4 : Hid (RowA w4 W2.heap.size v4 (P ++ [(a, .slice ab3 m3 c3)])) := hR4
      have HG4 : Hid (W2.grownBy w4 none) := grownBy_rowA HG23.out HR3.out (Nat.le_refl _) hg4
      clear hR4 hg4 l0 l1 l2 l3 l4 l5 l6 l7 l8 l9 l10 l11
      go_wp2_with fail
      go_roundw
      case rel => exact ⟨i + 1, P ++ [(a, .slice ab3 m3 c3)], by omega, num_eq (by omega), by rw [HTk.out]; simp, HR4.out, HG4.out⟩
      case measure => simp; omega
    · have e : i = n := by omega
      subst e
      have HPf : Hid (P.map (·.1) = ags) := by
        show _ = _
        rw [HP.out, ← HLn (), List.take_length]
      have HR5 : Hid (RowA (wr.alloc (.cells (agc mkA (.slice none 0 0)) 45)) W2.heap.size (.slice ao i cp) P) := HR.out.kept0 (grow1 _ _)
      have HG5 : Hid (W2.grownBy (wr.alloc (.cells (agc mkA (.slice none 0 0)) 45)) none) := grownBy_trans HG.out (grow1 _ _)
      obtain ⟨n, hni⟩ : ∃ n, n = i := ⟨_, rfl⟩
      subst hni
      go_wp2_with (at_builtin; refine wpList_append_arg1 rfl _ _ rfl W2.heap.size (.slice ao n cp) P rfl HR5.out mkA none 0 0 wr.heap.size rfl (heap_alloc_new _ _) (OwI.nil _ _) (by rw [HPl.out]; omega) (by have := HG5.out.size; exact this) ?_)
      intro v5 w5 hR6 hg6
      have hG6 := grownBy_rowA HG5.out HR5.out (Nat.le_refl _) hg6
      obtain ⟨ab4, c4, rfl⟩ := hR6.form
      have hl6 : (P ++ [(mkA, Value.slice none 0 0)]).length = n + 1 := by
        rw [List.length_append, HPl.out]
        rfl
      rw [hl6] at hR6 ⊢
      have hcc := (lnq_row (vb := vb) (nm := nm) hR6 HPf.out HPl.out).2
      have hb : w5.heap[w.heap.size]? = some (sObj vb nm (.slice ab n c)) := (hG6.block _ (heap_lt HB.out) (by simp)).trans HB.out
      have hz : w5.heap[w.heap.size + 1]? = some stZ := (hG6.block _ (heap_lt HZ.out) (by simp)).trans HZ.out
      have b2 : w5.cell? ⟨w.heap.size, 2, none⟩ = some (.slice ab n c) := by
        simp only [World.cell?, hb]
        rfl
      have fb2 : w5.frozen? ⟨w.heap.size, 2, none⟩ = false := by
        simp only [World.frozen?, hb]
        rfl
      have hs2 : w.heap.size < W2.heap.size := by have := HSz.out; omega
      have hs3 : w.heap.size + 1 < W2.heap.size := by have := HSz.out; omega
      have hb6 : (w5.setCell ⟨w.heap.size, 2, none⟩ (.slice ab4 n c4)).heap[w.heap.size]? = some (sObj vb nm (.slice ab4 n c4)) := by
        simp [World.setCell, Array.getElem?_modify, hb]
      have hz6 : (w5.setCell ⟨w.heap.size, 2, none⟩ (.slice ab4 n c4)).heap[w.heap.size + 1]? = some stZ := by
        have e : ¬ (w.heap.size = w.heap.size + 1) := by omega
        simp [World.setCell, Array.getElem?_modify, hz]
      have HR7 : Hid (RowA (w5.setCell ⟨w.heap.size, 2, none⟩ (.slice ab4 n c4)) W2.heap.size (.slice ab4 (n + 1) c4) (P ++ [(mkA, .slice none 0 0)])) := hR6.keptB hs2 (grownBy_setCell _ _ _ _)
      have HG7 : Hid (w.grownBy (w5.setCell ⟨w.heap.size, 2, none⟩ (.slice ab4 n c4)) none) := grown_set (grownBy_trans HG2.out hG6) (Nat.le_refl _)
      have hcI : ((n : Int) + 1) ≤ c4 := by omega
      have hn0 : (0 : Int) ≤ n := by omega
      have hn1 : (n : Int) ≤ c4 := by omega
      clear hb hz hR6 hG6 hg6 hl6
      go_wp2_with fail
      change Code.wp _ _ _ _ (w5.setCell ⟨w.heap.size, 2, none⟩ (.slice ab4 n c4))
      clear b2 fb2
      generalize (w5.setCell ⟨w.heap.size, 2, none⟩ (.slice ab4 n c4)) = w6 at *
      subst hc9
      have q0 : w6.cell? ⟨w.heap.size, 0, none⟩ = some (.string vb) := by simp only [World.cell?, hb6]; rfl
      have q1 : w6.cell? ⟨w.heap.size, 1, none⟩ = some (.string nm) := by simp only [World.cell?, hb6]; rfl
      have q2 : w6.cell? ⟨w.heap.size, 2, none⟩ = some (.slice ab4 n c4) := by simp only [World.cell?, hb6]; rfl
      have z0 : w6.cell? ⟨w.heap.size + 1, 0, none⟩ = some (.string eS) := by simp only [World.cell?, hz6]; rfl
      have z1 : w6.cell? ⟨w.heap.size + 1, 1, none⟩ = some (.string eS) := by simp only [World.cell?, hz6]; rfl
      have z2 : w6.cell? ⟨w.heap.size + 1, 2, none⟩ = some (.slice none 0 0) := by simp only [World.cell?, hz6]; rfl
      have y0 : w6.frozen? ⟨w.heap.size + 1, 0, none⟩ = false := by simp only [World.frozen?, hz6]; rfl
      have y1 : w6.frozen? ⟨w.heap.size + 1, 1, none⟩ = false := by simp only [World.frozen?, hz6]; rfl
      have y2 : w6.frozen? ⟨w.heap.size + 1, 2, none⟩ = false := by simp only [World.frozen?, hz6]; rfl
      have H9 : Hid ((((w6.setCell ⟨w.heap.size + 1, 0, none⟩ (.string vb)).setCell ⟨w.heap.size + 1, 1, none⟩ (.string nm)).setCell ⟨w.heap.size + 1, 2, none⟩ (.slice ab4 n c4)).heap[w.heap.size + 1]? = some (.cells #[.string vb, .string nm, .slice ab4 n c4] 24)) := by
        show _ = _
        simp [World.setCell, Array.getElem?_modify, hz6]
      have HG9 : Hid (w.grownBy (((w6.setCell ⟨w.heap.size + 1, 0, none⟩ (.string vb)).setCell ⟨w.heap.size + 1, 1, none⟩ (.string nm)).setCell ⟨w.heap.size + 1, 2, none⟩ (.slice ab4 n c4)) none) := grown_set (grown_set (grown_set HG7.out (by omega)) (by omega)) (by omega)
      have HR9 : Hid (RowA (((w6.setCell ⟨w.heap.size + 1, 0, none⟩ (.string vb)).setCell ⟨w.heap.size + 1, 1, none⟩ (.string nm)).setCell ⟨w.heap.size + 1, 2, none⟩ (.slice ab4 n c4)) W2.heap.size (.slice ab4 (n + 1) c4) (P ++ [(mkA, .slice none 0 0)])) := ((HR7.out.keptB hs3 (grownBy_setCell _ _ _ _)).keptB hs3 (grownBy_setCell _ _ _ _)).keptB hs3 (grownBy_setCell _ _ _ _)
      clear hb6 hz6
      go_wp2_with fail
      refine bodyPost_ret (res_cellSt rfl _ _ (w.heap.size + 1) _ _ _ _ _ rfl H9.out) rfl ?_
      exact ⟨(lnq_row HR9.out HPf.out HPl.out).1, HG9.out⟩
end Go.Proofs.YtdcadiaeaclpgaaGreatDoor
