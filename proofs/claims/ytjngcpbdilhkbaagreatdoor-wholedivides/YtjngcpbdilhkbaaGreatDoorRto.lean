/-
  The program's Root.
-/
import Derived.Test.YtjngcpbdilhkbaaGreatDoorRtd
import Derived.Test.YtjngcpbdilhkbaaGreatDoorBunDva
import Derived.Test.YtjngcpbdilhkbaaGreatDoorPrw
namespace Go.Proofs.YtjngcpbdilhkbaaGreatDoor
open Go.RowKit Go.Lib Go.Sort

/-- The three blocks that Root lays: its argument, its results. -/
theorem blksR {n1 : Bool} {m1 : ByteArray} {w w1 : World} (g : (((w.alloc (wObj n1 m1)).alloc (wObj false eS)).alloc (wObj false eS)).grownBy w1 none) :
    WBlk w1 w.heap.size (.bool n1) (.string m1) ∧ WBlk w1 (w.heap.size + 1) (.bool false) (.string eS) ∧ WBlk w1 (w.heap.size + 1 + 1) (.bool false) (.string eS) := by
  refine ⟨WBlk.kept (old_alloc _ _ (old_alloc _ _ (heap_alloc_new _ _))) g (by simp), WBlk.kept (old_alloc _ _ (heap_alloc2_new _ _ _)) g (by simp), WBlk.kept (at_alloc3 _ _ _ _) g (by simp)⟩

set_option maxHeartbeats 1600000 in
set_option maxRecDepth 1000000 in
theorem root_no (neg : Bool) (mag : ByteArray) (hm : mag.size ≤ maxLen) (h : may neg mag = false) (w : World) :
    Calls Tryz.prog 24 #[whole neg mag] w fun e w' => e = .returned (.tuple #[whole false eS, whole false eS, .int .i64 2]) ∧ w.grownBy w' none := by
  have HC : Hid (∀ w, Calls Tryz.prog 15 #[whole neg mag] w fun e w' => e = .returned (.int .i64 2) ∧ w.grownBy w' none) := fun w => by
    have := check_any neg mag hm w
    rw [chk_no h] at this
    refine this.mono ?_
    rintro e w' ⟨rfl, rfl⟩
    exact ⟨rfl, grow1 _ _⟩
  clear h
  go_enter Tryz.func24, Tryz.ntmps24
  go_wp2_with fail
  refine (HC.out _).mono ?_
  rintro e w1 ⟨rfl, g1⟩
  have HG1 : Hid ((((w.alloc (wObj neg mag)).alloc (wObj false eS)).alloc (wObj false eS)).grownBy w1 none) := g1
  clear g1 HC
  go_wp2_with fail
  refine (zero_any _).mono ?_
  rintro e w2 ⟨rfl, rfl⟩
  go_wp2_with fail
  refine (zero_any _).mono ?_
  rintro e w2 ⟨rfl, rfl⟩
  have HG2 : Hid ((((w.alloc (wObj neg mag)).alloc (wObj false eS)).alloc (wObj false eS)).grownBy ((w1.alloc (wObj false eS)).alloc (wObj false eS)) none) := grownBy_trans HG1.out (grow2 _ _ _)
  obtain ⟨_, hC, hD⟩ := blksR HG2.out
  have c0 := hC.c0
  have c1 := hC.c1
  have c2 := hC.fr 0
  have c3 := hC.fr 1
  have d0 := hD.c0
  have d1 := hD.c1
  have d2 := hD.fr 0
  have d3 := hD.fr 1
  go_wp2_with fail
  refine bodyPost_ret (res_cell2_tmp rfl _ _ (w.heap.size + 1) (w.heap.size + 1 + 1) _ _ _ _ _ _ _ _ rfl (((hC.put _ _).other (by omega)).other (by omega)) rfl (((hD.other (by omega)).other (by omega)).put _ _)) rfl ?_
  exact ⟨rfl, grown_set (grown_set (grown_set (grown_set (grownBy_trans (grow3 _ _ _ _) HG2.out) (by omega)) (by omega)) (by omega)) (by omega)⟩

set_option maxHeartbeats 1600000 in
set_option maxRecDepth 1000000 in
theorem root_neg (mag : ByteArray) (h : may true mag = true) (w : World) :
    Calls Tryz.prog 24 #[whole true mag] w fun e w' => e = .returned (.tuple #[whole false eS, whole false eS, .int .i64 7]) ∧ w.grownBy w' none := by
  have hm := may_size h
  have HC : Hid (∀ w, Calls Tryz.prog 15 #[whole true mag] w fun e w' => e = .returned (.int .i64 0) ∧ w.grownBy w' none) := fun w => by
    have := check_any true mag (by unfold maxLen; omega) w
    rw [chk_yes h] at this
    refine this.mono ?_
    rintro e w' ⟨rfl, rfl⟩
    exact ⟨rfl, grow1 _ _⟩
  clear h hm
  go_enter Tryz.func24, Tryz.ntmps24
  go_wp2_with fail
  refine (HC.out _).mono ?_
  rintro e w1 ⟨rfl, g1⟩
  have HG1 : Hid ((((w.alloc (wObj true mag)).alloc (wObj false eS)).alloc (wObj false eS)).grownBy w1 none) := g1
  obtain ⟨hA, _, _⟩ := blksR g1
  have a0 := hA.c0
  clear g1 HC
  go_wp2_with fail
  refine (zero_any _).mono ?_
  rintro e w2 ⟨rfl, rfl⟩
  clear a0
  go_wp2_with fail
  refine (zero_any _).mono ?_
  rintro e w2 ⟨rfl, rfl⟩
  have HG2 : Hid ((((w.alloc (wObj true mag)).alloc (wObj false eS)).alloc (wObj false eS)).grownBy ((w1.alloc (wObj false eS)).alloc (wObj false eS)) none) := grownBy_trans HG1.out (grow2 _ _ _)
  clear hA
  obtain ⟨_, hC, hD⟩ := blksR HG2.out
  have c0 := hC.c0
  have c1 := hC.c1
  have c2 := hC.fr 0
  have c3 := hC.fr 1
  have d0 := hD.c0
  have d1 := hD.c1
  have d2 := hD.fr 0
  have d3 := hD.fr 1
  go_wp2_with fail
  refine bodyPost_ret (res_cell2_tmp rfl _ _ (w.heap.size + 1) (w.heap.size + 1 + 1) _ _ _ _ _ _ _ _ rfl (((hC.put _ _).other (by omega)).other (by omega)) rfl (((hD.other (by omega)).other (by omega)).put _ _)) rfl ?_
  exact ⟨rfl, grown_set (grown_set (grown_set (grown_set (grownBy_trans (grow3 _ _ _ _) HG2.out) (by omega)) (by omega)) (by omega)) (by omega)⟩

/-- What Root answers of a number that is not below 0. -/
def RootR (V : Nat) (e : Ending) : Prop := ∃ r s s', e = .returned (.tuple #[whole false s, whole false s', .int .i64 0]) ∧ r * r ≤ V ∧ V < (r + 1) * (r + 1) ∧ bN s = magN r ∧ bN s' = magN (V - r * r)

set_option maxHeartbeats 3200000 in
set_option maxRecDepth 1000000 in
theorem root_yes (mag : ByteArray) (h : may false mag = true) (w : World) :
    Calls Tryz.prog 24 #[whole false mag] w fun e w' => RootR (val (bN mag)) e ∧ w.grownBy w' none := by
  have hm := may_size h
  have HM : Hid (may false mag = true ∧ mag.size ≤ 16384) := ⟨h, hm⟩
  have HC : Hid (∀ w, Calls Tryz.prog 15 #[whole false mag] w fun e w' => e = .returned (.int .i64 0) ∧ w.grownBy w' none) := fun w => by
    have := check_any false mag (by unfold maxLen; omega) w
    rw [chk_yes h] at this
    refine this.mono ?_
    rintro e w' ⟨rfl, rfl⟩
    exact ⟨rfl, grow1 _ _⟩
  clear h hm
  go_enter Tryz.func24, Tryz.ntmps24
  go_wp2_with fail
  refine (HC.out _).mono ?_
  rintro e w1 ⟨rfl, g1⟩
  have HG1 : Hid ((((w.alloc (wObj false mag)).alloc (wObj false eS)).alloc (wObj false eS)).grownBy w1 none) := g1
  obtain ⟨hA, _, _⟩ := blksR g1
  have a0 := hA.c0
  have a1 := hA.c1
  clear g1 HC
  go_wp2_with fail
  refine (digitsOf_any mag HM.out.2 _).mono ?_
  rintro e w2 ⟨B, L, rfl, hB, hL, g2, l2, r2, v2⟩
  have HRt : Hid (Calls Tryz.prog 50 #[.slice (some ⟨B, 0, none⟩) L.length L.length] w2 (RtR w2 (nv B32 L) L.length)) := rootDigits_any _ w2 _ L rfl hL.d4 r2 (trim_digits HM.out.1 l2 r2 v2) (by have := HM.out.2; omega)
  have HL : Hid (w1.heap.size ≤ B ∧ BlkL w2 B 64 enc4 (ints L) ∧ L.length ≤ 4096 ∧ (∀ x ∈ L, x < B32) ∧ nv B32 L = val (bN mag) ∧ w1.grownBy w2 none) := ⟨hB, hL, by have := HM.out.2; omega, r2, v2, g2⟩
  obtain ⟨nl, hnl⟩ : ∃ nl, L.length = nl := ⟨_, rfl⟩
  have HNL : Hid (L.length = nl) := hnl
  rw [hnl] at HRt ⊢
  clear hB hL g2 l2 r2 v2 a0 a1 hA hnl
  go_wp2_with fail
  refine HRt.out.mono ?_
  rintro e w3 ⟨v3, K3, rfl, k1, k2, k3, k4, k5, k6, k7⟩
  have HK3 : Hid (Row w3 w2.heap.size v3 K3 ∧ (∀ x ∈ K3, x < B32) ∧ Trim K3 ∧ nv B32 K3 * nv B32 K3 ≤ nv B32 L ∧ nv B32 L < (nv B32 K3 + 1) * (nv B32 K3 + 1) ∧ K3.length ≤ nl ∧ w2.grownBy w3 none) := ⟨k1, k2, k3, k4, k5, k6, k7⟩
  have HBl : Hid (bl (nv B32 L) ≤ 131072) := by
    have := (bl_max HM.out.1 131072 rfl).2
    rw [← HL.out.2.2.2.2.1] at this
    exact this
  have HMd : Hid (Calls Tryz.prog 33 #[.bool false, v3] w3 fun e w'' => (∃ s, e = .returned (.tuple #[whole false s, .int .i64 0]) ∧ bN s = magN (nv B32 K3)) ∧ w3.grownBy w'' none) := by
    refine (madeP_any false w3 v3 K3 k1.d4 k2 (by have := HL.out.2.2.1; have := HNL.out; omega)).mono ?_
    rintro e w' ⟨hmd, hg⟩
    refine ⟨?_, hg⟩
    rcases hmd with ⟨_, s, rfl, hs⟩ | ⟨hbig, _⟩
    · exact ⟨s, rfl, hs⟩
    · have h1 := bl_mono (root_le k4)
      have := HBl.out
      omega
  clear k1 k2 k3 k4 k5 k6 k7 HRt
  go_wp2_with fail
  refine HMd.out.mono ?_
  rintro e w4 ⟨⟨s, rfl, hs⟩, g4⟩
  have HS : Hid (bN s = magN (nv B32 K3)) := hs
  have G4 := grownBy_trans HG1.out (grownBy_trans HL.out.2.2.2.2.2 (grownBy_trans HK3.out.2.2.2.2.2.2 g4))
  obtain ⟨_, hC, hD⟩ := blksR G4
  have c0 := hC.c0
  have c1 := hC.c1
  have c2 := hC.fr 0
  have c3 := hC.fr 1
  have hwl : w.heap.size + 1 + 1 + 1 ≤ w1.heap.size := by have := HG1.out.size; simpa using this
  have h12 := HL.out.2.2.2.2.2.size
  -- behind the store into the root's block
  obtain ⟨w5, hw5⟩ : ∃ w5, (w4.setCell ⟨w.heap.size + 1, 0, none⟩ (.bool false)).setCell ⟨w.heap.size + 1, 1, none⟩ (.string s) = w5 := ⟨_, rfl⟩
  have hC5 : WBlk w5 (w.heap.size + 1) (.bool false) (.string s) := by rw [← hw5]; exact hC.put _ _
  have hD5 : WBlk w5 (w.heap.size + 1 + 1) (.bool false) (.string eS) := by rw [← hw5]; exact (hD.other (by omega)).other (by omega)
  have hr5 : Row w5 w2.heap.size v3 K3 := by
    have hne : v3.ownBlock = none ∨ v3.ownBlock ≠ some (w.heap.size + 1) := by
      cases he : v3.ownBlock with
      | none => exact .inl rfl
      | some g =>
        have := (HK3.out.1.lt he).1
        exact .inr (by intro e; injection e with e; omega)
    rw [← hw5]
    exact ((HK3.out.1.kept g4 (by cases v3.ownBlock <;> simp)).kept (grownBy_setCell _ _ _ _) hne).kept (grownBy_setCell _ _ _ _) hne
  have hb5 : BlkL w5 B 64 enc4 (ints L) := by
    have hB := HL.out.1
    rw [← hw5]
    exact ((HL.out.2.1.kept (grownBy_trans HK3.out.2.2.2.2.2.2 g4) (by simp)).kept (grownBy_setCell _ _ _ _) (by intro e; injection e with e; omega)).kept (grownBy_setCell _ _ _ _) (by intro e; injection e with e; omega)
  have hg5 : w.grownBy w5 none := by
    rw [← hw5]
    exact grown_set (grown_set (grownBy_trans (grow3 _ _ _ _) G4) (by omega)) (by omega)
  have h5B : B < w5.heap.size := hb5.lt
  have HX : Hid (WBlk w5 (w.heap.size + 1) (.bool false) (.string s) ∧ WBlk w5 (w.heap.size + 1 + 1) (.bool false) (.string eS) ∧ Row w5 w2.heap.size v3 K3 ∧ BlkL w5 B 64 enc4 (ints L) ∧ w.grownBy w5 none ∧ w1.heap.size ≤ B ∧ w.heap.size + 1 + 1 + 1 ≤ w1.heap.size ∧ B < w5.heap.size) := ⟨hC5, hD5, hr5, hb5, hg5, HL.out.1, hwl, h5B⟩
  have HW5 : Hid ((w4.setCell ⟨w.heap.size + 1, 0, none⟩ (.bool false)).setCell ⟨w.heap.size + 1, 1, none⟩ (.string s) = w5) := hw5
  clear hC5 hD5 hr5 hb5 hg5 hwl h12 hw5 g4 G4 hs hD h5B
  go_wp2_with fail
  rw [HW5.out]
  have HPr : Hid (Calls Tryz.prog 46 #[v3, v3] w5 fun e w' => ∃ v K, e = .returned v ∧ Row w' w5.heap.size v K ∧ (∀ x ∈ K, x < B32) ∧ nv B32 K = nv B32 K3 * nv B32 K3 ∧ Trim K ∧ w5.grownBy w' none) := by
    have hl : K3.length ≤ 4096 := by have := HK3.out.2.2.2.2.2.1; have := HL.out.2.2.1; have := HNL.out; omega
    refine (productP_row w5 v3 v3 K3 K3 HX.out.2.2.1.d4 HX.out.2.2.1.d4 HK3.out.2.1 HK3.out.2.1 (by omega) (by omega)).mono ?_
    rintro e w' ⟨v, K, rfl, p1, p2, p3, p4, p5, p6⟩
    exact ⟨v, K, rfl, p1, p2, p3, p5, p6⟩
  refine HPr.out.mono ?_
  rintro e w6 ⟨v6, K6, rfl, p1, p2, p3, p5, p6⟩
  have HTk : Hid (Calls Tryz.prog 34 #[.slice (some ⟨B, 0, none⟩) nl nl, v6] w6 fun e w' => ∃ v' K, e = .returned v' ∧ D4 w' v' K ∧ (∀ x ∈ K, x < B32) ∧ K.length ≤ 4096 ∧ nv B32 K = nv B32 L - nv B32 K3 * nv B32 K3 ∧ w6.grownBy w' (some B)) := by
    have hb6 := HX.out.2.2.2.1.kept p6 (by simp)
    have hl := HL.out.2.2.1
    have hrow := hb6.row (base := B) (Nat.le_refl _) (by unfold maxLen; omega)
    have hlen : K6.length ≤ L.length := trim_length p5 (by rw [p3]; exact Nat.lt_of_le_of_lt HK3.out.2.2.2.1 (nv_lt B32 L HL.out.2.2.2.1))
    have := takeFrom_row w6 B _ v6 L K6 hrow p1.d4 (by
      intro b n c e
      rcases p1.cases with ⟨e2, _⟩ | ⟨g2, c2, e2, hg2, _⟩
      · rw [e2] at e; cases e
      · rw [e2] at e
        injection e with e _ _
        injection e with e
        subst e
        intro he
        have h1 := HX.out.2.2.2.2.2.2.2
        have he2 : some g2 = some B := he
        injection he2 with he2
        omega) HL.out.2.2.2.1 p2 hlen (by rw [p3]; exact HK3.out.2.2.2.1) (by omega)
    rw [HNL.out] at this
    refine this.mono ?_
    rintro e w' ⟨v', K, rfl, t1, t2, t3, t4, t5, t6⟩
    exact ⟨v', K, rfl, t1, t2, by have := HNL.out; omega, by rw [t5, p3], t6⟩
  have HP6 : Hid (w5.grownBy w6 none) := p6
  clear p1 p2 p3 p5 p6 HPr c0 c1 c2 c3 hC
  go_wp2_with fail
  refine HTk.out.mono ?_
  rintro e w7 ⟨v7, K7, rfl, t1, t2, t4, t5, t6⟩
  have HMd2 : Hid (Calls Tryz.prog 33 #[.bool false, v7] w7 fun e w'' => (∃ s, e = .returned (.tuple #[whole false s, .int .i64 0]) ∧ bN s = magN (nv B32 L - nv B32 K3 * nv B32 K3)) ∧ w7.grownBy w'' none) := by
    refine (madeP_any false w7 v7 K7 t1 t2 (by omega)).mono ?_
    rintro e w' ⟨hmd, hg⟩
    rw [t5] at hmd
    refine ⟨?_, hg⟩
    rcases hmd with ⟨_, s, rfl, hs⟩ | ⟨hbig, _⟩
    · exact ⟨s, rfl, hs⟩
    · have h1 := bl_mono (Nat.sub_le (nv B32 L) (nv B32 K3 * nv B32 K3))
      have := HBl.out
      omega
  have HT6 : Hid (w6.grownBy w7 (some B)) := t6
  clear t1 t2 t4 t5 t6 HTk
  go_wp2_with fail
  refine HMd2.out.mono ?_
  rintro e w8 ⟨⟨s', rfl, hs'⟩, g8⟩
  have HS' : Hid (bN s' = magN (nv B32 L - nv B32 K3 * nv B32 K3)) := hs'
  obtain ⟨x1, x2, x3, x4, x5, x6, x7, x8⟩ := HX.out
  have hC8 : WBlk w8 (w.heap.size + 1) (.bool false) (.string s) := (((x1.kept HP6.out (by simp)).kept HT6.out (by intro e; injection e with e; omega)).kept g8 (by simp))
  have hD8 : WBlk w8 (w.heap.size + 1 + 1) (.bool false) (.string eS) := (((x2.kept HP6.out (by simp)).kept HT6.out (by intro e; injection e with e; omega)).kept g8 (by simp))
  have hg8 : w.grownBy w8 none := grownBy_trans (grownBy_new (grownBy_trans x5 HP6.out) (by omega) HT6.out) g8
  have c0 := hC8.c0
  have c1 := hC8.c1
  have c2 := hC8.fr 0
  have c3 := hC8.fr 1
  have d0 := hD8.c0
  have d1 := hD8.c1
  have d2 := hD8.fr 0
  have d3 := hD8.fr 1
  have HE : Hid (WBlk w8 (w.heap.size + 1) (.bool false) (.string s) ∧ WBlk w8 (w.heap.size + 1 + 1) (.bool false) (.string eS) ∧ w.grownBy w8 none) := ⟨hC8, hD8, hg8⟩
  obtain ⟨w9, hw9⟩ : ∃ w9, (w8.setCell ⟨w.heap.size + 1 + 1, 0, none⟩ (.bool false)).setCell ⟨w.heap.size + 1 + 1, 1, none⟩ (.string s') = w9 := ⟨_, rfl⟩
  have HW9 : Hid ((w8.setCell ⟨w.heap.size + 1 + 1, 0, none⟩ (.bool false)).setCell ⟨w.heap.size + 1 + 1, 1, none⟩ (.string s') = w9) := hw9
  have hC9 : WBlk w9 (w.heap.size + 1) (.bool false) (.string s) := by rw [← hw9]; exact (hC8.other (by omega)).other (by omega)
  have hD9 : WBlk w9 (w.heap.size + 1 + 1) (.bool false) (.string s') := by rw [← hw9]; exact hD8.put _ _
  have hg9 : w.grownBy w9 none := by rw [← hw9]; exact grown_set (grown_set hg8 (by omega)) (by omega)
  clear x1 x2 x3 x4 x5 x6 x7 x8 hC8 hD8 hg8 g8 hs' hw9
  go_wp2_with fail
  rw [HW9.out]
  clear c0 c1 c2 c3 d0 d1 d2 d3 HW9
  have c0 := hC9.c0
  have c1 := hC9.c1
  have c2 := hC9.fr 0
  have c3 := hC9.fr 1
  have d0 := hD9.c0
  have d1 := hD9.c1
  have d2 := hD9.fr 0
  have d3 := hD9.fr 1
  go_region
  go_wp2_with fail
  refine bodyPost_ret (res_cell2_tmp rfl _ _ (w.heap.size + 1) (w.heap.size + 1 + 1) _ _ _ _ _ _ _ _ rfl (((hC9.put _ _).other (by omega)).other (by omega)) rfl (((hD9.other (by omega)).other (by omega)).put _ _)) rfl ?_
  have hv := HL.out.2.2.2.2.1
  refine ⟨⟨nv B32 K3, s, s', rfl, ?_, ?_, HS.out, ?_⟩, grow_drew (grown_set (grown_set (grown_set (grown_set hg9 (by omega)) (by omega)) (by omega)) (by omega))⟩
  · rw [← hv]; exact HK3.out.2.2.2.1
  · rw [← hv]; exact HK3.out.2.2.2.2.1
  · rw [← hv]; exact HS'.out
end Go.Proofs.YtjngcpbdilhkbaaGreatDoor
