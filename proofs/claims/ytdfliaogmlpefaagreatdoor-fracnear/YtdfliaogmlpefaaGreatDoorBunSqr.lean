/-
  The program's Square, over what Root answers.
  The document's Root.
-/
import Derived.Test.YtdfliaogmlpefaaGreatDoorBunRtd
import Derived.Test.YtdfliaogmlpefaaGreatDoorBunPrg
import Derived.Test.YtdfliaogmlpefaaGreatDoorBunPrd
import Derived.Test.YtdfliaogmlpefaaGreatDoorBunRgc
namespace Go.Proofs.YtdfliaogmlpefaaGreatDoor
open Go.RowKit Go.Lib Go.Sort
set_option maxHeartbeats 3200000
set_option maxRecDepth 1000000
theorem square_err2 (neg : Bool) (mag : ByteArray) {s s' : ByteArray} (HR : Hid (∀ w, Calls Tryz.prog 112 #[whole neg mag] w fun e w' => e = .returned (.tuple #[whole false s, whole false s', .int .i64 2]) ∧ w.grownBy w' none))  (w : World) :
    Calls Tryz.prog 61 #[whole neg mag] w fun e w' => e = .returned (.tuple #[whole false eS, .bool false]) ∧ w.grownBy w' none := by
  go_enter Tryz.func61, Tryz.ntmps61
  go_wp2_with fail
  refine (HR.out _).mono ?_
  rintro e w1 ⟨rfl, g1⟩
  have HG1 : Hid (((w.alloc (wObj neg mag)).alloc (wObj false eS)).grownBy w1 none) := g1
  have HKK : Hid (∀ w', ((w1.alloc (wObj false s)).alloc (wObj false s')).grownBy w' none → w'.cell? ⟨w1.heap.size, 0, none⟩ = some (Value.bool false) ∧ w'.cell? ⟨w1.heap.size, 1, none⟩ = some (Value.string s) ∧ w'.cell? ⟨w1.heap.size + 1, 0, none⟩ = some (Value.bool false) ∧ w'.cell? ⟨w1.heap.size + 1, 1, none⟩ = some (Value.string s')) := keep2 w1 false false s s'
  have HRS : Hid (∀ w', w1.grownBy w' none → WBlk w' (w.heap.size + 1) (.bool false) (.string eS)) := fun w' hg => WBlk.kept (heap_alloc2_new _ _ _) (grownBy_trans HG1.out hg) (by simp)
  clear g1
  go_wp2_with fail
  go_region
  go_wp2_with fail
  refine (zero_any _).mono ?_
  rintro e w3 ⟨rfl, rfl⟩
  have hR := HRS.out (((w1.alloc (wObj false s)).alloc (wObj false s')).alloc (wObj false eS)) (grow3 _ _ _ _)
  have c0 := hR.c0
  have c1 := hR.c1
  have c2 := hR.fr 0
  have c3 := hR.fr 1
  go_wp2_with fail
  refine bodyPost_ret (res_cell_tmp rfl _ _ (w.heap.size + 1) _ _ _ _ rfl (hR.put _ _)) rfl ?_
  exact ⟨rfl, grow_drew (grown_set (grown_set (grownBy_trans (grow2 _ _ _) (grownBy_trans HG1.out (grow3 _ _ _ _))) (by omega)) (by omega))⟩
theorem square_err7 (neg : Bool) (mag : ByteArray) {s s' : ByteArray} (HR : Hid (∀ w, Calls Tryz.prog 112 #[whole neg mag] w fun e w' => e = .returned (.tuple #[whole false s, whole false s', .int .i64 7]) ∧ w.grownBy w' none))  (w : World) :
    Calls Tryz.prog 61 #[whole neg mag] w fun e w' => e = .returned (.tuple #[whole false eS, .bool false]) ∧ w.grownBy w' none := by
  go_enter Tryz.func61, Tryz.ntmps61
  go_wp2_with fail
  refine (HR.out _).mono ?_
  rintro e w1 ⟨rfl, g1⟩
  have HG1 : Hid (((w.alloc (wObj neg mag)).alloc (wObj false eS)).grownBy w1 none) := g1
  have HKK : Hid (∀ w', ((w1.alloc (wObj false s)).alloc (wObj false s')).grownBy w' none → w'.cell? ⟨w1.heap.size, 0, none⟩ = some (Value.bool false) ∧ w'.cell? ⟨w1.heap.size, 1, none⟩ = some (Value.string s) ∧ w'.cell? ⟨w1.heap.size + 1, 0, none⟩ = some (Value.bool false) ∧ w'.cell? ⟨w1.heap.size + 1, 1, none⟩ = some (Value.string s')) := keep2 w1 false false s s'
  have HRS : Hid (∀ w', w1.grownBy w' none → WBlk w' (w.heap.size + 1) (.bool false) (.string eS)) := fun w' hg => WBlk.kept (heap_alloc2_new _ _ _) (grownBy_trans HG1.out hg) (by simp)
  clear g1
  go_wp2_with fail
  go_region
  go_wp2_with fail
  refine (zero_any _).mono ?_
  rintro e w3 ⟨rfl, rfl⟩
  have hR := HRS.out (((w1.alloc (wObj false s)).alloc (wObj false s')).alloc (wObj false eS)) (grow3 _ _ _ _)
  have c0 := hR.c0
  have c1 := hR.c1
  have c2 := hR.fr 0
  have c3 := hR.fr 1
  go_wp2_with fail
  refine bodyPost_ret (res_cell_tmp rfl _ _ (w.heap.size + 1) _ _ _ _ rfl (hR.put _ _)) rfl ?_
  exact ⟨rfl, grow_drew (grown_set (grown_set (grownBy_trans (grow2 _ _ _) (grownBy_trans HG1.out (grow3 _ _ _ _))) (by omega)) (by omega))⟩
theorem square_rest (neg : Bool) (mag : ByteArray) {s s' : ByteArray} (HR : Hid (∀ w, Calls Tryz.prog 112 #[whole neg mag] w fun e w' => e = .returned (.tuple #[whole false s, whole false s', .int .i64 0]) ∧ w.grownBy w' none)) (h1 : (s'.toList == []) = false) (w : World) :
    Calls Tryz.prog 61 #[whole neg mag] w fun e w' => e = .returned (.tuple #[whole false eS, .bool false]) ∧ w.grownBy w' none := by
  go_enter Tryz.func61, Tryz.ntmps61
  go_wp2_with fail
  refine (HR.out _).mono ?_
  rintro e w1 ⟨rfl, g1⟩
  have HG1 : Hid (((w.alloc (wObj neg mag)).alloc (wObj false eS)).grownBy w1 none) := g1
  have HKK : Hid (∀ w', ((w1.alloc (wObj false s)).alloc (wObj false s')).grownBy w' none → w'.cell? ⟨w1.heap.size, 0, none⟩ = some (Value.bool false) ∧ w'.cell? ⟨w1.heap.size, 1, none⟩ = some (Value.string s) ∧ w'.cell? ⟨w1.heap.size + 1, 0, none⟩ = some (Value.bool false) ∧ w'.cell? ⟨w1.heap.size + 1, 1, none⟩ = some (Value.string s')) := keep2 w1 false false s s'
  have HRS : Hid (∀ w', w1.grownBy w' none → WBlk w' (w.heap.size + 1) (.bool false) (.string eS)) := fun w' hg => WBlk.kept (heap_alloc2_new _ _ _) (grownBy_trans HG1.out hg) (by simp)
  clear g1
  go_wp2_with fail
  go_region_held3 (fun w' => w'.cell? ⟨w1.heap.size, 0, none⟩ = some (Value.bool false) ∧ w'.cell? ⟨w1.heap.size, 1, none⟩ = some (Value.string s) ∧ w'.cell? ⟨w1.heap.size + 1, 0, none⟩ = some (Value.bool false) ∧ w'.cell? ⟨w1.heap.size + 1, 1, none⟩ = some (Value.string s'))
    (first | (go_keep; done) | exact HKK.out _ (grow_drew (World.grownBy.refl _ _)) | exact HKK.out _ (grownBy_trans (grow_drew (World.grownBy.refl _ _)) (grow1 _ (wObj false eS))) | fail)
    (first | (go_at_call 104; refine (zero_any _).mono ?_; rintro e w2 ⟨rfl, rfl⟩) | fail)
  go_wp2_with fail
  refine (zero_any _).mono ?_
  rintro e w3 ⟨rfl, rfl⟩
  have hR := HRS.out ((((w1.alloc (wObj false s)).alloc (wObj false s')).alloc (wObj false eS)).alloc (wObj false eS)) (grow4 _ _ _ _ _)
  have c0 := hR.c0
  have c1 := hR.c1
  have c2 := hR.fr 0
  have c3 := hR.fr 1
  go_wp2_with fail
  refine bodyPost_ret (res_cell_tmp rfl _ _ (w.heap.size + 1) _ _ _ _ rfl (hR.put _ _)) rfl ?_
  exact ⟨rfl, grow_drew (grown_set (grown_set (grownBy_trans (grow2 _ _ _) (grownBy_trans HG1.out (grow4 _ _ _ _ _))) (by omega)) (by omega))⟩
theorem square_yes (neg : Bool) (mag : ByteArray) {s s' : ByteArray} (HR : Hid (∀ w, Calls Tryz.prog 112 #[whole neg mag] w fun e w' => e = .returned (.tuple #[whole false s, whole false s', .int .i64 0]) ∧ w.grownBy w' none)) (h1 : s' = eS) (w : World) :
    Calls Tryz.prog 61 #[whole neg mag] w fun e w' => e = .returned (.tuple #[whole false s, .bool true]) ∧ w.grownBy w' none := by
  have h2 : (s'.toList == []) = true := by rw [h1, ByteArray.toList_eq]; rfl
  clear h1
  go_enter Tryz.func61, Tryz.ntmps61
  go_wp2_with fail
  refine (HR.out _).mono ?_
  rintro e w1 ⟨rfl, g1⟩
  have HG1 : Hid (((w.alloc (wObj neg mag)).alloc (wObj false eS)).grownBy w1 none) := g1
  have HKK : Hid (∀ w', ((w1.alloc (wObj false s)).alloc (wObj false s')).grownBy w' none → w'.cell? ⟨w1.heap.size, 0, none⟩ = some (Value.bool false) ∧ w'.cell? ⟨w1.heap.size, 1, none⟩ = some (Value.string s) ∧ w'.cell? ⟨w1.heap.size + 1, 0, none⟩ = some (Value.bool false) ∧ w'.cell? ⟨w1.heap.size + 1, 1, none⟩ = some (Value.string s')) := keep2 w1 false false s s'
  have HRS : Hid (∀ w', w1.grownBy w' none → WBlk w' (w.heap.size + 1) (.bool false) (.string eS)) := fun w' hg => WBlk.kept (heap_alloc2_new _ _ _) (grownBy_trans HG1.out hg) (by simp)
  clear g1
  go_wp2_with fail
  go_region_held3 (fun w' => w'.cell? ⟨w1.heap.size, 0, none⟩ = some (Value.bool false) ∧ w'.cell? ⟨w1.heap.size, 1, none⟩ = some (Value.string s) ∧ w'.cell? ⟨w1.heap.size + 1, 0, none⟩ = some (Value.bool false) ∧ w'.cell? ⟨w1.heap.size + 1, 1, none⟩ = some (Value.string s'))
    (first | (go_keep; done) | exact HKK.out _ (grow_drew (World.grownBy.refl _ _)) | exact HKK.out _ (grownBy_trans (grow_drew (World.grownBy.refl _ _)) (grow1 _ (wObj false eS))) | fail)
    (first | (go_at_call 104; refine (zero_any _).mono ?_; rintro e w2 ⟨rfl, rfl⟩) | fail)
  have hR := HRS.out (((w1.alloc (wObj false s)).alloc (wObj false s')).alloc (wObj false eS)) (grow3 _ _ _ _)
  have c0 := hR.c0
  have c1 := hR.c1
  have c2 := hR.fr 0
  have c3 := hR.fr 1
  go_wp2_with fail
  refine bodyPost_ret (res_cell_tmp rfl _ _ (w.heap.size + 1) _ _ _ _ rfl (hR.put _ _)) rfl ?_
  exact ⟨rfl, grow_drew (grown_set (grown_set (grownBy_trans (grow2 _ _ _) (grownBy_trans HG1.out (grow3 _ _ _ _))) (by omega)) (by omega))⟩
theorem rbits_z (w : World) (v : Value) (L : List Nat) (h : D4 w v L) (hr : ∀ x ∈ L, x < B32) (hT : Trim L) (hl : L.length ≤ 100000000) :
    Calls Tryz.prog 114 #[v] w fun e w' => e = .returned (.int .i64 ((bl (nv B32 L) : Nat) : Int)) ∧ w' = w := by
  have := rbits_any w v L h hr (by omega)
  by_cases h0 : L.length = 0
  · have e : L = [] := List.length_eq_zero_iff.1 h0
    subst e
    exact this
  · rw [← bl_digits hr hT h0] at this
    exact this
theorem rRoot_any (mag : ByteArray) (h : may false mag = true) (w : World) :
    Calls Tryz.prog 65 #[whole false mag] w fun e w' => (∃ r s s', e = .returned (.tuple #[whole false s, whole false s']) ∧ r * r ≤ val (bN mag) ∧ val (bN mag) < (r + 1) * (r + 1) ∧ bN s = magN r ∧ bN s' = magN (val (bN mag) - r * r)) ∧ w.grownBy w' none := by
  have W1 := words_wdt false mag h
  have HWW : Hid (∀ w, Calls Tryz.prog 113 #[.string mag] w fun e w' => ∃ v, e = .returned v ∧ WdT w w' v mag) := W1
  have HBM : Hid (bl (val (bN mag)) ≤ 131072) := (bl_max h 131072 rfl).2
  clear W1 h
  go_enter Tryz.func65, Tryz.ntmps65
  go_wp2_with fail
  refine (HWW.out _).mono ?_
  rintro e w1 ⟨v1, rfl, L, d1, r1, l1, t1, n1, g1⟩
  have HL : Hid (D4 w1 v1 L ∧ (∀ x ∈ L, x < B32) ∧ L.length ≤ 4096 ∧ Trim L ∧ nv B32 L = val (bN mag)) := ⟨d1, r1, l1, t1, n1⟩
  have HBt : Hid (Calls Tryz.prog 114 #[v1] w1 fun e w' => e = .returned (.int .i64 ((bl (nv B32 L) : Nat) : Int)) ∧ w' = w1) := rbits_z w1 v1 L d1 r1 t1 (by omega)
  have HG1 : Hid ((((w.alloc (wObj false mag)).alloc (wObj false eS)).alloc (wObj false eS)).grownBy w1 none) := g1
  clear d1 r1 l1 t1 n1 g1
  go_wp2_with fail
  refine HBt.out.mono ?_
  rintro e w2 ⟨rfl, rfl⟩
  obtain ⟨bn, hbn⟩ : ∃ bn, bl (nv B32 L) = bn := ⟨_, rfl⟩
  rw [hbn]
  have hb2 : bn ≤ 131072 := by rw [← hbn, HL.out.2.2.2.2]; exact HBM.out
  have hbI : (bn : Int) ≤ 131072 := by omega
  have HBN : Hid (bl (nv B32 L) = bn) := hbn
  clear hbn hb2
  have hst : nv B32 L < (0 + 2 ^ (bn / 2 + 1)) * (0 + 2 ^ (bn / 2 + 1)) := by
    have h1 := lt_bl (nv B32 L)
    rw [HBN.out] at h1
    rw [Nat.zero_add, ← Nat.pow_add]
    exact Nat.lt_of_lt_of_le h1 (Nat.pow_le_pow_right (by decide) (by omega))
  have HST : Hid (nv B32 L < (0 + 2 ^ (bn / 2 + 1)) * (0 + 2 ^ (bn / 2 + 1))) := hst
  clear hst
  go_wp2_with fail
  go_loopg [5, 6] (bn / 2 + 1) (fun g s5 s6 wx => ∃ (a : Int) (K : List Nat), s6 = .int .i64 a ∧ a + 1 = (g : Int) ∧ g ≤ 65537 ∧ D4 wx s5 K ∧ (∀ x ∈ K, x < B32) ∧ Trim K ∧ nv B32 K * nv B32 K ≤ nv B32 L ∧ nv B32 L < (nv B32 K + 2 ^ g) * (nv B32 K + 2 ^ g) ∧ w2.grownBy wx none)
  case atStart => exact ⟨((bn / 2 : Nat) : Int), [], rfl, by omega, by omega, .inl ⟨rfl, rfl⟩, by simp, .inl rfl, by simp [nv], by simpa [nv] using HST.out, World.grownBy.refl _ _⟩
  case round =>
    obtain ⟨a, K, rfl, hag, i0, i1, i2, i3, i4, i5, i6⟩ := hrel
    have lK : K.length ≤ 4096 := Nat.le_trans (trim_length i3 (Nat.lt_of_le_of_lt (root_le i4) (nv_lt B32 L HL.out.2.1))) HL.out.2.2.1
    clear HST
    cases gk with
    | zero =>
      obtain rfl : a = -1 := by omega
      have HE : Hid (D4 wr u5 K ∧ (∀ x ∈ K, x < B32) ∧ Trim K ∧ K.length ≤ 4096 ∧ nv B32 K * nv B32 K ≤ nv B32 L ∧ nv B32 L < (nv B32 K + 1) * (nv B32 K + 1) ∧ w2.grownBy wr none) := ⟨i1, i2, i3, lK, i4, by simpa using i5, i6⟩
      have HMd : Hid (Calls Tryz.prog 95 #[.bool false, u5] wr fun e w' => ∃ s, e = .returned (whole false s) ∧ bN s = magN (nv B32 K) ∧ wr.grownBy w' none) := by
        have := made_any false wr u5 K i1 i2 (by omega)
        rw [Bool.false_and] at this
        exact this
      clear i0 i1 i2 i3 i4 i5 i6 hag lK
      go_wp2_with fail
      refine HMd.out.mono ?_
      rintro e w6 ⟨s, rfl, hs, g6⟩
      have HS : Hid (bN s = magN (nv B32 K)) := hs
      have HPr : Hid (Calls Tryz.prog 118 #[u5, u5] w6 fun e w' => ∃ v K', e = .returned v ∧ D4 w' v K' ∧ (∀ x ∈ K', x < B32) ∧ nv B32 K' = nv B32 K * nv B32 K ∧ Trim K' ∧ w6.grownBy w' none) := by
        have hD := HE.out.1.kept g6
        refine (product_any w6 u5 u5 K K hD hD HE.out.2.1 HE.out.2.1 (by have := HE.out.2.2.2.1; omega) (by have := HE.out.2.2.2.1; omega)).mono ?_
        rintro e w' ⟨v, K', rfl, q1, q2, q3, q4, q5, q6⟩
        exact ⟨v, K', rfl, q1, q2, q3, q5, q6⟩
      have HG6 : Hid (w2.grownBy w6 none) := grownBy_trans HE.out.2.2.2.2.2.2 g6
      clear hs g6 HMd
      go_wp2_with fail
      refine HPr.out.mono ?_
      rintro e w7 ⟨v7, K7, rfl, q1, q2, q3, q5, q6⟩
      have HLs : Hid (Calls Tryz.prog 119 #[v1, v7] w7 fun e w' => ∃ v K', e = .returned v ∧ D4 w' v K' ∧ (∀ x ∈ K', x < B32) ∧ nv B32 K' = nv B32 L - nv B32 K * nv B32 K ∧ K'.length ≤ 4096 ∧ w7.grownBy w' none) := by
        have hlen : K7.length ≤ L.length := trim_length q5 (by rw [q3]; exact Nat.lt_of_le_of_lt HE.out.2.2.2.2.1 (nv_lt B32 L HL.out.2.1))
        refine (less_any w7 v1 v7 L K7 (HL.out.1.kept (grownBy_trans HG6.out q6)) q1 HL.out.2.1 q2 (by have := HL.out.2.2.1; omega) hlen (by rw [q3]; exact HE.out.2.2.2.2.1)).mono ?_
        rintro e w' ⟨v, K', rfl, t1, t2, t3, t4, t5, t6⟩
        exact ⟨v, K', rfl, t1, t2, by rw [t3, q3], by have := HL.out.2.2.1; omega, t6⟩
      have HG7 : Hid (w2.grownBy w7 none) := grownBy_trans HG6.out q6
      clear q1 q2 q3 q5 q6 HPr HG6
      go_wp2_with fail
      refine HLs.out.mono ?_
      rintro e w8 ⟨v8, K8, rfl, t1, t2, t3, t4, t5⟩
      have HMd2 : Hid (Calls Tryz.prog 95 #[.bool false, v8] w8 fun e w' => ∃ s, e = .returned (whole false s) ∧ bN s = magN (nv B32 L - nv B32 K * nv B32 K) ∧ w8.grownBy w' none) := by
        have := made_any false w8 v8 K8 t1 t2 (by omega)
        rw [Bool.false_and, t3] at this
        exact this
      have HG8 : Hid (w2.grownBy w8 none) := grownBy_trans HG7.out t5
      clear t1 t2 t3 t4 t5 HLs HG7
      go_wp2_with fail
      refine HMd2.out.mono ?_
      rintro e w9 ⟨s', rfl, hs', g9⟩
      have HS' : Hid (bN s' = magN (nv B32 L - nv B32 K * nv B32 K)) := hs'
      have G9 := grownBy_trans HG1.out (grownBy_trans HG8.out g9)
      obtain ⟨_, hC, hD⟩ := blksR G9
      have HG9 : Hid (w.grownBy w9 none) := grownBy_trans (grow3 _ _ _ _) G9
      have c0 := hC.c0
      have c1 := hC.c1
      have c2 := hC.fr 0
      have c3 := hC.fr 1
      have d0 := hD.c0
      have d1 := hD.c1
      have d2 := hD.fr 0
      have d3 := hD.fr 1
      clear hs' g9 G9 HMd2
      go_wp2_with fail
      refine bodyPost_ret (res_cell2 rfl _ _ (w.heap.size + 1) (w.heap.size + 1 + 1) _ _ _ _ _ _ _ _ rfl (((hC.put _ _).other (by omega)).other (by omega)) rfl (((hD.other (by omega)).other (by omega)).put _ _)) rfl ?_
      have hv := HL.out.2.2.2.2
      refine ⟨⟨nv B32 K, s, s', rfl, ?_, ?_, HS.out, ?_⟩, grown_set (grown_set (grown_set (grown_set HG9.out (by omega)) (by omega)) (by omega)) (by omega)⟩
      · rw [← hv]; exact HE.out.2.2.2.2.1
      · rw [← hv]; exact HE.out.2.2.2.2.2.1
      · rw [← hv]; exact HS'.out
    | succ k =>
      obtain rfl : a = (k : Int) := by omega
      have hkI : (k : Int) ≤ 65536 := by omega
      have HI : Hid (D4 wr u5 K ∧ (∀ x ∈ K, x < B32) ∧ Trim K ∧ nv B32 K * nv B32 K ≤ nv B32 L ∧ nv B32 L < (nv B32 K + 2 ^ (k + 1)) * (nv B32 K + 2 ^ (k + 1)) ∧ w2.grownBy wr none ∧ K.length ≤ 4096 ∧ k ≤ 65536) := ⟨i1, i2, i3, i4, i5, i6, lK, by omega⟩
      clear i0 i1 i2 i3 i4 i5 i6 hag lK
      have HUp : Hid (Calls Tryz.prog 116 #[.slice (some ⟨wr.heap.size, 0, none⟩) 1 1, .int .i64 (k : Int)] (wr.alloc (.cells #[.int .u32 1] 103)) fun e w' => ∃ v K', e = .returned v ∧ D4 w' v K' ∧ (∀ x ∈ K', x < B32) ∧ nv B32 K' = 2 ^ k ∧ K'.length ≤ 4096 ∧ wr.grownBy w' none) := by
        have hb1 : BlkL (wr.alloc (.cells #[.int .u32 1] 103)) wr.heap.size 103 enc4 (ints [1]) := heap_alloc_new _ _
        refine (up_any _ _ [1] k hb1.d4 (by intro x hx; simp at hx; subst hx; decide) (by simp) (by have := HI.out.2.2.2.2.2.2.2; omega)).mono ?_
        rintro e w' ⟨v, K', rfl, p1, p2, p3, p4, p5, p6⟩
        refine ⟨v, K', rfl, p1, p2, by rw [p3]; simp [nv], ?_, grownBy_trans (grow1 _ _) p6⟩
        have := HI.out.2.2.2.2.2.2.2
        simp at p4
        omega
      go_wp2_with fail
      refine HUp.out.mono ?_
      rintro e w3 ⟨v3, K3, rfl, p1, p2, p3, p4, p5⟩
      have HMo : Hid (Calls Tryz.prog 115 #[u5, v3] w3 fun e w' => ∃ v K', e = .returned v ∧ D4 w' v K' ∧ (∀ x ∈ K', x < B32) ∧ nv B32 K' = nv B32 K + 2 ^ k ∧ K'.length ≤ 4097 ∧ Trim K' ∧ wr.grownBy w' none) := by
        refine (more_any w3 u5 v3 K K3 (HI.out.1.kept p5) p1 HI.out.2.1 p2 (by have := HI.out.2.2.2.2.2.2.1; omega) (by omega)).mono ?_
        rintro e w' ⟨v, K', rfl, q1, q2, q3, q4, q5, q6⟩
        exact ⟨v, K', rfl, q1, q2, by rw [q3, p3], by have := HI.out.2.2.2.2.2.2.1; omega, q5, grownBy_trans p5 q6⟩
      clear p1 p2 p3 p4 p5 HUp
      go_wp2_with fail
      refine HMo.out.mono ?_
      rintro e w4 ⟨v4, K4, rfl, p1, p2, p3, p4, p5, p6⟩
      have HPr : Hid (Calls Tryz.prog 118 #[v4, v4] w4 fun e w' => ∃ v K', e = .returned v ∧ D4 w' v K' ∧ (∀ x ∈ K', x < B32) ∧ nv B32 K' = nv B32 K4 * nv B32 K4 ∧ K'.length ≤ 8194 ∧ Trim K' ∧ w4.grownBy w' none) := by
        refine (product_any w4 v4 v4 K4 K4 p1 p1 p2 p2 (by omega) (by omega)).mono ?_
        rintro e w' ⟨v, K', rfl, q1, q2, q3, q4, q5, q6⟩
        exact ⟨v, K', rfl, q1, q2, q3, by omega, q5, q6⟩
      have HK4 : Hid (D4 w4 v4 K4 ∧ (∀ x ∈ K4, x < B32) ∧ nv B32 K4 = nv B32 K + 2 ^ k ∧ Trim K4 ∧ wr.grownBy w4 none) := ⟨p1, p2, p3, p5, p6⟩
      clear p1 p2 p3 p4 p5 p6 HMo
      go_wp2_with fail
      refine HPr.out.mono ?_
      rintro e w5 ⟨v5, K5, rfl, q1, q2, q3, q4, q5, q6⟩
      have HUn : Hid (Calls Tryz.prog 117 #[v5, v1] w5 fun e w' => e = .returned (.int .i64 (cmpN (nv B32 K4 * nv B32 K4) (nv B32 L))) ∧ w5.grownBy w' none) := by
        have hL5 := HL.out.1.kept (grownBy_trans HI.out.2.2.2.2.2.1 (grownBy_trans HK4.out.2.2.2.2 q6))
        have := under_any w5 v5 v1 K5 L q1 hL5 q2 HL.out.2.1 q5 HL.out.2.2.2.1 (by omega) (by have := HL.out.2.2.1; omega)
        rw [q3] at this
        exact this
      have HG5 : Hid (w2.grownBy w5 none ∧ w4.grownBy w5 none) := ⟨grownBy_trans HI.out.2.2.2.2.2.1 (grownBy_trans HK4.out.2.2.2.2 q6), q6⟩
      clear q1 q2 q3 q4 q5 q6 HPr
      by_cases hle : nv B32 K4 * nv B32 K4 ≤ nv B32 L
      · obtain ⟨cc, hcc⟩ : ∃ cc, cmpN (nv B32 K4 * nv B32 K4) (nv B32 L) = cc := ⟨_, rfl⟩
        have hc0 : cc ≤ 0 := by
          rw [← hcc]
          rcases Nat.lt_or_eq_of_le hle with k1 | k1
          · rw [cmpN_lt k1]; decide
          · rw [cmpN_eq k1]; decide
        rw [hcc] at HUn
        have HLE : Hid (nv B32 K4 * nv B32 K4 ≤ nv B32 L) := hle
        clear hcc hle
        go_wp2_with fail
        refine HUn.out.mono ?_
        rintro e w6 ⟨rfl, g6⟩
        have HG6 : Hid (w5.grownBy w6 none) := g6
        clear g6 HUn
        go_wp2_with fail
        go_roundg k
        case measure => omega
        case rel =>
          obtain ⟨p1, p2, p3, p5, p6⟩ := HK4.out
          refine ⟨(k : Int) - 1, K4, rfl, by omega, by have := HI.out.2.2.2.2.2.2.2; omega, p1.kept (grownBy_trans HG5.out.2 HG6.out), p2, p5, HLE.out, ?_, grownBy_trans HG5.out.1 HG6.out⟩
          rw [p3, show nv B32 K + 2 ^ k + 2 ^ k = nv B32 K + 2 ^ (k + 1) by rw [Nat.pow_succ]; omega]
          exact HI.out.2.2.2.2.1
      · have HLE : Hid (¬ nv B32 K4 * nv B32 K4 ≤ nv B32 L) := hle
        rw [cmpN_gt (by omega)] at HUn
        clear hle
        go_wp2_with fail
        refine HUn.out.mono ?_
        rintro e w6 ⟨rfl, g6⟩
        have HG6 : Hid (w5.grownBy w6 none) := g6
        clear g6 HUn
        go_wp2_with fail
        go_roundg k
        case measure => omega
        case rel =>
          obtain ⟨p1, p2, p3, p5, p6⟩ := HK4.out
          obtain ⟨i1, i2, i3, i4, i5, i6, i7, i8⟩ := HI.out
          refine ⟨(k : Int) - 1, K, rfl, by omega, by omega, i1.kept (grownBy_trans p6 (grownBy_trans HG5.out.2 HG6.out)), i2, i3, i4, ?_, grownBy_trans HG5.out.1 HG6.out⟩
          have := HLE.out
          rw [p3] at this
          omega
end Go.Proofs.YtdfliaogmlpefaaGreatDoor
