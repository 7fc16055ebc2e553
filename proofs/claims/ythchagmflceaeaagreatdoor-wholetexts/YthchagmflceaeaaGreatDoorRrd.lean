/-
  The document's Read.
-/
import Derived.Test.YthchagmflceaeaaGreatDoorRed
import Derived.Test.YthchagmflceaeaaGreatDoorBunTim
import Derived.Test.YthchagmflceaeaaGreatDoorSmd
namespace Go.Proofs.YthchagmflceaeaaGreatDoor
open Go.RowKit Go.Lib Go.Sort

theorem isText_iff (s : ByteArray) : isText s ↔ (∀ b ∈ bN (bare s), isDig b) ∧ (bare s).size ≠ 0 ∧ ((bN (bare s)).head?.getD 0 ≠ 48 ∨ ((bN s).head? ≠ some 45 ∧ (bare s).size = 1)) := by
  have hl := bN_length (bare s)
  have hneg : (bN s).head? = some 45 → bN s = 45 :: bN (bare s) := fun h => by
    rw [bN_bare h]
    cases hb : bN s with
    | nil => rw [hb] at h; simp at h
    | cons a l => rw [hb] at h; simp at h; simp [h]
  constructor
  · rintro ⟨⟨hd, h0, hh⟩, hne⟩
    refine ⟨hd, h0, ?_⟩
    by_cases hx : (bN (bare s)).head?.getD 0 = 48
    · right
      have h1 : (bare s).size = 1 := by
        rcases hh with h | h
        · exact h
        · exact absurd hx h
      refine ⟨fun h45 => hne ?_, h1⟩
      rw [hneg h45]
      cases hb : bN (bare s) with
      | nil => rw [hb] at hl; simp at hl; omega
      | cons a l =>
        rw [hb] at hl hx
        have : l = [] := List.length_eq_zero_iff.1 (by simp at hl; omega)
        simp at hx
        rw [this, hx]
    · exact .inl hx
  · rintro ⟨hd, h0, hh⟩
    refine ⟨⟨hd, h0, ?_⟩, fun e => ?_⟩
    · rcases hh with h | h
      · exact .inr h
      · exact .inl h.2
    · have h45 : (bN s).head? = some 45 := by rw [e]; rfl
      have := hneg h45
      rw [e] at this
      have hb : bN (bare s) = [48] := by injection this with _ h; exact h.symm
      rcases hh with h | h
      · rw [hb] at h; simp at h
      · exact h.1 h45
/-- What the document's Read answers. -/
def RdRes (s : ByteArray) (e : Ending) : Prop :=
  (isText s ∧ ∃ n' s', e = .returned (.tuple #[whole n' s', .int .i64 0]) ∧ IsZ (textZ s) n' s') ∨ (¬ isText s ∧ e = .returned (.tuple #[whole false eS, .int .i64 120]))
set_option maxHeartbeats 1600000 in
set_option maxRecDepth 1000000 in
theorem rRead_none (w : World) :
    Calls Tryz.prog 53 #[.string eS] w fun e w' => RdRes eS e ∧ w.grownBy w' none := by
  have HF : Hid (¬ isText eS) := (by show ¬ isText eS; decide)
  go_enter Tryz.func53, Tryz.ntmps53
  go_wp2_with fail
  refine bodyPost_ret (res_cell_tmp rfl _ _ w.heap.size _ _ _ _ rfl (heap_alloc_new _ _)) rfl ?_
  exact ⟨.inr ⟨HF.out, rfl⟩, grow1 _ _⟩
theorem isZ_made {b : Bool} {d : Nat} {z : Int} {s : ByteArray} (hz : z = if b then -(d : Int) else d) (hs : bN s = magN d) : IsZ z (b && decide (d ≠ 0)) s := by
  subst hz
  cases b
  · exact ⟨by simp, by simpa using hs⟩
  · refine ⟨?_, by simpa using hs⟩
    rw [Bool.true_and, if_pos rfl]
    exact decide_eq_decide.2 (by omega)
theorem d4_one (w : World) (x : Nat) : D4 (w.alloc (.cells #[.int .u32 (x : Int)] 74)) (.slice (some ⟨w.heap.size, 0, none⟩) 1 1) [x] := by
  have h : BlkL (w.alloc (.cells #[.int .u32 (x : Int)] 74)) w.heap.size 74 enc4 (ints [x]) := heap_alloc_new _ _
  exact h.d4
/-- Digits read so far, by the document. -/
def RrI (w wr : World) (t : List Nat) (v : Value) (i : Nat) : Prop :=
  ∃ L, i ≤ t.length ∧ (∀ b ∈ t.take i, isDig b) ∧ D4 wr v L ∧ (∀ x ∈ L, x < B32) ∧ L.length ≤ 2 * i ∧ nv B32 L = dec (t.take i) ∧ w.grownBy wr none
set_option maxHeartbeats 6400000 in
set_option maxRecDepth 1000000 in
theorem rRead_neg (s : ByteArray) (h9 : s.size ≤ 40000) (h0 : s.size ≠ 0) (h45 : (bN s).head? = some 45) (w : World) :
    Calls Tryz.prog 53 #[.string s] w fun e w' => RdRes s e ∧ w.grownBy w' none := by
  have h9I : (s.size : Int) ≤ 40000 := by omega
  have h1I : (1 : Int) ≤ s.size := by omega
  have hs0 : s[0].toNat = 45 := by
    have := bN_at s 0 (by omega)
    rw [List.head?_eq_getElem?, this] at h45
    exact Option.some.inj h45
  have hs0I : ((s[0].toNat : Nat) : Int) = 45 := by omega
  have hu : s.extract 1 s.size = bare s := by unfold bare; rw [if_pos h45]
  have hus : (bare s).size ≤ 40000 := Nat.le_trans (bare_size s) h9
  have HTI := isText_iff s
  have hZ : textZ s = if true then -(dec (bN (bare s)) : Int) else dec (bN (bare s)) := by unfold textZ; rw [if_pos h45]; rfl
  have HF : Hid (¬ isText s → RdRes s (.returned (.tuple #[whole false eS, .int .i64 120]))) := fun h => .inr ⟨h, rfl⟩
  have HT : Hid (isText s → ∀ s', bN s' = magN (dec (bN (bare s))) → RdRes s (.returned (.tuple #[whole (true && decide (dec (bN (bare s)) ≠ 0)) s', .int .i64 0]))) := fun h s' hs' => .inl ⟨h, _, s', rfl, isZ_made hZ hs'⟩
  have h45' : ((bN s).head? ≠ some 45) = (true = false) := by simp [h45]
  rw [h45'] at HTI
  generalize RdRes s = R at *
  generalize isText s = tx at *
  clear hZ h45'
  generalize bare s = u at *
  have hubl := bN_length u
  by_cases hu0 : u.size = 0
  · obtain rfl := empty_of_size hu0
    have hno : ¬ tx := fun h => (HTI.1 h).2.1 rfl
    have HFF := HF.out hno
    have HF2 : Hid (R (.returned (.tuple #[whole false eS, .int .i64 120]))) := HFF
    clear HFF HTI HT HF
    go_enter Tryz.func53, Tryz.ntmps53
    go_wp2_with fail
    refine bodyPost_ret (res_cell_tmp rfl _ _ w.heap.size _ _ _ _ rfl (heap_alloc_new _ _)) rfl ?_
    exact ⟨HF2.out, grow1 _ _⟩
  · have he := isEmpty_of hu0
    have hml : ¬ u.toList = [] := by rw [← List.isEmpty_iff, he]; simp
    have hup : 0 < u.size := by omega
    have hhd := bN_head u hup
    have huI : (u.size : Int) ≤ 40000 := by omega
    rw [hhd] at HTI
    by_cases hu48 : u[0].toNat = 48
    · have hno : ¬ tx := fun h => by
        rcases (HTI.1 h).2.2 with h | h
        · exact h hu48
        · simp at h
      have HFF := HF.out hno
      have HF2 : Hid (R (.returned (.tuple #[whole false eS, .int .i64 120]))) := HFF
      have hu48I : ((u[0].toNat : Nat) : Int) = 48 := by omega
      clear HFF HTI HT HF
      go_enter Tryz.func53, Tryz.ntmps53
      go_wp2_with fail
      refine bodyPost_ret (res_cell_tmp rfl _ _ w.heap.size _ _ _ _ rfl (heap_alloc_new _ _)) rfl ?_
      exact ⟨HF2.out, grow1 _ _⟩
    have hu48I : ¬ ((u[0].toNat : Nat) : Int) = 48 := by omega
    have hu48b : (((u[0].toNat : Nat) : Int) == 48) = false := by rw [beq_eq_false_iff_ne]; exact hu48I
    have HDG : Hid ((∀ b ∈ bN u, isDig b) → tx) := fun h => HTI.2 ⟨h, hu0, .inl hu48⟩
    have HND : Hid (∀ b ∈ bN u, ¬ isDig b → ¬ tx) := fun b hb hn h => hn ((HTI.1 h).1 b hb)
    clear HTI hhd
    go_enter Tryz.func53, Tryz.ntmps53
    go_wp2_with fail
    go_loopw [6, 7] (fun l t wr => (∃ a m c, l = .slice a m c) ∧ ∃ i : Nat, t = .int .i64 i ∧ RrI (w.alloc (wObj false eS)) wr (bN u) l i) (fun _ t _ => u.size - (RowKit.intOf t).toNat)
    case atStart => exact ⟨⟨_, _, _, rfl⟩, 0, rfl, [], by omega, by simp, .inl ⟨rfl, rfl⟩, by simp, by simp, by simp [nv, dec], World.grownBy.refl _ _⟩
    case round =>
      obtain ⟨⟨la, lm, lc, rfl⟩, i, rfl, hI⟩ := hrel
      have HI : Hid (RrI (w.alloc (wObj false eS)) wr (bN u) (.slice la lm lc) i) := hI
      obtain ⟨L, hi, hd, hD, rL, lL, vL, hg⟩ := hI
      rw [hubl] at hi
      by_cases hie : i < u.size
      · have hieI : (i : Int) < u.size := by omega
        have HDd : Hid (∀ b ∈ (bN u).take i, isDig b) := hd
        have HLL : Hid (D4 wr (.slice la lm lc) L ∧ (∀ x ∈ L, x < B32) ∧ L.length ≤ 2 * i ∧ nv B32 L = dec ((bN u).take i) ∧ (w.alloc (wObj false eS)).grownBy wr none) := ⟨hD, rL, lL, vL, hg⟩
        clear hd hD rL lL vL hg
        generalize wr = wo at *
        go_wp2_with fail
        go_loopw [7, 8, 9, 10] (fun p q r t wz => ∃ k : Nat, p = .int .i64 ((i + k : Nat) : Int) ∧ q = .int .u64 ((10 ^ k : Nat) : Int) ∧ r = .int .u64 ((dec (((bN u).drop i).take k) : Nat) : Int) ∧ t = .int .i64 k ∧ k ≤ 9 ∧ i + k ≤ u.size ∧ (∀ b ∈ (bN u).take (i + k), isDig b) ∧ wz = wo) (fun _ _ _ t _ => 9 - (RowKit.intOf t).toNat)
        case atStart => exact ⟨0, rfl, rfl, rfl, rfl, by omega, by omega, HDd.out, rfl⟩
        case round =>
          obtain ⟨k, rfl, rfl, rfl, rfl, hk9, hiu, hdk, hwz⟩ := hrel
          subst hwz
          have HDk : Hid (∀ b ∈ (bN u).take (i + k), isDig b) := hdk
          have htk : ((bN u).drop i).take k = ((bN u).take (i + k)).drop i := by rw [List.take_drop]
          have hdg : ∀ b ∈ ((bN u).drop i).take k, isDig b := fun b hb => hdk b (by rw [htk] at hb; exact List.mem_of_mem_drop hb)
          have hdl := dec_lt _ hdg
          have hlk : (((bN u).drop i).take k).length = k := by rw [List.length_take, List.length_drop, hubl]; omega
          rw [hlk] at hdl
          have hpk : 10 ^ k ≤ 10 ^ 9 := Nat.pow_le_pow_right (by decide) hk9
          have e9 : 10 ^ 9 = 1000000000 := by decide
          have hdec : dec ((bN u).take (i + k)) = dec ((bN u).take i) * 10 ^ k + dec (((bN u).drop i).take k) := by rw [List.take_add, dec_append, hlk]
          have HDEC : Hid (dec ((bN u).take (i + k)) = dec ((bN u).take i) * 10 ^ k + dec (((bN u).drop i).take k)) := hdec
          by_cases hgo : k < 9 ∧ i + k < u.size
          · have hb := bN_at u (i + k) hgo.2
            have hsn : dec (((bN u).drop i).take (k + 1)) = dec (((bN u).drop i).take k) * 10 + (u[i + k].toNat - 48) := by
              have : ((bN u).drop i)[k]? = some u[i + k].toNat := by rw [List.getElem?_drop, hb]
              rw [take_succ_at this, dec_snoc]
            have HSN : Hid (dec (((bN u).drop i).take (k + 1)) = dec (((bN u).drop i).take k) * 10 + (u[i + k].toNat - 48)) := hsn
            have HB : Hid ((bN u)[i + k]? = some u[i + k].toNat) := hb
            have hp2 : 10 ^ (k + 1) = 10 ^ k * 10 := Nat.pow_succ 10 k
            have hk8 : (k : Int) ≤ 8 := by omega
            have hiuI : ((i + k : Nat) : Int) < u.size := by omega
            clear hb hsn hdk hdg htk hdec
            generalize dec (((bN u).drop i).take k) = X at *
            generalize 10 ^ k = T at *
            have hTI : (T : Int) ≤ 1000000000 := by omega
            have hXI : (X : Int) ≤ 999999999 := by omega
            by_cases hc1 : u[i + k].toNat < 48
            · have hno : ¬ tx := HND.out u[i + k].toNat (by rw [List.mem_iff_getElem?]; exact ⟨_, HB.out⟩) (by unfold isDig; omega)
              have HF2 : Hid (R (.returned (.tuple #[whole false eS, .int .i64 120]))) := HF.out hno
              have hc1I : ((u[i + k].toNat : Nat) : Int) ≤ 47 := by omega
              have hGG := HLL.out.2.2.2.2
              have hb2 : WBlk wr w.heap.size (.bool false) (.string eS) := WBlk.kept (w := w.alloc (wObj false eS)) (heap_alloc_new _ _) hGG (by simp)
              have hc0 := hb2.c0
              have hcc1 := hb2.c1
              have hf0 := hb2.fr 0
              have hf1 := hb2.fr 1
              have HGG : Hid ((w.alloc (wObj false eS)).grownBy wr none) := hGG
              clear hGG
              go_wp2_with fail
              refine bodyPost_ret (res_cell_tmp rfl _ _ w.heap.size _ _ _ _ rfl (hb2.put _ _)) rfl ?_
              exact ⟨HF2.out, grown_set (grown_set (grownBy_trans (grow1 _ _) HGG.out) (Nat.le_refl _)) (Nat.le_refl _)⟩
            · have hc1I : (48 : Int) ≤ ((u[i + k].toNat : Nat) : Int) := by omega
              by_cases hc2 : 57 < u[i + k].toNat
              · have hno : ¬ tx := HND.out u[i + k].toNat (by rw [List.mem_iff_getElem?]; exact ⟨_, HB.out⟩) (by unfold isDig; omega)
                have HF2 : Hid (R (.returned (.tuple #[whole false eS, .int .i64 120]))) := HF.out hno
                have hc2I : (58 : Int) ≤ ((u[i + k].toNat : Nat) : Int) := by omega
                have hGG := HLL.out.2.2.2.2
                have hb2 : WBlk wr w.heap.size (.bool false) (.string eS) := WBlk.kept (w := w.alloc (wObj false eS)) (heap_alloc_new _ _) hGG (by simp)
                have hc0 := hb2.c0
                have hcc1 := hb2.c1
                have hf0 := hb2.fr 0
                have hf1 := hb2.fr 1
                have HGG : Hid ((w.alloc (wObj false eS)).grownBy wr none) := hGG
                clear hGG
                go_wp2_with fail
                refine bodyPost_ret (res_cell_tmp rfl _ _ w.heap.size _ _ _ _ rfl (hb2.put _ _)) rfl ?_
                exact ⟨HF2.out, grown_set (grown_set (grownBy_trans (grow1 _ _) HGG.out) (Nat.le_refl _)) (Nat.le_refl _)⟩
              · have hc2I : ((u[i + k].toNat : Nat) : Int) ≤ 57 := by omega
                go_wp2_with fail
                go_roundw
                case rel =>
                  refine ⟨k + 1, num_eq (by omega), num_eq (by rw [hp2]; omega), num_eq (by rw [HSN.out]; omega), rfl, by omega, by omega, fun b hb => ?_, trivial⟩
                  rw [← Nat.add_assoc, take_succ_at HB.out] at hb
                  rcases List.mem_append.1 hb with h | h
                  · exact HDk.out b h
                  · simp at h; subst h; unfold isDig; omega
                case measure => simp [RowKit.intOf]; omega
          · have hend : k = 9 ∨ i + k = u.size := by omega
            have hk1 : 1 ≤ k := by omega
            clear hdg htk hlk hdec hdk
            generalize dec (((bN u).drop i).take k) = X at *
            generalize hTT : 10 ^ k = T at *
            have hT0 : 0 < T := by rw [← hTT]; exact Nat.pow_pos (by decide)
            have hTI : (T : Int) ≤ 1000000000 := by omega
            have hXI : (X : Int) ≤ 999999999 := by omega
            have hwT : IntKind.u32.wrap (T : Int) = (T : Int) := by rw [IntKind.wrap_u32]; omega
            have hwX : IntKind.u32.wrap (X : Int) = (X : Int) := by rw [IntKind.wrap_u32]; omega
            clear hTT
            have HPR : Hid (Calls Tryz.prog 76 #[.slice la lm lc, .slice (some ⟨wr.heap.size, 0, none⟩) 1 1] (wr.alloc (.cells #[.int .u32 (T : Int)] 74)) fun e w' => ∃ v K, e = .returned v ∧ D4 w' v K ∧ (∀ x ∈ K, x < B32) ∧ nv B32 K = nv B32 L * nv B32 [T] ∧ K.length ≤ L.length + [T].length ∧ Trim K ∧ (wr.alloc (.cells #[.int .u32 (T : Int)] 74)).grownBy w' none) := product_any _ _ _ L [T] (HLL.out.1.kept (grow1 _ _)) (d4_one wr T) HLL.out.2.1 (by intro x hx; simp at hx; subst hx; simp only [B32]; omega) (by have := HLL.out.2.2.1; omega) (by simp)
            by_cases hk9' : k < 9
            · have hik : i + k = u.size := by omega
              have hikI : ((i + k : Nat) : Int) = u.size := by omega
              have hk8 : (k : Int) ≤ 8 := by omega
              go_wp2_with fail
              refine HPR.out.mono ?_
              rintro e w2 ⟨v2, K, rfl, dK, rK, vK, lK, tK, g2⟩
              obtain ⟨a2, c2, hv2⟩ := dK.slice
              have hcut := cut_any _ _ [X] (d4_one w2 X) (by intro x hx; simp at hx; subst hx; simp only [B32]; omega) (by simp)
              have HCU : Hid (Calls Tryz.prog 101 #[.slice (some ⟨w2.heap.size, 0, none⟩) 1 1] (w2.alloc (.cells #[.int .u32 (X : Int)] 74)) fun e w' => ∃ v' k, e = .returned v' ∧ k ≤ 1 ∧ D4 (w2.alloc (.cells #[.int .u32 (X : Int)] 74)) v' ([X].take k) ∧ nv B32 ([X].take k) = nv B32 [X] ∧ (k = 0 ∨ ([X].take k)[k - 1]?.getD 0 ≠ 0) ∧ w' = w2.alloc (.cells #[.int .u32 (X : Int)] 74)) := hcut
              have HK : Hid (D4 w2 v2 K ∧ (∀ x ∈ K, x < B32) ∧ nv B32 K = nv B32 L * nv B32 [T] ∧ K.length ≤ L.length + [T].length ∧ (wr.alloc (.cells #[.int .u32 (T : Int)] 74)).grownBy w2 none) := ⟨dK, rK, vK, lK, g2⟩
              have hKsz : K.length ≤ 100000 := by have := HLL.out.2.2.1; simp at lK; omega
              generalize K.length = km at hv2
              subst hv2
              clear dK rK vK lK tK g2 hcut HPR
              go_wp2_with fail
              refine HCU.out.mono ?_
              rintro e w3 ⟨v3, k3, rfl, hk3, dX, vX, _, hw3⟩
              subst hw3
              obtain ⟨a3, c3, hv3⟩ := dX.slice
              have hmo := more_any _ _ v3 K _ (HK.out.1.kept (grow1 _ _)) dX HK.out.2.1 (by intro x hx; have := List.mem_of_mem_take hx; simp at this; subst this; simp only [B32]; omega) (by omega) (by simp; omega)
              have HMO : Hid (Calls Tryz.prog 74 #[.slice a2 km c2, v3] (w2.alloc (.cells #[.int .u32 (X : Int)] 74)) fun e w' => ∃ v' M, e = .returned v' ∧ (∃ a m c, v' = .slice a m c) ∧ RrI (w.alloc (wObj false eS)) w' (bN u) v' (i + k)) := (by
                refine hmo.mono ?_
                rintro e w4 ⟨v4, M, rfl, dM, rM, vM, lM, _, g4⟩
                obtain ⟨a4, c4, hv4⟩ := dM.slice
                obtain ⟨b1, b2, b3, b4, b5⟩ := HLL.out
                obtain ⟨d1, d2, d3, d4, d5⟩ := HK.out
                refine ⟨v4, M, rfl, ⟨_, _, _, hv4⟩, M, by rw [hubl]; exact hiu, HDk.out, dM, rM, ?_, ?_, grownBy_trans (grownBy_trans b5 (grownBy_trans (grow1 _ _) d5)) (grownBy_trans (grow1 _ _) g4)⟩
                · have : ([X].take k3).length ≤ 1 := by simp; omega
                  simp at d4
                  omega
                · rw [vM, vX, d3, HDEC.out, b4]
                  simp [nv])
              generalize ([X].take k3).length = xm at hv3
              subst hv3
              clear hmo dX vX HCU HK
              go_wp2_with fail
              refine HMO.out.mono ?_
              rintro e w4 ⟨v4, M, rfl, ⟨a4, m4, c4, rfl⟩, hI4⟩
              have HI4 : Hid (RrI (w.alloc (wObj false eS)) w4 (bN u) (.slice a4 m4 c4) (i + k)) := hI4
              clear hI4 HMO
              go_wp2_with fail
              go_roundw
              case rel => exact ⟨⟨_, _, _, rfl⟩, i + k, num_eq (by omega), HI4.out⟩
              case measure => simp [RowKit.intOf]; omega
            · obtain rfl : k = 9 := by omega
              have hiuI : ((i + 9 : Nat) : Int) ≤ u.size := by omega
              go_wp2_with fail
              refine HPR.out.mono ?_
              rintro e w2 ⟨v2, K, rfl, dK, rK, vK, lK, tK, g2⟩
              obtain ⟨a2, c2, hv2⟩ := dK.slice
              have hcut := cut_any _ _ [X] (d4_one w2 X) (by intro x hx; simp at hx; subst hx; simp only [B32]; omega) (by simp)
              have HCU : Hid (Calls Tryz.prog 101 #[.slice (some ⟨w2.heap.size, 0, none⟩) 1 1] (w2.alloc (.cells #[.int .u32 (X : Int)] 74)) fun e w' => ∃ v' k, e = .returned v' ∧ k ≤ 1 ∧ D4 (w2.alloc (.cells #[.int .u32 (X : Int)] 74)) v' ([X].take k) ∧ nv B32 ([X].take k) = nv B32 [X] ∧ (k = 0 ∨ ([X].take k)[k - 1]?.getD 0 ≠ 0) ∧ w' = w2.alloc (.cells #[.int .u32 (X : Int)] 74)) := hcut
              have HK : Hid (D4 w2 v2 K ∧ (∀ x ∈ K, x < B32) ∧ nv B32 K = nv B32 L * nv B32 [T] ∧ K.length ≤ L.length + [T].length ∧ (wr.alloc (.cells #[.int .u32 (T : Int)] 74)).grownBy w2 none) := ⟨dK, rK, vK, lK, g2⟩
              have hKsz : K.length ≤ 100000 := by have := HLL.out.2.2.1; simp at lK; omega
              generalize K.length = km at hv2
              subst hv2
              clear dK rK vK lK tK g2 hcut HPR
              go_wp2_with fail
              refine HCU.out.mono ?_
              rintro e w3 ⟨v3, k3, rfl, hk3, dX, vX, _, hw3⟩
              subst hw3
              obtain ⟨a3, c3, hv3⟩ := dX.slice
              have hmo := more_any _ _ v3 K _ (HK.out.1.kept (grow1 _ _)) dX HK.out.2.1 (by intro x hx; have := List.mem_of_mem_take hx; simp at this; subst this; simp only [B32]; omega) (by omega) (by simp; omega)
              have HMO : Hid (Calls Tryz.prog 74 #[.slice a2 km c2, v3] (w2.alloc (.cells #[.int .u32 (X : Int)] 74)) fun e w' => ∃ v' M, e = .returned v' ∧ (∃ a m c, v' = .slice a m c) ∧ RrI (w.alloc (wObj false eS)) w' (bN u) v' (i + 9)) := (by
                refine hmo.mono ?_
                rintro e w4 ⟨v4, M, rfl, dM, rM, vM, lM, _, g4⟩
                obtain ⟨a4, c4, hv4⟩ := dM.slice
                obtain ⟨b1, b2, b3, b4, b5⟩ := HLL.out
                obtain ⟨d1, d2, d3, d4, d5⟩ := HK.out
                refine ⟨v4, M, rfl, ⟨_, _, _, hv4⟩, M, by rw [hubl]; exact hiu, HDk.out, dM, rM, ?_, ?_, grownBy_trans (grownBy_trans b5 (grownBy_trans (grow1 _ _) d5)) (grownBy_trans (grow1 _ _) g4)⟩
                · have : ([X].take k3).length ≤ 1 := by simp; omega
                  simp at d4
                  omega
                · rw [vM, vX, d3, HDEC.out, b4]
                  simp [nv])
              generalize ([X].take k3).length = xm at hv3
              subst hv3
              clear hmo dX vX HCU HK
              go_wp2_with fail
              refine HMO.out.mono ?_
              rintro e w4 ⟨v4, M, rfl, ⟨a4, m4, c4, rfl⟩, hI4⟩
              have HI4 : Hid (RrI (w.alloc (wObj false eS)) w4 (bN u) (.slice a4 m4 c4) (i + 9)) := hI4
              clear hI4 HMO
              go_wp2_with fail
              go_roundw
              case rel => exact ⟨⟨_, _, _, rfl⟩, i + 9, num_eq (by omega), HI4.out⟩
              case measure => simp [RowKit.intOf]; omega
      · obtain rfl : i = u.size := by omega
        rw [List.take_of_length_le (by omega)] at hd vL
        have htx : tx := HDG.out hd
        have hM := made_any true wr _ L hD rL (by omega)
        rw [vL] at hM
        have HM : Hid (Calls Tryz.prog 59 #[.bool true, .slice la lm lc] wr fun e w' => ∃ s, e = .returned (whole (true && decide (dec (bN u) ≠ 0)) s) ∧ bN s = magN (dec (bN u)) ∧ wr.grownBy w' none) := hM
        have HTT : Hid (∀ s', bN s' = magN (dec (bN u)) → R (.returned (.tuple #[whole (true && decide (dec (bN u) ≠ 0)) s', .int .i64 0]))) := HT.out htx
        have HGG : Hid ((w.alloc (wObj false eS)).grownBy wr none) := hg
        clear hM hd vL hD rL lL hg htx
        generalize (true && decide (dec (bN u) ≠ 0)) = nn at *
        go_wp2_with fail
        refine HM.out.mono ?_
        rintro e w2 ⟨s', rfl, hs', g2⟩
        have HRR : Hid (R (.returned (.tuple #[whole nn s', .int .i64 0]))) := HTT.out s' hs'
        have HG2 : Hid ((w.alloc (wObj false eS)).grownBy w2 none) := grownBy_trans HGG.out g2
        have hb2 : WBlk w2 w.heap.size (.bool false) (.string eS) := WBlk.kept (w := w.alloc (wObj false eS)) (heap_alloc_new _ _) HG2.out (by simp)
        have hc0 := hb2.c0
        have hcc1 := hb2.c1
        have hf0 := hb2.fr 0
        have hf1 := hb2.fr 1
        clear hs' g2 HM HTT
        go_wp2_with fail
        refine bodyPost_ret (res_cell_tmp rfl _ _ w.heap.size _ _ _ _ rfl (hb2.put _ _)) rfl ?_
        exact ⟨HRR.out, grown_set (grown_set (grownBy_trans (grow1 _ _) HG2.out) (Nat.le_refl _)) (Nat.le_refl _)⟩

set_option maxHeartbeats 6400000 in
set_option maxRecDepth 1000000 in
theorem rRead_pos (s : ByteArray) (h9 : s.size ≤ 40000) (h0 : s.size ≠ 0) (h45 : ¬ (bN s).head? = some 45) (w : World) :
    Calls Tryz.prog 53 #[.string s] w fun e w' => RdRes s e ∧ w.grownBy w' none := by
  have h9I : (s.size : Int) ≤ 40000 := by omega
  have h1I : (1 : Int) ≤ s.size := by omega
  have hs0 : ¬ s[0].toNat = 45 := by
    intro e
    apply h45
    rw [List.head?_eq_getElem?, bN_at s 0 (by omega), e]
  have hs0I : (((s[0].toNat : Nat) : Int) == 45) = false := by rw [beq_eq_false_iff_ne]; omega
  have hu : bare s = s := by unfold bare; rw [if_neg h45]
  have hus : (bare s).size ≤ 40000 := Nat.le_trans (bare_size s) h9
  have HTI := isText_iff s
  have hZ : textZ s = if false then -(dec (bN (bare s)) : Int) else dec (bN (bare s)) := by unfold textZ; rw [if_neg h45]; rfl
  have HF : Hid (¬ isText s → RdRes s (.returned (.tuple #[whole false eS, .int .i64 120]))) := fun h => .inr ⟨h, rfl⟩
  have HT : Hid (isText s → ∀ s', bN s' = magN (dec (bN (bare s))) → RdRes s (.returned (.tuple #[whole (false && decide (dec (bN (bare s)) ≠ 0)) s', .int .i64 0]))) := fun h s' hs' => .inl ⟨h, _, s', rfl, isZ_made hZ hs'⟩
  have h45' : ((bN s).head? ≠ some 45) = (false = false) := by simp [h45]
  rw [h45'] at HTI
  generalize RdRes s = R at *
  generalize isText s = tx at *
  clear hZ h45'
  rw [hu] at HTI HT
  clear hu hus
  generalize s = u at *
  have hubl := bN_length u
  by_cases hu0 : u.size = 0
  · exact absurd hu0 h0
  · have he := isEmpty_of hu0
    have hml : ¬ u.toList = [] := by rw [← List.isEmpty_iff, he]; simp
    have hup : 0 < u.size := by omega
    have hhd := bN_head u hup
    have huI : (u.size : Int) ≤ 40000 := by omega
    rw [hhd] at HTI
    by_cases hu48 : u[0].toNat = 48
    · have hu48I : ((u[0].toNat : Nat) : Int) = 48 := by omega
      by_cases hsz1 : u.size = 1
      · have hsz1I : ((u.size : Nat) : Int) ≤ 1 := by omega
        have HDG : Hid ((∀ b ∈ bN u, isDig b) → tx) := fun h => HTI.2 ⟨h, hu0, .inr ⟨rfl, hsz1⟩⟩
        have HND : Hid (∀ b ∈ bN u, ¬ isDig b → ¬ tx) := fun b hb hn h => hn ((HTI.1 h).1 b hb)
        clear HTI hhd hsz1
        go_enter Tryz.func53, Tryz.ntmps53
        go_wp2_with fail
        go_loopw [6, 7] (fun l t wr => (∃ a m c, l = .slice a m c) ∧ ∃ i : Nat, t = .int .i64 i ∧ RrI (w.alloc (wObj false eS)) wr (bN u) l i) (fun _ t _ => u.size - (RowKit.intOf t).toNat)
        case atStart => exact ⟨⟨_, _, _, rfl⟩, 0, rfl, [], by omega, by simp, .inl ⟨rfl, rfl⟩, by simp, by simp, by simp [nv, dec], World.grownBy.refl _ _⟩
        case round =>
          obtain ⟨⟨la, lm, lc, rfl⟩, i, rfl, hI⟩ := hrel
          have HI : Hid (RrI (w.alloc (wObj false eS)) wr (bN u) (.slice la lm lc) i) := hI
          obtain ⟨L, hi, hd, hD, rL, lL, vL, hg⟩ := hI
          rw [hubl] at hi
          by_cases hie : i < u.size
          · have hieI : (i : Int) < u.size := by omega
            have HDd : Hid (∀ b ∈ (bN u).take i, isDig b) := hd
            have HLL : Hid (D4 wr (.slice la lm lc) L ∧ (∀ x ∈ L, x < B32) ∧ L.length ≤ 2 * i ∧ nv B32 L = dec ((bN u).take i) ∧ (w.alloc (wObj false eS)).grownBy wr none) := ⟨hD, rL, lL, vL, hg⟩
            clear hd hD rL lL vL hg
            generalize wr = wo at *
            go_wp2_with fail
            go_loopw [7, 8, 9, 10] (fun p q r t wz => ∃ k : Nat, p = .int .i64 ((i + k : Nat) : Int) ∧ q = .int .u64 ((10 ^ k : Nat) : Int) ∧ r = .int .u64 ((dec (((bN u).drop i).take k) : Nat) : Int) ∧ t = .int .i64 k ∧ k ≤ 9 ∧ i + k ≤ u.size ∧ (∀ b ∈ (bN u).take (i + k), isDig b) ∧ wz = wo) (fun _ _ _ t _ => 9 - (RowKit.intOf t).toNat)
            case atStart => exact ⟨0, rfl, rfl, rfl, rfl, by omega, by omega, HDd.out, rfl⟩
            case round =>
              obtain ⟨k, rfl, rfl, rfl, rfl, hk9, hiu, hdk, hwz⟩ := hrel
              subst hwz
              have HDk : Hid (∀ b ∈ (bN u).take (i + k), isDig b) := hdk
              have htk : ((bN u).drop i).take k = ((bN u).take (i + k)).drop i := by rw [List.take_drop]
              have hdg : ∀ b ∈ ((bN u).drop i).take k, isDig b := fun b hb => hdk b (by rw [htk] at hb; exact List.mem_of_mem_drop hb)
              have hdl := dec_lt _ hdg
              have hlk : (((bN u).drop i).take k).length = k := by rw [List.length_take, List.length_drop, hubl]; omega
              rw [hlk] at hdl
              have hpk : 10 ^ k ≤ 10 ^ 9 := Nat.pow_le_pow_right (by decide) hk9
              have e9 : 10 ^ 9 = 1000000000 := by decide
              have hdec : dec ((bN u).take (i + k)) = dec ((bN u).take i) * 10 ^ k + dec (((bN u).drop i).take k) := by rw [List.take_add, dec_append, hlk]
              have HDEC : Hid (dec ((bN u).take (i + k)) = dec ((bN u).take i) * 10 ^ k + dec (((bN u).drop i).take k)) := hdec
              by_cases hgo : k < 9 ∧ i + k < u.size
              · have hb := bN_at u (i + k) hgo.2
                have hsn : dec (((bN u).drop i).take (k + 1)) = dec (((bN u).drop i).take k) * 10 + (u[i + k].toNat - 48) := by
                  have : ((bN u).drop i)[k]? = some u[i + k].toNat := by rw [List.getElem?_drop, hb]
                  rw [take_succ_at this, dec_snoc]
                have HSN : Hid (dec (((bN u).drop i).take (k + 1)) = dec (((bN u).drop i).take k) * 10 + (u[i + k].toNat - 48)) := hsn
                have HB : Hid ((bN u)[i + k]? = some u[i + k].toNat) := hb
                have hp2 : 10 ^ (k + 1) = 10 ^ k * 10 := Nat.pow_succ 10 k
                have hk8 : (k : Int) ≤ 8 := by omega
                have hiuI : ((i + k : Nat) : Int) < u.size := by omega
                clear hb hsn hdk hdg htk hdec
                generalize dec (((bN u).drop i).take k) = X at *
                generalize 10 ^ k = T at *
                have hTI : (T : Int) ≤ 1000000000 := by omega
                have hXI : (X : Int) ≤ 999999999 := by omega
                by_cases hc1 : u[i + k].toNat < 48
                · have hno : ¬ tx := HND.out u[i + k].toNat (by rw [List.mem_iff_getElem?]; exact ⟨_, HB.out⟩) (by unfold isDig; omega)
                  have HF2 : Hid (R (.returned (.tuple #[whole false eS, .int .i64 120]))) := HF.out hno
                  have hc1I : ((u[i + k].toNat : Nat) : Int) ≤ 47 := by omega
                  have hGG := HLL.out.2.2.2.2
                  have hb2 : WBlk wr w.heap.size (.bool false) (.string eS) := WBlk.kept (w := w.alloc (wObj false eS)) (heap_alloc_new _ _) hGG (by simp)
                  have hc0 := hb2.c0
                  have hcc1 := hb2.c1
                  have hf0 := hb2.fr 0
                  have hf1 := hb2.fr 1
                  have HGG : Hid ((w.alloc (wObj false eS)).grownBy wr none) := hGG
                  clear hGG
                  go_wp2_with fail
                  refine bodyPost_ret (res_cell_tmp rfl _ _ w.heap.size _ _ _ _ rfl (hb2.put _ _)) rfl ?_
                  exact ⟨HF2.out, grown_set (grown_set (grownBy_trans (grow1 _ _) HGG.out) (Nat.le_refl _)) (Nat.le_refl _)⟩
                · have hc1I : (48 : Int) ≤ ((u[i + k].toNat : Nat) : Int) := by omega
                  by_cases hc2 : 57 < u[i + k].toNat
                  · have hno : ¬ tx := HND.out u[i + k].toNat (by rw [List.mem_iff_getElem?]; exact ⟨_, HB.out⟩) (by unfold isDig; omega)
                    have HF2 : Hid (R (.returned (.tuple #[whole false eS, .int .i64 120]))) := HF.out hno
                    have hc2I : (58 : Int) ≤ ((u[i + k].toNat : Nat) : Int) := by omega
                    have hGG := HLL.out.2.2.2.2
                    have hb2 : WBlk wr w.heap.size (.bool false) (.string eS) := WBlk.kept (w := w.alloc (wObj false eS)) (heap_alloc_new _ _) hGG (by simp)
                    have hc0 := hb2.c0
                    have hcc1 := hb2.c1
                    have hf0 := hb2.fr 0
                    have hf1 := hb2.fr 1
                    have HGG : Hid ((w.alloc (wObj false eS)).grownBy wr none) := hGG
                    clear hGG
                    go_wp2_with fail
                    refine bodyPost_ret (res_cell_tmp rfl _ _ w.heap.size _ _ _ _ rfl (hb2.put _ _)) rfl ?_
                    exact ⟨HF2.out, grown_set (grown_set (grownBy_trans (grow1 _ _) HGG.out) (Nat.le_refl _)) (Nat.le_refl _)⟩
                  · have hc2I : ((u[i + k].toNat : Nat) : Int) ≤ 57 := by omega
                    go_wp2_with fail
                    go_roundw
                    case rel =>
                      refine ⟨k + 1, num_eq (by omega), num_eq (by rw [hp2]; omega), num_eq (by rw [HSN.out]; omega), rfl, by omega, by omega, fun b hb => ?_, trivial⟩
                      rw [← Nat.add_assoc, take_succ_at HB.out] at hb
                      rcases List.mem_append.1 hb with h | h
                      · exact HDk.out b h
                      · simp at h; subst h; unfold isDig; omega
                    case measure => simp [RowKit.intOf]; omega
              · have hend : k = 9 ∨ i + k = u.size := by omega
                have hk1 : 1 ≤ k := by omega
                clear hdg htk hlk hdec hdk
                generalize dec (((bN u).drop i).take k) = X at *
                generalize hTT : 10 ^ k = T at *
                have hT0 : 0 < T := by rw [← hTT]; exact Nat.pow_pos (by decide)
                have hTI : (T : Int) ≤ 1000000000 := by omega
                have hXI : (X : Int) ≤ 999999999 := by omega
                have hwT : IntKind.u32.wrap (T : Int) = (T : Int) := by rw [IntKind.wrap_u32]; omega
                have hwX : IntKind.u32.wrap (X : Int) = (X : Int) := by rw [IntKind.wrap_u32]; omega
                clear hTT
                have HPR : Hid (Calls Tryz.prog 76 #[.slice la lm lc, .slice (some ⟨wr.heap.size, 0, none⟩) 1 1] (wr.alloc (.cells #[.int .u32 (T : Int)] 74)) fun e w' => ∃ v K, e = .returned v ∧ D4 w' v K ∧ (∀ x ∈ K, x < B32) ∧ nv B32 K = nv B32 L * nv B32 [T] ∧ K.length ≤ L.length + [T].length ∧ Trim K ∧ (wr.alloc (.cells #[.int .u32 (T : Int)] 74)).grownBy w' none) := product_any _ _ _ L [T] (HLL.out.1.kept (grow1 _ _)) (d4_one wr T) HLL.out.2.1 (by intro x hx; simp at hx; subst hx; simp only [B32]; omega) (by have := HLL.out.2.2.1; omega) (by simp)
                by_cases hk9' : k < 9
                · have hik : i + k = u.size := by omega
                  have hikI : ((i + k : Nat) : Int) = u.size := by omega
                  have hk8 : (k : Int) ≤ 8 := by omega
                  go_wp2_with fail
                  refine HPR.out.mono ?_
                  rintro e w2 ⟨v2, K, rfl, dK, rK, vK, lK, tK, g2⟩
                  obtain ⟨a2, c2, hv2⟩ := dK.slice
                  have hcut := cut_any _ _ [X] (d4_one w2 X) (by intro x hx; simp at hx; subst hx; simp only [B32]; omega) (by simp)
                  have HCU : Hid (Calls Tryz.prog 101 #[.slice (some ⟨w2.heap.size, 0, none⟩) 1 1] (w2.alloc (.cells #[.int .u32 (X : Int)] 74)) fun e w' => ∃ v' k, e = .returned v' ∧ k ≤ 1 ∧ D4 (w2.alloc (.cells #[.int .u32 (X : Int)] 74)) v' ([X].take k) ∧ nv B32 ([X].take k) = nv B32 [X] ∧ (k = 0 ∨ ([X].take k)[k - 1]?.getD 0 ≠ 0) ∧ w' = w2.alloc (.cells #[.int .u32 (X : Int)] 74)) := hcut
                  have HK : Hid (D4 w2 v2 K ∧ (∀ x ∈ K, x < B32) ∧ nv B32 K = nv B32 L * nv B32 [T] ∧ K.length ≤ L.length + [T].length ∧ (wr.alloc (.cells #[.int .u32 (T : Int)] 74)).grownBy w2 none) := ⟨dK, rK, vK, lK, g2⟩
                  have hKsz : K.length ≤ 100000 := by have := HLL.out.2.2.1; simp at lK; omega
                  generalize K.length = km at hv2
                  subst hv2
                  clear dK rK vK lK tK g2 hcut HPR
                  go_wp2_with fail
                  refine HCU.out.mono ?_
                  rintro e w3 ⟨v3, k3, rfl, hk3, dX, vX, _, hw3⟩
                  subst hw3
                  obtain ⟨a3, c3, hv3⟩ := dX.slice
                  have hmo := more_any _ _ v3 K _ (HK.out.1.kept (grow1 _ _)) dX HK.out.2.1 (by intro x hx; have := List.mem_of_mem_take hx; simp at this; subst this; simp only [B32]; omega) (by omega) (by simp; omega)
                  have HMO : Hid (Calls Tryz.prog 74 #[.slice a2 km c2, v3] (w2.alloc (.cells #[.int .u32 (X : Int)] 74)) fun e w' => ∃ v' M, e = .returned v' ∧ (∃ a m c, v' = .slice a m c) ∧ RrI (w.alloc (wObj false eS)) w' (bN u) v' (i + k)) := (by
                    refine hmo.mono ?_
                    rintro e w4 ⟨v4, M, rfl, dM, rM, vM, lM, _, g4⟩
                    obtain ⟨a4, c4, hv4⟩ := dM.slice
                    obtain ⟨b1, b2, b3, b4, b5⟩ := HLL.out
                    obtain ⟨d1, d2, d3, d4, d5⟩ := HK.out
                    refine ⟨v4, M, rfl, ⟨_, _, _, hv4⟩, M, by rw [hubl]; exact hiu, HDk.out, dM, rM, ?_, ?_, grownBy_trans (grownBy_trans b5 (grownBy_trans (grow1 _ _) d5)) (grownBy_trans (grow1 _ _) g4)⟩
                    · have : ([X].take k3).length ≤ 1 := by simp; omega
                      simp at d4
                      omega
                    · rw [vM, vX, d3, HDEC.out, b4]
                      simp [nv])
                  generalize ([X].take k3).length = xm at hv3
                  subst hv3
                  clear hmo dX vX HCU HK
                  go_wp2_with fail
                  refine HMO.out.mono ?_
                  rintro e w4 ⟨v4, M, rfl, ⟨a4, m4, c4, rfl⟩, hI4⟩
                  have HI4 : Hid (RrI (w.alloc (wObj false eS)) w4 (bN u) (.slice a4 m4 c4) (i + k)) := hI4
                  clear hI4 HMO
                  go_wp2_with fail
                  go_roundw
                  case rel => exact ⟨⟨_, _, _, rfl⟩, i + k, num_eq (by omega), HI4.out⟩
                  case measure => simp [RowKit.intOf]; omega
                · exfalso; omega
          · obtain rfl : i = u.size := by omega
            rw [List.take_of_length_le (by omega)] at hd vL
            have htx : tx := HDG.out hd
            have hM := made_any false wr _ L hD rL (by omega)
            rw [vL] at hM
            have HM : Hid (Calls Tryz.prog 59 #[.bool false, .slice la lm lc] wr fun e w' => ∃ s, e = .returned (whole (false && decide (dec (bN u) ≠ 0)) s) ∧ bN s = magN (dec (bN u)) ∧ wr.grownBy w' none) := hM
            have HTT : Hid (∀ s', bN s' = magN (dec (bN u)) → R (.returned (.tuple #[whole (false && decide (dec (bN u) ≠ 0)) s', .int .i64 0]))) := HT.out htx
            have HGG : Hid ((w.alloc (wObj false eS)).grownBy wr none) := hg
            clear hM hd vL hD rL lL hg htx
            generalize (false && decide (dec (bN u) ≠ 0)) = nn at *
            go_wp2_with fail
            refine HM.out.mono ?_
            rintro e w2 ⟨s', rfl, hs', g2⟩
            have HRR : Hid (R (.returned (.tuple #[whole nn s', .int .i64 0]))) := HTT.out s' hs'
            have HG2 : Hid ((w.alloc (wObj false eS)).grownBy w2 none) := grownBy_trans HGG.out g2
            have hb2 : WBlk w2 w.heap.size (.bool false) (.string eS) := WBlk.kept (w := w.alloc (wObj false eS)) (heap_alloc_new _ _) HG2.out (by simp)
            have hc0 := hb2.c0
            have hcc1 := hb2.c1
            have hf0 := hb2.fr 0
            have hf1 := hb2.fr 1
            clear hs' g2 HM HTT
            go_wp2_with fail
            refine bodyPost_ret (res_cell_tmp rfl _ _ w.heap.size _ _ _ _ rfl (hb2.put _ _)) rfl ?_
            exact ⟨HRR.out, grown_set (grown_set (grownBy_trans (grow1 _ _) HG2.out) (Nat.le_refl _)) (Nat.le_refl _)⟩

      · have hno : ¬ tx := fun h => by
          rcases (HTI.1 h).2.2 with h | h
          · exact h hu48
          · exact hsz1 h.2
        have HFF := HF.out hno
        have HF2 : Hid (R (.returned (.tuple #[whole false eS, .int .i64 120]))) := HFF
        have hsz1I : (2 : Int) ≤ u.size := by omega
        clear HFF HTI HT HF
        go_enter Tryz.func53, Tryz.ntmps53
        go_wp2_with fail
        refine bodyPost_ret (res_cell_tmp rfl _ _ w.heap.size _ _ _ _ rfl (heap_alloc_new _ _)) rfl ?_
        exact ⟨HF2.out, grow1 _ _⟩
    have hu48I : ¬ ((u[0].toNat : Nat) : Int) = 48 := by omega
    have hu48b : (((u[0].toNat : Nat) : Int) == 48) = false := by rw [beq_eq_false_iff_ne]; exact hu48I
    have HDG : Hid ((∀ b ∈ bN u, isDig b) → tx) := fun h => HTI.2 ⟨h, hu0, .inl hu48⟩
    have HND : Hid (∀ b ∈ bN u, ¬ isDig b → ¬ tx) := fun b hb hn h => hn ((HTI.1 h).1 b hb)
    clear HTI hhd
    go_enter Tryz.func53, Tryz.ntmps53
    go_wp2_with fail
    go_loopw [6, 7] (fun l t wr => (∃ a m c, l = .slice a m c) ∧ ∃ i : Nat, t = .int .i64 i ∧ RrI (w.alloc (wObj false eS)) wr (bN u) l i) (fun _ t _ => u.size - (RowKit.intOf t).toNat)
    case atStart => exact ⟨⟨_, _, _, rfl⟩, 0, rfl, [], by omega, by simp, .inl ⟨rfl, rfl⟩, by simp, by simp, by simp [nv, dec], World.grownBy.refl _ _⟩
    case round =>
      obtain ⟨⟨la, lm, lc, rfl⟩, i, rfl, hI⟩ := hrel
      have HI : Hid (RrI (w.alloc (wObj false eS)) wr (bN u) (.slice la lm lc) i) := hI
      obtain ⟨L, hi, hd, hD, rL, lL, vL, hg⟩ := hI
      rw [hubl] at hi
      by_cases hie : i < u.size
      · have hieI : (i : Int) < u.size := by omega
        have HDd : Hid (∀ b ∈ (bN u).take i, isDig b) := hd
        have HLL : Hid (D4 wr (.slice la lm lc) L ∧ (∀ x ∈ L, x < B32) ∧ L.length ≤ 2 * i ∧ nv B32 L = dec ((bN u).take i) ∧ (w.alloc (wObj false eS)).grownBy wr none) := ⟨hD, rL, lL, vL, hg⟩
        clear hd hD rL lL vL hg
        generalize wr = wo at *
        go_wp2_with fail
        go_loopw [7, 8, 9, 10] (fun p q r t wz => ∃ k : Nat, p = .int .i64 ((i + k : Nat) : Int) ∧ q = .int .u64 ((10 ^ k : Nat) : Int) ∧ r = .int .u64 ((dec (((bN u).drop i).take k) : Nat) : Int) ∧ t = .int .i64 k ∧ k ≤ 9 ∧ i + k ≤ u.size ∧ (∀ b ∈ (bN u).take (i + k), isDig b) ∧ wz = wo) (fun _ _ _ t _ => 9 - (RowKit.intOf t).toNat)
        case atStart => exact ⟨0, rfl, rfl, rfl, rfl, by omega, by omega, HDd.out, rfl⟩
        case round =>
          obtain ⟨k, rfl, rfl, rfl, rfl, hk9, hiu, hdk, hwz⟩ := hrel
          subst hwz
          have HDk : Hid (∀ b ∈ (bN u).take (i + k), isDig b) := hdk
          have htk : ((bN u).drop i).take k = ((bN u).take (i + k)).drop i := by rw [List.take_drop]
          have hdg : ∀ b ∈ ((bN u).drop i).take k, isDig b := fun b hb => hdk b (by rw [htk] at hb; exact List.mem_of_mem_drop hb)
          have hdl := dec_lt _ hdg
          have hlk : (((bN u).drop i).take k).length = k := by rw [List.length_take, List.length_drop, hubl]; omega
          rw [hlk] at hdl
          have hpk : 10 ^ k ≤ 10 ^ 9 := Nat.pow_le_pow_right (by decide) hk9
          have e9 : 10 ^ 9 = 1000000000 := by decide
          have hdec : dec ((bN u).take (i + k)) = dec ((bN u).take i) * 10 ^ k + dec (((bN u).drop i).take k) := by rw [List.take_add, dec_append, hlk]
          have HDEC : Hid (dec ((bN u).take (i + k)) = dec ((bN u).take i) * 10 ^ k + dec (((bN u).drop i).take k)) := hdec
          by_cases hgo : k < 9 ∧ i + k < u.size
          · have hb := bN_at u (i + k) hgo.2
            have hsn : dec (((bN u).drop i).take (k + 1)) = dec (((bN u).drop i).take k) * 10 + (u[i + k].toNat - 48) := by
              have : ((bN u).drop i)[k]? = some u[i + k].toNat := by rw [List.getElem?_drop, hb]
              rw [take_succ_at this, dec_snoc]
            have HSN : Hid (dec (((bN u).drop i).take (k + 1)) = dec (((bN u).drop i).take k) * 10 + (u[i + k].toNat - 48)) := hsn
            have HB : Hid ((bN u)[i + k]? = some u[i + k].toNat) := hb
            have hp2 : 10 ^ (k + 1) = 10 ^ k * 10 := Nat.pow_succ 10 k
            have hk8 : (k : Int) ≤ 8 := by omega
            have hiuI : ((i + k : Nat) : Int) < u.size := by omega
            clear hb hsn hdk hdg htk hdec
            generalize dec (((bN u).drop i).take k) = X at *
            generalize 10 ^ k = T at *
            have hTI : (T : Int) ≤ 1000000000 := by omega
            have hXI : (X : Int) ≤ 999999999 := by omega
            by_cases hc1 : u[i + k].toNat < 48
            · have hno : ¬ tx := HND.out u[i + k].toNat (by rw [List.mem_iff_getElem?]; exact ⟨_, HB.out⟩) (by unfold isDig; omega)
              have HF2 : Hid (R (.returned (.tuple #[whole false eS, .int .i64 120]))) := HF.out hno
              have hc1I : ((u[i + k].toNat : Nat) : Int) ≤ 47 := by omega
              have hGG := HLL.out.2.2.2.2
              have hb2 : WBlk wr w.heap.size (.bool false) (.string eS) := WBlk.kept (w := w.alloc (wObj false eS)) (heap_alloc_new _ _) hGG (by simp)
              have hc0 := hb2.c0
              have hcc1 := hb2.c1
              have hf0 := hb2.fr 0
              have hf1 := hb2.fr 1
              have HGG : Hid ((w.alloc (wObj false eS)).grownBy wr none) := hGG
              clear hGG
              go_wp2_with fail
              refine bodyPost_ret (res_cell_tmp rfl _ _ w.heap.size _ _ _ _ rfl (hb2.put _ _)) rfl ?_
              exact ⟨HF2.out, grown_set (grown_set (grownBy_trans (grow1 _ _) HGG.out) (Nat.le_refl _)) (Nat.le_refl _)⟩
            · have hc1I : (48 : Int) ≤ ((u[i + k].toNat : Nat) : Int) := by omega
              by_cases hc2 : 57 < u[i + k].toNat
              · have hno : ¬ tx := HND.out u[i + k].toNat (by rw [List.mem_iff_getElem?]; exact ⟨_, HB.out⟩) (by unfold isDig; omega)
                have HF2 : Hid (R (.returned (.tuple #[whole false eS, .int .i64 120]))) := HF.out hno
                have hc2I : (58 : Int) ≤ ((u[i + k].toNat : Nat) : Int) := by omega
                have hGG := HLL.out.2.2.2.2
                have hb2 : WBlk wr w.heap.size (.bool false) (.string eS) := WBlk.kept (w := w.alloc (wObj false eS)) (heap_alloc_new _ _) hGG (by simp)
                have hc0 := hb2.c0
                have hcc1 := hb2.c1
                have hf0 := hb2.fr 0
                have hf1 := hb2.fr 1
                have HGG : Hid ((w.alloc (wObj false eS)).grownBy wr none) := hGG
                clear hGG
                go_wp2_with fail
                refine bodyPost_ret (res_cell_tmp rfl _ _ w.heap.size _ _ _ _ rfl (hb2.put _ _)) rfl ?_
                exact ⟨HF2.out, grown_set (grown_set (grownBy_trans (grow1 _ _) HGG.out) (Nat.le_refl _)) (Nat.le_refl _)⟩
              · have hc2I : ((u[i + k].toNat : Nat) : Int) ≤ 57 := by omega
                go_wp2_with fail
                go_roundw
                case rel =>
                  refine ⟨k + 1, num_eq (by omega), num_eq (by rw [hp2]; omega), num_eq (by rw [HSN.out]; omega), rfl, by omega, by omega, fun b hb => ?_, trivial⟩
                  rw [← Nat.add_assoc, take_succ_at HB.out] at hb
                  rcases List.mem_append.1 hb with h | h
                  · exact HDk.out b h
                  · simp at h; subst h; unfold isDig; omega
                case measure => simp [RowKit.intOf]; omega
          · have hend : k = 9 ∨ i + k = u.size := by omega
            have hk1 : 1 ≤ k := by omega
            clear hdg htk hlk hdec hdk
            generalize dec (((bN u).drop i).take k) = X at *
            generalize hTT : 10 ^ k = T at *
            have hT0 : 0 < T := by rw [← hTT]; exact Nat.pow_pos (by decide)
            have hTI : (T : Int) ≤ 1000000000 := by omega
            have hXI : (X : Int) ≤ 999999999 := by omega
            have hwT : IntKind.u32.wrap (T : Int) = (T : Int) := by rw [IntKind.wrap_u32]; omega
            have hwX : IntKind.u32.wrap (X : Int) = (X : Int) := by rw [IntKind.wrap_u32]; omega
            clear hTT
            have HPR : Hid (Calls Tryz.prog 76 #[.slice la lm lc, .slice (some ⟨wr.heap.size, 0, none⟩) 1 1] (wr.alloc (.cells #[.int .u32 (T : Int)] 74)) fun e w' => ∃ v K, e = .returned v ∧ D4 w' v K ∧ (∀ x ∈ K, x < B32) ∧ nv B32 K = nv B32 L * nv B32 [T] ∧ K.length ≤ L.length + [T].length ∧ Trim K ∧ (wr.alloc (.cells #[.int .u32 (T : Int)] 74)).grownBy w' none) := product_any _ _ _ L [T] (HLL.out.1.kept (grow1 _ _)) (d4_one wr T) HLL.out.2.1 (by intro x hx; simp at hx; subst hx; simp only [B32]; omega) (by have := HLL.out.2.2.1; omega) (by simp)
            by_cases hk9' : k < 9
            · have hik : i + k = u.size := by omega
              have hikI : ((i + k : Nat) : Int) = u.size := by omega
              have hk8 : (k : Int) ≤ 8 := by omega
              go_wp2_with fail
              refine HPR.out.mono ?_
              rintro e w2 ⟨v2, K, rfl, dK, rK, vK, lK, tK, g2⟩
              obtain ⟨a2, c2, hv2⟩ := dK.slice
              have hcut := cut_any _ _ [X] (d4_one w2 X) (by intro x hx; simp at hx; subst hx; simp only [B32]; omega) (by simp)
              have HCU : Hid (Calls Tryz.prog 101 #[.slice (some ⟨w2.heap.size, 0, none⟩) 1 1] (w2.alloc (.cells #[.int .u32 (X : Int)] 74)) fun e w' => ∃ v' k, e = .returned v' ∧ k ≤ 1 ∧ D4 (w2.alloc (.cells #[.int .u32 (X : Int)] 74)) v' ([X].take k) ∧ nv B32 ([X].take k) = nv B32 [X] ∧ (k = 0 ∨ ([X].take k)[k - 1]?.getD 0 ≠ 0) ∧ w' = w2.alloc (.cells #[.int .u32 (X : Int)] 74)) := hcut
              have HK : Hid (D4 w2 v2 K ∧ (∀ x ∈ K, x < B32) ∧ nv B32 K = nv B32 L * nv B32 [T] ∧ K.length ≤ L.length + [T].length ∧ (wr.alloc (.cells #[.int .u32 (T : Int)] 74)).grownBy w2 none) := ⟨dK, rK, vK, lK, g2⟩
              have hKsz : K.length ≤ 100000 := by have := HLL.out.2.2.1; simp at lK; omega
              generalize K.length = km at hv2
              subst hv2
              clear dK rK vK lK tK g2 hcut HPR
              go_wp2_with fail
              refine HCU.out.mono ?_
              rintro e w3 ⟨v3, k3, rfl, hk3, dX, vX, _, hw3⟩
              subst hw3
              obtain ⟨a3, c3, hv3⟩ := dX.slice
              have hmo := more_any _ _ v3 K _ (HK.out.1.kept (grow1 _ _)) dX HK.out.2.1 (by intro x hx; have := List.mem_of_mem_take hx; simp at this; subst this; simp only [B32]; omega) (by omega) (by simp; omega)
              have HMO : Hid (Calls Tryz.prog 74 #[.slice a2 km c2, v3] (w2.alloc (.cells #[.int .u32 (X : Int)] 74)) fun e w' => ∃ v' M, e = .returned v' ∧ (∃ a m c, v' = .slice a m c) ∧ RrI (w.alloc (wObj false eS)) w' (bN u) v' (i + k)) := (by
                refine hmo.mono ?_
                rintro e w4 ⟨v4, M, rfl, dM, rM, vM, lM, _, g4⟩
                obtain ⟨a4, c4, hv4⟩ := dM.slice
                obtain ⟨b1, b2, b3, b4, b5⟩ := HLL.out
                obtain ⟨d1, d2, d3, d4, d5⟩ := HK.out
                refine ⟨v4, M, rfl, ⟨_, _, _, hv4⟩, M, by rw [hubl]; exact hiu, HDk.out, dM, rM, ?_, ?_, grownBy_trans (grownBy_trans b5 (grownBy_trans (grow1 _ _) d5)) (grownBy_trans (grow1 _ _) g4)⟩
                · have : ([X].take k3).length ≤ 1 := by simp; omega
                  simp at d4
                  omega
                · rw [vM, vX, d3, HDEC.out, b4]
                  simp [nv])
              generalize ([X].take k3).length = xm at hv3
              subst hv3
              clear hmo dX vX HCU HK
              go_wp2_with fail
              refine HMO.out.mono ?_
              rintro e w4 ⟨v4, M, rfl, ⟨a4, m4, c4, rfl⟩, hI4⟩
              have HI4 : Hid (RrI (w.alloc (wObj false eS)) w4 (bN u) (.slice a4 m4 c4) (i + k)) := hI4
              clear hI4 HMO
              go_wp2_with fail
              go_roundw
              case rel => exact ⟨⟨_, _, _, rfl⟩, i + k, num_eq (by omega), HI4.out⟩
              case measure => simp [RowKit.intOf]; omega
            · obtain rfl : k = 9 := by omega
              have hiuI : ((i + 9 : Nat) : Int) ≤ u.size := by omega
              go_wp2_with fail
              refine HPR.out.mono ?_
              rintro e w2 ⟨v2, K, rfl, dK, rK, vK, lK, tK, g2⟩
              obtain ⟨a2, c2, hv2⟩ := dK.slice
              have hcut := cut_any _ _ [X] (d4_one w2 X) (by intro x hx; simp at hx; subst hx; simp only [B32]; omega) (by simp)
              have HCU : Hid (Calls Tryz.prog 101 #[.slice (some ⟨w2.heap.size, 0, none⟩) 1 1] (w2.alloc (.cells #[.int .u32 (X : Int)] 74)) fun e w' => ∃ v' k, e = .returned v' ∧ k ≤ 1 ∧ D4 (w2.alloc (.cells #[.int .u32 (X : Int)] 74)) v' ([X].take k) ∧ nv B32 ([X].take k) = nv B32 [X] ∧ (k = 0 ∨ ([X].take k)[k - 1]?.getD 0 ≠ 0) ∧ w' = w2.alloc (.cells #[.int .u32 (X : Int)] 74)) := hcut
              have HK : Hid (D4 w2 v2 K ∧ (∀ x ∈ K, x < B32) ∧ nv B32 K = nv B32 L * nv B32 [T] ∧ K.length ≤ L.length + [T].length ∧ (wr.alloc (.cells #[.int .u32 (T : Int)] 74)).grownBy w2 none) := ⟨dK, rK, vK, lK, g2⟩
              have hKsz : K.length ≤ 100000 := by have := HLL.out.2.2.1; simp at lK; omega
              generalize K.length = km at hv2
              subst hv2
              clear dK rK vK lK tK g2 hcut HPR
              go_wp2_with fail
              refine HCU.out.mono ?_
              rintro e w3 ⟨v3, k3, rfl, hk3, dX, vX, _, hw3⟩
              subst hw3
              obtain ⟨a3, c3, hv3⟩ := dX.slice
              have hmo := more_any _ _ v3 K _ (HK.out.1.kept (grow1 _ _)) dX HK.out.2.1 (by intro x hx; have := List.mem_of_mem_take hx; simp at this; subst this; simp only [B32]; omega) (by omega) (by simp; omega)
              have HMO : Hid (Calls Tryz.prog 74 #[.slice a2 km c2, v3] (w2.alloc (.cells #[.int .u32 (X : Int)] 74)) fun e w' => ∃ v' M, e = .returned v' ∧ (∃ a m c, v' = .slice a m c) ∧ RrI (w.alloc (wObj false eS)) w' (bN u) v' (i + 9)) := (by
                refine hmo.mono ?_
                rintro e w4 ⟨v4, M, rfl, dM, rM, vM, lM, _, g4⟩
                obtain ⟨a4, c4, hv4⟩ := dM.slice
                obtain ⟨b1, b2, b3, b4, b5⟩ := HLL.out
                obtain ⟨d1, d2, d3, d4, d5⟩ := HK.out
                refine ⟨v4, M, rfl, ⟨_, _, _, hv4⟩, M, by rw [hubl]; exact hiu, HDk.out, dM, rM, ?_, ?_, grownBy_trans (grownBy_trans b5 (grownBy_trans (grow1 _ _) d5)) (grownBy_trans (grow1 _ _) g4)⟩
                · have : ([X].take k3).length ≤ 1 := by simp; omega
                  simp at d4
                  omega
                · rw [vM, vX, d3, HDEC.out, b4]
                  simp [nv])
              generalize ([X].take k3).length = xm at hv3
              subst hv3
              clear hmo dX vX HCU HK
              go_wp2_with fail
              refine HMO.out.mono ?_
              rintro e w4 ⟨v4, M, rfl, ⟨a4, m4, c4, rfl⟩, hI4⟩
              have HI4 : Hid (RrI (w.alloc (wObj false eS)) w4 (bN u) (.slice a4 m4 c4) (i + 9)) := hI4
              clear hI4 HMO
              go_wp2_with fail
              go_roundw
              case rel => exact ⟨⟨_, _, _, rfl⟩, i + 9, num_eq (by omega), HI4.out⟩
              case measure => simp [RowKit.intOf]; omega
      · obtain rfl : i = u.size := by omega
        rw [List.take_of_length_le (by omega)] at hd vL
        have htx : tx := HDG.out hd
        have hM := made_any false wr _ L hD rL (by omega)
        rw [vL] at hM
        have HM : Hid (Calls Tryz.prog 59 #[.bool false, .slice la lm lc] wr fun e w' => ∃ s, e = .returned (whole (false && decide (dec (bN u) ≠ 0)) s) ∧ bN s = magN (dec (bN u)) ∧ wr.grownBy w' none) := hM
        have HTT : Hid (∀ s', bN s' = magN (dec (bN u)) → R (.returned (.tuple #[whole (false && decide (dec (bN u) ≠ 0)) s', .int .i64 0]))) := HT.out htx
        have HGG : Hid ((w.alloc (wObj false eS)).grownBy wr none) := hg
        clear hM hd vL hD rL lL hg htx
        generalize (false && decide (dec (bN u) ≠ 0)) = nn at *
        go_wp2_with fail
        refine HM.out.mono ?_
        rintro e w2 ⟨s', rfl, hs', g2⟩
        have HRR : Hid (R (.returned (.tuple #[whole nn s', .int .i64 0]))) := HTT.out s' hs'
        have HG2 : Hid ((w.alloc (wObj false eS)).grownBy w2 none) := grownBy_trans HGG.out g2
        have hb2 : WBlk w2 w.heap.size (.bool false) (.string eS) := WBlk.kept (w := w.alloc (wObj false eS)) (heap_alloc_new _ _) HG2.out (by simp)
        have hc0 := hb2.c0
        have hcc1 := hb2.c1
        have hf0 := hb2.fr 0
        have hf1 := hb2.fr 1
        clear hs' g2 HM HTT
        go_wp2_with fail
        refine bodyPost_ret (res_cell_tmp rfl _ _ w.heap.size _ _ _ _ rfl (hb2.put _ _)) rfl ?_
        exact ⟨HRR.out, grown_set (grown_set (grownBy_trans (grow1 _ _) HG2.out) (Nat.le_refl _)) (Nat.le_refl _)⟩

theorem rRead_any (s : ByteArray) (h9 : s.size ≤ 40000) (w : World) :
    Calls Tryz.prog 53 #[.string s] w fun e w' => RdRes s e ∧ w.grownBy w' none := by
  by_cases h0 : s.size = 0
  · obtain rfl := empty_of_size h0
    exact rRead_none w
  · by_cases h45 : (bN s).head? = some 45
    · exact rRead_neg s h9 h0 h45 w
    · exact rRead_pos s h9 h0 h45 w
end Go.Proofs.YthchagmflceaeaaGreatDoor
