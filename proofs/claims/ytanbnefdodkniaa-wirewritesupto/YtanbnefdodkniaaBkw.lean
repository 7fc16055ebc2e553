/-
  The walk over WireBack.
-/
import Derived.Test.YtanbnefdodkniaaWtn
import Derived.Deep.CutRange
namespace Go.Proofs.Ytanbnefdodkniaa
open Go.RowKit Go.Lib Go.Sort
attribute [local go_sem] ext56 ext9

theorem Src.far {w w' : World} {v : Value} {L : List Int} (h : Src w v L) (hg : w.grownBy w' none) : Src w' v L := by
  rcases h with h | ⟨b, off, c, rfl, hc⟩
  · exact .inl h
  · exact .inr ⟨b, off, c, rfl, src_far hc hg⟩

abbrev thingsB (N : Nat) (S : Int) (X Y : Nat) (T : ByteArray) (a b c d : WN) : Array Value :=
  #[.int .u64 N, .int .i64 S, .int .u64 X, .int .u64 Y, .string T, .bool a.1, .string a.2, .bool b.1, .string b.2, .bool c.1, .string c.2, .bool d.1, .string d.2]

theorem seq_back (N : Nat) (S : Int) (X Y : Nat) (T : ByteArray) (Z L : List Int) (hN : N < 18446744073709551616) (hS0 : -9223372036854775808 ≤ S) (hS1 : S ≤ 9223372036854775807)
    (hX : X < 18446744073709551616) (hY : Y < 18446744073709551616) (hT : T.size ≤ 140737488351232)
    (hL : L = numF N ++ numF (fold S) ++ (fB (bitsF X) ++ fB (bitsF Y)) ++ textF T ++ Z ++ fB (bitsF X)) :
    rdN 0 0 L = (N, (numF N).length, 0) ∧ rdN 0 0 (L.drop (numF N).length) = (fold S, (numF (fold S)).length, 0) ∧
    cR L ((numF N).length + (numF (fold S)).length) = ((bitsF X, bitsF Y), (numF N).length + (numF (fold S)).length + 16, 0) ∧
    txt T.size L ((numF N).length + (numF (fold S)).length + 16) = (sB T, (numF N).length + (numF (fold S)).length + 16 + (textF T).length, 0) ∧
    fR L ((numF N).length + (numF (fold S)).length + 16 + (textF T).length + Z.length) = (bitsF X, (numF N).length + (numF (fold S)).length + 16 + (textF T).length + Z.length + 8, 0) ∧
    L.length = (numF N).length + (numF (fold S)).length + 16 + (textF T).length + Z.length + 8 := by
  have l3 := fB_len (bitsF X)
  have l4 := fB_len (bitsF Y)
  refine ⟨?_, ?_, ?_, ?_, ?_, ?_⟩
  · have e : L = numF N ++ (numF (fold S) ++ (fB (bitsF X) ++ (fB (bitsF Y) ++ (textF T ++ (Z ++ fB (bitsF X)))))) := by rw [hL]; simp
    rw [e]; exact num_back N _ hN
  · have e : L = numF N ++ (numF (fold S) ++ (fB (bitsF X) ++ (fB (bitsF Y) ++ (textF T ++ (Z ++ fB (bitsF X)))))) := by rw [hL]; simp
    rw [e, List.drop_left]; exact num_back _ _ (fold_lt S hS0 hS1)
  · have e : L = (numF N ++ numF (fold S)) ++ (fB (bitsF X) ++ (fB (bitsF Y) ++ (textF T ++ (Z ++ fB (bitsF X))))) := by rw [hL]; simp
    have h := cR_float (numF N ++ numF (fold S)) X Y (textF T ++ (Z ++ fB (bitsF X))) hX hY
    rw [← e, List.length_append] at h; exact h
  · have e : L = (numF N ++ numF (fold S) ++ (fB (bitsF X) ++ fB (bitsF Y))) ++ (textF T ++ (Z ++ fB (bitsF X))) := by rw [hL]; simp
    have h := txt_back (numF N ++ numF (fold S) ++ (fB (bitsF X) ++ fB (bitsF Y))) T (Z ++ fB (bitsF X)) (by omega)
    rw [← e] at h
    simp only [List.length_append, l3, l4] at h
    exact h
  · have e : L = (numF N ++ numF (fold S) ++ (fB (bitsF X) ++ fB (bitsF Y)) ++ textF T ++ Z) ++ (fB (bitsF X) ++ []) := by rw [hL]; simp
    have h := fR_float (numF N ++ numF (fold S) ++ (fB (bitsF X) ++ fB (bitsF Y)) ++ textF T ++ Z) X [] hX
    rw [← e] at h
    simp only [List.length_append, l3, l4] at h
    exact h
  · rw [hL]; simp only [List.length_append, l3, l4]
theorem seq_gauss (N : Nat) (S : Int) (X Y : Nat) (T : ByteArray) (L : List Int) (a b c d : WN) (hp : plainG a b c d = true)
    (hL : L = numF N ++ numF (fold S) ++ (fB (bitsF X) ++ fB (bitsF Y)) ++ textF T ++ gaussF a b c d ++ fB (bitsF X)) :
    gR L ((numF N).length + (numF (fold S)).length + 16 + (textF T).length) = (((a, b), (c, d)), (numF N).length + (numF (fold S)).length + 16 + (textF T).length + (gaussF a b c d).length, 0) := by
  have l3 := fB_len (bitsF X)
  have l4 := fB_len (bitsF Y)
  have e : L = (numF N ++ numF (fold S) ++ (fB (bitsF X) ++ fB (bitsF Y)) ++ textF T) ++ (gaussF a b c d ++ fB (bitsF X)) := by rw [hL]; simp
  have h := gR_back (numF N ++ numF (fold S) ++ (fB (bitsF X) ++ fB (bitsF Y)) ++ textF T) a b c d (fB (bitsF X)) hp
  rw [← e] at h
  simp only [List.length_append, l3, l4] at h
  exact h
theorem like_same (x : Nat) (w : World) : Calls Try.prog 40 #[.float .f64 (bitsF x), .float .f64 x] w fun e w' => e = .returned (.bool true) ∧ w' = w := by
  have h := like_any (bitsF x) x w
  rw [bitsF_twice] at h
  simpa using h

theorem Signed_val {w : World} {rb : Nat} {v : Value} {L : List Int} {k : Nat} (n c : Nat) (h : Rdr w rb v L k) (hr : rdN 0 0 (L.drop k) = (n, c, 0)) : Reads 37 w rb v L (k + c) (.int .i64 (unf n)) 0 := by
  have := Signed_any w rb v L k h
  rw [hr] at this
  exact this
theorem Complex_val {w : World} {rb : Nat} {v : Value} {L : List Int} {k : Nat} (x y j : Nat) (h : Rdr w rb v L k) (hr : cR L k = ((x, y), j, 0)) : Reads 38 w rb v L j (.complex .f64 x y) 0 := by
  have := rd_complex w rb v L k h
  rw [hr] at this
  exact Complex_ok w rb v L k j x y h this
theorem Float_val {w : World} {rb : Nat} {v : Value} {L : List Int} {k : Nat} (x j : Nat) (h : Rdr w rb v L k) (hr : fR L k = (x, j, 0)) : Reads 43 w rb v L j (.float .f64 x) 0 := by
  have := rd_float w rb v L k h
  rw [hr] at this
  exact Float_ok w rb v L k j x h this
theorem gaussF_rng (a b c d : WN) : ∀ x ∈ gaussF a b c d, 0 ≤ x ∧ x ≤ 255 := by
  intro x hx
  simp only [gaussF, fracF, List.mem_append] at hx
  rcases hx with (hx | hx) | (hx | hx) <;> exact wholeF_rng _ _ x hx
theorem seq_rng (N M : Nat) (X Y : Nat) (T : ByteArray) (Z : List Int) (hZ : ∀ x ∈ Z, 0 ≤ x ∧ x ≤ 255) :
    ∀ x ∈ numF N ++ numF M ++ (fB X ++ fB Y) ++ textF T ++ Z ++ fB X, 0 ≤ x ∧ x ≤ 255 := by
  intro x hx
  simp only [textF, List.mem_append] at hx
  rcases hx with ((((hx | hx) | (hx | hx)) | (hx | hx)) | hx) | hx
  · exact numF_rng _ x hx
  · exact numF_rng _ x hx
  · exact fB_rng _ x hx
  · exact fB_rng _ x hx
  · exact numF_rng _ x hx
  · exact sB_rng _ x hx
  · exact hZ x hx
  · exact fB_rng _ x hx

theorem gw_any (a b c d : WN) (ha : a.2.size ≤ maxLen) (hb : b.2.size ≤ maxLen) (hc : c.2.size ≤ maxLen) (hd : d.2.size ≤ maxLen) :
    ∃ (Z : List Int) (e : Nat), Z.length ≤ 5000 ∧ (e = 0 ∧ plainG a b c d = true ∧ Z = gaussF a b c d ∨ e = 2 ∧ Z = []) ∧
      ∀ w, Calls Try.prog 22 #[gv a b c d] w fun en w' => ∃ v, en = .returned (.tuple #[v, .int .i64 e]) ∧ Src w' v Z ∧ w.grownBy w' none := by
  cases hp : plainG a b c d
  · refine ⟨[], 2, by simp, .inr ⟨rfl, rfl⟩, fun w => (Gauss_no a b c d w ha hb hc hd hp).mono ?_⟩
    rintro en w' ⟨rfl, hg⟩
    exact ⟨_, rfl, .inl ⟨rfl, rfl⟩, hg⟩
  · have hp' : plainFr a b = true ∧ plainFr c d = true := by unfold plainG at hp; simpa using hp
    have l1 := fracF_len hp'.1
    have l2 := fracF_len hp'.2
    refine ⟨gaussF a b c d, 0, by unfold gaussF; rw [List.length_append]; omega, .inl ⟨rfl, rfl, rfl⟩, fun w => (Gauss_yes a b c d w hp).mono ?_⟩
    rintro en w' ⟨v, rfl, hF⟩
    exact ⟨v, rfl, hF.src, hF.2⟩

set_option maxHeartbeats 6400000 in
set_option maxRecDepth 1000000 in
theorem back_any (N : Nat) (S : Int) (X Y : Nat) (T : ByteArray) (a b c d : WN) (s : Value) (w : World)
    (hN : N < 18446744073709551616) (hS0 : -9223372036854775808 ≤ S) (hS1 : S ≤ 9223372036854775807) (hX : X < 18446744073709551616) (hY : Y < 18446744073709551616)
    (hT : T.size ≤ 140737488351232) (ha : a.2.size ≤ maxLen) (hb : b.2.size ≤ maxLen) (hc : c.2.size ≤ maxLen) (hd : d.2.size ≤ maxLen)
    (HW : ∀ w', w.grownBy w' none → Calls Try.prog 44 #[s] w' fun e w'' => e = .returned (.bool true) ∧ w'.grownBy w'' none) :
    Calls Try.prog 5 #[.agg (thingsB N S X Y T a b c d), s] w fun e w' => e = .returned (.bool true) ∧ w.grownBy w' none := by
  have HWr : Hid (∀ w', w.grownBy w' none → Calls Try.prog 44 #[s] w' fun e w'' => e = .returned (.bool true) ∧ w'.grownBy w'' none) := HW
  have HM : Hid (a.2.size ≤ maxLen ∧ b.2.size ≤ maxLen ∧ c.2.size ≤ maxLen ∧ d.2.size ≤ maxLen) := ⟨ha, hb, hc, hd⟩
  clear HW ha hb hc hd
  obtain ⟨Z, e7, lZ, hZ7, hGW⟩ := gw_any a b c d HM.out.1 HM.out.2.1 HM.out.2.2.1 HM.out.2.2.2
  have HZ7 : Hid (e7 = 0 ∧ plainG a b c d = true ∧ Z = gaussF a b c d ∨ e7 = 2 ∧ Z = []) := hZ7
  have HGW : Hid (∀ w, Calls Try.prog 22 #[gv a b c d] w fun en w' => ∃ v, en = .returned (.tuple #[v, .int .i64 e7]) ∧ Src w' v Z ∧ w.grownBy w' none) := hGW
  clear HM hGW hZ7
  go_enter Try.func5, Try.ntmps5
  go_wp2_with fail
  go_quiet (fail)
  go_wp2_with fail
  refine (HGW.out _).mono ?_
  rintro e w2 ⟨v7, rfl, hs7, hg2⟩
  have K0 : Hid ((w.alloc (.cells (thingsB N S X Y T a b c d) 30)).grownBy w2 none) := grownBy_undrewN hg2
  have hB2 : w.heap.size < w2.heap.size := by have := K0.out.size; simp at this; omega
  have hblk : w2.heap[w.heap.size]? = some (.cells (thingsB N S X Y T a b c d) 30) := by
    have := K0.out.block w.heap.size (by simp) (by simp)
    rw [this]; exact heap_alloc_new _ _
  have HBK : Hid (∀ w', w2.grownBy w' none → w'.heap[w.heap.size]? = some (.cells (thingsB N S X Y T a b c d) 30)) := fun w' hg => (hg.block _ hB2 (by simp)).trans hblk
  have HKK : Hid (∀ w', w2.grownBy w' none → w'.cell? ⟨w.heap.size, 0, none⟩ = some (Value.int IntKind.u64 (N : Int)) ∧ w'.cell? ⟨w.heap.size, 1, none⟩ = some (Value.int IntKind.i64 S) ∧ w'.cell? ⟨w.heap.size, 4, none⟩ = some (Value.string T) ∧ w2.heap.size ≤ w'.heap.size) := fun w' hg => by
    have := HBK.out w' hg
    exact ⟨by simp [World.cell?, this], by simp [World.cell?, this], by simp [World.cell?, this], hg.size⟩
  obtain ⟨k0, k1, k4, _⟩ := HKK.out w2 (World.grownBy.refl w2 _)
  have HS7 : Hid (Src w2 v7 Z) := hs7
  have HG2 : Hid (w.grownBy w2 none) := grownBy_trans (World.grownBy_alloc _ _ _) K0.out
  clear hs7 hg2 hblk K0
  have l1 := numF_len N
  have l2 := numF_len (fold S)
  have l3 := fB_len (bitsF X)
  have l4 := fB_len (bitsF Y)
  have l5 : (textF T).length ≤ 11 + T.size := by unfold textF; have := numF_len T.size; rw [List.length_append, sB_length]; omega
  go_upto_region 3 with fail
  go_cut [9] from 35 to 55 (fun s9 wx => Forms w2 wx s9 (numF N ++ numF (fold S) ++ (fB (bitsF X) ++ fB (bitsF Y)) ++ textF T ++ Z ++ fB (bitsF X)))
  case first =>
    go_region_held3 (fun w' => w'.cell? ⟨w.heap.size, 0, none⟩ = some (Value.int IntKind.u64 (N : Int)) ∧ w'.cell? ⟨w.heap.size, 1, none⟩ = some (Value.int IntKind.i64 S) ∧ w'.cell? ⟨w.heap.size, 4, none⟩ = some (Value.string T) ∧ w2.heap.size ≤ w'.heap.size)
      (first | (go_keep; done) | exact HKK.out _ GJ | exact HKK.out _ GI | exact HKK.out _ GH | exact HKK.out _ GG | exact HKK.out _ GF | exact HKK.out _ GE | exact HKK.out _ GD | exact HKK.out _ GC | exact HKK.out _ GB | exact HKK.out _ GA | fail)
      (first
        | (go_at_call 10; refine (num_forms N hN _).mono ?_; rintro e wA ⟨vA, rfl, hFA⟩; have GA : w2.grownBy wA none := grownBy_undrew hFA.2; have FA : Forms w2 wA vA (numF N) := ⟨hFA.1, GA⟩)
        | (go_at_call 12; refine (signed_any S hS0 hS1 _).mono ?_; rintro e wB ⟨vB, rfl, hFB⟩; have GB : w2.grownBy wB none := grownBy_trans GA hFB.2)
        | (refine step_apps rfl (.tmp 37) (.tmp 40) (by rfl) w2.heap.size _ _ (numF N) (numF (fold S)) (by rfl) (by rfl) (Src.kept FA.1 hFB.2 (by intro g _ e; cases e)) hFB.src (by omega) GB.size ?_; intro vC wC hC; have FC := Forms.app FA hFB.2 hC; have GC := FC.2)
        | (go_at_call 16; refine (complex_any X Y _).mono ?_; rintro e wD ⟨vD, rfl, hFD⟩; have GD : w2.grownBy wD none := grownBy_trans GC hFD.2)
        | (refine step_apps rfl (.tmp 41) (.tmp 45) (by rfl) w2.heap.size _ _ (numF N ++ numF (fold S)) (fB (bitsF X) ++ fB (bitsF Y)) (by rfl) (by rfl) (Src.kept FC.1 hFD.2 (by intro g _ e; cases e)) hFD.src (by simp only [List.length_append]; omega) GD.size ?_; intro vE wE hE; have FE := Forms.app FC hFD.2 hE; have GE := FE.2)
        | (go_at_call 17; refine (text_any T hT _).mono ?_; rintro e wF ⟨vF, rfl, hFF⟩; have GF : w2.grownBy wF none := grownBy_trans GE hFF.2)
        | (refine step_apps rfl (.tmp 46) (.tmp 49) (by rfl) w2.heap.size _ _ (numF N ++ numF (fold S) ++ (fB (bitsF X) ++ fB (bitsF Y))) (textF T) (by rfl) (by rfl) (Src.kept FE.1 hFF.2 (by intro g _ e; cases e)) hFF.src (by simp only [List.length_append]; omega) GF.size ?_; intro vG wG hG; have FG := Forms.app FE hFF.2 hG; have GG := FG.2)
        | (refine step_apps rfl (.tmp 50) (.tmp 51) (by rfl) w2.heap.size _ _ (numF N ++ numF (fold S) ++ (fB (bitsF X) ++ fB (bitsF Y)) ++ textF T) Z (by rfl) (by rfl) FG.1 (HS7.out.far GG) (by simp only [List.length_append]; omega) GG.size ?_; intro vH wH hH; have FH := Forms.app FG (World.grownBy.refl wG none) hH; have GH := FH.2)
        | (go_at_call 14; refine (float_any X _).mono ?_; rintro e wI ⟨vI, rfl, hFI⟩; have GI : w2.grownBy wI none := grownBy_trans GH hFI.2)
        | (refine step_apps rfl (.tmp 52) (.tmp 54) (by rfl) w2.heap.size _ _ (numF N ++ numF (fold S) ++ (fB (bitsF X) ++ fB (bitsF Y)) ++ textF T ++ Z) (fB (bitsF X)) (by rfl) (by rfl) (Src.kept FH.1 hFI.2 (by intro g _ e; cases e)) hFI.src (by simp only [List.length_append]; omega) GI.size ?_; intro vJ wJ hJ; have FJ := Forms.app FH hFI.2 hJ; have GJ := FJ.2)
        | fail)
    all_goals
      go_wp2_with fail
      go_meet
      case rel => exact FJ
  case rest =>
    obtain ⟨L, hL⟩ : ∃ L, L = numF N ++ numF (fold S) ++ (fB (bitsF X) ++ fB (bitsF Y)) ++ textF T ++ Z ++ fB (bitsF X) := ⟨_, rfl⟩
    have hLr : ∀ x ∈ L, 0 ≤ x ∧ x ≤ 255 := by
      rw [hL]
      refine seq_rng _ _ _ _ _ _ ?_
      rcases HZ7.out with ⟨_, _, rfl⟩ | ⟨_, rfl⟩
      · exact gaussF_rng _ _ _ _
      · simp
    obtain ⟨q1, q2, q3, q4, q6, q7⟩ := seq_back N S X Y T Z L hN hS0 hS1 hX hY hT hL
    have HQ5 : Hid (plainG a b c d = true → Z = gaussF a b c d → gR L ((numF N).length + (numF (fold S)).length + 16 + (textF T).length) = (((a, b), (c, d)), (numF N).length + (numF (fold S)).length + 16 + (textF T).length + Z.length, 0)) := fun hp hz => by
      subst hz; exact seq_gauss N S X Y T L a b c d hp hL
    rw [← hL] at hcut
    obtain ⟨g9, c9, rfl, _, _, hg93, hg94⟩ := len_own5 hcut.1 (by omega)
    unfold maxLen at hg94
    have HC9 : Hid (Forms w2 wc (.slice (some ⟨g9, 0, none⟩) L.length c9) L) := hcut
    have HQ1 : Hid (rdN 0 0 L = (N, (numF N).length, 0)) := q1
    have HQ2 : Hid (rdN 0 0 (L.drop (numF N).length) = (fold S, (numF (fold S)).length, 0)) := q2
    have HQ3 : Hid (cR L ((numF N).length + (numF (fold S)).length) = ((bitsF X, bitsF Y), (numF N).length + (numF (fold S)).length + 16, 0)) := q3
    have HQ4 : Hid (txt T.size L ((numF N).length + (numF (fold S)).length + 16) = (sB T, (numF N).length + (numF (fold S)).length + 16 + (textF T).length, 0)) := q4
    have HQ6 : Hid (fR L ((numF N).length + (numF (fold S)).length + 16 + (textF T).length + Z.length) = (bitsF X, (numF N).length + (numF (fold S)).length + 16 + (textF T).length + Z.length + 8, 0)) := q6
    have HLr : Hid (∀ x ∈ L, 0 ≤ x ∧ x ≤ 255) := hLr
    have hlen : L.length ≤ 225000000000000 := by omega
    have HQ7 : Hid (L.length = (numF N).length + (numF (fold S)).length + 16 + (textF T).length + Z.length + 8) := q7
    clear q1 q2 q3 q4 q6 q7 hLr hL hcut k0 k1 k4
    go_wp2_with fail
    refine (open_any _ L wc HC9.out.src hlen HLr.out).mono ?_
    rintro e w3 ⟨rb, v3, rfl, hr3, hb3, hv3, hg3⟩
    have hbr : w2.heap.size ≤ rb := Nat.le_trans HC9.out.2.size hb3
    have HR3 : Hid (Rdr w3 rb v3 L 0) := hr3
    have HG3 : Hid (w2.grownBy w3 none) := grownBy_trans HC9.out.2 hg3
    clear hr3 hv3 hg3 hb3
    go_wp2_with fail
    refine (Number_val N (numF N).length 0 HR3.out (by simpa using HQ1.out)).mono ?_
    rintro e w4 ⟨rfl, hr4, hg4⟩
    rw [if_pos rfl]
    rw [Nat.zero_add] at hr4
    have HR4 : Hid (Rdr w4 rb v3 L (numF N).length) := hr4
    have HG4 : Hid (w2.grownBy w4 none) := grownBy_new HG3.out hbr hg4
    clear hr4 hg4 HR3 HG3
    go_wp2_with fail
    refine (Signed_val _ _ HR4.out HQ2.out).out.mono ?_
    rintro e w5 ⟨rfl, hr5, hg5⟩
    rw [unf_fold]
    have HR5 : Hid (Rdr w5 rb v3 L ((numF N).length + (numF (fold S)).length)) := hr5
    have HG5 : Hid (w2.grownBy w5 none) := grownBy_new HG4.out hbr hg5
    clear hr5 hg5 HR4 HG4
    go_wp2_with fail
    refine (Complex_val _ _ _ HR5.out HQ3.out).out.mono ?_
    rintro e w6 ⟨rfl, hr6, hg6⟩
    have HR6 : Hid (Rdr w6 rb v3 L ((numF N).length + (numF (fold S)).length + 16)) := hr6
    have HG6 : Hid (w2.grownBy w6 none) := grownBy_new HG5.out hbr hg6
    obtain ⟨_, _, k4, _⟩ := HKK.out w6 HG6.out
    clear hr6 hg6 HR5 HG5
    go_wp2_with fail
    refine (Text_val T.size _ _ HR6.out (by omega) HQ4.out).mono ?_
    rintro e w7 ⟨rfl, hr7, hg7⟩
    rw [strOf_sB]
    have HR7 : Hid (Rdr w7 rb v3 L ((numF N).length + (numF (fold S)).length + 16 + (textF T).length)) := hr7
    have HG7 : Hid (w2.grownBy w7 none) := grownBy_new HG6.out hbr hg7
    clear hr7 hg7 HR6 HG6 k4
    obtain ⟨k0, k1, k4, _⟩ := HKK.out w7 HG7.out
    rcases HZ7.out with ⟨rfl, hp, hz⟩ | ⟨rfl, hz⟩
    · go_wp2_with (first | (go_at_call 40; refine (like_same _ _).mono ?_; rintro e w' ⟨rfl, rfl⟩) | (go_at_call 41; go_in))
      have GZ := Gauss_rd _ rb v3 L _ HR7.out ((a, b), (c, d)) _ 0 (HQ5.out hp hz)
      refine GZ.out.mono ?_
      clear GZ k0 k1 k4
      rintro e w8 ⟨rfl, hr8, hg8⟩
      rw [if_pos rfl] at hr8
      rw [if_pos rfl]
      have HR8 : Hid (Rdr w8 rb v3 L ((numF N).length + (numF (fold S)).length + 16 + (textF T).length + Z.length)) := hr8
      have HG8 : Hid (w2.grownBy w8 none) := grownBy_new HG7.out hbr hg8
      have hB8 : w.heap.size < w8.heap.size := Nat.lt_of_lt_of_le hB2 HG8.out.size
      have k := HBK.out w8 HG8.out
      have k5 : w8.cell? ⟨w.heap.size, 5, none⟩ = some (.bool a.1) := by simp [World.cell?, k]
      have k6 : w8.cell? ⟨w.heap.size, 6, none⟩ = some (.string a.2) := by simp [World.cell?, k]
      have k7 : w8.cell? ⟨w.heap.size, 7, none⟩ = some (.bool b.1) := by simp [World.cell?, k]
      have k8 : w8.cell? ⟨w.heap.size, 8, none⟩ = some (.string b.2) := by simp [World.cell?, k]
      have k9 : w8.cell? ⟨w.heap.size, 9, none⟩ = some (.bool c.1) := by simp [World.cell?, k]
      have k10 : w8.cell? ⟨w.heap.size, 10, none⟩ = some (.string c.2) := by simp [World.cell?, k]
      have k11 : w8.cell? ⟨w.heap.size, 11, none⟩ = some (.bool d.1) := by simp [World.cell?, k]
      have k12 : w8.cell? ⟨w.heap.size, 12, none⟩ = some (.string d.2) := by simp [World.cell?, k]
      clear hr8 hg8 HR7 HG7 k
      go_wp2_with (first | (go_at_call 41; go_in))
      refine (Float_val _ _ (HR8.out.al _) HQ6.out).out.mono ?_
      rintro e w9 ⟨rfl, hr9, hg9⟩
      rw [← HQ7.out] at hr9
      have HR9 : Hid (Rdr w9 rb v3 L L.length) := hr9
      have HG9 : Hid (w2.grownBy w9 none) := grownBy_new (grownBy_trans HG8.out (World.grownBy_alloc _ _ _)) hbr hg9
      clear hr9 hg9 HR8 HG8 k5 k6 k7 k8 k9 k10 k11 k12
      go_wp2_with (first | (go_at_call 40; refine (like_same _ _).mono ?_; rintro e w' ⟨rfl, rfl⟩) | (go_at_call 41; go_in) | (go_at_call 34; refine (left_any _ rb v3 L L.length HR9.out).mono ?_; rintro e w' ⟨rfl, q9, rfl⟩) | (go_at_call 33; refine (place_any _ rb v3 L L.length (HR9.out.drewN _)).mono ?_; rintro e w' ⟨rfl, rfl⟩) | (go_at_call 44; refine (HWr.out _ (grownBy_drewN (grownBy_trans HG2.out HG9.out) _)).mono ?_; rintro e w10 ⟨rfl, hg10⟩) | (go_at_call 30; refine (known_any _).mono ?_; rintro e w11 ⟨rfl, hg11⟩))
      go_ret
      exact ⟨rfl, grownBy_trans (grownBy_trans (grownBy_drewN (grownBy_trans HG2.out HG9.out) _) hg10) hg11⟩
    · go_wp2_with (first | (go_at_call 40; refine (like_same _ _).mono ?_; rintro e w' ⟨rfl, rfl⟩) | (go_at_call 41; go_in))
      have hz0 : Z.length = 0 := by rw [hz]; rfl
      have HR8 := HR7.out
      rw [show (numF N).length + (numF (fold S)).length + 16 + (textF T).length = (numF N).length + (numF (fold S)).length + 16 + (textF T).length + Z.length by omega] at HR8
      refine (Float_val _ _ HR8 HQ6.out).out.mono ?_
      rintro e w9 ⟨rfl, hr9, hg9⟩
      rw [← HQ7.out] at hr9
      have HR9 : Hid (Rdr w9 rb v3 L L.length) := hr9
      have HG9 : Hid (w2.grownBy w9 none) := grownBy_new HG7.out hbr hg9
      clear hr9 hg9 HR8 HR7 HG7 k0 k1 k4
      go_wp2_with (first | (go_at_call 40; refine (like_same _ _).mono ?_; rintro e w' ⟨rfl, rfl⟩) | (go_at_call 41; go_in) | (go_at_call 34; refine (left_any _ rb v3 L L.length HR9.out).mono ?_; rintro e w' ⟨rfl, q9, rfl⟩) | (go_at_call 33; refine (place_any _ rb v3 L L.length (HR9.out.drewN _)).mono ?_; rintro e w' ⟨rfl, rfl⟩) | (go_at_call 44; refine (HWr.out _ (grownBy_drewN (grownBy_trans HG2.out HG9.out) _)).mono ?_; rintro e w10 ⟨rfl, hg10⟩) | (go_at_call 30; refine (known_any _).mono ?_; rintro e w11 ⟨rfl, hg11⟩))
      go_ret
      exact ⟨rfl, grownBy_trans (grownBy_trans (grownBy_drewN (grownBy_trans HG2.out HG9.out) _) hg10) hg11⟩
#print axioms back_any
end Go.Proofs.Ytanbnefdodkniaa
