/-
  What any bytes are read as is written as they were: the walk over 'written'.
-/
import Derived.Test.YtanbnefdodkniaaLis
import Derived.Test.YtanbnefdodkniaaBk2
namespace Go.Proofs.Ytanbnefdodkniaa
open Go.RowKit Go.Lib Go.Sort

set_option maxHeartbeats 1600000 in
set_option maxRecDepth 1000000 in
theorem num_any (w : World) (e : Int) : Calls Try.prog 41 #[.int .i64 e] w fun en w' => en = .returned (.int .i64 e) ∧ w' = w := by
  go_enter Try.func41, Try.ntmps41
  go_wp2
  go_ret
  exact ⟨rfl, rfl⟩

theorem src_take {w : World} {b off c : Nat} {L : List Int} (h : ∀ j u, (L.map encB)[j]? = some u → w.cell? ⟨b, off + j, none⟩ = some u) (n : Nat) (hn : n ≤ L.length) :
    Src w (.slice (some ⟨b, off, none⟩) n c) (L.take n) := by
  refine .inr ⟨b, off, c, by rw [List.length_take, Nat.min_eq_left hn], fun j u hj => ?_⟩
  rw [List.map_take] at hj
  exact h j u (by rw [List.getElem?_take] at hj; split at hj
                  · exact hj
                  · cases hj)
theorem src_far {w w' : World} {b off : Nat} {L : List Int} (h : ∀ j u, (L.map encB)[j]? = some u → w.cell? ⟨b, off + j, none⟩ = some u) (hg : w.grownBy w' none) :
    ∀ j u, (L.map encB)[j]? = some u → w'.cell? ⟨b, off + j, none⟩ = some u := by
  intro j u hu
  have hc := h j u hu
  have hb : b < w.heap.size := World.block_lt_of_cell? w ⟨b, off + j, none⟩ hc
  exact (cell_grown hg (a := ⟨b, off + j, none⟩) hb (by simp)).trans hc

theorem gaussF_pos (a b c d : WN) : 0 < (gaussF a b c d).length := by
  unfold gaussF fracF wholeF
  have := (numF_len (2 * a.2.size + if a.1 = true then 1 else 0)).1
  simp [List.length_append]
  omega

set_option maxHeartbeats 3200000 in
set_option maxRecDepth 1000000 in
theorem written_some (b off c : Nat) (L : List Int) (w : World) (hx : L.length ≤ 225000000000000) (hcap : L.length ≤ c) (hr : ∀ x ∈ L, 0 ≤ x ∧ x ≤ 255)
    (hc : ∀ j u, (L.map encB)[j]? = some u → w.cell? ⟨b, off + j, none⟩ = some u) :
    Calls Try.prog 44 #[.slice (some ⟨b, off, none⟩) L.length c] w fun e w' => e = .returned (.bool true) ∧ w.grownBy w' none := by
  have HC : Hid (∀ j u, (L.map encB)[j]? = some u → w.cell? ⟨b, off + j, none⟩ = some u) := hc
  have HS : Hid (∀ w', w.grownBy w' none → Src w' (.slice (some ⟨b, off, none⟩) L.length c) L) := fun w' hg => .inr ⟨b, off, c, rfl, src_far HC.out hg⟩
  have HR : Hid (∀ x ∈ L, 0 ≤ x ∧ x ≤ 255) := hr
  clear hc hr
  go_enter Try.func44, Try.ntmps44
  go_wp2_with fail
  refine (open_any _ L w (HS.out w (World.grownBy.refl w _)) hx HR.out).mono ?_
  rintro e w1 ⟨rb, v, rfl, hr1, hb1, hv1, hg1⟩
  have HR1 : Hid (Rdr w1 rb v L 0) := hr1
  have HG1 : Hid (w.grownBy w1 none) := hg1
  have HV1 : Hid (∀ g, v.ownBlock = some g → w.heap.size ≤ g) := hv1
  clear hr1 hg1 hv1
  obtain ⟨n, k, en, hrd⟩ : ∃ n k en, rdN 0 0 L = (n, k, en) := ⟨_, _, _, rfl⟩
  have HRD : Hid (rdN 0 0 L = (n, k, en)) := hrd
  clear hrd
  go_wp2_with fail
  refine (Number_val n k en HR1.out (by simpa using HRD.out)).mono ?_
  rintro e w2 ⟨rfl, hr2, hg2⟩
  have HR2 : Hid (Rdr w2 rb v L (0 + k)) := hr2
  have HG2 : Hid (w.grownBy w2 none) := grownBy_new HG1.out hb1 hg2
  clear HR1 HG1 hr2 hg2
  by_cases he : en = 0
  case' pos =>
    subst he
    rw [if_pos rfl]
    have hn : n < 18446744073709551616 := by
      have := rdN_val L 0 0 (by omega)
      rw [HRD.out] at this; exact this
    obtain ⟨ht, hk, hkL⟩ := num_canon L n k HR.out HRD.out
    have HT : Hid (L.take k = numF n) := ht
    have l1 := numF_len n
    clear ht
    go_wp2_with (go_at_call 41; go_in)
    refine (num_forms n hn w2).mono ?_
    rintro e w3 ⟨s3, rfl, hF3⟩
    have HR3 : Hid (Rdr w3 rb v L (0 + k)) := HR2.out.kept0 hF3.2
    have HG3 : Hid (w.grownBy w3 none) := grownBy_trans HG2.out hF3.2
    have ho3 := hF3.1
    obtain ⟨g3, c3, rfl, hg31, hg32, hg33, hg34⟩ := len_own5 ho3 l1.1
    unfold maxLen at hg34
    have HO3 : Hid (w3.ownsRow w2.heap.size 5 1 (.slice (some ⟨g3, 0, none⟩) (numF n).length c3) (numF n).length ((numF n).map encB)) := ho3
    clear HR2 HG2 hF3 ho3
    go_wp2_with fail
    rw [show (max 0 (((numF n).length : Int) - 1)).toNat = (numF n).length - 1 by omega]
    refine (open_any _ ((numF n).take ((numF n).length - 1)) w3 (src_cut HO3.out _ (by omega)) (by rw [List.length_take]; omega) (fun x hx => numF_rng n x (List.mem_of_mem_take hx))).mono ?_
    rintro e w4 ⟨rb4, v4, rfl, hr4, hb4, hv4, hg4⟩
    have HR4 : Hid (Rdr w4 rb v L (0 + k)) := HR3.out.kept0 hg4
    have N4 : Hid (rb < w3.heap.size ∧ ∀ g, v.ownBlock = some g → g < w3.heap.size) := HR3.out.far
    have HG4 : Hid (w.grownBy w4 none) := grownBy_trans HG3.out hg4
    have HO4 : Hid (w4.ownsRow w2.heap.size 5 1 (.slice (some ⟨g3, 0, none⟩) (numF n).length c3) (numF n).length ((numF n).map encB)) := Src.kept HO3.out hg4 (by intro g _ e; cases e)
    have HQ4 : Hid (Rdr w4 rb4 v4 ((numF n).take ((numF n).length - 1)) 0) := hr4
    have HW : w.heap.size ≤ w3.heap.size := HG3.out.size
    obtain ⟨n5, hn5⟩ : ∃ n5, rdN 0 0 ((numF n).take ((numF n).length - 1)) = (n5, 0, 110) := ⟨_, Prod.ext rfl (num_cut n _ hn (by omega))⟩
    clear HR3 HG3 HO3 hr4 hv4 hg4
    go_wp2_with fail
    refine (Number_val n5 0 110 HQ4.out (by simpa using hn5)).mono ?_
    rintro e w5 ⟨rfl, hr5, hg5⟩
    have hr5' := Rdr.kept_far N4.out HR4.out hg5 hb4
    rw [Nat.zero_add] at hr5'
    have HR5 : Hid (Rdr w5 rb v L k) := hr5'
    have HG5 : Hid (w.grownBy w5 none) := grownBy_new HG4.out (by omega) hg5
    have HO5 : Hid (w5.ownsRow w2.heap.size 5 1 (.slice (some ⟨g3, 0, none⟩) (numF n).length c3) (numF n).length ((numF n).map encB)) := Src.kept HO4.out hg5 (by intro g hg e; simp [Value.ownBlock] at hg; cases e; omega)
    clear HR4 HG4 HO4 HQ4 hr5 hr5' hg5 N4 hn5
    have cv1 : ∀ q, (convert 33 9 (.slice (some ⟨g3, 0, none⟩) (numF n).length c3)).run Try.prog (w5.drewN q) = .ok (.string (strOf (numF n))) (w5.drewN q) := fun q =>
      conv_src (src_own (Src.kept HO5.out (grownBy_drewN (World.grownBy.refl w5 none) q) (by intro g _ e; cases e)))
    have cv2 : ∀ q, (convert 33 9 (.slice (some ⟨b, off, none⟩) (numF n).length c)).run Try.prog (w5.drewN q) = .ok (.string (strOf (numF n))) (w5.drewN q) := fun q => by
      have h1 := src_take (c := c) (src_far HC.out (grownBy_drewN HG5.out q)) (numF n).length (by omega)
      rw [← hk, HT.out] at h1
      rw [← hk]
      exact conv_src h1
    have hcp : ((numF n).length : Int) ≤ (c : Int) := by omega
    go_wp2_with fail
    go_quiet (first | (go_at_call 33; refine Calls.quiet_of_same (place_any _ rb v L k (HR5.out.drewN _))) | (go_at_call 41; refine Calls.quiet_of_same (num_any _ _)))
    have HGX : Hid (w.grownBy (w5.drewN nq) none) := grownBy_drewN HG5.out nq
    clear cv1 cv2 HR5 HG5 HO5 HT
    go_wp2_with fail
  case' neg =>
    rw [if_neg he]
    have HGX : Hid (w.grownBy w2 none) := HG2.out
    clear HR2 HG2
    go_wp2_with (go_at_call 41; go_in)
  all_goals
    refine (open_any _ L _ (HS.out _ HGX.out) hx HR.out).mono ?_
    rintro e w6 ⟨rb6, v6, rfl, hr6, hb6, hv6, hg6⟩
    have HR6 : Hid (Rdr w6 rb6 v6 L 0) := hr6
    have HG6 : Hid (w.grownBy w6 none) := grownBy_trans HGX.out hg6
    have hb6' : w.heap.size ≤ rb6 := Nat.le_trans HGX.out.size hb6
    clear hr6 hv6 hg6 HGX hb6
    obtain ⟨z, j, ez, hz⟩ : ∃ z j ez, gR L 0 = (z, j, ez) := ⟨_, _, _, rfl⟩
    have HZ : Hid (gR L 0 = (z, j, ez)) := hz
    clear hz
    go_wp2_with fail
    have GZ := Gauss_rd w6 rb6 v6 L 0 HR6.out z j ez HZ.out
    refine GZ.out.mono ?_
    clear GZ
    rintro e w7 ⟨rfl, hr7, hg7⟩
    have HG7 : Hid (w.grownBy w7 none) := grownBy_new HG6.out hb6' hg7
    by_cases hez : ez = 0
    case' pos =>
      subst hez
      rw [if_pos rfl] at hr7
      rw [if_pos rfl]
      have HR7 : Hid (Rdr w7 rb6 v6 L j) := hr7
      obtain ⟨ht, _, hjL, hpl⟩ := gR_canon L 0 j z HR.out (Nat.zero_le _) HZ.out
      clear hr7 hg7 HG6 HR6
      have HT7 : Hid (L.take j = gaussF z.1.1 z.1.2 z.2.1 z.2.2) := by simpa [Hid] using ht
      have hjl : j = (gaussF z.1.1 z.1.2 z.2.1 z.2.2).length := by rw [← HT7.out, List.length_take]; omega
      clear ht
      go_wp2_with (go_at_call 41; go_in)
      refine (Gauss_yes z.1.1 z.1.2 z.2.1 z.2.2 _ hpl).mono ?_
      rintro e w8 ⟨s8, rfl, hF8⟩
      have HR8 : Hid (Rdr w8 rb6 v6 L j) := (HR7.out.al _).kept0 hF8.2
      have HG8 : Hid (w.grownBy w8 none) := grownBy_trans (grownBy_trans HG7.out (World.grownBy_alloc _ _ _)) hF8.2
      have h0 : 0 < (gaussF z.1.1 z.1.2 z.2.1 z.2.2).length := gaussF_pos _ _ _ _
      obtain ⟨g8, c8, rfl, _, _, hg83, hg84⟩ := len_own5 hF8.1 h0
      unfold maxLen at hg84
      have cv1 : ∀ q, (convert 33 9 (.slice (some ⟨g8, 0, none⟩) (gaussF z.1.1 z.1.2 z.2.1 z.2.2).length c8)).run Try.prog (w8.drewN q) = .ok (.string (strOf (gaussF z.1.1 z.1.2 z.2.1 z.2.2))) (w8.drewN q) := fun q =>
        conv_src (src_own (Src.kept hF8.1 (grownBy_drewN (World.grownBy.refl w8 none) q) (by intro g _ e; cases e)))
      have cv2 : ∀ q, (convert 33 9 (.slice (some ⟨b, off, none⟩) (gaussF z.1.1 z.1.2 z.2.1 z.2.2).length c)).run Try.prog (w8.drewN q) = .ok (.string (strOf (gaussF z.1.1 z.1.2 z.2.1 z.2.2))) (w8.drewN q) := fun q => by
        have h1 := src_take (c := c) (src_far HC.out (grownBy_drewN HG8.out q)) (gaussF z.1.1 z.1.2 z.2.1 z.2.2).length (by omega)
        rw [← hjl, HT7.out] at h1
        rw [← hjl]
        exact conv_src h1
      have hcp : ((gaussF z.1.1 z.1.2 z.2.1 z.2.2).length : Int) ≤ (c : Int) := by omega
      clear hF8 HG7 HR7
      go_wp2_with fail
      go_quiet (first | (go_at_call 33; refine Calls.quiet_of_same (place_any _ rb6 v6 L j (HR8.out.drewN _))) | (go_at_call 41; refine Calls.quiet_of_same (num_any _ _)))
      go_wp2
      go_ret
      exact ⟨rfl, grownBy_drewN HG8.out _⟩
    case' neg =>
      rw [if_neg hez] at hr7
      rw [if_neg hez]
      have HR7 : Hid (Rdr w7 rb6 v6 L 0) := hr7
      clear hr7 hg7 HG6 HR6
      go_wp2_with (first | (go_at_call 41; go_in) | (go_at_call 33; refine (place_any _ rb6 v6 L 0 (HR7.out.al _)).mono ?_; rintro e w' ⟨rfl, rfl⟩))
      go_ret
      exact ⟨rfl, grownBy_trans HG7.out (World.grownBy_alloc _ _ _)⟩

set_option maxHeartbeats 3200000 in
set_option maxRecDepth 1000000 in
theorem written_nil (w : World) : Calls Try.prog 44 #[.slice none 0 0] w fun e w' => e = .returned (.bool true) ∧ w.grownBy w' none := by
  obtain ⟨z, j, ez, hz, hez⟩ : ∃ z j ez, gR [] 0 = (z, j, ez) ∧ ez ≠ 0 := ⟨_, _, _, rfl, by decide⟩
  go_enter Try.func44, Try.ntmps44
  go_wp2_with fail
  refine (open_any _ [] w (.inl ⟨rfl, rfl⟩) (by simp) (by simp)).mono ?_
  rintro e w1 ⟨rb, v, rfl, hr1, hb1, hv1, hg1⟩
  go_wp2_with fail
  refine (Number_val 0 0 110 hr1 rfl).mono ?_
  rintro e w2 ⟨rfl, hr2, hg2⟩
  have HG2 : Hid (w.grownBy w2 none) := grownBy_new hg1 hb1 hg2
  clear hr1 hr2 hg1 hg2
  rw [if_neg (by decide)]
  go_wp2_with (go_at_call 41; go_in)
  refine (open_any _ [] w2 (.inl ⟨rfl, rfl⟩) (by simp) (by simp)).mono ?_
  rintro e w6 ⟨rb6, v6, rfl, hr6, hb6, hv6, hg6⟩
  have HR6 : Hid (Rdr w6 rb6 v6 [] 0) := hr6
  have HG6 : Hid (w.grownBy w6 none) := grownBy_trans HG2.out hg6
  have hb6' : w.heap.size ≤ rb6 := Nat.le_trans HG2.out.size hb6
  clear hr6 hv6 hg6 HG2 hb6
  go_wp2_with fail
  have GZ := Gauss_rd w6 rb6 v6 [] 0 HR6.out z j ez hz
  refine GZ.out.mono ?_
  clear GZ
  rintro e w7 ⟨rfl, hr7, hg7⟩
  have HG7 : Hid (w.grownBy w7 none) := grownBy_new HG6.out hb6' hg7
  rw [if_neg hez] at hr7
  rw [if_neg hez]
  have HR7 : Hid (Rdr w7 rb6 v6 [] 0) := hr7
  clear hr7 hg7 HG6 HR6
  go_wp2_with (first | (go_at_call 41; go_in) | (go_at_call 33; refine (place_any _ rb6 v6 [] 0 (HR7.out.al _)).mono ?_; rintro e w' ⟨rfl, rfl⟩))
  go_ret
  exact ⟨rfl, grownBy_trans HG7.out (World.grownBy_alloc _ _ _)⟩

theorem written_any (s : Value) (L : List Int) (w : World) (hx : L.length ≤ 225000000000000) (hr : ∀ x ∈ L, 0 ≤ x ∧ x ≤ 255)
    (h : (s = .slice none 0 0 ∧ L = []) ∨ ∃ b off c, s = .slice (some ⟨b, off, none⟩) L.length c ∧ L.length ≤ c ∧ ∀ j u, (L.map encB)[j]? = some u → w.cell? ⟨b, off + j, none⟩ = some u) :
    Calls Try.prog 44 #[s] w fun e w' => e = .returned (.bool true) ∧ w.grownBy w' none := by
  rcases h with ⟨rfl, rfl⟩ | ⟨b, off, c, rfl, hc, hcell⟩
  · exact written_nil w
  · exact written_some b off c L w hx hc hr hcell
#print axioms written_any
end Go.Proofs.Ytanbnefdodkniaa
