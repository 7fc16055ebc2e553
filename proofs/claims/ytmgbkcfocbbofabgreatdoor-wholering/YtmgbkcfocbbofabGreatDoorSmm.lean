/-
  The program's Sum of numbers that may be.
-/
import Derived.Test.YtmgbkcfocbbofabGreatDoorCdg
import Derived.Test.YtmgbkcfocbbofabGreatDoorMde
import Derived.Test.YtmgbkcfocbbofabGreatDoorBunMor
import Derived.Test.YtmgbkcfocbbofabGreatDoorAll
import Derived.Test.YtmgbkcfocbbofabGreatDoorBunTim
namespace Go.Proofs.YtmgbkcfocbbofabGreatDoor
open Go.RowKit Go.Lib Go.Sort

/-- The sum of all. -/
def sumZ (l : List (Bool × ByteArray)) : Int := (l.map fun p => num p.1 p.2).sum
theorem sumZ_take (l : List (Bool × ByteArray)) (k : Nat) (p : Bool × ByteArray) (h : l[k]? = some p) : sumZ (l.take (k + 1)) = sumZ (l.take k) + num p.1 p.2 := by
  rw [List.take_add_one, h]
  simp [sumZ]
theorem trim_of_ge {K : List Nat} (hr : ∀ x ∈ K, x < B32) (h : K.length ≠ 0 → B32 ^ (K.length - 1) ≤ nv B32 K) : Trim K := by
  rcases Nat.eq_zero_or_pos K.length with h0 | h0
  · exact .inl h0
  · right
    intro e
    obtain ⟨k, hk⟩ : ∃ k, K.length = k + 1 := ⟨K.length - 1, by omega⟩
    have h1 := h (by omega)
    rw [hk, Nat.add_sub_cancel] at h1 e
    rw [nv_top B32 K k hk, e, Nat.mul_zero, Nat.add_zero] at h1
    have hlt := nv_lt B32 (K.take k) (fun x hx => hr x (List.mem_of_mem_take hx))
    rw [List.length_take, hk, Nat.min_eq_left (by omega)] at hlt
    omega
/-- The digits of a number that may be have no noughts at the end. -/
theorem trim_digits {n : Bool} {m : ByteArray} {L : List Nat} (h : may n m = true) (hL : L.length = (m.size + 3) / 4) (hr : ∀ x ∈ L, x < B32) (hv : nv B32 L = val (bN m)) : Trim L := by
  refine trim_of_ge hr (fun h0 => ?_)
  have hp : 0 < m.size := by omega
  have h1 := val_head m hp (may_head h hp)
  rw [hv, show B32 ^ (L.length - 1) = 256 ^ (4 * (L.length - 1)) by rw [Nat.pow_mul]]
  exact Nat.le_trans (Nat.pow_le_pow_right (by decide) (by omega)) h1
theorem trim_sum {A Q K : List Nat} (tA : Trim A) (tQ : Trim Q) (hr : ∀ x ∈ K, x < B32) (hv : nv B32 K = nv B32 A + nv B32 Q) (hl : K.length ≤ max A.length Q.length + 1) (h : K.length ≤ max A.length Q.length ∨ B32 ^ max A.length Q.length ≤ nv B32 A + nv B32 Q) : Trim K := by
  refine trim_of_ge hr (fun h0 => ?_)
  rw [hv]
  rcases h with h | h
  · have hm : 0 < max A.length Q.length := by omega
    have key : B32 ^ (max A.length Q.length - 1) ≤ nv B32 A + nv B32 Q := by
      rcases Nat.le_total A.length Q.length with hle | hle
      · rw [Nat.max_eq_right hle] at hm ⊢
        exact Nat.le_trans (trim_lo tQ (Q.length - 1) (by omega)) (by omega)
      · rw [Nat.max_eq_left hle] at hm ⊢
        exact Nat.le_trans (trim_lo tA (A.length - 1) (by omega)) (by omega)
    exact Nat.le_trans (Nat.pow_le_pow_right (by decide) (by omega)) key
  · exact Nat.le_trans (Nat.pow_le_pow_right (by decide) (by omega)) h
theorem Row.lt {w : World} {base g : Nat} {v : Value} {L : List Nat} (h : Row w base v L) (hg : v.ownBlock = some g) : base ≤ g ∧ g < w.heap.size := by
  rcases h.2 with ⟨rfl, _⟩ | ⟨g', cap, cur, rfl, hb, hgg, _⟩
  · cases hg
  · cases hg
    exact ⟨hb, (Array.getElem?_eq_some_iff.1 hgg).1⟩
theorem ownBlock_row {w : World} {base : Nat} {v : Value} {L : List Nat} (h : Row w base v L) : ∀ b n c, v = .slice (some b) n c → v.ownBlock = some b.block := by
  intro b n c e
  rcases h.cases with ⟨e', _⟩ | ⟨g, c', e', _⟩
  · rw [e'] at e; cases e
  · rw [e'] at e ⊢; cases e; rfl
def Apt (va vb : Value) : Prop := va.ownBlock = none ∨ va.ownBlock ≠ vb.ownBlock
theorem Apt.swap {va vb : Value} (h : Apt va vb) : Apt vb va := by
  unfold Apt at *
  rcases h with h | h
  · cases hb : vb.ownBlock
    · exact .inl rfl
    · exact .inr (by rw [h]; simp)
  · exact .inr (fun e => h e.symm)
/-- What stands behind k of Sum's rounds. -/
def SuI (w wr : World) (l : List (Bool × ByteArray)) (k : Nat) (va vb : Value) : Prop :=
  ∃ A B, Row wr w.heap.size va A ∧ Row wr w.heap.size vb B ∧ Apt va vb ∧ (∀ x ∈ A, x < B32) ∧ (∀ x ∈ B, x < B32) ∧ Trim A ∧ Trim B ∧ A.length ≤ 4096 + k ∧ B.length ≤ 4096 + k ∧ (nv B32 A : Int) - nv B32 B = sumZ (l.take k) ∧ w.grownBy wr none
/-- addTo of a row of Sum's own and the digits of a number: a row again, longer by one at most; what else was there stays. -/
theorem addTo_digits {w wr w1 : World} {va vb : Value} {A B : List Nat} {m : ByteArray} {n : Bool} (hm : may n m = true) (hA : Row wr w.heap.size va A) (hB : Row wr w.heap.size vb B) (hp : Apt va vb) (ra : ∀ x ∈ A, x < B32) (tA : Trim A) (hl : A.length ≤ 100000 + 4096) (hg : w.grownBy wr none)
    {D : Nat} {L : List Nat} (hD : wr.heap.size ≤ D) (hBk : BlkL w1 D 55 enc4 (ints L)) (hg1 : wr.grownBy w1 none) (hL : L.length = (m.size + 3) / 4) (hr : ∀ x ∈ L, x < B32) (hv : nv B32 L = val (bN m)) :
    Calls Tryz.prog 44 #[va, .slice (some ⟨D, 0, none⟩) L.length L.length] w1 fun e w' => ∃ v' K, e = .returned v' ∧ Row w' w.heap.size v' K ∧ Row w' w.heap.size vb B ∧ Apt v' vb ∧ (∀ x ∈ K, x < B32) ∧ Trim K ∧ K.length ≤ max A.length 4096 + 1 ∧ nv B32 K = nv B32 A + val (bN m) ∧ w.grownBy w' none := by
  have hms := may_size hm
  have hA1 : Row w1 w.heap.size va A := hA.kept hg1 (by cases va.ownBlock <;> simp)
  have hB1 : Row w1 w.heap.size vb B := hB.kept hg1 (by cases vb.ownBlock <;> simp)
  refine (addTo_row w1 w.heap.size va _ A L hA1 hBk.d4 ?_ ra hr (by omega) (by omega) (Nat.le_trans hg.size hg1.size)).mono ?_
  · intro b n c e h
    cases e
    have := (hA.lt h.symm).2
    simp at this
    omega
  · rintro e w' ⟨v', K, rfl, hR, rK, hvK, h1, h2, h3, ho, hgw⟩
    have hBk' : Row w' w.heap.size vb B := hB1.kept hgw (by
      rcases hp.swap with h | h
      · exact .inl h
      · exact .inr h)
    refine ⟨v', K, rfl, hR, hBk', ?_, rK, trim_sum tA (trim_digits hm hL hr hv) rK hvK h2 h3, by omega, by rw [hvK, hv], ?_⟩
    · rcases ho with e | ⟨g, e, hlt⟩
      · unfold Apt; rw [e]; exact hp
      · right
        rw [e]
        intro e2
        have := (hB1.lt e2.symm).2
        omega
    · have hgg := grownBy_trans hg hg1
      cases hob : va.ownBlock with
      | none => rw [hob] at hgw; exact grownBy_trans hgg hgw
      | some g => rw [hob] at hgw; exact grownBy_new hgg (hA.lt hob).1 hgw
/-- What an answer is: the number z, or refused for its length. -/
def ZRes (z : Int) (e : Ending) : Prop :=
  (bl z.natAbs ≤ 131072 ∧ ∃ n s, e = .returned (.tuple #[whole n s, .int .i64 0]) ∧ IsZ z n s) ∨ (131072 < bl z.natAbs ∧ e = .returned (.tuple #[whole false eS, .int .i64 4]))
theorem made_z {neg : Bool} {n : Nat} {z : Int} {e : Ending} (h : Made neg n e) (hz : z = if neg then -(n : Int) else n) : ZRes z e := by
  have ha : z.natAbs = n := by rw [hz]; cases neg <;> simp
  rcases h with ⟨hb, s, rfl, hs⟩ | ⟨hb, rfl⟩
  · refine .inl ⟨by rw [ha]; exact hb, _, s, rfl, ?_, by rw [ha]; exact hs⟩
    rw [hz]
    cases neg
    · simp
    · simp only [Bool.true_and, if_true]
      exact decide_eq_decide.2 (by omega)
  · exact .inr ⟨by rw [ha]; exact hb, rfl⟩

set_option maxHeartbeats 1600000 in
set_option maxRecDepth 1000000 in
theorem sum_bad (w : World) (v : Value) (l : List (Bool × ByteArray)) (h : DW w v l) (hl : l.length ≤ 100000) (hs : ∀ p ∈ l, p.2.size ≤ maxLen) (hm : mayAll l = false) :
    Calls Tryz.prog 26 #[v] w fun e w' => e = .returned (.tuple #[whole false eS, .int .i64 2]) ∧ w.grownBy w' none := by
  have hC : ∀ w1, w.grownBy w1 none → Calls Tryz.prog 47 #[v] w1 fun e w' => e = .returned (.int .i64 2) ∧ w1.grownBy w' none := fun w1 hg => by
    have := checkAll_any w1 v l (h.kept hg) (by omega) hs
    rw [if_neg (by simp [hm])] at this
    exact this
  have HC : Hid (∀ w1, w.grownBy w1 none → Calls Tryz.prog 47 #[v] w1 fun e w' => e = .returned (.int .i64 2) ∧ w1.grownBy w' none) := hC
  obtain ⟨B, off, c, rfl, _, _⟩ := h
  clear hC hs hm
  go_enter Tryz.func26, Tryz.ntmps26
  go_wp2_with fail
  refine (HC.out _ (grow1 _ _)).mono ?_
  rintro e w1 ⟨rfl, hg⟩
  go_wp2_with fail
  refine (zero_any w1).mono ?_
  rintro e w2 ⟨rfl, hw2⟩
  have hg2 : (w.alloc (wObj false eS)).grownBy w2 none := by rw [hw2]; exact grownBy_trans hg (grow1 _ _)
  have hb : WBlk w2 w.heap.size (.bool false) (.string eS) := WBlk.kept (w := w.alloc (wObj false eS)) (heap_alloc_new _ _) hg2 (by simp)
  have hc0 := hb.c0
  have hc1 := hb.c1
  have hf0 := hb.fr 0
  have hf1 := hb.fr 1
  have HG : Hid ((w.alloc (wObj false eS)).grownBy w2 none) := hg2
  clear hg hg2 hw2
  go_wp2_with fail
  refine bodyPost_ret (res_cell_tmp rfl _ _ w.heap.size _ _ _ _ rfl (hb.put _ _)) rfl ?_
  exact ⟨rfl, grown_set (grown_set (grownBy_trans (grow1 _ _) HG.out) (Nat.le_refl _)) (Nat.le_refl _)⟩

set_option maxHeartbeats 3200000 in
set_option maxRecDepth 1000000 in
theorem sum_any (w : World) (v : Value) (l : List (Bool × ByteArray)) (h : DW w v l) (hl : l.length ≤ 100000) (hm : mayAll l = true) :
    Calls Tryz.prog 26 #[v] w fun e w' => ZRes (sumZ l) e ∧ w.grownBy w' none := by
  have hmay : ∀ p ∈ l, may p.1 p.2 = true := fun p hp => by
    have := hm
    unfold mayAll at this
    exact List.all_eq_true.1 this p hp
  have hs : ∀ p ∈ l, p.2.size ≤ maxLen := fun p hp => by have := may_size (hmay p hp); unfold maxLen; omega
  have hC : ∀ w1, w.grownBy w1 none → Calls Tryz.prog 47 #[v] w1 fun e w' => e = .returned (.int .i64 0) ∧ w1.grownBy w' none := fun w1 hg => by
    have := checkAll_any w1 v l (h.kept hg) (by omega) hs
    rw [if_pos hm] at this
    exact this
  have HC : Hid (∀ w1, w.grownBy w1 none → Calls Tryz.prog 47 #[v] w1 fun e w' => e = .returned (.int .i64 0) ∧ w1.grownBy w' none) := hC
  have HM : Hid (∀ p ∈ l, may p.1 p.2 = true) := hmay
  obtain ⟨B, off, c, rfl, hc, hcs⟩ := h
  have HCS : Hid (∀ j p, l[j]? = some p → w.cell? ⟨B, off + j * 2, none⟩ = some (.bool p.1) ∧ w.cell? ⟨B, off + j * 2 + 1, none⟩ = some (.string p.2)) := hcs
  obtain ⟨n, hn⟩ : ∃ n, l.length = n := ⟨_, rfl⟩
  have HN : Unit → l.length = n := fun _ => hn
  rw [hn] at hc hl HC ⊢
  have hnI : (n : Int) ≤ 100000 := by omega
  clear hC hs hm hmay hcs hn hl
  go_enter Tryz.func26, Tryz.ntmps26
  go_wp2_with fail
  refine (HC.out _ (grow1 _ _)).mono ?_
  rintro e w1 ⟨rfl, hg⟩
  have HG : Hid ((w.alloc (wObj false eS)).grownBy w1 none) := hg
  clear hg HC
  go_wp2_with fail
  go_loopw [4, 5, 14] (fun va vb t wr => ∃ k : Nat, k ≤ n ∧ t = .int .i64 (k : Int) ∧ SuI (w.alloc (wObj false eS)) wr l k va vb) (fun _ _ t _ => n - (RowKit.intOf t).toNat)
  case atStart => exact ⟨0, by omega, rfl, [], [], Row.nil _ _, Row.nil _ _, .inl rfl, by simp, by simp, .inl rfl, .inl rfl, by simp, by simp, by simp [nv, sumZ], HG.out⟩
  case round =>
    obtain ⟨k, hk, rfl, hI⟩ := hrel
    have HI : Hid (SuI (w.alloc (wObj false eS)) wr l k u4 u5) := hI
    by_cases hk1 : k < n
    · have hkl : k < l.length := by rw [HN ()]; exact hk1
      have hp : l[k]? = some l[k] := List.getElem?_eq_getElem hkl
      have hcs := HCS.out k _ hp
      obtain ⟨_, _, _, _, _, _, _, _, _, _, _, _, hg0⟩ := hI
      have hgw := grownBy_trans (grow1 w (wObj false eS)) hg0
      have hc1 := grownBy_cell hgw hcs.1 (by simp)
      have hc2 := grownBy_cell hgw hcs.2 (by simp)
      have hmp := HM.out l[k] (List.getElem_mem hkl)
      have hst := sumZ_take l k _ hp
      have HST : Hid (sumZ (l.take (k + 1)) = sumZ (l.take k) + num l[k].1 l[k].2) := hst
      generalize l[k] = p at *
      obtain ⟨neg, mag⟩ := p
      simp only at hc1 hc2 hmp HST
      clear hcs hp hst hg0 hgw
      have hms := may_size hmp
      have hds : (u4 = .slice none 0 0 ∨ ∃ a n c, u4 = .slice a n c) := by
        obtain ⟨A, _, hA, _⟩ := HI.out
        rcases hA.cases with ⟨e, _⟩ | ⟨g, c, e, _⟩
        · exact .inl e
        · exact .inr ⟨_, _, _, e⟩
      cases neg
      · go_wp2_with fail
        refine (digitsOf_any mag hms _).mono ?_
        rintro e w2 ⟨D, L, rfl, hD, hBk, hg2, hL, hr, hv⟩
        have hADD := fun A B' hA hB hp ra tA hl hg => addTo_digits (w := w.alloc (wObj false eS)) (wr := wr) (w1 := w2) (va := u4) (vb := u5) (A := A) (B := B') hmp hA hB hp ra tA hl hg (by simp at hD; omega) hBk (grownBy_trans (grow1 _ _) hg2) hL hr hv
        obtain ⟨A, B', hA, hB, hp, ra, rb, tA, tB, la, lb, hz, hg⟩ := HI.out
        have hC := hADD A B' hA hB hp ra tA (by omega) hg
        have HC : Hid (Calls Tryz.prog 44 #[u4, .slice (some ⟨D, 0, none⟩) L.length L.length] w2 fun e w' => ∃ v' K, e = .returned v' ∧ Row w' (w.alloc (wObj false eS)).heap.size v' K ∧ Row w' (w.alloc (wObj false eS)).heap.size u5 B' ∧ Apt v' u5 ∧ (∀ x ∈ K, x < B32) ∧ Trim K ∧ K.length ≤ max A.length 4096 + 1 ∧ nv B32 K = nv B32 A + val (bN mag) ∧ (w.alloc (wObj false eS)).grownBy w' none) := hC
        have HZ : Hid ((nv B32 A : Int) - nv B32 B' = sumZ (l.take k)) := hz
        have HRB : Hid (∀ x ∈ B', x < B32) := rb
        clear hC hADD hA hB hp ra rb tA hz hg hD hBk hg2 hL hr hv
        go_wp2_with fail
        refine HC.out.mono ?_
        rintro e w3 ⟨v', K, rfl, hR, hRb, hap, rK, tK, lK, vK, hgw⟩
        have HF : Hid (SuI (w.alloc (wObj false eS)) w3 l (k + 1) v' u5) := ⟨K, B', hR, hRb, hap, rK, HRB.out, tK, tB, by omega, by omega, by rw [HST.out, ← HZ.out, num_f, vK]; omega, hgw⟩
        clear HC hR hRb hap rK tK lK vK hgw tB
        go_wp2_with fail
        go_roundw
        case rel => exact ⟨k + 1, by omega, rfl, HF.out⟩
        case measure => simp [RowKit.intOf]; omega
      · go_wp2_with fail
        refine (digitsOf_any mag hms _).mono ?_
        rintro e w2 ⟨D, L, rfl, hD, hBk, hg2, hL, hr, hv⟩
        have hADD := fun A B' hA hB hp ra tA hl hg => addTo_digits (w := w.alloc (wObj false eS)) (wr := wr) (w1 := w2) (va := u5) (vb := u4) (A := A) (B := B') hmp hA hB hp ra tA hl hg (by simp at hD; omega) hBk (grownBy_trans (grow1 _ _) hg2) hL hr hv
        obtain ⟨A, B', hA, hB, hp, ra, rb, tA, tB, la, lb, hz, hg⟩ := HI.out
        have hC := hADD B' A hB hA hp.swap rb tB (by omega) hg
        have HC : Hid (Calls Tryz.prog 44 #[u5, .slice (some ⟨D, 0, none⟩) L.length L.length] w2 fun e w' => ∃ v' K, e = .returned v' ∧ Row w' (w.alloc (wObj false eS)).heap.size v' K ∧ Row w' (w.alloc (wObj false eS)).heap.size u4 A ∧ Apt v' u4 ∧ (∀ x ∈ K, x < B32) ∧ Trim K ∧ K.length ≤ max B'.length 4096 + 1 ∧ nv B32 K = nv B32 B' + val (bN mag) ∧ (w.alloc (wObj false eS)).grownBy w' none) := hC
        have HZ : Hid ((nv B32 A : Int) - nv B32 B' = sumZ (l.take k)) := hz
        have HRA : Hid (∀ x ∈ A, x < B32) := ra
        clear hC hADD hA hB hp ra rb tB hz hg hD hBk hg2 hL hr hv
        go_wp2_with fail
        refine HC.out.mono ?_
        rintro e w3 ⟨v', K, rfl, hR, hRb, hap, rK, tK, lK, vK, hgw⟩
        have HF : Hid (SuI (w.alloc (wObj false eS)) w3 l (k + 1) u4 v') := ⟨A, K, hRb, hR, hap.swap, HRA.out, rK, tA, tK, by omega, by omega, by rw [HST.out, ← HZ.out, num_t, vK]; omega, hgw⟩
        clear HC hR hRb hap rK tK lK vK hgw tA
        go_wp2_with fail
        go_roundw
        case rel => exact ⟨k + 1, by omega, rfl, HF.out⟩
        case measure => simp [RowKit.intOf]; omega
    · obtain rfl : k = n := by omega
      clear hI
      obtain ⟨A, B', hA, hB, hp, ra, rb, tA, tB, la, lb, hz, hg⟩ := HI.out
      rw [List.take_of_length_le (by rw [HN ()]; exact Nat.le_refl _)] at hz
      by_cases hlt : nv B32 A < nv B32 B'
      · have hcm : cmpN (nv B32 A) (nv B32 B') = -1 := by unfold cmpN; rw [if_pos hlt]
        have hCM : Calls Tryz.prog 58 #[u4, u5] wr fun e w' => e = .returned (.int .i64 (-1)) ∧ wr.grownBy w' none := (by
          have := cmpDigits_any wr u4 u5 A B' hA.d4 hB.d4 ra rb tA tB (by omega) (by omega)
          rw [hcm] at this
          exact this)
        have hTK : ∀ w2, wr.grownBy w2 none → Calls Tryz.prog 46 #[u5, u4] w2 fun e w' => ∃ v' K, e = .returned v' ∧ D4 w' v' K ∧ (∀ x ∈ K, x < B32) ∧ K.length ≤ 200000 ∧ nv B32 K = nv B32 B' - nv B32 A ∧ (w.alloc (wObj false eS)).grownBy w' none := (by
          intro w2 hg2
          refine (takeFrom_row w2 _ u5 u4 B' A (hB.kept hg2 (by cases u5.ownBlock <;> simp)) (hA.d4.kept hg2) ?_ rb ra ?_ (by omega) (by omega)).mono ?_
          · intro b n c e h
            have hob := ownBlock_row hA b n c e
            rcases hp with h1 | h1
            · rw [hob] at h1; cases h1
            · exact h1 (hob.trans h)
          · rcases Nat.lt_or_ge B'.length A.length with h | h
            · have := len_lt rb tA h
              omega
            · exact h
          · rintro e w3 ⟨v', K, rfl, h1, h2, _, h3, h4, h5⟩
            refine ⟨v', K, rfl, h1, h2, by omega, h4, ?_⟩
            have hgg := grownBy_trans hg hg2
            cases hob : u5.ownBlock with
            | none => rw [hob] at h5; exact grownBy_trans hgg h5
            | some g => rw [hob] at h5; exact grownBy_new hgg (hB.lt hob).1 h5)
        have HCM : Hid (Calls Tryz.prog 58 #[u4, u5] wr fun e w' => e = .returned (.int .i64 (-1)) ∧ wr.grownBy w' none) := hCM
        have HTK : Hid (∀ w2, wr.grownBy w2 none → Calls Tryz.prog 46 #[u5, u4] w2 fun e w' => ∃ v' K, e = .returned v' ∧ D4 w' v' K ∧ (∀ x ∈ K, x < B32) ∧ K.length ≤ 200000 ∧ nv B32 K = nv B32 B' - nv B32 A ∧ (w.alloc (wObj false eS)).grownBy w' none) := hTK
        have HZ : Unit → sumZ l = -((nv B32 B' - nv B32 A : Nat) : Int) := fun _ => by omega
        clear hCM hTK hA hB hp ra rb tA tB hz hg hlt hcm
        go_wp2_with fail
        refine HCM.out.mono ?_
        rintro e w2 ⟨rfl, hg2⟩
        have HT2 : Hid (Calls Tryz.prog 46 #[u5, u4] w2 fun e w' => ∃ v' K, e = .returned v' ∧ D4 w' v' K ∧ (∀ x ∈ K, x < B32) ∧ K.length ≤ 200000 ∧ nv B32 K = nv B32 B' - nv B32 A ∧ (w.alloc (wObj false eS)).grownBy w' none) := HTK.out w2 hg2
        clear HTK HCM hg2
        go_wp2_with fail
        refine HT2.out.mono ?_
        rintro e w3 ⟨v', K, rfl, h1, h2, h3, h4, h5⟩
        have hMD := madeP_any true w3 v' K h1 h2 (by omega)
        rw [h4] at hMD
        have HMD : Hid (Calls Tryz.prog 42 #[.bool true, v'] w3 fun e w' => Made true (nv B32 B' - nv B32 A) e ∧ w3.grownBy w' none) := hMD
        have HG3 : Hid ((w.alloc (wObj false eS)).grownBy w3 none) := h5
        clear hMD h1 h2 h3 h4 h5 HT2
        go_wp2_with fail
        refine HMD.out.mono ?_
        rintro e w4 ⟨hM, hg4⟩
        have hZR := made_z (z := sumZ l) hM (by rw [HZ ()]; rfl)
        have HG4 : Hid ((w.alloc (wObj false eS)).grownBy w4 none) := grownBy_trans HG3.out hg4
        have hb : WBlk w4 w.heap.size (.bool false) (.string eS) := WBlk.kept (w := w.alloc (wObj false eS)) (heap_alloc_new _ _) HG4.out (by simp)
        have hc0 := hb.c0
        have hc1 := hb.c1
        have hf0 := hb.fr 0
        have hf1 := hb.fr 1
        obtain ⟨n', s', er, rfl⟩ : ∃ n' s' er, e = .returned (.tuple #[whole n' s', .int .i64 er]) := by
          rcases hM with ⟨_, s', rfl, _⟩ | ⟨_, rfl⟩
          · exact ⟨_, _, _, rfl⟩
          · exact ⟨_, _, _, rfl⟩
        have HZR : Hid (ZRes (sumZ l) (.returned (.tuple #[whole n' s', .int .i64 er]))) := hZR
        clear hM hg4 hZR HMD HG3
        go_wp2_with fail
        refine bodyPost_ret (res_cell_tmp rfl _ _ w.heap.size _ _ _ _ rfl (hb.put _ _)) rfl ?_
        exact ⟨HZR.out, grown_set (grown_set (grownBy_trans (grow1 _ _) HG4.out) (Nat.le_refl _)) (Nat.le_refl _)⟩
      · obtain ⟨r, hcm, hr0⟩ : ∃ r : Int, cmpN (nv B32 A) (nv B32 B') = r ∧ 0 ≤ r := ⟨_, rfl, by unfold cmpN; rw [if_neg hlt]; split <;> omega⟩
        have hCM : Calls Tryz.prog 58 #[u4, u5] wr fun e w' => e = .returned (.int .i64 (r)) ∧ wr.grownBy w' none := (by
          have := cmpDigits_any wr u4 u5 A B' hA.d4 hB.d4 ra rb tA tB (by omega) (by omega)
          rw [hcm] at this
          exact this)
        have hTK : ∀ w2, wr.grownBy w2 none → Calls Tryz.prog 46 #[u4, u5] w2 fun e w' => ∃ v' K, e = .returned v' ∧ D4 w' v' K ∧ (∀ x ∈ K, x < B32) ∧ K.length ≤ 200000 ∧ nv B32 K = nv B32 A - nv B32 B' ∧ (w.alloc (wObj false eS)).grownBy w' none := (by
          intro w2 hg2
          refine (takeFrom_row w2 _ u4 u5 A B' (hA.kept hg2 (by cases u4.ownBlock <;> simp)) (hB.d4.kept hg2) ?_ ra rb ?_ (by omega) (by omega)).mono ?_
          · intro b n c e h
            have hob := ownBlock_row hB b n c e
            rcases hp.swap with h1 | h1
            · rw [hob] at h1; cases h1
            · exact h1 (hob.trans h)
          · rcases Nat.lt_or_ge A.length B'.length with h | h
            · have := len_lt ra tB h
              omega
            · exact h
          · rintro e w3 ⟨v', K, rfl, h1, h2, _, h3, h4, h5⟩
            refine ⟨v', K, rfl, h1, h2, by omega, h4, ?_⟩
            have hgg := grownBy_trans hg hg2
            cases hob : u4.ownBlock with
            | none => rw [hob] at h5; exact grownBy_trans hgg h5
            | some g => rw [hob] at h5; exact grownBy_new hgg (hA.lt hob).1 h5)
        have HCM : Hid (Calls Tryz.prog 58 #[u4, u5] wr fun e w' => e = .returned (.int .i64 (r)) ∧ wr.grownBy w' none) := hCM
        have HTK : Hid (∀ w2, wr.grownBy w2 none → Calls Tryz.prog 46 #[u4, u5] w2 fun e w' => ∃ v' K, e = .returned v' ∧ D4 w' v' K ∧ (∀ x ∈ K, x < B32) ∧ K.length ≤ 200000 ∧ nv B32 K = nv B32 A - nv B32 B' ∧ (w.alloc (wObj false eS)).grownBy w' none) := hTK
        have HZ : Unit → sumZ l = ((nv B32 A - nv B32 B' : Nat) : Int) := fun _ => by omega
        clear hCM hTK hA hB hp ra rb tA tB hz hg hlt hcm
        go_wp2_with fail
        refine HCM.out.mono ?_
        rintro e w2 ⟨rfl, hg2⟩
        have HT2 : Hid (Calls Tryz.prog 46 #[u4, u5] w2 fun e w' => ∃ v' K, e = .returned v' ∧ D4 w' v' K ∧ (∀ x ∈ K, x < B32) ∧ K.length ≤ 200000 ∧ nv B32 K = nv B32 A - nv B32 B' ∧ (w.alloc (wObj false eS)).grownBy w' none) := HTK.out w2 hg2
        clear HTK HCM hg2
        go_wp2_with fail
        refine HT2.out.mono ?_
        rintro e w3 ⟨v', K, rfl, h1, h2, h3, h4, h5⟩
        have hMD := madeP_any false w3 v' K h1 h2 (by omega)
        rw [h4] at hMD
        have HMD : Hid (Calls Tryz.prog 42 #[.bool false, v'] w3 fun e w' => Made false (nv B32 A - nv B32 B') e ∧ w3.grownBy w' none) := hMD
        have HG3 : Hid ((w.alloc (wObj false eS)).grownBy w3 none) := h5
        clear hMD h1 h2 h3 h4 h5 HT2
        go_wp2_with fail
        refine HMD.out.mono ?_
        rintro e w4 ⟨hM, hg4⟩
        have hZR := made_z (z := sumZ l) hM (by rw [HZ ()]; rfl)
        have HG4 : Hid ((w.alloc (wObj false eS)).grownBy w4 none) := grownBy_trans HG3.out hg4
        have hb : WBlk w4 w.heap.size (.bool false) (.string eS) := WBlk.kept (w := w.alloc (wObj false eS)) (heap_alloc_new _ _) HG4.out (by simp)
        have hc0 := hb.c0
        have hc1 := hb.c1
        have hf0 := hb.fr 0
        have hf1 := hb.fr 1
        obtain ⟨n', s', er, rfl⟩ : ∃ n' s' er, e = .returned (.tuple #[whole n' s', .int .i64 er]) := by
          rcases hM with ⟨_, s', rfl, _⟩ | ⟨_, rfl⟩
          · exact ⟨_, _, _, rfl⟩
          · exact ⟨_, _, _, rfl⟩
        have HZR : Hid (ZRes (sumZ l) (.returned (.tuple #[whole n' s', .int .i64 er]))) := hZR
        clear hM hg4 hZR HMD HG3
        go_wp2_with fail
        refine bodyPost_ret (res_cell_tmp rfl _ _ w.heap.size _ _ _ _ rfl (hb.put _ _)) rfl ?_
        exact ⟨HZR.out, grown_set (grown_set (grownBy_trans (grow1 _ _) HG4.out) (Nat.le_refl _)) (Nat.le_refl _)⟩
end Go.Proofs.YtmgbkcfocbbofabGreatDoor
