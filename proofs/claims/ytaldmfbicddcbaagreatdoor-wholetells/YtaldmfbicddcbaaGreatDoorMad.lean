/-
  The document's made, Of: a number of its sign and digits, in its one form.
-/
import Derived.Test.YtaldmfbicddcbaaGreatDoorRfb
namespace Go.Proofs.YtaldmfbicddcbaaGreatDoor
open Go.RowKit Go.Lib Go.Sort

/-- The byte k of a number by its digits. -/
theorem byte_word (L : List Nat) (k : Nat) (hr : ∀ x ∈ L, x < B32) : (L[k / 4]?.getD 0) / 2 ^ (8 * (k % 4)) % 256 = nv B32 L / 256 ^ k % 256 := by
  have h1 := nv_digit B32 L (k / 4) hr
  rw [← h1]
  have e : nv B32 L / 256 ^ k = nv B32 L / B32 ^ (k / 4) / 2 ^ (8 * (k % 4)) := by
    rw [Nat.div_div_eq_div_mul, show B32 = 2 ^ 32 from rfl, show (256 : Nat) = 2 ^ 8 from rfl, ← Nat.pow_mul, ← Nat.pow_mul, ← Nat.pow_add, show 32 * (k / 4) + 8 * (k % 4) = 8 * k by omega]
  rw [e]
  generalize nv B32 L / B32 ^ (k / 4) = x
  have h4 : k % 4 = 0 ∨ k % 4 = 1 ∨ k % 4 = 2 ∨ k % 4 = 3 := by omega
  rcases h4 with h | h | h | h <;> rw [h] <;> simp only [B32] <;> omega
theorem lt_pow_step {V n : Nat} (h : V < 256 ^ (n + 1)) (h0 : V / 256 ^ n % 256 = 0) : V < 256 ^ n := by
  have e := Nat.mod_pow_succ (b := 256) (k := n) (x := V)
  rw [Nat.mod_eq_of_lt h, h0, Nat.mul_zero, Nat.add_zero] at e
  rw [e]
  exact Nat.mod_lt _ (Nat.pow_pos (by decide))
theorem magN_val : ∀ (r : List Nat), (∀ x ∈ r, x < 256) → (r = [] ∨ r.getLast?.getD 0 ≠ 0) → magN (val r.reverse) = r.reverse
  | [], _, _ => by simp [val, magN_zero]
  | b :: t, h, h0 => by
    have hb := h b (by simp)
    rw [List.reverse_cons, val_snoc]
    by_cases ht : t = []
    · subst ht
      have : b ≠ 0 := by
        rcases h0 with h0 | h0
        · simp at h0
        · simpa using h0
      rw [List.reverse_nil, val_nil, Nat.zero_mul, Nat.zero_add, magN_pos (by omega), Nat.div_eq_of_lt hb, magN_zero, Nat.mod_eq_of_lt hb]
    · have hl : t.getLast?.getD 0 ≠ 0 := by
        rcases h0 with h0 | h0
        · simp at h0
        · rw [List.getLast?_cons] at h0
          cases hg : t.getLast? with
          | none => simp at hg; exact absurd hg ht
          | some y => rw [hg] at h0; simpa using h0
      have ih := magN_val t (fun x hx => h x (by simp [hx])) (.inr hl)
      have hp : 0 < val t.reverse := by
        rcases Nat.eq_zero_or_pos (val t.reverse) with hz | hp
        · rw [hz, magN_zero] at ih
          have := congrArg List.length ih
          simp at this
          exact absurd (List.eq_nil_of_length_eq_zero this.symm) ht
        · exact hp
      rw [magN_pos (by omega), show (val t.reverse * 256 + b) / 256 = val t.reverse by omega, show (val t.reverse * 256 + b) % 256 = b by omega, ih]
theorem magN_of (l : List Nat) (h : ∀ x ∈ l, x < 256) (h0 : l = [] ∨ l.head?.getD 0 ≠ 0) : magN (val l) = l := by
  have := magN_val l.reverse (fun x hx => h x (by simpa using hx)) (by
    rcases h0 with rfl | h0
    · exact .inl rfl
    · right; rwa [List.getLast?_reverse])
  rwa [List.reverse_reverse] at this
theorem val_cons (b : Nat) (l : List Nat) : val (b :: l) = b * 256 ^ l.length + val l := by
  rw [val_nv, val_nv, List.reverse_cons, nv_append, List.length_reverse]
  simp [nv]
  rw [Nat.add_comm, Nat.mul_comm]

theorem blk_new (w : World) (q : Nat) : BlkL ((w.alloc (wObj false eS)).alloc (.cells ((ints (List.replicate (q + 1) 0)).map encB).toArray 5)) (w.heap.size + 1) 5 encB (List.replicate (q + 1 - 0) 0 ++ ints []) := by
  have h := heap_alloc_new (w.alloc (wObj false eS)) (.cells ((ints (List.replicate (q + 1) 0)).map encB).toArray 5)
  rw [World.size_alloc] at h
  unfold BlkL
  rw [h]
  simp [ints]

set_option maxHeartbeats 3200000 in
set_option maxRecDepth 1000000 in
theorem made_any (neg : Bool) (w : World) (v : Value) (L : List Nat) (h : D4 w v L) (hr : ∀ x ∈ L, x < B32) (hl : L.length ≤ 100000000) :
    Calls Tryz.prog 59 #[.bool neg, v] w fun e w' => ∃ s, e = .returned (whole (neg && decide (nv B32 L ≠ 0)) s) ∧ bN s = magN (nv B32 L) ∧ w.grownBy w' none := by
  obtain ⟨V, hV⟩ : ∃ V, nv B32 L = V := ⟨_, rfl⟩
  rw [hV]
  go_enter Tryz.func59, Tryz.ntmps59
  go_wp2_with fail
  refine (cut_any _ v L (h.kept (grow1 _ _)) hr (by omega)).mono ?_
  rintro e w1 ⟨v', k, rfl, hk, hd, hv, hlast, rfl⟩
  rw [hV] at hv
  have hKl : (L.take k).length = k := by rw [List.length_take, Nat.min_eq_left hk]
  have hrK : ∀ x ∈ L.take k, x < B32 := fun x hx => hr x (List.mem_of_mem_take hx)
  have hk9 : k ≤ 100000000 := by omega
  generalize L.take k = K at *
  clear h hr hl hk hV
  by_cases hk0 : k = 0
  · subst hk0
    obtain rfl : K = [] := by simpa using hKl
    obtain ⟨ao, c, rfl⟩ : ∃ ao c, v' = .slice ao 0 c := by
      rcases hd with ⟨rfl, _⟩ | ⟨B, off, c, rfl, _⟩
      · exact ⟨_, _, rfl⟩
      · exact ⟨_, _, rfl⟩
    have hV0 : V = 0 := by rw [← hv]; rfl
    clear hd hlast hrK hKl hv
    go_wp2_with fail
    refine bodyPost_ret (res_cell rfl _ _ w.heap.size _ _ _ _ rfl (heap_alloc_new _ _)) rfl ?_
    refine ⟨eS, ret_val ?_, by rw [hV0, magN_zero]; rfl, grow1 _ _⟩
    rw [hV0]
    cases neg <;> rfl
  · have hlast2 : K[k - 1]?.getD 0 ≠ 0 := by
      rcases hlast with h | h
      · exact absurd h hk0
      · exact h
    have hVlo : B32 ^ (k - 1) ≤ V := by
      obtain ⟨q, rfl⟩ : ∃ q, k = q + 1 := ⟨k - 1, by omega⟩
      have h1 := nv_top B32 K q hKl
      rw [Nat.add_sub_cancel] at hlast2 ⊢
      have h2 : B32 ^ q * 1 ≤ B32 ^ q * K[q]?.getD 0 := Nat.mul_le_mul_left _ (by omega)
      omega
    have hVhi : V < 256 ^ (4 * k) := by
      have h1 := nv_lt B32 K hrK
      rw [hKl, hv] at h1
      rw [show (256 : Nat) ^ (4 * k) = B32 ^ k by rw [Nat.pow_mul]]
      exact h1
    have hVp : 0 < V := Nat.lt_of_lt_of_le (Nat.pow_pos (by decide)) hVlo
    have hbyte := fun j => byte_word K j hrK
    rw [hv] at hbyte
    rcases hd with ⟨_, rfl⟩ | ⟨B, off, c, rfl, hc, hcell⟩
    · simp at hKl; omega
    · rw [hKl] at hc hcell ⊢
      have HC : Hid (∀ j, j < k → (w.alloc (wObj false eS)).cell? ⟨B, off + j, none⟩ = some (.int .u32 ((K[j]?.getD 0 : Nat) : Int))) := hcell
      have HR : Hid (∀ x ∈ K, x < B32) := hrK
      have HBY : Hid (∀ j, K[j / 4]?.getD 0 / 2 ^ (8 * (j % 4)) % 256 = V / 256 ^ j % 256) := hbyte
      have HVh : Hid (V < 256 ^ (4 * k)) := hVhi
      have HVp : Hid (0 < V) := hVp
      have hkI : (k : Int) ≤ 100000000 := by omega
      have hkp : 0 < k := by omega
      clear hcell hrK hbyte hVhi hVp hVlo hlast hlast2 hKl hk0 hk9 hv
      go_wp2_with fail
      go_loopw [5] (fun s wr => ∃ n, n ≤ 4 * k ∧ s = .int .i64 n ∧ V < 256 ^ n ∧ wr = w.alloc (wObj false eS)) (fun s _ => (RowKit.intOf s).toNat)
      case atStart => exact ⟨4 * k, Nat.le_refl _, num_eq (by omega), HVh.out, rfl⟩
      case round =>
        obtain ⟨n, hn, rfl, hVn, rfl⟩ := hrel
        have hn0 : n ≠ 0 := by
          intro e
          subst e
          have := HVp.out
          simp at hVn
          omega
        obtain ⟨q, rfl⟩ : ∃ q, n = q + 1 := ⟨n - 1, by omega⟩
        have HVn : Hid (V < 256 ^ (q + 1)) := hVn
        have hx := HC.out (q / 4) (by omega)
        have hby := HBY.out q
        have hrx := d4_rng HR.out (q / 4)
        clear hVn hn0
        generalize K[q / 4]?.getD 0 = x at *
        have hxI : (x : Int) ≤ 4294967295 := by have : x < 4294967296 := hrx; omega
        have HBYq : Hid (x / 2 ^ (8 * (q % 4)) % 256 = V / 256 ^ q % 256) := hby
        clear hby hrx
        have hq8 : (q : Int) ≤ 400000000 := by omega
        have htm : ((x : Int) / 2 ^ (8 * (q % 4))).tmod 256 = ((x / 2 ^ (8 * (q % 4)) % 256 : Nat) : Int) := by
          have e : ((x : Int) / 2 ^ (8 * (q % 4))) = ((x / 2 ^ (8 * (q % 4)) : Nat) : Int) := by simp
          rw [e]
          generalize x / 2 ^ (8 * (q % 4)) = t
          rw [Int.tmod_eq_emod_of_nonneg (by omega)]
          omega
        by_cases hz : x / 2 ^ (8 * (q % 4)) % 256 = 0
        · have hzb : (((x : Int) / 2 ^ (8 * (q % 4))).tmod 256 == 0) = true := by rw [htm, hz]; rfl
          clear htm
          have HZ : Hid (x / 2 ^ (8 * (q % 4)) % 256 = 0) := hz
          clear hz
          go_wp2_with fail
          go_roundw
          case rel => exact ⟨q, by omega, rfl, lt_pow_step HVn.out (by rw [← HBYq.out]; exact HZ.out), trivial⟩
          case measure => simp [RowKit.intOf]
        · have hzb : (((x : Int) / 2 ^ (8 * (q % 4))).tmod 256 == 0) = false := by
            rw [htm, beq_eq_false_iff_ne]
            omega
          clear htm
          have HZ : Hid (x / 2 ^ (8 * (q % 4)) % 256 ≠ 0) := hz
          clear hz
          have hmk := make1 (w.alloc (wObj false eS)) (q + 1) (by omega)
          rw [show ((q + 1 : Nat) : Int) = (q : Int) + 1 by omega, World.size_alloc] at hmk
          go_wp2_with fail
          go_loopw [7] (fun s wr => ∃ (i : Nat) (M : List Nat), i ≤ q + 1 ∧ s = .int .i64 i ∧ M.length = i ∧ (∀ y ∈ M, y < 256) ∧ val M = V % 256 ^ i ∧
            BlkL wr (w.heap.size + 1) 5 encB (List.replicate (q + 1 - i) 0 ++ ints M) ∧ (w.alloc (wObj false eS)).grownBy wr none) (fun s _ => q + 1 - (RowKit.intOf s).toNat)
          case atStart => exact ⟨0, [], by omega, rfl, rfl, by simp, by simp [val, Nat.mod_one], blk_new w q, grow1 _ _⟩
          case round =>
            obtain ⟨i, M, hi, rfl, hM, hMr, hMv, hBk, hg⟩ := hrel
            clear hmk hzb hx
            have HMr : Hid (∀ y ∈ M, y < 256) := hMr
            have HMv : Hid (val M = V % 256 ^ i) := hMv
            have HBk : Hid (BlkL wr (w.heap.size + 1) 5 encB (List.replicate (q + 1 - i) 0 ++ ints M)) := hBk
            have HGr : Hid ((w.alloc (wObj false eS)).grownBy wr none) := hg
            by_cases hi1 : i < q + 1
            · have hx2 := grownBy_cell hg (HC.out (i / 4) (by omega)) (by simp)
              have hby2 := HBY.out i
              have hrx2 := d4_rng HR.out (i / 4)
              have hc2 := hBk.cell (q - i) (by simp; omega)
              have hf2 := hBk.frozen (q - i)
              clear hMr hMv hBk hg
              generalize K[i / 4]?.getD 0 = y at *
              have hyI : (y : Int) ≤ 4294967295 := by have : y < 4294967296 := hrx2; omega
              have HBY2 : Hid (y / 2 ^ (8 * (i % 4)) % 256 = V / 256 ^ i % 256) := hby2
              clear hby2 hrx2
              go_wp2_with fail
              go_roundw
              case rel =>
                have hyb : ((y : Int) / 2 ^ (8 * (i % 4)) % 256) = ((V / 256 ^ i % 256 : Nat) : Int) := by
                  rw [← HBY2.out]
                  simp
                refine ⟨i + 1, (V / 256 ^ i % 256) :: M, by omega, rfl, by simp [hM], ?_, ?_, ?_, grown_set HGr.out (by simp)⟩
                · intro z hz
                  rcases List.mem_cons.1 hz with rfl | hz
                  · omega
                  · exact HMr.out z hz
                · rw [val_cons, hM, HMv.out, Nat.mod_pow_succ, Nat.mul_comm, Nat.add_comm]
                · have e := HBk.out.set (q - i) ((V / 256 ^ i % 256 : Nat) : Int)
                  rw [show q + 1 - i = (q - i) + 1 by omega, set_last] at e
                  rw [show q + 1 - (i + 1) = q - i by omega, hyb]
                  exact e
              case measure => simp [RowKit.intOf]; omega
            · obtain rfl : i = q + 1 := by omega
              have hMV : val M = V := by rw [hMv]; exact Nat.mod_eq_of_lt HVn.out
              have hMN : magN V = M := by
                rw [← hMV]
                apply magN_of M hMr
                right
                cases M with
                | nil => simp at hM
                | cons b t =>
                  have hlt := val_lt t (fun z hz => hMr z (by simp [hz]))
                  have htl : t.length = q := by simpa using hM
                  rw [htl] at hlt
                  rw [val_cons, htl] at hMV
                  intro hb
                  simp at hb
                  rw [hb, Nat.zero_mul, Nat.zero_add] at hMV
                  have h1 := HBYq.out
                  rw [← hMV, Nat.div_eq_of_lt hlt] at h1
                  exact HZ.out h1
              have hcv := conv_src (w := wr) (s := .slice (some ⟨w.heap.size + 1, 0, none⟩) (q + 1) (q + 1)) (L := ints M) (.inr ⟨_, _, _, by rw [ints_length, hM], fun j u hj => by
                have hj2 := (List.getElem?_eq_some_iff.1 hj).1
                simp [ints_length, hM] at hj2
                have h1 := hBk.cell j (by simp [ints_length]; omega)
                rw [Nat.zero_add, h1, ← hj]
                simp [ints_length, hM, hj2]⟩)
              have hW : WBlk wr w.heap.size (.bool false) (.string eS) := WBlk.kept (w := w.alloc (wObj false eS)) (heap_alloc_new _ _) hg (by simp)
              have hc0 := hW.c0
              have hc1 := hW.c1
              have hf0 := hW.fr 0
              have hf1 := hW.fr 1
              have HMN : Unit → magN V = M := fun _ => hMN
              clear hMr hMv hBk hg hMV hMN
              go_wp2_with fail
              refine bodyPost_ret (res_cell rfl _ _ w.heap.size _ _ _ _ rfl (hW.put _ _)) rfl ?_
              refine ⟨strOf (ints M), ret_val ?_, by rw [HMN ()]; exact bN_strOf M HMr.out, grown_set (grown_set (grownBy_trans (grow1 _ _) HGr.out) (Nat.le_refl _)) (Nat.le_refl _)⟩
              have hVne : decide (V ≠ 0) = true := decide_eq_true (by have := HVp.out; omega)
              rw [hVne, Bool.and_true]
end Go.Proofs.YtaldmfbicddcbaaGreatDoor
