/-
  The document's reader in memory: its block, the bytes that it reads, how far it is; its Left, Number, Signed.
-/
import Derived.Test.YtanbnefdodkniaaRdf
namespace Go.Proofs.Ytanbnefdodkniaa
open Go.RowKit Go.Lib Go.Sort

/-- The document's reader at block db, over the bytes L (the slice v, elsewhere), k of them gone. -/
structure DRdr (w : World) (db : Nat) (v : Value) (L : List Int) (k : Nat) : Prop where
  blk : w.heap[db]? = some (.cells #[v, .int .i64 k] 60 (0, 0))
  src : (∃ ao c, v = .slice ao 0 c ∧ L = []) ∨ ∃ g off cap, v = .slice (some ⟨g, off, none⟩) L.length cap ∧ L.length ≤ cap ∧ cap ≤ maxLen ∧ g ≠ db ∧ g < w.heap.size ∧ ∀ j, j < L.length → w.cell? ⟨g, off + j, none⟩ = some (.int .u8 (L[j]?.getD 0))
  le : k ≤ L.length
  max : L.length ≤ 225000000000000
  rng : ∀ x ∈ L, 0 ≤ x ∧ x ≤ 255

theorem DRdr.lt {w : World} {db : Nat} {v : Value} {L : List Int} {k : Nat} (h : DRdr w db v L k) : db < w.heap.size := (Array.getElem?_eq_some_iff.1 h.blk).1
/-- Its bytes lie below block N. -/
def DFar (v : Value) (L : List Int) (N : Nat) : Prop := L = [] ∨ ∃ g off n c, v = .slice (some ⟨g, off, none⟩) n c ∧ g < N
theorem DFar.mono {v : Value} {L : List Int} {N M : Nat} (h : DFar v L N) (hm : N ≤ M) : DFar v L M := by
  rcases h with h | ⟨g, off, n, c, rfl, h⟩
  · exact .inl h
  · exact .inr ⟨g, off, n, c, rfl, by omega⟩
theorem DRdr.far {w : World} {db : Nat} {v : Value} {L : List Int} {k : Nat} (h : DRdr w db v L k) : DFar v L w.heap.size := by
  rcases h.src with ⟨ao, c, rfl, rfl⟩ | ⟨g, off, cap, rfl, a, b, c, d, e⟩
  · exact .inl rfl
  · exact .inr ⟨g, off, _, _, rfl, d⟩
theorem DRdr.kept {w w' : World} {db : Nat} {v : Value} {L : List Int} {k : Nat} {row : Option Nat} (h : DRdr w db v L k) (hg : w.grownBy w' row) (h1 : row ≠ some db) (h2 : ∀ r, row = some r → DFar v L r) : DRdr w' db v L k := by
  refine ⟨(hg.block db h.lt (fun e => h1 e.symm)).trans h.blk, ?_, h.le, h.max, h.rng⟩
  rcases h.src with hs | ⟨g, off, cap, rfl, a, b, c, d, e⟩
  · exact .inl hs
  · by_cases hL : L = []
    · subst hL; exact .inl ⟨_, _, rfl, rfl⟩
    · refine .inr ⟨g, off, cap, rfl, a, b, c, Nat.lt_of_lt_of_le d hg.size, fun j hj => ?_⟩
      rw [← e j hj]
      refine World.cell?_of_block (hg.block g d (fun e => ?_))
      rcases h2 g e.symm with hn | ⟨g1, off1, n1, c1, e1, hl⟩
      · exact hL hn
      · cases e1; omega
theorem DRdr.kept0 {w w' : World} {db : Nat} {v : Value} {L : List Int} {k : Nat} (h : DRdr w db v L k) (hg : w.grownBy w' none) : DRdr w' db v L k := h.kept hg (by simp) (fun r e => by cases e)
theorem DRdr.al {w : World} {db : Nat} {v : Value} {L : List Int} {k : Nat} (h : DRdr w db v L k) (o : Obj) : DRdr (w.alloc o) db v L k := h.kept0 (World.grownBy_alloc _ _ _)
theorem DRdr.drewN {w : World} {db : Nat} {v : Value} {L : List Int} {k : Nat} (h : DRdr w db v L k) (n : Nat) : DRdr (w.drewN n) db v L k := h.kept0 (grownBy_drewN (World.grownBy.refl w none) n)
theorem DRdr.put {w : World} {db : Nat} {v : Value} {L : List Int} {k : Nat} (h : DRdr w db v L k) (j : Nat) (hj : j ≤ L.length) : DRdr (w.setCell ⟨db, 1, none⟩ (.int .i64 j)) db v L j := by
  refine ⟨by simp [World.setCell, Array.getElem?_modify, h.blk], ?_, hj, h.max, h.rng⟩
  rcases h.src with hs | ⟨g, off, cap, rfl, a, b, c, d, e⟩
  · exact .inl hs
  · refine .inr ⟨g, off, cap, rfl, a, b, c, by simpa [World.setCell] using d, fun j hj => ?_⟩
    rw [← e j hj]
    exact World.cell?_of_block (Below.heap_setCell _ _ _ _ (by simpa using c))
theorem DRdr.c0 {w : World} {db : Nat} {v : Value} {L : List Int} {k : Nat} (h : DRdr w db v L k) : w.cell? ⟨db, 0, none⟩ = some v := by simp [World.cell?, h.blk]
theorem DRdr.c1 {w : World} {db : Nat} {v : Value} {L : List Int} {k : Nat} (h : DRdr w db v L k) : w.cell? ⟨db, 1, none⟩ = some (.int .i64 k) := by simp [World.cell?, h.blk]
theorem DRdr.fr {w : World} {db : Nat} {v : Value} {L : List Int} {k : Nat} (h : DRdr w db v L k) (o : Nat) : w.frozen? ⟨db, o, none⟩ = false := by simp [World.frozen?, h.blk]
theorem DRdr.len {w : World} {db : Nat} {v : Value} {L : List Int} {k : Nat} (h : DRdr w db v L k) : ∃ ao c, v = .slice ao L.length c := by
  rcases h.src with ⟨ao, c, rfl, rfl⟩ | ⟨g, off, cap, rfl, _⟩
  · exact ⟨ao, c, rfl⟩
  · exact ⟨_, cap, rfl⟩
theorem DRdr.back {w w' : World} {db : Nat} {v : Value} {L : List Int} {j k : Nat} (h : DRdr w' db v L j) (hg : w.grownBy w' (some db)) (hk : k ≤ L.length) :
    DRdr (w'.setCell ⟨db, 1, none⟩ (.int .i64 k)) db v L k ∧ w.grownBy (w'.setCell ⟨db, 1, none⟩ (.int .i64 k)) (some db) :=
  ⟨h.put k hk, grownBy_trans hg (grownBy_setCell _ _ _ _)⟩
/-- A block that is not the reader's, nor its bytes', is written. -/
theorem DRdr.put2 {w : World} {db : Nat} {v : Value} {L : List Int} {k g : Nat} (h : DRdr w db v L k) (hg : g ≠ db) (hv : DFar v L g) (o : Nat) (x : Value) : DRdr (w.setCell ⟨g, o, none⟩ x) db v L k :=
  h.kept (grownBy_setCell w g o x) (by intro e; cases e; exact hg rfl) (fun r e => by cases e; exact hv)
/-- A method of the document's reader (function f): it answers x and the error e, and goes to j; all else stays. -/
def DReads (f : Nat) (w : World) (db : Nat) (v : Value) (L : List Int) (j : Nat) (x : Value) (e : Nat) : Prop :=
  Calls Try.prog f #[rp db] w fun en w' => en = .returned (.tuple #[x, .int .i64 e]) ∧ DRdr w' db v L j ∧ w.grownBy w' (some db)
theorem DReads.out {f : Nat} {w : World} {db : Nat} {v : Value} {L : List Int} {j : Nat} {x : Value} {e : Nat} (h : DReads f w db v L j x e) :
  Calls Try.prog f #[rp db] w fun en w' => en = .returned (.tuple #[x, .int .i64 e]) ∧ DRdr w' db v L j ∧ w.grownBy w' (some db) := h

set_option maxHeartbeats 1600000 in
set_option maxRecDepth 1000000 in
theorem dleft (w : World) (db : Nat) (v : Value) (L : List Int) (k : Nat) (h : DRdr w db v L k) :
    Calls Try.prog 35 #[rp db] w fun e w' => e = .returned (.int .i64 (L.length - k : Nat)) ∧ ∃ n, w' = w.drewN n := by
  have h0 := h.c0
  have h1 := h.c1
  have hx := h.max
  have hk := h.le
  obtain ⟨ao, c, rfl⟩ := h.len
  go_enter Try.func35, Try.ntmps35
  go_wp2
  go_quiet (fail)
  go_wp2
  go_ret
  exact ⟨ret_num (by omega), _, rfl⟩

set_option maxHeartbeats 1600000 in
set_option maxRecDepth 1000000 in
theorem dnum_end (w : World) (db : Nat) (v : Value) (L : List Int) (k : Nat) (h : DRdr w db v L k) (hk : k = L.length) :
    Calls Try.prog 64 #[rp db] w fun e w' => e = .returned (.tuple #[.int .u64 0, .int .i64 110]) ∧ w' = w := by
  have h0 := h.c0
  have h1 := h.c1
  have hx := h.max
  obtain ⟨ao, c, rfl⟩ := h.len
  subst hk
  go_enter Try.func64, Try.ntmps64
  go_wp2
  go_loop [4, 5] (fun x i => x = .int .u64 0 ∧ i = .int .i64 L.length) (fun _ _ => 0)
  case atStart => exact ⟨rfl, rfl⟩
  case round =>
    obtain ⟨rfl, rfl⟩ := hrel
    go_wp2
    go_ret2
    exact ⟨rfl, rfl⟩

/-- What the walk below ends at. -/
def DnQ (w : World) (db k M C E : Nat) (e : Ending) (w' : World) : Prop := e = .returned (.tuple #[.int .u64 M, .int .i64 E]) ∧ (w' = w ∧ C = 0 ∨ w' = w.setCell ⟨db, 1, none⟩ (.int .i64 ((k + C : Nat) : Int)))
theorem DnQ.no {w : World} {db k E : Nat} : DnQ w db k 0 0 E (.returned (.tuple #[.int .u64 0, .int .i64 E])) w := ⟨rfl, .inl ⟨rfl, rfl⟩⟩
theorem DnQ.yes {w : World} {db k M C : Nat} {x y : Int} (hx : (M : Int) = x) (hy : ((k + C : Nat) : Int) = y) : DnQ w db k M C 0 (.returned (.tuple #[.int .u64 x, .int .i64 0])) (w.setCell ⟨db, 1, none⟩ (.int .i64 y)) := by
  subst hx hy; exact ⟨rfl, .inr rfl⟩

set_option maxHeartbeats 3200000 in
set_option maxRecDepth 1000000 in
theorem dnum_more (w : World) (db : Nat) (v : Value) (L : List Int) (k M C E : Nat) (HR0 : Hid (∀ n c e, rdN 0 0 (L.drop k) = (n, c, e) → (M = if e = 0 then n else 0) ∧ C = c ∧ E = e)) (h : DRdr w db v L k) (hk0 : k < L.length) :
    Calls Try.prog 64 #[rp db] w (DnQ w db k M C E) := by
  have h0 := h.c0
  have h1 := h.c1
  have hf := h.fr 1
  have hx := h.max
  have hr := rng_at h.rng
  rcases h.src with ⟨ao, c, rfl, rfl⟩ | ⟨g, off, cap, rfl, hc1, hc2, hgr, hgs, hcell⟩
  · simp at hk0
  · unfold maxLen at hc2
    have HC : Hid (∀ j, j < L.length → w.cell? ⟨g, off + j, none⟩ = some (.int .u8 (L[j]?.getD 0))) := hcell
    have HR : Hid (∀ j : Nat, 0 ≤ L[j]?.getD 0 ∧ L[j]?.getD 0 ≤ 255) := hr
    clear hcell hr h
    go_enter Try.func64, Try.ntmps64
    go_wp2
    go_loop [4, 5] (fun x i => ∃ (n j : Nat), j ≤ L.length - k ∧ n < 18446744073709551616 ∧ x = .int .u64 n ∧ i = .int .i64 (k + j : Nat) ∧ rdN n j (L.drop (k + j)) = rdN 0 0 (L.drop k)) (fun _ i => L.length - (RowKit.intOf i).toNat)
    case atStart => exact ⟨0, 0, by omega, by omega, rfl, rfl, rfl⟩
    case round =>
      obtain ⟨n, j, hj, hn, rfl, rfl, heq⟩ := hrel
      have HE : Hid (rdN n j (L.drop (k + j)) = rdN 0 0 (L.drop k)) := heq
      clear heq
      by_cases hlt : j < L.length - k
      · have hcj := HC.out (k + j) (by omega)
        have hrj := HR.out (k + j)
        obtain ⟨b, hb⟩ : ∃ b, b = L[k + j]?.getD 0 := ⟨_, rfl⟩
        rw [← hb] at hcj hrj
        have HB : Hid (L.drop (k + j) = b :: L.drop (k + j + 1)) := by rw [hb]; exact drop_at (by omega)
        clear hb
        obtain ⟨i, hi⟩ : ∃ i, i = k + j := ⟨_, rfl⟩
        have HI : Hid (i = k + j) := hi
        rw [← hi] at hcj ⊢
        have hi2 : i < L.length := by omega
        have hi3 : (i : Int) < L.length := by omega
        have hik : j = 0 ∧ i = k ∨ j ≠ 0 ∧ ¬ i = k ∧ ((i : Int) == (k : Int)) = false := by
          by_cases hj0 : j = 0
          · exact .inl ⟨hj0, by omega⟩
          · exact .inr ⟨hj0, by omega, by simp; omega⟩
        by_cases hbad : (b = 128 ∧ j = 0) ∨ 144115188075855871 < n
        · have HV : Hid (rdN 0 0 (L.drop k) = (n, 0, 111)) := by rw [← HE.out, HB.out]; simp only [rdN]; rw [if_pos hbad]; rfl
          clear HE HB
          obtain ⟨rfl, rfl, rfl⟩ : M = 0 ∧ C = 0 ∧ E = 111 := by obtain ⟨a, b, c⟩ := HR0.out _ _ _ HV.out; exact ⟨by simpa using a, b, c⟩
          rcases hik with ⟨rfl, rfl⟩ | ⟨hj0, hne, hneb⟩
          · clear HI hi
            by_cases hb : b = 128
            · subst hb
              clear hbad
              go_wp2
              go_ret2
              exact DnQ.no
            · have hbig : 144115188075855871 < n := by omega
              have hbig2 : (144115188075855871 : Int) < n := by omega
              clear hbad
              go_wp2
              go_ret2
              exact DnQ.no
          · have hbig : 144115188075855871 < n := by omega
            have hbig2 : (144115188075855871 : Int) < n := by omega
            clear hbad HI hi
            go_wp2
            go_ret2
            exact DnQ.no
        · have hn57 : n ≤ 144115188075855871 := by omega
          have hn57' : (n : Int) ≤ 144115188075855871 := by omega
          have hnn : decide (144115188075855871 < (n : Int)) = false := by simp; omega
          have htm : b.tmod 128 = b % 128 := Int.tmod_eq_emod_of_nonneg hrj.1
          have hb0 := hrj.1
          have hb1 := hrj.2
          by_cases hs : b < 128
          · have HV : Hid (rdN 0 0 (L.drop k) = (n * 128 + (b % 128).toNat, j + 1, 0)) := by rw [← HE.out, HB.out]; simp only [rdN]; rw [if_neg hbad, if_pos hs]; rfl
            have hb128 : ¬ b = 128 := by omega
            have hbb : (b == 128) = false := by simpa using hb128
            have hbm : b % 128 = b := by omega
            clear HE HB hbad
            have hM : (M : Int) = 128 * n + b ∧ ((k + C : Nat) : Int) = i + 1 ∧ E = 0 := by
              obtain ⟨a1, a2, a3⟩ := HR0.out _ _ _ HV.out
              have := HI.out
              refine ⟨?_, by omega, a3⟩
              rw [if_pos rfl] at a1
              omega
            obtain ⟨hM, hC, rfl⟩ := hM
            have HM : Hid ((M : Int) = 128 * n + b ∧ ((k + C : Nat) : Int) = i + 1) := ⟨hM, hC⟩
            clear hM hC HV
            rcases hik with ⟨rfl, rfl⟩ | ⟨hj0, hne, hneb⟩
            · clear HI hi
              go_wp2
              go_ret2
              exact DnQ.yes HM.out.1 HM.out.2
            · clear HI hi
              go_wp2
              go_ret2
              exact DnQ.yes HM.out.1 HM.out.2
          · have HV : Hid (rdN (n * 128 + (b % 128).toNat) (j + 1) (L.drop (k + (j + 1))) = rdN 0 0 (L.drop k)) := by rw [← HE.out, HB.out]; simp only [rdN]; rw [if_neg hbad, if_neg hs, Nat.add_assoc]; rfl
            clear HE HB
            obtain ⟨b2, hb2⟩ : ∃ b2 : Int, b % 128 = b2 := ⟨_, rfl⟩
            have hb3 : 0 ≤ b2 ∧ b2 < 128 := by omega
            rw [hb2] at htm
            have HB2 : Hid (b % 128 = b2) := hb2
            clear hb2
            rcases hik with ⟨rfl, rfl⟩ | ⟨hj0, hne, hneb⟩
            · have hb128 : ¬ b = 128 := by omega
              have hbb : (b == 128) = false := by simpa using hb128
              clear hbad hi
              go_wp2
              go_round
              case rel => exact ⟨n * 128 + (b % 128).toNat, 0 + 1, by omega, by have := HB2.out; omega, num_eq (by have := HB2.out; omega), num_eq (by have := HI.out; omega), HV.out⟩
              case measure => simp [RowKit.intOf]; omega
            · clear hbad hi
              by_cases hb128 : b = 128
              · subst hb128
                go_wp2
                go_round
                case rel => exact ⟨n * 128 + ((128 : Int) % 128).toNat, j + 1, by omega, by omega, num_eq (by have := HB2.out; omega), num_eq (by have := HI.out; omega), HV.out⟩
                case measure => simp [RowKit.intOf]; omega
              · go_wp2
                go_round
                case rel => exact ⟨n * 128 + (b % 128).toNat, j + 1, by omega, by have := HB2.out; omega, num_eq (by have := HB2.out; omega), num_eq (by have := HI.out; omega), HV.out⟩
                case measure => simp [RowKit.intOf]; omega
      · have HV : Hid (rdN 0 0 (L.drop k) = (n, 0, 110)) := by rw [← HE.out, List.drop_eq_nil_of_le (by omega)]; rfl
        obtain rfl : j = L.length - k := by omega
        have e1 : k + (L.length - k) = L.length := by omega
        rw [e1]
        clear HE
        obtain ⟨rfl, rfl, rfl⟩ : M = 0 ∧ C = 0 ∧ E = 110 := by obtain ⟨a, b, c⟩ := HR0.out _ _ _ HV.out; exact ⟨by simpa using a, b, c⟩
        go_wp2
        go_ret2
        exact DnQ.no

/-- The document's Number. -/
theorem dnumber (w : World) (db : Nat) (v : Value) (L : List Int) (k : Nat) (h : DRdr w db v L k) :
    DReads 64 w db v L (k + (rdN 0 0 (L.drop k)).2.1) (.int .u64 (if (rdN 0 0 (L.drop k)).2.2 = 0 then (rdN 0 0 (L.drop k)).1 else 0 : Nat)) (rdN 0 0 (L.drop k)).2.2 := by
  have hg0 := World.grownBy.refl w (some db)
  by_cases hk : k < L.length
  · refine (dnum_more w db v L k (if (rdN 0 0 (L.drop k)).2.2 = 0 then (rdN 0 0 (L.drop k)).1 else 0) (rdN 0 0 (L.drop k)).2.1 (rdN 0 0 (L.drop k)).2.2 (fun n c e he => by rw [he]; exact ⟨rfl, rfl, rfl⟩) h hk).mono ?_
    rintro e w' ⟨rfl, hw⟩
    refine ⟨rfl, ?_⟩
    have hc := rdN_count (L.drop k) 0 0
    rw [List.length_drop] at hc
    rcases hw with ⟨rfl, h0⟩ | rfl
    · rw [h0]; exact ⟨h, hg0⟩
    · exact ⟨h.put _ (by omega), grownBy_setCell _ _ _ _⟩
  · have e0 : k = L.length := by have := h.le; omega
    have e1 : rdN 0 0 (L.drop k) = (0, 0, 110) := by rw [List.drop_eq_nil_of_le (by omega)]; rfl
    refine (dnum_end w db v L k h e0).mono ?_
    rintro e w' ⟨rfl, rfl⟩
    rw [e1]
    exact ⟨rfl, h, hg0⟩

/-- What Number answers, in one: the number, where the reader stands, the error. -/
def nR (L : List Int) (k : Nat) : Nat × Nat × Nat := (if (rdN 0 0 (L.drop k)).2.2 = 0 then (rdN 0 0 (L.drop k)).1 else 0, k + (rdN 0 0 (L.drop k)).2.1, (rdN 0 0 (L.drop k)).2.2)
theorem dnumber_n (w : World) (db : Nat) (v : Value) (L : List Int) (k n j e : Nat) (hn : nR L k = (n, j, e)) (h : DRdr w db v L k) : DReads 64 w db v L j (.int .u64 n) e := by
  have := dnumber w db v L k h
  unfold nR at hn
  simp only [Prod.mk.injEq] at hn
  obtain ⟨rfl, rfl, rfl⟩ := hn
  exact this
theorem number_n (w : World) (rb : Nat) (v : Value) (L : List Int) (k n j e : Nat) (hn : nR L k = (n, j, e)) (h : Rdr w rb v L k) : Reads 36 w rb v L j (.int .u64 n) e := by
  have := Number_any w rb v L k h
  unfold nR at hn
  simp only [Prod.mk.injEq] at hn
  obtain ⟨rfl, rfl, rfl⟩ := hn
  exact this
theorem nR_facts {L : List Int} {k n j e : Nat} (hn : nR L k = (n, j, e)) : n < 18446744073709551616 ∧ (e = 0 ∧ k < j ∨ (e = 110 ∨ e = 111) ∧ j = k ∧ n = 0) := by
  have h1 := rdN_val (L.drop k) 0 0 (by omega)
  have h2 := rdN_code (L.drop k) 0 0
  unfold nR at hn
  simp only [Prod.mk.injEq] at hn
  obtain ⟨rfl, rfl, rfl⟩ := hn
  rcases h2 with ⟨h2, h3⟩ | ⟨h2, h3⟩
  · rw [if_pos h2]; exact ⟨h1, .inl ⟨h2, by omega⟩⟩
  · rw [if_neg (by omega)]; exact ⟨by omega, .inr ⟨h2, by omega, rfl⟩⟩

set_option maxHeartbeats 1600000 in
theorem dunfolded (n : Nat) (hn : n < 18446744073709551616) (w : World) : Calls Try.prog 98 #[.int .u64 n] w fun e w' => e = .returned (.int .i64 (unf n)) ∧ w' = w := by
  by_cases h1 : n % 2 = 1
  · have HU : Hid (unf n = -1 - (n / 2 : Nat)) := by unfold unf; rw [if_pos h1]; rfl
    have h2 : (n : Int) % 2 = 1 := by omega
    have h3 : (n : Int) / 2 ≤ 9223372036854775807 := by omega
    go_enter Try.func98, Try.ntmps98
    go_wp2
    go_ret
    rw [HU.out]
    exact ⟨ret_num (by omega), rfl⟩
  · have HU : Hid (unf n = (n / 2 : Nat)) := by unfold unf; rw [if_neg h1]; rfl
    have h2 : (n : Int) % 2 = 0 := by omega
    have h3 : (n : Int) / 2 ≤ 9223372036854775807 := by omega
    go_enter Try.func98, Try.ntmps98
    go_wp2
    go_ret
    rw [HU.out]
    exact ⟨ret_num (by omega), rfl⟩

set_option maxHeartbeats 1600000 in
set_option maxRecDepth 1000000 in
theorem dsigned_of (w : World) (db : Nat) (v : Value) (L : List Int) (j n e : Nat) (hn : n < 18446744073709551616) (H : DReads 64 w db v L j (.int .u64 n) e) : DReads 65 w db v L j (.int .i64 (unf n)) e := by
  go_enter Try.func65, Try.ntmps65
  go_wp2_with (first | (go_at_call 64; refine H.out.mono ?_; rintro e w' ⟨rfl, hr, hg⟩) | (go_at_call 98; refine (dunfolded n hn _).mono ?_; rintro e w2 ⟨rfl, rfl⟩))
  go_ret2
  exact ⟨rfl, hr, hg⟩
theorem dsigned (w : World) (db : Nat) (v : Value) (L : List Int) (k n j e : Nat) (hn : nR L k = (n, j, e)) (h : DRdr w db v L k) : DReads 65 w db v L j (.int .i64 (unf n)) e :=
  dsigned_of w db v L j n e (nR_facts hn).1 (dnumber_n w db v L k n j e hn h)
theorem signed_n (w : World) (rb : Nat) (v : Value) (L : List Int) (k n j e : Nat) (hn : nR L k = (n, j, e)) (h : Rdr w rb v L k) : Reads 37 w rb v L j (.int .i64 (unf n)) e := by
  have := Signed_any w rb v L k h
  unfold nR at hn
  simp only [Prod.mk.injEq] at hn
  obtain ⟨rfl, rfl, rfl⟩ := hn
  by_cases he : (rdN 0 0 (L.drop k)).2.2 = 0
  · rw [if_pos he] at this ⊢; exact this
  · rw [if_neg he] at this ⊢; exact this
end Go.Proofs.Ytanbnefdodkniaa
