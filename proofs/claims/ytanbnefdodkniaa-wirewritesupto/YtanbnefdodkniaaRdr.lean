/-
  A reader in memory: its block, the bytes that it owns, how far it is; what wire.Open makes.
-/
import Derived.Test.YtanbnefdodkniaaNum
import Derived.Deep.QuietTactic
import Derived.BigQuiet
import Derived.WalkMore
namespace Go.Proofs.Ytanbnefdodkniaa
open Go.RowKit Go.Lib Go.Sort

/-- The reader at block rb, over the bytes L (the slice v), k of them gone. -/
structure Rdr (w : World) (rb : Nat) (v : Value) (L : List Int) (k : Nat) : Prop where
  blk : w.heap[rb]? = some (.cells #[v, .int .i64 k, .bool true] 100 (0, 0))
  own : w.ownsRow 0 5 1 v L.length (L.map encB)
  ne : v.ownBlock ≠ some rb
  le : k ≤ L.length
  max : L.length ≤ 225000000000000
  rng : ∀ x ∈ L, 0 ≤ x ∧ x ≤ 255

abbrev rp (rb : Nat) : Value := .pointer (some ⟨rb, 0, none⟩)

theorem grownBy_trans {a b c : World} {row : Option Nat} (h : a.grownBy b row) (k : b.grownBy c row) : a.grownBy c row :=
  ⟨k.os.trans h.os, k.tape.trans h.tape, k.output.trans h.output, Nat.le_trans h.size k.size, fun i hi hn => (k.block i (Nat.lt_of_lt_of_le hi h.size) hn).trans (h.block i hi hn)⟩
theorem grownBy_any {a b : World} {row : Option Nat} (h : a.grownBy b none) : a.grownBy b row :=
  ⟨h.os, h.tape, h.output, h.size, fun i hi _ => h.block i hi (by simp)⟩
theorem grownBy_drewN {a b : World} {row : Option Nat} (h : a.grownBy b row) (n : Nat) : a.grownBy (b.drewN n) row :=
  ⟨h.os, h.tape, h.output, h.size, fun i hi hn => h.block i hi hn⟩
theorem grownBy_setCell (a : World) (g o : Nat) (v : Value) : a.grownBy (a.setCell ⟨g, o, none⟩ v) (some g) :=
  ⟨rfl, rfl, rfl, by simp [World.setCell], fun i _ hn => Below.heap_setCell _ _ _ _ (by intro e; exact hn (by rw [e]))⟩

theorem Rdr.lt {w : World} {rb : Nat} {v : Value} {L : List Int} {k : Nat} (h : Rdr w rb v L k) : rb < w.heap.size := (Array.getElem?_eq_some_iff.1 h.blk).1

/-- Another part of memory has turned. -/
theorem Rdr.kept {w w' : World} {rb : Nat} {v : Value} {L : List Int} {k : Nat} {row : Option Nat} (h : Rdr w rb v L k) (hg : w.grownBy w' row) (h1 : row ≠ some rb) (h2 : v.ownBlock = none ∨ v.ownBlock ≠ row) : Rdr w' rb v L k :=
  ⟨(hg.block rb h.lt (fun e => h1 e.symm)).trans h.blk, h.own.kept hg h2, h.ne, h.le, h.max, h.rng⟩

theorem Rdr.drewN {w : World} {rb : Nat} {v : Value} {L : List Int} {k : Nat} (h : Rdr w rb v L k) (n : Nat) : Rdr (w.drewN n) rb v L k :=
  ⟨h.blk, h.own.kept (grownBy_drewN (World.grownBy.refl w none) n) (by cases v.ownBlock <;> simp), h.ne, h.le, h.max, h.rng⟩

/-- The reader goes on. -/
theorem Rdr.put {w : World} {rb : Nat} {v : Value} {L : List Int} {k : Nat} (h : Rdr w rb v L k) (j : Nat) (hj : j ≤ L.length) : Rdr (w.setCell ⟨rb, 1, none⟩ (.int .i64 j)) rb v L j := by
  refine ⟨?_, h.own.kept (grownBy_setCell w rb 1 _) (.inr h.ne), h.ne, hj, h.max, h.rng⟩
  simp [World.setCell, Array.getElem?_modify, h.blk]

theorem Rdr.c0 {w : World} {rb : Nat} {v : Value} {L : List Int} {k : Nat} (h : Rdr w rb v L k) : w.cell? ⟨rb, 0, none⟩ = some v := by simp [World.cell?, h.blk]
theorem Rdr.c1 {w : World} {rb : Nat} {v : Value} {L : List Int} {k : Nat} (h : Rdr w rb v L k) : w.cell? ⟨rb, 1, none⟩ = some (.int .i64 k) := by simp [World.cell?, h.blk]
theorem Rdr.c2 {w : World} {rb : Nat} {v : Value} {L : List Int} {k : Nat} (h : Rdr w rb v L k) : w.cell? ⟨rb, 2, none⟩ = some (.bool true) := by simp [World.cell?, h.blk]
theorem Rdr.fr {w : World} {rb : Nat} {v : Value} {L : List Int} {k : Nat} (h : Rdr w rb v L k) (o : Nat) : w.frozen? ⟨rb, o, none⟩ = false := by simp [World.frozen?, h.blk]

/-- The form of the bytes' slice. -/
theorem Rdr.form {w : World} {rb : Nat} {v : Value} {L : List Int} {k : Nat} (h : Rdr w rb v L k) :
    (v = .slice none 0 0 ∧ L = []) ∨ ∃ g cap, v = .slice (some ⟨g, 0, none⟩) L.length cap ∧ L.length ≤ cap ∧ cap ≤ maxLen ∧ g ≠ rb ∧ g < w.heap.size ∧ ∀ j, j < L.length → w.cell? ⟨g, j, none⟩ = some (.int .u8 (L[j]?.getD 0)) := by
  rcases h.own.2 with ⟨rfl, hn⟩ | ⟨g, cap, cur, rfl, _, hg, hn, hm, hs, ht⟩
  · exact .inl ⟨rfl, List.eq_nil_of_length_eq_zero hn⟩
  · refine .inr ⟨g, cap, rfl, hn, hm, fun e => h.ne (by simp [Value.ownBlock, e]), (Array.getElem?_eq_some_iff.1 hg).1, fun j hj => ?_⟩
    have e1 : (cur.toList.take (L.length * 1))[j]? = (L.map encB)[j]? := by rw [ht]
    rw [List.getElem?_take, if_pos (by omega), Array.getElem?_toList, List.getElem?_map, List.getElem?_eq_getElem hj] at e1
    simp only [World.cell?, hg]
    simp only [Option.isSome_none, Bool.false_eq_true, if_false]
    rw [e1]
    simp [hj]

/-- A number read off bytes: what was gathered, how many bytes it took (0 beside an error), the error. -/
def rdN : Nat → Nat → List Int → Nat × Nat × Nat
  | n, _, [] => (n, 0, 110)
  | n, i, b :: bs =>
    if (b = 128 ∧ i = 0) ∨ 144115188075855871 < n then (n, 0, 111)
    else if b < 128 then (n * 128 + (b % 128).toNat, i + 1, 0)
    else rdN (n * 128 + (b % 128).toNat) (i + 1) bs

theorem and127b (x : Int) (h₀ : 0 ≤ x) (h₁ : x ≤ 255) : bits .and .u8 x 127 = x % 128 := bits_mask .u8 8 (by decide) wraps_u8 7 (by decide) x h₀ (by omega)
theorem or7 (x y : Int) (h₀ : 0 ≤ x) (h₁ : x ≤ 144115188075855871) (h2 : 0 ≤ y) (h3 : y < 128) : bits .or .u64 (x * 128) y = x * 128 + y :=
  bits_join .u64 64 (by decide) wraps_u64 7 (x * 128) y (by omega) (by omega) (by omega) h2 (by omega) (by omega)

theorem drop_at {L : List Int} {j : Nat} (h : j < L.length) : L.drop j = L[j]?.getD 0 :: L.drop (j + 1) := by
  rw [List.drop_eq_getElem_cons h]; simp [h]
theorem rng_at {L : List Int} (h : ∀ x ∈ L, 0 ≤ x ∧ x ≤ 255) (j : Nat) : 0 ≤ L[j]?.getD 0 ∧ L[j]?.getD 0 ≤ 255 := by
  by_cases hj : j < L.length
  · rw [List.getElem?_eq_getElem hj]; exact h _ (List.getElem_mem hj)
  · rw [List.getElem?_eq_none (by omega)]; simp

theorem ret2_num {k l : IntKind} {a b c d : Int} (h : a = b) (h' : c = d) : Ending.returned (.tuple #[.int k a, .int l c]) = .returned (.tuple #[.int k b, .int l d]) := by rw [h, h']
theorem num_eq {k : IntKind} {a b : Int} (h : a = b) : Value.int k a = .int k b := by rw [h]

set_option maxHeartbeats 1600000 in
set_option maxRecDepth 1000000 in
/-- Where nothing is left. -/
theorem number_end (w : World) (rb : Nat) (v : Value) (L : List Int) (k : Nat) (h : Rdr w rb v L k) (hk0 : k = L.length) :
    Calls Try.prog 75 #[rp rb] w fun e w' => e = .returned (.tuple #[.int .u64 0, .int .i64 110]) ∧ ∃ n, w' = w.drewN n := by
  have h0 := h.c0
  have h1 := h.c1
  have hx := h.max
  rcases h.form with ⟨rfl, rfl⟩ | ⟨g, cap, rfl, hc1, hc2, hgr, hgs, hcell⟩
  · obtain rfl : k = 0 := by simpa using hk0
    clear hk0
    go_enter Try.func75, Try.ntmps75
    go_wp2; go_step3; go_wp2; go_step3; go_wp2
    go_quiet (fail)
    go_wp2
    go_loop [4, 5, 18] (fun x e i => x = .int .u64 0 ∧ e = .int .i64 110 ∧ i = .int .i64 0) (fun _ _ _ => 0)
    case atStart => exact ⟨rfl, rfl, rfl⟩
    case round =>
      obtain ⟨rfl, rfl, rfl⟩ := hrel
      go_wp2
      go_ret2
      exact ⟨rfl, _, rfl⟩
  · unfold maxLen at hc2
    subst hk0
    clear hcell
    go_enter Try.func75, Try.ntmps75
    go_wp2; go_step3; go_wp2; go_step3; go_wp2
    go_quiet (fail)
    go_wp2
    all_goals
      go_loop [4, 5, 18] (fun x e i => x = .int .u64 0 ∧ e = .int .i64 110 ∧ i = .int .i64 0) (fun _ _ _ => 0)
      case atStart => exact ⟨rfl, rfl, rfl⟩
      case round =>
        obtain ⟨rfl, rfl, rfl⟩ := hrel
        go_wp2
        go_ret2
        exact ⟨rfl, _, rfl⟩

set_option maxHeartbeats 1600000 in
set_option maxRecDepth 1000000 in
theorem number_more (w : World) (rb : Nat) (v : Value) (L : List Int) (k : Nat) (h : Rdr w rb v L k) (hk0 : k < L.length) :
    Calls Try.prog 75 #[rp rb] w fun e w' => e = .returned (.tuple #[.int .u64 (rdN 0 0 (L.drop k)).1, .int .i64 (rdN 0 0 (L.drop k)).2.2]) ∧
      ∃ n, w' = w.drewN n ∧ (rdN 0 0 (L.drop k)).2.1 = 0 ∨ w' = (w.drewN n).setCell ⟨rb, 1, none⟩ (.int .i64 ((k + (rdN 0 0 (L.drop k)).2.1 : Nat) : Int)) := by
  have h0 := h.c0
  have h1 := h.c1
  have hf := h.fr 1
  have hx := h.max
  have hr := rng_at h.rng
  rcases h.form with ⟨rfl, rfl⟩ | ⟨g, cap, rfl, hc1, hc2, hgr, hgs, hcell⟩
  · simp at hk0
  · unfold maxLen at hc2
    have hck : ¬ cap = k := by omega
    have HC : Hid (∀ j, j < L.length → w.cell? ⟨g, j, none⟩ = some (.int .u8 (L[j]?.getD 0))) := hcell
    have HR : Hid (∀ j : Nat, 0 ≤ L[j]?.getD 0 ∧ L[j]?.getD 0 ≤ 255) := hr
    clear hcell hr
    go_enter Try.func75, Try.ntmps75
    go_wp2; go_step3; go_wp2; go_step3; go_wp2
    go_quiet (fail)
    go_wp2
    go_loop [4, 5, 18] (fun x e i => ∃ (n j : Nat), j ≤ L.length - k ∧ n < 18446744073709551616 ∧ x = .int .u64 n ∧ e = .int .i64 110 ∧ i = .int .i64 j ∧ rdN n j (L.drop (k + j)) = rdN 0 0 (L.drop k)) (fun _ _ i => L.length - (RowKit.intOf i).toNat)
    case atStart => exact ⟨0, 0, by omega, by omega, rfl, rfl, rfl, rfl⟩
    case round =>
      obtain ⟨n, j, hj, hn, rfl, rfl, rfl, heq⟩ := hrel
      have HE : Hid (rdN n j (L.drop (k + j)) = rdN 0 0 (L.drop k)) := heq
      clear heq
      by_cases hlt : j < L.length - k
      · have hcj := HC.out (k + j) (by omega)
        have hrj := HR.out (k + j)
        obtain ⟨b, hb⟩ : ∃ b, b = L[k + j]?.getD 0 := ⟨_, rfl⟩
        rw [← hb] at hcj hrj
        have HB : Hid (L.drop (k + j) = b :: L.drop (k + j + 1)) := by rw [hb]; exact drop_at (by omega)
        clear hb
        by_cases hbad : (b = 128 ∧ j = 0) ∨ 144115188075855871 < n
        · have hv : rdN 0 0 (L.drop k) = (n, 0, 111) := by rw [← HE.out, HB.out]; simp only [rdN]; rw [if_pos hbad]
          have HV : Hid (rdN 0 0 (L.drop k) = (n, 0, 111)) := hv
          clear hv HE HB
          rcases hbad with ⟨rfl, rfl⟩ | hbig
          · simp only [Nat.add_zero] at hcj
            go_wp2
            try rw [Exit.noGoto_ret]
            go_ret2
            rw [HV.out]
            exact ⟨rfl, _, .inl ⟨rfl, rfl⟩⟩
          · by_cases hb128 : b = 128 ∧ j = 0
            · obtain ⟨rfl, rfl⟩ := hb128
              simp only [Nat.add_zero] at hcj
              go_wp2
              try rw [Exit.noGoto_ret]
              go_ret2
              rw [HV.out]
              exact ⟨rfl, _, .inl ⟨rfl, rfl⟩⟩
            · go_wp2
              all_goals
                try rw [Exit.noGoto_ret]
                go_ret2
                rw [HV.out]
                exact ⟨rfl, _, .inl ⟨rfl, rfl⟩⟩
        · have hn57 : n ≤ 144115188075855871 := by omega
          by_cases hs : b < 128
          · have ha := and127b b hrj.1 hrj.2
            have ho := or7 n (b % 128) (by omega) (by omega) (by omega) (by omega)
            have hb128 : ¬ b = 128 := by omega
            have hv : rdN 0 0 (L.drop k) = (n * 128 + (b % 128).toNat, j + 1, 0) := by rw [← HE.out, HB.out]; simp only [rdN]; rw [if_neg hbad, if_pos hs]
            have HV : Hid (rdN 0 0 (L.drop k) = (n * 128 + (b % 128).toNat, j + 1, 0)) := hv
            clear hv HE HB hbad
            go_wp2
            try rw [Exit.noGoto_ret]
            go_ret2
            rw [HV.out]
            refine ⟨ret2_num (by simp; omega) rfl, nq, .inr ?_⟩
            simp only []
            congr 2
          · have hv : rdN (n * 128 + (b % 128).toNat) (j + 1) (L.drop (k + (j + 1))) = rdN 0 0 (L.drop k) := by rw [← HE.out, HB.out]; simp only [rdN]; rw [if_neg hbad, if_neg hs, Nat.add_assoc]
            have HV : Hid (rdN (n * 128 + (b % 128).toNat) (j + 1) (L.drop (k + (j + 1))) = rdN 0 0 (L.drop k)) := hv
            clear hv HE HB
            by_cases hb128 : b = 128
            · subst hb128
              have hj0 : ¬ j = 0 := by omega
              have ha : bits .and .u8 128 127 = 0 := by decide
              have hw0 : IntKind.u64.wrap 0 = 0 := by decide
              have ho : bits .or .u64 ((n : Int) * 128) 0 = (n : Int) * 128 := by simpa using or7 n 0 (by omega) (by omega) (by omega) (by omega)
              clear hbad
              go_wp2
              go_round
              case rel => exact ⟨n * 128 + ((128 : Int) % 128).toNat, j + 1, by omega, by omega, by go_num, rfl, by go_num, HV.out⟩
              case measure => simp [RowKit.intOf]; omega
            · have ha := and127b b hrj.1 hrj.2
              have ho := or7 n (b % 128) (by omega) (by omega) (by omega) (by omega)
              clear hbad
              go_wp2
              go_round
              case rel => exact ⟨n * 128 + (b % 128).toNat, j + 1, by omega, by omega, num_eq (by omega), rfl, by go_num, HV.out⟩
              case measure => simp [RowKit.intOf]; omega
      · go_wp2
        go_ret2
        have : rdN 0 0 (L.drop k) = (n, 0, 110) := by rw [← HE.out, List.drop_eq_nil_of_le (by omega)]; rfl
        rw [this]
        exact ⟨rfl, _, .inl ⟨rfl, rfl⟩⟩
end Go.Proofs.Ytanbnefdodkniaa
