/-
  strconv's decimal text of any number below 2^32; the program's groupText.
-/
import Derived.Test.YtmgbkcfocbbofabGreatDoorFmt
import Derived.Test.YtmgbkcfocbbofabGreatDoorRdp
import Derived.Laws.DeepStrings4
import Derived.Lib.ItoaLen
namespace Go.Proofs.YtmgbkcfocbbofabGreatDoor
open Go.RowKit Go.Lib Go.Sort

/-- The decimal text of n, without a sign. -/
def Dgs (n : Nat) (s : ByteArray) : Prop := plain s ∧ dec (bN s) = n

theorem dec_places (u : Nat) : ∀ (m : Nat) (l : List Nat), l.length = m → (∀ t, t < m → l[t]? = some (48 + u / 10 ^ (m - 1 - t) % 10)) → dec l = u % 10 ^ m
  | 0, l, hl, _ => by
    rw [List.length_eq_zero_iff.1 hl]
    simp [dec, Nat.mod_one]
  | m + 1, l, hl, h => by
    cases l with
    | nil => simp at hl
    | cons x l =>
      have h0 := h 0 (by omega)
      simp at h0
      have hl' : l.length = m := by simpa using hl
      have ih := dec_places u m l hl' (fun t ht => by
        have := h (t + 1) (by omega)
        rw [List.getElem?_cons_succ, show m + 1 - 1 - (t + 1) = m - 1 - t by omega] at this
        exact this)
      rw [dec_cons, ih, hl', h0, Nat.add_sub_cancel_left, Nat.mod_pow_succ, Nat.mul_comm]
      omega
theorem low_nDigits (u : Nat) : u = 0 ∨ 10 ^ (Lib.nDigits u - 1) ≤ u := by
  induction u using Nat.strongRecOn with
  | ind u ih =>
    by_cases h : u < 10
    · rw [Lib.nDigits_small h]
      rcases Nat.eq_zero_or_pos u with h0 | h0
      · exact .inl h0
      · exact .inr (by simp; omega)
    · rw [Lib.nDigits_big h]
      right
      rcases ih (u / 10) (by omega) with h0 | h0
      · omega
      · have hp := Lib.nDigits_pos (u / 10)
        rw [show Lib.nDigits (u / 10) + 1 - 1 = (Lib.nDigits (u / 10) - 1) + 1 by omega, Nat.pow_succ]
        omega
theorem dg_nat (u j : Nat) : (Lib.dg u j).toNat = 48 + u / 10 ^ j % 10 := by
  unfold Lib.dg
  have : u / 10 ^ j % 10 < 10 := Nat.mod_lt _ (by decide)
  rw [UInt8.toNat_ofNat']
  omega
/-- The digits that strconv lays are the number's. -/
theorem dgs_of {u v' : Nat} {dk : Array UInt8} (h0 : 0 < u) (h : FmtInv (Lib.nDigits u) u 0 v' dk) (s : ByteArray) (hs : s.data = dk) : Dgs u s := by
  have hsz : s.size = Lib.nDigits u := by rw [← h.size, ← hs]; rfl
  have hat : ∀ t, t < Lib.nDigits u → (bN s)[t]? = some (48 + u / 10 ^ (Lib.nDigits u - 1 - t) % 10) := fun t ht => by
    rw [bN_at s t (by omega), ← dg_nat, ← h.done t (by omega) ht]
    have hlt : t < dk.size := by rw [h.size]; exact ht
    rw [getElem!_pos dk t hlt]
    subst hs
    rfl
  have hlen : (bN s).length = Lib.nDigits u := by rw [bN_length, hsz]
  have hp := Lib.nDigits_pos u
  refine ⟨⟨fun b hb => ?_, by omega, ?_⟩, ?_⟩
  · obtain ⟨t, ht⟩ := List.mem_iff_getElem?.1 hb
    have hlt : t < (bN s).length := (List.getElem?_eq_some_iff.1 ht).1
    rw [hat t (by omega)] at ht
    have := Option.some.inj ht
    unfold isDig
    omega
  · right
    rw [List.head?_eq_getElem?, hat 0 (by omega)]
    simp only [Option.getD_some, Nat.sub_zero]
    rcases low_nDigits u with h1 | h1
    · omega
    · have h2 := Lib.lt_pow_nDigits u
      have h3 : u / 10 ^ (Lib.nDigits u - 1) < 10 := by
        rw [Nat.div_lt_iff_lt_mul (Nat.pow_pos (by decide)), Nat.mul_comm, ← Nat.pow_succ, show (Lib.nDigits u - 1).succ = Lib.nDigits u by omega]
        exact h2
      have h4 : 0 < u / 10 ^ (Lib.nDigits u - 1) := Nat.div_pos h1 (Nat.pow_pos (by decide))
      omega
  · rw [dec_places u (Lib.nDigits u) _ hlen hat, Nat.mod_eq_of_lt (Lib.lt_pow_nDigits u)]

abbrev lit36 : ByteArray := ⟨#[48, 49, 50, 51, 52, 53, 54, 55, 56, 57, 97, 98, 99, 100, 101, 102, 103, 104, 105, 106, 107, 108, 109, 110, 111, 112, 113, 114, 115, 116, 117, 118, 119, 120, 121, 122]⟩
abbrev lit200 : ByteArray := ⟨#[48, 48, 48, 49, 48, 50, 48, 51, 48, 52, 48, 53, 48, 54, 48, 55, 48, 56, 48, 57, 49, 48, 49, 49, 49, 50, 49, 51, 49, 52, 49, 53, 49, 54, 49, 55, 49, 56, 49, 57, 50, 48, 50, 49, 50, 50, 50, 51, 50, 52, 50, 53, 50, 54, 50, 55, 50, 56, 50, 57, 51, 48, 51, 49, 51, 50, 51, 51, 51, 52, 51, 53, 51, 54, 51, 55, 51, 56, 51, 57, 52, 48, 52, 49, 52, 50, 52, 51, 52, 52, 52, 53, 52, 54, 52, 55, 52, 56, 52, 57, 53, 48, 53, 49, 53, 50, 53, 51, 53, 52, 53, 53, 53, 54, 53, 55, 53, 56, 53, 57, 54, 48, 54, 49, 54, 50, 54, 51, 54, 52, 54, 53, 54, 54, 54, 55, 54, 56, 54, 57, 55, 48, 55, 49, 55, 50, 55, 51, 55, 52, 55, 53, 55, 54, 55, 55, 55, 56, 55, 57, 56, 48, 56, 49, 56, 50, 56, 51, 56, 52, 56, 53, 56, 54, 56, 55, 56, 56, 56, 57, 57, 48, 57, 49, 57, 50, 57, 51, 57, 52, 57, 53, 57, 54, 57, 55, 57, 56, 57, 57]⟩
instance (n : Nat) (s : ByteArray) : Decidable (Dgs n s) := by unfold Dgs; exact inferInstance
theorem lit36_dgs : ∀ n : Fin 10, Dgs n.1 (lit36.extract n.1 (n.1 + 1)) := by decide +kernel
theorem lit200_dgs : ∀ n : Fin 90, Dgs (n.1 + 10) (lit200.extract ((n.1 + 10) * 2) ((n.1 + 10) * 2 + 2)) := by decide +kernel
set_option maxHeartbeats 1600000 in
set_option maxRecDepth 1000000 in
theorem smallU_any (n : Nat) (h : n < 100) (w : World) :
    Calls Tryz.prog 103 #[.int .i64 n] w fun e w' => ∃ s, e = .returned (.string s) ∧ Dgs n s ∧ w' = w := by
  have h36 : lit36.size = 36 := rfl
  have h200 : lit200.size = 200 := rfl
  by_cases h1 : n < 10
  · have h1I : (n : Int) ≤ 9 := by omega
    have HD : Hid (Dgs n (lit36.extract n (n + 1))) := lit36_dgs ⟨n, h1⟩
    go_enter Tryz.func103, Tryz.ntmps103
    unfold lit36 at HD h36
    generalize (⟨#[48, 49, 50, 51, 52, 53, 54, 55, 56, 57, 97, 98, 99, 100, 101, 102, 103, 104, 105, 106, 107, 108, 109, 110, 111, 112, 113, 114, 115, 116, 117, 118, 119, 120, 121, 122]⟩ : ByteArray) = S at *
    go_wp2
    go_ret
    exact ⟨_, rfl, HD.out, rfl⟩
  · have h1I : (10 : Int) ≤ n := by omega
    have h2I : (n : Int) ≤ 99 := by omega
    have HD : Hid (Dgs n (lit200.extract (n * 2) (n * 2 + 2))) := (by
      have := lit200_dgs ⟨n - 10, by omega⟩
      simp only at this
      rw [show n - 10 + 10 = n by omega] at this
      exact this)
    go_enter Tryz.func103, Tryz.ntmps103
    go_wp2
    go_ret
    exact ⟨_, rfl, HD.out, rfl⟩

theorem replicate_holds (w : World) (m : Nat) (hm : m ≤ 24) : Holds encU (w.alloc (.cells Lib.zeros24 138)) w.heap.size 0 (Array.replicate m 0) := fun j hj => by
  have hj2 : j < m := by simpa using hj
  have hz : Lib.zeros24 = Array.replicate 24 (Value.int .u8 0) := rfl
  have e := heap_alloc_new w (Obj.cells Lib.zeros24 138)
  constructor
  · rw [getElem!_pos _ j hj]
    unfold World.cell?
    simp only [e]
    show Lib.zeros24[0 + j]? = _
    rw [hz, Nat.zero_add, Array.getElem?_replicate, if_pos (by omega)]
    simp
  · unfold World.frozen?
    simp only [e]
    simp
theorem str_push (l : List UInt8) : ∀ (r : ByteArray), l.foldl (fun r n => r.push n) r = ⟨r.data ++ l.toArray⟩ := by
  induction l with
  | nil => intro r; simp
  | cons x l ih =>
    intro r
    rw [List.foldl_cons, ih]
    congr 1
    show r.data.push x ++ l.toArray = _
    simp
theorem strOf_bytes (dk : Array UInt8) : strOf (dk.toList.map fun b => (b.toNat : Int)) = ⟨dk⟩ := by
  unfold strOf
  rw [List.foldl_map]
  have e : (fun (x : ByteArray) (y : UInt8) => x.push (UInt8.ofNat ((y.toNat : Int)).toNat)) = fun x y => x.push y := by
    funext x y
    simp
  rw [e, str_push]
  simp

set_option maxHeartbeats 1600000 in
set_option maxRecDepth 1000000 in
theorem fmtU_any (n : Nat) (hn : n < 4294967296) (w : World) (htab : Lib.TabIs Tryz.prog w "internal/strconv.uint64pow10" .u64 Lib.pow10Tab) :
    Calls Tryz.prog 89 #[.int .u64 n, .int .i64 10] w fun e w' => ∃ s, e = .returned (.string s) ∧ Dgs n s ∧ w.grownBy w' none := by
  by_cases h1 : n < 100
  · have h1I : (n : Int) ≤ 99 := by omega
    go_enter Tryz.func89, Tryz.ntmps89
    go_wp2_with fail
    refine (smallU_any n h1 _).mono ?_
    rintro e w' ⟨s, rfl, hs, rfl⟩
    have HS : Hid (Dgs n s) := hs
    clear hs
    go_wp2_with fail
    go_ret
    exact ⟨s, rfl, HS.out, World.grownBy.refl _ _⟩
  · have h1I : (100 : Int) ≤ n := by omega
    have hnI : (n : Int) ≤ 4294967295 := by omega
    have hnd : Lib.nDigits n ≤ 20 := Lib.nDigits_le20 n (by omega)
    have hlt := Lib.lt_pow_nDigits n
    have hDG := fun v' dk s h hs => dgs_of (u := n) (v' := v') (dk := dk) (by omega) h s hs
    obtain ⟨m, hm⟩ : ∃ m, Lib.nDigits n = m := ⟨_, rfl⟩
    rw [hm] at hnd hlt hDG
    have hmI : (m : Int) ≤ 20 := by omega
    have hal : Tryz.prog.arrayLen 138 = 24 := by simp [Program.arrayLen, Tryz.underlying138]
    have hsl : ∀ W, (Instr.sliceAt 138 (.pointer (some ⟨w.heap.size, 0, none⟩)) none (some (.int .i64 (m : Int))) none).run Tryz.prog W = .ok (.slice (some ⟨w.heap.size, 0, none⟩) m 24) W := fun W => by
      rw [run_sliceAt_array_h W 138 ⟨w.heap.size, 0, none⟩ (by simp [Program.arrayLen, Program.elem, Tryz.underlying138]) .i64 (m : Int) (by omega) (by rw [hal]; omega)]
      go_simp
    go_enter Tryz.func89, Tryz.ntmps89
    go_wp2_with fail
    refine (Tryz.internal_strconv_numDigits n (by omega) (by omega) _ (Lib.tabIs_alloc htab _)).mono ?_
    rw [hm]
    rintro e w' ⟨rfl, rfl⟩
    go_wp2_with fail
    have hH := replicate_holds w m (by omega)
    have hfb := Tryz.internal_strconv_formatBase10 w.heap.size 0 24 n (Array.replicate m 0) _ hH (by simpa using hlt) (by omega) (by simp; omega)
    simp only [Array.size_replicate] at hfb
    refine hfb.mono ?_
    rintro e w' ⟨rfl, k, v', dk, rfl, hF⟩
    have hsz : dk.size = m := hF.size
    have hdk := hDG v' dk ⟨dk⟩ hF rfl
    have hH2 := holds_putRow encU (w.alloc (.cells Lib.zeros24 138)) w.heap.size 0 (Array.replicate m 0) dk hH (by simp [hsz])
    have hcv := conv_src (w := (putRow encU (w.alloc (.cells Lib.zeros24 138)) w.heap.size 0 dk).drewN k) (s := .slice (some ⟨w.heap.size, 0, none⟩) m 24) (L := dk.toList.map fun b => (b.toNat : Int)) (.inr ⟨w.heap.size, 0, 24, (by simp [hsz]), fun j u hj => by
      have hjs : j < dk.size := by
        have := (List.getElem?_eq_some_iff.1 hj).1
        simpa using this
      have h := (hH2 j hjs).1
      rw [getElem!_pos dk j hjs] at h
      have hu : u = encU dk[j] := by
        rw [List.getElem?_map, List.getElem?_map, List.getElem?_eq_getElem (by simpa using hjs)] at hj
        simpa using hj.symm
      rw [hu]
      exact h⟩)
    rw [strOf_bytes] at hcv
    have HG : Hid (w.grownBy ((putRow encU (w.alloc (.cells Lib.zeros24 138)) w.heap.size 0 dk).drewN k) none) := grownBy_drewN (grownBy_new (grow1 _ _) (Nat.le_refl _) (grown_putRow _ _ _ _)) k
    have HD : Hid (Dgs n ⟨dk⟩) := hdk
    clear hF hH hH2 htab hdk hDG hfb
    generalize (putRow encU (w.alloc (.cells Lib.zeros24 138)) w.heap.size 0 dk).drewN k = w2 at *
    go_wp2_with fail
    go_ret
    exact ⟨_, rfl, HD.out, HG.out⟩

set_option maxHeartbeats 1600000 in
set_option maxRecDepth 1000000 in
theorem groupText_any (n : Nat) (hn : n < 4294967296) (w : World) (htab : Lib.TabIs Tryz.prog w "internal/strconv.uint64pow10" .u64 Lib.pow10Tab) :
    Calls Tryz.prog 35 #[.int .u32 n] w fun e w' => ∃ s, e = .returned (.string s) ∧ Dgs n s ∧ w.grownBy w' none := by
  have H : Hid (Calls Tryz.prog 89 #[.int .u64 n, .int .i64 10] w fun e w' => ∃ s, e = .returned (.string s) ∧ Dgs n s ∧ w.grownBy w' none) := fmtU_any n hn w htab
  have hnI : (n : Int) ≤ 4294967295 := by omega
  clear htab hn
  go_enter Tryz.func35, Tryz.ntmps35
  go_wp2_with fail
  go_enter Tryz.func63, Tryz.ntmps63
  go_wp2_with fail
  refine H.out.mono ?_
  rintro e w1 ⟨s, rfl, hs, hg⟩
  have HS : Hid (Dgs n s ∧ w.grownBy w1 none) := ⟨hs, hg⟩
  clear hs hg
  go_wp2_with fail
  go_ret
  exact ⟨s, rfl, HS.out.1, HS.out.2⟩
end Go.Proofs.YtmgbkcfocbbofabGreatDoor
