/-
  The program's Text.
-/
import Derived.Test.YtkimgmgafkihaaaDoorRoo
import Derived.Lib.SmallJoins
import Derived.Lib.ItoaLen
namespace Go.Proofs.YtkimgmgafkihaaaDoor
open Go.RowKit Go.Lib Go.Sort
set_option linter.unusedVariables false
set_option linter.unusedSimpArgs false
set_option maxHeartbeats 3200000
set_option maxRecDepth 1000000
abbrev Tab (w : World) : Prop := Lib.TabIs Tryd.prog w "internal/strconv.uint64pow10" .u64 Lib.pow10Tab
theorem Tab.kept {w w' : World} (h : Tab w) (hb : w.grownBy w' none) : Tab w' :=
  Joins.tab_stays (g := 0) (by kernel_rfl) h (below_of_grownBy hb) (Nat.le_refl _)
theorem grown_grow (w : World) (os : Array Obj) : w.grownBy (grow w os) none :=
  ⟨rfl, rfl, rfl, by simp [grow], fun k hk _ => by simp [grow, Array.getElem?_append_left hk]⟩
theorem itoa_any (n : Int) (h : -64 ≤ n ∧ n ≤ 64) (w : World) (ht : Tab w) :
    Calls Tryd.prog 33 #[.int .i64 n] w fun e w' => e = .returned (.string ⟨(Lib.itoa n).toArray⟩) ∧ w.grownBy w' none := by
  refine (Tryd.strconv_Itoa n (by omega) (by omega) w ht).mono ?_
  rintro e w' ⟨rfl, k, os, rfl⟩
  exact ⟨rfl, grownBy_trans (grownBy_drewN (grow0 w) k) (grown_grow _ _)⟩
def itB (n : Int) : ByteArray := ⟨(Lib.itoa n).toArray⟩
def txB (L : List Int) : ByteArray := if L.length = 0 then ⟨#[46]⟩ else ⟨(Lib.join (L.map Lib.itoa) [32]).toArray⟩
def SB (w : World) (g : Nat) (xs : List ByteArray) : Prop := w.heap[g]? = some (.cells (xs.map Value.string).toArray 9 (0, 0))
theorem SB.cell {w : World} {g : Nat} {xs : List ByteArray} (h : SB w g xs) (j : Nat) (x : ByteArray) (hx : xs[j]? = some x) : w.cell? ⟨g, j, none⟩ = some (.string x) := by
  unfold SB at h
  simp [World.cell?, h, hx]
theorem SB.fr {w : World} {g : Nat} {xs : List ByteArray} (h : SB w g xs) (j : Nat) : w.frozen? ⟨g, j, none⟩ = false := by
  unfold SB at h
  simp [World.frozen?, h]
theorem SB.set {w : World} {g : Nat} {xs : List ByteArray} (h : SB w g xs) (j : Nat) (x : ByteArray) : SB (w.setCell ⟨g, j, none⟩ (.string x)) g (xs.set j x) := by
  unfold SB at *
  simp [World.setCell, Array.getElem?_modify, h, List.map_set]
theorem SB.kept {w w' : World} {g : Nat} {xs : List ByteArray} (h : SB w g xs) (hg : w.grownBy w' none) : SB w' g xs :=
  (hg.block g (Array.getElem?_eq_some_iff.1 h).1 (by simp)).trans h
theorem Tryd.infoS : (Tryd.prog.info? 9).map (fun i => (i.zero, i.size, i.bytes)) = some (some (.string ⟨#[]⟩), 1, 16) := by kernel_rfl
theorem make_texts (w : World) (n : Nat) (hn : n ≤ 1000000) : (Instr.makeSlice 64 (.int .i64 (n : Int)) (.int .i64 (n : Int))).run Tryd.prog w = .ok (.slice (some ⟨w.heap.size, 0, none⟩) n n) (w.alloc (.cells ((List.replicate n (⟨#[]⟩ : ByteArray)).map Value.string).toArray 9)) := by
  obtain ⟨i0, hi, hz0, hz1, hz2⟩ := info_parts Tryd.infoS
  have hr := run_make (P := Tryd.prog) w 64 9 i0 (.string ⟨#[]⟩) Tryd.underlying64 hi hz0 .i64 .i64 n n (by omega) (by omega) (by rw [hz2]; omega) (by omega)
  rw [hr, Int.toNat_natCast, hz1]
  have e : madeCells (Value.string ⟨#[]⟩).cells (n * 1) = ((List.replicate n (⟨#[]⟩ : ByteArray)).map Value.string).toArray := by
    apply Array.ext
    · simp [madeCells]
    · intro i h1 h2
      simp [madeCells, Value.cells, Nat.mod_one]
  rw [e]
theorem join_len (xs : List (List UInt8)) (h : ∀ x ∈ xs, x.length ≤ 21) : (Lib.join xs [32]).length ≤ 22 * xs.length := by
  induction xs with
  | nil => simp [Lib.join, List.intercalate]
  | cons a l ih =>
    cases l with
    | nil =>
      have := h a (by simp)
      simp [Lib.join, List.intercalate]
      omega
    | cons b l =>
      have h1 := h a (by simp)
      have h2 := ih (fun x hx => h x (by simp at hx ⊢; exact .inr hx))
      simp only [Lib.join, List.intercalate, List.intersperse, List.flatten_cons, List.length_append, List.length_cons, List.length_nil] at h2 ⊢
      omega
theorem text_top (w : World) (v : Value) (L : List Int) (h : Ints w v L) (hl : L.length ≤ 1000000000000) (ht : Tab w) :
    Calls Tryd.prog 19 #[v] w fun e w' => w.grownBy w' none ∧ e = .returned (.tuple #[.string (if chk [L] = 0 then txB L else ⟨#[]⟩), .int .i64 (chk [L])]) := by
  have HC := checked_one w v L h hl
  have HT : Hid (Tab w) := ht
  have HI : Hid (∀ w1, w.grownBy w1 none → Ints w1 v L) := fun w1 hg => h.kept hg
  have HOk : Hid (chk [L] = 0 → L.any noL = false ∧ L.length ≤ 4096) := fun h0 => chk_ok h0 L (by simp)
  obtain ⟨ab, c, rfl, HR⟩ := h.reads
  have HR1 : Hid (∀ w', w.grownBy w' none → ∀ i, i < L.length → ∃ B off, ab = some ⟨B, off, none⟩ ∧ w'.cell? ⟨B, off + i, none⟩ = some (.int .i64 (L[i]?.getD 0)) ∧ L.length ≤ c) := HR
  clear h HR ht
  obtain ⟨r, hr⟩ : ∃ r, chk [L] = r := ⟨_, rfl⟩
  rw [hr] at HC HOk ⊢
  clear hr
  by_cases h0 : r = 0
  · subst h0
    have hL := HOk.out rfl
    have HLn : Hid (∀ x ∈ L, noL x = false) := fun x hx => by simpa using List.any_eq_false.1 hL.1 x hx
    obtain ⟨n, hn⟩ : ∃ n, L.length = n := ⟨_, rfl⟩
    have HN : Unit → L.length = n := fun _ => hn
    have hnI : (n : Int) ≤ 4096 := by have := hL.2; omega
    have HTx : Hid (txB L = if n = 0 then ⟨#[46]⟩ else ⟨(Lib.join (L.map Lib.itoa) [32]).toArray⟩) := by
      show _ = _
      unfold txB
      rw [hn]
    rw [hn] at HR1 HI HC ⊢
    clear hn hL HOk
    by_cases hn0 : n = 0
    · subst hn0
      go_enter Tryd.func19, Tryd.ntmps19
      go_wp2_with fail
      refine HC.mono ?_
      rintro e w1 ⟨rfl, hg1⟩
      have HG1 : Hid (w.grownBy w1 none) := hg1
      clear hg1
      go_wp2_with fail
      go_ret2
      refine ⟨HG1.out, ?_⟩
      rw [HTx.out]
      rfl
    · have hnb : ((n : Int) == 0) = false := by simpa using (show (n : Int) ≠ 0 by omega)
      have HN0 : Hid (¬ n = 0) := hn0
      clear hn0
      go_enter Tryd.func19, Tryd.ntmps19
      go_wp2_with fail
      refine HC.mono ?_
      rintro e w1 ⟨rfl, hg1⟩
      have HG1 : Hid (w.grownBy w1 none) := hg1
      have hmk := make_texts w1 n (by omega)
      have HS0 : Hid (SB (w1.alloc (.cells ((List.replicate n (⟨#[]⟩ : ByteArray)).map Value.string).toArray 9)) w1.heap.size (List.replicate n ⟨#[]⟩)) := heap_alloc_new _ _
      have HG2 : Hid (w.grownBy (w1.alloc (.cells ((List.replicate n (⟨#[]⟩ : ByteArray)).map Value.string).toArray 9)) none) := grownBy_trans hg1 (grow1 _ _)
      have hsz : w.heap.size ≤ w1.heap.size := hg1.size
      generalize w1.alloc (.cells ((List.replicate n (⟨#[]⟩ : ByteArray)).map Value.string).toArray 9) = w2 at *
      clear hg1
      go_wp2_with fail
      go_loopw [22] (fun s wr => ∃ (i : Nat) (xs : List ByteArray), i ≤ n ∧ s = .int .i64 i ∧ (xs.length = n ∧ ∀ j, j < i → xs[j]?.getD ⟨#[]⟩ = itB (L[j]?.getD 0)) ∧ SB wr w1.heap.size xs ∧ w.grownBy wr none) (fun s _ => match s with | .int _ i => n - i.toNat | _ => 0)
      case atStart => exact ⟨0, _, by omega, rfl, ⟨by simp, fun j hj => by omega⟩, HS0.out, HG2.out⟩
      case round =>
        obtain ⟨i, xs, hi, rfl, hxs, hS, hG⟩ := hrel
        have HX : Hid (xs.length = n ∧ ∀ j, j < i → xs[j]?.getD ⟨#[]⟩ = itB (L[j]?.getD 0)) := hxs
        have HS : Hid (SB wr w1.heap.size xs) := hS
        have HG : Hid (w.grownBy wr none) := hG
        clear hxs hS hG
        by_cases hlt : i < n
        · obtain ⟨B, off, rfl, hc, hnc⟩ := HR1.out wr HG.out i hlt
          have hlt' : i < L.length := by rw [HN ()]; exact hlt
          have hxn := noL_no (HLn.out _ (List.getElem_mem hlt'))
          have hx : L[i]?.getD 0 = L[i] := by rw [List.getElem?_eq_getElem hlt']; rfl
          rw [← hx] at hxn
          have HIt := itoa_any (L[i]?.getD 0) ⟨hxn.2.1, hxn.2.2⟩ wr (HT.out.kept HG.out)
          have HNx : Hid (∀ wn, wr.grownBy wn none → wn.cell? ⟨w1.heap.size, i, none⟩ = some (.string (xs[i]?.getD ⟨#[]⟩)) ∧ wn.frozen? ⟨w1.heap.size, i, none⟩ = false ∧ SB (wn.setCell ⟨w1.heap.size, i, none⟩ (.string ⟨(Lib.itoa (L[i]?.getD 0)).toArray⟩)) w1.heap.size (xs.set i (itB (L[i]?.getD 0)))) := by
            intro wn hg
            have hs := HS.out.kept hg
            refine ⟨hs.cell i _ ?_, hs.fr i, hs.set i _⟩
            rw [List.getElem?_eq_getElem (by rw [HX.out.1]; exact hlt)]
            rfl
          have HX2 : Hid ((xs.set i (itB (L[i]?.getD 0))).length = n ∧ ∀ j, j < i + 1 → (xs.set i (itB (L[i]?.getD 0)))[j]?.getD ⟨#[]⟩ = itB (L[j]?.getD 0)) := by
            refine ⟨by rw [List.length_set]; exact HX.out.1, fun j hj => ?_⟩
            rw [List.getElem?_set]
            by_cases e : i = j
            · subst e
              rw [if_pos rfl, if_pos (by rw [HX.out.1]; exact hlt)]
              rfl
            · rw [if_neg e]
              exact HX.out.2 j (by omega)
          have hltI : (i : Int) < n := by omega
          clear hx hxn
          generalize itB (L[i]?.getD 0) = tt at *
          generalize hxx : L[i]?.getD 0 = x at *
          clear hxx
          go_wp2_with fail
          refine HIt.mono ?_
          rintro e wn ⟨rfl, hgn⟩
          obtain ⟨k1, k2, k3⟩ := HNx.out wn hgn
          have HK3 : Hid (SB (wn.setCell ⟨w1.heap.size, i, none⟩ (.string ⟨(Lib.itoa x).toArray⟩)) w1.heap.size (xs.set i tt)) := k3
          have HGn : Hid (w.grownBy (wn.setCell ⟨w1.heap.size, i, none⟩ (.string ⟨(Lib.itoa x).toArray⟩)) none) := grown_set (grownBy_trans HG.out hgn) hsz
          clear k3 hgn
          go_wp2_with fail
          go_roundw
          case rel => exact ⟨i + 1, _, by omega, num_eq (by omega), HX2.out, HK3.out, HGn.out⟩
          case measure => simp; omega
        · have e : i = n := by omega
          subst e
          have HXe : Hid (xs = L.map itB) := by
            apply List.ext_getElem (by rw [HX.out.1, List.length_map, HN ()])
            intro j h1 h2
            have := HX.out.2 j (by rw [HX.out.1] at h1; exact h1)
            rw [List.getElem?_eq_getElem h1, List.getElem?_eq_getElem (by simpa using h2)] at this
            simpa using this
          have hS := HS.out
          have hJ := Tryd.strings_Join w1.heap.size 0 i xs ⟨#[32]⟩ wr (fun j x hx => by rw [Nat.zero_add]; exact hS.cell j x hx) (Array.getElem?_eq_some_iff.1 hS).1 (by rw [HX.out.1]; omega) (by rw [HX.out.1]; omega) (by
            rw [HXe.out, List.map_map]
            have := join_len (L.map Lib.itoa) (fun x hx => by
              obtain ⟨y, hy, rfl⟩ := List.mem_map.1 hx
              have := noL_no (HLn.out y hy)
              exact Lib.itoa_length_le y (by omega) (by omega))
            rw [List.length_map, HN ()] at this
            have e2 : (L.map ((fun x : ByteArray => x.data.toList) ∘ itB)) = L.map Lib.itoa := by
              apply List.map_congr_left
              intro y _
              rfl
            rw [e2]
            show (Lib.join (L.map Lib.itoa) [32]).length ≤ _
            omega)
          have e2 : xs.map (fun x : ByteArray => x.data.toList) = L.map Lib.itoa := by
            rw [HXe.out, List.map_map]
            apply List.map_congr_left
            intro y _
            rfl
          rw [e2, HX.out.1] at hJ
          clear hS e2
          go_wp2_with fail
          refine hJ.mono ?_
          rintro e w3 ⟨rfl, hB⟩
          have HG3 : Hid (w.grownBy w3 none) := grownBy_trans HG.out (grownBy_of_below hB)
          clear hB
          go_wp2_with fail
          go_ret2
          refine ⟨HG3.out, ?_⟩
          rw [HTx.out, if_neg HN0.out]
          rfl
  · have hb : (r != 0) = true := by simpa using h0
    have HR : Hid (r ≠ 0) := h0
    clear h0
    go_enter Tryd.func19, Tryd.ntmps19
    go_wp2_with fail
    refine HC.mono ?_
    rintro e w' ⟨rfl, hg1⟩
    have HG1 : Hid (w.grownBy w' none) := hg1
    clear hg1
    go_wp2_with fail
    go_ret2
    exact ⟨HG1.out, rfl⟩
end Go.Proofs.YtkimgmgafkihaaaDoor
