/-
  Lists of whole numbers: may they all be? The program's checkAll, the laws' bad.
  The program's short, divShort, gcdWords, gcd of short numbers.
  The document's product of numbers.
  The document's sum of numbers.
  The document's sum of numbers of unlike signs.
  The document's sum of numbers of unlike signs: the walks.
  The document's sums, differences and products as whole numbers of Lean.
  The program's Sum of numbers that may be.
-/
import Derived.Test.YtdfliaogmlpefaaGreatDoorBunWds
import Derived.Test.YtdfliaogmlpefaaGreatDoorBunPrd
import Derived.Test.YtdfliaogmlpefaaGreatDoorBunMor
namespace Go.Proofs.YtdfliaogmlpefaaGreatDoor
open Go.RowKit Go.Lib Go.Sort
set_option maxHeartbeats 3200000
set_option maxRecDepth 1000000
def DW (w : World) (v : Value) (l : List (Bool × ByteArray)) : Prop :=
  ∃ B off c, v = .slice (some ⟨B, off, none⟩) l.length c ∧ l.length ≤ c ∧ ∀ j p, l[j]? = some p → w.cell? ⟨B, off + j * 2, none⟩ = some (.bool p.1) ∧ w.cell? ⟨B, off + j * 2 + 1, none⟩ = some (.string p.2)
theorem DW.kept {w w' : World} {v : Value} {l : List (Bool × ByteArray)} (h : DW w v l) (hg : w.grownBy w' none) : DW w' v l := by
  obtain ⟨B, off, c, rfl, hc, h⟩ := h
  exact ⟨B, off, c, rfl, hc, fun j p hj => ⟨grownBy_cell hg (h j p hj).1 (by simp), grownBy_cell hg (h j p hj).2 (by simp)⟩⟩
def mayAll (l : List (Bool × ByteArray)) : Bool := l.all fun p => may p.1 p.2
theorem mayAll_take (l : List (Bool × ByteArray)) (k : Nat) (p : Bool × ByteArray) (h : l[k]? = some p) : mayAll (l.take (k + 1)) = (mayAll (l.take k) && may p.1 p.2) := by
  rw [List.take_add_one, h]
  simp [mayAll, List.all_append]
theorem checkAll_any (w : World) (v : Value) (l : List (Bool × ByteArray)) (h : DW w v l) (hl : l.length ≤ 1000000000) (hs : ∀ p ∈ l, p.2.size ≤ maxLen) :
    Calls Tryz.prog 103 #[v] w fun e w' => e = .returned (.int .i64 (if mayAll l = true then 0 else 2)) ∧ w.grownBy w' none := by
  obtain ⟨B, off, c, rfl, hc, h⟩ := h
  have HC : Hid (∀ j p, l[j]? = some p → w.cell? ⟨B, off + j * 2, none⟩ = some (.bool p.1) ∧ w.cell? ⟨B, off + j * 2 + 1, none⟩ = some (.string p.2)) := h
  obtain ⟨n, hn⟩ : ∃ n, l.length = n := ⟨_, rfl⟩
  have HN : Hid (l.length = n) := hn
  have HS : Hid (∀ p ∈ l, p.2.size ≤ maxLen) := hs
  rw [hn] at hc hl ⊢
  have hlI : (n : Int) ≤ 1000000000 := by omega
  obtain ⟨R, hR⟩ : ∃ R : Int, (if mayAll l = true then 0 else 2) = R := ⟨_, rfl⟩
  rw [hR]
  have HR1 : mayAll l = true → R = 0 := fun e => by rw [← hR, if_pos e]
  have HR2 : mayAll l = false → R = 2 := fun e => by rw [← hR, if_neg (by simp [e])]
  clear h hn hl hs hR
  go_enter Tryz.func103, Tryz.ntmps103
  go_wp2
  go_loopw [7] (fun s wr => ∃ k, k ≤ n ∧ s = .int .i64 k ∧ mayAll (l.take k) = true ∧ w.grownBy wr none) (fun s _ => n - (RowKit.intOf s).toNat)
  case atStart => exact ⟨0, by omega, rfl, rfl, World.grownBy.refl _ _⟩
  case round =>
    obtain ⟨k, hk, rfl, hm, hg⟩ := hrel
    have HM : Hid (mayAll (l.take k) = true) := hm
    have HG : Hid (w.grownBy wr none) := hg
    by_cases hk1 : k < n
    · have hkl : k < l.length := by have := HN.out; omega
      have hp : l[k]? = some l[k] := List.getElem?_eq_getElem hkl
      have hcs := HC.out k _ hp
      have hc1 := grownBy_cell hg hcs.1 (by simp)
      have hc2 := grownBy_cell hg hcs.2 (by simp)
      have hsz := HS.out l[k] (List.getElem_mem hkl)
      have HT : Hid (mayAll (l.take (k + 1)) = (mayAll (l.take k) && may l[k].1 l[k].2)) := mayAll_take l k _ hp
      have HL : Hid (mayAll l = false ∨ may l[k].1 l[k].2 = true) := by
        cases hb : may l[k].1 l[k].2
        · left
          have : mayAll l = false := by
            unfold mayAll
            rw [List.all_eq_false]
            exact ⟨l[k], List.getElem_mem hkl, by simp [hb]⟩
          exact this
        · right; rfl
      generalize l[k] = p at *
      obtain ⟨neg, mag⟩ := p
      clear hm hg hcs hp
      have hma := fun w => check_any neg mag hsz w
      cases hb : may neg mag
      · rw [chk_no hb] at hma
        have HMA : Hid (∀ w, Calls Tryz.prog 81 #[whole neg mag] w fun e w' => e = .returned (.int .i64 2) ∧ w' = w.alloc (wObj neg mag)) := hma
        have hml : R = 2 := by
          rcases HL.out with h | h
          · exact HR2 h
          · simp [hb] at h
        clear hma HR1 HR2
        go_wp2_with (go_at_call 81; refine (HMA.out _).mono ?_; rintro e w1 ⟨rfl, rfl⟩)
        go_ret
        exact ⟨ret_num (by rw [hml]), grownBy_trans HG.out (grow2 _ _ _)⟩
      · rw [chk_yes hb] at hma
        have HMA : Hid (∀ w, Calls Tryz.prog 81 #[whole neg mag] w fun e w' => e = .returned (.int .i64 0) ∧ w' = w.alloc (wObj neg mag)) := hma
        clear hma
        go_wp2_with (go_at_call 81; refine (HMA.out _).mono ?_; rintro e w1 ⟨rfl, rfl⟩)
        go_roundw
        case rel => exact ⟨k + 1, by omega, rfl, by rw [HT.out, HM.out, hb]; rfl, grownBy_trans HG.out (grow2 _ _ _)⟩
        case measure => simp [RowKit.intOf]; omega
    · obtain rfl : k = n := by omega
      have hml : R = 0 := by
        apply HR1
        have := HM.out
        rwa [← HN.out, List.take_length] at this
      clear hm hg HR1 HR2
      go_wp2
      go_ret
      exact ⟨ret_num (by rw [hml]), HG.out⟩
theorem grownBy_undrew {a b : World} {row : Option Nat} (h : a.drew.grownBy b row) : a.grownBy b row :=
  ⟨h.os, h.tape, h.output, h.size, fun i hi hn => h.block i hi hn⟩
theorem at_alloc3 (w : World) (a b c : Obj) : (((w.alloc a).alloc b).alloc c).heap[w.heap.size + 2]? = some c := by
  have h := heap_alloc_new ((w.alloc a).alloc b) c
  rw [World.size_alloc, World.size_alloc] at h
  exact h
theorem isSmall_seven {neg : Bool} {mag : ByteArray} (h : mag.size ≤ 7) : isSmall neg mag = true := by
  have h1 := val_lt (bN mag) (bN_rng mag)
  rw [bN_length] at h1
  have h2 : 256 ^ mag.size ≤ 256 ^ 7 := Nat.pow_le_pow_right (by decide) h
  have e : 256 ^ 7 = 72057594037927936 := by decide
  unfold isSmall
  rw [decide_eq_true (by omega), Bool.true_and]
  cases neg
  · simp only [Bool.false_eq_true, if_false]
    exact decide_eq_true (by omega)
  · simp only [if_true]
    exact decide_eq_true (by omega)
theorem small_seven (neg : Bool) (mag : ByteArray) (h : may neg mag = true) (h7 : mag.size ≤ 7) (w : World) :
    Calls Tryz.prog 143 #[whole neg mag] w fun e w' => e = .returned (.tuple #[.int .i64 (num neg mag), .bool true]) ∧ w.grownBy w' none := by
  have := small_yes neg mag h w
  rw [isSmall_seven h7, if_pos rfl] at this
  exact this
theorem short_yes (n1 n2 : Bool) (m1 m2 : ByteArray) (h1 : may n1 m1 = true) (h2 : may n2 m2 = true) (h8 : m1.size + m2.size ≤ 7) (w : World) :
    Calls Tryz.prog 100 #[whole n1 m1, whole n2 m2] w fun e w' => e = .returned (.tuple #[.int .i64 (num n1 m1), .int .i64 (num n2 m2), .bool true]) ∧ w.grownBy w' none := by
  have s1 := fun w => small_seven n1 m1 h1 (by omega) w
  have s2 := fun w => small_seven n2 m2 h2 (by omega) w
  have S1 : Hid (∀ w, Calls Tryz.prog 143 #[whole n1 m1] w fun e w' => e = .returned (.tuple #[.int .i64 (num n1 m1), .bool true]) ∧ w.grownBy w' none) := s1
  have S2 : Hid (∀ w, Calls Tryz.prog 143 #[whole n2 m2] w fun e w' => e = .returned (.tuple #[.int .i64 (num n2 m2), .bool true]) ∧ w.grownBy w' none) := s2
  clear s1 s2
  generalize num n1 m1 = x at *
  generalize num n2 m2 = y at *
  go_enter Tryz.func100, Tryz.ntmps100
  go_wp2_with fail
  refine (S1.out _).mono ?_
  rintro e w1 ⟨rfl, hg1⟩
  have hb2 : WBlk w1 (w.heap.size + 1) (.bool n2) (.string m2) := WBlk.kept (w := (w.alloc (wObj n1 m1)).alloc (wObj n2 m2)) (heap_alloc2_new _ _ _) hg1 (by simp)
  have hc0 := hb2.c0
  have hc1 := hb2.c1
  have HG1 : Hid (w.grownBy w1 none) := grownBy_trans (grow2 _ _ _) hg1
  clear hg1 hb2 S1
  go_wp2_with fail
  refine (S2.out _).mono ?_
  rintro e w2 ⟨rfl, hg2⟩
  have HG2 : Hid (w.grownBy w2 none) := grownBy_trans HG1.out hg2
  clear hg2 S2
  go_wp2_with fail
  go_ret3
  exact ⟨rfl, HG2.out⟩
theorem gcdWords_any (a b : Nat) (ha : a ≤ 18446744073709551615) (hb : b ≤ 18446744073709551615) (w : World) :
    Calls Tryz.prog 189 #[.int .u64 a, .int .u64 b] w fun e w' => e = .returned (.int .u64 ((Nat.gcd a b : Nat) : Int)) ∧ w.grownBy w' none := by
  obtain ⟨g, hg⟩ : ∃ g, Nat.gcd a b = g := ⟨_, rfl⟩
  rw [hg]
  have HG : Unit → Nat.gcd a b = g := fun _ => hg
  clear hg
  go_enter Tryz.func189, Tryz.ntmps189
  go_wp2
  go_loopw [0, 1] (fun s t wr => ∃ (x y : Nat), s = .int .u64 x ∧ t = .int .u64 y ∧ x ≤ 18446744073709551615 ∧ y ≤ 18446744073709551615 ∧ Nat.gcd x y = g ∧ w.grownBy wr none) (fun _ t _ => (RowKit.intOf t).toNat)
  case atStart => exact ⟨a, b, rfl, rfl, ha, hb, HG (), World.grownBy.refl _ _⟩
  case round =>
    obtain ⟨x, y, rfl, rfl, hx, hy, he, hgr⟩ := hrel
    have HE : Unit → Nat.gcd x y = g := fun _ => he
    have HGr : Hid (w.grownBy wr none) := hgr
    clear he hgr
    by_cases hy0 : y = 0
    · subst hy0
      have : x = g := by rw [← HE (), Nat.gcd_zero_right]
      subst this
      go_wp2
      go_ret
      exact ⟨rfl, HGr.out⟩
    · have hyI : (0 : Int) < y := by omega
      have hne : ((y : Int) == 0) = false := by rw [beq_eq_false_iff_ne]; omega
      go_wp2
      go_region
      go_wp2
      go_roundw
      case rel =>
        refine ⟨y, x % y, rfl, num_eq (by omega), hy, ?_, ?_, grow_drew HGr.out⟩
        · have := Nat.mod_lt x (show 0 < y by omega)
          omega
        · rw [← HE (), Nat.gcd_comm y, ← Nat.gcd_rec, Nat.gcd_comm]
      case measure =>
        have := Nat.mod_lt x (show 0 < y by omega)
        simp [RowKit.intOf]
        omega
theorem gcd_small (n1 n2 : Bool) (m1 m2 : ByteArray) (h1 : m1.size ≤ 8) (h2 : m2.size ≤ 8) (w : World) :
    Calls Tryz.prog 168 #[whole n1 m1, whole n2 m2] w fun e w' => ∃ s, e = .returned (whole false s) ∧ bN s = magN (Nat.gcd (val (bN m1)) (val (bN m2))) ∧ w.grownBy w' none := by
  have v1 := val_size h1
  have v2 := val_size h2
  have g0 := fun w => gcdWords_any (val (bN m1)) (val (bN m2)) (by omega) (by omega) w
  have hgl : Nat.gcd (val (bN m1)) (val (bN m2)) < 18446744073709551616 := by
    rcases Nat.eq_zero_or_pos (val (bN m1)) with h | h
    · rw [h, Nat.gcd_zero_left]; exact v2
    · exact Nat.lt_of_le_of_lt (Nat.gcd_le_left _ h) v1
  have mg := fun w => magOfWord_any (Nat.gcd (val (bN m1)) (val (bN m2))) hgl w
  have G0 : Hid (∀ w, Calls Tryz.prog 189 #[.int .u64 (val (bN m1)), .int .u64 (val (bN m2))] w fun e w' => e = .returned (.int .u64 ((Nat.gcd (val (bN m1)) (val (bN m2)) : Nat) : Int)) ∧ w.grownBy w' none) := g0
  have MG : Hid (∀ w, Calls Tryz.prog 99 #[.int .u64 ((Nat.gcd (val (bN m1)) (val (bN m2)) : Nat) : Int)] w fun e w' => ∃ s, e = .returned (.string s) ∧ bN s = magN (Nat.gcd (val (bN m1)) (val (bN m2))) ∧ w.grownBy w' none) := mg
  clear g0 mg v1 v2 hgl
  generalize Nat.gcd (val (bN m1)) (val (bN m2)) = g at *
  go_enter Tryz.func168, Tryz.ntmps168
  go_wp2_with fail
  have HKK : Hid (∀ w', ((w.alloc (wObj n1 m1)).alloc (wObj n2 m2)).grownBy w' none → w'.cell? ⟨w.heap.size, 1, none⟩ = some (Value.string m1) ∧ w'.cell? ⟨w.heap.size + 1, 1, none⟩ = some (Value.string m2) ∧ ((w.alloc (wObj n1 m1)).alloc (wObj n2 m2)).grownBy w' none) :=
    fun w' hg => ⟨grownBy_cell hg (WBlk.c1 (a := .bool n1) (old_alloc _ _ (heap_alloc_new _ _))) (by simp), grownBy_cell hg (WBlk.c1 (a := .bool n2) (heap_alloc2_new _ _ _)) (by simp), hg⟩
  go_region_held3 (fun w' => w'.cell? ⟨w.heap.size, 1, none⟩ = some (Value.string m1) ∧ w'.cell? ⟨w.heap.size + 1, 1, none⟩ = some (Value.string m2) ∧ ((w.alloc (wObj n1 m1)).alloc (wObj n2 m2)).grownBy w' none) (first | (go_keep; done) | exact HKK.out _ (grow_drew (grow1 _ _)) | exact HKK.out _ (grown_set (grown_set (grownBy_trans (grow1 _ _) GM) (by simp)) (by simp)) | exact HKK.out _ (grownBy_trans (grow1 _ _) GM) | exact HKK.out _ (grownBy_trans (grow1 _ _) GG) | fail) (first | (go_at_call 169; refine (wordOf_any _ (by first | exact h1 | exact h2) _).mono ?_; rintro e w' ⟨rfl, rfl⟩) | (go_at_call 189; refine (G0.out _).mono ?_; rintro e wG ⟨rfl, hgG⟩; have GG : ((((w.alloc (wObj n1 m1)).alloc (wObj n2 m2)).alloc (wObj false eS))).grownBy wG none := grownBy_undrew hgG) | (go_at_call 99; refine (MG.out _).mono ?_; rintro e wM ⟨s, rfl, hs, hgM⟩; have GM : ((((w.alloc (wObj n1 m1)).alloc (wObj n2 m2)).alloc (wObj false eS))).grownBy wM none := grownBy_trans GG hgM; have hW : WBlk wM (w.heap.size + 2) (.bool false) (.string eS) := WBlk.kept (w := (((w.alloc (wObj n1 m1)).alloc (wObj n2 m2)).alloc (wObj false eS))) (at_alloc3 _ _ _ _) GM (by simp); have hc0 := hW.c0; have hc1 := hW.c1; have hf0 := hW.fr 0; have hf1 := hW.fr 1) | fail)
  go_wp2_with fail
  refine bodyPost_ret (res_cell rfl _ _ (w.heap.size + 2) _ _ _ _ rfl (hW.put _ _)) rfl ?_
  exact ⟨s, rfl, hs, grown_set (grown_set (grownBy_trans (grow3 _ _ _ _) GM) (by omega)) (by omega)⟩
def Wds (w w' : World) (v : Value) (m : ByteArray) : Prop :=
  ∃ L, D4 w' v L ∧ (∀ x ∈ L, x < B32) ∧ L.length ≤ 4096 ∧ nv B32 L = val (bN m) ∧ w.grownBy w' none
theorem Wds.grown {w w' : World} {v : Value} {m : ByteArray} (h : Wds w w' v m) : w.grownBy w' none := by
  obtain ⟨_, _, _, _, _, hg⟩ := h
  exact hg
theorem words_wds (m : ByteArray) (hm : m.size ≤ 16384) (w : World) :
    Calls Tryz.prog 113 #[.string m] w fun e w' => ∃ v, e = .returned v ∧ Wds w w' v m := by
  refine (words_any m hm w).mono ?_
  rintro e w' ⟨B, L, rfl, _, hb, hg, hl, hr, hv⟩
  exact ⟨_, rfl, L, hb.d4, hr, by omega, hv, hg⟩
theorem prod_wds {w0 w1 w2 : World} {va vb : Value} {m1 m2 : ByteArray} (h1 : Wds w0 w1 va m1) (h2 : Wds w1 w2 vb m2) :
    Calls Tryz.prog 118 #[va, vb] w2 fun e w' => ∃ v, e = .returned v ∧ ∃ K, D4 w' v K ∧ (∀ x ∈ K, x < B32) ∧ K.length ≤ 8192 ∧ nv B32 K = val (bN m1) * val (bN m2) ∧ w2.grownBy w' none := by
  obtain ⟨A, dA, rA, lA, vA, gA⟩ := h1
  obtain ⟨B, dB, rB, lB, vB, gB⟩ := h2
  refine (product_any w2 va vb A B (dA.kept gB) dB rA rB (by omega) (by omega)).mono ?_
  rintro e w' ⟨v, K, rfl, dK, rK, vK, lK, _, gK⟩
  exact ⟨v, rfl, K, dK, rK, by omega, by rw [vK, vA, vB], gK⟩
theorem rTimes_any (n1 n2 : Bool) (m1 m2 : ByteArray) (h1 : m1.size ≤ 16384) (h2 : m2.size ≤ 16384) (w : World) :
    Calls Tryz.prog 76 #[whole n1 m1, whole n2 m2] w fun e w' => ∃ s, e = .returned (whole ((n1 != n2) && decide (val (bN m1) * val (bN m2) ≠ 0)) s) ∧ bN s = magN (val (bN m1) * val (bN m2)) ∧ w.grownBy w' none := by
  go_enter Tryz.func76, Tryz.ntmps76
  go_wp2_with fail
  have HKK : Hid (∀ w', ((w.alloc (wObj n1 m1)).alloc (wObj n2 m2)).grownBy w' none → w'.cell? ⟨w.heap.size, 0, none⟩ = some (Value.bool n1) ∧ w'.cell? ⟨w.heap.size, 1, none⟩ = some (Value.string m1) ∧ w'.cell? ⟨w.heap.size + 1, 0, none⟩ = some (Value.bool n2) ∧ w'.cell? ⟨w.heap.size + 1, 1, none⟩ = some (Value.string m2)) :=
    fun w' hg => ⟨grownBy_cell hg (WBlk.c0 (b := .string m1) (old_alloc _ _ (heap_alloc_new _ _))) (by simp), grownBy_cell hg (WBlk.c1 (a := .bool n1) (old_alloc _ _ (heap_alloc_new _ _))) (by simp), grownBy_cell hg (WBlk.c0 (b := .string m2) (heap_alloc2_new _ _ _)) (by simp), grownBy_cell hg (WBlk.c1 (a := .bool n2) (heap_alloc2_new _ _ _)) (by simp)⟩
  go_region_held3 (fun w' => w'.cell? ⟨w.heap.size, 0, none⟩ = some (Value.bool n1) ∧ w'.cell? ⟨w.heap.size, 1, none⟩ = some (Value.string m1) ∧ w'.cell? ⟨w.heap.size + 1, 0, none⟩ = some (Value.bool n2) ∧ w'.cell? ⟨w.heap.size + 1, 1, none⟩ = some (Value.string m2))
    (first | (go_keep; done) | exact HKK.out _ (grownBy_trans (grow1 _ _) (by assumption)) | exact HKK.out _ (grown_set (grown_set (grownBy_trans (grow1 _ _) GM) (by simp)) (by simp)) | exact HKK.out _ (grow_drew (grow1 _ _)) | fail)
    (first
      | (go_at_call 113; refine (words_wds _ (by first | exact h1 | exact h2) _).mono ?_; rintro e wA ⟨vA, rfl, hWA⟩; have GA : (((w.alloc (wObj n1 m1)).alloc (wObj n2 m2)).alloc (wObj false eS)).grownBy wA none := (by obtain ⟨_, _, _, _, _, hgA⟩ := hWA; first | exact grownBy_trans (by assumption) hgA | exact grownBy_undrew hgA | fail))
      | (go_at_call 118; refine (prod_wds (by assumption) (by assumption)).mono ?_; rintro e wP ⟨vP, rfl, K, hDK, hRK, hLK, hVK, hGK⟩; have GP : (((w.alloc (wObj n1 m1)).alloc (wObj n2 m2)).alloc (wObj false eS)).grownBy wP none := grownBy_trans (by assumption) hGK)
      | (go_at_call 95; refine (made_any (n1 != n2) _ _ K hDK hRK (by omega)).mono ?_; rw [hVK]; rintro e wM ⟨s, rfl, hs, hGM⟩; have GM : (((w.alloc (wObj n1 m1)).alloc (wObj n2 m2)).alloc (wObj false eS)).grownBy wM none := grownBy_trans GP hGM; have hW : WBlk wM (w.heap.size + 2) (.bool false) (.string eS) := WBlk.kept (at_alloc3 _ _ _ _) GM (by simp); have hc0 := hW.c0; have hc1 := hW.c1; have hf0 := hW.fr 0; have hf1 := hW.fr 1)
      | fail)
  go_wp2_with fail
  refine bodyPost_ret (res_cell rfl _ _ (w.heap.size + 2) _ _ _ _ rfl (hW.put _ _)) rfl ?_
  exact ⟨s, ret_val (by simp), hs, grown_set (grown_set (grownBy_trans (grow3 _ _ _ _) GM) (by omega)) (by omega)⟩
theorem more_wds {w0 w1 w2 : World} {va vb : Value} {m1 m2 : ByteArray} (h1 : Wds w0 w1 va m1) (h2 : Wds w1 w2 vb m2) (w3 : World) (hg3 : w2.grownBy w3 none) :
    Calls Tryz.prog 115 #[va, vb] w3 fun e w' => ∃ v, e = .returned v ∧ ∃ K, D4 w' v K ∧ (∀ x ∈ K, x < B32) ∧ K.length ≤ 8192 ∧ nv B32 K = val (bN m1) + val (bN m2) ∧ w3.grownBy w' none := by
  obtain ⟨A, dA, rA, lA, vA, gA⟩ := h1
  obtain ⟨B, dB, rB, lB, vB, gB⟩ := h2
  refine (more_any w3 va vb A B ((dA.kept gB).kept hg3) (dB.kept hg3) rA rB (by omega) (by omega)).mono ?_
  rintro e w' ⟨v, K, rfl, dK, rK, vK, lK, _, gK⟩
  exact ⟨v, rfl, K, dK, rK, by omega, by rw [vK, vA, vB], gK⟩
theorem rPlus_same (n : Bool) (m1 m2 : ByteArray) (h1 : m1.size ≤ 16384) (h2 : m2.size ≤ 16384) (w : World) :
    Calls Tryz.prog 72 #[whole n m1, whole n m2] w fun e w' => ∃ s, e = .returned (whole (n && decide (val (bN m1) + val (bN m2) ≠ 0)) s) ∧ bN s = magN (val (bN m1) + val (bN m2)) ∧ w.grownBy w' none := by
  go_enter Tryz.func72, Tryz.ntmps72
  go_wp2_with fail
  have HKK : Hid (∀ w', ((w.alloc (wObj n m1)).alloc (wObj n m2)).grownBy w' none → w'.cell? ⟨w.heap.size, 0, none⟩ = some (Value.bool n) ∧ w'.cell? ⟨w.heap.size, 1, none⟩ = some (Value.string m1) ∧ w'.cell? ⟨w.heap.size + 1, 0, none⟩ = some (Value.bool n) ∧ w'.cell? ⟨w.heap.size + 1, 1, none⟩ = some (Value.string m2)) :=
    fun w' hg => ⟨grownBy_cell hg (WBlk.c0 (b := .string m1) (old_alloc _ _ (heap_alloc_new _ _))) (by simp), grownBy_cell hg (WBlk.c1 (a := .bool n) (old_alloc _ _ (heap_alloc_new _ _))) (by simp), grownBy_cell hg (WBlk.c0 (b := .string m2) (heap_alloc2_new _ _ _)) (by simp), grownBy_cell hg (WBlk.c1 (a := .bool n) (heap_alloc2_new _ _ _)) (by simp)⟩
  go_region_held3 (fun w' => w'.cell? ⟨w.heap.size, 0, none⟩ = some (Value.bool n) ∧ w'.cell? ⟨w.heap.size, 1, none⟩ = some (Value.string m1) ∧ w'.cell? ⟨w.heap.size + 1, 0, none⟩ = some (Value.bool n) ∧ w'.cell? ⟨w.heap.size + 1, 1, none⟩ = some (Value.string m2))
    (first | (go_keep; done) | exact HKK.out _ (grownBy_trans (grow1 _ _) (by assumption)) | exact HKK.out _ (grow_drew (grow1 _ _)) | fail)
    (first
      | (go_at_call 113; refine (words_wds _ (by first | exact h1 | exact h2) _).mono ?_; rintro e wA ⟨vA, rfl, hWA⟩; have hgA := hWA.grown; have GA : (((w.alloc (wObj n m1)).alloc (wObj n m2)).alloc (wObj false eS)).grownBy wA none := (by first | exact grownBy_trans (by assumption) hgA | exact grownBy_undrew hgA | fail))
      | fail)
  obtain ⟨c0, c1, c2, c3⟩ := HKK.out _ (grownBy_trans (grow1 _ _) GA)
  go_wp2_with fail
  go_region_held3 (fun w' => w'.cell? ⟨w.heap.size, 0, none⟩ = some (Value.bool n) ∧ w'.cell? ⟨w.heap.size, 1, none⟩ = some (Value.string m1) ∧ w'.cell? ⟨w.heap.size + 1, 0, none⟩ = some (Value.bool n) ∧ w'.cell? ⟨w.heap.size + 1, 1, none⟩ = some (Value.string m2))
    (first | (go_keep; done) | exact HKK.out _ (grownBy_trans (grow1 _ _) (by assumption)) | exact HKK.out _ (grown_set (grown_set (grownBy_trans (grow1 _ _) GM) (by simp)) (by simp)) | fail)
    (first
      | (go_at_call 115; refine (more_wds (by assumption) (by assumption) _ (by first | exact grow_drew (World.grownBy.refl _ _) | exact World.grownBy.refl _ _ | fail)).mono ?_; rintro e wP ⟨vP, rfl, K, hDK, hRK, hLK, hVK, hGK⟩; have GP : (((w.alloc (wObj n m1)).alloc (wObj n m2)).alloc (wObj false eS)).grownBy wP none := (by first | exact grownBy_trans GA (grownBy_undrew hGK) | exact grownBy_trans GA hGK | fail))
      | (go_at_call 95; refine (made_any n _ _ K hDK hRK (by omega)).mono ?_; rw [hVK]; rintro e wM ⟨s, rfl, hs, hGM⟩; have GM : (((w.alloc (wObj n m1)).alloc (wObj n m2)).alloc (wObj false eS)).grownBy wM none := grownBy_trans GP hGM; have hW : WBlk wM (w.heap.size + 2) (.bool false) (.string eS) := WBlk.kept (at_alloc3 _ _ _ _) GM (by simp); have hc0 := hW.c0; have hc1 := hW.c1; have hf0 := hW.fr 0; have hf1 := hW.fr 1)
      | fail)
  go_wp2_with fail
  refine bodyPost_ret (res_cell rfl _ _ (w.heap.size + 2) _ _ _ _ rfl (hW.put _ _)) rfl ?_
  exact ⟨s, ret_val (by simp), hs, grown_set (grown_set (grownBy_trans (grow3 _ _ _ _) GM) (by omega)) (by omega)⟩
theorem words_trim {L : List Nat} {neg : Bool} {mag : ByteArray} (h : may neg mag = true) (hl : L.length = (mag.size + 3) / 4) (hr : ∀ x ∈ L, x < B32) (hv : nv B32 L = val (bN mag)) : Trim L := by
  by_cases hp : mag.size = 0
  · left; omega
  · right
    have h0 := may_head h (by omega)
    have h3 := val_head mag (by omega) h0
    obtain ⟨k, hk⟩ : ∃ k, L.length = k + 1 := ⟨L.length - 1, by omega⟩
    have h1 := nv_top B32 L k hk
    have h2 := nv_lt B32 (L.take k) (fun x hx => hr x (List.mem_of_mem_take hx))
    rw [List.length_take, Nat.min_eq_left (by omega)] at h2
    rw [hk, Nat.add_sub_cancel]
    intro hz
    rw [hz, Nat.mul_zero, Nat.add_zero] at h1
    rw [← hv, h1] at h3
    rw [show (256 : Nat) = 2 ^ 8 from rfl, ← Nat.pow_mul] at h3
    have h4 : B32 ^ k ≤ 2 ^ (8 * (mag.size - 1)) := by
      rw [show B32 = 2 ^ 32 from rfl, ← Nat.pow_mul]
      exact Nat.pow_le_pow_right (by decide) (by omega)
    omega
def WdT (w w' : World) (v : Value) (m : ByteArray) : Prop :=
  ∃ L, D4 w' v L ∧ (∀ x ∈ L, x < B32) ∧ L.length ≤ 4096 ∧ Trim L ∧ nv B32 L = val (bN m) ∧ w.grownBy w' none
theorem WdT.grown {w w' : World} {v : Value} {m : ByteArray} (h : WdT w w' v m) : w.grownBy w' none := by
  obtain ⟨_, _, _, _, _, _, hg⟩ := h
  exact hg
theorem words_wdt (neg : Bool) (m : ByteArray) (h : may neg m = true) (w : World) :
    Calls Tryz.prog 113 #[.string m] w fun e w' => ∃ v, e = .returned v ∧ WdT w w' v m := by
  have hm := may_size h
  refine (words_any m hm w).mono ?_
  rintro e w' ⟨B, L, rfl, _, hb, hg, hl, hr, hv⟩
  exact ⟨_, rfl, L, hb.d4, hr, by omega, words_trim h hl hr hv, hv, hg⟩
theorem under_wdt {w0 w1 w2 : World} {va vb : Value} {m1 m2 : ByteArray} (h1 : WdT w0 w1 va m1) (h2 : WdT w1 w2 vb m2) (w3 : World) (hg3 : w2.grownBy w3 none) :
    Calls Tryz.prog 117 #[va, vb] w3 fun e w' => e = .returned (.int .i64 (cmpN (val (bN m1)) (val (bN m2)))) ∧ w3.grownBy w' none := by
  obtain ⟨A, dA, rA, lA, tA, vA, gA⟩ := h1
  obtain ⟨B, dB, rB, lB, tB, vB, gB⟩ := h2
  rw [← vA, ← vB]
  exact under_any w3 va vb A B ((dA.kept gB).kept hg3) (dB.kept hg3) rA rB tA tB (by omega) (by omega)
theorem less_wdt {w0 w1 w2 : World} {va vb : Value} {m1 m2 : ByteArray} (h1 : WdT w0 w1 va m1) (h2 : WdT w1 w2 vb m2) (hle : val (bN m2) ≤ val (bN m1)) (w3 : World) (hg3 : w2.grownBy w3 none) :
    Calls Tryz.prog 119 #[va, vb] w3 fun e w' => ∃ v, e = .returned v ∧ ∃ K, D4 w' v K ∧ (∀ x ∈ K, x < B32) ∧ K.length ≤ 8192 ∧ nv B32 K = val (bN m1) - val (bN m2) ∧ w3.grownBy w' none := by
  obtain ⟨A, dA, rA, lA, tA, vA, gA⟩ := h1
  obtain ⟨B, dB, rB, lB, tB, vB, gB⟩ := h2
  have hlen : B.length ≤ A.length := by
    rcases Nat.lt_or_ge A.length B.length with h | h
    · have := len_lt rA tB h
      omega
    · exact h
  refine (less_any w3 va vb A B ((dA.kept gB).kept hg3) (dB.kept hg3) rA rB (by omega) hlen (by omega)).mono ?_
  rintro e w' ⟨v, K, rfl, dK, rK, vK, lK, _, gK⟩
  exact ⟨v, rfl, K, dK, rK, by omega, by rw [vK, vA, vB], gK⟩
theorem less_wdt2 {w0 w1 w2 : World} {va vb : Value} {m1 m2 : ByteArray} (h1 : WdT w0 w1 va m1) (h2 : WdT w1 w2 vb m2) (hle : val (bN m1) ≤ val (bN m2)) (w3 : World) (hg3 : w2.grownBy w3 none) :
    Calls Tryz.prog 119 #[vb, va] w3 fun e w' => ∃ v, e = .returned v ∧ ∃ K, D4 w' v K ∧ (∀ x ∈ K, x < B32) ∧ K.length ≤ 8192 ∧ nv B32 K = val (bN m2) - val (bN m1) ∧ w3.grownBy w' none := by
  obtain ⟨A, dA, rA, lA, tA, vA, gA⟩ := h1
  obtain ⟨B, dB, rB, lB, tB, vB, gB⟩ := h2
  have hlen : A.length ≤ B.length := by
    rcases Nat.lt_or_ge B.length A.length with h | h
    · have := len_lt rB tA h
      omega
    · exact h
  refine (less_any w3 vb va B A (dB.kept hg3) ((dA.kept gB).kept hg3) rB rA (by omega) hlen (by omega)).mono ?_
  rintro e w' ⟨v, K, rfl, dK, rK, vK, lK, _, gK⟩
  exact ⟨v, rfl, K, dK, rK, by omega, by rw [vK, vA, vB], gK⟩
theorem rPlus_ge (n1 n2 : Bool) (m1 m2 : ByteArray) (h1 : may n1 m1 = true) (h2 : may n2 m2 = true) (hne : (n1 == n2) = false) (hle : val (bN m2) ≤ val (bN m1)) (w : World) :
    Calls Tryz.prog 72 #[whole n1 m1, whole n2 m2] w fun e w' => ∃ s, e = .returned (whole (n1 && decide (val (bN m1) - val (bN m2) ≠ 0)) s) ∧ bN s = magN (val (bN m1) - val (bN m2)) ∧ w.grownBy w' none := by
  have hcv : (0 : Int) ≤ cmpN (val (bN m1)) (val (bN m2)) := by
    rcases Nat.lt_or_eq_of_le hle with h | h
    · rw [cmpN_gt h]; decide
    · rw [cmpN_eq h.symm]; decide
  have W1 := fun w => words_wdt n1 m1 h1 w
  have W2 := fun w => words_wdt n2 m2 h2 w
  have HWW : Hid (∀ m w, (m = m1 ∨ m = m2) → Calls Tryz.prog 113 #[.string m] w fun e w' => ∃ v, e = .returned v ∧ WdT w w' v m) := fun m w h => by
    rcases h with rfl | rfl
    · exact W1 w
    · exact W2 w
  clear W1 W2
  go_enter Tryz.func72, Tryz.ntmps72
  go_wp2_with fail
  have HKK : Hid (∀ w', ((w.alloc (wObj n1 m1)).alloc (wObj n2 m2)).grownBy w' none → w'.cell? ⟨w.heap.size, 0, none⟩ = some (Value.bool n1) ∧ w'.cell? ⟨w.heap.size, 1, none⟩ = some (Value.string m1) ∧ w'.cell? ⟨w.heap.size + 1, 0, none⟩ = some (Value.bool n2) ∧ w'.cell? ⟨w.heap.size + 1, 1, none⟩ = some (Value.string m2)) :=
    fun w' hg => ⟨grownBy_cell hg (WBlk.c0 (b := .string m1) (old_alloc _ _ (heap_alloc_new _ _))) (by simp), grownBy_cell hg (WBlk.c1 (a := .bool n1) (old_alloc _ _ (heap_alloc_new _ _))) (by simp), grownBy_cell hg (WBlk.c0 (b := .string m2) (heap_alloc2_new _ _ _)) (by simp), grownBy_cell hg (WBlk.c1 (a := .bool n2) (heap_alloc2_new _ _ _)) (by simp)⟩
  go_region_held3 (fun w' => w'.cell? ⟨w.heap.size, 0, none⟩ = some (Value.bool n1) ∧ w'.cell? ⟨w.heap.size, 1, none⟩ = some (Value.string m1) ∧ w'.cell? ⟨w.heap.size + 1, 0, none⟩ = some (Value.bool n2) ∧ w'.cell? ⟨w.heap.size + 1, 1, none⟩ = some (Value.string m2))
    (first | (go_keep; done) | exact HKK.out _ (grownBy_trans (grow1 _ _) (by assumption)) | exact HKK.out _ (grow_drew (grow1 _ _)) | fail)
    (first
      | (go_at_call 113; refine (HWW.out _ _ (by first | exact .inl rfl | exact .inr rfl)).mono ?_; rintro e wA ⟨vA, rfl, hWA⟩; have hgA := hWA.grown; have GA : (((w.alloc (wObj n1 m1)).alloc (wObj n2 m2)).alloc (wObj false eS)).grownBy wA none := (by first | exact grownBy_trans (by assumption) hgA | exact grownBy_undrew hgA | fail))
      | fail)
  obtain ⟨c0, c1, c2, c3⟩ := HKK.out _ (grownBy_trans (grow1 _ _) GA)
  go_wp2_with fail
  refine (under_wdt (by assumption) (by assumption) _ (by first | exact World.grownBy.refl _ _ | exact grow_drew (World.grownBy.refl _ _) | fail)).mono ?_
  rintro e wU ⟨rfl, gU⟩
  have GU : (((w.alloc (wObj n1 m1)).alloc (wObj n2 m2)).alloc (wObj false eS)).grownBy wU none := grownBy_trans GA gU
  clear c0 c1 c2 c3
  obtain ⟨c0, c1, c2, c3⟩ := HKK.out _ (grownBy_trans (grow1 _ _) GU)
  generalize cmpN (val (bN m1)) (val (bN m2)) = cm at *
  go_wp2_with fail
  go_region_held3 (fun w' => w'.cell? ⟨w.heap.size, 0, none⟩ = some (Value.bool n1) ∧ w'.cell? ⟨w.heap.size, 1, none⟩ = some (Value.string m1) ∧ w'.cell? ⟨w.heap.size + 1, 0, none⟩ = some (Value.bool n2) ∧ w'.cell? ⟨w.heap.size + 1, 1, none⟩ = some (Value.string m2))
    (first | (go_keep; done) | exact HKK.out _ (grownBy_trans (grow1 _ _) (by assumption)) | exact HKK.out _ (grown_set (grown_set (grownBy_trans (grow1 _ _) GM) (by simp)) (by simp)) | fail)
    (first
      | (go_at_call 119; refine (less_wdt (by assumption) (by assumption) hle _ (by first | exact gU | exact grow_drew gU | fail)).mono ?_; rintro e wP ⟨vP, rfl, K, hDK, hRK, hLK, hVK, hGK⟩; have GP : (((w.alloc (wObj n1 m1)).alloc (wObj n2 m2)).alloc (wObj false eS)).grownBy wP none := (by first | exact grownBy_trans GU (grownBy_undrew hGK) | exact grownBy_trans GU hGK | fail))
      | (go_at_call 95; refine (made_any n1 _ _ K hDK hRK (by omega)).mono ?_; rw [hVK]; rintro e wM ⟨s, rfl, hs, hGM⟩; have GM : (((w.alloc (wObj n1 m1)).alloc (wObj n2 m2)).alloc (wObj false eS)).grownBy wM none := grownBy_trans GP hGM; have hW : WBlk wM (w.heap.size + 2) (.bool false) (.string eS) := WBlk.kept (at_alloc3 _ _ _ _) GM (by simp); have hc0 := hW.c0; have hc1 := hW.c1; have hf0 := hW.fr 0; have hf1 := hW.fr 1)
      | fail)
  go_wp2_with fail
  refine bodyPost_ret (res_cell rfl _ _ (w.heap.size + 2) _ _ _ _ rfl (hW.put _ _)) rfl ?_
  exact ⟨s, ret_val (by simp), hs, grown_set (grown_set (grownBy_trans (grow3 _ _ _ _) GM) (by omega)) (by omega)⟩
theorem rPlus_lt (n1 n2 : Bool) (m1 m2 : ByteArray) (h1 : may n1 m1 = true) (h2 : may n2 m2 = true) (hne : (n1 == n2) = false) (hle : val (bN m1) < val (bN m2)) (w : World) :
    Calls Tryz.prog 72 #[whole n1 m1, whole n2 m2] w fun e w' => ∃ s, e = .returned (whole (n2 && decide (val (bN m2) - val (bN m1) ≠ 0)) s) ∧ bN s = magN (val (bN m2) - val (bN m1)) ∧ w.grownBy w' none := by
  have hcv : cmpN (val (bN m1)) (val (bN m2)) < 0 := by rw [cmpN_lt hle]; decide
  have W1 := fun w => words_wdt n1 m1 h1 w
  have W2 := fun w => words_wdt n2 m2 h2 w
  have HWW : Hid (∀ m w, (m = m1 ∨ m = m2) → Calls Tryz.prog 113 #[.string m] w fun e w' => ∃ v, e = .returned v ∧ WdT w w' v m) := fun m w h => by
    rcases h with rfl | rfl
    · exact W1 w
    · exact W2 w
  clear W1 W2
  go_enter Tryz.func72, Tryz.ntmps72
  go_wp2_with fail
  have HKK : Hid (∀ w', ((w.alloc (wObj n1 m1)).alloc (wObj n2 m2)).grownBy w' none → w'.cell? ⟨w.heap.size, 0, none⟩ = some (Value.bool n1) ∧ w'.cell? ⟨w.heap.size, 1, none⟩ = some (Value.string m1) ∧ w'.cell? ⟨w.heap.size + 1, 0, none⟩ = some (Value.bool n2) ∧ w'.cell? ⟨w.heap.size + 1, 1, none⟩ = some (Value.string m2)) :=
    fun w' hg => ⟨grownBy_cell hg (WBlk.c0 (b := .string m1) (old_alloc _ _ (heap_alloc_new _ _))) (by simp), grownBy_cell hg (WBlk.c1 (a := .bool n1) (old_alloc _ _ (heap_alloc_new _ _))) (by simp), grownBy_cell hg (WBlk.c0 (b := .string m2) (heap_alloc2_new _ _ _)) (by simp), grownBy_cell hg (WBlk.c1 (a := .bool n2) (heap_alloc2_new _ _ _)) (by simp)⟩
  go_region_held3 (fun w' => w'.cell? ⟨w.heap.size, 0, none⟩ = some (Value.bool n1) ∧ w'.cell? ⟨w.heap.size, 1, none⟩ = some (Value.string m1) ∧ w'.cell? ⟨w.heap.size + 1, 0, none⟩ = some (Value.bool n2) ∧ w'.cell? ⟨w.heap.size + 1, 1, none⟩ = some (Value.string m2))
    (first | (go_keep; done) | exact HKK.out _ (grownBy_trans (grow1 _ _) (by assumption)) | exact HKK.out _ (grow_drew (grow1 _ _)) | fail)
    (first
      | (go_at_call 113; refine (HWW.out _ _ (by first | exact .inl rfl | exact .inr rfl)).mono ?_; rintro e wA ⟨vA, rfl, hWA⟩; have hgA := hWA.grown; have GA : (((w.alloc (wObj n1 m1)).alloc (wObj n2 m2)).alloc (wObj false eS)).grownBy wA none := (by first | exact grownBy_trans (by assumption) hgA | exact grownBy_undrew hgA | fail))
      | fail)
  obtain ⟨c0, c1, c2, c3⟩ := HKK.out _ (grownBy_trans (grow1 _ _) GA)
  go_wp2_with fail
  refine (under_wdt (by assumption) (by assumption) _ (by first | exact World.grownBy.refl _ _ | exact grow_drew (World.grownBy.refl _ _) | fail)).mono ?_
  rintro e wU ⟨rfl, gU⟩
  have GU : (((w.alloc (wObj n1 m1)).alloc (wObj n2 m2)).alloc (wObj false eS)).grownBy wU none := grownBy_trans GA gU
  clear c0 c1 c2 c3
  obtain ⟨c0, c1, c2, c3⟩ := HKK.out _ (grownBy_trans (grow1 _ _) GU)
  generalize cmpN (val (bN m1)) (val (bN m2)) = cm at *
  go_wp2_with fail
  go_region_held3 (fun w' => w'.cell? ⟨w.heap.size, 0, none⟩ = some (Value.bool n1) ∧ w'.cell? ⟨w.heap.size, 1, none⟩ = some (Value.string m1) ∧ w'.cell? ⟨w.heap.size + 1, 0, none⟩ = some (Value.bool n2) ∧ w'.cell? ⟨w.heap.size + 1, 1, none⟩ = some (Value.string m2))
    (first | (go_keep; done) | exact HKK.out _ (grownBy_trans (grow1 _ _) (by assumption)) | exact HKK.out _ (grown_set (grown_set (grownBy_trans (grow1 _ _) GM) (by simp)) (by simp)) | fail)
    (first
      | (go_at_call 119; refine (less_wdt2 (by assumption) (by assumption) (Nat.le_of_lt hle) _ (by first | exact gU | exact grow_drew gU | fail)).mono ?_; rintro e wP ⟨vP, rfl, K, hDK, hRK, hLK, hVK, hGK⟩; have GP : (((w.alloc (wObj n1 m1)).alloc (wObj n2 m2)).alloc (wObj false eS)).grownBy wP none := (by first | exact grownBy_trans GU (grownBy_undrew hGK) | exact grownBy_trans GU hGK | fail))
      | (go_at_call 95; refine (made_any n2 _ _ K hDK hRK (by omega)).mono ?_; rw [hVK]; rintro e wM ⟨s, rfl, hs, hGM⟩; have GM : (((w.alloc (wObj n1 m1)).alloc (wObj n2 m2)).alloc (wObj false eS)).grownBy wM none := grownBy_trans GP hGM; have hW : WBlk wM (w.heap.size + 2) (.bool false) (.string eS) := WBlk.kept (at_alloc3 _ _ _ _) GM (by simp); have hc0 := hW.c0; have hc1 := hW.c1; have hf0 := hW.fr 0; have hf1 := hW.fr 1)
      | fail)
  go_wp2_with fail
  refine bodyPost_ret (res_cell rfl _ _ (w.heap.size + 2) _ _ _ _ rfl (hW.put _ _)) rfl ?_
  exact ⟨s, ret_val (by simp), hs, grown_set (grown_set (grownBy_trans (grow3 _ _ _ _) GM) (by omega)) (by omega)⟩
def IsZ (z : Int) (n : Bool) (s : ByteArray) : Prop := n = decide (z < 0) ∧ bN s = magN z.natAbs
theorem num_f (m : ByteArray) : num false m = (val (bN m) : Int) := rfl
theorem num_t (m : ByteArray) : num true m = -(val (bN m) : Int) := rfl
theorem IsZ.one {z : Int} {n n' : Bool} {s s' : ByteArray} (h : IsZ z n s) (h' : IsZ z n' s') : whole n s = whole n' s' := by
  have e : s = s' := bN_inj (h.2.trans h'.2.symm)
  rw [h.1, h'.1, e]
theorem rPlus_z (n1 n2 : Bool) (m1 m2 : ByteArray) (h1 : may n1 m1 = true) (h2 : may n2 m2 = true) (w : World) :
    Calls Tryz.prog 72 #[whole n1 m1, whole n2 m2] w fun e w' => ∃ n s, e = .returned (whole n s) ∧ IsZ (num n1 m1 + num n2 m2) n s ∧ w.grownBy w' none := by
  have l1 := may_size h1
  have l2 := may_size h2
  have key : ∀ (b : Bool) (d : Nat) (z : Int) (s : ByteArray), z = (if b then -(d : Int) else d) → bN s = magN d → IsZ z (b && decide (d ≠ 0)) s := by
    intro b d z s hz hs
    subst hz
    cases b
    · exact ⟨by simp, by simpa using hs⟩
    · refine ⟨?_, by simpa using hs⟩
      rw [Bool.true_and, if_pos rfl]
      exact decide_eq_decide.2 (by omega)
  by_cases hn : n1 = n2
  · subst hn
    refine (rPlus_same n1 m1 m2 l1 l2 w).mono ?_
    rintro e w' ⟨s, rfl, hs, hg⟩
    refine ⟨_, s, rfl, key n1 _ _ s ?_ hs, hg⟩
    cases n1
    · rw [num_f, num_f]; simp
    · rw [num_t, num_t]; simp; omega
  · have hne : (n1 == n2) = false := by simpa using hn
    rcases Nat.lt_or_ge (val (bN m1)) (val (bN m2)) with hlt | hge
    · refine (rPlus_lt n1 n2 m1 m2 h1 h2 hne hlt w).mono ?_
      rintro e w' ⟨s, rfl, hs, hg⟩
      refine ⟨_, s, rfl, key n2 _ _ s ?_ hs, hg⟩
      cases n1 <;> cases n2 <;> simp at hn <;> simp [num_f, num_t] <;> omega
    · refine (rPlus_ge n1 n2 m1 m2 h1 h2 hne hge w).mono ?_
      rintro e w' ⟨s, rfl, hs, hg⟩
      refine ⟨_, s, rfl, key n1 _ _ s ?_ hs, hg⟩
      cases n1 <;> cases n2 <;> simp at hn <;> simp [num_f, num_t] <;> omega
theorem rTimes_z (n1 n2 : Bool) (m1 m2 : ByteArray) (h1 : may n1 m1 = true) (h2 : may n2 m2 = true) (w : World) :
    Calls Tryz.prog 76 #[whole n1 m1, whole n2 m2] w fun e w' => ∃ n s, e = .returned (whole n s) ∧ IsZ (num n1 m1 * num n2 m2) n s ∧ w.grownBy w' none := by
  have l1 := may_size h1
  have l2 := may_size h2
  refine (rTimes_any n1 n2 m1 m2 l1 l2 w).mono ?_
  rintro e w' ⟨s, rfl, hs, hg⟩
  refine ⟨_, s, rfl, ?_, hg⟩
  have ha : (num n1 m1 * num n2 m2).natAbs = val (bN m1) * val (bN m2) := by
    rw [Int.natAbs_mul]
    cases n1 <;> cases n2 <;> simp [num_f, num_t]
  refine ⟨?_, by rw [ha]; exact hs⟩
  obtain ⟨P, hP⟩ : ∃ P, val (bN m1) * val (bN m2) = P := ⟨_, rfl⟩
  have hPI : ((val (bN m1) : Nat) : Int) * ((val (bN m2) : Nat) : Int) = (P : Int) := by rw [← hP]; simp
  rw [hP]
  cases n1 <;> cases n2
  · rw [num_f, num_f, hPI]; simp
  · rw [num_f, num_t, Int.mul_neg, hPI]
    exact (Bool.true_and _).trans (decide_eq_decide.2 (by omega))
  · rw [num_t, num_f, Int.neg_mul, hPI]
    exact (Bool.true_and _).trans (decide_eq_decide.2 (by omega))
  · rw [num_t, num_t, Int.neg_mul_neg, hPI]; simp
def sumZ (l : List (Bool × ByteArray)) : Int := (l.map fun p => num p.1 p.2).sum
theorem sumZ_take (l : List (Bool × ByteArray)) (k : Nat) (p : Bool × ByteArray) (h : l[k]? = some p) : sumZ (l.take (k + 1)) = sumZ (l.take k) + num p.1 p.2 := by
  rw [List.take_add_one, h]
  simp [sumZ]
theorem trim_of_ge {K : List Nat} (hr : ∀ x ∈ K, x < B32) (h : K.length ≠ 0 → B32 ^ (K.length - 1) ≤ nv B32 K) : Trim K := by
  rcases Nat.eq_zero_or_pos K.length with h0 | h0
  · exact .inl h0
  · right
    intro e
    obtain ⟨k, hk⟩ : ∃ k, K.length = k + 1 := ⟨K.length - 1, by omega⟩
    have h1 := h (by omega)
    rw [hk, Nat.add_sub_cancel] at h1 e
    rw [nv_top B32 K k hk, e, Nat.mul_zero, Nat.add_zero] at h1
    have hlt := nv_lt B32 (K.take k) (fun x hx => hr x (List.mem_of_mem_take hx))
    rw [List.length_take, hk, Nat.min_eq_left (by omega)] at hlt
    omega
theorem trim_digits {n : Bool} {m : ByteArray} {L : List Nat} (h : may n m = true) (hL : L.length = (m.size + 3) / 4) (hr : ∀ x ∈ L, x < B32) (hv : nv B32 L = val (bN m)) : Trim L := by
  refine trim_of_ge hr (fun h0 => ?_)
  have hp : 0 < m.size := by omega
  have h1 := val_head m hp (may_head h hp)
  rw [hv, show B32 ^ (L.length - 1) = 256 ^ (4 * (L.length - 1)) by rw [Nat.pow_mul]]
  exact Nat.le_trans (Nat.pow_le_pow_right (by decide) (by omega)) h1
theorem trim_sum {A Q K : List Nat} (tA : Trim A) (tQ : Trim Q) (hr : ∀ x ∈ K, x < B32) (hv : nv B32 K = nv B32 A + nv B32 Q) (hl : K.length ≤ max A.length Q.length + 1) (h : K.length ≤ max A.length Q.length ∨ B32 ^ max A.length Q.length ≤ nv B32 A + nv B32 Q) : Trim K := by
  refine trim_of_ge hr (fun h0 => ?_)
  rw [hv]
  rcases h with h | h
  · have hm : 0 < max A.length Q.length := by omega
    have key : B32 ^ (max A.length Q.length - 1) ≤ nv B32 A + nv B32 Q := by
      rcases Nat.le_total A.length Q.length with hle | hle
      · rw [Nat.max_eq_right hle] at hm ⊢
        exact Nat.le_trans (trim_lo tQ (Q.length - 1) (by omega)) (by omega)
      · rw [Nat.max_eq_left hle] at hm ⊢
        exact Nat.le_trans (trim_lo tA (A.length - 1) (by omega)) (by omega)
    exact Nat.le_trans (Nat.pow_le_pow_right (by decide) (by omega)) key
  · exact Nat.le_trans (Nat.pow_le_pow_right (by decide) (by omega)) h
theorem Row.lt {w : World} {base g : Nat} {v : Value} {L : List Nat} (h : Row w base v L) (hg : v.ownBlock = some g) : base ≤ g ∧ g < w.heap.size := by
  rcases h.2 with ⟨rfl, _⟩ | ⟨g', cap, cur, rfl, hb, hgg, _⟩
  · cases hg
  · cases hg
    exact ⟨hb, (Array.getElem?_eq_some_iff.1 hgg).1⟩
theorem ownBlock_row {w : World} {base : Nat} {v : Value} {L : List Nat} (h : Row w base v L) : ∀ b n c, v = .slice (some b) n c → v.ownBlock = some b.block := by
  intro b n c e
  rcases h.cases with ⟨e', _⟩ | ⟨g, c', e', _⟩
  · rw [e'] at e; cases e
  · rw [e'] at e ⊢; cases e; rfl
def Apt (va vb : Value) : Prop := va.ownBlock = none ∨ va.ownBlock ≠ vb.ownBlock
theorem Apt.swap {va vb : Value} (h : Apt va vb) : Apt vb va := by
  unfold Apt at *
  rcases h with h | h
  · cases hb : vb.ownBlock
    · exact .inl rfl
    · exact .inr (by rw [h]; simp)
  · exact .inr (fun e => h e.symm)
def SuI (w wr : World) (l : List (Bool × ByteArray)) (k : Nat) (va vb : Value) : Prop :=
  ∃ A B, Row wr w.heap.size va A ∧ Row wr w.heap.size vb B ∧ Apt va vb ∧ (∀ x ∈ A, x < B32) ∧ (∀ x ∈ B, x < B32) ∧ Trim A ∧ Trim B ∧ A.length ≤ 4096 + k ∧ B.length ≤ 4096 + k ∧ (nv B32 A : Int) - nv B32 B = sumZ (l.take k) ∧ w.grownBy wr none
theorem addTo_digits {w wr w1 : World} {va vb : Value} {A B : List Nat} {m : ByteArray} {n : Bool} (hm : may n m = true) (hA : Row wr w.heap.size va A) (hB : Row wr w.heap.size vb B) (hp : Apt va vb) (ra : ∀ x ∈ A, x < B32) (tA : Trim A) (hl : A.length ≤ 100000 + 4096) (hg : w.grownBy wr none)
    {D : Nat} {L : List Nat} (hD : wr.heap.size ≤ D) (hBk : BlkL w1 D 103 enc4 (ints L)) (hg1 : wr.grownBy w1 none) (hL : L.length = (m.size + 3) / 4) (hr : ∀ x ∈ L, x < B32) (hv : nv B32 L = val (bN m)) :
    Calls Tryz.prog 108 #[va, .slice (some ⟨D, 0, none⟩) L.length L.length] w1 fun e w' => ∃ v' K, e = .returned v' ∧ Row w' w.heap.size v' K ∧ Row w' w.heap.size vb B ∧ Apt v' vb ∧ (∀ x ∈ K, x < B32) ∧ Trim K ∧ K.length ≤ max A.length 4096 + 1 ∧ nv B32 K = nv B32 A + val (bN m) ∧ w.grownBy w' none := by
  have hms := may_size hm
  have hA1 : Row w1 w.heap.size va A := hA.kept hg1 (by cases va.ownBlock <;> simp)
  have hB1 : Row w1 w.heap.size vb B := hB.kept hg1 (by cases vb.ownBlock <;> simp)
  refine (addTo_row w1 w.heap.size va _ A L hA1 hBk.d4 ?_ ra hr (by omega) (by omega) (Nat.le_trans hg.size hg1.size)).mono ?_
  · intro b n c e h
    cases e
    have := (hA.lt h.symm).2
    simp at this
    omega
  · rintro e w' ⟨v', K, rfl, hR, rK, hvK, h1, h2, h3, ho, hgw⟩
    have hBk' : Row w' w.heap.size vb B := hB1.kept hgw (by
      rcases hp.swap with h | h
      · exact .inl h
      · exact .inr h)
    refine ⟨v', K, rfl, hR, hBk', ?_, rK, trim_sum tA (trim_digits hm hL hr hv) rK hvK h2 h3, by omega, by rw [hvK, hv], ?_⟩
    · rcases ho with e | ⟨g, e, hlt⟩
      · unfold Apt; rw [e]; exact hp
      · right
        rw [e]
        intro e2
        have := (hB1.lt e2.symm).2
        omega
    · have hgg := grownBy_trans hg hg1
      cases hob : va.ownBlock with
      | none => rw [hob] at hgw; exact grownBy_trans hgg hgw
      | some g => rw [hob] at hgw; exact grownBy_new hgg (hA.lt hob).1 hgw
def ZRes (z : Int) (e : Ending) : Prop :=
  (bl z.natAbs ≤ 131072 ∧ ∃ n s, e = .returned (.tuple #[whole n s, .int .i64 0]) ∧ IsZ z n s) ∨ (131072 < bl z.natAbs ∧ e = .returned (.tuple #[whole false eS, .int .i64 4]))
theorem made_z {neg : Bool} {n : Nat} {z : Int} {e : Ending} (h : Made neg n e) (hz : z = if neg then -(n : Int) else n) : ZRes z e := by
  have ha : z.natAbs = n := by rw [hz]; cases neg <;> simp
  rcases h with ⟨hb, s, rfl, hs⟩ | ⟨hb, rfl⟩
  · refine .inl ⟨by rw [ha]; exact hb, _, s, rfl, ?_, by rw [ha]; exact hs⟩
    rw [hz]
    cases neg
    · simp
    · simp only [Bool.true_and, if_true]
      exact decide_eq_decide.2 (by omega)
  · exact .inr ⟨by rw [ha]; exact hb, rfl⟩
theorem sum_bad (w : World) (v : Value) (l : List (Bool × ByteArray)) (h : DW w v l) (hl : l.length ≤ 100000) (hs : ∀ p ∈ l, p.2.size ≤ maxLen) (hm : mayAll l = false) :
    Calls Tryz.prog 101 #[v] w fun e w' => e = .returned (.tuple #[whole false eS, .int .i64 2]) ∧ w.grownBy w' none := by
  have hC : ∀ w1, w.grownBy w1 none → Calls Tryz.prog 103 #[v] w1 fun e w' => e = .returned (.int .i64 2) ∧ w1.grownBy w' none := fun w1 hg => by
    have := checkAll_any w1 v l (h.kept hg) (by omega) hs
    rw [if_neg (by simp [hm])] at this
    exact this
  have HC : Hid (∀ w1, w.grownBy w1 none → Calls Tryz.prog 103 #[v] w1 fun e w' => e = .returned (.int .i64 2) ∧ w1.grownBy w' none) := hC
  obtain ⟨B, off, c, rfl, _, _⟩ := h
  clear hC hs hm
  go_enter Tryz.func101, Tryz.ntmps101
  go_wp2_with fail
  refine (HC.out _ (grow1 _ _)).mono ?_
  rintro e w1 ⟨rfl, hg⟩
  go_wp2_with fail
  refine (zero_any w1).mono ?_
  rintro e w2 ⟨rfl, hw2⟩
  have hg2 : (w.alloc (wObj false eS)).grownBy w2 none := by rw [hw2]; exact grownBy_trans hg (grow1 _ _)
  have hb : WBlk w2 w.heap.size (.bool false) (.string eS) := WBlk.kept (w := w.alloc (wObj false eS)) (heap_alloc_new _ _) hg2 (by simp)
  have hc0 := hb.c0
  have hc1 := hb.c1
  have hf0 := hb.fr 0
  have hf1 := hb.fr 1
  have HG : Hid ((w.alloc (wObj false eS)).grownBy w2 none) := hg2
  clear hg hg2 hw2
  go_wp2_with fail
  refine bodyPost_ret (res_cell_tmp rfl _ _ w.heap.size _ _ _ _ rfl (hb.put _ _)) rfl ?_
  exact ⟨rfl, grown_set (grown_set (grownBy_trans (grow1 _ _) HG.out) (Nat.le_refl _)) (Nat.le_refl _)⟩
theorem sum_any (w : World) (v : Value) (l : List (Bool × ByteArray)) (h : DW w v l) (hl : l.length ≤ 100000) (hm : mayAll l = true) :
    Calls Tryz.prog 101 #[v] w fun e w' => ZRes (sumZ l) e ∧ w.grownBy w' none := by
  have hmay : ∀ p ∈ l, may p.1 p.2 = true := fun p hp => by
    have := hm
    unfold mayAll at this
    exact List.all_eq_true.1 this p hp
  have hs : ∀ p ∈ l, p.2.size ≤ maxLen := fun p hp => by have := may_size (hmay p hp); unfold maxLen; omega
  have hC : ∀ w1, w.grownBy w1 none → Calls Tryz.prog 103 #[v] w1 fun e w' => e = .returned (.int .i64 0) ∧ w1.grownBy w' none := fun w1 hg => by
    have := checkAll_any w1 v l (h.kept hg) (by omega) hs
    rw [if_pos hm] at this
    exact this
  have HC : Hid (∀ w1, w.grownBy w1 none → Calls Tryz.prog 103 #[v] w1 fun e w' => e = .returned (.int .i64 0) ∧ w1.grownBy w' none) := hC
  have HM : Hid (∀ p ∈ l, may p.1 p.2 = true) := hmay
  obtain ⟨B, off, c, rfl, hc, hcs⟩ := h
  have HCS : Hid (∀ j p, l[j]? = some p → w.cell? ⟨B, off + j * 2, none⟩ = some (.bool p.1) ∧ w.cell? ⟨B, off + j * 2 + 1, none⟩ = some (.string p.2)) := hcs
  obtain ⟨n, hn⟩ : ∃ n, l.length = n := ⟨_, rfl⟩
  have HN : Unit → l.length = n := fun _ => hn
  rw [hn] at hc hl HC ⊢
  have hnI : (n : Int) ≤ 100000 := by omega
  clear hC hs hm hmay hcs hn hl
  go_enter Tryz.func101, Tryz.ntmps101
  go_wp2_with fail
  refine (HC.out _ (grow1 _ _)).mono ?_
  rintro e w1 ⟨rfl, hg⟩
  have HG : Hid ((w.alloc (wObj false eS)).grownBy w1 none) := hg
  clear hg HC
  go_wp2_with fail
  go_loopw [4, 5, 14] (fun va vb t wr => ∃ k : Nat, k ≤ n ∧ t = .int .i64 (k : Int) ∧ SuI (w.alloc (wObj false eS)) wr l k va vb) (fun _ _ t _ => n - (RowKit.intOf t).toNat)
  case atStart => exact ⟨0, by omega, rfl, [], [], Row.nil _ _, Row.nil _ _, .inl rfl, by simp, by simp, .inl rfl, .inl rfl, by simp, by simp, by simp [nv, sumZ], HG.out⟩
  case round =>
    obtain ⟨k, hk, rfl, hI⟩ := hrel
    have HI : Hid (SuI (w.alloc (wObj false eS)) wr l k u4 u5) := hI
    by_cases hk1 : k < n
    · have hkl : k < l.length := by rw [HN ()]; exact hk1
      have hp : l[k]? = some l[k] := List.getElem?_eq_getElem hkl
      have hcs := HCS.out k _ hp
      obtain ⟨_, _, _, _, _, _, _, _, _, _, _, _, hg0⟩ := hI
      have hgw := grownBy_trans (grow1 w (wObj false eS)) hg0
      have hc1 := grownBy_cell hgw hcs.1 (by simp)
      have hc2 := grownBy_cell hgw hcs.2 (by simp)
      have hmp := HM.out l[k] (List.getElem_mem hkl)
      have hst := sumZ_take l k _ hp
      have HST : Hid (sumZ (l.take (k + 1)) = sumZ (l.take k) + num l[k].1 l[k].2) := hst
      generalize l[k] = p at *
      obtain ⟨neg, mag⟩ := p
      simp only at hc1 hc2 hmp HST
      clear hcs hp hst hg0 hgw
      have hms := may_size hmp
      have hds : (u4 = .slice none 0 0 ∨ ∃ a n c, u4 = .slice a n c) := by
        obtain ⟨A, _, hA, _⟩ := HI.out
        rcases hA.cases with ⟨e, _⟩ | ⟨g, c, e, _⟩
        · exact .inl e
        · exact .inr ⟨_, _, _, e⟩
      cases neg
      · go_wp2_with fail
        refine (digitsOf_any mag hms _).mono ?_
        rintro e w2 ⟨D, L, rfl, hD, hBk, hg2, hL, hr, hv⟩
        have hADD := fun A B' hA hB hp ra tA hl hg => addTo_digits (w := w.alloc (wObj false eS)) (wr := wr) (w1 := w2) (va := u4) (vb := u5) (A := A) (B := B') hmp hA hB hp ra tA hl hg (by simp at hD; omega) hBk (grownBy_trans (grow1 _ _) hg2) hL hr hv
        obtain ⟨A, B', hA, hB, hp, ra, rb, tA, tB, la, lb, hz, hg⟩ := HI.out
        have hC := hADD A B' hA hB hp ra tA (by omega) hg
        have HC : Hid (Calls Tryz.prog 108 #[u4, .slice (some ⟨D, 0, none⟩) L.length L.length] w2 fun e w' => ∃ v' K, e = .returned v' ∧ Row w' (w.alloc (wObj false eS)).heap.size v' K ∧ Row w' (w.alloc (wObj false eS)).heap.size u5 B' ∧ Apt v' u5 ∧ (∀ x ∈ K, x < B32) ∧ Trim K ∧ K.length ≤ max A.length 4096 + 1 ∧ nv B32 K = nv B32 A + val (bN mag) ∧ (w.alloc (wObj false eS)).grownBy w' none) := hC
        have HZ : Hid ((nv B32 A : Int) - nv B32 B' = sumZ (l.take k)) := hz
        have HRB : Hid (∀ x ∈ B', x < B32) := rb
        clear hC hADD hA hB hp ra rb tA hz hg hD hBk hg2 hL hr hv
        go_wp2_with fail
        refine HC.out.mono ?_
        rintro e w3 ⟨v', K, rfl, hR, hRb, hap, rK, tK, lK, vK, hgw⟩
        have HF : Hid (SuI (w.alloc (wObj false eS)) w3 l (k + 1) v' u5) := ⟨K, B', hR, hRb, hap, rK, HRB.out, tK, tB, by omega, by omega, by rw [HST.out, ← HZ.out, num_f, vK]; omega, hgw⟩
        clear HC hR hRb hap rK tK lK vK hgw tB
        go_wp2_with fail
        go_roundw
        case rel => exact ⟨k + 1, by omega, rfl, HF.out⟩
        case measure => simp [RowKit.intOf]; omega
      · go_wp2_with fail
        refine (digitsOf_any mag hms _).mono ?_
        rintro e w2 ⟨D, L, rfl, hD, hBk, hg2, hL, hr, hv⟩
        have hADD := fun A B' hA hB hp ra tA hl hg => addTo_digits (w := w.alloc (wObj false eS)) (wr := wr) (w1 := w2) (va := u5) (vb := u4) (A := A) (B := B') hmp hA hB hp ra tA hl hg (by simp at hD; omega) hBk (grownBy_trans (grow1 _ _) hg2) hL hr hv
        obtain ⟨A, B', hA, hB, hp, ra, rb, tA, tB, la, lb, hz, hg⟩ := HI.out
        have hC := hADD B' A hB hA hp.swap rb tB (by omega) hg
        have HC : Hid (Calls Tryz.prog 108 #[u5, .slice (some ⟨D, 0, none⟩) L.length L.length] w2 fun e w' => ∃ v' K, e = .returned v' ∧ Row w' (w.alloc (wObj false eS)).heap.size v' K ∧ Row w' (w.alloc (wObj false eS)).heap.size u4 A ∧ Apt v' u4 ∧ (∀ x ∈ K, x < B32) ∧ Trim K ∧ K.length ≤ max B'.length 4096 + 1 ∧ nv B32 K = nv B32 B' + val (bN mag) ∧ (w.alloc (wObj false eS)).grownBy w' none) := hC
        have HZ : Hid ((nv B32 A : Int) - nv B32 B' = sumZ (l.take k)) := hz
        have HRA : Hid (∀ x ∈ A, x < B32) := ra
        clear hC hADD hA hB hp ra rb tB hz hg hD hBk hg2 hL hr hv
        go_wp2_with fail
        refine HC.out.mono ?_
        rintro e w3 ⟨v', K, rfl, hR, hRb, hap, rK, tK, lK, vK, hgw⟩
        have HF : Hid (SuI (w.alloc (wObj false eS)) w3 l (k + 1) u4 v') := ⟨A, K, hRb, hR, hap.swap, HRA.out, rK, tA, tK, by omega, by omega, by rw [HST.out, ← HZ.out, num_t, vK]; omega, hgw⟩
        clear HC hR hRb hap rK tK lK vK hgw tA
        go_wp2_with fail
        go_roundw
        case rel => exact ⟨k + 1, by omega, rfl, HF.out⟩
        case measure => simp [RowKit.intOf]; omega
    · obtain rfl : k = n := by omega
      clear hI
      obtain ⟨A, B', hA, hB, hp, ra, rb, tA, tB, la, lb, hz, hg⟩ := HI.out
      rw [List.take_of_length_le (by rw [HN ()]; exact Nat.le_refl _)] at hz
      by_cases hlt : nv B32 A < nv B32 B'
      · have hcm : cmpN (nv B32 A) (nv B32 B') = -1 := by unfold cmpN; rw [if_pos hlt]
        have hCM : Calls Tryz.prog 144 #[u4, u5] wr fun e w' => e = .returned (.int .i64 (-1)) ∧ wr.grownBy w' none := (by
          have := cmpDigits_any wr u4 u5 A B' hA.d4 hB.d4 ra rb tA tB (by omega) (by omega)
          rw [hcm] at this
          exact this)
        have hTK : ∀ w2, wr.grownBy w2 none → Calls Tryz.prog 109 #[u5, u4] w2 fun e w' => ∃ v' K, e = .returned v' ∧ D4 w' v' K ∧ (∀ x ∈ K, x < B32) ∧ K.length ≤ 200000 ∧ nv B32 K = nv B32 B' - nv B32 A ∧ (w.alloc (wObj false eS)).grownBy w' none := (by
          intro w2 hg2
          refine (takeFrom_row w2 _ u5 u4 B' A (hB.kept hg2 (by cases u5.ownBlock <;> simp)) (hA.d4.kept hg2) ?_ rb ra ?_ (by omega) (by omega)).mono ?_
          · intro b n c e h
            have hob := ownBlock_row hA b n c e
            rcases hp with h1 | h1
            · rw [hob] at h1; cases h1
            · exact h1 (hob.trans h)
          · rcases Nat.lt_or_ge B'.length A.length with h | h
            · have := len_lt rb tA h
              omega
            · exact h
          · rintro e w3 ⟨v', K, rfl, h1, h2, _, h3, h4, h5⟩
            refine ⟨v', K, rfl, h1, h2, by omega, h4, ?_⟩
            have hgg := grownBy_trans hg hg2
            cases hob : u5.ownBlock with
            | none => rw [hob] at h5; exact grownBy_trans hgg h5
            | some g => rw [hob] at h5; exact grownBy_new hgg (hB.lt hob).1 h5)
        have HCM : Hid (Calls Tryz.prog 144 #[u4, u5] wr fun e w' => e = .returned (.int .i64 (-1)) ∧ wr.grownBy w' none) := hCM
        have HTK : Hid (∀ w2, wr.grownBy w2 none → Calls Tryz.prog 109 #[u5, u4] w2 fun e w' => ∃ v' K, e = .returned v' ∧ D4 w' v' K ∧ (∀ x ∈ K, x < B32) ∧ K.length ≤ 200000 ∧ nv B32 K = nv B32 B' - nv B32 A ∧ (w.alloc (wObj false eS)).grownBy w' none) := hTK
        have HZ : Unit → sumZ l = -((nv B32 B' - nv B32 A : Nat) : Int) := fun _ => by omega
        clear hCM hTK hA hB hp ra rb tA tB hz hg hlt hcm
        go_wp2_with fail
        refine HCM.out.mono ?_
        rintro e w2 ⟨rfl, hg2⟩
        have HT2 : Hid (Calls Tryz.prog 109 #[u5, u4] w2 fun e w' => ∃ v' K, e = .returned v' ∧ D4 w' v' K ∧ (∀ x ∈ K, x < B32) ∧ K.length ≤ 200000 ∧ nv B32 K = nv B32 B' - nv B32 A ∧ (w.alloc (wObj false eS)).grownBy w' none) := HTK.out w2 hg2
        clear HTK HCM hg2
        go_wp2_with fail
        refine HT2.out.mono ?_
        rintro e w3 ⟨v', K, rfl, h1, h2, h3, h4, h5⟩
        have hMD := madeP_any true w3 v' K h1 h2 (by omega)
        rw [h4] at hMD
        have HMD : Hid (Calls Tryz.prog 110 #[.bool true, v'] w3 fun e w' => Made true (nv B32 B' - nv B32 A) e ∧ w3.grownBy w' none) := hMD
        have HG3 : Hid ((w.alloc (wObj false eS)).grownBy w3 none) := h5
        clear hMD h1 h2 h3 h4 h5 HT2
        go_wp2_with fail
        refine HMD.out.mono ?_
        rintro e w4 ⟨hM, hg4⟩
        have hZR := made_z (z := sumZ l) hM (by rw [HZ ()]; rfl)
        have HG4 : Hid ((w.alloc (wObj false eS)).grownBy w4 none) := grownBy_trans HG3.out hg4
        have hb : WBlk w4 w.heap.size (.bool false) (.string eS) := WBlk.kept (w := w.alloc (wObj false eS)) (heap_alloc_new _ _) HG4.out (by simp)
        have hc0 := hb.c0
        have hc1 := hb.c1
        have hf0 := hb.fr 0
        have hf1 := hb.fr 1
        obtain ⟨n', s', er, rfl⟩ : ∃ n' s' er, e = .returned (.tuple #[whole n' s', .int .i64 er]) := by
          rcases hM with ⟨_, s', rfl, _⟩ | ⟨_, rfl⟩
          · exact ⟨_, _, _, rfl⟩
          · exact ⟨_, _, _, rfl⟩
        have HZR : Hid (ZRes (sumZ l) (.returned (.tuple #[whole n' s', .int .i64 er]))) := hZR
        clear hM hg4 hZR HMD HG3
        go_wp2_with fail
        refine bodyPost_ret (res_cell_tmp rfl _ _ w.heap.size _ _ _ _ rfl (hb.put _ _)) rfl ?_
        exact ⟨HZR.out, grown_set (grown_set (grownBy_trans (grow1 _ _) HG4.out) (Nat.le_refl _)) (Nat.le_refl _)⟩
      · obtain ⟨r, hcm, hr0⟩ : ∃ r : Int, cmpN (nv B32 A) (nv B32 B') = r ∧ 0 ≤ r := ⟨_, rfl, by unfold cmpN; rw [if_neg hlt]; split <;> omega⟩
        have hCM : Calls Tryz.prog 144 #[u4, u5] wr fun e w' => e = .returned (.int .i64 (r)) ∧ wr.grownBy w' none := (by
          have := cmpDigits_any wr u4 u5 A B' hA.d4 hB.d4 ra rb tA tB (by omega) (by omega)
          rw [hcm] at this
          exact this)
        have hTK : ∀ w2, wr.grownBy w2 none → Calls Tryz.prog 109 #[u4, u5] w2 fun e w' => ∃ v' K, e = .returned v' ∧ D4 w' v' K ∧ (∀ x ∈ K, x < B32) ∧ K.length ≤ 200000 ∧ nv B32 K = nv B32 A - nv B32 B' ∧ (w.alloc (wObj false eS)).grownBy w' none := (by
          intro w2 hg2
          refine (takeFrom_row w2 _ u4 u5 A B' (hA.kept hg2 (by cases u4.ownBlock <;> simp)) (hB.d4.kept hg2) ?_ ra rb ?_ (by omega) (by omega)).mono ?_
          · intro b n c e h
            have hob := ownBlock_row hB b n c e
            rcases hp.swap with h1 | h1
            · rw [hob] at h1; cases h1
            · exact h1 (hob.trans h)
          · rcases Nat.lt_or_ge A.length B'.length with h | h
            · have := len_lt ra tB h
              omega
            · exact h
          · rintro e w3 ⟨v', K, rfl, h1, h2, _, h3, h4, h5⟩
            refine ⟨v', K, rfl, h1, h2, by omega, h4, ?_⟩
            have hgg := grownBy_trans hg hg2
            cases hob : u4.ownBlock with
            | none => rw [hob] at h5; exact grownBy_trans hgg h5
            | some g => rw [hob] at h5; exact grownBy_new hgg (hA.lt hob).1 h5)
        have HCM : Hid (Calls Tryz.prog 144 #[u4, u5] wr fun e w' => e = .returned (.int .i64 (r)) ∧ wr.grownBy w' none) := hCM
        have HTK : Hid (∀ w2, wr.grownBy w2 none → Calls Tryz.prog 109 #[u4, u5] w2 fun e w' => ∃ v' K, e = .returned v' ∧ D4 w' v' K ∧ (∀ x ∈ K, x < B32) ∧ K.length ≤ 200000 ∧ nv B32 K = nv B32 A - nv B32 B' ∧ (w.alloc (wObj false eS)).grownBy w' none) := hTK
        have HZ : Unit → sumZ l = ((nv B32 A - nv B32 B' : Nat) : Int) := fun _ => by omega
        clear hCM hTK hA hB hp ra rb tA tB hz hg hlt hcm
        go_wp2_with fail
        refine HCM.out.mono ?_
        rintro e w2 ⟨rfl, hg2⟩
        have HT2 : Hid (Calls Tryz.prog 109 #[u4, u5] w2 fun e w' => ∃ v' K, e = .returned v' ∧ D4 w' v' K ∧ (∀ x ∈ K, x < B32) ∧ K.length ≤ 200000 ∧ nv B32 K = nv B32 A - nv B32 B' ∧ (w.alloc (wObj false eS)).grownBy w' none) := HTK.out w2 hg2
        clear HTK HCM hg2
        go_wp2_with fail
        refine HT2.out.mono ?_
        rintro e w3 ⟨v', K, rfl, h1, h2, h3, h4, h5⟩
        have hMD := madeP_any false w3 v' K h1 h2 (by omega)
        rw [h4] at hMD
        have HMD : Hid (Calls Tryz.prog 110 #[.bool false, v'] w3 fun e w' => Made false (nv B32 A - nv B32 B') e ∧ w3.grownBy w' none) := hMD
        have HG3 : Hid ((w.alloc (wObj false eS)).grownBy w3 none) := h5
        clear hMD h1 h2 h3 h4 h5 HT2
        go_wp2_with fail
        refine HMD.out.mono ?_
        rintro e w4 ⟨hM, hg4⟩
        have hZR := made_z (z := sumZ l) hM (by rw [HZ ()]; rfl)
        have HG4 : Hid ((w.alloc (wObj false eS)).grownBy w4 none) := grownBy_trans HG3.out hg4
        have hb : WBlk w4 w.heap.size (.bool false) (.string eS) := WBlk.kept (w := w.alloc (wObj false eS)) (heap_alloc_new _ _) HG4.out (by simp)
        have hc0 := hb.c0
        have hc1 := hb.c1
        have hf0 := hb.fr 0
        have hf1 := hb.fr 1
        obtain ⟨n', s', er, rfl⟩ : ∃ n' s' er, e = .returned (.tuple #[whole n' s', .int .i64 er]) := by
          rcases hM with ⟨_, s', rfl, _⟩ | ⟨_, rfl⟩
          · exact ⟨_, _, _, rfl⟩
          · exact ⟨_, _, _, rfl⟩
        have HZR : Hid (ZRes (sumZ l) (.returned (.tuple #[whole n' s', .int .i64 er]))) := hZR
        clear hM hg4 hZR HMD HG3
        go_wp2_with fail
        refine bodyPost_ret (res_cell_tmp rfl _ _ w.heap.size _ _ _ _ rfl (hb.put _ _)) rfl ?_
        exact ⟨HZR.out, grown_set (grown_set (grownBy_trans (grow1 _ _) HG4.out) (Nat.le_refl _)) (Nat.le_refl _)⟩
end Go.Proofs.YtdfliaogmlpefaaGreatDoor
