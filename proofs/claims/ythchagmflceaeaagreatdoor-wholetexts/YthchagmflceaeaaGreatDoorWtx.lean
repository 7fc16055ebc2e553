/-
  The walk over WholeTexts.
-/
import Derived.Test.YthchagmflceaeaaGreatDoorRrd
import Derived.Test.YthchagmflceaeaaGreatDoorRty
import Derived.Test.YthchagmflceaeaaGreatDoorSms
namespace Go.Proofs.YthchagmflceaeaaGreatDoor
open Go.RowKit Go.Lib Go.Sort

/-- What Read answers: the program's and the document's. -/
def RdP (s : ByteArray) (n : Bool) (t : ByteArray) (er : Int) : Prop :=
  (isText s ∧ ZRes (textZ s) (.returned (.tuple #[whole n t, .int .i64 er]))) ∨ (¬ isText s ∧ n = false ∧ t = eS ∧ er = 120)
theorem read_p (s : ByteArray) (h9 : s.size ≤ 40000) (w : World) :
    Calls Tryz.prog 52 #[.string s] w fun e w' => ∃ n t er, e = .returned (.tuple #[whole n t, .int .i64 er]) ∧ RdP s n t er ∧ w.grownBy w' none := by
  by_cases h : isText s
  · refine (read_any s h9 h w).mono ?_
    rintro e w' ⟨hz, hg⟩
    obtain ⟨n, t, er, rfl⟩ := hz.ans
    exact ⟨n, t, er, rfl, .inl ⟨h, hz⟩, hg⟩
  · refine (read_not s h9 h w).mono ?_
    rintro e w' ⟨rfl, hg⟩
    exact ⟨_, _, _, rfl, .inr ⟨h, rfl, rfl, rfl⟩, hg⟩

theorem sizes1 {n : Bool} {m : ByteArray} (z : m.size ≤ maxLen) : ∀ p ∈ [(n, m)], p.2.size ≤ maxLen := by
  intro p hp; simp at hp; subst hp; exact z
theorem longOne (n : Bool) (m : ByteArray) (z : m.size ≤ maxLen) (w : World) :
    Hid (Calls Tryz.prog 28 #[.slice (some ⟨w.heap.size + 1, 0, none⟩) 1 1] ((w.alloc (wObj n m)).alloc (.cells #[.bool n, .string m] 23)) fun e w' => e = .returned (.bool (isLong (n, m))) ∧ ((w.alloc (wObj n m)).alloc (.cells #[.bool n, .string m] 23)).grownBy w' none) := by
  have e : (w.alloc (wObj n m)).heap.size = w.heap.size + 1 := by simp
  rw [← e]
  have := long_any _ _ _ (dw_one (w.alloc (wObj n m)) n m) (by simp) (sizes1 z)
  simp only [anyLong, List.any_cons, List.any_nil, Bool.or_false] at this
  exact this
theorem badOne (n : Bool) (m : ByteArray) (z : m.size ≤ maxLen) :
    Hid (∀ w : World, Calls Tryz.prog 15 #[.slice (some ⟨w.heap.size, 0, none⟩) 1 1] (w.alloc (.cells #[.bool n, .string m] 23)) fun e w' => e = .returned (.bool (!may n m)) ∧ (w.alloc (.cells #[.bool n, .string m] 23)).grownBy w' none) := fun w => by
  have := bad_any _ _ _ (dw_one w n m) (by simp) (sizes1 z)
  simp only [mayAll, List.all_cons, List.all_nil, Bool.and_true] at this
  exact this
theorem badOne1 (n : Bool) (m : ByteArray) (z : m.size ≤ maxLen) :
    Hid (∀ (w : World) (o : Obj), Calls Tryz.prog 15 #[.slice (some ⟨w.heap.size + 1, 0, none⟩) 1 1] ((w.alloc o).alloc (.cells #[.bool n, .string m] 23)) fun e w' => e = .returned (.bool (!may n m)) ∧ ((w.alloc o).alloc (.cells #[.bool n, .string m] 23)).grownBy w' none) := fun w o => by
  have e : (w.alloc o).heap.size = w.heap.size + 1 := by simp
  rw [← e]
  exact (badOne n m z).out _

set_option maxHeartbeats 3200000 in
set_option maxRecDepth 1000000 in
theorem texts_long (neg : Bool) (mag s : ByteArray) (z : mag.size ≤ maxLen) (zs : s.size ≤ maxLen) (hl : isLong (neg, mag) = true ∨ (1200 < s.size ∧ s.size ≤ 40000)) (w : World) (htab : Lib.TabIs Tryz.prog w "internal/strconv.uint64pow10" .u64 Lib.pow10Tab) :
    Calls Tryz.prog 8 #[whole neg mag, .string s] w fun e w' => e = .returned (.bool true) ∧ w.grownBy w' none := by
  obtain ⟨gp, hgp⟩ := pow10_g
  have HT : Hid (∀ w', w.grownBy w' none → Lib.TabIs Tryz.prog w' "internal/strconv.uint64pow10" .u64 Lib.pow10Tab) := fun w' hg => tab_kept hgp htab hg
  have HL := longOne neg mag z w
  unfold maxLen at zs
  have zsI : (s.size : Int) ≤ 9223372036854775807 := by omega
  cases hlb : isLong (neg, mag)
  · rw [hlb] at HL hl
    have hs1 : (1201 : Int) ≤ s.size := by rcases hl with h | h; simp at h; omega
    have hs2 : (s.size : Int) ≤ 40000 := by rcases hl with h | h; simp at h; omega
    clear htab hgp hl hlb
    go_enter Tryz.func8, Tryz.ntmps8
    go_wp2_with fail
    refine HL.out.mono ?_
    rintro e w1 ⟨rfl, g1⟩
    have G1 := grownBy_trans (grow2 _ _ _) g1
    clear g1 HL
    go_wp2_with fail
    refine (works_any _ (HT.out _ G1)).mono ?_
    rintro e w2 ⟨rfl, g2⟩
    have HG2 : Hid (w.grownBy w2 none) := grownBy_trans G1 g2
    clear G1 g2
    go_wp2_with fail
    go_ret
    exact ⟨rfl, HG2.out⟩
  · rw [hlb] at HL
    clear htab hgp hl hlb
    go_enter Tryz.func8, Tryz.ntmps8
    go_wp2_with fail
    refine HL.out.mono ?_
    rintro e w1 ⟨rfl, g1⟩
    have G1 := grownBy_trans (grow2 _ _ _) g1
    clear g1 HL
    go_wp2_with fail
    refine (works_any _ (HT.out _ G1)).mono ?_
    rintro e w2 ⟨rfl, g2⟩
    have HG2 : Hid (w.grownBy w2 none) := grownBy_trans G1 g2
    clear G1 g2
    go_wp2_with fail
    go_ret
    exact ⟨rfl, HG2.out⟩

/-- A text of at most 1200 signs is no number too long. -/
theorem text_short {s : ByteArray} (h : s.size ≤ 1200) : bl (textZ s).natAbs ≤ 131072 ∨ ¬ isText s := by
  by_cases ht : isText s
  · left
    have hb := bare_size s
    have hd := dec_lt (bN (bare s)) ht.1.1
    have he : (textZ s).natAbs = dec (bN (bare s)) := by unfold textZ; split <;> simp
    rw [he]
    have hl := bN_length (bare s)
    generalize (bN (bare s)).length = k at *
    have h2 : 10 ^ k ≤ 16 ^ k := Nat.pow_le_pow_left (by decide) k
    have h4 : bl (dec (bN (bare s))) ≤ 4 * k := bl_le (by rw [Nat.pow_mul]; exact Nat.lt_of_lt_of_le hd h2)
    omega
  · exact .inr ht
/-- Both Reads say the same, of a text of at most 1200 signs. -/
theorem reads_same {s : ByteArray} (h : s.size ≤ 1200) {n n' : Bool} {t t' : ByteArray} {er er' : Int} (hp : RdP s n t er) (hd : RdRes s (.returned (.tuple #[whole n' t', .int .i64 er']))) : n = n' ∧ t = t' ∧ er = er' := by
  rcases hd with ⟨ht, n0, t0, e0, hz0⟩ | ⟨ht, e0⟩
  · have e1 := Ending.returned.inj e0
    simp at e1
    obtain ⟨⟨rfl, rfl⟩, rfl⟩ := e1
    rcases hp with ⟨_, hz⟩ | ⟨hn, _⟩
    · rcases hz with ⟨_, n1, t1, e2, hz1⟩ | ⟨hb, _⟩
      · have e3 := Ending.returned.inj e2
        simp at e3
        obtain ⟨⟨rfl, rfl⟩, rfl⟩ := e3
        exact ⟨hz1.1.trans hz0.1.symm, bN_inj (hz1.2.trans hz0.2.symm), rfl⟩
      · rcases text_short h with h1 | h1
        · omega
        · exact absurd ht h1
    · exact absurd ht hn
  · have e1 := Ending.returned.inj e0
    simp at e1
    obtain ⟨⟨rfl, rfl⟩, rfl⟩ := e1
    rcases hp with ⟨hn, _⟩ | ⟨_, rfl, rfl, rfl⟩
    · exact absurd hn ht
    · exact ⟨rfl, rfl, rfl⟩

/-- What Text answers of any number. -/
def TxP (neg : Bool) (mag t : ByteArray) (er : Int) : Prop := (may neg mag = true ∧ er = 0 ∧ TextOf (num neg mag) t) ∨ (may neg mag = false ∧ er = 2 ∧ t = eS)
theorem text_p (neg : Bool) (mag : ByteArray) (z : mag.size ≤ maxLen) (w : World) (htab : Lib.TabIs Tryz.prog w "internal/strconv.uint64pow10" .u64 Lib.pow10Tab) :
    Calls Tryz.prog 51 #[whole neg mag] w fun e w' => ∃ t er, e = .returned (.tuple #[.string t, .int .i64 er]) ∧ TxP neg mag t er ∧ w.grownBy w' none := by
  cases h : may neg mag
  · refine (text_no neg mag z h w).mono ?_
    rintro e w' ⟨rfl, hg⟩
    exact ⟨_, _, rfl, .inr ⟨h, rfl, rfl⟩, hg⟩
  · refine (text_yes neg mag h w htab).mono ?_
    rintro e w' ⟨t, rfl, ht, hg⟩
    exact ⟨_, _, rfl, .inl ⟨h, rfl, ht⟩, hg⟩

set_option maxHeartbeats 6400000 in
set_option maxRecDepth 1000000 in
theorem texts_big (neg : Bool) (mag s : ByteArray) (z : mag.size ≤ maxLen) (zs : s.size ≤ maxLen) (hl : isLong (neg, mag) = false) (hs : 40000 < s.size) (w : World) (htab : Lib.TabIs Tryz.prog w "internal/strconv.uint64pow10" .u64 Lib.pow10Tab) :
    Calls Tryz.prog 8 #[whole neg mag, .string s] w fun e w' => e = .returned (.bool true) ∧ w.grownBy w' none := by
  obtain ⟨gp, hgp⟩ := pow10_g
  have HT : Hid (∀ w', w.grownBy w' none → Lib.TabIs Tryz.prog w' "internal/strconv.uint64pow10" .u64 Lib.pow10Tab) := fun w' hg => tab_kept hgp htab hg
  have HL := longOne neg mag z w
  rw [hl] at HL
  have HRd : Hid (∀ w, Calls Tryz.prog 52 #[.string s] w fun e w' => e = .returned (.tuple #[whole false eS, .int .i64 3]) ∧ w.grownBy w' none) := fun w => read_long s zs hs w
  have HTx : Hid (∀ w', w.grownBy w' none → Calls Tryz.prog 51 #[whole neg mag] w' fun e w'' => ∃ t er, e = .returned (.tuple #[.string t, .int .i64 er]) ∧ TxP neg mag t er ∧ w'.grownBy w'' none) := fun w' hg => text_p neg mag z w' (HT.out _ hg)
  have HB := badOne neg mag z
  have HB1 := badOne1 neg mag z
  unfold maxLen at zs
  have zsI : (s.size : Int) ≤ 9223372036854775807 := by omega
  have hsI : (40001 : Int) ≤ s.size := by omega
  have HKA : Hid (∀ w', (w.alloc (wObj neg mag)).grownBy w' none → w'.cell? ⟨w.heap.size, 0, none⟩ = some (Value.bool neg) ∧ w'.cell? ⟨w.heap.size, 1, none⟩ = some (Value.string mag)) := fun w' hg => ⟨(WBlk.kept (w := w.alloc (wObj neg mag)) (heap_alloc_new _ _) hg (by simp)).c0, (WBlk.kept (w := w.alloc (wObj neg mag)) (heap_alloc_new _ _) hg (by simp)).c1⟩
  clear htab hgp hl hs
  go_enter Tryz.func8, Tryz.ntmps8
  go_wp2_with fail
  refine HL.out.mono ?_
  rintro e w1 ⟨rfl, g1⟩
  have G1 : (w.alloc (wObj neg mag)).grownBy w1 none := grownBy_trans (grow1 _ _) g1
  obtain ⟨c0, c1⟩ := HKA.out _ G1
  clear g1 HL
  go_wp2_with fail
  refine (HTx.out _ (grownBy_trans (grow1 _ _) G1)).mono ?_
  rintro e w2 ⟨t, er, rfl, hTP, g2⟩
  have HTP : Hid (TxP neg mag t er) := hTP
  have G2 := grownBy_trans G1 g2
  clear hTP g2 G1 c0 c1 HTx
  go_wp2_with fail
  refine (HRd.out _).mono ?_
  rintro e w3 ⟨rfl, g3⟩
  have G3 := grownBy_trans G2 g3
  obtain ⟨c0, c1⟩ := HKA.out _ (grownBy_trans G3 (grow1 w3 (wObj false eS)))
  clear g3 G2 HRd
  go_wp2_with (go_at_call 16; refine (num_any _ _).mono ?_; rintro e w' ⟨rfl, rfl⟩)
  have GZ := G3
  clear G3
  refine (HB1.out _ _).mono ?_
  rintro e w5 ⟨rfl, g5⟩
  have G5 : (w.alloc (wObj neg mag)).grownBy w5 none := grownBy_trans GZ (grownBy_trans (grow2 _ _ _) g5)
  have HG5 : Hid ((w.alloc (wObj neg mag)).grownBy w5 none) := G5
  clear g5 GZ HB HB1 c0 c1
  rcases HTP.out with ⟨hm, rfl, hto⟩ | ⟨hm, rfl, rfl⟩
  · obtain ⟨c0, c1⟩ := HKA.out _ G5
    have HRT : Hid (∀ w, Calls Tryz.prog 54 #[whole neg mag] w fun e w' => e = .returned (.string t) ∧ w.grownBy w' none) := fun w => by
      refine (rText_any neg mag hm w).mono ?_
      rintro e w' ⟨t', rfl, ht', hg⟩
      rw [hto.one ht']
      exact ⟨rfl, hg⟩
    rw [hm]
    clear G5 hto
    go_wp2_with fail
    refine (HRT.out _).mono ?_
    rintro e w6 ⟨rfl, g6⟩
    have HG6 : Hid ((w.alloc (wObj neg mag)).grownBy w6 none) := grownBy_trans HG5.out g6
    clear g6 c0 c1
    go_wp2_with (go_at_call 16; refine (num_any _ _).mono ?_; rintro e w' ⟨rfl, rfl⟩)
    refine (works_any _ (HT.out _ (grownBy_trans (grow1 _ _) HG6.out))).mono ?_
    rintro e w7 ⟨rfl, g7⟩
    have HG7 : Hid (w.grownBy w7 none) := grownBy_trans (grow1 _ _) (grownBy_trans HG6.out g7)
    clear g7
    go_wp2_with fail
    go_ret
    exact ⟨rfl, HG7.out⟩
  · rw [hm]
    clear G5
    go_wp2_with (go_at_call 16; refine (num_any _ _).mono ?_; rintro e w' ⟨rfl, rfl⟩)
    refine (works_any _ (HT.out _ (grownBy_trans (grow1 _ _) HG5.out))).mono ?_
    rintro e w7 ⟨rfl, g7⟩
    have HG7 : Hid (w.grownBy w7 none) := grownBy_trans (grow1 _ _) (grownBy_trans HG5.out g7)
    clear g7
    go_wp2_with fail
    go_ret
    exact ⟨rfl, HG7.out⟩

set_option maxHeartbeats 6400000 in
set_option maxRecDepth 1000000 in
theorem texts_short (neg : Bool) (mag s : ByteArray) (z : mag.size ≤ maxLen) (hl : isLong (neg, mag) = false) (hs : s.size ≤ 1200) (w : World) (htab : Lib.TabIs Tryz.prog w "internal/strconv.uint64pow10" .u64 Lib.pow10Tab) :
    Calls Tryz.prog 8 #[whole neg mag, .string s] w fun e w' => e = .returned (.bool true) ∧ w.grownBy w' none := by
  obtain ⟨gp, hgp⟩ := pow10_g
  have HT : Hid (∀ w', w.grownBy w' none → Lib.TabIs Tryz.prog w' "internal/strconv.uint64pow10" .u64 Lib.pow10Tab) := fun w' hg => tab_kept hgp htab hg
  have HL := longOne neg mag z w
  rw [hl] at HL
  have HRd : Hid (∀ w, Calls Tryz.prog 52 #[.string s] w fun e w' => ∃ n t er, e = .returned (.tuple #[whole n t, .int .i64 er]) ∧ RdP s n t er ∧ w.grownBy w' none) := fun w => read_p s (by omega) w
  have HRR : Hid (∀ n t er w, RdP s n t er → Calls Tryz.prog 53 #[.string s] w fun e w' => e = .returned (.tuple #[whole n t, .int .i64 er]) ∧ w.grownBy w' none) := (by
    intro n t er w hp
    refine (rRead_any s (by omega) w).mono ?_
    rintro e w' ⟨hd, hg⟩
    obtain ⟨n', t', er', rfl⟩ : ∃ n' t' er', e = .returned (.tuple #[whole n' t', .int .i64 er']) := by
      rcases hd with ⟨_, n', t', rfl, _⟩ | ⟨_, rfl⟩ <;> exact ⟨_, _, _, rfl⟩
    obtain ⟨rfl, rfl, rfl⟩ := reads_same hs hp hd
    exact ⟨rfl, hg⟩)
  have HTx : Hid (∀ w', w.grownBy w' none → Calls Tryz.prog 51 #[whole neg mag] w' fun e w'' => ∃ t er, e = .returned (.tuple #[.string t, .int .i64 er]) ∧ TxP neg mag t er ∧ w'.grownBy w'' none) := fun w' hg => text_p neg mag z w' (HT.out _ hg)
  have HB := badOne neg mag z
  have HB1 := badOne1 neg mag z
  have hsI : (s.size : Int) ≤ 1200 := by omega
  have HKA : Hid (∀ w', (w.alloc (wObj neg mag)).grownBy w' none → w'.cell? ⟨w.heap.size, 0, none⟩ = some (Value.bool neg) ∧ w'.cell? ⟨w.heap.size, 1, none⟩ = some (Value.string mag)) := fun w' hg => ⟨(WBlk.kept (w := w.alloc (wObj neg mag)) (heap_alloc_new _ _) hg (by simp)).c0, (WBlk.kept (w := w.alloc (wObj neg mag)) (heap_alloc_new _ _) hg (by simp)).c1⟩
  clear htab hgp hl hs
  go_enter Tryz.func8, Tryz.ntmps8
  go_wp2_with fail
  refine HL.out.mono ?_
  rintro e w1 ⟨rfl, g1⟩
  have G1 : (w.alloc (wObj neg mag)).grownBy w1 none := grownBy_trans (grow1 _ _) g1
  obtain ⟨c0, c1⟩ := HKA.out _ G1
  clear g1 HL
  go_wp2_with fail
  refine (HTx.out _ (grownBy_trans (grow1 _ _) G1)).mono ?_
  rintro e w2 ⟨t, er, rfl, hTP, g2⟩
  have HTP : Hid (TxP neg mag t er) := hTP
  have G2 := grownBy_trans G1 g2
  clear hTP g2 G1 c0 c1 HTx
  go_wp2_with fail
  refine (HRd.out _).mono ?_
  rintro e w3 ⟨rn, rs, re, rfl, hRP, g3⟩
  have HRP : Hid (RdP s rn rs re) := hRP
  have G3 := grownBy_trans G2 g3
  clear g3 G2 HRd hRP
  go_wp2_with fail
  refine (HRR.out rn rs re _ HRP.out).mono ?_
  rintro e w4 ⟨rfl, g4⟩
  have b4 : WBlk w4 w3.heap.size (.bool rn) (.string rs) := WBlk.kept (heap_alloc_new _ _) g4 (by simp)
  have G4 := grownBy_trans G3 (grownBy_trans (grow1 _ _) g4)
  have b5 := b4.kept (grow1 w4 (wObj rn rs)) (by simp)
  have d0 := b5.c0
  have d1 := b5.c1
  obtain ⟨c0, c1⟩ := HKA.out _ (grownBy_trans G4 (grow1 w4 (wObj rn rs)))
  clear g4 G3 HRR b4 b5
  go_wp2_with (go_at_call 16; refine (num_any _ _).mono ?_; rintro e w' ⟨rfl, rfl⟩)
  have GZ := G4
  clear G4 d0 d1
  refine (HB1.out _ _).mono ?_
  rintro e w5 ⟨rfl, g5⟩
  have G5 : (w.alloc (wObj neg mag)).grownBy w5 none := grownBy_trans GZ (grownBy_trans (grow2 _ _ _) g5)
  have HG5 : Hid ((w.alloc (wObj neg mag)).grownBy w5 none) := G5
  clear g5 GZ HB HB1 c0 c1
  rcases HTP.out with ⟨hm, rfl, hto⟩ | ⟨hm, rfl, rfl⟩
  · obtain ⟨c0, c1⟩ := HKA.out _ G5
    have HRT : Hid (∀ w, Calls Tryz.prog 54 #[whole neg mag] w fun e w' => e = .returned (.string t) ∧ w.grownBy w' none) := fun w => by
      refine (rText_any neg mag hm w).mono ?_
      rintro e w' ⟨t', rfl, ht', hg⟩
      rw [hto.one ht']
      exact ⟨rfl, hg⟩
    rw [hm]
    clear G5 hto
    go_wp2_with fail
    refine (HRT.out _).mono ?_
    rintro e w6 ⟨rfl, g6⟩
    have HG6 : Hid ((w.alloc (wObj neg mag)).grownBy w6 none) := grownBy_trans HG5.out g6
    clear g6 c0 c1
    go_wp2_with (go_at_call 16; refine (num_any _ _).mono ?_; rintro e w' ⟨rfl, rfl⟩)
    refine (works_any _ (HT.out _ (grownBy_trans (grow1 _ _) HG6.out))).mono ?_
    rintro e w7 ⟨rfl, g7⟩
    have HG7 : Hid (w.grownBy w7 none) := grownBy_trans (grow1 _ _) (grownBy_trans HG6.out g7)
    clear g7
    go_wp2_with fail
    go_ret
    exact ⟨rfl, HG7.out⟩
  · rw [hm]
    clear G5
    go_wp2_with (go_at_call 16; refine (num_any _ _).mono ?_; rintro e w' ⟨rfl, rfl⟩)
    refine (works_any _ (HT.out _ (grownBy_trans (grow1 _ _) HG5.out))).mono ?_
    rintro e w7 ⟨rfl, g7⟩
    have HG7 : Hid (w.grownBy w7 none) := grownBy_trans (grow1 _ _) (grownBy_trans HG5.out g7)
    clear g7
    go_wp2_with fail
    go_ret
    exact ⟨rfl, HG7.out⟩

theorem texts_any (neg : Bool) (mag s : ByteArray) (z : mag.size ≤ maxLen) (zs : s.size ≤ maxLen) (w : World) (htab : Lib.TabIs Tryz.prog w "internal/strconv.uint64pow10" .u64 Lib.pow10Tab) :
    Calls Tryz.prog 8 #[whole neg mag, .string s] w fun e w' => e = .returned (.bool true) ∧ w.grownBy w' none := by
  by_cases hl : isLong (neg, mag) = true ∨ (1200 < s.size ∧ s.size ≤ 40000)
  · exact texts_long neg mag s z zs hl w htab
  · have h1 : isLong (neg, mag) = false := by cases h : isLong (neg, mag) <;> simp_all
    by_cases hs : s.size ≤ 1200
    · exact texts_short neg mag s z h1 hs w htab
    · exact texts_big neg mag s z zs h1 (by omega) w htab
end Go.Proofs.YthchagmflceaeaaGreatDoor
