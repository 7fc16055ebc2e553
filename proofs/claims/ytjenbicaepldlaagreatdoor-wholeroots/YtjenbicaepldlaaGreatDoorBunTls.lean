/-
  The walk over WholeTells.
  The walk over WholeSums.
  The walk over WholeTexts.
-/
import Derived.Test.YtjenbicaepldlaaGreatDoorWks
import Derived.Test.YtjenbicaepldlaaGreatDoorBunPrg
import Derived.Test.YtjenbicaepldlaaGreatDoorBunRed
import Derived.Test.YtjenbicaepldlaaGreatDoorBunWka
namespace Go.Proofs.YtjenbicaepldlaaGreatDoor
open Go.RowKit Go.Lib Go.Sort

theorem dw_one (w : World) (a : Bool) (x : ByteArray) : DW (w.alloc (.cells #[.bool a, .string x] 26)) (.slice (some ⟨w.heap.size, 0, none⟩) 1 1) [(a, x)] := by
  refine ⟨w.heap.size, 0, 1, rfl, by simp, fun j p hj => ?_⟩
  match j, hj with
  | 0, hj => simp at hj; subst hj; simp
  | j + 1, hj => simp at hj

end Go.Proofs.YtjenbicaepldlaaGreatDoor

namespace Go.Proofs.YtjenbicaepldlaaGreatDoor
open Go.RowKit Go.Lib Go.Sort

theorem sizes2 {n1 n2 : Bool} {m1 m2 : ByteArray} (z1 : m1.size ≤ maxLen) (z2 : m2.size ≤ maxLen) : ∀ p ∈ [(n1, m1), (n2, m2)], p.2.size ≤ maxLen := by
  intro p hp; simp at hp; rcases hp with rfl | rfl <;> assumption
/-- The law's long of two, at the law's own world. -/
theorem longTwo (n1 n2 : Bool) (m1 m2 : ByteArray) (z1 : m1.size ≤ maxLen) (z2 : m2.size ≤ maxLen) (w : World) :
    Hid (Calls Tryz.prog 7 #[.slice (some ⟨w.heap.size + 1 + 1, 0, none⟩) 2 2] (((w.alloc (wObj n1 m1)).alloc (wObj n2 m2)).alloc (.cells #[.bool n1, .string m1, .bool n2, .string m2] 26)) fun e w' => e = .returned (.bool (anyLong [(n1, m1), (n2, m2)])) ∧ (((w.alloc (wObj n1 m1)).alloc (wObj n2 m2)).alloc (.cells #[.bool n1, .string m1, .bool n2, .string m2] 26)).grownBy w' none) := by
  have e : ((w.alloc (wObj n1 m1)).alloc (wObj n2 m2)).heap.size = w.heap.size + 1 + 1 := by simp
  rw [← e]
  exact long_any _ _ _ (dw_two _ n1 n2 m1 m2) (by simp) (sizes2 z1 z2)
/-- The law's bad of two, behind a block. -/
theorem badTwo (n1 n2 : Bool) (m1 m2 : ByteArray) (z1 : m1.size ≤ maxLen) (z2 : m2.size ≤ maxLen) :
    Hid (∀ (w : World) (o : Obj), Calls Tryz.prog 11 #[.slice (some ⟨w.heap.size + 1, 0, none⟩) 2 2] ((w.alloc o).alloc (.cells #[.bool n1, .string m1, .bool n2, .string m2] 26)) fun e w' => e = .returned (.bool (!mayAll [(n1, m1), (n2, m2)])) ∧ ((w.alloc o).alloc (.cells #[.bool n1, .string m1, .bool n2, .string m2] 26)).grownBy w' none) := fun w o => by
  have e : (w.alloc o).heap.size = w.heap.size + 1 := by simp
  rw [← e]
  exact bad_any _ _ _ (dw_two _ n1 n2 m1 m2) (by simp) (sizes2 z1 z2)

theorem bl_of_lt {z : Nat} {k : Nat} (h : z < 256 ^ k) : bl z ≤ 8 * k := by
  refine bl_le ?_
  rw [Nat.pow_mul]
  exact h
theorem three_lt {x y z : Int} {k : Nat} (hk : 1 ≤ k) (a : x.natAbs < 256 ^ k) (b : y.natAbs < 256 ^ k) (hz : z = x + y ∨ z = x - y ∨ z = x * y) : z.natAbs < 256 ^ (k + k) := by
  have ht : 2 * 256 ^ k ≤ 256 ^ k * 256 ^ k := Nat.mul_le_mul_right _ (Nat.le_trans (by decide) (Nat.pow_le_pow_right (n := 256) (by decide) hk))
  rw [Nat.pow_add]
  generalize 256 ^ k = P at *
  rcases hz with rfl | rfl | rfl
  · omega
  · omega
  · rw [Int.natAbs_mul]
    exact Nat.mul_lt_mul'' a b
theorem three_small' {n1 n2 : Bool} {m1 m2 : ByteArray} {k : Nat} (hk : 1 ≤ k) (l1 : m1.size ≤ k) (l2 : m2.size ≤ k) {z : Int} (hz : z = num n1 m1 + num n2 m2 ∨ z = num n1 m1 - num n2 m2 ∨ z = num n1 m1 * num n2 m2) : bl z.natAbs ≤ 8 * (k + k) :=
  bl_of_lt (three_lt hk (Nat.lt_of_lt_of_le (num_lt n1 m1) (Nat.pow_le_pow_right (by decide) l1)) (Nat.lt_of_lt_of_le (num_lt n2 m2) (Nat.pow_le_pow_right (by decide) l2)) hz)
theorem three_small {n1 n2 : Bool} {m1 m2 : ByteArray} (h1 : may n1 m1 = true) (h2 : may n2 m2 = true) {z : Int} (hz : z = num n1 m1 + num n2 m2 ∨ z = num n1 m1 - num n2 m2 ∨ z = num n1 m1 * num n2 m2) : bl z.natAbs ≤ 10000000 := by
  have h := three_small' (k := 16384) (by omega) (may_size h1) (may_size h2) hz
  omega
/-- An answer, as the number z, with its parts. -/
def ZAns (z : Int) (n : Bool) (s : ByteArray) (er : Int) : Prop := ZRes z (.returned (.tuple #[whole n s, .int .i64 er]))
end Go.Proofs.YtjenbicaepldlaaGreatDoor

namespace Go.Proofs.YtjenbicaepldlaaGreatDoor
open Go.RowKit Go.Lib Go.Sort

/-- What Read answers: the program's and the document's. -/
def RdP (s : ByteArray) (n : Bool) (t : ByteArray) (er : Int) : Prop :=
  (isText s ∧ ZRes (textZ s) (.returned (.tuple #[whole n t, .int .i64 er]))) ∨ (¬ isText s ∧ n = false ∧ t = eS ∧ er = 120)
theorem sizes1 {n : Bool} {m : ByteArray} (z : m.size ≤ maxLen) : ∀ p ∈ [(n, m)], p.2.size ≤ maxLen := by
  intro p hp; simp at hp; subst hp; exact z
theorem longOne (n : Bool) (m : ByteArray) (z : m.size ≤ maxLen) (w : World) :
    Hid (Calls Tryz.prog 7 #[.slice (some ⟨w.heap.size + 1, 0, none⟩) 1 1] ((w.alloc (wObj n m)).alloc (.cells #[.bool n, .string m] 26)) fun e w' => e = .returned (.bool (isLong (n, m))) ∧ ((w.alloc (wObj n m)).alloc (.cells #[.bool n, .string m] 26)).grownBy w' none) := by
  have e : (w.alloc (wObj n m)).heap.size = w.heap.size + 1 := by simp
  rw [← e]
  have := long_any _ _ _ (dw_one (w.alloc (wObj n m)) n m) (by simp) (sizes1 z)
  simp only [anyLong, List.any_cons, List.any_nil, Bool.or_false] at this
  exact this
theorem badOne (n : Bool) (m : ByteArray) (z : m.size ≤ maxLen) :
    Hid (∀ w : World, Calls Tryz.prog 11 #[.slice (some ⟨w.heap.size, 0, none⟩) 1 1] (w.alloc (.cells #[.bool n, .string m] 26)) fun e w' => e = .returned (.bool (!may n m)) ∧ (w.alloc (.cells #[.bool n, .string m] 26)).grownBy w' none) := fun w => by
  have := bad_any _ _ _ (dw_one w n m) (by simp) (sizes1 z)
  simp only [mayAll, List.all_cons, List.all_nil, Bool.and_true] at this
  exact this
theorem badOne1 (n : Bool) (m : ByteArray) (z : m.size ≤ maxLen) :
    Hid (∀ (w : World) (o : Obj), Calls Tryz.prog 11 #[.slice (some ⟨w.heap.size + 1, 0, none⟩) 1 1] ((w.alloc o).alloc (.cells #[.bool n, .string m] 26)) fun e w' => e = .returned (.bool (!may n m)) ∧ ((w.alloc o).alloc (.cells #[.bool n, .string m] 26)).grownBy w' none) := fun w o => by
  have e : (w.alloc o).heap.size = w.heap.size + 1 := by simp
  rw [← e]
  exact (badOne n m z).out _

/-- A text of at most 1200 signs is no number too long. -/
theorem text_short {s : ByteArray} (h : s.size ≤ 1200) : bl (textZ s).natAbs ≤ 131072 ∨ ¬ isText s := by
  by_cases ht : isText s
  · left
    have hb := bare_size s
    have hd := dec_lt (bN (bare s)) ht.1.1
    have he : (textZ s).natAbs = dec (bN (bare s)) := by unfold textZ; split <;> simp
    rw [he]
    have hl := bN_length (bare s)
    generalize (bN (bare s)).length = k at *
    have h2 : 10 ^ k ≤ 16 ^ k := Nat.pow_le_pow_left (by decide) k
    have h4 : bl (dec (bN (bare s))) ≤ 4 * k := bl_le (by rw [Nat.pow_mul]; exact Nat.lt_of_lt_of_le hd h2)
    omega
  · exact .inr ht
/-- Both Reads say the same, of a text of at most 1200 signs. -/
theorem reads_same {s : ByteArray} (h : s.size ≤ 1200) {n n' : Bool} {t t' : ByteArray} {er er' : Int} (hp : RdP s n t er) (hd : RdRes s (.returned (.tuple #[whole n' t', .int .i64 er']))) : n = n' ∧ t = t' ∧ er = er' := by
  rcases hd with ⟨ht, n0, t0, e0, hz0⟩ | ⟨ht, e0⟩
  · have e1 := Ending.returned.inj e0
    simp at e1
    obtain ⟨⟨rfl, rfl⟩, rfl⟩ := e1
    rcases hp with ⟨_, hz⟩ | ⟨hn, _⟩
    · rcases hz with ⟨_, n1, t1, e2, hz1⟩ | ⟨hb, _⟩
      · have e3 := Ending.returned.inj e2
        simp at e3
        obtain ⟨⟨rfl, rfl⟩, rfl⟩ := e3
        exact ⟨hz1.1.trans hz0.1.symm, bN_inj (hz1.2.trans hz0.2.symm), rfl⟩
      · rcases text_short h with h1 | h1
        · omega
        · exact absurd ht h1
    · exact absurd ht hn
  · have e1 := Ending.returned.inj e0
    simp at e1
    obtain ⟨⟨rfl, rfl⟩, rfl⟩ := e1
    rcases hp with ⟨hn, _⟩ | ⟨_, rfl, rfl, rfl⟩
    · exact absurd hn ht
    · exact ⟨rfl, rfl, rfl⟩

/-- What Text answers of any number. -/
def TxP (neg : Bool) (mag t : ByteArray) (er : Int) : Prop := (may neg mag = true ∧ er = 0 ∧ TextOf (num neg mag) t) ∨ (may neg mag = false ∧ er = 2 ∧ t = eS)
theorem text_p (neg : Bool) (mag : ByteArray) (z : mag.size ≤ maxLen) (w : World) (htab : Lib.TabIs Tryz.prog w "internal/strconv.uint64pow10" .u64 Lib.pow10Tab) :
    Calls Tryz.prog 37 #[whole neg mag] w fun e w' => ∃ t er, e = .returned (.tuple #[.string t, .int .i64 er]) ∧ TxP neg mag t er ∧ w.grownBy w' none := by
  cases h : may neg mag
  · refine (text_no neg mag z h w).mono ?_
    rintro e w' ⟨rfl, hg⟩
    exact ⟨_, _, rfl, .inr ⟨h, rfl, rfl⟩, hg⟩
  · refine (text_yes neg mag h w htab).mono ?_
    rintro e w' ⟨t, rfl, ht, hg⟩
    exact ⟨_, _, rfl, .inl ⟨h, rfl, ht⟩, hg⟩

end Go.Proofs.YtjenbicaepldlaaGreatDoor
