/-
  FracSums of any two.
-/
import Derived.Test.YtgemkfiippooeaaGreatDoorBunFsa
import Derived.Test.YtgemkfiippooeaaGreatDoorFsd
import Derived.Test.YtgemkfiippooeaaGreatDoorFse2
import Derived.Test.YtgemkfiippooeaaGreatDoorBunFrp
import Derived.Test.YtgemkfiippooeaaGreatDoorBunFrz
namespace Go.Proofs.YtgemkfiippooeaaGreatDoor
open Go.RowKit Go.Lib Go.Sort
set_option linter.unusedVariables false

theorem mayq_is {n d b : Bool} {s t : ByteArray} (z1 : s.size ≤ maxLen) (z2 : t.size ≤ maxLen) (h : mayQ n s d t = b) (w : World) :
    Calls Tryz.prog 15 #[frac n s d t] w fun e w' => e = .returned (.bool b) ∧ w.grownBy w' none := by
  have := mayq_any n d s t z1 z2 w
  rw [h] at this
  exact this
theorem rmayq_is {n d b : Bool} {s t : ByteArray} (z1 : s.size ≤ maxLen) (z2 : t.size ≤ maxLen) (h : mayQ n s d t = b) (w : World) :
    Calls Tryz.prog 9 #[frac n s d t] w fun e w' => e = .returned (.bool b) ∧ w.grownBy w' none := by
  have := rmayq_any n d s t z1 z2 w
  rw [h] at this
  exact this
theorem lt_up {z : Int} {k : Nat} (h : z.natAbs < 256 ^ k) : z.natAbs < 256 ^ (k + 1) := Nat.lt_of_lt_of_le h (Nat.pow_le_pow_right (by decide) (Nat.le_succ _))
theorem Low.fit {k : Nat} {x y : Int} {n d : Bool} {s t : ByteArray} (h : Low x y n s d t) (hk : k ≤ 16384) (hx : x.natAbs < 256 ^ k) (hy : y.natAbs < 256 ^ k) : s.size ≤ maxLen ∧ t.size ≤ maxLen := by
  obtain ⟨a, b, za⟩ := isz_ex x
  obtain ⟨c, e, zb⟩ := isz_ex y
  have := h.size (za.sz hx) (zb.sz hy)
  unfold maxLen
  omega
theorem IsQ.nought {v : Int} {n d : Bool} {s t : ByteArray} (h : IsQ 0 v n s d t) : n = false ∧ s = eS := whole_inj (h.zn.1.one zero_z)
set_option maxHeartbeats 1600000 in
theorem sums_any (n d n2 d2 : Bool) (s t s2 t2 : ByteArray) (z1 : s.size ≤ maxLen) (z2 : t.size ≤ maxLen) (z3 : s2.size ≤ maxLen) (z4 : t2.size ≤ maxLen) (w : World) (htab : Lib.TabIs Tryz.prog w "internal/strconv.uint64pow10" .u64 Lib.pow10Tab) :
    Calls Tryz.prog 3 #[frac n s d t, frac n2 s2 d2 t2] w fun e w' => e = .returned (.bool true) ∧ w.grownBy w' none := by
  have HK := known_in htab
  have hsz : ∀ p ∈ [(n, s, d, t), (n2, s2, d2, t2)], p.2.1.size ≤ maxLen ∧ p.2.2.2.size ≤ maxLen := by
    intro p hp
    simp at hp
    rcases hp with rfl | rfl
    · exact ⟨z1, z2⟩
    · exact ⟨z3, z4⟩
  by_cases hl : (s.size ≤ 1100 ∧ t.size ≤ 1100) ∧ (s2.size ≤ 1100 ∧ t2.size ≤ 1100)
  · have HL : Hid (∀ (W : World) (B : Nat), W.heap[B]? = some (.cells #[.bool n, .string s, .bool d, .string t, .bool n2, .string s2, .bool d2, .string t2] 25 (0, 0)) → Calls Tryz.prog 7 #[.int .i64 1100, .slice (some ⟨B, 0, none⟩) 2 2] W fun e w' => e = .returned (.bool false) ∧ W.grownBy w' none) := fun W B hB => by
      refine longq_no 1100 (by decide) W _ _ (dq_two hB) (by simp) ?_
      intro p hp
      simp at hp
      rcases hp with rfl | rfl
      · exact ⟨by show (s.size : Int) ≤ 1100; omega, by show (t.size : Int) ≤ 1100; omega⟩
      · exact ⟨by show (s2.size : Int) ≤ 1100; omega, by show (t2.size : Int) ≤ 1100; omega⟩
    have HM : ∀ p q : Bool, mayQ n s d t = p → mayQ n2 s2 d2 t2 = q → Hid (∀ a b c f r (w : World), (a = n ∧ b = s ∧ c = d ∧ f = t ∧ r = p) ∨ (a = n2 ∧ b = s2 ∧ c = d2 ∧ f = t2 ∧ r = q) → Calls Tryz.prog 9 #[frac a b c f] w fun e w' => e = .returned (.bool r) ∧ w.grownBy w' none) := by
      intro p q hp hq a b c f r w h
      rcases h with ⟨rfl, rfl, rfl, rfl, rfl⟩ | ⟨rfl, rfl, rfl, rfl, rfl⟩
      · exact rmayq_is z1 z2 hp w
      · exact rmayq_is z3 z4 hq w
    have HP : ∀ p q : Bool, mayQ n s d t = p → mayQ n2 s2 d2 t2 = q → Hid (∀ a b c f r (w : World), (a = n ∧ b = s ∧ c = d ∧ f = t ∧ r = p) ∨ (a = n2 ∧ b = s2 ∧ c = d2 ∧ f = t2 ∧ r = q) → Calls Tryz.prog 15 #[frac a b c f] w fun e w' => e = .returned (.bool r) ∧ w.grownBy w' none) := by
      intro p q hp hq a b c f r w h
      rcases h with ⟨rfl, rfl, rfl, rfl, rfl⟩ | ⟨rfl, rfl, rfl, rfl, rfl⟩
      · exact mayq_is z1 z2 hp w
      · exact mayq_is z3 z4 hq w
    cases hx : mayQ n s d t
    · cases hy : mayQ n2 s2 d2 t2
      · have hb : (mayQ n s d t && mayQ n2 s2 d2 t2) = false := by rw [hx]; rfl
        exact sums_bad3 n d n2 d2 s t s2 t2 w HL (HM _ _ hx hy) (HP _ _ hx hy) (fun w => fadd_bad n d n2 d2 s t s2 t2 z1 z2 z3 z4 hb w) (fun w => fsub_bad n d n2 d2 s t s2 t2 z1 z2 z3 z4 hb w) (fun w => fmul_bad n d n2 d2 s t s2 t2 z1 z2 z3 z4 hb w) (fun w => fdiv_bad n d n2 d2 s t s2 t2 z1 z2 z3 z4 hb w) (fun w => fcmp_bad n d n2 d2 false false s t s2 t2 rfl (HP _ _ hx hy) w) (fun w => told_no n d s t w) HK
      · have hb : (mayQ n s d t && mayQ n2 s2 d2 t2) = false := by rw [hx]; rfl
        exact sums_bad1 n d n2 d2 s t s2 t2 w HL (HM _ _ hx hy) (HP _ _ hx hy) (fun w => fadd_bad n d n2 d2 s t s2 t2 z1 z2 z3 z4 hb w) (fun w => fsub_bad n d n2 d2 s t s2 t2 z1 z2 z3 z4 hb w) (fun w => fmul_bad n d n2 d2 s t s2 t2 z1 z2 z3 z4 hb w) (fun w => fdiv_bad n d n2 d2 s t s2 t2 z1 z2 z3 z4 hb w) (fun w => fcmp_bad n d n2 d2 false true s t s2 t2 rfl (HP _ _ hx hy) w) (fun w => told_no n d s t w) HK
    · cases hy : mayQ n2 s2 d2 t2
      · have hb : (mayQ n s d t && mayQ n2 s2 d2 t2) = false := by rw [hy, Bool.and_false]
        exact sums_bad2 n d n2 d2 s t s2 t2 w HL (HM _ _ hx hy) (HP _ _ hx hy) (fun w => fadd_bad n d n2 d2 s t s2 t2 z1 z2 z3 z4 hb w) (fun w => fsub_bad n d n2 d2 s t s2 t2 z1 z2 z3 z4 hb w) (fun w => fmul_bad n d n2 d2 s t s2 t2 z1 z2 z3 z4 hb w) (fun w => fdiv_bad n d n2 d2 s t s2 t2 z1 z2 z3 z4 hb w) (fun w => fcmp_bad n d n2 d2 true false s t s2 t2 rfl (HP _ _ hx hy) w) (fun w => told_no n d s t w) HK
      · have h1 := mayQ_is hx
        have h2 := mayQ_is hy
        have HM' := HM _ _ hx hy
        have HP' := HP _ _ hx hy
        have hsg : num n2 s2 ≠ 0 → ¬ sgn n2 s2 = 0 := fun h => sgn_ne (h2.zn.may (by decide)) h
        clear HM HP
        generalize num n s = x at *
        generalize num d t = y at *
        generalize num n2 s2 = u at *
        generalize num d2 t2 = v at *
        obtain ⟨na, sa, da, ta, La⟩ := low_ex (x * v + u * y) (y * v)
        obtain ⟨nb, sb, db, tb, Lb⟩ := low_ex (x * v - u * y) (y * v)
        obtain ⟨nc, sc, dc, tc, Lc⟩ := low_ex (x * u) (y * v)
        have kxv := mul_lt256 h1.zn.2 h2.zd.2
        have kuy := mul_lt256 h2.zn.2 h1.zd.2
        have kyv := mul_lt256 h1.zd.2 h2.zd.2
        have kxu := mul_lt256 h1.zn.2 h2.zn.2
        have kyu := mul_lt256 h1.zd.2 h2.zn.2
        have jxv := lt_up kxv
        have jyv := lt_up kyv
        have jxu := lt_up kxu
        have jyu := lt_up kyu
        have sza : sa.size ≤ maxLen ∧ ta.size ≤ maxLen := La.fit (by decide) (sum_lt kxv kuy).1 jyv
        have szb : sb.size ≤ maxLen ∧ tb.size ≤ maxLen := Lb.fit (by decide) (sum_lt kxv kuy).2 jyv
        have szc : sc.size ≤ maxLen ∧ tc.size ≤ maxLen := Lc.fit (by decide) jxu jyv
        by_cases hu : u = 0
        · subst hu
          obtain ⟨rfl, rfl⟩ := h2.nought
          exact sums_zero n d false d2 _ _ na da _ _ nb db _ _ nc dc s t eS t2 _ _ sa ta _ _ sb tb _ _ sc tc _ _ _ _ w HL HM' HP' (fun w => fadd_any h1 h2 La w) (fun w => fsub_any h1 h2 Lb w) (fun w => fmul_any h1 h2 Lc w) (fun w => fdiv_zero h1 h2 w) (fun w => fcmp_any h1 h2 w) (fun w => rplusq_any h1 h2 La w) (fun w => told_yes na da sa ta sza.1 sza.2 w) (fun w => rminusq_any h1 h2 Lb w) (fun w => told_yes nb db sb tb szb.1 szb.2 w) (fun w => rtimesq_any h1 h2 Lc w) (fun w => told_yes nc dc sc tc szc.1 szc.2 w) (fun w => rcmpq_any h1 h2 w) (fun w => rsignq_any false d2 eS t2 w) HK
        · obtain ⟨ne, se, de, te, Le⟩ := low_ex (x * v) (y * u)
          have sze : se.size ≤ maxLen ∧ te.size ≤ maxLen := Le.fit (by decide) jxv jyu
          exact sums_yes n d n2 d2 _ _ na da _ _ nb db _ _ nc dc _ _ ne de s t s2 t2 _ _ sa ta _ _ sb tb _ _ sc tc _ _ se te _ _ _ _ _ _ (hsg hu) w HL HM' HP' (fun w => fadd_any h1 h2 La w) (fun w => fsub_any h1 h2 Lb w) (fun w => fmul_any h1 h2 Lc w) (fun w => fdiv_any h1 h2 hu Le w) (fun w => fcmp_any h1 h2 w) (fun w => rplusq_any h1 h2 La w) (fun w => told_yes na da sa ta sza.1 sza.2 w) (fun w => rminusq_any h1 h2 Lb w) (fun w => told_yes nb db sb tb szb.1 szb.2 w) (fun w => rtimesq_any h1 h2 Lc w) (fun w => told_yes nc dc sc tc szc.1 szc.2 w) (fun w => roverq_any h1 h2 hu Le w) (fun w => told_yes ne de se te sze.1 sze.2 w) (fun w => rcmpq_any h1 h2 w) (fun w => rsignq_any n2 d2 s2 t2 w) HK
  · refine sums_long n d n2 d2 s t s2 t2 w (fun W B hB => longq_yes 1100 (by decide) W _ _ (dq_two hB) (by simp) hsz ?_) HK
    by_cases h1 : s.size ≤ 1100 ∧ t.size ≤ 1100
    · exact ⟨(n2, s2, d2, t2), by simp, by show (1100 : Int) < (s2.size : Int) ∨ (1100 : Int) < (t2.size : Int); omega⟩
    · exact ⟨(n, s, d, t), by simp, by show (1100 : Int) < (s.size : Int) ∨ (1100 : Int) < (t.size : Int); omega⟩
end Go.Proofs.YtgemkfiippooeaaGreatDoor
