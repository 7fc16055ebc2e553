/-
  The law WordsLaws: its walk.
-/
import Derived.Test.YthldipnfaiobaabGreatDoorWlb
import Derived.Test.YthldipnfaiobaabGreatDoorCnj
namespace Go.Proofs.YthldipnfaiobaabGreatDoor
open Go.RowKit Go.Lib Go.Sort
set_option linter.unusedVariables false
set_option linter.unusedSimpArgs false
set_option maxHeartbeats 6400000
set_option maxRecDepth 1000000
def Wd (n : Nat) (L : List Int) : Prop := (∀ x ∈ L, noL x = false) ∧ L.length ≤ n
theorem Wd.chk {n : Nat} {L : List Int} (h : Wd n L) (hn : n ≤ 4096) : chk [L] = 0 := chk_sub h.1 (Nat.le_trans h.2 hn)
theorem Wd.sh {n : Nat} {L : List Int} (h : Wd n L) : Wd n (YthldipnfaiobaabGreatDoor.sh L) := ⟨fun x hx => h.1 x (sh_mem hx), Nat.le_trans (sh_len L) h.2⟩
theorem Wd.app {n k : Nat} {L M : List Int} (h : Wd n L) (g : Wd k M) : Wd (n + k) (L ++ M) := ⟨fun x hx => by
  rcases List.mem_append.1 hx with hx | hx
  · exact h.1 x hx
  · exact g.1 x hx, by have := h.2; have := g.2; simp; omega⟩
theorem Wd.inv {n : Nat} {L : List Int} (h : Wd n L) : Wd n (YthldipnfaiobaabGreatDoor.inv L) := ⟨inv_letters h.1, by rw [inv_len]; exact h.2⟩
theorem mul_ok (w : World) (x y : Value) (X Y : List Int) (hx : Ints w x X) (hy : Ints w y Y) (hX : Wd 2000 X) (hY : Wd 2000 Y) :
    Calls Tryz.prog 6 #[.slice (some ⟨w.heap.size, 0, none⟩) 2 2] (w.alloc (.cells #[x, y] 22)) fun e w' => ∃ r, e = .returned (.tuple #[r, .int .i64 0]) ∧ Ints w' r (sh (X ++ Y)) ∧ w.grownBy w' none := by
  have hc : chk [X, Y] = 0 := chk_which2 X Y (hX.chk (by omega)) (hY.chk (by omega))
  have hfl : [X, Y].flatten = X ++ Y := by simp
  have hl : (sh (X ++ Y)).length ≤ 4096 := Nat.le_trans (hX.app hY).sh.2 (by omega)
  have hE : mulE [X, Y] = 0 := by unfold mulE tldE; rw [if_pos hc, hfl, if_neg (by omega)]
  have hLl : mulL [X, Y] = sh (X ++ Y) := by unfold mulL tldL; rw [if_pos hc, hfl, if_neg (by omega)]
  refine (mul_top _ _ [X, Y] (intsL2 hx hy) (by simp) (fun L hL => by simp at hL; rcases hL with rfl | rfl; have := hX.2; omega; have := hY.2; omega)).mono ?_
  rintro e w' ⟨hg, r, rfl, hF⟩
  rw [hE]
  rw [hLl] at hF
  exact ⟨r, rfl, hF.ints, grownBy_trans (grow1 _ _) hg⟩
theorem conj_ok (w : World) (x y : Value) (X Y : List Int) (hx : Ints w x X) (hy : Ints w y Y) (hX : Wd 1000 X) (hY : Wd 1000 Y) :
    Calls Tryz.prog 12 #[x, y] w fun e w' => ∃ r, e = .returned (.tuple #[r, .int .i64 0]) ∧ Ints w' r (sh (inv Y ++ X ++ Y)) ∧ w.grownBy w' none := by
  have hc : chk [X, Y] = 0 := chk_which2 X Y (hX.chk (by omega)) (hY.chk (by omega))
  have hl : (sh (inv Y ++ X ++ Y)).length ≤ 4096 := Nat.le_trans ((hY.inv.app hX).app hY).sh.2 (by omega)
  have hE : cjE X Y = 0 := by unfold cjE tldE; rw [if_pos hc, if_neg (by omega)]
  have hLl : cjL X Y = sh (inv Y ++ X ++ Y) := by unfold cjL tldL; rw [if_pos hc, if_neg (by omega)]
  refine (conj_top w x y X Y hx hy (by have := hX.2; omega) (by have := hY.2; omega)).mono ?_
  rintro e w' ⟨hg, r, rfl, hF⟩
  rw [hE]
  rw [hLl] at hF
  exact ⟨r, rfl, hF.ints, hg⟩
theorem alike_ok (w : World) (x y : Value) (X Y : List Int) (hx : Ints w x X) (hy : Ints w y Y) (hX : Wd 4000 X) (hY : Wd 4000 Y) (m q : Nat) (hm : Cut (sh X) m) (hq : Cut (sh Y) q) :
    Calls Tryz.prog 13 #[x, y] w fun e w' => e = .returned (.tuple #[.bool (decide (Turn (coreOf (sh X) m) (coreOf (sh Y) q))), .int .i64 0]) ∧ w.grownBy w' none := by
  have hc : chk [X, Y] = 0 := chk_which2 X Y (hX.chk (by omega)) (hY.chk (by omega))
  have := alike_top w x y X Y m q hm hq hx hy (by have := hX.2; omega) (by have := hY.2; omega)
  rw [hc, show alB X Y m q = decide (Turn (coreOf (sh X) m) (coreOf (sh Y) q)) by unfold alB; rw [hc]; simp] at this
  exact this
theorem chk_vals (L : List Int) : chk [L] = 0 ∨ chk [L] = 2 ∨ chk [L] = 3 := by
  rw [chk_one]
  split
  · exact .inr (.inl rfl)
  · split
    · exact .inr (.inr rfl)
    · exact .inl rfl
theorem wlaws_none (w : World) (u v x : Value) (U V X : List Int) (hu : Ints w u U) (hv : Ints w v V) (hx : Ints w x X) (hl1 : U.length ≤ 1000000000000000) (hl2 : V.length ≤ 1000000000000000) (hl3 : X.length ≤ 1000000000000000) (ht : Tab w) (h : 600 < U.length + V.length + X.length ∨ chk [U] + chk [V] + chk [X] ≠ 0) :
    Calls Tryz.prog 3 #[u, v, x] w fun e w' => e = .returned (.bool true) ∧ w.grownBy w' none := by
  have HK := known_any w ht
  have HC1 : Hid (U.length ≤ 600 → ∀ w1, w.grownBy w1 none → Calls Tryz.prog 5 #[u] w1 fun e w' => e = .returned (.int .i64 (chk [U])) ∧ w' = w1) := fun hle w1 hg => rCheck_any w1 u U (hu.kept hg) (by omega)
  have HC2 : Hid (V.length ≤ 600 → ∀ w1, w.grownBy w1 none → Calls Tryz.prog 5 #[v] w1 fun e w' => e = .returned (.int .i64 (chk [V])) ∧ w' = w1) := fun hle w1 hg => rCheck_any w1 v V (hv.kept hg) (by omega)
  have HC3 : Hid (X.length ≤ 600 → ∀ w1, w.grownBy w1 none → Calls Tryz.prog 5 #[x] w1 fun e w' => e = .returned (.int .i64 (chk [X])) ∧ w' = w1) := fun hle w1 hg => rCheck_any w1 x X (hx.kept hg) (by omega)
  have b1 := chk_vals U
  have b2 := chk_vals V
  have b3 := chk_vals X
  obtain ⟨ua, uc, rfl, _⟩ := hu.reads
  obtain ⟨va, vc, rfl, _⟩ := hv.reads
  obtain ⟨xa, xc, rfl, _⟩ := hx.reads
  clear hu hv hx ht
  generalize chk [U] = r1 at *
  generalize chk [V] = r2 at *
  generalize chk [X] = r3 at *
  generalize U.length = n1 at *
  generalize V.length = n2 at *
  generalize X.length = n3 at *
  have i1 : (n1 : Int) ≤ 1000000000000000 := by omega
  have i2 : (n2 : Int) ≤ 1000000000000000 := by omega
  have i3 : (n3 : Int) ≤ 1000000000000000 := by omega
  by_cases hb : 600 < n1 + n2 + n3
  · have hbI : (600 : Int) < (n1 : Int) + n2 + n3 := by omega
    clear h b1 b2 b3
    go_enter Tryz.func3, Tryz.ntmps3
    go_wp2_with fail
    refine HK.mono ?_
    rintro e w2 ⟨rfl, g2⟩
    have G2 : Hid (w.grownBy w2 none) := g2
    clear g2
    go_wp2_with fail
    go_ret
    exact ⟨rfl, G2.out⟩
  · have hbI : (n1 : Int) + n2 + n3 ≤ 600 := by omega
    have hr : r1 + r2 + r3 ≠ 0 := by rcases h with h | h; exact absurd h hb; exact h
    have hrb : (r1 + r2 + r3 != 0) = true := by simpa using hr
    have j1 : 0 ≤ r1 := by omega
    have j2 : 0 ≤ r2 := by omega
    have j3 : 0 ≤ r3 := by omega
    have k1 : r1 ≤ 3 := by omega
    have k2 : r2 ≤ 3 := by omega
    have k3 : r3 ≤ 3 := by omega
    clear h b1 b2 b3 hr
    go_enter Tryz.func3, Tryz.ntmps3
    go_wp2_with fail
    refine HK.mono ?_
    rintro e w2 ⟨rfl, g2⟩
    have G2 : Hid (w.grownBy w2 none) := g2
    clear g2
    go_wp2_with fail
    refine (HC1.out (by omega) w2 G2.out).mono ?_
    rintro e nw ⟨rfl, hw⟩
    obtain rfl := hw.symm
    clear hw
    go_wp2_with fail
    refine (HC2.out (by omega) w2 G2.out).mono ?_
    rintro e nw ⟨rfl, hw⟩
    obtain rfl := hw.symm
    clear hw
    go_wp2_with fail
    refine (HC3.out (by omega) w2 G2.out).mono ?_
    rintro e nw ⟨rfl, hw⟩
    obtain rfl := hw.symm
    clear hw
    go_wp2_with fail
    go_ret
    exact ⟨rfl, G2.out⟩
end Go.Proofs.YthldipnfaiobaabGreatDoor
