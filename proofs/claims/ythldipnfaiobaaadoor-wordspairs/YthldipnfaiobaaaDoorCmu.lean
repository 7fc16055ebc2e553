/-
  The order of words: shorterFirst, its closure, Cmp.
-/
import Derived.Test.YthldipnfaiobaaaDoorCmt
import Derived.Test.YthldipnfaiobaaaDoorCnj
namespace Go.Proofs.YthldipnfaiobaaaDoor
open Go.RowKit Go.Lib Go.Sort
set_option linter.unusedVariables false
set_option linter.unusedSimpArgs false
set_option maxHeartbeats 1600000
set_option maxRecDepth 1000000
theorem shorterFirst_any (w : World) : Calls Tryd.prog 69 #[.func (.func 70) #[] #[]] w fun e w' => ∃ p, e = .returned (.func (.func 97) #[] #[.pointer (some p)]) ∧ w'.cell? p = some (.func (.func 70) #[] #[]) ∧ w.grownBy w' none := by
  go_enter Tryd.func69, Tryd.ntmps69
  go_wp2
  go_ret
  exact ⟨_, rfl, by simp, grow1 _ _⟩
def cpL (V U : List Int) : Int := if cmp3 (V.length : Int) (U.length : Int) = 0 then cfL V U else cmp3 (V.length : Int) (U.length : Int)
theorem shorter_any (w : World) (v u : Value) (V U : List Int) (p : Addr) (hV : Ints w v V) (hU : Ints w u U) (hl : V.length ≤ 1000000) (hl2 : U.length ≤ 1000000) (hVn : ∀ x ∈ V, noL x = false) (hUn : ∀ x ∈ U, noL x = false) (hp : w.cell? p = some (.func (.func 70) #[] #[])) :
    Calls Tryd.prog 97 #[v, u, .pointer (some p)] w fun e w' => e = .returned (.int .i64 (cpL V U)) ∧ w.grownBy w' none := by
  obtain ⟨g, o, sp⟩ := p
  have hs : sp = none := World.cell?_spot hp
  subst hs
  have HC : Hid (∀ w', w.grownBy w' none → Calls Tryd.prog 100 #[v, u, .func (.func 70) #[] #[]] w' fun e w2 => e = .returned (.int .i64 (cfL V U)) ∧ w'.grownBy w2 none) := fun w' hg => compareFunc_any w' v u V U (hV.kept hg) (hU.kept hg) hl hl2 hVn hUn
  obtain ⟨ab, c, rfl, _⟩ := hV.reads
  obtain ⟨ub, uc, rfl, _⟩ := hU.reads
  have HO : Hid (cpL V U = if cmp3 (V.length : Int) (U.length : Int) = 0 then cfL V U else cmp3 (V.length : Int) (U.length : Int)) := rfl
  generalize cpL V U = r at *
  generalize cfL V U = q at *
  generalize V.length = n at *
  generalize U.length = k at *
  have HZ : Hid (∀ w', w.grownBy w' none → w'.cell? ⟨g, o, none⟩ = some (Value.func (.func 70) #[] #[])) := fun w' hg => grownBy_cell hg hp (by simp)
  obtain ⟨c1, hc1⟩ : ∃ c1, cmp3 (n : Int) (k : Int) = c1 := ⟨_, rfl⟩
  have HCm : Hid (∀ w' : World, Calls Tryd.prog 99 #[.int .i64 (n : Int), .int .i64 (k : Int)] w' fun e w2 => e = .returned (.int .i64 c1) ∧ w2 = w') := fun w' => by
    have := compare_any (n : Int) (k : Int) w'
    rw [hc1] at this
    exact this
  rw [hc1] at HO
  have HOr : Hid (∀ w1 : World, Calls Tryd.prog 98 #[.slice (some ⟨w1.heap.size, 0, none⟩) 2 2] (w1.alloc (.cells #[.int .i64 c1, .int .i64 q] 3)) fun e w' => e = .returned (.int .i64 r) ∧ w1.grownBy w' none) := fun w1 => by
    have := or_two w1 c1 q
    rw [← HO.out] at this
    exact this
  clear hV hU hVn hUn hc1 HO
  have G0 : Hid (w.grownBy w none) := grow0 w
  go_enter Tryd.func97, Tryd.ntmps97
  go_wp2_with fail
  go_region_held3 (fun w' => w'.cell? ⟨g, o, none⟩ = some (Value.func (.func 70) #[] #[])) (first | with_reducible exact HZ.out _ G2.out | with_reducible exact HZ.out _ G1.out | with_reducible exact HZ.out _ (grownBy_trans G1.out (grow1 _ _)) | (go_keep; done) | fail) (first
    | (go_at_call 99; refine (HCm.out _).mono ?_; rintro e nw ⟨rfl, rfl⟩)
    | (go_at_call 100; refine (HC.out _ (grow_drew (World.grownBy.refl _ _))).mono ?_; rintro e w1 ⟨rfl, g1⟩; have G1 : Hid (w.grownBy w1 none) := grownBy_undrew g1; clear g1)
    | (go_at_call 98; refine (HOr.out _).mono ?_; rintro e w2 ⟨rfl, g2⟩; have G2 : Hid (w.grownBy w2 none) := grownBy_trans G1.out g2; clear g2)
    | fail)
  all_goals (
    go_wp2_with fail
    go_ret
    exact ⟨rfl, G2.out⟩)
theorem cmp_top (w : World) (v u : Value) (L B : List Int) (h : Ints w v L) (hu : Ints w u B) (hl : L.length ≤ 1000000000000) (hl2 : B.length ≤ 1000000000000) :
    Calls Tryd.prog 36 #[v, u] w fun e w' => e = .returned (.tuple #[.int .i64 (if chk [L, B] = 0 then cpL L B else 0), .int .i64 (chk [L, B])]) ∧ w.grownBy w' none := by
  have HC := checked_two w v u L B h hu hl hl2
  have HOk : Hid (chk [L, B] = 0 → (L.any noL = false ∧ L.length ≤ 4096) ∧ (B.any noL = false ∧ B.length ≤ 4096)) := fun h0 => ⟨chk_ok h0 L (by simp), chk_ok h0 B (by simp)⟩
  have HSh : Hid (chk [L, B] = 0 → ∀ w1 p, w.grownBy w1 none → w1.cell? p = some (.func (.func 70) #[] #[]) → Calls Tryd.prog 97 #[v, u, .pointer (some p)] w1 fun e w' => e = .returned (.int .i64 (cpL L B)) ∧ w1.grownBy w' none) := by
    intro h0 w1 p hg hp
    have hh := HOk.out h0
    exact shorter_any w1 v u L B p (h.kept hg) (hu.kept hg) (by have := hh.1.2; omega) (by have := hh.2.2; omega) (fun x hx => by simpa using List.any_eq_false.1 hh.1.1 x hx) (fun x hx => by simpa using List.any_eq_false.1 hh.2.1 x hx) hp
  obtain ⟨ab, c, rfl, _⟩ := h.reads
  obtain ⟨ub, uc, rfl, _⟩ := hu.reads
  clear h hu hl hl2 HOk
  generalize L.length = n at *
  generalize B.length = k at *
  generalize cpL L B = q at *
  obtain ⟨r, hr⟩ : ∃ r, chk [L, B] = r := ⟨_, rfl⟩
  rw [hr] at HC HSh ⊢
  clear hr
  by_cases h0 : r = 0
  · subst h0
    rw [if_pos rfl]
    have HS2 : Hid (∀ w1 p, w.grownBy w1 none → w1.cell? p = some (.func (.func 70) #[] #[]) → Calls Tryd.prog 97 #[.slice ab n c, .slice ub k uc, .pointer (some p)] w1 fun e w' => e = .returned (.int .i64 q) ∧ w1.grownBy w' none) := HSh.out rfl
    clear HSh
    go_enter Tryd.func36, Tryd.ntmps36
    go_wp2_with fail
    refine HC.mono ?_
    rintro e w1 ⟨rfl, hg1⟩
    have HG1 : Hid (w.grownBy w1 none) := hg1
    clear hg1 HC
    go_wp2_with fail
    refine (shorterFirst_any w1).mono ?_
    rintro e w2 ⟨p, rfl, hp, hg2⟩
    have HP : Hid (w2.cell? p = some (.func (.func 70) #[] #[])) := hp
    have HG2 : Hid (w.grownBy w2 none) := grownBy_trans HG1.out hg2
    clear hg2 hp
    go_wp2_with fail
    refine (HS2.out w2 p HG2.out HP.out).mono ?_
    rintro e w3 ⟨rfl, hg3⟩
    have HG3 : Hid (w.grownBy w3 none) := grownBy_trans HG2.out hg3
    clear hg3
    go_wp2_with fail
    go_ret2
    exact ⟨rfl, HG3.out⟩
  · have hb : (r != 0) = true := by simpa using h0
    rw [if_neg h0]
    clear h0 HSh
    go_enter Tryd.func36, Tryd.ntmps36
    go_wp2_with fail
    refine HC.mono ?_
    rintro e w1 ⟨rfl, hg1⟩
    have HG1 : Hid (w.grownBy w1 none) := hg1
    clear hg1 HC
    go_wp2_with fail
    go_ret2
    exact ⟨rfl, HG1.out⟩
end Go.Proofs.YthldipnfaiobaaaDoor
