/-
  Texts, fractions and exact complex numbers written.
-/
import Derived.Test.YtanbnefdodkniaaFlo
import Derived.Test.YtanbnefdodkniaaBck
namespace Go.Proofs.Ytanbnefdodkniaa
open Go.RowKit Go.Lib Go.Sort

/-- The form of a text. -/
def textF (s : ByteArray) : List Int := numF s.size ++ sB s

set_option maxHeartbeats 1600000 in
set_option maxRecDepth 1000000 in
theorem text_any (s : ByteArray) (hs : s.size ≤ 140737488351232) (w : World) :
    Calls Try.prog 17 #[.string s] w fun e w' => ∃ v, e = .returned v ∧ Forms w w' v (textF s) := by
  obtain ⟨i0, hi, hz0, hz1, hz2⟩ := info_parts Try.info5
  have ln := numF_len10 s.size (by omega)
  go_enter Try.func17, Try.ntmps17
  go_wp2_with fail
  refine (num_forms s.size (by omega) w).mono ?_
  rintro e w1 ⟨v1, rfl, hF⟩
  have HF : Hid (Forms w w1 v1 (numF s.size)) := hF
  clear hF
  go_wp2_with (at_builtin; refine wpList_append_own_string _ rfl _ _ 33 9 rfl w.heap.size 5 i0 Try.underlying33 Try.underlying9 hi hz0 hz1 hz2 v1 _ _ rfl HF.out.1 s rfl ?c1 ?c2 ?c3 ?_)
  case c1 => unfold maxLen; omega
  case c2 => omega
  case c3 => exact HF.out.2.size
  intro v2 w2 ho hg _
  have F2 := forms_str HF.out ho hg
  clear ho hg
  go_wp2
  go_ret
  exact ⟨v2, rfl, F2⟩

/-- A whole number as a pair. -/
abbrev WN := Bool × ByteArray
def plainP (a : WN) : Bool := plainW a.1 a.2 && decide (a.2.size ≤ 1024)
abbrev wv (a : WN) : Value := whole a.1 a.2
abbrev fv (a b : WN) : Value := .agg #[.bool a.1, .string a.2, .bool b.1, .string b.2]
abbrev gv (a b c d : WN) : Value := .agg #[.bool a.1, .string a.2, .bool b.1, .string b.2, .bool c.1, .string c.2, .bool d.1, .string d.2]
abbrev fob (a b : WN) : Obj := .cells #[.bool a.1, .string a.2, .bool b.1, .string b.2] 26
abbrev gob (a b c d : WN) : Obj := .cells #[.bool a.1, .string a.2, .bool b.1, .string b.2, .bool c.1, .string c.2, .bool d.1, .string d.2] 28

/-- A block as it was, cell by cell. -/
theorem keptN {w w1 : World} {row : Option Nat} {g : Nat} {c : Array Value} {t : TypeId} (h : w.heap[g]? = some (.cells c t (0, 0))) (hg : w.grownBy w1 row) (hne : row ≠ some g) :
    (∀ j u, c[j]? = some u → w1.cell? ⟨g, j, none⟩ = some u) ∧ (∀ j, w1.frozen? ⟨g, j, none⟩ = false) ∧ w1.heap[g]? = some (.cells c t (0, 0)) := by
  have e : w1.heap[g]? = some (.cells c t (0, 0)) := (hg.block g (Array.getElem?_eq_some_iff.1 h).1 (fun e => hne e.symm)).trans h
  refine ⟨fun j u hj => ?_, fun j => ?_, e⟩
  · simp [World.cell?, e, hj]
  · simp [World.frozen?, e]

set_option maxHeartbeats 1600000 in
set_option maxRecDepth 1000000 in
theorem plainPart_any (a : WN) (ha : a.2.size ≤ maxLen) (w : World) : Calls Try.prog 97 #[wv a] w fun e w' => e = .returned (.bool (plainP a)) ∧ w.grownBy w' none := by
  have H := fun w1 => plainWhole_any a.1 a.2 ha w1
  unfold maxLen at ha
  unfold plainP
  obtain ⟨neg, mag⟩ := a
  simp only [] at H ha ⊢
  have H1 := H (w.alloc (.cells #[.bool neg, .string mag] 24))
  clear H
  cases hp : plainW neg mag
  · rw [hp] at H1
    have HP : Hid (plainW neg mag = false) := hp
    clear hp
    go_enter Try.func97, Try.ntmps97
    go_wp2_with (go_at_call 59; refine H1.mono ?_; rintro e w1 ⟨rfl, hg⟩)
    go_ret
    exact ⟨rfl, grownBy_trans (World.grownBy_alloc _ _ _) hg⟩
  · rw [hp] at H1
    have HP : Hid (plainW neg mag = true) := hp
    clear hp
    by_cases h1 : mag.size ≤ 1024
    · go_enter Try.func97, Try.ntmps97
      go_wp2_with (go_at_call 59; refine H1.mono ?_; rintro e w1 ⟨rfl, hg⟩; obtain ⟨a0, a1, _, _, _⟩ := kept2 (heap_alloc_new w _) hg (by simp))
      go_ret
      exact ⟨ret_bool (by simp [h1]; omega), grownBy_trans (World.grownBy_alloc _ _ _) hg⟩
    · go_enter Try.func97, Try.ntmps97
      go_wp2_with (go_at_call 59; refine H1.mono ?_; rintro e w1 ⟨rfl, hg⟩; obtain ⟨a0, a1, _, _, _⟩ := kept2 (heap_alloc_new w _) hg (by simp))
      go_ret
      exact ⟨ret_bool (by simp [h1]; omega), grownBy_trans (World.grownBy_alloc _ _ _) hg⟩

def plainFr (a b : WN) : Bool := plainP a && (plainP b && (!b.1 && !decide (b.2.size = 0)))

set_option maxHeartbeats 1600000 in
set_option maxRecDepth 1000000 in
theorem plainFrac_one (a b : WN) (w : World) (HA : Hid (∀ w1, Calls Try.prog 97 #[wv a] w1 fun e w' => e = .returned (.bool false) ∧ w1.grownBy w' none)) :
    Calls Try.prog 60 #[fv a b] w fun e w' => e = .returned (.bool false) ∧ w.grownBy w' none := by
  go_enter Try.func60, Try.ntmps60
  go_wp2_with fail
  refine (HA.out _).mono ?_
  rintro e w1 ⟨rfl, hg1⟩
  go_wp2
  go_ret
  exact ⟨rfl, grownBy_trans (World.grownBy_alloc _ _ _) hg1⟩
set_option maxHeartbeats 1600000 in
set_option maxRecDepth 1000000 in
theorem plainFrac_two (a : WN) (nb pb : Bool) (mb : ByteArray) (hb : mb.size ≤ maxLen) (w : World) (HA : Hid (∀ w1, Calls Try.prog 97 #[wv a] w1 fun e w' => e = .returned (.bool true) ∧ w1.grownBy w' none))
    (HB : Hid (∀ w1, Calls Try.prog 97 #[whole nb mb] w1 fun e w' => e = .returned (.bool pb) ∧ w1.grownBy w' none)) :
    Calls Try.prog 60 #[fv a (nb, mb)] w fun e w' => e = .returned (.bool (pb && (!nb && !decide (mb.size = 0)))) ∧ w.grownBy w' none := by
  unfold maxLen at hb
  by_cases hz : mb.size = 0
  · obtain rfl := empty_of_size hz
    go_enter Try.func60, Try.ntmps60
    go_wp2_with fail
    refine (HA.out _).mono ?_
    rintro e w1 ⟨rfl, hg1⟩
    obtain ⟨A1, _, B1⟩ := keptN (heap_alloc_new w (fob a (nb, ByteArray.empty))) hg1 (by simp)
    have a2 := A1 2 _ rfl
    have a3 := A1 3 _ rfl
    clear A1
    go_wp2_with fail
    refine (HB.out _).mono ?_
    rintro e w2 ⟨rfl, hg2⟩
    obtain ⟨A2, _, B2⟩ := keptN B1 hg2 (by simp)
    have b2 := A2 2 _ rfl
    have b3 := A2 3 _ rfl
    have g2 : w.grownBy w2 none := grownBy_trans (grownBy_trans (World.grownBy_alloc _ _ _) hg1) hg2
    clear A2 a2 a3 hg1 hg2 B1 B2
    cases pb <;> cases nb
    all_goals
      go_wp2
      go_ret
      exact ⟨rfl, g2⟩
  · have he := isEmpty_of hz
    go_enter Try.func60, Try.ntmps60
    go_wp2_with fail
    refine (HA.out _).mono ?_
    rintro e w1 ⟨rfl, hg1⟩
    obtain ⟨A1, _, B1⟩ := keptN (heap_alloc_new w (fob a (nb, mb))) hg1 (by simp)
    have a2 := A1 2 _ rfl
    have a3 := A1 3 _ rfl
    clear A1
    go_wp2_with fail
    refine (HB.out _).mono ?_
    rintro e w2 ⟨rfl, hg2⟩
    obtain ⟨A2, _, B2⟩ := keptN B1 hg2 (by simp)
    have b2 := A2 2 _ rfl
    have b3 := A2 3 _ rfl
    have g2 : w.grownBy w2 none := grownBy_trans (grownBy_trans (World.grownBy_alloc _ _ _) hg1) hg2
    clear A2 a2 a3 hg1 hg2 B1 B2
    cases pb <;> cases nb
    all_goals
      go_wp2
      go_ret
      exact ⟨ret_bool (by simp [hz]), g2⟩

theorem plainFrac_any (a b : WN) (ha : a.2.size ≤ maxLen) (hb : b.2.size ≤ maxLen) (w : World) : Calls Try.prog 60 #[fv a b] w fun e w' => e = .returned (.bool (plainFr a b)) ∧ w.grownBy w' none := by
  have HA : Hid (∀ w1, Calls Try.prog 97 #[wv a] w1 fun e w' => e = .returned (.bool (plainP a)) ∧ w1.grownBy w' none) := fun w1 => plainPart_any a ha w1
  have HB : Hid (∀ w1, Calls Try.prog 97 #[wv b] w1 fun e w' => e = .returned (.bool (plainP b)) ∧ w1.grownBy w' none) := fun w1 => plainPart_any b hb w1
  unfold plainFr
  cases hpa : plainP a
  · rw [hpa] at HA
    exact plainFrac_one a b w HA
  · rw [hpa] at HA
    obtain ⟨nb, mb⟩ := b
    exact plainFrac_two a nb _ mb hb w HA HB

/-- The form of a fraction. -/
def fracF (a b : WN) : List Int := wholeF a.1 a.2 ++ wholeF b.1 b.2

theorem plainP_w {a : WN} (h : plainP a = true) : plainW a.1 a.2 = true ∧ a.2.size ≤ 1024 := by
  unfold plainP at h; simpa using h
theorem plainFr_p {a b : WN} (h : plainFr a b = true) : plainP a = true ∧ plainP b = true ∧ b.1 = false ∧ b.2.size ≠ 0 := by
  unfold plainFr at h; simpa using h

set_option maxHeartbeats 1600000 in
set_option maxRecDepth 1000000 in
theorem putTwoW_any (a b : WN) (ha : plainW a.1 a.2 = true) (hb : plainW b.1 b.2 = true) (w : World) :
    Calls Try.prog 61 #[wv a, wv b, .func (.func 20) #[] #[]] w fun e w' => ∃ v, e = .returned (.tuple #[v, .int .i64 0]) ∧ Forms w w' v (fracF a b) := by
  have la := wholeF_len a.1 a.2
  have lb := wholeF_len b.1 b.2
  have sa := plainW_size ha
  have sb := plainW_size hb
  have HL : Hid ((wholeF a.1 a.2).length + (wholeF b.1 b.2).length ≤ 225000000000000) := by show _ ≤ _; omega
  have HP : Hid (plainW a.1 a.2 = true ∧ plainW b.1 b.2 = true) := ⟨ha, hb⟩
  clear la lb sa sb ha hb
  go_enter Try.func61, Try.ntmps61
  go_wp2_with fail
  refine (Whole_yes a.1 a.2 HP.out.1 _).mono ?_
  rintro e w1 ⟨v1, rfl, hF1⟩
  have hbl : ((w.alloc (.cells #[.bool a.1, .string a.2] 24)).alloc (.cells #[.bool b.1, .string b.2] 24)).heap[w.heap.size + 1]? = some (.cells #[.bool b.1, .string b.2] 24 (0, 0)) := by
    have := heap_alloc_new (w.alloc (.cells #[.bool a.1, .string a.2] 24)) (.cells #[.bool b.1, .string b.2] 24); simpa using this
  obtain ⟨b0, b1, _, _, _⟩ := kept2 hbl hF1.2 (by simp)
  have HF1 : Hid (Forms ((w.alloc (.cells #[.bool a.1, .string a.2] 24)).alloc (.cells #[.bool b.1, .string b.2] 24)) w1 v1 (wholeF a.1 a.2)) := hF1
  clear hbl hF1
  go_wp2_with fail
  refine (Whole_yes b.1 b.2 HP.out.2 _).mono ?_
  rintro e w2 ⟨v2, rfl, hF2⟩
  have HO : Hid (w2.ownsRow ((w.alloc (.cells #[.bool a.1, .string a.2] 24)).alloc (.cells #[.bool b.1, .string b.2] 24)).heap.size 5 1 v1 (wholeF a.1 a.2).length ((wholeF a.1 a.2).map encB)) := Src.kept HF1.out.1 hF2.2 (by intro g _ e; cases e)
  have HS : Hid (Src w2 v2 (wholeF b.1 b.2)) := hF2.src
  have HG : Hid (w1.grownBy w2 none) := hF2.2
  clear hF2 b0 b1
  go_wp2_with (at_builtin; refine wpList_apps _ rfl _ _ rfl _ _ _ _ _ rfl rfl HO.out HS.out HL.out ?c2 ?_)
  case c2 => exact Nat.le_trans HF1.out.2.size HG.out.size
  intro v3 w3 hA
  have F3 := (Forms.app HF1.out HG.out (by simpa using hA)).lift (grownBy_trans (World.grownBy_alloc _ _ _) (World.grownBy_alloc _ _ _))
  clear hA HO HS
  go_wp2
  go_ret2
  exact ⟨v3, rfl, F3⟩

set_option maxHeartbeats 1600000 in
set_option maxRecDepth 1000000 in
theorem Frac_no (a b : WN) (ha : a.2.size ≤ maxLen) (hb : b.2.size ≤ maxLen) (hp : plainFr a b = false) (w : World) :
    Calls Try.prog 21 #[fv a b] w fun e w' => e = .returned (.tuple #[.slice none 0 0, .int .i64 2]) ∧ w.grownBy w' none := by
  have H := plainFrac_any a b ha hb (w.alloc (fob a b))
  rw [hp] at H
  go_enter Try.func21, Try.ntmps21
  go_wp2_with (go_at_call 60; refine H.mono ?_; rintro e w1 ⟨rfl, hg⟩)
  go_ret2
  exact ⟨rfl, grownBy_trans (World.grownBy_alloc _ _ _) hg⟩
set_option maxHeartbeats 1600000 in
set_option maxRecDepth 1000000 in
theorem Frac_yes (a b : WN) (hp : plainFr a b = true) (w : World) :
    Calls Try.prog 21 #[fv a b] w fun e w' => ∃ v, e = .returned (.tuple #[v, .int .i64 0]) ∧ Forms w w' v (fracF a b) := by
  have h1 := plainFr_p hp
  have H := plainFrac_any a b (by have := (plainP_w h1.1).2; unfold maxLen; omega) (by have := (plainP_w h1.2.1).2; unfold maxLen; omega) (w.alloc (fob a b))
  rw [hp] at H
  have HQ : Hid (∀ w1, Calls Try.prog 61 #[wv a, wv b, .func (.func 20) #[] #[]] w1 fun e w' => ∃ v, e = .returned (.tuple #[v, .int .i64 0]) ∧ Forms w1 w' v (fracF a b)) := fun w1 => putTwoW_any a b (plainP_w h1.1).1 (plainP_w h1.2.1).1 w1
  clear h1 hp
  go_enter Try.func21, Try.ntmps21
  go_wp2_with fail
  refine H.mono ?_
  rintro e w1 ⟨rfl, hg⟩
  obtain ⟨A1, _, _⟩ := keptN (heap_alloc_new w (fob a b)) hg (by simp)
  have a0 := A1 0 _ rfl
  have a1 := A1 1 _ rfl
  have a2 := A1 2 _ rfl
  have a3 := A1 3 _ rfl
  have g1 : w.grownBy w1 none := grownBy_trans (World.grownBy_alloc _ _ _) hg
  clear A1 hg H
  go_wp2_with fail
  refine (HQ.out _).mono ?_
  rintro e w2 ⟨v, rfl, hF⟩
  go_wp2
  go_ret2
  exact ⟨v, rfl, hF.lift g1⟩

def gaussF (a b c d : WN) : List Int := fracF a b ++ fracF c d
def plainG (a b c d : WN) : Bool := plainFr a b && plainFr c d
theorem fracF_len {a b : WN} (h : plainFr a b = true) : (fracF a b).length ≤ 2070 := by
  have h1 := plainFr_p h
  have s1 := (plainP_w h1.1).2
  have s2 := (plainP_w h1.2.1).2
  have l1 := wholeF_len a.1 a.2
  have l2 := wholeF_len b.1 b.2
  unfold fracF
  rw [List.length_append]; omega

set_option maxHeartbeats 1600000 in
set_option maxRecDepth 1000000 in
theorem putTwoF_one (a b c d : WN) (w : World) (HA : Hid (∀ w1, Calls Try.prog 21 #[fv a b] w1 fun e w' => e = .returned (.tuple #[.slice none 0 0, .int .i64 2]) ∧ w1.grownBy w' none)) :
    Calls Try.prog 62 #[fv a b, fv c d, .func (.func 21) #[] #[]] w fun e w' => e = .returned (.tuple #[.slice none 0 0, .int .i64 2]) ∧ w.grownBy w' none := by
  go_enter Try.func62, Try.ntmps62
  go_wp2_with fail
  refine (HA.out _).mono ?_
  rintro e w1 ⟨rfl, hg⟩
  go_wp2
  go_ret2
  exact ⟨rfl, grownBy_trans (grownBy_trans (World.grownBy_alloc _ _ _) (World.grownBy_alloc _ _ _)) hg⟩
theorem second4 (w : World) (a b c d : WN) : ((w.alloc (fob a b)).alloc (fob c d)).heap[w.heap.size + 1]? = some (fob c d) := by
  have := heap_alloc_new (w.alloc (fob a b)) (fob c d); simpa using this
set_option maxHeartbeats 1600000 in
set_option maxRecDepth 1000000 in
theorem putTwoF_two (a b c d : WN) (w : World) (hp : plainFr a b = true) (HB : Hid (∀ w1, Calls Try.prog 21 #[fv c d] w1 fun e w' => e = .returned (.tuple #[.slice none 0 0, .int .i64 2]) ∧ w1.grownBy w' none)) :
    Calls Try.prog 62 #[fv a b, fv c d, .func (.func 21) #[] #[]] w fun e w' => e = .returned (.tuple #[.slice none 0 0, .int .i64 2]) ∧ w.grownBy w' none := by
  have HA : Hid (∀ w1, Calls Try.prog 21 #[fv a b] w1 fun e w' => ∃ v, e = .returned (.tuple #[v, .int .i64 0]) ∧ Forms w1 w' v (fracF a b)) := fun w1 => Frac_yes a b hp w1
  clear hp
  go_enter Try.func62, Try.ntmps62
  go_wp2_with fail
  refine (HA.out _).mono ?_
  rintro e w1 ⟨v1, rfl, hF1⟩
  obtain ⟨A1, _, _⟩ := keptN (second4 w a b c d) hF1.2 (by simp)
  have a0 := A1 0 _ rfl
  have a1 := A1 1 _ rfl
  have a2 := A1 2 _ rfl
  have a3 := A1 3 _ rfl
  have g1 : w.grownBy w1 none := grownBy_trans (grownBy_trans (World.grownBy_alloc _ _ _) (World.grownBy_alloc _ _ _)) hF1.2
  clear A1 hF1
  go_wp2_with fail
  refine (HB.out _).mono ?_
  rintro e w2 ⟨rfl, hg2⟩
  go_wp2
  go_ret2
  exact ⟨rfl, grownBy_trans g1 hg2⟩
set_option maxHeartbeats 1600000 in
set_option maxRecDepth 1000000 in
theorem putTwoF_yes (a b c d : WN) (w : World) (hp : plainFr a b = true) (hq : plainFr c d = true) :
    Calls Try.prog 62 #[fv a b, fv c d, .func (.func 21) #[] #[]] w fun e w' => ∃ v, e = .returned (.tuple #[v, .int .i64 0]) ∧ Forms w w' v (gaussF a b c d) := by
  have HA : Hid (∀ w1, Calls Try.prog 21 #[fv a b] w1 fun e w' => ∃ v, e = .returned (.tuple #[v, .int .i64 0]) ∧ Forms w1 w' v (fracF a b)) := fun w1 => Frac_yes a b hp w1
  have HB : Hid (∀ w1, Calls Try.prog 21 #[fv c d] w1 fun e w' => ∃ v, e = .returned (.tuple #[v, .int .i64 0]) ∧ Forms w1 w' v (fracF c d)) := fun w1 => Frac_yes c d hq w1
  have HL : Hid ((fracF a b).length + (fracF c d).length ≤ 225000000000000) := by have := fracF_len hp; have := fracF_len hq; show _ ≤ _; omega
  clear hp hq
  go_enter Try.func62, Try.ntmps62
  go_wp2_with fail
  refine (HA.out _).mono ?_
  rintro e w1 ⟨v1, rfl, hF1⟩
  obtain ⟨A1, _, _⟩ := keptN (second4 w a b c d) hF1.2 (by simp)
  have a0 := A1 0 _ rfl
  have a1 := A1 1 _ rfl
  have a2 := A1 2 _ rfl
  have a3 := A1 3 _ rfl
  have HF1 : Hid (Forms ((w.alloc (fob a b)).alloc (fob c d)) w1 v1 (fracF a b)) := hF1
  clear A1 hF1
  go_wp2_with fail
  refine (HB.out _).mono ?_
  rintro e w2 ⟨v2, rfl, hF2⟩
  have HO : Hid (w2.ownsRow ((w.alloc (fob a b)).alloc (fob c d)).heap.size 5 1 v1 (fracF a b).length ((fracF a b).map encB)) := Src.kept HF1.out.1 hF2.2 (by intro g _ e; cases e)
  have HS : Hid (Src w2 v2 (fracF c d)) := hF2.src
  have HG : Hid (w1.grownBy w2 none) := hF2.2
  clear hF2 a0 a1 a2 a3
  go_wp2_with (at_builtin; refine wpList_apps _ rfl _ _ rfl _ _ _ _ _ rfl rfl HO.out HS.out HL.out ?c2 ?_)
  case c2 => exact Nat.le_trans HF1.out.2.size HG.out.size
  intro v3 w3 hA
  have F3 := (Forms.app HF1.out HG.out (by simpa using hA)).lift (grownBy_trans (World.grownBy_alloc _ _ _) (World.grownBy_alloc _ _ _))
  clear hA HO HS
  go_wp2
  go_ret2
  exact ⟨v3, rfl, F3⟩

set_option maxHeartbeats 1600000 in
set_option maxRecDepth 1000000 in
theorem Gauss_yes (a b c d : WN) (w : World) (hp : plainG a b c d = true) :
    Calls Try.prog 22 #[gv a b c d] w fun e w' => ∃ v, e = .returned (.tuple #[v, .int .i64 0]) ∧ Forms w w' v (gaussF a b c d) := by
  have h1 : plainFr a b = true ∧ plainFr c d = true := by unfold plainG at hp; simpa using hp
  have HQ : Hid (∀ w1, Calls Try.prog 62 #[fv a b, fv c d, .func (.func 21) #[] #[]] w1 fun e w' => ∃ v, e = .returned (.tuple #[v, .int .i64 0]) ∧ Forms w1 w' v (gaussF a b c d)) := fun w1 => putTwoF_yes a b c d w1 h1.1 h1.2
  clear h1 hp
  go_enter Try.func22, Try.ntmps22
  go_wp2_with fail
  refine (HQ.out _).mono ?_
  rintro e w2 ⟨v, rfl, hF⟩
  go_wp2
  go_ret2
  exact ⟨v, rfl, hF.lift (World.grownBy_alloc _ _ _)⟩
set_option maxHeartbeats 1600000 in
set_option maxRecDepth 1000000 in
theorem Gauss_no (a b c d : WN) (w : World) (ha : a.2.size ≤ maxLen) (hb : b.2.size ≤ maxLen) (hc : c.2.size ≤ maxLen) (hd : d.2.size ≤ maxLen) (hp : plainG a b c d = false) :
    Calls Try.prog 22 #[gv a b c d] w fun e w' => e = .returned (.tuple #[.slice none 0 0, .int .i64 2]) ∧ w.grownBy w' none := by
  have HQ : Hid (∀ w1, Calls Try.prog 62 #[fv a b, fv c d, .func (.func 21) #[] #[]] w1 fun e w' => e = .returned (.tuple #[.slice none 0 0, .int .i64 2]) ∧ w1.grownBy w' none) := by
    intro w1
    cases h1 : plainFr a b
    · exact putTwoF_one a b c d w1 (fun w2 => Frac_no a b ha hb h1 w2)
    · have h2 : plainFr c d = false := by unfold plainG at hp; rw [h1] at hp; simpa using hp
      exact putTwoF_two a b c d w1 h1 (fun w2 => Frac_no c d hc hd h2 w2)
  clear hp
  go_enter Try.func22, Try.ntmps22
  go_wp2_with fail
  refine (HQ.out _).mono ?_
  rintro e w2 ⟨rfl, hg⟩
  go_wp2
  go_ret2
  exact ⟨rfl, grownBy_trans (World.grownBy_alloc _ _ _) hg⟩
end Go.Proofs.Ytanbnefdodkniaa
