/-
  Fractions as the program holds them.
  frac's small functions: zero, one, long, common; may a fraction be?
  frac's fitting, lowest, Of.
  frac's lowest, of any two numbers that may be; Of.
-/
import Derived.Test.YtdfliaogmlpefaaGreatDoorBunGar
import Derived.Test.YtdfliaogmlpefaaGreatDoorBunGtw
import Derived.Test.YtdfliaogmlpefaaGreatDoorBunPrg
namespace Go.Proofs.YtdfliaogmlpefaaGreatDoor
open Go.RowKit Go.Lib Go.Sort
set_option linter.unusedVariables false
set_option maxHeartbeats 3200000
set_option maxRecDepth 1000000
abbrev frac (n : Bool) (s : ByteArray) (d : Bool) (t : ByteArray) : Value := .agg #[.bool n, .string s, .bool d, .string t]
abbrev qObj (n : Bool) (s : ByteArray) (d : Bool) (t : ByteArray) : Obj := .cells #[.bool n, .string s, .bool d, .string t] 25
theorem Tryz.sizeQ : (Tryz.prog.info? 25).map (·.size) = some 4 := by kernel_rfl
def QBlk (w : World) (B : Nat) (a b c d : Value) : Prop := w.heap[B]? = some (.cells #[a, b, c, d] 25 (0, 0))
theorem QBlk.lt {w : World} {B : Nat} {a b c d : Value} (h : QBlk w B a b c d) : B < w.heap.size := (Array.getElem?_eq_some_iff.1 h).1
theorem QBlk.c0 {w : World} {B : Nat} {a b c d : Value} (h : QBlk w B a b c d) : w.cell? ⟨B, 0, none⟩ = some a := by
  unfold QBlk at h; simp [World.cell?, h]
theorem QBlk.c1 {w : World} {B : Nat} {a b c d : Value} (h : QBlk w B a b c d) : w.cell? ⟨B, 1, none⟩ = some b := by
  unfold QBlk at h; simp [World.cell?, h]
theorem QBlk.c2 {w : World} {B : Nat} {a b c d : Value} (h : QBlk w B a b c d) : w.cell? ⟨B, 2, none⟩ = some c := by
  unfold QBlk at h; simp [World.cell?, h]
theorem QBlk.c3 {w : World} {B : Nat} {a b c d : Value} (h : QBlk w B a b c d) : w.cell? ⟨B, 3, none⟩ = some d := by
  unfold QBlk at h; simp [World.cell?, h]
theorem QBlk.fr {w : World} {B : Nat} {a b c d : Value} (h : QBlk w B a b c d) (i : Nat) : w.frozen? ⟨B, i, none⟩ = false := by
  unfold QBlk at h; simp [World.frozen?, h]
theorem QBlk.put {w : World} {B : Nat} {a b c d : Value} (h : QBlk w B a b c d) (x y z u : Value) : QBlk ((((w.setCell ⟨B, 0, none⟩ x).setCell ⟨B, 1, none⟩ y).setCell ⟨B, 2, none⟩ z).setCell ⟨B, 3, none⟩ u) B x y z u := by
  unfold QBlk at *
  simp [World.setCell, Array.getElem?_modify, h]
theorem QBlk.kept {w w' : World} {row : Option Nat} {B : Nat} {a b c d : Value} (h : QBlk w B a b c d) (hg : w.grownBy w' row) (hn : row ≠ some B) : QBlk w' B a b c d :=
  (hg.block B h.lt (fun e => hn e.symm)).trans h
theorem grown_put4 {w w' : World} {B : Nat} {x y z u : Value} (h : w.grownBy w' none) (hB : w.heap.size ≤ B) : w.grownBy ((((w'.setCell ⟨B, 0, none⟩ x).setCell ⟨B, 1, none⟩ y).setCell ⟨B, 2, none⟩ z).setCell ⟨B, 3, none⟩ u) none :=
  grown_set (grown_set (grown_set (grown_set h hB) hB) hB) hB
theorem load_rowQ (w : World) (g : Nat) (t : TypeId) (a b c d : Value) (fr : Nat × Nat) (hg : w.heap[g]? = some (.cells #[a, b, c, d] t fr)) : (loadVar 25 ⟨g, 0, none⟩).run Tryz.prog w = .ok (.agg #[a, b, c, d]) w :=
  run_loadVar_row w g t 25 #[a, b, c, d] fr _ hg Tryz.underlying25 rfl Tryz.sizeQ
theorem res_cellQ {fn : Func} {p : Tmp} (h : fn.results = #[.cell p 25]) (tmps : Array Value) (w : World) (g : Nat) (t : TypeId) (a b c d : Value) (fr : Nat × Nat)
    (hp : tmps.getD p undef = .pointer (some ⟨g, 0, none⟩)) (hg : w.heap[g]? = some (.cells #[a, b, c, d] t fr)) : (results fn tmps).run Tryz.prog w = .ok (.agg #[a, b, c, d]) w :=
  results_cell_row h tmps w g t #[a, b, c, d] fr _ hp hg Tryz.underlying25 rfl Tryz.sizeQ
theorem res_cellQ_tmp {fn : Func} {p u : Tmp} (h : fn.results = #[.cell p 25, .tmp u]) (tmps : Array Value) (w : World) (g : Nat) (t : TypeId) (a b c d : Value) (fr : Nat × Nat)
    (hp : tmps.getD p undef = .pointer (some ⟨g, 0, none⟩)) (hg : w.heap[g]? = some (.cells #[a, b, c, d] t fr)) : (results fn tmps).run Tryz.prog w = .ok (.tuple #[.agg #[a, b, c, d], tmps.getD u undef]) w := by
  rw [results_cell_tmp h, hp]
  simp [asAddr, Result.andThen, load_rowQ w g t a b c d fr hg]
def mayQ (n : Bool) (s : ByteArray) (d : Bool) (t : ByteArray) : Bool :=
  decide (s.size ≤ 1024 ∧ t.size ≤ 1024) && (may n s && (may d t && (decide (0 < num d t) && decide (Int.gcd (num n s) (num d t) = 1))))
structure IsQ (x y : Int) (n : Bool) (s : ByteArray) (d : Bool) (t : ByteArray) : Prop where
  zn : Sz 1024 x n s
  zd : Sz 1024 y d t
  pos : 0 < y
  low : Int.gcd x y = 1
theorem mayQ_is {n d : Bool} {s t : ByteArray} (h : mayQ n s d t = true) : IsQ (num n s) (num d t) n s d t := by
  simp only [mayQ, Bool.and_eq_true, decide_eq_true_eq] at h
  obtain ⟨⟨h1, h2⟩, h3, h4, h5, h6⟩ := h
  exact ⟨may_sz h3 h1, may_sz h4 h2, h5, h6⟩
theorem IsQ.may {x y : Int} {n d : Bool} {s t : ByteArray} (h : IsQ x y n s d t) : mayQ n s d t = true := by
  have a := h.zn.may (by decide)
  have b := h.zd.may (by decide)
  have c := isZ_size h.zn.1
  have c' := h.zn.bl
  have d := isZ_size h.zd.1
  have d' := h.zd.bl
  simp only [mayQ, Bool.and_eq_true, decide_eq_true_eq]
  exact ⟨⟨by omega, by omega⟩, a, b, by rw [h.zd.num]; exact h.pos, by rw [h.zn.num, h.zd.num]; exact h.low⟩
abbrev oneS : ByteArray := ⟨#[1]⟩
theorem isz_one {n : Bool} {s : ByteArray} (h : IsZ 1 n s) : n = false ∧ s = oneS := whole_inj (h.one (⟨rfl, by rw [show (1 : Int).natAbs = 1 from rfl, magN_small 1 (by decide) (by decide)]; rfl⟩ : IsZ 1 false oneS))
theorem one_isz : IsZ 1 false oneS := ⟨rfl, by rw [show (1 : Int).natAbs = 1 from rfl, magN_small 1 (by decide) (by decide)]; rfl⟩
theorem fzero_any (w : World) :
    Calls Tryz.prog 51 #[] w fun e w' => e = .returned (whole false eS) ∧ w' = w.alloc (wObj false eS) := by
  go_enter Tryz.func51, Tryz.ntmps51
  go_wp2
  refine bodyPost_ret (res_cell rfl _ _ w.heap.size _ _ _ _ rfl (heap_alloc_new _ _)) rfl ?_
  exact ⟨rfl, rfl⟩
theorem fone_any (w : World) :
    Calls Tryz.prog 58 #[] w fun e w' => e = .returned (whole false oneS) ∧ w.grownBy w' none := by
  go_enter Tryz.func58, Tryz.ntmps58
  go_wp2_with fail
  refine (of_any 1 (by decide) (by decide) _).mono ?_
  rintro e w1 ⟨s, rfl, hs, hg⟩
  obtain rfl : s = oneS := (isz_one (⟨rfl, hs⟩ : IsZ 1 false s)).2
  have hb : WBlk w1 w.heap.size (.bool false) (.string eS) := WBlk.kept (w := w.alloc (wObj false eS)) (heap_alloc_new _ _) hg (by simp)
  have hc0 := hb.c0
  have hc1 := hb.c1
  have hf0 := hb.fr 0
  have hf1 := hb.fr 1
  have HG : Hid ((w.alloc (wObj false eS)).grownBy w1 none) := hg
  clear hg hs
  go_wp2_with fail
  refine bodyPost_ret (res_cell rfl _ _ w.heap.size _ _ _ _ rfl (hb.put _ _)) rfl ?_
  exact ⟨rfl, grown_set (grown_set (grownBy_trans (grow1 _ _) HG.out) (Nat.le_refl _)) (Nat.le_refl _)⟩
theorem flong_no (n d : Bool) (s t : ByteArray) (h1 : s.size ≤ 1024) (h2 : t.size ≤ 1024) (w : World) :
    Calls Tryz.prog 89 #[frac n s d t] w fun e w' => e = .returned (.bool false) ∧ w' = w.alloc (qObj n s d t) := by
  have h1I : (s.size : Int) ≤ 1024 := by omega
  have h2I : (t.size : Int) ≤ 1024 := by omega
  clear h1 h2
  go_enter Tryz.func89, Tryz.ntmps89
  go_wp2
  go_ret
  exact ⟨ret_bool (by rw [decide_eq_false (by omega), decide_eq_false (by omega)]; rfl), rfl⟩
theorem flong_yes (n d : Bool) (s t : ByteArray) (z1 : s.size ≤ maxLen) (z2 : t.size ≤ maxLen) (h : ¬ (s.size ≤ 1024 ∧ t.size ≤ 1024)) (w : World) :
    Calls Tryz.prog 89 #[frac n s d t] w fun e w' => e = .returned (.bool true) ∧ w' = w.alloc (qObj n s d t) := by
  unfold maxLen at z1 z2
  have z1I : (s.size : Int) ≤ 9223372036854775807 := by omega
  have z2I : (t.size : Int) ≤ 9223372036854775807 := by omega
  by_cases h1 : s.size ≤ 1024
  · have h1I : (s.size : Int) ≤ 1024 := by omega
    have h2I : (1025 : Int) ≤ (t.size : Int) := by omega
    clear h h1 z1 z2
    go_enter Tryz.func89, Tryz.ntmps89
    go_wp2
    go_ret
    exact ⟨ret_bool (by rw [decide_eq_false (show ¬ (1024 : Int) < s.size by omega), decide_eq_true (show (1024 : Int) < t.size by omega)]; rfl), rfl⟩
  · have h1I : (1025 : Int) ≤ (s.size : Int) := by omega
    clear h h1 z1 z2
    go_enter Tryz.func89, Tryz.ntmps89
    go_wp2
    go_ret
    exact ⟨rfl, rfl⟩
theorem at_alloc4 (w : World) (a b c o : Obj) : ((((w.alloc a).alloc b).alloc c).alloc o).heap[w.heap.size + 3]? = some o := by
  have := heap_alloc_new (((w.alloc a).alloc b).alloc c) o
  simpa using this
theorem common_by (n d : Bool) (s t sg : ByteArray) (er : Int)
    (HG : Hid (∀ W B, W.heap[B]? = some (.cells #[.bool n, .string s, .bool d, .string t] 23 (0, 0)) → Calls Tryz.prog 142 #[.slice (some ⟨B, 0, none⟩) 2 2] W fun e w' => e = .returned (.tuple #[whole false sg, .int .i64 er]) ∧ W.grownBy w' none)) (w : World) :
    Calls Tryz.prog 90 #[whole n s, whole d t] w fun e w' => e = .returned (whole false sg) ∧ w.grownBy w' none := by
  go_enter Tryz.func90, Tryz.ntmps90
  go_wp2_with fail
  refine (HG.out _ _ (by first | exact at_alloc4 _ _ _ _ _ | (have := at_alloc4 w (wObj n s) (wObj d t) (wObj false eS) (.cells #[.bool n, .string s, .bool d, .string t] 23); simpa using this))).mono ?_
  rintro e w1 ⟨rfl, g1⟩
  have hg : (((w.alloc (wObj n s)).alloc (wObj d t)).alloc (wObj false eS)).grownBy (w1.alloc (wObj false sg)) none := grownBy_trans (grownBy_trans (grow1 _ _) g1) (grow1 _ _)
  have hW : WBlk (w1.alloc (wObj false sg)) (w.heap.size + 2) (.bool false) (.string eS) := WBlk.kept (at_alloc3 _ _ _ _) hg (by simp)
  have hA : WBlk (w1.alloc (wObj false sg)) w1.heap.size (.bool false) (.string sg) := heap_alloc_new _ _
  have HGG : Hid ((((w.alloc (wObj n s)).alloc (wObj d t)).alloc (wObj false eS)).grownBy (w1.alloc (wObj false sg)) none) := hg
  have hc0 := hW.c0
  have hc1 := hW.c1
  have hf0 := hW.fr 0
  have hf1 := hW.fr 1
  have a0 := hA.c0
  have a1 := hA.c1
  clear g1 hg
  go_wp2_with fail
  refine bodyPost_ret (res_cell rfl _ _ (w.heap.size + 2) _ _ _ _ rfl (hW.put _ _)) rfl ?_
  exact ⟨rfl, grown_set (grown_set (grownBy_trans (grow3 _ _ _ _) HGG.out) (by omega)) (by omega)⟩
theorem isz_str (g : Nat) : ∃ s, IsZ ((g : Nat) : Int) false s := ⟨strOf (ints (magN g)), by symm; exact decide_eq_false (by omega), by rw [Int.natAbs_natCast]; exact bN_strOf _ (magN_rng _)⟩
theorem common_yes {k : Nat} {x y : Int} {n d : Bool} {s t sg : ByteArray} (hk : k ≤ 16384) (h1 : Sz k x n s) (h2 : Sz k y d t) (hg : IsZ ((Int.gcd x y : Nat) : Int) false sg) (w : World) :
    Calls Tryz.prog 90 #[whole n s, whole d t] w fun e w' => e = .returned (whole false sg) ∧ w.grownBy w' none := by
  refine common_by n d s t sg 0 (fun W B hB => ?_) w
  refine (gcd_two hk h1 h2 W B hB).mono ?_
  rintro e w' ⟨s', rfl, hz, hgw⟩
  obtain ⟨_, rfl⟩ := whole_inj (hz.1.one hg)
  exact ⟨rfl, hgw⟩
theorem common_no (n d : Bool) (s t : ByteArray) (z1 : s.size ≤ maxLen) (z2 : t.size ≤ maxLen) (h : (may n s && may d t) = false) (w : World) :
    Calls Tryz.prog 90 #[whole n s, whole d t] w fun e w' => e = .returned (whole false eS) ∧ w.grownBy w' none := by
  refine common_by n d s t eS 2 (fun W B hB => ?_) w
  have hD : DW W (.slice (some ⟨B, 0, none⟩) 2 2) [(n, s), (d, t)] := by
    refine ⟨B, 0, 2, rfl, by simp, fun j p hp => ?_⟩
    simp only [World.cell?, hB]
    match j, hp with
    | 0, hp => cases hp; exact ⟨rfl, rfl⟩
    | 1, hp => cases hp; exact ⟨rfl, rfl⟩
  refine gcdL_bad W _ _ hD (by simp) ?_ ?_
  · intro p hp
    simp at hp
    rcases hp with rfl | rfl <;> assumption
  · simpa [mayAll] using h
theorem mayq_sign (n d : Bool) (s t : ByteArray) (c : Int) (hc : c ≤ 0)
    (HS : Hid (∀ w, Calls Tryz.prog 64 #[whole d t] w fun e w' => e = .returned (.int .i64 c) ∧ w.grownBy w' none)) (w : World) :
    Calls Tryz.prog 40 #[frac n s d t] w fun e w' => e = .returned (.bool false) ∧ w.grownBy w' none := by
  go_enter Tryz.func40, Tryz.ntmps40
  go_wp2_with fail
  refine (HS.out _).mono ?_
  rintro e w1 ⟨rfl, g1⟩
  have HG : Hid (w.grownBy w1 none) := grownBy_trans (grow1 _ _) g1
  clear g1
  go_wp2_with fail
  go_ret
  exact ⟨rfl, HG.out⟩
theorem mayq_long (n d : Bool) (s t : ByteArray)
    (HS : Hid (∀ w, Calls Tryz.prog 64 #[whole d t] w fun e w' => e = .returned (.int .i64 1) ∧ w.grownBy w' none))
    (HL : Hid (∀ w, Calls Tryz.prog 89 #[frac n s d t] w fun e w' => e = .returned (.bool true) ∧ w' = w.alloc (qObj n s d t))) (w : World) :
    Calls Tryz.prog 40 #[frac n s d t] w fun e w' => e = .returned (.bool false) ∧ w.grownBy w' none := by
  go_enter Tryz.func40, Tryz.ntmps40
  go_wp2_with fail
  refine (HS.out _).mono ?_
  rintro e w1 ⟨rfl, g1⟩
  have hQ : QBlk w1 w.heap.size (.bool n) (.string s) (.bool d) (.string t) := QBlk.kept (w := w.alloc (qObj n s d t)) (heap_alloc_new _ _) g1 (by simp)
  have HG : Hid (w.grownBy w1 none) := grownBy_trans (grow1 _ _) g1
  have c0 := hQ.c0
  have c1 := hQ.c1
  have c2 := hQ.c2
  have c3 := hQ.c3
  clear g1 hQ
  go_wp2_with fail
  refine (HL.out _).mono ?_
  rintro e w2 ⟨rfl, rfl⟩
  go_wp2_with fail
  go_ret
  exact ⟨rfl, grownBy_trans HG.out (grow1 _ _)⟩
theorem mayq_common (n d : Bool) (s t sg : ByteArray) (b : Bool) (hb : b = decide (sg.toList = [1]))
    (HS : Hid (∀ w, Calls Tryz.prog 64 #[whole d t] w fun e w' => e = .returned (.int .i64 1) ∧ w.grownBy w' none))
    (HL : Hid (∀ w, Calls Tryz.prog 89 #[frac n s d t] w fun e w' => e = .returned (.bool false) ∧ w' = w.alloc (qObj n s d t)))
    (HC : Hid (∀ w, Calls Tryz.prog 90 #[whole n s, whole d t] w fun e w' => e = .returned (whole false sg) ∧ w.grownBy w' none)) (w : World) :
    Calls Tryz.prog 40 #[frac n s d t] w fun e w' => e = .returned (.bool b) ∧ w.grownBy w' none := by
  go_enter Tryz.func40, Tryz.ntmps40
  go_wp2_with fail
  refine (HS.out _).mono ?_
  rintro e w1 ⟨rfl, g1⟩
  have hQ : QBlk w1 w.heap.size (.bool n) (.string s) (.bool d) (.string t) := QBlk.kept (w := w.alloc (qObj n s d t)) (heap_alloc_new _ _) g1 (by simp)
  have HG : Hid (w.grownBy w1 none) := grownBy_trans (grow1 _ _) g1
  have c0 := hQ.c0
  have c1 := hQ.c1
  have c2 := hQ.c2
  have c3 := hQ.c3
  have HQ : Hid (QBlk (w1.alloc (qObj n s d t)) w.heap.size (.bool n) (.string s) (.bool d) (.string t)) := hQ.kept (grow1 _ _) (by simp)
  clear g1 hQ
  go_wp2_with fail
  refine (HL.out _).mono ?_
  rintro e w2 ⟨rfl, rfl⟩
  clear c0 c1 c2 c3
  have c0 := HQ.out.c0
  have c1 := HQ.out.c1
  have c2 := HQ.out.c2
  have c3 := HQ.out.c3
  go_wp2_with fail
  refine (HC.out _).mono ?_
  rintro e w3 ⟨rfl, g3⟩
  have HG3 : Hid (w.grownBy w3 none) := grownBy_trans HG.out (grownBy_trans (grow1 _ _) g3)
  clear g3
  go_wp2_with fail
  refine (fone_any _).mono ?_
  rintro e w4 ⟨rfl, g4⟩
  have HG4 : Hid (w.grownBy w4 none) := grownBy_trans HG3.out g4
  clear g4
  go_wp2_with fail
  all_goals
    rename_i h
    go_ret
    exact ⟨ret_bool (by rw [hb]; simp [h]), HG4.out⟩
theorem one_list {g : Nat} {sg : ByteArray} (h : IsZ ((g : Nat) : Int) false sg) : sg.toList = [1] ↔ g = 1 := by
  constructor
  · intro e
    have h1 : sg = oneS := by
      have : sg.data.toList = [1] := by rw [← ByteArray.toList_eq]; exact e
      have h2 : sg.data = #[1] := by
        apply Array.toList_inj.1
        simpa using this
      cases sg
      simp at h2
      subst h2
      rfl
    subst h1
    have := (one_isz.num).symm.trans h.num
    omega
  · rintro rfl
    rw [(isz_one h).2, ByteArray.toList_eq]
theorem mayq_any (n d : Bool) (s t : ByteArray) (z1 : s.size ≤ maxLen) (z2 : t.size ≤ maxLen) (w : World) :
    Calls Tryz.prog 40 #[frac n s d t] w fun e w' => e = .returned (.bool (mayQ n s d t)) ∧ w.grownBy w' none := by
  cases hd : may d t
  · have hm : mayQ n s d t = false := by simp [mayQ, hd]
    rw [hm]
    refine mayq_sign n d s t 0 (by decide) (fun w => ?_) w
    exact sign_no d t z2 hd w
  have hsg := fun w => sign_yes d t z2 hd w
  by_cases hp : 0 < num d t
  · have h1 : sgn d t = 1 := by
      rcases sgn_cases hd with ⟨a, _, c, _⟩ | ⟨a, _, c, _⟩ | ⟨a, _, c, _⟩ <;> omega
    rw [h1] at hsg
    by_cases hl : s.size ≤ 1024 ∧ t.size ≤ 1024
    · cases hn : may n s
      · have hm : mayQ n s d t = false := by simp [mayQ, hn]
        rw [hm]
        refine mayq_common n d s t eS false (by rw [ByteArray.toList_eq]; simp) (fun w => hsg w) (fun w => flong_no n d s t hl.1 hl.2 w) (fun w => ?_) w
        exact common_no n d s t z1 z2 (by simp [hn]) w
      · have e1 := may_sz hn hl.1
        have e2 := may_sz hd hl.2
        obtain ⟨sg, hg⟩ := isz_str (Int.gcd (num n s) (num d t))
        refine mayq_common n d s t sg _ ?_ (fun w => hsg w) (fun w => flong_no n d s t hl.1 hl.2 w) (fun w => common_yes (k := 1024) (by decide) e1 e2 hg w) w
        simp only [mayQ, hn, hd, decide_eq_true hl, decide_eq_true hp, Bool.true_and]
        exact decide_eq_decide.2 (one_list hg).symm
    · have hm : mayQ n s d t = false := by simp only [mayQ, decide_eq_false hl, Bool.false_and]
      rw [hm]
      exact mayq_long n d s t (fun w => hsg w) (fun w => flong_yes n d s t z1 z2 hl w) w
  · have hm : mayQ n s d t = false := by simp only [mayQ, decide_eq_false hp, Bool.false_and, Bool.and_false]
    rw [hm]
    have h1 : sgn d t ≤ 0 := by
      rcases sgn_cases hd with ⟨a, _, c, _⟩ | ⟨a, _, c, _⟩ | ⟨a, _, c, _⟩ <;> omega
    exact mayq_sign n d s t (sgn d t) h1 (fun w => hsg w) w
def fitsB (s t : ByteArray) : Bool := decide (s.size ≤ 1024 ∧ t.size ≤ 1024)
def tB (f n : Bool) : Bool := f && n
def tS (f : Bool) (s : ByteArray) : ByteArray := if f then s else eS
abbrev toldV (n : Bool) (s : ByteArray) (d : Bool) (t : ByteArray) : Value := frac (tB (fitsB s t) n) (tS (fitsB s t) s) (tB (fitsB s t) d) (tS (fitsB s t) t)
def toldE (s t : ByteArray) : Int := if fitsB s t then 0 else 4
theorem fitting_any (n d : Bool) (s t : ByteArray) (z1 : s.size ≤ maxLen) (z2 : t.size ≤ maxLen) (w : World) :
    Calls Tryz.prog 126 #[frac n s d t] w fun e w' => e = .returned (.tuple #[toldV n s d t, .int .i64 (toldE s t)]) ∧ w.grownBy w' none := by
  by_cases h : s.size ≤ 1024 ∧ t.size ≤ 1024
  · have hb : fitsB s t = true := decide_eq_true h
    have hv : toldV n s d t = frac n s d t := by unfold toldV; rw [hb]; rfl
    have he : toldE s t = 0 := by unfold toldE; rw [hb]; rfl
    rw [hv, he]
    have HL : Hid (∀ w, Calls Tryz.prog 89 #[frac n s d t] w fun e w' => e = .returned (.bool false) ∧ w' = w.alloc (qObj n s d t)) := fun w => flong_no n d s t h.1 h.2 w
    clear h hb hv he z1 z2
    go_enter Tryz.func126, Tryz.ntmps126
    go_wp2_with (go_at_call 89; refine (HL.out _).mono ?_; rintro e w1 ⟨rfl, rfl⟩)
    refine bodyPost_ret (res_cellQ_tmp rfl _ _ (w.heap.size + 1) _ _ _ _ _ _ rfl (at_alloc2 _ _ _ _)) rfl ?_
    exact ⟨rfl, grow3 _ _ _ _⟩
  · have hb : fitsB s t = false := decide_eq_false h
    have hv : toldV n s d t = frac false eS false eS := by unfold toldV; rw [hb]; rfl
    have he : toldE s t = 4 := by unfold toldE; rw [hb]; rfl
    rw [hv, he]
    have HL : Hid (∀ w, Calls Tryz.prog 89 #[frac n s d t] w fun e w' => e = .returned (.bool true) ∧ w' = w.alloc (qObj n s d t)) := fun w => flong_yes n d s t z1 z2 h w
    clear h hb hv he z1 z2
    go_enter Tryz.func126, Tryz.ntmps126
    go_wp2_with (go_at_call 89; refine (HL.out _).mono ?_; rintro e w1 ⟨rfl, rfl⟩)
    refine bodyPost_ret (res_cellQ_tmp rfl _ _ (w.heap.size + 1) _ _ _ _ _ _ rfl (at_alloc2 _ _ _ _)) rfl ?_
    exact ⟨rfl, grow3 _ _ _ _⟩
structure Low (x y : Int) (n : Bool) (s : ByteArray) (d : Bool) (t : ByteArray) : Prop where
  zn : IsZ (rn x y) n s
  zd : IsZ (rd x y) d t
theorem rn_abs (x y : Int) : (rn x y).natAbs ≤ x.natAbs := ediv_abs_le _ _
theorem rd_abs (x y : Int) : (rd x y).natAbs ≤ y.natAbs := ediv_abs_le _ _
theorem Low.size {k : Nat} {x y : Int} {n d n' d' : Bool} {s t s' t' : ByteArray} (h : Low x y n s d t) (hx : Sz k x n' s') (hy : Sz k y d' t') : s.size ≤ k ∧ t.size ≤ k := by
  have a := isZ_size h.zn
  have b := isZ_size h.zd
  have c := bl_mono (rn_abs x y)
  have d := bl_mono (rd_abs x y)
  have e := hx.bl
  have f := hy.bl
  omega
theorem lowest_one {k : Nat} (hk : k ≤ 16384) (n : Bool) (s t : ByteArray) (x y : Int) (h1 : Sz k x n s) (h2 : Sz k y false t) (hg : Int.gcd x y = 1) (w : World) :
    Calls Tryz.prog 91 #[whole n s, whole false t] w fun e w' => e = .returned (.tuple #[toldV n s false t, .int .i64 (toldE s t)]) ∧ w.grownBy w' none := by
  have HC : Hid (∀ w, Calls Tryz.prog 90 #[whole n s, whole false t] w fun e w' => e = .returned (whole false oneS) ∧ w.grownBy w' none) := fun w => common_yes hk h1 h2 (by rw [hg]; exact one_isz) w
  have HF : Hid (∀ w, Calls Tryz.prog 126 #[frac n s false t] w fun e w' => e = .returned (.tuple #[toldV n s false t, .int .i64 (toldE s t)]) ∧ w.grownBy w' none) := fun w => fitting_any n false s t (by have := may_size (h1.may hk); unfold maxLen; omega) (by have := may_size (h2.may hk); unfold maxLen; omega) w
  unfold toldV at *
  generalize tB (fitsB s t) n = rn1 at *
  generalize tS (fitsB s t) s = rs1 at *
  generalize tB (fitsB s t) false = rd1 at *
  generalize tS (fitsB s t) t = rt1 at *
  generalize toldE s t = re1 at *
  clear h1 h2 hg hk
  go_enter Tryz.func91, Tryz.ntmps91
  go_wp2_with fail
  refine (HC.out _).mono ?_
  rintro e w1 ⟨rfl, g1⟩
  have G1 : (((w.alloc (wObj n s)).alloc (wObj false t)).alloc (qObj false eS false eS)).grownBy (w1.alloc (wObj false oneS)) none := grownBy_trans g1 (grow1 _ _)
  have HG1 : Hid ((((w.alloc (wObj n s)).alloc (wObj false t)).alloc (qObj false eS false eS)).grownBy (w1.alloc (wObj false oneS)) none) := G1
  have hA : WBlk (w1.alloc (wObj false oneS)) w.heap.size (.bool n) (.string s) := WBlk.kept (old_alloc _ _ (at_alloc1 _ _ _)) G1 (by simp)
  have hB : WBlk (w1.alloc (wObj false oneS)) (w.heap.size + 1) (.bool false) (.string t) := WBlk.kept (at_alloc2 _ _ _ _) G1 (by simp)
  have HA : Hid (WBlk (w1.alloc (wObj false oneS)) w.heap.size (.bool n) (.string s)) := hA
  have HB : Hid (WBlk (w1.alloc (wObj false oneS)) (w.heap.size + 1) (.bool false) (.string t)) := hB
  have b0 := hB.c0
  clear g1 G1 hA hB
  go_wp2_with fail
  have HY : Hid (∀ w', (w1.alloc (wObj false oneS)).grownBy w' none → w'.cell? ⟨w1.heap.size, 0, none⟩ = some (Value.bool false) ∧ w'.cell? ⟨w1.heap.size, 1, none⟩ = some (Value.string oneS)) := fun w' h => ⟨grownBy_cell h (WBlk.c0 (b := .string oneS) (heap_alloc_new _ _)) (by simp), grownBy_cell h (WBlk.c1 (a := .bool false) (heap_alloc_new _ _)) (by simp)⟩
  go_region_held3 (fun w' => w'.cell? ⟨w1.heap.size, 0, none⟩ = some (Value.bool false) ∧ w'.cell? ⟨w1.heap.size, 1, none⟩ = some (Value.string oneS))
    (first | (go_keep; done) | exact HY.out _ (by assumption) | exact HY.out _ (grow_drew (World.grownBy.refl _ _)) | fail)
    (first | (go_at_call 58; refine (fone_any _).mono ?_; rintro e w2 ⟨rfl, g2⟩; have G2 : (w1.alloc (wObj false oneS)).grownBy w2 none := (by first | exact g2 | exact grownBy_undrew g2)) | fail)
  have HG3 : Hid ((((w.alloc (wObj n s)).alloc (wObj false t)).alloc (qObj false eS false eS)).grownBy w2 none) := grownBy_trans HG1.out G2
  have a0 := (HA.out.kept G2 (by simp)).c0
  have a1 := (HA.out.kept G2 (by simp)).c1
  have b0 := (HB.out.kept G2 (by simp)).c0
  have b1 := (HB.out.kept G2 (by simp)).c1
  go_wp2_with fail
  refine (HF.out _).mono ?_
  rintro e w5 ⟨rfl, g5⟩
  have G5 : (((w.alloc (wObj n s)).alloc (wObj false t)).alloc (qObj false eS false eS)).grownBy w5 none := grownBy_trans HG3.out g5
  have hR : QBlk w5 (w.heap.size + 1 + 1) (.bool false) (.string eS) (.bool false) (.string eS) := QBlk.kept (w := ((w.alloc (wObj n s)).alloc (wObj false t)).alloc (qObj false eS false eS)) (at_alloc3 _ _ _ _) G5 (by simp)
  have HG5 : Hid ((((w.alloc (wObj n s)).alloc (wObj false t)).alloc (qObj false eS false eS)).grownBy w5 none) := G5
  have r0 := hR.c0
  have r1 := hR.c1
  have r2 := hR.c2
  have r3 := hR.c3
  have f0 := hR.fr 0
  have f1 := hR.fr 1
  have f2 := hR.fr 2
  have f3 := hR.fr 3
  clear g5 G5
  go_wp2_with fail
  refine bodyPost_ret (res_cellQ_tmp rfl _ _ (w.heap.size + 1 + 1) _ _ _ _ _ _ rfl (hR.put _ _ _ _)) rfl ?_
  exact ⟨rfl, grown_put4 (grownBy_trans (grow3 _ _ _ _) HG5.out) (by omega)⟩
theorem QBlk.other {w : World} {B B' i : Nat} {a b c d v : Value} (h : QBlk w B a b c d) (hne : B' ≠ B) : QBlk (w.setCell ⟨B', i, none⟩ v) B a b c d := by
  unfold QBlk at *
  simp only [World.setCell]
  rw [Array.getElem?_modify, if_neg hne, h]
theorem div_is {k l : Nat} {x y : Int} {n1 n2 n' : Bool} {s1 s2 s' : ByteArray} (hk : k ≤ 16384) (hl : l ≤ 16384) (hy : y ≠ 0) (h1 : Sz k x n1 s1) (h2 : Sz l y n2 s2) (hq : IsZ (x / y) n' s') (w : World) :
    Calls Tryz.prog 55 #[whole n1 s1, whole n2 s2] w fun e w' => ∃ n3 s3, e = .returned (.tuple #[whole n' s', whole n3 s3, .int .i64 0]) ∧ w.grownBy w' none := by
  refine (div_sz hk hl hy h1 h2 w).mono ?_
  rintro e w' ⟨n, s, n3, s3, rfl, hz, _, hg⟩
  obtain ⟨rfl, rfl⟩ := whole_inj (hz.1.one hq)
  exact ⟨n3, s3, rfl, hg⟩
theorem lowest_pos (n n' d' : Bool) (s t sg s' t' : ByteArray) (hne : ¬ sg.toList = [1])
    (HC : Hid (∀ w, Calls Tryz.prog 90 #[whole n s, whole false t] w fun e w' => e = .returned (whole false sg) ∧ w.grownBy w' none))
    (HD1 : Hid (∀ w, Calls Tryz.prog 55 #[whole n s, whole false sg] w fun e w' => ∃ n3 s3, e = .returned (.tuple #[whole n' s', whole n3 s3, .int .i64 0]) ∧ w.grownBy w' none))
    (HD2 : Hid (∀ w, Calls Tryz.prog 55 #[whole false t, whole false sg] w fun e w' => ∃ n3 s3, e = .returned (.tuple #[whole d' t', whole n3 s3, .int .i64 0]) ∧ w.grownBy w' none))
    (rn1 rd1 : Bool) (rs1 rt1 : ByteArray) (re1 : Int)
    (HF : Hid (∀ w, Calls Tryz.prog 126 #[frac n' s' d' t'] w fun e w' => e = .returned (.tuple #[frac rn1 rs1 rd1 rt1, .int .i64 re1]) ∧ w.grownBy w' none)) (w : World) :
    Calls Tryz.prog 91 #[whole n s, whole false t] w fun e w' => e = .returned (.tuple #[frac rn1 rs1 rd1 rt1, .int .i64 re1]) ∧ w.grownBy w' none := by
  go_enter Tryz.func91, Tryz.ntmps91
  go_wp2_with fail
  refine (HC.out _).mono ?_
  rintro e w1 ⟨rfl, g1⟩
  have hA : WBlk w1 w.heap.size (.bool n) (.string s) := WBlk.kept (old_alloc _ _ (at_alloc1 _ _ _)) g1 (by simp)
  have hB : WBlk w1 (w.heap.size + 1) (.bool false) (.string t) := WBlk.kept (at_alloc2 _ _ _ _) g1 (by simp)
  have hR : QBlk w1 (w.heap.size + 1 + 1) (.bool false) (.string eS) (.bool false) (.string eS) := QBlk.kept (w := ((w.alloc (wObj n s)).alloc (wObj false t)).alloc (qObj false eS false eS)) (at_alloc3 _ _ _ _) g1 (by simp)
  have HG : Hid (w.grownBy w1 none) := grownBy_trans (grow3 _ _ _ _) g1
  have hsz : w.heap.size + 1 + 1 < w1.heap.size := hR.lt
  have HA : Hid (WBlk w1 w.heap.size (.bool n) (.string s)) := hA
  have HB : Hid (WBlk w1 (w.heap.size + 1) (.bool false) (.string t)) := hB
  have HR : Hid (QBlk w1 (w.heap.size + 1 + 1) (.bool false) (.string eS) (.bool false) (.string eS)) := hR
  have b0 := (hB.kept (grow1 w1 (wObj false sg)) (by simp)).c0
  clear g1 hA hB hR
  go_wp2_with fail
  have HY : Hid (∀ w', (w1.alloc (wObj false sg)).grownBy w' none → w'.cell? ⟨w1.heap.size, 0, none⟩ = some (Value.bool false) ∧ w'.cell? ⟨w1.heap.size, 1, none⟩ = some (Value.string sg)) := fun w' h => ⟨grownBy_cell h (WBlk.c0 (b := .string sg) (heap_alloc_new _ _)) (by simp), grownBy_cell h (WBlk.c1 (a := .bool false) (heap_alloc_new _ _)) (by simp)⟩
  go_region_held3 (fun w' => w'.cell? ⟨w1.heap.size, 0, none⟩ = some (Value.bool false) ∧ w'.cell? ⟨w1.heap.size, 1, none⟩ = some (Value.string sg))
    (first | (go_keep; done) | exact HY.out _ (by assumption) | exact HY.out _ (grow_drew (World.grownBy.refl _ _)) | fail)
    (first | (go_at_call 58; refine (fone_any _).mono ?_; rintro e w2 ⟨rfl, g2⟩; have G2 : (w1.alloc (wObj false sg)).grownBy w2 none := (by first | exact g2 | exact grownBy_undrew g2)) | fail)
  have hG2 : w1.grownBy w2 none := grownBy_trans (grow1 _ _) G2
  have hYb : WBlk w2 w1.heap.size (.bool false) (.string sg) := WBlk.kept (heap_alloc_new _ _) G2 (by simp)
  have HY2 : Hid (WBlk w2 w1.heap.size (.bool false) (.string sg)) := hYb
  replace HA : Hid (WBlk w2 w.heap.size (.bool n) (.string s)) := HA.out.kept hG2 (by simp)
  replace HB : Hid (WBlk w2 (w.heap.size + 1) (.bool false) (.string t)) := HB.out.kept hG2 (by simp)
  replace HR : Hid (QBlk w2 (w.heap.size + 1 + 1) (.bool false) (.string eS) (.bool false) (.string eS)) := HR.out.kept hG2 (by simp)
  replace HG : Hid (w.grownBy w2 none) := grownBy_trans HG.out hG2
  clear hG2 hYb b0
  have a0 := HA.out.c0
  have a1 := HA.out.c1
  have y0 := HY2.out.c0
  have y1 := HY2.out.c1
  go_wp2_with fail
  refine (HD1.out _).mono ?_
  rintro e w3 ⟨n3, s3, rfl, g3⟩
  clear a0 a1 y0 y1
  replace HA : Hid (WBlk w3 w.heap.size (.bool n) (.string s)) := HA.out.kept g3 (by simp)
  replace HB : Hid (WBlk w3 (w.heap.size + 1) (.bool false) (.string t)) := HB.out.kept g3 (by simp)
  replace HR : Hid (QBlk w3 (w.heap.size + 1 + 1) (.bool false) (.string eS) (.bool false) (.string eS)) := HR.out.kept g3 (by simp)
  replace HY2 : Hid (WBlk w3 w1.heap.size (.bool false) (.string sg)) := HY2.out.kept g3 (by simp)
  replace HG : Hid (w.grownBy w3 none) := grownBy_trans HG.out g3
  clear g3
  have a0 := HA.out.c0
  have a1 := HA.out.c1
  have f0 := HA.out.fr 0
  have f1 := HA.out.fr 1
  have HA' : Hid (WBlk ((w3.setCell ⟨w.heap.size, 0, none⟩ (.bool n')).setCell ⟨w.heap.size, 1, none⟩ (.string s')) w.heap.size (.bool n') (.string s')) := HA.out.put _ _
  have HB' : Hid (WBlk ((w3.setCell ⟨w.heap.size, 0, none⟩ (.bool n')).setCell ⟨w.heap.size, 1, none⟩ (.string s')) (w.heap.size + 1) (.bool false) (.string t)) := (HB.out.other (by omega)).other (by omega)
  have HY' : Hid (WBlk ((w3.setCell ⟨w.heap.size, 0, none⟩ (.bool n')).setCell ⟨w.heap.size, 1, none⟩ (.string s')) w1.heap.size (.bool false) (.string sg)) := (HY2.out.other (by omega)).other (by omega)
  have HR' : Hid (QBlk ((w3.setCell ⟨w.heap.size, 0, none⟩ (.bool n')).setCell ⟨w.heap.size, 1, none⟩ (.string s')) (w.heap.size + 1 + 1) (.bool false) (.string eS) (.bool false) (.string eS)) := (HR.out.other (by omega)).other (by omega)
  have HG' : Hid (w.grownBy ((w3.setCell ⟨w.heap.size, 0, none⟩ (.bool n')).setCell ⟨w.heap.size, 1, none⟩ (.string s')) none) := grown_set (grown_set HG.out (by omega)) (by omega)
  have b0 := HB'.out.c0
  have b1 := HB'.out.c1
  have y0 := HY'.out.c0
  have y1 := HY'.out.c1
  clear HA HB HR HY2 HG
  go_wp2_with fail
  clear a0 a1 f0 f1
  generalize (w3.setCell ⟨w.heap.size, 0, none⟩ (.bool n')).setCell ⟨w.heap.size, 1, none⟩ (.string s') = W3 at *
  refine (HD2.out _).mono ?_
  rintro e w4 ⟨n4, s4, rfl, g4⟩
  clear b0 b1 y0 y1
  have HA : Hid (WBlk w4 w.heap.size (.bool n') (.string s')) := HA'.out.kept g4 (by simp)
  have HB : Hid (WBlk w4 (w.heap.size + 1) (.bool false) (.string t)) := HB'.out.kept g4 (by simp)
  have HR : Hid (QBlk w4 (w.heap.size + 1 + 1) (.bool false) (.string eS) (.bool false) (.string eS)) := HR'.out.kept g4 (by simp)
  have HG : Hid (w.grownBy w4 none) := grownBy_trans HG'.out g4
  clear g4 HA' HB' HY' HR' HG'
  have b0 := HB.out.c0
  have b1 := HB.out.c1
  have f0 := HB.out.fr 0
  have f1 := HB.out.fr 1
  have HB' : Hid (WBlk ((w4.setCell ⟨w.heap.size + 1, 0, none⟩ (.bool d')).setCell ⟨w.heap.size + 1, 1, none⟩ (.string t')) (w.heap.size + 1) (.bool d') (.string t')) := HB.out.put _ _
  have HA' : Hid (WBlk ((w4.setCell ⟨w.heap.size + 1, 0, none⟩ (.bool d')).setCell ⟨w.heap.size + 1, 1, none⟩ (.string t')) w.heap.size (.bool n') (.string s')) := (HA.out.other (by omega)).other (by omega)
  have HR' : Hid (QBlk ((w4.setCell ⟨w.heap.size + 1, 0, none⟩ (.bool d')).setCell ⟨w.heap.size + 1, 1, none⟩ (.string t')) (w.heap.size + 1 + 1) (.bool false) (.string eS) (.bool false) (.string eS)) := (HR.out.other (by omega)).other (by omega)
  have HG' : Hid (w.grownBy ((w4.setCell ⟨w.heap.size + 1, 0, none⟩ (.bool d')).setCell ⟨w.heap.size + 1, 1, none⟩ (.string t')) none) := grown_set (grown_set HG.out (by omega)) (by omega)
  have a0 := HA'.out.c0
  have a1 := HA'.out.c1
  have e0 := HB'.out.c0
  have e1 := HB'.out.c1
  clear HA HB HR HG
  go_wp2_with fail
  generalize (w4.setCell ⟨w.heap.size + 1, 0, none⟩ (.bool d')).setCell ⟨w.heap.size + 1, 1, none⟩ (.string t') = W4 at *
  refine (HF.out _).mono ?_
  rintro e w5 ⟨rfl, g5⟩
  have hR : QBlk w5 (w.heap.size + 1 + 1) (.bool false) (.string eS) (.bool false) (.string eS) := HR'.out.kept g5 (by simp)
  have HG5 : Hid (w.grownBy w5 none) := grownBy_trans HG'.out g5
  clear a0 a1 b0 b1 e0 e1 f0 f1 g5
  have r0 := hR.c0
  have r1 := hR.c1
  have r2 := hR.c2
  have r3 := hR.c3
  have f0 := hR.fr 0
  have f1 := hR.fr 1
  have f2 := hR.fr 2
  have f3 := hR.fr 3
  go_wp2_with fail
  refine bodyPost_ret (res_cellQ_tmp rfl _ _ (w.heap.size + 1 + 1) _ _ _ _ _ _ rfl (hR.put _ _ _ _)) rfl ?_
  exact ⟨rfl, grown_put4 HG5.out (by omega)⟩
theorem lowest_neg (n n' d' : Bool) (s t sg s' t' : ByteArray) 
    (HC : Hid (∀ w, Calls Tryz.prog 90 #[whole n s, whole true t] w fun e w' => e = .returned (whole false sg) ∧ w.grownBy w' none))
    (HD1 : Hid (∀ w, Calls Tryz.prog 55 #[whole n s, whole true sg] w fun e w' => ∃ n3 s3, e = .returned (.tuple #[whole n' s', whole n3 s3, .int .i64 0]) ∧ w.grownBy w' none))
    (HD2 : Hid (∀ w, Calls Tryz.prog 55 #[whole true t, whole true sg] w fun e w' => ∃ n3 s3, e = .returned (.tuple #[whole d' t', whole n3 s3, .int .i64 0]) ∧ w.grownBy w' none))
    (rn1 rd1 : Bool) (rs1 rt1 : ByteArray) (re1 : Int)
    (HF : Hid (∀ w, Calls Tryz.prog 126 #[frac n' s' d' t'] w fun e w' => e = .returned (.tuple #[frac rn1 rs1 rd1 rt1, .int .i64 re1]) ∧ w.grownBy w' none)) (w : World) :
    Calls Tryz.prog 91 #[whole n s, whole true t] w fun e w' => e = .returned (.tuple #[frac rn1 rs1 rd1 rt1, .int .i64 re1]) ∧ w.grownBy w' none := by
  go_enter Tryz.func91, Tryz.ntmps91
  go_wp2_with fail
  refine (HC.out _).mono ?_
  rintro e w1 ⟨rfl, g1⟩
  have hA : WBlk w1 w.heap.size (.bool n) (.string s) := WBlk.kept (old_alloc _ _ (at_alloc1 _ _ _)) g1 (by simp)
  have hB : WBlk w1 (w.heap.size + 1) (.bool true) (.string t) := WBlk.kept (at_alloc2 _ _ _ _) g1 (by simp)
  have hR : QBlk w1 (w.heap.size + 1 + 1) (.bool false) (.string eS) (.bool false) (.string eS) := QBlk.kept (w := ((w.alloc (wObj n s)).alloc (wObj true t)).alloc (qObj false eS false eS)) (at_alloc3 _ _ _ _) g1 (by simp)
  have HG : Hid (w.grownBy w1 none) := grownBy_trans (grow3 _ _ _ _) g1
  have hsz : w.heap.size + 1 + 1 < w1.heap.size := hR.lt
  have HA : Hid (WBlk w1 w.heap.size (.bool n) (.string s)) := hA
  have HB : Hid (WBlk w1 (w.heap.size + 1) (.bool true) (.string t)) := hB
  have HR : Hid (QBlk w1 (w.heap.size + 1 + 1) (.bool false) (.string eS) (.bool false) (.string eS)) := hR
  have b0 := (hB.kept (grow1 w1 (wObj false sg)) (by simp)).c0
  clear g1 hA hB hR
  go_wp2_with fail
  have HY : Hid (∀ w', (w1.alloc (wObj true sg)).grownBy w' none → w'.cell? ⟨w1.heap.size, 0, none⟩ = some (Value.bool true) ∧ w'.cell? ⟨w1.heap.size, 1, none⟩ = some (Value.string sg)) := fun w' h => ⟨grownBy_cell h (WBlk.c0 (b := .string sg) (heap_alloc_new _ _)) (by simp), grownBy_cell h (WBlk.c1 (a := .bool true) (heap_alloc_new _ _)) (by simp)⟩
  go_region_held3 (fun w' => w'.cell? ⟨w1.heap.size, 0, none⟩ = some (Value.bool true) ∧ w'.cell? ⟨w1.heap.size, 1, none⟩ = some (Value.string sg))
    (first | (go_keep; done) | exact HY.out _ (by assumption) | exact HY.out _ (grow_drew (World.grownBy.refl _ _)) | fail)
    (first | (go_at_call 58; refine (fone_any _).mono ?_; rintro e w2 ⟨rfl, g2⟩; have G2 : (w1.alloc (wObj true sg)).grownBy w2 none := (by first | exact g2 | exact grownBy_undrew g2)) | fail)
  have hG2 : w1.grownBy w2 none := grownBy_trans (grow1 _ _) G2
  have hYb : WBlk w2 w1.heap.size (.bool true) (.string sg) := WBlk.kept (heap_alloc_new _ _) G2 (by simp)
  have HY2 : Hid (WBlk w2 w1.heap.size (.bool true) (.string sg)) := hYb
  replace HA : Hid (WBlk w2 w.heap.size (.bool n) (.string s)) := HA.out.kept hG2 (by simp)
  replace HB : Hid (WBlk w2 (w.heap.size + 1) (.bool true) (.string t)) := HB.out.kept hG2 (by simp)
  replace HR : Hid (QBlk w2 (w.heap.size + 1 + 1) (.bool false) (.string eS) (.bool false) (.string eS)) := HR.out.kept hG2 (by simp)
  replace HG : Hid (w.grownBy w2 none) := grownBy_trans HG.out hG2
  clear hG2 hYb b0
  have a0 := HA.out.c0
  have a1 := HA.out.c1
  have y0 := HY2.out.c0
  have y1 := HY2.out.c1
  go_wp2_with fail
  refine (HD1.out _).mono ?_
  rintro e w3 ⟨n3, s3, rfl, g3⟩
  clear a0 a1 y0 y1
  replace HA : Hid (WBlk w3 w.heap.size (.bool n) (.string s)) := HA.out.kept g3 (by simp)
  replace HB : Hid (WBlk w3 (w.heap.size + 1) (.bool true) (.string t)) := HB.out.kept g3 (by simp)
  replace HR : Hid (QBlk w3 (w.heap.size + 1 + 1) (.bool false) (.string eS) (.bool false) (.string eS)) := HR.out.kept g3 (by simp)
  replace HY2 : Hid (WBlk w3 w1.heap.size (.bool true) (.string sg)) := HY2.out.kept g3 (by simp)
  replace HG : Hid (w.grownBy w3 none) := grownBy_trans HG.out g3
  clear g3
  have a0 := HA.out.c0
  have a1 := HA.out.c1
  have f0 := HA.out.fr 0
  have f1 := HA.out.fr 1
  have HA' : Hid (WBlk ((w3.setCell ⟨w.heap.size, 0, none⟩ (.bool n')).setCell ⟨w.heap.size, 1, none⟩ (.string s')) w.heap.size (.bool n') (.string s')) := HA.out.put _ _
  have HB' : Hid (WBlk ((w3.setCell ⟨w.heap.size, 0, none⟩ (.bool n')).setCell ⟨w.heap.size, 1, none⟩ (.string s')) (w.heap.size + 1) (.bool true) (.string t)) := (HB.out.other (by omega)).other (by omega)
  have HY' : Hid (WBlk ((w3.setCell ⟨w.heap.size, 0, none⟩ (.bool n')).setCell ⟨w.heap.size, 1, none⟩ (.string s')) w1.heap.size (.bool true) (.string sg)) := (HY2.out.other (by omega)).other (by omega)
  have HR' : Hid (QBlk ((w3.setCell ⟨w.heap.size, 0, none⟩ (.bool n')).setCell ⟨w.heap.size, 1, none⟩ (.string s')) (w.heap.size + 1 + 1) (.bool false) (.string eS) (.bool false) (.string eS)) := (HR.out.other (by omega)).other (by omega)
  have HG' : Hid (w.grownBy ((w3.setCell ⟨w.heap.size, 0, none⟩ (.bool n')).setCell ⟨w.heap.size, 1, none⟩ (.string s')) none) := grown_set (grown_set HG.out (by omega)) (by omega)
  have b0 := HB'.out.c0
  have b1 := HB'.out.c1
  have y0 := HY'.out.c0
  have y1 := HY'.out.c1
  clear HA HB HR HY2 HG
  go_wp2_with fail
  clear a0 a1 f0 f1
  generalize (w3.setCell ⟨w.heap.size, 0, none⟩ (.bool n')).setCell ⟨w.heap.size, 1, none⟩ (.string s') = W3 at *
  refine (HD2.out _).mono ?_
  rintro e w4 ⟨n4, s4, rfl, g4⟩
  clear b0 b1 y0 y1
  have HA : Hid (WBlk w4 w.heap.size (.bool n') (.string s')) := HA'.out.kept g4 (by simp)
  have HB : Hid (WBlk w4 (w.heap.size + 1) (.bool true) (.string t)) := HB'.out.kept g4 (by simp)
  have HR : Hid (QBlk w4 (w.heap.size + 1 + 1) (.bool false) (.string eS) (.bool false) (.string eS)) := HR'.out.kept g4 (by simp)
  have HG : Hid (w.grownBy w4 none) := grownBy_trans HG'.out g4
  clear g4 HA' HB' HY' HR' HG'
  have b0 := HB.out.c0
  have b1 := HB.out.c1
  have f0 := HB.out.fr 0
  have f1 := HB.out.fr 1
  have HB' : Hid (WBlk ((w4.setCell ⟨w.heap.size + 1, 0, none⟩ (.bool d')).setCell ⟨w.heap.size + 1, 1, none⟩ (.string t')) (w.heap.size + 1) (.bool d') (.string t')) := HB.out.put _ _
  have HA' : Hid (WBlk ((w4.setCell ⟨w.heap.size + 1, 0, none⟩ (.bool d')).setCell ⟨w.heap.size + 1, 1, none⟩ (.string t')) w.heap.size (.bool n') (.string s')) := (HA.out.other (by omega)).other (by omega)
  have HR' : Hid (QBlk ((w4.setCell ⟨w.heap.size + 1, 0, none⟩ (.bool d')).setCell ⟨w.heap.size + 1, 1, none⟩ (.string t')) (w.heap.size + 1 + 1) (.bool false) (.string eS) (.bool false) (.string eS)) := (HR.out.other (by omega)).other (by omega)
  have HG' : Hid (w.grownBy ((w4.setCell ⟨w.heap.size + 1, 0, none⟩ (.bool d')).setCell ⟨w.heap.size + 1, 1, none⟩ (.string t')) none) := grown_set (grown_set HG.out (by omega)) (by omega)
  have a0 := HA'.out.c0
  have a1 := HA'.out.c1
  have e0 := HB'.out.c0
  have e1 := HB'.out.c1
  clear HA HB HR HG
  go_wp2_with fail
  generalize (w4.setCell ⟨w.heap.size + 1, 0, none⟩ (.bool d')).setCell ⟨w.heap.size + 1, 1, none⟩ (.string t') = W4 at *
  refine (HF.out _).mono ?_
  rintro e w5 ⟨rfl, g5⟩
  have hR : QBlk w5 (w.heap.size + 1 + 1) (.bool false) (.string eS) (.bool false) (.string eS) := HR'.out.kept g5 (by simp)
  have HG5 : Hid (w.grownBy w5 none) := grownBy_trans HG'.out g5
  clear a0 a1 b0 b1 e0 e1 f0 f1 g5
  have r0 := hR.c0
  have r1 := hR.c1
  have r2 := hR.c2
  have r3 := hR.c3
  have f0 := hR.fr 0
  have f1 := hR.fr 1
  have f2 := hR.fr 2
  have f3 := hR.fr 3
  go_wp2_with fail
  refine bodyPost_ret (res_cellQ_tmp rfl _ _ (w.heap.size + 1 + 1) _ _ _ _ _ _ rfl (hR.put _ _ _ _)) rfl ?_
  exact ⟨rfl, grown_put4 HG5.out (by omega)⟩
theorem sz_neg {k : Nat} {x : Int} {d : Bool} {s : ByteArray} (h : Sz k x d s) : (d = false ↔ 0 ≤ x) ∧ (d = true ↔ x < 0) := by
  have e := h.1.1
  constructor
  · rw [e]; constructor
    · intro h; have := of_decide_eq_false h; omega
    · intro h; exact decide_eq_false (by omega)
  · rw [e]; constructor
    · intro h; exact of_decide_eq_true h
    · intro h; exact decide_eq_true h
theorem lowest_any {k : Nat} (hk : k ≤ 16384) {n d n' d' : Bool} {s t s' t' : ByteArray} {x y : Int} (h1 : Sz k x n s) (h2 : Sz k y d t) (hy : y ≠ 0) (L : Low x y n' s' d' t') (w : World) :
    Calls Tryz.prog 91 #[whole n s, whole d t] w fun e w' => e = .returned (.tuple #[toldV n' s' d' t', .int .i64 (toldE s' t')]) ∧ w.grownBy w' none := by
  have hsz := L.size h1 h2
  have hF : ∀ w, Calls Tryz.prog 126 #[frac n' s' d' t'] w fun e w' => e = .returned (.tuple #[toldV n' s' d' t', .int .i64 (toldE s' t')]) ∧ w.grownBy w' none := fun w => fitting_any n' d' s' t' (by unfold maxLen; omega) (by unfold maxLen; omega) w
  obtain ⟨sg, hg⟩ := isz_str (Int.gcd x y)
  have hgp := gcd_pos_of (x := x) hy
  have hgk : Int.gcd x y < 256 ^ k := gcd_lt h1.2 h2.2
  have hC : ∀ w, Calls Tryz.prog 90 #[whole n s, whole d t] w fun e w' => e = .returned (whole false sg) ∧ w.grownBy w' none := fun w => common_yes hk h1 h2 hg w
  cases d
  · have hy0 := (sz_neg h2).1.1 rfl
    have hb : rby x y = ((Int.gcd x y : Nat) : Int) := by unfold rby; rw [if_neg (by omega)]
    by_cases h1g : Int.gcd x y = 1
    · obtain ⟨ea, eb⟩ := rnd_low (show 0 < y by omega) h1g
      have ln := L.zn
      have ld := L.zd
      rw [ea] at ln
      rw [eb] at ld
      obtain ⟨rfl, rfl⟩ := whole_inj (h1.1.one ln)
      obtain ⟨rfl, rfl⟩ := whole_inj (h2.1.one ld)
      exact lowest_one hk n s t x y h1 h2 h1g w
    · have zg : Sz k (rby x y) false sg := ⟨by rw [hb]; exact hg, by rw [hb, Int.natAbs_natCast]; exact hgk⟩
      exact lowest_pos n n' d' s t sg s' t' (fun e => h1g ((one_list hg).1 e)) hC (fun w => div_is hk hk (rby_ne hy) h1 zg L.zn w) (fun w => div_is hk hk (rby_ne hy) h2 zg L.zd w) _ _ _ _ _ hF w
  · have hy0 := (sz_neg h2).2.1 rfl
    have hb : rby x y = -((Int.gcd x y : Nat) : Int) := by unfold rby; rw [if_pos hy0]
    have zg : Sz k (rby x y) true sg := by
      refine ⟨⟨?_, ?_⟩, ?_⟩
      · rw [hb]; symm; exact decide_eq_true (by omega)
      · rw [hb, Int.natAbs_neg]; exact hg.2
      · rw [hb, Int.natAbs_neg, Int.natAbs_natCast]; exact hgk
    exact lowest_neg n n' d' s t sg s' t' hC (fun w => div_is hk hk (rby_ne hy) h1 zg L.zn w) (fun w => div_is hk hk (rby_ne hy) h2 zg L.zd w) _ _ _ _ _ hF w
theorem fzero_gr (w : World) : Calls Tryz.prog 51 #[] w fun e w' => e = .returned (whole false eS) ∧ w.grownBy w' none := by
  refine (fzero_any w).mono ?_
  rintro e w' ⟨rfl, rfl⟩
  exact ⟨rfl, grow1 _ _⟩
theorem fof_any {k : Nat} (hk : k ≤ 16384) {n d n' d' : Bool} {s t s' t' : ByteArray} {x y : Int} (h1 : Sz k x n s) (h2 : Sz k y d t) (hy : y ≠ 0) (L : Low x y n' s' d' t') (w : World) :
    Calls Tryz.prog 41 #[whole n s, whole d t] w fun e w' => e = .returned (.tuple #[toldV n' s' d' t', .int .i64 (toldE s' t')]) ∧ w.grownBy w' none := by
  have m1 := h1.may hk
  have m2 := h2.may hk
  have HC : Hid (∀ n0 s0 (w : World), (n0 = n ∧ s0 = s) ∨ (n0 = d ∧ s0 = t) → Calls Tryz.prog 81 #[whole n0 s0] w fun e w' => e = .returned (.int .i64 0) ∧ w' = w.alloc (wObj n0 s0)) := (by
    intro n0 s0 w h
    rcases h with ⟨rfl, rfl⟩ | ⟨rfl, rfl⟩
    · have := check_any n0 s0 (by have := may_size m1; unfold maxLen; omega) w
      rw [chk_yes m1] at this
      exact this
    · have := check_any n0 s0 (by have := may_size m2; unfold maxLen; omega) w
      rw [chk_yes m2] at this
      exact this)
  have HL : Hid (∀ w, Calls Tryz.prog 91 #[whole n s, whole d t] w fun e w' => e = .returned (.tuple #[toldV n' s' d' t', .int .i64 (toldE s' t')]) ∧ w.grownBy w' none) := fun w => lowest_any hk h1 h2 hy L w
  have he := isEmpty_of (h2.size0 hk hy)
  unfold toldV at *
  generalize tB (fitsB s' t') n' = rn1 at *
  generalize tS (fitsB s' t') s' = rs1 at *
  generalize tB (fitsB s' t') d' = rd1 at *
  generalize tS (fitsB s' t') t' = rt1 at *
  generalize toldE s' t' = re1 at *
  clear h1 h2 hy L m1 m2 hk
  go_enter Tryz.func41, Tryz.ntmps41
  go_wp2_with (go_at_call 81; refine (HC.out _ _ _ (by first | exact .inl ⟨rfl, rfl⟩ | exact .inr ⟨rfl, rfl⟩)).mono ?_; rintro e w1 ⟨rfl, rfl⟩)
  have HB : Hid (WBlk (((((w.alloc (wObj n s)).alloc (wObj d t)).alloc (qObj false eS false eS)).alloc (wObj n s)).alloc (wObj d t)) (w.heap.size + 1) (.bool d) (.string t)) := old_alloc _ _ (old_alloc _ _ (at_alloc2 _ _ _ _))
  have HA : Hid (WBlk (((((w.alloc (wObj n s)).alloc (wObj d t)).alloc (qObj false eS false eS)).alloc (wObj n s)).alloc (wObj d t)) w.heap.size (.bool n) (.string s)) := old_alloc _ _ (old_alloc _ _ (old_alloc _ _ (at_alloc1 _ _ _)))
  have HR : Hid (QBlk (((((w.alloc (wObj n s)).alloc (wObj d t)).alloc (qObj false eS false eS)).alloc (wObj n s)).alloc (wObj d t)) (w.heap.size + 1 + 1) (.bool false) (.string eS) (.bool false) (.string eS)) := old_alloc _ _ (old_alloc _ _ (at_alloc3 _ _ _ _))
  have HG : Hid (w.grownBy (((((w.alloc (wObj n s)).alloc (wObj d t)).alloc (qObj false eS false eS)).alloc (wObj n s)).alloc (wObj d t)) none) := grownBy_trans (grow4 _ _ _ _ _) (grow1 _ _)
  generalize (((((w.alloc (wObj n s)).alloc (wObj d t)).alloc (qObj false eS false eS)).alloc (wObj n s)).alloc (wObj d t)) = W at *
  have HY : Hid (∀ w', W.grownBy w' none → w'.cell? ⟨w.heap.size + 1, 0, none⟩ = some (Value.bool d) ∧ w'.cell? ⟨w.heap.size + 1, 1, none⟩ = some (Value.string t)) := fun w' h => ⟨(HB.out.kept h (by simp)).c0, (HB.out.kept h (by simp)).c1⟩
  cases d
  · go_region_held3 (fun w' => w'.cell? ⟨w.heap.size + 1, 0, none⟩ = some (Value.bool false) ∧ w'.cell? ⟨w.heap.size + 1, 1, none⟩ = some (Value.string t))
      (first | (go_keep; done) | exact HY.out _ (by assumption) | exact HY.out _ (grow_drew (World.grownBy.refl _ _)) | fail)
      (first | (go_at_call 51; refine (fzero_gr _).mono ?_; rintro e w2 ⟨rfl, g2⟩; have G2 : W.grownBy w2 none := (by first | exact g2 | exact grownBy_undrew g2)) | fail)
    have a0 := (HA.out.kept G2 (by simp)).c0
    have a1 := (HA.out.kept G2 (by simp)).c1
    have b0 := (HB.out.kept G2 (by simp)).c0
    have b1 := (HB.out.kept G2 (by simp)).c1
    have HR2 : Hid (QBlk w2 (w.heap.size + 1 + 1) (.bool false) (.string eS) (.bool false) (.string eS)) := HR.out.kept G2 (by simp)
    have HG2 : Hid (w.grownBy w2 none) := grownBy_trans HG.out G2
    go_wp2_with fail
    refine (HL.out _).mono ?_
    rintro e w3 ⟨rfl, g3⟩
    have hR : QBlk w3 (w.heap.size + 1 + 1) (.bool false) (.string eS) (.bool false) (.string eS) := HR2.out.kept g3 (by simp)
    have HG3 : Hid (w.grownBy w3 none) := grownBy_trans HG2.out g3
    clear a0 a1 b0 b1 g3
    have r0 := hR.c0
    have r1 := hR.c1
    have r2 := hR.c2
    have r3 := hR.c3
    have f0 := hR.fr 0
    have f1 := hR.fr 1
    have f2 := hR.fr 2
    have f3 := hR.fr 3
    go_wp2_with fail
    refine bodyPost_ret (res_cellQ_tmp rfl _ _ (w.heap.size + 1 + 1) _ _ _ _ _ _ rfl (hR.put _ _ _ _)) rfl ?_
    exact ⟨rfl, grown_put4 HG3.out (by omega)⟩
  · go_region_held3 (fun w' => w'.cell? ⟨w.heap.size + 1, 0, none⟩ = some (Value.bool true) ∧ w'.cell? ⟨w.heap.size + 1, 1, none⟩ = some (Value.string t))
      (first | (go_keep; done) | exact HY.out _ (by assumption) | exact HY.out _ (grow_drew (World.grownBy.refl _ _)) | fail)
      (first | (go_at_call 51; refine (fzero_gr _).mono ?_; rintro e w2 ⟨rfl, g2⟩; have G2 : W.grownBy w2 none := (by first | exact g2 | exact grownBy_undrew g2)) | fail)
    have a0 := (HA.out.kept G2 (by simp)).c0
    have a1 := (HA.out.kept G2 (by simp)).c1
    have b0 := (HB.out.kept G2 (by simp)).c0
    have b1 := (HB.out.kept G2 (by simp)).c1
    have HR2 : Hid (QBlk w2 (w.heap.size + 1 + 1) (.bool false) (.string eS) (.bool false) (.string eS)) := HR.out.kept G2 (by simp)
    have HG2 : Hid (w.grownBy w2 none) := grownBy_trans HG.out G2
    go_wp2_with fail
    refine (HL.out _).mono ?_
    rintro e w3 ⟨rfl, g3⟩
    have hR : QBlk w3 (w.heap.size + 1 + 1) (.bool false) (.string eS) (.bool false) (.string eS) := HR2.out.kept g3 (by simp)
    have HG3 : Hid (w.grownBy w3 none) := grownBy_trans HG2.out g3
    clear a0 a1 b0 b1 g3
    have r0 := hR.c0
    have r1 := hR.c1
    have r2 := hR.c2
    have r3 := hR.c3
    have f0 := hR.fr 0
    have f1 := hR.fr 1
    have f2 := hR.fr 2
    have f3 := hR.fr 3
    go_wp2_with fail
    refine bodyPost_ret (res_cellQ_tmp rfl _ _ (w.heap.size + 1 + 1) _ _ _ _ _ _ rfl (hR.put _ _ _ _)) rfl ?_
    exact ⟨rfl, grown_put4 HG3.out (by omega)⟩
end Go.Proofs.YtdfliaogmlpefaaGreatDoor
