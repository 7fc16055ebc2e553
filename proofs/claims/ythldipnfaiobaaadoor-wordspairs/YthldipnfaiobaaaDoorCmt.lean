/-
  The order of words: cmp.Compare, cmp.Or, size, byLetter, slices.CompareFunc.
-/
import Derived.Test.YthldipnfaiobaaaDoorTop
namespace Go.Proofs.YthldipnfaiobaaaDoor
open Go.RowKit Go.Lib Go.Sort
set_option linter.unusedVariables false
set_option linter.unusedSimpArgs false
set_option maxHeartbeats 1600000
set_option maxRecDepth 1000000
def cmp3 (x y : Int) : Int := if x < y then -1 else if y < x then 1 else 0
theorem isNaN_any (x : Int) (w : World) : Calls Tryd.prog 112 #[.int .i64 x] w fun e w' => e = .returned (.bool false) ∧ w' = w := by
  have hx : (x != x) = false := by simp
  go_enter Tryd.func112, Tryd.ntmps112
  go_wp2
  go_ret
  exact ⟨rfl, rfl⟩
theorem compare_any (x y : Int) (w : World) : Calls Tryd.prog 99 #[.int .i64 x, .int .i64 y] w fun e w' => e = .returned (.int .i64 (cmp3 x y)) ∧ w' = w := by
  unfold cmp3
  by_cases h1 : x < y
  · rw [if_pos h1]
    go_enter Tryd.func99, Tryd.ntmps99
    go_wp2_with fail
    refine (isNaN_any x _).mono ?_
    rintro e nw ⟨rfl, hw⟩
    obtain rfl := hw.symm
    clear hw
    go_wp2_with fail
    refine (isNaN_any y _).mono ?_
    rintro e nw ⟨rfl, hw⟩
    obtain rfl := hw.symm
    clear hw
    go_wp2_with fail
    go_ret
    exact ⟨rfl, rfl⟩
  · rw [if_neg h1]
    by_cases h2 : y < x
    · rw [if_pos h2]
      go_enter Tryd.func99, Tryd.ntmps99
      go_wp2_with fail
      refine (isNaN_any x _).mono ?_
      rintro e nw ⟨rfl, hw⟩
      obtain rfl := hw.symm
      clear hw
      go_wp2_with fail
      refine (isNaN_any y _).mono ?_
      rintro e nw ⟨rfl, hw⟩
      obtain rfl := hw.symm
      clear hw
      go_wp2_with fail
      go_ret
      exact ⟨rfl, rfl⟩
    · rw [if_neg h2]
      go_enter Tryd.func99, Tryd.ntmps99
      go_wp2_with fail
      refine (isNaN_any x _).mono ?_
      rintro e nw ⟨rfl, hw⟩
      obtain rfl := hw.symm
      clear hw
      go_wp2_with fail
      refine (isNaN_any y _).mono ?_
      rintro e nw ⟨rfl, hw⟩
      obtain rfl := hw.symm
      clear hw
      go_wp2_with fail
      go_ret
      exact ⟨rfl, rfl⟩
def orL : List Int → Int
  | [] => 0
  | a :: l => if a = 0 then orL l else a
theorem orL_drop {L : List Int} : ∀ {i : Nat}, (∀ j, j < i → L[j]?.getD 0 = 0) → orL L = orL (L.drop i) := by
  induction L with
  | nil => intro i _; simp
  | cons a l ih =>
    intro i h
    cases i with
    | zero => rfl
    | succ i =>
      have h0 := h 0 (by omega)
      simp at h0
      rw [List.drop_succ_cons, ← ih (i := i) (fun j hj => by simpa using h (j + 1) (by omega))]
      simp [orL, h0]
theorem or_any (w : World) (v : Value) (L : List Int) (h : Ints w v L) (hl : L.length ≤ 1000000) :
    Calls Tryd.prog 98 #[v] w fun e w' => e = .returned (.int .i64 (orL L)) ∧ w' = w := by
  obtain ⟨ab, c, rfl, HR⟩ := h.reads
  have HR1 : Hid (∀ i, i < L.length → ∃ B off, ab = some ⟨B, off, none⟩ ∧ w.cell? ⟨B, off + i, none⟩ = some (.int .i64 (L[i]?.getD 0)) ∧ L.length ≤ c) := fun i hi => HR w (grow0 w) i hi
  obtain ⟨n, hn⟩ : ∃ n, L.length = n := ⟨_, rfl⟩
  have HN : Unit → L.length = n := fun _ => hn
  have hnI : (n : Int) ≤ 1000000 := by omega
  rw [hn] at HR1 ⊢
  clear HR h hl hn
  go_enter Tryd.func98, Tryd.ntmps98
  go_wp2_with fail
  go_loopw [8] (fun s wr => ∃ (i : Nat), i ≤ n ∧ s = .int .i64 (i : Int) ∧ (∀ j, j < i → L[j]?.getD 0 = 0) ∧ w = wr) (fun s _ => match s with | .int _ i => n - i.toNat | _ => 0)
  case atStart => exact ⟨0, by omega, rfl, fun j hj => by omega, rfl⟩
  case round =>
    obtain ⟨i, hi, rfl, hz, rfl⟩ := hrel
    have HZ : Hid (∀ j, j < i → L[j]?.getD 0 = 0) := hz
    clear hz
    by_cases hlt : i < n
    · obtain ⟨B, off, rfl, hc, hnc⟩ := HR1.out i hlt
      have hlt' : i < L.length := by rw [HN ()]; exact hlt
      have HO : Hid (orL L = orL (L[i]?.getD 0 :: L.drop (i + 1))) := by
        show _ = _
        rw [orL_drop HZ.out, List.drop_eq_getElem_cons hlt', List.getElem?_eq_getElem hlt']
        rfl
      have HZn : Hid (L[i]?.getD 0 = 0 → ∀ j, j < i + 1 → L[j]?.getD 0 = 0) := by
        intro e j hj
        rcases Nat.lt_or_ge j i with h | h
        · exact HZ.out j h
        · obtain rfl : j = i := by omega
          exact e
      have hltI : (i : Int) < n := by omega
      generalize L[i]?.getD 0 = x at *
      by_cases hx : x = 0
      · have HZ2 : Hid (∀ j, j < i + 1 → L[j]?.getD 0 = 0) := HZn.out hx
        subst hx
        clear HZn
        go_wp2_with fail
        go_roundw
        case rel => exact ⟨i + 1, by omega, num_eq (by omega), HZ2.out, trivial⟩
        case measure => simp; omega
      · have hxb : (x != 0) = true := by simpa using hx
        have HV : Hid (orL L = x) := by
          show _ = _
          rw [HO.out]
          show (if x = 0 then _ else x) = x
          rw [if_neg hx]
        clear hx
        go_wp2_with fail
        go_ret
        exact ⟨ret_num HV.out.symm, rfl⟩
    · have e : i = n := by omega
      subst e
      have HV : Hid (orL L = 0) := by
        show _ = _
        rw [orL_drop HZ.out, ← HN (), List.drop_length]
        rfl
      go_wp2_with fail
      go_ret
      exact ⟨ret_num HV.out.symm, rfl⟩
theorem ints_lit2 (w : World) (x y : Int) : Ints (w.alloc (.cells #[.int .i64 x, .int .i64 y] 3)) (.slice (some ⟨w.heap.size, 0, none⟩) 2 2) [x, y] := by
  refine .inr (.inl ⟨w.heap.size, 0, 2, rfl, Nat.le_refl _, fun j hj => ?_⟩)
  match j, hj with
  | 0, _ => simp
  | 1, _ => simp
theorem or_two (w : World) (x y : Int) :
    Calls Tryd.prog 98 #[.slice (some ⟨w.heap.size, 0, none⟩) 2 2] (w.alloc (.cells #[.int .i64 x, .int .i64 y] 3)) fun e w' => e = .returned (.int .i64 (if x = 0 then y else x)) ∧ w.grownBy w' none := by
  refine (or_any _ _ [x, y] (ints_lit2 w x y) (by simp)).mono ?_
  rintro e w' ⟨rfl, rfl⟩
  refine ⟨?_, grow1 _ _⟩
  have : orL [x, y] = if x = 0 then y else x := by
    show (if x = 0 then (if y = 0 then 0 else y) else x) = _
    split
    · split <;> omega
    · rfl
  rw [this]
theorem size_any (k : Int) (h1 : -64 ≤ k) (h2 : k ≤ 64) (w : World) : Calls Tryd.prog 73 #[.int .i64 k] w fun e w' => e = .returned (.int .i64 (max k (-k))) ∧ w' = w := by
  go_enter Tryd.func73, Tryd.ntmps73
  go_wp2
  go_ret
  exact ⟨rfl, rfl⟩
def ordL (k l : Int) : Int := if cmp3 (max k (-k)) (max l (-l)) = 0 then cmp3 l k else cmp3 (max k (-k)) (max l (-l))
theorem byLetter_any (k l : Int) (hk : noL k = false) (hl : noL l = false) (w : World) : Calls Tryd.prog 70 #[.int .i64 k, .int .i64 l] w fun e w' => e = .returned (.int .i64 (ordL k l)) ∧ w.grownBy w' none := by
  have HK : Hid (-64 ≤ k ∧ k ≤ 64) := (noL_no hk).2
  have HL : Hid (-64 ≤ l ∧ l ≤ 64) := (noL_no hl).2
  clear hk hl
  have HO : Hid (ordL k l = if cmp3 (max k (-k)) (max l (-l)) = 0 then cmp3 l k else cmp3 (max k (-k)) (max l (-l))) := rfl
  generalize ordL k l = r at *
  go_enter Tryd.func70, Tryd.ntmps70
  go_wp2_with fail
  refine (size_any k HK.out.1 HK.out.2 _).mono ?_
  rintro e nw ⟨rfl, hw⟩
  obtain rfl := hw.symm
  clear hw
  go_wp2_with fail
  refine (size_any l HL.out.1 HL.out.2 _).mono ?_
  rintro e nw ⟨rfl, hw⟩
  obtain rfl := hw.symm
  clear hw
  generalize max k (-k) = ka at *
  generalize max l (-l) = la at *
  go_wp2_with fail
  refine (compare_any ka la _).mono ?_
  rintro e nw ⟨rfl, hw⟩
  obtain rfl := hw.symm
  clear hw
  go_wp2_with fail
  refine (compare_any l k _).mono ?_
  rintro e nw ⟨rfl, hw⟩
  obtain rfl := hw.symm
  clear hw
  generalize cmp3 ka la = c1 at *
  generalize cmp3 l k = c2 at *
  have HT := or_two w c1 c2
  rw [← HO.out] at HT
  go_wp2_with fail
  refine HT.mono ?_
  rintro e w1 ⟨rfl, hg⟩
  have HG : Hid (w.grownBy w1 none) := hg
  clear hg
  go_wp2_with fail
  go_ret
  exact ⟨rfl, HG.out⟩
def cfL : List Int → List Int → Int
  | [], [] => 0
  | [], _ :: _ => -1
  | _ :: _, [] => 1
  | a :: V, b :: U => if ordL a b = 0 then cfL V U else ordL a b
theorem compareFunc_any (w : World) (v u : Value) (V U : List Int) (hV : Ints w v V) (hU : Ints w u U) (hl : V.length ≤ 1000000) (hl2 : U.length ≤ 1000000) (hVn : ∀ x ∈ V, noL x = false) (hUn : ∀ x ∈ U, noL x = false) :
    Calls Tryd.prog 100 #[v, u, .func (.func 70) #[] #[]] w fun e w' => e = .returned (.int .i64 (cfL V U)) ∧ w.grownBy w' none := by
  obtain ⟨ab, c, rfl, HR⟩ := hV.reads
  obtain ⟨ub, uc, rfl, HR2⟩ := hU.reads
  have HRV : Hid (∀ w', w.grownBy w' none → ∀ i, i < V.length → ∃ B off, ab = some ⟨B, off, none⟩ ∧ w'.cell? ⟨B, off + i, none⟩ = some (.int .i64 (V[i]?.getD 0)) ∧ V.length ≤ c) := HR
  have HRU : Hid (∀ w', w.grownBy w' none → ∀ i, i < U.length → ∃ B off, ub = some ⟨B, off, none⟩ ∧ w'.cell? ⟨B, off + i, none⟩ = some (.int .i64 (U[i]?.getD 0)) ∧ U.length ≤ uc) := HR2
  have HVn : Hid (∀ i, i < V.length → noL (V[i]?.getD 0) = false) := fun i hi => by
    rw [List.getElem?_eq_getElem hi]
    exact hVn _ (List.getElem_mem hi)
  have HUn : Hid (∀ i, i < U.length → noL (U[i]?.getD 0) = false) := fun i hi => by
    rw [List.getElem?_eq_getElem hi]
    exact hUn _ (List.getElem_mem hi)
  obtain ⟨n, hn⟩ : ∃ n, V.length = n := ⟨_, rfl⟩
  obtain ⟨k, hk⟩ : ∃ k, U.length = k := ⟨_, rfl⟩
  have HN : Unit → V.length = n ∧ U.length = k := fun _ => ⟨hn, hk⟩
  have hnI : (n : Int) ≤ 1000000 := by omega
  have hkI : (k : Int) ≤ 1000000 := by omega
  rw [hn] at HRV HVn ⊢
  rw [hk] at HRU HUn ⊢
  clear HR HR2 hV hU hl hl2 hn hk hVn hUn
  go_enter Tryd.func100, Tryd.ntmps100
  go_wp2_with fail
  go_loopw [13] (fun s wr => ∃ (i : Nat), i ≤ n ∧ i ≤ k ∧ s = .int .i64 (i : Int) ∧ cfL V U = cfL (V.drop i) (U.drop i) ∧ w.grownBy wr none) (fun s _ => match s with | .int _ i => n - i.toNat | _ => 0)
  case atStart => exact ⟨0, by omega, by omega, rfl, rfl, grow0 _⟩
  case round =>
    obtain ⟨i, hi, hik, rfl, hz, hG⟩ := hrel
    have HZ : Hid (cfL V U = cfL (V.drop i) (U.drop i)) := hz
    have HG : Hid (w.grownBy wr none) := hG
    clear hz hG
    by_cases hlt : i < n
    · obtain ⟨B, off, rfl, hc, hnc⟩ := HRV.out wr HG.out i hlt
      have hlt' : i < V.length := by rw [(HN ()).1]; exact hlt
      have hltI : (i : Int) < n := by omega
      have eV : V.drop i = V[i]?.getD 0 :: V.drop (i + 1) := by rw [List.drop_eq_getElem_cons hlt', List.getElem?_eq_getElem hlt']; rfl
      have hx := HVn.out i hlt
      by_cases hlk : i < k
      · obtain ⟨B2, off2, rfl, hc2, hkc⟩ := HRU.out wr HG.out i hlk
        have hlk' : i < U.length := by rw [(HN ()).2]; exact hlk
        have hlkI : (i : Int) < k := by omega
        have eU : U.drop i = U[i]?.getD 0 :: U.drop (i + 1) := by rw [List.drop_eq_getElem_cons hlk', List.getElem?_eq_getElem hlk']; rfl
        have hy := HUn.out i hlk
        have HO : Hid (cfL V U = if ordL (V[i]?.getD 0) (U[i]?.getD 0) = 0 then cfL (V.drop (i + 1)) (U.drop (i + 1)) else ordL (V[i]?.getD 0) (U[i]?.getD 0)) := by
          show _ = _
          rw [HZ.out, eV, eU]
          rfl
        generalize V[i]?.getD 0 = x at *
        generalize U[i]?.getD 0 = y at *
        have HB := byLetter_any x y hx hy wr
        obtain ⟨r, hr⟩ : ∃ r, ordL x y = r := ⟨_, rfl⟩
        rw [hr] at HB HO
        clear eV eU hx hy hr HZ
        by_cases hr0 : r = 0
        · subst hr0
          have HO2 : Hid (cfL V U = cfL (V.drop (i + 1)) (U.drop (i + 1))) := by
            show _ = _
            rw [HO.out, if_pos rfl]
          go_wp2_with fail
          refine HB.mono ?_
          rintro e w1 ⟨rfl, hg⟩
          have HG1 : Hid (w.grownBy w1 none) := grownBy_trans HG.out hg
          clear hg
          go_wp2_with fail
          go_roundw
          case rel => exact ⟨i + 1, by omega, by omega, num_eq (by omega), HO2.out, HG1.out⟩
          case measure => simp; omega
        · have hrb : (r != 0) = true := by simpa using hr0
          have HO2 : Hid (cfL V U = r) := by
            show _ = _
            rw [HO.out, if_neg hr0]
          clear hr0
          go_wp2_with fail
          refine HB.mono ?_
          rintro e w1 ⟨rfl, hg⟩
          have HG1 : Hid (w.grownBy w1 none) := grownBy_trans HG.out hg
          clear hg
          go_wp2_with fail
          go_ret
          exact ⟨ret_num HO2.out.symm, HG1.out⟩
      · have HO : Hid (cfL V U = 1) := by
          have eU : U.drop i = [] := List.drop_eq_nil_of_le (by rw [(HN ()).2]; omega)
          show _ = _
          rw [HZ.out, eV, eU]
          rfl
        generalize V[i]?.getD 0 = x at *
        have hlkI : (k : Int) ≤ i := by omega
        clear eV hx HZ
        go_wp2_with fail
        go_ret
        exact ⟨ret_num HO.out.symm, HG.out⟩
    · have e : i = n := by omega
      subst e
      have eV : V.drop i = [] := List.drop_eq_nil_of_le (by rw [(HN ()).1]; omega)
      by_cases hlk : i < k
      · have HO : Hid (cfL V U = -1) := by
          have hlk' : i < U.length := by rw [(HN ()).2]; exact hlk
          show _ = _
          rw [HZ.out, eV, List.drop_eq_getElem_cons hlk']
          rfl
        have hlkI : (i : Int) < k := by omega
        clear eV HZ
        go_wp2_with fail
        go_ret
        exact ⟨ret_num HO.out.symm, HG.out⟩
      · have HO : Hid (cfL V U = 0) := by
          show _ = _
          rw [HZ.out, eV, List.drop_eq_nil_of_le (by rw [(HN ()).2]; omega)]
          rfl
        have hlkI : (k : Int) ≤ i := by omega
        clear eV HZ
        go_wp2_with fail
        go_ret
        exact ⟨ret_num HO.out.symm, HG.out⟩
end Go.Proofs.YthldipnfaiobaaaDoor
