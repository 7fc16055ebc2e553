/-
  The document's Text.
-/
import Derived.Test.YthldipnfaiobaaaDoorRdi
namespace Go.Proofs.YthldipnfaiobaaaDoor
open Go.RowKit Go.Lib Go.Sort
set_option linter.unusedVariables false
set_option linter.unusedSimpArgs false
set_option maxHeartbeats 3200000
set_option maxRecDepth 1000000
theorem join_snoc (xs : List (List UInt8)) (x : List UInt8) (h : xs ≠ []) : Lib.join (xs ++ [x]) [32] = Lib.join xs [32] ++ ([32] ++ x) := by
  induction xs with
  | nil => exact absurd rfl h
  | cons a l ih =>
    cases l with
    | nil => simp [Lib.join, List.intercalate]
    | cons b l =>
      have := ih (by simp)
      simp only [Lib.join, List.intercalate, List.cons_append, List.intersperse, List.flatten_cons] at this ⊢
      rw [this]
      simp
def jn (L : List Int) : ByteArray := ⟨(Lib.join (L.map Lib.itoa) [32]).toArray⟩
theorem jn_snoc (L : List Int) (k : Int) (h : L ≠ []) : jn (L ++ [k]) = jn L ++ ⟨#[32]⟩ ++ itB k := by
  unfold jn itB
  rw [List.map_append, List.map_cons, List.map_nil, join_snoc _ _ (by simpa using h)]
  apply ByteArray.ext
  simp
theorem jn_len (L : List Int) (h : ∀ x ∈ L, noL x = false) : (jn L).size ≤ 22 * L.length := by
  have := join_len (L.map Lib.itoa) (fun x hx => by
    obtain ⟨y, hy, rfl⟩ := List.mem_map.1 hx
    have := noL_no (h y hy)
    exact Lib.itoa_length_le y (by omega) (by omega))
  rw [List.length_map] at this
  show (Lib.join (L.map Lib.itoa) [32]).toArray.size ≤ _
  simpa using this
theorem itB_len (k : Int) (h : noL k = false) : (itB k).size ≤ 21 := by
  have := noL_no h
  have := Lib.itoa_length_le k (by omega) (by omega)
  show (Lib.itoa k).toArray.size ≤ 21
  simpa using this
theorem rText_any (w : World) (v : Value) (L : List Int) (h : Ints w v L) (hl : L.length ≤ 4096) (hL : ∀ x ∈ L, noL x = false) :
    Calls Tryd.prog 26 #[v] w fun e w' => e = .returned (.string (txB L)) ∧ w.grownBy w' none := by
  obtain ⟨ab, c, rfl, HR⟩ := h.reads
  have HR1 : Hid (∀ w', w.grownBy w' none → ∀ i, i < L.length → ∃ B off, ab = some ⟨B, off, none⟩ ∧ w'.cell? ⟨B, off + i, none⟩ = some (.int .i64 (L[i]?.getD 0)) ∧ L.length ≤ c) := HR
  have HL : Hid (∀ x ∈ L, noL x = false) := hL
  have HDg : Hid (∀ i, i < L.length → ∀ w, Calls Tryd.prog 58 #[.int .i64 (L[i]?.getD 0)] w fun e w' => e = .returned (.string (itB (L[i]?.getD 0))) ∧ w.grownBy w' none) := by
    intro i hi w
    refine digits_any _ ?_ w
    rw [List.getElem?_eq_getElem hi]
    exact hL _ (List.getElem_mem hi)
  have HSz : Hid (∀ i, i < L.length → (itB (L[i]?.getD 0)).size ≤ 21) := by
    intro i hi
    refine itB_len _ ?_
    rw [List.getElem?_eq_getElem hi]
    exact hL _ (List.getElem_mem hi)
  have HJl : Hid (∀ i, (jn (L.take i)).size ≤ 22 * i) := by
    intro i
    have := jn_len (L.take i) (fun x hx => hL x (List.mem_of_mem_take hx))
    rw [List.length_take] at this
    omega
  have HJs : Hid (∀ i, 0 < i → i < L.length → jn (L.take (i + 1)) = jn (L.take i) ++ ⟨#[32]⟩ ++ itB (L[i]?.getD 0)) := by
    intro i h0 hi
    rw [List.take_succ_eq_append_getElem hi, jn_snoc _ _ (by
      intro e
      have := congrArg List.length e
      rw [List.length_take, Nat.min_eq_left (by omega)] at this
      have h3 : i = 0 := this
      omega), List.getElem?_eq_getElem hi]
    rfl
  have HTx : Hid (txB L = if L.length = 0 then ⟨#[46]⟩ else jn L) := rfl
  obtain ⟨n, hn⟩ : ∃ n, L.length = n := ⟨_, rfl⟩
  have HN : Unit → L.length = n := fun _ => hn
  have hnI : (n : Int) ≤ 4096 := by omega
  rw [hn] at HR1 HDg HSz HJs HTx ⊢
  clear HR h hl hn hL
  by_cases hn0 : n = 0
  · subst hn0
    go_enter Tryd.func26, Tryd.ntmps26
    go_wp2_with fail
    go_ret
    refine ⟨?_, grow0 _⟩
    rw [HTx.out]
    rfl
  · have hnb : ((n : Int) == 0) = false := by simpa using (show (n : Int) ≠ 0 by omega)
    have HN0 : Hid (¬ n = 0) := hn0
    obtain ⟨B, off, rfl, hc, hnc⟩ := HR1.out w (grow0 w) 0 (by omega)
    rw [Nat.add_zero] at hc
    have hp : (0 : Int) < n := by omega
    have hpn : 0 < n := by omega
    have HD0 := HDg.out 0 (by omega) w
    have HJ0 : Hid (jn (L.take 1) = itB (L[0]?.getD 0)) := by
      show _ = _
      have h0 : 0 < L.length := by rw [HN ()]; omega
      rw [List.take_succ_eq_append_getElem h0, List.getElem?_eq_getElem h0]
      simp [jn, itB, Lib.join, List.intercalate]
    clear hn0
    generalize L[0]?.getD 0 = x0 at *
    go_enter Tryd.func26, Tryd.ntmps26
    go_wp2_with fail
    refine HD0.mono ?_
    rintro e w1 ⟨rfl, g1⟩
    have G1 : Hid (w.grownBy w1 none) := g1
    clear g1
    go_wp2_with fail
    go_loopw [3, 4] (fun s t wr => ∃ (i : Nat), 1 ≤ i ∧ i ≤ n ∧ t = .int .i64 (i : Int) ∧ s = .string (jn (L.take i)) ∧ w.grownBy wr none) (fun _ t _ => match t with | .int _ i => n - i.toNat | _ => 0)
    case atStart => exact ⟨1, by omega, by omega, rfl, by rw [HJ0.out], G1.out⟩
    case round =>
      obtain ⟨i, h1, hi, rfl, rfl, hG⟩ := hrel
      have HG : Hid (w.grownBy wr none) := hG
      clear hG
      by_cases hlt : i < n
      · obtain ⟨B2, off2, e2, hc2, _⟩ := HR1.out wr HG.out i hlt
        cases e2
        have HDi := HDg.out i hlt wr
        have hs1 := HSz.out i hlt
        have hs2 := HJl.out i
        have HJi : Hid (jn (L.take (i + 1)) = jn (L.take i) ++ ⟨#[32]⟩ ++ itB (L[i]?.getD 0)) := HJs.out i (by omega) hlt
        have hltI : (i : Int) < n := by omega
        generalize itB (L[i]?.getD 0) = tt at *
        generalize L[i]?.getD 0 = x at *
        generalize jn (L.take i) = J at *
        have hJI : (J.size : Int) ≤ 200000 := by omega
        have htI : (tt.size : Int) ≤ 21 := by omega
        have hs3 : (⟨#[32]⟩ : ByteArray).size = 1 := rfl
        have hs4 : ((J ++ ⟨#[32]⟩ : ByteArray).size : Int) ≤ 200001 := by
          rw [ByteArray.size_append, hs3]
          omega
        clear HD0 hc
        go_wp2_with fail
        refine HDi.mono ?_
        rintro e w2 ⟨rfl, g2⟩
        have G2 : Hid (w.grownBy w2 none) := grownBy_trans HG.out g2
        clear g2
        go_wp2_with fail
        go_roundw
        case rel => exact ⟨i + 1, by omega, by omega, num_eq (by omega), by rw [HJi.out], G2.out⟩
        case measure => simp; omega
      · have e : i = n := by omega
        subst e
        have HE : Hid (jn (L.take i) = txB L) := by
          show _ = _
          rw [HTx.out, if_neg HN0.out, ← HN (), List.take_length]
        go_wp2_with fail
        go_ret
        refine ⟨?_, HG.out⟩
        rw [← HE.out]
        rfl
end Go.Proofs.YthldipnfaiobaaaDoor
