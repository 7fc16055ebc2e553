/-
  The document's digits and Text.
-/
import Derived.Test.YthldipnfaiobaaaDoorTxt
import Derived.Laws.IdiomStrings
namespace Go.Proofs.YthldipnfaiobaaaDoor
open Go.RowKit Go.Lib Go.Sort
set_option linter.unusedVariables false
set_option linter.unusedSimpArgs false
set_option maxHeartbeats 3200000
set_option maxRecDepth 1000000
def ch (d : Nat) : UInt8 := UInt8.ofNat (48 + d)
theorem ch_nat (d : Nat) (h : d < 10) : (ch d).toNat = 48 + d := by
  unfold ch
  rw [UInt8.toNat_ofNat']
  omega
theorem conv1 (w : World) (d : Nat) (h : d < 10) : (convert 107 9 (.slice (some ⟨w.heap.size, 0, none⟩) 1 1)).run Tryd.prog (w.alloc (.cells #[.int .u8 (48 + (d : Int))] 5)) = .ok (.string ⟨#[ch d]⟩) (w.alloc (.cells #[.int .u8 (48 + (d : Int))] 5)) := by
  refine run_convert_bytes_back (P := Tryd.prog) _ 107 9 5 ⟨w.heap.size, 0, none⟩ 1 [ch d] Tryd.underlying107 Tryd.underlying5 Tryd.underlying9 ?_
  intro j hj
  have hj0 : j = 0 := by simpa using hj
  subst hj0
  rw [Addr.add_lit]
  refine cell_new ?_
  simp [ch_nat d h]
def dg (u : Nat) : ByteArray := if u < 10 then ⟨#[ch u]⟩ else ⟨#[ch (u / 10), ch (u % 10)]⟩
theorem itB_pos : ∀ u : Fin 100, itB (u.1 : Int) = dg u.1 := by decide +kernel
theorem itB_neg : ∀ u : Fin 100, u.1 ≠ 0 → itB (-(u.1 : Int)) = ⟨#[45] ++ (dg u.1).data⟩ := by decide +kernel
theorem two_ch (a b : UInt8) : (⟨#[a]⟩ : ByteArray) ++ ⟨#[b]⟩ = ⟨#[a, b]⟩ := by
  apply ByteArray.ext
  simp
theorem digits_small (d : Nat) (hd : d < 10) (w : World) : Calls Tryd.prog 58 #[.int .i64 (d : Int)] w fun e w' => e = .returned (.string ⟨#[ch d]⟩) ∧ w.grownBy w' none := by
  have hdI : (d : Int) < 10 := by omega
  have hcv := conv1 w d hd
  go_enter Tryd.func58, Tryd.ntmps58
  go_wp2_with fail
  go_ret
  exact ⟨rfl, grow1 _ _⟩
theorem digits_pos (u : Nat) (hu : u < 100) (w : World) : Calls Tryd.prog 58 #[.int .i64 (u : Int)] w fun e w' => e = .returned (.string (dg u)) ∧ w.grownBy w' none := by
  by_cases h : u < 10
  · have := digits_small u h w
    unfold dg
    rw [if_pos h]
    exact this
  · obtain ⟨a, ha⟩ : ∃ a, u / 10 = a := ⟨_, rfl⟩
    obtain ⟨b, hb⟩ : ∃ b, u % 10 = b := ⟨_, rfl⟩
    have hdg : dg u = ⟨#[ch a, ch b]⟩ := by unfold dg; rw [if_neg h, ha, hb]
    have h1 : Hid (∀ w, Calls Tryd.prog 58 #[.int .i64 (a : Int)] w fun e w' => e = .returned (.string ⟨#[ch a]⟩) ∧ w.grownBy w' none) := fun w => digits_small a (by omega) w
    have h2 : Hid (∀ w, Calls Tryd.prog 58 #[.int .i64 (b : Int)] w fun e w' => e = .returned (.string ⟨#[ch b]⟩) ∧ w.grownBy w' none) := fun w => digits_small b (by omega) w
    have hq : (u : Int).tdiv 10 = (a : Int) := by rw [← ha]; rfl
    have hr : (u : Int).tmod 10 = (b : Int) := by rw [← hb]; rfl
    have hq2 : (u : Int) / 10 = (a : Int) := by omega
    have hr2 : (u : Int) % 10 = (b : Int) := by omega
    have hge : (10 : Int) ≤ u := by omega
    have huI : (u : Int) < 100 := by omega
    have HD : Hid (dg u = ⟨#[ch a, ch b]⟩) := hdg
    have ht := two_ch (ch a) (ch b)
    have haI : (a : Int) < 10 := by omega
    have hbI : (b : Int) < 10 := by omega
    clear ha hb hdg h
    go_enter Tryd.func58, Tryd.ntmps58
    go_wp2_with fail
    refine (h1.out _).mono ?_
    rintro e w1 ⟨rfl, g1⟩
    have G1 : Hid (w.grownBy w1 none) := g1
    clear g1
    go_wp2_with fail
    refine (h2.out _).mono ?_
    rintro e w2 ⟨rfl, g2⟩
    have G2 : Hid (w.grownBy w2 none) := grownBy_trans G1.out g2
    clear g2
    go_wp2_with fail
    go_ret
    refine ⟨?_, G2.out⟩
    rw [HD.out]
    rfl
theorem neg_rem (u : Nat) : (-(u : Int)).tmod 10 = -((u % 10 : Nat) : Int) := by
  rw [Int.neg_tmod]
  rfl
theorem neg_quo (u : Nat) : (-(u : Int)).tdiv 10 = -((u / 10 : Nat) : Int) := by
  rw [Int.neg_tdiv]
  rfl
theorem app_empty (x : ByteArray) : x ++ (⟨#[]⟩ : ByteArray) = x := by
  apply ByteArray.ext
  simp
theorem min_app (x : ByteArray) : (⟨#[45]⟩ : ByteArray) ++ x = ⟨#[45] ++ x.data⟩ := by
  apply ByteArray.ext
  simp
theorem digits_neg (u : Nat) (h1 : 1 ≤ u) (hu : u < 100) (w : World) : Calls Tryd.prog 58 #[.int .i64 (-(u : Int))] w fun e w' => e = .returned (.string ⟨#[45] ++ (dg u).data⟩) ∧ w.grownBy w' none := by
  have HM : Hid ((⟨#[45]⟩ : ByteArray) ++ dg u = ⟨#[45] ++ (dg u).data⟩) := min_app _
  have h0 : -(u : Int) < 0 := by omega
  have huI : (u : Int) < 100 := by omega
  go_enter Tryd.func58, Tryd.ntmps58
  go_wp2_with fail
  go_loopw [0, 3] (fun s t wr => (∃ (x : Nat) (y : ByteArray), s = .int .i64 (-(x : Int)) ∧ t = .string y ∧ (x = u ∧ y = ⟨#[]⟩ ∨ (10 ≤ u ∧ x = u / 10 ∧ y = ⟨#[ch (u % 10)]⟩) ∨ (x = 0 ∧ y = dg u))) ∧ w.grownBy wr none) (fun s _ _ => match s with | .int _ i => i.natAbs | _ => 0)
  case atStart => exact ⟨⟨u, ⟨#[]⟩, rfl, rfl, .inl ⟨rfl, rfl⟩⟩, grow0 _⟩
  case round =>
    obtain ⟨⟨x, y, rfl, rfl, hc⟩, hG⟩ := hrel
    have HG : Hid (w.grownBy wr none) := hG
    have HC : Hid (x = u ∧ y = ⟨#[]⟩ ∨ (10 ≤ u ∧ x = u / 10 ∧ y = ⟨#[ch (u % 10)]⟩) ∨ (x = 0 ∧ y = dg u)) := hc
    have hx100 : x < 100 := by omega
    have hys : y.size ≤ 2 := by
      rcases HC.out with ⟨_, e⟩ | ⟨_, _, e⟩ | ⟨_, e⟩
      · subst e; decide
      · subst e; exact (by decide : (1 : Nat) ≤ 2)
      · subst e
        unfold dg
        split
        · exact (by decide : (1 : Nat) ≤ 2)
        · exact (by decide : (2 : Nat) ≤ 2)
    have hysI : (y.size : Int) ≤ 2 := by omega
    have hs1 : ∀ z : UInt8, (⟨#[z]⟩ : ByteArray).size = 1 := fun z => rfl
    clear hG hc
    by_cases hx : x = 0
    · subst hx
      have HY : Hid (y = dg u) := by
        rcases HC.out with ⟨e, _⟩ | ⟨_, e, _⟩ | ⟨_, e⟩
        · omega
        · omega
        · exact e
      have e0 : -((0 : Nat) : Int) = 0 := rfl
      rw [e0]
      go_wp2_with fail
      go_ret
      refine ⟨?_, HG.out⟩
      rw [← HM.out, ← HY.out]
      rfl
    · obtain ⟨a, ha⟩ : ∃ a, x / 10 = a := ⟨_, rfl⟩
      obtain ⟨b, hb⟩ : ∃ b, x % 10 = b := ⟨_, rfl⟩
      have hr := neg_rem x
      have hq := neg_quo x
      rw [hb] at hr
      rw [ha] at hq
      have hxI : (x : Int) < 100 := by omega
      have hx0 : -(x : Int) < 0 := by omega
      have hbI : (b : Int) < 10 := by omega
      have haI : (a : Int) < 10 := by omega
      have hcv := conv1 wr b (by omega)
      have h48 : (48 : Int) - -(b : Int) = 48 + b := by omega
      have HNx : Hid (a < x ∧ (a = u ∧ (⟨#[ch b]⟩ ++ y : ByteArray) = ⟨#[]⟩ ∨ (10 ≤ u ∧ a = u / 10 ∧ (⟨#[ch b]⟩ ++ y : ByteArray) = ⟨#[ch (u % 10)]⟩) ∨ (a = 0 ∧ (⟨#[ch b]⟩ ++ y : ByteArray) = dg u))) := by
        refine ⟨by omega, ?_⟩
        rcases HC.out with ⟨e, e2⟩ | ⟨e0, e, e2⟩ | ⟨e, _⟩
        · subst e e2
          rw [app_empty]
          rcases Nat.lt_or_ge x 10 with h | h
          · refine .inr (.inr ⟨by omega, ?_⟩)
            unfold dg
            rw [if_pos h, ← hb, Nat.mod_eq_of_lt h]
          · exact .inr (.inl ⟨h, ha.symm, by rw [hb]⟩)
        · subst e2
          refine .inr (.inr ⟨by omega, ?_⟩)
          unfold dg
          rw [if_neg (by omega), two_ch, ← e, ← hb, Nat.mod_eq_of_lt (by omega)]
        · omega
      clear ha hb
      go_wp2_with fail
      go_roundw
      case rel => exact ⟨⟨a, _, rfl, rfl, HNx.out.2⟩, grownBy_trans HG.out (grow1 _ _)⟩
      case measure => have := HNx.out.1; simp; omega
theorem digits_any (k : Int) (h : noL k = false) (w : World) : Calls Tryd.prog 58 #[.int .i64 k] w fun e w' => e = .returned (.string (itB k)) ∧ w.grownBy w' none := by
  have hn := noL_no h
  rcases (show k < 0 ∨ 0 ≤ k by omega) with hk | hk
  · obtain ⟨u, rfl⟩ : ∃ u : Nat, k = -(u : Int) := ⟨k.natAbs, by omega⟩
    rw [itB_neg ⟨u, by omega⟩ (by show u ≠ 0; omega)]
    exact digits_neg u (by omega) (by omega) w
  · obtain ⟨u, rfl⟩ : ∃ u : Nat, k = (u : Int) := ⟨k.natAbs, by omega⟩
    rw [itB_pos ⟨u, by omega⟩]
    exact digits_pos u (by omega) w
end Go.Proofs.YthldipnfaiobaaaDoor
