/-
  The program's period.
-/
import Derived.Test.YtkimgmgafkihaaaDoorKmp
namespace Go.Proofs.YtkimgmgafkihaaaDoor
open Go.RowKit Go.Lib Go.Sort
set_option linter.unusedVariables false
set_option linter.unusedSimpArgs false
set_option maxHeartbeats 1600000
set_option maxRecDepth 1000000
theorem period_any (w : World) (vw : Value) (W : List Int) (hW : Ints w vw W) (h0 : 0 < W.length) (hl : W.length ≤ 1000000) :
    Calls Tryd.prog 32 #[vw] w fun e w' => ∃ p : Nat, e = .returned (.int .i64 (p : Int)) ∧ Rt W p ∧ w.grownBy w' none := by
  have HB := borders_any w vw W hW hl
  obtain ⟨ab, c, rfl, _⟩ := hW.reads
  have HRt : Hid (∀ b, LB W W.length b → Rt W (if W.length % (W.length - b) = 0 then W.length - b else W.length)) := fun b hb => rt_of h0 hb
  obtain ⟨m, hm⟩ : ∃ m, W.length = m := ⟨_, rfl⟩
  rw [hm] at HB HRt h0 hl ⊢
  have hmI : (m : Int) ≤ 1000000 := by omega
  clear hW hm
  go_enter Tryd.func32, Tryd.ntmps32
  go_wp2_with fail
  refine HB.mono ?_
  rintro e w' ⟨E, rfl, hO, hEl, hE, hG⟩
  have HG : Hid (w.grownBy w' none) := hG
  obtain ⟨q, hq⟩ : ∃ q, m = q + 1 := ⟨m - 1, by omega⟩
  have c1 := hO.cell q (by omega)
  obtain ⟨b, hb, hLB⟩ := hE q (by omega)
  rw [← hq] at hLB
  rw [hb] at c1
  have hqI : (m : Int) - 1 = q := by omega
  have hqm : (q : Int) < m := by omega
  have hbm := hLB.1
  have HR := HRt.out b hLB
  obtain ⟨p, hp⟩ : ∃ p, m - b = p := ⟨_, rfl⟩
  have hpI : (m : Int) - b = p := by omega
  rw [hp] at HR
  have hp0 : (p : Int) ≠ 0 := by omega
  have hpb : ((p : Int) == 0) = false := by simpa using hp0
  have htm : (m : Int).tmod p = ((m % p : Nat) : Int) := rfl
  have HR2 : Hid (Rt W (if m % p = 0 then p else m)) := HR
  clear hO hE hG hb hLB HR hp hq HB HRt
  by_cases hz : m % p = 0
  · rw [hz] at htm
    rw [if_pos hz] at HR2
    clear hz
    go_wp2
    go_ret
    exact ⟨p, rfl, HR2.out, HG.out⟩
  · rw [if_neg hz] at HR2
    have hzb : (((m % p : Nat) : Int) != 0) = true := by simpa using (show ((m % p : Nat) : Int) ≠ 0 by omega)
    generalize ((m % p : Nat) : Int) = z at *
    clear hz
    go_wp2
    go_ret
    exact ⟨m, rfl, HR2.out, HG.out⟩
end Go.Proofs.YtkimgmgafkihaaaDoor
