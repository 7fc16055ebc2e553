/-
  The program's gcdDigits: the greatest divisor of two numbers by Lehmer's steps.
-/
import Derived.Test.YtjngcpbdilhkbaaGreatDoorBth
import Derived.Test.YtjngcpbdilhkbaaGreatDoorBunAll
import Derived.Test.YtjngcpbdilhkbaaGreatDoorBunPrd
namespace Go.Proofs.YtjngcpbdilhkbaaGreatDoor
open Go.RowKit Go.Lib Go.Sort
set_option linter.unusedVariables false

/-- What stands at the head of a round of gcdDigits. -/
structure GI (w0 wr : World) (N g : Nat) (va vb : Value) (MA MB : List Nat) : Prop where
  ra : Row wr w0.heap.size va MA
  rb : Row wr w0.heap.size vb MB
  ap : Apt va vb
  ga : ∀ x ∈ MA, x < B32
  gb : ∀ x ∈ MB, x < B32
  ta : Trim MA
  tb : Trim MB
  la : MA.length ≤ N
  lb : MB.length ≤ N
  le : nv B32 MB ≤ nv B32 MA
  gc : Nat.gcd (nv B32 MA) (nv B32 MB) = g
  gr : w0.grownBy wr none
theorem GI.kept {w0 wr w' : World} {N g : Nat} {va vb : Value} {MA MB : List Nat} (h : GI w0 wr N g va vb MA MB) (k : wr.grownBy w' none) : GI w0 w' N g va vb MA MB :=
  ⟨h.ra.kept k (by cases va.ownBlock <;> simp), h.rb.kept k (by cases vb.ownBlock <;> simp), h.ap, h.ga, h.gb, h.ta, h.tb, h.la, h.lb, h.le, h.gc, grownBy_trans h.gr k⟩
/-- Two numbers and their factors in one world. -/
theorem GI.bi {w0 wr : World} {N g : Nat} {va vb : Value} {MA MB : List Nat} {m1 m2 m3 m4 : Int} (h : GI w0 wr N g va vb MA MB) : BI w0 (wr.alloc (fObj m1 m2 m3 m4)) wr.heap.size va vb MA MB m1 m2 m3 m4 := by
  have k := World.grownBy_alloc wr (fObj m1 m2 m3 m4) none
  refine ⟨(h.kept k).ra, (h.kept k).rb, h.ap, heap_alloc_new _ _, fun e => ?_, fun e => ?_, (h.kept k).gr, h.ga, h.gb⟩
  · have := (h.ra.lt e).2; omega
  · have := (h.rb.lt e).2; omega
/-- What both gives stands so again. -/
theorem GI.both {w0 wr w' : World} {N g : Nat} {va vb v1 v2 : Value} {MA MB K1 K2 : List Nat} {m1 m2 m3 m4 : Int} (h : GI w0 wr N g va vb MA MB) (hF : Fac (nv B32 MA) (nv B32 MB) m1 m2 m3 m4)
    (r1 : Row w' w0.heap.size v1 K1) (r2 : Row w' w0.heap.size v2 K2) (ap : Apt v1 v2) (g1 : ∀ x ∈ K1, x < B32) (g2 : ∀ x ∈ K2, x < B32) (t1 : Trim K1) (t2 : Trim K2) (n1 : (nv B32 K1 : Int) = m1 * (nv B32 MA : Nat) + m2 * (nv B32 MB : Nat)) (n2 : (nv B32 K2 : Int) = m3 * (nv B32 MA : Nat) + m4 * (nv B32 MB : Nat))
    (l1 : K1.length ≤ MA.length) (l2 : K2.length ≤ MA.length) (gr : w0.grownBy w' none) : GI w0 w' N g v1 v2 K1 K2 ∧ nv B32 K2 < nv B32 MB := by
  have hla := h.la
  have f1 := hF.pr
  have f2 := hF.pb
  have f3 := hF.gc
  rw [← n1, ← n2] at f1 f3
  rw [← n2] at f2
  refine ⟨⟨r1, r2, ap, g1, g2, t1, t2, by omega, by omega, by omega, ?_, gr⟩, by omega⟩
  rw [← h.gc, ← f3]
  exact (Int.gcd_natCast_natCast _ _).symm
/-- What divide gives stands so again. -/
theorem GI.div {w0 wr w' : World} {N g : Nat} {va vb vr : Value} {MA MB Kr : List Nat} (h : GI w0 wr N g va vb MA MB) (h0 : 0 < nv B32 MB) (r2 : Row w' wr.heap.size vr Kr) (g2 : ∀ x ∈ Kr, x < B32) (t2 : Trim Kr) (n2 : nv B32 Kr = nv B32 MA % nv B32 MB) (l2 : Kr.length ≤ MA.length) (gr : wr.grownBy w' none) :
    GI w0 w' N g vb vr MB Kr ∧ nv B32 Kr < nv B32 MB := by
  have hla := h.la
  have hlt : nv B32 Kr < nv B32 MB := by rw [n2]; exact Nat.mod_lt _ h0
  have hk := h.kept gr
  have hr2 : Row w' w0.heap.size vr Kr := by
    refine ⟨r2.1, ?_⟩
    rcases r2.2 with e | ⟨g', cap, cur, e1, e2, e3⟩
    · exact .inl e
    · exact .inr ⟨g', cap, cur, e1, Nat.le_trans h.gr.size e2, e3⟩
  refine ⟨⟨hk.rb, hr2, ?_, h.gb, g2, h.tb, t2, h.lb, by omega, by omega, ?_, hk.gr⟩, hlt⟩
  · unfold Apt
    cases ho : vb.ownBlock with
    | none => exact .inl rfl
    | some b =>
      right
      intro e
      have h1 := (h.rb.lt ho).2
      have h2 := (r2.lt e.symm).1
      omega
  · rw [n2, ← h.gc, Nat.gcd_comm (nv B32 MB), ← Nat.gcd_rec, Nat.gcd_comm]

theorem Row.slice {w : World} {base : Nat} {v : Value} {L : List Nat} (h : Row w base v L) : ∃ a c, v = .slice a L.length c := by
  rcases h.cases with ⟨e, e'⟩ | ⟨g, c, e, _⟩
  · rw [e']; exact ⟨_, _, e⟩
  · exact ⟨_, _, e⟩
/-- What gcdDigits answers. -/
def GcdQ (w0 : World) (N g : Nat) (e : Ending) (w' : World) : Prop :=
  ∃ v K, e = .returned v ∧ D4 w' v K ∧ (∀ x ∈ K, x < B32) ∧ nv B32 K = g ∧ Trim K ∧ K.length ≤ N + 2 ∧ w0.grownBy w' none
set_option maxHeartbeats 1600000 in
set_option maxRecDepth 1000000 in
theorem gcdDigits_le (w0 w : World) (N g : Nat) (va vb : Value) (LA LB : List Nat) (hN : N ≤ 100000) (HI : Hid (GI w0 w N g va vb LA LB)) :
    Calls Tryz.prog 66 #[va, vb] w (GcdQ w0 N g) := by
  have HC : Hid (Calls Tryz.prog 32 #[va, vb] w fun e w' => e = .returned (.int .i64 (cmpN (nv B32 LA) (nv B32 LB))) ∧ w.grownBy w' none) := by
    have h := HI.out
    exact cmpDigits_any w va vb LA LB h.ra.d4 h.rb.d4 h.ga h.gb h.ta h.tb (by have := h.la; omega) (by have := h.lb; omega)
  have hcm : 0 ≤ cmpN (nv B32 LA) (nv B32 LB) := by
    have := HI.out.le
    unfold cmpN
    rw [if_neg (by omega)]
    split <;> decide
  generalize hcd : cmpN (nv B32 LA) (nv B32 LB) = cm at HC hcm
  clear hcd
  go_enter Tryz.func66, Tryz.ntmps66
  go_wp2_with fail
  refine HC.out.mono ?_
  rintro e w1 ⟨rfl, hg1⟩
  have HI1 : Hid (GI w0 w1 N g va vb LA LB) := HI.out.kept hg1
  clear hg1
  go_wp2_with fail
  go_loopg [0, 1] (nv B32 LB) (fun q s0 s1 wx => ∃ MA MB, GI w0 wx N g s0 s1 MA MB ∧ nv B32 MB = q)
  case atStart => exact ⟨LA, LB, HI1.out, rfl⟩
  case round =>
    obtain ⟨MA, MB, hG, hq⟩ := hrel
    clear HI1 HI HC
    obtain ⟨a0, c0, rfl⟩ := hG.ra.slice
    obtain ⟨a1, c1, rfl⟩ := hG.rb.slice
    obtain ⟨n0, hn0⟩ : ∃ n0, MA.length = n0 := ⟨_, rfl⟩
    obtain ⟨n1, hn1⟩ : ∃ n1, MB.length = n1 := ⟨_, rfl⟩
    rw [hn0, hn1] at hG
    have HG : Hid (GI w0 wr N g (.slice a0 n0 c0) (.slice a1 n1 c1) MA MB) := hG
    have HN0 : Unit → MA.length = n0 := fun _ => hn0
    have HN1 : Unit → MB.length = n1 := fun _ => hn1
    have HQ : Unit → nv B32 MB = gk := fun _ => hq
    have b0 : n0 ≤ 100000 := by have := hG.la; omega
    have b1 : n1 ≤ 100000 := by have := hG.lb; omega
    rw [hn0, hn1]
    by_cases h3 : 2 < n1
    · have hbig : 2 ^ 64 ≤ nv B32 MB := by
        have := trim_lo hG.tb 2 (by omega)
        exact this
      have HFs : Hid (Calls Tryz.prog 96 #[.slice a0 n0 c0, .slice a1 n1 c1] wr (FseQ (nv B32 MA) (nv B32 MB) wr)) :=
        foresee_any wr _ _ MA MB (fun w' k => (hG.kept k).ra.d4) (fun w' k => (hG.kept k).rb.d4) hG.ga hG.gb hG.ta hG.tb (by omega) (by omega) hG.le (Nat.le_trans hbig hG.le)
      have hpos : Unit → 0 < nv B32 MB := fun _ => Nat.lt_of_lt_of_le (Nat.pow_pos (by decide)) hbig
      clear hG hn0 hn1 hq hbig
      go_wp2_with fail
      refine HFs.out.mono ?_
      rintro e w2 ⟨m1, m2, m3, m4, some', rfl, hg2, hfac⟩
      have HG2 : Hid (GI w0 w2 N g (.slice a0 n0 c0) (.slice a1 n1 c1) MA MB) := HG.out.kept hg2
      cases some'
      · have HG3 : Hid (GI w0 (w2.alloc (fObj m1 m2 m3 m4)) N g (.slice a0 n0 c0) (.slice a1 n1 c1) MA MB) := HG2.out.kept (World.grownBy_alloc _ _ none)
        have HD : Hid (Calls Tryz.prog 45 #[.slice a0 n0 c0, .slice a1 n1 c1] (w2.alloc (fObj m1 m2 m3 m4)) (DivQ (w2.alloc (fObj m1 m2 m3 m4)) (nv B32 MA) (nv B32 MB) MA.length)) := by
          have h := HG3.out
          exact divide_any _ _ _ MA MB h.ra.d4 h.rb.d4 h.ga h.gb h.ta h.tb (by rw [HN0 ()]; exact b0) (by rw [HN1 ()]; exact b1) (by rw [HN1 ()]; omega)
        clear hfac hg2 HFs
        go_wp2_with fail
        refine HD.out.mono ?_
        rintro e w3 ⟨vq, vr, Kq, Kr, rfl, x1, x2, x3, x4, x5, x6, x7, x8, x9, x10, x11, x12⟩
        have HG4 : Hid (GI w0 w3 N g (.slice a1 n1 c1) vr MB Kr ∧ nv B32 Kr < nv B32 MB) := HG3.out.div (hpos ()) x2 x5 x7 x9 x11 x12
        clear x1 x2 x3 x4 x5 x6 x7 x8 x9 x10 x11 x12 HD
        go_wp2_with fail
        go_roundg (nv B32 Kr)
        case measure => rw [← HQ ()]; exact HG4.out.2
        case rel => exact ⟨MB, Kr, HG4.out.1, rfl⟩
      · have HFc : Hid (Fac (nv B32 MA) (nv B32 MB) m1 m2 m3 m4) := hfac rfl
        have HG3 : Hid (GI w0 (w2.alloc (fObj m1 m2 m3 m4)) N g (.slice a0 n0 c0) (.slice a1 n1 c1) MA MB) := HG2.out.kept (World.grownBy_alloc _ _ none)
        have HD : Hid (Calls Tryz.prog 97 #[.agg #[.int .i64 m1, .int .i64 m2, .int .i64 m3, .int .i64 m4], .slice a0 n0 c0, .slice a1 n1 c1] (w2.alloc (fObj m1 m2 m3 m4)) (BthQ w0 n0 (m1 * (nv B32 MA : Nat) + m2 * (nv B32 MB : Nat)) (m3 * (nv B32 MA : Nat) + m4 * (nv B32 MB : Nat)))) := by
          have h := HG3.out
          have hle : MB.length ≤ n0 := by
            rcases Nat.lt_or_ge n0 MB.length with hlt | hge
            · exfalso
              have z1 := trim_lo h.tb n0 hlt
              have z2 := nv_lt B32 MA h.ga
              rw [HN0 ()] at z2
              have z3 := h.le
              omega
            · exact hge
          exact both_any w0 _ _ _ MA MB m1 m2 m3 m4 n0 (HN0 ()) (by have := HN1 (); omega) b0 HFc.out hle h.bi
        clear hfac hg2 HFs
        go_wp2_with fail
        refine HD.out.mono ?_
        rintro e w3 ⟨v1, v2, K1, K2, rfl, x1, x2, x3, x4, x5, x6, x7, x8, x9, x10, x11, x12⟩
        have HG4 : Hid (GI w0 w3 N g v1 v2 K1 K2 ∧ nv B32 K2 < nv B32 MB) := HG3.out.both HFc.out x1 x2 x3 x4 x5 x6 x7 x8 x9 (by rw [HN0 ()]; exact x10) (by rw [HN0 ()]; exact x11) x12
        clear x1 x2 x3 x4 x5 x6 x7 x8 x9 x10 x11 x12 HD
        go_wp2_with fail
        go_roundg (nv B32 K2)
        case measure => rw [← HQ ()]; exact HG4.out.2
        case rel => exact ⟨K1, K2, HG4.out.1, rfl⟩
    · by_cases hz : n1 = 0
      · subst hz
        have HF : Hid (GcdQ w0 N g (.returned (.slice a0 n0 c0)) wr) := by
          refine ⟨_, MA, rfl, hG.ra.d4, hG.ga, ?_, hG.ta, by have := hG.la; omega, hG.gr⟩
          have := hG.gc
          rw [List.length_eq_zero_iff.1 hn1] at this
          simpa [nv] using this
        clear hG hn0 hn1 hq
        go_wp2_with fail
        go_ret
        exact HF.out
      · have hpos : Unit → 0 < nv B32 MB := fun _ => by
          have := trim_lo hG.tb 0 (by omega)
          rw [Nat.pow_zero] at this
          exact this
        have HD : Hid (Calls Tryz.prog 45 #[.slice a0 n0 c0, .slice a1 n1 c1] wr (DivQ wr (nv B32 MA) (nv B32 MB) MA.length)) :=
          divide_any _ _ _ MA MB hG.ra.d4 hG.rb.d4 hG.ga hG.gb hG.ta hG.tb (by omega) (by omega) (by omega)
        clear hG hn0 hn1 hq
        go_wp2_with fail
        refine HD.out.mono ?_
        rintro e w3 ⟨vq, vr, Kq, Kr, rfl, x1, x2, x3, x4, x5, x6, x7, x8, x9, x10, x11, x12⟩
        have HG4 : Hid (GI w0 w3 N g (.slice a1 n1 c1) vr MB Kr ∧ nv B32 Kr < nv B32 MB) := HG.out.div (hpos ()) x2 x5 x7 x9 x11 x12
        have HL2 : Hid (Kr.length ≤ 2 ∧ MB.length ≤ 2) := by
          refine ⟨?_, by rw [HN1 ()]; omega⟩
          rcases Nat.lt_or_ge 2 Kr.length with hlt | hge
          · exfalso
            have z1 := trim_lo x7 2 hlt
            have z2 := nv_lt B32 MB HG.out.gb
            have z3 : B32 ^ MB.length ≤ B32 ^ 2 := Nat.pow_le_pow_right (by decide) (by rw [HN1 ()]; omega)
            have z4 := HG4.out.2
            omega
          · exact hge
        have HWb : Hid (Calls Tryz.prog 85 #[.slice a1 n1 c1] w3 fun e w' => e = .returned (.int .u64 ((nv B32 MB : Nat) : Int)) ∧ w' = w3) := word_any w3 _ MB HG4.out.1.ra.d4 HG4.out.1.ga HL2.out.2
        have HWr : Hid (Calls Tryz.prog 85 #[vr] w3 fun e w' => e = .returned (.int .u64 ((nv B32 Kr : Nat) : Int)) ∧ w' = w3) := word_any w3 _ Kr HG4.out.1.rb.d4 HG4.out.1.gb HL2.out.1
        have hb64 : ∀ L : List Nat, (∀ x ∈ L, x < B32) → L.length ≤ 2 → nv B32 L ≤ 18446744073709551615 := fun L hr hl => by
          have z1 := nv_lt B32 L hr
          have z2 : B32 ^ L.length ≤ B32 ^ 2 := Nat.pow_le_pow_right (by decide) hl
          rw [show B32 ^ 2 = 18446744073709551616 by decide] at z2
          omega
        have HGc : Hid (∀ w, Calls Tryz.prog 64 #[.int .u64 ((nv B32 MB : Nat) : Int), .int .u64 ((nv B32 Kr : Nat) : Int)] w fun e w' => e = .returned (.int .u64 (g : Int)) ∧ w.grownBy w' none) := fun w => by
          have := gcdWords_any (nv B32 MB) (nv B32 Kr) (hb64 _ HG4.out.1.ga HL2.out.2) (hb64 _ HG4.out.1.gb HL2.out.1) w
          rw [HG4.out.1.gc] at this
          exact this
        have hg64 : g < 18446744073709551616 := by
          have z1 := hb64 _ HG4.out.1.ga HL2.out.2
          have z2 := HG4.out.1.gc
          have z3 := Nat.gcd_le_left (nv B32 Kr) (hpos ())
          omega
        clear x1 x2 x3 x4 x5 x6 x7 x8 x9 x10 x11 x12 HD hb64
        go_wp2_with fail
        refine HWb.out.mono ?_
        rintro e w4 ⟨rfl, rfl⟩
        go_wp2_with fail
        refine HWr.out.mono ?_
        rintro e w5 ⟨rfl, rfl⟩
        go_wp2_with fail
        refine (HGc.out _).mono ?_
        rintro e w6 ⟨rfl, hg6⟩
        have HG6 : Hid (w0.grownBy w6 none) := grownBy_trans HG4.out.1.gr hg6
        clear hg6
        go_wp2_with fail
        refine (digitsOfWord_any g hg64 _).mono ?_
        rintro e w7 ⟨v7, K7, rfl, y1, y2, y3, y4, y5, y6⟩
        have HF : Hid (GcdQ w0 N g (.returned v7) w7) := ⟨v7, K7, rfl, y1.d4, y2, y3, y4, by omega, grownBy_trans HG6.out y6⟩
        clear y1 y2 y3 y4 y5 y6
        go_wp2_with fail
        go_ret
        exact HF.out
set_option maxHeartbeats 1600000 in
set_option maxRecDepth 1000000 in
theorem gcdDigits_lt (w0 w : World) (N g : Nat) (va vb : Value) (LA LB : List Nat) (hN : N ≤ 100000) (HI : Hid (GI w0 w N g vb va LB LA)) (hlt : nv B32 LA < nv B32 LB) :
    Calls Tryz.prog 66 #[va, vb] w (GcdQ w0 N g) := by
  have HC : Hid (Calls Tryz.prog 32 #[va, vb] w fun e w' => e = .returned (.int .i64 (cmpN (nv B32 LA) (nv B32 LB))) ∧ w.grownBy w' none) := by
    have h := HI.out
    exact cmpDigits_any w va vb LA LB h.rb.d4 h.ra.d4 h.gb h.ga h.tb h.ta (by have := h.lb; omega) (by have := h.la; omega)
  have hcm : cmpN (nv B32 LA) (nv B32 LB) < 0 := by rw [cmpN_lt hlt]; decide
  generalize hcd : cmpN (nv B32 LA) (nv B32 LB) = cm at HC hcm
  clear hcd hlt
  go_enter Tryz.func66, Tryz.ntmps66
  go_wp2_with fail
  refine HC.out.mono ?_
  rintro e w1 ⟨rfl, hg1⟩
  have HI1 : Hid (GI w0 w1 N g vb va LB LA) := HI.out.kept hg1
  clear hg1
  go_wp2_with fail
  go_loopg [0, 1] (nv B32 LA) (fun q s0 s1 wx => ∃ MA MB, GI w0 wx N g s0 s1 MA MB ∧ nv B32 MB = q)
  case atStart => exact ⟨LB, LA, HI1.out, rfl⟩
  case round =>
    obtain ⟨MA, MB, hG, hq⟩ := hrel
    clear HI1 HI HC
    obtain ⟨a0, c0, rfl⟩ := hG.ra.slice
    obtain ⟨a1, c1, rfl⟩ := hG.rb.slice
    obtain ⟨n0, hn0⟩ : ∃ n0, MA.length = n0 := ⟨_, rfl⟩
    obtain ⟨n1, hn1⟩ : ∃ n1, MB.length = n1 := ⟨_, rfl⟩
    rw [hn0, hn1] at hG
    have HG : Hid (GI w0 wr N g (.slice a0 n0 c0) (.slice a1 n1 c1) MA MB) := hG
    have HN0 : Unit → MA.length = n0 := fun _ => hn0
    have HN1 : Unit → MB.length = n1 := fun _ => hn1
    have HQ : Unit → nv B32 MB = gk := fun _ => hq
    have b0 : n0 ≤ 100000 := by have := hG.la; omega
    have b1 : n1 ≤ 100000 := by have := hG.lb; omega
    rw [hn0, hn1]
    by_cases h3 : 2 < n1
    · have hbig : 2 ^ 64 ≤ nv B32 MB := by
        have := trim_lo hG.tb 2 (by omega)
        exact this
      have HFs : Hid (Calls Tryz.prog 96 #[.slice a0 n0 c0, .slice a1 n1 c1] wr (FseQ (nv B32 MA) (nv B32 MB) wr)) :=
        foresee_any wr _ _ MA MB (fun w' k => (hG.kept k).ra.d4) (fun w' k => (hG.kept k).rb.d4) hG.ga hG.gb hG.ta hG.tb (by omega) (by omega) hG.le (Nat.le_trans hbig hG.le)
      have hpos : Unit → 0 < nv B32 MB := fun _ => Nat.lt_of_lt_of_le (Nat.pow_pos (by decide)) hbig
      clear hG hn0 hn1 hq hbig
      go_wp2_with fail
      refine HFs.out.mono ?_
      rintro e w2 ⟨m1, m2, m3, m4, some', rfl, hg2, hfac⟩
      have HG2 : Hid (GI w0 w2 N g (.slice a0 n0 c0) (.slice a1 n1 c1) MA MB) := HG.out.kept hg2
      cases some'
      · have HG3 : Hid (GI w0 (w2.alloc (fObj m1 m2 m3 m4)) N g (.slice a0 n0 c0) (.slice a1 n1 c1) MA MB) := HG2.out.kept (World.grownBy_alloc _ _ none)
        have HD : Hid (Calls Tryz.prog 45 #[.slice a0 n0 c0, .slice a1 n1 c1] (w2.alloc (fObj m1 m2 m3 m4)) (DivQ (w2.alloc (fObj m1 m2 m3 m4)) (nv B32 MA) (nv B32 MB) MA.length)) := by
          have h := HG3.out
          exact divide_any _ _ _ MA MB h.ra.d4 h.rb.d4 h.ga h.gb h.ta h.tb (by rw [HN0 ()]; exact b0) (by rw [HN1 ()]; exact b1) (by rw [HN1 ()]; omega)
        clear hfac hg2 HFs
        go_wp2_with fail
        refine HD.out.mono ?_
        rintro e w3 ⟨vq, vr, Kq, Kr, rfl, x1, x2, x3, x4, x5, x6, x7, x8, x9, x10, x11, x12⟩
        have HG4 : Hid (GI w0 w3 N g (.slice a1 n1 c1) vr MB Kr ∧ nv B32 Kr < nv B32 MB) := HG3.out.div (hpos ()) x2 x5 x7 x9 x11 x12
        clear x1 x2 x3 x4 x5 x6 x7 x8 x9 x10 x11 x12 HD
        go_wp2_with fail
        go_roundg (nv B32 Kr)
        case measure => rw [← HQ ()]; exact HG4.out.2
        case rel => exact ⟨MB, Kr, HG4.out.1, rfl⟩
      · have HFc : Hid (Fac (nv B32 MA) (nv B32 MB) m1 m2 m3 m4) := hfac rfl
        have HG3 : Hid (GI w0 (w2.alloc (fObj m1 m2 m3 m4)) N g (.slice a0 n0 c0) (.slice a1 n1 c1) MA MB) := HG2.out.kept (World.grownBy_alloc _ _ none)
        have HD : Hid (Calls Tryz.prog 97 #[.agg #[.int .i64 m1, .int .i64 m2, .int .i64 m3, .int .i64 m4], .slice a0 n0 c0, .slice a1 n1 c1] (w2.alloc (fObj m1 m2 m3 m4)) (BthQ w0 n0 (m1 * (nv B32 MA : Nat) + m2 * (nv B32 MB : Nat)) (m3 * (nv B32 MA : Nat) + m4 * (nv B32 MB : Nat)))) := by
          have h := HG3.out
          have hle : MB.length ≤ n0 := by
            rcases Nat.lt_or_ge n0 MB.length with hlt | hge
            · exfalso
              have z1 := trim_lo h.tb n0 hlt
              have z2 := nv_lt B32 MA h.ga
              rw [HN0 ()] at z2
              have z3 := h.le
              omega
            · exact hge
          exact both_any w0 _ _ _ MA MB m1 m2 m3 m4 n0 (HN0 ()) (by have := HN1 (); omega) b0 HFc.out hle h.bi
        clear hfac hg2 HFs
        go_wp2_with fail
        refine HD.out.mono ?_
        rintro e w3 ⟨v1, v2, K1, K2, rfl, x1, x2, x3, x4, x5, x6, x7, x8, x9, x10, x11, x12⟩
        have HG4 : Hid (GI w0 w3 N g v1 v2 K1 K2 ∧ nv B32 K2 < nv B32 MB) := HG3.out.both HFc.out x1 x2 x3 x4 x5 x6 x7 x8 x9 (by rw [HN0 ()]; exact x10) (by rw [HN0 ()]; exact x11) x12
        clear x1 x2 x3 x4 x5 x6 x7 x8 x9 x10 x11 x12 HD
        go_wp2_with fail
        go_roundg (nv B32 K2)
        case measure => rw [← HQ ()]; exact HG4.out.2
        case rel => exact ⟨K1, K2, HG4.out.1, rfl⟩
    · by_cases hz : n1 = 0
      · subst hz
        have HF : Hid (GcdQ w0 N g (.returned (.slice a0 n0 c0)) wr) := by
          refine ⟨_, MA, rfl, hG.ra.d4, hG.ga, ?_, hG.ta, by have := hG.la; omega, hG.gr⟩
          have := hG.gc
          rw [List.length_eq_zero_iff.1 hn1] at this
          simpa [nv] using this
        clear hG hn0 hn1 hq
        go_wp2_with fail
        go_ret
        exact HF.out
      · have hpos : Unit → 0 < nv B32 MB := fun _ => by
          have := trim_lo hG.tb 0 (by omega)
          rw [Nat.pow_zero] at this
          exact this
        have HD : Hid (Calls Tryz.prog 45 #[.slice a0 n0 c0, .slice a1 n1 c1] wr (DivQ wr (nv B32 MA) (nv B32 MB) MA.length)) :=
          divide_any _ _ _ MA MB hG.ra.d4 hG.rb.d4 hG.ga hG.gb hG.ta hG.tb (by omega) (by omega) (by omega)
        clear hG hn0 hn1 hq
        go_wp2_with fail
        refine HD.out.mono ?_
        rintro e w3 ⟨vq, vr, Kq, Kr, rfl, x1, x2, x3, x4, x5, x6, x7, x8, x9, x10, x11, x12⟩
        have HG4 : Hid (GI w0 w3 N g (.slice a1 n1 c1) vr MB Kr ∧ nv B32 Kr < nv B32 MB) := HG.out.div (hpos ()) x2 x5 x7 x9 x11 x12
        have HL2 : Hid (Kr.length ≤ 2 ∧ MB.length ≤ 2) := by
          refine ⟨?_, by rw [HN1 ()]; omega⟩
          rcases Nat.lt_or_ge 2 Kr.length with hlt | hge
          · exfalso
            have z1 := trim_lo x7 2 hlt
            have z2 := nv_lt B32 MB HG.out.gb
            have z3 : B32 ^ MB.length ≤ B32 ^ 2 := Nat.pow_le_pow_right (by decide) (by rw [HN1 ()]; omega)
            have z4 := HG4.out.2
            omega
          · exact hge
        have HWb : Hid (Calls Tryz.prog 85 #[.slice a1 n1 c1] w3 fun e w' => e = .returned (.int .u64 ((nv B32 MB : Nat) : Int)) ∧ w' = w3) := word_any w3 _ MB HG4.out.1.ra.d4 HG4.out.1.ga HL2.out.2
        have HWr : Hid (Calls Tryz.prog 85 #[vr] w3 fun e w' => e = .returned (.int .u64 ((nv B32 Kr : Nat) : Int)) ∧ w' = w3) := word_any w3 _ Kr HG4.out.1.rb.d4 HG4.out.1.gb HL2.out.1
        have hb64 : ∀ L : List Nat, (∀ x ∈ L, x < B32) → L.length ≤ 2 → nv B32 L ≤ 18446744073709551615 := fun L hr hl => by
          have z1 := nv_lt B32 L hr
          have z2 : B32 ^ L.length ≤ B32 ^ 2 := Nat.pow_le_pow_right (by decide) hl
          rw [show B32 ^ 2 = 18446744073709551616 by decide] at z2
          omega
        have HGc : Hid (∀ w, Calls Tryz.prog 64 #[.int .u64 ((nv B32 MB : Nat) : Int), .int .u64 ((nv B32 Kr : Nat) : Int)] w fun e w' => e = .returned (.int .u64 (g : Int)) ∧ w.grownBy w' none) := fun w => by
          have := gcdWords_any (nv B32 MB) (nv B32 Kr) (hb64 _ HG4.out.1.ga HL2.out.2) (hb64 _ HG4.out.1.gb HL2.out.1) w
          rw [HG4.out.1.gc] at this
          exact this
        have hg64 : g < 18446744073709551616 := by
          have z1 := hb64 _ HG4.out.1.ga HL2.out.2
          have z2 := HG4.out.1.gc
          have z3 := Nat.gcd_le_left (nv B32 Kr) (hpos ())
          omega
        clear x1 x2 x3 x4 x5 x6 x7 x8 x9 x10 x11 x12 HD hb64
        go_wp2_with fail
        refine HWb.out.mono ?_
        rintro e w4 ⟨rfl, rfl⟩
        go_wp2_with fail
        refine HWr.out.mono ?_
        rintro e w5 ⟨rfl, rfl⟩
        go_wp2_with fail
        refine (HGc.out _).mono ?_
        rintro e w6 ⟨rfl, hg6⟩
        have HG6 : Hid (w0.grownBy w6 none) := grownBy_trans HG4.out.1.gr hg6
        clear hg6
        go_wp2_with fail
        refine (digitsOfWord_any g hg64 _).mono ?_
        rintro e w7 ⟨v7, K7, rfl, y1, y2, y3, y4, y5, y6⟩
        have HF : Hid (GcdQ w0 N g (.returned v7) w7) := ⟨v7, K7, rfl, y1.d4, y2, y3, y4, by omega, grownBy_trans HG6.out y6⟩
        clear y1 y2 y3 y4 y5 y6
        go_wp2_with fail
        go_ret
        exact HF.out

/-- gcdDigits, of any two rows of digits that the call owns. -/
theorem gcdDigits_any (w0 w : World) (N : Nat) (va vb : Value) (LA LB : List Nat) (hN : N ≤ 100000) (ra : Row w w0.heap.size va LA) (rb : Row w w0.heap.size vb LB) (ap : Apt va vb) (ga : ∀ x ∈ LA, x < B32) (gb : ∀ x ∈ LB, x < B32) (ta : Trim LA) (tb : Trim LB) (la : LA.length ≤ N) (lb : LB.length ≤ N) (gr : w0.grownBy w none) :
    Calls Tryz.prog 66 #[va, vb] w (GcdQ w0 N (Nat.gcd (nv B32 LA) (nv B32 LB))) := by
  rcases Nat.lt_or_ge (nv B32 LA) (nv B32 LB) with h | h
  · exact gcdDigits_lt w0 w N _ va vb LA LB hN ⟨rb, ra, ap.swap, gb, ga, tb, ta, lb, la, Nat.le_of_lt h, Nat.gcd_comm _ _, gr⟩ h
  · exact gcdDigits_le w0 w N _ va vb LA LB hN ⟨ra, rb, ap, ga, gb, ta, tb, la, lb, h, rfl, gr⟩
end Go.Proofs.YtjngcpbdilhkbaaGreatDoor
