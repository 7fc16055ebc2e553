/-
  The program's both: the next two numbers in the places of two.
-/
import Derived.Test.YtjngcpbdilhkbaaGreatDoorFse
import Derived.Test.YtjngcpbdilhkbaaGreatDoorBunTtm
namespace Go.Proofs.YtjngcpbdilhkbaaGreatDoor
open Go.RowKit Go.Lib Go.Sort
set_option linter.unusedVariables false

/-- A digit of one of the two, with its carry. -/
theorem both_digit (T1 T2 P x y c m k X Y : Int) (h : T1 + c * P = m * X + k * Y) (hT : T2 = T1 + (c + m * x + k * y) % 4294967296 * P) :
    T2 + (c + m * x + k * y) / 4294967296 * (P * 4294967296) = m * (X + x * P) + k * (Y + y * P) := by
  have e := Int.emod_add_mul_ediv (c + m * x + k * y) 4294967296
  have e2 : (c + m * x + k * y) % 4294967296 * P + (c + m * x + k * y) / 4294967296 * (P * 4294967296) = (c + m * x + k * y) * P := by
    rw [← e]; grind
  rw [hT]
  grind
theorem both_carry (x y c m k : Int) (hx : 0 ≤ x ∧ x ≤ 4294967295) (hy : 0 ≤ y ∧ y ≤ 4294967295) (hc : -2147483648 ≤ c ∧ c ≤ 2147483648) (hm : -2147483648 < m ∧ m < 2147483648) (hk : -2147483648 < k ∧ k < 2147483648) (hu : 0 ≤ m ∧ k ≤ 0 ∨ m ≤ 0 ∧ 0 ≤ k) :
    (-9223372036854775808 ≤ m * x ∧ m * x ≤ 9223372036854775807) ∧ (-9223372036854775808 ≤ k * y ∧ k * y ≤ 9223372036854775807) ∧ (-9223372036854775808 ≤ c + m * x ∧ c + m * x ≤ 9223372036854775807) ∧
    (-9223372036854775808 ≤ c + m * x + k * y ∧ c + m * x + k * y ≤ 9223372036854775807) ∧ -2147483648 ≤ (c + m * x + k * y) / 4294967296 ∧ (c + m * x + k * y) / 4294967296 ≤ 2147483648 := by
  have b : ∀ a t : Int, 0 ≤ t ∧ t ≤ 4294967295 → 0 ≤ a → a ≤ 2147483647 → 0 ≤ a * t ∧ a * t ≤ 9223372030412324865 := fun a t ht h0 h1 =>
    ⟨Int.mul_nonneg h0 ht.1, Int.mul_le_mul h1 ht.2 ht.1 (by decide)⟩
  rcases hu with ⟨h1, h2⟩ | ⟨h1, h2⟩
  · have p := b m x hx h1 (by omega)
    have q := b (-k) y hy (by omega) (by omega)
    rw [Int.neg_mul] at q
    omega
  · have p := b (-m) x hx (by omega) (by omega)
    have q := b k y hy h2 (by omega)
    rw [Int.neg_mul] at p
    omega
/-- The end: no carry is left. -/
theorem both_end (K P c R : Int) (hK0 : 0 ≤ K) (hK1 : K < P) (h : K + c * P = R) (h0 : 0 ≤ R) (h1 : R < P) : K = R := by
  have hc : c = 0 := by
    rcases Int.lt_or_le c 0 with h2 | h2
    · have := Int.mul_le_mul_of_nonneg_right (show c ≤ -1 by omega) (show 0 ≤ P by omega)
      rw [Int.neg_mul, Int.one_mul] at this
      omega
    · rcases Int.lt_or_le 0 c with h3 | h3
      · have := Int.mul_le_mul_of_nonneg_right (show 1 ≤ c by omega) (show 0 ≤ P by omega)
        rw [Int.one_mul] at this
        omega
      · omega
  rw [hc, Int.zero_mul, Int.add_zero] at h
  exact h

/-- Two rows of digits and the factors, each in a block of its own. -/
structure BI (w0 wr : World) (bf : Nat) (va vb : Value) (MA MB : List Nat) (m1 m2 m3 m4 : Int) : Prop where
  ra : Row wr w0.heap.size va MA
  rb : Row wr w0.heap.size vb MB
  ap : Apt va vb
  fb : FBlk wr bf (.int .i64 m1) (.int .i64 m2) (.int .i64 m3) (.int .i64 m4)
  na : va.ownBlock ≠ some bf
  nb : vb.ownBlock ≠ some bf
  gr : w0.grownBy wr none
  ga : ∀ x ∈ MA, x < B32
  gb : ∀ x ∈ MB, x < B32
theorem BI.drew {w0 wr : World} {bf : Nat} {va vb : Value} {MA MB : List Nat} {m1 m2 m3 m4 : Int} (h : BI w0 wr bf va vb MA MB m1 m2 m3 m4) : BI w0 wr.drew bf va vb MA MB m1 m2 m3 m4 :=
  ⟨h.ra.kept (grow_drew (World.grownBy.refl _ none)) (by cases va.ownBlock <;> simp), h.rb.kept (grow_drew (World.grownBy.refl _ none)) (by cases vb.ownBlock <;> simp), h.ap, h.fb.kept (grow_drew (World.grownBy.refl _ none)) (by simp), h.na, h.nb, grow_drew h.gr, h.ga, h.gb⟩
theorem BI.more {w0 wr w' : World} {bf : Nat} {va vb v' : Value} {MA MB : List Nat} {m1 m2 m3 m4 : Int} {o : Obj} (h : BI w0 wr bf va vb MA MB m1 m2 m3 m4) (hR : Row w' w0.heap.size v' (MB ++ [0])) (hg : (wr.alloc o).grownBy w' vb.ownBlock)
    (hv : v'.ownBlock = vb.ownBlock ∨ v'.ownBlock = some (wr.heap.size + 1)) : BI w0 w' bf va v' MA (MB ++ [0]) m1 m2 m3 m4 := by
  have ha : Row (wr.alloc o) w0.heap.size va MA := h.ra.kept (World.grownBy_alloc _ _ none) (by cases va.ownBlock <;> simp)
  have hb : Row (wr.alloc o) w0.heap.size vb MB := h.rb.kept (World.grownBy_alloc _ _ none) (by cases vb.ownBlock <;> simp)
  have hf := h.fb.kept (World.grownBy_alloc wr o none) (by simp)
  refine ⟨ha.kept hg h.ap, hR, ?_, hf.kept hg h.nb, h.na, ?_, grown_row (grownBy_trans h.gr (World.grownBy_alloc _ _ none)) hb hg, h.ga, fun x hx => ?_⟩
  · rcases hv with e | e
    · unfold Apt; rw [e]; exact h.ap
    · unfold Apt
      cases ho : va.ownBlock with
      | none => exact .inl rfl
      | some g =>
        have := (h.ra.lt ho).2
        right; rw [e]; intro e2; have := Option.some.inj e2; omega
  · rcases hv with e | e
    · rw [e]; exact h.nb
    · rw [e]; intro e2
      have := Option.some.inj e2
      have := h.fb.lt
      omega
  · rcases List.mem_append.1 hx with h1 | h1
    · exact h.gb x h1
    · simp at h1; subst h1; decide
theorem BI.setA {w0 wr : World} {bf g n c : Nat} {vb : Value} {MA MB : List Nat} {m1 m2 m3 m4 : Int} (h : BI w0 wr bf (.slice (some ⟨g, 0, none⟩) n c) vb MA MB m1 m2 m3 m4) (i x : Nat) (hx : x < B32) :
    BI w0 (wr.setCell ⟨g, i, none⟩ (.int .u32 (x : Int))) bf (.slice (some ⟨g, 0, none⟩) n c) vb (MA.set i x) MB m1 m2 m3 m4 := by
  have k := grownBy_setCell wr g i (.int .u32 (x : Int))
  have hgb := (h.ra.lt (g := g) rfl).1
  exact ⟨h.ra.set i x, h.rb.kept k (by rcases h.ap.swap with e | e; exact .inl e; exact .inr e), h.ap, h.fb.kept k h.na, h.na, h.nb, grown_set h.gr hgb, set_rng h.ga hx, h.gb⟩
theorem BI.setB {w0 wr : World} {bf g n c : Nat} {va : Value} {MA MB : List Nat} {m1 m2 m3 m4 : Int} (h : BI w0 wr bf va (.slice (some ⟨g, 0, none⟩) n c) MA MB m1 m2 m3 m4) (i x : Nat) (hx : x < B32) :
    BI w0 (wr.setCell ⟨g, i, none⟩ (.int .u32 (x : Int))) bf va (.slice (some ⟨g, 0, none⟩) n c) MA (MB.set i x) m1 m2 m3 m4 := by
  have k := grownBy_setCell wr g i (.int .u32 (x : Int))
  have hgb := (h.rb.lt (g := g) rfl).1
  exact ⟨h.ra.kept k h.ap, h.rb.set i x, h.ap, h.fb.kept k h.nb, h.na, h.nb, grown_set h.gr hgb, h.ga, set_rng h.gb hx⟩

/-- What stands at the head of a round of both. -/
structure B2 (w0 wr : World) (bf n : Nat) (va vb : Value) (LA LB MA MB : List Nat) (m1 m2 m3 m4 c1 c2 : Int) (i : Nat) : Prop where
  bi : BI w0 wr bf va vb MA MB m1 m2 m3 m4
  la : MA.length = n
  lb : MB.length = n
  ka : ∀ j, i ≤ j → MA[j]?.getD 0 = LA[j]?.getD 0
  kb : ∀ j, i ≤ j → MB[j]?.getD 0 = LB[j]?.getD 0
  h1 : -2147483648 ≤ c1 ∧ c1 ≤ 2147483648
  h2 : -2147483648 ≤ c2 ∧ c2 ≤ 2147483648
  e1 : (nv B32 (MA.take i) : Int) + c1 * ((B32 ^ i : Nat) : Int) = m1 * (nv B32 (LA.take i) : Nat) + m2 * (nv B32 (LB.take i) : Nat)
  e2 : (nv B32 (MB.take i) : Int) + c2 * ((B32 ^ i : Nat) : Int) = m3 * (nv B32 (LA.take i) : Nat) + m4 * (nv B32 (LB.take i) : Nat)
theorem B2.drew {w0 wr : World} {bf n : Nat} {va vb : Value} {LA LB MA MB : List Nat} {m1 m2 m3 m4 c1 c2 : Int} {i : Nat} (h : B2 w0 wr bf n va vb LA LB MA MB m1 m2 m3 m4 c1 c2 i) : B2 w0 wr.drew bf n va vb LA LB MA MB m1 m2 m3 m4 c1 c2 i :=
  ⟨h.bi.drew, h.la, h.lb, h.ka, h.kb, h.h1, h.h2, h.e1, h.e2⟩
theorem B2.step {w0 wr : World} {bf n ga gb ca cb : Nat} {LA LB MA MB : List Nat} {m1 m2 m3 m4 c1 c2 : Int} {i : Nat} (h : B2 w0 wr bf n (.slice (some ⟨ga, 0, none⟩) n ca) (.slice (some ⟨gb, 0, none⟩) n cb) LA LB MA MB m1 m2 m3 m4 c1 c2 i) (hi : i < n)
    (S1 S2 : Int) (d1 d2 : Nat) (hS1 : S1 = c1 + m1 * (LA[i]?.getD 0 : Nat) + m2 * (LB[i]?.getD 0 : Nat)) (hS2 : S2 = c2 + m3 * (LA[i]?.getD 0 : Nat) + m4 * (LB[i]?.getD 0 : Nat)) (hd1 : S1 % 4294967296 = (d1 : Int)) (hd2 : S2 % 4294967296 = (d2 : Int))
    (b1 : -2147483648 ≤ S1 / 4294967296 ∧ S1 / 4294967296 ≤ 2147483648) (b2 : -2147483648 ≤ S2 / 4294967296 ∧ S2 / 4294967296 ≤ 2147483648) :
    B2 w0 ((wr.setCell ⟨ga, i, none⟩ (.int .u32 (d1 : Int))).setCell ⟨gb, i, none⟩ (.int .u32 (d2 : Int))) bf n (.slice (some ⟨ga, 0, none⟩) n ca) (.slice (some ⟨gb, 0, none⟩) n cb) LA LB (MA.set i d1) (MB.set i d2) m1 m2 m3 m4 (S1 / 4294967296) (S2 / 4294967296) (i + 1) := by
  have r1 : d1 < B32 := by unfold B32; omega
  have r2 : d2 < B32 := by unfold B32; omega
  have gen : ∀ (M : List Nat) (d : Nat) (m k c S : Int), i < M.length → S = c + m * (LA[i]?.getD 0 : Nat) + k * (LB[i]?.getD 0 : Nat) → S % 4294967296 = (d : Int) → (nv B32 (M.take i) : Int) + c * ((B32 ^ i : Nat) : Int) = m * (nv B32 (LA.take i) : Nat) + k * (nv B32 (LB.take i) : Nat) →
      (nv B32 ((M.set i d).take (i + 1)) : Int) + S / 4294967296 * ((B32 ^ (i + 1) : Nat) : Int) = m * (nv B32 (LA.take (i + 1)) : Nat) + k * (nv B32 (LB.take (i + 1)) : Nat) := fun M d m k c S hM hS hd he => by
    rw [nv_take_set B32 M i d hM, nv_take_succ B32 LA i, nv_take_succ B32 LB i, Nat.pow_succ]
    simp only [Int.natCast_add, Int.natCast_mul]
    rw [hS, show ((B32 : Nat) : Int) = 4294967296 by rfl]
    rw [hS] at hd
    exact both_digit _ _ _ _ _ _ _ _ _ _ he (by rw [hd])
  exact ⟨(h.bi.setA i d1 r1).setB i d2 r2, by simp [h.la], by simp [h.lb], fun j hj => by rw [List.getElem?_set_ne (by omega)]; exact h.ka j (by omega), fun j hj => by rw [List.getElem?_set_ne (by omega)]; exact h.kb j (by omega), b1, b2,
    gen MA d1 m1 m2 c1 S1 (by rw [h.la]; exact hi) hS1 hd1 h.e1, gen MB d2 m3 m4 c2 S2 (by rw [h.lb]; exact hi) hS2 hd2 h.e2⟩
/-- What both answers. -/
def BthQ (w0 : World) (n : Nat) (R P : Int) (e : Ending) (w' : World) : Prop :=
  ∃ v1 v2 K1 K2, e = .returned (.tuple #[v1, v2]) ∧ Row w' w0.heap.size v1 K1 ∧ Row w' w0.heap.size v2 K2 ∧ Apt v1 v2 ∧ (∀ x ∈ K1, x < B32) ∧ (∀ x ∈ K2, x < B32) ∧ Trim K1 ∧ Trim K2 ∧ (nv B32 K1 : Int) = R ∧ (nv B32 K2 : Int) = P ∧ K1.length ≤ n ∧ K2.length ≤ n ∧ w0.grownBy w' none
theorem B2.fin {w0 wr : World} {bf n : Nat} {va vb v1 v2 : Value} {LA LB MA MB : List Nat} {m1 m2 m3 m4 c1 c2 : Int} {k1 k2 : Nat} (h : B2 w0 wr bf n va vb LA LB MA MB m1 m2 m3 m4 c1 c2 n) (hla : LA.length = n) (hlb : LB.length = n)
    (p0 : 0 ≤ m3 * (nv B32 LA : Nat) + m4 * (nv B32 LB : Nat)) (pr : m3 * (nv B32 LA : Nat) + m4 * (nv B32 LB : Nat) < m1 * (nv B32 LA : Nat) + m2 * (nv B32 LB : Nat)) (ra : m1 * (nv B32 LA : Nat) + m2 * (nv B32 LB : Nat) ≤ (nv B32 LA : Nat)) (hr : ∀ x ∈ LA, x < B32)
    (R1 : Row wr w0.heap.size v1 (MA.take k1)) (R2 : Row wr w0.heap.size v2 (MB.take k2)) (n1 : nv B32 (MA.take k1) = nv B32 MA) (n2 : nv B32 (MB.take k2) = nv B32 MB) (t1 : Trim (MA.take k1)) (t2 : Trim (MB.take k2)) (o1 : v1.ownBlock = va.ownBlock) (o2 : v2.ownBlock = vb.ownBlock) :
    BthQ w0 n (m1 * (nv B32 LA : Nat) + m2 * (nv B32 LB : Nat)) (m3 * (nv B32 LA : Nat) + m4 * (nv B32 LB : Nat)) (.returned (.tuple #[v1, v2])) wr := by
  have hA := nv_lt B32 LA hr
  have hMA := nv_lt B32 MA h.bi.ga
  have hMB := nv_lt B32 MB h.bi.gb
  have e1 := h.e1
  have e2 := h.e2
  rw [nv_take_all B32 MA n (by rw [h.la]; exact Nat.le_refl _), nv_take_all B32 LA n (by omega), nv_take_all B32 LB n (by omega)] at e1
  rw [nv_take_all B32 MB n (by rw [h.lb]; exact Nat.le_refl _), nv_take_all B32 LA n (by omega), nv_take_all B32 LB n (by omega)] at e2
  rw [hla] at hA
  rw [h.la] at hMA
  rw [h.lb] at hMB
  have q1 := both_end _ _ _ _ (by omega) (by omega) e1 (by omega) (by omega)
  have q2 := both_end _ _ _ _ (by omega) (by omega) e2 (by omega) (by omega)
  refine ⟨v1, v2, _, _, rfl, R1, R2, ?_, fun x hx => h.bi.ga x (List.mem_of_mem_take hx), fun x hx => h.bi.gb x (List.mem_of_mem_take hx), t1, t2, by rw [n1]; exact q1, by rw [n2]; exact q2, ?_, ?_, h.bi.gr⟩
  · unfold Apt; rw [o1, o2]; exact h.bi.ap
  · rw [List.length_take, h.la]; omega
  · rw [List.length_take, h.lb]; omega

set_option maxHeartbeats 1600000 in
set_option maxRecDepth 1000000 in
theorem both_any (w0 w : World) (va vb : Value) (LA LB : List Nat) (m1 m2 m3 m4 : Int) (n : Nat) (hn : LA.length = n) (hn0 : 1 ≤ n) (hn1 : n ≤ 100000) (hF : Fac (nv B32 LA) (nv B32 LB) m1 m2 m3 m4) (hlb : LB.length ≤ n) (HI : Hid (BI w0 (w.alloc (fObj m1 m2 m3 m4)) w.heap.size va vb LA LB m1 m2 m3 m4)) :
    Calls Tryz.prog 97 #[.agg #[.int .i64 m1, .int .i64 m2, .int .i64 m3, .int .i64 m4], va, vb] w (BthQ w0 n (m1 * (nv B32 LA : Nat) + m2 * (nv B32 LB : Nat)) (m3 * (nv B32 LA : Nat) + m4 * (nv B32 LB : Nat))) := by
  have HN : Unit → LA.length = n := fun _ => hn
  obtain ⟨ga, ca, rfl, hnc⟩ : ∃ ga ca, va = .slice (some ⟨ga, 0, none⟩) n ca ∧ n ≤ ca := by
    rcases HI.out.ra.cases with ⟨e, e'⟩ | ⟨g, cp, e, _, h⟩
    · rw [e'] at hn; simp at hn; omega
    · rw [hn] at e h; exact ⟨_, _, e, h⟩
  have HF : Hid (Fac (nv B32 LA) (nv B32 LB) m1 m2 m3 m4) := hF
  clear hF
  have hnI : (n : Int) ≤ 100000 := by omega
  have HLB : Unit → LB.length ≤ n := fun _ => hlb
  clear hn hlb
  go_enter Tryz.func97, Tryz.ntmps97
  go_wp2_with fail
  go_loopw [2] (fun v wr => ∃ L l ab cb, v = .slice ab l cb ∧ L.length = l ∧ l ≤ n ∧ nv B32 L = nv B32 LB ∧ BI w0 wr w.heap.size (.slice (some ⟨ga, 0, none⟩) n ca) (.slice ab l cb) LA L m1 m2 m3 m4) (fun v _ => match v with | .slice _ l _ => n - l | _ => 0)
  case atStart =>
    rcases HI.out.rb.cases with ⟨e, e'⟩ | ⟨g, cp, e, _, h⟩
    · subst e
      subst e'
      exact ⟨[], 0, _, _, rfl, rfl, by omega, rfl, HI.out⟩
    · subst e
      exact ⟨LB, _, _, _, rfl, rfl, HLB (), rfl, HI.out⟩
  case round =>
    obtain ⟨L, l, ab, cb, rfl, hl, hln, hv, hI⟩ := hrel
    have HL : Unit → L.length = l := fun _ => hl
    have HV : Hid (nv B32 L = nv B32 LB) := hv
    have HJ : Hid (BI w0 wr w.heap.size (.slice (some ⟨ga, 0, none⟩) n ca) (.slice ab l cb) LA L m1 m2 m3 m4) := hI
    have HR1 : Hid (Row (wr.alloc (.cells #[.int .u32 0] 64)) w0.heap.size (.slice ab l cb) L) := hI.rb.kept (World.grownBy_alloc _ _ none) (by cases (Value.slice ab l cb).ownBlock <;> simp)
    have HSz : Hid (w0.heap.size ≤ (wr.alloc (.cells #[.int .u32 0] 64)).heap.size) := Nat.le_trans hI.gr.size (World.grownBy_alloc wr (.cells #[.int .u32 0] 64) none).size
    have hlI : (l : Int) ≤ 100000 := by omega
    clear hl hv hI
    by_cases hlt : l < n
    · go_wp2_with (at_builtin; refine wpList_append_digit rfl _ _ rfl w0.heap.size (.slice ab l cb) L 0 rfl HR1.out (by rw [HL ()]; omega) HSz.out ⟨wr.heap.size, 0, none⟩ rfl (by simp) ?_)
      intro v' w' hR' hg' ho'
      have HK : Hid (∃ ab' cb', v' = .slice ab' (l + 1) cb') := by
        have hlen : (L ++ [0]).length = l + 1 := by rw [List.length_append, HL ()]; rfl
        rcases hR'.cases with ⟨_, e⟩ | ⟨g, cq, e, _, h⟩
        · simp at e
        · rw [hlen] at e; exact ⟨_, _, e⟩
      obtain ⟨ab', cb', rfl⟩ := HK.out
      have HB2 : Hid (BI w0 w' w.heap.size (.slice (some ⟨ga, 0, none⟩) n ca) (.slice ab' (l + 1) cb') LA (L ++ [0]) m1 m2 m3 m4) := HJ.out.more hR' hg' ho'
      clear hR' hg' ho' HK
      go_wp2_with fail
      go_roundw
      case rel =>
        refine ⟨L ++ [0], l + 1, ab', cb', rfl, by rw [List.length_append, HL ()]; rfl, by omega, ?_, HB2.out⟩
        rw [nv_append, HV.out]; simp [nv]
      case measure => simp; omega
    · obtain rfl : l = n := by omega
      obtain ⟨gb, rfl, hlc⟩ : ∃ gb, ab = some ⟨gb, 0, none⟩ ∧ l ≤ cb := by
        rcases HJ.out.rb.cases with ⟨e, e'⟩ | ⟨g, cp, e, _, h⟩
        · have := HL (); rw [e'] at this; simp at this; omega
        · obtain ⟨x1, x2, x3⟩ := Value.slice.inj e
          rw [HL (), ← x3] at h
          exact ⟨g, x1, h⟩
      have HB0 : Hid (B2 w0 wr w.heap.size l (.slice (some ⟨ga, 0, none⟩) l ca) (.slice (some ⟨gb, 0, none⟩) l cb) LA L LA L m1 m2 m3 m4 0 0 0) := ⟨HJ.out, HN (), HL (), fun _ _ => rfl, fun _ _ => rfl, by omega, by omega, by simp [nv], by simp [nv]⟩
      go_wp2_with fail
      go_loopw [8, 9, 23] (fun s t r wq => ∃ (c1 c2 : Int) (i : Nat) (MA MB : List Nat), s = .int .i64 c1 ∧ t = .int .i64 c2 ∧ r = .int .i64 i ∧ i ≤ l ∧ B2 w0 wq w.heap.size l (.slice (some ⟨ga, 0, none⟩) l ca) (.slice (some ⟨gb, 0, none⟩) l cb) LA L MA MB m1 m2 m3 m4 c1 c2 i) (fun _ _ r _ => l - (RowKit.intOf r).toNat)
      case atStart => exact ⟨0, 0, 0, LA, L, rfl, rfl, rfl, by omega, HB0.out⟩
      case round =>
        rename World => wq
        obtain ⟨c1, c2, i, MA, MB, rfl, rfl, rfl, hil, hB⟩ := hrel
        have HB : Hid (B2 w0 wq w.heap.size l (.slice (some ⟨ga, 0, none⟩) l ca) (.slice (some ⟨gb, 0, none⟩) l cb) LA L MA MB m1 m2 m3 m4 c1 c2 i) := hB
        clear HB0
        by_cases hlt2 : i < l
        · have hca := Row.cell (L := MA) (c := ca) (by rw [hB.la]; exact hB.bi.ra) i (by rw [hB.la]; exact hlt2)
          have hcb := Row.cell (L := MB) (c := cb) (by rw [hB.lb]; exact hB.bi.rb) i (by rw [hB.lb]; exact hlt2)
          rw [hB.ka i (Nat.le_refl _)] at hca
          rw [hB.kb i (Nat.le_refl _)] at hcb
          have hfa := hB.bi.ra.frozen i
          have hfb := hB.bi.rb.frozen i
          have hne : ga ≠ gb := by
            rcases hB.bi.ap with e | e
            · cases e
            · intro e2; exact e (by rw [e2]; rfl)
          have hne' : gb ≠ ga := fun e => hne e.symm
          obtain ⟨q0, q1, q2, q3⟩ := hB.bi.fb.cc
          obtain ⟨x, hx⟩ : ∃ x, LA[i]?.getD 0 = x := ⟨_, rfl⟩
          obtain ⟨y, hy⟩ : ∃ y, L[i]?.getD 0 = y := ⟨_, rfl⟩
          have HX : Unit → LA[i]?.getD 0 = x := fun _ => hx
          have HY : Unit → L[i]?.getD 0 = y := fun _ => hy
          have rx : (x : Int) ≤ 4294967295 := by have : LA[i]?.getD 0 < 4294967296 := d4_rng HI.out.ga i; omega
          have ry : (y : Int) ≤ 4294967295 := by have : L[i]?.getD 0 < 4294967296 := d4_rng HJ.out.gb i; omega
          rw [hx] at hca
          rw [hy] at hcb
          have k1 := both_carry x y c1 m1 m2 ⟨by omega, rx⟩ ⟨by omega, ry⟩ hB.h1 HF.out.l1 HF.out.l2 HF.out.u1
          have k2 := both_carry x y c2 m3 m4 ⟨by omega, rx⟩ ⟨by omega, ry⟩ hB.h2 HF.out.l3 HF.out.l4 HF.out.u2
          have HK : Hid ((-2147483648 ≤ (c1 + m1 * x + m2 * y) / 4294967296 ∧ (c1 + m1 * x + m2 * y) / 4294967296 ≤ 2147483648) ∧ (-2147483648 ≤ (c2 + m3 * x + m4 * y) / 4294967296 ∧ (c2 + m3 * x + m4 * y) / 4294967296 ≤ 2147483648)) := ⟨k1.2.2.2.2, k2.2.2.2.2⟩
          obtain ⟨p1, hp1⟩ : ∃ p1, m1 * (x : Int) = p1 := ⟨_, rfl⟩
          obtain ⟨p2, hp2⟩ : ∃ p2, m2 * (y : Int) = p2 := ⟨_, rfl⟩
          obtain ⟨p3, hp3⟩ : ∃ p3, m3 * (x : Int) = p3 := ⟨_, rfl⟩
          obtain ⟨p4, hp4⟩ : ∃ p4, m4 * (y : Int) = p4 := ⟨_, rfl⟩
          have HPs : Hid (m1 * (x : Int) = p1 ∧ m2 * (y : Int) = p2 ∧ m3 * (x : Int) = p3 ∧ m4 * (y : Int) = p4) := ⟨hp1, hp2, hp3, hp4⟩
          rw [hp1, hp2] at k1
          rw [hp3, hp4] at k2
          obtain ⟨⟨_, _⟩, ⟨_, _⟩, ⟨_, _⟩, ⟨_, _⟩, _, _⟩ := k1
          obtain ⟨⟨_, _⟩, ⟨_, _⟩, ⟨_, _⟩, ⟨_, _⟩, _, _⟩ := k2
          have hcl1 := hB.h1
          have hcl2 := hB.h2
          clear hB hx hy
          go_wp2_with fail
          go_region
          go_wp2_with fail
          go_roundw
          case rel =>
            have hd1 : (c1 + p1 + p2) % 4294967296 = (((c1 + p1 + p2) % 4294967296).toNat : Int) := (Int.toNat_of_nonneg (Int.emod_nonneg _ (by decide))).symm
            have hd2 : (c2 + p3 + p4) % 4294967296 = (((c2 + p3 + p4) % 4294967296).toNat : Int) := (Int.toNat_of_nonneg (Int.emod_nonneg _ (by decide))).symm
            have hS := B2.step (HB.out) hlt2 (c1 + p1 + p2) (c2 + p3 + p4) _ _ (by rw [HX (), HY (), HPs.out.1, HPs.out.2.1]) (by rw [HX (), HY (), HPs.out.2.2.1, HPs.out.2.2.2]) hd1 hd2
              (by have := HK.out.1; rw [HPs.out.1, HPs.out.2.1] at this; exact this) (by have := HK.out.2; rw [HPs.out.2.2.1, HPs.out.2.2.2] at this; exact this)
            rw [← hd1, ← hd2] at hS
            exact ⟨(c1 + p1 + p2) / 4294967296, (c2 + p3 + p4) / 4294967296, i + 1, _, _, rfl, rfl, rfl, by omega, hS.drew⟩
          case measure => simp [RowKit.intOf]; omega
        · obtain rfl : i = l := by omega
          have HTa : Hid (Calls Tryz.prog 53 #[.slice (some ⟨ga, 0, none⟩) i ca] wq fun e w' => ∃ v' k, e = .returned v' ∧ Row wq w0.heap.size v' (MA.take k) ∧ nv B32 (MA.take k) = nv B32 MA ∧ Trim (MA.take k) ∧ v'.ownBlock = (Value.slice (some ⟨ga, 0, none⟩) i ca).ownBlock ∧ w' = wq) := by
            refine Calls.mono (trim_row _ _ _ MA hB.bi.ra (by rw [hB.la]; omega)) ?_
            rintro e w' ⟨v', k, rfl, _, h2, h3, h4, h5, rfl⟩
            exact ⟨v', k, rfl, h2, h3, h4, h5, rfl⟩
          have HTb : Hid (Calls Tryz.prog 53 #[.slice (some ⟨gb, 0, none⟩) i cb] wq fun e w' => ∃ v' k, e = .returned v' ∧ Row wq w0.heap.size v' (MB.take k) ∧ nv B32 (MB.take k) = nv B32 MB ∧ Trim (MB.take k) ∧ v'.ownBlock = (Value.slice (some ⟨gb, 0, none⟩) i cb).ownBlock ∧ w' = wq) := by
            refine Calls.mono (trim_row _ _ _ MB hB.bi.rb (by rw [hB.lb]; omega)) ?_
            rintro e w' ⟨v', k, rfl, _, h2, h3, h4, h5, rfl⟩
            exact ⟨v', k, rfl, h2, h3, h4, h5, rfl⟩
          clear hB
          go_wp2_with fail
          refine HTa.out.mono ?_
          rintro e w' ⟨v1, k1, rfl, x1, x2, x3, x4, rfl⟩
          have HX1 : Hid (Row w' w0.heap.size v1 (MA.take k1) ∧ nv B32 (MA.take k1) = nv B32 MA ∧ Trim (MA.take k1) ∧ v1.ownBlock = (Value.slice (some ⟨ga, 0, none⟩) i ca).ownBlock) := ⟨x1, x2, x3, x4⟩
          clear x1 x2 x3 x4
          go_wp2_with fail
          refine HTb.out.mono ?_
          rintro e w'' ⟨v2, k2, rfl, x1, x2, x3, x4, rfl⟩
          have HX2 : Hid (Row w'' w0.heap.size v2 (MB.take k2) ∧ nv B32 (MB.take k2) = nv B32 MB ∧ Trim (MB.take k2) ∧ v2.ownBlock = (Value.slice (some ⟨gb, 0, none⟩) i cb).ownBlock) := ⟨x1, x2, x3, x4⟩
          clear x1 x2 x3 x4
          go_wp2_with fail
          go_ret2
          have hvv := HV.out
          have := B2.fin HB.out (HN ()) (HL ()) (by rw [hvv]; exact HF.out.p0) (by rw [hvv]; exact HF.out.pr) (by rw [hvv]; exact HF.out.ra) HI.out.ga HX1.out.1 HX2.out.1 HX1.out.2.1 HX2.out.2.1 HX1.out.2.2.1 HX2.out.2.2.1 HX1.out.2.2.2 HX2.out.2.2.2
          rw [hvv] at this
          exact this
end Go.Proofs.YtjngcpbdilhkbaaGreatDoor
