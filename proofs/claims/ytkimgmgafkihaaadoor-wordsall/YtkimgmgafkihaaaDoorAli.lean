/-
  What the program's All hands over: the walk.
-/
import Derived.Test.YtkimgmgafkihaaaDoorAlh
namespace Go.Proofs.YtkimgmgafkihaaaDoor
open Go.RowKit Go.Lib Go.Sort Go.Shelf
set_option linter.unusedVariables false
set_option linter.unusedSimpArgs false
attribute [local go_sem] Oper.semAt_some
set_option maxHeartbeats 4000000
set_option maxRecDepth 100000
def AllNd (bm bl : Nat) (most l : Int) (W : World) : Prop := W.cell? ⟨bm, 0, none⟩ = some (.int .i64 most) ∧ W.cell? ⟨bl, 0, none⟩ = some (.int .i64 l)
def alS (yb fb lo : Nat) (cs : Array Value) (Ds : List Nat) : List (Nat × Obj) := (yb, .cells #[.func (.yield lo) #[] #[]] 41 (0, 0)) :: (fb, .cells cs 42 (0, 0)) :: Ds.map (fun D => (D, .deferred (some [])))
def AlS (l most : Int) (T B : Nat) (J : Nat → Option Nat → World → Prop) (yb fb lo : Nat) (cs : Array Value) (nn t : Nat) (o : Option Nat) (Ds : List Nat) (W : World) : Prop :=
  J t o W ∧ (∀ r, o = some r → r < W.heap.size) ∧ Ds.Nodup ∧ Keep (alS yb fb lo cs Ds) o W ∧ (∀ p ∈ alS yb fb lo cs Ds, B ≤ p.1) ∧ ((nn : Int) ≤ most → t < T ∧ wd l most t = List.replicate nn 1) ∧ (most < (nn : Int) → t = T)
def AlI (l most : Int) (T B : Nat) (J : Nat → Option Nat → World → Prop) (bm bl yb fb lo : Nat) (cs : Array Value) (k : Nat) (a : Act) (W : World) : Prop :=
  ∃ (nn t : Nat) (o : Option Nat) (Ds : List Nat) (u5 u6 u11 u12 u13 u14 u15 u16 u17 u18 u19 u20 u21 u22 : Value), a = { tmps := #[.func (.yield lo) #[] #[], .pointer (some ⟨bm, 0, none⟩), .pointer (some ⟨bl, 0, none⟩), .pointer (some ⟨yb, 0, none⟩), .pointer (some ⟨fb, 0, none⟩), u5, u6, .agg cs, .int .i64 most, .int .i64 (most + 1), .int .i64 (nn : Int), u11, u12, u13, u14, u15, u16, u17, u18, u19, u20, u21, u22], defers := Ds.map mk } ∧ (nn : Int) + (k : Int) = most + 1 ∧ AlS l most T B J yb fb lo cs nn t o Ds W
theorem all_hands (l most : Int) (T : Nat) (b : Bool) (hTB : TB l most T b) (hl : 1 ≤ l ∧ l ≤ 64) (hm : 0 ≤ most ∧ most ≤ 4096) (m : Nat) (B bm bl : Nat) :
    HandsW Fence.wide m Tryd.prog 12 #[.pointer (some ⟨bm, 0, none⟩), .pointer (some ⟨bl, 0, none⟩)] (wd l most) T b B 0 (AllNd bm bl most l) (fun t => t = T) := by
  intro lo J hNd hJg hJr hY o W hB ho hJ0
  have eg : ∀ args w, (callFunc 23 args).run Tryd.prog w = .ok (.enter 23 args) w := enters_of Tryd.func23 (by kernel_rfl) rfl
  have EG : Hid (∀ args w, (callFunc 23 args).run Tryd.prog w = .ok (.enter 23 args) w) := eg
  clear eg
  refine callsIn_of_wp_marks Tryd.func12 rfl trivial (wpIn_wide.2 ?_) rfl
  simp only [Tryd.ntmps12, List.size_toArray, List.length_cons, List.length_nil, Nat.reduceAdd, Nat.reduceSub, Array.replicate_succ, Array.replicate_zero, List.push_toArray, List.append_toArray, List.nil_append, List.cons_append]
  generalize h1 : Code.region 1 _ _ = c1
  generalize h5 : Code.region 5 _ _ = c5
  go_wp2_with fail
  subst h1
  refine wp_region_lit ?_
  refine wpList_plain rfl (fun K hK => ?_)
  go_simp
  refine (ones_any _).mono ?_
  rintro e w1 ⟨cs, rfl, hcs, hg1⟩
  simp only []
  refine hK _ _ ?_
  clear hK K
  refine wpList_plain rfl (fun K hK => ?_)
  go_simp
  refine hK _ _ ?_
  clear hK K
  have hz : Tryd.zeroCells42.size = cs.size := by rw [hcs.1]; kernel_rfl
  refine wpList_store_row rfl _ _ _ rfl w1.heap.size cs rfl rfl 42 Tryd.zeroCells42 (heap_alloc_last w1 _) hcs.info hz hcs.all ?_
  rw [World.setRow_alloc_new]
  obtain ⟨yb, hyb⟩ : ∃ yb, W.heap.size = yb := ⟨_, rfl⟩
  obtain ⟨fb, hfb⟩ : ∃ fb, w1.heap.size = fb := ⟨_, rfl⟩
  have hyw : W.heap.size < w1.heap.size := by have := hg1.size; simp at this; omega
  have hgW : W.grownBy (w1.alloc (.cells cs 42)) none := grownBy_trans (grownBy_trans (grow1 _ _) hg1) (grow1 _ _)
  have HS0 : Hid (AlS l most T B J yb fb lo cs 0 0 o [] (w1.alloc (.cells cs 42))) := by
    refine ⟨hJg _ _ _ _ hJ0 hgW, fun r e => Nat.lt_of_lt_of_le (ho r e) hgW.size, List.nodup_nil, ?_, ?_, fun h => ⟨hTB.1, rfl⟩, fun h => by have := hm.1; omega⟩
    · intro p hp
      simp only [alS, List.map_nil, List.mem_cons, List.not_mem_nil, or_false] at hp
      rcases hp with rfl | rfl
      · refine ⟨?_, fun e => ?_⟩
        · have h0 : (W.alloc (.cells #[.func (.yield lo) #[] #[]] 41)).heap[yb]? = some (.cells #[.func (.yield lo) #[] #[]] 41 (0, 0)) := by rw [← hyb]; exact heap_alloc_last W _
          have h1 := (hg1.block yb (Array.getElem?_eq_some_iff.1 h0).1 (by simp)).trans h0
          exact ((grow1 w1 _).block yb (Array.getElem?_eq_some_iff.1 h1).1 (by simp)).trans h1
        · have := ho _ e.symm; omega
      · refine ⟨by rw [← hfb]; exact heap_alloc_last w1 _, fun e => ?_⟩
        have := ho _ e.symm; omega
    · intro p hp
      simp only [alS, List.map_nil, List.mem_cons, List.not_mem_nil, or_false] at hp
      rcases hp with rfl | rfl
      · show B ≤ yb; omega
      · show B ≤ fb; omega
  obtain ⟨cm, cl⟩ := hNd _ _ _ HS0.out.1
  have hwm : IntKind.i64.wrap (most + 1) = most + 1 := by rw [IntKind.wrap_i64]; omega
  have HT : Hid (TB l most T b ∧ (1 ≤ l ∧ l ≤ 64) ∧ (0 ≤ most ∧ most ≤ 4096)) := ⟨hTB, hl, hm⟩
  have HY : Hid (YieldW Fence.wide (m - 1) Tryd.prog lo (wd l most) T b B J) := hY
  have HJR : Hid (∀ t o W W' r, J t o W → W.grownBy W' (some r) → B ≤ r → some r ≠ o → J t o W') := hJr
  have HJG : Hid (∀ t o W W', J t o W → W.grownBy W' none → J t o W') := hJg
  have HND : Hid (∀ t o W, J t o W → AllNd bm bl most l W) := hNd
  have HCS : Hid (Ones cs) := hcs
  rw [hyb, hfb]
  clear hz ho hB hJ0 hyb hfb hTB hl hm hY hJr hJg hNd hg1 hgW hyw hcs
  apply wpList_nil
  go_wp2_with fail
  refine wp_loop_ghost_k (AlI l most T B J bm bl yb fb lo cs) (most + 1).toNat ⟨0, 0, o, [], _, _, _, _, _, _, _, _, _, _, _, _, _, _, rfl, by have := HT.out.2.2; omega, HS0.out⟩ ?_
  intro k a wr hI J2 K2 hJ2 hK2
  obtain ⟨nn, t, o1, Ds, u5, u6, u11, u12, u13, u14, u15, u16, u17, u18, u19, u20, u21, u22, rfl, hk, hS⟩ := hI
  obtain ⟨-, cl1⟩ := HND.out _ _ _ hS.1
  have HS : Hid (AlS l most T B J yb fb lo cs nn t o1 Ds wr) := hS
  have HKK : Hid ((nn : Int) + (k : Int) = most + 1) := hk
  clear hS hk HS0 cm cl hwm
  by_cases hlt : (nn : Int) < most + 1
  · have hd : decide ((nn : Int) < most + 1) = true := decide_eq_true hlt
    have hgf := (HS.out.2.2.2.1 (fb, .cells cs 42 (0, 0)) (by simp [alS])).1
    go_wp2_with fail
    subst h5
    refine wp_region_lit ?_
    refine wpList_plain rfl (fun K hK => ?_)
    go_simp
    refine hK _ _ ?_
    clear hK K
    refine wpList_plain rfl (fun K hK => ?_)
    go_simp
    refine hK _ _ ?_
    clear hK K
    refine wpList_load_row rfl _ _ rfl fb rfl _ cs (0, 0) _ hgf Tryd.underlying42 rfl HCS.out.info ?_
    refine wpList_plain rfl (fun K hK => ?_)
    go_simp
    refine (ofLength_any l (nn : Int) cs wr).mono ?_
    rintro e w2 ⟨rfl, hw2⟩
    simp only []
    refine hK _ _ ?_
    clear hK K
    apply wpList_nil
    go_wp2_with fail
    have hsz : w2.heap.size = wr.heap.size + 3 := by rw [hw2]; simp
    have hg2 : wr.grownBy w2 none := by rw [hw2]; exact grow3 _ _ _ _
    have hst := HS.out
    obtain ⟨hJt, hob, hnd, hkp, hSB, hin, hout⟩ := hst
    have hlt2 : ∀ p ∈ alS yb fb lo cs Ds, p.1 < wr.heap.size := hkp.lt
    have hBw : B ≤ wr.heap.size := by
      have h1 := hSB (yb, .cells #[.func (.yield lo) #[] #[]] 41 (0, 0)) (by simp [alS])
      have h2 := hlt2 (yb, .cells #[.func (.yield lo) #[] #[]] 41 (0, 0)) (by simp [alS])
      simp only at h1 h2
      omega
    obtain ⟨htT, hwt⟩ := hin (by omega)
    obtain ⟨S1, hS1⟩ : ∃ S1 : List (Nat × Obj), S1 = (wr.heap.size + 2, .cells cs 42 (0, 0)) :: (wr.heap.size + 1, .cells #[.int .i64 (nn : Int)] 3 (0, 0)) :: (wr.heap.size, .cells #[.int .i64 l] 3 (0, 0)) :: alS yb fb lo cs Ds := ⟨_, rfl⟩
    have m1 : (wr.heap.size + 2, Obj.cells cs 42 (0, 0)) ∈ S1 := by rw [hS1]; simp
    have m2 : (wr.heap.size + 1, Obj.cells #[.int .i64 (nn : Int)] 3 (0, 0)) ∈ S1 := by rw [hS1]; simp
    have m3 : (wr.heap.size, Obj.cells #[.int .i64 l] 3 (0, 0)) ∈ S1 := by rw [hS1]; simp
    have m4 : (yb, Obj.cells #[.func (.yield lo) #[] #[]] 41 (0, 0)) ∈ S1 := by rw [hS1]; simp [alS]
    have m5 : ∀ p ∈ alS yb fb lo cs Ds, p ∈ S1 := fun p hp => by rw [hS1]; simp [hp]
    have hSb : ∀ p ∈ S1, B ≤ p.1 ∧ p.1 < w2.heap.size := fun p hp => by
      rw [hS1] at hp
      simp only [List.mem_cons] at hp
      rcases hp with rfl | rfl | rfl | hp
      · simp only; omega
      · simp only; omega
      · simp only; omega
      · have := hSB p hp; have := hlt2 p hp; omega
    have hK1 : Keep S1 o1 w2 := fun p hp => by
      rw [hS1] at hp
      simp only [List.mem_cons] at hp
      rcases hp with rfl | rfl | rfl | hp
      · refine ⟨?_, fun e => by have := hob _ e.symm; omega⟩
        rw [hw2]
        have := heap_alloc_last ((wr.alloc (.cells #[.int .i64 l] 3)).alloc (.cells #[.int .i64 (nn : Int)] 3)) (.cells cs 42)
        simpa using this
      · refine ⟨?_, fun e => by have := hob _ e.symm; omega⟩
        have h0 : ((wr.alloc (.cells #[.int .i64 l] 3)).alloc (.cells #[.int .i64 (nn : Int)] 3)).heap[wr.heap.size + 1]? = some (.cells #[.int .i64 (nn : Int)] 3 (0, 0)) := heap_alloc2_new _ _ _
        rw [hw2]
        exact ((grow1 _ _).block _ (Array.getElem?_eq_some_iff.1 h0).1 (by simp)).trans h0
      · refine ⟨?_, fun e => by have := hob _ e.symm; omega⟩
        have h0 : (wr.alloc (.cells #[.int .i64 l] 3)).heap[wr.heap.size]? = some (.cells #[.int .i64 l] 3 (0, 0)) := heap_alloc_last _ _
        rw [hw2]
        exact ((grow2 _ _ _).block _ (Array.getElem?_eq_some_iff.1 h0).1 (by simp)).trans h0
      · exact (hkp.grown0 hg2) p hp
    have hT3 := HT.out
    refine (wpIn_wide (n := m + 2)).1 ?_
    refine wpIn_words (p := 17) rfl (by omega) rfl trivial EG.out (wd l most) T b none t (by simp [htT]) (fun q W => J q.1 q.2 W ∧ Keep S1 q.2 W)
      (fun q W W' h hg => ⟨HJG.out _ _ _ _ h.1 hg, h.2.grown0 hg⟩)
      (fun q W W' r h hg hr hne => ⟨HJR.out _ _ _ _ _ h.1 hg (by omega) hne, h.2.grown hg (fun p hp e => by injection e with e; have := hSb p hp; omega)⟩)
      o1 (fun r e => by have := hob r e; omega) ⟨HJG.out _ _ _ _ hJt hg2, hK1⟩ (OfNd (wr.heap.size + 2) (wr.heap.size + 1) wr.heap.size nn l) (OfE l most T b nn t)
      (fun q W h => ⟨⟨cs, HCS.out, (h.2 _ m1).1⟩, h.2.cell m2, h.2.cell m3⟩)
      (ofl_hands l most T b hT3.1 hT3.2.1 hT3.2.2 (m + 2 - 1) (w2.heap.size + 2) t nn _ _ _ htT hwt)
      (fun v => { tmps := #[.func (.yield lo) #[] #[], .pointer (some ⟨bm, 0, none⟩), .pointer (some ⟨bl, 0, none⟩), .pointer (some ⟨yb, 0, none⟩), .pointer (some ⟨fb, 0, none⟩), .int .i64 (nn : Int), v, .agg cs, .int .i64 most, .int .i64 (most + 1), .int .i64 (nn : Int), .bool true, .int .i64 (nn : Int), .int .i64 l, .int .i64 (nn : Int), .agg cs, .func (.func 23) #[] #[.pointer (some ⟨wr.heap.size + 2, 0, none⟩), .pointer (some ⟨wr.heap.size + 1, 0, none⟩), .pointer (some ⟨wr.heap.size, 0, none⟩)], v, u18, u19, u20, u21, u22], defers := [] }) ?_ ?_ ?_
    · intro l2 v W K hK
      gi_wp2
      exact hK
    · intro l2 t' o' base v W ht' hI2 hb1 hb2 hob2 hv
      have cy := hI2.2.cell m4
      obtain ⟨fn, tmps, assign, body, hy, hR⟩ := HY.out t' o' W base v ht' hI2.1 (by omega) hb2 hob2 hv
      obtain ⟨bv, hbv⟩ : ∃ bv, (b || decide (t' + 1 < T)) = bv := ⟨_, rfl⟩
      rw [hbv]
      simp only [hbv] at hR
      have HK3 : Hid (Keep S1 o' W ∧ base ≤ W.heap.size ∧ w2.heap.size + 2 ≤ base) := ⟨hI2.2, hb2, hb1⟩
      have HSb : Hid (∀ p ∈ S1, B ≤ p.1 ∧ p.1 < w2.heap.size) := hSb
      have HBw : Hid (B ≤ wr.heap.size ∧ w2.heap.size = wr.heap.size + 3) := ⟨hBw, hsz⟩
      clear hbv hI2 hb1 hb2 hob2 hv m1 m2 m3 m4 m5 hK1 hS1 hw2 hg2 hJt hob hnd hkp hSB hin hout hlt2 htT hwt hSb hT3 hgf ht' hBw hsz hlt cl1
      gi_wp2
      refine ⟨fun h => by simp [Fence.wide] at h, RoundIn.mono (F := Fence.wide.inRound l2) hR ?_⟩
      rintro e W3 ⟨rfl, o3, hJ3, hs3, hf3, hfr⟩
      have FIN : Hid (∀ act, roundW bv none w2.heap.size base (fun q W => J q.1 q.2 W ∧ Keep S1 q.2 W) (t' + 1) o' W (if bv then .normal else .ret) act W3) := by
        intro act
        have h1 := HBw.out
        have h2 := HK3.out
        exact ⟨rfl, o3, ⟨hJ3, h2.1.round (B := B) (fun p hp => by have := HSb.out p hp; omega) h2.2.1 hf3 hfr⟩, hs3, fun i hi hib hne => hf3 i (by omega) hib hne, hfr⟩
      clear hJ3 hs3 hf3 hfr hy hR HK3 HSb HBw cy
      cases bv
      · gi_wp2
        exact FIN.out _
      · gi_wp2
        exact FIN.out _
    · intro D t1 o3 W hD hE hI2 hob2 hDd hoD
      obtain ⟨e1, e2, e3, e4⟩ := hE
      have HM : Hid (J t1 o3 W ∧ Keep (alS yb fb lo cs (D :: Ds)) o3 W ∧ (D :: Ds).Nodup ∧ (∀ p ∈ alS yb fb lo cs (D :: Ds), B ≤ p.1) ∧ (∀ r, o3 = some r → r < W.heap.size)) := by
        refine ⟨hI2.1, fun p hp => ?_, List.nodup_cons.2 ⟨fun hD2 => ?_, hnd⟩, fun p hp => ?_, hob2⟩
        · simp only [alS, List.map_cons, List.mem_cons] at hp
          rcases hp with rfl | rfl | rfl | hp
          · exact hI2.2 _ m4
          · exact hI2.2 _ (m5 _ (by simp [alS]))
          · exact ⟨hDd, fun e => hoD e.symm⟩
          · exact hI2.2 _ (m5 _ (by simp only [alS, List.mem_cons]; exact .inr (.inr hp)))
        · have := hlt2 (D, .deferred (some [])) (by simp [alS, hD2])
          simp only at this
          omega
        · simp only [alS, List.map_cons, List.mem_cons] at hp
          rcases hp with rfl | rfl | rfl | hp
          · exact (hSb _ m4).1
          · exact (hSb _ (m5 _ (by simp [alS]))).1
          · simp only; omega
          · exact (hSb _ (m5 _ (by simp only [alS, List.mem_cons]; exact .inr (.inr hp)))).1
      cases hgo : (b || decide (t1 < T)) with
      | true =>
        rw [if_pos rfl]
        have hnone := e4 hgo
        have HN : Hid (((nn + 1 : Nat) : Int) ≤ most → t1 < T ∧ wd l most t1 = List.replicate (nn + 1) 1) := by
          intro hle
          rw [← e3] at hnone
          obtain ⟨k1, k2⟩ := nx_long (most := most) hnone (by rw [e3]; omega)
          have h1 := hT3.1.more (t := t1 - 1) (by omega) (by rw [show t1 - 1 + 1 = t1 by omega]; exact hgo) k2
          refine ⟨by omega, ?_⟩
          rw [e3] at k1
          have : wd l most (t1 - 1 + 1) = nxL l most (wd l most (t1 - 1)) := rfl
          rw [show t1 - 1 + 1 = t1 by omega] at this
          rw [this, k1]
        have HO : Hid (most < ((nn + 1 : Nat) : Int) → t1 = T) := by
          intro hle
          rw [← e3] at hnone
          obtain ⟨k1, k2⟩ := nx_end (most := most) hnone (by rw [e3]; omega)
          have := hT3.1.none (t := t1 - 1) (by omega) k2
          omega
        have hwn : IntKind.i64.wrap ((nn : Int) + 1) = ((nn + 1 : Nat) : Int) := by rw [IntKind.wrap_i64]; have := hT3.2.2; omega
        clear hI2 hob2 hDd hoD e1 e2 e3 e4 hgo m1 m2 m3 m4 m5 hK1 hS1 hw2 hg2 hJt hob hnd hkp hSB hin hout hlt2 htT hwt hSb hT3 hgf hBw hnone cl1 hsz hD
        gi_wp2
        go_wp2_with fail
        refine Handed.intro (k - 1) (by have := HKK.out; omega) (hJ2 _ _ _ ⟨nn + 1, t1, o3, D :: Ds, _, _, _, _, _, _, _, _, _, _, _, _, _, _, rfl, by have := HKK.out; omega, HM.out.1, HM.out.2.2.2.2, HM.out.2.2.1, HM.out.2.1, HM.out.2.2.2.1, HN.out, HO.out⟩)
      | false =>
        rw [if_neg (by simp)]
        obtain rfl : t1 = T := by
          have : ¬ t1 < T := fun h => by simp [h] at hgo
          omega
        clear hI2 hob2 hDd hoD e1 e2 e3 e4 hgo m1 m2 m3 m4 m5 hK1 hS1 hw2 hg2 hJt hob hnd hkp hSB hin hout hlt2 htT hwt hSb hT3 hgf hBw cl1 hsz hD
        show Code.wpIn _ _ _ Code.ret _ _ _
        gi_wp2
        refine leaves_marks _ B o3 (fun W => J t1 o3 W ∧ ∀ r, o3 = some r → r < W.heap.size) (fun W _ => results_none rfl _ _ W) ?_ ?_ (D :: Ds) W HM.out.2.2.1 ?_ ⟨HM.out.1, HM.out.2.2.2.2⟩
        · exact fun W D hi hD hne => ⟨HJR.out _ _ _ _ _ hi.1 (grownBy_putObj' W D _) hD hne, fun r e => Nat.lt_of_lt_of_le (hi.2 r e) (grownBy_putObj' W D _).size⟩
        · exact fun W hi => ⟨⟨_, rfl⟩, _, o3, rfl, hi⟩
        · intro D' hD'
          have hm : (D', Obj.deferred (some [])) ∈ alS yb fb lo cs (D :: Ds) := by simp only [alS, List.mem_cons]; exact .inr (.inr (List.mem_map.2 ⟨D', hD', rfl⟩))
          exact ⟨HM.out.2.2.2.1 _ hm, HM.out.2.1 _ hm⟩
  · have hd : decide ((nn : Int) < most + 1) = false := decide_eq_false hlt
    go_wp2_with fail
    obtain ⟨hJt, hob, hnd, hkp, hSB, hin, hout⟩ := HS.out
    obtain rfl := hout (by omega)
    refine leaves_marks _ B o1 (fun W => J t o1 W ∧ ∀ r, o1 = some r → r < W.heap.size) (fun W _ => results_none rfl _ _ W) ?_ ?_ Ds wr hnd ?_ ⟨hJt, hob⟩
    · exact fun W D hi hD hne => ⟨HJR.out _ _ _ _ _ hi.1 (grownBy_putObj' W D _) hD hne, fun r e => Nat.lt_of_lt_of_le (hi.2 r e) (grownBy_putObj' W D _).size⟩
    · exact fun W hi => ⟨⟨_, rfl⟩, o1, hi⟩
    · intro D hD
      have hm : (D, Obj.deferred (some [])) ∈ alS yb fb lo cs Ds := by simp [alS, hD]
      exact ⟨hSB _ hm, hkp _ hm⟩
end Go.Proofs.YtkimgmgafkihaaaDoor
