/-
  The program's Read.
-/
import Derived.Test.YtmgbkcfocbbofabGreatDoorRdp
import Derived.Test.YtmgbkcfocbbofabGreatDoorMde
import Derived.Test.YtmgbkcfocbbofabGreatDoorSmm
namespace Go.Proofs.YtmgbkcfocbbofabGreatDoor
open Go.RowKit Go.Lib Go.Sort

/-- Is it the text of a number? -/
def isText (s : ByteArray) : Prop := plain (bare s) ∧ bN s ≠ [45, 48]
instance (s : ByteArray) : Decidable (isText s) := by unfold isText; exact inferInstance
/-- The number whose text it is. -/
def textZ (s : ByteArray) : Int := if (bN s).head? = some 45 then -(dec (bN (bare s)) : Int) else dec (bN (bare s))

theorem bare_size (s : ByteArray) : (bare s).size ≤ s.size := by
  unfold bare
  split
  · rw [← bN_length, bN_extract, List.length_take, List.length_drop, bN_length]; omega
  · exact Nat.le_refl _

/-- What stands behind some groups: the digits of what has been read; what is left. -/
def RdI (w wr : World) (t : List Nat) (v : Value) (u : ByteArray) : Prop :=
  ∃ L k, k ≤ t.length ∧ bN u = t.drop k ∧ (k = 0 ∨ (t.length - k) % 9 = 0) ∧ Row wr w.heap.size v L ∧ (∀ x ∈ L, x < B32) ∧ L.length ≤ k ∧ nv B32 L = dec (t.take k) ∧ w.grownBy wr none

theorem extract_head (u : ByteArray) (n : Nat) : bN (u.extract 0 n) = (bN u).take n := by rw [bN_extract]; simp
theorem extract_tail (u : ByteArray) (n : Nat) : bN (u.extract n u.size) = (bN u).drop n := by
  rw [bN_extract, List.take_of_length_le (by rw [List.length_drop, bN_length]; exact Nat.le_refl _)]
theorem grown_row {w wr w' : World} {v : Value} {L : List Nat} (hg : w.grownBy wr none) (hR : Row wr w.heap.size v L) (k : wr.grownBy w' v.ownBlock) : w.grownBy w' none := by
  cases hob : v.ownBlock with
  | none => rw [hob] at k; exact grownBy_trans hg k
  | some g => rw [hob] at k; exact grownBy_new hg (hR.lt hob).1 k

set_option maxHeartbeats 3200000 in
set_option maxRecDepth 1000000 in
theorem read_any (s : ByteArray) (h9 : s.size ≤ 40000) (ht : isText s) (w : World) :
    Calls Tryz.prog 10 #[.string s] w fun e w' => ZRes (textZ s) e ∧ w.grownBy w' none := by
  have h9I : (s.size : Int) ≤ 40000 := by omega
  have hbs := bare_size s
  have HC : Hid (∀ w, Calls Tryz.prog 38 #[.string s, .string ⟨#[45]⟩] w fun e w' => e = .returned (.tuple #[.string (bare s), .bool (decide ((bN s).head? = some 45))]) ∧ w' = w) := fun w => cutPrefix_any s (by omega) w
  have HPd : Hid (∀ w, Calls Tryz.prog 39 #[.string (bare s)] w fun e w' => e = .returned (.bool true) ∧ w' = w) := fun w => by
    have := plainDigits_any (bare s) (by omega) w
    rw [decide_eq_true ht.1] at this
    exact this
  have hz : (s.toList == [45, 48]) = false := by
    rw [bN_eq_lit]
    exact decide_eq_false ht.2
  have HDg : Hid (∀ b ∈ bN (bare s), isDig b) := ht.1.1
  have HZ : Hid (∀ e, Made (decide ((bN s).head? = some 45)) (dec (bN (bare s))) e → ZRes (textZ s) e) := fun e h => made_z h (by unfold textZ; by_cases h : (bN s).head? = some 45 <;> simp [h])
  have hbl := bN_length (bare s)
  have HL : Hid ((bN (bare s)).length ≤ 40000) := (by show (bN (bare s)).length ≤ 40000; omega)
  have HI0 : Hid (RdI (w.alloc (wObj false eS)) (w.alloc (wObj false eS)) (bN (bare s)) (.slice none 0 0) (bare s)) := ⟨[], 0, by omega, rfl, .inl rfl, Row.nil _ _, by simp, by simp, by simp [nv, dec], World.grownBy.refl _ _⟩
  generalize textZ s = z at *
  generalize decide ((bN s).head? = some 45) = neg at *
  generalize bare s = u at *
  generalize bN u = t at *
  clear ht hbs hbl
  go_enter Tryz.func10, Tryz.ntmps10
  go_wp2_with fail
  refine (HC.out _).mono ?_
  rintro e w' ⟨rfl, rfl⟩
  go_wp2_with fail
  refine (HPd.out _).mono ?_
  rintro e w' ⟨rfl, rfl⟩
  go_wp2_with fail
  go_loopw [4, 6] (fun x v wr => ∃ q : ByteArray, x = .string q ∧ RdI (w.alloc (wObj false eS)) wr t v q) (fun x _ _ => match x with | .string q => q.size | _ => 0)
  case atStart => exact ⟨u, rfl, HI0.out⟩
  case round =>
    obtain ⟨q, rfl, hI⟩ := hrel
    obtain ⟨L, k, hk, hq, h9k, hR, hr, hl, hv, hg⟩ := hI
    have hql : q.size = t.length - k := by rw [← bN_length, hq, List.length_drop]
    by_cases h0 : q.size = 0
    · obtain rfl := empty_of_size h0
      have hkt : k = t.length := by omega
      rw [List.take_of_length_le (by omega)] at hv
      have hM := madeP_any neg wr u6 L hR.d4 hr (by have := HL.out; omega)
      rw [hv] at hM
      have HM : Hid (Calls Tryz.prog 42 #[.bool neg, u6] wr fun e w' => Made neg (dec t) e ∧ wr.grownBy w' none) := hM
      have HG : Hid ((w.alloc (wObj false eS)).grownBy wr none) := hg
      obtain ⟨ao, cp, hu6⟩ := hR.d4.slice
      subst hu6
      clear hM hR hr hv hq hg h9k hql
      go_wp2_with fail
      refine HM.out.mono ?_
      rintro e w2 ⟨hMd, g2⟩
      have hZ := HZ.out _ hMd
      have HG2 : Hid ((w.alloc (wObj false eS)).grownBy w2 none) := grownBy_trans HG.out g2
      obtain ⟨n', s', er, rfl⟩ : ∃ n s er, e = .returned (.tuple #[whole n s, .int .i64 er]) := by
        rcases hZ with ⟨_, n, s, rfl, _⟩ | ⟨_, rfl⟩ <;> exact ⟨_, _, _, rfl⟩
      have HZ2 : Hid (ZRes z (.returned (.tuple #[whole n' s', .int .i64 er]))) := hZ
      have hb : WBlk w2 w.heap.size (.bool false) (.string eS) := WBlk.kept (w := w.alloc (wObj false eS)) (heap_alloc_new _ _) HG2.out (by simp)
      have hc0 := hb.c0
      have hc1 := hb.c1
      have hf0 := hb.fr 0
      have hf1 := hb.fr 1
      clear hMd g2 hZ HM
      go_wp2_with fail
      refine bodyPost_ret (res_cell_tmp rfl _ _ w.heap.size _ _ _ _ rfl (hb.put _ _)) rfl ?_
      exact ⟨HZ2.out, grown_set (grown_set (grownBy_trans (grow1 _ _) HG2.out) (Nat.le_refl _)) (Nat.le_refl _)⟩
    · have he := isEmpty_of h0
      obtain ⟨n, hn⟩ : ∃ n, (q.size - 1) % 9 + 1 = n := ⟨_, rfl⟩
      have hn9 : n ≤ 9 := by omega
      have hnq : n ≤ q.size := by omega
      have htL := HL.out
      have hkn : k = 0 ∨ n = 9 := by omega
      have hgd : ∀ b ∈ bN (q.extract 0 n), isDig b := fun b hb => by
        rw [extract_head, hq] at hb
        exact HDg.out b (List.mem_of_mem_drop (List.mem_of_mem_take hb))
      have hgs : (q.extract 0 n).size ≤ 9 := by rw [← bN_length, extract_head, List.length_take]; omega
      have hgl : (bN (q.extract 0 n)).length = n := by rw [extract_head, List.length_take, bN_length]; omega
      have HGV : Hid (∀ w, Calls Tryz.prog 41 #[.string (q.extract 0 n)] w fun e w' => e = .returned (.int .u32 ((dec (bN (q.extract 0 n)) : Nat) : Int)) ∧ w' = w) := fun w => groupValue_any _ hgs hgd w
      have hgv : dec (bN (q.extract 0 n)) < 4294967296 := by
        have h1 := dec_lt _ hgd
        rw [hgl] at h1
        have h2 : 10 ^ n ≤ 10 ^ 9 := Nat.pow_le_pow_right (by decide) hn9
        have h3 : 10 ^ 9 = 1000000000 := by decide
        omega
      have hdd : dec (t.take (k + n)) = dec (t.take k) * 1000000000 + dec (bN (q.extract 0 n)) := by
        rw [List.take_add, dec_append, extract_head, hq]
        rcases hkn with rfl | rfl
        · simp [dec]
        · rw [List.length_take, List.length_drop, Nat.min_eq_left (by omega)]
      have hRR := fun wz (hz : wr.grownBy wz none) => raise_row wz (w.alloc (wObj false eS)).heap.size 1000000000 (dec (bN (q.extract 0 n))) u6 L (hR.kept hz (by cases u6.ownBlock <;> simp)) hr (by decide) hgv (by omega) (Nat.le_trans hg.size hz.size)
      have HRR : Hid (∀ wz, wr.grownBy wz none → Calls Tryz.prog 40 #[u6, .int .u32 1000000000, .int .u32 ((dec (bN (q.extract 0 n)) : Nat) : Int)] wz fun e w'' => ∃ v', e = .returned v' ∧ (∃ ao m cp, v' = .slice ao m cp) ∧ RdI (w.alloc (wObj false eS)) w'' t v' (q.extract n q.size)) := (by
        intro wz hz
        refine (hRR wz hz).mono ?_
        rintro e w'' ⟨v', K, rfl, hK, rK, vK, lK, _, gK⟩
        refine ⟨v', rfl, ?_, K, k + n, by omega, ?_, ?_, hK, rK, by omega, ?_, ?_⟩
        · obtain ⟨ao, cp, e⟩ := hK.d4.slice
          exact ⟨_, _, _, e⟩
        · rw [extract_tail, hq, List.drop_drop]
        · right
          rcases hkn with rfl | rfl
          · omega
          · omega
        · rw [vK, hv, hdd]
        · exact grown_row (grownBy_trans hg hz) (hR.kept hz (by cases u6.ownBlock <;> simp)) gK)
      have hm1 : (q.extract n q.size).size < q.size := by rw [← bN_length, extract_tail, List.length_drop, bN_length]; omega
      have hqI : (q.size : Int) ≤ 40000 := by omega
      have hq1 : (1 : Int) ≤ q.size := by omega
      have hnI : (n : Int) ≤ q.size := by omega
      have hni : ((q.size : Int) - 1) % 9 + 1 = (n : Int) := by omega
      obtain ⟨ao, cp, hu6⟩ := hR.d4.slice
      subst hu6
      clear hR hr hv hq hg h9k hql hgd hgs hgl hgv hdd hRR hkn hn
      generalize ((dec (bN (q.extract 0 n)) : Nat) : Int) = gv at *
      go_wp2_with fail
      refine (HGV.out _).mono ?_
      rintro e w1 ⟨rfl, hw1⟩
      subst hw1
      go_wp2_with fail
      refine (HRR.out _ (World.grownBy.refl _ _)).mono ?_
      rintro e w2 ⟨v', rfl, ⟨ao2, m2, cp2, rfl⟩, hI2⟩
      have HI2 : Hid (RdI (w.alloc (wObj false eS)) w2 t (.slice ao2 m2 cp2) (q.extract n q.size)) := hI2
      clear hI2 HRR HGV
      go_wp2_with fail
      go_roundw
      case rel => exact ⟨_, rfl, HI2.out⟩
      case measure => exact hm1

set_option maxHeartbeats 1600000 in
set_option maxRecDepth 1000000 in
theorem read_long (s : ByteArray) (hs : s.size ≤ maxLen) (h9 : 40000 < s.size) (w : World) :
    Calls Tryz.prog 10 #[.string s] w fun e w' => e = .returned (.tuple #[whole false eS, .int .i64 3]) ∧ w.grownBy w' none := by
  have h9I : (40001 : Int) ≤ s.size := by omega
  unfold maxLen at hs
  have hsI : (s.size : Int) ≤ 9223372036854775807 := by omega
  clear hs h9
  go_enter Tryz.func10, Tryz.ntmps10
  go_wp2_with (go_at_call 29; refine (zero_any _).mono ?_; rintro e w' ⟨rfl, rfl⟩)
  refine bodyPost_ret (res_cell_tmp rfl _ _ w.heap.size _ _ _ _ rfl (old_alloc _ _ (heap_alloc_new _ _))) rfl ?_
  exact ⟨rfl, grow2 _ _ _⟩

set_option maxHeartbeats 1600000 in
set_option maxRecDepth 1000000 in
theorem read_not (s : ByteArray) (h9 : s.size ≤ 40000) (ht : ¬ isText s) (w : World) :
    Calls Tryz.prog 10 #[.string s] w fun e w' => e = .returned (.tuple #[whole false eS, .int .i64 120]) ∧ w.grownBy w' none := by
  have h9I : (s.size : Int) ≤ 40000 := by omega
  have hbs := bare_size s
  have HC : Hid (∀ w, Calls Tryz.prog 38 #[.string s, .string ⟨#[45]⟩] w fun e w' => e = .returned (.tuple #[.string (bare s), .bool (decide ((bN s).head? = some 45))]) ∧ w' = w) := fun w => cutPrefix_any s (by omega) w
  have hP := fun w => plainDigits_any (bare s) (by omega) w
  generalize decide ((bN s).head? = some 45) = neg at *
  by_cases hp : plain (bare s)
  · rw [decide_eq_true hp] at hP
    have HPd : Hid (∀ w, Calls Tryz.prog 39 #[.string (bare s)] w fun e w' => e = .returned (.bool true) ∧ w' = w) := hP
    have hz : (s.toList == [45, 48]) = true := by
      rw [bN_eq_lit]
      exact decide_eq_true (Classical.byContradiction fun h => ht ⟨hp, h⟩)
    clear hP hp ht hbs
    generalize bare s = u at *
    go_enter Tryz.func10, Tryz.ntmps10
    go_wp2_with fail
    refine (HC.out _).mono ?_
    rintro e w' ⟨rfl, rfl⟩
    go_wp2_with fail
    refine (HPd.out _).mono ?_
    rintro e w' ⟨rfl, rfl⟩
    go_wp2_with (go_at_call 29; refine (zero_any _).mono ?_; rintro e w' ⟨rfl, rfl⟩)
    refine bodyPost_ret (res_cell_tmp rfl _ _ w.heap.size _ _ _ _ rfl (old_alloc _ _ (heap_alloc_new _ _))) rfl ?_
    exact ⟨rfl, grow2 _ _ _⟩
  · rw [decide_eq_false hp] at hP
    have HPd : Hid (∀ w, Calls Tryz.prog 39 #[.string (bare s)] w fun e w' => e = .returned (.bool false) ∧ w' = w) := hP
    clear hP hp ht hbs
    generalize bare s = u at *
    go_enter Tryz.func10, Tryz.ntmps10
    go_wp2_with fail
    refine (HC.out _).mono ?_
    rintro e w' ⟨rfl, rfl⟩
    go_wp2_with fail
    refine (HPd.out _).mono ?_
    rintro e w' ⟨rfl, rfl⟩
    go_wp2_with (go_at_call 29; refine (zero_any _).mono ?_; rintro e w' ⟨rfl, rfl⟩)
    refine bodyPost_ret (res_cell_tmp rfl _ _ w.heap.size _ _ _ _ rfl (old_alloc _ _ (heap_alloc_new _ _))) rfl ?_
    exact ⟨rfl, grow2 _ _ _⟩
end Go.Proofs.YtmgbkcfocbbofabGreatDoor
