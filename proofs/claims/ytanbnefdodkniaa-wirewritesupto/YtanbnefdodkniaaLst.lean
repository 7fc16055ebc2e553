/-
  Lists of pairs written: the document's Number, form, Put.
-/
import Derived.Test.YtanbnefdodkniaaKno
import Derived.Deep.RegionWith
namespace Go.Proofs.Ytanbnefdodkniaa
open Go.RowKit Go.Lib Go.Sort

/-- 'f == nil', of a function. -/
theorem eq_fn_nil {P : Program} (w : World) (d : Nat) (t : TypeId) {a b : Array TypeId} {c : Bool} (h : P.underlying t = some (.func a b c)) : (Op.equalIn (d + 1) t .nilFunc .nilFunc).run P w = .ok true w := by
  simp [Op.equalIn, run_underlying h]
theorem eql_fn_nil {P : Program} (w : World) (t : TypeId) {a b : Array TypeId} {c : Bool} (h : P.underlying t = some (.func a b c)) : (binOp .eql t .nilFunc .nilFunc).run P w = .ok (.bool true) w := by
  simp only [binOp]
  simp [Op.equal, Op.maxDepth, eq_fn_nil w 9999 t h]
theorem eq_fn_some {P : Program} (w : World) (d : Nat) (t : TypeId) {a b : Array TypeId} {c : Bool} (h : P.underlying t = some (.func a b c)) (f : Fn) (x y : Array Value) : (Op.equalIn (d + 1) t (.func f x y) .nilFunc).run P w = .ok false w := by
  simp [Op.equalIn, run_underlying h]
theorem eql_fn_some {P : Program} (w : World) (t : TypeId) {a b : Array TypeId} {c : Bool} (h : P.underlying t = some (.func a b c)) (f : Fn) (x y : Array Value) : (binOp .eql t (.func f x y) .nilFunc).run P w = .ok (.bool false) w := by
  simp only [binOp]
  simp [Op.equal, Op.maxDepth, eq_fn_some w 9999 t h f x y]

/-- One byte in a block of its own. -/
theorem own_one (w : World) (x : Int) (base : Nat) (hb : base ≤ w.heap.size) : (w.alloc (.cells #[.int .u8 x] 5)).ownsRow base 5 1 (.slice (some ⟨w.heap.size, 0, none⟩) 1 1) [x].length ([x].map encB) :=
  ⟨by simp, .inr ⟨w.heap.size, 1, _, rfl, hb, heap_alloc_new w _, by simp, by decide, by simp, by simp⟩⟩

set_option maxHeartbeats 1600000 in
set_option maxRecDepth 1000000 in
/-- The document's Number: the same bytes. -/
theorem refnum_any (n : Nat) (hn : n < 18446744073709551616) (w : World) :
    Calls Try.prog 11 #[.int .u64 n] w fun e w' => ∃ v, e = .returned v ∧ Forms w w' v (numF n) := by
  go_enter Try.func11, Try.ntmps11
  go_wp2
  go_loopw [0, 3] (fun x v wr => ∃ (m : Nat) (ds : List Int), m < 18446744073709551616 ∧ x = .int .u64 m ∧ (hiL m).reverse ++ ds = numF n ∧ wr.ownsRow w.heap.size 5 1 v ds.length (ds.map encB) ∧ Below w.heap.size w wr)
    (fun x _ _ => (RowKit.intOf x).toNat)
  case atStart =>
    refine ⟨n / 128, [((n % 128 : Nat) : Int)], by omega, by go_num, by simp [numF], ?_, (Below.refl _ w).alloc (Nat.le_refl _) _⟩
    have := own_one w ((n % 128 : Nat) : Int) w.heap.size (Nat.le_refl _)
    simpa using this
  case round =>
    obtain ⟨m, ds, hm, rfl, heq, hown, hnx⟩ := hrel
    have hlen : ds.length ≤ 11 := by
      have h1 := congrArg List.length heq
      have h2 := (numF_len n).2
      simp at h1; omega
    have hB := hnx.size
    have HEQ : Hid ((hiL m).reverse ++ ds = numF n) := heq
    clear heq
    by_cases h0 : 0 < m
    · have hS : Hid (Src (wr.alloc (.cells #[.int .u8 ((m : Int) % 128 + 128)] 5)) u3 ds) := src_own (hown.alloc _)
      go_wp2_with (at_builtin; refine wpList_apps _ rfl _ _ rfl w.heap.size _ _ [(m : Int) % 128 + 128] ds rfl rfl (own_one wr _ _ hB) hS.out ?c1 ?c2 ?_)
      case c1 => simp; omega
      case c2 => simp; omega
      intro v' w1 hA
      have hnx1 : Below w.heap.size w w1 := (hnx.alloc hB _).grown hA.2.1 (by simp; omega) (by intro k hk; simp [Value.ownBlock] at hk; omega)
      have ho1 := hA.1
      clear hA hS hown
      go_wp2
      go_roundw
      case rel =>
        refine ⟨m / 128, ((m % 128 + 128 : Nat) : Int) :: ds, by omega, by go_num, ?_, ?_, hnx1⟩
        · rw [← HEQ.out, hiL_step m h0 hm]; simp
        · simpa using ho1
      case measure => simp [RowKit.intOf]; omega
    · obtain rfl : m = 0 := by omega
      go_wp2
      go_ret
      have e1 : ds = numF n := by rw [← HEQ.out]; rfl
      refine ⟨_, rfl, ?_, grownBy_of_below hnx⟩
      rw [← e1]; exact hown

theorem cell_grown {w w' : World} {row : Option Nat} (h : w.grownBy w' row) {a : Addr} (ha : a.block < w.heap.size) (hn : row ≠ some a.block) : w'.cell? a = w.cell? a := World.cell?_of_block (h.block _ ha (fun e => hn e.symm))

theorem Forms.app {W w1 w2 w3 : World} {v1 v3 : Value} {A B : List Int} (h1 : Forms W w1 v1 A) (h2 : w1.grownBy w2 none) (hA : Apps w2 w3 W.heap.size v1 v3 A B) : Forms W w3 v3 (A ++ B) :=
  ⟨hA.1, grownBy_of_below ((below_of_grownBy (grownBy_trans h1.2 h2)).grown hA.2.1 (Nat.le_trans h1.2.size h2.size) (fun k hk => (h1.1.lt k hk).1))⟩
theorem numF_len10 (n : Nat) (h : n < 18446744073709551616) : (numF n).length ≤ 10 := by
  have h2 : hiF 10 (n / 128) = hiF 9 (n / 128) := hiF_more 9 (n / 128) (by omega)
  have h3 := hiF_len 9 (n / 128)
  simp only [numF, hiL, List.length_reverse, List.length_cons]
  rw [h2]; omega

set_option maxHeartbeats 1600000 in
set_option maxRecDepth 1000000 in
theorem form_any (a b : Nat) (ha : a < 18446744073709551616) (hb : b < 18446744073709551616) (w : World) :
    Calls Try.prog 46 #[.agg #[.int .u64 a, .int .u64 b]] w fun e w' => ∃ v, e = .returned v ∧ Forms w w' v (numF a ++ numF b) := by
  have la := numF_len a
  have lb := numF_len b
  go_enter Try.func46, Try.ntmps46
  go_wp2_with fail
  go_region_held3 (fun w' => w'.cell? ⟨w.heap.size, 0, none⟩ = some (Value.int IntKind.u64 (a : Int)) ∧ w'.cell? ⟨w.heap.size, 1, none⟩ = some (Value.int IntKind.u64 (b : Int)) ∧ w.heap.size < w'.heap.size)
    (first | go_keep | (refine ⟨?_, ?_, ?_⟩; (rw [cell_grown hA.2.1 (by simp [*]) ?_]; simp [*]; exact fun e => by have := (hF1.1.lt _ e).1; simp at this; omega); (rw [cell_grown hA.2.1 (by simp [*]) ?_]; simp [*]; exact fun e => by have := (hF1.1.lt _ e).1; simp at this; omega); exact Nat.lt_of_lt_of_le (by simp [*]) hA.2.1.size) | (refine ⟨?_, ?_, ?_⟩; (rw [hF2.cell (by simp [*])]; simp [*]); (rw [hF2.cell (by simp [*])]; simp [*]); exact Nat.lt_of_lt_of_le (by simp [*]) hF2.2.size) | (refine ⟨?_, ?_, ?_⟩; (rw [hF1.cell (by simp [*])]; simp [*]); (rw [hF1.cell (by simp [*])]; simp [*]); exact Nat.lt_of_lt_of_le (by simp [*]) hF1.2.size))
    (first | (go_at_call_of 10 (Value.int IntKind.u64 (a : Int)); refine (num_forms a ha _).mono ?_; rintro e w1 ⟨v1, rfl, hF1⟩) | (go_at_call_of 10 (Value.int IntKind.u64 (b : Int)); refine (num_forms b hb _).mono ?_; rintro e w2 ⟨v2, rfl, hF2⟩) | (refine step_apps rfl (.tmp 5) (.tmp 8) (by rfl) (w.heap.size + 1) _ _ (numF a) (numF b) (by rfl) (by rfl) (Src.kept (ownsRow_base hF1.1 (by simp)) hF2.2 (by intro g _ e; cases e)) (src_own hF2.1) (by omega) (by have := hF1.2.size; have := hF2.2.size; simp at *; omega) ?_; intro v3 w3 hA))
  go_wp2
  go_ret
  exact ⟨v3, rfl, (Forms.app hF1 hF2.2 (by simpa using hA)).lift (grownBy_drew (World.grownBy_alloc _ _ _))⟩

/-- Pairs of numbers in memory. -/
def SrcP (w : World) (s : Value) (P : List (Nat × Nat)) : Prop :=
  (s = .slice none 0 0 ∧ P = []) ∨ ∃ b off c, s = .slice (some ⟨b, off, none⟩) P.length c ∧ ∀ i p, P[i]? = some p → w.cell? ⟨b, off + i * 2, none⟩ = some (.int .u64 p.1) ∧ w.cell? ⟨b, off + i * 2 + 1, none⟩ = some (.int .u64 p.2)
def pairsF (P : List (Nat × Nat)) : List Int := P.flatMap fun p => numF p.1 ++ numF p.2
def listF (P : List (Nat × Nat)) : List Int := numF P.length ++ pairsF P
def Small (P : List (Nat × Nat)) : Prop := ∀ p ∈ P, p.1 < 18446744073709551616 ∧ p.2 < 18446744073709551616
theorem pairsF_snoc (P : List (Nat × Nat)) (k : Nat) (p : Nat × Nat) (h : P[k]? = some p) : pairsF (P.take (k + 1)) = pairsF (P.take k) ++ (numF p.1 ++ numF p.2) := by
  obtain ⟨hk, rfl⟩ := List.getElem?_eq_some_iff.1 h
  rw [List.take_succ_eq_append_getElem hk]
  unfold pairsF
  rw [List.flatMap_append]
  simp
theorem pairsF_len (P : List (Nat × Nat)) (h : Small P) : (pairsF P).length ≤ 20 * P.length := by
  induction P with
  | nil => simp [pairsF]
  | cons p P ih =>
    have h1 := ih (fun q hq => h q (List.mem_cons_of_mem _ hq))
    have h2 := h p (List.mem_cons_self ..)
    have l1 := numF_len10 p.1 h2.1
    have l2 := numF_len10 p.2 h2.2
    simp only [pairsF, List.flatMap_cons, List.length_append, List.length_cons] at h1 ⊢
    omega
theorem Small.take {P : List (Nat × Nat)} (h : Small P) (k : Nat) : Small (P.take k) := fun p hp => h p (List.mem_of_mem_take hp)

set_option maxHeartbeats 1600000 in
set_option maxRecDepth 1000000 in
theorem put_any (s : Value) (P : List (Nat × Nat)) (w : World) (hs : SrcP w s P) (hP : Small P) (hl : P.length ≤ 8796093022208) :
    Calls Try.prog 45 #[s, .func (.func 46) #[] #[]] w fun e w' => ∃ v, e = .returned (.tuple #[v, .int .i64 0]) ∧ Forms w w' v (listF P) := by
  have q := fun w => eql_fn_some w 86 Try.underlying86
  rcases hs with ⟨rfl, rfl⟩ | ⟨b, off, c, rfl, hc⟩
  · go_enter Try.func45, Try.ntmps45
    go_wp2_with (go_at_call 10; refine (num_forms 0 (by decide) _).mono ?_; rintro e w1 ⟨v, rfl, hF⟩)
    go_loopw [6, 17] (fun x i wr => x = v ∧ i = .int .i64 0 ∧ wr = w1) (fun _ _ _ => 0)
    case atStart => exact ⟨rfl, rfl, rfl⟩
    case round =>
      obtain ⟨rfl, rfl, rfl⟩ := hrel
      go_wp2
      go_ret2
      exact ⟨_, rfl, by simpa [listF, pairsF] using hF⟩
  · have HC : Hid (∀ i p, P[i]? = some p → w.cell? ⟨b, off + i * 2, none⟩ = some (.int .u64 p.1) ∧ w.cell? ⟨b, off + i * 2 + 1, none⟩ = some (.int .u64 p.2)) := hc
    have lnP := numF_len10 P.length (by omega)
    clear hc
    go_enter Try.func45, Try.ntmps45
    go_wp2_with (go_at_call 10; refine (num_forms P.length (by omega) _).mono ?_; rintro e w1 ⟨v, rfl, hF⟩)
    go_loopw [6, 17] (fun x i wr => ∃ k : Nat, k ≤ P.length ∧ i = .int .i64 k ∧ Forms w wr x (numF P.length ++ pairsF (P.take k))) (fun _ i _ => P.length - (RowKit.intOf i).toNat)
    case atStart => exact ⟨0, Nat.zero_le _, rfl, by simpa [pairsF] using hF⟩
    case round =>
      obtain ⟨k, hk, rfl, hFk⟩ := hrel
      clear hF
      by_cases hlt : k < P.length
      · obtain ⟨p, hp⟩ : ∃ p, P[k]? = some p := ⟨_, List.getElem?_eq_getElem hlt⟩
        have hpm : p ∈ P := List.mem_of_getElem? hp
        obtain ⟨x1, x2⟩ := HC.out k p hp
        have hbw : b < w.heap.size := World.block_lt_of_cell? w ⟨b, off + k * 2, none⟩ x1
        have c1 := (hFk.cell (a := ⟨b, off + k * 2, none⟩) hbw).trans x1
        have c2 := (hFk.cell (a := ⟨b, off + k * 2 + 1, none⟩) hbw).trans x2
        have hlen := pairsF_len (P.take k) (hP.take k)
        have hlt' : (P.take k).length ≤ k := List.length_take_le _ _
        have l1 := numF_len10 p.1 (hP p hpm).1
        have l2 := numF_len10 p.2 (hP p hpm).2
        have HP : Hid (P[k]? = some p) := hp
        have HS : Hid (p.1 < 18446744073709551616 ∧ p.2 < 18446744073709551616) := hP p hpm
        clear hp hpm x1 x2
        go_wp2_with fail
        refine (form_any p.1 p.2 HS.out.1 HS.out.2 _).mono ?_
        rintro e w2 ⟨vf, rfl, hFf⟩
        have g2 : wr.grownBy w2 none := grownBy_trans (World.grownBy_alloc _ _ _) hFf.2
        have hb2 : w.heap.size ≤ w2.heap.size := Nat.le_trans hFk.2.size g2.size
        have HO : Hid (w2.ownsRow w.heap.size 5 1 u6 (numF P.length ++ pairsF (P.take k)).length ((numF P.length ++ pairsF (P.take k)).map encB)) := Src.kept hFk.1 g2 (by intro g _ e; cases e)
        have HF : Hid (Src w2 vf (numF p.1 ++ numF p.2)) := hFf.src
        have HK : Hid (Forms w wr u6 (numF P.length ++ pairsF (P.take k))) := hFk
        clear hFf hFk c1 c2
        go_wp2_with (at_builtin; refine wpList_apps _ rfl _ _ rfl w.heap.size _ _ _ _ rfl rfl HO.out HF.out ?c1 ?c2 ?_)
        case c1 => simp only [List.length_append]; omega
        case c2 => exact hb2
        intro v3 w3 hA
        have F3 : Hid (Forms w w3 v3 (numF P.length ++ pairsF (P.take (k + 1)))) := by
          rw [pairsF_snoc P k p HP.out, ← List.append_assoc]
          exact Forms.app HK.out g2 hA
        clear hA HO HF HK
        go_wp2
        go_roundw
        case rel => exact ⟨k + 1, by omega, by go_num, F3.out⟩
        case measure => simp [RowKit.intOf]; omega
      · go_wp2
        go_ret2
        obtain rfl : k = P.length := by omega
        exact ⟨_, rfl, by simpa [listF] using hFk⟩
end Go.Proofs.Ytanbnefdodkniaa
