/-
  The program's gcd of long numbers.
-/
import Derived.Test.YtjngcpbdilhkbaaGreatDoorGcd
import Derived.Test.YtjngcpbdilhkbaaGreatDoorDvc
namespace Go.Proofs.YtjngcpbdilhkbaaGreatDoor
open Go.RowKit Go.Lib Go.Sort
set_option linter.unusedVariables false

/-- What digitsOf gives. -/
def DgQ (w : World) (m : ByteArray) (v : Value) (w' : World) : Prop :=
  ∃ B L, v = .slice (some ⟨B, 0, none⟩) L.length L.length ∧ w.heap.size ≤ B ∧ BlkL w' B 64 enc4 (ints L) ∧ w.grownBy w' none ∧ L.length = (m.size + 3) / 4 ∧ (∀ x ∈ L, x < B32) ∧ nv B32 L = val (bN m)
theorem DgQ.gr {w w' : World} {m : ByteArray} {v : Value} (h : DgQ w m v w') : w.grownBy w' none := by
  obtain ⟨B, L, _, _, _, hg, _⟩ := h
  exact hg
theorem dg_any (m : ByteArray) (hm : m.size ≤ 16384) (w : World) : Calls Tryz.prog 31 #[.string m] w fun e w' => ∃ v, e = .returned v ∧ DgQ w m v w' := by
  refine (digitsOf_any m hm w).mono ?_
  rintro e w' ⟨B, L, rfl, h1, h2, h3, h4, h5, h6⟩
  exact ⟨_, rfl, B, L, rfl, h1, h2, h3, h4, h5, h6⟩
/-- What gcdDigits gives of them. -/
def GdQ (w0 : World) (g : Nat) (v : Value) (w' : World) : Prop :=
  ∃ a k cp L, v = .slice a k cp ∧ L.length = k ∧ D4 w' (.slice a k cp) L ∧ (∀ x ∈ L, x < B32) ∧ nv B32 L = g ∧ k ≤ 5000 ∧ w0.grownBy w' none
theorem GdQ.gr {w w' : World} {g : Nat} {v : Value} (h : GdQ w g v w') : w.grownBy w' none := by
  obtain ⟨a, k, cp, L, _, _, _, _, _, _, hg⟩ := h
  exact hg
theorem gd_any {n1 n2 : Bool} {m1 m2 : ByteArray} (h1 : may n1 m1 = true) (h2 : may n2 m2 = true) (wA wB wC : World) (va vb : Value) (hA : DgQ wA m1 va wB) (hB : DgQ wB m2 vb wC) :
    Calls Tryz.prog 66 #[va, vb] wC fun e w' => ∃ v, e = .returned v ∧ GdQ wA (Nat.gcd (val (bN m1)) (val (bN m2))) v w' := by
  have z1 := may_size h1
  have z2 := may_size h2
  obtain ⟨Ba, La, rfl, a1, a2, a3, a4, a5, a6⟩ := hA
  obtain ⟨Bb, Lb, rfl, b1, b2, b3, b4, b5, b6⟩ := hB
  have hsz : Ba < wB.heap.size := (Array.getElem?_eq_some_iff.1 a2).1
  have ra : Row wC wA.heap.size (.slice (some ⟨Ba, 0, none⟩) La.length La.length) La := (a2.row a1 (by unfold maxLen; omega)).kept b3 (by simp [Value.ownBlock])
  have rb : Row wC wA.heap.size (.slice (some ⟨Bb, 0, none⟩) Lb.length Lb.length) Lb := b2.row (Nat.le_trans a3.size b1) (by unfold maxLen; omega)
  have ap : Apt (.slice (some ⟨Ba, 0, none⟩) La.length La.length) (.slice (some ⟨Bb, 0, none⟩) Lb.length Lb.length) := by
    right
    intro e
    have : Ba = Bb := by simpa [Value.ownBlock] using e
    omega
  have hc := gcdDigits_any wA wC 4097 _ _ La Lb (by omega) ra rb ap a5 b5 (trim_digits h1 a4 a5 a6) (trim_digits h2 b4 b5 b6) (by omega) (by omega) (grownBy_trans a3 b3)
  rw [a6, b6] at hc
  refine hc.mono ?_
  rintro e w' ⟨v, K, rfl, c1, c2, c3, c4, c5, c6⟩
  obtain ⟨a, cp, rfl⟩ := c1.slice
  exact ⟨_, rfl, a, _, cp, K, rfl, rfl, c1, c2, c3, by omega, c6⟩
theorem mg_any {w0 w : World} {g : Nat} {v : Value} (h : GdQ w0 g v w) : Calls Tryz.prog 63 #[v] w fun e w' => ∃ s, e = .returned (.string s) ∧ bN s = magN g ∧ w.grownBy w' none := by
  obtain ⟨a, k, cp, L, rfl, h1, h2, h3, h4, h5, _⟩ := h
  have := magOf_any w a k cp L h1 h2 h3 (by omega)
  rw [h4] at this
  exact this

set_option maxHeartbeats 3200000 in
set_option maxRecDepth 1000000 in
theorem gcd_long1 (n1 n2 : Bool) (m1 m2 : ByteArray) (h1 : may n1 m1 = true) (h2 : may n2 m2 = true) (h : 8 < m1.size) (w : World) :
    Calls Tryz.prog 35 #[whole n1 m1, whole n2 m2] w fun e w' => ∃ s, e = .returned (whole false s) ∧ bN s = magN (Nat.gcd (val (bN m1)) (val (bN m2))) ∧ w.grownBy w' none := by
  have s1 := may_size h1
  have s2 := may_size h2
  have GD : Hid (∀ wA wB wC va vb, DgQ wA m1 va wB → DgQ wB m2 vb wC → Calls Tryz.prog 66 #[va, vb] wC fun e w' => ∃ v, e = .returned v ∧ GdQ wA (Nat.gcd (val (bN m1)) (val (bN m2))) v w') := fun wA wB wC va vb a b => gd_any h1 h2 wA wB wC va vb a b
  clear h1 h2
  generalize Nat.gcd (val (bN m1)) (val (bN m2)) = g at *
  go_enter Tryz.func35, Tryz.ntmps35
  go_wp2_with fail
  have HKK : Hid (∀ w', ((w.alloc (wObj n1 m1)).alloc (wObj n2 m2)).grownBy w' none → w'.cell? ⟨w.heap.size, 1, none⟩ = some (Value.string m1) ∧ w'.cell? ⟨w.heap.size + 1, 1, none⟩ = some (Value.string m2) ∧ ((w.alloc (wObj n1 m1)).alloc (wObj n2 m2)).grownBy w' none) :=
    fun w' hg => ⟨grownBy_cell hg (WBlk.c1 (a := .bool n1) (old_alloc _ _ (heap_alloc_new _ _))) (by simp), grownBy_cell hg (WBlk.c1 (a := .bool n2) (heap_alloc2_new _ _ _)) (by simp), hg⟩
  go_region_held3 (fun w' => w'.cell? ⟨w.heap.size, 1, none⟩ = some (Value.string m1) ∧ w'.cell? ⟨w.heap.size + 1, 1, none⟩ = some (Value.string m2) ∧ ((w.alloc (wObj n1 m1)).alloc (wObj n2 m2)).grownBy w' none)
    (first | (go_keep; done) | exact HKK.out _ (grow_drew (grow1 _ _)) | exact HKK.out _ (grown_set (grown_set (grownBy_trans (grow1 _ _) GM) (by simp)) (by simp)) | exact HKK.out _ (grownBy_trans (grow1 _ _) GM) | exact HKK.out _ (grownBy_trans (grow1 _ _) GG) | exact HKK.out _ (grownBy_trans (grow1 _ _) G2) | exact HKK.out _ (grownBy_trans (grow1 _ _) G1) | fail)
    (first | (go_at_call 31; refine (dg_any _ (by first | exact s1 | exact s2) _).mono ?_; rintro e wD ⟨v, rfl, hD⟩; (first | (have hAB := And.intro hD1 hD; have G2 : ((((w.alloc (wObj n1 m1)).alloc (wObj n2 m2)).alloc (wObj false eS))).grownBy wD none := grownBy_trans G1 hD.gr) | (have hD1 := hD; have G1 : ((((w.alloc (wObj n1 m1)).alloc (wObj n2 m2)).alloc (wObj false eS))).grownBy wD none := grownBy_undrew hD.gr))) | (go_at_call 66; refine (GD.out _ _ _ _ _ hAB.1 hAB.2).mono ?_; rintro e wG ⟨vg, rfl, hgG⟩; have GG : ((((w.alloc (wObj n1 m1)).alloc (wObj n2 m2)).alloc (wObj false eS))).grownBy wG none := grownBy_undrew hgG.gr) | (go_at_call 63; refine (mg_any hgG).mono ?_; rintro e wM ⟨s, rfl, hs, hgM⟩; have GM : ((((w.alloc (wObj n1 m1)).alloc (wObj n2 m2)).alloc (wObj false eS))).grownBy wM none := grownBy_trans GG hgM; have hW : WBlk wM (w.heap.size + 2) (.bool false) (.string eS) := WBlk.kept (w := (((w.alloc (wObj n1 m1)).alloc (wObj n2 m2)).alloc (wObj false eS))) (at_alloc3 _ _ _ _) GM (by simp); have hc0 := hW.c0; have hc1 := hW.c1; have hf0 := hW.fr 0; have hf1 := hW.fr 1) | fail)
  go_wp2_with fail
  refine bodyPost_ret (res_cell rfl _ _ (w.heap.size + 2) _ _ _ _ rfl (hW.put _ _)) rfl ?_
  exact ⟨s, rfl, hs, grown_set (grown_set (grownBy_trans (grow3 _ _ _ _) GM) (by omega)) (by omega)⟩
set_option maxHeartbeats 3200000 in
set_option maxRecDepth 1000000 in
theorem gcd_long2 (n1 n2 : Bool) (m1 m2 : ByteArray) (h1 : may n1 m1 = true) (h2 : may n2 m2 = true) (h0 : m1.size ≤ 8) (h : 8 < m2.size) (w : World) :
    Calls Tryz.prog 35 #[whole n1 m1, whole n2 m2] w fun e w' => ∃ s, e = .returned (whole false s) ∧ bN s = magN (Nat.gcd (val (bN m1)) (val (bN m2))) ∧ w.grownBy w' none := by
  have s1 := may_size h1
  have s2 := may_size h2
  have GD : Hid (∀ wA wB wC va vb, DgQ wA m1 va wB → DgQ wB m2 vb wC → Calls Tryz.prog 66 #[va, vb] wC fun e w' => ∃ v, e = .returned v ∧ GdQ wA (Nat.gcd (val (bN m1)) (val (bN m2))) v w') := fun wA wB wC va vb a b => gd_any h1 h2 wA wB wC va vb a b
  clear h1 h2
  generalize Nat.gcd (val (bN m1)) (val (bN m2)) = g at *
  go_enter Tryz.func35, Tryz.ntmps35
  go_wp2_with fail
  have HKK : Hid (∀ w', ((w.alloc (wObj n1 m1)).alloc (wObj n2 m2)).grownBy w' none → w'.cell? ⟨w.heap.size, 1, none⟩ = some (Value.string m1) ∧ w'.cell? ⟨w.heap.size + 1, 1, none⟩ = some (Value.string m2) ∧ ((w.alloc (wObj n1 m1)).alloc (wObj n2 m2)).grownBy w' none) :=
    fun w' hg => ⟨grownBy_cell hg (WBlk.c1 (a := .bool n1) (old_alloc _ _ (heap_alloc_new _ _))) (by simp), grownBy_cell hg (WBlk.c1 (a := .bool n2) (heap_alloc2_new _ _ _)) (by simp), hg⟩
  go_region_held3 (fun w' => w'.cell? ⟨w.heap.size, 1, none⟩ = some (Value.string m1) ∧ w'.cell? ⟨w.heap.size + 1, 1, none⟩ = some (Value.string m2) ∧ ((w.alloc (wObj n1 m1)).alloc (wObj n2 m2)).grownBy w' none)
    (first | (go_keep; done) | exact HKK.out _ (grow_drew (grow1 _ _)) | exact HKK.out _ (grown_set (grown_set (grownBy_trans (grow1 _ _) GM) (by simp)) (by simp)) | exact HKK.out _ (grownBy_trans (grow1 _ _) GM) | exact HKK.out _ (grownBy_trans (grow1 _ _) GG) | exact HKK.out _ (grownBy_trans (grow1 _ _) G2) | exact HKK.out _ (grownBy_trans (grow1 _ _) G1) | fail)
    (first | (go_at_call 31; refine (dg_any _ (by first | exact s1 | exact s2) _).mono ?_; rintro e wD ⟨v, rfl, hD⟩; (first | (have hAB := And.intro hD1 hD; have G2 : ((((w.alloc (wObj n1 m1)).alloc (wObj n2 m2)).alloc (wObj false eS))).grownBy wD none := grownBy_trans G1 hD.gr) | (have hD1 := hD; have G1 : ((((w.alloc (wObj n1 m1)).alloc (wObj n2 m2)).alloc (wObj false eS))).grownBy wD none := grownBy_undrew hD.gr))) | (go_at_call 66; refine (GD.out _ _ _ _ _ hAB.1 hAB.2).mono ?_; rintro e wG ⟨vg, rfl, hgG⟩; have GG : ((((w.alloc (wObj n1 m1)).alloc (wObj n2 m2)).alloc (wObj false eS))).grownBy wG none := grownBy_undrew hgG.gr) | (go_at_call 63; refine (mg_any hgG).mono ?_; rintro e wM ⟨s, rfl, hs, hgM⟩; have GM : ((((w.alloc (wObj n1 m1)).alloc (wObj n2 m2)).alloc (wObj false eS))).grownBy wM none := grownBy_trans GG hgM; have hW : WBlk wM (w.heap.size + 2) (.bool false) (.string eS) := WBlk.kept (w := (((w.alloc (wObj n1 m1)).alloc (wObj n2 m2)).alloc (wObj false eS))) (at_alloc3 _ _ _ _) GM (by simp); have hc0 := hW.c0; have hc1 := hW.c1; have hf0 := hW.fr 0; have hf1 := hW.fr 1) | fail)
  go_wp2_with fail
  refine bodyPost_ret (res_cell rfl _ _ (w.heap.size + 2) _ _ _ _ rfl (hW.put _ _)) rfl ?_
  exact ⟨s, rfl, hs, grown_set (grown_set (grownBy_trans (grow3 _ _ _ _) GM) (by omega)) (by omega)⟩
/-- gcd, of any two numbers that may be. -/
theorem gcd_any (n1 n2 : Bool) (m1 m2 : ByteArray) (h1 : may n1 m1 = true) (h2 : may n2 m2 = true) (w : World) :
    Calls Tryz.prog 35 #[whole n1 m1, whole n2 m2] w fun e w' => ∃ s, e = .returned (whole false s) ∧ bN s = magN (Nat.gcd (val (bN m1)) (val (bN m2))) ∧ w.grownBy w' none := by
  rcases Nat.lt_or_ge 8 m1.size with k | k
  · exact gcd_long1 n1 n2 m1 m2 h1 h2 k w
  · rcases Nat.lt_or_ge 8 m2.size with k2 | k2
    · exact gcd_long2 n1 n2 m1 m2 h1 h2 k k2 w
    · exact gcd_small n1 n2 m1 m2 k k2 w
end Go.Proofs.YtjngcpbdilhkbaaGreatDoor
