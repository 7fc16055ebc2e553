/-
  Blocks of bytes and their strings.
-/
import Derived.Test.YtfnminljpifloabBas
namespace Go.Proofs.Ytfnminljpifloab
open Go.RowKit Go.Lib Go.Sort

theorem grow1 (w : World) (a : Obj) : w.grownBy (w.alloc a) none := World.grownBy_alloc _ _ _
def BlkL (w : World) (B : Nat) (t : TypeId) (enc : Int → Value) (L : List Int) : Prop := w.heap[B]? = some (.cells (L.map enc).toArray t (0, 0))
theorem BlkL.lt {w : World} {B : Nat} {t : TypeId} {enc : Int → Value} {L : List Int} (h : BlkL w B t enc L) : B < w.heap.size := (Array.getElem?_eq_some_iff.1 h).1
theorem BlkL.cell {w : World} {B : Nat} {t : TypeId} {enc : Int → Value} {L : List Int} (h : BlkL w B t enc L) (i : Nat) (hi : i < L.length) : w.cell? ⟨B, i, none⟩ = some (enc (L[i]?.getD 0)) := by
  unfold BlkL at h
  simp [World.cell?, h, hi]
theorem BlkL.frozen {w : World} {B : Nat} {t : TypeId} {enc : Int → Value} {L : List Int} (h : BlkL w B t enc L) (i : Nat) : w.frozen? ⟨B, i, none⟩ = false := by
  unfold BlkL at h
  simp [World.frozen?, h]
theorem BlkL.set {w : World} {B : Nat} {t : TypeId} {enc : Int → Value} {L : List Int} (h : BlkL w B t enc L) (i : Nat) (x : Int) : BlkL (w.setCell ⟨B, i, none⟩ (enc x)) B t enc (L.set i x) := by
  unfold BlkL at *
  simp [World.setCell, Array.getElem?_modify, h]
theorem BlkL.kept {w w' : World} {row : Option Nat} {B : Nat} {t : TypeId} {enc : Int → Value} {L : List Int} (h : BlkL w B t enc L) (hg : w.grownBy w' row) (hn : row ≠ some B) : BlkL w' B t enc L :=
  (hg.block B h.lt (fun e => hn e.symm)).trans h
theorem grown_set {w w' : World} {B i : Nat} {v : Value} (h : w.grownBy w' none) (hB : w.heap.size ≤ B) : w.grownBy (w'.setCell ⟨B, i, none⟩ v) none :=
  grownBy_new h hB (grownBy_setCell _ _ _ _)
def ints (l : List Nat) : List Int := l.map (fun b : Nat => (b : Int))
theorem ints_length (l : List Nat) : (ints l).length = l.length := by simp [ints]
def Src (w : World) (s : Value) (L : List Int) : Prop :=
  (s = .slice none 0 0 ∧ L = []) ∨ ∃ b off c, s = .slice (some ⟨b, off, none⟩) L.length c ∧ ∀ j u, (L.map encB)[j]? = some u → w.cell? ⟨b, off + j, none⟩ = some u
def strOf (L : List Int) : ByteArray := L.foldl (fun r n => r.push (UInt8.ofNat n.toNat)) ByteArray.empty
theorem conv_src {w : World} {s : Value} {L : List Int} (h : Src w s L) : (convert 57 9 s).run Try.prog w = .ok (.string (strOf L)) w := by
  rcases h with ⟨rfl, rfl⟩ | ⟨b, off, c, rfl, hc⟩
  · rw [run_convert_bytes_string w 57 9 5 none 0 0 Try.underlying57 Try.underlying5 Try.underlying9]
    simp [Conv.bytesToString, Sem.run_pure, strOf]
  · rw [run_convert_bytes_string w 57 9 5 _ _ _ Try.underlying57 Try.underlying5 Try.underlying9]
    have h1 := run_loadCells_list (P := Try.prog) w ⟨b, off, none⟩ (L.map encB) (fun j v hv => by rw [Addr.add_lit]; exact hc j v hv)
    rw [List.length_map] at h1
    rw [run_bytesToString w ⟨b, off, none⟩ L.length c L h1]
    rfl
theorem foldl_push : ∀ (l : List Nat) (r : ByteArray), (∀ x ∈ l, x < 256) → bN ((ints l).foldl (fun r n => r.push (UInt8.ofNat n.toNat)) r) = bN r ++ l
  | [], r, _ => by simp [ints]
  | b :: t, r, h => by
    have e : ints (b :: t) = (b : Int) :: ints t := rfl
    rw [e, List.foldl_cons, foldl_push t _ (fun x hx => h x (by simp [hx]))]
    have hb : b < 256 := h b (by simp)
    have h1 : bN (r.push (UInt8.ofNat (b : Int).toNat)) = bN r ++ [b] := by
      have h2 : (UInt8.ofNat b).toNat = b := by simp [UInt8.toNat_ofNat']; omega
      simp [bN, ByteArray.push, h2]
    rw [h1]; simp
theorem bN_strOf (l : List Nat) (h : ∀ x ∈ l, x < 256) : bN (strOf (ints l)) = l := by
  unfold strOf
  rw [foldl_push l _ h]
  rfl
theorem set_last (q : Nat) (x : Int) (l : List Int) : (List.replicate (q + 1) 0 ++ l).set q x = List.replicate q 0 ++ x :: l := by
  rw [List.replicate_succ', List.append_assoc, List.set_append_right _ _ (by simp)]
  simp
theorem BlkL.srcB {w : World} {B : Nat} {t : TypeId} {L : List Int} (h : BlkL w B t encB L) (c : Nat) : Src w (.slice (some ⟨B, 0, none⟩) L.length c) L := by
  refine .inr ⟨B, 0, c, rfl, fun j u hu => ?_⟩
  unfold BlkL at h
  simp [World.cell?, h]
  simpa using hu
end Go.Proofs.Ytfnminljpifloab
