/-
  The program's line of a statement that may be.
  The program's line of a statement with a name; Line.
  The document's text of an argument.
  The document's Line of any statement; the program's Same.
-/
import Derived.Test.YtdcadiaeaclpgaaGreatDoorBunScp
import Derived.Test.YtdcadiaeaclpgaaGreatDoorQrd
namespace Go.Proofs.YtdcadiaeaclpgaaGreatDoor
open Go.RowKit Go.Lib Go.Sort
set_option linter.unusedVariables false
set_option linter.unusedSimpArgs false
set_option maxHeartbeats 6400000
set_option maxRecDepth 1000000
noncomputable def lineL (s : St) : List ByteArray := (if s.nm.size = 0 then [s.vb] else [s.vb, ⟨#[61]⟩ ++ s.nm]) ++ s.ags.map agT
noncomputable def lnB (s : St) : ByteArray := ⟨(Lib.join ((lineL s).map (·.data.toList)) [32]).toArray⟩
structure St.Few (s : St) : Prop where
  ok : okS s = true
  ags : ∀ a ∈ s.ags, a.Few
theorem RowS.grown2 {w wr w' : World} {base : Nat} {v : Value} {L : List ByteArray} (hg : w.grownBy wr none) (hR : RowS wr base v L) (hb : w.heap.size ≤ base) (k : wr.grownBy w' v.ownBlock) : w.grownBy w' none := by
  rcases hR.2 with ⟨e, _⟩ | ⟨g, cap, cur, e, hb2, _⟩
  · rw [e] at k
    exact grownBy_trans hg k
  · rw [e] at k
    exact grownBy_new hg (Nat.le_trans hb hb2) k
theorem join_lenM (M : Nat) (xs : List (List UInt8)) (h : ∀ x ∈ xs, x.length ≤ M) : (Lib.join xs [32]).length ≤ (M + 1) * xs.length := by
  induction xs with
  | nil => simp [Lib.join, List.intercalate]
  | cons a l ih =>
    cases l with
    | nil =>
      have := h a (by simp)
      simp [Lib.join, List.intercalate]
      omega
    | cons b l =>
      have h1 := h a (by simp)
      have h2 := ih (fun x hx => h x (by simp at hx ⊢; exact .inr hx))
      simp only [Lib.join, List.intercalate, List.intersperse, List.flatten_cons, List.length_append, List.length_cons, List.length_nil] at h2 ⊢
      have e : (M + 1) * (l.length + 1 + 1) = (M + 1) * (l.length + 1) + (M + 1) := Nat.mul_succ _ _
      rw [e]
      omega
theorem ok_parts {s : St} (h : okS s = true) : isVb s.vb = true ∧ (s.nm.size = 0 ∨ isNm s.nm = true) ∧ s.ags.length ≤ 64 ∧ ∀ a ∈ s.ags, mayA a = true := by
  simp only [okS, Bool.and_eq_true, Bool.or_eq_true, decide_eq_true_eq, List.all_eq_true] at h
  exact ⟨h.1, h.2.1, h.2.2.1, h.2.2.2⟩
theorem part_size {s : St} (hs : s.Few) : ∀ x ∈ lineL s, x.size ≤ 1000000 := by
  obtain ⟨h1, h2, h3, h4⟩ := ok_parts hs.ok
  have hv : s.vb.size ≤ 16 := by
    simp only [isVb, Bool.and_eq_true, decide_eq_true_eq] at h1
    omega
  intro x hx
  unfold lineL at hx
  rw [List.mem_append] at hx
  rcases hx with hx | hx
  · split at hx
    · simp at hx
      subst hx
      omega
    · rename_i hn
      simp at hx
      rcases hx with rfl | rfl
      · omega
      · have : s.nm.size ≤ 32 := by
          rcases h2 with h2 | h2
          · exact absurd h2 hn
          · simp only [isNm, Bool.and_eq_true, decide_eq_true_eq] at h2
            omega
        have e1 : (⟨#[61]⟩ : ByteArray).size = 1 := rfl
        rw [ByteArray.size_append, e1]
        omega
  · obtain ⟨a, ha, rfl⟩ := List.mem_map.1 hx
    exact agT_size (h4 a ha) (hs.ags a ha)
theorem lineL_len {s : St} (hs : s.Few) : (lineL s).length ≤ 66 := by
  have h := (ok_parts hs.ok).2.2.1
  unfold lineL
  rw [List.length_append, List.length_map]
  split <;> simp <;> omega
theorem lnB_len {s : St} (hs : s.Few) : (Lib.join ((lineL s).map (·.data.toList)) [32]).length ≤ 70000000 := by
  have h1 := join_lenM 1000000 ((lineL s).map (·.data.toList)) (fun x hx => by
    obtain ⟨y, hy, rfl⟩ := List.mem_map.1 hx
    have := part_size hs y hy
    show y.data.toList.length ≤ _
    rw [Array.length_toList]
    exact this)
  have h2 := lineL_len hs
  rw [List.length_map] at h1
  have : (1000000 + 1) * (lineL s).length ≤ (1000000 + 1) * 66 := Nat.mul_le_mul_left _ h2
  omega
theorem line_0 (w : World) (v : Value) (s : St) (hv : Stv w v s) (hs : s.Few) (ht : Tab w) (h0 : s.nm.size = 0) :
    Calls Tryz.prog 34 #[v] w fun e w' => e = .returned (.string (lnB s)) ∧ w.grownBy w' none := by
  obtain ⟨u, rfl, hA⟩ := hv
  obtain ⟨ab, c, rfl, HR⟩ := hA.reads
  obtain ⟨vb, nm, ags⟩ := s
  simp only at HR h0
  obtain rfl := empty_of_size h0
  have HR1 : Hid (∀ w', w.grownBy w' none → ∀ i a, ags[i]? = some a → ∃ B off wv, ab = some ⟨B, off, none⟩ ∧ AgAt w' B (off + i * 12) a wv ∧ Ints w' wv a.wd ∧ ags.length ≤ c) := HR
  have HM : Hid (∀ a ∈ ags, mayA a = true ∧ a.Few) := fun a ha => ⟨(ok_parts hs.ok).2.2.2 a ha, hs.ags a ha⟩
  have HL64 : Hid (ags.length ≤ 64) := (ok_parts hs.ok).2.2.1
  have HJl : Hid ((Lib.join ((lineL ⟨vb, ByteArray.empty, ags⟩).map (·.data.toList)) [32]).length ≤ 70000000) := lnB_len hs
  have HTb : Hid (Tab w) := ht
  have HHd : Hid ([vb] ++ ags.map agT = lineL ⟨vb, ByteArray.empty, ags⟩) := by
    show [vb] ++ ags.map agT = (if ByteArray.empty.size = 0 then [vb] else [vb, ⟨#[61]⟩ ++ ByteArray.empty]) ++ ags.map agT
    rw [if_pos (show ByteArray.empty.size = 0 from rfl)]
  simp only
  obtain ⟨n, hn⟩ : ∃ n, ags.length = n := ⟨_, rfl⟩
  have HLn : Unit → ags.length = n := fun _ => hn
  have hnI : (n : Int) ≤ 64 := by have := HL64.out; omega
  rw [hn] at HL64 ⊢
  simp only [hn] at HR1
  clear hn hA HR hs ht
  have HRow : Hid (∀ w1 : World, RowS (w1.alloc (.cells #[.string vb] 9)) w1.heap.size (.slice (some ⟨w1.heap.size, 0, none⟩) 1 1) [vb]) := fun w1 => World.ownsRow_lit _ _ _ (Nat.le_refl _) (by decide) rfl
  have HRow2 : Hid (RowS ((w.alloc (sObj vb ByteArray.empty (.slice ab n c))).alloc (.cells #[.string vb] 9)) (w.heap.size + 1) (.slice (some ⟨w.heap.size + 1, 0, none⟩) 1 1) [vb]) := by
    show RowS _ _ _ _
    have := HRow.out (w.alloc (sObj vb ByteArray.empty (.slice ab n c)))
    simpa using this
  clear HRow
  go_enter Tryz.func34, Tryz.ntmps34
  go_wp2_with fail
  go_loopw [3, 21] (fun s3 ix wr => ∃ i : Nat, i ≤ n ∧ ix = .int .i64 i ∧ RowS wr (w.heap.size + 1) s3 ([vb] ++ (ags.take i).map agT) ∧ w.grownBy wr none) (fun _ ix _ => match ix with | .int _ i => n - i.toNat | _ => 0)
  case atStart => exact ⟨0, by omega, rfl, HRow2.out, grow2 _ _ _⟩
  case round =>
    obtain ⟨i, hi, rfl, hR, hg⟩ := hrel
    obtain ⟨ao, cp, rfl⟩ := hR.form
    have HG : Hid (w.grownBy wr none) := hg
    obtain ⟨L, hL⟩ : ∃ L, [vb] ++ (ags.take i).map agT = L := ⟨_, rfl⟩
    have HLl : Unit → [vb] ++ (ags.take i).map agT = L := fun _ => hL
    rw [hL] at hR ⊢
    obtain ⟨ln, hln⟩ : ∃ ln, L.length = ln := ⟨_, rfl⟩
    have HLn2 : Unit → L.length = ln := fun _ => hln
    rw [hln] at hR ⊢
    have HRw : Hid (RowS wr (w.heap.size + 1) (.slice ao ln cp) L) := hR
    have hl66 : ln ≤ 66 := by
      rw [← hln, ← hL]
      have h64 := HL64.out
      simp
      omega
    have hsz := hg.size
    clear hR hg hL hln
    by_cases hlt : i < n
    · have hlt' : i < ags.length := by rw [HLn ()]; exact hlt
      obtain ⟨a, hia⟩ : ∃ a, ags[i]? = some a := ⟨_, List.getElem?_eq_getElem hlt'⟩
      obtain ⟨B, off, wv, rfl, hat, hin, hnc⟩ := HR1.out wr HG.out i _ hia
      have hma := HM.out a (List.mem_of_getElem? hia)
      have HNx : Hid ([vb] ++ (ags.take (i + 1)).map agT = L ++ [agT a]) := by
        show _ = _
        rw [← HLl (), List.take_add_one, hia]
        simp
      have HC : Hid (∀ W, wr.grownBy W none → Calls Tryz.prog 58 #[agv a wv] W fun e w' => e = .returned (.string (agT a)) ∧ W.grownBy w' none) := fun W hg => argText_any W a wv (hin.kept hg) hma.1 hma.2 (HTb.out.kept (grownBy_trans HG.out hg))
      generalize agT a = tx at *
      obtain ⟨ab2, c2, rfl⟩ := hin.form
      generalize a.wd.length = n2 at *
      obtain ⟨k0, k1, k2, k3, k4, k5, k6, k7, k8, k9, k10, k11⟩ := hat
      have hltI : (i : Int) < n := by omega
      clear hin hma hlt' hia
      go_wp2_with fail
      refine (HC.out _ (grow1 _ _)).mono ?_
      rintro e w1 ⟨rfl, hg1⟩
      have HG1 : Hid (wr.grownBy w1 none) := grownBy_trans (grow1 _ _) hg1
      have hsz1 := HG1.out.size
      clear hg1 k0 k1 k2 k3 k4 k5 k6 k7 k8 k9 k10 k11
      go_wp2_with (at_builtin; refine wpList_append_str rfl _ _ rfl (w.heap.size + 1) (.slice ao ln cp) L tx rfl ((HRw.out.kept HG1.out).alloc _) (by rw [HLn2 ()]; omega) (by simp; omega) ⟨w1.heap.size, 0, none⟩ rfl (by simp) ?_)
      intro v' w' hR' hg'
      have HR' : Hid (RowS w' (w.heap.size + 1) v' ([vb] ++ (ags.take (i + 1)).map agT)) := by
        show RowS _ _ _ _
        rw [HNx.out]
        exact hR'
      have HG' : Hid (w.grownBy w' none) := RowS.grown2 (grownBy_trans HG.out (grownBy_trans HG1.out (grow1 _ _))) ((HRw.out.kept HG1.out).alloc _) (by omega) hg'
      clear hR' hg'
      go_wp2_with fail
      go_roundw
      case rel => exact ⟨i + 1, by omega, num_eq (by omega), HR'.out, HG'.out⟩
      case measure => simp; omega
    · have e : i = n := by omega
      subst e
      have hfull : L = lineL ⟨vb, ByteArray.empty, ags⟩ := by
        rw [← HLl (), ← HLn (), List.take_length]
        exact HHd.out
      have hrow := HRw.out
      rcases hrow.2 with ⟨e1, e2⟩ | ⟨g, cap, cur, e1, hb, hgc, hlc, _⟩
      · exfalso
        have : L.length = 0 := e2
        rw [← HLl ()] at this
        simp at this
      · have e3 : (Value.slice ao ln cp) = Value.slice (some ⟨g, 0, none⟩) L.length cap := e1
        simp only [Value.slice.injEq] at e3
        obtain ⟨rfl, e4, rfl⟩ := e3
        have hJ := Tryz.strings_Join g 0 cp L ⟨#[32]⟩ wr (fun j x hx => by rw [Nat.zero_add]; exact RowS.cell hrow j x hx) (Array.getElem?_eq_some_iff.1 hgc).1 (by rw [HLn2 ()]; omega) hlc (by
          rw [hfull]
          have := HJl.out
          show (Lib.join _ [32]).length ≤ _
          omega)
        have HE2 : Hid ((⟨(Lib.join (L.map (·.data.toList)) ({ data := #[32] } : ByteArray).data.toList).toArray⟩ : ByteArray) = lnB ⟨vb, ByteArray.empty, ags⟩) := by
          show _ = _
          rw [hfull]
          rfl
        rw [HE2.out, HLn2 ()] at hJ
        clear hrow e1 e4 hgc hlc hfull HE2
        obtain ⟨tx, htx⟩ : ∃ tx, lnB ⟨vb, ByteArray.empty, ags⟩ = tx := ⟨_, rfl⟩
        have HTx : Hid (lnB ⟨vb, ByteArray.empty, ags⟩ = tx) := htx
        rw [htx] at hJ
        clear htx
        go_wp2_with fail
        refine hJ.mono ?_
        rintro e w3 ⟨rfl, hB⟩
        have HG3 : Hid (w.grownBy w3 none) := grownBy_trans HG.out (grownBy_of_below hB)
        clear hB
        go_wp2_with fail
        go_ret
        refine ⟨?_, HG3.out⟩
        rw [HTx.out]
        rfl
theorem line_1 (w : World) (v : Value) (s : St) (hv : Stv w v s) (hs : s.Few) (ht : Tab w) (h0 : ¬ s.nm.size = 0) :
    Calls Tryz.prog 34 #[v] w fun e w' => e = .returned (.string (lnB s)) ∧ w.grownBy w' none := by
  obtain ⟨u, rfl, hA⟩ := hv
  obtain ⟨ab, c, rfl, HR⟩ := hA.reads
  obtain ⟨vb, nm, ags⟩ := s
  simp only at HR h0
  have he := isEmpty_of h0
  have HR1 : Hid (∀ w', w.grownBy w' none → ∀ i a, ags[i]? = some a → ∃ B off wv, ab = some ⟨B, off, none⟩ ∧ AgAt w' B (off + i * 12) a wv ∧ Ints w' wv a.wd ∧ ags.length ≤ c) := HR
  have HM : Hid (∀ a ∈ ags, mayA a = true ∧ a.Few) := fun a ha => ⟨(ok_parts hs.ok).2.2.2 a ha, hs.ags a ha⟩
  have HL64 : Hid (ags.length ≤ 64) := (ok_parts hs.ok).2.2.1
  have HJl : Hid ((Lib.join ((lineL ⟨vb, nm, ags⟩).map (·.data.toList)) [32]).length ≤ 70000000) := lnB_len hs
  have HTb : Hid (Tab w) := ht
  have HHd : Hid ([vb, ⟨#[61]⟩ ++ nm] ++ ags.map agT = lineL ⟨vb, nm, ags⟩) := by
    show [vb, ⟨#[61]⟩ ++ nm] ++ ags.map agT = (if nm.size = 0 then [vb] else [vb, ⟨#[61]⟩ ++ nm]) ++ ags.map agT
    rw [if_neg h0]
  have hnz : nm.size ≤ 32 := by
    rcases (ok_parts hs.ok).2.1 with h | h
    · exact absurd h h0
    · simp only [isNm, Bool.and_eq_true, decide_eq_true_eq] at h
      omega
  have hz1 : ¬ 9223372036854775807 < 1 + nm.size := by omega
  have hz2 : ¬ 9223372036854775807 < (⟨#[61]⟩ : ByteArray).size + nm.size := by
    have : (⟨#[61]⟩ : ByteArray).size = 1 := rfl
    omega
  simp only
  obtain ⟨n, hn⟩ : ∃ n, ags.length = n := ⟨_, rfl⟩
  have HLn : Unit → ags.length = n := fun _ => hn
  have hnI : (n : Int) ≤ 64 := by have := HL64.out; omega
  rw [hn] at HL64 ⊢
  simp only [hn] at HR1
  clear hn hA HR hs ht h0 hnz
  have HRow : Hid (∀ w1 : World, RowS (w1.alloc (.cells #[.string vb] 9)) w1.heap.size (.slice (some ⟨w1.heap.size, 0, none⟩) 1 1) [vb]) := fun w1 => World.ownsRow_lit _ _ _ (Nat.le_refl _) (by decide) rfl
  have HRow2 : Hid (RowS ((w.alloc (sObj vb nm (.slice ab n c))).alloc (.cells #[.string vb] 9)) (w.heap.size + 1) (.slice (some ⟨w.heap.size + 1, 0, none⟩) 1 1) [vb]) := by
    show RowS _ _ _ _
    have := HRow.out (w.alloc (sObj vb nm (.slice ab n c)))
    simpa using this
  clear HRow
  have hb0 : ((w.alloc (sObj vb nm (.slice ab n c))).alloc (.cells #[.string vb] 9)).heap[w.heap.size]? = some (sObj vb nm (.slice ab n c)) := at_alloc1 _ _ _
  have HG2 : Hid (w.grownBy ((w.alloc (sObj vb nm (.slice ab n c))).alloc (.cells #[.string vb] 9)) none) := grow2 _ _ _
  have hsz2 : ((w.alloc (sObj vb nm (.slice ab n c))).alloc (.cells #[.string vb] 9)).heap.size ≥ w.heap.size + 1 := by simp
  go_enter Tryz.func34, Tryz.ntmps34
  generalize h3 : Code.region 3 _ _ = c3
  go_wp2_with fail
  change Code.wp _ _ _ _ ((w.alloc (sObj vb nm (.slice ab n c))).alloc (.cells #[.string vb] 9))
  generalize (w.alloc (sObj vb nm (.slice ab n c))).alloc (.cells #[.string vb] 9) = w2 at *
  have b1 : w2.cell? ⟨w.heap.size, 1, none⟩ = some (.string nm) := by simp [World.cell?, hb0]
  have b2 : w2.cell? ⟨w.heap.size, 2, none⟩ = some (.slice ab n c) := by simp [World.cell?, hb0]
  clear hb0
  subst h3
  go_wp2_with (at_builtin; refine wpList_append_str rfl _ _ rfl (w.heap.size + 1) (.slice (some ⟨w.heap.size + 1, 0, none⟩) 1 1) [vb] (⟨#[61]⟩ ++ nm) rfl (HRow2.out.alloc _) (by simp) (by simp; omega) ⟨w2.heap.size, 0, none⟩ rfl (by simp) ?_)
  intro v0 w0 hR0 hg0
  have HR0 : Hid (RowS w0 (w.heap.size + 1) v0 [vb, ⟨#[61]⟩ ++ nm]) := hR0
  have HG0 : Hid (w.grownBy w0 none) := RowS.grown2 (grownBy_trans HG2.out (grow1 _ _)) (HRow2.out.alloc _) (by omega) hg0
  have hbox : w0.cell? ⟨w.heap.size, 2, none⟩ = some (.slice ab n c) := by
    exact grownBy_cell hg0 (grownBy_cell (grow1 _ _) b2 (by simp)) (by simp [Value.ownBlock])
  clear hR0 hg0 HRow2 b1 b2 hsz2
  go_wp2_with fail
  go_loopw [3, 21] (fun s3 ix wr => ∃ i : Nat, i ≤ n ∧ ix = .int .i64 i ∧ RowS wr (w.heap.size + 1) s3 ([vb, ⟨#[61]⟩ ++ nm] ++ (ags.take i).map agT) ∧ w.grownBy wr none) (fun _ ix _ => match ix with | .int _ i => n - i.toNat | _ => 0)
  case atStart => exact ⟨0, by omega, rfl, HR0.out, HG0.out⟩
  case round =>
    obtain ⟨i, hi, rfl, hR, hg⟩ := hrel
    obtain ⟨ao, cp, rfl⟩ := hR.form
    have HG : Hid (w.grownBy wr none) := hg
    obtain ⟨L, hL⟩ : ∃ L, [vb, ⟨#[61]⟩ ++ nm] ++ (ags.take i).map agT = L := ⟨_, rfl⟩
    have HLl : Unit → [vb, ⟨#[61]⟩ ++ nm] ++ (ags.take i).map agT = L := fun _ => hL
    rw [hL] at hR ⊢
    obtain ⟨ln, hln⟩ : ∃ ln, L.length = ln := ⟨_, rfl⟩
    have HLn2 : Unit → L.length = ln := fun _ => hln
    rw [hln] at hR ⊢
    have HRw : Hid (RowS wr (w.heap.size + 1) (.slice ao ln cp) L) := hR
    have hl66 : ln ≤ 66 := by
      rw [← hln, ← hL]
      have h64 := HL64.out
      simp
      omega
    have hsz := hg.size
    clear hR hg hL hln
    by_cases hlt : i < n
    · have hlt' : i < ags.length := by rw [HLn ()]; exact hlt
      obtain ⟨a, hia⟩ : ∃ a, ags[i]? = some a := ⟨_, List.getElem?_eq_getElem hlt'⟩
      obtain ⟨B, off, wv, rfl, hat, hin, hnc⟩ := HR1.out wr HG.out i _ hia
      have hma := HM.out a (List.mem_of_getElem? hia)
      have HNx : Hid ([vb, ⟨#[61]⟩ ++ nm] ++ (ags.take (i + 1)).map agT = L ++ [agT a]) := by
        show _ = _
        rw [← HLl (), List.take_add_one, hia]
        simp
      have HC : Hid (∀ W, wr.grownBy W none → Calls Tryz.prog 58 #[agv a wv] W fun e w' => e = .returned (.string (agT a)) ∧ W.grownBy w' none) := fun W hg => argText_any W a wv (hin.kept hg) hma.1 hma.2 (HTb.out.kept (grownBy_trans HG.out hg))
      generalize agT a = tx at *
      obtain ⟨ab2, c2, rfl⟩ := hin.form
      generalize a.wd.length = n2 at *
      obtain ⟨k0, k1, k2, k3, k4, k5, k6, k7, k8, k9, k10, k11⟩ := hat
      have hltI : (i : Int) < n := by omega
      clear hin hma hlt' hia
      go_wp2_with fail
      refine (HC.out _ (grow1 _ _)).mono ?_
      rintro e w1 ⟨rfl, hg1⟩
      have HG1 : Hid (wr.grownBy w1 none) := grownBy_trans (grow1 _ _) hg1
      have hsz1 := HG1.out.size
      clear hg1 k0 k1 k2 k3 k4 k5 k6 k7 k8 k9 k10 k11
      go_wp2_with (at_builtin; refine wpList_append_str rfl _ _ rfl (w.heap.size + 1) (.slice ao ln cp) L tx rfl ((HRw.out.kept HG1.out).alloc _) (by rw [HLn2 ()]; omega) (by simp; omega) ⟨w1.heap.size, 0, none⟩ rfl (by simp) ?_)
      intro v' w' hR' hg'
      have HR' : Hid (RowS w' (w.heap.size + 1) v' ([vb, ⟨#[61]⟩ ++ nm] ++ (ags.take (i + 1)).map agT)) := by
        show RowS _ _ _ _
        rw [HNx.out]
        exact hR'
      have HG' : Hid (w.grownBy w' none) := RowS.grown2 (grownBy_trans HG.out (grownBy_trans HG1.out (grow1 _ _))) ((HRw.out.kept HG1.out).alloc _) (by omega) hg'
      clear hR' hg'
      go_wp2_with fail
      go_roundw
      case rel => exact ⟨i + 1, by omega, num_eq (by omega), HR'.out, HG'.out⟩
      case measure => simp; omega
    · have e : i = n := by omega
      subst e
      have hfull : L = lineL ⟨vb, nm, ags⟩ := by
        rw [← HLl (), ← HLn (), List.take_length]
        exact HHd.out
      have hrow := HRw.out
      rcases hrow.2 with ⟨e1, e2⟩ | ⟨g, cap, cur, e1, hb, hgc, hlc, _⟩
      · exfalso
        have : L.length = 0 := e2
        rw [← HLl ()] at this
        simp at this
      · have e3 : (Value.slice ao ln cp) = Value.slice (some ⟨g, 0, none⟩) L.length cap := e1
        simp only [Value.slice.injEq] at e3
        obtain ⟨rfl, e4, rfl⟩ := e3
        have hJ := Tryz.strings_Join g 0 cp L ⟨#[32]⟩ wr (fun j x hx => by rw [Nat.zero_add]; exact RowS.cell hrow j x hx) (Array.getElem?_eq_some_iff.1 hgc).1 (by rw [HLn2 ()]; omega) hlc (by
          rw [hfull]
          have := HJl.out
          show (Lib.join _ [32]).length ≤ _
          omega)
        have HE2 : Hid ((⟨(Lib.join (L.map (·.data.toList)) ({ data := #[32] } : ByteArray).data.toList).toArray⟩ : ByteArray) = lnB ⟨vb, nm, ags⟩) := by
          show _ = _
          rw [hfull]
          rfl
        rw [HE2.out, HLn2 ()] at hJ
        clear hrow e1 e4 hgc hlc hfull HE2
        obtain ⟨tx, htx⟩ : ∃ tx, lnB ⟨vb, nm, ags⟩ = tx := ⟨_, rfl⟩
        have HTx : Hid (lnB ⟨vb, nm, ags⟩ = tx) := htx
        rw [htx] at hJ
        clear htx
        go_wp2_with fail
        refine hJ.mono ?_
        rintro e w3 ⟨rfl, hB⟩
        have HG3 : Hid (w.grownBy w3 none) := grownBy_trans HG.out (grownBy_of_below hB)
        clear hB
        go_wp2_with fail
        go_ret
        refine ⟨?_, HG3.out⟩
        rw [HTx.out]
        rfl
theorem line_any (w : World) (v : Value) (s : St) (hv : Stv w v s) (hs : s.Few) (ht : Tab w) :
    Calls Tryz.prog 34 #[v] w fun e w' => e = .returned (.string (lnB s)) ∧ w.grownBy w' none := by
  by_cases h0 : s.nm.size = 0
  · exact line_0 w v s hv hs ht h0
  · exact line_1 w v s hv hs ht h0
noncomputable def lineB (s : St) : ByteArray := if okS s = true then lnB s else eS
theorem sLine_any (w : World) (v : Value) (s : St) (hv : Stv w v s) (hs : s.Fit) (hf : ∀ a ∈ s.ags, a.Few) (ht : Tab w) :
    Calls Tryz.prog 12 #[v] w fun e w' => e = .returned (.tuple #[.string (lineB s), .int .i64 (chkS s)]) ∧ w.grownBy w' none := by
  have HC : Hid (∀ W, w.grownBy W none → Calls Tryz.prog 15 #[v] W fun e w' => e = .returned (.int .i64 (chkS s)) ∧ W.grownBy w' none) := fun W hg => sCheck_any W v s (hv.kept hg) hs
  have HL : Hid (okS s = true → ∀ W, w.grownBy W none → Calls Tryz.prog 34 #[v] W fun e w' => e = .returned (.string (lnB s)) ∧ W.grownBy w' none) := fun h W hg => line_any W v s (hv.kept hg) ⟨h, hf⟩ (ht.kept hg)
  have HB : Hid (lineB s = if okS s = true then lnB s else eS) := rfl
  have HK : Hid (chkS s = if okS s then 0 else 2) := rfl
  obtain ⟨u, rfl, hA⟩ := hv
  obtain ⟨ab, c, rfl, _⟩ := hA.reads
  generalize s.ags.length = n at *
  generalize s.vb = vb at *
  generalize s.nm = nm at *
  clear hA hs hf ht
  generalize lineB s = lb at *
  generalize lnB s = ln at *
  generalize chkS s = ck at *
  generalize okS s = b at *
  cases b
  · have hck : ck = 2 := HK.out
    have hlb : lb = eS := HB.out
    subst hck hlb
    go_enter Tryz.func12, Tryz.ntmps12
    go_wp2_with fail
    refine (HC.out _ (grow1 _ _)).mono ?_
    rintro e w1 ⟨rfl, hg⟩
    have HG : Hid (w.grownBy w1 none) := grownBy_trans (grow1 _ _) hg
    clear hg
    go_wp2_with fail
    go_ret2
    exact ⟨rfl, HG.out⟩
  · have hck : ck = 0 := HK.out
    have hlb : lb = ln := HB.out
    subst hck hlb
    go_enter Tryz.func12, Tryz.ntmps12
    go_wp2_with fail
    refine (HC.out _ (grow1 _ _)).mono ?_
    rintro e w1 ⟨rfl, hg⟩
    have HG : Hid (w.grownBy w1 none) := grownBy_trans (grow1 _ _) hg
    have hb : w1.heap[w.heap.size]? = some (sObj vb nm (.slice ab n c)) := (hg.block _ (by simp) (by simp)).trans (heap_alloc_new _ _)
    have b0 : w1.cell? ⟨w.heap.size, 0, none⟩ = some (.string vb) := by simp [World.cell?, hb]
    have b1 : w1.cell? ⟨w.heap.size, 1, none⟩ = some (.string nm) := by simp [World.cell?, hb]
    have b2 : w1.cell? ⟨w.heap.size, 2, none⟩ = some (.slice ab n c) := by simp [World.cell?, hb]
    clear hg hb
    go_wp2_with fail
    refine (HL.out trivial _ HG.out).mono ?_
    rintro e w2 ⟨rfl, hg⟩
    have HG2 : Hid (w.grownBy w2 none) := grownBy_trans HG.out hg
    clear hg
    go_wp2_with fail
    go_ret2
    exact ⟨rfl, HG2.out⟩
theorem ba_eq {a b : ByteArray} (h : a.data.toList = b.data.toList) : a = b := ByteArray.ext (Array.toList_inj.1 h)
def eqAs : List Ag → List Ag → Bool
  | [], [] => true
  | x :: l, y :: m => x.eqb y && eqAs l m
  | _, _ => false
theorem eqAs_iff : ∀ {l m : List Ag}, eqAs l m = true ↔ l = m
  | [], [] => by simp [eqAs]
  | [], y :: m => by simp [eqAs]
  | x :: l, [] => by simp [eqAs]
  | x :: l, y :: m => by simp [eqAs, Ag.eqb_iff, eqAs_iff (l := l) (m := m)]
def St.eqb (s t : St) : Bool := decide (s.vb = t.vb) && (decide (s.nm = t.nm) && eqAs s.ags t.ags)
theorem St.eqb_iff {s t : St} : s.eqb t = true ↔ s = t := by
  cases s; cases t
  simp [St.eqb, eqAs_iff]
theorem eqAs_len {l m : List Ag} (h : l.length ≠ m.length) : eqAs l m = false := by
  cases hq : eqAs l m
  · rfl
  · exact absurd (congrArg List.length (eqAs_iff.1 hq)) h
theorem same_pre {l m : List Ag} (hl : l.length = m.length) (h : ∀ j, j < l.length → l[j]? = m[j]?) : l = m := by
  apply List.ext_getElem?
  intro j
  by_cases hj : j < l.length
  · exact h j hj
  · rw [List.getElem?_eq_none (by omega), List.getElem?_eq_none (by omega)]
theorem eqF_any (w : World) (u v : Value) (A B : List Ag) (hA : Args w u A) (hB : Args w v B) (fA : ∀ a ∈ A, a.Fit) (fB : ∀ a ∈ B, a.Fit) (hl : A.length ≤ 1000000000000) (hl2 : B.length ≤ 1000000000000) :
    Calls Tryz.prog 43 #[u, v, .func (.func 44) #[] #[]] w fun e w' => e = .returned (.bool (eqAs A B)) ∧ w.grownBy w' none := by
  obtain ⟨ab, c, rfl, HR⟩ := hA.reads
  obtain ⟨ab', c', rfl, HR'⟩ := hB.reads
  by_cases hab : A.length = B.length
  · have HR1 : Hid (∀ w', w.grownBy w' none → ∀ i a, A[i]? = some a → ∃ B off wv, ab = some ⟨B, off, none⟩ ∧ AgAt w' B (off + i * 12) a wv ∧ Ints w' wv a.wd ∧ A.length ≤ c) := HR
    have HR2 : Hid (∀ w', w.grownBy w' none → ∀ i a, B[i]? = some a → ∃ B' off wv, ab' = some ⟨B', off, none⟩ ∧ AgAt w' B' (off + i * 12) a wv ∧ Ints w' wv a.wd ∧ B.length ≤ c') := HR'
    have HFA : Hid (∀ a ∈ A, a.Fit) := fA
    have HFB : Hid (∀ a ∈ B, a.Fit) := fB
    obtain ⟨n, hn⟩ : ∃ n, A.length = n := ⟨_, rfl⟩
    have HN : Unit → A.length = n ∧ B.length = n := fun _ => ⟨hn, hab ▸ hn⟩
    have hnI : (n : Int) ≤ 1000000000000 := by omega
    rw [hn] at hab ⊢
    rw [← hab]
    simp only [hn] at HR1
    simp only [← hab] at HR2
    clear HR HR' hA hB hl hl2 hn hab fA fB
    go_enter Tryz.func43, Tryz.ntmps43
    go_wp2
    go_loopw [17] (fun s wr => ∃ i : Nat, i ≤ n ∧ s = .int .i64 i ∧ (∀ j, j < i → A[j]? = B[j]?) ∧ w.grownBy wr none) (fun s _ => match s with | .int _ i => n - i.toNat | _ => 0)
    case atStart => exact ⟨0, by omega, rfl, fun j hj => by omega, grow0 _⟩
    case round =>
      obtain ⟨i, hi, rfl, hp, hg⟩ := hrel
      have HP : Hid (∀ j, j < i → A[j]? = B[j]?) := hp
      have HG : Hid (w.grownBy wr none) := hg
      clear hp hg
      by_cases hlt : i < n
      · obtain ⟨x, hx⟩ : ∃ x, A[i]? = some x := ⟨_, List.getElem?_eq_getElem (by rw [(HN ()).1]; exact hlt)⟩
        obtain ⟨y, hy⟩ : ∃ y, B[i]? = some y := ⟨_, List.getElem?_eq_getElem (by rw [(HN ()).2]; exact hlt)⟩
        obtain ⟨B1, off, wv, rfl, hat, hin, hnc⟩ := HR1.out wr HG.out i x hx
        obtain ⟨B2, off2, wv2, rfl, hat2, hin2, hnc2⟩ := HR2.out wr HG.out i y hy
        have hltI : (i : Int) < n := by omega
        have HC : Hid (∀ W, wr.grownBy W none → Calls Tryz.prog 44 #[agv x wv, agv y wv2] W fun e w' => e = .returned (.bool (x.eqb y)) ∧ W.grownBy w' none) := fun W hg => sameArg_any W x y wv wv2 (HFA.out x (List.mem_of_getElem? hx)) (HFB.out y (List.mem_of_getElem? hy)) (hin.kept hg) (hin2.kept hg)
        have HT : Hid (x.eqb y = true → ∀ j, j < i + 1 → A[j]? = B[j]?) := fun h j hj => by
          rcases Nat.lt_or_ge j i with h1 | h1
          · exact HP.out j h1
          · obtain rfl : j = i := by omega
            rw [hx, hy, Ag.eqb_iff.1 h]
        have HX : Hid (x.eqb y = false → eqAs A B = false) := fun h => by
          cases hq : eqAs A B
          · rfl
          · have e := eqAs_iff.1 hq
            rw [e, hy] at hx
            obtain rfl := Option.some.inj hx
            rw [Ag.eqb_iff.2 rfl] at h
            cases h
        generalize x.eqb y = q at *
        obtain ⟨ab2, c2, rfl⟩ := hin.form
        obtain ⟨ab3, c3, rfl⟩ := hin2.form
        generalize x.wd.length = n2 at *
        generalize y.wd.length = n3 at *
        obtain ⟨k0, k1, k2, k3, k4, k5, k6, k7, k8, k9, k10, k11⟩ := hat
        obtain ⟨l0, l1, l2, l3, l4, l5, l6, l7, l8, l9, l10, l11⟩ := hat2.kept (grow1 wr (.cells (agc x (.slice ab2 n2 c2)) 45)) (by simp)
        dsimp only [agc] at l0 l1 l2 l3 l4 l5 l6 l7 l8 l9 l10 l11
        clear hin hin2 hx hy hat2
        cases q
        · go_wp2_with fail
          refine (HC.out _ (grow2 _ _ _)).mono ?_
          rintro e w1 ⟨rfl, hg⟩
          have HG1 : Hid (w.grownBy w1 none) := grownBy_trans HG.out (grownBy_trans (grow2 _ _ _) hg)
          clear hg
          go_wp2_with fail
          go_ret
          exact ⟨ret_bool (HX.out trivial).symm, HG1.out⟩
        · go_wp2_with fail
          refine (HC.out _ (grow2 _ _ _)).mono ?_
          rintro e w1 ⟨rfl, hg⟩
          have HG1 : Hid (w.grownBy w1 none) := grownBy_trans HG.out (grownBy_trans (grow2 _ _ _) hg)
          clear hg
          go_wp2_with fail
          go_roundw
          case rel => exact ⟨i + 1, by omega, num_eq (by omega), HT.out trivial, HG1.out⟩
          case measure => simp; omega
      · have e : i = n := by omega
        subst e
        have HF : Hid (eqAs A B = true) := eqAs_iff.2 (same_pre (by rw [(HN ()).1, (HN ()).2]) (fun j hj => HP.out j (by rw [(HN ()).1] at hj; exact hj)))
        go_wp2
        go_ret
        exact ⟨ret_bool HF.out.symm, HG.out⟩
  · have HN : Unit → eqAs A B = false := fun _ => eqAs_len hab
    obtain ⟨p, hp⟩ : ∃ p, A.length = p := ⟨_, rfl⟩
    obtain ⟨q, hq⟩ : ∃ q, B.length = q := ⟨_, rfl⟩
    rw [hp, hq] at hab ⊢
    have hb : ((p : Int) != (q : Int)) = true := by simpa using (show (p : Int) ≠ q by omega)
    clear HR HR' hA hB hl hl2 hp hq hab fA fB
    go_enter Tryz.func43, Tryz.ntmps43
    go_wp2
    go_ret
    exact ⟨ret_bool (HN ()).symm, grow0 _⟩
end Go.Proofs.YtdcadiaeaclpgaaGreatDoor
