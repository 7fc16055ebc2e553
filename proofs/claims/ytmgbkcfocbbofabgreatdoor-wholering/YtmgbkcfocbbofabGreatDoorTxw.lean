/-
  The program's Text.
-/
import Derived.Test.YtmgbkcfocbbofabGreatDoorTxg
import Derived.Test.YtmgbkcfocbbofabGreatDoorBld
import Derived.Test.YtmgbkcfocbbofabGreatDoorBunTim

namespace Go.Proofs.YtmgbkcfocbbofabGreatDoor
open Go.RowKit Go.Lib Go.Sort

theorem bl_of_lt' {z k : Nat} (h : z < 256 ^ k) : bl z ≤ 8 * k := by
  refine bl_le ?_
  rw [Nat.pow_mul]
  exact h
/-- The text of the number z. -/
def TextOf (z : Int) (s : ByteArray) : Prop := isText s ∧ textZ s = z
theorem below_grown {wq w5 w6 : World} (h : wq.grownBy w5 none) (b : Below wq.heap.size w5 w6) : wq.grownBy w6 none :=
  ⟨b.os.trans h.os, b.tape.trans h.tape, b.output.trans h.output, Nat.le_trans h.size b.size, fun i hi hn => (b.block i hi).trans (h.block i hi hn)⟩
theorem cells_str (l : List UInt8) (s : ByteArray) : Lib.byteCells l ++ Lib.strCells s = Lib.byteCells (l ++ s.data.toList) := by simp [Lib.byteCells, Lib.strCells]
/-- The text of a group has at most nine digits. -/
theorem dgs_size {x : Nat} {s : ByteArray} (h : Dgs x s) (hx : x < B9) : s.size ≤ 9 := by
  obtain ⟨⟨hd, h0, hh⟩, hv⟩ := h
  rcases hh with h1 | h1
  · omega
  · rcases Nat.lt_or_ge 9 s.size with hlt | hge
    · exfalso
      have hlen := bN_length s
      cases hb : bN s with
      | nil => rw [hb] at hlen; simp at hlen; omega
      | cons a l =>
        rw [hb] at hv hlen h1 hd
        have ha := hd a (by simp)
        simp at h1 hlen
        rw [dec_cons] at hv
        have h9 : 10 ^ 9 ≤ 10 ^ l.length := Nat.pow_le_pow_right (by decide) (by omega)
        have : 1 * 10 ^ l.length ≤ (a - 48) * 10 ^ l.length := Nat.mul_le_mul_right _ (by unfold isDig at ha; omega)
        have e9 : 10 ^ 9 = B9 := by decide
        omega
    · exact hge
/-- What Text's builder bears: a sign, and the digits of the groups from k on. -/
def TbI (neg : Bool) (G : List Nat) (k : Nat) (l : List UInt8) : Prop :=
  ∃ D, l.map UInt8.toNat = (if neg then [45] else []) ++ D ∧ (∀ b ∈ D, isDig b) ∧ D ≠ [] ∧ D.head?.getD 0 ≠ 48 ∧ dec D = nv B9 (G.drop k) ∧ D.length ≤ 9 * (G.length - k)
theorem TbI.first {neg : Bool} {H : List Nat} {g : Nat} {s : ByteArray} (hg : 0 < g) (hg9 : g < B9) (h : Dgs g s) : TbI neg (H ++ [g]) H.length ((if neg then [45] else []) ++ s.data.toList) := by
  have hs := dgs_size h hg9
  obtain ⟨⟨hd, h0, hh⟩, hv⟩ := h
  have hlen := bN_length s
  refine ⟨bN s, ?_, hd, ?_, ?_, ?_, ?_⟩
  · cases neg <;> simp [bN]
  · intro e; rw [e] at hlen; simp at hlen; omega
  · rcases hh with h1 | h1
    · cases hb : bN s with
      | nil => rw [hb] at hlen; simp at hlen; omega
      | cons a l =>
        rw [hb] at hlen hv
        have : l = [] := List.length_eq_zero_iff.1 (by simp at hlen; omega)
        subst this
        intro e
        simp at e
        rw [e] at hv
        simp [dec] at hv
        omega
    · exact h1
  · rw [hv, List.drop_left]; simp [nv]
  · rw [hlen]; simp; omega
theorem dec_noughts (m : Nat) : dec (List.replicate m 48) = 0 := by
  induction m with
  | zero => rfl
  | succ m ih => rw [List.replicate_succ, dec_cons, ih]; simp
theorem TbI.next {neg : Bool} {G : List Nat} {k : Nat} {l : List UInt8} {s z : ByteArray} (hI : TbI neg G (k + 1) l) (hk : k < G.length) (hx : G[k]?.getD 0 < B9) (h : Dgs (G[k]?.getD 0) s) (hz : bN z = List.replicate (9 - s.size) 48) : TbI neg G k (l ++ z.data.toList ++ s.data.toList) := by
  have hs := dgs_size h hx
  obtain ⟨⟨hd, h0, hh⟩, hv⟩ := h
  have hlen := bN_length s
  obtain ⟨D, hl, dD, nD, hD, vD, lD⟩ := hI
  refine ⟨D ++ (bN z ++ bN s), ?_, ?_, by simp [nD], ?_, ?_, ?_⟩
  · simp only [List.map_append, hl]
    simp [bN]
  · intro b hb
    rcases List.mem_append.1 hb with h | h
    · exact dD b h
    · rcases List.mem_append.1 h with h | h
      · rw [hz] at h
        rw [List.eq_of_mem_replicate h]
        unfold isDig
        omega
      · exact hd b h
  · cases D with
    | nil => exact absurd rfl nD
    | cons a D => simpa using hD
  · rw [dec_append, dec_append, hz, dec_noughts, Nat.zero_mul, Nat.zero_add, hv, List.length_append, List.length_replicate, hlen, show 9 - s.size + s.size = 9 by omega, vD]
    have e : nv B9 (G.drop k) = G[k]?.getD 0 + B9 * nv B9 (G.drop (k + 1)) := by
      rw [List.drop_eq_getElem_cons hk, nv, List.getElem?_eq_getElem hk]
      rfl
    rw [e, show (10 : Nat) ^ 9 = B9 by decide, Nat.mul_comm, Nat.add_comm]
  · rw [List.length_append, List.length_append, hz, List.length_replicate, hlen]
    omega
theorem text_digits {neg : Bool} {mag s : ByteArray} {D : List Nat} (hb : bN s = (if neg then [45] else []) ++ D) (dD : ∀ b ∈ D, isDig b) (nD : D ≠ []) (hD : D.head?.getD 0 ≠ 48) (vD : dec D = val (bN mag)) : TextOf (num neg mag) s := by
  have hDl : 0 < D.length := by cases D with
    | nil => exact absurd rfl nD
    | cons a D => simp
  cases neg
  · simp only [Bool.false_eq_true, if_false, List.nil_append] at hb
    have hh : ¬ (bN s).head? = some 45 := by
      rw [hb]
      cases D with
      | nil => exact absurd rfl nD
      | cons a D =>
        intro e
        simp at e
        have := dD a (by simp)
        unfold isDig at this
        omega
    have hbare : bare s = s := by unfold bare; rw [if_neg hh]
    have hsz : s.size = D.length := by rw [← bN_length, hb]
    refine ⟨⟨?_, ?_⟩, ?_⟩
    · rw [hbare]
      exact ⟨by rw [hb]; exact dD, by omega, .inr (by rw [hb]; exact hD)⟩
    · rw [hb]
      intro e
      rw [e] at dD
      have := dD 45 (by simp)
      unfold isDig at this
      omega
    · unfold textZ
      rw [if_neg hh, hbare, hb, vD]
      rfl
  · simp only [if_true, List.singleton_append] at hb
    have hh : (bN s).head? = some 45 := by rw [hb]; rfl
    have hbr : bN (bare s) = D := by rw [bN_bare hh, hb]; rfl
    have hsz : (bare s).size = D.length := by rw [← bN_length, hbr]
    refine ⟨⟨⟨by rw [hbr]; exact dD, by omega, .inr (by rw [hbr]; exact hD)⟩, ?_⟩, ?_⟩
    · rw [hb]
      intro e
      injection e with _ e
      rw [e] at hD
      exact hD rfl
    · unfold textZ
      rw [if_pos hh, hbr, vD]
      rfl
theorem TbI.last {neg : Bool} {mag : ByteArray} {G : List Nat} {l : List UInt8} (hI : TbI neg G 0 l) (hn : nv B9 G = val (bN mag)) : TextOf (num neg mag) ⟨l.toArray⟩ := by
  obtain ⟨D, hl, dD, nD, hD, vD, lD⟩ := hI
  rw [List.drop_zero, hn] at vD
  exact text_digits (by rw [← hl]; simp [bN]) dD nD hD vD

set_option maxHeartbeats 3200000 in
set_option maxRecDepth 1000000 in
theorem text_pos (neg : Bool) (mag : ByteArray) (h : may neg mag = true) (h0 : mag.size ≠ 0) (w : World) (htab : Lib.TabIs Tryz.prog w "internal/strconv.uint64pow10" .u64 Lib.pow10Tab) :
    Calls Tryz.prog 9 #[whole neg mag] w fun e w' => ∃ s, e = .returned (.tuple #[.string s, .int .i64 0]) ∧ TextOf (num neg mag) s ∧ w.grownBy w' none := by
  obtain ⟨gp, hgp⟩ := pow10_g
  have HT : Hid (∀ w', w.grownBy w' none → Lib.TabIs Tryz.prog w' "internal/strconv.uint64pow10" .u64 Lib.pow10Tab) := fun w' hg => tab_kept hgp htab hg
  have hms := may_size h
  have hmx : mag.size ≤ maxLen := by unfold maxLen; omega
  have HC : Hid (∀ w, Calls Tryz.prog 7 #[whole neg mag] w fun e w' => e = .returned (.int .i64 0) ∧ w' = w.alloc (wObj neg mag)) := fun w => by
    have := check_any neg mag hmx w
    rw [chk_yes h] at this
    exact this
  have he := isEmpty_of h0
  have hml : ¬ mag.toList = [] := by rw [← List.isEmpty_iff, he]; simp
  clear htab hgp
  go_enter Tryz.func9, Tryz.ntmps9
  go_wp2_with (go_at_call 7; refine (HC.out _).mono ?_; rintro e w' ⟨rfl, rfl⟩)
  go_region_held3 (fun w' => w'.cell? ⟨w.heap.size, 0, none⟩ = some (Value.bool neg) ∧ w'.cell? ⟨w.heap.size, 1, none⟩ = some (Value.string mag)) (first | (go_keep; done) | fail) (first | (go_at_call 29; refine (zero_any _).mono ?_; rintro e w' ⟨rfl, rfl⟩) | fail)
  go_wp2_with fail
  refine (digitsOf_any mag hms _).mono ?_
  rintro e w1 ⟨B, L0, rfl, hB, hBk, g1, lL, rL, vL⟩
  have HI0 : Hid (TgI (w.alloc (wObj neg mag)) w1 (val (bN mag)) (.slice none 0 0) (.slice (some ⟨B, 0, none⟩) L0.length L0.length)) := (by
    have hv0 := val_zero h h0
    have g1' := grownBy_undrew g1
    refine ⟨[], L0, Row.nil _ _, hBk.row (by simp at hB ⊢; omega) (by unfold maxLen; omega), .inl rfl, by simp, rL, trim_digits h lL rL vL, by omega, ?_, by rw [vL]; simp [nv], fun e => absurd (vL.symm.trans e) hv0, grownBy_trans (grow2 _ _ _) g1'⟩
    rw [vL, List.length_nil, Nat.zero_add]
    have hlt := val_lt (bN mag) (bN_rng mag)
    rw [bN_length] at hlt
    have := bl_of_lt' hlt
    omega)
  generalize hn : val (bN mag) = n at HI0
  have HN : Unit → val (bN mag) = n := fun _ => hn
  have hn0 : Unit → n ≠ 0 := fun _ => by rw [← hn]; exact val_zero h h0
  clear hB hBk g1 lL rL vL hn he hml
  go_wp2_with fail
  go_loopw [4, 5] (fun s d wr => (∃ a m c, s = .slice a m c) ∧ (∃ a m c, d = .slice a m c) ∧ TgI (w.alloc (wObj neg mag)) wr n s d) (fun s _ _ => 131073 - (match s with | .slice _ m _ => m | _ => 0))
  case atStart => exact ⟨⟨_, _, _, rfl⟩, ⟨_, _, _, rfl⟩, HI0.out⟩
  case round =>
    obtain ⟨⟨sa, sm, sc, rfl⟩, ⟨da, dm, dc, rfl⟩, hI⟩ := hrel
    have HI : Hid (TgI (w.alloc (wObj neg mag)) wr n (.slice sa sm sc) (.slice da dm dc)) := hI
    obtain ⟨G, L, hG, hL, hp, rG, rL, tL, lL, hbl, hn, htop, hg⟩ := hI
    have hdm : dm = L.length := by
      obtain ⟨_, _, e⟩ := hL.d4.slice
      exact (Value.slice.inj e).2.1
    have hsm : sm = G.length := by
      obtain ⟨_, _, e⟩ := hG.d4.slice
      exact (Value.slice.inj e).2.1
    by_cases hd0 : dm = 0
    · subst hd0
      obtain ⟨H, g, rfl, hg0⟩ := htop ((trim_zero tL).2 hdm.symm)
      have hnn : nv B9 (H ++ [g]) = n := by rw [← hn, (trim_zero tL).2 hdm.symm, Nat.mul_zero, Nat.add_zero]
      have hsl : sm = H.length + 1 := by rw [hsm]; simp
      have HNN : Unit → nv B9 (H ++ [g]) = val (bN mag) := fun _ => hnn.trans (HN ()).symm
      obtain ⟨gb, rfl, hgc⟩ : ∃ gb, sa = some ⟨gb, 0, none⟩ ∧ sm ≤ sc := by
        rcases hG.cases with ⟨_, e⟩ | ⟨gb, c, e, _, hc⟩
        · simp at e
        · obtain ⟨rfl, e2, rfl⟩ := Value.slice.inj e
          exact ⟨gb, rfl, by omega⟩
      have HCG : Hid (∀ w', wr.grownBy w' none → ∀ k, k < H.length + 1 → w'.cell? ⟨gb, k, none⟩ = some (.int .u32 (((H ++ [g])[k]?.getD 0 : Nat) : Int))) := fun w' hgw k hk => grownBy_cell hgw (Row.cell (by rw [hsm] at hG; exact hG) k (by simp; omega)) (by simp)
      have HRG : Hid (∀ k : Nat, (H ++ [g])[k]?.getD 0 < B9) := (by
        intro k
        cases hk : (H ++ [g])[k]? with
        | none => decide
        | some x => exact rG x (List.mem_iff_getElem?.2 ⟨k, hk⟩))
      have hA : WBlk wr w.heap.size (.bool neg) (.string mag) := WBlk.kept (heap_alloc_new _ _) hg (by simp)
      have HGW : Hid (w.grownBy wr none) := grownBy_trans (grow1 _ _) hg
      have hwr : w.heap.size < wr.heap.size := hA.lt
      have hHl : H.length ≤ 131071 := by have := hbl; simp at this; omega
      have hHI : (H.length : Int) ≤ 131071 := by omega
      have hlast : (H ++ [g])[H.length]?.getD 0 = g := by simp
      clear hG hL hp rG rL tL lL hbl hn htop hg hdm hsm hnn HN hn0 HI HI0
      subst hsl
      generalize wr = wq at *
      have hcA := (hA.kept (grow1 wq (.cells #[.pointer none, .slice none 0 0] 60)) (by simp)).c0
      have hf : Lib.IsBuilder 60 5 wq.heap.size wq.heap.size (Lib.byteCells []) (wq.alloc (.cells #[.pointer none, .slice none 0 0] 60)) := Lib.fresh_isBuilder 60 5 wq
      cases neg
      · skip
        have HB4 : Hid (Lib.IsBuilder 60 5 wq.heap.size wq.heap.size (Lib.byteCells ([] : List UInt8)) (wq.alloc (.cells #[.pointer none, .slice none 0 0] 60))) := hf
        have HGB4 : Hid (wq.grownBy (wq.alloc (.cells #[.pointer none, .slice none 0 0] 60)) none) := grow1 _ _
        have hc4 := HCG.out _ HGB4.out H.length (by omega)
        rw [hlast] at hc4
        have HGT : Hid (∀ x w', x < B9 → wq.grownBy w' none → Calls Tryz.prog 35 #[.int .u32 (x : Int)] w' fun e w'' => ∃ s, e = .returned (.string s) ∧ Dgs x s ∧ w'.grownBy w'' none) := fun x w' hx hgw => groupText_any x (by unfold B9 at hx; omega) w' (HT.out _ (grownBy_trans HGW.out hgw))
        have hg9 : g < B9 := by have := HRG.out H.length; rwa [hlast] at this
        clear hf hA
        go_wp2_with fail
        refine (HGT.out g _ hg9 HGB4.out).mono ?_
        rintro e w5 ⟨s5, rfl, hs5, hg5⟩
        have HT5 : Hid (TbI false (H ++ [g]) H.length (([] : List UInt8) ++ s5.data.toList)) := TbI.first (neg := false) hg0 hg9 hs5
        have hsz5 := dgs_size hs5 hg9
        have HB5 : Hid (Lib.IsBuilder 60 5 wq.heap.size wq.heap.size (Lib.byteCells ([] : List UInt8)) w5) := (by
          rcases HB4.out with h | h
          · exact .inl (builder_kept h hg5)
          · exact .inr (builder_kept h hg5))
        have HGB5 : Hid (wq.grownBy w5 none) := grownBy_trans HGB4.out hg5
        clear hs5 hg5 HB4 HGB4 hc4
        go_wp2_with fail
        refine (Tryz.Builder_WriteString wq.heap.size wq.heap.size _ s5 _ HB5.out (by rw [Lib.byteCells_length]; simp; omega) HGB5.out.size).mono ?_
        rintro e w6 ⟨rfl, hb6, hlw6⟩
        rw [cells_str] at hb6
        have HB6 : Hid (Lib.IsBuilder 60 5 wq.heap.size wq.heap.size (Lib.byteCells (([] : List UInt8) ++ s5.data.toList)) w6) := .inr hb6
        have HGB6 : Hid (wq.grownBy w6 none) := below_grown HGB5.out hlw6
        clear hb6 hlw6 HB5 HGB5
        go_wp2_with fail
        go_loopw [7] (fun t wz => ∃ (k : Nat) (l : List UInt8), t = .int .i64 k ∧ k ≤ H.length ∧ TbI false (H ++ [g]) k l ∧ Lib.IsBuilder 60 5 wq.heap.size wq.heap.size (Lib.byteCells l) wz ∧ wq.grownBy wz none) (fun t _ => (RowKit.intOf t).toNat)
        case atStart => exact ⟨H.length, _, rfl, Nat.le_refl _, HT5.out, HB6.out, HGB6.out⟩
        case round =>
          obtain ⟨k, l, rfl, hk, hTb, hBb, hGb⟩ := hrel
          have HTb : Hid (TbI false (H ++ [g]) k l) := hTb
          have HBb : Hid (Lib.IsBuilder 60 5 wq.heap.size wq.heap.size (Lib.byteCells l) wr) := hBb
          have HGb : Hid (wq.grownBy wr none) := hGb
          have hll : l.length ≤ 2000000 := by
            obtain ⟨D, hl, _, _, _, _, lD⟩ := hTb
            have := congrArg List.length hl
            simp at this lD
            omega
          clear hTb hBb hGb
          by_cases hk0 : k = 0
          · subst hk0
            have hl0 : l ≠ [] := by
              obtain ⟨D, hl, _, nD, _⟩ := HTb.out
              intro e
              subst e
              have hlen := congrArg List.length hl
              rw [List.length_map, List.length_nil, List.length_append] at hlen
              exact nD (List.length_eq_zero_iff.1 (by omega))
            have HFT : Hid (TextOf (num false mag) ⟨l.toArray⟩) := HTb.out.last (HNN ())
            go_wp2_with fail
            refine (Tryz.Builder_String wq.heap.size wq.heap.size l _ HBb.out hl0).mono ?_
            rintro e w7 ⟨rfl, hlw7⟩
            have HG7 : Hid (w.grownBy w7 none) := grownBy_trans HGW.out (below_grown HGb.out hlw7)
            clear hlw7 HBb HGb
            go_wp2_with fail
            go_ret2
            exact ⟨_, rfl, HFT.out, HG7.out⟩
          · obtain ⟨q, rfl⟩ : ∃ q, k = q + 1 := ⟨k - 1, by omega⟩
            have hcq := HCG.out _ HGb.out q (by omega)
            have hx9 := HRG.out q
            obtain ⟨x, hx⟩ : ∃ x, (H ++ [g])[q]?.getD 0 = x := ⟨_, rfl⟩
            have HX : Unit → (H ++ [g])[q]?.getD 0 = x := fun _ => hx
            rw [hx] at hcq hx9
            have hqI : (q : Int) ≤ 131071 := by omega
            clear hx
            go_wp2_with fail
            refine (HGT.out x _ hx9 HGb.out).mono ?_
            rintro e w8 ⟨s8, rfl, hs8, hg8⟩
            have hsz8 := dgs_size hs8 hx9
            have hsI : (s8.size : Int) ≤ 9 := by omega
            have hs1 : 1 ≤ s8.size := by have := hs8.1.2.1; omega
            have h9s : (9 : Int) - s8.size = ((9 - s8.size : Nat) : Int) := by omega
            have HD8 : Hid (Dgs x s8) := hs8
            have HB8 : Hid (Lib.IsBuilder 60 5 wq.heap.size wq.heap.size (Lib.byteCells l) w8) := (by
              rcases HBb.out with h | h
              · exact .inl (builder_kept h hg8)
              · exact .inr (builder_kept h hg8))
            have HGB8 : Hid (wq.grownBy w8 none) := grownBy_trans HGb.out hg8
            clear hs8 hg8 HBb HGb hcq
            go_wp2_with fail
            refine (repeat_nought (9 - s8.size) (by omega) _).mono ?_
            rintro e w9 ⟨z9, rfl, hz9, hg9'⟩
            have hzl : z9.size = 9 - s8.size := by rw [← bN_length, hz9, List.length_replicate]
            have HB9 : Hid (Lib.IsBuilder 60 5 wq.heap.size wq.heap.size (Lib.byteCells l) w9) := (by
              rcases HB8.out with h | h
              · exact .inl (builder_kept h hg9')
              · exact .inr (builder_kept h hg9'))
            have HGB9 : Hid (wq.grownBy w9 none) := grownBy_trans HGB8.out hg9'
            have HN9 : Hid (TbI false (H ++ [g]) q (l ++ z9.data.toList ++ s8.data.toList)) := HTb.out.next (by simp; omega) (by rw [HX ()]; exact hx9) (by rw [HX ()]; exact HD8.out) hz9
            clear hz9 hg9' HB8 HGB8
            go_wp2_with fail
            refine (Tryz.Builder_WriteString wq.heap.size wq.heap.size _ z9 _ HB9.out (by rw [Lib.byteCells_length]; omega) HGB9.out.size).mono ?_
            rintro e w10 ⟨rfl, hb10, hlw10⟩
            rw [cells_str] at hb10
            have HB10 : Hid (Lib.IsBuilder 60 5 wq.heap.size wq.heap.size (Lib.byteCells (l ++ z9.data.toList)) w10) := .inr hb10
            have HGB10 : Hid (wq.grownBy w10 none) := below_grown HGB9.out hlw10
            have hzl2 : z9.data.toList.length = z9.size := by rw [Array.length_toList]; rfl
            clear hb10 hlw10 HB9 HGB9
            go_wp2_with fail
            refine (Tryz.Builder_WriteString wq.heap.size wq.heap.size _ s8 _ HB10.out (by rw [Lib.byteCells_length, List.length_append]; omega) HGB10.out.size).mono ?_
            rintro e w11 ⟨rfl, hb11, hlw11⟩
            rw [cells_str] at hb11
            have HB11 : Hid (Lib.IsBuilder 60 5 wq.heap.size wq.heap.size (Lib.byteCells (l ++ z9.data.toList ++ s8.data.toList)) w11) := .inr hb11
            have HGB11 : Hid (wq.grownBy w11 none) := below_grown HGB10.out hlw11
            clear hb11 hlw11 HB10 HGB10
            go_wp2_with fail
            go_roundw
            case rel => exact ⟨q, _, rfl, by omega, HN9.out, HB11.out, HGB11.out⟩
            case measure => simp [RowKit.intOf]
      · skip
        go_wp2_with fail
        refine (Tryz.Builder_WriteByte wq.heap.size wq.heap.size [] 45 _ hf (by decide) (by simp)).mono ?_
        rintro e w4 ⟨rfl, hb4, hlw4⟩
        have HB4 : Hid (Lib.IsBuilder 60 5 wq.heap.size wq.heap.size (Lib.byteCells ([45] : List UInt8)) w4) := .inr hb4
        have HGB4 : Hid (wq.grownBy w4 none) := below_grown (grow1 _ _) hlw4
        have hc4 := HCG.out _ HGB4.out H.length (by omega)
        rw [hlast] at hc4
        have HGT : Hid (∀ x w', x < B9 → wq.grownBy w' none → Calls Tryz.prog 35 #[.int .u32 (x : Int)] w' fun e w'' => ∃ s, e = .returned (.string s) ∧ Dgs x s ∧ w'.grownBy w'' none) := fun x w' hx hgw => groupText_any x (by unfold B9 at hx; omega) w' (HT.out _ (grownBy_trans HGW.out hgw))
        have hg9 : g < B9 := by have := HRG.out H.length; rwa [hlast] at this
        clear hf hA
        go_wp2_with fail
        refine (HGT.out g _ hg9 HGB4.out).mono ?_
        rintro e w5 ⟨s5, rfl, hs5, hg5⟩
        have HT5 : Hid (TbI true (H ++ [g]) H.length (([45] : List UInt8) ++ s5.data.toList)) := TbI.first (neg := true) hg0 hg9 hs5
        have hsz5 := dgs_size hs5 hg9
        have HB5 : Hid (Lib.IsBuilder 60 5 wq.heap.size wq.heap.size (Lib.byteCells ([45] : List UInt8)) w5) := (by
          rcases HB4.out with h | h
          · exact .inl (builder_kept h hg5)
          · exact .inr (builder_kept h hg5))
        have HGB5 : Hid (wq.grownBy w5 none) := grownBy_trans HGB4.out hg5
        clear hs5 hg5 HB4 HGB4 hc4
        go_wp2_with fail
        refine (Tryz.Builder_WriteString wq.heap.size wq.heap.size _ s5 _ HB5.out (by rw [Lib.byteCells_length]; simp; omega) HGB5.out.size).mono ?_
        rintro e w6 ⟨rfl, hb6, hlw6⟩
        rw [cells_str] at hb6
        have HB6 : Hid (Lib.IsBuilder 60 5 wq.heap.size wq.heap.size (Lib.byteCells (([45] : List UInt8) ++ s5.data.toList)) w6) := .inr hb6
        have HGB6 : Hid (wq.grownBy w6 none) := below_grown HGB5.out hlw6
        clear hb6 hlw6 HB5 HGB5
        go_wp2_with fail
        go_loopw [7] (fun t wz => ∃ (k : Nat) (l : List UInt8), t = .int .i64 k ∧ k ≤ H.length ∧ TbI true (H ++ [g]) k l ∧ Lib.IsBuilder 60 5 wq.heap.size wq.heap.size (Lib.byteCells l) wz ∧ wq.grownBy wz none) (fun t _ => (RowKit.intOf t).toNat)
        case atStart => exact ⟨H.length, _, rfl, Nat.le_refl _, HT5.out, HB6.out, HGB6.out⟩
        case round =>
          obtain ⟨k, l, rfl, hk, hTb, hBb, hGb⟩ := hrel
          have HTb : Hid (TbI true (H ++ [g]) k l) := hTb
          have HBb : Hid (Lib.IsBuilder 60 5 wq.heap.size wq.heap.size (Lib.byteCells l) wr) := hBb
          have HGb : Hid (wq.grownBy wr none) := hGb
          have hll : l.length ≤ 2000000 := by
            obtain ⟨D, hl, _, _, _, _, lD⟩ := hTb
            have := congrArg List.length hl
            simp at this lD
            omega
          clear hTb hBb hGb
          by_cases hk0 : k = 0
          · subst hk0
            have hl0 : l ≠ [] := by
              obtain ⟨D, hl, _, nD, _⟩ := HTb.out
              intro e
              subst e
              have hlen := congrArg List.length hl
              rw [List.length_map, List.length_nil, List.length_append] at hlen
              exact nD (List.length_eq_zero_iff.1 (by omega))
            have HFT : Hid (TextOf (num true mag) ⟨l.toArray⟩) := HTb.out.last (HNN ())
            go_wp2_with fail
            refine (Tryz.Builder_String wq.heap.size wq.heap.size l _ HBb.out hl0).mono ?_
            rintro e w7 ⟨rfl, hlw7⟩
            have HG7 : Hid (w.grownBy w7 none) := grownBy_trans HGW.out (below_grown HGb.out hlw7)
            clear hlw7 HBb HGb
            go_wp2_with fail
            go_ret2
            exact ⟨_, rfl, HFT.out, HG7.out⟩
          · obtain ⟨q, rfl⟩ : ∃ q, k = q + 1 := ⟨k - 1, by omega⟩
            have hcq := HCG.out _ HGb.out q (by omega)
            have hx9 := HRG.out q
            obtain ⟨x, hx⟩ : ∃ x, (H ++ [g])[q]?.getD 0 = x := ⟨_, rfl⟩
            have HX : Unit → (H ++ [g])[q]?.getD 0 = x := fun _ => hx
            rw [hx] at hcq hx9
            have hqI : (q : Int) ≤ 131071 := by omega
            clear hx
            go_wp2_with fail
            refine (HGT.out x _ hx9 HGb.out).mono ?_
            rintro e w8 ⟨s8, rfl, hs8, hg8⟩
            have hsz8 := dgs_size hs8 hx9
            have hsI : (s8.size : Int) ≤ 9 := by omega
            have hs1 : 1 ≤ s8.size := by have := hs8.1.2.1; omega
            have h9s : (9 : Int) - s8.size = ((9 - s8.size : Nat) : Int) := by omega
            have HD8 : Hid (Dgs x s8) := hs8
            have HB8 : Hid (Lib.IsBuilder 60 5 wq.heap.size wq.heap.size (Lib.byteCells l) w8) := (by
              rcases HBb.out with h | h
              · exact .inl (builder_kept h hg8)
              · exact .inr (builder_kept h hg8))
            have HGB8 : Hid (wq.grownBy w8 none) := grownBy_trans HGb.out hg8
            clear hs8 hg8 HBb HGb hcq
            go_wp2_with fail
            refine (repeat_nought (9 - s8.size) (by omega) _).mono ?_
            rintro e w9 ⟨z9, rfl, hz9, hg9'⟩
            have hzl : z9.size = 9 - s8.size := by rw [← bN_length, hz9, List.length_replicate]
            have HB9 : Hid (Lib.IsBuilder 60 5 wq.heap.size wq.heap.size (Lib.byteCells l) w9) := (by
              rcases HB8.out with h | h
              · exact .inl (builder_kept h hg9')
              · exact .inr (builder_kept h hg9'))
            have HGB9 : Hid (wq.grownBy w9 none) := grownBy_trans HGB8.out hg9'
            have HN9 : Hid (TbI true (H ++ [g]) q (l ++ z9.data.toList ++ s8.data.toList)) := HTb.out.next (by simp; omega) (by rw [HX ()]; exact hx9) (by rw [HX ()]; exact HD8.out) hz9
            clear hz9 hg9' HB8 HGB8
            go_wp2_with fail
            refine (Tryz.Builder_WriteString wq.heap.size wq.heap.size _ z9 _ HB9.out (by rw [Lib.byteCells_length]; omega) HGB9.out.size).mono ?_
            rintro e w10 ⟨rfl, hb10, hlw10⟩
            rw [cells_str] at hb10
            have HB10 : Hid (Lib.IsBuilder 60 5 wq.heap.size wq.heap.size (Lib.byteCells (l ++ z9.data.toList)) w10) := .inr hb10
            have HGB10 : Hid (wq.grownBy w10 none) := below_grown HGB9.out hlw10
            have hzl2 : z9.data.toList.length = z9.size := by rw [Array.length_toList]; rfl
            clear hb10 hlw10 HB9 HGB9
            go_wp2_with fail
            refine (Tryz.Builder_WriteString wq.heap.size wq.heap.size _ s8 _ HB10.out (by rw [Lib.byteCells_length, List.length_append]; omega) HGB10.out.size).mono ?_
            rintro e w11 ⟨rfl, hb11, hlw11⟩
            rw [cells_str] at hb11
            have HB11 : Hid (Lib.IsBuilder 60 5 wq.heap.size wq.heap.size (Lib.byteCells (l ++ z9.data.toList ++ s8.data.toList)) w11) := .inr hb11
            have HGB11 : Hid (wq.grownBy w11 none) := below_grown HGB10.out hlw11
            clear hb11 hlw11 HB10 HGB10
            go_wp2_with fail
            go_roundw
            case rel => exact ⟨q, _, rfl, by omega, HN9.out, HB11.out, HGB11.out⟩
            case measure => simp [RowKit.intOf]
    · have hL0 : 0 < nv B32 L := by
        rcases Nat.eq_zero_or_pos (nv B32 L) with e | e
        · exact absurd ((trim_zero tL).1 e) (by omega)
        · exact e
      have HCB : Hid (Calls Tryz.prog 32 #[.slice da dm dc, .int .u32 1000000000] wr fun e w' => ∃ K, e = .returned (.int .u32 ((nv B32 L % B9 : Nat) : Int)) ∧ K.length = L.length ∧ (∀ x ∈ K, x < B32) ∧ nv B32 K = nv B32 L / B9 ∧ Row w' (w.alloc (wObj neg mag)).heap.size (.slice da dm dc) K ∧ wr.grownBy w' (Value.slice da dm dc).ownBlock) := cutBy_row wr _ B9 _ L hL rL (by decide) (by decide) (by omega)
      have hdmI : (dm : Int) ≤ 4096 := by omega
      have hdI0 : (0 : Int) < dm := by omega
      have hsI : (sm : Int) ≤ 131072 := by omega
      have HALL : Hid (Row wr (w.alloc (wObj neg mag)).heap.size (.slice sa sm sc) G ∧ Row wr (w.alloc (wObj neg mag)).heap.size (.slice da dm dc) L ∧ Apt (.slice sa sm sc) (.slice da dm dc) ∧ (∀ x ∈ G, x < B9) ∧ L.length ≤ 4096 ∧ G.length + bl (nv B32 L) ≤ 131072 ∧ nv B9 G + B9 ^ G.length * nv B32 L = n ∧ (w.alloc (wObj neg mag)).grownBy wr none ∧ 0 < nv B32 L) := ⟨hG, hL, hp, rG, lL, hbl, hn, hg, hL0⟩
      have hblg := bl_group hL0
      have hsm2 : sm + 1 ≤ 131072 := by omega
      have HDM : Unit → dm = L.length := fun _ => hdm
      have HSM : Unit → sm = G.length := fun _ => hsm
      clear hG hL hp rG rL tL lL hbl hn htop hg hL0 hblg hdm hsm hd0
      go_wp2_with fail
      refine HCB.out.mono ?_
      rintro e w2 ⟨K, rfl, lK, rK, vK, hK, g2⟩
      obtain ⟨r, hr⟩ : ∃ r, nv B32 L % B9 = r := ⟨_, rfl⟩
      rw [hr]
      have HR1 : Hid (Row (w2.alloc (.cells #[.int .u32 (r : Int)] 55)) (w.alloc (wObj neg mag)).heap.size (.slice sa sm sc) G) := (by
        have h2 := HALL.out.1.kept g2 (by rcases HALL.out.2.2.1 with h | h; exact .inl h; exact .inr h)
        exact h2.kept (grow1 _ _) (by cases (Value.slice sa sm sc).ownBlock <;> simp))
      have hsz2 : (w.alloc (wObj neg mag)).heap.size ≤ w2.heap.size := Nat.le_trans HALL.out.2.2.2.2.2.2.2.1.size g2.size
      have HK : Hid (K.length = L.length ∧ (∀ x ∈ K, x < B32) ∧ nv B32 K = nv B32 L / B9 ∧ Row w2 (w.alloc (wObj neg mag)).heap.size (.slice da dm dc) K ∧ wr.grownBy w2 (Value.slice da dm dc).ownBlock) := ⟨lK, rK, vK, hK, g2⟩
      clear lK rK vK hK g2 HCB
      go_wp2_with (at_builtin; refine wpList_append_digit rfl _ _ rfl (w.alloc (wObj neg mag)).heap.size (.slice sa sm sc) G r rfl HR1.out (by have := HSM (); omega) (Nat.le_trans hsz2 (by simp)) ⟨w2.heap.size, 0, none⟩ rfl (by simp) ?_)
      intro v' w3 hR' hg' ho'
      rw [show w.heap.size + 1 = (w.alloc (wObj neg mag)).heap.size by simp] at hR'
      have HS : Hid (Row w3 (w.alloc (wObj neg mag)).heap.size v' (G ++ [r]) ∧ (w2.alloc (.cells #[.int .u32 (r : Int)] 55)).grownBy w3 (Value.slice sa sm sc).ownBlock ∧ (v'.ownBlock = (Value.slice sa sm sc).ownBlock ∨ v'.ownBlock = some (w2.heap.size + 1))) := ⟨hR', hg', ho'⟩
      obtain ⟨va, vc, hv'⟩ := hR'.d4.slice
      rw [List.length_append, List.length_singleton, ← HSM ()] at hv'
      subst hv'
      have hKd : Row w3 (w.alloc (wObj neg mag)).heap.size (.slice da dm dc) K := (by
        have k1 := HK.out.2.2.2.1.kept (grow1 w2 (.cells #[.int .u32 (r : Int)] 55)) (by cases (Value.slice da dm dc).ownBlock <;> simp)
        exact k1.kept hg' (by rcases HALL.out.2.2.1.swap with h | h; exact .inl h; exact .inr h))
      have HTR : Hid (Calls Tryz.prog 31 #[.slice da dm dc] w3 fun e w' => ∃ v' k, e = .returned v' ∧ k ≤ K.length ∧ Row w3 (w.alloc (wObj neg mag)).heap.size v' (K.take k) ∧ nv B32 (K.take k) = nv B32 K ∧ Trim (K.take k) ∧ v'.ownBlock = (Value.slice da dm dc).ownBlock ∧ w' = w3) := trim_row w3 _ _ K hKd (by have := HK.out.1; have := HDM (); omega)
      clear hR' hg' ho' hKd HR1
      go_wp2_with fail
      refine HTR.out.mono ?_
      rintro e w4 ⟨d', k, rfl, hk, hRk, vk, tk, od, hw4⟩
      subst hw4
      have HF : Hid (TgI (w.alloc (wObj neg mag)) w4 n (.slice va (sm + 1) vc) d') := (by
        obtain ⟨a1, a2, a3, a4, a5, a6, a7, a8, a9⟩ := HALL.out
        obtain ⟨b1, b2, b3, b4, b5⟩ := HK.out
        obtain ⟨c1, c2, c3⟩ := HS.out
        subst hr
        exact TgI.step a1 a2 a3 a4 a5 a6 a7 a8 a9 b2 b1 b3 b5 c1 c2 c3 hRk vk tk od hk)
      obtain ⟨da', dc', hd'⟩ := hRk.d4.slice
      have hTL : TgI (w.alloc (wObj neg mag)) w4 n (.slice va (sm + 1) vc) d' := HF.out
      generalize (K.take k).length = dm' at hd'
      subst hd'
      clear hRk vk tk od HTR HS HK HALL hTL
      go_wp2_with fail
      go_roundw
      case rel => exact ⟨⟨_, _, _, rfl⟩, ⟨_, _, _, rfl⟩, HF.out⟩
      case measure => simp; omega

theorem text_nought : TextOf (num false eS) ⟨#[48]⟩ := by
  refine ⟨?_, ?_⟩
  · decide
  · decide
set_option maxHeartbeats 1600000 in
set_option maxRecDepth 1000000 in
theorem text_zero (w : World) :
    Calls Tryz.prog 9 #[whole false eS] w fun e w' => ∃ s, e = .returned (.tuple #[.string s, .int .i64 0]) ∧ TextOf (num false eS) s ∧ w.grownBy w' none := by
  have HC : Hid (∀ w, Calls Tryz.prog 7 #[whole false eS] w fun e w' => e = .returned (.int .i64 0) ∧ w' = w.alloc (wObj false eS)) := fun w => check_any false eS (by decide) w
  have HF : Hid (TextOf (num false eS) ⟨#[48]⟩) := text_nought
  go_enter Tryz.func9, Tryz.ntmps9
  go_wp2_with (go_at_call 7; refine (HC.out _).mono ?_; rintro e w' ⟨rfl, rfl⟩)
  go_region_held3 (fun w' => w'.cell? ⟨w.heap.size, 0, none⟩ = some (Value.bool false) ∧ w'.cell? ⟨w.heap.size, 1, none⟩ = some (Value.string eS)) (first | (go_keep; done) | fail) (first | (go_at_call 29; refine (zero_any _).mono ?_; rintro e w' ⟨rfl, rfl⟩) | fail)
  go_wp2_with fail
  go_ret2
  exact ⟨_, rfl, HF.out, grow_drew (grow3 _ _ _ _)⟩
theorem text_yes (neg : Bool) (mag : ByteArray) (h : may neg mag = true) (w : World) (htab : Lib.TabIs Tryz.prog w "internal/strconv.uint64pow10" .u64 Lib.pow10Tab) :
    Calls Tryz.prog 9 #[whole neg mag] w fun e w' => ∃ s, e = .returned (.tuple #[.string s, .int .i64 0]) ∧ TextOf (num neg mag) s ∧ w.grownBy w' none := by
  by_cases h0 : mag.size = 0
  · obtain rfl := empty_of_size h0
    obtain rfl := may_empty h
    exact text_zero w
  · exact text_pos neg mag h h0 w htab
set_option maxHeartbeats 1600000 in
set_option maxRecDepth 1000000 in
theorem text_no (neg : Bool) (mag : ByteArray) (hm : mag.size ≤ maxLen) (h : may neg mag = false) (w : World) :
    Calls Tryz.prog 9 #[whole neg mag] w fun e w' => e = .returned (.tuple #[.string eS, .int .i64 2]) ∧ w.grownBy w' none := by
  have HC : Hid (∀ w, Calls Tryz.prog 7 #[whole neg mag] w fun e w' => e = .returned (.int .i64 2) ∧ w' = w.alloc (wObj neg mag)) := fun w => by
    have := check_any neg mag hm w
    rw [chk_no h] at this
    exact this
  go_enter Tryz.func9, Tryz.ntmps9
  go_wp2_with (go_at_call 7; refine (HC.out _).mono ?_; rintro e w' ⟨rfl, rfl⟩)
  go_ret2
  exact ⟨rfl, grow2 _ _ _⟩

/-- One text: the number tells its text. -/
theorem dec_low {D : List Nat} (hd : ∀ b ∈ D, isDig b) (h0 : D ≠ []) (hh : D.head?.getD 0 ≠ 48) : 10 ^ (D.length - 1) ≤ dec D := by
  cases D with
  | nil => exact absurd rfl h0
  | cons a D =>
    have ha := hd a (by simp)
    unfold isDig at ha
    simp at hh
    rw [dec_cons, List.length_cons, Nat.add_sub_cancel]
    have : 1 * 10 ^ D.length ≤ (a - 48) * 10 ^ D.length := Nat.mul_le_mul_right _ (by omega)
    omega
theorem dec_same : ∀ (A B : List Nat), A.length = B.length → (∀ b ∈ A, isDig b) → (∀ b ∈ B, isDig b) → dec A = dec B → A = B
  | [], [], _, _, _, _ => rfl
  | [], _ :: _, h, _, _, _ => by simp at h
  | _ :: _, [], h, _, _, _ => by simp at h
  | a :: A, b :: B, h, hA, hB, e => by
    have hl : A.length = B.length := by simpa using h
    have ha := hA a (by simp)
    have hb := hB b (by simp)
    have l1 := dec_lt A (fun x hx => hA x (List.mem_cons_of_mem _ hx))
    have l2 := dec_lt B (fun x hx => hB x (List.mem_cons_of_mem _ hx))
    rw [dec_cons, dec_cons, hl] at e
    rw [hl] at l1
    unfold isDig at ha hb
    have h1 : a - 48 = b - 48 := by
      have e1 : ((a - 48) * 10 ^ B.length + dec A) / 10 ^ B.length = ((b - 48) * 10 ^ B.length + dec B) / 10 ^ B.length := by rw [e]
      rw [Nat.mul_comm (a - 48), Nat.mul_comm (b - 48), Nat.mul_add_div (Nat.pow_pos (by decide)), Nat.mul_add_div (Nat.pow_pos (by decide)), Nat.div_eq_of_lt l1, Nat.div_eq_of_lt l2] at e1
      omega
    rw [h1] at e
    have h2 : dec A = dec B := by omega
    rw [dec_same A B hl (fun x hx => hA x (List.mem_cons_of_mem _ hx)) (fun x hx => hB x (List.mem_cons_of_mem _ hx)) h2]
    congr 1
    omega
theorem plain_one {s t : ByteArray} (hs : plain s) (ht : plain t) (e : dec (bN s) = dec (bN t)) : s = t := by
  have ls := bN_length s
  have lt := bN_length t
  have key : ∀ {s t : ByteArray}, plain s → plain t → dec (bN s) = dec (bN t) → ¬ (bN s).length < (bN t).length := by
    intro s t hs ht e hlt
    have ls := bN_length s
    have lt := bN_length t
    have h1 := dec_lt (bN s) hs.1
    have h0 := hs.2.1
    have h2 := dec_low ht.1 (by intro e; rw [e] at hlt; simp at hlt) (by rcases ht.2.2 with h | h; omega; exact h)
    have : 10 ^ (bN s).length ≤ 10 ^ ((bN t).length - 1) := Nat.pow_le_pow_right (by decide) (by omega)
    omega
  have hl : (bN s).length = (bN t).length := by
    have := key hs ht e
    have := key ht hs e.symm
    omega
  exact bN_inj (dec_same _ _ hl hs.1 ht.1 e)
theorem TextOf.one {z : Int} {s t : ByteArray} (hs : TextOf z s) (ht : TextOf z t) : s = t := by
  obtain ⟨⟨ps, ns⟩, es⟩ := hs
  obtain ⟨⟨pt, nt⟩, et⟩ := ht
  have he := es.trans et.symm
  unfold textZ at he
  have nz : ∀ {s : ByteArray}, plain (bare s) → bN s ≠ [45, 48] → (bN s).head? = some 45 → dec (bN (bare s)) ≠ 0 := by
    intro s ps ns hh e
    apply ns
    have hb := bN_bare hh
    have hz : bare s = ⟨#[48]⟩ := plain_one ps (by decide) (by rw [e]; decide)
    rw [hz] at hb
    cases hc : bN s with
    | nil => rw [hc] at hh; simp at hh
    | cons a l =>
      rw [hc] at hb hh
      have hb' : bN ⟨#[48]⟩ = l := hb
      have hh' : a = 45 := by simpa using hh
      rw [hh', ← hb']
      rfl
  by_cases h1 : (bN s).head? = some 45 <;> by_cases h2 : (bN t).head? = some 45
  · rw [if_pos h1, if_pos h2] at he
    have hb : bare s = bare t := plain_one ps pt (by omega)
    have b1 := bN_bare h1
    have b2 := bN_bare h2
    rw [hb] at b1
    apply bN_inj
    cases hs : bN s with
    | nil => rw [hs] at h1; simp at h1
    | cons a l =>
      cases ht : bN t with
      | nil => rw [ht] at h2; simp at h2
      | cons c m =>
        rw [hs] at h1 b1
        rw [ht] at h2 b2
        simp at h1 h2 b1 b2
        rw [h1, h2, ← b1, ← b2]
  · rw [if_pos h1, if_neg h2] at he
    have := nz ps ns h1
    omega
  · rw [if_neg h1, if_pos h2] at he
    have := nz pt nt h2
    omega
  · rw [if_neg h1, if_neg h2] at he
    have b1 : bare s = s := by unfold bare; rw [if_neg h1]
    have b2 : bare t = t := by unfold bare; rw [if_neg h2]
    rw [b1, b2] at he
    rw [b1] at ps
    rw [b2] at pt
    exact plain_one ps pt (by omega)
end Go.Proofs.YtmgbkcfocbbofabGreatDoor
