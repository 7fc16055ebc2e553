/-
  The program's (pieces).times: one short word more behind the pieces.
-/
import Derived.Test.YthldipnfaiobaabGreatDoorPcs
namespace Go.Proofs.YthldipnfaiobaabGreatDoor
open Go.RowKit Go.Lib Go.Sort
set_option linter.unusedVariables false
set_option linter.unusedSimpArgs false
set_option maxHeartbeats 3200000
set_option maxRecDepth 1000000
theorem Fr.rest {w : World} {base B off n c : Nat} {L : List Int} (h : Fr w base (.slice (some ⟨B, off, none⟩) n c) L) (i o k c' : Nat) (hi : i ≤ L.length) (hk : k = L.length - i) (hc : c' = c - i) (ho : o = off + i ∨ (k = 0 ∧ o = off)) : Fr w base (.slice (some ⟨B, o, none⟩) k c') (L.drop i) := by
  have hl : (L.drop i).length = k := by simp; omega
  rcases h with ⟨e, _⟩ | ⟨B', off', c2, cur, e, hb, hg, hl2, hm, hs, h⟩
  · cases e
  · cases e
    refine .inr ⟨B, o, c', cur, by rw [hl], hb, hg, by omega, by omega, by omega, fun j hj => ?_⟩
    rw [hl] at hj
    obtain rfl : o = off + i := by omega
    rw [Nat.add_assoc, h (i + j) (by omega), List.getElem?_drop]
theorem Fr.head {w : World} {base B off n c : Nat} {L : List Int} (h : Fr w base (.slice (some ⟨B, off, none⟩) n c) L) (k : Nat) (hk : k ≤ L.length) : Fr w base (.slice (some ⟨B, off, none⟩) k k) (L.take k) := by
  have hc : L.length ≤ c := by
    rcases h with ⟨e, _⟩ | ⟨B', off', c2, cur, e, hb, hg, hl2, _⟩
    · cases e
    · cases e; exact hl2
  have := h.sub 0 k k (by omega) (Nat.le_refl _) (by omega)
  rwa [Nat.add_zero, List.drop_zero] at this
theorem Fr.some {w : World} {base : Nat} {v : Value} {L : List Int} (h : Fr w base v L) (h0 : 0 < L.length) : ∃ B off c, v = .slice (some ⟨B, off, none⟩) L.length c ∧ L.length ≤ c := by
  rcases h with ⟨_, e⟩ | ⟨B, off, c, cur, e, hb, hg, hl, _⟩
  · subst e; simp at h0
  · exact ⟨B, off, c, e, hl⟩
def TmsQ (w : World) (base : Nat) (v : Value) (Ls : List (List Int)) (W : List Int) (e : Ending) (w' : World) : Prop :=
  ∃ v' Ls', e = .returned v' ∧ Pc w' base v' Ls' ∧ Ls'.flatten = sh (Ls.flatten ++ W) ∧ Ls'.length ≤ Ls.length + 1 ∧ (∀ l ∈ Ls', 0 < l.length ∧ l.length ≤ 1000000) ∧ w.grownBy w' v.ownBlock
structure TmsS (w : World) (base : Nat) (v : Value) (Ls : List (List Int)) (W : List Int) (s t : Value) (P : List (List Int)) (U : List Int) (wr : World) : Prop where
  pc : Pc wr base s P
  fr : Fr wr 0 t U
  redP : Red P.flatten
  redU : Red U
  eq : sh (P.flatten ++ U) = sh (Ls.flatten ++ W)
  len : P.length ≤ Ls.length
  each : ∀ l ∈ P, 0 < l.length ∧ l.length ≤ 1000000
  ulen : U.length ≤ 1000000
  noP : ∀ x ∈ P.flatten, noL x = false
  noU : ∀ x ∈ U, noL x = false
  own : s.ownBlock = v.ownBlock
  grown : w.grownBy wr v.ownBlock
theorem TmsS.end0 {w wr w' : World} {base : Nat} {v s t : Value} {Ls P : List (List Int)} {W U : List Int} (h : TmsS w base v Ls W s t P U wr) (hU : U = []) (hg : wr.grownBy w' none) : TmsQ w base v Ls W (.returned s) w' := by
  subst hU
  refine ⟨s, P, rfl, h.pc.kept0 hg, ?_, by have := h.len; omega, h.each, grownBy_trans h.grown (grownBy_any hg)⟩
  have := h.eq
  rwa [List.append_nil, sh_red h.redP] at this
theorem TmsS.cut {w wr : World} {base B off n c : Nat} {v s : Value} {Ls P : List (List Int)} {W U : List Int} (h : TmsS w base v Ls W s (.slice (some ⟨B, off, none⟩) n c) P U wr) : Fr wr 0 (.slice (some ⟨B, off, none⟩) n n) U := by
  have hn : n = U.length := by
    obtain ⟨ab, c', e⟩ := h.fr.form
    cases e
    rfl
  have := h.fr.head n (by omega)
  rwa [List.take_of_length_le (by omega)] at this
theorem TmsS.end1 {w wr w' : World} {base : Nat} {v s t v' : Value} {o : Obj} {Ls P : List (List Int)} {W U : List Int} (h : TmsS w base v Ls W s t P U wr) (hU : P = [] ∨ Red (P.flatten ++ U)) (h0 : 0 < U.length) (hP : Pc w' base v' (P ++ [U])) (hg : (wr.alloc o).grownBy w' s.ownBlock) : TmsQ w base v Ls W (.returned v') w' := by
  have hr : Red (P.flatten ++ U) := by
    rcases hU with rfl | h2
    · exact h.redU
    · exact h2
  refine ⟨v', P ++ [U], rfl, hP, ?_, by have := h.len; simp; omega, fun l hl => ?_, ?_⟩
  · rw [List.flatten_append, ← h.eq, sh_red hr]
    simp
  · rcases List.mem_append.1 hl with hl | hl
    · exact h.each l hl
    · simp at hl
      subst hl
      exact ⟨h0, h.ulen⟩
  · rw [h.own] at hg
    exact grownBy_trans h.grown (grownBy_trans (grownBy_any (grow1 _ _)) hg)
theorem cell_new_set (w : World) (a : Addr) (x u : Value) (t : TypeId) : ((w.setCell a x).alloc (.cells #[u] t)).cell? ⟨w.heap.size, 0, none⟩ = some u := by
  have e : w.heap.size = (w.setCell a x).heap.size := by
    obtain ⟨B, o, s⟩ := a
    simp [World.setCell]
  rw [e]
  exact cell_new rfl
theorem last_split {P : List (List Int)} {p : Nat} (hp : P.length = p + 1) : P = P.take p ++ [P[p]?.getD []] := by
  have := List.take_succ_eq_append_getElem (l := P) (i := p) (by omega)
  rw [← hp, List.take_length] at this
  rw [List.getElem?_eq_getElem (by omega)]
  exact this
theorem last_set {P : List (List Int)} {p : Nat} (hp : P.length = p + 1) (X : List Int) : P.set p X = P.take p ++ [X] := by
  have hl : (P.take p).length = p := by simp; omega
  have e : P.set p X = (P.take p ++ [P[p]?.getD []]).set p X := by rw [← last_split hp]
  rw [e, List.set_append_right p X (by omega), hl, Nat.sub_self]
  rfl
theorem TmsS.kept0 {w wr w' : World} {base : Nat} {v s t : Value} {Ls P : List (List Int)} {W U : List Int} (h : TmsS w base v Ls W s t P U wr) (hg : wr.grownBy w' none) : TmsS w base v Ls W s t P U w' :=
  ⟨h.pc.kept0 hg, h.fr.kept0 hg, h.redP, h.redU, h.eq, h.len, h.each, h.ulen, h.noP, h.noU, h.own, grownBy_trans h.grown (grownBy_any hg)⟩
theorem TmsS.step {w wr : World} {base g n p c cn : Nat} {v t t' : Value} {Ls P : List (List Int)} {W U V : List Int} (h : TmsS w base v Ls W (.slice (some ⟨g, 0, none⟩) n c) t P U wr) (hp : P.length = p + 1) (hV : P[p]?.getD [] = V) (hc : Can V U cn) (hm : V.length ≤ cn) (ht : Fr wr 0 t' (U.drop cn)) : TmsS w base v Ls W (.slice (some ⟨g, 0, none⟩) p c) t' (P.take p) (U.drop cn) wr := by
  have e := last_split hp
  rw [hV] at e
  have ef : P.flatten = (P.take p).flatten ++ V := by
    rw [e]
    simp [hp]
  have hr := h.redP
  rw [ef] at hr
  refine ⟨h.pc.take p (by omega), ht, red_left hr, red_drop h.redU cn, ?_, ?_, fun l hl => h.each l (List.mem_of_mem_take hl), ?_, fun x hx => h.noP x ?_, fun x hx => h.noU x (List.mem_of_mem_drop hx), h.own, h.grown⟩
  · rw [← h.eq, ef]
    exact hc.step hm _
  · have := h.len
    simp
    omega
  · have := h.ulen
    simp
    omega
  · rw [ef]
    exact List.mem_append_left _ hx
theorem TmsS.stop {w wr : World} {base g n p c cn r : Nat} {v t t' x : Value} {Ls P : List (List Int)} {W U V : List Int} (h : TmsS w base v Ls W (.slice (some ⟨g, 0, none⟩) n c) t P U wr) (hp : P.length = p + 1) (hV : P[p]?.getD [] = V) (hc : Can V U cn) (hm : cn < V.length) (hr : V.length - cn = r) (hx : Fr wr 0 x (V.take r)) (ht : Fr wr 0 t' (U.drop cn)) :
    TmsS w base v Ls W (.slice (some ⟨g, 0, none⟩) n c) t' (P.set p (V.take r)) (U.drop cn) (wr.setCell ⟨g, p, none⟩ x) ∧ Red ((P.set p (V.take r)).flatten ++ U.drop cn) := by
  have e := last_split hp
  rw [hV] at e
  have ef : P.flatten = (P.take p).flatten ++ V := by
    rw [e]
    simp [hp]
  have es : (P.set p (V.take r)).flatten = (P.take p).flatten ++ V.take r := by
    rw [last_set hp]
    simp
  have hrd := h.redP
  rw [ef] at hrd
  have hst := hc.stop hm _ hrd h.redU
  rw [hr] at hst
  have hmV : V ∈ P := by
    rw [e]
    simp
  have hrS : Red ((P.set p (V.take r)).flatten ++ U.drop cn) := by
    rw [es, hst]
    exact red_sh _
  have hfar := h.pc.far ht
  have hG : wr.grownBy (wr.setCell ⟨g, p, none⟩ x) (some g) := grownBy_setCell wr g p x
  refine ⟨⟨h.pc.set p x _ hx, ht.kept hG hfar, red_left hrS, red_drop h.redU cn, ?_, by simpa using h.len, fun l hl => ?_, ?_, fun y hy => h.noP y ?_, fun x hx => h.noU x (List.mem_of_mem_drop hx), h.own, ?_⟩, hrS⟩
  · rw [← h.eq, ef, es, hst, sh_sh]
  · rcases List.mem_or_eq_of_mem_set hl with hl | rfl
    · exact h.each l hl
    · have := h.each V hmV
      simp
      omega
  · have := h.ulen
    simp
    omega
  · rw [es] at hy
    rw [ef]
    rcases List.mem_append.1 hy with hy | hy
    · exact List.mem_append_left _ hy
    · exact List.mem_append_right _ (List.mem_of_mem_take hy)
  · have ho := h.own
    rw [← ho]
    have hg := h.grown
    rw [← ho] at hg
    exact grownBy_trans hg hG
theorem ptimes_any (w : World) (base : Nat) (v u : Value) (Ls : List (List Int)) (W : List Int) (h : TmsS w base v Ls W v u Ls W w) (hl : Ls.length ≤ 1000000) (hb : base ≤ w.heap.size) :
    Calls Tryz.prog 41 #[v, u] w fun e w' => TmsQ w base v Ls W e w' := by
  have HS0 : Hid (TmsS w base v Ls W v u Ls W w) := h
  have HB : Hid (base ≤ w.heap.size) := hb
  clear h hb
  go_enter Tryz.func41, Tryz.ntmps41
  go_wp2_with fail
  go_loopw [0, 1] (fun s t wr => ∃ (P : List (List Int)) (U : List Int), TmsS w base v Ls W s t P U wr) (fun s _ _ => match s with | .slice _ n _ => n | _ => 0)
  case atStart => exact ⟨Ls, W, HS0.out⟩
  case round =>
    obtain ⟨P, U, hS⟩ := hrel
    have HS : Hid (TmsS w base v Ls W u0 u1 P U wr) := hS
    have hplen : P.length ≤ 1000000 := Nat.le_trans hS.len hl
    have hulen := hS.ulen
    obtain ⟨ab, c, rfl⟩ := hS.pc.form
    obtain ⟨tb, tc, rfl⟩ := hS.fr.form
    clear hS
    obtain ⟨p, hp⟩ : ∃ p, P.length = p := ⟨_, rfl⟩
    obtain ⟨q, hq⟩ : ∃ q, U.length = q := ⟨_, rfl⟩
    have HN : Unit → P.length = p ∧ U.length = q := fun _ => ⟨hp, hq⟩
    rw [hp] at HS hplen ⊢
    rw [hq] at HS hulen ⊢
    clear hp hq
    have hpI : (p : Int) ≤ 1000000 := by omega
    have hqI : (q : Int) ≤ 1000000 := by omega
    by_cases hp0 : p = 0
    · subst hp0
      by_cases hq0 : q = 0
      · subst hq0
        go_wp2_with fail
        go_ret
        exact HS.out.end0 (List.length_eq_zero_iff.1 (HN ()).2) (grow0 _)
      · obtain ⟨B, off, tc', htb, htc⟩ := HS.out.fr.some (by rw [(HN ()).2]; omega)
        rw [(HN ()).2] at htb htc
        cases htb
        have hqp : (0 : Int) < q := by omega
        go_wp2_with (at_builtin; refine wpList_append_pc rfl _ _ rfl base (.slice ab 0 c) P (.slice (some ⟨B, off, none⟩) q q) U rfl (HS.out.pc.kept0 (grow1 _ _)) (HS.out.cut.kept0 (grow1 _ _)) (by rw [(HN ()).1]; omega) (by have := HB.out; have := HS.out.grown.size; simp; omega) ⟨wr.heap.size, 0, none⟩ rfl (by simp) ?_)
        intro v' w' hP' hg'
        have HQ : Hid (TmsQ w base v Ls W (.returned v') w') := HS.out.end1 (.inl (List.length_eq_zero_iff.1 (HN ()).1)) (by rw [(HN ()).2]; omega) hP' hg'
        clear hP' hg'
        go_wp2_with fail
        go_ret
        exact HQ.out
    · obtain ⟨p', rfl⟩ : ∃ p', p = p' + 1 := ⟨p - 1, by omega⟩
      obtain ⟨g, hab⟩ : ∃ g, ab = some ⟨g, 0, none⟩ := by
        rcases HS.out.pc.cases with ⟨_, e⟩ | ⟨g, c', e, _⟩
        · have := (HN ()).1
          rw [e] at this
          simp at this
        · simp at e
          exact ⟨g, e.1⟩
      subst hab
      clear hp0
      by_cases hq0 : q = 0
      · subst hq0
        go_wp2_with fail
        go_ret
        exact HS.out.end0 (List.length_eq_zero_iff.1 (HN ()).2) (grow0 _)
      · obtain ⟨B, off, tc', htb, htc⟩ := HS.out.fr.some (by rw [(HN ()).2]; omega)
        rw [(HN ()).2] at htb htc
        cases htb
        have hqp : (0 : Int) < q := by omega
        have hpI2 : (p' : Int) ≤ 1000000 := by omega
        have hpc : p' + 1 ≤ c := by
          rcases HS.out.pc.cases with ⟨e, _⟩ | ⟨g', c', e, _, _, hc, _⟩
          · cases e
          · simp at e
            rw [(HN ()).1] at hc
            omega
        obtain ⟨x, hx, hxf⟩ := HS.out.pc.get p' (by rw [(HN ()).1]; omega)
        have hmem : P[p']?.getD [] ∈ P := by
          rw [List.getElem?_eq_getElem (by rw [(HN ()).1]; omega)]
          exact List.getElem_mem _
        have hVb := HS.out.each _ hmem
        have hVn : ∀ y ∈ P[p']?.getD [], noL y = false := fun y hy => HS.out.noP y (List.mem_flatten.2 ⟨P[p']?.getD [], hmem, hy⟩)
        clear hmem
        obtain ⟨V, hV⟩ : ∃ V, P[p']?.getD [] = V := ⟨_, rfl⟩
        have HV : Unit → P[p']?.getD [] = V := fun _ => hV
        rw [hV] at hxf hVb hVn
        clear hV
        obtain ⟨B2, off2, uc, rfl, huc⟩ := hxf.some hVb.1
        have HCN : Hid (Calls Tryz.prog 59 #[.slice (some ⟨B2, off2, none⟩) V.length uc, .slice (some ⟨B, off, none⟩) q tc] wr fun e w' => ∃ c : Nat, e = .returned (.int .i64 (c : Int)) ∧ Can V U c ∧ wr.grownBy w' none) := cancelling_any wr _ _ V U hxf.ints HS.out.fr.ints hVb.2 HS.out.ulen hVn HS.out.noU
        have HX : Hid (Fr wr 0 (.slice (some ⟨B2, off2, none⟩) V.length uc) V) := hxf
        obtain ⟨m, hm⟩ : ∃ m, V.length = m := ⟨_, rfl⟩
        have HM : Unit → V.length = m := fun _ => hm
        rw [hm] at HX HCN hx hVb huc
        clear hm hxf hVn
        obtain ⟨hm0, hm1⟩ := hVb
        have hmI : (m : Int) ≤ 1000000 := by omega
        clear hplen hulen hpI
        go_wp2_with (go_at_call 59; refine HCN.out.mono ?_; rintro e w2 ⟨cn, rfl, hCan, hg2⟩)
        have hle := hCan.le
        rw [HM (), (HN ()).2] at hle
        obtain ⟨hle1, hle2⟩ := hle
        have HC : Hid (Can V U cn) := hCan
        have HS2 : Hid (TmsS w base v Ls W (.slice (some ⟨g, 0, none⟩) (p' + 1) c) (.slice (some ⟨B, off, none⟩) q tc) P U w2) := HS.out.kept0 hg2
        have HX2 : Hid (Fr w2 0 (.slice (some ⟨B2, off2, none⟩) m uc) V) := HX.out.kept0 hg2
        clear hCan hg2 hx
        obtain ⟨r, hr⟩ : ∃ r, m - cn = r := ⟨_, rfl⟩
        have HR : Unit → m - cn = r := fun _ => hr
        have hw : IntKind.i64.wrap ((m : Int) - cn) = (r : Int) := by
          rw [IntKind.wrap_i64]
          omega
        have hrm : r ≤ m := by omega
        have hrmI : (r : Int) ≤ m := by omega
        have hruI : (r : Int) ≤ uc := by omega
        have hru : r ≤ uc := by omega
        clear hr
        have hle1I : (cn : Int) ≤ m := by omega
        have hle2I : (cn : Int) ≤ q := by omega
        obtain ⟨o, hif, ho⟩ : ∃ o, (if tc = cn then (some ⟨B, off, none⟩ : Option Addr) else some ⟨B, off + cn, none⟩) = some ⟨B, o, none⟩ ∧ (o = off + cn ∨ (tc = cn ∧ o = off)) := by
          by_cases e : tc = cn
          · exact ⟨off, by rw [if_pos e], .inr ⟨e, rfl⟩⟩
          · exact ⟨off + cn, by rw [if_neg e], .inl rfl⟩
        obtain ⟨q2, hq2⟩ : ∃ q2, q - cn = q2 := ⟨_, rfl⟩
        obtain ⟨tc2, htc2⟩ : ∃ tc2, tc - cn = tc2 := ⟨_, rfl⟩
        have HT : Hid (Fr w2.drew 0 (.slice (some ⟨B, o, none⟩) q2 tc2) (U.drop cn)) := HS2.out.fr.kept0 (grow_drew (grow0 _)) |>.rest cn o q2 tc2 (by rw [(HN ()).2]; omega) (by rw [(HN ()).2]; omega) (by omega) (by omega)
        have HS3 : Hid (TmsS w base v Ls W (.slice (some ⟨g, 0, none⟩) (p' + 1) c) (.slice (some ⟨B, off, none⟩) q tc) P U w2.drew) := HS2.out.kept0 (grow_drew (grow0 _))
        have hq2I : (q2 : Int) ≤ 1000000 := by omega
        have hq2t : q2 ≤ tc2 := by omega
        have HQ2 : Unit → q - cn = q2 := fun _ => hq2
        by_cases hr0 : r = 0
        · subst hr0
          have HS4 : Hid (TmsS w base v Ls W (.slice (some ⟨g, 0, none⟩) p' c) (.slice (some ⟨B, o, none⟩) q2 tc2) (P.take p') (U.drop cn) w2.drew) := HS3.out.step (HN ()).1 (HV ()) HC.out (by rw [HM ()]; have := HR (); omega) HT.out
          go_wp2_with fail
          go_region_held3 (fun _ => True) (trivial) (fail)
          clear hif hq2 htc2 ho
          go_wp2_with fail
          go_roundw
          case rel => exact ⟨_, _, HS4.out⟩
          case measure => simp
        · have hr0I : (0 : Int) < r := by omega
          have HX3 : Hid (Fr w2.drew 0 (.slice (some ⟨B2, off2, none⟩) r r) (V.take r)) := (HX2.out.kept0 (grow_drew (grow0 _))).head r (by rw [HM ()]; exact hrm)
          have HS4 : Hid (TmsS w base v Ls W (.slice (some ⟨g, 0, none⟩) (p' + 1) c) (.slice (some ⟨B, o, none⟩) q2 tc2) (P.set p' (V.take r)) (U.drop cn) (w2.drew.setCell ⟨g, p', none⟩ (.slice (some ⟨B2, off2, none⟩) r r)) ∧ Red ((P.set p' (V.take r)).flatten ++ U.drop cn)) := HS3.out.stop (HN ()).1 (HV ()) HC.out (by rw [HM ()]; have := HR (); omega) (by rw [HM ()]; exact HR ()) HX3.out HT.out
          have hfz : w2.frozen? ⟨g, p', none⟩ = false := by
            rcases HS2.out.pc.cases with ⟨e, _⟩ | ⟨g', c', e, _, _, _, hf⟩
            · cases e
            · simp at e
              rw [e.1]
              exact hf p'
          obtain ⟨y, hy, _⟩ := HS2.out.pc.get p' (by rw [(HN ()).1]; omega)
          by_cases hq0' : q2 = 0
          · subst hq0'
            go_wp2_with fail
            go_region_held3 (fun _ => True) (trivial) (fail)
            clear hif hq2 htc2 ho
            go_wp2_with fail
            go_ret
            exact HS4.out.1.end0 (List.length_eq_zero_iff.1 (by rw [List.length_drop, (HN ()).2]; exact HQ2 ())) (grow0 _)
          · have hq2p : (0 : Int) < q2 := by omega
            go_wp2_with fail
            go_region_held3 (fun _ => True) (trivial) (fail)
            clear hif hq2 htc2 ho
            go_wp2_with (at_builtin; refine wpList_append_pc rfl _ _ rfl base (.slice (some ⟨g, 0, none⟩) (p' + 1) c) (P.set p' (V.take r)) (.slice (some ⟨B, o, none⟩) q2 q2) (U.drop cn) rfl (HS4.out.1.pc.kept0 (grow1 _ _)) (HS4.out.1.cut.kept0 (grow1 _ _)) (by rw [List.length_set, (HN ()).1]; omega) (by have := HB.out; have := HS4.out.1.grown.size; simp at this ⊢; omega) ⟨_, 0, none⟩ rfl (by simp; exact cell_new_set _ _ _ _ _) ?_)
            intro v' w' hP' hg'
            have HQ : Hid (TmsQ w base v Ls W (.returned v') w') := HS4.out.1.end1 (.inr HS4.out.2) (by rw [List.length_drop, (HN ()).2, HQ2 ()]; omega) hP' hg'
            clear hP' hg'
            go_wp2_with fail
            go_ret
            exact HQ.out
end Go.Proofs.YthldipnfaiobaabGreatDoor
