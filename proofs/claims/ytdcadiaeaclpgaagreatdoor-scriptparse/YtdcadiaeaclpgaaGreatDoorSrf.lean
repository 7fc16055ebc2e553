/- The program's numeral: the number with which a text begins. -/
import Derived.Test.YtdcadiaeaclpgaaGreatDoorBunSra
namespace Go.Proofs.YtdcadiaeaclpgaaGreatDoor
open Go Go.RowKit Go.Lib Go.Sort
set_option linter.unusedVariables false
set_option linter.unusedSimpArgs false
set_option maxHeartbeats 6400000
set_option maxRecDepth 1000000
@[go_sem] theorem viaJ_goto (J:Nat→Act→World→Prop) (Q:Exit→Act→World→Prop) (l:Nat) (a:Act) (w:World):viaJ J Q (.goto l) a w=J l a w:=rfl
@[go_sem] theorem viaJ_ret (J:Nat→Act→World→Prop) (Q:Exit→Act→World→Prop) (a:Act) (w:World):viaJ J Q .ret a w=Q .ret a w:=rfl
@[go_sem] theorem viaJ_normal (J:Nat→Act→World→Prop) (Q:Exit→Act→World→Prop) (a:Act) (w:World):viaJ J Q .normal a w=Q .normal a w:=rfl
@[go_sem] theorem viaJ_panic (J:Nat→Act→World→Prop) (Q:Exit→Act→World→Prop) (ch:List PanicEntry) (a:Act) (w:World):viaJ J Q (.panic ch) a w=Q (.panic ch) a w:=rfl
def runD (s:ByteArray) (i:Nat):Nat:=i+(((bN s).drop i).takeWhile fun b=>decide (48≤b∧b≤57)).length
theorem UX {s:ByteArray} {i:Nat} (h:nxt s i 48 57=true):runD s i=runD s (i+1):=by
 unfold nxt at h
 split at h
 ·rename_i b hb
  unfold runD
  have hl:i<(bN s).length:=(List.getElem?_eq_some_iff.1 hb).1
  have e:(bN s).drop i=b::(bN s).drop (i+1):=by
   rw [List.drop_eq_getElem_cons hl]
   congr 1
   exact(List.getElem?_eq_some_iff.1 hb).2
  rw [e,List.takeWhile_cons,if_pos (by simpa using h)]
  simp
  omega
 ·cases h
theorem Zat {s:ByteArray} {i:Nat} (h:nxt s i 48 57=false):runD s i=i:=by
 unfold runD
 unfold nxt at h
 split at h
 ·rename_i b hb
  have hl:i<(bN s).length:=(List.getElem?_eq_some_iff.1 hb).1
  have e:(bN s).drop i=b::(bN s).drop (i+1):=by
   rw [List.drop_eq_getElem_cons hl]
   congr 1
   exact(List.getElem?_eq_some_iff.1 hb).2
  rw [e,List.takeWhile_cons,if_neg (by simpa using h)]
  simp
 ·rename_i hb
  rw [List.drop_eq_nil_of_le (by simpa using hb)]
  simp
def stT (s:ByteArray) (i:Nat):Option Nat:=if nxt s i 49 57 then some (runD s (i+1))else none
def finD (s:ByteArray) (j:Nat) (d:Bool):Option Nat:=if nxt s j 47 47 && !d then stT s (j+1)else some j
def stD (s:ByteArray) (i:Nat) (d:Bool):Option Nat:=if nxt s i 49 57 then finD s (runD s (i+1)) d else none
theorem ZbY (s:ByteArray) (i:Nat):stT s i=stD s i true:=by
 unfold stT stD finD
 simp
def numE (s:ByteArray):Option Nat:=if nxt s 0 45 45 then stD s 1 false else if nxt s 0 48 48 then some 1 else stD s 0 false
def NW (w:World) (s:ByteArray) (wx:World) (i:Nat):Prop:=wx.heap[w.heap.size]?=some (.cells #[.string s] 9)∧wx.heap[w.heap.size+1]?=some (.cells #[.int .i64 i] 3)∧w.grownBy wx none
theorem NW.put {w wx:World} {s:ByteArray} {i:Nat} (h:NW w s wx i) (j:Nat):NW w s (wx.setCell ⟨w.heap.size+1,0,none⟩ (.int .i64 j)) j:=by
 obtain⟨h1,h2,h3⟩:=h
 refine⟨?_,?_,Zb h3 (by omega)⟩
 ·simp [World.setCell,Array.getElem?_modify,h1]
 ·simp [World.setCell,Array.getElem?_modify,h2]
theorem NW.p {w wx:World} {s:ByteArray} {i:Nat} (h:NW w s wx i):wx.cell? ⟨w.heap.size+1,0,none⟩=some (.int .i64 i):=by simp [World.cell?,h.2.1]
theorem NW.q {w wx:World} {s:ByteArray} {i:Nat} (h:NW w s wx i):wx.cell? ⟨w.heap.size,0,none⟩=some (.string s):=by simp [World.cell?,h.1]
theorem NW.f {w wx:World} {s:ByteArray} {i:Nat} (h:NW w s wx i):wx.frozen? ⟨w.heap.size+1,0,none⟩=false:=by simp [World.frozen?,h.2.1]
def rel (s:ByteArray) (A:Option Nat) (l i:Nat) (d:Bool):Prop:=match l with
 |0=>stD s i d=A∧i≤s.size
 |1=>A=some i∧i≤s.size
 |2=>finD s (runD s (i+1)) d=A∧i<s.size
 |_=>False
def NJ (w:World) (s:ByteArray) (A:Option Nat) (l:Nat) (a:Act) (wx:World):Prop :=
 ∃(i:Nat) (d:Bool) (u2 u3 u7 u8 u9 u10 u11 u12 u13 u14 u15 u16 u17 u18 u19 u20 u21 u22 u23 u24 u25 u26 u27 u28 u29 u30 u31 u32 u33 u34 u35 u36:Value),a={ tmps:=#[.string s,.pointer (some ⟨w.heap.size,0,none⟩),u2,u3,.pointer (some ⟨w.heap.size+1,0,none⟩),.bool d,.func (.func 166) #[] #[.pointer (some ⟨w.heap.size+1,0,none⟩),.pointer (some ⟨w.heap.size,0,none⟩)],u7,u8,u9,u10,u11,u12,u13,u14,u15,u16,u17,u18,u19,u20,u21,u22,u23,u24,u25,u26,u27,u28,u29,u30,u31,u32,u33,u34,u35,u36],defers:=[] }∧NW w s wx i∧rel s A l i d
def NQ (w:World) (s:ByteArray) (e:Ending) (w':World):Prop:=match numE s with
 |some k=>e=.returned (.tuple #[.string (s.extract 0 k),.string (s.extract k s.size)])∧w.grownBy w' none
 |none=>e=upE∧w.grownBy w' none
theorem VJ (s:ByteArray) (hs:s.size≤1000000000) (w:World) :
    Calls Tryz.prog 149 #[.string s] w fun e w'=>NQ w s e w':=by
 have hmf:∀(fn:Fn) (first cap:Array Value) (w:World),(Instr.makeFunc fn first cap).run Tryz.prog w=.ok (.func fn first cap) w:=fun _ _ _ _=>rfl
 have HNx:Hid (∀(wx:World) (i lo hi:Nat),lo<256→hi<256→i≤s.size→NW w s wx i→Calls Tryz.prog 166 #[.int .u8 lo,.int .u8 hi,.pointer (some ⟨w.heap.size+1,0,none⟩),.pointer (some ⟨w.heap.size,0,none⟩)] wx fun e w'=>e=.returned (.bool (nxt s i lo hi))∧w'=wx):=fun wx i lo hi h1 h2 h3 h=>Zfe s (by unfold maxLen;omega) i lo hi h3 h1 h2 _ _ wx h.p h.q
 have HSz:Hid (s.size≤1000000000):=hs
 have hsI:(s.size:Int)≤1000000000:=by omega
 have HIn:Hid (∀i lo hi,nxt s i lo hi=true→i+1≤s.size):=fun i lo hi h=>by
  rcases Nat.lt_or_ge i s.size with h0|h0
  ·exact h0
  ·rw [ZaD (by omega)]at h
   cases h
 clear hs
 go_enter Tryz.func149,Tryz.ntmps149
 go_wp2_with fail
 refine UZ (NJ w s (numE s)) (fun l _ wx=>match wx.cell? ⟨w.heap.size+1,0,none⟩with|some (.int _ i)=>3*(s.size+2-i.toNat)+(if l=0 then 2 else if l=2 then 1 else 0)|_=>0) ?_ ?_
 ·obtain⟨A,HA0⟩:∃A,Hid (numE s=A):=⟨_,rfl⟩
  have hA0:numE s=A:=HA0
  rw [hA0]
  clear hA0
  rintro l a wx ⟨i,d,u2,u3,u7,u8,u9,u10,u11,u12,u13,u14,u15,u16,u17,u18,u19,u20,u21,u22,u23,u24,u25,u26,u27,u28,u29,u30,u31,u32,u33,u34,u35,u36,rfl,hW,hr⟩
  have HW:Hid (NW w s wx i):=hW
  have hcell:=hW.p
  simp only [hcell]
  clear hcell hW
  rcases l with _|_|_|l
  ·refine⟨_,rfl,?_⟩
   have HRz:Hid (stD s i d=A∧i≤s.size):=hr
   have HB:Hid (i≤s.size):=HRz.out.2
   clear hr
   have H0:=HNx.out wx i 49 57 (by decide) (by decide) HRz.out.2 HW.out
   cases h0:nxt s i 49 57
   ·rw [h0]at H0
    have HN:Hid (A=none):=by
     have:=HRz.out.1
     unfold stD at this
     rw [h0]at this
     exact this.symm
    have HM:=Yy
    clear h0
    go_wp2_with fail
    refine H0.mono ?_
    rintro e wz ⟨rfl,hw⟩
    obtain rfl:=hw.symm
    clear hw
    go_wp2_with fail
    refine(HM _).mono ?_
    rintro e wz ⟨rfl,hw⟩
    obtain rfl:=hw.symm
    clear hw
    go_wp2_with fail
    simp only [bodyPost]
    unfold NQ
    rw [HA0.out,HN.out]
    first|exact⟨trivial,HW.out.2.2⟩|exact⟨trivial,rfl,HW.out.2.2⟩|exact⟨rfl,HW.out.2.2⟩
   ·rw [h0]at H0
    have HR2:Hid (finD s (runD s (i+1)) d=A∧i<s.size):=by
     have:=HRz.out.1
     unfold stD at this
     rw [h0]at this
     exact⟨this,HIn.out _ _ _ h0⟩
    have HM:=Ya
    clear h0
    have hp:=HW.out.p
    have hf:=HW.out.f
    have hi0:(0:Int)≤i:=by omega
    have hi1:(i:Int)<s.size:=by have:=HR2.out.2;omega
    generalize hc9:Code.region 9 _ _=c9
    go_wp2_with fail
    refine H0.mono ?_
    rintro e wz ⟨rfl,hw⟩
    obtain rfl:=hw.symm
    clear hw
    go_wp2_with fail
    refine(HM _).mono ?_
    rintro e wz ⟨rfl,hw⟩
    obtain rfl:=hw.symm
    clear hw
    go_wp2_with fail
    refine wp_label ?_
    have HW1:Hid (NW w s (wx.setCell ⟨w.heap.size+1,0,none⟩ (.int .i64 ((i:Int)+1))) (i+1)):=by
     show NW _ _ _ _
     have:=HW.out.put (i+1)
     simpa using this
    have hp:=HW.out.p
    have hf:=HW.out.f
    have hi0:(0:Int)≤i:=by omega
    have hi1:(i:Int)<s.size:=by have:=HR2.out.2;omega
    skip
    go_wp2_with fail
    change Code.wp _ _ _ _ (wx.setCell ⟨w.heap.size+1,0,none⟩ (.int .i64 ((i:Int)+1)))
    clear hp hf
    generalize wx.setCell ⟨w.heap.size+1,0,none⟩ (.int .i64 ((i:Int)+1))=wy at *
    subst hc9
    obtain⟨i',hi'⟩:∃i',i+1=i':=⟨_,rfl⟩
    have HI':Hid (i+1=i'):=hi'
    rw [hi']at HW1
    have HF:Hid (finD s (runD s i') d=A∧i'≤s.size):=by
     have:=HR2.out
     rw [hi']at this
     exact⟨this.1,by omega⟩
    have H1:=HNx.out wy i' 48 57 (by decide) (by decide) HF.out.2 HW1.out
    cases h1:nxt s i' 48 57
    ·rw [h1]at H1
     have HE1:Hid (finD s i' d=A):=by
      have:=HF.out.1
      rw [Zat h1]at this
      exact this
     have H2:=HNx.out wy i' 47 47 (by decide) (by decide) HF.out.2 HW1.out
     cases h2:nxt s i' 47 47
     ·rw [h2]at H2
      have HR:Hid (A=some i'∧i'≤s.size):=by
       have:=HE1.out
       unfold finD at this
       rw [h2]at this
       exact⟨this.symm,HF.out.2⟩
      clear h1 h2 hi1 hi0
      (try go_wp2_with fail)
      refine H1.mono ?_
      rintro e wz ⟨rfl,hw⟩
      obtain rfl:=hw.symm
      clear hw
      go_wp2_with fail
      refine H2.mono ?_
      rintro e wz ⟨rfl,hw⟩
      obtain rfl:=hw.symm
      clear hw
      go_wp2_with fail
      try(apply wp_label)
      have hp:=HW1.out.p
      have hq:=HW1.out.q
      have hi0:(0:Int)≤((i':Nat):Int):=by omega
      have hi1:((i':Nat):Int)≤s.size:=by have:=HR.out.2;omega
      go_wp2_with fail
      go_region
      all_goals go_wp2_with fail
      all_goals (
       refine bodyPost_ret (results_tmp2 rfl _ _ _) rfl ?_
       show NQ w s _ _
       unfold NQ
       rw [HA0.out,HR.out.1]
       exact⟨by simp,Zf HW1.out.2.2⟩)
     ·rw [h2]at H2
      cases hd:d
      ·have HR0:Hid (stD s (i'+1) true=A∧i'+1≤s.size):=by
         have:=HE1.out
         unfold finD at this
         rw [h2,hd]at this
         exact⟨by rw [←ZbY];exact this,HIn.out _ _ _ h2⟩
       have hp:=HW1.out.p
       have hf:=HW1.out.f
       have hj1:(i':Int)<s.size:=by have:=HR0.out.2;omega
       have hj0:(0:Int)≤i':=by omega
       have HWz:Hid (NW w s (wy.setCell ⟨w.heap.size+1,0,none⟩ (.int .i64 ((i':Int)+1))) (i'+1)):=by
        show NW _ _ _ _
        have:=HW1.out.put (i'+1)
        simpa using this
       clear h1 h2 hi1 hi0
       try subst hd
       (try go_wp2_with fail)
       refine H1.mono ?_
       rintro e wz ⟨rfl,hw⟩
       obtain rfl:=hw.symm
       clear hw
       go_wp2_with fail
       refine H2.mono ?_
       rintro e wz ⟨rfl,hw⟩
       obtain rfl:=hw.symm
       clear hw
       go_wp2_with fail
       apply wp_goto
       have hc:=HWz.out.p
       refine⟨⟨i'+1,true,_,_,_,_,_,_,_,_,_,_,_,_,_,_,_,_,_,_,_,_,_,_,_,_,_,_,_,_,_,_,_,_,rfl,HWz.out,HR0.out⟩,?_⟩
       simp only [hc]
       have:=HB.out
       simp
       omega
      ·have HR:Hid (A=some i'∧i'≤s.size):=by
         have:=HE1.out
         unfold finD at this
         rw [h2,hd]at this
         exact⟨this.symm,HF.out.2⟩
       clear h1 h2 hi1 hi0
       try subst hd
       (try go_wp2_with fail)
       refine H1.mono ?_
       rintro e wz ⟨rfl,hw⟩
       obtain rfl:=hw.symm
       clear hw
       go_wp2_with fail
       refine H2.mono ?_
       rintro e wz ⟨rfl,hw⟩
       obtain rfl:=hw.symm
       clear hw
       go_wp2_with fail
       try(apply wp_label)
       have hp:=HW1.out.p
       have hq:=HW1.out.q
       have hi0:(0:Int)≤((i':Nat):Int):=by omega
       have hi1:((i':Nat):Int)≤s.size:=by have:=HR.out.2;omega
       go_wp2_with fail
       go_region
       all_goals go_wp2_with fail
       all_goals (
        refine bodyPost_ret (results_tmp2 rfl _ _ _) rfl ?_
        show NQ w s _ _
        unfold NQ
        rw [HA0.out,HR.out.1]
        exact⟨by simp,Zf HW1.out.2.2⟩)
    ·rw [h1]at H1
     have HWz:Hid (NW w s wy i'):=HW1
     have HR0:Hid (finD s (runD s (i'+1)) d=A∧i'<s.size):=by
      have:=HF.out.1
      rw [UX h1]at this
      exact⟨this,HIn.out _ _ _ h1⟩
     clear h1 hi1 hi0
     (try go_wp2_with fail)
     refine H1.mono ?_
     rintro e wz ⟨rfl,hw⟩
     obtain rfl:=hw.symm
     clear hw
     go_wp2_with fail
     apply wp_goto
     have hc:=HWz.out.p
     refine⟨⟨i',d,_,_,_,_,_,_,_,_,_,_,_,_,_,_,_,_,_,_,_,_,_,_,_,_,_,_,_,_,_,_,_,_,rfl,HWz.out,HR0.out⟩,?_⟩
     simp only [hc]
     have:=HB.out
     simp
     omega
  ·refine⟨_,rfl,?_⟩
   have HR:Hid (A=some i∧i≤s.size):=hr
   clear hr
   have hp:=HW.out.p
   have hq:=HW.out.q
   have hi0:(0:Int)≤((i:Nat):Int):=by omega
   have hi1:((i:Nat):Int)≤s.size:=by have:=HR.out.2;omega
   go_wp2_with fail
   go_region
   all_goals go_wp2_with fail
   all_goals (
    refine bodyPost_ret (results_tmp2 rfl _ _ _) rfl ?_
    show NQ w s _ _
    unfold NQ
    rw [HA0.out,HR.out.1]
    exact⟨by simp,Zf HW.out.2.2⟩)
  ·refine⟨_,rfl,?_⟩
   have HR2:Hid (finD s (runD s (i+1)) d=A∧i<s.size):=hr
   have HB:Hid (i≤s.size):=Nat.le_of_lt HR2.out.2
   clear hr
   have HW1:Hid (NW w s (wx.setCell ⟨w.heap.size+1,0,none⟩ (.int .i64 ((i:Int)+1))) (i+1)):=by
    show NW _ _ _ _
    have:=HW.out.put (i+1)
    simpa using this
   have hp:=HW.out.p
   have hf:=HW.out.f
   have hi0:(0:Int)≤i:=by omega
   have hi1:(i:Int)<s.size:=by have:=HR2.out.2;omega
   generalize hc9:Code.region 9 _ _=c9
   go_wp2_with fail
   change Code.wp _ _ _ _ (wx.setCell ⟨w.heap.size+1,0,none⟩ (.int .i64 ((i:Int)+1)))
   clear hp hf
   generalize wx.setCell ⟨w.heap.size+1,0,none⟩ (.int .i64 ((i:Int)+1))=wy at *
   subst hc9
   obtain⟨i',hi'⟩:∃i',i+1=i':=⟨_,rfl⟩
   have HI':Hid (i+1=i'):=hi'
   rw [hi']at HW1
   have HF:Hid (finD s (runD s i') d=A∧i'≤s.size):=by
    have:=HR2.out
    rw [hi']at this
    exact⟨this.1,by omega⟩
   have H1:=HNx.out wy i' 48 57 (by decide) (by decide) HF.out.2 HW1.out
   cases h1:nxt s i' 48 57
   ·rw [h1]at H1
    have HE1:Hid (finD s i' d=A):=by
     have:=HF.out.1
     rw [Zat h1]at this
     exact this
    have H2:=HNx.out wy i' 47 47 (by decide) (by decide) HF.out.2 HW1.out
    cases h2:nxt s i' 47 47
    ·rw [h2]at H2
     have HR:Hid (A=some i'∧i'≤s.size):=by
      have:=HE1.out
      unfold finD at this
      rw [h2]at this
      exact⟨this.symm,HF.out.2⟩
     clear h1 h2 hi1 hi0
     (try go_wp2_with fail)
     refine H1.mono ?_
     rintro e wz ⟨rfl,hw⟩
     obtain rfl:=hw.symm
     clear hw
     go_wp2_with fail
     refine H2.mono ?_
     rintro e wz ⟨rfl,hw⟩
     obtain rfl:=hw.symm
     clear hw
     go_wp2_with fail
     try(apply wp_label)
     have hp:=HW1.out.p
     have hq:=HW1.out.q
     have hi0:(0:Int)≤((i':Nat):Int):=by omega
     have hi1:((i':Nat):Int)≤s.size:=by have:=HR.out.2;omega
     go_wp2_with fail
     go_region
     all_goals go_wp2_with fail
     all_goals (
      refine bodyPost_ret (results_tmp2 rfl _ _ _) rfl ?_
      show NQ w s _ _
      unfold NQ
      rw [HA0.out,HR.out.1]
      exact⟨by simp,Zf HW1.out.2.2⟩)
    ·rw [h2]at H2
     cases hd:d
     ·have HR0:Hid (stD s (i'+1) true=A∧i'+1≤s.size):=by
        have:=HE1.out
        unfold finD at this
        rw [h2,hd]at this
        exact⟨by rw [←ZbY];exact this,HIn.out _ _ _ h2⟩
      have hp:=HW1.out.p
      have hf:=HW1.out.f
      have hj1:(i':Int)<s.size:=by have:=HR0.out.2;omega
      have hj0:(0:Int)≤i':=by omega
      have HWz:Hid (NW w s (wy.setCell ⟨w.heap.size+1,0,none⟩ (.int .i64 ((i':Int)+1))) (i'+1)):=by
       show NW _ _ _ _
       have:=HW1.out.put (i'+1)
       simpa using this
      clear h1 h2 hi1 hi0
      try subst hd
      (try go_wp2_with fail)
      refine H1.mono ?_
      rintro e wz ⟨rfl,hw⟩
      obtain rfl:=hw.symm
      clear hw
      go_wp2_with fail
      refine H2.mono ?_
      rintro e wz ⟨rfl,hw⟩
      obtain rfl:=hw.symm
      clear hw
      go_wp2_with fail
      apply wp_goto
      have hc:=HWz.out.p
      refine⟨⟨i'+1,true,_,_,_,_,_,_,_,_,_,_,_,_,_,_,_,_,_,_,_,_,_,_,_,_,_,_,_,_,_,_,_,_,rfl,HWz.out,HR0.out⟩,?_⟩
      simp only [hc]
      have:=HB.out
      simp
      omega
     ·have HR:Hid (A=some i'∧i'≤s.size):=by
        have:=HE1.out
        unfold finD at this
        rw [h2,hd]at this
        exact⟨this.symm,HF.out.2⟩
      clear h1 h2 hi1 hi0
      try subst hd
      (try go_wp2_with fail)
      refine H1.mono ?_
      rintro e wz ⟨rfl,hw⟩
      obtain rfl:=hw.symm
      clear hw
      go_wp2_with fail
      refine H2.mono ?_
      rintro e wz ⟨rfl,hw⟩
      obtain rfl:=hw.symm
      clear hw
      go_wp2_with fail
      try(apply wp_label)
      have hp:=HW1.out.p
      have hq:=HW1.out.q
      have hi0:(0:Int)≤((i':Nat):Int):=by omega
      have hi1:((i':Nat):Int)≤s.size:=by have:=HR.out.2;omega
      go_wp2_with fail
      go_region
      all_goals go_wp2_with fail
      all_goals (
       refine bodyPost_ret (results_tmp2 rfl _ _ _) rfl ?_
       show NQ w s _ _
       unfold NQ
       rw [HA0.out,HR.out.1]
       exact⟨by simp,Zf HW1.out.2.2⟩)
   ·rw [h1]at H1
    have HWz:Hid (NW w s wy i'):=HW1
    have HR0:Hid (finD s (runD s (i'+1)) d=A∧i'<s.size):=by
     have:=HF.out.1
     rw [UX h1]at this
     exact⟨this,HIn.out _ _ _ h1⟩
    clear h1 hi1 hi0
    (try go_wp2_with fail)
    refine H1.mono ?_
    rintro e wz ⟨rfl,hw⟩
    obtain rfl:=hw.symm
    clear hw
    go_wp2_with fail
    apply wp_goto
    have hc:=HWz.out.p
    refine⟨⟨i',d,_,_,_,_,_,_,_,_,_,_,_,_,_,_,_,_,_,_,_,_,_,_,_,_,_,_,_,_,_,_,_,_,rfl,HWz.out,HR0.out⟩,?_⟩
    simp only [hc]
    have:=HB.out
    simp
    omega
  ·exact hr.elim
 ·skip
  generalize hA:numE s=A
  have HA0:Hid (numE s=A):=hA
  clear hA
  have hW0:NW w s ((w.alloc (.cells #[.string s] 9)).alloc (.cells #[.int .i64 0] 3)) 0:=by
   refine⟨Zx _ _ _,?_,grow2 _ _ _⟩
   have h:=heap_alloc_new (w.alloc (.cells #[.string s] 9)) (.cells #[.int .i64 0] 3)
   have e:(w.alloc (.cells #[.string s] 9)).heap.size=w.heap.size+1:=by simp
   rw [e]at h
   exact h
  generalize h3:Code.region 3 _ _=c3
  go_wp2_with fail
  change Code.wp _ _ _ _ ((w.alloc (.cells #[.string s] 9)).alloc (.cells #[.int .i64 0] 3))
  generalize(w.alloc (.cells #[.string s] 9)).alloc (.cells #[.int .i64 0] 3)=wx at *
  have HW0:Hid (NW w s wx 0):=hW0
  clear hW0
  subst h3
  have HE:Hid (A=if nxt s 0 45 45 then stD s 1 false else if nxt s 0 48 48 then some 1 else stD s 0 false):=HA0.out.symm
  have H45:=HNx.out wx 0 45 45 (by decide) (by decide) (by omega) HW0.out
  have H48:=HNx.out wx 0 48 48 (by decide) (by decide) (by omega) HW0.out
  cases h45:nxt s 0 45 45
  ·rw [h45]at H45
   cases h48:nxt s 0 48 48
   ·rw [h48]at H48
    obtain⟨i,hi⟩:∃i:Nat,i=0:=⟨_,rfl⟩
    have HW:Hid (NW w s wx i):=by
     rw [hi]
     exact HW0
    have HRz:Hid (stD s i false=A∧i≤s.size):=by
     show stD s i false=A∧i≤s.size
     rw [HE.out,h45,h48,hi]
     exact⟨rfl,by omega⟩
    clear h45 h48 HE HW0 hi
    generalize hc7:Code.region 7 _ _=c7
    go_wp2_with fail
    refine H45.mono ?_
    rintro e wy ⟨rfl,hw⟩
    obtain rfl:=hw.symm
    clear hw
    go_wp2_with fail
    refine H48.mono ?_
    rintro e wy ⟨rfl,hw⟩
    obtain rfl:=hw.symm
    clear hw
    go_wp2_with fail
    refine wp_label ?_
    go_wp2_with fail
    subst hc7
    have H0:=HNx.out wx i 49 57 (by decide) (by decide) HRz.out.2 HW.out
    cases h0:nxt s i 49 57
    ·rw [h0]at H0
     have HN:Hid (A=none):=by
      have:=HRz.out.1
      unfold stD at this
      rw [h0]at this
      exact this.symm
     have HM:=Yy
     clear h0
     go_wp2_with fail
     refine H0.mono ?_
     rintro e wz ⟨rfl,hw⟩
     obtain rfl:=hw.symm
     clear hw
     go_wp2_with fail
     refine(HM _).mono ?_
     rintro e wz ⟨rfl,hw⟩
     obtain rfl:=hw.symm
     clear hw
     go_wp2_with fail
     simp only [bodyPost]
     unfold NQ
     rw [HA0.out,HN.out]
     first|exact⟨trivial,HW.out.2.2⟩|exact⟨trivial,rfl,HW.out.2.2⟩|exact⟨rfl,HW.out.2.2⟩
    ·rw [h0]at H0
     have HR2:Hid (finD s (runD s (i+1)) false=A∧i<s.size):=by
      have:=HRz.out.1
      unfold stD at this
      rw [h0]at this
      exact⟨this,HIn.out _ _ _ h0⟩
     have HM:=Ya
     clear h0
     have hp:=HW.out.p
     have hf:=HW.out.f
     have hi0:(0:Int)≤i:=by omega
     have hi1:(i:Int)<s.size:=by have:=HR2.out.2;omega
     skip
     go_wp2_with fail
     refine H0.mono ?_
     rintro e wz ⟨rfl,hw⟩
     obtain rfl:=hw.symm
     clear hw
     go_wp2_with fail
     refine(HM _).mono ?_
     rintro e wz ⟨rfl,hw⟩
     obtain rfl:=hw.symm
     clear hw
     go_wp2_with fail
     refine wp_label ?_
     have HW1:Hid (NW w s (wx.setCell ⟨w.heap.size+1,0,none⟩ (.int .i64 ((i:Int)+1))) (i+1)):=by
      show NW _ _ _ _
      have:=HW.out.put (i+1)
      simpa using this
     have hp:=HW.out.p
     have hf:=HW.out.f
     have hi0:(0:Int)≤i:=by omega
     have hi1:(i:Int)<s.size:=by have:=HR2.out.2;omega
     skip
     go_wp2_with fail
     change Calls _ _ _ (wx.setCell ⟨w.heap.size+1,0,none⟩ (.int .i64 ((i:Int)+1))) _
     clear hp hf
     generalize wx.setCell ⟨w.heap.size+1,0,none⟩ (.int .i64 ((i:Int)+1))=wy at *
     skip
     obtain⟨i',hi'⟩:∃i',i+1=i':=⟨_,rfl⟩
     have HI':Hid (i+1=i'):=hi'
     rw [hi']at HW1
     have HF:Hid (finD s (runD s i') false=A∧i'≤s.size):=by
      have:=HR2.out
      rw [hi']at this
      exact⟨this.1,by omega⟩
     have H1:=HNx.out wy i' 48 57 (by decide) (by decide) HF.out.2 HW1.out
     cases h1:nxt s i' 48 57
     ·rw [h1]at H1
      have HE1:Hid (finD s i' false=A):=by
       have:=HF.out.1
       rw [Zat h1]at this
       exact this
      have H2:=HNx.out wy i' 47 47 (by decide) (by decide) HF.out.2 HW1.out
      cases h2:nxt s i' 47 47
      ·rw [h2]at H2
       have HR:Hid (A=some i'∧i'≤s.size):=by
        have:=HE1.out
        unfold finD at this
        rw [h2]at this
        exact⟨this.symm,HF.out.2⟩
       clear h1 h2 hi1 hi0
       (try go_wp2_with fail)
       refine H1.mono ?_
       rintro e wz ⟨rfl,hw⟩
       obtain rfl:=hw.symm
       clear hw
       go_wp2_with fail
       refine H2.mono ?_
       rintro e wz ⟨rfl,hw⟩
       obtain rfl:=hw.symm
       clear hw
       go_wp2_with fail
       try(apply wp_label)
       have hp:=HW1.out.p
       have hq:=HW1.out.q
       have hi0:(0:Int)≤((i':Nat):Int):=by omega
       have hi1:((i':Nat):Int)≤s.size:=by have:=HR.out.2;omega
       go_wp2_with fail
       go_region
       all_goals go_wp2_with fail
       all_goals (
        refine bodyPost_ret (results_tmp2 rfl _ _ _) rfl ?_
        show NQ w s _ _
        unfold NQ
        rw [HA0.out,HR.out.1]
        exact⟨by simp,Zf HW1.out.2.2⟩)
      ·rw [h2]at H2
       have HR0:Hid (stD s (i'+1) true=A∧i'+1≤s.size):=by
        have:=HE1.out
        unfold finD at this
        rw [h2]at this
        exact⟨by rw [←ZbY];exact this,HIn.out _ _ _ h2⟩
       have hp:=HW1.out.p
       have hf:=HW1.out.f
       have hj1:(i':Int)<s.size:=by have:=HR0.out.2;omega
       have hj0:(0:Int)≤i':=by omega
       have HWz:Hid (NW w s (wy.setCell ⟨w.heap.size+1,0,none⟩ (.int .i64 ((i':Int)+1))) (i'+1)):=by
        show NW _ _ _ _
        have:=HW1.out.put (i'+1)
        simpa using this
       clear h1 h2 hi1 hi0
       (try go_wp2_with fail)
       refine H1.mono ?_
       rintro e wz ⟨rfl,hw⟩
       obtain rfl:=hw.symm
       clear hw
       go_wp2_with fail
       refine H2.mono ?_
       rintro e wz ⟨rfl,hw⟩
       obtain rfl:=hw.symm
       clear hw
       go_wp2_with fail
       apply wp_goto
       exact⟨i'+1,true,_,_,_,_,_,_,_,_,_,_,_,_,_,_,_,_,_,_,_,_,_,_,_,_,_,_,_,_,_,_,_,_,rfl,HWz.out,HR0.out⟩
     ·rw [h1]at H1
      have HWz:Hid (NW w s wy i'):=HW1
      have HR0:Hid (finD s (runD s (i'+1)) false=A∧i'<s.size):=by
       have:=HF.out.1
       rw [UX h1]at this
       exact⟨this,HIn.out _ _ _ h1⟩
      clear h1 hi1 hi0
      (try go_wp2_with fail)
      refine H1.mono ?_
      rintro e wz ⟨rfl,hw⟩
      obtain rfl:=hw.symm
      clear hw
      go_wp2_with fail
      apply wp_goto
      exact⟨i',false,_,_,_,_,_,_,_,_,_,_,_,_,_,_,_,_,_,_,_,_,_,_,_,_,_,_,_,_,_,_,_,_,rfl,HWz.out,HR0.out⟩
   ·rw [h48]at H48
    have HR:Hid (A=some 1∧1≤s.size):=by
     show A=some 1∧1≤s.size
     rw [HE.out,h45,h48]
     exact⟨rfl,HIn.out _ _ _ h48⟩
    have HWz:Hid (NW w s (wx.setCell ⟨w.heap.size+1,0,none⟩ (.int .i64 1)) 1):=HW0.out.put 1
    have hp:=HW0.out.p
    have hf:=HW0.out.f
    clear h45 h48 HE
    go_wp2_with fail
    refine H45.mono ?_
    rintro e wy ⟨rfl,hw⟩
    obtain rfl:=hw.symm
    clear hw
    go_wp2_with fail
    refine H48.mono ?_
    rintro e wy ⟨rfl,hw⟩
    obtain rfl:=hw.symm
    clear hw
    go_wp2_with fail
    apply wp_goto
    exact⟨1,false,_,_,_,_,_,_,_,_,_,_,_,_,_,_,_,_,_,_,_,_,_,_,_,_,_,_,_,_,_,_,_,_,rfl,HWz.out,HR.out⟩
  ·rw [h45]at H45
   have HR:Hid (stD s 1 false=A∧1≤s.size):=by
    show stD s 1 false=A∧1≤s.size
    rw [HE.out,h45]
    exact⟨rfl,HIn.out _ _ _ h45⟩
   have HWz:Hid (NW w s (wx.setCell ⟨w.heap.size+1,0,none⟩ (.int .i64 1)) 1):=HW0.out.put 1
   have hp:=HW0.out.p
   have hf:=HW0.out.f
   clear h45 HE
   go_wp2_with fail
   refine H45.mono ?_
   rintro e wy ⟨rfl,hw⟩
   obtain rfl:=hw.symm
   clear hw
   go_wp2_with fail
   apply wp_goto
   exact⟨1,false,_,_,_,_,_,_,_,_,_,_,_,_,_,_,_,_,_,_,_,_,_,_,_,_,_,_,_,_,_,_,_,_,rfl,HWz.out,HR.out⟩
end Go.Proofs.YtdcadiaeaclpgaaGreatDoor
