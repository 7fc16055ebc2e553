/-
  Every number has a text.
  The text of a fraction: frac's and the document's.
-/
import Derived.Test.YtdcadiaeaclpgaaGreatDoorBunCut
import Derived.Test.YtdcadiaeaclpgaaGreatDoorBunGar
import Derived.Test.YtdcadiaeaclpgaaGreatDoorRft
import Derived.Test.YtdcadiaeaclpgaaGreatDoorBunFri
import Derived.Test.YtdcadiaeaclpgaaGreatDoorBunFrm
import Derived.Test.YtdcadiaeaclpgaaGreatDoorBunWka
namespace Go.Proofs.YtdcadiaeaclpgaaGreatDoor
open Go.RowKit Go.Lib Go.Sort
set_option linter.unusedVariables false
set_option maxHeartbeats 3200000
set_option maxRecDepth 1000000
theorem dgs_ex:∀ (k n:Nat),0 < n→n < 10 ^ k→∃ D:List Nat,(∀ b∈D,isDig b)∧D≠[]∧D.head?.getD 0≠48∧dec D=n∧D.length≤k
 |0,n,h0,h=>by simp at h; omega
 |k+1,n,h0,h=>by
  by_cases h9:n < 10
  ·refine ⟨[48+n],?_,by simp,by simp; omega,?_,by simp⟩
   ·intro b hb; simp at hb; subst hb; unfold isDig; omega
   ·have:=dec_snoc [] (48+n)
    simp [dec] at this ⊢
  ·obtain ⟨D,d1,d2,d3,d4,d5⟩:=dgs_ex k (n / 10) (by omega) (by rw [Nat.pow_succ] at h; omega)
   refine ⟨D++[48+n % 10],?_,by simp,?_,?_,by simp; omega⟩
   ·intro b hb
    rcases List.mem_append.1 hb with hb | hb
    ·exact d1 b hb
    ·simp at hb; subst hb; unfold isDig; omega
   ·cases D with
    |nil=>exact absurd rfl d2
    |cons x l=>simpa using d3
   ·rw [dec_snoc,d4]; omega
theorem text_ex {k:Nat} {x:Int} {n:Bool} {s:ByteArray} (hk:k≤400) (h:Sz k x n s):∃ a,TextOf x a∧a.size≤40000:=by
 rw [← h.num]
 by_cases h0:s.size=0
 ·obtain rfl:=empty_of_size h0
  obtain rfl:=may_empty (h.may (by omega))
  exact ⟨_,text_nought,by decide⟩
 ·have hv:x.natAbs=val (bN s):=by
    have:=h.num
    rw [← this]
    cases n
    ·rw [num_f]; simp
    ·rw [num_t]; simp
  have hpos:0 < val (bN s):=by
   rw [← hv]
   refine Nat.pos_of_ne_zero fun e=>h0 ?_
   have hx:x=0:=Int.natAbs_eq_zero.1 e
   subst hx
   have:=whole_inj (h.1.one zero_z)
   rw [this.2]; rfl
  have hlt:val (bN s) < 10 ^ (3*k):=by rw [← hv]; exact Nat.lt_of_lt_of_le h.2 (pow_dec k)
  obtain ⟨D,d1,d2,d3,d4,d5⟩:=dgs_ex _ _ hpos hlt
  have hb:bN (strOf (ints ((if n then [45] else [])++D)))=(if n then [45] else [])++D:=bN_strOf _ (by
   intro b hb
   rcases List.mem_append.1 hb with hb | hb
   ·cases n <;> simp at hb; subst hb; decide
   ·have:=d1 b hb; unfold isDig at this; omega)
  refine ⟨_,text_digits hb d1 d2 d3 d4,?_⟩
  have hl:=bN_length (strOf (ints ((if n then [45] else [])++D)))
  rw [hb] at hl
  rw [← hl]
  cases n <;> simp <;> omega
theorem rtext_ex {x:Int} {n:Bool} {s:ByteArray} (h:may n s=true) (hx:num n s=x):∃ a,TextOf x a:=by
 rw [← hx]
 by_cases h0:s.size=0
 ·obtain rfl:=empty_of_size h0
  obtain rfl:=may_empty h
  exact ⟨_,text_nought⟩
 ·have hz:=may_isz h
  have hpos:0 < val (bN s):=by
   refine Nat.pos_of_ne_zero fun e=>h0 ?_
   have hx:num n s=0:=by cases n <;> simp [num_f,num_t,e]
   rw [hx] at hz
   rw [(whole_inj (hz.one zero_z)).2]; rfl
  obtain ⟨k,hk⟩:∃ k,val (bN s) < 10 ^ k:=⟨val (bN s),Nat.lt_pow_self (by decide)⟩
  obtain ⟨D,d1,d2,d3,d4,d5⟩:=dgs_ex _ _ hpos hk
  have hb:bN (strOf (ints ((if n then [45] else [])++D)))=(if n then [45] else [])++D:=bN_strOf _ (by
   intro b hb
   rcases List.mem_append.1 hb with hb | hb
   ·cases n <;> simp at hb; subst hb; decide
   ·have:=d1 b hb; unfold isDig at this; omega)
  exact ⟨_,text_digits hb d1 d2 d3 d4⟩
theorem ftext_one (n:Bool) (s a:ByteArray)
    (HM:Hid (∀ w,Calls Tryz.prog 89 #[frac n s false oneS] w fun e w'=>e=.returned (.bool true)∧w.grownBy w' none)) (w:World)
    (HN:Hid (∀ W,w.grownBy W none→Calls Tryz.prog 132 #[whole n s] W fun e w'=>e=.returned (.tuple #[.string a,.int .i64 0])∧W.grownBy w' none)) :
    Calls Tryz.prog 107 #[frac n s false oneS] w fun e w'=>e=.returned (.tuple #[.string a,.int .i64 0])∧w.grownBy w' none:=by
 go_enter Tryz.func107,Tryz.ntmps107
 go_wp2_with fail
 refine (HM.out _).mono ?_
 rintro e w1 ⟨rfl,g1⟩
 have hQ:QBlk w1 w.heap.size (.bool n) (.string s) (.bool false) (.string oneS):=QBlk.kept (w:=w.alloc (qObj n s false oneS)) (heap_alloc_new _ _) g1 (by simp)
 have HQ:Hid (QBlk w1 w.heap.size (.bool n) (.string s) (.bool false) (.string oneS)):=hQ
 have HG:Hid (w.grownBy w1 none):=grownBy_trans (grow1 _ _) g1
 have c0:=hQ.c0
 have c1:=hQ.c1
 clear g1 hQ
 go_wp2_with fail
 refine (HN.out _ HG.out).mono ?_
 rintro e w2 ⟨rfl,g2⟩
 replace HQ:Hid (QBlk w2 w.heap.size (.bool n) (.string s) (.bool false) (.string oneS)):=HQ.out.kept g2 (by simp)
 replace HG:Hid (w.grownBy w2 none):=grownBy_trans HG.out g2
 clear g2 c0 c1
 go_wp2_with fail
 have HY:Hid (∀ w',w2.grownBy w' none→w'.cell? ⟨w.heap.size,2,none⟩=some (Value.bool false)∧w'.cell? ⟨w.heap.size,3,none⟩=some (Value.string oneS)):=fun w' h=>⟨(HQ.out.kept h (by simp)).c2,(HQ.out.kept h (by simp)).c3⟩
 go_region_held3 (fun w'=>w'.cell? ⟨w.heap.size,2,none⟩=some (Value.bool false)∧w'.cell? ⟨w.heap.size,3,none⟩=some (Value.string oneS))
  (first | (go_keep; done) | with_reducible exact HY.out _ (by assumption) | with_reducible exact HY.out _ (grow_drew (World.grownBy.refl _ _)) | fail)
  (first | (go_at_call 120; refine (fone_any _).mono ?_; rintro e w3 ⟨rfl,g3⟩; have G3:w2.grownBy w3 none:=(by first | exact g3 | exact grownBy_undrew g3)) | fail)
 replace HG:Hid (w.grownBy w3 none):=grownBy_trans HG.out G3
 go_wp2_with fail
 go_ret2
 exact ⟨rfl,HG.out⟩
theorem isz_den {y:Int} {d:Bool} {t:ByteArray} (h:IsZ y d t) (hp:0 < y):d=false∧(y=1 ↔ t=oneS):=by
 have hd:d=false:=by rw [h.1]; exact decide_eq_false (by omega)
 refine ⟨hd,fun e=>?_,fun e=>?_⟩
 ·subst e; exact (isz_one h).2
 ·subst hd e
  have:=h.num
  rw [one_isz.num] at this
  exact this.symm
theorem list_one {t:ByteArray} (h:¬ t=oneS):¬ t.toList=[1]:=fun e=>h (bN_inj (by rw [← toList_bN,e]; rfl))
theorem ftext_any {x y : Int} {n d : Bool} {s t : ByteArray} (h : IsQ x y n s d t) (h1 : s.size ≤ 200) (h2 : t.size ≤ 200) (w : World) (htab : Lib.TabIs Tryz.prog w "internal/strconv.uint64pow10" .u64 Lib.pow10Tab) :
    Calls Tryz.prog 107 #[frac n s d t] w fun e w'=>∃ a,e=.returned (.tuple #[.string a,.int .i64 0])∧QText x y a∧a.size≤100000∧w.grownBy w' none:=by
 obtain ⟨gp,hgp⟩:=pow10_g
 have zx:Sz 200 x n s:=by have:=may_sz (h.zn.may (by decide)) h1; rw [h.zn.num] at this; exact this
 have zy:Sz 200 y d t:=by have:=may_sz (h.zd.may (by decide)) h2; rw [h.zd.num] at this; exact this
 obtain ⟨a,ha,hal⟩:=text_ex (by decide) zx
 obtain ⟨b,hb,hbl⟩:=text_ex (by decide) zy
 obtain ⟨hd,h3⟩:=isz_den h.zd.1 h.pos
 subst hd
 by_cases h4:y=1
 ·obtain rfl:=h3.1 h4
  refine (ftext_one n s a (fun w=>h.call w) w (fun W hg=>text_is (by decide) zx ha W (tab_kept hgp htab hg))).mono ?_
  rintro e w' ⟨rfl,hg⟩
  exact ⟨a,rfl,.inl ⟨h4,ha⟩,by omega,hg⟩
 ·refine (ftext_two n false s t a b rfl (list_one fun e=>h4 (h3.2 e)) (by omega) (by omega) (fun w=>h.call w) w (fun W hg=>text_is (by decide) zx ha W (tab_kept hgp htab hg)) (fun W hg=>text_is (by decide) zy hb W (tab_kept hgp htab hg))).mono ?_
  rintro e w' ⟨rfl,hg⟩
  refine ⟨_,rfl,.inr ⟨h4,a,b,ha,hb,rfl⟩,?_,hg⟩
  have:=bN_length (a++⟨#[47]⟩++b)
  rw [bN_parts] at this
  simp [bN_length] at this
  simp
  omega
theorem rtextq_one (n:Bool) (s a:ByteArray) (w:World)
    (HN:Hid (∀ w,Calls Tryz.prog 87 #[whole n s] w fun e w'=>e=.returned (.string a)∧w.grownBy w' none)) :
    Calls Tryz.prog 60 #[frac n s false oneS] w fun e w'=>e=.returned (.string a)∧w.grownBy w' none:=by
 have HY:Hid (∀ w',(w.alloc (qObj n s false oneS)).grownBy w' none→w'.cell? ⟨w.heap.size,2,none⟩=some (Value.bool false)∧w'.cell? ⟨w.heap.size,3,none⟩=some (Value.string oneS)):=fun w' h=>by
  have h:QBlk w' w.heap.size (.bool n) (.string s) (.bool false) (.string oneS):=QBlk.kept (heap_alloc_new _ _) h (by simp)
  exact ⟨h.c2,h.c3⟩
 go_enter Tryz.func60,Tryz.ntmps60
 go_wp2_with fail
 obtain ⟨k2,k3⟩:=HY.out _ (World.grownBy.refl _ _)
 go_region_held3 (fun w'=>w'.cell? ⟨w.heap.size,2,none⟩=some (Value.bool false)∧w'.cell? ⟨w.heap.size,3,none⟩=some (Value.string oneS))
  (first | (go_keep; done) | with_reducible exact HY.out _ (by assumption) | with_reducible exact HY.out _ (grow_drew (World.grownBy.refl _ _)) | fail)
  (first | (go_at_call 86; refine (rof_one _).mono ?_; rintro e w3 ⟨rfl,g3⟩; have G3:(w.alloc (qObj n s false oneS)).grownBy w3 none:=(by first | exact g3 | exact grownBy_undrew g3)) | fail)
 all_goals (
  have hQ:QBlk w3 w.heap.size (.bool n) (.string s) (.bool false) (.string oneS):=QBlk.kept (heap_alloc_new _ _) G3 (by simp)
  have c0:=hQ.c0
  have c1:=hQ.c1
  have HG:Hid (w.grownBy w3 none):=grownBy_trans (grow1 _ _) G3
  clear hQ
  go_wp2_with fail
  refine (HN.out _).mono ?_
  rintro e w4 ⟨rfl,g4⟩
  have HG4:Hid (w.grownBy w4 none):=grownBy_trans HG.out g4
  clear g4
  go_wp2_with fail
  go_ret
  exact ⟨rfl,HG4.out⟩)
theorem rtextq_two (n:Bool) (s t:ByteArray) (tx:Bool→ByteArray→ByteArray) (hne:¬ t.toList=[1]) (ha:(tx n s).size≤100000) (hb:(tx false t).size≤100000) (w:World)
    (HB:Hid (∀ n' s' w,((n'=n∧s'=s)∨(n'=false∧s'=t))→Calls Tryz.prog 87 #[whole n' s'] w fun e w'=>e=.returned (.string (tx n' s'))∧w.grownBy w' none)) :
    Calls Tryz.prog 60 #[frac n s false t] w fun e w'=>e=.returned (.string (tx n s++⟨#[47]⟩++tx false t))∧w.grownBy w' none:=by
 have hc1:¬ 9223372036854775807 < (tx n s).size+1:=by omega
 have hc2:¬ 9223372036854775807 < (tx n s).size+1+(tx false t).size:=by omega
 have HT:Hid (∀ w',(w.alloc (qObj n s false t)).grownBy w' none→w'.cell? ⟨w.heap.size,0,none⟩=some (Value.bool n)∧w'.cell? ⟨w.heap.size,1,none⟩=some (Value.string s)∧w'.cell? ⟨w.heap.size,2,none⟩=some (Value.bool false)∧w'.cell? ⟨w.heap.size,3,none⟩=some (Value.string t)):=fun w' h=>by
  have h:QBlk w' w.heap.size (.bool n) (.string s) (.bool false) (.string t):=QBlk.kept (heap_alloc_new _ _) h (by simp)
  exact ⟨h.c0,h.c1,h.c2,h.c3⟩
 clear ha hb
 go_enter Tryz.func60,Tryz.ntmps60
 go_wp2_with fail
 obtain ⟨k0,k1,k2,k3⟩:=HT.out _ (World.grownBy.refl _ _)
 go_region_held3 (fun w'=>w'.cell? ⟨w.heap.size,0,none⟩=some (Value.bool n)∧w'.cell? ⟨w.heap.size,1,none⟩=some (Value.string s)∧w'.cell? ⟨w.heap.size,2,none⟩=some (Value.bool false)∧w'.cell? ⟨w.heap.size,3,none⟩=some (Value.string t))
  (first | (go_keep; done) | with_reducible exact HT.out _ (by assumption) | with_reducible exact HT.out _ (grow_drew (World.grownBy.refl _ _)) | fail)
  (first | (go_at_call 86; refine (rof_one _).mono ?_; rintro e w3 ⟨rfl,g3⟩; have G3:(w.alloc (qObj n s false t)).grownBy w3 none:=(by first | exact g3 | exact grownBy_undrew g3)) | fail)
 have HY:Hid (∀ w',w3.grownBy w' none→w'.cell? ⟨w.heap.size,0,none⟩=some (Value.bool n)∧w'.cell? ⟨w.heap.size,1,none⟩=some (Value.string s)∧w'.cell? ⟨w.heap.size,2,none⟩=some (Value.bool false)∧w'.cell? ⟨w.heap.size,3,none⟩=some (Value.string t)):=fun w' h=>HT.out w' (grownBy_trans G3 h)
 have HG:Hid (w.grownBy w3 none):=grownBy_trans (grow1 _ _) G3
 clear k0 k1 k2 k3
 go_wp2_with fail
 obtain ⟨k0,k1,k2,k3⟩:=HY.out _ (World.grownBy.refl _ _)
 go_region_held3 (fun w'=>w'.cell? ⟨w.heap.size,0,none⟩=some (Value.bool n)∧w'.cell? ⟨w.heap.size,1,none⟩=some (Value.string s)∧w'.cell? ⟨w.heap.size,2,none⟩=some (Value.bool false)∧w'.cell? ⟨w.heap.size,3,none⟩=some (Value.string t))
  (first | (go_keep; done) | with_reducible exact HY.out _ (by assumption) | with_reducible exact HY.out _ (grow_drew (World.grownBy.refl _ _)) | fail)
  (first
   |(go_at_call 87; refine (HB.out _ _ _ (by first | exact .inl ⟨rfl,rfl⟩ | exact .inr ⟨rfl,rfl⟩)).mono ?_; rintro e wA ⟨rfl,gA⟩; have GA:w3.grownBy wA none:=(by first | exact gA | exact grownBy_undrew gA | exact grownBy_trans GA gA); clear gA)
   |fail)
 all_goals (
  have HG4:Hid (w.grownBy _ none):=grownBy_trans HG.out GA
  go_wp2_with fail
  go_ret
  exact ⟨rfl,HG4.out⟩)
theorem rtextq_any {x y:Int} {n d:Bool} {s t:ByteArray} (h:IsQ x y n s d t) (w:World) (hs:∀ a,TextOf x a→a.size≤100000) (ht:∀ a,TextOf y a→a.size≤100000) :
    Calls Tryz.prog 60 #[frac n s d t] w fun e w'=>∃ a,e=.returned (.string a)∧QText x y a∧w.grownBy w' none:=by
 have mx:=h.zn.may (by decide)
 have my:=h.zd.may (by decide)
 obtain ⟨a,ha⟩:∃ a,TextOf x a:=rtext_ex mx h.zn.num
 obtain ⟨b,hb⟩:∃ b,TextOf y b:=rtext_ex my h.zd.num
 obtain ⟨hd,h3⟩:=isz_den h.zd.1 h.pos
 subst hd
 by_cases h4:y=1
 ·obtain rfl:=h3.1 h4
  refine (rtextq_one n s a w (fun w=>?_)).mono ?_
  ·refine (rText_any n s mx w).mono ?_
   rintro e w' ⟨a',rfl,ha',hg⟩
   rw [h.zn.num] at ha'
   rw [ha'.one ha]
   exact ⟨rfl,hg⟩
  ·rintro e w' ⟨rfl,hg⟩
   exact ⟨a,rfl,.inl ⟨h4,ha⟩,hg⟩
 ·refine (rtextq_two n s t (fun n' s'=>if n'=n∧s'=s then a else b) (list_one fun e=>h4 (h3.2 e)) ?_ ?_ w (fun n' s' w hq=>?_)).mono ?_
  ·simp only [if_true,and_self]; exact hs a ha
  ·split
   ·exact hs a ha
   ·exact ht b hb
  ·split
   ·rename_i he
    obtain ⟨rfl,rfl⟩:=he
    refine (rText_any _ _ mx w).mono ?_
    rintro e w' ⟨a',rfl,ha',hg⟩
    rw [h.zn.num] at ha'
    rw [ha'.one ha]
    exact ⟨rfl,hg⟩
   ·rename_i he
    rcases hq with hq | ⟨rfl,rfl⟩
    ·exact absurd hq he
    ·refine (rText_any _ _ my w).mono ?_
     rintro e w' ⟨a',rfl,ha',hg⟩
     rw [h.zd.num] at ha'
     rw [ha'.one hb]
     exact ⟨rfl,hg⟩
  ·rintro e w' ⟨rfl,hg⟩
   refine ⟨_,rfl,.inr ⟨h4,a,b,ha,hb,?_⟩,hg⟩
   simp only [and_self,if_true]
   congr 1
   split
   ·rename_i he
    obtain ⟨rfl,rfl⟩:=he
    have:=h.zn.num
    rw [h.zd.num] at this
    subst this
    exact ha.one hb
   ·rfl
end Go.Proofs.YtdcadiaeaclpgaaGreatDoor
