/-
  The document's fits: is a digit times a divisor at most what stands in a window.
-/
import Derived.Deep.CutRange
import Derived.Test.YtdcadiaeaclpgaaGreatDoorFri
import Derived.Test.YtdcadiaeaclpgaaGreatDoorBunFrk
import Derived.Test.YtdcadiaeaclpgaaGreatDoorBunFrb
import Derived.Deep.RegionWith
import Derived.Test.YtdcadiaeaclpgaaGreatDoorBunRdn
import Derived.Test.YtdcadiaeaclpgaaGreatDoorBunRed
import Derived.Test.YtdcadiaeaclpgaaGreatDoorBunAll
import Derived.Test.YtdcadiaeaclpgaaGreatDoorBunTtm
import Derived.Test.YtdcadiaeaclpgaaGreatDoorBunPrd
namespace Go.Proofs.YtdcadiaeaclpgaaGreatDoor
open Go.RowKit Go.Lib Go.Sort
set_option linter.unusedVariables false
theorem zero_z:IsZ 0 false eS:=⟨rfl,by rw [show Int.natAbs 0=0 from rfl,magN_zero]; rfl⟩
end Go.Proofs.YtdcadiaeaclpgaaGreatDoor
namespace Go.Proofs.YtdcadiaeaclpgaaGreatDoor
open Go.RowKit Go.Lib Go.Sort
set_option maxHeartbeats 1600000
set_option maxRecDepth 1000000
theorem BlkL.win {w:World} {B:Nat} {M:List Nat} (h:BlkL w B 145 enc4 (ints M)) (a k c:Nat) (hk:a+k≤M.length) (hc:k≤c):D4 w (.slice (some ⟨B,a,none⟩) k c) ((M.drop a).take k):=by
 have hl:((M.drop a).take k).length=k:=by rw [List.length_take,List.length_drop]; omega
 refine .inr ⟨B,a,c,by rw [hl],by omega,fun j hj=>?_⟩
 rw [hl] at hj
 have:=h.cell (a+j) (by rw [ints_length]; omega)
 rw [ints_at] at this
 rw [this,List.getElem?_take,if_pos hj,List.getElem?_drop]
theorem fits_blk (w:World) (B R j n g:Nat) (vv:Value) (U V X:List Nat) (hX:(U.drop j).take (n+1)=X) (hB:BlkL w B 145 enc4 (ints U)) (hU:∀ x∈U,x < B32) (hR:U.length=R) (hR9:R≤1000000) (hV:D4 w vv V) (rV:∀ x∈V,x < B32) (hn:V.length=n) (hj:j+n+1≤R) (hg:g≤4294967295) :
    Calls Tryz.prog 182 #[.slice (some ⟨B,0,none⟩) R R,vv,.int .i64 (j:Int),.int .u64 (g:Int)] w fun e w'=>e=.returned (.bool (decide (g*nv B32 V≤nv B32 X)))∧w.grownBy w' none:=by
 have HXX:Hid ((U.drop j).take (n+1)=X):=hX
 clear hX
 obtain ⟨av,cv,rfl⟩:=hV.slice
 rw [hn] at hV ⊢
 have hgI:(g:Int)≤4294967295:=by omega
 have hw1:IntKind.u32.wrap (g:Int)=(g:Int):=by rw [IntKind.wrap_u32]; omega
 have hw2:(g:Int) % 4294967296=(g:Int):=by omega
 have hnI:(n:Int)≤1000000:=by omega
 have hjI:(j:Int)+(n:Int)+1≤R:=by omega
 have hRI:(R:Int)≤1000000:=by omega
 have hb1:BlkL (w.alloc (.cells #[.int .u32 (g:Int)] 145)) w.heap.size 145 enc4 (ints [g]):=heap_alloc_new _ _
 have hP:=product_any (w.alloc (.cells #[.int .u32 (g:Int)] 145)) (.slice (some ⟨w.heap.size,0,none⟩) 1 1) (.slice av n cv) [g] V hb1.d4 (hV.kept (grow1 _ _)) (by intro x hx; simp at hx; subst hx; simp only [B32]; omega) rV (by simp) (by omega)
 have HP:Hid (Calls Tryz.prog 129 #[.slice (some ⟨w.heap.size,0,none⟩) 1 1,.slice av n cv] (w.alloc (.cells #[.int .u32 (g:Int)] 145)) fun e w'=>∃ v K,e=.returned v∧D4 w' v K∧(∀ x∈K,x < B32)∧nv B32 K=nv B32 [g]*nv B32 V∧K.length≤[g].length+V.length∧Trim K∧(w.alloc (.cells #[.int .u32 (g:Int)] 145)).grownBy w' none):=hP
 have HB:Hid (BlkL w B 145 enc4 (ints U)∧(∀ x∈U,x < B32)∧U.length=R∧V.length=n∧j+n+1≤R):=⟨hB,hU,hR,hn,hj⟩
 clear hB hU hR hV rV hn hb1 hP hR9
 go_enter Tryz.func182,Tryz.ntmps182
 go_wp2_with fail
 refine HP.out.mono ?_
 rintro e w1 ⟨v1,K1,rfl,d1,r1,n1,l1,t1,g1⟩
 have hG1:w.grownBy w1 none:=grownBy_trans (grow1 _ _) g1
 have H1:Hid (D4 w1 v1 K1∧(∀ x∈K1,x < B32)∧nv B32 K1=g*nv B32 V∧K1.length≤1000002∧Trim K1∧w.grownBy w1 none):=⟨d1,r1,by rw [n1]; simp [nv],by have:=HB.out; simp at l1; omega,t1,hG1⟩
 clear d1 r1 n1 l1 t1 g1 hG1 HP
 go_wp2_with fail
 rw [show j+n+1 - j=n+1 by omega]
 have hb:=HB.out
 have hD2:=(hb.1.kept H1.out.2.2.2.2.2 (by simp)).win j (n+1) (R - j) (by omega) (by omega)
 have hr2:∀ x∈(U.drop j).take (n+1),x < B32:=fun x hx=>hb.2.1 x (List.mem_of_mem_drop (List.mem_of_mem_take hx))
 have hl2:((U.drop j).take (n+1)).length=n+1:=by rw [List.length_take,List.length_drop]; omega
 have hC:=cut_any w1 _ _ hD2 hr2 (by omega)
 have HC:Hid (Calls Tryz.prog 130 #[.slice (some ⟨B,j,none⟩) (n+1) (R - j)] w1 fun e w'=>∃ v' k,e=.returned v'∧k≤((U.drop j).take (n+1)).length∧D4 w1 v' (((U.drop j).take (n+1)).take k)∧nv B32 (((U.drop j).take (n+1)).take k)=nv B32 ((U.drop j).take (n+1))∧(k=0∨(((U.drop j).take (n+1)).take k)[k - 1]?.getD 0≠0)∧w'=w1):=hC
 have HX:Hid ((∀ x∈(U.drop j).take (n+1),x < B32)∧((U.drop j).take (n+1)).length=n+1):=⟨hr2,hl2⟩
 rw [HXX.out] at HC HX
 clear hb hD2 hr2 hl2 hC
 refine HC.out.mono ?_
 rintro e w2 ⟨v2,k,rfl,hk,d2,n2,t2,hw2⟩
 subst hw2
 have hT:Trim (X.take k):=by
  rcases t2 with h | h
  ·left; rw [h]; rfl
  ·right
   have e:(X.take k).length=k:=by rw [List.length_take,Nat.min_eq_left hk]
   rw [e]; exact h
 have hN:=under_any w2 v1 v2 K1 (X.take k) H1.out.1 d2 H1.out.2.1 (fun x hx=>HX.out.1 x (List.mem_of_mem_take hx)) H1.out.2.2.2.2.1 hT (by have:=H1.out.2.2.2.1; omega) (by have:=HX.out.2; rw [List.length_take]; omega)
 rw [H1.out.2.2.1,n2] at hN
 obtain ⟨c,hc⟩:∃ c,cmpN (g*nv B32 V) (nv B32 X)=c:=⟨_,rfl⟩
 rw [hc] at hN
 have HN:Hid (Calls Tryz.prog 179 #[v1,v2] w2 fun e w'=>e=.returned (.int .i64 c)∧w2.grownBy w' none):=hN
 have HCC:Hid (decide (c≤0)=decide (g*nv B32 V≤nv B32 X)):=(by
  refine decide_eq_decide.2 ?_
  rw [← hc]
  unfold cmpN
  constructor <;> intro h <;> (repeat' split at h) <;> (try omega) <;> (repeat' split) <;> omega:decide (c≤0)=decide (g*nv B32 V≤nv B32 X))
 clear hk d2 n2 t2 hT hN hc HC
 go_wp2_with fail
 refine HN.out.mono ?_
 rintro e w3 ⟨rfl,g3⟩
 have HG3:Hid (w.grownBy w3 none):=grownBy_trans H1.out.2.2.2.2.2 g3
 clear g3 HN
 go_wp2_with fail
 go_ret
 exact ⟨ret_bool HCC.out,HG3.out⟩
end Go.Proofs.YtdcadiaeaclpgaaGreatDoor
