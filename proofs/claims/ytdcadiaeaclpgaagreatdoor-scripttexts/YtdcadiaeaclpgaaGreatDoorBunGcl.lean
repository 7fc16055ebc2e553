/-
  The program's gcd of long numbers.
  The program's Gcd of a list.
-/
import Derived.Test.YtdcadiaeaclpgaaGreatDoorBunWor
import Derived.Test.YtdcadiaeaclpgaaGreatDoorBunOps
import Derived.Test.YtdcadiaeaclpgaaGreatDoorBunRdn
import Derived.Test.YtdcadiaeaclpgaaGreatDoorBunTtm
import Derived.Test.YtdcadiaeaclpgaaGreatDoorBunGar
import Derived.Test.YtdcadiaeaclpgaaGreatDoorBunAll
namespace Go.Proofs.YtdcadiaeaclpgaaGreatDoor
open Go.RowKit Go.Lib Go.Sort
set_option linter.unusedVariables false
set_option maxHeartbeats 3200000
set_option maxRecDepth 1000000
def DgQ (w:World) (m:ByteArray) (v:Value) (w':World):Prop :=
 ∃ B L,v=.slice (some ⟨B,0,none⟩) L.length L.length∧w.heap.size≤B∧BlkL w' B 145 enc4 (ints L)∧w.grownBy w' none∧L.length=(m.size+3) / 4∧(∀ x∈L,x < B32)∧nv B32 L=val (bN m)
theorem DgQ.gr {w w':World} {m:ByteArray} {v:Value} (h:DgQ w m v w'):w.grownBy w' none:=by
 obtain ⟨B,L,_,_,_,hg,_⟩:=h
 exact hg
theorem dg_any (m:ByteArray) (hm:m.size≤16384) (w:World):Calls Tryz.prog 153 #[.string m] w fun e w'=>∃ v,e=.returned v∧DgQ w m v w':=by
 refine (digitsOf_any m hm w).mono ?_
 rintro e w' ⟨B,L,rfl,h1,h2,h3,h4,h5,h6⟩
 exact ⟨_,rfl,B,L,rfl,h1,h2,h3,h4,h5,h6⟩
def GdQ (w0:World) (g:Nat) (v:Value) (w':World):Prop :=
 ∃ a k cp L,v=.slice a k cp∧L.length=k∧D4 w' (.slice a k cp) L∧(∀ x∈L,x < B32)∧nv B32 L=g∧k≤5000∧w0.grownBy w' none
theorem GdQ.gr {w w':World} {g:Nat} {v:Value} (h:GdQ w g v w'):w.grownBy w' none:=by
 obtain ⟨a,k,cp,L,_,_,_,_,_,_,hg⟩:=h
 exact hg
theorem gd_any {n1 n2:Bool} {m1 m2:ByteArray} (h1:may n1 m1=true) (h2:may n2 m2=true) (wA wB wC:World) (va vb:Value) (hA:DgQ wA m1 va wB) (hB:DgQ wB m2 vb wC) :
    Calls Tryz.prog 178 #[va,vb] wC fun e w'=>∃ v,e=.returned v∧GdQ wA (Nat.gcd (val (bN m1)) (val (bN m2))) v w':=by
 have z1:=may_size h1
 have z2:=may_size h2
 obtain ⟨Ba,La,rfl,a1,a2,a3,a4,a5,a6⟩:=hA
 obtain ⟨Bb,Lb,rfl,b1,b2,b3,b4,b5,b6⟩:=hB
 have hsz:Ba < wB.heap.size:=(Array.getElem?_eq_some_iff.1 a2).1
 have ra:Row wC wA.heap.size (.slice (some ⟨Ba,0,none⟩) La.length La.length) La:=(a2.row a1 (by unfold maxLen; omega)).kept b3 (by simp [Value.ownBlock])
 have rb:Row wC wA.heap.size (.slice (some ⟨Bb,0,none⟩) Lb.length Lb.length) Lb:=b2.row (Nat.le_trans a3.size b1) (by unfold maxLen; omega)
 have ap:Apt (.slice (some ⟨Ba,0,none⟩) La.length La.length) (.slice (some ⟨Bb,0,none⟩) Lb.length Lb.length):=by
  right
  intro e
  have:Ba=Bb:=by simpa [Value.ownBlock] using e
  omega
 have hc:=gcdDigits_any wA wC 4097 _ _ La Lb (by omega) ra rb ap a5 b5 (trim_digits h1 a4 a5 a6) (trim_digits h2 b4 b5 b6) (by omega) (by omega) (grownBy_trans a3 b3)
 rw [a6,b6] at hc
 refine hc.mono ?_
 rintro e w' ⟨v,K,rfl,c1,c2,c3,c4,c5,c6⟩
 obtain ⟨a,cp,rfl⟩:=c1.slice
 exact ⟨_,rfl,a,_,cp,K,rfl,rfl,c1,c2,c3,by omega,c6⟩
theorem mg_any {w0 w:World} {g:Nat} {v:Value} (h:GdQ w0 g v w):Calls Tryz.prog 177 #[v] w fun e w'=>∃ s,e=.returned (.string s)∧bN s=magN g∧w.grownBy w' none:=by
 obtain ⟨a,k,cp,L,rfl,h1,h2,h3,h4,h5,_⟩:=h
 have:=magOf_any w a k cp L h1 h2 h3 (by omega)
 rw [h4] at this
 exact this
theorem gcd_long1 (n1 n2:Bool) (m1 m2:ByteArray) (h1:may n1 m1=true) (h2:may n2 m2=true) (h:8 < m1.size) (w:World) :
    Calls Tryz.prog 162 #[whole n1 m1,whole n2 m2] w fun e w'=>∃ s,e=.returned (whole false s)∧bN s=magN (Nat.gcd (val (bN m1)) (val (bN m2)))∧w.grownBy w' none:=by
 have s1:=may_size h1
 have s2:=may_size h2
 have GD:Hid (∀ wA wB wC va vb,DgQ wA m1 va wB→DgQ wB m2 vb wC→Calls Tryz.prog 178 #[va,vb] wC fun e w'=>∃ v,e=.returned v∧GdQ wA (Nat.gcd (val (bN m1)) (val (bN m2))) v w'):=fun wA wB wC va vb a b=>gd_any h1 h2 wA wB wC va vb a b
 clear h1 h2
 generalize Nat.gcd (val (bN m1)) (val (bN m2))=g at *
 go_enter Tryz.func162,Tryz.ntmps162
 go_wp2_with fail
 have HKK:Hid (∀ w',((w.alloc (wObj n1 m1)).alloc (wObj n2 m2)).grownBy w' none→w'.cell? ⟨w.heap.size,1,none⟩=some (Value.string m1)∧w'.cell? ⟨w.heap.size+1,1,none⟩=some (Value.string m2)∧((w.alloc (wObj n1 m1)).alloc (wObj n2 m2)).grownBy w' none) :=
  fun w' hg=>⟨grownBy_cell hg (WBlk.c1 (a:=.bool n1) (old_alloc _ _ (heap_alloc_new _ _))) (by simp),grownBy_cell hg (WBlk.c1 (a:=.bool n2) (heap_alloc2_new _ _ _)) (by simp),hg⟩
 go_region_held3 (fun w'=>w'.cell? ⟨w.heap.size,1,none⟩=some (Value.string m1)∧w'.cell? ⟨w.heap.size+1,1,none⟩=some (Value.string m2)∧((w.alloc (wObj n1 m1)).alloc (wObj n2 m2)).grownBy w' none)
  (first | (go_keep; done) | exact HKK.out _ (grow_drew (grow1 _ _)) | exact HKK.out _ (grown_set (grown_set (grownBy_trans (grow1 _ _) GM) (by simp)) (by simp)) | exact HKK.out _ (grownBy_trans (grow1 _ _) GM) | exact HKK.out _ (grownBy_trans (grow1 _ _) GG) | exact HKK.out _ (grownBy_trans (grow1 _ _) G2) | exact HKK.out _ (grownBy_trans (grow1 _ _) G1) | fail)
  (first | (go_at_call 153; refine (dg_any _ (by first | exact s1 | exact s2) _).mono ?_; rintro e wD ⟨v,rfl,hD⟩; (first | (have hAB:=And.intro hD1 hD; have G2:((((w.alloc (wObj n1 m1)).alloc (wObj n2 m2)).alloc (wObj false eS))).grownBy wD none:=grownBy_trans G1 hD.gr) | (have hD1:=hD; have G1:((((w.alloc (wObj n1 m1)).alloc (wObj n2 m2)).alloc (wObj false eS))).grownBy wD none:=grownBy_undrew hD.gr))) | (go_at_call 178; refine (GD.out _ _ _ _ _ hAB.1 hAB.2).mono ?_; rintro e wG ⟨vg,rfl,hgG⟩; have GG:((((w.alloc (wObj n1 m1)).alloc (wObj n2 m2)).alloc (wObj false eS))).grownBy wG none:=grownBy_undrew hgG.gr) | (go_at_call 177; refine (mg_any hgG).mono ?_; rintro e wM ⟨s,rfl,hs,hgM⟩; have GM:((((w.alloc (wObj n1 m1)).alloc (wObj n2 m2)).alloc (wObj false eS))).grownBy wM none:=grownBy_trans GG hgM; have hW:WBlk wM (w.heap.size+2) (.bool false) (.string eS):=WBlk.kept (w:=(((w.alloc (wObj n1 m1)).alloc (wObj n2 m2)).alloc (wObj false eS))) (at_alloc3 _ _ _ _) GM (by simp); have hc0:=hW.c0; have hc1:=hW.c1; have hf0:=hW.fr 0; have hf1:=hW.fr 1) | fail)
 go_wp2_with fail
 refine bodyPost_ret (res_cell rfl _ _ (w.heap.size+2) _ _ _ _ rfl (hW.put _ _)) rfl ?_
 exact ⟨s,rfl,hs,grown_set (grown_set (grownBy_trans (grow3 _ _ _ _) GM) (by omega)) (by omega)⟩
theorem gcd_long2 (n1 n2:Bool) (m1 m2:ByteArray) (h1:may n1 m1=true) (h2:may n2 m2=true) (h0:m1.size≤8) (h:8 < m2.size) (w:World) :
    Calls Tryz.prog 162 #[whole n1 m1,whole n2 m2] w fun e w'=>∃ s,e=.returned (whole false s)∧bN s=magN (Nat.gcd (val (bN m1)) (val (bN m2)))∧w.grownBy w' none:=by
 have s1:=may_size h1
 have s2:=may_size h2
 have GD:Hid (∀ wA wB wC va vb,DgQ wA m1 va wB→DgQ wB m2 vb wC→Calls Tryz.prog 178 #[va,vb] wC fun e w'=>∃ v,e=.returned v∧GdQ wA (Nat.gcd (val (bN m1)) (val (bN m2))) v w'):=fun wA wB wC va vb a b=>gd_any h1 h2 wA wB wC va vb a b
 clear h1 h2
 generalize Nat.gcd (val (bN m1)) (val (bN m2))=g at *
 go_enter Tryz.func162,Tryz.ntmps162
 go_wp2_with fail
 have HKK:Hid (∀ w',((w.alloc (wObj n1 m1)).alloc (wObj n2 m2)).grownBy w' none→w'.cell? ⟨w.heap.size,1,none⟩=some (Value.string m1)∧w'.cell? ⟨w.heap.size+1,1,none⟩=some (Value.string m2)∧((w.alloc (wObj n1 m1)).alloc (wObj n2 m2)).grownBy w' none) :=
  fun w' hg=>⟨grownBy_cell hg (WBlk.c1 (a:=.bool n1) (old_alloc _ _ (heap_alloc_new _ _))) (by simp),grownBy_cell hg (WBlk.c1 (a:=.bool n2) (heap_alloc2_new _ _ _)) (by simp),hg⟩
 go_region_held3 (fun w'=>w'.cell? ⟨w.heap.size,1,none⟩=some (Value.string m1)∧w'.cell? ⟨w.heap.size+1,1,none⟩=some (Value.string m2)∧((w.alloc (wObj n1 m1)).alloc (wObj n2 m2)).grownBy w' none)
  (first | (go_keep; done) | exact HKK.out _ (grow_drew (grow1 _ _)) | exact HKK.out _ (grown_set (grown_set (grownBy_trans (grow1 _ _) GM) (by simp)) (by simp)) | exact HKK.out _ (grownBy_trans (grow1 _ _) GM) | exact HKK.out _ (grownBy_trans (grow1 _ _) GG) | exact HKK.out _ (grownBy_trans (grow1 _ _) G2) | exact HKK.out _ (grownBy_trans (grow1 _ _) G1) | fail)
  (first | (go_at_call 153; refine (dg_any _ (by first | exact s1 | exact s2) _).mono ?_; rintro e wD ⟨v,rfl,hD⟩; (first | (have hAB:=And.intro hD1 hD; have G2:((((w.alloc (wObj n1 m1)).alloc (wObj n2 m2)).alloc (wObj false eS))).grownBy wD none:=grownBy_trans G1 hD.gr) | (have hD1:=hD; have G1:((((w.alloc (wObj n1 m1)).alloc (wObj n2 m2)).alloc (wObj false eS))).grownBy wD none:=grownBy_undrew hD.gr))) | (go_at_call 178; refine (GD.out _ _ _ _ _ hAB.1 hAB.2).mono ?_; rintro e wG ⟨vg,rfl,hgG⟩; have GG:((((w.alloc (wObj n1 m1)).alloc (wObj n2 m2)).alloc (wObj false eS))).grownBy wG none:=grownBy_undrew hgG.gr) | (go_at_call 177; refine (mg_any hgG).mono ?_; rintro e wM ⟨s,rfl,hs,hgM⟩; have GM:((((w.alloc (wObj n1 m1)).alloc (wObj n2 m2)).alloc (wObj false eS))).grownBy wM none:=grownBy_trans GG hgM; have hW:WBlk wM (w.heap.size+2) (.bool false) (.string eS):=WBlk.kept (w:=(((w.alloc (wObj n1 m1)).alloc (wObj n2 m2)).alloc (wObj false eS))) (at_alloc3 _ _ _ _) GM (by simp); have hc0:=hW.c0; have hc1:=hW.c1; have hf0:=hW.fr 0; have hf1:=hW.fr 1) | fail)
 go_wp2_with fail
 refine bodyPost_ret (res_cell rfl _ _ (w.heap.size+2) _ _ _ _ rfl (hW.put _ _)) rfl ?_
 exact ⟨s,rfl,hs,grown_set (grown_set (grownBy_trans (grow3 _ _ _ _) GM) (by omega)) (by omega)⟩
theorem gcd_any (n1 n2:Bool) (m1 m2:ByteArray) (h1:may n1 m1=true) (h2:may n2 m2=true) (w:World) :
    Calls Tryz.prog 162 #[whole n1 m1,whole n2 m2] w fun e w'=>∃ s,e=.returned (whole false s)∧bN s=magN (Nat.gcd (val (bN m1)) (val (bN m2)))∧w.grownBy w' none:=by
 rcases Nat.lt_or_ge 8 m1.size with k | k
 ·exact gcd_long1 n1 n2 m1 m2 h1 h2 k w
 ·rcases Nat.lt_or_ge 8 m2.size with k2 | k2
  ·exact gcd_long2 n1 n2 m1 m2 h1 h2 k k2 w
  ·exact gcd_small n1 n2 m1 m2 k k2 w
def gcdL (l:List (Bool × ByteArray)):Nat:=l.foldl (fun g p=>Nat.gcd g (val (bN p.2))) 0
theorem gcdL_take (l:List (Bool × ByteArray)) (k:Nat) (p:Bool × ByteArray) (h:l[k]?=some p):gcdL (l.take (k+1))=Nat.gcd (gcdL (l.take k)) (val (bN p.2)):=by
 rw [List.take_add_one,h]
 simp [gcdL]
theorem gcd_bl {a b k:Nat} (ha:bl a≤k) (hb:bl b≤k):bl (Nat.gcd a b)≤k:=by
 rcases Nat.eq_zero_or_pos b with h | h
 ·subst h; simpa using ha
 ·exact Nat.le_trans (bl_mono (Nat.le_of_dvd h (Nat.gcd_dvd_right a b))) hb
theorem may_bl {n:Bool} {m:ByteArray} (h:may n m=true):bl (val (bN m))≤131072:=by
 obtain ⟨K,hK⟩:∃ K,K=8*16384:=⟨_,rfl⟩
 have:=(bl_max h K hK).2
 omega
theorem gcdL_bl:∀ (l:List (Bool × ByteArray)) (g:Nat),bl g≤131072→(∀ p∈l,may p.1 p.2=true)→bl (l.foldl (fun g p=>Nat.gcd g (val (bN p.2))) g)≤131072
 |[],g,h,_=>h
 |p :: l,g,h,hm=>gcdL_bl l _ (gcd_bl h (may_bl (hm p (by simp)))) (fun q hq=>hm q (by simp [hq]))
theorem gcd_may {g:Nat} {s:ByteArray} (hs:bN s=magN g) (hb:bl g≤131072):may false s=true∧val (bN s)=g:=by
 refine ⟨IsZ.may (z:=(g:Int)) ⟨by symm; exact decide_eq_false (by omega),by rw [Int.natAbs_natCast]; exact hs⟩ (by rw [Int.natAbs_natCast]; exact hb),?_⟩
 rw [hs,val_magN]
theorem gcdL_bad (w:World) (v:Value) (l:List (Bool × ByteArray)) (h:DW w v l) (hl:l.length≤100000) (hs:∀ p∈l,p.2.size≤maxLen) (hm:mayAll l=false) :
    Calls Tryz.prog 141 #[v] w fun e w'=>e=.returned (.tuple #[whole false eS,.int .i64 2])∧w.grownBy w' none:=by
 have hC:∀ w1,w.grownBy w1 none→Calls Tryz.prog 161 #[v] w1 fun e w'=>e=.returned (.int .i64 2)∧w1.grownBy w' none:=fun w1 hg=>by
  have:=checkAll_any w1 v l (h.kept hg) (by omega) hs
  rw [if_neg (by simp [hm])] at this
  exact this
 have HC:Hid (∀ w1,w.grownBy w1 none→Calls Tryz.prog 161 #[v] w1 fun e w'=>e=.returned (.int .i64 2)∧w1.grownBy w' none):=hC
 obtain ⟨B,off,c,rfl,_,_⟩:=h
 clear hC hs hm
 go_enter Tryz.func141,Tryz.ntmps141
 go_wp2_with fail
 refine (HC.out _ (grow1 _ _)).mono ?_
 rintro e w1 ⟨rfl,hg⟩
 go_wp2_with fail
 refine (zero_any w1).mono ?_
 rintro e w2 ⟨rfl,hw2⟩
 have hg2:(w.alloc (wObj false eS)).grownBy w2 none:=by rw [hw2]; exact grownBy_trans hg (grow1 _ _)
 have hb:WBlk w2 w.heap.size (.bool false) (.string eS):=WBlk.kept (w:=w.alloc (wObj false eS)) (heap_alloc_new _ _) hg2 (by simp)
 have hc0:=hb.c0
 have hc1:=hb.c1
 have hf0:=hb.fr 0
 have hf1:=hb.fr 1
 have HG:Hid ((w.alloc (wObj false eS)).grownBy w2 none):=hg2
 clear hg hg2 hw2
 go_wp2_with fail
 refine bodyPost_ret (res_cell_tmp rfl _ _ w.heap.size _ _ _ _ rfl (hb.put _ _)) rfl ?_
 exact ⟨rfl,grown_set (grown_set (grownBy_trans (grow1 _ _) HG.out) (Nat.le_refl _)) (Nat.le_refl _)⟩
def GlI (w wr:World) (l:List (Bool × ByteArray)) (k B:Nat):Prop :=
 ∃ s,WBlk wr B (.bool false) (.string s)∧bN s=magN (gcdL (l.take k))∧w.grownBy wr none
theorem gcdL_any (w:World) (v:Value) (l:List (Bool × ByteArray)) (h:DW w v l) (hl:l.length≤100000) (hm:mayAll l=true) :
    Calls Tryz.prog 141 #[v] w fun e w'=>∃ s,e=.returned (.tuple #[whole false s,.int .i64 0])∧bN s=magN (gcdL l)∧w.grownBy w' none:=by
 have hmay:∀ p∈l,may p.1 p.2=true:=fun p hp=>by
  have:=hm
  unfold mayAll at this
  exact List.all_eq_true.1 this p hp
 have hs:∀ p∈l,p.2.size≤maxLen:=fun p hp=>by have:=may_size (hmay p hp); unfold maxLen; omega
 have hC:∀ w1,w.grownBy w1 none→Calls Tryz.prog 161 #[v] w1 fun e w'=>e=.returned (.int .i64 0)∧w1.grownBy w' none:=fun w1 hg=>by
  have:=checkAll_any w1 v l (h.kept hg) (by omega) hs
  rw [if_pos hm] at this
  exact this
 have HC:Hid (∀ w1,w.grownBy w1 none→Calls Tryz.prog 161 #[v] w1 fun e w'=>e=.returned (.int .i64 0)∧w1.grownBy w' none):=hC
 have HM:Hid (∀ p∈l,may p.1 p.2=true):=hmay
 obtain ⟨B,off,c,rfl,hc,hcs⟩:=h
 have HCS:Hid (∀ j p,l[j]?=some p→w.cell? ⟨B,off+j*2,none⟩=some (.bool p.1)∧w.cell? ⟨B,off+j*2+1,none⟩=some (.string p.2)):=hcs
 obtain ⟨n,hn⟩:∃ n,l.length=n:=⟨_,rfl⟩
 have HN:Unit→l.length=n:=fun _=>hn
 rw [hn] at hc hl HC ⊢
 have hnI:(n:Int)≤100000:=by omega
 clear hC hs hm hmay hcs hn hl
 go_enter Tryz.func141,Tryz.ntmps141
 go_wp2_with fail
 refine (HC.out _ (grow1 _ _)).mono ?_
 rintro e w1 ⟨rfl,hg⟩
 have HG:Hid ((w.alloc (wObj false eS)).grownBy w1 none):=hg
 clear hg HC
 go_wp2_with fail
 refine (zero_any w1).mono ?_
 rintro e w2 ⟨rfl,hw2⟩
 obtain rfl:=hw2
 have hBB:w.heap.size+1≤w1.heap.size+1:=by have:=HG.out.size; simp at this; omega
 go_wp2_with fail
 go_loopw [14] (fun t wr=>∃ k:Nat,k≤n∧t=.int .i64 (k:Int)∧GlI (w.alloc (wObj false eS)) wr l k (w1.heap.size+1)) (fun t _=>n - (RowKit.intOf t).toNat)
 case atStart=>exact ⟨0,by omega,rfl,eS,heap_alloc2_new _ _ _,by simp [gcdL,magN_zero,bN],grownBy_trans HG.out (grow2 _ _ _)⟩
 case round =>
  obtain ⟨k,hk,rfl,s,hW,hs,hg⟩:=hrel
  have HG1:Hid ((w.alloc (wObj false eS)).grownBy wr none):=hg
  have HW:Hid (WBlk wr (w1.heap.size+1) (.bool false) (.string s)):=hW
  have HS:Hid (bN s=magN (gcdL (l.take k))):=hs
  by_cases hk1:k < n
  ·have hkl:k < l.length:=by rw [HN ()]; exact hk1
   have hp:l[k]?=some l[k]:=List.getElem?_eq_getElem hkl
   have hcs:=HCS.out k _ hp
   have hgw:=grownBy_trans (grow1 w (wObj false eS)) hg
   have hc1:=grownBy_cell hgw hcs.1 (by simp)
   have hc2:=grownBy_cell hgw hcs.2 (by simp)
   have hmp:=HM.out l[k] (List.getElem_mem hkl)
   have hbl:bl (gcdL (l.take k))≤131072:=gcdL_bl _ 0 (by decide) (fun q hq=>HM.out q (List.mem_of_mem_take hq))
   have hms:=gcd_may hs hbl
   have hst:=gcdL_take l k _ hp
   generalize l[k]=p at *
   obtain ⟨neg,mag⟩:=p
   simp only at hc1 hc2 hmp hst
   have hGC:∀ w2,Calls Tryz.prog 162 #[whole false s,whole neg mag] w2 fun e w'=>∃ s',e=.returned (whole false s')∧bN s'=magN (gcdL (l.take (k+1)))∧w2.grownBy w' none:=fun w2=>by
    have:=gcd_any false neg s mag hms.1 hmp w2
    rw [hms.2,← hst] at this
    exact this
   have HGC:Hid (∀ w2,Calls Tryz.prog 162 #[whole false s,whole neg mag] w2 fun e w'=>∃ s',e=.returned (whole false s')∧bN s'=magN (gcdL (l.take (k+1)))∧w2.grownBy w' none):=hGC
   clear hgw hcs hp hst hg hs hbl hms hGC hmp hW
   have ha:=HW.out.c0
   have hb:=HW.out.c1
   have hlt:=HW.out.lt
   go_wp2_with fail
   refine (HGC.out _).mono ?_
   rintro e w2 ⟨s',rfl,hs',g2⟩
   have hW2:WBlk w2 (w1.heap.size+1) (.bool false) (.string s):=HW.out.kept (grownBy_trans (grow1 _ _) g2) (by simp)
   have HG2:Hid ((w.alloc (wObj false eS)).grownBy w2 none):=grownBy_trans HG1.out (grownBy_trans (grow1 _ _) g2)
   have HS2:Hid (bN s'=magN (gcdL (l.take (k+1)))):=hs'
   have HW2:Hid (WBlk w2 (w1.heap.size+1) (.bool false) (.string s)):=hW2
   clear ha hb hlt g2 hs' hW2 hc1 hc2
   have ha:=HW2.out.c0
   have hb:=HW2.out.c1
   have hf0:=HW2.out.fr 0
   have hf1:=HW2.out.fr 1
   go_wp2_with fail
   go_roundw
   case rel=>exact ⟨k+1,by omega,rfl,s',HW2.out.put _ _,HS2.out,grown_set (grown_set HG2.out (by simp; omega)) (by simp; omega)⟩
   case measure=>simp [RowKit.intOf]; omega
  ·obtain rfl:k=n:=by omega
   have hs2:bN s=magN (gcdL l):=by rw [hs,List.take_of_length_le (by rw [HN ()]; exact Nat.le_refl _)]
   have HS2:Hid (bN s=magN (gcdL l)):=hs2
   have hR:WBlk wr w.heap.size (.bool false) (.string eS):=WBlk.kept (w:=w.alloc (wObj false eS)) (heap_alloc_new _ _) hg (by simp)
   have HR:Hid (WBlk wr w.heap.size (.bool false) (.string eS)):=hR
   clear hs hs2 hg hW hR
   have ha:=HW.out.c0
   have hb:=HW.out.c1
   have hc0:=HR.out.c0
   have hc1:=HR.out.c1
   have hf0:=HR.out.fr 0
   have hf1:=HR.out.fr 1
   go_wp2_with fail
   refine bodyPost_ret (res_cell_tmp rfl _ _ w.heap.size _ _ _ _ rfl (HR.out.put _ _)) rfl ?_
   exact ⟨s,rfl,HS2.out,grown_set (grown_set (grownBy_trans (grow1 _ _) HG1.out) (Nat.le_refl _)) (Nat.le_refl _)⟩
end Go.Proofs.YtdcadiaeaclpgaaGreatDoor
