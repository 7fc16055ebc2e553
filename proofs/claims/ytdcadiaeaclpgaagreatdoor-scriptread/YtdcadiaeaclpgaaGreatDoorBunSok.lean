/-
  What both read, in one form; shapes of arguments that may be written.
  An argument written over with the empty one: twelve stores as one.
  The law ScriptRead: its walk.
-/
import Derived.Test.YtdcadiaeaclpgaaGreatDoorSoj
import Derived.Test.YtdcadiaeaclpgaaGreatDoorBunSrr
import Derived.Test.YtdcadiaeaclpgaaGreatDoorScy
namespace Go.Proofs.YtdcadiaeaclpgaaGreatDoor
open Go Go.RowKit Go.Lib Go.Sort
set_option linter.unusedVariables false
set_option linter.unusedSimpArgs false
set_option maxHeartbeats 6400000
set_option maxRecDepth 1000000
noncomputable def rdS (L:List UInt8):St:=match stU L with
 |some s=>s
 |none=>⟨eS,eS,[]⟩
noncomputable def rdC (L:List UInt8):Int:=match stU L with
 |some _=>0
 |none=>400
theorem rdA_is {L:List UInt8} {w:World} {base:Nat} {e:Ending} (h:rdA L w base e):∃ ab c,e=.returned (.tuple #[.agg #[.string (rdS L).vb,.string (rdS L).nm,.slice ab (rdS L).ags.length c],.int .i64 (rdC L)])∧AgsF w base (.slice ab (rdS L).ags.length c) (rdS L).ags:=by
 unfold rdA at h
 unfold rdS rdC
 cases hs:stU L with
 |none =>
  rw [hs] at h
  exact ⟨none,0,h,.inl ⟨rfl,rfl⟩⟩
 |some s =>
  rw [hs] at h
  exact h
theorem rdS_fit {L:List UInt8} (hL:L.length≤6000):(rdS L).Fit:=by
 unfold rdS
 cases hs:stU L with
 |none=>exact ⟨(show eS.size≤maxLen by decide),(show eS.size≤maxLen by decide),by simp,fun a ha=>by simp at ha⟩
 |some s =>
  have h:=read_same L
  rw [hs] at h
  split at h
  ·obtain rfl:=Option.some.inj h
   exact stG_fit hL
  ·cases h
def WShp (lo hi:Nat) (wr:World) (u:Value):Prop:=∃ ab n c,u=.slice ab n c∧n≤maxLen∧(n=0∨∃ B off cur,ab=some ⟨B,off,none⟩∧lo≤B∧B < hi∧wr.heap[B]?=some (.cells cur 3 (0,0))∧off+n≤cur.size)
def AShp (lo hi:Nat) (wr:World) (B n:Nat):Prop:=∃ cur,lo≤B∧B < hi∧wr.heap[B]?=some (.cells cur 45 (0,0))∧n*12≤cur.size∧∀ j,j < n→∃ u,cur[j*12+10]?=some u∧WShp lo hi wr u
theorem WShp.old {lo hi:Nat} {w1 w2:World} {u:Value} (h:WShp lo hi w1 u) (hk:∀ B cur,lo≤B→B < hi→w1.heap[B]?=some (.cells cur 3 (0,0))→∃ cur',w2.heap[B]?=some (.cells cur' 3 (0,0))∧cur'.size=cur.size):WShp lo hi w2 u:=by
 obtain ⟨ab,n,c,rfl,hm,h⟩:=h
 refine ⟨ab,n,c,rfl,hm,?_⟩
 rcases h with h | ⟨B,off,cur,h1,h2,h3,h4,h5⟩
 ·exact .inl h
 ·obtain ⟨cur',h6,h7⟩:=hk B cur h2 h3 h4
  exact .inr ⟨B,off,cur',h1,h2,h3,h6,by omega⟩
theorem AShp.kept {lo hi:Nat} {w1 w2:World} {B n:Nat} (h:AShp lo hi w1 B n) (hg:w1.grownBy w2 none):AShp lo hi w2 B n:=by
 obtain ⟨cur,h1,h2,h3,h4,h5⟩:=h
 refine ⟨cur,h1,h2,(hg.block B (heap_lt h3) (by simp)).trans h3,h4,fun j hj=>?_⟩
 obtain ⟨u,h6,h7⟩:=h5 j hj
 exact ⟨u,h6,h7.old (fun W cw _ _ hW=>⟨cw,(hg.block W (heap_lt hW) (by simp)).trans hW,rfl⟩)⟩
theorem AShp.put {lo hi:Nat} {wr:World} {B n W p:Nat} {cw:Array Value} {x:Value} (h:AShp lo hi wr B n) (hW:wr.heap[W]?=some (.cells cw 3 (0,0))):AShp lo hi (wr.setCell ⟨W,p,none⟩ x) B n:=by
 obtain ⟨cur,h1,h2,h3,h4,h5⟩:=h
 have hne:W≠B:=by
  rintro rfl
  rw [hW] at h3
  injection h3 with h3
  injection h3 with _ h6
  revert h6
  decide
 refine ⟨cur,h1,h2,?_,h4,fun j hj=>?_⟩
 ·simp [World.setCell,Array.getElem?_modify,hne,h3]
 ·obtain ⟨u,h6,h7⟩:=h5 j hj
  refine ⟨u,h6,h7.old (fun V cv _ _ hV=>?_)⟩
  by_cases e:W=V
  ·subst e
   refine ⟨cv.setIfInBounds p x,?_,by simp⟩
   simp [World.setCell,Array.getElem?_modify,hV]
  ·exact ⟨cv,by simp [World.setCell,Array.getElem?_modify,e,hV],rfl⟩
theorem ags_shape {w:World} {base:Nat} {ab:Option Addr} {n c:Nat} {G:List Ag} (h:AgsF w base (.slice ab n c) G) (hn:n=G.length):n=0∨∃ B,ab=some ⟨B,0,none⟩∧AShp base w.heap.size w B n:=by
 rcases h with ⟨e,h0⟩ | ⟨B,c',cur,e,h1,h2,h3,h4,h5,h6⟩
 ·injection e with _ e2 _
  exact .inl e2
 ·injection e with e1 e2 e3
  refine .inr ⟨B,e1,cur,h1,heap_lt h2,h2,by rw [hn]; omega,fun j hj=>?_⟩
  obtain ⟨a,ha⟩:∃ a,G[j]?=some a:=⟨_,List.getElem?_eq_getElem (by omega)⟩
  obtain ⟨u,hu,hx⟩:=h6 j a ha
  refine ⟨u,(hx 10 (by omega)).trans rfl,?_⟩
  rcases hu with ⟨rfl,_⟩ | ⟨B2,off,c2,cur2,rfl,k1,k2,k3,k4,k5,_⟩
  ·exact ⟨none,0,0,rfl,by decide,.inl rfl⟩
  ·exact ⟨_,_,_,rfl,Nat.le_trans k3 k4,.inr ⟨B2,off,cur2,rfl,k1,heap_lt k2,k2,by omega⟩⟩
theorem AShp.zero {lo hi:Nat} {wr w2:World} {B n i:Nat} (h:AShp lo hi wr B n) (hi':i < n)
    (hB:∀ cur,wr.heap[B]?=some (.cells cur 45 (0,0))→∃ cur',w2.heap[B]?=some (.cells cur' 45 (0,0))∧cur'.size=cur.size∧cur'[i*12+10]?=some (.slice none 0 0)∧∀ j,j≠i→cur'[j*12+10]?=cur[j*12+10]?)
    (hk:∀ k,k≠B→w2.heap[k]?=wr.heap[k]?):AShp lo hi w2 B n:=by
 obtain ⟨cur,h1,h2,h3,h4,h5⟩:=h
 obtain ⟨cur',g1,g2,g3,g4⟩:=hB cur h3
 refine ⟨cur',h1,h2,g1,by omega,fun j hj=>?_⟩
 by_cases e:j=i
 ·subst e
  exact ⟨_,g3,none,0,0,rfl,by decide,.inl rfl⟩
 ·obtain ⟨u,h6,h7⟩:=h5 j hj
  refine ⟨u,by rw [g4 j e]; exact h6,h7.old (fun V cv _ _ hV=>?_)⟩
  have hne:V≠B:=by
   rintro rfl
   rw [hV] at h3
   injection h3 with h3
   injection h3 with _ h6
   revert h6
   decide
  exact ⟨cv,by rw [hk V hne]; exact hV,rfl⟩
def zA (wr:World) (B o:Nat):World:=((((((((((((wr.setCell ⟨B,o,none⟩ (.int .i64 0)).setCell ⟨B,o+1,none⟩ (.string eS)).setCell ⟨B,o+2,none⟩ (.bool false)).setCell ⟨B,o+3,none⟩ (.string eS)).setCell ⟨B,o+4,none⟩ (.bool false)).setCell ⟨B,o+5,none⟩ (.string eS)).setCell ⟨B,o+6,none⟩ (.bool false)).setCell ⟨B,o+7,none⟩ (.string eS)).setCell ⟨B,o+8,none⟩ (.bool false)).setCell ⟨B,o+9,none⟩ (.string eS)).setCell ⟨B,o+10,none⟩ (.slice none 0 0)).setCell ⟨B,o+11,none⟩ (.int .i64 0))
def zC (cur:Array Value) (o:Nat):Array Value:=((((((((((((cur.setIfInBounds o (.int .i64 0)).setIfInBounds (o+1) (.string eS)).setIfInBounds (o+2) (.bool false)).setIfInBounds (o+3) (.string eS)).setIfInBounds (o+4) (.bool false)).setIfInBounds (o+5) (.string eS)).setIfInBounds (o+6) (.bool false)).setIfInBounds (o+7) (.string eS)).setIfInBounds (o+8) (.bool false)).setIfInBounds (o+9) (.string eS)).setIfInBounds (o+10) (.slice none 0 0)).setIfInBounds (o+11) (.int .i64 0))
theorem set_block {w:World} {B p:Nat} {cur:Array Value} {t:TypeId} {f:Nat × Nat} {x:Value} (h:w.heap[B]?=some (.cells cur t f)):(w.setCell ⟨B,p,none⟩ x).heap[B]?=some (.cells (cur.setIfInBounds p x) t f):=by
 simp [World.setCell,Array.getElem?_modify,h]
theorem set_other {w:World} {B p k:Nat} {x:Value} (h:k≠B):(w.setCell ⟨B,p,none⟩ x).heap[k]?=w.heap[k]?:=by
 have e:¬ B=k:=fun h2=>h h2.symm
 simp [World.setCell,Array.getElem?_modify,e]
theorem zA_block {w:World} {B o:Nat} {cur:Array Value} {t:TypeId} {f:Nat × Nat} (h:w.heap[B]?=some (.cells cur t f)):(zA w B o).heap[B]?=some (.cells (zC cur o) t f) :=
 set_block (set_block (set_block (set_block (set_block (set_block (set_block (set_block (set_block (set_block (set_block (set_block h)))))))))))
theorem zA_other {w:World} {B o k:Nat} (h:k≠B):(zA w B o).heap[k]?=w.heap[k]? :=
 (set_other h).trans ((set_other h).trans ((set_other h).trans ((set_other h).trans ((set_other h).trans ((set_other h).trans ((set_other h).trans ((set_other h).trans ((set_other h).trans ((set_other h).trans ((set_other h).trans (set_other h)))))))))))
theorem zA_grown {w wr:World} {B o:Nat} (h:w.grownBy wr none) (hB:w.heap.size≤B):w.grownBy (zA wr B o) none :=
 grown_set (grown_set (grown_set (grown_set (grown_set (grown_set (grown_set (grown_set (grown_set (grown_set (grown_set (grown_set h hB) hB) hB) hB) hB) hB) hB) hB) hB) hB) hB) hB
theorem zC_size (cur:Array Value) (o:Nat):(zC cur o).size=cur.size:=by
 unfold zC
 simp only [Array.size_setIfInBounds]
theorem set_ne {c:Array Value} {p q:Nat} {x:Value} (h:p≠q):(c.setIfInBounds p x)[q]?=c[q]?:=by
 rw [Array.getElem?_setIfInBounds,if_neg h]
theorem zC_at (cur:Array Value) (o:Nat) (h:o+12≤cur.size):(zC cur o)[o+10]?=some (.slice none 0 0):=by
 unfold zC
 rw [set_ne (by omega),Array.getElem?_setIfInBounds,if_pos rfl,if_pos (by simp only [Array.size_setIfInBounds]; omega)]
theorem zC_ne (cur:Array Value) (o q:Nat) (h:q < o∨o+12≤q):(zC cur o)[q]?=cur[q]?:=by
 unfold zC
 rw [set_ne (by omega),set_ne (by omega),set_ne (by omega),set_ne (by omega),set_ne (by omega),set_ne (by omega),set_ne (by omega),set_ne (by omega),set_ne (by omega),set_ne (by omega),set_ne (by omega),set_ne (by omega)]
theorem AShp.zap {lo hi:Nat} {wr:World} {B n i:Nat} (h:AShp lo hi wr B n) (hi':i < n):AShp lo hi (zA wr B (i*12)) B n :=
 have hB4:=h
 by
  obtain ⟨cur0,_,_,h3,h4,_⟩:=hB4
  refine h.zero hi' (fun cur hc=>?_) (fun k hk=>zA_other hk)
  rw [h3] at hc
  injection hc with hc
  injection hc with hc _
  subst hc
  exact ⟨_,zA_block h3,zC_size _ _,zC_at _ _ (by omega),fun j hj=>zC_ne _ _ _ (by omega)⟩
theorem AShp.load {lo hi:Nat} {wr:World} {B n i:Nat} (h:AShp lo hi wr B n) (hi':i < n) (j:Nat) (hj:j < 12):∃ v,wr.cell? ⟨B,i*12+j,none⟩=some v:=by
 obtain ⟨cur,h1,h2,h3,h4,h5⟩:=h
 refine ⟨cur[i*12+j]'(by omega),?_⟩
 simp [World.cell?,h3]
theorem AShp.fr {lo hi:Nat} {wr:World} {B n:Nat} (h:AShp lo hi wr B n) (p:Nat):wr.frozen? ⟨B,p,none⟩=false:=by
 obtain ⟨cur,h1,h2,h3,h4,h5⟩:=h
 simp [World.frozen?,h3]
theorem AShp.ne {lo hi:Nat} {wr:World} {B n W:Nat} {cw:Array Value} (h:AShp lo hi wr B n) (hW:wr.heap[W]?=some (.cells cw 3 (0,0))):W≠B:=by
 obtain ⟨cur,h1,h2,h3,h4,h5⟩:=h
 rintro rfl
 rw [hW] at h3
 injection h3 with h3
 injection h3 with _ h6
 revert h6
 decide
theorem slaw_read (w:World) (L:List UInt8) (hs:L.length≤maxLen) (ht:Tab w) (he:Errs w) :
    Calls Tryz.prog 4 #[.string (bA L)] w fun e w'=>e=.returned (.bool true)∧w.grownBy w' none:=by
 have HKn:Hid (∀ W,w.grownBy W none→Calls Tryz.prog 10 #[] W fun e w'=>e=.returned (.bool true)∧W.grownBy w' none):=fun W hg=>sknown_any W (ht.kept hg) (he.kept hg)
 have hsz:=bA_size L
 by_cases hL:3000 < L.length
 ·have hLI:(3000:Int) < (bA L).size:=by omega
  clear hsz hL
  generalize bA L=s at *
  go_enter Tryz.func4,Tryz.ntmps4
  go_wp2_with fail
  refine (HKn.out _ (grow0 _)).mono ?_
  rintro e w1 ⟨rfl,g1⟩
  have G1:Hid (w.grownBy w1 none):=g1
  clear g1
  go_wp2_with fail
  go_ret
  exact ⟨rfl,G1.out⟩
 ·have hL3:L.length≤6000:=by omega
  have HP:Hid (∀ W,w.grownBy W none→Calls Tryz.prog 18 #[.string (bA L)] W fun e w'=>(∃ ab c,e=.returned (.tuple #[.agg #[.string (rdS L).vb,.string (rdS L).nm,.slice ab (rdS L).ags.length c],.int .i64 (rdC L)])∧AgsF w' (W.heap.size+2) (.slice ab (rdS L).ags.length c) (rdS L).ags)∧W.grownBy w' none):=fun W hg=>(read_any_of L (by omega) W (he.kept hg)).mono fun e w' h=>⟨rdA_is h.1,h.2⟩
  have HD:Hid (∀ W,w.grownBy W none→Calls Tryz.prog 19 #[.string (bA L)] W fun e w'=>(∃ ab c,e=.returned (.tuple #[.agg #[.string (rdS L).vb,.string (rdS L).nm,.slice ab (rdS L).ags.length c],.int .i64 (rdC L)])∧AgsF w' (W.heap.size+1) (.slice ab (rdS L).ags.length c) (rdS L).ags)∧W.grownBy w' none):=fun W hg=>(rread_st L hL3 W (ht.kept hg)).mono fun e w' h=>⟨rdA_is h.1,h.2⟩
  have HSm:Hid (∀ W u v,Stv W u (rdS L)→Stv W v (rdS L)→Calls Tryz.prog 14 #[u,v] W fun e w'=>e=.returned (.bool true)∧W.grownBy w' none):=fun W u v hu hv=>(rSame_any W u v _ _ hu hv (rdS_fit hL3) (rdS_fit hL3)).mono fun e w' h=>by
   rw [St.eqb_iff.2 rfl] at h
   exact h
  have hn12:(rdS L).ags.length≤1000000000000:=(rdS_fit hL3).len
  have HStv:Hid (∀ W u,Args W u (rdS L).ags→Stv W (.agg #[.string (rdS L).vb,.string (rdS L).nm,u]) (rdS L)):=fun W u h=>⟨u,rfl,h⟩
  have hLI:(((bA L).size:Nat):Int)≤3000:=by omega
  obtain ⟨n,hn⟩:∃ n,(rdS L).ags.length=n:=⟨_,rfl⟩
  have HNn:Unit→(rdS L).ags.length=n:=fun _=>hn
  simp only [hn] at HP HD hn12
  have hnI:(n:Int)≤1000000000000:=by omega
  clear hsz hL hL3 hs ht he hn
  generalize rdS L=st at *
  generalize st.vb=vb at *
  generalize st.nm=nm at *
  generalize rdC L=er at *
  generalize bA L=s at *
  go_enter Tryz.func4,Tryz.ntmps4
  go_wp2_with fail
  refine (HP.out _ (grow0 _)).mono ?_
  rintro e w1 ⟨⟨ab1,c1,rfl,hA1⟩,g1⟩
  have HA1:Hid (AgsF w1 (w.heap.size+2) (.slice ab1 n c1) st.ags):=hA1
  have G1:Hid (w.grownBy (w1.alloc (sObj vb nm (.slice ab1 n c1))) none):=grownBy_trans g1 (grow1 _ _)
  clear hA1 g1
  go_wp2_with fail
  change Calls _ _ _ (w1.alloc (sObj vb nm (.slice ab1 n c1))) _
  refine (HP.out _ G1.out).mono ?_
  rintro e w2 ⟨⟨ab2,c2,rfl,hA2⟩,g2⟩
  have g2sz:=g2.size
  simp only [World.alloc,Array.size_push] at g2sz
  have HA2:Hid (AgsF w2 (w1.heap.size+3) (.slice ab2 n c2) st.ags):=by
   have e:(w1.alloc (sObj vb nm (.slice ab1 n c1))).heap.size=w1.heap.size+1:=by simp
   rw [e] at hA2
   exact hA2
  have GA:Hid ((w1.alloc (sObj vb nm (.slice ab1 n c1))).grownBy (w2.alloc (sObj vb nm (.slice ab2 n c2))) none):=grownBy_trans g2 (grow1 _ _)
  clear hA2 g2
  go_wp2_with fail
  change Calls _ _ _ (w2.alloc (sObj vb nm (.slice ab2 n c2))) _
  refine (HD.out _ (grownBy_trans G1.out GA.out)).mono ?_
  rintro e w3 ⟨⟨ab3,c3,rfl,hA3⟩,g3⟩
  have g3sz:=g3.size
  simp only [World.alloc,Array.size_push] at g3sz
  have HA3:Hid (AgsF w3 (w2.heap.size+2) (.slice ab3 n c3) st.ags):=by
   have e:(w2.alloc (sObj vb nm (.slice ab2 n c2))).heap.size=w2.heap.size+1:=by simp
   rw [e] at hA3
   exact hA3
  have GB:Hid ((w2.alloc (sObj vb nm (.slice ab2 n c2))).grownBy (w3.alloc (sObj vb nm (.slice ab3 n c3))) none):=grownBy_trans g3 (grow1 _ _)
  clear hA3 g3
  have h1s:=G1.out.size
  have h2s:=GA.out.size
  have h3s:=GB.out.size
  have hz1:(w1.alloc (sObj vb nm (.slice ab1 n c1))).heap.size=w1.heap.size+1:=by simp
  have hz2:(w2.alloc (sObj vb nm (.slice ab2 n c2))).heap.size=w2.heap.size+1:=by simp
  have hz3:(w3.alloc (sObj vb nm (.slice ab3 n c3))).heap.size=w3.heap.size+1:=by simp
  have B1:Hid ((w3.alloc (sObj vb nm (.slice ab3 n c3))).heap[w1.heap.size]?=some (sObj vb nm (.slice ab1 n c1))) :=
   ((grownBy_trans GA.out GB.out).block _ (by simp) (by simp)).trans (heap_alloc_new _ _)
  have B2:Hid ((w3.alloc (sObj vb nm (.slice ab3 n c3))).heap[w2.heap.size]?=some (sObj vb nm (.slice ab2 n c2))) :=
   (GB.out.block _ (by simp) (by simp)).trans (heap_alloc_new _ _)
  have B3:Hid ((w3.alloc (sObj vb nm (.slice ab3 n c3))).heap[w3.heap.size]?=some (sObj vb nm (.slice ab3 n c3))):=heap_alloc_new _ _
  have G4:Hid (w.grownBy (w3.alloc (sObj vb nm (.slice ab3 n c3))) none):=grownBy_trans G1.out (grownBy_trans GA.out GB.out)
  have A1:Hid (AgsF (w3.alloc (sObj vb nm (.slice ab3 n c3))) (w.heap.size+2) (.slice ab1 n c1) st.ags):=HA1.out.kept (grownBy_trans (grow1 _ _) (grownBy_trans GA.out GB.out))
  have A2:Hid (AgsF (w3.alloc (sObj vb nm (.slice ab3 n c3))) (w1.heap.size+3) (.slice ab2 n c2) st.ags):=HA2.out.kept (grownBy_trans (grow1 _ _) GB.out)
  have A3:Hid (AgsF (w3.alloc (sObj vb nm (.slice ab3 n c3))) (w2.heap.size+2) (.slice ab3 n c3) st.ags):=HA3.out.kept (grow1 _ _)
  have S1:Hid (n=0∨∃ B,ab1=some ⟨B,0,none⟩∧AShp (w.heap.size+2) w1.heap.size (w3.alloc (sObj vb nm (.slice ab3 n c3))) B n):=by
   rcases ags_shape HA1.out (HNn ()).symm with h | ⟨B,h1,h2⟩
   ·exact .inl h
   ·exact .inr ⟨B,h1,h2.kept (grownBy_trans (grow1 _ _) (grownBy_trans GA.out GB.out))⟩
  have HW12:Hid (w1.heap.size+1≤w2.heap.size∧w2.heap.size+1≤w3.heap.size):=⟨by have:=g2sz; omega,by have:=g3sz; omega⟩
  clear h1s h2s h3s hz1 hz2 hz3 g2sz g3sz
  generalize w1.heap.size=b1 at *
  generalize w2.heap.size=b2 at *
  go_upto_region 6 with fail
  generalize w3.alloc (sObj vb nm (.slice ab3 n c3))=w4 at *
  generalize w3.heap.size=b3 at *
  have D1:DB w4 b1 vb nm (.slice ab1 n c1):=B1.out
  have D3:DB w4 b3 vb nm (.slice ab3 n c3):=B3.out
  have k0:=D1.c0
  have k1:=D1.c1
  have k2:=D1.c2
  have l0:=D3.c0
  have l1:=D3.c1
  have l2:=D3.c2
  have HS1:=HSm.out w4 _ _ (HStv.out _ _ A1.out.args) (HStv.out _ _ A3.out.args)
  clear D1 D3 HA1 HA2 HA3 GA GB G1
  go_wp2_with fail
  refine HS1.mono ?_
  rintro e w5 ⟨rfl,g5⟩
  have G5:Hid (w.grownBy w5 none):=grownBy_trans G4.out g5
  have A2':Hid (AgsF w5 (b1+3) (.slice ab2 n c2) st.ags):=A2.out.kept g5
  have A3':Hid (AgsF w5 (b2+2) (.slice ab3 n c3) st.ags):=A3.out.kept g5
  have D1:Hid (DB w5 b1 vb nm (.slice ab1 n c1)):=DB.kept (show DB w4 b1 vb nm (.slice ab1 n c1) from B1.out) g5 (by simp)
  have D2:Hid (DB w5 b2 vb nm (.slice ab2 n c2)):=DB.kept (show DB w4 b2 vb nm (.slice ab2 n c2) from B2.out) g5 (by simp)
  have D3:Hid (DB w5 b3 vb nm (.slice ab3 n c3)):=DB.kept (show DB w4 b3 vb nm (.slice ab3 n c3) from B3.out) g5 (by simp)
  have S5:Hid (n=0∨∃ B,ab1=some ⟨B,0,none⟩∧AShp (w.heap.size+2) b1 w5 B n):=by
   rcases S1.out with h | ⟨B,h1,h2⟩
   ·exact .inl h
   ·exact .inr ⟨B,h1,h2.kept g5⟩
  clear k0 k1 k2 l0 l1 l2 HS1 g5 G4 A1 A2 A3 B1 B2 B3 S1
  go_wp2_with fail
  obtain ⟨wz,hwz⟩:∃ wz,wz=w5:=⟨_,rfl⟩
  have HZ:Hid (wz=w5):=hwz
  rw [← hwz]
  clear hwz
  go_loopw [10] (fun s10 wr=>∃ i:Nat,i≤n∧s10=.int .i64 i∧(n=0∨∃ B,ab1=some ⟨B,0,none⟩∧AShp (w.heap.size+2) b1 wr B n)∧(∀ k,b1≤k→wr.heap[k]?=w5.heap[k]?)∧w.grownBy wr none) (fun s10 _=>match s10 with | .int _ i=>n - i.toNat | _=>0)
  case atStart=>exact ⟨0,by omega,rfl,by rw [HZ.out]; exact S5.out,fun k _=>by rw [HZ.out],by rw [HZ.out]; exact G5.out⟩
  case round =>
   obtain ⟨i,hi,rfl,hS,hO,hg⟩:=hrel
   have HS:Hid (n=0∨∃ B,ab1=some ⟨B,0,none⟩∧AShp (w.heap.size+2) b1 wr B n):=hS
   have HO:Hid (∀ k,b1≤k→wr.heap[k]?=w5.heap[k]?):=hO
   have HG:Hid (w.grownBy wr none):=hg
   have E1:DB wr b1 vb nm (.slice ab1 n c1):=(hO b1 (Nat.le_refl _)).trans D1.out
   have hb12:b1≤b2:=by have:=HW12.out.1; omega
   have hb13:b1≤b3:=by have:=HW12.out; omega
   have k2:=E1.c2
   clear hS hO hg
   by_cases hlt:i < n
   ·obtain ⟨B,rfl,hSh⟩:∃ B,ab1=some ⟨B,0,none⟩∧AShp (w.heap.size+2) b1 wr B n:=by
      rcases HS.out with h | h
      ·omega
      ·exact h
    obtain ⟨cur,hB1,hB2,hB3,hB4,hB5⟩:=hSh
    obtain ⟨u,hu,ab',m,c',rfl,hmm,hwd⟩:=hB5 i hlt
    have HBl:Hid (w.heap.size+2≤B∧B < b1):=⟨hB1,hB2⟩
    have kw:wr.cell? ⟨B,i*12+10,none⟩=some (.slice ab' m c'):=by
     simp [World.cell?,hB3,hu]
    have HSh:Hid (AShp (w.heap.size+2) b1 wr B n):=⟨cur,hB1,hB2,hB3,hB4,hB5⟩
    have HWd:Hid (m=0∨∃ W off cw,ab'=some ⟨W,off,none⟩∧w.heap.size+2≤W∧W < b1∧wr.heap[W]?=some (.cells cw 3 (0,0))∧off+m≤cw.size):=hwd
    have hltI:(i:Int) < n:=by omega
    have hmI:(m:Int)≤9223372036854775807:=by unfold maxLen at hmm; omega
    have HKw:Hid (wr.cell? ⟨B,i*12+10,none⟩=some (.slice ab' m c')):=by
     show _=_
     simp [World.cell?,hB3,hu]
    clear hB1 hB2 hB3 hB4 hB5 hu hmm hwd HS
    go_wp2_with fail
    obtain ⟨wy,hwy⟩:∃ wy,wy=wr:=⟨_,rfl⟩
    have HY:Hid (wy=wr):=hwy
    rw [← hwy]
    clear hwy
    go_loopw [11] (fun s11 wx=>∃ k:Nat,k≤m∧s11=.int .i64 k∧AShp (w.heap.size+2) b1 wx B n∧wx.cell? ⟨B,i*12+10,none⟩=some (.slice ab' m c')∧(m=0∨∃ W off cw,ab'=some ⟨W,off,none⟩∧w.heap.size+2≤W∧W < b1∧wx.heap[W]?=some (.cells cw 3 (0,0))∧off+m≤cw.size)∧(∀ k,b1≤k→wx.heap[k]?=w5.heap[k]?)∧w.grownBy wx none) (fun s11 _=>match s11 with | .int _ k=>m - k.toNat | _=>0)
    case atStart=>exact ⟨0,by omega,rfl,by rw [HY.out]; exact HSh.out,by rw [HY.out]; exact HKw.out,by rw [HY.out]; exact HWd.out,by rw [HY.out]; exact HO.out,by rw [HY.out]; exact HG.out⟩
    case round =>
     obtain ⟨k,hk,rfl,hSx,hkx,hWx,hOx,hgx⟩:=hrel
     have E1x:DB wr b1 vb nm (.slice (some ⟨B,0,none⟩) n c1):=(hOx b1 (Nat.le_refl _)).trans D1.out
     have k2x:=E1x.c2
     have kwx:wr.cell? ⟨B,i*12+10,none⟩=some (.slice ab' m c'):=hkx
     have HSx:Hid (AShp (w.heap.size+2) b1 wr B n):=hSx
     have HOx:Hid (∀ k,b1≤k→wr.heap[k]?=w5.heap[k]?):=hOx
     have HGx:Hid (w.grownBy wr none):=hgx
     have HKx:Hid (wr.cell? ⟨B,i*12+10,none⟩=some (.slice ab' m c')):=hkx
     have HKM:Hid (k≤m):=hk
     clear k2 kw
     by_cases hkm:k < m
     ·obtain ⟨W,off,cw,rfl,hW1,hW2,hW3,hW4⟩:∃ W off cw,ab'=some ⟨W,off,none⟩∧w.heap.size+2≤W∧W < b1∧wr.heap[W]?=some (.cells cw 3 (0,0))∧off+m≤cw.size:=by
        rcases hWx with h | h
        ·omega
        ·exact h
      obtain ⟨xv,hxv⟩:∃ xv,cw[off+k]?=some xv:=⟨_,Array.getElem?_eq_getElem (by omega)⟩
      have c0:wr.cell? ⟨W,off+k,none⟩=some xv:=by simp [World.cell?,hW3,hxv]
      have f0:wr.frozen? ⟨W,off+k,none⟩=false:=by simp [World.frozen?,hW3]
      have hne:W≠B:=hSx.ne hW3
      have N1:Hid (AShp (w.heap.size+2) b1 (wr.setCell ⟨W,off+k,none⟩ (.int .i64 99)) B n):=hSx.put hW3
      have N2:Hid ((wr.setCell ⟨W,off+k,none⟩ (.int .i64 99)).cell? ⟨B,i*12+10,none⟩=some (.slice (some ⟨W,off,none⟩) m c')):=grownBy_cell (grownBy_setCell _ _ _ _) hkx (fun e=>hne (Option.some.inj e))
      have N3:Hid (m=0∨∃ W2 off2 cw2,(some ⟨W,off,none⟩:Option Addr)=some ⟨W2,off2,none⟩∧w.heap.size+2≤W2∧W2 < b1∧(wr.setCell ⟨W,off+k,none⟩ (.int .i64 99)).heap[W2]?=some (.cells cw2 3 (0,0))∧off2+m≤cw2.size) :=
       .inr ⟨W,off,cw.setIfInBounds (off+k) (.int .i64 99),rfl,hW1,hW2,by simp [World.setCell,Array.getElem?_modify,hW3],by simpa using hW4⟩
      have N4:Hid (∀ k',b1≤k'→(wr.setCell ⟨W,off+k,none⟩ (.int .i64 99)).heap[k']?=w5.heap[k']?):=fun k' h=>by
       have e1:¬ W=k':=by omega
       rw [← hOx k' h]
       simp [World.setCell,Array.getElem?_modify,e1]
      have N5:Hid (w.grownBy (wr.setCell ⟨W,off+k,none⟩ (.int .i64 99)) none):=grown_set hgx (by omega)
      have hkmI:(k:Int) < m:=by omega
      clear hSx hkx hWx hOx hgx hW1 hW2 hW3 hW4 hxv hne E1x
      go_wp2_with fail
      go_roundw
      case rel=>exact ⟨k+1,by omega,num_eq (by omega),N1.out,N2.out,N3.out,N4.out,N5.out⟩
      case measure=>simp <;> omega
     ·have hkmI:decide ((k:Int) < (m:Int))=false:=decide_eq_false (by omega)
      have hkmN:¬ k < m:=hkm
      clear hSx hkx hWx hOx hgx E1x
      obtain ⟨v0,dd0⟩:=HSx.out.load hlt 0 (by omega)
      obtain ⟨v1,dd1⟩:=HSx.out.load hlt 1 (by omega)
      obtain ⟨v2,dd2⟩:=HSx.out.load hlt 2 (by omega)
      obtain ⟨v3,dd3⟩:=HSx.out.load hlt 3 (by omega)
      obtain ⟨v4,dd4⟩:=HSx.out.load hlt 4 (by omega)
      obtain ⟨v5,dd5⟩:=HSx.out.load hlt 5 (by omega)
      obtain ⟨v6,dd6⟩:=HSx.out.load hlt 6 (by omega)
      obtain ⟨v7,dd7⟩:=HSx.out.load hlt 7 (by omega)
      obtain ⟨v8,dd8⟩:=HSx.out.load hlt 8 (by omega)
      obtain ⟨v9,dd9⟩:=HSx.out.load hlt 9 (by omega)
      obtain ⟨v10,dd10⟩:=HSx.out.load hlt 10 (by omega)
      obtain ⟨v11,dd11⟩:=HSx.out.load hlt 11 (by omega)
      simp only [Nat.add_zero] at dd0
      have ff0:wr.frozen? ⟨B,i*12,none⟩=false:=HSx.out.fr (i*12)
      have ff1:wr.frozen? ⟨B,i*12+1,none⟩=false:=HSx.out.fr (i*12+1)
      have ff2:wr.frozen? ⟨B,i*12+2,none⟩=false:=HSx.out.fr (i*12+2)
      have ff3:wr.frozen? ⟨B,i*12+3,none⟩=false:=HSx.out.fr (i*12+3)
      have ff4:wr.frozen? ⟨B,i*12+4,none⟩=false:=HSx.out.fr (i*12+4)
      have ff5:wr.frozen? ⟨B,i*12+5,none⟩=false:=HSx.out.fr (i*12+5)
      have ff6:wr.frozen? ⟨B,i*12+6,none⟩=false:=HSx.out.fr (i*12+6)
      have ff7:wr.frozen? ⟨B,i*12+7,none⟩=false:=HSx.out.fr (i*12+7)
      have ff8:wr.frozen? ⟨B,i*12+8,none⟩=false:=HSx.out.fr (i*12+8)
      have ff9:wr.frozen? ⟨B,i*12+9,none⟩=false:=HSx.out.fr (i*12+9)
      have ff10:wr.frozen? ⟨B,i*12+10,none⟩=false:=HSx.out.fr (i*12+10)
      have ff11:wr.frozen? ⟨B,i*12+11,none⟩=false:=HSx.out.fr (i*12+11)
      have N1:Hid (AShp (w.heap.size+2) b1 (zA wr B (i*12)) B n):=HSx.out.zap hlt
      have N2:Hid (∀ k,b1≤k→(zA wr B (i*12)).heap[k]?=w5.heap[k]?):=fun k hk=>(zA_other (by have:=HBl.out; omega)).trans (HOx.out k hk)
      have N3:Hid (w.grownBy (zA wr B (i*12)) none):=zA_grown HGx.out (by have:=HBl.out; omega)
      go_upto_region 16 with fail
      go_wp2_with fail
      exact ⟨⟨i+1,by omega,num_eq (by omega),.inr ⟨B,rfl,N1.out⟩,N2.out,N3.out⟩,by simp; omega⟩
   ·have hin:decide ((i:Int) < (n:Int))=false:=decide_eq_false (by omega)
    have E2:DB wr b2 vb nm (.slice ab2 n c2):=(HO.out b2 hb12).trans D2.out
    have E3:DB wr b3 vb nm (.slice ab3 n c3):=(HO.out b3 hb13).trans D3.out
    have l0:=E2.c0
    have l1:=E2.c1
    have l2:=E2.c2
    have m0:=E3.c0
    have m1:=E3.c1
    have m2:=E3.c2
    have HS2:=HSm.out wr _ _ (HStv.out _ _ (A2'.out.moved (fun k hk=>HO.out k (by omega))).args) (HStv.out _ _ (A3'.out.moved (fun k hk=>HO.out k (by omega))).args)
    clear E2 E3
    go_wp2_with fail
    refine HS2.mono ?_
    rintro e w6 ⟨rfl,g6⟩
    have G6:Hid (w.grownBy w6 none):=grownBy_trans HG.out g6
    clear g6 HS2 l0 l1 l2 m0 m1 m2 k2
    go_wp2_with fail
    refine (HKn.out _ G6.out).mono ?_
    rintro e w7 ⟨rfl,g7⟩
    have G7:Hid (w.grownBy w7 none):=grownBy_trans G6.out g7
    clear g7
    go_wp2_with fail
    go_ret
    exact ⟨rfl,G7.out⟩
end Go.Proofs.YtdcadiaeaclpgaaGreatDoor
