/-
  Arguments as a call finds them: statements. Of no one law.
  Arguments as a call finds them: lists of statements, texts. Of no one law.
-/
import Derived.Test.YtdcadiaeaclpgaaGreatDoorBunSrr
import Derived.Test.YtdcadiaeaclpgaaGreatDoorLaw
import Derived.WalkKit
import Derived.Deep.Slices
import Derived.ChangeMaps5
import Derived.ProofKit
import Derived.OpenShut
import Derived.Test.YtdcadiaeaclpgaaGreatDoorBunSya
namespace Go.Proofs.YtdcadiaeaclpgaaGreatDoor
open Go.ChangeAt Go.ChangeShapes Go.Deep Go.Lib Go.RowKit Go.WideShapes
set_option linter.unusedVariables false
set_option linter.unusedSimpArgs false
set_option maxRecDepth 100000
theorem Tryz.faI:Tryz.prog.cellsOf 3=1:=by kernel_rfl
theorem Tryz.faK:Tryz.prog.cellsOf 36=1:=by kernel_rfl
theorem Tryz.faS:Tryz.prog.cellsOf 9=1:=by kernel_rfl
theorem Tryz.faB:Tryz.prog.cellsOf 4=1:=by kernel_rfl
theorem Tryz.faW:Tryz.prog.cellsOf 38=2:=by kernel_rfl
theorem Tryz.faQ:Tryz.prog.cellsOf 40=4:=by kernel_rfl
theorem Tryz.faG:Tryz.prog.cellsOf 42=8:=by kernel_rfl
theorem Tryz.faL:Tryz.prog.cellsOf 43=1:=by kernel_rfl
theorem Tryz.faA:Tryz.prog.cellsOf 45=12:=by kernel_rfl
theorem Tryz.faAs:Tryz.prog.cellsOf 22=1:=by kernel_rfl
theorem Tryz.faSt:Tryz.prog.cellsOf 24=3:=by kernel_rfl
theorem Tryz.fbI:Tryz.prog.bytesOf 3=8:=by kernel_rfl
theorem Tryz.fbA:Tryz.prog.bytesOf 45=152:=by kernel_rfl
theorem fl2 {α:Type} {l:List α} (h:l.length=2):∃ a b,l=[a,b]:=by
 match l,h with
 |[a,b],_=>exact ⟨a,b,rfl⟩
theorem fl3 {α:Type} {l:List α} (h:l.length=3):∃ a b c,l=[a,b,c]:=by
 match l,h with
 |[a,b,c],_=>exact ⟨a,b,c,rfl⟩
theorem fl4 {α:Type} {l:List α} (h:l.length=4):∃ a b c d,l=[a,b,c,d]:=by
 match l,h with
 |[a,b,c,d],_=>exact ⟨a,b,c,d,rfl⟩
theorem fl5 {α:Type} {l:List α} (h:l.length=5):∃ a b c d e,l=[a,b,c,d,e]:=by
 match l,h with
 |[a,b,c,d,e],_=>exact ⟨a,b,c,d,e,rfl⟩
theorem fl8 {α:Type} {l:List α} (h:l.length=8):∃ a b c d e f g h,l=[a,b,c,d,e,f,g,h]:=by
 match l,h with
 |[a,b,c,d,e,f,g,h],_=>exact ⟨a,b,c,d,e,f,g,h,rfl⟩
theorem fl12 {α:Type} {l:List α} (h:l.length=12):∃ a b c d e f g h i j k m,l=[a,b,c,d,e,f,g,h,i,j,k,m]:=by
 match l,h with
 |[a,b,c,d,e,f,g,h,i,j,k,m],_=>exact ⟨a,b,c,d,e,f,g,h,i,j,k,m,rfl⟩
theorem fa_whole {H:Type} {enc:TypeId × Value→H} {W:World} {n:Nat} {cs:List Value} {x:DataW H × List MemPlace} (h:DataW.trod enc Tryz.prog W 0 (fun _=>true) true n 38 cs=some x) :
    ∃ (a:Bool) (s:ByteArray),cs=[.bool a,.string s]∧s.size≤maxLen:=by
 obtain ⟨xs,m,_,_,hl,hx,hat⟩:=DataW.trod_struct Tryz.underlying38 h
 rw [Tryz.faW] at hl
 obtain ⟨c0,c1,rfl⟩:=fl2 hl
 have h0:=hat 0 _ rfl
 have h1:=hat 1 _ rfl
 simp [Tryz.faB,Tryz.faS] at h0 h1
 simp at hx
 rw [List.getElem?_eq_getElem (by omega)] at h0 h1
 obtain ⟨b,e0,_⟩:=DataW.trod_bool Tryz.underlying4 h0
 obtain ⟨s,e1,_,hs⟩:=DataW.trod_string Tryz.underlying9 h1
 simp at e0 e1
 subst e0 e1
 exact ⟨b,s,rfl,hs⟩
theorem fa_frac {H:Type} {enc:TypeId × Value→H} {W:World} {n:Nat} {cs:List Value} {x:DataW H × List MemPlace} (h:DataW.trod enc Tryz.prog W 0 (fun _=>true) true n 40 cs=some x) :
    ∃ (a:Bool) (s:ByteArray) (b:Bool) (t:ByteArray),cs=[.bool a,.string s,.bool b,.string t]∧s.size≤maxLen∧t.size≤maxLen:=by
 obtain ⟨xs,m,_,_,hl,hx,hat⟩:=DataW.trod_struct Tryz.underlying40 h
 rw [Tryz.faQ] at hl
 obtain ⟨c0,c1,c2,c3,rfl⟩:=fl4 hl
 have h0:=hat 0 _ rfl
 have h1:=hat 1 _ rfl
 simp [Tryz.faW] at h0 h1
 simp at hx
 rw [List.getElem?_eq_getElem (by omega)] at h0 h1
 obtain ⟨a,s,e0,hs⟩:=fa_whole h0
 obtain ⟨b,t,e1,ht⟩:=fa_whole h1
 simp at e0 e1
 obtain ⟨rfl,rfl⟩:=e0
 obtain ⟨rfl,rfl⟩:=e1
 exact ⟨a,s,b,t,rfl,hs,ht⟩
theorem fa_gauss {H:Type} {enc:TypeId × Value→H} {W:World} {n:Nat} {cs:List Value} {x:DataW H × List MemPlace} (h:DataW.trod enc Tryz.prog W 0 (fun _=>true) true n 42 cs=some x) :
    ∃ z:Gz,cs=[.bool z.a,.string z.b,.bool z.c,.string z.d,.bool z.e,.string z.f,.bool z.g,.string z.h]∧z.Fit:=by
 obtain ⟨xs,m,_,_,hl,hx,hat⟩:=DataW.trod_struct Tryz.underlying42 h
 rw [Tryz.faG] at hl
 obtain ⟨c0,c1,c2,c3,c4,c5,c6,c7,rfl⟩:=fl8 hl
 have h0:=hat 0 _ rfl
 have h1:=hat 1 _ rfl
 simp [Tryz.faQ] at h0 h1
 simp at hx
 rw [List.getElem?_eq_getElem (by omega)] at h0 h1
 obtain ⟨a,s,b,t,e0,hs,ht⟩:=fa_frac h0
 obtain ⟨a',s',b',t',e1,hs',ht'⟩:=fa_frac h1
 simp at e0 e1
 obtain ⟨rfl,rfl,rfl,rfl⟩:=e0
 obtain ⟨rfl,rfl,rfl,rfl⟩:=e1
 exact ⟨⟨a,s,b,t,a',s',b',t'⟩,rfl,⟨hs,ht,hs',ht'⟩⟩
theorem fa_kind {H:Type} {enc:TypeId × Value→H} {W:World} {fuel:Nat} {cs:List Value} {x:DataW H × List MemPlace} (h:DataW.trod enc Tryz.prog W 0 (fun _=>true) true fuel 36 cs=some x) :
    ∃ n:Int,cs=[.int .i64 n]:=by
 obtain ⟨n,e,_⟩:=DataW.trod_int Tryz.underlying36 h
 exact ⟨n,e⟩
theorem fa_int {H:Type} {enc:TypeId × Value→H} {W:World} {fuel:Nat} {cs:List Value} {x:DataW H × List MemPlace} (h:DataW.trod enc Tryz.prog W 0 (fun _=>true) true fuel 3 cs=some x) :
    ∃ n:Int,cs=[.int .i64 n]:=by
 obtain ⟨n,e,_⟩:=DataW.trod_int Tryz.underlying3 h
 exact ⟨n,e⟩
theorem fa_ints {H:Type} {enc:TypeId × Value→H} {W:World} {fuel:Nat} {cs:List Value} {x:DataW H × List MemPlace} (h:DataW.trod enc Tryz.prog W 0 (fun _=>true) true fuel 43 cs=some x) :
    ∃ v L,cs=[v]∧Ints W v L∧((x.1.weights Tryz.prog 43).all (·≤reachBytes)=true→L.length≤1000000000000000):=by
 rcases open_slice Tryz.underlying43 h with ⟨rfl,rfl⟩ | ⟨a,n,m',m,k,D,Pl,rfl,_,hl,hm,hmm,rfl,hel⟩
 ·exact ⟨_,[],rfl,.inl ⟨rfl,rfl⟩,fun _=>by simp⟩
 ·simp only [if_true] at hmm
  subst hmm
  have hwt:(((DataW.slice ((List.range n).map D) ((List.range (m - n)).map fun j=>D (n+j))):DataW H).weights Tryz.prog 43).all (·≤reachBytes)=true→n≤1000000000000000:=by
   intro hw
   simp only [DataW.weights,Tryz.underlying43,List.all_cons,Bool.and_eq_true,decide_eq_true_eq,List.length_map,List.length_range,Tryz.fbI] at hw
   have h1:=hw.1
   unfold reachBytes at h1
   omega
  rcases Nat.eq_zero_or_pos m with hc0 | hc0
  ·subst hc0
   obtain rfl:n=0:=by omega
   exact ⟨_,[],rfl,.inr (.inr ⟨rfl,a,rfl⟩),fun _=>by simp⟩
  ·rw [Tryz.faI] at hel
   have each:∀ i,i < m→∃ z:Int,W.cell? (a.add i)=some (.int .i64 z):=by
    intro i hi
    obtain ⟨cs',h1,h2⟩:=hel i hi
    obtain ⟨z,e0,_⟩:=DataW.trod_int Tryz.underlying3 h2
    subst e0
    obtain ⟨_,_,hc⟩:=World.cells?_some h1
    have c0:=hc 0 (by omega)
    refine ⟨z,?_⟩
    rw [Nat.mul_one] at c0
    simpa [Addr.add] using c0
   obtain ⟨b,off,spot⟩:=a
   obtain ⟨z0,hc00⟩:=each 0 hc0
   have hspot:spot=none:=by simpa [Addr.add] using World.cell?_spot hc00
   subst hspot
   obtain ⟨F,hF⟩:=choose_lt (α:=Int) (p:=fun i z=>W.cell? ⟨b,off+i,none⟩=some (.int .i64 z)) (n:=n) (fun i hi=>by
    obtain ⟨z,c0⟩:=each i (by omega)
    rw [Addr.add_lit] at c0
    exact ⟨z,c0⟩)
   refine ⟨_,(List.range n).map F,rfl,.inr (.inl ⟨b,off,m,by simp,by simpa using hl,fun j hj=>?_⟩),fun hw=>by simpa using hwt hw⟩
   have hj':j < n:=by simpa using hj
   rw [hF j hj',List.getElem?_map,List.getElem?_range hj']
   rfl
theorem fa_arg {H:Type} {enc:TypeId × Value→H} {W:World} {n:Nat} {cs:List Value} {x:DataW H × List MemPlace} (h:DataW.trod enc Tryz.prog W 0 (fun _=>true) true n 45 cs=some x) :
    ∃ (a:Ag) (u:Value),cs=(agc a u).toList∧Ints W u a.wd∧((x.1.weights Tryz.prog 45).all (·≤reachBytes)=true→a.FitW):=by
 obtain ⟨xs,m,_,rfl,hl,hx,hat⟩:=DataW.trod_struct Tryz.underlying45 h
 rw [Tryz.faA] at hl
 obtain ⟨c0,c1,c2,c3,c4,c5,c6,c7,c8,c9,c10,c11,rfl⟩:=fl12 hl
 have h0:=hat 0 _ rfl
 have h1:=hat 1 _ rfl
 have h2:=hat 2 _ rfl
 have h3:=hat 3 _ rfl
 have h4:=hat 4 _ rfl
 simp [Tryz.faK,Tryz.faS,Tryz.faG,Tryz.faL,Tryz.faI] at h0 h1 h2 h3 h4
 obtain ⟨x0,x1,x2,x3,x4,rfl⟩:=fl5 (show xs.length=5 from hx)
 simp at h0 h1 h2 h3 h4
 obtain ⟨k,e0⟩:=fa_kind h0
 obtain ⟨nm,e1,_,hs⟩:=DataW.trod_string Tryz.underlying9 h1
 obtain ⟨z,e2,hz⟩:=fa_gauss h2
 obtain ⟨u,L,e3,hI,hw⟩:=fa_ints h3
 obtain ⟨ct,e4⟩:=fa_int h4
 simp at e0 e1 e2 e3 e4
 obtain ⟨rfl,rfl,rfl,rfl,rfl,rfl,rfl,rfl⟩:=e2
 subst e0 e1 e3 e4
 refine ⟨⟨k,nm,z,L,ct⟩,_,rfl,hI,fun hwt=>⟨hs,hz,?_⟩⟩
 simp only [DataW.weights,Tryz.underlying45,List.map_cons,List.map_nil,DataW.weightsEach,List.all_append,Bool.and_eq_true] at hwt
 have:=hw hwt.2.2.2.1
 show L.length≤_
 omega
theorem fa_wmem {H:Type} {P:Program} {e:TypeId} {q:Nat→Bool}:∀ {l:List (DataW H)},(DataW.weightsAll P e l).all q=true→∀ d∈l,(d.weights P e).all q=true
 |[],_,d,hd=>by simp at hd
 |x :: r,h,d,hd=>by
  simp only [DataW.weightsAll,List.all_append,Bool.and_eq_true] at h
  rcases List.mem_cons.1 hd with rfl | hd
  ·exact h.1
  ·exact fa_wmem h.2 d hd
theorem fa_args {H:Type} {enc:TypeId × Value→H} {W:World} {fuel:Nat} {cs:List Value} {x:DataW H × List MemPlace} (h:DataW.trod enc Tryz.prog W 0 (fun _=>true) true fuel 22 cs=some x) :
    ∃ v G,cs=[v]∧Args W v G∧((x.1.weights Tryz.prog 22).all (·≤reachBytes)=true→G.length≤1000000000000∧∀ a∈G,a.FitW):=by
 rcases open_slice Tryz.underlying22 h with ⟨rfl,rfl⟩ | ⟨a,n,m',m,k,D,Pl,rfl,_,hl,hm,hmm,rfl,hel⟩
 ·exact ⟨_,[],rfl,.inl ⟨rfl,none,0,rfl⟩,fun _=>by simp⟩
 ·simp only [if_true] at hmm
  subst hmm
  have hwt:(((DataW.slice ((List.range n).map D) ((List.range (m - n)).map fun j=>D (n+j))):DataW H).weights Tryz.prog 22).all (·≤reachBytes)=true→n≤1000000000000∧∀ i,i < n→((D i).weights Tryz.prog 45).all (·≤reachBytes)=true:=by
   intro hw
   simp only [DataW.weights,Tryz.underlying22,List.all_cons,List.all_append,Bool.and_eq_true,decide_eq_true_eq,List.length_map,List.length_range,Tryz.fbA] at hw
   have h1:=hw.1
   unfold reachBytes at h1
   refine ⟨by omega,fun i hi=>?_⟩
   exact fa_wmem hw.2.1 (D i) (List.mem_map.2 ⟨i,List.mem_range.2 hi,rfl⟩)
  rcases Nat.eq_zero_or_pos m with hc0 | hc0
  ·subst hc0
   obtain rfl:n=0:=by omega
   exact ⟨_,[],rfl,.inl ⟨rfl,some a,0,rfl⟩,fun _=>by simp⟩
  ·rw [Tryz.faA] at hel
   have each:∀ i,i < m→∃ (g:Ag) (u:Value),(∀ j,j < 12→W.cell? ((a.add (i*12)).add j)=(agc g u).toList[j]?)∧Ints W u g.wd∧(((D i).weights Tryz.prog 45).all (·≤reachBytes)=true→g.FitW):=by
    intro i hi
    obtain ⟨cs',h1,h2⟩:=hel i hi
    obtain ⟨g,u,e0,hI,hw⟩:=fa_arg h2
    subst e0
    obtain ⟨_,_,hc⟩:=World.cells?_some h1
    exact ⟨g,u,fun j hj=>hc j hj,hI,hw⟩
   obtain ⟨b,off,spot⟩:=a
   obtain ⟨g0,u0,hc00,_⟩:=each 0 hc0
   have hspot:spot=none:=by
    have h0:=hc00 0 (by omega)
    simpa [Addr.add] using World.cell?_spot h0
   subst hspot
   haveI:Inhabited Ag:=⟨g0⟩
   obtain ⟨F,hF⟩:=choose_lt (α:=Ag) (p:=fun i g=>∃ u,AgAt W b (off+i*12) g u∧Ints W u g.wd∧(((D i).weights Tryz.prog 45).all (·≤reachBytes)=true→g.FitW)) (n:=n) (fun i hi=>by
    obtain ⟨g,u,c0,h1,h2⟩:=each i (by omega)
    refine ⟨g,u,?_,h1,h2⟩
    have hc:∀ j v,j < 12→(agc g u).toList[j]?=some v→W.cell? ⟨b,off+i*12+j,none⟩=some v:=fun j v hj hv=>by
     have:=c0 j hj
     rw [Addr.add_lit,Addr.add_lit] at this
     rw [this]
     exact hv
    exact ⟨hc 0 _ (by omega) rfl,hc 1 _ (by omega) rfl,hc 2 _ (by omega) rfl,hc 3 _ (by omega) rfl,hc 4 _ (by omega) rfl,hc 5 _ (by omega) rfl,hc 6 _ (by omega) rfl,hc 7 _ (by omega) rfl,hc 8 _ (by omega) rfl,hc 9 _ (by omega) rfl,hc 10 _ (by omega) rfl,hc 11 _ (by omega) rfl⟩)
   refine ⟨_,(List.range n).map F,rfl,.inr ⟨b,off,m,by simp,by simpa using hl,fun j g hj=>?_⟩,fun hw=>⟨by simpa using (hwt hw).1,fun g hg=>?_⟩⟩
   ·have hj':j < n:=by
      have:=(List.getElem?_eq_some_iff.1 hj).1
      simpa using this
    rw [List.getElem?_map,List.getElem?_range hj'] at hj
    obtain rfl:=Option.some.inj hj
    obtain ⟨u,c0,h1,_⟩:=hF j hj'
    exact ⟨u,c0,h1⟩
   ·obtain ⟨i,hi,rfl⟩:=List.mem_map.1 hg
    have hi':=List.mem_range.1 hi
    obtain ⟨u,_,_,h2⟩:=hF i hi'
    exact h2 ((hwt hw).2 i hi')
theorem fa_stmt {H:Type} {enc:TypeId × Value→H} {W:World} {n:Nat} {cs:List Value} {x:DataW H × List MemPlace} (h:DataW.trod enc Tryz.prog W 0 (fun _=>true) true n 24 cs=some x) :
    ∃ (s:St) (u:Value),cs=[.string s.vb,.string s.nm,u]∧Args W u s.ags∧((x.1.weights Tryz.prog 24).all (·≤reachBytes)=true→s.FitW):=by
 obtain ⟨xs,m,_,rfl,hl,hx,hat⟩:=DataW.trod_struct Tryz.underlying24 h
 rw [Tryz.faSt] at hl
 obtain ⟨c0,c1,c2,rfl⟩:=fl3 hl
 have h0:=hat 0 _ rfl
 have h1:=hat 1 _ rfl
 have h2:=hat 2 _ rfl
 simp [Tryz.faS,Tryz.faAs] at h0 h1 h2
 obtain ⟨x0,x1,x2,rfl⟩:=fl3 (show xs.length=3 from hx)
 simp at h0 h1 h2
 obtain ⟨vb,e0,_,hs0⟩:=DataW.trod_string Tryz.underlying9 h0
 obtain ⟨nm,e1,_,hs1⟩:=DataW.trod_string Tryz.underlying9 h1
 obtain ⟨u,G,e2,hA,hw⟩:=fa_args h2
 simp at e0 e1 e2
 subst e0 e1 e2
 refine ⟨⟨vb,nm,G⟩,_,rfl,hA,fun hwt=>?_⟩
 simp only [DataW.weights,Tryz.underlying24,List.map_cons,List.map_nil,DataW.weightsEach,List.all_append,Bool.and_eq_true] at hwt
 have:=hw hwt.2.2.1
 exact ⟨hs0,hs1,this.1,this.2⟩
theorem Tryz.fbSt:Tryz.prog.bytesOf 24=56:=by kernel_rfl
theorem fa_stmts {H:Type} {enc:TypeId × Value→H} {W:World} {fuel:Nat} {cs:List Value} {x:DataW H × List MemPlace} (h:DataW.trod enc Tryz.prog W 0 (fun _=>true) true fuel 51 cs=some x) :
    ∃ v L,cs=[v]∧Sts W v L∧((x.1.weights Tryz.prog 51).all (·≤reachBytes)=true→L.length≤1000000000000000∧∀ s∈L,s.FitW):=by
 rcases open_slice Tryz.underlying51 h with ⟨rfl,rfl⟩ | ⟨a,n,m',m,k,D,Pl,rfl,_,hl,hm,hmm,rfl,hel⟩
 ·exact ⟨_,[],rfl,.inl ⟨rfl,none,0,rfl⟩,fun _=>by simp⟩
 ·simp only [if_true] at hmm
  subst hmm
  have hwt:(((DataW.slice ((List.range n).map D) ((List.range (m - n)).map fun j=>D (n+j))):DataW H).weights Tryz.prog 51).all (·≤reachBytes)=true→n≤1000000000000000∧∀ i,i < n→((D i).weights Tryz.prog 24).all (·≤reachBytes)=true:=by
   intro hw
   simp only [DataW.weights,Tryz.underlying51,List.all_cons,List.all_append,Bool.and_eq_true,decide_eq_true_eq,List.length_map,List.length_range,Tryz.fbSt] at hw
   have h1:=hw.1
   unfold reachBytes at h1
   refine ⟨by omega,fun i hi=>?_⟩
   exact fa_wmem hw.2.1 (D i) (List.mem_map.2 ⟨i,List.mem_range.2 hi,rfl⟩)
  rcases Nat.eq_zero_or_pos m with hc0 | hc0
  ·subst hc0
   obtain rfl:n=0:=by omega
   exact ⟨_,[],rfl,.inl ⟨rfl,some a,0,rfl⟩,fun _=>by simp⟩
  ·rw [Tryz.faSt] at hel
   have each:∀ i,i < m→∃ (s:St) (u:Value),(∀ j,j < 3→W.cell? ((a.add (i*3)).add j)=([.string s.vb,.string s.nm,u]:List Value)[j]?)∧Args W u s.ags∧(((D i).weights Tryz.prog 24).all (·≤reachBytes)=true→s.FitW):=by
    intro i hi
    obtain ⟨cs',h1,h2⟩:=hel i hi
    obtain ⟨s,u,e0,hA,hw⟩:=fa_stmt h2
    subst e0
    obtain ⟨_,_,hc⟩:=World.cells?_some h1
    exact ⟨s,u,fun j hj=>hc j hj,hA,hw⟩
   obtain ⟨b,off,spot⟩:=a
   obtain ⟨s0,u0,hc00,_⟩:=each 0 hc0
   have hspot:spot=none:=by
    have h0:=hc00 0 (by omega)
    simpa [Addr.add] using World.cell?_spot h0
   subst hspot
   haveI:Inhabited St:=⟨s0⟩
   obtain ⟨F,hF⟩:=choose_lt (α:=St) (p:=fun i s=>∃ u,StAt W b (off+i*3) s u∧(((D i).weights Tryz.prog 24).all (·≤reachBytes)=true→s.FitW)) (n:=n) (fun i hi=>by
    obtain ⟨s,u,c0,h1,h2⟩:=each i (by omega)
    refine ⟨s,u,?_,h2⟩
    have hc:∀ j v,j < 3→([.string s.vb,.string s.nm,u]:List Value)[j]?=some v→W.cell? ⟨b,off+i*3+j,none⟩=some v:=fun j v hj hv=>by
     have:=c0 j hj
     rw [Addr.add_lit,Addr.add_lit] at this
     rw [this]
     exact hv
    exact ⟨hc 0 _ (by omega) rfl,hc 1 _ (by omega) rfl,hc 2 _ (by omega) rfl,h1⟩)
   refine ⟨_,(List.range n).map F,rfl,.inr ⟨b,off,m,by simp,by simpa using hl,fun j s hj=>?_⟩,fun hw=>⟨by simpa using (hwt hw).1,fun s hs=>?_⟩⟩
   ·have hj':j < n:=by
      have:=(List.getElem?_eq_some_iff.1 hj).1
      simpa using this
    rw [List.getElem?_map,List.getElem?_range hj'] at hj
    obtain rfl:=Option.some.inj hj
    obtain ⟨u,c0,_⟩:=hF j hj'
    exact ⟨u,c0⟩
   ·obtain ⟨i,hi,rfl⟩:=List.mem_map.1 hs
    have hi':=List.mem_range.1 hi
    obtain ⟨u,_,h2⟩:=hF i hi'
    exact h2 ((hwt hw).2 i hi')
end Go.Proofs.YtdcadiaeaclpgaaGreatDoor
