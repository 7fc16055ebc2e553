/-
  The program's argument.
-/
import Derived.Test.YtdcadiaeaclpgaaGreatDoorBunSrg
namespace Go.Proofs.YtdcadiaeaclpgaaGreatDoor
open Go Go.RowKit Go.Lib Go.Sort
set_option linter.unusedVariables false
set_option linter.unusedSimpArgs false
set_option maxHeartbeats 3200000
set_option maxRecDepth 1000000
noncomputable def agU (L:List UInt8):Option Ag :=
 if L=[40,105,110,102,41] then some ⟨3,eS,Gz.zero,[],0⟩
 else if L.head?=some 40 then (match gzU L.tail with | some z=>some ⟨2,eS,z,[],0⟩ | none=>none)
 else if L.head?=some 91 then (match wordU L.tail with | some W=>some ⟨4,eS,Gz.zero,W,0⟩ | none=>none)
 else if L.head?=some 35 then (match ctU L.tail with | some n=>some ⟨5,eS,Gz.zero,[],n⟩ | none=>none)
 else if isNm (bA L) then some ⟨1,bA L,Gz.zero,[],0⟩ else none
def agA (L:List UInt8) (w:World) (base:Nat) (e:Ending):Prop:=match agU L with
 |some a=>∃ ab n c,e=.returned (agv a (.slice ab n c))∧OwI w base (.slice ab n c) a.wd
 |none=>e=upE
theorem agA_some {L:List UInt8} {a:Ag} (h:agU L=some a) (w:World) (base:Nat) (ab:Option Addr) (n c:Nat) (hO:OwI w base (.slice ab n c) a.wd):agA L w base (.returned (agv a (.slice ab n c))):=by
 unfold agA
 rw [h]
 exact ⟨ab,n,c,rfl,hO⟩
theorem agA_none {L:List UInt8} (h:agU L=none) (w:World) (base:Nat):agA L w base upE:=by
 unfold agA
 rw [h]
theorem tl_neM {L M:List UInt8} (h:¬ L=M):((bA L).toList == M)=false:=by
 have:¬ (bA L).toList=M:=fun e=>h (by
  rw [ByteArray.toList_eq] at e
  rw [← bA_list L]
  exact e)
 simpa using this
theorem cpre_any (L:List UInt8) (hL:L.length≤20000) (m:UInt8) (w:World) :
    Calls Tryz.prog 95 #[.string (bA L),.string ⟨#[m]⟩] w fun e w'=>e=.returned (.tuple #[.string (bA (if L.head?=some m then L.tail else L)),.bool (decide (L.head?=some m))])∧w'=w:=by
 have h:=cutPre_any (bA L) (by rw [bA_size]; unfold maxLen; omega) m w
 rw [tl1_bA,hd1_bA] at h
 exact h
theorem cpre_yes {L:List UInt8} (hL:L.length≤20000) {m:UInt8} (h:L.head?=some m) (w:World) :
    Calls Tryz.prog 95 #[.string (bA L),.string ⟨#[m]⟩] w fun e w'=>e=.returned (.tuple #[.string (bA L.tail),.bool true])∧w'=w:=by
 have h2:=cpre_any L hL m w
 rw [if_pos h,decide_eq_true h] at h2
 exact h2
theorem cpre_no {L:List UInt8} (hL:L.length≤20000) {m:UInt8} (h:¬ L.head?=some m) (w:World) :
    Calls Tryz.prog 95 #[.string (bA L),.string ⟨#[m]⟩] w fun e w'=>e=.returned (.tuple #[.string (bA L),.bool false])∧w'=w:=by
 have h2:=cpre_any L hL m w
 rw [if_neg h,decide_eq_false h] at h2
 exact h2
theorem Tryz.sizeAg:(Tryz.prog.info? 45).map (·.size)=some 12:=by kernel_rfl
theorem res_cellAg {fn:Func} {p:Tmp} (h:fn.results=#[.cell p 45]) (tmps:Array Value) (w:World) (g:Nat) (t:TypeId) (a:Ag) (v:Value) (fr:Nat × Nat)
    (hp:tmps.getD p undef=.pointer (some ⟨g,0,none⟩)) (hg:w.heap[g]?=some (.cells (agc a v) t fr)):(results fn tmps).run Tryz.prog w=.ok (agv a v) w :=
 results_cell_row h tmps w g t (agc a v) fr _ hp hg Tryz.underlying45 rfl Tryz.sizeAg
abbrev agZ:Obj:=.cells (agc ⟨0,eS,Gz.zero,[],0⟩ (.slice none 0 0)) 45
theorem arg_inf (w:World) :
    Calls Tryz.prog 73 #[.string (bA [40,105,110,102,41])] w fun e w'=>agA [40,105,110,102,41] w' w.heap.size e∧w.grownBy w' none:=by
 have HN:Hid (∀ w' base,agA [40,105,110,102,41] w' base (.returned (agv ⟨3,eS,Gz.zero,[],0⟩ (.slice none 0 0)))):=fun w' base=>agA_some (by unfold agU; rw [if_pos rfl]) _ _ _ _ _ (OwI.nil _ _)
 have e:bA [40,105,110,102,41]=⟨#[40,105,110,102,41]⟩:=rfl
 rw [e]
 generalize agA [40,105,110,102,41]=R at *
 clear e
 go_enter Tryz.func73,Tryz.ntmps73
 go_wp2_with fail
 refine bodyPost_ret (res_cellAg rfl _ _ w.heap.size _ ⟨3,eS,Gz.zero,[],0⟩ _ _ rfl (heap_alloc_new _ _)) rfl ?_
 exact ⟨HN.out _ _,grow1 _ _⟩
theorem arg_number (L:List UInt8) (hL:L.length≤20000) (hq:¬ L=[40,105,110,102,41]) (h0:L.head?=some 40) (w:World) :
    Calls Tryz.prog 73 #[.string (bA L)] w fun e w'=>agA L w' w.heap.size e∧w.grownBy w' none:=by
 have hE:=tl_neM hq
 have hC:=cpre_yes hL h0
 have hN:=number_any L.tail (by rw [List.length_tail]; omega)
 cases hz:gzU L.tail with
 |none =>
  have HN:Hid (∀ w',agA L w' w.heap.size upE):=fun w'=>agA_none (by unfold agU; rw [if_neg hq,if_pos h0,hz]) _ _
  have HC:Hid (∀ W,Calls Tryz.prog 96 #[.string (bA L.tail)] W fun e w'=>e=upE∧W.grownBy w' none):=fun W=>(hN W).mono fun e w' h=>by
   unfold gzA at h
   rw [hz] at h
   exact h
  clear hq h0 hz hN hL
  generalize agA L=R at *
  generalize bA L.tail=s2 at *
  generalize bA L=s at *
  go_enter Tryz.func73,Tryz.ntmps73
  go_wp2_with fail
  refine (hC _).mono ?_
  rintro e wq ⟨rfl,hwq⟩
  obtain rfl:=hwq.symm
  clear hwq
  go_wp2_with fail
  refine (HC.out _).mono ?_
  rintro e w1 ⟨rfl,g⟩
  have G:Hid (w.grownBy w1 none):=grownBy_trans (grow1 _ _) g
  clear g
  go_wp2_with fail
  simp only [bodyPost]
  exact ⟨trivial,HN.out _,G.out⟩
 |some z =>
  have HN:Hid (∀ w',agA L w' w.heap.size (.returned (agv ⟨2,eS,z,[],0⟩ (.slice none 0 0)))):=fun w'=>agA_some (by unfold agU; rw [if_neg hq,if_pos h0,hz]) _ _ _ _ _ (OwI.nil _ _)
  have HC:Hid (∀ W,Calls Tryz.prog 96 #[.string (bA L.tail)] W fun e w'=>e=.returned (gzv z)∧W.grownBy w' none):=fun W=>(hN W).mono fun e w' h=>by
   unfold gzA at h
   rw [hz] at h
   exact h
  clear hq h0 hz hN hL
  generalize agA L=R at *
  generalize bA L.tail=s2 at *
  generalize bA L=s at *
  go_enter Tryz.func73,Tryz.ntmps73
  go_wp2_with fail
  refine (hC _).mono ?_
  rintro e wq ⟨rfl,hwq⟩
  obtain rfl:=hwq.symm
  clear hwq
  go_wp2_with fail
  refine (HC.out _).mono ?_
  rintro e w1 ⟨rfl,g⟩
  have G:Hid (w.grownBy w1 none):=grownBy_trans (grow1 _ _) g
  have H1:Hid (w1.heap[w.heap.size]?=some agZ):=(g.block _ (by simp) (by simp)).trans (heap_alloc_new _ _)
  clear g
  have h1:=H1.out
  have d0:w1.cell? ⟨w.heap.size,0,none⟩=some (.int .i64 0):=by simp [World.cell?,h1,Gz.zero]
  have f0:w1.frozen? ⟨w.heap.size,0,none⟩=false:=by simp [World.frozen?,h1]
  have d1:w1.cell? ⟨w.heap.size,1,none⟩=some (.string eS):=by simp [World.cell?,h1,Gz.zero]
  have f1:w1.frozen? ⟨w.heap.size,1,none⟩=false:=by simp [World.frozen?,h1]
  have d2:w1.cell? ⟨w.heap.size,2,none⟩=some (.bool false):=by simp [World.cell?,h1,Gz.zero]
  have f2:w1.frozen? ⟨w.heap.size,2,none⟩=false:=by simp [World.frozen?,h1]
  have d3:w1.cell? ⟨w.heap.size,3,none⟩=some (.string eS):=by simp [World.cell?,h1,Gz.zero]
  have f3:w1.frozen? ⟨w.heap.size,3,none⟩=false:=by simp [World.frozen?,h1]
  have d4:w1.cell? ⟨w.heap.size,4,none⟩=some (.bool false):=by simp [World.cell?,h1,Gz.zero]
  have f4:w1.frozen? ⟨w.heap.size,4,none⟩=false:=by simp [World.frozen?,h1]
  have d5:w1.cell? ⟨w.heap.size,5,none⟩=some (.string eS):=by simp [World.cell?,h1,Gz.zero]
  have f5:w1.frozen? ⟨w.heap.size,5,none⟩=false:=by simp [World.frozen?,h1]
  have d6:w1.cell? ⟨w.heap.size,6,none⟩=some (.bool false):=by simp [World.cell?,h1,Gz.zero]
  have f6:w1.frozen? ⟨w.heap.size,6,none⟩=false:=by simp [World.frozen?,h1]
  have d7:w1.cell? ⟨w.heap.size,7,none⟩=some (.string eS):=by simp [World.cell?,h1,Gz.zero]
  have f7:w1.frozen? ⟨w.heap.size,7,none⟩=false:=by simp [World.frozen?,h1]
  have d8:w1.cell? ⟨w.heap.size,8,none⟩=some (.bool false):=by simp [World.cell?,h1,Gz.zero]
  have f8:w1.frozen? ⟨w.heap.size,8,none⟩=false:=by simp [World.frozen?,h1]
  have d9:w1.cell? ⟨w.heap.size,9,none⟩=some (.string eS):=by simp [World.cell?,h1,Gz.zero]
  have f9:w1.frozen? ⟨w.heap.size,9,none⟩=false:=by simp [World.frozen?,h1]
  have d10:w1.cell? ⟨w.heap.size,10,none⟩=some (.slice none 0 0):=by simp [World.cell?,h1,Gz.zero]
  have f10:w1.frozen? ⟨w.heap.size,10,none⟩=false:=by simp [World.frozen?,h1]
  have d11:w1.cell? ⟨w.heap.size,11,none⟩=some (.int .i64 0):=by simp [World.cell?,h1,Gz.zero]
  have f11:w1.frozen? ⟨w.heap.size,11,none⟩=false:=by simp [World.frozen?,h1]
  have H5:Hid (((((((((((((w1.setCell ⟨w.heap.size,0,none⟩ (.int .i64 2)).setCell ⟨w.heap.size,1,none⟩ (.string eS)).setCell ⟨w.heap.size,2,none⟩ (.bool z.a)).setCell ⟨w.heap.size,3,none⟩ (.string z.b)).setCell ⟨w.heap.size,4,none⟩ (.bool z.c)).setCell ⟨w.heap.size,5,none⟩ (.string z.d)).setCell ⟨w.heap.size,6,none⟩ (.bool z.e)).setCell ⟨w.heap.size,7,none⟩ (.string z.f)).setCell ⟨w.heap.size,8,none⟩ (.bool z.g)).setCell ⟨w.heap.size,9,none⟩ (.string z.h)).setCell ⟨w.heap.size,10,none⟩ (.slice none 0 0)).setCell ⟨w.heap.size,11,none⟩ (.int .i64 0)).heap[w.heap.size]?=some (.cells #[.int .i64 2,.string eS,.bool z.a,.string z.b,.bool z.c,.string z.d,.bool z.e,.string z.f,.bool z.g,.string z.h,.slice none 0 0,.int .i64 0] 45)):=by
   show _=_
   simp [World.setCell,Array.getElem?_modify,h1]
  have HG5:Hid (w.grownBy ((((((((((((w1.setCell ⟨w.heap.size,0,none⟩ (.int .i64 2)).setCell ⟨w.heap.size,1,none⟩ (.string eS)).setCell ⟨w.heap.size,2,none⟩ (.bool z.a)).setCell ⟨w.heap.size,3,none⟩ (.string z.b)).setCell ⟨w.heap.size,4,none⟩ (.bool z.c)).setCell ⟨w.heap.size,5,none⟩ (.string z.d)).setCell ⟨w.heap.size,6,none⟩ (.bool z.e)).setCell ⟨w.heap.size,7,none⟩ (.string z.f)).setCell ⟨w.heap.size,8,none⟩ (.bool z.g)).setCell ⟨w.heap.size,9,none⟩ (.string z.h)).setCell ⟨w.heap.size,10,none⟩ (.slice none 0 0)).setCell ⟨w.heap.size,11,none⟩ (.int .i64 0)) none):=(grown_set (grown_set (grown_set (grown_set (grown_set (grown_set (grown_set (grown_set (grown_set (grown_set (grown_set (grown_set G.out (Nat.le_refl _)) (Nat.le_refl _)) (Nat.le_refl _)) (Nat.le_refl _)) (Nat.le_refl _)) (Nat.le_refl _)) (Nat.le_refl _)) (Nat.le_refl _)) (Nat.le_refl _)) (Nat.le_refl _)) (Nat.le_refl _)) (Nat.le_refl _))
  have HG6:Hid (w1.grownBy ((((((((((((w1.setCell ⟨w.heap.size,0,none⟩ (.int .i64 2)).setCell ⟨w.heap.size,1,none⟩ (.string eS)).setCell ⟨w.heap.size,2,none⟩ (.bool z.a)).setCell ⟨w.heap.size,3,none⟩ (.string z.b)).setCell ⟨w.heap.size,4,none⟩ (.bool z.c)).setCell ⟨w.heap.size,5,none⟩ (.string z.d)).setCell ⟨w.heap.size,6,none⟩ (.bool z.e)).setCell ⟨w.heap.size,7,none⟩ (.string z.f)).setCell ⟨w.heap.size,8,none⟩ (.bool z.g)).setCell ⟨w.heap.size,9,none⟩ (.string z.h)).setCell ⟨w.heap.size,10,none⟩ (.slice none 0 0)).setCell ⟨w.heap.size,11,none⟩ (.int .i64 0)) (some w.heap.size)):=(grownBy_trans (grownBy_trans (grownBy_trans (grownBy_trans (grownBy_trans (grownBy_trans (grownBy_trans (grownBy_trans (grownBy_trans (grownBy_trans (grownBy_trans (grownBy_setCell _ _ _ _) (grownBy_setCell _ _ _ _)) (grownBy_setCell _ _ _ _)) (grownBy_setCell _ _ _ _)) (grownBy_setCell _ _ _ _)) (grownBy_setCell _ _ _ _)) (grownBy_setCell _ _ _ _)) (grownBy_setCell _ _ _ _)) (grownBy_setCell _ _ _ _)) (grownBy_setCell _ _ _ _)) (grownBy_setCell _ _ _ _)) (grownBy_setCell _ _ _ _))
  clear h1
  go_wp2_with fail
  refine bodyPost_ret (res_cellAg rfl _ _ w.heap.size _ ⟨2,eS,z,[],0⟩ _ _ rfl H5.out) rfl ?_
  exact ⟨HN.out _,HG5.out⟩
theorem arg_word (L:List UInt8) (hL:L.length≤20000) (hq:¬ L=[40,105,110,102,41]) (h0:L.head?=some 91) (w:World) (he:Errs w) :
    Calls Tryz.prog 73 #[.string (bA L)] w fun e w'=>agA L w' w.heap.size e∧w.grownBy w' none:=by
 have hE:=tl_neM hq
 have n40:¬ L.head?=some 40:=by rw [h0]; decide
 have hC40:=cpre_no hL n40
 have hC:=cpre_yes hL h0
 have hN:=sword_any L.tail (by rw [List.length_tail]; omega)
 have HEr:Hid (Errs w):=he
 cases hz:wordU L.tail with
 |none =>
  have HN:Hid (∀ w',agA L w' w.heap.size upE):=fun w'=>agA_none (by unfold agU; rw [if_neg hq,if_neg n40,if_pos h0,hz]) _ _
  have HC:Hid (∀ W,Errs W→Calls Tryz.prog 97 #[.string (bA L.tail)] W fun e w'=>e=upE∧W.grownBy w' none):=fun W hW=>(hN W hW).mono fun e w' h=>by
   unfold wordA at h
   rw [hz] at h
   exact h
  clear hq h0 hz hN hL n40 he
  generalize agA L=R at *
  generalize bA L.tail=s2 at *
  generalize bA L=s at *
  go_enter Tryz.func73,Tryz.ntmps73
  go_wp2_with fail
  refine (hC40 _).mono ?_
  rintro e wq ⟨rfl,hwq⟩
  obtain rfl:=hwq.symm
  clear hwq
  go_wp2_with fail
  refine (hC _).mono ?_
  rintro e wq ⟨rfl,hwq⟩
  obtain rfl:=hwq.symm
  clear hwq
  go_wp2_with fail
  refine (HC.out _ (HEr.out.kept (grow1 _ _))).mono ?_
  rintro e w1 ⟨rfl,g⟩
  have G:Hid (w.grownBy w1 none):=grownBy_trans (grow1 _ _) g
  clear g
  go_wp2_with fail
  simp only [bodyPost]
  exact ⟨trivial,HN.out _,G.out⟩
 |some V =>
  have HN:Hid (∀ w' ab n c,OwI w' w.heap.size (.slice ab n c) V→agA L w' w.heap.size (.returned (agv ⟨4,eS,Gz.zero,V,0⟩ (.slice ab n c)))):=fun w' ab n c hO=>agA_some (by unfold agU; rw [if_neg hq,if_neg n40,if_pos h0,hz]) _ _ _ _ _ hO
  have HC:Hid (∀ W,Errs W→Calls Tryz.prog 97 #[.string (bA L.tail)] W fun e w'=>(∃ v,e=.returned v∧OwI w' W.heap.size v V)∧W.grownBy w' none):=fun W hW=>(hN W hW).mono fun e w' h=>by
   unfold wordA at h
   rw [hz] at h
   exact h
  clear hq h0 hz hN hL n40 he
  generalize agA L=R at *
  generalize bA L.tail=s2 at *
  generalize bA L=s at *
  go_enter Tryz.func73,Tryz.ntmps73
  go_wp2_with fail
  refine (hC40 _).mono ?_
  rintro e wq ⟨rfl,hwq⟩
  obtain rfl:=hwq.symm
  clear hwq
  go_wp2_with fail
  refine (hC _).mono ?_
  rintro e wq ⟨rfl,hwq⟩
  obtain rfl:=hwq.symm
  clear hwq
  go_wp2_with fail
  refine (HC.out _ (HEr.out.kept (grow1 _ _))).mono ?_
  rintro e w1 ⟨⟨v,rfl,hO⟩,g⟩
  have G:Hid (w.grownBy w1 none):=grownBy_trans (grow1 _ _) g
  have H1:Hid (w1.heap[w.heap.size]?=some agZ):=(g.block _ (by simp) (by simp)).trans (heap_alloc_new _ _)
  obtain ⟨ab,c,rfl⟩:=hO.form
  generalize V.length=n at *
  have HO:Hid (OwI w1 (w.heap.size+1) (.slice ab n c) V):=by
   show OwI _ _ _ _
   simpa using hO
  clear g hO
  have h1:=H1.out
  have d0:w1.cell? ⟨w.heap.size,0,none⟩=some (.int .i64 0):=by simp [World.cell?,h1,Gz.zero]
  have f0:w1.frozen? ⟨w.heap.size,0,none⟩=false:=by simp [World.frozen?,h1]
  have d1:w1.cell? ⟨w.heap.size,1,none⟩=some (.string eS):=by simp [World.cell?,h1,Gz.zero]
  have f1:w1.frozen? ⟨w.heap.size,1,none⟩=false:=by simp [World.frozen?,h1]
  have d2:w1.cell? ⟨w.heap.size,2,none⟩=some (.bool false):=by simp [World.cell?,h1,Gz.zero]
  have f2:w1.frozen? ⟨w.heap.size,2,none⟩=false:=by simp [World.frozen?,h1]
  have d3:w1.cell? ⟨w.heap.size,3,none⟩=some (.string eS):=by simp [World.cell?,h1,Gz.zero]
  have f3:w1.frozen? ⟨w.heap.size,3,none⟩=false:=by simp [World.frozen?,h1]
  have d4:w1.cell? ⟨w.heap.size,4,none⟩=some (.bool false):=by simp [World.cell?,h1,Gz.zero]
  have f4:w1.frozen? ⟨w.heap.size,4,none⟩=false:=by simp [World.frozen?,h1]
  have d5:w1.cell? ⟨w.heap.size,5,none⟩=some (.string eS):=by simp [World.cell?,h1,Gz.zero]
  have f5:w1.frozen? ⟨w.heap.size,5,none⟩=false:=by simp [World.frozen?,h1]
  have d6:w1.cell? ⟨w.heap.size,6,none⟩=some (.bool false):=by simp [World.cell?,h1,Gz.zero]
  have f6:w1.frozen? ⟨w.heap.size,6,none⟩=false:=by simp [World.frozen?,h1]
  have d7:w1.cell? ⟨w.heap.size,7,none⟩=some (.string eS):=by simp [World.cell?,h1,Gz.zero]
  have f7:w1.frozen? ⟨w.heap.size,7,none⟩=false:=by simp [World.frozen?,h1]
  have d8:w1.cell? ⟨w.heap.size,8,none⟩=some (.bool false):=by simp [World.cell?,h1,Gz.zero]
  have f8:w1.frozen? ⟨w.heap.size,8,none⟩=false:=by simp [World.frozen?,h1]
  have d9:w1.cell? ⟨w.heap.size,9,none⟩=some (.string eS):=by simp [World.cell?,h1,Gz.zero]
  have f9:w1.frozen? ⟨w.heap.size,9,none⟩=false:=by simp [World.frozen?,h1]
  have d10:w1.cell? ⟨w.heap.size,10,none⟩=some (.slice none 0 0):=by simp [World.cell?,h1,Gz.zero]
  have f10:w1.frozen? ⟨w.heap.size,10,none⟩=false:=by simp [World.frozen?,h1]
  have d11:w1.cell? ⟨w.heap.size,11,none⟩=some (.int .i64 0):=by simp [World.cell?,h1,Gz.zero]
  have f11:w1.frozen? ⟨w.heap.size,11,none⟩=false:=by simp [World.frozen?,h1]
  have H5:Hid (((((((((((((w1.setCell ⟨w.heap.size,0,none⟩ (.int .i64 4)).setCell ⟨w.heap.size,1,none⟩ (.string eS)).setCell ⟨w.heap.size,2,none⟩ (.bool false)).setCell ⟨w.heap.size,3,none⟩ (.string eS)).setCell ⟨w.heap.size,4,none⟩ (.bool false)).setCell ⟨w.heap.size,5,none⟩ (.string eS)).setCell ⟨w.heap.size,6,none⟩ (.bool false)).setCell ⟨w.heap.size,7,none⟩ (.string eS)).setCell ⟨w.heap.size,8,none⟩ (.bool false)).setCell ⟨w.heap.size,9,none⟩ (.string eS)).setCell ⟨w.heap.size,10,none⟩ (.slice ab n c)).setCell ⟨w.heap.size,11,none⟩ (.int .i64 0)).heap[w.heap.size]?=some (.cells #[.int .i64 4,.string eS,.bool false,.string eS,.bool false,.string eS,.bool false,.string eS,.bool false,.string eS,.slice ab n c,.int .i64 0] 45)):=by
   show _=_
   simp [World.setCell,Array.getElem?_modify,h1]
  have HG5:Hid (w.grownBy ((((((((((((w1.setCell ⟨w.heap.size,0,none⟩ (.int .i64 4)).setCell ⟨w.heap.size,1,none⟩ (.string eS)).setCell ⟨w.heap.size,2,none⟩ (.bool false)).setCell ⟨w.heap.size,3,none⟩ (.string eS)).setCell ⟨w.heap.size,4,none⟩ (.bool false)).setCell ⟨w.heap.size,5,none⟩ (.string eS)).setCell ⟨w.heap.size,6,none⟩ (.bool false)).setCell ⟨w.heap.size,7,none⟩ (.string eS)).setCell ⟨w.heap.size,8,none⟩ (.bool false)).setCell ⟨w.heap.size,9,none⟩ (.string eS)).setCell ⟨w.heap.size,10,none⟩ (.slice ab n c)).setCell ⟨w.heap.size,11,none⟩ (.int .i64 0)) none):=(grown_set (grown_set (grown_set (grown_set (grown_set (grown_set (grown_set (grown_set (grown_set (grown_set (grown_set (grown_set G.out (Nat.le_refl _)) (Nat.le_refl _)) (Nat.le_refl _)) (Nat.le_refl _)) (Nat.le_refl _)) (Nat.le_refl _)) (Nat.le_refl _)) (Nat.le_refl _)) (Nat.le_refl _)) (Nat.le_refl _)) (Nat.le_refl _)) (Nat.le_refl _))
  have HG6:Hid (w1.grownBy ((((((((((((w1.setCell ⟨w.heap.size,0,none⟩ (.int .i64 4)).setCell ⟨w.heap.size,1,none⟩ (.string eS)).setCell ⟨w.heap.size,2,none⟩ (.bool false)).setCell ⟨w.heap.size,3,none⟩ (.string eS)).setCell ⟨w.heap.size,4,none⟩ (.bool false)).setCell ⟨w.heap.size,5,none⟩ (.string eS)).setCell ⟨w.heap.size,6,none⟩ (.bool false)).setCell ⟨w.heap.size,7,none⟩ (.string eS)).setCell ⟨w.heap.size,8,none⟩ (.bool false)).setCell ⟨w.heap.size,9,none⟩ (.string eS)).setCell ⟨w.heap.size,10,none⟩ (.slice ab n c)).setCell ⟨w.heap.size,11,none⟩ (.int .i64 0)) (some w.heap.size)):=(grownBy_trans (grownBy_trans (grownBy_trans (grownBy_trans (grownBy_trans (grownBy_trans (grownBy_trans (grownBy_trans (grownBy_trans (grownBy_trans (grownBy_trans (grownBy_setCell _ _ _ _) (grownBy_setCell _ _ _ _)) (grownBy_setCell _ _ _ _)) (grownBy_setCell _ _ _ _)) (grownBy_setCell _ _ _ _)) (grownBy_setCell _ _ _ _)) (grownBy_setCell _ _ _ _)) (grownBy_setCell _ _ _ _)) (grownBy_setCell _ _ _ _)) (grownBy_setCell _ _ _ _)) (grownBy_setCell _ _ _ _)) (grownBy_setCell _ _ _ _))
  clear h1
  go_wp2_with fail
  refine bodyPost_ret (res_cellAg rfl _ _ w.heap.size _ ⟨4,eS,Gz.zero,V,0⟩ _ _ rfl H5.out) rfl ?_
  refine ⟨HN.out _ _ _ _ ((HO.out.kept HG6.out ?_).mono (by omega)),HG5.out⟩
  rcases HO.out.cases with ⟨e,_⟩ | ⟨g,c',e,hb,_⟩
  ·exact .inl (by rw [e]; rfl)
  ·refine .inr ?_
   rw [e]
   simp [Value.ownBlock]
   omega
theorem arg_count (L:List UInt8) (hL:L.length≤20000) (hq:¬ L=[40,105,110,102,41]) (h0:L.head?=some 35) (w:World) (he:Errs w) :
    Calls Tryz.prog 73 #[.string (bA L)] w fun e w'=>agA L w' w.heap.size e∧w.grownBy w' none:=by
 have hE:=tl_neM hq
 have n40:¬ L.head?=some 40:=by rw [h0]; decide
 have n91:¬ L.head?=some 91:=by rw [h0]; decide
 have hC40:=cpre_no hL n40
 have hC91:=cpre_no hL n91
 have hC:=cpre_yes hL h0
 have hN:=count_any L.tail (by rw [List.length_tail]; omega)
 have HEr:Hid (Errs w):=he
 cases hz:ctU L.tail with
 |none =>
  have HN:Hid (∀ w',agA L w' w.heap.size upE):=fun w'=>agA_none (by unfold agU; rw [if_neg hq,if_neg n40,if_neg n91,if_pos h0,hz]) _ _
  have HC:Hid (∀ W,Errs W→Calls Tryz.prog 98 #[.string (bA L.tail)] W fun e w'=>e=upE∧W.grownBy w' none):=fun W hW=>(hN W hW).mono fun e w' h=>by
   unfold ctA at h
   rw [hz] at h
   exact h
  clear hq h0 hz hN hL n40 n91 he
  generalize agA L=R at *
  generalize bA L.tail=s2 at *
  generalize bA L=s at *
  go_enter Tryz.func73,Tryz.ntmps73
  go_wp2_with fail
  refine (hC40 _).mono ?_
  rintro e wq ⟨rfl,hwq⟩
  obtain rfl:=hwq.symm
  clear hwq
  go_wp2_with fail
  refine (hC91 _).mono ?_
  rintro e wq ⟨rfl,hwq⟩
  obtain rfl:=hwq.symm
  clear hwq
  go_wp2_with fail
  refine (hC _).mono ?_
  rintro e wq ⟨rfl,hwq⟩
  obtain rfl:=hwq.symm
  clear hwq
  go_wp2_with fail
  refine (HC.out _ (HEr.out.kept (grow1 _ _))).mono ?_
  rintro e w1 ⟨rfl,g⟩
  have G:Hid (w.grownBy w1 none):=grownBy_trans (grow1 _ _) g
  clear g
  go_wp2_with fail
  simp only [bodyPost]
  exact ⟨trivial,HN.out _,G.out⟩
 |some k =>
  have HN:Hid (∀ w',agA L w' w.heap.size (.returned (agv ⟨5,eS,Gz.zero,[],k⟩ (.slice none 0 0)))):=fun w'=>agA_some (by unfold agU; rw [if_neg hq,if_neg n40,if_neg n91,if_pos h0,hz]) _ _ _ _ _ (OwI.nil _ _)
  have HC:Hid (∀ W,Errs W→Calls Tryz.prog 98 #[.string (bA L.tail)] W fun e w'=>e=.returned (.int .i64 k)∧W.grownBy w' none):=fun W hW=>(hN W hW).mono fun e w' h=>by
   unfold ctA at h
   rw [hz] at h
   exact h
  clear hq h0 hz hN hL n40 n91 he
  generalize agA L=R at *
  generalize bA L.tail=s2 at *
  generalize bA L=s at *
  go_enter Tryz.func73,Tryz.ntmps73
  go_wp2_with fail
  refine (hC40 _).mono ?_
  rintro e wq ⟨rfl,hwq⟩
  obtain rfl:=hwq.symm
  clear hwq
  go_wp2_with fail
  refine (hC91 _).mono ?_
  rintro e wq ⟨rfl,hwq⟩
  obtain rfl:=hwq.symm
  clear hwq
  go_wp2_with fail
  refine (hC _).mono ?_
  rintro e wq ⟨rfl,hwq⟩
  obtain rfl:=hwq.symm
  clear hwq
  go_wp2_with fail
  refine (HC.out _ (HEr.out.kept (grow1 _ _))).mono ?_
  rintro e w1 ⟨rfl,g⟩
  have G:Hid (w.grownBy w1 none):=grownBy_trans (grow1 _ _) g
  have H1:Hid (w1.heap[w.heap.size]?=some agZ):=(g.block _ (by simp) (by simp)).trans (heap_alloc_new _ _)
  clear g
  have h1:=H1.out
  have d0:w1.cell? ⟨w.heap.size,0,none⟩=some (.int .i64 0):=by simp [World.cell?,h1,Gz.zero]
  have f0:w1.frozen? ⟨w.heap.size,0,none⟩=false:=by simp [World.frozen?,h1]
  have d1:w1.cell? ⟨w.heap.size,1,none⟩=some (.string eS):=by simp [World.cell?,h1,Gz.zero]
  have f1:w1.frozen? ⟨w.heap.size,1,none⟩=false:=by simp [World.frozen?,h1]
  have d2:w1.cell? ⟨w.heap.size,2,none⟩=some (.bool false):=by simp [World.cell?,h1,Gz.zero]
  have f2:w1.frozen? ⟨w.heap.size,2,none⟩=false:=by simp [World.frozen?,h1]
  have d3:w1.cell? ⟨w.heap.size,3,none⟩=some (.string eS):=by simp [World.cell?,h1,Gz.zero]
  have f3:w1.frozen? ⟨w.heap.size,3,none⟩=false:=by simp [World.frozen?,h1]
  have d4:w1.cell? ⟨w.heap.size,4,none⟩=some (.bool false):=by simp [World.cell?,h1,Gz.zero]
  have f4:w1.frozen? ⟨w.heap.size,4,none⟩=false:=by simp [World.frozen?,h1]
  have d5:w1.cell? ⟨w.heap.size,5,none⟩=some (.string eS):=by simp [World.cell?,h1,Gz.zero]
  have f5:w1.frozen? ⟨w.heap.size,5,none⟩=false:=by simp [World.frozen?,h1]
  have d6:w1.cell? ⟨w.heap.size,6,none⟩=some (.bool false):=by simp [World.cell?,h1,Gz.zero]
  have f6:w1.frozen? ⟨w.heap.size,6,none⟩=false:=by simp [World.frozen?,h1]
  have d7:w1.cell? ⟨w.heap.size,7,none⟩=some (.string eS):=by simp [World.cell?,h1,Gz.zero]
  have f7:w1.frozen? ⟨w.heap.size,7,none⟩=false:=by simp [World.frozen?,h1]
  have d8:w1.cell? ⟨w.heap.size,8,none⟩=some (.bool false):=by simp [World.cell?,h1,Gz.zero]
  have f8:w1.frozen? ⟨w.heap.size,8,none⟩=false:=by simp [World.frozen?,h1]
  have d9:w1.cell? ⟨w.heap.size,9,none⟩=some (.string eS):=by simp [World.cell?,h1,Gz.zero]
  have f9:w1.frozen? ⟨w.heap.size,9,none⟩=false:=by simp [World.frozen?,h1]
  have d10:w1.cell? ⟨w.heap.size,10,none⟩=some (.slice none 0 0):=by simp [World.cell?,h1,Gz.zero]
  have f10:w1.frozen? ⟨w.heap.size,10,none⟩=false:=by simp [World.frozen?,h1]
  have d11:w1.cell? ⟨w.heap.size,11,none⟩=some (.int .i64 0):=by simp [World.cell?,h1,Gz.zero]
  have f11:w1.frozen? ⟨w.heap.size,11,none⟩=false:=by simp [World.frozen?,h1]
  have H5:Hid (((((((((((((w1.setCell ⟨w.heap.size,0,none⟩ (.int .i64 5)).setCell ⟨w.heap.size,1,none⟩ (.string eS)).setCell ⟨w.heap.size,2,none⟩ (.bool false)).setCell ⟨w.heap.size,3,none⟩ (.string eS)).setCell ⟨w.heap.size,4,none⟩ (.bool false)).setCell ⟨w.heap.size,5,none⟩ (.string eS)).setCell ⟨w.heap.size,6,none⟩ (.bool false)).setCell ⟨w.heap.size,7,none⟩ (.string eS)).setCell ⟨w.heap.size,8,none⟩ (.bool false)).setCell ⟨w.heap.size,9,none⟩ (.string eS)).setCell ⟨w.heap.size,10,none⟩ (.slice none 0 0)).setCell ⟨w.heap.size,11,none⟩ (.int .i64 k)).heap[w.heap.size]?=some (.cells #[.int .i64 5,.string eS,.bool false,.string eS,.bool false,.string eS,.bool false,.string eS,.bool false,.string eS,.slice none 0 0,.int .i64 k] 45)):=by
   show _=_
   simp [World.setCell,Array.getElem?_modify,h1]
  have HG5:Hid (w.grownBy ((((((((((((w1.setCell ⟨w.heap.size,0,none⟩ (.int .i64 5)).setCell ⟨w.heap.size,1,none⟩ (.string eS)).setCell ⟨w.heap.size,2,none⟩ (.bool false)).setCell ⟨w.heap.size,3,none⟩ (.string eS)).setCell ⟨w.heap.size,4,none⟩ (.bool false)).setCell ⟨w.heap.size,5,none⟩ (.string eS)).setCell ⟨w.heap.size,6,none⟩ (.bool false)).setCell ⟨w.heap.size,7,none⟩ (.string eS)).setCell ⟨w.heap.size,8,none⟩ (.bool false)).setCell ⟨w.heap.size,9,none⟩ (.string eS)).setCell ⟨w.heap.size,10,none⟩ (.slice none 0 0)).setCell ⟨w.heap.size,11,none⟩ (.int .i64 k)) none):=(grown_set (grown_set (grown_set (grown_set (grown_set (grown_set (grown_set (grown_set (grown_set (grown_set (grown_set (grown_set G.out (Nat.le_refl _)) (Nat.le_refl _)) (Nat.le_refl _)) (Nat.le_refl _)) (Nat.le_refl _)) (Nat.le_refl _)) (Nat.le_refl _)) (Nat.le_refl _)) (Nat.le_refl _)) (Nat.le_refl _)) (Nat.le_refl _)) (Nat.le_refl _))
  have HG6:Hid (w1.grownBy ((((((((((((w1.setCell ⟨w.heap.size,0,none⟩ (.int .i64 5)).setCell ⟨w.heap.size,1,none⟩ (.string eS)).setCell ⟨w.heap.size,2,none⟩ (.bool false)).setCell ⟨w.heap.size,3,none⟩ (.string eS)).setCell ⟨w.heap.size,4,none⟩ (.bool false)).setCell ⟨w.heap.size,5,none⟩ (.string eS)).setCell ⟨w.heap.size,6,none⟩ (.bool false)).setCell ⟨w.heap.size,7,none⟩ (.string eS)).setCell ⟨w.heap.size,8,none⟩ (.bool false)).setCell ⟨w.heap.size,9,none⟩ (.string eS)).setCell ⟨w.heap.size,10,none⟩ (.slice none 0 0)).setCell ⟨w.heap.size,11,none⟩ (.int .i64 k)) (some w.heap.size)):=(grownBy_trans (grownBy_trans (grownBy_trans (grownBy_trans (grownBy_trans (grownBy_trans (grownBy_trans (grownBy_trans (grownBy_trans (grownBy_trans (grownBy_trans (grownBy_setCell _ _ _ _) (grownBy_setCell _ _ _ _)) (grownBy_setCell _ _ _ _)) (grownBy_setCell _ _ _ _)) (grownBy_setCell _ _ _ _)) (grownBy_setCell _ _ _ _)) (grownBy_setCell _ _ _ _)) (grownBy_setCell _ _ _ _)) (grownBy_setCell _ _ _ _)) (grownBy_setCell _ _ _ _)) (grownBy_setCell _ _ _ _)) (grownBy_setCell _ _ _ _))
  clear h1
  go_wp2_with fail
  refine bodyPost_ret (res_cellAg rfl _ _ w.heap.size _ ⟨5,eS,Gz.zero,[],k⟩ _ _ rfl H5.out) rfl ?_
  exact ⟨HN.out _,HG5.out⟩
theorem arg_name (L:List UInt8) (hL:L.length≤20000) (hq:¬ L=[40,105,110,102,41]) (n40:¬ L.head?=some 40) (n91:¬ L.head?=some 91) (n35:¬ L.head?=some 35) (w:World) :
    Calls Tryz.prog 73 #[.string (bA L)] w fun e w'=>agA L w' w.heap.size e∧w.grownBy w' none:=by
 have hE:=tl_neM hq
 have hC40:=cpre_no hL n40
 have hC91:=cpre_no hL n91
 have hC35:=cpre_no hL n35
 have hI:=isName_any (bA L) (by rw [bA_size]; unfold maxLen; omega)
 have hm1:=must_yes
 have hm2:=must_no
 cases hz:isNm (bA L)
 ·have HN:Hid (∀ w',agA L w' w.heap.size upE):=fun w'=>agA_none (by unfold agU; rw [if_neg hq,if_neg n40,if_neg n91,if_neg n35,hz]; rfl) _ _
  rw [hz] at hI
  clear hq hz hL n40 n91 n35
  generalize agA L=R at *
  generalize bA L=s at *
  go_enter Tryz.func73,Tryz.ntmps73
  go_wp2_with fail
  refine (hC40 _).mono ?_
  rintro e wq ⟨rfl,hwq⟩
  obtain rfl:=hwq.symm
  clear hwq
  go_wp2_with fail
  refine (hC91 _).mono ?_
  rintro e wq ⟨rfl,hwq⟩
  obtain rfl:=hwq.symm
  clear hwq
  go_wp2_with fail
  refine (hC35 _).mono ?_
  rintro e wq ⟨rfl,hwq⟩
  obtain rfl:=hwq.symm
  clear hwq
  go_wp2_with fail
  refine (hI _).mono ?_
  rintro e wq ⟨rfl,hwq⟩
  obtain rfl:=hwq.symm
  clear hwq
  go_wp2_with fail
  refine (hm2 _).mono ?_
  rintro e w1 ⟨rfl,rfl⟩
  go_wp2_with fail
  simp only [bodyPost]
  exact ⟨trivial,HN.out _,grow1 _ _⟩
 ·have HN:Hid (∀ w',agA L w' w.heap.size (.returned (agv ⟨1,bA L,Gz.zero,[],0⟩ (.slice none 0 0)))):=fun w'=>agA_some (by unfold agU; rw [if_neg hq,if_neg n40,if_neg n91,if_neg n35,hz]; rfl) _ _ _ _ _ (OwI.nil _ _)
  rw [hz] at hI
  clear hq hz hL n40 n91 n35
  generalize agA L=R at *
  generalize bA L=s at *
  go_enter Tryz.func73,Tryz.ntmps73
  go_wp2_with fail
  refine (hC40 _).mono ?_
  rintro e wq ⟨rfl,hwq⟩
  obtain rfl:=hwq.symm
  clear hwq
  go_wp2_with fail
  refine (hC91 _).mono ?_
  rintro e wq ⟨rfl,hwq⟩
  obtain rfl:=hwq.symm
  clear hwq
  go_wp2_with fail
  refine (hC35 _).mono ?_
  rintro e wq ⟨rfl,hwq⟩
  obtain rfl:=hwq.symm
  clear hwq
  go_wp2_with fail
  refine (hI _).mono ?_
  rintro e wq ⟨rfl,hwq⟩
  obtain rfl:=hwq.symm
  clear hwq
  go_wp2_with fail
  refine (hm1 _).mono ?_
  rintro e wq ⟨rfl,hwq⟩
  obtain rfl:=hwq.symm
  clear hwq
  go_wp2_with fail
  refine bodyPost_ret (res_cellAg rfl _ _ w.heap.size _ ⟨1,s,Gz.zero,[],0⟩ _ _ rfl (heap_alloc_new _ _)) rfl ?_
  exact ⟨HN.out _,grow1 _ _⟩
theorem argument_any (L:List UInt8) (hL:L.length≤20000) (w:World) (he:Errs w) :
    Calls Tryz.prog 73 #[.string (bA L)] w fun e w'=>agA L w' w.heap.size e∧w.grownBy w' none:=by
 by_cases hq:L=[40,105,110,102,41]
 ·subst hq
  exact arg_inf w
 by_cases h40:L.head?=some 40
 ·exact arg_number L hL hq h40 w
 by_cases h91:L.head?=some 91
 ·exact arg_word L hL hq h91 w he
 by_cases h35:L.head?=some 35
 ·exact arg_count L hL hq h35 w he
 exact arg_name L hL hq h40 h91 h35 w
end Go.Proofs.YtdcadiaeaclpgaaGreatDoor
