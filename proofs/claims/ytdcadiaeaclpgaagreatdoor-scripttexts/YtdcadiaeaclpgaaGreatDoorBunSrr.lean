/-
  The program's Read.
  The law's vast.
  The law's known: what its closed texts say.
  The law's known.
-/
import Derived.Test.YtdcadiaeaclpgaaGreatDoorSrq
import Derived.Test.YtdcadiaeaclpgaaGreatDoorBunSra
import Derived.Test.YtdcadiaeaclpgaaGreatDoorBunScs
namespace Go.Proofs.YtdcadiaeaclpgaaGreatDoor
open Go Go.RowKit Go.Lib Go.Sort
set_option linter.unusedVariables false
set_option linter.unusedSimpArgs false
set_option maxHeartbeats 6400000
set_option maxRecDepth 1000000
theorem Fr.moved {w1 w2:World} {b:Nat} {v:Value} {L:List Int} (h:Fr w1 b v L) (hk:∀ k,b≤k→w2.heap[k]?=w1.heap[k]?):Fr w2 b v L:=by
 rcases h with h | ⟨B,off,c,cur,e,hb,hg,r⟩
 ·exact .inl h
 ·exact .inr ⟨B,off,c,cur,e,hb,(hk B hb).trans hg,r⟩
theorem AgsF.moved {w1 w2:World} {b:Nat} {v:Value} {G:List Ag} (h:AgsF w1 b v G) (hk:∀ k,b≤k→w2.heap[k]?=w1.heap[k]?):AgsF w2 b v G:=by
 rcases h with h | ⟨B,c,cur,e,h1,h2,h3,h4,h5,h6⟩
 ·exact .inl h
 ·refine .inr ⟨B,c,cur,e,h1,(hk B h1).trans h2,h3,h4,h5,fun j a hj=>?_⟩
  obtain ⟨u,hu,hx⟩:=h6 j a hj
  exact ⟨u,hu.moved hk,hx⟩
theorem AgsF.args {w:World} {b:Nat} {v:Value} {G:List Ag} (h:AgsF w b v G):Args w v G:=by
 rcases h with ⟨rfl,rfl⟩ | ⟨B,c,cur,rfl,h1,h2,h3,h4,h5,h6⟩
 ·exact .inl ⟨rfl,none,0,rfl⟩
 ·refine .inr ⟨B,0,c,rfl,h3,fun j a hj=>?_⟩
  obtain ⟨u,hu,hx⟩:=h6 j a hj
  refine ⟨u,?_,hu.ints⟩
  have hc:∀ i x,i < 12→(agc a u).toList[i]?=some x→w.cell? ⟨B,0+j*12+i,none⟩=some x:=fun i x hi hx2=>by
   rw [Nat.zero_add]
   simp only [World.cell?,h2]
   rw [hx i hi]
   exact hx2
  exact ⟨hc 0 _ (by omega) rfl,hc 1 _ (by omega) rfl,hc 2 _ (by omega) rfl,hc 3 _ (by omega) rfl,hc 4 _ (by omega) rfl,hc 5 _ (by omega) rfl,hc 6 _ (by omega) rfl,hc 7 _ (by omega) rfl,hc 8 _ (by omega) rfl,hc 9 _ (by omega) rfl,hc 10 _ (by omega) rfl,hc 11 _ (by omega) rfl⟩
def rdA (L:List UInt8) (w:World) (base:Nat) (e:Ending):Prop:=match stU L with
 |some s=>∃ ab c,e=.returned (.tuple #[.agg #[.string s.vb,.string s.nm,.slice ab s.ags.length c],.int .i64 0])∧AgsF w base (.slice ab s.ags.length c) s.ags
 |none=>e=.returned (.tuple #[.agg #[.string eS,.string eS,.slice none 0 0],.int .i64 400])
theorem read_any_of (L:List UInt8) (hL:L.length≤20000) (w:World) (he:Errs w) :
    Calls Tryz.prog 18 #[.string (bA L)] w fun e w'=>rdA L w' (w.heap.size+2) e∧w.grownBy w' none:=by
 cases hs:stU L with
 |none =>
  refine (read_up (bA L) w (fun W hg=>(statement_any L hL W (he.kept hg)).mono fun e w' h=>?_)).mono ?_
  ·unfold stA at h
   rw [hs] at h
   exact h
  ·rintro e w' ⟨rfl,hg⟩
   refine ⟨?_,hg⟩
   unfold rdA
   rw [hs]
 |some s =>
  refine (read_ok (bA L) s.vb s.nm s.ags.length (fun w b v=>AgsF w b v s.ags) (fun w1 w2 b v h hk=>h.moved hk) w (fun W hg=>(statement_any L hL W (he.kept hg)).mono fun e w' h=>?_)).mono ?_
  ·unfold stA at h
   rw [hs] at h
   obtain ⟨⟨ab,c,h1,h2⟩,h3⟩:=h
   exact ⟨ab,c,h1,h2,h3⟩
  ·rintro e w' ⟨ab,c,rfl,h1,hg⟩
   refine ⟨?_,hg⟩
   unfold rdA
   rw [hs]
   exact ⟨ab,c,rfl,h1⟩
end Go.Proofs.YtdcadiaeaclpgaaGreatDoor
namespace Go.Proofs.YtdcadiaeaclpgaaGreatDoor
open Go.RowKit Go.Lib Go.Sort
set_option linter.unusedVariables false
set_option linter.unusedSimpArgs false
set_option maxHeartbeats 6400000
set_option maxRecDepth 1000000
structure Ag.FitW (a:Ag):Prop where
 nm:a.nm.size≤maxLen
 z:a.z.Fit
 wd:a.wd.length≤1000000000000000000
structure St.FitW (s:St):Prop where
 vb:s.vb.size≤maxLen
 nm:s.nm.size≤maxLen
 len:s.ags.length≤1000000000000
 ags:∀ a∈s.ags,a.FitW
def bigA (a:Ag):Bool:=decide (60 < a.wd.length) || (decide (500 < a.nm.size) || (decide (60 < a.z.b.size) || (decide (60 < a.z.d.size) || (decide (60 < a.z.f.size) || decide (60 < a.z.h.size)))))
def bigS (s:St):Bool:=decide (70 < s.ags.length) || (decide (500 < s.vb.size) || (decide (500 < s.nm.size) || s.ags.any bigA))
theorem bigA_few {a:Ag} (h:bigA a=false):a.Few:=by
 simp [bigA] at h
 exact ⟨by omega,by omega,by omega,by omega⟩
theorem anyA_take {f:Ag→Bool} {L:List Ag} {i:Nat} {a:Ag} (h:(L.take i).any f=false) (hi:L[i]?=some a) (hf:f a=false):(L.take (i+1)).any f=false:=by
 rw [List.take_add_one,hi,List.any_append,h]
 simpa using hf
theorem anyA_yes {f:Ag→Bool} {L:List Ag} {i:Nat} {a:Ag} (hi:L[i]?=some a) (hf:f a=true):L.any f=true:=by
 rw [List.any_eq_true]
 exact ⟨_,List.mem_of_getElem? hi,hf⟩
theorem vast_any (w:World) (v:Value) (s:St) (hv:Stv w v s) (hs:s.FitW) :
    Calls Tryz.prog 9 #[v] w fun e w'=>e=.returned (.bool (bigS s))∧w.grownBy w' none:=by
 obtain ⟨u,rfl,hA⟩:=hv
 obtain ⟨ab,c,rfl,HR⟩:=hA.reads
 obtain ⟨vb,nm,ags⟩:=s
 simp only at HR
 have HR1:Hid (∀ w',w.grownBy w' none→∀ i a,ags[i]?=some a→∃ B off wv,ab=some ⟨B,off,none⟩∧AgAt w' B (off+i*12) a wv∧Ints w' wv a.wd∧ags.length≤c):=HR
 have HF:Hid (∀ a∈ags,a.FitW):=hs.ags
 have hv1:=hs.vb
 have hv2:=hs.nm
 unfold maxLen at hv1 hv2
 simp only at hv1 hv2
 have hlen:ags.length≤1000000000000:=hs.len
 have HO:Hid (bigS ⟨vb,nm,ags⟩=(decide (70 < ags.length) || (decide (500 < vb.size) || (decide (500 < nm.size) || ags.any bigA)))):=rfl
 clear HR hA hs
 generalize bigS _=r at *
 obtain ⟨n,hn⟩:∃ n,ags.length=n:=⟨_,rfl⟩
 have HLn:Unit→ags.length=n:=fun _=>hn
 simp only
 rw [hn] at HO hlen ⊢
 simp only [hn] at HR1
 clear hn
 have hnI:(n:Int)≤1000000000000:=by omega
 have hvI:(vb.size:Int)≤9223372036854775807:=by omega
 have hmI:(nm.size:Int)≤9223372036854775807:=by omega
 by_cases hb:70 < n∨500 < vb.size∨500 < nm.size
 ·have HO2:Hid (r=true):=by
    show _=_
    rw [HO.out]
    rcases hb with h | h | h <;> simp [h]
  clear HO hlen hv1 hv2
  rcases (show (71:Int)≤n∨((n:Int)≤70∧(501:Int)≤vb.size)∨((n:Int)≤70∧(vb.size:Int)≤500∧(501:Int)≤nm.size) by omega) with h | ⟨h1,h2⟩ | ⟨h1,h2,h3⟩
  all_goals clear hb
  all_goals go_enter Tryz.func9,Tryz.ntmps9
  all_goals go_wp2
  all_goals go_ret
  all_goals exact ⟨ret_bool HO2.out.symm,grow1 _ _⟩
 ·have h1:(n:Int)≤70:=by omega
  have h2:(vb.size:Int)≤500:=by omega
  have h3:(nm.size:Int)≤500:=by omega
  have HO2:Hid (r=ags.any bigA):=by
   show _=_
   rw [HO.out,decide_eq_false (by omega),decide_eq_false (by omega),decide_eq_false (by omega)]
   rfl
  clear HO hlen hv1 hv2 hb
  go_enter Tryz.func9,Tryz.ntmps9
  go_wp2
  go_loopw [3] (fun s' wr=>∃ i:Nat,i≤n∧s'=.int .i64 i∧(ags.take i).any bigA=false∧(w.alloc (sObj vb nm (.slice ab n c))).grownBy wr none) (fun s _=>match s with | .int _ i=>n - i.toNat | _=>0)
  case atStart=>exact ⟨0,by omega,rfl,rfl,grow0 _⟩
  case round =>
   obtain ⟨i,hi,rfl,hp,hg⟩:=hrel
   have HP:Hid ((ags.take i).any bigA=false):=hp
   have HGb:Hid ((w.alloc (sObj vb nm (.slice ab n c))).grownBy wr none):=hg
   have HG:Hid (w.grownBy wr none):=grownBy_trans (grow1 _ _) hg
   have s2:=sObj_2 hg
   clear hp hg
   by_cases hlt:i < n
   ·have hlt':i < ags.length:=by rw [HLn ()]; exact hlt
    obtain ⟨a,hia⟩:∃ a,ags[i]?=some a:=⟨_,List.getElem?_eq_getElem hlt'⟩
    obtain ⟨B,off,wv,rfl,hat,hin,hnc⟩:=HR1.out wr HG.out i _ hia
    have hfit:=HF.out a (List.mem_of_getElem? hia)
    have HT:Hid (bigA a=false→(ags.take (i+1)).any bigA=false):=fun hf=>anyA_take HP.out hia hf
    have HX:Hid (bigA a=true→r=true):=fun hf=>by rw [HO2.out]; exact anyA_yes hia hf
    have HB:Hid (bigA a=(decide (60 < a.wd.length) || (decide (500 < a.nm.size) || (decide (60 < a.z.b.size) || (decide (60 < a.z.d.size) || (decide (60 < a.z.f.size) || decide (60 < a.z.h.size))))))):=rfl
    obtain ⟨ab2,c2,rfl⟩:=hin.form
    have z0:(a.wd.length:Int)≤9223372036854775807:=by have:=hfit.wd; omega
    have z1:(a.nm.size:Int)≤9223372036854775807:=by have:=hfit.nm; unfold maxLen at this; omega
    have z2:(a.z.b.size:Int)≤9223372036854775807:=by have:=hfit.z.b; unfold maxLen at this; omega
    have z3:(a.z.d.size:Int)≤9223372036854775807:=by have:=hfit.z.d; unfold maxLen at this; omega
    have z4:(a.z.f.size:Int)≤9223372036854775807:=by have:=hfit.z.f; unfold maxLen at this; omega
    have z5:(a.z.h.size:Int)≤9223372036854775807:=by have:=hfit.z.h; unfold maxLen at this; omega
    generalize bigA a=q at *
    obtain ⟨k0,k1,k2,k3,k4,k5,k6,k7,k8,k9,k10,k11⟩:=hat
    have hltI:(i:Int) < n:=by omega
    generalize a.wd.length=n2 at *
    clear hin hfit hlt' hia
    go_wp2
    all_goals first
     |(go_ret
       have hq:q=true:=by
        rw [HB.out]
        simp
        omega
       exact ⟨ret_bool (HX.out hq).symm,grownBy_trans HG.out (grow1 _ _)⟩)
     |(have hq:q=false:=by
         rw [HB.out]
         simp
         omega
       exact ⟨⟨i+1,by omega,num_eq (by omega),HT.out hq,grownBy_trans HGb.out (grow1 _ _)⟩,by simp; omega⟩)
   ·have e:i=n:=by omega
    subst e
    have HE:Hid (r=false):=by
     show _=_
     rw [HO2.out]
     have h:=HP.out
     rw [← HLn (),List.take_length] at h
     exact h
    go_wp2
    go_ret
    exact ⟨ret_bool HE.out.symm,HG.out⟩
end Go.Proofs.YtdcadiaeaclpgaaGreatDoor
namespace Go.Proofs.YtdcadiaeaclpgaaGreatDoor
open Go Go.RowKit Go.Lib Go.Sort
set_option linter.unusedVariables false
set_option linter.unusedSimpArgs false
set_option maxHeartbeats 6400000
set_option maxRecDepth 1000000
def kA:ByteArray:=⟨#[97]⟩
def kst:St:=⟨⟨#[99,105,114,99,108,101]⟩,⟨#[99]⟩,[⟨1,⟨#[97]⟩,Gz.zero,[],0⟩,⟨3,eS,Gz.zero,[],0⟩,⟨4,eS,Gz.zero,[1,-2],0⟩,⟨5,eS,Gz.zero,[],7⟩]⟩
def kL:List UInt8:=[99,105,114,99,108,101,32,61,99,32,97,32,40,105,110,102,41,32,91,49,46,45,50,93,32,35,55]
def dL:List UInt8:=[100,114,97,119,32,32,99]
theorem spl_k:spl 32 kL=[[99,105,114,99,108,101],[61,99],[97],[40,105,110,102,41],[91,49,46,45,50,93],[35,55]]:=by kernel_rfl
theorem spl_d:spl 32 dL=[[100,114,97,119],[],[99]]:=by kernel_rfl
theorem ag_1:agU [97]=some ⟨1,⟨#[97]⟩,Gz.zero,[],0⟩:=by
 unfold agU
 rw [if_neg (by decide),if_neg (by decide),if_neg (by decide),if_neg (by decide)]
 rfl
theorem ag_3:agU [40,105,110,102,41]=some ⟨3,eS,Gz.zero,[],0⟩:=by
 unfold agU
 rw [if_pos rfl]
theorem word_k:wordU [49,46,45,50,93]=some [1,-2]:=by kernel_rfl
theorem ag_4:agU [91,49,46,45,50,93]=some ⟨4,eS,Gz.zero,[1,-2],0⟩:=by
 unfold agU
 rw [if_neg (by decide),if_neg (by decide),if_pos (by decide)]
 have e:([91,49,46,45,50,93]:List UInt8).tail=[49,46,45,50,93]:=rfl
 rw [e,word_k]
theorem ct_k:ctU [55]=some 7:=by kernel_rfl
theorem ag_5:agU [35,55]=some ⟨5,eS,Gz.zero,[],7⟩:=by
 unfold agU
 rw [if_neg (by decide),if_neg (by decide),if_neg (by decide),if_pos (by decide)]
 have e:([35,55]:List UInt8).tail=[55]:=rfl
 rw [e,ct_k]
theorem ag_no:agU []=none:=by
 unfold agU
 rw [if_neg (by decide),if_neg (by decide),if_neg (by decide),if_neg (by decide)]
 rfl
theorem st_k:stU kL=some kst:=by
 unfold stU
 rw [spl_k]
 dsimp only
 rw [if_pos (by kernel_rfl),if_pos (by decide),if_pos (by kernel_rfl)]
 have e:finG [] ([[61,99],[97],[40,105,110,102,41],[91,49,46,45,50,93],[35,55]]:List (List UInt8)).tail=some kst.ags:=by
  show finG [] [[97],[40,105,110,102,41],[91,49,46,45,50,93],[35,55]]=_
  rw [← finG_step ag_1,← finG_step ag_3,← finG_step ag_4,← finG_step ag_5,finG_nil (by decide)]
  rfl
 rw [e]
 rfl
theorem st_d:stU dL=none:=by
 unfold stU
 rw [spl_d]
 dsimp only
 rw [if_pos (by kernel_rfl),if_neg (by decide),finG_bad ag_no]
theorem ok_k:okS kst=true:=by kernel_rfl
theorem few_k:∀ a∈kst.ags,a.Few:=by
 intro a ha
 simp [kst] at ha
 rcases ha with rfl | rfl | rfl | rfl <;> exact ⟨by decide,by decide,by decide,by decide⟩
theorem fit_k:kst.Fit:=by
 refine ⟨by decide,by decide,by decide,?_⟩
 intro a ha
 simp [kst] at ha
 rcases ha with rfl | rfl | rfl | rfl <;> exact ⟨by decide,⟨by decide,by decide,by decide,by decide⟩,by decide⟩
theorem line_k:lineB kst=bA kL:=by
 have e1:itB 7=⟨#[55]⟩:=by
  unfold itB Lib.itoa
  rw [if_neg (by decide),show (7:Int).toNat=7 from rfl,Lib.decDigits_one (by decide)]
  rfl
 have i1:Lib.itoa 1=[49]:=by
  unfold Lib.itoa
  rw [if_neg (by decide),show (1:Int).toNat=1 from rfl,Lib.decDigits_one (by decide)]
  rfl
 have i2:Lib.itoa (-2)=[45,50]:=by
  unfold Lib.itoa
  rw [if_pos (by decide),show (-2:Int).natAbs=2 from rfl,Lib.decDigits_one (by decide)]
  rfl
 have e2:ltB [1,-2]=⟨#[49,46,45,50]⟩:=by
  unfold ltB
  rw [List.map_cons,List.map_cons,List.map_nil,i1,i2]
  rfl
 have e3:lineL kst=[⟨#[99,105,114,99,108,101]⟩,⟨#[61]⟩++⟨#[99]⟩,⟨#[97]⟩,⟨#[40,105,110,102,41]⟩,⟨#[91]⟩++⟨#[49,46,45,50]⟩++⟨#[93]⟩,⟨#[35]⟩++⟨#[55]⟩]:=by
  unfold lineL
  rw [if_neg (by decide)]
  show [_,_]++[agT _,agT _,agT _,agT _]=_
  have a1:agT ⟨1,⟨#[97]⟩,Gz.zero,[],0⟩=⟨#[97]⟩:=by simp [agT]
  have a3:agT ⟨3,eS,Gz.zero,[],0⟩=⟨#[40,105,110,102,41]⟩:=by simp [agT]
  have a4:agT ⟨4,eS,Gz.zero,[1,-2],0⟩=⟨#[91]⟩++⟨#[49,46,45,50]⟩++⟨#[93]⟩:=by simp [agT,e2]
  have a5:agT ⟨5,eS,Gz.zero,[],7⟩=⟨#[35]⟩++⟨#[55]⟩:=by simp [agT,e1]
  rw [a1,a3,a4,a5]
  rfl
 unfold lineB
 rw [if_pos ok_k]
 unfold lnB
 rw [e3]
 rfl
abbrev kb0:Obj:=.cells #[.int .i64 1,.int .i64 (-2)] 3
abbrev kb1 (b:Nat):Obj:=.cells #[.int .i64 1,.string ⟨#[97]⟩,.bool false,.string ⟨#[]⟩,.bool false,.string ⟨#[]⟩,.bool false,.string ⟨#[]⟩,.bool false,.string ⟨#[]⟩,.slice none 0 0,.int .i64 0,.int .i64 3,.string ⟨#[]⟩,.bool false,.string ⟨#[]⟩,.bool false,.string ⟨#[]⟩,.bool false,.string ⟨#[]⟩,.bool false,.string ⟨#[]⟩,.slice none 0 0,.int .i64 0,.int .i64 4,.string ⟨#[]⟩,.bool false,.string ⟨#[]⟩,.bool false,.string ⟨#[]⟩,.bool false,.string ⟨#[]⟩,.bool false,.string ⟨#[]⟩,.slice (some ⟨b,0,none⟩) 2 2,.int .i64 0,.int .i64 5,.string ⟨#[]⟩,.bool false,.string ⟨#[]⟩,.bool false,.string ⟨#[]⟩,.bool false,.string ⟨#[]⟩,.bool false,.string ⟨#[]⟩,.slice none 0 0,.int .i64 7] 45
abbrev kb2 (b:Nat):Obj:=.cells #[.string ⟨#[99,105,114,99,108,101]⟩,.string ⟨#[99]⟩,.slice (some ⟨b,0,none⟩) 4 4] 24
theorem kst_args {w:World} {b d:Nat} (h0:w.heap[b]?=some kb0) (h1:w.heap[d]?=some (kb1 b)):Args w (.slice (some ⟨d,0,none⟩) 4 4) kst.ags:=by
 refine .inr ⟨d,0,4,rfl,Nat.le_refl _,fun j a ha=>?_⟩
 have hj:j < 4:=(List.getElem?_eq_some_iff.1 ha).1
 match j,ha with
  |0,ha =>
   obtain rfl:=Option.some.inj ha
   exact ⟨.slice none 0 0,⟨(by simp only [World.cell?,h1]; rfl),(by simp only [World.cell?,h1]; rfl),(by simp only [World.cell?,h1]; rfl),(by simp only [World.cell?,h1]; rfl),(by simp only [World.cell?,h1]; rfl),(by simp only [World.cell?,h1]; rfl),(by simp only [World.cell?,h1]; rfl),(by simp only [World.cell?,h1]; rfl),(by simp only [World.cell?,h1]; rfl),(by simp only [World.cell?,h1]; rfl),(by simp only [World.cell?,h1]; rfl),(by simp only [World.cell?,h1]; rfl)⟩,Ints.nil _⟩
  |1,ha =>
   obtain rfl:=Option.some.inj ha
   exact ⟨.slice none 0 0,⟨(by simp only [World.cell?,h1]; rfl),(by simp only [World.cell?,h1]; rfl),(by simp only [World.cell?,h1]; rfl),(by simp only [World.cell?,h1]; rfl),(by simp only [World.cell?,h1]; rfl),(by simp only [World.cell?,h1]; rfl),(by simp only [World.cell?,h1]; rfl),(by simp only [World.cell?,h1]; rfl),(by simp only [World.cell?,h1]; rfl),(by simp only [World.cell?,h1]; rfl),(by simp only [World.cell?,h1]; rfl),(by simp only [World.cell?,h1]; rfl)⟩,Ints.nil _⟩
  |2,ha =>
   obtain rfl:=Option.some.inj ha
   exact ⟨.slice (some ⟨b,0,none⟩) 2 2,⟨(by simp only [World.cell?,h1]; rfl),(by simp only [World.cell?,h1]; rfl),(by simp only [World.cell?,h1]; rfl),(by simp only [World.cell?,h1]; rfl),(by simp only [World.cell?,h1]; rfl),(by simp only [World.cell?,h1]; rfl),(by simp only [World.cell?,h1]; rfl),(by simp only [World.cell?,h1]; rfl),(by simp only [World.cell?,h1]; rfl),(by simp only [World.cell?,h1]; rfl),(by simp only [World.cell?,h1]; rfl),(by simp only [World.cell?,h1]; rfl)⟩,.inr (.inl ⟨b,0,2,rfl,Nat.le_refl _,fun j hj=>by
    have hj2:j < 2:=hj
    match j,hj2 with
    |0,_=>simp only [World.cell?,h0]; rfl
    |1,_=>simp only [World.cell?,h0]; rfl⟩)⟩
  |3,ha =>
   obtain rfl:=Option.some.inj ha
   exact ⟨.slice none 0 0,⟨(by simp only [World.cell?,h1]; rfl),(by simp only [World.cell?,h1]; rfl),(by simp only [World.cell?,h1]; rfl),(by simp only [World.cell?,h1]; rfl),(by simp only [World.cell?,h1]; rfl),(by simp only [World.cell?,h1]; rfl),(by simp only [World.cell?,h1]; rfl),(by simp only [World.cell?,h1]; rfl),(by simp only [World.cell?,h1]; rfl),(by simp only [World.cell?,h1]; rfl),(by simp only [World.cell?,h1]; rfl),(by simp only [World.cell?,h1]; rfl)⟩,Ints.nil _⟩
  |j+4,ha=>omega
def RdK (W:World) (e:Ending) (w':World):Prop:=∃ ab c,e=.returned (.tuple #[.agg #[.string ⟨#[99,105,114,99,108,101]⟩,.string ⟨#[99]⟩,.slice ab 4 c],.int .i64 0])∧Args w' (.slice ab 4 c) kst.ags∧W.grownBy w' none
theorem read_k (W:World) (he:Errs W):Calls Tryz.prog 18 #[.string ⟨#[99,105,114,99,108,101,32,61,99,32,97,32,40,105,110,102,41,32,91,49,46,45,50,93,32,35,55]⟩] W (RdK W):=by
 refine (read_any_of kL (by decide) W he).mono ?_
 rintro e w' ⟨h,hg⟩
 unfold rdA at h
 rw [st_k] at h
 obtain ⟨ab,c,h1,h2⟩:=h
 exact ⟨ab,c,h1,h2.args,hg⟩
theorem read_d (W:World) (he:Errs W):Calls Tryz.prog 18 #[.string ⟨#[100,114,97,119,32,32,99]⟩] W fun e w'=>e=.returned (.tuple #[.agg #[.string eS,.string eS,.slice none 0 0],.int .i64 400])∧W.grownBy w' none:=by
 refine (read_any_of dL (by decide) W he).mono ?_
 rintro e w' ⟨h,hg⟩
 unfold rdA at h
 rw [st_d] at h
 exact ⟨h,hg⟩
theorem sknown_any (w:World) (ht:Tab w) (he:Errs w) :
    Calls Tryz.prog 10 #[] w fun e w'=>e=.returned (.bool true)∧w.grownBy w' none:=by
 have HT:Hid (Tab w):=ht
 have HE:Hid (Errs w):=he
 have H0:Hid ((((w.alloc kb0).alloc (kb1 w.heap.size)).alloc (kb2 (w.heap.size+1))).heap[w.heap.size]?=some kb0):=((grow2 (w.alloc kb0) _ _).block _ (by simp) (by simp)).trans (heap_alloc_new _ _)
 have H1:Hid ((((w.alloc kb0).alloc (kb1 w.heap.size)).alloc (kb2 (w.heap.size+1))).heap[w.heap.size+1]?=some (kb1 w.heap.size)):=by
  show _=_
  have h:=at_alloc1 (w.alloc kb0) (kb1 w.heap.size) (kb2 (w.heap.size+1))
  have e:(w.alloc kb0).heap.size=w.heap.size+1:=by simp
  rw [e] at h
  exact h
 have H2:Hid ((((w.alloc kb0).alloc (kb1 w.heap.size)).alloc (kb2 (w.heap.size+1))).heap[w.heap.size+2]?=some (kb2 (w.heap.size+1))):=by
  show _=_
  have h:=heap_alloc_new ((w.alloc kb0).alloc (kb1 w.heap.size)) (kb2 (w.heap.size+1))
  have e:((w.alloc kb0).alloc (kb1 w.heap.size)).heap.size=w.heap.size+2:=by simp
  rw [e] at h
  exact h
 have HG3:Hid (w.grownBy (((w.alloc kb0).alloc (kb1 w.heap.size)).alloc (kb2 (w.heap.size+1))) none):=grow3 _ _ _ _
 clear ht he
 go_enter Tryz.func10,Tryz.ntmps10
 generalize hc2:Code.region 2 _ _=c2
 generalize hc5:Code.region 5 _ _=c5
 go_wp2_with fail
 change Code.wp _ _ _ _ (((w.alloc kb0).alloc (kb1 w.heap.size)).alloc (kb2 (w.heap.size+1)))
 generalize ((w.alloc kb0).alloc (kb1 w.heap.size)).alloc (kb2 (w.heap.size+1))=w3 at *
 subst hc2
 have h2:=H2.out
 have k0:w3.cell? ⟨w.heap.size+1+1,0,none⟩=some (.string ⟨#[99,105,114,99,108,101]⟩):=by
  show w3.cell? ⟨w.heap.size+2,0,none⟩=_
  simp only [World.cell?,h2]
  rfl
 have k1:w3.cell? ⟨w.heap.size+1+1,1,none⟩=some (.string ⟨#[99]⟩):=by
  show w3.cell? ⟨w.heap.size+2,1,none⟩=_
  simp only [World.cell?,h2]
  rfl
 have k2:w3.cell? ⟨w.heap.size+1+1,2,none⟩=some (.slice (some ⟨w.heap.size+1,0,none⟩) 4 4):=by
  show w3.cell? ⟨w.heap.size+2,2,none⟩=_
  simp only [World.cell?,h2]
  rfl
 have HSv:Hid (Stv w3 (.agg #[.string ⟨#[99,105,114,99,108,101]⟩,.string ⟨#[99]⟩,.slice (some ⟨w.heap.size+1,0,none⟩) 4 4]) kst):=⟨_,rfl,kst_args H0.out H1.out⟩
 have HLn:Hid (Calls Tryz.prog 12 #[.agg #[.string ⟨#[99,105,114,99,108,101]⟩,.string ⟨#[99]⟩,.slice (some ⟨w.heap.size+1,0,none⟩) 4 4]] w3 fun e w'=>e=.returned (.tuple #[.string ⟨#[99,105,114,99,108,101,32,61,99,32,97,32,40,105,110,102,41,32,91,49,46,45,50,93,32,35,55]⟩,.int .i64 0])∧w3.grownBy w' none):=by
  refine (sLine_any w3 _ kst HSv.out fit_k few_k (HT.out.kept HG3.out)).mono ?_
  rintro e w' ⟨rfl,hg⟩
  refine ⟨?_,hg⟩
  rw [line_k]
  unfold chkS
  rw [if_pos ok_k]
  rfl
 clear h2
 go_wp2_with fail
 refine HLn.out.mono ?_
 rintro e w4 ⟨rfl,hg4⟩
 have G4:Hid (w3.grownBy w4 none):=hg4
 clear hg4 HLn k0 k1 k2
 go_wp2_with fail
 refine (read_k w4 (HE.out.kept (grownBy_trans HG3.out G4.out))).mono ?_
 rintro e w5 ⟨ab,c,rfl,hA,hg5⟩
 have HA5:Hid (Args w5 (.slice ab 4 c) kst.ags):=hA
 have G5:Hid (w3.grownBy w5 none):=grownBy_trans G4.out hg5
 clear hA hg5
 go_wp2_with fail
 have HE5:Hid (Errs (w5.alloc (.cells #[.string ⟨#[99,105,114,99,108,101]⟩,.string ⟨#[99]⟩,.slice ab 4 c] 24))):=HE.out.kept (grownBy_trans HG3.out (grownBy_trans G5.out (grow1 _ _)))
 refine (read_d (w5.alloc (.cells #[.string ⟨#[99,105,114,99,108,101]⟩,.string ⟨#[99]⟩,.slice ab 4 c] 24)) HE5.out).mono ?_
 rintro e w6 ⟨rfl,hg6⟩
 have G56:Hid (w5.grownBy (w6.alloc stZ) none):=grownBy_trans (grownBy_trans (grow1 _ _) hg6) (grow1 _ _)
 have H4:Hid ((w6.alloc stZ).heap[w5.heap.size]?=some (.cells #[.string ⟨#[99,105,114,99,108,101]⟩,.string ⟨#[99]⟩,.slice ab 4 c] 24)):=by
  show _=_
  rw [(grow1 w6 stZ).block _ (by have:=hg6.size; simp at this; omega) (by simp),hg6.block _ (by simp) (by simp)]
  exact heap_alloc_new _ _
 clear hg6
 go_wp2_with fail
 change Code.wp _ _ _ _ (w6.alloc stZ)
 have G36:Hid (w3.grownBy (w6.alloc stZ) none):=grownBy_trans G5.out G56.out
 generalize w6.alloc stZ=w7 at *
 subst hc5
 have h2:w7.heap[w.heap.size+2]?=some (kb2 (w.heap.size+1)):=(G36.out.block _ (heap_lt H2.out) (by simp)).trans H2.out
 have h4:=H4.out
 have k0:w7.cell? ⟨w.heap.size+1+1,0,none⟩=some (.string ⟨#[99,105,114,99,108,101]⟩):=by
  show w7.cell? ⟨w.heap.size+2,0,none⟩=_
  simp only [World.cell?,h2]
  rfl
 have k1:w7.cell? ⟨w.heap.size+1+1,1,none⟩=some (.string ⟨#[99]⟩):=by
  show w7.cell? ⟨w.heap.size+2,1,none⟩=_
  simp only [World.cell?,h2]
  rfl
 have k2:w7.cell? ⟨w.heap.size+1+1,2,none⟩=some (.slice (some ⟨w.heap.size+1,0,none⟩) 4 4):=by
  show w7.cell? ⟨w.heap.size+2,2,none⟩=_
  simp only [World.cell?,h2]
  rfl
 have j0:w7.cell? ⟨w5.heap.size,0,none⟩=some (.string ⟨#[99,105,114,99,108,101]⟩):=by
  simp only [World.cell?,h4]
  rfl
 have j1:w7.cell? ⟨w5.heap.size,1,none⟩=some (.string ⟨#[99]⟩):=by
  simp only [World.cell?,h4]
  rfl
 have j2:w7.cell? ⟨w5.heap.size,2,none⟩=some (.slice ab 4 c):=by
  simp only [World.cell?,h4]
  rfl
 have HSm:Hid (Calls Tryz.prog 14 #[.agg #[.string ⟨#[99,105,114,99,108,101]⟩,.string ⟨#[99]⟩,.slice (some ⟨w.heap.size+1,0,none⟩) 4 4],.agg #[.string ⟨#[99,105,114,99,108,101]⟩,.string ⟨#[99]⟩,.slice ab 4 c]] w7 fun e w'=>e=.returned (.bool true)∧w7.grownBy w' none):=by
  refine (rSame_any w7 _ _ kst kst (HSv.out.kept G36.out) ⟨_,rfl,HA5.out.kept G56.out⟩ fit_k fit_k).mono ?_
  rintro e w' ⟨rfl,hg⟩
  refine ⟨?_,hg⟩
  rw [St.eqb_iff.2 rfl]
 clear h2 h4
 go_wp2_with fail
 refine HSm.out.mono ?_
 rintro e w8 ⟨rfl,hg8⟩
 have G8:Hid (w.grownBy w8 none):=grownBy_trans HG3.out (grownBy_trans G36.out hg8)
 clear hg8 HSm
 go_wp2_with fail
 go_ret
 exact ⟨rfl,G8.out⟩
end Go.Proofs.YtdcadiaeaclpgaaGreatDoor
