/-
  The document's number: what a few digits say.
-/
import Derived.Test.YtdcadiaeaclpgaaGreatDoorBunSxe
import Derived.Test.YtdcadiaeaclpgaaGreatDoorBunSoc
namespace Go.Proofs.YtdcadiaeaclpgaaGreatDoor
open Go Go.RowKit Go.Lib Go.Sort
set_option linter.unusedVariables false
set_option linter.unusedSimpArgs false
set_option maxHeartbeats 6400000
set_option maxRecDepth 1000000
def nbP (L:List UInt8) (i:Nat):Int:=if L.head?=some 45 then nbF (L.take i).tail 0 else nbF (L.take i) 0
theorem nbF_snoc (L:List UInt8) (c:UInt8) (n:Int):nbF (L++[c]) n=10*nbF L n+(c.toNat:Int) - 48:=by simp [nbF,List.foldl_append]
theorem nbP_zero (L:List UInt8):nbP L 0=0:=by
 unfold nbP
 split <;> rfl
theorem nbP_sign {L:List UInt8} (h:L[0]?=some 45):nbP L 1=0:=by
 unfold nbP
 cases L with
 |nil=>cases h
 |cons c l=>split <;> simp at h <;> simp [nbF] <;> simp_all
theorem nbP_step {L:List UInt8} {i:Nat} {c:UInt8} (h:L[i]?=some c) (hc:¬ (i=0∧c=45)):nbP L (i+1)=10*nbP L i+(c.toNat:Int) - 48:=by
 unfold nbP
 rw [List.take_add_one,h]
 show (if _ then nbF (L.take i++[c]).tail 0 else nbF (L.take i++[c]) 0)=_
 split
 ·rename_i h45
  cases i with
  |zero =>
   cases L with
   |nil=>cases h45
   |cons x l =>
    simp at h h45
    subst h h45
    exact absurd ⟨rfl,rfl⟩ hc
  |succ i =>
   cases L with
   |nil=>cases h45
   |cons x l =>
    simp only [List.take_succ_cons,List.cons_append,List.tail_cons]
    exact nbF_snoc _ _ _
 ·exact nbF_snoc _ _ _
theorem nbP_rng {L:List UInt8}:∀ {i:Nat},i≤L.length→(nbP L i).natAbs+303≤303*10 ^ i
 |0,_=>by rw [nbP_zero]; decide
 |i+1,h=>by
  have ih:=nbP_rng (L:=L) (i:=i) (by omega)
  have hp:1≤10 ^ i:=Nat.pow_pos (by decide)
  have hi:L[i]?=some (L[i]'(by omega)):=List.getElem?_eq_getElem _
  rw [Nat.pow_succ]
  by_cases hc:i=0∧L[i]'(by omega)=45
  ·obtain ⟨rfl,h45⟩:=hc
   rw [h45] at hi
   rw [nbP_sign hi]
   decide
  ·rw [nbP_step hi hc]
   have h255:(L[i]'(by omega)).toNat≤255:=by
    have:=(L[i]'(by omega)).toNat_lt
    omega
   generalize (L[i]'(by omega)).toNat=c at *
   generalize 10 ^ i=p at *
   generalize nbP L i=z at *
   omega
theorem nbP_12 {L:List UInt8} {i:Nat} (h:i≤L.length) (hi:i≤12):-303000000000000≤nbP L i∧nbP L i≤303000000000000:=by
 have h1:=nbP_rng h
 have h2:10 ^ i≤10 ^ 12:=Nat.pow_le_pow_right (by decide) hi
 have h3:10 ^ 12=1000000000000:=by decide
 rw [h3] at h2
 generalize 10 ^ i=p at *
 generalize nbP L i=z at *
 omega
theorem nbP_end {L:List UInt8} {i:Nat} (h:i=12∨(L.length≤i∧i≤12)):(if L.head?=some 45 then -(nbP L i) else nbP L i)=nbG L:=by
 unfold nbP nbG
 rcases h with rfl | ⟨h,h2⟩
 ·split <;> rfl
 ·rw [List.take_of_length_le h,List.take_of_length_le (by omega)]
  split <;> rfl
theorem rnumber_any (L:List UInt8) (hL:L.length≤20000) (w:World) :
    Calls Tryz.prog 75 #[.string (bA L)] w fun e w'=>e=.returned (.int .i64 (nbG L))∧w'=w:=by
 have hsz:=bA_size L
 have HAt:Hid (∀ k (h:k < (bA L).size),L[k]?=some (bA L)[k]):=fun k h=>bA_at h
 obtain ⟨sz,hszz⟩:∃ sz,L.length=sz:=⟨_,rfl⟩
 have HSz:Hid (L.length=sz):=hszz
 rw [hszz] at hsz hL
 have hszI:(sz:Int)≤20000:=by omega
 have H45:Hid (∀ (h:0 < (bA L).size),(L.head?=some 45 ↔ (bA L)[0]=45)):=fun h=>by
  have h1:=bA_at h
  rw [List.head?_eq_getElem?,h1]
  simp
 have HNil:Hid (sz=0→¬ L.head?=some 45):=fun h=>by
  have:L=[]:=List.length_eq_zero_iff.1 (by omega)
  rw [this]
  simp
 clear hszz
 generalize bA L=s at *
 go_enter Tryz.func75,Tryz.ntmps75
 go_wp2_with fail
 go_loopw [3,4] (fun s3 s4 wr=>∃ i:Nat,i≤12∧i≤sz∧s3=.int .i64 (nbP L i)∧s4=.int .i64 i∧wr=w) (fun _ s4 _=>match s4 with | .int _ i=>12 - i.toNat | _=>0)
 case atStart=>exact ⟨0,by omega,by omega,by rw [nbP_zero],rfl,rfl⟩
 case round =>
  obtain ⟨i,hi12,hisz,rfl,rfl,rfl⟩:=hrel
  by_cases hgo:i < sz∧i < 12
  ·obtain ⟨h1,h2⟩:=hgo
   have hlt:i < s.size:=by omega
   have hltI:(i:Int) < s.size:=by omega
   have h1I:(i:Int) < sz:=by omega
   have h12I:(i:Int) < 12:=by omega
   have HX:Hid (L[i]?=some s[i]):=HAt.out i hlt
   obtain ⟨hb1,hb2⟩:=nbP_12 (L:=L) (i:=i) (by have:=HSz.out; omega) (by omega)
   have hc255:(s[i].toNat:Int)≤255:=by
    have:=s[i].toNat_lt
    omega
   by_cases hc:i=0∧s[i]=45
   ·obtain ⟨rfl,hc⟩:=hc
    have HN:Hid (nbP L (0+1)=nbP L 0):=by
     show _=_
     rw [nbP_zero]
     exact nbP_sign (by rw [HX.out,hc])
    go_wp2_with fail
    first
     |exact ⟨⟨1,by omega,by omega,by rw [HN.out],rfl,trivial⟩,by simp⟩
     |exact ⟨⟨1,by omega,by omega,by rw [HN.out],rfl,rfl⟩,by simp⟩
   ·have HN:Hid (nbP L (i+1)=10*nbP L i+(s[i].toNat:Int) - 48):=nbP_step HX.out hc
    have HI:Hid (i < sz∧i < 12):=⟨h1,h2⟩
    by_cases h45:s[i]=45
    ·have hi0:0 < i:=by
       rcases Nat.eq_zero_or_pos i with h | h
       ·exact absurd ⟨h,h45⟩ hc
       ·exact h
     have hi0I:(0:Int) < i:=by omega
     have hi0b:decide ((0:Int) < (i:Int))=true:=decide_eq_true hi0I
     clear hc
     rw [h45] at HN
     have e45:((45:UInt8).toNat:Int)=45:=by decide
     rw [e45] at HN
     generalize nbP L i=z at *
     go_wp2_with fail
     all_goals first
      |(exfalso; omega)
      |(exfalso; contradiction)
      |(have HN2:=HN.out
        first
         |exact ⟨⟨i+1,by omega,by omega,by congr 1; omega,num_eq (by omega),trivial⟩,by simp; omega⟩
         |exact ⟨⟨i+1,by omega,by omega,by congr 1; omega,num_eq (by omega),rfl⟩,by simp; omega⟩)
    ·have h45b:((s[i].toNat:Int) == 45)=false:=by
       rw [beq_eq_false_iff_ne]
       intro h
       apply h45
       apply UInt8.toNat_inj.1
       have:(45:UInt8).toNat=45:=by decide
       omega
     have h45p:¬ ((s[i].toNat:Int)=45):=by
      rw [beq_eq_false_iff_ne] at h45b
      exact h45b
     clear hc h45
     generalize nbP L i=z at *
     go_wp2_with fail
     all_goals first
      |(exfalso; omega)
      |(exfalso; contradiction)
      |(have HN2:=HN.out
        first
         |exact ⟨⟨i+1,by omega,by omega,by congr 1; omega,num_eq (by omega),trivial⟩,by simp; omega⟩
         |exact ⟨⟨i+1,by omega,by omega,by congr 1; omega,num_eq (by omega),rfl⟩,by simp; omega⟩)
  ·have HE:Hid ((if L.head?=some 45 then -(nbP L i) else nbP L i)=nbG L):=nbP_end (by have:=HSz.out; omega)
   obtain ⟨hb1,hb2⟩:=nbP_12 (L:=L) (i:=i) (by have:=HSz.out; omega) (by omega)
   by_cases hs0:sz=0
   ·subst hs0
    obtain rfl:i=0:=by omega
    have HE2:Hid (nbP L 0=nbG L):=by
     have h:=HE.out
     rw [if_neg (HNil.out rfl)] at h
     exact h
    generalize nbP L 0=z at *
    go_wp2_with fail
    go_ret
    rw [HE2.out]
    exact ⟨rfl,rfl⟩
   ·have hs1:0 < s.size:=by omega
    have hs1I:(0:Int) < s.size:=by omega
    have hszp:(0:Int) < sz:=by omega
    have hge:¬ ((i:Int) < (sz:Int)∧(i:Int) < 12):=by omega
    have H45s:=H45.out hs1
    by_cases h45:s[0]=45
    ·have HE2:Hid (-(nbP L i)=nbG L):=by
       have h:=HE.out
       rw [if_pos (H45s.2 h45)] at h
       exact h
     generalize nbP L i=z at *
     clear H45s
     go_wp2_with fail
     all_goals first
      |(exfalso; omega)
      |(go_ret; rw [← HE2.out]; exact ⟨rfl,rfl⟩)
      |trace_state
    ·have HE2:Hid (nbP L i=nbG L):=by
       have h:=HE.out
       rw [if_neg (fun h2=>h45 (H45s.1 h2))] at h
       exact h
     have h45p:¬ ((s[0].toNat:Int)=45):=by
      intro h
      apply h45
      apply UInt8.toNat_inj.1
      have:(45:UInt8).toNat=45:=by decide
      omega
     generalize nbP L i=z at *
     clear H45s h45
     go_wp2_with fail
     all_goals first
      |(exfalso; omega)
      |(go_ret; rw [HE2.out]; exact ⟨rfl,rfl⟩)
      |trace_state
end Go.Proofs.YtdcadiaeaclpgaaGreatDoor
