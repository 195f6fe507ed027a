/- The law LexDeep, plain: what Lex comes to at lines that stand deeper and deeper, and one that goes back. -/
import Derived.Test.YtflcohidmemfpaaGreatDoorSsD
import Derived.Laws.Strings
set_option linter.all false
namespace Go.Proofs.YtflcohidmemfpaaGreatDoor
open Go.Proofs.Tryz
open Go.RowKit

def falls:List Int→Prop
 | []=>True
 | [_]=>True
 | x::y::r=>y<x∧falls (y::r)

theorem Zfg:∀ (l:List Int) (x:Int) (b:Nat) (y:Int),falls (x::l)→l[b]?=some y→y<x
 | [],x,b,y,h,hy=>by simp at hy
 | z::r,x,0,y,h,hy=>by simp at hy;have:=h.1;omega
 | z::r,x,b+1,y,h,hy=>by
  have:=Zfg r z b y h.2 (by simpa using hy)
  have:=h.1
  omega
theorem Znl {x:Int}{l:List Int} (h:falls (x::l)):falls l:=by
 cases l with
 | nil=>trivial
 | cons y r=>exact h.2

end Go.Proofs.YtflcohidmemfpaaGreatDoor
namespace Go.Proofs.YtflcohidmemfpaaGreatDoor
open Go.Proofs.Tryz
open Go.RowKit

def halts (S:List UInt8):Prop:=∀ c∈S.head?,c=10∨c=32

theorem Zl2 {q:ByteArray}{pre:List UInt8} (h:q.data.toList=pre):¬ pre.length<q.size:=by
 have:=Z24 h;omega

theorem Z4s (P:Int→Bool) (s:ByteArray) (S:List UInt8) (hS:∀ c∈S.head?,P (c.toNat:Int)=false):∀ (L pre:List UInt8),s.data.toList=pre++(L++S)→Z16 P s (s.size - pre.length) pre.length=pre.length+(L.takeWhile fun c=>P (c.toNat:Int)).length
 | [],pre,h=>by
  cases S with
  | nil =>
   simp only [List.append_nil] at h
   have:=Z24 h
   simpa using Zea (P:=P) this.symm
  | cons c S =>
   obtain ⟨hlt,e⟩:=Z47 (q:=s) (pre:=pre) (rest:=S) (x:=c) (by simpa using h)
   simpa using Z84 (P:=P) hlt (by rw [e];exact hS c (by simp))
 | c::L,pre,h=>by
  obtain ⟨hlt,e⟩:=Z47 (q:=s) (pre:=pre) (rest:=L++S) (x:=c) (by simpa using h)
  cases hP:P (c.toNat:Int)
  ·simpa [List.takeWhile,hP] using Z84 (P:=P) hlt (by rw [e];exact hP)
  ·have ih:=Z4s P s S hS L (pre ++ [c]) (by simpa using h)
   rw [Z8k hlt (by rw [e];exact hP)]
   simp only [List.length_append,List.length_cons,List.length_nil] at ih
   rw [ih]
   simp [List.takeWhile,hP]
   omega

theorem Zkp (s:ByteArray) (S L pre:List UInt8) (h:s.data.toList=pre++(L++S)) (m:Nat) (hm:m≤L.length):s.extract pre.length (pre.length+m)=⟨(L.take m).toArray⟩:=by
 apply ByteArray.ext
 apply Array.ext'
 rw [ByteArray.data_extract,Array.toList_extract,h]
 simp [List.extract,List.take_append_of_le_length hm]

theorem Z3n (p:UInt8→Bool) (L:List UInt8):(L.takeWhile p).length≤L.length:=by
 induction L with
 | nil=>simp
 | cons c L ih=>simp only [List.takeWhile];split <;> simp;exact ih

theorem Zdu {S:List UInt8} (h:halts S) (P:Int→Bool) (h1:P 10=false) (h2:P 32=false):∀ c∈S.head?,P (c.toNat:Int)=false:=fun c hc=>by
 rcases h c hc with rfl | rfl
 ·exact h1
 ·exact h2

def Z8t (c:UInt8) (L:List UInt8):Option (Bool × ByteArray × Nat):=
 let m:=1+(L.takeWhile fun c=>Z55 (c.toNat:Int)).length
 if Znq ⟨((c::L).take m).toArray⟩ then some (true,⟨((c::L).take m).toArray⟩,m)
 else if Z1n (c.toNat:Int) then none
 else if 16<m then none
 else some (false,⟨((c::L).take m).toArray⟩,m)

theorem Zk4 (s:ByteArray) (c:UInt8) (S L pre:List UInt8) (hS:halts S) (h:s.data.toList=pre++(c::L++S)):Z37 s pre.length=(Z8t c L).map fun x=>(x.1,x.2.1,pre.length+x.2.2):=by
 obtain ⟨hlt,e⟩:=Z47 (q:=s) (pre:=pre) (rest:=L++S) (x:=c) (by simpa using h)
 have hp:=Z4s Z55 s S (Zdu hS Z55 rfl rfl) L (pre ++ [c]) (by simpa using h)
 have hn:Z5e s pre.length=pre.length+(1+(L.takeWhile fun c=>Z55 (c.toNat:Int)).length):=by
  unfold Z5e
  simp only [List.length_append,List.length_cons,List.length_nil,Nat.zero_add] at hp
  omega
 have hc:=Zkp s S (c::L) pre h (1+(L.takeWhile fun c=>Z55 (c.toNat:Int)).length) (by have:=Z3n (fun c=>Z55 (c.toNat:Int)) L;simp;omega)
 unfold Z37 Z8t
 rw [dif_pos hlt,hn,hc,e]
 simp only [Nat.add_sub_cancel_left]
 split
 ·rfl
 ·split
  ·rfl
  ·split <;> rfl

def Zjn (c:UInt8) (L:List UInt8):Option (ByteArray × Nat):=
 let m:=((c::L).takeWhile fun c=>Z1f (c.toNat:Int)).length
 if (c.toNat:Int) == 48 && decide (1<m) then none
 else match Lib.parseIntB 64 ((c::L).take m) with
  | .ok _=>some (⟨((c::L).take m).toArray⟩,m)
  | _=>none

theorem Zmc (s:ByteArray) (c:UInt8) (S L pre:List UInt8) (hS:halts S) (h:s.data.toList=pre++(c::L++S)):Z5w s pre.length=(Zjn c L).map fun x=>(x.1,pre.length+x.2):=by
 obtain ⟨hlt,e⟩:=Z47 (q:=s) (pre:=pre) (rest:=L++S) (x:=c) (by simpa using h)
 have hp:=Z4s Z1f s S (Zdu hS Z1f rfl rfl) (c::L) pre h
 have hn:Z39 s pre.length=pre.length+((c::L).takeWhile fun c=>Z1f (c.toNat:Int)).length:=hp
 have hc:=Zkp s S (c::L) pre h ((c::L).takeWhile fun c=>Z1f (c.toNat:Int)).length (Z3n _ _)
 unfold Z5w Zjn
 rw [dif_pos hlt,hn,hc,e]
 simp only [Nat.add_sub_cancel_left]
 split
 ·rfl
 ·cases Lib.parseIntB 64 ((c::L).take ((c::L).takeWhile fun c=>Z1f (c.toNat:Int)).length) <;> rfl

def opL (L:List UInt8):Nat→Nat→Option (ByteArray × Nat)
 | 0,_=>none
 | n+1,k=>if (Zb0 k).data.toList.isPrefixOf L then some (Zb0 k,(Zb0 k).size) else opL L n (k+1)

theorem Z0g (b:ByteArray):b.toList=b.data.toList:=ByteArray.toList_eq b

theorem Zad:∀ (b L S:List UInt8),halts S→(∀ c∈b,c≠10∧c≠32)→b.isPrefixOf (L++S)=b.isPrefixOf L
 | [],L,S,hS,hb=>by simp
 | c::b,[],S,hS,hb=>by
  cases S with
  | nil=>rfl
  | cons d S =>
   have h1:=hb c (by simp)
   have:(c == d)=false:=by
    rcases hS d (by simp) with rfl | rfl
    ·simpa using h1.1
    ·simpa using h1.2
   simp [List.isPrefixOf,this]
 | c::b,d::L,S,hS,hb=>by
  have ih:=Zad b L S hS (fun x hx=>hb x (by simp [hx]))
  simp [List.isPrefixOf,ih]

theorem Zi2 (a b:ByteArray):Z3z a b=b.data.toList.isPrefixOf a.data.toList:=by
 unfold Z3z
 rw [Z0g,Z0g]
 split
 ·rename_i hle
  rw [ByteArray.data_extract,Array.toList_extract]
  rw [Bool.eq_iff_iff]
  simp only [List.extract,Nat.sub_zero,List.drop_zero,beq_iff_eq,List.isPrefixOf_iff_prefix]
  constructor
  ·intro h
   rw [←h]
   exact List.take_prefix _ _
  ·intro h
   have:=List.prefix_iff_eq_take.1 h
   simpa using this.symm
 ·rename_i hle
  symm
  rw [Bool.eq_false_iff]
  intro h
  rw [List.isPrefixOf_iff_prefix] at h
  have:=h.length_le
  simp at this
  exact hle this

theorem Zng (k:Nat):∀ c∈(Zb0 k).data.toList,c≠10∧c≠32:=by
 iterate 21 (rcases k with _ | k;· decide)
 have:Zb0 (k+1+1+1+1+1+1+1+1+1+1+1+1+1+1+1+1+1+1+1+1+1)=⟨#[]⟩:=rfl
 rw [this]
 simp

theorem Zbi (s:ByteArray) (S L pre:List UInt8) (hS:halts S) (h:s.data.toList=pre++(L++S)):∀ n k,Z4c s pre.length n k=(opL L n k).map fun x=>(x.1,pre.length+x.2)
 | 0,k=>rfl
 | n+1,k=>by
  have hx:(s.extract pre.length s.size).data.toList=L++S:=by
   have hz:=Z24 h
   rw [ByteArray.data_extract,Array.toList_extract,h]
   simp [List.extract]
   rw [List.take_of_length_le]
   simp at hz ⊢
   omega
  have hp:Z3z (s.extract pre.length s.size) (Zb0 k)=(Zb0 k).data.toList.isPrefixOf L:=by
   rw [Zi2,hx]
   exact Zad _ _ _ hS (Zng k)
  unfold Z4c opL
  rw [hp]
  split
  ·rfl
  ·exact Zbi s S L pre hS h n (k+1)

def Zz8 (s:ByteArray) (e:Nat):Prop:=∀ f acc,Z1e s f e acc=none

def Zxm:List UInt8→Option (Int × Nat)
 | a::b::_=>if 0≤Z1s a∧0≤Z1s b then some (Z1s a*16+Z1s b,3) else none
 | _=>none
def Zty:List UInt8→Option (Int × Nat)
 | []=>none
 | c::L=>if (c.toNat:Int) == 110 then some (10,1) else if (c.toNat:Int) == 34 then some (34,1) else if (c.toNat:Int) == 92 then some (92,1) else if (c.toNat:Int) == 120 then Zxm L else none

theorem Zi8:¬ 0≤Z1s 10:=by decide
theorem Zgi:¬ 0≤Z1s 32:=by decide

theorem Zs1 {s:ByteArray}{pre:List UInt8} (h:s.data.toList=pre):Z6r s pre.length=none:=by
 unfold Z6r
 rw [dif_neg (Zl2 h)]

theorem Zmb (s:ByteArray) (S L pre:List UInt8) (hS:halts S) (h:s.data.toList=pre++(L++S)):Z6r s pre.length=(Zty L).map fun x=>(x.1,pre.length+x.2):=by
 cases L with
 | nil =>
  cases S with
  | nil =>
   simp only [List.append_nil] at h
   rw [Zs1 h]
   rfl
  | cons d S =>
   obtain ⟨hlt,e⟩:=Z47 (q:=s) (pre:=pre) (rest:=S) (x:=d) (by simpa using h)
   unfold Z6r
   rw [dif_pos hlt,e]
   rcases hS d (by simp) with rfl | rfl <;> rfl
 | cons c L =>
  obtain ⟨hlt,e⟩:=Z47 (q:=s) (pre:=pre) (rest:=L++S) (x:=c) (by simpa using h)
  unfold Z6r
  rw [dif_pos hlt,e]
  have hr:Zty (c::L)=if (c.toNat:Int) == 110 then some (10,1) else if (c.toNat:Int) == 34 then some (34,1) else if (c.toNat:Int) == 92 then some (92,1) else if (c.toNat:Int) == 120 then Zxm L else none:=rfl
  rw [hr]
  split
  ·rfl
  ·split
   ·rfl
   ·split
    ·rfl
    ·split
     ·have hz:=Z24 h
      match L,h,hz with
      | a::b::L',h,hz =>
       simp at hz
       obtain ⟨l1,e1⟩:=Z47 (q:=s) (pre:=pre ++ [c]) (rest:=b::L'++S) (x:=a) (by simpa using h)
       obtain ⟨l2,e2⟩:=Z47 (q:=s) (pre:=pre ++ [c,a]) (rest:=L'++S) (x:=b) (by simpa using h)
       simp only [List.length_append,List.length_cons,List.length_nil] at l1 e1 l2 e2
       rw [dif_pos (by omega)]
       have e1':s[pre.length+1]=a:=e1
       have e2':s[pre.length+2]=b:=e2
       rw [e1',e2']
       have hx:Zxm (a::b::L')=if 0≤Z1s a∧0≤Z1s b then some (Z1s a*16+Z1s b,3) else none:=rfl
       rw [hx]
       split <;> rfl
      | [a],h,hz =>
       have hx:Zxm [a]=none:=rfl
       rw [hx,Option.map_none]
       split
       ·rename_i h2
        refine if_neg ?_
        rintro ⟨_,hb⟩
        cases S with
        | nil=>simp at hz;omega
        | cons d S =>
         obtain ⟨l2,e2⟩:=Z47 (q:=s) (pre:=pre ++ [c,a]) (rest:=S) (x:=d) (by simpa using h)
         simp only [List.length_append,List.length_cons,List.length_nil] at l2 e2
         have e2':s[pre.length+2]=d:=e2
         rw [e2'] at hb
         rcases hS d (by simp) with rfl | rfl
         ·exact Zi8 hb
         ·exact Zgi hb
       ·rfl
      | [],h,hz =>
       have hx:Zxm []=none:=rfl
       rw [hx,Option.map_none]
       split
       ·rename_i h2
        refine if_neg ?_
        rintro ⟨ha,_⟩
        cases S with
        | nil=>simp at hz;omega
        | cons d S =>
         obtain ⟨l2,e2⟩:=Z47 (q:=s) (pre:=pre ++ [c]) (rest:=S) (x:=d) (by simpa using h)
         simp only [List.length_append,List.length_cons,List.length_nil] at l2 e2
         have e2':s[pre.length+1]=d:=e2
         rw [e2'] at ha
         rcases hS d (by simp) with rfl | rfl
         ·exact Zi8 ha
         ·exact Zgi ha
       ·rfl
     ·rfl

theorem Zyu {L:List UInt8}{v:Int}{k:Nat} (h:Zxm L=some (v,k)):0<k∧k≤L.length+1:=by
 unfold Zxm at h
 split at h
 ·split at h
  ·simp at h;simp;omega
  ·cases h
 ·cases h
theorem Zpf {L:List UInt8}{v:Int}{k:Nat} (h:Zty L=some (v,k)):0<k∧k≤L.length:=by
 unfold Zty at h
 split at h
 ·cases h
 ·split at h
  ·simp at h;simp;omega
  ·split at h
   ·simp at h;simp;omega
   ·split at h
    ·simp at h;simp;omega
    ·split at h
     ·have:=Zyu h;simp;omega
     ·cases h

def Zcj:Nat→List UInt8→List Int→Option (List Int × Nat)
 | 0,_,_=>none
 | _+1,[],_=>none
 | n+1,c::L,acc =>
  if (c.toNat:Int) == 34 then some (acc,1)
  else if (c.toNat:Int)<32 then none
  else if 126<(c.toNat:Int) then none
  else if (c.toNat:Int) == 92 then
   match Zty L with
   | some (v,k)=>(Zcj n (L.drop k) (acc ++ [v])).map fun x=>(x.1,x.2+(k+1))
   | none=>none
  else (Zcj n L (acc ++ [(c.toNat:Int)])).map fun x=>(x.1,x.2+1)

theorem Z6z (s:ByteArray) (S:List UInt8) (hS:halts S):∀ (n f:Nat) (L pre:List UInt8) (acc:List Int),s.data.toList=pre++(L++S)→Zz8 s (pre.length+L.length)→L.length<n→s.size+1 - pre.length≤f→Z1e s f pre.length acc=(Zcj n L acc).map fun x=>(x.1,pre.length+x.2)
 | 0,_,_,_,_,_,_,h,_=>absurd h (Nat.not_lt_zero _)
 | n+1,f,[],pre,acc,h,hd,_,_=>by
  rw [show pre.length=pre.length+([]:List UInt8).length by simp,hd f acc]
  rfl
 | n+1,f,c::L,pre,acc,h,hd,hn,hf=>by
  obtain ⟨hlt,e⟩:=Z47 (q:=s) (pre:=pre) (rest:=L++S) (x:=c) (by simpa using h)
  obtain ⟨g,rfl⟩:∃ g,f=g+1:=⟨f - 1,by omega⟩
  have hz:=Z24 h
  have hr:Zcj (n+1) (c::L) acc=if (c.toNat:Int) == 34 then some (acc,1)
   else if (c.toNat:Int)<32 then none
   else if 126<(c.toNat:Int) then none
   else if (c.toNat:Int) == 92 then
    match Zty L with
    | some (v,k)=>(Zcj n (L.drop k) (acc ++ [v])).map fun x=>(x.1,x.2+(k+1))
    | none=>none
   else (Zcj n L (acc ++ [(c.toNat:Int)])).map fun x=>(x.1,x.2+1):=rfl
  unfold Z1e
  rw [dif_pos hlt,e,hr]
  split
  ·rfl
  ·split
   ·rfl
   ·split
    ·rfl
    ·split
     ·have he:=Zmb s S L (pre ++ [c]) hS (by simpa using h)
      simp only [List.length_append,List.length_cons,List.length_nil,Nat.zero_add] at he
      rw [he]
      cases hv:Zty L with
      | none=>rfl
      | some x =>
       obtain ⟨v,k⟩:=x
       have hk:=Zpf hv
       have hsp:L.take k++L.drop k=L:=List.take_append_drop k L
       have ih:=Z6z s S hS n g (L.drop k) (pre++(c::L.take k)) (acc ++ [v]) (by
        rw [h]
        simp only [List.append_assoc,List.cons_append,←List.append_assoc (L.take k),hsp]) (by
        have:(pre++(c::L.take k)).length+(L.drop k).length=pre.length+(c::L).length:=by simp;omega
        rw [this];exact hd) (by simp at hn ⊢;omega) (by simp;omega)
       have hp:(pre++(c::L.take k)).length=pre.length+1+k:=by simp;omega
       rw [hp] at ih
       simp only [Option.map_some]
       rw [ih]
       cases Zcj n (L.drop k) (acc ++ [v]) with
       | none=>rfl
       | some y=>simp;omega
     ·have ih:=Z6z s S hS n g L (pre ++ [c]) (acc ++ [(c.toNat:Int)]) (by simpa using h) (by
       have:(pre ++ [c]).length+L.length=pre.length+(c::L).length:=by simp;omega
       rw [this];exact hd) (by simp at hn;omega) (by simp;omega)
      simp only [List.length_append,List.length_cons,List.length_nil,Nat.zero_add] at ih
      rw [ih]
      cases Zcj n L (acc ++ [(c.toNat:Int)]) with
      | none=>rfl
      | some y=>simp;omega

def Zds:List UInt8→Option (ByteArray × ByteArray × Nat)
 | []=>none
 | c::L =>
  if Z32 (c.toNat:Int) || Z1n (c.toNat:Int) then (Z8t c L).map fun x=>(if x.1 then Z8z else Z8u,x.2.1,x.2.2)
  else if Z1f (c.toNat:Int) then (Zjn c L).map fun x=>(Zpu,x.1,x.2)
  else if (c.toNat:Int) == 34 then (Zcj (L.length+1) L []).map fun x=>(Zoa,strOfNums x.1,x.2+1)
  else (opL (c::L) 21 0).map fun x=>(kOp,x.1,x.2)

theorem Zdq (s:ByteArray) (S L pre:List UInt8) (hS:halts S) (h:s.data.toList=pre++(L++S)) (hd:Zz8 s (pre.length+L.length)) (hL:L ≠ []):Z1v s pre.length=(Zds L).map fun x=>(x.1,x.2.1,pre.length+x.2.2):=by
 cases L with
 | nil=>exact absurd rfl hL
 | cons c L =>
  obtain ⟨hlt,e⟩:=Z47 (q:=s) (pre:=pre) (rest:=L++S) (x:=c) (by simpa using h)
  have hr:Zds (c::L)=if Z32 (c.toNat:Int) || Z1n (c.toNat:Int) then (Z8t c L).map fun x=>(if x.1 then Z8z else Z8u,x.2.1,x.2.2)
   else if Z1f (c.toNat:Int) then (Zjn c L).map fun x=>(Zpu,x.1,x.2)
   else if (c.toNat:Int) == 34 then (Zcj (L.length+1) L []).map fun x=>(Zoa,strOfNums x.1,x.2+1)
   else (opL (c::L) 21 0).map fun x=>(kOp,x.1,x.2):=rfl
  unfold Z1v
  rw [dif_pos hlt,e,hr]
  split
  ·rw [Zk4 s c S L pre hS h]
   cases Z8t c L <;> rfl
  ·split
   ·rw [Zmc s c S L pre hS h]
    cases Zjn c L <;> rfl
   ·split
    ·have hs:=Z6z s S hS (L.length+1) (s.size+1 - (pre.length+1)) L (pre ++ [c]) [] (by simpa using h) (by
      have:(pre ++ [c]).length+L.length=pre.length+(c::L).length:=by simp;omega
      rw [this];exact hd) (by omega) (by simp)
     simp only [List.length_append,List.length_cons,List.length_nil,Nat.zero_add] at hs
     unfold Z5u
     rw [hs]
     cases Zcj (L.length+1) L [] with
     | none=>rfl
     | some y=>simp;omega
    ·unfold Zet
     rw [Zbi s S (c::L) pre hS h 21 0]
     cases opL (c::L) 21 0 <;> rfl
end Go.Proofs.YtflcohidmemfpaaGreatDoor
namespace Go.Proofs.YtflcohidmemfpaaGreatDoor
open Go.Proofs.Tryz
open Go.RowKit

def Z3y (S:List UInt8):Prop:=S = [] ∨ ∃ R,S=10::R
def Zcf (L:List UInt8):Prop:=∀ c∈L,c≠10

theorem Z3y.halts {S:List UInt8} (h:Z3y S):halts S:=by
 rcases h with rfl | ⟨R,rfl⟩
 ·intro c hc;simp at hc
 ·intro c hc;simp at hc;exact .inl hc.symm

theorem Zks {s:ByteArray}{S pre:List UInt8} (hS:Z3y S) (h:s.data.toList=pre++S):Zz8 s pre.length:=by
 intro f acc
 cases f with
 | zero=>rfl
 | succ f =>
  unfold Z1e
  rcases hS with rfl | ⟨R,rfl⟩
  ·rw [dif_neg (Zl2 (by simpa using h))]
  ·obtain ⟨hlt,e⟩:=Z47 (q:=s) (pre:=pre) (rest:=R) (x:=10) h
   rw [dif_pos hlt,e]
   rfl

def Z21 (L:List UInt8):Nat:=(L.takeWhile fun c=>Zhy (c.toNat:Int)).length
def Z12 (L:List UInt8):Nat:=match L.drop (Z21 L) with
 | []=>Z21 L
 | c::_=>if (c.toNat:Int) == 35 then L.length else Z21 L

theorem Zeg (L:List UInt8):Z21 L≤L.length:=Z3n _ _
theorem Z6i (L:List UInt8):Z12 L≤L.length:=by
 unfold Z12
 have:=Zeg L
 split
 ·exact this
 ·split
  ·exact Nat.le_refl _
  ·exact this

theorem Zu6 {c:UInt8} (h:c≠10):Z87 (c.toNat:Int)=true:=by
 have:c.toNat≠10:=fun e=>h (UInt8.toNat_inj.mp e)
 simp [Z87]
 omega
theorem Z7o:∀ L:List UInt8,Zcf L→(L.takeWhile fun c=>Z87 (c.toNat:Int))=L
 | [],_=>rfl
 | c::L,h=>by
  have:=Z7o L (fun x hx=>h x (by simp [hx]))
  simp [List.takeWhile,Zu6 (h c (by simp)),this]

theorem Z8f (s:ByteArray) (S L pre:List UInt8) (hS:Z3y S) (h:s.data.toList=pre++(L++S)):Z1d s pre.length=pre.length+Z21 L:=
 Z4s Zhy s S (fun c hc=>by
  rcases hS with rfl | ⟨R,rfl⟩
  ·simp at hc
  ·simp at hc;subst hc;rfl) L pre h

theorem Zd2 (s:ByteArray) (S L pre:List UInt8) (hS:Z3y S) (hL:Zcf L) (h:s.data.toList=pre++(L++S)):Z0f s pre.length=pre.length+Z12 L:=by
 have hb:=Z8f s S L pre hS h
 have hle:=Zeg L
 unfold Z0f Z12
 rw [hb]
 have hsp:L.take (Z21 L)++L.drop (Z21 L)=L:=List.take_append_drop _ L
 have hl:(pre++L.take (Z21 L)).length=pre.length+Z21 L:=by simp;omega
 have h':s.data.toList=(pre++L.take (Z21 L))++(L.drop (Z21 L)++S):=by
  rw [h]
  simp only [List.append_assoc,←List.append_assoc (L.take (Z21 L)),hsp]
 rw [←hl]
 cases hd:L.drop (Z21 L) with
 | nil =>
  rw [hd] at h'
  simp only
  unfold Z17
  rcases hS with rfl | ⟨R,rfl⟩
  ·rw [dif_neg (Zl2 (by simpa using h'))]
   exact hl
  ·obtain ⟨hlt,e⟩:=Z47 (q:=s) (pre:=pre++L.take (Z21 L)) (rest:=R) (x:=10) (by simpa using h')
   rw [dif_pos hlt,e]
   exact hl
 | cons c L' =>
  rw [hd] at h'
  simp only
  obtain ⟨hlt,e⟩:=Z47 (q:=s) (pre:=pre++L.take (Z21 L)) (rest:=L'++S) (x:=c) (by simpa using h')
  unfold Z17
  rw [dif_pos hlt,e]
  split
  ·have hp:=Z4s Z87 s S (fun c hc=>by
    rcases hS with rfl | ⟨R,rfl⟩
    ·simp at hc
    ·simp at hc;subst hc;rfl) (c::L') (pre++L.take (Z21 L)) h'
   rw [Z7o _ (fun x hx=>hL x (by rw [←hsp,hd];simp at hx ⊢;exact .inr hx))] at hp
   rw [hp]
   have:=congrArg List.length hd
   simp at this ⊢
   omega
  ·exact hl

theorem Zdl (s:ByteArray) (S L pre:List UInt8) (hS:Z3y S) (hL:Zcf L) (h:s.data.toList=pre++(L++S)) (m:Nat) (hm:m≤L.length):Z2d s (pre.length+m)=decide (m=L.length):=by
 have hsp:L.take m++L.drop m=L:=List.take_append_drop _ L
 have hl:(pre++L.take m).length=pre.length+m:=by simp;omega
 have h':s.data.toList=(pre++L.take m)++(L.drop m++S):=by
  rw [h]
  simp only [List.append_assoc,←List.append_assoc (L.take m),hsp]
 rw [←hl]
 unfold Z2d
 cases hd:L.drop m with
 | nil =>
  rw [hd] at h'
  have hml:m=L.length:=by have:=congrArg List.length hd;simp at this;omega
  rw [decide_eq_true hml]
  rcases hS with rfl | ⟨R,rfl⟩
  ·rw [dif_neg (Zl2 (by simpa using h'))]
  ·obtain ⟨hlt,e⟩:=Z47 (q:=s) (pre:=pre++L.take m) (rest:=R) (x:=10) (by simpa using h')
   rw [dif_pos hlt,e]
   rfl
 | cons c L' =>
  rw [hd] at h'
  have hml:¬ m=L.length:=by have:=congrArg List.length hd;simp at this;omega
  rw [decide_eq_false hml]
  obtain ⟨hlt,e⟩:=Z47 (q:=s) (pre:=pre++L.take m) (rest:=L'++S) (x:=c) (by simpa using h')
  rw [dif_pos hlt,e]
  have hc:=hL c (by rw [←hsp,hd];simp)
  have:c.toNat≠10:=fun e=>hc (UInt8.toNat_inj.mp e)
  simp
  omega

theorem Zu5 {c:UInt8}{L:List UInt8}{x:Bool × ByteArray × Nat} (h:Z8t c L=some x):0<x.2.2∧x.2.2≤L.length+1:=by
 have:=Z3n (fun c=>Z55 (c.toNat:Int)) L
 unfold Z8t at h
 simp only at h
 split at h
 ·simp at h;subst h;simp;omega
 ·split at h
  ·cases h
  ·split at h
   ·cases h
   ·simp at h;subst h;simp;omega
theorem Zy0 {c:UInt8}{L:List UInt8}{x:ByteArray × Nat} (hc:Z1f (c.toNat:Int)=true) (h:Zjn c L=some x):0<x.2∧x.2≤L.length+1:=by
 have h1:=Z3n (fun c=>Z1f (c.toNat:Int)) (c::L)
 have h2:0<((c::L).takeWhile fun c=>Z1f (c.toNat:Int)).length:=by simp [List.takeWhile,hc]
 unfold Zjn at h
 simp only at h
 split at h
 ·cases h
 ·split at h
  ·simp at h;subst h;simp at h1 h2 ⊢;omega
  ·cases h
theorem Zk8:∀ (n:Nat) (L:List UInt8) (acc:List Int) (x:List Int × Nat),Zcj n L acc=some x→0<x.2∧x.2≤L.length
 | 0,_,_,_,h=>by simp [Zcj] at h
 | n+1,[],_,_,h=>by simp [Zcj] at h
 | n+1,c::L,acc,x,h=>by
  unfold Zcj at h
  split at h
  ·simp at h;subst h;simp
  ·split at h
   ·cases h
   ·split at h
    ·cases h
    ·split at h
     ·cases he:Zty L with
      | none=>rw [he] at h;cases h
      | some y =>
       obtain ⟨v,k⟩:=y
       rw [he] at h
       have hk:=Zpf he
       simp only [Option.map_eq_some_iff] at h
       obtain ⟨z,hz,rfl⟩:=h
       have:=Zk8 n (L.drop k) _ z hz
       simp at this ⊢
       omega
     ·simp only [Option.map_eq_some_iff] at h
      obtain ⟨z,hz,rfl⟩:=h
      have:=Zk8 n L _ z hz
      simp
      omega
theorem Zuy (k:Nat) (h:k<21):0<(Zb0 k).size:=by
 iterate 21 (rcases k with _ | k;· decide)
 omega
theorem Zwb (L:List UInt8):∀ (n k:Nat) (x:ByteArray × Nat),k+n=21→opL L n k=some x→0<x.2∧x.2≤L.length
 | 0,_,_,_,h=>by simp [opL] at h
 | n+1,k,x,hk,h=>by
  unfold opL at h
  split at h
  ·rename_i hp
   simp at h
   subst h
   rw [List.isPrefixOf_iff_prefix] at hp
   have:=hp.length_le
   simp at this
   exact ⟨Zuy k (by omega),this⟩
  ·exact Zwb L n (k+1) x (by omega) h
theorem Zja {L:List UInt8}{k t:ByteArray}{m:Nat} (h:Zds L=some (k,t,m)):0<m∧m≤L.length:=by
 cases L with
 | nil=>simp [Zds] at h
 | cons c L =>
  have hr:Zds (c::L)=if Z32 (c.toNat:Int) || Z1n (c.toNat:Int) then (Z8t c L).map fun x=>(if x.1 then Z8z else Z8u,x.2.1,x.2.2)
   else if Z1f (c.toNat:Int) then (Zjn c L).map fun x=>(Zpu,x.1,x.2)
   else if (c.toNat:Int) == 34 then (Zcj (L.length+1) L []).map fun x=>(Zoa,strOfNums x.1,x.2+1)
   else (opL (c::L) 21 0).map fun x=>(kOp,x.1,x.2):=rfl
  rw [hr] at h
  split at h
  ·simp only [Option.map_eq_some_iff] at h
   obtain ⟨z,hz,he⟩:=h
   have:=Zu5 hz
   simp at he ⊢
   omega
  ·split at h
   ·rename_i hd
    simp only [Option.map_eq_some_iff] at h
    obtain ⟨z,hz,he⟩:=h
    have:=Zy0 hd hz
    simp at he ⊢
    omega
   ·split at h
    ·simp only [Option.map_eq_some_iff] at h
     obtain ⟨z,hz,he⟩:=h
     have:=Zk8 _ _ _ z hz
     simp at he ⊢
     omega
    ·simp only [Option.map_eq_some_iff] at h
     obtain ⟨z,hz,he⟩:=h
     have:=Zwb _ 21 0 z rfl hz
     simp at he this ⊢
     omega

def Z6a:Nat→List UInt8→Nat→Except Nat (List (ByteArray × ByteArray × Nat))
 | 0,_,o=>.error o
 | f+1,L,o =>
  if Z12 L=L.length then .ok []
  else match Zds (L.drop (Z12 L)) with
   | none=>.error (o+Z12 L)
   | some (k,t,m)=>match Z6a f (L.drop (Z12 L+m)) (o+(Z12 L+m)) with
    | .ok l=>.ok ((k,t,o+Z12 L)::l)
    | .error e=>.error e

def cellsOf (l:List (ByteArray × ByteArray × Nat)):List Value:=l.flatMap fun x=>Z0o x.1 x.2.1 x.2.2

theorem Znb {L:List UInt8} (h:Zcf L) (m:Nat):Zcf (L.drop m):=fun c hc=>h c (List.mem_of_mem_drop hc)

theorem Z99 (s:ByteArray) (S:List UInt8) (hS:Z3y S):∀ (f:Nat) (L pre:List UInt8) (tk:List Value) (n:Nat),L.length<f→Zcf L→s.data.toList=pre++(L++S) →
  Z15 s (s.size+1 - pre.length) pre.length tk n=match Z6a f L pre.length with
   | .ok l=>.ok (pre.length+L.length,tk++cellsOf l,n+l.length)
   | .error e=>.error e
 | 0,_,_,_,_,h,_,_=>absurd h (Nat.not_lt_zero _)
 | f+1,L,pre,tk,n,hf,hL,h=>by
  have hz:=Z24 h
  simp at hz
  have hsk:=Zd2 s S L pre hS hL h
  have hen:=Zdl s S L pre hS hL h (Z12 L) (Z6i L)
  have hle:=Z6i L
  unfold Z6a
  by_cases hc:Z12 L=L.length
  ·rw [if_pos hc]
   rw [decide_eq_true hc] at hen
   rw [Z98 (by omega) (by rw [hsk];exact hen),hsk,hc]
   simp [cellsOf]
  ·rw [if_neg hc]
   rw [decide_eq_false hc] at hen
   have hsp:L.take (Z12 L)++L.drop (Z12 L)=L:=List.take_append_drop _ L
   have hl:(pre++L.take (Z12 L)).length=pre.length+Z12 L:=by simp;omega
   have h':s.data.toList=(pre++L.take (Z12 L))++(L.drop (Z12 L)++S):=by
    rw [h]
    simp only [List.append_assoc,←List.append_assoc (L.take (Z12 L)),hsp]
   have hd:Zz8 s ((pre++L.take (Z12 L)).length+(L.drop (Z12 L)).length):=by
    have:=Zks (s:=s) (S:=S) (pre:=pre++L) hS (by simpa using h)
    have e:(pre++L.take (Z12 L)).length+(L.drop (Z12 L)).length=(pre++L).length:=by simp;omega
    rw [e];exact this
   have ht:=Zdq s S (L.drop (Z12 L)) (pre++L.take (Z12 L)) hS.halts h' hd (by intro e;have:=congrArg List.length e;simp at this;omega)
   rw [hl,←hsk] at ht
   cases hk:Zds (L.drop (Z12 L)) with
   | none =>
    rw [hk] at ht
    rw [Z6b (by omega) (by rw [hsk];exact hen) ht,hsk]
   | some x =>
    obtain ⟨k,t,m⟩:=x
    rw [hk] at ht
    simp only [Option.map_some] at ht
    have hm:=Zja hk
    simp at hm
    rw [Z7x (by omega) (by rw [hsk];exact hen) ht]
    have hsp2:L.take (Z12 L+m)++L.drop (Z12 L+m)=L:=List.take_append_drop _ L
    have hl2:(pre++L.take (Z12 L+m)).length=pre.length+(Z12 L+m):=by simp;omega
    have ih:=Z99 s S hS f (L.drop (Z12 L+m)) (pre++L.take (Z12 L+m)) (tk++Z0o k t (Z0f s pre.length)) (n+1) (by simp;omega) (Znb hL _) (by
     rw [h]
     simp only [List.append_assoc,←List.append_assoc (L.take (Z12 L+m)),hsp2])
    rw [hl2] at ih
    rw [hsk] at ih ⊢
    rw [show pre.length+Z12 L+m=pre.length+(Z12 L+m) by omega,ih]
    simp only
    cases Z6a f (L.drop (Z12 L+m)) (pre.length+(Z12 L+m)) with
    | error e=>rfl
    | ok l =>
     simp [cellsOf]
     omega
end Go.Proofs.YtflcohidmemfpaaGreatDoor
namespace Go.Proofs.YtflcohidmemfpaaGreatDoor
open Go.Proofs.Tryz
open Go.RowKit

theorem Z6l (s:ByteArray) (S L pre:List UInt8) (hS:Z3y S) (hL:Zcf L) (h:s.data.toList=pre++(L++S)) (st:List Int) (n:Nat) (tk:List Value) :
  Z0v s ⟨pre.length,st,n,tk⟩ =
   if Z12 L=L.length then .ok ⟨Z11 s (pre.length+L.length),st,n,tk⟩
   else match Z1j st (Z21 L:Nat) (pre.length+Z12 L) n tk with
    | none=>.error (pre.length+Z12 L)
    | some (st',n',tk')=>match Z6a (L.length+1) L pre.length with
     | .error e=>.error e
     | .ok l=>.ok ⟨Z11 s (pre.length+L.length),st',n'+l.length+1,tk'++cellsOf l++Z0o Z3p ⟨#[]⟩ (pre.length+L.length)⟩:=by
 have hz:=Z24 h
 simp at hz
 have hsk:=Zd2 s S L pre hS hL h
 have hen:=Zdl s S L pre hS hL h (Z12 L) (Z6i L)
 have hle:=Z6i L
 have hbl:=Z8f s S L pre hS h
 by_cases hc:Z12 L=L.length
 ·rw [if_pos hc]
  rw [decide_eq_true hc] at hen
  rw [Z5h (by simp only;rw [hsk];exact hen)]
  simp only [hsk,hc]
 ·rw [if_neg hc]
  rw [decide_eq_false hc] at hen
  have hd:((pre.length+Z21 L:Nat):Int) - (pre.length:Int)=(Z21 L:Nat):=by omega
  have hr:=fun tk' n'=>Z99 s S hS (L.length+1) L pre tk' n' (by omega) hL h
  have hsp:L.take (Z12 L)++L.drop (Z12 L)=L:=List.take_append_drop _ L
  have hl:(pre++L.take (Z12 L)).length=pre.length+Z12 L:=by simp;omega
  have h':s.data.toList=(pre++L.take (Z12 L))++(L.drop (Z12 L)++S):=by
   rw [h]
   simp only [List.append_assoc,←List.append_assoc (L.take (Z12 L)),hsp]
  have hdd:Zz8 s ((pre++L.take (Z12 L)).length+(L.drop (Z12 L)).length):=by
   have:=Zks (s:=s) (S:=S) (pre:=pre++L) hS (by simpa using h)
   have e:(pre++L.take (Z12 L)).length+(L.drop (Z12 L)).length=(pre++L).length:=by simp;omega
   rw [e];exact this
  have ht:=Zdq s S (L.drop (Z12 L)) (pre++L.take (Z12 L)) hS.halts h' hdd (by intro e;have:=congrArg List.length e;simp at this;omega)
  rw [hl,←hsk] at ht
  cases hst:Z1j st (Z21 L:Nat) (pre.length+Z12 L) n tk with
  | none =>
   rw [Z75 (by simp only;rw [hsk];exact hen) (by simp only;rw [hbl,hd,hsk];exact hst)]
   simp only [hsk]
  | some x =>
   obtain ⟨st',n',tk'⟩:=x
   have hg:=hr tk' n'
   cases hk:Zds (L.drop (Z12 L)) with
   | none =>
    rw [hk] at ht
    rw [Zae (by simp only;rw [hsk];exact hen) (by simp only;rw [hbl,hd,hsk];exact hst) ht]
    rw [Z6b (by omega) (by rw [hsk];exact hen) ht] at hg
    simp only
    cases hrl:Z6a (L.length+1) L pre.length with
    | error e =>
     rw [hrl] at hg
     simp only [Except.error.injEq] at hg
     simp only [hg]
    | ok l=>rw [hrl] at hg;cases hg
   | some y =>
    obtain ⟨k,t,m⟩:=y
    rw [hk] at ht
    simp only [Option.map_some] at ht
    rw [Z7x (by omega) (by rw [hsk];exact hen) ht] at hg
    simp only
    cases hrl:Z6a (L.length+1) L pre.length with
    | error e =>
     rw [hrl] at hg
     rw [Z8r (by simp only;rw [hsk];exact hen) (by simp only;rw [hbl,hd,hsk];exact hst) ht hg]
    | ok l =>
     rw [hrl] at hg
     rw [Zbh (by simp only;rw [hsk];exact hen) (by simp only;rw [hbl,hd,hsk];exact hst) ht hg]

def Zev (a b:List Value):Prop:=∃ l m:List (ByteArray × ByteArray × Nat),a=cellsOf l∧b=cellsOf m∧l.map (fun x=>(x.1,x.2.1))=m.map (fun x=>(x.1,x.2.1))
theorem Zev.nil:Zev [] []:=⟨[],[],rfl,rfl,rfl⟩
theorem Zev.tok {a b:List Value} (h:Zev a b) (k t:ByteArray) (i j:Nat):Zev (a++Z0o k t i) (b++Z0o k t j):=by
 obtain ⟨l,m,rfl,rfl,e⟩:=h
 exact ⟨l ++ [(k,t,i)],m ++ [(k,t,j)],by simp [cellsOf],by simp [cellsOf],by simp [e]⟩

theorem Zev.cells:∀ (l l':List (ByteArray × ByteArray × Nat)),l.map (fun x=>(x.1,x.2.1))=l'.map (fun x=>(x.1,x.2.1)) → ∀ {a b:List Value},Zev a b→Zev (a++cellsOf l) (b++cellsOf l')
 | [],[],_,a,b,h=>by simpa [cellsOf] using h
 | [],y::l',he,_,_,_=>by simp at he
 | x::l,[],he,_,_,_=>by simp at he
 | (k,t,i)::l,(k',t',j)::l',he,a,b,h=>by
  simp only [List.map_cons,List.cons.injEq,Prod.mk.injEq] at he
  obtain ⟨⟨rfl,rfl⟩,he⟩:=he
  have:=Zev.cells l l' he (h.tok k t i j)
  simpa [cellsOf] using this

end Go.Proofs.YtflcohidmemfpaaGreatDoor
namespace Go.Proofs.YtflcohidmemfpaaGreatDoor
open Go.Proofs.Tryz
open Go.RowKit

theorem Zdj (s:ByteArray) (S p:List UInt8) (hS:Z3y S) (h:s.data.toList=p++S):Z11 s p.length=(p++S.take 1).length:=by
 have hz:=Z24 h
 unfold Z11
 rcases hS with rfl | ⟨R,rfl⟩
 ·simp at hz
  rw [if_neg (by omega)]
  simp
 ·simp at hz
  rw [if_pos (by omega)]
  simp

theorem Zj5 (s:ByteArray) (p:Nat) (st:List Int) (n:Nat) (a:List Value) (h:¬ p<s.size):Z0t s (s.size - p) ⟨p,st,n,a⟩ = .ok ⟨p,st,n,a⟩:=Zab (s:=s) (σ:=⟨p,st,n,a⟩) h

theorem Z7k:∀ R:List UInt8,∃ L S,R=L++S∧Zcf L∧Z3y S
 | []=>⟨[],[],rfl,fun c hc=>by simp at hc,.inl rfl⟩
 | c::R=>by
  by_cases hc:c=10
  ·exact ⟨[],c::R,rfl,fun c hc=>by simp at hc,.inr ⟨R,by rw [hc]⟩⟩
  ·obtain ⟨L,S,rfl,hL,hS⟩:=Z7k R
   exact ⟨c::L,S,rfl,fun x hx=>by
    simp at hx
    rcases hx with rfl | hx
    ·exact hc
    ·exact hL x hx,hS⟩

end Go.Proofs.YtflcohidmemfpaaGreatDoor
namespace Go.Proofs.YtflcohidmemfpaaGreatDoor
open Go.Proofs.Tryz
open Go.RowKit

def Zbt:ByteArray:=⟨#[100,101,100,101,110,116]⟩
def Zwc (k:ByteArray):Bool:=k.toList == [105,110,100,101,110,116]
def Zyt (k:ByteArray):Bool:=k.toList == [100,101,100,101,110,116]
def Z1u:Nat→List (ByteArray × ByteArray × Nat)→Option Nat
 | d,[]=>some d
 | d,x::l=>if Zwc x.1 then Z1u (d+1) l else if Zyt x.1 then (if d=0 then none else Z1u (d - 1) l) else Z1u d l

theorem Z3b:∀ (l m:List (ByteArray × ByteArray × Nat)) (d e:Nat),Z1u d l=some e→Z1u d (l++m)=Z1u e m
 | [],m,d,e,h=>by simp [Z1u] at h;subst h;rfl
 | x::l,m,d,e,h=>by
  simp only [List.cons_append,Z1u] at h ⊢
  split
  ·rename_i h1
   rw [if_pos h1] at h
   exact Z3b l m _ e h
  ·rename_i h1
   rw [if_neg h1] at h
   split
   ·rename_i h2
    rw [if_pos h2] at h
    split
    ·rename_i h3;rw [if_pos h3] at h;cases h
    ·rename_i h3;rw [if_neg h3] at h;exact Z3b l m _ e h
   ·rename_i h2
    rw [if_neg h2] at h
    exact Z3b l m _ e h
theorem Z3q:∀ (l:List (ByteArray × ByteArray × Nat)) (d:Nat),(∀ x∈l,Zwc x.1=false∧Zyt x.1=false)→Z1u d l=some d
 | [],d,_=>rfl
 | x::l,d,h=>by
  have h1:=h x (by simp)
  simp only [Z1u,h1.1,h1.2,Bool.false_eq_true,if_false]
  exact Z3q l d (fun y hy=>h y (by simp [hy]))

structure Fine (l:List (ByteArray × ByteArray × Nat)) (d e:Nat):Prop where
 mono:l.Pairwise fun x y=>x.2.2≤y.2.2
 le:∀ x∈l,x.2.2≤e
 short:∀ x∈l,x.2.1.size≤e
 deep:Z1u 0 l=some d

theorem Fine.append {l m:List (ByteArray × ByteArray × Nat)}{d e d' e':Nat} (h:Fine l d e) (h1:m.Pairwise fun x y=>x.2.2≤y.2.2) (h2:∀ x∈m,e≤x.2.2∧x.2.2≤e') (he:e≤e') (h4:∀ x∈m,x.2.1.size≤e') (h3:Z1u d m=some d'):Fine (l++m) d' e' where
 mono:=List.pairwise_append.mpr ⟨h.mono,h1,fun x hx y hy=>Nat.le_trans (h.le x hx) (h2 y hy).1⟩
 le:=fun x hx=>by
  simp at hx
  rcases hx with hx | hx
  ·exact Nat.le_trans (h.le x hx) he
  ·exact (h2 x hx).2
 short:=fun x hx=>by
  simp at hx
  rcases hx with hx | hx
  ·exact Nat.le_trans (h.short x hx) he
  ·exact h4 x hx
 deep:=(Z3b l m 0 d h.deep).trans h3
theorem Fine.up {l:List (ByteArray × ByteArray × Nat)}{d e e':Nat} (h:Fine l d e) (he:e≤e'):Fine l d e':=⟨h.mono,fun x hx=>Nat.le_trans (h.le x hx) he,fun x hx=>Nat.le_trans (h.short x hx) he,h.deep⟩

theorem Z3j (l m:List (ByteArray × ByteArray × Nat)):cellsOf (l++m)=cellsOf l++cellsOf m:=by simp [cellsOf]

def Z45 (i k:Nat):List (ByteArray × ByteArray × Nat):=List.replicate k (Zbt,⟨#[]⟩,i)
theorem Z6c (i:Nat):∀ k,Z4z i k=cellsOf (Z45 i k)
 | 0=>rfl
 | k+1=>by
  simp only [Z4z,Z6c i k,Z45,List.replicate_succ',Z3j]
  simp [cellsOf,Zbt]
theorem Zpo:Zwc Zbt=false∧Zyt Zbt=true:=⟨by kernel_rfl,by kernel_rfl⟩
theorem Zx1:Zwc Z9u=true:=by kernel_rfl
theorem Zf9:Zwc Z3p=false∧Zyt Z3p=false:=⟨by kernel_rfl,by kernel_rfl⟩
theorem Zpd:Zwc kEnd=false∧Zyt kEnd=false:=⟨by kernel_rfl,by kernel_rfl⟩
theorem Zk5 (k:ByteArray) (h:k=Z8z∨k=Z8u∨k=Zpu∨k=Zoa∨k=kOp):Zwc k=false∧Zyt k=false:=by
 rcases h with rfl | rfl | rfl | rfl | rfl <;> exact ⟨by kernel_rfl,by kernel_rfl⟩
theorem Zam (i:Nat):∀ k d,k≤d→Z1u d (Z45 i k)=some (d - k)
 | 0,d,_=>rfl
 | k+1,d,h=>by
  have ih:=Zam i k (d - 1) (by omega)
  simp only [Z45,List.replicate_succ,Z1u,Zpo.1,Zpo.2,Bool.false_eq_true,if_false,if_true] at ih ⊢
  rw [if_neg (by omega),ih]
  congr 1
  omega

theorem Zrx {L:List UInt8}{k t:ByteArray}{m:Nat} (h:Zds L=some (k,t,m)):k=Z8z∨k=Z8u∨k=Zpu∨k=Zoa∨k=kOp:=by
 cases L with
 | nil=>simp [Zds] at h
 | cons c L =>
  have hr:Zds (c::L)=if Z32 (c.toNat:Int) || Z1n (c.toNat:Int) then (Z8t c L).map fun x=>(if x.1 then Z8z else Z8u,x.2.1,x.2.2)
   else if Z1f (c.toNat:Int) then (Zjn c L).map fun x=>(Zpu,x.1,x.2)
   else if (c.toNat:Int) == 34 then (Zcj (L.length+1) L []).map fun x=>(Zoa,strOfNums x.1,x.2+1)
   else (opL (c::L) 21 0).map fun x=>(kOp,x.1,x.2):=rfl
  rw [hr] at h
  split at h
  ·simp only [Option.map_eq_some_iff] at h
   obtain ⟨z,hz,he⟩:=h
   simp only [Prod.mk.injEq] at he
   rw [←he.1]
   split
   ·exact .inl rfl
   ·exact .inr (.inl rfl)
  ·split at h
   ·simp only [Option.map_eq_some_iff,Prod.mk.injEq] at h
    obtain ⟨z,hz,he,_⟩:=h
    exact .inr (.inr (.inl he.symm))
   ·split at h
    ·simp only [Option.map_eq_some_iff,Prod.mk.injEq] at h
     obtain ⟨z,hz,he,_⟩:=h
     exact .inr (.inr (.inr (.inl he.symm)))
    ·simp only [Option.map_eq_some_iff,Prod.mk.injEq] at h
     obtain ⟨z,hz,he,_⟩:=h
     exact .inr (.inr (.inr (.inr he.symm)))

theorem Zps (l:List Int):(strOfNums l).size=l.length:=by simp [strOfNums,ByteArray.size]
theorem Zc8 (l:List UInt8) (m:Nat):(⟨(l.take m).toArray⟩:ByteArray).size≤m:=by
 simp [ByteArray.size]
 omega
theorem Zd4:∀ (n:Nat) (L:List UInt8) (acc:List Int) (x:List Int × Nat),Zcj n L acc=some x→x.1.length≤acc.length+x.2
 | 0,_,_,_,h=>by simp [Zcj] at h
 | n+1,[],_,_,h=>by simp [Zcj] at h
 | n+1,c::L,acc,x,h=>by
  unfold Zcj at h
  split at h
  ·simp at h;subst h;simp
  ·split at h
   ·cases h
   ·split at h
    ·cases h
    ·split at h
     ·cases he:Zty L with
      | none=>rw [he] at h;cases h
      | some y =>
       obtain ⟨v,k⟩:=y
       rw [he] at h
       simp only [Option.map_eq_some_iff] at h
       obtain ⟨z,hz,rfl⟩:=h
       have:=Zd4 n (L.drop k) _ z hz
       simp at this ⊢
       omega
     ·simp only [Option.map_eq_some_iff] at h
      obtain ⟨z,hz,rfl⟩:=h
      have:=Zd4 n L _ z hz
      simp at this ⊢
      omega
theorem Zlv (L:List UInt8):∀ (n k:Nat) (x:ByteArray × Nat),opL L n k=some x→x.1.size=x.2
 | 0,_,_,h=>by simp [opL] at h
 | n+1,k,x,h=>by
  unfold opL at h
  split at h
  ·simp at h;subst h;rfl
  ·exact Zlv L n (k+1) x h
theorem Zif {L:List UInt8}{k t:ByteArray}{m:Nat} (h:Zds L=some (k,t,m)):t.size≤m:=by
 cases L with
 | nil=>simp [Zds] at h
 | cons c L =>
  have hr:Zds (c::L)=if Z32 (c.toNat:Int) || Z1n (c.toNat:Int) then (Z8t c L).map fun x=>(if x.1 then Z8z else Z8u,x.2.1,x.2.2)
   else if Z1f (c.toNat:Int) then (Zjn c L).map fun x=>(Zpu,x.1,x.2)
   else if (c.toNat:Int) == 34 then (Zcj (L.length+1) L []).map fun x=>(Zoa,strOfNums x.1,x.2+1)
   else (opL (c::L) 21 0).map fun x=>(kOp,x.1,x.2):=rfl
  rw [hr] at h
  split at h
  ·simp only [Option.map_eq_some_iff,Prod.mk.injEq] at h
   obtain ⟨z,hz,_,rfl,rfl⟩:=h
   unfold Z8t at hz
   simp only at hz
   split at hz
   ·simp at hz;subst hz;exact Zc8 _ _
   ·split at hz
    ·cases hz
    ·split at hz
     ·cases hz
     ·simp at hz;subst hz;exact Zc8 _ _
  ·split at h
   ·simp only [Option.map_eq_some_iff,Prod.mk.injEq] at h
    obtain ⟨z,hz,_,rfl,rfl⟩:=h
    unfold Zjn at hz
    simp only at hz
    split at hz
    ·cases hz
    ·split at hz
     ·simp at hz;subst hz;exact Zc8 _ _
     ·cases hz
   ·split at h
    ·simp only [Option.map_eq_some_iff,Prod.mk.injEq] at h
     obtain ⟨z,hz,_,rfl,rfl⟩:=h
     have:=Zd4 _ _ _ z hz
     rw [Zps]
     simp at this ⊢
     omega
    ·simp only [Option.map_eq_some_iff,Prod.mk.injEq] at h
     obtain ⟨z,hz,_,rfl,rfl⟩:=h
     have:=Zlv _ _ _ z hz
     omega

theorem Ze9:∀ (f:Nat) (L:List UInt8) (o:Nat) (l:List (ByteArray × ByteArray × Nat)),Z6a f L o = .ok l→(l.Pairwise fun x y=>x.2.2≤y.2.2)∧(∀ x∈l,o+Z12 L≤x.2.2∧x.2.2≤o+L.length)∧(∀ x∈l,Zwc x.1=false∧Zyt x.1=false) ∧ ∀ x∈l,x.2.1.size≤o+L.length
 | 0,_,_,_,h=>by cases h
 | f+1,L,o,l,h=>by
  have hle:=Z6i L
  unfold Z6a at h
  split at h
  ·simp only [Except.ok.injEq] at h
   subst h
   refine ⟨List.Pairwise.nil,fun x hx=>by simp at hx,fun x hx=>by simp at hx,fun x hx=>by simp at hx⟩
  ·cases hk:Zds (L.drop (Z12 L)) with
   | none=>rw [hk] at h;cases h
   | some y =>
    obtain ⟨k,t,m⟩:=y
    rw [hk] at h
    have hm:=Zja hk
    simp at hm
    simp only at h
    cases hr:Z6a f (L.drop (Z12 L+m)) (o+(Z12 L+m)) with
    | error e=>rw [hr] at h;cases h
    | ok l' =>
     rw [hr] at h
     simp only [Except.ok.injEq] at h
     subst h
     obtain ⟨i1,i2,i3,i4⟩:=Ze9 f _ _ l' hr
     refine ⟨List.pairwise_cons.mpr ⟨fun y hy => ?_,i1⟩,fun x hx => ?_,fun x hx => ?_,fun x hx => ?_⟩
     ·have:=(i2 y hy).1
      simp only
      omega
     ·simp at hx
      rcases hx with rfl | hx
      ·simp only;omega
      ·have:=i2 x hx
       simp at this
       omega
     ·simp at hx
      rcases hx with rfl | hx
      ·exact Zk5 k (Zrx hk)
      ·exact i3 x hx
     ·simp at hx
      rcases hx with rfl | hx
      ·have:=Zif hk
       simp only
       omega
      ·have:=i4 x hx
       simp at this
       omega

theorem Za5 (ind:Int):∀ st:List Int,falls st→falls (Z2f ind st).2
 | [],_=>by simp [Z2f,falls]
 | x::xs,h=>by
  unfold Z2f
  split
  ·exact Za5 ind xs (Znl h)
  ·exact h

theorem Z69 {st st':List Int}{ind:Int}{i n n':Nat}{tk tk':List Value} (h:Z1j st ind i n tk=some (st',n',tk')) (hl:st.getLast?=some 0) (hf:falls st) :
  falls st' ∧ ∃ m,tk'=tk++cellsOf m∧n'=n+m.length∧(∀ x∈m,x.2.2=i∧x.2.1.size=0)∧Z1u (st.length - 1) m=some (st'.length - 1):=by
 have hi:=Z3x h hl
 unfold Z1j at h
 cases st with
 | nil=>cases h
 | cons x xs =>
  simp only at h
  split at h
  ·rename_i hlt
   simp only [Option.some.injEq,Prod.mk.injEq] at h
   obtain ⟨rfl,rfl,rfl⟩:=h
   refine ⟨⟨hlt,hf⟩,[(Z9u,⟨#[]⟩,i)],by simp [cellsOf],rfl,fun x hx=>by simp at hx;rw [hx];exact ⟨rfl,rfl⟩,?_⟩
   simp only [Z1u,Zx1,if_true]
   simp
  ·split at h
   ·simp only [Option.some.injEq,Prod.mk.injEq] at h
    obtain ⟨rfl,rfl,rfl⟩:=h
    have hlen:=Zba ind (x::xs)
    have hne:(Z2f ind (x::xs)).2 ≠ []:=by
     intro e
     rw [e] at hi
     simp at hi
    have hpos:0<(Z2f ind (x::xs)).2.length:=List.length_pos_iff.mpr hne
    refine ⟨Za5 ind _ hf,Z45 i (Z2f ind (x::xs)).1,by rw [Z6c],by simp [Z45],fun y hy=>by simp [Z45] at hy;rw [hy.2];exact ⟨rfl,rfl⟩,?_⟩
    rw [Zam i _ _ (by omega)]
    congr 1
    omega
   ·cases h

structure FineSt (σ:LexSt):Prop where
 falls:falls σ.st
 ex:∃ l,σ.tk=cellsOf l∧σ.n=l.length∧Fine l (σ.st.length - 1) σ.at_

theorem Zgy (s:ByteArray) (S L pre:List UInt8) (hS:Z3y S) (hL:Zcf L) (h:s.data.toList=pre++(L++S)) {st:List Int}{n:Nat}{tk:List Value} (hl:st.getLast?=some 0) (hF:FineSt ⟨pre.length,st,n,tk⟩) {σ:LexSt} (hs:Z0v s ⟨pre.length,st,n,tk⟩ = .ok σ):FineSt σ∧σ.at_=(pre++L++S.take 1).length:=by
 have e1:=Zdj s S (pre++L) hS (by simpa using h)
 rw [@List.length_append _ pre] at e1
 have hle:=Z6i L
 have hat:pre.length+L.length≤(pre++L++S.take 1).length:=by simp
 rw [Z6l s S L pre hS hL h] at hs
 obtain ⟨l,h1,h2,h3⟩:=hF.ex
 simp only at h1 h2 h3
 split at hs
 ·simp only [Except.ok.injEq] at hs
  subst hs
  exact ⟨⟨hF.falls,l,h1,h2,h3.up (by simp only;omega)⟩,e1⟩
 ·cases hst:Z1j st (Z21 L:Nat) (pre.length+Z12 L) n tk with
  | none=>rw [hst] at hs;cases hs
  | some x =>
   obtain ⟨st',n',tk'⟩:=x
   rw [hst] at hs
   simp only at hs
   obtain ⟨g1,m,rfl,rfl,g4,g5⟩:=Z69 hst hl hF.falls
   cases hr:Z6a (L.length+1) L pre.length with
   | error e=>rw [hr] at hs;cases hs
   | ok r =>
    rw [hr] at hs
    simp only [Except.ok.injEq] at hs
    subst hs
    obtain ⟨i1,i2,i3,i4⟩:=Ze9 _ _ _ r hr
    refine ⟨⟨g1,l++m++r ++ [(Z3p,⟨#[]⟩,pre.length+L.length)],?_,?_,?_⟩,e1⟩
    ·simp only [h1,Z3j]
     simp [cellsOf]
    ·simp only [h2]
     simp
     omega
    ·have f1:Fine (l++m) (st'.length - 1) (pre.length+Z12 L):=h3.append (m:=m) (List.pairwise_of_forall_mem_list fun x hx y hy=>by rw [(g4 x hx).1,(g4 y hy).1];exact Nat.le_refl _) (fun x hx=>by rw [(g4 x hx).1];omega) (by omega) (fun x hx=>by rw [(g4 x hx).2];omega) g5
     have f2:Fine (l++m++r) (st'.length - 1) (pre.length+L.length):=f1.append i1 (fun x hx=>i2 x hx) (by omega) i4 (Z3q r _ i3)
     have f3:=f2.append (m:=[(Z3p,⟨#[]⟩,pre.length+L.length)]) (e':=(pre++L++S.take 1).length) (by simp) (fun x hx=>by simp only [List.mem_singleton] at hx;subst hx;exact ⟨Nat.le_refl _,hat⟩) hat (fun x hx=>by simp only [List.mem_singleton] at hx;subst hx;exact Nat.zero_le _) (Z3q _ _ (fun x hx=>by simp only [List.mem_singleton] at hx;subst hx;exact Zf9))
     rw [e1]
     exact f3

theorem Zew (s:ByteArray):∀ (N:Nat) (R pre:List UInt8) (st:List Int) (n:Nat) (tk:List Value),R.length≤N→s.data.toList=pre++R→Inv s ⟨pre.length,st,n,tk⟩→FineSt ⟨pre.length,st,n,tk⟩ → ∀ σ,Z0t s (s.size - pre.length) ⟨pre.length,st,n,tk⟩ = .ok σ→FineSt σ∧σ.st.getLast?=some 0∧σ.at_≤s.size
 | N,[],pre,st,n,tk,_,h,I,hF,σ,hr=>by
  have hz:=Z24 h
  rw [Zj5 s _ _ _ _ (by simp at hz ⊢;omega)] at hr
  simp only [Except.ok.injEq] at hr
  subst hr
  exact ⟨hF,I.last,I.hat⟩
 | 0,c::R,_,_,_,_,hN,_,_,_,_,_=>by simp at hN
 | N+1,c::R,pre,st,n,tk,hN,h,I,hF,σ,hr=>by
  have hz:=Z24 h
  simp at hz
  obtain ⟨L,S,e,hL,hS⟩:=Z7k (c::R)
  have h1:s.data.toList=pre++(L++S):=by rw [h,e]
  have hlt:pre.length<s.size:=by omega
  cases hs:Z0v s ⟨pre.length,st,n,tk⟩ with
  | error x=>rw [Z5d hlt hs] at hr;cases hr
  | ok τ =>
   rw [Z6f I hlt hs] at hr
   have I1:=(Z2r I hlt hs).1
   obtain ⟨hF1,hat⟩:=Zgy s S L pre hS hL h1 I.last hF hs
   have hlen:=congrArg List.length e
   simp at hlen
   obtain ⟨at1,st1,n1,tk1⟩:=τ
   simp only at hat
   subst hat
   refine Zew s N (S.drop 1) _ st1 n1 tk1 ?_ ?_ I1 hF1 σ hr
   ·simp at hN ⊢
    cases S with
    | nil=>simp
    | cons d S=>simp at hlen ⊢;omega
   ·rw [h1]
    simp only [List.append_assoc,List.take_append_drop]

theorem Zrk:∀ st:List Int,falls st→st.head?=some 0→st.getLast?=some 0→st.length=1
 | [],_,h,_=>by simp at h
 | [x],_,_,_=>rfl
 | x::y::r,hf,h,hl=>by
  exfalso
  simp at h
  subst h
  have hg:(y::r)[(y::r).length - 1]?=some 0:=by
   rw [←List.getLast?_eq_getElem?]
   simpa using hl
  have:=Zfg (y::r) 0 _ 0 hf hg
  omega

theorem Z92 {s:ByteArray}{n:Nat}{tk:List Value} (h:Z6s s = .ok (n,tk)):∃ l,tk=cellsOf l∧n=l.length∧(l.Pairwise fun x y=>x.2.2≤y.2.2)∧Z1u 0 l=some 0 ∧ ∀ x∈l,x.2.1.size≤s.size:=by
 unfold Z6s at h
 cases hr:Z0t s s.size ⟨0,[0],0,[]⟩ with
 | error e=>rw [hr] at h;cases h
 | ok σ =>
  rw [hr] at h
  simp only at h
  have hr':Z0t s (s.size - ([]:List UInt8).length) ⟨([]:List UInt8).length,[0],0,[]⟩ = .ok σ:=by simpa using hr
  obtain ⟨hF,hl,hsz⟩:=Zew s s.size s.data.toList [] [0] 0 [] (by simp) (by simp) (Zza s) ⟨trivial,[],rfl,rfl,⟨List.Pairwise.nil,fun x hx=>by simp at hx,fun x hx=>by simp at hx,rfl⟩⟩ σ hr'
  cases hst:Z1j σ.st 0 σ.at_ σ.n σ.tk with
  | none=>rw [hst] at h;cases h
  | some x =>
   obtain ⟨st',n',tk'⟩:=x
   rw [hst] at h
   simp only [Except.ok.injEq,Prod.mk.injEq] at h
   obtain ⟨g1,m,rfl,rfl,g4,g5⟩:=Z69 hst hl hF.falls
   obtain ⟨l,h1,h2,h3⟩:=hF.ex
   have hi:=Z3x hst hl
   have hd:st'.head?=some 0:=by
    unfold Z1j at hst
    cases hσ:σ.st with
    | nil=>rw [hσ] at hst;cases hst
    | cons x xs =>
     rw [hσ] at hst
     simp only at hst
     split at hst
     ·rename_i hlt
      exfalso
      have hgl:(x::xs)[(x::xs).length - 1]?=some 0:=by rw [←List.getLast?_eq_getElem?,←hσ];exact hl
      have hff:=hF.falls
      rw [hσ] at hff
      cases xs with
      | nil=>simp at hgl;omega
      | cons y r =>
       have:=Zfg (y::r) x ((y::r).length - 1) 0 hff (by simpa using hgl)
       omega
     ·split at hst
      ·rename_i hh
       simp only [Option.some.injEq,Prod.mk.injEq] at hst
       rw [←hst.1]
       exact hh
      ·cases hst
   have hone:=Zrk st' g1 hd hi.1
   rw [hone] at g5
   have f1:Fine (l++m) 0 σ.at_:=h3.append (m:=m) (List.pairwise_of_forall_mem_list fun x hx y hy=>by rw [(g4 x hx).1,(g4 y hy).1];exact Nat.le_refl _) (fun x hx=>by rw [(g4 x hx).1];omega) (Nat.le_refl _) (fun x hx=>by rw [(g4 x hx).2];omega) g5
   have f2:=f1.append (m:=[(kEnd,⟨#[]⟩,σ.at_)]) (e':=σ.at_) (by simp) (fun x hx=>by simp only [List.mem_singleton] at hx;subst hx;exact ⟨Nat.le_refl _,Nat.le_refl _⟩) (Nat.le_refl _) (fun x hx=>by simp only [List.mem_singleton] at hx;subst hx;exact Nat.zero_le _) (Z3q _ _ (fun x hx=>by simp only [List.mem_singleton] at hx;subst hx;exact Zpd))
   refine ⟨l++m ++ [(kEnd,⟨#[]⟩,σ.at_)],?_,?_,f2.mono,f2.deep,fun x hx=>Nat.le_trans (f2.short x hx) hsz⟩
   ·rw [←h.2,h1]
    simp [cellsOf]
   ·rw [←h.1,h2]
    simp
    omega
end Go.Proofs.YtflcohidmemfpaaGreatDoor
namespace Go.Proofs.YtflcohidmemfpaaGreatDoor
open Go.Proofs.Tryz
open Go.RowKit

def Told (s:ByteArray) (B:Nat) (v5 v6:Value) (w:World):Prop:=
 match Z6s s with
 | .ok (n,tk) => ∃ g cap,v5 = .slice (some ⟨g,0,none⟩) n cap∧v6 = .nilIface∧B≤g∧g<w.heap.size∧(∀ k v,tk[k]?=some v→w.cell? ⟨g,k,none⟩=some v)
 | .error _=>v5 = .slice none 0 0 ∧ ∃ b,v6 = .iface 61 (.pointer (some ⟨b,0,none⟩))

theorem Told.below {s:ByteArray}{B:Nat}{v5 v6:Value}{w w':World} (h:Told s B v5 v6 w) (hb:Below w.heap.size w w'):Told s B v5 v6 w':=by
 unfold Told at h ⊢
 cases hl:Z6s s with
 | error e=>rw [hl] at h;exact h
 | ok x =>
  obtain ⟨n,tk⟩:=x
  rw [hl] at h
  obtain ⟨g,cap,h1,h2,h3,h4,h5⟩:=h
  exact ⟨g,cap,h1,h2,h3,Nat.lt_of_lt_of_le h4 hb.size,fun k v hk=>(hb.cell (p:=⟨g,k,none⟩) h4).trans (h5 k v hk)⟩

theorem Zkn {s:ByteArray}{n:Nat}{tk:List Value} (h:Z6s s = .ok (n,tk)):0<n:=by
 obtain ⟨l,_,rfl,_,hd,_⟩:=Z92 h
 cases l with
 | nil =>
  exfalso
  unfold Z6s at h
  split at h
  ·cases h
  ·split at h
   ·cases h
   ·simp at h
 | cons _ _=>simp
theorem Zsk (s:ByteArray):∀ {f:Nat}{σ τ:LexSt},Inv s σ→Z0t s f σ = .ok τ→Inv s τ
 | 0,σ,τ,I,h=>by simp [Z0t] at h;subst h;exact I
 | f+1,σ,τ,I,h=>by
  unfold Z0t at h
  split at h
  ·rename_i hlt
   cases hs:Z0v s σ with
   | error e=>rw [hs] at h;cases h
   | ok σ' =>
    rw [hs] at h
    exact Zsk s (Z2r I hlt hs).1 h
  ·simp at h;subst h;exact I
theorem Zjf {s:ByteArray}{n:Nat}{tk:List Value} (h:Z6s s = .ok (n,tk)):n≤4*s.size+4:=by
 unfold Z6s at h
 cases hr:Z0t s s.size ⟨0,[0],0,[]⟩ with
 | error e=>rw [hr] at h;cases h
 | ok σ =>
  rw [hr] at h
  simp only at h
  have hI:=Zsk s (f:=s.size) (Zza s) hr
  cases hst:Z1j σ.st 0 σ.at_ σ.n σ.tk with
  | none=>rw [hst] at h;cases h
  | some x =>
   obtain ⟨st',n',tk'⟩:=x
   rw [hst] at h
   simp only [Except.ok.injEq,Prod.mk.injEq] at h
   have h1:=Z3x hst hI.last
   have h2:=hI.cnt
   have h3:=hI.hat
   omega

theorem Zhr:∀ (l:List (ByteArray × ByteArray × Nat)) (j:Nat) (x:ByteArray × ByteArray × Nat),l[j]?=some x→(cellsOf l)[j*3]?=some (.string x.1)∧(cellsOf l)[j*3+1]?=some (.string x.2.1)∧(cellsOf l)[j*3+2]?=some (.int .i64 x.2.2)
 | [],j,x,h=>by simp at h
 | y::l,0,x,h=>by
  simp at h
  subst h
  exact ⟨rfl,rfl,rfl⟩
 | y::l,j+1,x,h=>by
  have ih:=Zhr l j x (by simpa using h)
  have e:cellsOf (y::l)=Z0o y.1 y.2.1 y.2.2++cellsOf l:=rfl
  have hl:(Z0o y.1 y.2.1 y.2.2).length=3:=rfl
  rw [e,List.getElem?_append_right (by omega),List.getElem?_append_right (by omega),List.getElem?_append_right (by omega),hl]
  rw [show (j+1)*3 - 3=j*3 by omega,show (j+1)*3+1 - 3=j*3+1 by omega,show (j+1)*3+2 - 3=j*3+2 by omega]
  exact ih

end Go.Proofs.YtflcohidmemfpaaGreatDoor
