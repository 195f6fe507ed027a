/- The law LexDeep, plain: what Lex comes to at lines that stand deeper and deeper, and one that goes back. -/
import Derived.Test.YtpcjcgkpjapbpaaGreatDoorTtD
import Derived.Laws.Strings
set_option linter.all false
namespace Go.Proofs.YtpcjcgkpjapbpaaGreatDoor
open Go.RowKit

def falls:List Int→Prop
 | []=>True
 | [_]=>True
 | x::y::r=>y<x∧falls (y::r)

theorem falls_lt:∀ (l:List Int) (x:Int) (b:Nat) (y:Int),falls (x::l)→l[b]?=some y→y<x
 | [],x,b,y,h,hy=>by simp at hy
 | z::r,x,0,y,h,hy=>by simp at hy;have:=h.1;omega
 | z::r,x,b+1,y,h,hy=>by
  have:=falls_lt r z b y h.2 (by simpa using hy)
  have:=h.1
  omega
theorem falls_tail {x:Int}{l:List Int} (h:falls (x::l)):falls l:=by
 cases l with
 | nil=>trivial
 | cons y r=>exact h.2

end Go.Proofs.YtpcjcgkpjapbpaaGreatDoor
namespace Go.Proofs.YtpcjcgkpjapbpaaGreatDoor
open Go.RowKit

def halts (S:List UInt8):Prop:=∀ c∈S.head?,c=10∨c=32

theorem no_get {q:ByteArray}{pre:List UInt8} (h:q.data.toList=pre):¬ pre.length<q.size:=by
 have:=data_size h;omega

theorem passTo_list (P:Int→Bool) (s:ByteArray) (S:List UInt8) (hS:∀ c∈S.head?,P (c.toNat:Int)=false):∀ (L pre:List UInt8),s.data.toList=pre++(L++S)→passTo P s (s.size - pre.length) pre.length=pre.length+(L.takeWhile fun c=>P (c.toNat:Int)).length
 | [],pre,h=>by
  cases S with
  | nil =>
   simp only [List.append_nil] at h
   have:=data_size h
   simpa using passTo_end (P:=P) this.symm
  | cons c S =>
   obtain ⟨hlt,e⟩:=get_at (q:=s) (pre:=pre) (rest:=S) (x:=c) (by simpa using h)
   simpa using passTo_stop (P:=P) hlt (by rw [e];exact hS c (by simp))
 | c::L,pre,h=>by
  obtain ⟨hlt,e⟩:=get_at (q:=s) (pre:=pre) (rest:=L++S) (x:=c) (by simpa using h)
  cases hP:P (c.toNat:Int)
  ·simpa [List.takeWhile,hP] using passTo_stop (P:=P) hlt (by rw [e];exact hP)
  ·have ih:=passTo_list P s S hS L (pre ++ [c]) (by simpa using h)
   rw [passTo_go hlt (by rw [e];exact hP)]
   simp only [List.length_append,List.length_cons,List.length_nil] at ih
   rw [ih]
   simp [List.takeWhile,hP]
   omega

theorem cut_list (s:ByteArray) (S L pre:List UInt8) (h:s.data.toList=pre++(L++S)) (m:Nat) (hm:m≤L.length):s.extract pre.length (pre.length+m)=⟨(L.take m).toArray⟩:=by
 apply ByteArray.ext
 apply Array.ext'
 rw [ByteArray.data_extract,Array.toList_extract,h]
 simp [List.extract,List.take_append_of_le_length hm]

theorem takeWhile_len (p:UInt8→Bool) (L:List UInt8):(L.takeWhile p).length≤L.length:=by
 induction L with
 | nil=>simp
 | cons c L ih=>simp only [List.takeWhile];split <;> simp;exact ih

theorem halts_byte {S:List UInt8} (h:halts S) (P:Int→Bool) (h1:P 10=false) (h2:P 32=false):∀ c∈S.head?,P (c.toNat:Int)=false:=fun c hc=>by
 rcases h c hc with rfl | rfl
 ·exact h1
 ·exact h2

def nameL (c:UInt8) (L:List UInt8):Option (Bool × ByteArray × Nat):=
 let m:=1+(L.takeWhile fun c=>nameB (c.toNat:Int)).length
 if wordB ⟨((c::L).take m).toArray⟩ then some (true,⟨((c::L).take m).toArray⟩,m)
 else if capitalB (c.toNat:Int) then none
 else if 16<m then none
 else some (false,⟨((c::L).take m).toArray⟩,m)

theorem nameAt_list (s:ByteArray) (c:UInt8) (S L pre:List UInt8) (hS:halts S) (h:s.data.toList=pre++(c::L++S)):nameAt s pre.length=(nameL c L).map fun x=>(x.1,x.2.1,pre.length+x.2.2):=by
 obtain ⟨hlt,e⟩:=get_at (q:=s) (pre:=pre) (rest:=L++S) (x:=c) (by simpa using h)
 have hp:=passTo_list nameB s S (halts_byte hS nameB rfl rfl) L (pre ++ [c]) (by simpa using h)
 have hn:nameTo s pre.length=pre.length+(1+(L.takeWhile fun c=>nameB (c.toNat:Int)).length):=by
  unfold nameTo
  simp only [List.length_append,List.length_cons,List.length_nil,Nat.zero_add] at hp
  omega
 have hc:=cut_list s S (c::L) pre h (1+(L.takeWhile fun c=>nameB (c.toNat:Int)).length) (by have:=takeWhile_len (fun c=>nameB (c.toNat:Int)) L;simp;omega)
 unfold nameAt nameL
 rw [dif_pos hlt,hn,hc,e]
 simp only [Nat.add_sub_cancel_left]
 split
 ·rfl
 ·split
  ·rfl
  ·split <;> rfl

def intL (c:UInt8) (L:List UInt8):Option (ByteArray × Nat):=
 let m:=((c::L).takeWhile fun c=>digitB (c.toNat:Int)).length
 if (c.toNat:Int) == 48 && decide (1<m) then none
 else match Lib.parseIntB 64 ((c::L).take m) with
  | .ok _=>some (⟨((c::L).take m).toArray⟩,m)
  | _=>none

theorem intAt_list (s:ByteArray) (c:UInt8) (S L pre:List UInt8) (hS:halts S) (h:s.data.toList=pre++(c::L++S)):intAt s pre.length=(intL c L).map fun x=>(x.1,pre.length+x.2):=by
 obtain ⟨hlt,e⟩:=get_at (q:=s) (pre:=pre) (rest:=L++S) (x:=c) (by simpa using h)
 have hp:=passTo_list digitB s S (halts_byte hS digitB rfl rfl) (c::L) pre h
 have hn:digitsTo s pre.length=pre.length+((c::L).takeWhile fun c=>digitB (c.toNat:Int)).length:=hp
 have hc:=cut_list s S (c::L) pre h ((c::L).takeWhile fun c=>digitB (c.toNat:Int)).length (takeWhile_len _ _)
 unfold intAt intL
 rw [dif_pos hlt,hn,hc,e]
 simp only [Nat.add_sub_cancel_left]
 split
 ·rfl
 ·cases Lib.parseIntB 64 ((c::L).take ((c::L).takeWhile fun c=>digitB (c.toNat:Int)).length) <;> rfl

def opL (L:List UInt8):Nat→Nat→Option (ByteArray × Nat)
 | 0,_=>none
 | n+1,k=>if (opAt k).data.toList.isPrefixOf L then some (opAt k,(opAt k).size) else opL L n (k+1)

theorem toList_data (b:ByteArray):b.toList=b.data.toList:=ByteArray.toList_eq b

theorem prefix_halts:∀ (b L S:List UInt8),halts S→(∀ c∈b,c≠10∧c≠32)→b.isPrefixOf (L++S)=b.isPrefixOf L
 | [],L,S,hS,hb=>by simp
 | c::b,[],S,hS,hb=>by
  cases S with
  | nil=>rfl
  | cons d S =>
   have h1:=hb c (by simp)
   have:(c == d)=false:=by
    rcases hS d (by simp) with rfl | rfl
    ·simpa using h1.1
    ·simpa using h1.2
   simp [List.isPrefixOf,this]
 | c::b,d::L,S,hS,hb=>by
  have ih:=prefix_halts b L S hS (fun x hx=>hb x (by simp [hx]))
  simp [List.isPrefixOf,ih]

theorem prefixB_list (a b:ByteArray):prefixB a b=b.data.toList.isPrefixOf a.data.toList:=by
 unfold prefixB
 rw [toList_data,toList_data]
 split
 ·rename_i hle
  rw [ByteArray.data_extract,Array.toList_extract]
  rw [Bool.eq_iff_iff]
  simp only [List.extract,Nat.sub_zero,List.drop_zero,beq_iff_eq,List.isPrefixOf_iff_prefix]
  constructor
  ·intro h
   rw [←h]
   exact List.take_prefix _ _
  ·intro h
   have:=List.prefix_iff_eq_take.1 h
   simpa using this.symm
 ·rename_i hle
  symm
  rw [Bool.eq_false_iff]
  intro h
  rw [List.isPrefixOf_iff_prefix] at h
  have:=h.length_le
  simp at this
  exact hle this

theorem opAt_bytes (k:Nat):∀ c∈(opAt k).data.toList,c≠10∧c≠32:=by
 iterate 21 (rcases k with _ | k;· decide)
 have:opAt (k+1+1+1+1+1+1+1+1+1+1+1+1+1+1+1+1+1+1+1+1+1)=⟨#[]⟩:=rfl
 rw [this]
 simp

theorem opFrom_list (s:ByteArray) (S L pre:List UInt8) (hS:halts S) (h:s.data.toList=pre++(L++S)):∀ n k,opFrom s pre.length n k=(opL L n k).map fun x=>(x.1,pre.length+x.2)
 | 0,k=>rfl
 | n+1,k=>by
  have hx:(s.extract pre.length s.size).data.toList=L++S:=by
   have hz:=data_size h
   rw [ByteArray.data_extract,Array.toList_extract,h]
   simp [List.extract]
   rw [List.take_of_length_le]
   simp at hz ⊢
   omega
  have hp:prefixB (s.extract pre.length s.size) (opAt k)=(opAt k).data.toList.isPrefixOf L:=by
   rw [prefixB_list,hx]
   exact prefix_halts _ _ _ hS (opAt_bytes k)
  unfold opFrom opL
  rw [hp]
  split
  ·rfl
  ·exact opFrom_list s S L pre hS h n (k+1)

def dead (s:ByteArray) (e:Nat):Prop:=∀ f acc,strFrom s f e acc=none

def escX:List UInt8→Option (Int × Nat)
 | a::b::_=>if 0≤hexVal a∧0≤hexVal b then some (hexVal a*16+hexVal b,3) else none
 | _=>none
def escL:List UInt8→Option (Int × Nat)
 | []=>none
 | c::L=>if (c.toNat:Int) == 110 then some (10,1) else if (c.toNat:Int) == 34 then some (34,1) else if (c.toNat:Int) == 92 then some (92,1) else if (c.toNat:Int) == 120 then escX L else none

theorem hexVal_10:¬ 0≤hexVal 10:=by decide
theorem hexVal_32:¬ 0≤hexVal 32:=by decide

theorem escAt_end {s:ByteArray}{pre:List UInt8} (h:s.data.toList=pre):escAt s pre.length=none:=by
 unfold escAt
 rw [dif_neg (no_get h)]

theorem escAt_list (s:ByteArray) (S L pre:List UInt8) (hS:halts S) (h:s.data.toList=pre++(L++S)):escAt s pre.length=(escL L).map fun x=>(x.1,pre.length+x.2):=by
 cases L with
 | nil =>
  cases S with
  | nil =>
   simp only [List.append_nil] at h
   rw [escAt_end h]
   rfl
  | cons d S =>
   obtain ⟨hlt,e⟩:=get_at (q:=s) (pre:=pre) (rest:=S) (x:=d) (by simpa using h)
   unfold escAt
   rw [dif_pos hlt,e]
   rcases hS d (by simp) with rfl | rfl <;> rfl
 | cons c L =>
  obtain ⟨hlt,e⟩:=get_at (q:=s) (pre:=pre) (rest:=L++S) (x:=c) (by simpa using h)
  unfold escAt
  rw [dif_pos hlt,e]
  have hr:escL (c::L)=if (c.toNat:Int) == 110 then some (10,1) else if (c.toNat:Int) == 34 then some (34,1) else if (c.toNat:Int) == 92 then some (92,1) else if (c.toNat:Int) == 120 then escX L else none:=rfl
  rw [hr]
  split
  ·rfl
  ·split
   ·rfl
   ·split
    ·rfl
    ·split
     ·have hz:=data_size h
      match L,h,hz with
      | a::b::L',h,hz =>
       simp at hz
       obtain ⟨l1,e1⟩:=get_at (q:=s) (pre:=pre ++ [c]) (rest:=b::L'++S) (x:=a) (by simpa using h)
       obtain ⟨l2,e2⟩:=get_at (q:=s) (pre:=pre ++ [c,a]) (rest:=L'++S) (x:=b) (by simpa using h)
       simp only [List.length_append,List.length_cons,List.length_nil] at l1 e1 l2 e2
       rw [dif_pos (by omega)]
       have e1':s[pre.length+1]=a:=e1
       have e2':s[pre.length+2]=b:=e2
       rw [e1',e2']
       have hx:escX (a::b::L')=if 0≤hexVal a∧0≤hexVal b then some (hexVal a*16+hexVal b,3) else none:=rfl
       rw [hx]
       split <;> rfl
      | [a],h,hz =>
       have hx:escX [a]=none:=rfl
       rw [hx,Option.map_none]
       split
       ·rename_i h2
        refine if_neg ?_
        rintro ⟨_,hb⟩
        cases S with
        | nil=>simp at hz;omega
        | cons d S =>
         obtain ⟨l2,e2⟩:=get_at (q:=s) (pre:=pre ++ [c,a]) (rest:=S) (x:=d) (by simpa using h)
         simp only [List.length_append,List.length_cons,List.length_nil] at l2 e2
         have e2':s[pre.length+2]=d:=e2
         rw [e2'] at hb
         rcases hS d (by simp) with rfl | rfl
         ·exact hexVal_10 hb
         ·exact hexVal_32 hb
       ·rfl
      | [],h,hz =>
       have hx:escX []=none:=rfl
       rw [hx,Option.map_none]
       split
       ·rename_i h2
        refine if_neg ?_
        rintro ⟨ha,_⟩
        cases S with
        | nil=>simp at hz;omega
        | cons d S =>
         obtain ⟨l2,e2⟩:=get_at (q:=s) (pre:=pre ++ [c]) (rest:=S) (x:=d) (by simpa using h)
         simp only [List.length_append,List.length_cons,List.length_nil] at l2 e2
         have e2':s[pre.length+1]=d:=e2
         rw [e2'] at ha
         rcases hS d (by simp) with rfl | rfl
         ·exact hexVal_10 ha
         ·exact hexVal_32 ha
       ·rfl
     ·rfl

theorem escX_bd {L:List UInt8}{v:Int}{k:Nat} (h:escX L=some (v,k)):0<k∧k≤L.length+1:=by
 unfold escX at h
 split at h
 ·split at h
  ·simp at h;simp;omega
  ·cases h
 ·cases h
theorem escL_bd {L:List UInt8}{v:Int}{k:Nat} (h:escL L=some (v,k)):0<k∧k≤L.length:=by
 unfold escL at h
 split at h
 ·cases h
 ·split at h
  ·simp at h;simp;omega
  ·split at h
   ·simp at h;simp;omega
   ·split at h
    ·simp at h;simp;omega
    ·split at h
     ·have:=escX_bd h;simp;omega
     ·cases h

def strL:Nat→List UInt8→List Int→Option (List Int × Nat)
 | 0,_,_=>none
 | _+1,[],_=>none
 | n+1,c::L,acc =>
  if (c.toNat:Int) == 34 then some (acc,1)
  else if (c.toNat:Int)<32 then none
  else if 126<(c.toNat:Int) then none
  else if (c.toNat:Int) == 92 then
   match escL L with
   | some (v,k)=>(strL n (L.drop k) (acc ++ [v])).map fun x=>(x.1,x.2+(k+1))
   | none=>none
  else (strL n L (acc ++ [(c.toNat:Int)])).map fun x=>(x.1,x.2+1)

theorem strFrom_list (s:ByteArray) (S:List UInt8) (hS:halts S):∀ (n f:Nat) (L pre:List UInt8) (acc:List Int),s.data.toList=pre++(L++S)→dead s (pre.length+L.length)→L.length<n→s.size+1 - pre.length≤f→strFrom s f pre.length acc=(strL n L acc).map fun x=>(x.1,pre.length+x.2)
 | 0,_,_,_,_,_,_,h,_=>absurd h (Nat.not_lt_zero _)
 | n+1,f,[],pre,acc,h,hd,_,_=>by
  rw [show pre.length=pre.length+([]:List UInt8).length by simp,hd f acc]
  rfl
 | n+1,f,c::L,pre,acc,h,hd,hn,hf=>by
  obtain ⟨hlt,e⟩:=get_at (q:=s) (pre:=pre) (rest:=L++S) (x:=c) (by simpa using h)
  obtain ⟨g,rfl⟩:∃ g,f=g+1:=⟨f - 1,by omega⟩
  have hz:=data_size h
  have hr:strL (n+1) (c::L) acc=if (c.toNat:Int) == 34 then some (acc,1)
   else if (c.toNat:Int)<32 then none
   else if 126<(c.toNat:Int) then none
   else if (c.toNat:Int) == 92 then
    match escL L with
    | some (v,k)=>(strL n (L.drop k) (acc ++ [v])).map fun x=>(x.1,x.2+(k+1))
    | none=>none
   else (strL n L (acc ++ [(c.toNat:Int)])).map fun x=>(x.1,x.2+1):=rfl
  unfold strFrom
  rw [dif_pos hlt,e,hr]
  split
  ·rfl
  ·split
   ·rfl
   ·split
    ·rfl
    ·split
     ·have he:=escAt_list s S L (pre ++ [c]) hS (by simpa using h)
      simp only [List.length_append,List.length_cons,List.length_nil,Nat.zero_add] at he
      rw [he]
      cases hv:escL L with
      | none=>rfl
      | some x =>
       obtain ⟨v,k⟩:=x
       have hk:=escL_bd hv
       have hsp:L.take k++L.drop k=L:=List.take_append_drop k L
       have ih:=strFrom_list s S hS n g (L.drop k) (pre++(c::L.take k)) (acc ++ [v]) (by
        rw [h]
        simp only [List.append_assoc,List.cons_append,←List.append_assoc (L.take k),hsp]) (by
        have:(pre++(c::L.take k)).length+(L.drop k).length=pre.length+(c::L).length:=by simp;omega
        rw [this];exact hd) (by simp at hn ⊢;omega) (by simp;omega)
       have hp:(pre++(c::L.take k)).length=pre.length+1+k:=by simp;omega
       rw [hp] at ih
       simp only [Option.map_some]
       rw [ih]
       cases strL n (L.drop k) (acc ++ [v]) with
       | none=>rfl
       | some y=>simp;omega
     ·have ih:=strFrom_list s S hS n g L (pre ++ [c]) (acc ++ [(c.toNat:Int)]) (by simpa using h) (by
       have:(pre ++ [c]).length+L.length=pre.length+(c::L).length:=by simp;omega
       rw [this];exact hd) (by simp at hn;omega) (by simp;omega)
      simp only [List.length_append,List.length_cons,List.length_nil,Nat.zero_add] at ih
      rw [ih]
      cases strL n L (acc ++ [(c.toNat:Int)]) with
      | none=>rfl
      | some y=>simp;omega

def tokL:List UInt8→Option (ByteArray × ByteArray × Nat)
 | []=>none
 | c::L =>
  if smallB (c.toNat:Int) || capitalB (c.toNat:Int) then (nameL c L).map fun x=>(if x.1 then kWord else kName,x.2.1,x.2.2)
  else if digitB (c.toNat:Int) then (intL c L).map fun x=>(kInt,x.1,x.2)
  else if (c.toNat:Int) == 34 then (strL (L.length+1) L []).map fun x=>(kStr,strOfNums x.1,x.2+1)
  else (opL (c::L) 21 0).map fun x=>(kOp,x.1,x.2)

theorem tokAt_list (s:ByteArray) (S L pre:List UInt8) (hS:halts S) (h:s.data.toList=pre++(L++S)) (hd:dead s (pre.length+L.length)) (hL:L ≠ []):tokAt s pre.length=(tokL L).map fun x=>(x.1,x.2.1,pre.length+x.2.2):=by
 cases L with
 | nil=>exact absurd rfl hL
 | cons c L =>
  obtain ⟨hlt,e⟩:=get_at (q:=s) (pre:=pre) (rest:=L++S) (x:=c) (by simpa using h)
  have hr:tokL (c::L)=if smallB (c.toNat:Int) || capitalB (c.toNat:Int) then (nameL c L).map fun x=>(if x.1 then kWord else kName,x.2.1,x.2.2)
   else if digitB (c.toNat:Int) then (intL c L).map fun x=>(kInt,x.1,x.2)
   else if (c.toNat:Int) == 34 then (strL (L.length+1) L []).map fun x=>(kStr,strOfNums x.1,x.2+1)
   else (opL (c::L) 21 0).map fun x=>(kOp,x.1,x.2):=rfl
  unfold tokAt
  rw [dif_pos hlt,e,hr]
  split
  ·rw [nameAt_list s c S L pre hS h]
   cases nameL c L <;> rfl
  ·split
   ·rw [intAt_list s c S L pre hS h]
    cases intL c L <;> rfl
   ·split
    ·have hs:=strFrom_list s S hS (L.length+1) (s.size+1 - (pre.length+1)) L (pre ++ [c]) [] (by simpa using h) (by
      have:(pre ++ [c]).length+L.length=pre.length+(c::L).length:=by simp;omega
      rw [this];exact hd) (by omega) (by simp)
     simp only [List.length_append,List.length_cons,List.length_nil,Nat.zero_add] at hs
     unfold strAt
     rw [hs]
     cases strL (L.length+1) L [] with
     | none=>rfl
     | some y=>simp;omega
    ·unfold opTok
     rw [opFrom_list s S (c::L) pre hS h 21 0]
     cases opL (c::L) 21 0 <;> rfl
end Go.Proofs.YtpcjcgkpjapbpaaGreatDoor
namespace Go.Proofs.YtpcjcgkpjapbpaaGreatDoor
open Go.RowKit

def lineEnd (S:List UInt8):Prop:=S = [] ∨ ∃ R,S=10::R
def noEnd (L:List UInt8):Prop:=∀ c∈L,c≠10

theorem lineEnd.halts {S:List UInt8} (h:lineEnd S):halts S:=by
 rcases h with rfl | ⟨R,rfl⟩
 ·intro c hc;simp at hc
 ·intro c hc;simp at hc;exact .inl hc.symm

theorem dead_end {s:ByteArray}{S pre:List UInt8} (hS:lineEnd S) (h:s.data.toList=pre++S):dead s pre.length:=by
 intro f acc
 cases f with
 | zero=>rfl
 | succ f =>
  unfold strFrom
  rcases hS with rfl | ⟨R,rfl⟩
  ·rw [dif_neg (no_get (by simpa using h))]
  ·obtain ⟨hlt,e⟩:=get_at (q:=s) (pre:=pre) (rest:=R) (x:=10) h
   rw [dif_pos hlt,e]
   rfl

def blanksL (L:List UInt8):Nat:=(L.takeWhile fun c=>blankB (c.toNat:Int)).length
def skipL (L:List UInt8):Nat:=match L.drop (blanksL L) with
 | []=>blanksL L
 | c::_=>if (c.toNat:Int) == 35 then L.length else blanksL L

theorem blanksL_le (L:List UInt8):blanksL L≤L.length:=takeWhile_len _ _
theorem skipL_le (L:List UInt8):skipL L≤L.length:=by
 unfold skipL
 have:=blanksL_le L
 split
 ·exact this
 ·split
  ·exact Nat.le_refl _
  ·exact this

theorem lineB_ne {c:UInt8} (h:c≠10):lineB (c.toNat:Int)=true:=by
 have:c.toNat≠10:=fun e=>h (UInt8.toNat_inj.mp e)
 simp [lineB]
 omega
theorem takeWhile_line:∀ L:List UInt8,noEnd L→(L.takeWhile fun c=>lineB (c.toNat:Int))=L
 | [],_=>rfl
 | c::L,h=>by
  have:=takeWhile_line L (fun x hx=>h x (by simp [hx]))
  simp [List.takeWhile,lineB_ne (h c (by simp)),this]

theorem blanksTo_list (s:ByteArray) (S L pre:List UInt8) (hS:lineEnd S) (h:s.data.toList=pre++(L++S)):blanksTo s pre.length=pre.length+blanksL L:=
 passTo_list blankB s S (fun c hc=>by
  rcases hS with rfl | ⟨R,rfl⟩
  ·simp at hc
  ·simp at hc;subst hc;rfl) L pre h

theorem skipTo_list (s:ByteArray) (S L pre:List UInt8) (hS:lineEnd S) (hL:noEnd L) (h:s.data.toList=pre++(L++S)):skipTo s pre.length=pre.length+skipL L:=by
 have hb:=blanksTo_list s S L pre hS h
 have hle:=blanksL_le L
 unfold skipTo skipL
 rw [hb]
 have hsp:L.take (blanksL L)++L.drop (blanksL L)=L:=List.take_append_drop _ L
 have hl:(pre++L.take (blanksL L)).length=pre.length+blanksL L:=by simp;omega
 have h':s.data.toList=(pre++L.take (blanksL L))++(L.drop (blanksL L)++S):=by
  rw [h]
  simp only [List.append_assoc,←List.append_assoc (L.take (blanksL L)),hsp]
 rw [←hl]
 cases hd:L.drop (blanksL L) with
 | nil =>
  rw [hd] at h'
  simp only
  unfold commentTo
  rcases hS with rfl | ⟨R,rfl⟩
  ·rw [dif_neg (no_get (by simpa using h'))]
   exact hl
  ·obtain ⟨hlt,e⟩:=get_at (q:=s) (pre:=pre++L.take (blanksL L)) (rest:=R) (x:=10) (by simpa using h')
   rw [dif_pos hlt,e]
   exact hl
 | cons c L' =>
  rw [hd] at h'
  simp only
  obtain ⟨hlt,e⟩:=get_at (q:=s) (pre:=pre++L.take (blanksL L)) (rest:=L'++S) (x:=c) (by simpa using h')
  unfold commentTo
  rw [dif_pos hlt,e]
  split
  ·have hp:=passTo_list lineB s S (fun c hc=>by
    rcases hS with rfl | ⟨R,rfl⟩
    ·simp at hc
    ·simp at hc;subst hc;rfl) (c::L') (pre++L.take (blanksL L)) h'
   rw [takeWhile_line _ (fun x hx=>hL x (by rw [←hsp,hd];simp at hx ⊢;exact .inr hx))] at hp
   rw [hp]
   have:=congrArg List.length hd
   simp at this ⊢
   omega
  ·exact hl

theorem endsB_list (s:ByteArray) (S L pre:List UInt8) (hS:lineEnd S) (hL:noEnd L) (h:s.data.toList=pre++(L++S)) (m:Nat) (hm:m≤L.length):endsB s (pre.length+m)=decide (m=L.length):=by
 have hsp:L.take m++L.drop m=L:=List.take_append_drop _ L
 have hl:(pre++L.take m).length=pre.length+m:=by simp;omega
 have h':s.data.toList=(pre++L.take m)++(L.drop m++S):=by
  rw [h]
  simp only [List.append_assoc,←List.append_assoc (L.take m),hsp]
 rw [←hl]
 unfold endsB
 cases hd:L.drop m with
 | nil =>
  rw [hd] at h'
  have hml:m=L.length:=by have:=congrArg List.length hd;simp at this;omega
  rw [decide_eq_true hml]
  rcases hS with rfl | ⟨R,rfl⟩
  ·rw [dif_neg (no_get (by simpa using h'))]
  ·obtain ⟨hlt,e⟩:=get_at (q:=s) (pre:=pre++L.take m) (rest:=R) (x:=10) (by simpa using h')
   rw [dif_pos hlt,e]
   rfl
 | cons c L' =>
  rw [hd] at h'
  have hml:¬ m=L.length:=by have:=congrArg List.length hd;simp at this;omega
  rw [decide_eq_false hml]
  obtain ⟨hlt,e⟩:=get_at (q:=s) (pre:=pre++L.take m) (rest:=L'++S) (x:=c) (by simpa using h')
  rw [dif_pos hlt,e]
  have hc:=hL c (by rw [←hsp,hd];simp)
  have:c.toNat≠10:=fun e=>hc (UInt8.toNat_inj.mp e)
  simp
  omega

theorem nameL_bd {c:UInt8}{L:List UInt8}{x:Bool × ByteArray × Nat} (h:nameL c L=some x):0<x.2.2∧x.2.2≤L.length+1:=by
 have:=takeWhile_len (fun c=>nameB (c.toNat:Int)) L
 unfold nameL at h
 simp only at h
 split at h
 ·simp at h;subst h;simp;omega
 ·split at h
  ·cases h
  ·split at h
   ·cases h
   ·simp at h;subst h;simp;omega
theorem intL_bd {c:UInt8}{L:List UInt8}{x:ByteArray × Nat} (hc:digitB (c.toNat:Int)=true) (h:intL c L=some x):0<x.2∧x.2≤L.length+1:=by
 have h1:=takeWhile_len (fun c=>digitB (c.toNat:Int)) (c::L)
 have h2:0<((c::L).takeWhile fun c=>digitB (c.toNat:Int)).length:=by simp [List.takeWhile,hc]
 unfold intL at h
 simp only at h
 split at h
 ·cases h
 ·split at h
  ·simp at h;subst h;simp at h1 h2 ⊢;omega
  ·cases h
theorem strL_bd:∀ (n:Nat) (L:List UInt8) (acc:List Int) (x:List Int × Nat),strL n L acc=some x→0<x.2∧x.2≤L.length
 | 0,_,_,_,h=>by simp [strL] at h
 | n+1,[],_,_,h=>by simp [strL] at h
 | n+1,c::L,acc,x,h=>by
  unfold strL at h
  split at h
  ·simp at h;subst h;simp
  ·split at h
   ·cases h
   ·split at h
    ·cases h
    ·split at h
     ·cases he:escL L with
      | none=>rw [he] at h;cases h
      | some y =>
       obtain ⟨v,k⟩:=y
       rw [he] at h
       have hk:=escL_bd he
       simp only [Option.map_eq_some_iff] at h
       obtain ⟨z,hz,rfl⟩:=h
       have:=strL_bd n (L.drop k) _ z hz
       simp at this ⊢
       omega
     ·simp only [Option.map_eq_some_iff] at h
      obtain ⟨z,hz,rfl⟩:=h
      have:=strL_bd n L _ z hz
      simp
      omega
theorem opAt_pos (k:Nat) (h:k<21):0<(opAt k).size:=by
 iterate 21 (rcases k with _ | k;· decide)
 omega
theorem opL_bd (L:List UInt8):∀ (n k:Nat) (x:ByteArray × Nat),k+n=21→opL L n k=some x→0<x.2∧x.2≤L.length
 | 0,_,_,_,h=>by simp [opL] at h
 | n+1,k,x,hk,h=>by
  unfold opL at h
  split at h
  ·rename_i hp
   simp at h
   subst h
   rw [List.isPrefixOf_iff_prefix] at hp
   have:=hp.length_le
   simp at this
   exact ⟨opAt_pos k (by omega),this⟩
  ·exact opL_bd L n (k+1) x (by omega) h
theorem tokL_bd {L:List UInt8}{k t:ByteArray}{m:Nat} (h:tokL L=some (k,t,m)):0<m∧m≤L.length:=by
 cases L with
 | nil=>simp [tokL] at h
 | cons c L =>
  have hr:tokL (c::L)=if smallB (c.toNat:Int) || capitalB (c.toNat:Int) then (nameL c L).map fun x=>(if x.1 then kWord else kName,x.2.1,x.2.2)
   else if digitB (c.toNat:Int) then (intL c L).map fun x=>(kInt,x.1,x.2)
   else if (c.toNat:Int) == 34 then (strL (L.length+1) L []).map fun x=>(kStr,strOfNums x.1,x.2+1)
   else (opL (c::L) 21 0).map fun x=>(kOp,x.1,x.2):=rfl
  rw [hr] at h
  split at h
  ·simp only [Option.map_eq_some_iff] at h
   obtain ⟨z,hz,he⟩:=h
   have:=nameL_bd hz
   simp at he ⊢
   omega
  ·split at h
   ·rename_i hd
    simp only [Option.map_eq_some_iff] at h
    obtain ⟨z,hz,he⟩:=h
    have:=intL_bd hd hz
    simp at he ⊢
    omega
   ·split at h
    ·simp only [Option.map_eq_some_iff] at h
     obtain ⟨z,hz,he⟩:=h
     have:=strL_bd _ _ _ z hz
     simp at he ⊢
     omega
    ·simp only [Option.map_eq_some_iff] at h
     obtain ⟨z,hz,he⟩:=h
     have:=opL_bd _ 21 0 z rfl hz
     simp at he this ⊢
     omega

def restL:Nat→List UInt8→Nat→Except Nat (List (ByteArray × ByteArray × Nat))
 | 0,_,o=>.error o
 | f+1,L,o =>
  if skipL L=L.length then .ok []
  else match tokL (L.drop (skipL L)) with
   | none=>.error (o+skipL L)
   | some (k,t,m)=>match restL f (L.drop (skipL L+m)) (o+(skipL L+m)) with
    | .ok l=>.ok ((k,t,o+skipL L)::l)
    | .error e=>.error e

def cellsOf (l:List (ByteArray × ByteArray × Nat)):List Value:=l.flatMap fun x=>tokCells x.1 x.2.1 x.2.2

theorem drop_noEnd {L:List UInt8} (h:noEnd L) (m:Nat):noEnd (L.drop m):=fun c hc=>h c (List.mem_of_mem_drop hc)

theorem restToks_list (s:ByteArray) (S:List UInt8) (hS:lineEnd S):∀ (f:Nat) (L pre:List UInt8) (tk:List Value) (n:Nat),L.length<f→noEnd L→s.data.toList=pre++(L++S) →
  restToks s (s.size+1 - pre.length) pre.length tk n=match restL f L pre.length with
   | .ok l=>.ok (pre.length+L.length,tk++cellsOf l,n+l.length)
   | .error e=>.error e
 | 0,_,_,_,_,h,_,_=>absurd h (Nat.not_lt_zero _)
 | f+1,L,pre,tk,n,hf,hL,h=>by
  have hz:=data_size h
  simp at hz
  have hsk:=skipTo_list s S L pre hS hL h
  have hen:=endsB_list s S L pre hS hL h (skipL L) (skipL_le L)
  have hle:=skipL_le L
  unfold restL
  by_cases hc:skipL L=L.length
  ·rw [if_pos hc]
   rw [decide_eq_true hc] at hen
   rw [restToks_stop (by omega) (by rw [hsk];exact hen),hsk,hc]
   simp [cellsOf]
  ·rw [if_neg hc]
   rw [decide_eq_false hc] at hen
   have hsp:L.take (skipL L)++L.drop (skipL L)=L:=List.take_append_drop _ L
   have hl:(pre++L.take (skipL L)).length=pre.length+skipL L:=by simp;omega
   have h':s.data.toList=(pre++L.take (skipL L))++(L.drop (skipL L)++S):=by
    rw [h]
    simp only [List.append_assoc,←List.append_assoc (L.take (skipL L)),hsp]
   have hd:dead s ((pre++L.take (skipL L)).length+(L.drop (skipL L)).length):=by
    have:=dead_end (s:=s) (S:=S) (pre:=pre++L) hS (by simpa using h)
    have e:(pre++L.take (skipL L)).length+(L.drop (skipL L)).length=(pre++L).length:=by simp;omega
    rw [e];exact this
   have ht:=tokAt_list s S (L.drop (skipL L)) (pre++L.take (skipL L)) hS.halts h' hd (by intro e;have:=congrArg List.length e;simp at this;omega)
   rw [hl,←hsk] at ht
   cases hk:tokL (L.drop (skipL L)) with
   | none =>
    rw [hk] at ht
    rw [restToks_none (by omega) (by rw [hsk];exact hen) ht,hsk]
   | some x =>
    obtain ⟨k,t,m⟩:=x
    rw [hk] at ht
    simp only [Option.map_some] at ht
    have hm:=tokL_bd hk
    simp at hm
    rw [restToks_go (by omega) (by rw [hsk];exact hen) ht]
    have hsp2:L.take (skipL L+m)++L.drop (skipL L+m)=L:=List.take_append_drop _ L
    have hl2:(pre++L.take (skipL L+m)).length=pre.length+(skipL L+m):=by simp;omega
    have ih:=restToks_list s S hS f (L.drop (skipL L+m)) (pre++L.take (skipL L+m)) (tk++tokCells k t (skipTo s pre.length)) (n+1) (by simp;omega) (drop_noEnd hL _) (by
     rw [h]
     simp only [List.append_assoc,←List.append_assoc (L.take (skipL L+m)),hsp2])
    rw [hl2] at ih
    rw [hsk] at ih ⊢
    rw [show pre.length+skipL L+m=pre.length+(skipL L+m) by omega,ih]
    simp only
    cases restL f (L.drop (skipL L+m)) (pre.length+(skipL L+m)) with
    | error e=>rfl
    | ok l =>
     simp [cellsOf]
     omega
end Go.Proofs.YtpcjcgkpjapbpaaGreatDoor
namespace Go.Proofs.YtpcjcgkpjapbpaaGreatDoor
open Go.RowKit

theorem lineStep_list (s:ByteArray) (S L pre:List UInt8) (hS:lineEnd S) (hL:noEnd L) (h:s.data.toList=pre++(L++S)) (st:List Int) (n:Nat) (tk:List Value) :
  lineStep s ⟨pre.length,st,n,tk⟩ =
   if skipL L=L.length then .ok ⟨afterLine s (pre.length+L.length),st,n,tk⟩
   else match settleP st (blanksL L:Nat) (pre.length+skipL L) n tk with
    | none=>.error (pre.length+skipL L)
    | some (st',n',tk')=>match restL (L.length+1) L pre.length with
     | .error e=>.error e
     | .ok l=>.ok ⟨afterLine s (pre.length+L.length),st',n'+l.length+1,tk'++cellsOf l++tokCells kNewline ⟨#[]⟩ (pre.length+L.length)⟩:=by
 have hz:=data_size h
 simp at hz
 have hsk:=skipTo_list s S L pre hS hL h
 have hen:=endsB_list s S L pre hS hL h (skipL L) (skipL_le L)
 have hle:=skipL_le L
 have hbl:=blanksTo_list s S L pre hS h
 by_cases hc:skipL L=L.length
 ·rw [if_pos hc]
  rw [decide_eq_true hc] at hen
  rw [lineStep_blank (by simp only;rw [hsk];exact hen)]
  simp only [hsk,hc]
 ·rw [if_neg hc]
  rw [decide_eq_false hc] at hen
  have hd:((pre.length+blanksL L:Nat):Int) - (pre.length:Int)=(blanksL L:Nat):=by omega
  have hr:=fun tk' n'=>restToks_list s S hS (L.length+1) L pre tk' n' (by omega) hL h
  have hsp:L.take (skipL L)++L.drop (skipL L)=L:=List.take_append_drop _ L
  have hl:(pre++L.take (skipL L)).length=pre.length+skipL L:=by simp;omega
  have h':s.data.toList=(pre++L.take (skipL L))++(L.drop (skipL L)++S):=by
   rw [h]
   simp only [List.append_assoc,←List.append_assoc (L.take (skipL L)),hsp]
  have hdd:dead s ((pre++L.take (skipL L)).length+(L.drop (skipL L)).length):=by
   have:=dead_end (s:=s) (S:=S) (pre:=pre++L) hS (by simpa using h)
   have e:(pre++L.take (skipL L)).length+(L.drop (skipL L)).length=(pre++L).length:=by simp;omega
   rw [e];exact this
  have ht:=tokAt_list s S (L.drop (skipL L)) (pre++L.take (skipL L)) hS.halts h' hdd (by intro e;have:=congrArg List.length e;simp at this;omega)
  rw [hl,←hsk] at ht
  cases hst:settleP st (blanksL L:Nat) (pre.length+skipL L) n tk with
  | none =>
   rw [lineStep_settle (by simp only;rw [hsk];exact hen) (by simp only;rw [hbl,hd,hsk];exact hst)]
   simp only [hsk]
  | some x =>
   obtain ⟨st',n',tk'⟩:=x
   have hg:=hr tk' n'
   cases hk:tokL (L.drop (skipL L)) with
   | none =>
    rw [hk] at ht
    rw [lineStep_tok (by simp only;rw [hsk];exact hen) (by simp only;rw [hbl,hd,hsk];exact hst) ht]
    rw [restToks_none (by omega) (by rw [hsk];exact hen) ht] at hg
    simp only
    cases hrl:restL (L.length+1) L pre.length with
    | error e =>
     rw [hrl] at hg
     simp only [Except.error.injEq] at hg
     simp only [hg]
    | ok l=>rw [hrl] at hg;cases hg
   | some y =>
    obtain ⟨k,t,m⟩:=y
    rw [hk] at ht
    simp only [Option.map_some] at ht
    rw [restToks_go (by omega) (by rw [hsk];exact hen) ht] at hg
    simp only
    cases hrl:restL (L.length+1) L pre.length with
    | error e =>
     rw [hrl] at hg
     rw [lineStep_rest (by simp only;rw [hsk];exact hen) (by simp only;rw [hbl,hd,hsk];exact hst) ht hg]
    | ok l =>
     rw [hrl] at hg
     rw [lineStep_ok (by simp only;rw [hsk];exact hen) (by simp only;rw [hbl,hd,hsk];exact hst) ht hg]

def Alike (a b:List Value):Prop:=∃ l m:List (ByteArray × ByteArray × Nat),a=cellsOf l∧b=cellsOf m∧l.map (fun x=>(x.1,x.2.1))=m.map (fun x=>(x.1,x.2.1))
theorem Alike.nil:Alike [] []:=⟨[],[],rfl,rfl,rfl⟩
theorem Alike.tok {a b:List Value} (h:Alike a b) (k t:ByteArray) (i j:Nat):Alike (a++tokCells k t i) (b++tokCells k t j):=by
 obtain ⟨l,m,rfl,rfl,e⟩:=h
 exact ⟨l ++ [(k,t,i)],m ++ [(k,t,j)],by simp [cellsOf],by simp [cellsOf],by simp [e]⟩

theorem Alike.cells:∀ (l l':List (ByteArray × ByteArray × Nat)),l.map (fun x=>(x.1,x.2.1))=l'.map (fun x=>(x.1,x.2.1)) → ∀ {a b:List Value},Alike a b→Alike (a++cellsOf l) (b++cellsOf l')
 | [],[],_,a,b,h=>by simpa [cellsOf] using h
 | [],y::l',he,_,_,_=>by simp at he
 | x::l,[],he,_,_,_=>by simp at he
 | (k,t,i)::l,(k',t',j)::l',he,a,b,h=>by
  simp only [List.map_cons,List.cons.injEq,Prod.mk.injEq] at he
  obtain ⟨⟨rfl,rfl⟩,he⟩:=he
  have:=Alike.cells l l' he (h.tok k t i j)
  simpa [cellsOf] using this

end Go.Proofs.YtpcjcgkpjapbpaaGreatDoor
namespace Go.Proofs.YtpcjcgkpjapbpaaGreatDoor
open Go.RowKit

theorem after_list (s:ByteArray) (S p:List UInt8) (hS:lineEnd S) (h:s.data.toList=p++S):afterLine s p.length=(p++S.take 1).length:=by
 have hz:=data_size h
 unfold afterLine
 rcases hS with rfl | ⟨R,rfl⟩
 ·simp at hz
  rw [if_neg (by omega)]
  simp
 ·simp at hz
  rw [if_pos (by omega)]
  simp

theorem run_end (s:ByteArray) (p:Nat) (st:List Int) (n:Nat) (a:List Value) (h:¬ p<s.size):runLines s (s.size - p) ⟨p,st,n,a⟩ = .ok ⟨p,st,n,a⟩:=runLines_end (s:=s) (σ:=⟨p,st,n,a⟩) h

theorem split_line:∀ R:List UInt8,∃ L S,R=L++S∧noEnd L∧lineEnd S
 | []=>⟨[],[],rfl,fun c hc=>by simp at hc,.inl rfl⟩
 | c::R=>by
  by_cases hc:c=10
  ·exact ⟨[],c::R,rfl,fun c hc=>by simp at hc,.inr ⟨R,by rw [hc]⟩⟩
  ·obtain ⟨L,S,rfl,hL,hS⟩:=split_line R
   exact ⟨c::L,S,rfl,fun x hx=>by
    simp at hx
    rcases hx with rfl | hx
    ·exact hc
    ·exact hL x hx,hS⟩

end Go.Proofs.YtpcjcgkpjapbpaaGreatDoor
namespace Go.Proofs.YtpcjcgkpjapbpaaGreatDoor
open Go.RowKit

def kDedent:ByteArray:=⟨#[100,101,100,101,110,116]⟩
def indB (k:ByteArray):Bool:=k.toList == [105,110,100,101,110,116]
def dedB (k:ByteArray):Bool:=k.toList == [100,101,100,101,110,116]
def depthFrom:Nat→List (ByteArray × ByteArray × Nat)→Option Nat
 | d,[]=>some d
 | d,x::l=>if indB x.1 then depthFrom (d+1) l else if dedB x.1 then (if d=0 then none else depthFrom (d - 1) l) else depthFrom d l

theorem depthFrom_append:∀ (l m:List (ByteArray × ByteArray × Nat)) (d e:Nat),depthFrom d l=some e→depthFrom d (l++m)=depthFrom e m
 | [],m,d,e,h=>by simp [depthFrom] at h;subst h;rfl
 | x::l,m,d,e,h=>by
  simp only [List.cons_append,depthFrom] at h ⊢
  split
  ·rename_i h1
   rw [if_pos h1] at h
   exact depthFrom_append l m _ e h
  ·rename_i h1
   rw [if_neg h1] at h
   split
   ·rename_i h2
    rw [if_pos h2] at h
    split
    ·rename_i h3;rw [if_pos h3] at h;cases h
    ·rename_i h3;rw [if_neg h3] at h;exact depthFrom_append l m _ e h
   ·rename_i h2
    rw [if_neg h2] at h
    exact depthFrom_append l m _ e h
theorem depthFrom_plain:∀ (l:List (ByteArray × ByteArray × Nat)) (d:Nat),(∀ x∈l,indB x.1=false∧dedB x.1=false)→depthFrom d l=some d
 | [],d,_=>rfl
 | x::l,d,h=>by
  have h1:=h x (by simp)
  simp only [depthFrom,h1.1,h1.2,Bool.false_eq_true,if_false]
  exact depthFrom_plain l d (fun y hy=>h y (by simp [hy]))

structure Fine (l:List (ByteArray × ByteArray × Nat)) (d e:Nat):Prop where
 mono:l.Pairwise fun x y=>x.2.2≤y.2.2
 le:∀ x∈l,x.2.2≤e
 short:∀ x∈l,x.2.1.size≤e
 deep:depthFrom 0 l=some d

theorem Fine.append {l m:List (ByteArray × ByteArray × Nat)}{d e d' e':Nat} (h:Fine l d e) (h1:m.Pairwise fun x y=>x.2.2≤y.2.2) (h2:∀ x∈m,e≤x.2.2∧x.2.2≤e') (he:e≤e') (h4:∀ x∈m,x.2.1.size≤e') (h3:depthFrom d m=some d'):Fine (l++m) d' e' where
 mono:=List.pairwise_append.mpr ⟨h.mono,h1,fun x hx y hy=>Nat.le_trans (h.le x hx) (h2 y hy).1⟩
 le:=fun x hx=>by
  simp at hx
  rcases hx with hx | hx
  ·exact Nat.le_trans (h.le x hx) he
  ·exact (h2 x hx).2
 short:=fun x hx=>by
  simp at hx
  rcases hx with hx | hx
  ·exact Nat.le_trans (h.short x hx) he
  ·exact h4 x hx
 deep:=(depthFrom_append l m 0 d h.deep).trans h3
theorem Fine.up {l:List (ByteArray × ByteArray × Nat)}{d e e':Nat} (h:Fine l d e) (he:e≤e'):Fine l d e':=⟨h.mono,fun x hx=>Nat.le_trans (h.le x hx) he,fun x hx=>Nat.le_trans (h.short x hx) he,h.deep⟩

theorem cells_append (l m:List (ByteArray × ByteArray × Nat)):cellsOf (l++m)=cellsOf l++cellsOf m:=by simp [cellsOf]

def dedentsL (i k:Nat):List (ByteArray × ByteArray × Nat):=List.replicate k (kDedent,⟨#[]⟩,i)
theorem dedents_cells (i:Nat):∀ k,dedents i k=cellsOf (dedentsL i k)
 | 0=>rfl
 | k+1=>by
  simp only [dedents,dedents_cells i k,dedentsL,List.replicate_succ',cells_append]
  simp [cellsOf,kDedent]
theorem ded_ded:indB kDedent=false∧dedB kDedent=true:=⟨by kernel_rfl,by kernel_rfl⟩
theorem ind_ind:indB kIndent=true:=by kernel_rfl
theorem plain_newline:indB kNewline=false∧dedB kNewline=false:=⟨by kernel_rfl,by kernel_rfl⟩
theorem plain_end:indB kEnd=false∧dedB kEnd=false:=⟨by kernel_rfl,by kernel_rfl⟩
theorem plain_kinds (k:ByteArray) (h:k=kWord∨k=kName∨k=kInt∨k=kStr∨k=kOp):indB k=false∧dedB k=false:=by
 rcases h with rfl | rfl | rfl | rfl | rfl <;> exact ⟨by kernel_rfl,by kernel_rfl⟩
theorem dedents_deep (i:Nat):∀ k d,k≤d→depthFrom d (dedentsL i k)=some (d - k)
 | 0,d,_=>rfl
 | k+1,d,h=>by
  have ih:=dedents_deep i k (d - 1) (by omega)
  simp only [dedentsL,List.replicate_succ,depthFrom,ded_ded.1,ded_ded.2,Bool.false_eq_true,if_false,if_true] at ih ⊢
  rw [if_neg (by omega),ih]
  congr 1
  omega

theorem tokL_kind {L:List UInt8}{k t:ByteArray}{m:Nat} (h:tokL L=some (k,t,m)):k=kWord∨k=kName∨k=kInt∨k=kStr∨k=kOp:=by
 cases L with
 | nil=>simp [tokL] at h
 | cons c L =>
  have hr:tokL (c::L)=if smallB (c.toNat:Int) || capitalB (c.toNat:Int) then (nameL c L).map fun x=>(if x.1 then kWord else kName,x.2.1,x.2.2)
   else if digitB (c.toNat:Int) then (intL c L).map fun x=>(kInt,x.1,x.2)
   else if (c.toNat:Int) == 34 then (strL (L.length+1) L []).map fun x=>(kStr,strOfNums x.1,x.2+1)
   else (opL (c::L) 21 0).map fun x=>(kOp,x.1,x.2):=rfl
  rw [hr] at h
  split at h
  ·simp only [Option.map_eq_some_iff] at h
   obtain ⟨z,hz,he⟩:=h
   simp only [Prod.mk.injEq] at he
   rw [←he.1]
   split
   ·exact .inl rfl
   ·exact .inr (.inl rfl)
  ·split at h
   ·simp only [Option.map_eq_some_iff,Prod.mk.injEq] at h
    obtain ⟨z,hz,he,_⟩:=h
    exact .inr (.inr (.inl he.symm))
   ·split at h
    ·simp only [Option.map_eq_some_iff,Prod.mk.injEq] at h
     obtain ⟨z,hz,he,_⟩:=h
     exact .inr (.inr (.inr (.inl he.symm)))
    ·simp only [Option.map_eq_some_iff,Prod.mk.injEq] at h
     obtain ⟨z,hz,he,_⟩:=h
     exact .inr (.inr (.inr (.inr he.symm)))

theorem nums_size (l:List Int):(strOfNums l).size=l.length:=by simp [strOfNums,ByteArray.size]
theorem take_size (l:List UInt8) (m:Nat):(⟨(l.take m).toArray⟩:ByteArray).size≤m:=by
 simp [ByteArray.size]
 omega
theorem strL_size:∀ (n:Nat) (L:List UInt8) (acc:List Int) (x:List Int × Nat),strL n L acc=some x→x.1.length≤acc.length+x.2
 | 0,_,_,_,h=>by simp [strL] at h
 | n+1,[],_,_,h=>by simp [strL] at h
 | n+1,c::L,acc,x,h=>by
  unfold strL at h
  split at h
  ·simp at h;subst h;simp
  ·split at h
   ·cases h
   ·split at h
    ·cases h
    ·split at h
     ·cases he:escL L with
      | none=>rw [he] at h;cases h
      | some y =>
       obtain ⟨v,k⟩:=y
       rw [he] at h
       simp only [Option.map_eq_some_iff] at h
       obtain ⟨z,hz,rfl⟩:=h
       have:=strL_size n (L.drop k) _ z hz
       simp at this ⊢
       omega
     ·simp only [Option.map_eq_some_iff] at h
      obtain ⟨z,hz,rfl⟩:=h
      have:=strL_size n L _ z hz
      simp at this ⊢
      omega
theorem opL_size (L:List UInt8):∀ (n k:Nat) (x:ByteArray × Nat),opL L n k=some x→x.1.size=x.2
 | 0,_,_,h=>by simp [opL] at h
 | n+1,k,x,h=>by
  unfold opL at h
  split at h
  ·simp at h;subst h;rfl
  ·exact opL_size L n (k+1) x h
theorem tokL_size {L:List UInt8}{k t:ByteArray}{m:Nat} (h:tokL L=some (k,t,m)):t.size≤m:=by
 cases L with
 | nil=>simp [tokL] at h
 | cons c L =>
  have hr:tokL (c::L)=if smallB (c.toNat:Int) || capitalB (c.toNat:Int) then (nameL c L).map fun x=>(if x.1 then kWord else kName,x.2.1,x.2.2)
   else if digitB (c.toNat:Int) then (intL c L).map fun x=>(kInt,x.1,x.2)
   else if (c.toNat:Int) == 34 then (strL (L.length+1) L []).map fun x=>(kStr,strOfNums x.1,x.2+1)
   else (opL (c::L) 21 0).map fun x=>(kOp,x.1,x.2):=rfl
  rw [hr] at h
  split at h
  ·simp only [Option.map_eq_some_iff,Prod.mk.injEq] at h
   obtain ⟨z,hz,_,rfl,rfl⟩:=h
   unfold nameL at hz
   simp only at hz
   split at hz
   ·simp at hz;subst hz;exact take_size _ _
   ·split at hz
    ·cases hz
    ·split at hz
     ·cases hz
     ·simp at hz;subst hz;exact take_size _ _
  ·split at h
   ·simp only [Option.map_eq_some_iff,Prod.mk.injEq] at h
    obtain ⟨z,hz,_,rfl,rfl⟩:=h
    unfold intL at hz
    simp only at hz
    split at hz
    ·cases hz
    ·split at hz
     ·simp at hz;subst hz;exact take_size _ _
     ·cases hz
   ·split at h
    ·simp only [Option.map_eq_some_iff,Prod.mk.injEq] at h
     obtain ⟨z,hz,_,rfl,rfl⟩:=h
     have:=strL_size _ _ _ z hz
     rw [nums_size]
     simp at this ⊢
     omega
    ·simp only [Option.map_eq_some_iff,Prod.mk.injEq] at h
     obtain ⟨z,hz,_,rfl,rfl⟩:=h
     have:=opL_size _ _ _ z hz
     omega

theorem restL_fine:∀ (f:Nat) (L:List UInt8) (o:Nat) (l:List (ByteArray × ByteArray × Nat)),restL f L o = .ok l→(l.Pairwise fun x y=>x.2.2≤y.2.2)∧(∀ x∈l,o+skipL L≤x.2.2∧x.2.2≤o+L.length)∧(∀ x∈l,indB x.1=false∧dedB x.1=false) ∧ ∀ x∈l,x.2.1.size≤o+L.length
 | 0,_,_,_,h=>by cases h
 | f+1,L,o,l,h=>by
  have hle:=skipL_le L
  unfold restL at h
  split at h
  ·simp only [Except.ok.injEq] at h
   subst h
   refine ⟨List.Pairwise.nil,fun x hx=>by simp at hx,fun x hx=>by simp at hx,fun x hx=>by simp at hx⟩
  ·cases hk:tokL (L.drop (skipL L)) with
   | none=>rw [hk] at h;cases h
   | some y =>
    obtain ⟨k,t,m⟩:=y
    rw [hk] at h
    have hm:=tokL_bd hk
    simp at hm
    simp only at h
    cases hr:restL f (L.drop (skipL L+m)) (o+(skipL L+m)) with
    | error e=>rw [hr] at h;cases h
    | ok l' =>
     rw [hr] at h
     simp only [Except.ok.injEq] at h
     subst h
     obtain ⟨i1,i2,i3,i4⟩:=restL_fine f _ _ l' hr
     refine ⟨List.pairwise_cons.mpr ⟨fun y hy => ?_,i1⟩,fun x hx => ?_,fun x hx => ?_,fun x hx => ?_⟩
     ·have:=(i2 y hy).1
      simp only
      omega
     ·simp at hx
      rcases hx with rfl | hx
      ·simp only;omega
      ·have:=i2 x hx
       simp at this
       omega
     ·simp at hx
      rcases hx with rfl | hx
      ·exact plain_kinds k (tokL_kind hk)
      ·exact i3 x hx
     ·simp at hx
      rcases hx with rfl | hx
      ·have:=tokL_size hk
       simp only
       omega
      ·have:=i4 x hx
       simp at this
       omega

theorem popTo_falls' (ind:Int):∀ st:List Int,falls st→falls (popTo ind st).2
 | [],_=>by simp [popTo,falls]
 | x::xs,h=>by
  unfold popTo
  split
  ·exact popTo_falls' ind xs (falls_tail h)
  ·exact h

theorem settle_fine {st st':List Int}{ind:Int}{i n n':Nat}{tk tk':List Value} (h:settleP st ind i n tk=some (st',n',tk')) (hl:st.getLast?=some 0) (hf:falls st) :
  falls st' ∧ ∃ m,tk'=tk++cellsOf m∧n'=n+m.length∧(∀ x∈m,x.2.2=i∧x.2.1.size=0)∧depthFrom (st.length - 1) m=some (st'.length - 1):=by
 have hi:=settleP_inv h hl
 unfold settleP at h
 cases st with
 | nil=>cases h
 | cons x xs =>
  simp only at h
  split at h
  ·rename_i hlt
   simp only [Option.some.injEq,Prod.mk.injEq] at h
   obtain ⟨rfl,rfl,rfl⟩:=h
   refine ⟨⟨hlt,hf⟩,[(kIndent,⟨#[]⟩,i)],by simp [cellsOf],rfl,fun x hx=>by simp at hx;rw [hx];exact ⟨rfl,rfl⟩,?_⟩
   simp only [depthFrom,ind_ind,if_true]
   simp
  ·split at h
   ·simp only [Option.some.injEq,Prod.mk.injEq] at h
    obtain ⟨rfl,rfl,rfl⟩:=h
    have hlen:=popTo_len ind (x::xs)
    have hne:(popTo ind (x::xs)).2 ≠ []:=by
     intro e
     rw [e] at hi
     simp at hi
    have hpos:0<(popTo ind (x::xs)).2.length:=List.length_pos_iff.mpr hne
    refine ⟨popTo_falls' ind _ hf,dedentsL i (popTo ind (x::xs)).1,by rw [dedents_cells],by simp [dedentsL],fun y hy=>by simp [dedentsL] at hy;rw [hy.2];exact ⟨rfl,rfl⟩,?_⟩
    rw [dedents_deep i _ _ (by omega)]
    congr 1
    omega
   ·cases h

structure FineSt (σ:LexSt):Prop where
 falls:falls σ.st
 ex:∃ l,σ.tk=cellsOf l∧σ.n=l.length∧Fine l (σ.st.length - 1) σ.at_

theorem line_fine (s:ByteArray) (S L pre:List UInt8) (hS:lineEnd S) (hL:noEnd L) (h:s.data.toList=pre++(L++S)) {st:List Int}{n:Nat}{tk:List Value} (hl:st.getLast?=some 0) (hF:FineSt ⟨pre.length,st,n,tk⟩) {σ:LexSt} (hs:lineStep s ⟨pre.length,st,n,tk⟩ = .ok σ):FineSt σ∧σ.at_=(pre++L++S.take 1).length:=by
 have e1:=after_list s S (pre++L) hS (by simpa using h)
 rw [@List.length_append _ pre] at e1
 have hle:=skipL_le L
 have hat:pre.length+L.length≤(pre++L++S.take 1).length:=by simp
 rw [lineStep_list s S L pre hS hL h] at hs
 obtain ⟨l,h1,h2,h3⟩:=hF.ex
 simp only at h1 h2 h3
 split at hs
 ·simp only [Except.ok.injEq] at hs
  subst hs
  exact ⟨⟨hF.falls,l,h1,h2,h3.up (by simp only;omega)⟩,e1⟩
 ·cases hst:settleP st (blanksL L:Nat) (pre.length+skipL L) n tk with
  | none=>rw [hst] at hs;cases hs
  | some x =>
   obtain ⟨st',n',tk'⟩:=x
   rw [hst] at hs
   simp only at hs
   obtain ⟨g1,m,rfl,rfl,g4,g5⟩:=settle_fine hst hl hF.falls
   cases hr:restL (L.length+1) L pre.length with
   | error e=>rw [hr] at hs;cases hs
   | ok r =>
    rw [hr] at hs
    simp only [Except.ok.injEq] at hs
    subst hs
    obtain ⟨i1,i2,i3,i4⟩:=restL_fine _ _ _ r hr
    refine ⟨⟨g1,l++m++r ++ [(kNewline,⟨#[]⟩,pre.length+L.length)],?_,?_,?_⟩,e1⟩
    ·simp only [h1,cells_append]
     simp [cellsOf]
    ·simp only [h2]
     simp
     omega
    ·have f1:Fine (l++m) (st'.length - 1) (pre.length+skipL L):=h3.append (m:=m) (List.pairwise_of_forall_mem_list fun x hx y hy=>by rw [(g4 x hx).1,(g4 y hy).1];exact Nat.le_refl _) (fun x hx=>by rw [(g4 x hx).1];omega) (by omega) (fun x hx=>by rw [(g4 x hx).2];omega) g5
     have f2:Fine (l++m++r) (st'.length - 1) (pre.length+L.length):=f1.append i1 (fun x hx=>i2 x hx) (by omega) i4 (depthFrom_plain r _ i3)
     have f3:=f2.append (m:=[(kNewline,⟨#[]⟩,pre.length+L.length)]) (e':=(pre++L++S.take 1).length) (by simp) (fun x hx=>by simp only [List.mem_singleton] at hx;subst hx;exact ⟨Nat.le_refl _,hat⟩) hat (fun x hx=>by simp only [List.mem_singleton] at hx;subst hx;exact Nat.zero_le _) (depthFrom_plain _ _ (fun x hx=>by simp only [List.mem_singleton] at hx;subst hx;exact plain_newline))
     rw [e1]
     exact f3

theorem run_fine (s:ByteArray):∀ (N:Nat) (R pre:List UInt8) (st:List Int) (n:Nat) (tk:List Value),R.length≤N→s.data.toList=pre++R→Inv s ⟨pre.length,st,n,tk⟩→FineSt ⟨pre.length,st,n,tk⟩ → ∀ σ,runLines s (s.size - pre.length) ⟨pre.length,st,n,tk⟩ = .ok σ→FineSt σ∧σ.st.getLast?=some 0∧σ.at_≤s.size
 | N,[],pre,st,n,tk,_,h,I,hF,σ,hr=>by
  have hz:=data_size h
  rw [run_end s _ _ _ _ (by simp at hz ⊢;omega)] at hr
  simp only [Except.ok.injEq] at hr
  subst hr
  exact ⟨hF,I.last,I.hat⟩
 | 0,c::R,_,_,_,_,hN,_,_,_,_,_=>by simp at hN
 | N+1,c::R,pre,st,n,tk,hN,h,I,hF,σ,hr=>by
  have hz:=data_size h
  simp at hz
  obtain ⟨L,S,e,hL,hS⟩:=split_line (c::R)
  have h1:s.data.toList=pre++(L++S):=by rw [h,e]
  have hlt:pre.length<s.size:=by omega
  cases hs:lineStep s ⟨pre.length,st,n,tk⟩ with
  | error x=>rw [runLines_err hlt hs] at hr;cases hr
  | ok τ =>
   rw [runLines_go I hlt hs] at hr
   have I1:=(lineStep_inv I hlt hs).1
   obtain ⟨hF1,hat⟩:=line_fine s S L pre hS hL h1 I.last hF hs
   have hlen:=congrArg List.length e
   simp at hlen
   obtain ⟨at1,st1,n1,tk1⟩:=τ
   simp only at hat
   subst hat
   refine run_fine s N (S.drop 1) _ st1 n1 tk1 ?_ ?_ I1 hF1 σ hr
   ·simp at hN ⊢
    cases S with
    | nil=>simp
    | cons d S=>simp at hlen ⊢;omega
   ·rw [h1]
    simp only [List.append_assoc,List.take_append_drop]

theorem falls_one:∀ st:List Int,falls st→st.head?=some 0→st.getLast?=some 0→st.length=1
 | [],_,h,_=>by simp at h
 | [x],_,_,_=>rfl
 | x::y::r,hf,h,hl=>by
  exfalso
  simp at h
  subst h
  have hg:(y::r)[(y::r).length - 1]?=some 0:=by
   rw [←List.getLast?_eq_getElem?]
   simpa using hl
  have:=falls_lt (y::r) 0 _ 0 hf hg
  omega

theorem lexP_fine {s:ByteArray}{n:Nat}{tk:List Value} (h:lexP s = .ok (n,tk)):∃ l,tk=cellsOf l∧n=l.length∧(l.Pairwise fun x y=>x.2.2≤y.2.2)∧depthFrom 0 l=some 0 ∧ ∀ x∈l,x.2.1.size≤s.size:=by
 unfold lexP at h
 cases hr:runLines s s.size ⟨0,[0],0,[]⟩ with
 | error e=>rw [hr] at h;cases h
 | ok σ =>
  rw [hr] at h
  simp only at h
  have hr':runLines s (s.size - ([]:List UInt8).length) ⟨([]:List UInt8).length,[0],0,[]⟩ = .ok σ:=by simpa using hr
  obtain ⟨hF,hl,hsz⟩:=run_fine s s.size s.data.toList [] [0] 0 [] (by simp) (by simp) (inv0 s) ⟨trivial,[],rfl,rfl,⟨List.Pairwise.nil,fun x hx=>by simp at hx,fun x hx=>by simp at hx,rfl⟩⟩ σ hr'
  cases hst:settleP σ.st 0 σ.at_ σ.n σ.tk with
  | none=>rw [hst] at h;cases h
  | some x =>
   obtain ⟨st',n',tk'⟩:=x
   rw [hst] at h
   simp only [Except.ok.injEq,Prod.mk.injEq] at h
   obtain ⟨g1,m,rfl,rfl,g4,g5⟩:=settle_fine hst hl hF.falls
   obtain ⟨l,h1,h2,h3⟩:=hF.ex
   have hi:=settleP_inv hst hl
   have hd:st'.head?=some 0:=by
    unfold settleP at hst
    cases hσ:σ.st with
    | nil=>rw [hσ] at hst;cases hst
    | cons x xs =>
     rw [hσ] at hst
     simp only at hst
     split at hst
     ·rename_i hlt
      exfalso
      have hgl:(x::xs)[(x::xs).length - 1]?=some 0:=by rw [←List.getLast?_eq_getElem?,←hσ];exact hl
      have hff:=hF.falls
      rw [hσ] at hff
      cases xs with
      | nil=>simp at hgl;omega
      | cons y r =>
       have:=falls_lt (y::r) x ((y::r).length - 1) 0 hff (by simpa using hgl)
       omega
     ·split at hst
      ·rename_i hh
       simp only [Option.some.injEq,Prod.mk.injEq] at hst
       rw [←hst.1]
       exact hh
      ·cases hst
   have hone:=falls_one st' g1 hd hi.1
   rw [hone] at g5
   have f1:Fine (l++m) 0 σ.at_:=h3.append (m:=m) (List.pairwise_of_forall_mem_list fun x hx y hy=>by rw [(g4 x hx).1,(g4 y hy).1];exact Nat.le_refl _) (fun x hx=>by rw [(g4 x hx).1];omega) (Nat.le_refl _) (fun x hx=>by rw [(g4 x hx).2];omega) g5
   have f2:=f1.append (m:=[(kEnd,⟨#[]⟩,σ.at_)]) (e':=σ.at_) (by simp) (fun x hx=>by simp only [List.mem_singleton] at hx;subst hx;exact ⟨Nat.le_refl _,Nat.le_refl _⟩) (Nat.le_refl _) (fun x hx=>by simp only [List.mem_singleton] at hx;subst hx;exact Nat.zero_le _) (depthFrom_plain _ _ (fun x hx=>by simp only [List.mem_singleton] at hx;subst hx;exact plain_end))
   refine ⟨l++m ++ [(kEnd,⟨#[]⟩,σ.at_)],?_,?_,f2.mono,f2.deep,fun x hx=>Nat.le_trans (f2.short x hx) hsz⟩
   ·rw [←h.2,h1]
    simp [cellsOf]
   ·rw [←h.1,h2]
    simp
    omega
end Go.Proofs.YtpcjcgkpjapbpaaGreatDoor
namespace Go.Proofs.YtpcjcgkpjapbpaaGreatDoor
open Go.RowKit

def Told (s:ByteArray) (B:Nat) (v5 v6:Value) (w:World):Prop:=
 match lexP s with
 | .ok (n,tk) => ∃ g cap,v5 = .slice (some ⟨g,0,none⟩) n cap∧v6 = .nilIface∧B≤g∧g<w.heap.size∧(∀ k v,tk[k]?=some v→w.cell? ⟨g,k,none⟩=some v)
 | .error _=>v5 = .slice none 0 0 ∧ ∃ b,v6 = .iface 58 (.pointer (some ⟨b,0,none⟩))

theorem Told.below {s:ByteArray}{B:Nat}{v5 v6:Value}{w w':World} (h:Told s B v5 v6 w) (hb:Below w.heap.size w w'):Told s B v5 v6 w':=by
 unfold Told at h ⊢
 cases hl:lexP s with
 | error e=>rw [hl] at h;exact h
 | ok x =>
  obtain ⟨n,tk⟩:=x
  rw [hl] at h
  obtain ⟨g,cap,h1,h2,h3,h4,h5⟩:=h
  exact ⟨g,cap,h1,h2,h3,Nat.lt_of_lt_of_le h4 hb.size,fun k v hk=>(hb.cell (p:=⟨g,k,none⟩) h4).trans (h5 k v hk)⟩

theorem lexP_pos {s:ByteArray}{n:Nat}{tk:List Value} (h:lexP s = .ok (n,tk)):0<n:=by
 obtain ⟨l,_,rfl,_,hd,_⟩:=lexP_fine h
 cases l with
 | nil =>
  exfalso
  unfold lexP at h
  split at h
  ·cases h
  ·split at h
   ·cases h
   ·simp at h
 | cons _ _=>simp
theorem run_inv (s:ByteArray):∀ {f:Nat}{σ τ:LexSt},Inv s σ→runLines s f σ = .ok τ→Inv s τ
 | 0,σ,τ,I,h=>by simp [runLines] at h;subst h;exact I
 | f+1,σ,τ,I,h=>by
  unfold runLines at h
  split at h
  ·rename_i hlt
   cases hs:lineStep s σ with
   | error e=>rw [hs] at h;cases h
   | ok σ' =>
    rw [hs] at h
    exact run_inv s (lineStep_inv I hlt hs).1 h
  ·simp at h;subst h;exact I
theorem lexP_bd {s:ByteArray}{n:Nat}{tk:List Value} (h:lexP s = .ok (n,tk)):n≤4*s.size+4:=by
 unfold lexP at h
 cases hr:runLines s s.size ⟨0,[0],0,[]⟩ with
 | error e=>rw [hr] at h;cases h
 | ok σ =>
  rw [hr] at h
  simp only at h
  have hI:=run_inv s (f:=s.size) (inv0 s) hr
  cases hst:settleP σ.st 0 σ.at_ σ.n σ.tk with
  | none=>rw [hst] at h;cases h
  | some x =>
   obtain ⟨st',n',tk'⟩:=x
   rw [hst] at h
   simp only [Except.ok.injEq,Prod.mk.injEq] at h
   have h1:=settleP_inv hst hI.last
   have h2:=hI.cnt
   have h3:=hI.hat
   omega

theorem cells_get:∀ (l:List (ByteArray × ByteArray × Nat)) (j:Nat) (x:ByteArray × ByteArray × Nat),l[j]?=some x→(cellsOf l)[j*3]?=some (.string x.1)∧(cellsOf l)[j*3+1]?=some (.string x.2.1)∧(cellsOf l)[j*3+2]?=some (.int .i64 x.2.2)
 | [],j,x,h=>by simp at h
 | y::l,0,x,h=>by
  simp at h
  subst h
  exact ⟨rfl,rfl,rfl⟩
 | y::l,j+1,x,h=>by
  have ih:=cells_get l j x (by simpa using h)
  have e:cellsOf (y::l)=tokCells y.1 y.2.1 y.2.2++cellsOf l:=rfl
  have hl:(tokCells y.1 y.2.1 y.2.2).length=3:=rfl
  rw [e,List.getElem?_append_right (by omega),List.getElem?_append_right (by omega),List.getElem?_append_right (by omega),hl]
  rw [show (j+1)*3 - 3=j*3 by omega,show (j+1)*3+1 - 3=j*3+1 by omega,show (j+1)*3+2 - 3=j*3+2 by omega]
  exact ih

end Go.Proofs.YtpcjcgkpjapbpaaGreatDoor
