/- The laws' small helpers: Lex by one contract, one, the bytes of a str. -/
import Derived.Test.YtemapnogjepokaaGreatDoorLexQToLexS
import Derived.KernelRfl
import Derived.Laws.Concat
import Derived.Deep.RegionHeld3
import Derived.Deep.DrawnRows
import Derived.Laws.Strings
namespace Go.Proofs.YtemapnogjepokaaGreatDoor
open Go.RowKit

structure LEnv (B:Nat) (a0 a1:Addr) (w:World):Prop where
 env:Env B a0 w
 g1:w.cell? ⟨2,0,none⟩=some (.iface 214 (.pointer (some a1)))
 b1:2<B

theorem LEnv.below {B:Nat}{a0 a1:Addr}{w w':World}(h:LEnv B a0 a1 w) (hb:Below B w w'):LEnv B a0 a1 w':=
 ⟨h.env.below hb,(hb.cell (p:=⟨2,0,none⟩) h.b1).trans h.g1,h.b1⟩
theorem LEnv.up {B C:Nat}{a0 a1:Addr}{w:World}(h:LEnv B a0 a1 w) (hC:B≤C):LEnv C a0 a1 w:=
 ⟨⟨h.env.hg,h.env.words,h.env.ops,h.env.range,Nat.lt_of_lt_of_le h.env.bg hC,Nat.lt_of_lt_of_le h.env.bw hC,Nat.lt_of_lt_of_le h.env.bo hC,Nat.lt_of_lt_of_le h.env.br hC⟩,h.g1,Nat.lt_of_lt_of_le h.b1 hC⟩

theorem lex_any (s:ByteArray) (a0 a1:Addr) (w:World) (E:LEnv w.heap.size a0 a1 w):Calls Tryz.prog 38 #[.string s] w fun ev w'=>XPost s a0 a1 w ev w':=by
 by_cases h:6000<s.size
 ·exact lex_long s a0 a1 w h E.g1
 ·exact lex_short s a0 a1 w (by omega) E.env

end Go.Proofs.YtemapnogjepokaaGreatDoor

/- The law LexQuotes: Byte and Quoted of the document's answer, by contracts. -/
namespace Go.Proofs.YtemapnogjepokaaGreatDoor
open Go.RowKit

def hexDig (n:Nat):UInt8:=([48,49,50,51,52,53,54,55,56,57,97,98,99,100,101,102]:List UInt8).getD n 0
def escB (c:UInt8):List UInt8:=
 if c.toNat=10 then [92,110]
 else if c.toNat=34 then [92,34]
 else if c.toNat=92 then [92,92]
 else if c.toNat<32∨126<c.toNat then [92,120,hexDig (c.toNat / 16),hexDig (c.toNat % 16)]
 else [c]
def quotedB (l:List UInt8):ByteArray:=⟨([34]++l.flatMap escB ++ [34]).toArray⟩

theorem escB_len (c:UInt8):(escB c).length≤4:=by
 unfold escB
 repeat (first | split | simp)
theorem flat_len:∀ l:List UInt8,(l.flatMap escB).length≤4*l.length
 | []=>by simp
 | c::r=>by
  have:=escB_len c
  have:=flat_len r
  simp only [List.flatMap_cons,List.length_append,List.length_cons]
  omega
theorem take_snoc (s:ByteArray) (k:Nat) (h:k<s.size):s.data.toList.take (k+1)=s.data.toList.take k ++ [s[k]]:=by
 rw [List.take_succ_eq_append_getElem (by simpa using h)];rfl

theorem nat_of_beq {n:Nat}{z:Int}(h:((n:Int) == z)=true):(n:Int)=z:=by simpa using h
theorem nat_of_beqf {n:Nat}{z:Int}(h:((n:Int) == z)=false):¬ (n:Int)=z:=by simpa using h
end Go.Proofs.YtemapnogjepokaaGreatDoor

/- The law LexQuotes: what is written as a str is read as that str. -/
namespace Go.Proofs.YtemapnogjepokaaGreatDoor
open Go.RowKit

theorem get_at {q:ByteArray}{pre rest:List UInt8}{x:UInt8}(h:q.data.toList=pre++x::rest):∃ hlt:pre.length<q.size,q[pre.length]=x:=by
 have hl:pre.length<q.data.toList.length:=by rw [h];simp
 have hlt:pre.length<q.size:=by simpa using hl
 refine ⟨hlt,?_⟩
 have e:q.data.toList[pre.length]=x:=by simp [h]
 have e2:q.data[pre.length]=x:=by simpa using e
 exact e2

theorem data_size {q:ByteArray}{l:List UInt8}(h:q.data.toList=l):q.size=l.length:=by
 have:=congrArg List.length h
 simpa using this

theorem escB_cases (c:UInt8):(c.toNat=10∧escB c = [92,110])∨(c.toNat=34∧escB c = [92,34])∨(c.toNat=92∧escB c = [92,92])∨escB c = [92,120,hexDig (c.toNat / 16),hexDig (c.toNat % 16)]∨(escB c = [c]∧c.toNat≠34∧c.toNat≠92∧32≤c.toNat∧c.toNat≤126):=by
 unfold escB
 split
 ·exact .inl ⟨by assumption,rfl⟩
 ·split
  ·exact .inr (.inl ⟨by assumption,rfl⟩)
  ·split
   ·exact .inr (.inr (.inl ⟨by assumption,rfl⟩))
   ·split
    ·exact .inr (.inr (.inr (.inl rfl)))
    ·exact .inr (.inr (.inr (.inr ⟨rfl,by assumption,by assumption,by omega,by omega⟩)))

end Go.Proofs.YtemapnogjepokaaGreatDoor

/- Package lex: a line of blanks and one letter. -/
namespace Go.Proofs.YtemapnogjepokaaGreatDoor
open Go.RowKit

end Go.Proofs.YtemapnogjepokaaGreatDoor

/- The law LexDeep, plain: what Lex comes to at lines that stand deeper and deeper, and one that goes back. -/
namespace Go.Proofs.YtemapnogjepokaaGreatDoor
open Go.RowKit

def falls:List Int→Prop
 | []=>True
 | [_]=>True
 | x::y::r=>y<x∧falls (y::r)

theorem falls_lt:∀ (l:List Int) (x:Int) (b:Nat) (y:Int),falls (x::l)→l[b]?=some y→y<x
 | [],x,b,y,h,hy=>by simp at hy
 | z::r,x,0,y,h,hy=>by simp at hy;have:=h.1;omega
 | z::r,x,b+1,y,h,hy=>by
  have:=falls_lt r z b y h.2 (by simpa using hy)
  have:=h.1
  omega
theorem falls_tail {x:Int}{l:List Int}(h:falls (x::l)):falls l:=by
 cases l with
 | nil=>trivial
 | cons y r=>exact h.2

end Go.Proofs.YtemapnogjepokaaGreatDoor

/- Package lex: a token depends on no more than the bytes up to where it must end. -/
namespace Go.Proofs.YtemapnogjepokaaGreatDoor
open Go.RowKit

def halts (S:List UInt8):Prop:=∀ c∈S.head?,c=10∨c=32

theorem no_get {q:ByteArray}{pre:List UInt8}(h:q.data.toList=pre):¬ pre.length<q.size:=by
 have:=data_size h;omega

theorem passTo_list (P:Int→Bool) (s:ByteArray) (S:List UInt8) (hS:∀ c∈S.head?,P (c.toNat:Int)=false):∀ (L pre:List UInt8),s.data.toList=pre++(L++S)→passTo P s (s.size - pre.length) pre.length=pre.length+(L.takeWhile fun c=>P (c.toNat:Int)).length
 | [],pre,h=>by
  cases S with
  | nil =>
   simp only [List.append_nil] at h
   have:=data_size h
   simpa using passTo_end (P:=P) this.symm
  | cons c S =>
   obtain ⟨hlt,e⟩:=get_at (q:=s) (pre:=pre) (rest:=S) (x:=c) (by simpa using h)
   simpa using passTo_stop (P:=P) hlt (by rw [e];exact hS c (by simp))
 | c::L,pre,h=>by
  obtain ⟨hlt,e⟩:=get_at (q:=s) (pre:=pre) (rest:=L++S) (x:=c) (by simpa using h)
  cases hP:P (c.toNat:Int)
  ·simpa [List.takeWhile,hP] using passTo_stop (P:=P) hlt (by rw [e];exact hP)
  ·have ih:=passTo_list P s S hS L (pre ++ [c]) (by simpa using h)
   rw [passTo_go hlt (by rw [e];exact hP)]
   simp only [List.length_append,List.length_cons,List.length_nil] at ih
   rw [ih]
   simp [List.takeWhile,hP]
   omega

theorem cut_list (s:ByteArray) (S L pre:List UInt8) (h:s.data.toList=pre++(L++S)) (m:Nat) (hm:m≤L.length):s.extract pre.length (pre.length+m)=⟨(L.take m).toArray⟩:=by
 apply ByteArray.ext
 apply Array.ext'
 rw [ByteArray.data_extract,Array.toList_extract,h]
 simp [List.extract,List.take_append_of_le_length hm]

theorem takeWhile_len (p:UInt8→Bool) (L:List UInt8):(L.takeWhile p).length≤L.length:=by
 induction L with
 | nil=>simp
 | cons c L ih=>simp only [List.takeWhile];split <;> simp;exact ih

theorem halts_byte {S:List UInt8}(h:halts S) (P:Int→Bool) (h1:P 10=false) (h2:P 32=false):∀ c∈S.head?,P (c.toNat:Int)=false:=fun c hc=>by
 rcases h c hc with rfl | rfl
 ·exact h1
 ·exact h2

def nameL (c:UInt8) (L:List UInt8):Option (Bool × ByteArray × Nat):=
 let m:=1+(L.takeWhile fun c=>nameB (c.toNat:Int)).length
 if wordB ⟨((c::L).take m).toArray⟩ then some (true,⟨((c::L).take m).toArray⟩,m)
 else if capitalB (c.toNat:Int) then none
 else if 16<m then none
 else some (false,⟨((c::L).take m).toArray⟩,m)

theorem nameAt_list (s:ByteArray) (c:UInt8) (S L pre:List UInt8) (hS:halts S) (h:s.data.toList=pre++(c::L++S)):nameAt s pre.length=(nameL c L).map fun x=>(x.1,x.2.1,pre.length+x.2.2):=by
 obtain ⟨hlt,e⟩:=get_at (q:=s) (pre:=pre) (rest:=L++S) (x:=c) (by simpa using h)
 have hp:=passTo_list nameB s S (halts_byte hS nameB rfl rfl) L (pre ++ [c]) (by simpa using h)
 have hn:nameTo s pre.length=pre.length+(1+(L.takeWhile fun c=>nameB (c.toNat:Int)).length):=by
  unfold nameTo
  simp only [List.length_append,List.length_cons,List.length_nil,Nat.zero_add] at hp
  omega
 have hc:=cut_list s S (c::L) pre h (1+(L.takeWhile fun c=>nameB (c.toNat:Int)).length) (by have:=takeWhile_len (fun c=>nameB (c.toNat:Int)) L;simp;omega)
 unfold nameAt nameL
 rw [dif_pos hlt,hn,hc,e]
 simp only [Nat.add_sub_cancel_left]
 split
 ·rfl
 ·split
  ·rfl
  ·split <;> rfl

def intL (c:UInt8) (L:List UInt8):Option (ByteArray × Nat):=
 let m:=((c::L).takeWhile fun c=>digitB (c.toNat:Int)).length
 if (c.toNat:Int) == 48 && decide (1<m) then none
 else match Lib.parseIntB 64 ((c::L).take m) with
  | .ok _=>some (⟨((c::L).take m).toArray⟩,m)
  | _=>none

theorem intAt_list (s:ByteArray) (c:UInt8) (S L pre:List UInt8) (hS:halts S) (h:s.data.toList=pre++(c::L++S)):intAt s pre.length=(intL c L).map fun x=>(x.1,pre.length+x.2):=by
 obtain ⟨hlt,e⟩:=get_at (q:=s) (pre:=pre) (rest:=L++S) (x:=c) (by simpa using h)
 have hp:=passTo_list digitB s S (halts_byte hS digitB rfl rfl) (c::L) pre h
 have hn:digitsTo s pre.length=pre.length+((c::L).takeWhile fun c=>digitB (c.toNat:Int)).length:=hp
 have hc:=cut_list s S (c::L) pre h ((c::L).takeWhile fun c=>digitB (c.toNat:Int)).length (takeWhile_len _ _)
 unfold intAt intL
 rw [dif_pos hlt,hn,hc,e]
 simp only [Nat.add_sub_cancel_left]
 split
 ·rfl
 ·cases Lib.parseIntB 64 ((c::L).take ((c::L).takeWhile fun c=>digitB (c.toNat:Int)).length) <;> rfl

def opL (L:List UInt8):Nat→Nat→Option (ByteArray × Nat)
 | 0,_=>none
 | n+1,k=>if (opAt k).data.toList.isPrefixOf L then some (opAt k,(opAt k).size) else opL L n (k+1)

theorem toList_data (b:ByteArray):b.toList=b.data.toList:=ByteArray.toList_eq b

theorem prefix_halts:∀ (b L S:List UInt8),halts S→(∀ c∈b,c≠10∧c≠32)→b.isPrefixOf (L++S)=b.isPrefixOf L
 | [],L,S,hS,hb=>by simp
 | c::b,[],S,hS,hb=>by
  cases S with
  | nil=>rfl
  | cons d S =>
   have h1:=hb c (by simp)
   have:(c == d)=false:=by
    rcases hS d (by simp) with rfl | rfl
    ·simpa using h1.1
    ·simpa using h1.2
   simp [List.isPrefixOf,this]
 | c::b,d::L,S,hS,hb=>by
  have ih:=prefix_halts b L S hS (fun x hx=>hb x (by simp [hx]))
  simp [List.isPrefixOf,ih]

theorem prefixB_list (a b:ByteArray):prefixB a b=b.data.toList.isPrefixOf a.data.toList:=by
 unfold prefixB
 rw [toList_data,toList_data]
 split
 ·rename_i hle
  rw [ByteArray.data_extract,Array.toList_extract]
  rw [Bool.eq_iff_iff]
  simp only [List.extract,Nat.sub_zero,List.drop_zero,beq_iff_eq,List.isPrefixOf_iff_prefix]
  constructor
  ·intro h
   rw [←h]
   exact List.take_prefix _ _
  ·intro h
   have:=List.prefix_iff_eq_take.1 h
   simpa using this.symm
 ·rename_i hle
  symm
  rw [Bool.eq_false_iff]
  intro h
  rw [List.isPrefixOf_iff_prefix] at h
  have:=h.length_le
  simp at this
  exact hle this

theorem opAt_bytes (k:Nat):∀ c∈(opAt k).data.toList,c≠10∧c≠32:=by
 iterate 21 (rcases k with _ | k;· decide)
 have:opAt (k+1+1+1+1+1+1+1+1+1+1+1+1+1+1+1+1+1+1+1+1+1)=⟨#[]⟩:=rfl
 rw [this]
 simp

theorem opFrom_list (s:ByteArray) (S L pre:List UInt8) (hS:halts S) (h:s.data.toList=pre++(L++S)):∀ n k,opFrom s pre.length n k=(opL L n k).map fun x=>(x.1,pre.length+x.2)
 | 0,k=>rfl
 | n+1,k=>by
  have hx:(s.extract pre.length s.size).data.toList=L++S:=by
   have hz:=data_size h
   rw [ByteArray.data_extract,Array.toList_extract,h]
   simp [List.extract]
   rw [List.take_of_length_le]
   simp at hz ⊢
   omega
  have hp:prefixB (s.extract pre.length s.size) (opAt k)=(opAt k).data.toList.isPrefixOf L:=by
   rw [prefixB_list,hx]
   exact prefix_halts _ _ _ hS (opAt_bytes k)
  unfold opFrom opL
  rw [hp]
  split
  ·rfl
  ·exact opFrom_list s S L pre hS h n (k+1)

def dead (s:ByteArray) (e:Nat):Prop:=∀ f acc,strFrom s f e acc=none

def escX:List UInt8→Option (Int × Nat)
 | a::b::_=>if 0≤hexVal a∧0≤hexVal b then some (hexVal a*16+hexVal b,3) else none
 | _=>none
def escL:List UInt8→Option (Int × Nat)
 | []=>none
 | c::L=>if (c.toNat:Int) == 110 then some (10,1) else if (c.toNat:Int) == 34 then some (34,1) else if (c.toNat:Int) == 92 then some (92,1) else if (c.toNat:Int) == 120 then escX L else none

theorem hexVal_10:¬ 0≤hexVal 10:=by decide
theorem hexVal_32:¬ 0≤hexVal 32:=by decide

theorem escAt_end {s:ByteArray}{pre:List UInt8}(h:s.data.toList=pre):escAt s pre.length=none:=by
 unfold escAt
 rw [dif_neg (no_get h)]

theorem escAt_list (s:ByteArray) (S L pre:List UInt8) (hS:halts S) (h:s.data.toList=pre++(L++S)):escAt s pre.length=(escL L).map fun x=>(x.1,pre.length+x.2):=by
 cases L with
 | nil =>
  cases S with
  | nil =>
   simp only [List.append_nil] at h
   rw [escAt_end h]
   rfl
  | cons d S =>
   obtain ⟨hlt,e⟩:=get_at (q:=s) (pre:=pre) (rest:=S) (x:=d) (by simpa using h)
   unfold escAt
   rw [dif_pos hlt,e]
   rcases hS d (by simp) with rfl | rfl <;> rfl
 | cons c L =>
  obtain ⟨hlt,e⟩:=get_at (q:=s) (pre:=pre) (rest:=L++S) (x:=c) (by simpa using h)
  unfold escAt
  rw [dif_pos hlt,e]
  have hr:escL (c::L)=if (c.toNat:Int) == 110 then some (10,1) else if (c.toNat:Int) == 34 then some (34,1) else if (c.toNat:Int) == 92 then some (92,1) else if (c.toNat:Int) == 120 then escX L else none:=rfl
  rw [hr]
  split
  ·rfl
  ·split
   ·rfl
   ·split
    ·rfl
    ·split
     ·have hz:=data_size h
      match L,h,hz with
      | a::b::L',h,hz =>
       simp at hz
       obtain ⟨l1,e1⟩:=get_at (q:=s) (pre:=pre ++ [c]) (rest:=b::L'++S) (x:=a) (by simpa using h)
       obtain ⟨l2,e2⟩:=get_at (q:=s) (pre:=pre ++ [c,a]) (rest:=L'++S) (x:=b) (by simpa using h)
       simp only [List.length_append,List.length_cons,List.length_nil] at l1 e1 l2 e2
       rw [dif_pos (by omega)]
       have e1':s[pre.length+1]=a:=e1
       have e2':s[pre.length+2]=b:=e2
       rw [e1',e2']
       have hx:escX (a::b::L')=if 0≤hexVal a∧0≤hexVal b then some (hexVal a*16+hexVal b,3) else none:=rfl
       rw [hx]
       split <;> rfl
      | [a],h,hz =>
       have hx:escX [a]=none:=rfl
       rw [hx,Option.map_none]
       split
       ·rename_i h2
        refine if_neg ?_
        rintro ⟨_,hb⟩
        cases S with
        | nil=>simp at hz;omega
        | cons d S =>
         obtain ⟨l2,e2⟩:=get_at (q:=s) (pre:=pre ++ [c,a]) (rest:=S) (x:=d) (by simpa using h)
         simp only [List.length_append,List.length_cons,List.length_nil] at l2 e2
         have e2':s[pre.length+2]=d:=e2
         rw [e2'] at hb
         rcases hS d (by simp) with rfl | rfl
         ·exact hexVal_10 hb
         ·exact hexVal_32 hb
       ·rfl
      | [],h,hz =>
       have hx:escX []=none:=rfl
       rw [hx,Option.map_none]
       split
       ·rename_i h2
        refine if_neg ?_
        rintro ⟨ha,_⟩
        cases S with
        | nil=>simp at hz;omega
        | cons d S =>
         obtain ⟨l2,e2⟩:=get_at (q:=s) (pre:=pre ++ [c]) (rest:=S) (x:=d) (by simpa using h)
         simp only [List.length_append,List.length_cons,List.length_nil] at l2 e2
         have e2':s[pre.length+1]=d:=e2
         rw [e2'] at ha
         rcases hS d (by simp) with rfl | rfl
         ·exact hexVal_10 ha
         ·exact hexVal_32 ha
       ·rfl
     ·rfl

theorem escX_bd {L:List UInt8}{v:Int}{k:Nat}(h:escX L=some (v,k)):0<k∧k≤L.length+1:=by
 unfold escX at h
 split at h
 ·split at h
  ·simp at h;simp;omega
  ·cases h
 ·cases h
theorem escL_bd {L:List UInt8}{v:Int}{k:Nat}(h:escL L=some (v,k)):0<k∧k≤L.length:=by
 unfold escL at h
 split at h
 ·cases h
 ·split at h
  ·simp at h;simp;omega
  ·split at h
   ·simp at h;simp;omega
   ·split at h
    ·simp at h;simp;omega
    ·split at h
     ·have:=escX_bd h;simp;omega
     ·cases h

def strL:Nat→List UInt8→List Int→Option (List Int × Nat)
 | 0,_,_=>none
 | _+1,[],_=>none
 | n+1,c::L,acc =>
  if (c.toNat:Int) == 34 then some (acc,1)
  else if (c.toNat:Int)<32 then none
  else if 126<(c.toNat:Int) then none
  else if (c.toNat:Int) == 92 then
   match escL L with
   | some (v,k)=>(strL n (L.drop k) (acc ++ [v])).map fun x=>(x.1,x.2+(k+1))
   | none=>none
  else (strL n L (acc ++ [(c.toNat:Int)])).map fun x=>(x.1,x.2+1)

theorem strFrom_list (s:ByteArray) (S:List UInt8) (hS:halts S):∀ (n f:Nat) (L pre:List UInt8) (acc:List Int),s.data.toList=pre++(L++S)→dead s (pre.length+L.length)→L.length<n→s.size+1 - pre.length≤f→strFrom s f pre.length acc=(strL n L acc).map fun x=>(x.1,pre.length+x.2)
 | 0,_,_,_,_,_,_,h,_=>absurd h (Nat.not_lt_zero _)
 | n+1,f,[],pre,acc,h,hd,_,_=>by
  rw [show pre.length=pre.length+([]:List UInt8).length by simp,hd f acc]
  rfl
 | n+1,f,c::L,pre,acc,h,hd,hn,hf=>by
  obtain ⟨hlt,e⟩:=get_at (q:=s) (pre:=pre) (rest:=L++S) (x:=c) (by simpa using h)
  obtain ⟨g,rfl⟩:∃ g,f=g+1:=⟨f - 1,by omega⟩
  have hz:=data_size h
  have hr:strL (n+1) (c::L) acc=if (c.toNat:Int) == 34 then some (acc,1)
   else if (c.toNat:Int)<32 then none
   else if 126<(c.toNat:Int) then none
   else if (c.toNat:Int) == 92 then
    match escL L with
    | some (v,k)=>(strL n (L.drop k) (acc ++ [v])).map fun x=>(x.1,x.2+(k+1))
    | none=>none
   else (strL n L (acc ++ [(c.toNat:Int)])).map fun x=>(x.1,x.2+1):=rfl
  unfold strFrom
  rw [dif_pos hlt,e,hr]
  split
  ·rfl
  ·split
   ·rfl
   ·split
    ·rfl
    ·split
     ·have he:=escAt_list s S L (pre ++ [c]) hS (by simpa using h)
      simp only [List.length_append,List.length_cons,List.length_nil,Nat.zero_add] at he
      rw [he]
      cases hv:escL L with
      | none=>rfl
      | some x =>
       obtain ⟨v,k⟩:=x
       have hk:=escL_bd hv
       have hsp:L.take k++L.drop k=L:=List.take_append_drop k L
       have ih:=strFrom_list s S hS n g (L.drop k) (pre++(c::L.take k)) (acc ++ [v]) (by
        rw [h]
        simp only [List.append_assoc,List.cons_append,←List.append_assoc (L.take k),hsp]) (by
        have:(pre++(c::L.take k)).length+(L.drop k).length=pre.length+(c::L).length:=by simp;omega
        rw [this];exact hd) (by simp at hn ⊢;omega) (by simp;omega)
       have hp:(pre++(c::L.take k)).length=pre.length+1+k:=by simp;omega
       rw [hp] at ih
       simp only [Option.map_some]
       rw [ih]
       cases strL n (L.drop k) (acc ++ [v]) with
       | none=>rfl
       | some y=>simp;omega
     ·have ih:=strFrom_list s S hS n g L (pre ++ [c]) (acc ++ [(c.toNat:Int)]) (by simpa using h) (by
       have:(pre ++ [c]).length+L.length=pre.length+(c::L).length:=by simp;omega
       rw [this];exact hd) (by simp at hn;omega) (by simp;omega)
      simp only [List.length_append,List.length_cons,List.length_nil,Nat.zero_add] at ih
      rw [ih]
      cases strL n L (acc ++ [(c.toNat:Int)]) with
      | none=>rfl
      | some y=>simp;omega

def tokL:List UInt8→Option (ByteArray × ByteArray × Nat)
 | []=>none
 | c::L =>
  if smallB (c.toNat:Int) || capitalB (c.toNat:Int) then (nameL c L).map fun x=>(if x.1 then kWord else kName,x.2.1,x.2.2)
  else if digitB (c.toNat:Int) then (intL c L).map fun x=>(kInt,x.1,x.2)
  else if (c.toNat:Int) == 34 then (strL (L.length+1) L []).map fun x=>(kStr,strOfNums x.1,x.2+1)
  else (opL (c::L) 21 0).map fun x=>(kOp,x.1,x.2)

theorem tokAt_list (s:ByteArray) (S L pre:List UInt8) (hS:halts S) (h:s.data.toList=pre++(L++S)) (hd:dead s (pre.length+L.length)) (hL:L ≠ []):tokAt s pre.length=(tokL L).map fun x=>(x.1,x.2.1,pre.length+x.2.2):=by
 cases L with
 | nil=>exact absurd rfl hL
 | cons c L =>
  obtain ⟨hlt,e⟩:=get_at (q:=s) (pre:=pre) (rest:=L++S) (x:=c) (by simpa using h)
  have hr:tokL (c::L)=if smallB (c.toNat:Int) || capitalB (c.toNat:Int) then (nameL c L).map fun x=>(if x.1 then kWord else kName,x.2.1,x.2.2)
   else if digitB (c.toNat:Int) then (intL c L).map fun x=>(kInt,x.1,x.2)
   else if (c.toNat:Int) == 34 then (strL (L.length+1) L []).map fun x=>(kStr,strOfNums x.1,x.2+1)
   else (opL (c::L) 21 0).map fun x=>(kOp,x.1,x.2):=rfl
  unfold tokAt
  rw [dif_pos hlt,e,hr]
  split
  ·rw [nameAt_list s c S L pre hS h]
   cases nameL c L <;> rfl
  ·split
   ·rw [intAt_list s c S L pre hS h]
    cases intL c L <;> rfl
   ·split
    ·have hs:=strFrom_list s S hS (L.length+1) (s.size+1 - (pre.length+1)) L (pre ++ [c]) [] (by simpa using h) (by
      have:(pre ++ [c]).length+L.length=pre.length+(c::L).length:=by simp;omega
      rw [this];exact hd) (by omega) (by simp)
     simp only [List.length_append,List.length_cons,List.length_nil,Nat.zero_add] at hs
     unfold strAt
     rw [hs]
     cases strL (L.length+1) L [] with
     | none=>rfl
     | some y=>simp;omega
    ·unfold opTok
     rw [opFrom_list s S (c::L) pre hS h 21 0]
     cases opL (c::L) 21 0 <;> rfl
end Go.Proofs.YtemapnogjepokaaGreatDoor

/- Package lex: a line, by its bytes alone. -/
namespace Go.Proofs.YtemapnogjepokaaGreatDoor
open Go.RowKit

def lineEnd (S:List UInt8):Prop:=S = [] ∨ ∃ R,S=10::R
def noEnd (L:List UInt8):Prop:=∀ c∈L,c≠10

theorem lineEnd.halts {S:List UInt8}(h:lineEnd S):halts S:=by
 rcases h with rfl | ⟨R,rfl⟩
 ·intro c hc;simp at hc
 ·intro c hc;simp at hc;exact .inl hc.symm

theorem dead_end {s:ByteArray}{S pre:List UInt8}(hS:lineEnd S) (h:s.data.toList=pre++S):dead s pre.length:=by
 intro f acc
 cases f with
 | zero=>rfl
 | succ f =>
  unfold strFrom
  rcases hS with rfl | ⟨R,rfl⟩
  ·rw [dif_neg (no_get (by simpa using h))]
  ·obtain ⟨hlt,e⟩:=get_at (q:=s) (pre:=pre) (rest:=R) (x:=10) h
   rw [dif_pos hlt,e]
   rfl

def blanksL (L:List UInt8):Nat:=(L.takeWhile fun c=>blankB (c.toNat:Int)).length
def skipL (L:List UInt8):Nat:=match L.drop (blanksL L) with
 | []=>blanksL L
 | c::_=>if (c.toNat:Int) == 35 then L.length else blanksL L

theorem blanksL_le (L:List UInt8):blanksL L≤L.length:=takeWhile_len _ _
theorem skipL_le (L:List UInt8):skipL L≤L.length:=by
 unfold skipL
 have:=blanksL_le L
 split
 ·exact this
 ·split
  ·exact Nat.le_refl _
  ·exact this

theorem lineB_ne {c:UInt8}(h:c≠10):lineB (c.toNat:Int)=true:=by
 have:c.toNat≠10:=fun e=>h (UInt8.toNat_inj.mp e)
 simp [lineB]
 omega
theorem takeWhile_line:∀ L:List UInt8,noEnd L→(L.takeWhile fun c=>lineB (c.toNat:Int))=L
 | [],_=>rfl
 | c::L,h=>by
  have:=takeWhile_line L (fun x hx=>h x (by simp [hx]))
  simp [List.takeWhile,lineB_ne (h c (by simp)),this]

theorem blanksTo_list (s:ByteArray) (S L pre:List UInt8) (hS:lineEnd S) (h:s.data.toList=pre++(L++S)):blanksTo s pre.length=pre.length+blanksL L:=
 passTo_list blankB s S (fun c hc=>by
  rcases hS with rfl | ⟨R,rfl⟩
  ·simp at hc
  ·simp at hc;subst hc;rfl) L pre h

theorem skipTo_list (s:ByteArray) (S L pre:List UInt8) (hS:lineEnd S) (hL:noEnd L) (h:s.data.toList=pre++(L++S)):skipTo s pre.length=pre.length+skipL L:=by
 have hb:=blanksTo_list s S L pre hS h
 have hle:=blanksL_le L
 unfold skipTo skipL
 rw [hb]
 have hsp:L.take (blanksL L)++L.drop (blanksL L)=L:=List.take_append_drop _ L
 have hl:(pre++L.take (blanksL L)).length=pre.length+blanksL L:=by simp;omega
 have h':s.data.toList=(pre++L.take (blanksL L))++(L.drop (blanksL L)++S):=by
  rw [h]
  simp only [List.append_assoc,←List.append_assoc (L.take (blanksL L)),hsp]
 rw [←hl]
 cases hd:L.drop (blanksL L) with
 | nil =>
  rw [hd] at h'
  simp only
  unfold commentTo
  rcases hS with rfl | ⟨R,rfl⟩
  ·rw [dif_neg (no_get (by simpa using h'))]
   exact hl
  ·obtain ⟨hlt,e⟩:=get_at (q:=s) (pre:=pre++L.take (blanksL L)) (rest:=R) (x:=10) (by simpa using h')
   rw [dif_pos hlt,e]
   exact hl
 | cons c L' =>
  rw [hd] at h'
  simp only
  obtain ⟨hlt,e⟩:=get_at (q:=s) (pre:=pre++L.take (blanksL L)) (rest:=L'++S) (x:=c) (by simpa using h')
  unfold commentTo
  rw [dif_pos hlt,e]
  split
  ·have hp:=passTo_list lineB s S (fun c hc=>by
    rcases hS with rfl | ⟨R,rfl⟩
    ·simp at hc
    ·simp at hc;subst hc;rfl) (c::L') (pre++L.take (blanksL L)) h'
   rw [takeWhile_line _ (fun x hx=>hL x (by rw [←hsp,hd];simp at hx ⊢;exact .inr hx))] at hp
   rw [hp]
   have:=congrArg List.length hd
   simp at this ⊢
   omega
  ·exact hl

theorem endsB_list (s:ByteArray) (S L pre:List UInt8) (hS:lineEnd S) (hL:noEnd L) (h:s.data.toList=pre++(L++S)) (m:Nat) (hm:m≤L.length):endsB s (pre.length+m)=decide (m=L.length):=by
 have hsp:L.take m++L.drop m=L:=List.take_append_drop _ L
 have hl:(pre++L.take m).length=pre.length+m:=by simp;omega
 have h':s.data.toList=(pre++L.take m)++(L.drop m++S):=by
  rw [h]
  simp only [List.append_assoc,←List.append_assoc (L.take m),hsp]
 rw [←hl]
 unfold endsB
 cases hd:L.drop m with
 | nil =>
  rw [hd] at h'
  have hml:m=L.length:=by have:=congrArg List.length hd;simp at this;omega
  rw [decide_eq_true hml]
  rcases hS with rfl | ⟨R,rfl⟩
  ·rw [dif_neg (no_get (by simpa using h'))]
  ·obtain ⟨hlt,e⟩:=get_at (q:=s) (pre:=pre++L.take m) (rest:=R) (x:=10) (by simpa using h')
   rw [dif_pos hlt,e]
   rfl
 | cons c L' =>
  rw [hd] at h'
  have hml:¬ m=L.length:=by have:=congrArg List.length hd;simp at this;omega
  rw [decide_eq_false hml]
  obtain ⟨hlt,e⟩:=get_at (q:=s) (pre:=pre++L.take m) (rest:=L'++S) (x:=c) (by simpa using h')
  rw [dif_pos hlt,e]
  have hc:=hL c (by rw [←hsp,hd];simp)
  have:c.toNat≠10:=fun e=>hc (UInt8.toNat_inj.mp e)
  simp
  omega

theorem nameL_bd {c:UInt8}{L:List UInt8}{x:Bool × ByteArray × Nat}(h:nameL c L=some x):0<x.2.2∧x.2.2≤L.length+1:=by
 have:=takeWhile_len (fun c=>nameB (c.toNat:Int)) L
 unfold nameL at h
 simp only at h
 split at h
 ·simp at h;subst h;simp;omega
 ·split at h
  ·cases h
  ·split at h
   ·cases h
   ·simp at h;subst h;simp;omega
theorem intL_bd {c:UInt8}{L:List UInt8}{x:ByteArray × Nat}(hc:digitB (c.toNat:Int)=true) (h:intL c L=some x):0<x.2∧x.2≤L.length+1:=by
 have h1:=takeWhile_len (fun c=>digitB (c.toNat:Int)) (c::L)
 have h2:0<((c::L).takeWhile fun c=>digitB (c.toNat:Int)).length:=by simp [List.takeWhile,hc]
 unfold intL at h
 simp only at h
 split at h
 ·cases h
 ·split at h
  ·simp at h;subst h;simp at h1 h2 ⊢;omega
  ·cases h
theorem strL_bd:∀ (n:Nat) (L:List UInt8) (acc:List Int) (x:List Int × Nat),strL n L acc=some x→0<x.2∧x.2≤L.length
 | 0,_,_,_,h=>by simp [strL] at h
 | n+1,[],_,_,h=>by simp [strL] at h
 | n+1,c::L,acc,x,h=>by
  unfold strL at h
  split at h
  ·simp at h;subst h;simp
  ·split at h
   ·cases h
   ·split at h
    ·cases h
    ·split at h
     ·cases he:escL L with
      | none=>rw [he] at h;cases h
      | some y =>
       obtain ⟨v,k⟩:=y
       rw [he] at h
       have hk:=escL_bd he
       simp only [Option.map_eq_some_iff] at h
       obtain ⟨z,hz,rfl⟩:=h
       have:=strL_bd n (L.drop k) _ z hz
       simp at this ⊢
       omega
     ·simp only [Option.map_eq_some_iff] at h
      obtain ⟨z,hz,rfl⟩:=h
      have:=strL_bd n L _ z hz
      simp
      omega
theorem opAt_pos (k:Nat) (h:k<21):0<(opAt k).size:=by
 iterate 21 (rcases k with _ | k;· decide)
 omega
theorem opL_bd (L:List UInt8):∀ (n k:Nat) (x:ByteArray × Nat),k+n=21→opL L n k=some x→0<x.2∧x.2≤L.length
 | 0,_,_,_,h=>by simp [opL] at h
 | n+1,k,x,hk,h=>by
  unfold opL at h
  split at h
  ·rename_i hp
   simp at h
   subst h
   rw [List.isPrefixOf_iff_prefix] at hp
   have:=hp.length_le
   simp at this
   exact ⟨opAt_pos k (by omega),this⟩
  ·exact opL_bd L n (k+1) x (by omega) h
theorem tokL_bd {L:List UInt8}{k t:ByteArray}{m:Nat}(h:tokL L=some (k,t,m)):0<m∧m≤L.length:=by
 cases L with
 | nil=>simp [tokL] at h
 | cons c L =>
  have hr:tokL (c::L)=if smallB (c.toNat:Int) || capitalB (c.toNat:Int) then (nameL c L).map fun x=>(if x.1 then kWord else kName,x.2.1,x.2.2)
   else if digitB (c.toNat:Int) then (intL c L).map fun x=>(kInt,x.1,x.2)
   else if (c.toNat:Int) == 34 then (strL (L.length+1) L []).map fun x=>(kStr,strOfNums x.1,x.2+1)
   else (opL (c::L) 21 0).map fun x=>(kOp,x.1,x.2):=rfl
  rw [hr] at h
  split at h
  ·simp only [Option.map_eq_some_iff] at h
   obtain ⟨z,hz,he⟩:=h
   have:=nameL_bd hz
   simp at he ⊢
   omega
  ·split at h
   ·rename_i hd
    simp only [Option.map_eq_some_iff] at h
    obtain ⟨z,hz,he⟩:=h
    have:=intL_bd hd hz
    simp at he ⊢
    omega
   ·split at h
    ·simp only [Option.map_eq_some_iff] at h
     obtain ⟨z,hz,he⟩:=h
     have:=strL_bd _ _ _ z hz
     simp at he ⊢
     omega
    ·simp only [Option.map_eq_some_iff] at h
     obtain ⟨z,hz,he⟩:=h
     have:=opL_bd _ 21 0 z rfl hz
     simp at he this ⊢
     omega

def restL:Nat→List UInt8→Nat→Except Nat (List (ByteArray × ByteArray × Nat))
 | 0,_,o=>.error o
 | f+1,L,o =>
  if skipL L=L.length then .ok []
  else match tokL (L.drop (skipL L)) with
   | none=>.error (o+skipL L)
   | some (k,t,m)=>match restL f (L.drop (skipL L+m)) (o+(skipL L+m)) with
    | .ok l=>.ok ((k,t,o+skipL L)::l)
    | .error e=>.error e

def cellsOf (l:List (ByteArray × ByteArray × Nat)):List Value:=l.flatMap fun x=>tokCells x.1 x.2.1 x.2.2

theorem drop_noEnd {L:List UInt8}(h:noEnd L) (m:Nat):noEnd (L.drop m):=fun c hc=>h c (List.mem_of_mem_drop hc)

theorem restToks_list (s:ByteArray) (S:List UInt8) (hS:lineEnd S):∀ (f:Nat) (L pre:List UInt8) (tk:List Value) (n:Nat),L.length<f→noEnd L→s.data.toList=pre++(L++S) →
  restToks s (s.size+1 - pre.length) pre.length tk n=match restL f L pre.length with
   | .ok l=>.ok (pre.length+L.length,tk++cellsOf l,n+l.length)
   | .error e=>.error e
 | 0,_,_,_,_,h,_,_=>absurd h (Nat.not_lt_zero _)
 | f+1,L,pre,tk,n,hf,hL,h=>by
  have hz:=data_size h
  simp at hz
  have hsk:=skipTo_list s S L pre hS hL h
  have hen:=endsB_list s S L pre hS hL h (skipL L) (skipL_le L)
  have hle:=skipL_le L
  unfold restL
  by_cases hc:skipL L=L.length
  ·rw [if_pos hc]
   rw [decide_eq_true hc] at hen
   rw [restToks_stop (by omega) (by rw [hsk];exact hen),hsk,hc]
   simp [cellsOf]
  ·rw [if_neg hc]
   rw [decide_eq_false hc] at hen
   have hsp:L.take (skipL L)++L.drop (skipL L)=L:=List.take_append_drop _ L
   have hl:(pre++L.take (skipL L)).length=pre.length+skipL L:=by simp;omega
   have h':s.data.toList=(pre++L.take (skipL L))++(L.drop (skipL L)++S):=by
    rw [h]
    simp only [List.append_assoc,←List.append_assoc (L.take (skipL L)),hsp]
   have hd:dead s ((pre++L.take (skipL L)).length+(L.drop (skipL L)).length):=by
    have:=dead_end (s:=s) (S:=S) (pre:=pre++L) hS (by simpa using h)
    have e:(pre++L.take (skipL L)).length+(L.drop (skipL L)).length=(pre++L).length:=by simp;omega
    rw [e];exact this
   have ht:=tokAt_list s S (L.drop (skipL L)) (pre++L.take (skipL L)) hS.halts h' hd (by intro e;have:=congrArg List.length e;simp at this;omega)
   rw [hl,←hsk] at ht
   cases hk:tokL (L.drop (skipL L)) with
   | none =>
    rw [hk] at ht
    rw [restToks_none (by omega) (by rw [hsk];exact hen) ht,hsk]
   | some x =>
    obtain ⟨k,t,m⟩:=x
    rw [hk] at ht
    simp only [Option.map_some] at ht
    have hm:=tokL_bd hk
    simp at hm
    rw [restToks_go (by omega) (by rw [hsk];exact hen) ht]
    have hsp2:L.take (skipL L+m)++L.drop (skipL L+m)=L:=List.take_append_drop _ L
    have hl2:(pre++L.take (skipL L+m)).length=pre.length+(skipL L+m):=by simp;omega
    have ih:=restToks_list s S hS f (L.drop (skipL L+m)) (pre++L.take (skipL L+m)) (tk++tokCells k t (skipTo s pre.length)) (n+1) (by simp;omega) (drop_noEnd hL _) (by
     rw [h]
     simp only [List.append_assoc,←List.append_assoc (L.take (skipL L+m)),hsp2])
    rw [hl2] at ih
    rw [hsk] at ih ⊢
    rw [show pre.length+skipL L+m=pre.length+(skipL L+m) by omega,ih]
    simp only
    cases restL f (L.drop (skipL L+m)) (pre.length+(skipL L+m)) with
    | error e=>rfl
    | ok l =>
     simp [cellsOf]
     omega
end Go.Proofs.YtemapnogjepokaaGreatDoor
