/- Package lex: what Lex comes to, with a blank, a comment or an empty line put in. -/
import Derived.Test.YtemapnogjepokaaGreatDoorLexTToLexZ
import Derived.Deep.CutBlock
import Derived.Deep.RegionHeld3
namespace Go.Proofs.YtemapnogjepokaaGreatDoor
open Go.RowKit

theorem lineStep_list (s:ByteArray) (S L pre:List UInt8) (hS:lineEnd S) (hL:noEnd L) (h:s.data.toList=pre++(L++S)) (st:List Int) (n:Nat) (tk:List Value) :
  lineStep s ⟨pre.length,st,n,tk⟩ =
   if skipL L=L.length then .ok ⟨afterLine s (pre.length+L.length),st,n,tk⟩
   else match settleP st (blanksL L:Nat) (pre.length+skipL L) n tk with
    | none=>.error (pre.length+skipL L)
    | some (st',n',tk')=>match restL (L.length+1) L pre.length with
     | .error e=>.error e
     | .ok l=>.ok ⟨afterLine s (pre.length+L.length),st',n'+l.length+1,tk'++cellsOf l++tokCells kNewline ⟨#[]⟩ (pre.length+L.length)⟩:=by
 have hz:=data_size h
 simp at hz
 have hsk:=skipTo_list s S L pre hS hL h
 have hen:=endsB_list s S L pre hS hL h (skipL L) (skipL_le L)
 have hle:=skipL_le L
 have hbl:=blanksTo_list s S L pre hS h
 by_cases hc:skipL L=L.length
 ·rw [if_pos hc]
  rw [decide_eq_true hc] at hen
  rw [lineStep_blank (by simp only;rw [hsk];exact hen)]
  simp only [hsk,hc]
 ·rw [if_neg hc]
  rw [decide_eq_false hc] at hen
  have hd:((pre.length+blanksL L:Nat):Int) - (pre.length:Int)=(blanksL L:Nat):=by omega
  have hr:=fun tk' n'=>restToks_list s S hS (L.length+1) L pre tk' n' (by omega) hL h
  have hsp:L.take (skipL L)++L.drop (skipL L)=L:=List.take_append_drop _ L
  have hl:(pre++L.take (skipL L)).length=pre.length+skipL L:=by simp;omega
  have h':s.data.toList=(pre++L.take (skipL L))++(L.drop (skipL L)++S):=by
   rw [h]
   simp only [List.append_assoc,←List.append_assoc (L.take (skipL L)),hsp]
  have hdd:dead s ((pre++L.take (skipL L)).length+(L.drop (skipL L)).length):=by
   have:=dead_end (s:=s) (S:=S) (pre:=pre++L) hS (by simpa using h)
   have e:(pre++L.take (skipL L)).length+(L.drop (skipL L)).length=(pre++L).length:=by simp;omega
   rw [e];exact this
  have ht:=tokAt_list s S (L.drop (skipL L)) (pre++L.take (skipL L)) hS.halts h' hdd (by intro e;have:=congrArg List.length e;simp at this;omega)
  rw [hl,←hsk] at ht
  cases hst:settleP st (blanksL L:Nat) (pre.length+skipL L) n tk with
  | none =>
   rw [lineStep_settle (by simp only;rw [hsk];exact hen) (by simp only;rw [hbl,hd,hsk];exact hst)]
   simp only [hsk]
  | some x =>
   obtain ⟨st',n',tk'⟩:=x
   have hg:=hr tk' n'
   cases hk:tokL (L.drop (skipL L)) with
   | none =>
    rw [hk] at ht
    rw [lineStep_tok (by simp only;rw [hsk];exact hen) (by simp only;rw [hbl,hd,hsk];exact hst) ht]
    rw [restToks_none (by omega) (by rw [hsk];exact hen) ht] at hg
    simp only
    cases hrl:restL (L.length+1) L pre.length with
    | error e =>
     rw [hrl] at hg
     simp only [Except.error.injEq] at hg
     simp only [hg]
    | ok l=>rw [hrl] at hg;cases hg
   | some y =>
    obtain ⟨k,t,m⟩:=y
    rw [hk] at ht
    simp only [Option.map_some] at ht
    rw [restToks_go (by omega) (by rw [hsk];exact hen) ht] at hg
    simp only
    cases hrl:restL (L.length+1) L pre.length with
    | error e =>
     rw [hrl] at hg
     rw [lineStep_rest (by simp only;rw [hsk];exact hen) (by simp only;rw [hbl,hd,hsk];exact hst) ht hg]
    | ok l =>
     rw [hrl] at hg
     rw [lineStep_ok (by simp only;rw [hsk];exact hen) (by simp only;rw [hbl,hd,hsk];exact hst) ht hg]

def Alike (a b:List Value):Prop:=∃ l m:List (ByteArray × ByteArray × Nat),a=cellsOf l∧b=cellsOf m∧l.map (fun x=>(x.1,x.2.1))=m.map (fun x=>(x.1,x.2.1))
theorem Alike.nil:Alike [] []:=⟨[],[],rfl,rfl,rfl⟩
theorem Alike.tok {a b:List Value}(h:Alike a b) (k t:ByteArray) (i j:Nat):Alike (a++tokCells k t i) (b++tokCells k t j):=by
 obtain ⟨l,m,rfl,rfl,e⟩:=h
 exact ⟨l ++ [(k,t,i)],m ++ [(k,t,j)],by simp [cellsOf],by simp [cellsOf],by simp [e]⟩

theorem Alike.cells:∀ (l l':List (ByteArray × ByteArray × Nat)),l.map (fun x=>(x.1,x.2.1))=l'.map (fun x=>(x.1,x.2.1)) → ∀ {a b:List Value},Alike a b→Alike (a++cellsOf l) (b++cellsOf l')
 | [],[],_,a,b,h=>by simpa [cellsOf] using h
 | [],y::l',he,_,_,_=>by simp at he
 | x::l,[],he,_,_,_=>by simp at he
 | (k,t,i)::l,(k',t',j)::l',he,a,b,h=>by
  simp only [List.map_cons,List.cons.injEq,Prod.mk.injEq] at he
  obtain ⟨⟨rfl,rfl⟩,he⟩:=he
  have:=Alike.cells l l' he (h.tok k t i j)
  simpa [cellsOf] using this

end Go.Proofs.YtemapnogjepokaaGreatDoor

/- Package lex: what Lex comes to, with a blank, a comment or an empty line put in. -/
namespace Go.Proofs.YtemapnogjepokaaGreatDoor
open Go.RowKit

theorem after_list (s:ByteArray) (S p:List UInt8) (hS:lineEnd S) (h:s.data.toList=p++S):afterLine s p.length=(p++S.take 1).length:=by
 have hz:=data_size h
 unfold afterLine
 rcases hS with rfl | ⟨R,rfl⟩
 ·simp at hz
  rw [if_neg (by omega)]
  simp
 ·simp at hz
  rw [if_pos (by omega)]
  simp

theorem run_end (s:ByteArray) (p:Nat) (st:List Int) (n:Nat) (a:List Value) (h:¬ p<s.size):runLines s (s.size - p) ⟨p,st,n,a⟩ = .ok ⟨p,st,n,a⟩:=runLines_end (s:=s) (σ:=⟨p,st,n,a⟩) h

theorem split_line:∀ R:List UInt8,∃ L S,R=L++S∧noEnd L∧lineEnd S
 | []=>⟨[],[],rfl,fun c hc=>by simp at hc,.inl rfl⟩
 | c::R=>by
  by_cases hc:c=10
  ·exact ⟨[],c::R,rfl,fun c hc=>by simp at hc,.inr ⟨R,by rw [hc]⟩⟩
  ·obtain ⟨L,S,rfl,hL,hS⟩:=split_line R
   exact ⟨c::L,S,rfl,fun x hx=>by
    simp at hx
    rcases hx with rfl | hx
    ·exact hc
    ·exact hL x hx,hS⟩

end Go.Proofs.YtemapnogjepokaaGreatDoor

/- Package lex: tokens lie one behind the other, and each dedent has its indent. -/
namespace Go.Proofs.YtemapnogjepokaaGreatDoor
open Go.RowKit

def kDedent:ByteArray:=⟨#[100,101,100,101,110,116]⟩
def indB (k:ByteArray):Bool:=k.toList == [105,110,100,101,110,116]
def dedB (k:ByteArray):Bool:=k.toList == [100,101,100,101,110,116]
def depthFrom:Nat→List (ByteArray × ByteArray × Nat)→Option Nat
 | d,[]=>some d
 | d,x::l=>if indB x.1 then depthFrom (d+1) l else if dedB x.1 then (if d=0 then none else depthFrom (d - 1) l) else depthFrom d l

theorem depthFrom_append:∀ (l m:List (ByteArray × ByteArray × Nat)) (d e:Nat),depthFrom d l=some e→depthFrom d (l++m)=depthFrom e m
 | [],m,d,e,h=>by simp [depthFrom] at h;subst h;rfl
 | x::l,m,d,e,h=>by
  simp only [List.cons_append,depthFrom] at h ⊢
  split
  ·rename_i h1
   rw [if_pos h1] at h
   exact depthFrom_append l m _ e h
  ·rename_i h1
   rw [if_neg h1] at h
   split
   ·rename_i h2
    rw [if_pos h2] at h
    split
    ·rename_i h3;rw [if_pos h3] at h;cases h
    ·rename_i h3;rw [if_neg h3] at h;exact depthFrom_append l m _ e h
   ·rename_i h2
    rw [if_neg h2] at h
    exact depthFrom_append l m _ e h
theorem depthFrom_plain:∀ (l:List (ByteArray × ByteArray × Nat)) (d:Nat),(∀ x∈l,indB x.1=false∧dedB x.1=false)→depthFrom d l=some d
 | [],d,_=>rfl
 | x::l,d,h=>by
  have h1:=h x (by simp)
  simp only [depthFrom,h1.1,h1.2,Bool.false_eq_true,if_false]
  exact depthFrom_plain l d (fun y hy=>h y (by simp [hy]))

structure Fine (l:List (ByteArray × ByteArray × Nat)) (d e:Nat):Prop where
 mono:l.Pairwise fun x y=>x.2.2≤y.2.2
 le:∀ x∈l,x.2.2≤e
 short:∀ x∈l,x.2.1.size≤e
 deep:depthFrom 0 l=some d

theorem Fine.append {l m:List (ByteArray × ByteArray × Nat)}{d e d' e':Nat}(h:Fine l d e) (h1:m.Pairwise fun x y=>x.2.2≤y.2.2) (h2:∀ x∈m,e≤x.2.2∧x.2.2≤e') (he:e≤e') (h4:∀ x∈m,x.2.1.size≤e') (h3:depthFrom d m=some d'):Fine (l++m) d' e' where
 mono:=List.pairwise_append.mpr ⟨h.mono,h1,fun x hx y hy=>Nat.le_trans (h.le x hx) (h2 y hy).1⟩
 le:=fun x hx=>by
  simp at hx
  rcases hx with hx | hx
  ·exact Nat.le_trans (h.le x hx) he
  ·exact (h2 x hx).2
 short:=fun x hx=>by
  simp at hx
  rcases hx with hx | hx
  ·exact Nat.le_trans (h.short x hx) he
  ·exact h4 x hx
 deep:=(depthFrom_append l m 0 d h.deep).trans h3
theorem Fine.up {l:List (ByteArray × ByteArray × Nat)}{d e e':Nat}(h:Fine l d e) (he:e≤e'):Fine l d e':=⟨h.mono,fun x hx=>Nat.le_trans (h.le x hx) he,fun x hx=>Nat.le_trans (h.short x hx) he,h.deep⟩

theorem cells_append (l m:List (ByteArray × ByteArray × Nat)):cellsOf (l++m)=cellsOf l++cellsOf m:=by simp [cellsOf]

def dedentsL (i k:Nat):List (ByteArray × ByteArray × Nat):=List.replicate k (kDedent,⟨#[]⟩,i)
theorem dedents_cells (i:Nat):∀ k,dedents i k=cellsOf (dedentsL i k)
 | 0=>rfl
 | k+1=>by
  simp only [dedents,dedents_cells i k,dedentsL,List.replicate_succ',cells_append]
  simp [cellsOf,kDedent]
theorem ded_ded:indB kDedent=false∧dedB kDedent=true:=⟨by kernel_rfl,by kernel_rfl⟩
theorem ind_ind:indB kIndent=true:=by kernel_rfl
theorem plain_newline:indB kNewline=false∧dedB kNewline=false:=⟨by kernel_rfl,by kernel_rfl⟩
theorem plain_end:indB kEnd=false∧dedB kEnd=false:=⟨by kernel_rfl,by kernel_rfl⟩
theorem plain_kinds (k:ByteArray) (h:k=kWord∨k=kName∨k=kInt∨k=kStr∨k=kOp):indB k=false∧dedB k=false:=by
 rcases h with rfl | rfl | rfl | rfl | rfl <;> exact ⟨by kernel_rfl,by kernel_rfl⟩
theorem dedents_deep (i:Nat):∀ k d,k≤d→depthFrom d (dedentsL i k)=some (d - k)
 | 0,d,_=>rfl
 | k+1,d,h=>by
  have ih:=dedents_deep i k (d - 1) (by omega)
  simp only [dedentsL,List.replicate_succ,depthFrom,ded_ded.1,ded_ded.2,Bool.false_eq_true,if_false,if_true] at ih ⊢
  rw [if_neg (by omega),ih]
  congr 1
  omega

theorem tokL_kind {L:List UInt8}{k t:ByteArray}{m:Nat}(h:tokL L=some (k,t,m)):k=kWord∨k=kName∨k=kInt∨k=kStr∨k=kOp:=by
 cases L with
 | nil=>simp [tokL] at h
 | cons c L =>
  have hr:tokL (c::L)=if smallB (c.toNat:Int) || capitalB (c.toNat:Int) then (nameL c L).map fun x=>(if x.1 then kWord else kName,x.2.1,x.2.2)
   else if digitB (c.toNat:Int) then (intL c L).map fun x=>(kInt,x.1,x.2)
   else if (c.toNat:Int) == 34 then (strL (L.length+1) L []).map fun x=>(kStr,strOfNums x.1,x.2+1)
   else (opL (c::L) 21 0).map fun x=>(kOp,x.1,x.2):=rfl
  rw [hr] at h
  split at h
  ·simp only [Option.map_eq_some_iff] at h
   obtain ⟨z,hz,he⟩:=h
   simp only [Prod.mk.injEq] at he
   rw [←he.1]
   split
   ·exact .inl rfl
   ·exact .inr (.inl rfl)
  ·split at h
   ·simp only [Option.map_eq_some_iff,Prod.mk.injEq] at h
    obtain ⟨z,hz,he,_⟩:=h
    exact .inr (.inr (.inl he.symm))
   ·split at h
    ·simp only [Option.map_eq_some_iff,Prod.mk.injEq] at h
     obtain ⟨z,hz,he,_⟩:=h
     exact .inr (.inr (.inr (.inl he.symm)))
    ·simp only [Option.map_eq_some_iff,Prod.mk.injEq] at h
     obtain ⟨z,hz,he,_⟩:=h
     exact .inr (.inr (.inr (.inr he.symm)))

theorem nums_size (l:List Int):(strOfNums l).size=l.length:=by simp [strOfNums,ByteArray.size]
theorem take_size (l:List UInt8) (m:Nat):(⟨(l.take m).toArray⟩:ByteArray).size≤m:=by
 simp [ByteArray.size]
 omega
theorem strL_size:∀ (n:Nat) (L:List UInt8) (acc:List Int) (x:List Int × Nat),strL n L acc=some x→x.1.length≤acc.length+x.2
 | 0,_,_,_,h=>by simp [strL] at h
 | n+1,[],_,_,h=>by simp [strL] at h
 | n+1,c::L,acc,x,h=>by
  unfold strL at h
  split at h
  ·simp at h;subst h;simp
  ·split at h
   ·cases h
   ·split at h
    ·cases h
    ·split at h
     ·cases he:escL L with
      | none=>rw [he] at h;cases h
      | some y =>
       obtain ⟨v,k⟩:=y
       rw [he] at h
       simp only [Option.map_eq_some_iff] at h
       obtain ⟨z,hz,rfl⟩:=h
       have:=strL_size n (L.drop k) _ z hz
       simp at this ⊢
       omega
     ·simp only [Option.map_eq_some_iff] at h
      obtain ⟨z,hz,rfl⟩:=h
      have:=strL_size n L _ z hz
      simp at this ⊢
      omega
theorem opL_size (L:List UInt8):∀ (n k:Nat) (x:ByteArray × Nat),opL L n k=some x→x.1.size=x.2
 | 0,_,_,h=>by simp [opL] at h
 | n+1,k,x,h=>by
  unfold opL at h
  split at h
  ·simp at h;subst h;rfl
  ·exact opL_size L n (k+1) x h
theorem tokL_size {L:List UInt8}{k t:ByteArray}{m:Nat}(h:tokL L=some (k,t,m)):t.size≤m:=by
 cases L with
 | nil=>simp [tokL] at h
 | cons c L =>
  have hr:tokL (c::L)=if smallB (c.toNat:Int) || capitalB (c.toNat:Int) then (nameL c L).map fun x=>(if x.1 then kWord else kName,x.2.1,x.2.2)
   else if digitB (c.toNat:Int) then (intL c L).map fun x=>(kInt,x.1,x.2)
   else if (c.toNat:Int) == 34 then (strL (L.length+1) L []).map fun x=>(kStr,strOfNums x.1,x.2+1)
   else (opL (c::L) 21 0).map fun x=>(kOp,x.1,x.2):=rfl
  rw [hr] at h
  split at h
  ·simp only [Option.map_eq_some_iff,Prod.mk.injEq] at h
   obtain ⟨z,hz,_,rfl,rfl⟩:=h
   unfold nameL at hz
   simp only at hz
   split at hz
   ·simp at hz;subst hz;exact take_size _ _
   ·split at hz
    ·cases hz
    ·split at hz
     ·cases hz
     ·simp at hz;subst hz;exact take_size _ _
  ·split at h
   ·simp only [Option.map_eq_some_iff,Prod.mk.injEq] at h
    obtain ⟨z,hz,_,rfl,rfl⟩:=h
    unfold intL at hz
    simp only at hz
    split at hz
    ·cases hz
    ·split at hz
     ·simp at hz;subst hz;exact take_size _ _
     ·cases hz
   ·split at h
    ·simp only [Option.map_eq_some_iff,Prod.mk.injEq] at h
     obtain ⟨z,hz,_,rfl,rfl⟩:=h
     have:=strL_size _ _ _ z hz
     rw [nums_size]
     simp at this ⊢
     omega
    ·simp only [Option.map_eq_some_iff,Prod.mk.injEq] at h
     obtain ⟨z,hz,_,rfl,rfl⟩:=h
     have:=opL_size _ _ _ z hz
     omega

theorem restL_fine:∀ (f:Nat) (L:List UInt8) (o:Nat) (l:List (ByteArray × ByteArray × Nat)),restL f L o = .ok l→(l.Pairwise fun x y=>x.2.2≤y.2.2)∧(∀ x∈l,o+skipL L≤x.2.2∧x.2.2≤o+L.length)∧(∀ x∈l,indB x.1=false∧dedB x.1=false) ∧ ∀ x∈l,x.2.1.size≤o+L.length
 | 0,_,_,_,h=>by cases h
 | f+1,L,o,l,h=>by
  have hle:=skipL_le L
  unfold restL at h
  split at h
  ·simp only [Except.ok.injEq] at h
   subst h
   refine ⟨List.Pairwise.nil,fun x hx=>by simp at hx,fun x hx=>by simp at hx,fun x hx=>by simp at hx⟩
  ·cases hk:tokL (L.drop (skipL L)) with
   | none=>rw [hk] at h;cases h
   | some y =>
    obtain ⟨k,t,m⟩:=y
    rw [hk] at h
    have hm:=tokL_bd hk
    simp at hm
    simp only at h
    cases hr:restL f (L.drop (skipL L+m)) (o+(skipL L+m)) with
    | error e=>rw [hr] at h;cases h
    | ok l' =>
     rw [hr] at h
     simp only [Except.ok.injEq] at h
     subst h
     obtain ⟨i1,i2,i3,i4⟩:=restL_fine f _ _ l' hr
     refine ⟨List.pairwise_cons.mpr ⟨fun y hy => ?_,i1⟩,fun x hx => ?_,fun x hx => ?_,fun x hx => ?_⟩
     ·have:=(i2 y hy).1
      simp only
      omega
     ·simp at hx
      rcases hx with rfl | hx
      ·simp only;omega
      ·have:=i2 x hx
       simp at this
       omega
     ·simp at hx
      rcases hx with rfl | hx
      ·exact plain_kinds k (tokL_kind hk)
      ·exact i3 x hx
     ·simp at hx
      rcases hx with rfl | hx
      ·have:=tokL_size hk
       simp only
       omega
      ·have:=i4 x hx
       simp at this
       omega

theorem popTo_falls' (ind:Int):∀ st:List Int,falls st→falls (popTo ind st).2
 | [],_=>by simp [popTo,falls]
 | x::xs,h=>by
  unfold popTo
  split
  ·exact popTo_falls' ind xs (falls_tail h)
  ·exact h

theorem settle_fine {st st':List Int}{ind:Int}{i n n':Nat}{tk tk':List Value}(h:settleP st ind i n tk=some (st',n',tk')) (hl:st.getLast?=some 0) (hf:falls st) :
  falls st' ∧ ∃ m,tk'=tk++cellsOf m∧n'=n+m.length∧(∀ x∈m,x.2.2=i∧x.2.1.size=0)∧depthFrom (st.length - 1) m=some (st'.length - 1):=by
 have hi:=settleP_inv h hl
 unfold settleP at h
 cases st with
 | nil=>cases h
 | cons x xs =>
  simp only at h
  split at h
  ·rename_i hlt
   simp only [Option.some.injEq,Prod.mk.injEq] at h
   obtain ⟨rfl,rfl,rfl⟩:=h
   refine ⟨⟨hlt,hf⟩,[(kIndent,⟨#[]⟩,i)],by simp [cellsOf],rfl,fun x hx=>by simp at hx;rw [hx];exact ⟨rfl,rfl⟩,?_⟩
   simp only [depthFrom,ind_ind,if_true]
   simp
  ·split at h
   ·simp only [Option.some.injEq,Prod.mk.injEq] at h
    obtain ⟨rfl,rfl,rfl⟩:=h
    have hlen:=popTo_len ind (x::xs)
    have hne:(popTo ind (x::xs)).2 ≠ []:=by
     intro e
     rw [e] at hi
     simp at hi
    have hpos:0<(popTo ind (x::xs)).2.length:=List.length_pos_iff.mpr hne
    refine ⟨popTo_falls' ind _ hf,dedentsL i (popTo ind (x::xs)).1,by rw [dedents_cells],by simp [dedentsL],fun y hy=>by simp [dedentsL] at hy;rw [hy.2];exact ⟨rfl,rfl⟩,?_⟩
    rw [dedents_deep i _ _ (by omega)]
    congr 1
    omega
   ·cases h

structure FineSt (σ:LexSt):Prop where
 falls:falls σ.st
 ex:∃ l,σ.tk=cellsOf l∧σ.n=l.length∧Fine l (σ.st.length - 1) σ.at_

theorem line_fine (s:ByteArray) (S L pre:List UInt8) (hS:lineEnd S) (hL:noEnd L) (h:s.data.toList=pre++(L++S)) {st:List Int}{n:Nat}{tk:List Value}(hl:st.getLast?=some 0) (hF:FineSt ⟨pre.length,st,n,tk⟩) {σ:LexSt}(hs:lineStep s ⟨pre.length,st,n,tk⟩ = .ok σ):FineSt σ∧σ.at_=(pre++L++S.take 1).length:=by
 have e1:=after_list s S (pre++L) hS (by simpa using h)
 rw [@List.length_append _ pre] at e1
 have hle:=skipL_le L
 have hat:pre.length+L.length≤(pre++L++S.take 1).length:=by simp
 rw [lineStep_list s S L pre hS hL h] at hs
 obtain ⟨l,h1,h2,h3⟩:=hF.ex
 simp only at h1 h2 h3
 split at hs
 ·simp only [Except.ok.injEq] at hs
  subst hs
  exact ⟨⟨hF.falls,l,h1,h2,h3.up (by simp only;omega)⟩,e1⟩
 ·cases hst:settleP st (blanksL L:Nat) (pre.length+skipL L) n tk with
  | none=>rw [hst] at hs;cases hs
  | some x =>
   obtain ⟨st',n',tk'⟩:=x
   rw [hst] at hs
   simp only at hs
   obtain ⟨g1,m,rfl,rfl,g4,g5⟩:=settle_fine hst hl hF.falls
   cases hr:restL (L.length+1) L pre.length with
   | error e=>rw [hr] at hs;cases hs
   | ok r =>
    rw [hr] at hs
    simp only [Except.ok.injEq] at hs
    subst hs
    obtain ⟨i1,i2,i3,i4⟩:=restL_fine _ _ _ r hr
    refine ⟨⟨g1,l++m++r ++ [(kNewline,⟨#[]⟩,pre.length+L.length)],?_,?_,?_⟩,e1⟩
    ·simp only [h1,cells_append]
     simp [cellsOf]
    ·simp only [h2]
     simp
     omega
    ·have f1:Fine (l++m) (st'.length - 1) (pre.length+skipL L):=h3.append (m:=m) (List.pairwise_of_forall_mem_list fun x hx y hy=>by rw [(g4 x hx).1,(g4 y hy).1];exact Nat.le_refl _) (fun x hx=>by rw [(g4 x hx).1];omega) (by omega) (fun x hx=>by rw [(g4 x hx).2];omega) g5
     have f2:Fine (l++m++r) (st'.length - 1) (pre.length+L.length):=f1.append i1 (fun x hx=>i2 x hx) (by omega) i4 (depthFrom_plain r _ i3)
     have f3:=f2.append (m:=[(kNewline,⟨#[]⟩,pre.length+L.length)]) (e':=(pre++L++S.take 1).length) (by simp) (fun x hx=>by simp only [List.mem_singleton] at hx;subst hx;exact ⟨Nat.le_refl _,hat⟩) hat (fun x hx=>by simp only [List.mem_singleton] at hx;subst hx;exact Nat.zero_le _) (depthFrom_plain _ _ (fun x hx=>by simp only [List.mem_singleton] at hx;subst hx;exact plain_newline))
     rw [e1]
     exact f3

theorem run_fine (s:ByteArray):∀ (N:Nat) (R pre:List UInt8) (st:List Int) (n:Nat) (tk:List Value),R.length≤N→s.data.toList=pre++R→Inv s ⟨pre.length,st,n,tk⟩→FineSt ⟨pre.length,st,n,tk⟩ → ∀ σ,runLines s (s.size - pre.length) ⟨pre.length,st,n,tk⟩ = .ok σ→FineSt σ∧σ.st.getLast?=some 0∧σ.at_≤s.size
 | N,[],pre,st,n,tk,_,h,I,hF,σ,hr=>by
  have hz:=data_size h
  rw [run_end s _ _ _ _ (by simp at hz ⊢;omega)] at hr
  simp only [Except.ok.injEq] at hr
  subst hr
  exact ⟨hF,I.last,I.hat⟩
 | 0,c::R,_,_,_,_,hN,_,_,_,_,_=>by simp at hN
 | N+1,c::R,pre,st,n,tk,hN,h,I,hF,σ,hr=>by
  have hz:=data_size h
  simp at hz
  obtain ⟨L,S,e,hL,hS⟩:=split_line (c::R)
  have h1:s.data.toList=pre++(L++S):=by rw [h,e]
  have hlt:pre.length<s.size:=by omega
  cases hs:lineStep s ⟨pre.length,st,n,tk⟩ with
  | error x=>rw [runLines_err hlt hs] at hr;cases hr
  | ok τ =>
   rw [runLines_go I hlt hs] at hr
   have I1:=(lineStep_inv I hlt hs).1
   obtain ⟨hF1,hat⟩:=line_fine s S L pre hS hL h1 I.last hF hs
   have hlen:=congrArg List.length e
   simp at hlen
   obtain ⟨at1,st1,n1,tk1⟩:=τ
   simp only at hat
   subst hat
   refine run_fine s N (S.drop 1) _ st1 n1 tk1 ?_ ?_ I1 hF1 σ hr
   ·simp at hN ⊢
    cases S with
    | nil=>simp
    | cons d S=>simp at hlen ⊢;omega
   ·rw [h1]
    simp only [List.append_assoc,List.take_append_drop]

theorem falls_one:∀ st:List Int,falls st→st.head?=some 0→st.getLast?=some 0→st.length=1
 | [],_,h,_=>by simp at h
 | [x],_,_,_=>rfl
 | x::y::r,hf,h,hl=>by
  exfalso
  simp at h
  subst h
  have hg:(y::r)[(y::r).length - 1]?=some 0:=by
   rw [←List.getLast?_eq_getElem?]
   simpa using hl
  have:=falls_lt (y::r) 0 _ 0 hf hg
  omega

theorem lexP_fine {s:ByteArray}{n:Nat}{tk:List Value}(h:lexP s = .ok (n,tk)):∃ l,tk=cellsOf l∧n=l.length∧(l.Pairwise fun x y=>x.2.2≤y.2.2)∧depthFrom 0 l=some 0 ∧ ∀ x∈l,x.2.1.size≤s.size:=by
 unfold lexP at h
 cases hr:runLines s s.size ⟨0,[0],0,[]⟩ with
 | error e=>rw [hr] at h;cases h
 | ok σ =>
  rw [hr] at h
  simp only at h
  have hr':runLines s (s.size - ([]:List UInt8).length) ⟨([]:List UInt8).length,[0],0,[]⟩ = .ok σ:=by simpa using hr
  obtain ⟨hF,hl,hsz⟩:=run_fine s s.size s.data.toList [] [0] 0 [] (by simp) (by simp) (inv0 s) ⟨trivial,[],rfl,rfl,⟨List.Pairwise.nil,fun x hx=>by simp at hx,fun x hx=>by simp at hx,rfl⟩⟩ σ hr'
  cases hst:settleP σ.st 0 σ.at_ σ.n σ.tk with
  | none=>rw [hst] at h;cases h
  | some x =>
   obtain ⟨st',n',tk'⟩:=x
   rw [hst] at h
   simp only [Except.ok.injEq,Prod.mk.injEq] at h
   obtain ⟨g1,m,rfl,rfl,g4,g5⟩:=settle_fine hst hl hF.falls
   obtain ⟨l,h1,h2,h3⟩:=hF.ex
   have hi:=settleP_inv hst hl
   have hd:st'.head?=some 0:=by
    unfold settleP at hst
    cases hσ:σ.st with
    | nil=>rw [hσ] at hst;cases hst
    | cons x xs =>
     rw [hσ] at hst
     simp only at hst
     split at hst
     ·rename_i hlt
      exfalso
      have hgl:(x::xs)[(x::xs).length - 1]?=some 0:=by rw [←List.getLast?_eq_getElem?,←hσ];exact hl
      have hff:=hF.falls
      rw [hσ] at hff
      cases xs with
      | nil=>simp at hgl;omega
      | cons y r =>
       have:=falls_lt (y::r) x ((y::r).length - 1) 0 hff (by simpa using hgl)
       omega
     ·split at hst
      ·rename_i hh
       simp only [Option.some.injEq,Prod.mk.injEq] at hst
       rw [←hst.1]
       exact hh
      ·cases hst
   have hone:=falls_one st' g1 hd hi.1
   rw [hone] at g5
   have f1:Fine (l++m) 0 σ.at_:=h3.append (m:=m) (List.pairwise_of_forall_mem_list fun x hx y hy=>by rw [(g4 x hx).1,(g4 y hy).1];exact Nat.le_refl _) (fun x hx=>by rw [(g4 x hx).1];omega) (Nat.le_refl _) (fun x hx=>by rw [(g4 x hx).2];omega) g5
   have f2:=f1.append (m:=[(kEnd,⟨#[]⟩,σ.at_)]) (e':=σ.at_) (by simp) (fun x hx=>by simp only [List.mem_singleton] at hx;subst hx;exact ⟨Nat.le_refl _,Nat.le_refl _⟩) (Nat.le_refl _) (fun x hx=>by simp only [List.mem_singleton] at hx;subst hx;exact Nat.zero_le _) (depthFrom_plain _ _ (fun x hx=>by simp only [List.mem_singleton] at hx;subst hx;exact plain_end))
   refine ⟨l++m ++ [(kEnd,⟨#[]⟩,σ.at_)],?_,?_,f2.mono,f2.deep,fun x hx=>Nat.le_trans (f2.short x hx) hsz⟩
   ·rw [←h.2,h1]
    simp [cellsOf]
   ·rw [←h.1,h2]
    simp
    omega
end Go.Proofs.YtemapnogjepokaaGreatDoor

/- Package lex: what Lex tells, as cells; once and for all. -/
namespace Go.Proofs.YtemapnogjepokaaGreatDoor
open Go.RowKit

def Told (s:ByteArray) (B:Nat) (v5 v6:Value) (w:World):Prop:=
 match lexP s with
 | .ok (n,tk) => ∃ g cap,v5 = .slice (some ⟨g,0,none⟩) n cap∧v6 = .nilIface∧B≤g∧g<w.heap.size∧(∀ k v,tk[k]?=some v→w.cell? ⟨g,k,none⟩=some v)
 | .error _=>v5 = .slice none 0 0 ∧ ∃ b,v6 = .iface 61 (.pointer (some ⟨b,0,none⟩))

theorem Told.below {s:ByteArray}{B:Nat}{v5 v6:Value}{w w':World}(h:Told s B v5 v6 w) (hb:Below w.heap.size w w'):Told s B v5 v6 w':=by
 unfold Told at h ⊢
 cases hl:lexP s with
 | error e=>rw [hl] at h;exact h
 | ok x =>
  obtain ⟨n,tk⟩:=x
  rw [hl] at h
  obtain ⟨g,cap,h1,h2,h3,h4,h5⟩:=h
  exact ⟨g,cap,h1,h2,h3,Nat.lt_of_lt_of_le h4 hb.size,fun k v hk=>(hb.cell (p:=⟨g,k,none⟩) h4).trans (h5 k v hk)⟩

theorem lexP_pos {s:ByteArray}{n:Nat}{tk:List Value}(h:lexP s = .ok (n,tk)):0<n:=by
 obtain ⟨l,_,rfl,_,hd,_⟩:=lexP_fine h
 cases l with
 | nil =>
  exfalso
  unfold lexP at h
  split at h
  ·cases h
  ·split at h
   ·cases h
   ·simp at h
 | cons _ _=>simp
theorem run_inv (s:ByteArray):∀ {f:Nat}{σ τ:LexSt},Inv s σ→runLines s f σ = .ok τ→Inv s τ
 | 0,σ,τ,I,h=>by simp [runLines] at h;subst h;exact I
 | f+1,σ,τ,I,h=>by
  unfold runLines at h
  split at h
  ·rename_i hlt
   cases hs:lineStep s σ with
   | error e=>rw [hs] at h;cases h
   | ok σ' =>
    rw [hs] at h
    exact run_inv s (lineStep_inv I hlt hs).1 h
  ·simp at h;subst h;exact I
theorem lexP_bd {s:ByteArray}{n:Nat}{tk:List Value}(h:lexP s = .ok (n,tk)):n≤4*s.size+4:=by
 unfold lexP at h
 cases hr:runLines s s.size ⟨0,[0],0,[]⟩ with
 | error e=>rw [hr] at h;cases h
 | ok σ =>
  rw [hr] at h
  simp only at h
  have hI:=run_inv s (f:=s.size) (inv0 s) hr
  cases hst:settleP σ.st 0 σ.at_ σ.n σ.tk with
  | none=>rw [hst] at h;cases h
  | some x =>
   obtain ⟨st',n',tk'⟩:=x
   rw [hst] at h
   simp only [Except.ok.injEq,Prod.mk.injEq] at h
   have h1:=settleP_inv hst hI.last
   have h2:=hI.cnt
   have h3:=hI.hat
   omega

theorem cells_get:∀ (l:List (ByteArray × ByteArray × Nat)) (j:Nat) (x:ByteArray × ByteArray × Nat),l[j]?=some x→(cellsOf l)[j*3]?=some (.string x.1)∧(cellsOf l)[j*3+1]?=some (.string x.2.1)∧(cellsOf l)[j*3+2]?=some (.int .i64 x.2.2)
 | [],j,x,h=>by simp at h
 | y::l,0,x,h=>by
  simp at h
  subst h
  exact ⟨rfl,rfl,rfl⟩
 | y::l,j+1,x,h=>by
  have ih:=cells_get l j x (by simpa using h)
  have e:cellsOf (y::l)=tokCells y.1 y.2.1 y.2.2++cellsOf l:=rfl
  have hl:(tokCells y.1 y.2.1 y.2.2).length=3:=rfl
  rw [e,List.getElem?_append_right (by omega),List.getElem?_append_right (by omega),List.getElem?_append_right (by omega),hl]
  rw [show (j+1)*3 - 3=j*3 by omega,show (j+1)*3+1 - 3=j*3+1 by omega,show (j+1)*3+2 - 3=j*3+2 by omega]
  exact ih

end Go.Proofs.YtemapnogjepokaaGreatDoor

/- Package tree: where its reader stands; next, pass, throw, need, isMark, passMark, needMark, name, by contracts. -/
namespace Go.Proofs.YtemapnogjepokaaGreatDoor
open Go.RowKit

structure Keeps (p:Nat) (w w':World):Prop where
 below:Below p w w'
 block:∀ k,k≠p→k<w.heap.size→w'.heap[k]?=w.heap[k]?
theorem Keeps.refl (p:Nat) (w:World):Keeps p w w:=⟨Below.refl _ _,fun _ _ _=>rfl⟩
theorem Keeps.trans {p:Nat}{a b c:World}(h:Keeps p a b) (k:Keeps p b c):Keeps p a c:=
 ⟨h.below.trans k.below,fun i hi hl=>(k.block i hi (Nat.lt_of_lt_of_le hl h.below.size)).trans (h.block i hi hl)⟩
theorem Keeps.of {p:Nat}{w w':World}(h:Below w.heap.size w w') (hp:p≤w.heap.size):Keeps p w w':=⟨h.mono hp,fun k _ hk=>h.block k hk⟩
theorem Keeps.set {p o:Nat}{w w':World}{v:Value}(h:Keeps p w w'):Keeps p w (w'.setCell ⟨p,o,none⟩ v):=
 ⟨h.below.setCell (Nat.le_refl _) _,fun k hk hl=>(heap_set _ _ _ _ _ hk).trans (h.block k hk hl)⟩

structure RD (w:World) (p g cap:Nat) (rk:Value) (l:List (ByteArray × ByteArray × Nat)) (k bl dp:Nat):Prop where
 blk:w.heap[p]?=some (.cells #[.slice (some ⟨g,0,none⟩) l.length cap,.int .i64 (k:Int),rk,.int .i64 (bl:Int),.int .i64 (dp:Int)] 102)
 toks:∀ j v,(cellsOf l)[j]?=some v→w.cell? ⟨g,j,none⟩=some v
 gp:g≠p
 gl:g<w.heap.size
theorem RD.more {w w':World}{p g cap:Nat}{rk:Value}{l:List (ByteArray × ByteArray × Nat)}{k bl dp:Nat}(h:RD w p g cap rk l k bl dp) (hb:Below w.heap.size w w'):RD w' p g cap rk l k bl dp:=
 ⟨(hb.block _ (lt_of_heap h.blk)).trans h.blk,fun j v hj=>(hb.cell (p:=⟨g,j,none⟩) h.gl).trans (h.toks j v hj),h.gp,Nat.lt_of_lt_of_le h.gl hb.size⟩
theorem RD.cells {w:World}{p g cap:Nat}{rk:Value}{l:List (ByteArray × ByteArray × Nat)}{k bl dp:Nat}(h:RD w p g cap rk l k bl dp) :
  w.cell? ⟨p,0,none⟩=some (.slice (some ⟨g,0,none⟩) l.length cap)∧w.cell? ⟨p,1,none⟩=some (.int .i64 (k:Int))∧w.cell? ⟨p,2,none⟩=some rk∧w.cell? ⟨p,3,none⟩=some (.int .i64 (bl:Int))∧w.cell? ⟨p,4,none⟩=some (.int .i64 (dp:Int)):=by
 refine ⟨?_,?_,?_,?_,?_⟩
 ·rw [cell_of_row w p 0 _ _ _ h.blk];rfl
 ·rw [cell_of_row w p 1 _ _ _ h.blk];rfl
 ·rw [cell_of_row w p 2 _ _ _ h.blk];rfl
 ·rw [cell_of_row w p 3 _ _ _ h.blk];rfl
 ·rw [cell_of_row w p 4 _ _ _ h.blk];rfl
theorem RD.open_ {w:World}{p g cap:Nat}{rk:Value}{l:List (ByteArray × ByteArray × Nat)}{k bl dp:Nat}(h:RD w p g cap rk l k bl dp) (o:Nat):w.frozen? ⟨p,o,none⟩=false:=by
 simp [World.frozen?,h.blk]
theorem RD.tok {w:World}{p g cap:Nat}{rk:Value}{l:List (ByteArray × ByteArray × Nat)}{k bl dp j:Nat}(h:RD w p g cap rk l k bl dp) {x:ByteArray × ByteArray × Nat}(hx:l[j]?=some x) :
  w.cell? ⟨g,j*3,none⟩=some (.string x.1)∧w.cell? ⟨g,j*3+1,none⟩=some (.string x.2.1)∧w.cell? ⟨g,j*3+2,none⟩=some (.int .i64 (x.2.2:Int)):=by
 obtain ⟨e1,e2,e3⟩:=cells_get l j x hx
 exact ⟨h.toks _ _ e1,h.toks _ _ e2,h.toks _ _ e3⟩
theorem heap_set_same {w:World}{p o:Nat}{v:Value}{cs:Array Value}{t:TypeId}{fr:Nat × Nat}(h:w.heap[p]?=some (.cells cs t fr)):(w.setCell ⟨p,o,none⟩ v).heap[p]?=some (.cells (cs.setIfInBounds o v) t fr):=by
 simp [World.setCell,Array.getElem?_modify,h]

theorem RD.other {w:World}{p g cap:Nat}{rk:Value}{l:List (ByteArray × ByteArray × Nat)}{k bl dp b o:Nat}{v:Value}(R:RD w p g cap rk l k bl dp) (hp:p≠b) (hg:g≠b):RD (w.setCell ⟨b,o,none⟩ v) p g cap rk l k bl dp:=
 ⟨(heap_set _ _ _ _ _ hp).trans R.blk,fun j u hj=>by rw [World.cell?_of_block (w:=w) (a:=⟨g,j,none⟩) (heap_set _ _ _ _ _ hg)];exact R.toks j u hj,R.gp,by rw [size_set];exact R.gl⟩
theorem Keeps.other {p b o:Nat}{w w':World}{v:Value}(h:Keeps p w w') (hp:p≤b) (hb:w.heap.size≤b):Keeps p w (w'.setCell ⟨b,o,none⟩ v):=
 ⟨h.below.setCell hp _,fun k hk hl=>(heap_set _ _ _ _ _ (by omega)).trans (h.block k hk hl)⟩
theorem tokL_block {w:World}{b:Nat}(h:w.heap[b]?=some (.cells #[.string ⟨#[]⟩,.string ⟨#[]⟩,.int .i64 0] 121)) :
  w.cell? ⟨b,0,none⟩=some (.string ⟨#[]⟩)∧w.cell? ⟨b,1,none⟩=some (.string ⟨#[]⟩)∧w.cell? ⟨b,2,none⟩=some (.int .i64 0)∧w.frozen? ⟨b,0,none⟩=false∧w.frozen? ⟨b,1,none⟩=false∧w.frozen? ⟨b,2,none⟩=false:=by
 refine ⟨?_,?_,?_,?_,?_,?_⟩
 ·rw [cell_of_row w b 0 _ _ _ h];rfl
 ·rw [cell_of_row w b 1 _ _ _ h];rfl
 ·rw [cell_of_row w b 2 _ _ _ h];rfl
 ·simp [World.frozen?,h]
 ·simp [World.frozen?,h]
 ·simp [World.frozen?,h]
theorem tokL_set {w:World}{b:Nat}{u0 u1 u2:Value}(r0:w.cell? ⟨b,0,none⟩=some u0) (r1:w.cell? ⟨b,1,none⟩=some u1) (r2:w.cell? ⟨b,2,none⟩=some u2) (v0 v1 v2:Value) :
  (((w.setCell ⟨b,0,none⟩ v0).setCell ⟨b,1,none⟩ v1).setCell ⟨b,2,none⟩ v2).cell? ⟨b,0,none⟩=some v0∧(((w.setCell ⟨b,0,none⟩ v0).setCell ⟨b,1,none⟩ v1).setCell ⟨b,2,none⟩ v2).cell? ⟨b,1,none⟩=some v1∧(((w.setCell ⟨b,0,none⟩ v0).setCell ⟨b,1,none⟩ v1).setCell ⟨b,2,none⟩ v2).cell? ⟨b,2,none⟩=some v2:=by
 refine ⟨?_,?_,?_⟩
 ·rw [cell_set _ _ _ _ _ (by decide),cell_set _ _ _ _ _ (by decide)]
  exact World.cell?_setCell_same _ _ _ r0
 ·rw [cell_set _ _ _ _ _ (by decide)]
  exact World.cell?_setCell_same _ _ _ ((cell_set _ _ _ _ _ (by decide)).trans r1)
 ·exact World.cell?_setCell_same _ _ _ ((cell_set _ _ _ _ _ (by decide)).trans ((cell_set _ _ _ _ _ (by decide)).trans r2))
theorem results_tok (f:Func) (r:Nat) (hr:f.results = #[.cell r 121]) (tmps:Array Value) (W:World) (b:Nat) (v0 v1 v2:Value) (h2:tmps[r]?.getD undef = .pointer (some ⟨b,0,none⟩)) (c0:W.cell? ⟨b,0,none⟩=some v0) (c1:W.cell? ⟨b,1,none⟩=some v1) (c2:W.cell? ⟨b,2,none⟩=some v2) :
  (results f tmps).run Tryz.prog W = .ok (.agg #[v0,v1,v2]) W:=by
 simp [results,hr,go_sem,h2,c0,c1,c2]

theorem tok_new (w:World) (a b c:Value) (o:Nat) {v:Value}(h:(#[a,b,c]:Array Value)[o]?=some v):((w.alloc (.cells #[a,b,c] 121)).drew).cell? ⟨w.heap.size,o,none⟩=some v:=by
 show (w.alloc (.cells #[a,b,c] 121)).cell? ⟨w.heap.size,o,none⟩=some v
 rw [cell_of_row _ _ o _ _ _ (heap_alloc_new w _)]
 exact h
theorem toHid {p:Prop}(h:p):Hid p:=h

set_option maxHeartbeats 1000000 in
theorem tnext_any {w:World}{p g cap:Nat}{rk:Value}{l:List (ByteArray × ByteArray × Nat)}{k bl dp:Nat}(R:RD w p g cap rk l k bl dp) {x:ByteArray × ByteArray × Nat}(hx:l[k]?=some x) :
  Calls Tryz.prog 60 #[.pointer (some ⟨p,0,none⟩)] w fun ev w'=>ev = .returned (.agg #[.string x.1,.string x.2.1,.int .i64 (x.2.2:Int)])∧Below w.heap.size w w':=by
 obtain ⟨r0,r1,_,_,_⟩:=R.cells
 obtain ⟨t0,t1,t2⟩:=R.tok hx
 have hk:=(List.getElem?_eq_some_iff.1 hx).1
 have hI0:(0:Int)≤(k:Int):=by omega
 have hI1:(k:Int)<(l.length:Int):=by omega
 have hpl:=lt_of_heap R.blk
 have hgl:=R.gl
 obtain ⟨a,b,c⟩:=x
 simp only at t0 t1 t2
 clear R hx
 go_enter Tryz.func60,Tryz.ntmps60
 go_wp2_with fail
 go_region_held3 (fun w'=>w'.cell? ⟨p,0,none⟩=some (.slice (some ⟨g,0,none⟩) l.length cap)∧w'.cell? ⟨p,1,none⟩=some (.int .i64 (k:Int))∧w'.cell? ⟨g,k*3,none⟩=some (.string a)∧w'.cell? ⟨g,k*3+1,none⟩=some (.string b)∧w'.cell? ⟨g,k*3+2,none⟩=some (.int .i64 (c:Int))) (go_keep) (fail)
 go_wp2
 refine bodyPost_ret (results_tok _ 2 rfl _ _ w.heap.size _ _ _ rfl (tok_new w _ _ _ 0 rfl) (tok_new w _ _ _ 1 rfl) (tok_new w _ _ _ 2 rfl)) rfl ?_
 exact ⟨rfl,((Below.refl _ _).alloc (Nat.le_refl _) _).drew⟩

theorem RD.set {w:World}{p g cap:Nat}{rk:Value}{l:List (ByteArray × ByteArray × Nat)}{k bl dp:Nat}(R:RD w p g cap rk l k bl dp) (k':Nat):RD (w.setCell ⟨p,1,none⟩ (.int .i64 (k':Int))) p g cap rk l k' bl dp:=by
 refine ⟨?_,fun j v hj => ?_,R.gp,by rw [size_set];exact R.gl⟩
 ·rw [heap_set_same R.blk]
  rfl
 ·rw [World.cell?_of_block (w:=w) (a:=⟨g,j,none⟩) (heap_set _ _ _ _ _ R.gp)]
  exact R.toks j v hj
theorem RD.deep {w:World}{p g cap:Nat}{rk:Value}{l:List (ByteArray × ByteArray × Nat)}{k bl dp:Nat}(R:RD w p g cap rk l k bl dp) (dp':Nat):RD (w.setCell ⟨p,4,none⟩ (.int .i64 (dp':Int))) p g cap rk l k bl dp':=by
 refine ⟨?_,fun j v hj => ?_,R.gp,by rw [size_set];exact R.gl⟩
 ·rw [heap_set_same R.blk]
  rfl
 ·rw [World.cell?_of_block (w:=w) (a:=⟨g,j,none⟩) (heap_set _ _ _ _ _ R.gp)]
  exact R.toks j v hj
theorem RD.blocks {w:World}{p g cap:Nat}{rk:Value}{l:List (ByteArray × ByteArray × Nat)}{k bl dp:Nat}(R:RD w p g cap rk l k bl dp) (bl':Nat):RD (w.setCell ⟨p,3,none⟩ (.int .i64 (bl':Int))) p g cap rk l k bl' dp:=by
 refine ⟨?_,fun j v hj => ?_,R.gp,by rw [size_set];exact R.gl⟩
 ·rw [heap_set_same R.blk]
  rfl
 ·rw [World.cell?_of_block (w:=w) (a:=⟨g,j,none⟩) (heap_set _ _ _ _ _ R.gp)]
  exact R.toks j v hj

set_option maxHeartbeats 1000000 in
theorem tpass_any {w:World}{p g cap:Nat}{rk:Value}{l:List (ByteArray × ByteArray × Nat)}{k bl dp:Nat}(R:RD w p g cap rk l k bl dp) {x:ByteArray × ByteArray × Nat}(hx:l[k]?=some x) (hl:l.length≤100000) :
  Calls Tryz.prog 111 #[.pointer (some ⟨p,0,none⟩)] w fun ev w'=>ev = .returned (.agg #[.string x.1,.string x.2.1,.int .i64 (x.2.2:Int)])∧RD w' p g cap rk l (k+1) bl dp∧Keeps p w w':=by
 have hk:=(List.getElem?_eq_some_iff.1 hx).1
 have hpl:=lt_of_heap R.blk
 have hgl:=R.gl
 obtain ⟨p0,p1,_,_,_⟩:=R.cells
 have pf:=R.open_ 1
 have e1:((k+1:Nat):Int)=(k:Int)+1:=by omega
 have R1:RD (w.setCell ⟨p,1,none⟩ (.int .i64 ((k:Int)+1))) p g cap rk l (k+1) bl dp:=by rw [←e1];exact R.set (k+1)
 have K1:Keeps p w (w.setCell ⟨p,1,none⟩ (.int .i64 ((k:Int)+1))):=(Keeps.refl p w).set
 have hI0:(0:Int)≤(k:Int):=by omega
 have hI1:(k:Int)<(l.length:Int):=by omega
 have hwr:IntKind.i64.wrap (k:Int)=(k:Int):=wrap_small _ (by omega) (by omega)
 have HS:=toHid (size_set w ⟨p,1,none⟩ (.int .i64 ((k:Int)+1)))
 clear R
 go_enter Tryz.func111,Tryz.ntmps111
 go_wp2_with fail
 generalize w.setCell ⟨p,1,none⟩ (.int .i64 ((k:Int)+1))=w1 at R1 K1 HS ⊢
 rw [←HS.out]
 obtain ⟨r0,r1,_,_,_⟩:=R1.cells
 obtain ⟨t0,t1,t2⟩:=R1.tok hx
 have hp1:=lt_of_heap R1.blk
 have hg1:=R1.gl
 rw [e1] at r1
 have HR1:=toHid R1
 have HK1:=toHid K1
 clear R1 K1 e1 p0 p1 pf hpl hgl hx
 obtain ⟨a,b,c⟩:=x
 simp only at t0 t1 t2
 go_region_held3 (fun w'=>w'.cell? ⟨p,0,none⟩=some (.slice (some ⟨g,0,none⟩) l.length cap)∧w'.cell? ⟨p,1,none⟩=some (.int .i64 ((k:Int)+1))∧w'.cell? ⟨g,k*3,none⟩=some (.string a)∧w'.cell? ⟨g,k*3+1,none⟩=some (.string b)∧w'.cell? ⟨g,k*3+2,none⟩=some (.int .i64 (c:Int))) (go_keep) (fail)
 go_wp2
 refine bodyPost_ret (results_tok _ 2 rfl _ _ w1.heap.size _ _ _ rfl (tok_new w1 _ _ _ 0 rfl) (tok_new w1 _ _ _ 1 rfl) (tok_new w1 _ _ _ 2 rfl)) rfl ?_
 have hb:Below w1.heap.size w1 (w1.alloc (.cells #[.string a,.string b,.int .i64 (c:Int)] 121)).drew:=((Below.refl _ _).alloc (Nat.le_refl _) _).drew
 exact ⟨rfl,HR1.out.more hb,HK1.out.trans (Keeps.of hb (by omega))⟩

theorem field0 (a b c:Value) (w:World):(Instr.field 121 (.agg #[a,b,c]) 0).run Tryz.prog w = .ok a w:=by kernel_rfl
theorem field1 (a b c:Value) (w:World):(Instr.field 121 (.agg #[a,b,c]) 1).run Tryz.prog w = .ok b w:=by kernel_rfl
theorem field2 (a b c:Value) (w:World):(Instr.field 121 (.agg #[a,b,c]) 2).run Tryz.prog w = .ok c w:=by kernel_rfl

set_option maxRecDepth 100000 in
theorem tthrow_any {w:World}{p g cap:Nat}{rk:Value}{l:List (ByteArray × ByteArray × Nat)}{k bl dp:Nat}(R:RD w p g cap rk l k bl dp) {x:ByteArray × ByteArray × Nat}(hx:l[k]?=some x) (a:Addr) :
  Calls Tryz.prog 120 #[.pointer (some ⟨p,0,none⟩),.iface 214 (.pointer (some a))] w fun ev w'=>Thrown p w x.2.2 a ev w':=by
 have hpl:=lt_of_heap R.blk
 go_enter Tryz.func120,Tryz.ntmps120
 go_wp2_with fail
 refine (tnext_any R hx).mono ?_
 rintro ev w1 ⟨rfl,hb⟩
 have hsz:=hb.size
 obtain ⟨kd,tx,at_⟩:=x
 simp only
 have F2:=field2 (.string kd) (.string tx) (.int .i64 (at_:Int))
 clear R hx
 go_wp2
 exact ⟨rfl,w1.heap.size,rfl,(hb.mono (by omega)).alloc (by omega) _,cell_new rfl rfl,cell_new rfl rfl⟩

def TS (w:World) (b o:Nat) (ts:List ByteArray):Prop:=∀ (j:Nat) (t:ByteArray),ts[j]?=some t→w.cell? ⟨b,o+j,none⟩=some (.string t)
theorem TS.more {w w':World}{b o:Nat}{ts:List ByteArray}(h:TS w b o ts) (hb:Below w.heap.size w w'):TS w' b o ts:=fun j t hj=>(hb.cell (p:=⟨b,o+j,none⟩) (lt_of_cell (h j t hj))).trans (h j t hj)

def hasB (ts:List ByteArray) (t:ByteArray):Bool:=ts.any fun x=>t.toList == x.toList

theorem hasB_drop {ts:List ByteArray}{j:Nat}{x t:ByteArray}(h:ts[j]?=some x):hasB (ts.drop j) t=((t.toList == x.toList) || hasB (ts.drop (j+1)) t):=by
 obtain ⟨hj,e⟩:=List.getElem?_eq_some_iff.1 h
 unfold hasB
 rw [List.drop_eq_getElem_cons hj,e]
 rfl

set_option maxHeartbeats 1000000 in
theorem indexS_any (ts:List ByteArray) (t:ByteArray) (b o cap:Nat) (hn:ts.length≤100) (w:World) (h:TS w b o ts) :
  Calls Tryz.prog 143 #[.slice (some ⟨b,o,none⟩) ts.length cap,.string t] w fun ev w' => ∃ i:Int,ev = .returned (.int .i64 i)∧decide (0≤i)=hasB ts t∧w'=w:=by
 have HT:=toHid h
 clear h
 go_enter Tryz.func143,Tryz.ntmps143
 go_wp2
 go_loopg [8] (ts.length+1) (fun gk v8 wr => ∃ j:Nat,gk=ts.length+1 - j∧j≤ts.length∧v8 = .int .i64 (j:Int)∧hasB (ts.drop j) t=hasB ts t∧wr=w)
 case atStart=>exact ⟨0,rfl,Nat.zero_le _,rfl,rfl,rfl⟩
 case round =>
  obtain ⟨j,hg,hj,hv,hh,rfl⟩:=hrel
  subst hv
  have HG:=toHid hg
  have HH:=toHid hh
  clear hg hh
  have hj0:(0:Int)≤(j:Int):=by omega
  by_cases hlt:j<ts.length
  ·have hI:(j:Int)<(ts.length:Int):=by omega
   obtain ⟨x,hx⟩:∃ x,ts[j]?=some x:=⟨ts[j],by simp [hlt]⟩
   have hc:=HT.out j x hx
   have HD:=toHid (hasB_drop (t:=t) hx)
   clear hx
   cases he:(t.toList == x.toList)
   ·go_wp2
    go_roundg (ts.length+1 - (j+1))
    case measure=>have:=HG.out;omega
    case rel=>exact ⟨j+1,rfl,by omega,by go_num,by rw [←HH.out,HD.out,he];rfl,rfl⟩
   ·go_wp2
    go_ret
    exact ⟨_,rfl,by rw [←HH.out,HD.out,he];simp,rfl⟩
  ·have hI:¬ (j:Int)<(ts.length:Int):=by omega
   go_wp2
   go_ret
   exact ⟨-1,rfl,by rw [←HH.out,List.drop_eq_nil_of_le (by omega)];rfl,rfl⟩
theorem contains_any (ts:List ByteArray) (t:ByteArray) (b o cap:Nat) (hn:ts.length≤100) (w:World) (h:TS w b o ts) :
  Calls Tryz.prog 128 #[.slice (some ⟨b,o,none⟩) ts.length cap,.string t] w fun ev w'=>ev = .returned (.bool (hasB ts t))∧w'=w:=by
 go_enter Tryz.func128,Tryz.ntmps128
 go_wp2_with fail
 refine (indexS_any ts t b o cap hn w h).mono ?_
 rintro ev w1 ⟨i,rfl,hi,rfl⟩
 go_wp2_with fail
 go_ret
 exact ⟨by rw [←hi];rfl,rfl⟩

def markB (x:ByteArray × ByteArray × Nat) (ts:List ByteArray):Bool:=((x.1.toList == [111,112]) || (x.1.toList == [119,111,114,100])) && hasB ts x.2.1

set_option maxHeartbeats 1000000 in
theorem isMark_any {w:World}{p g cap:Nat}{rk:Value}{l:List (ByteArray × ByteArray × Nat)}{k bl dp:Nat}(R:RD w p g cap rk l k bl dp) {x:ByteArray × ByteArray × Nat}(hx:l[k]?=some x) (ts:List ByteArray) (b o c:Nat) (hn:ts.length≤100) (h:TS w b o ts) :
  Calls Tryz.prog 110 #[.pointer (some ⟨p,0,none⟩),.slice (some ⟨b,o,none⟩) ts.length c] w fun ev w'=>ev = .returned (.bool (markB x ts))∧Below w.heap.size w w':=by
 obtain ⟨kd,tx,at_⟩:=x
 go_enter Tryz.func110,Tryz.ntmps110
 go_wp2_with fail
 refine (tnext_any R hx).mono ?_
 rintro ev w1 ⟨rfl,hb⟩
 have hT1:=(h.more hb).more ((Below.refl _ _).alloc (Nat.le_refl _) (.cells #[.string kd,.string tx,.int .i64 (at_:Int)] 121))
 have hba:=hb.alloc hb.size (.cells #[.string kd,.string tx,.int .i64 (at_:Int)] 121)
 have HM:Hid (markB (kd,tx,at_) ts=(((kd.toList == [111,112]) || (kd.toList == [119,111,114,100])) && hasB ts tx)):=rfl
 clear R hx h
 cases k1:(kd.toList == [111,112])
 ·cases k2:(kd.toList == [119,111,114,100])
  ·rw [k1,k2] at HM
   go_wp2_with fail
   go_ret
   exact ⟨by rw [HM.out];rfl,hba⟩
  ·rw [k1,k2] at HM
   go_wp2_with fail
   refine (contains_any ts tx b o c hn _ hT1).mono ?_
   rintro ev w2 ⟨rfl,rfl⟩
   go_wp2_with fail
   go_ret
   exact ⟨by rw [HM.out];rfl,hba⟩
 ·rw [k1] at HM
  go_wp2_with fail
  refine (contains_any ts tx b o c hn _ hT1).mono ?_
  rintro ev w2 ⟨rfl,rfl⟩
  go_wp2_with fail
  go_ret
  exact ⟨by rw [HM.out];simp,hba⟩

theorem ts_one (w:World) (t:ByteArray):TS (w.alloc (.cells #[.string t] 9)) w.heap.size 0 [t]:=fun j x hj=>by
 cases j with
 | zero =>
  simp at hj
  subst hj
  rw [cell_of_row _ _ _ _ _ _ (heap_alloc_new w _)]
  rfl
 | succ j=>simp at hj

set_option maxHeartbeats 1000000 in
theorem passMark_any {w:World}{p g cap:Nat}{rk:Value}{l:List (ByteArray × ByteArray × Nat)}{k bl dp:Nat}(R:RD w p g cap rk l k bl dp) {x:ByteArray × ByteArray × Nat}(hx:l[k]?=some x) (hl:l.length≤100000) (t:ByteArray) :
  Calls Tryz.prog 76 #[.pointer (some ⟨p,0,none⟩),.string t] w fun ev w'=>ev = .returned (.bool (markB x [t]))∧RD w' p g cap rk l (if markB x [t] then k+1 else k) bl dp∧Keeps p w w':=by
 have hpl:=lt_of_heap R.blk
 have hb0:Below w.heap.size w (w.alloc (.cells #[.string t] 9)):=(Below.refl _ _).alloc (Nat.le_refl _) _
 have R0:=R.more hb0
 obtain ⟨m,hm⟩:∃ m,markB x [t]=m:=⟨_,rfl⟩
 rw [hm]
 have HM:=toHid hm
 clear hm
 go_enter Tryz.func76,Tryz.ntmps76
 go_wp2_with fail
 refine (isMark_any R0 hx [t] w.heap.size 0 1 (by simp) (ts_one w t)).mono ?_
 rintro ev w1 ⟨rfl,hb1⟩
 have R1:=R0.more hb1
 have K1:Keeps p w w1:=Keeps.of (hb0.trans (hb1.mono hb0.size)) (by omega)
 clear R R0
 rw [HM.out]
 cases m
 ·go_wp2_with fail
  go_ret
  exact ⟨rfl,R1,K1⟩
 ·go_wp2_with fail
  refine (tpass_any R1 hx hl).mono ?_
  rintro ev w2 ⟨rfl,R2,K2⟩
  go_wp2_with fail
  go_ret
  exact ⟨rfl,R2,K1.trans K2⟩

set_option maxHeartbeats 1000000 in
theorem need_any {w:World}{p g cap:Nat}{rk:Value}{l:List (ByteArray × ByteArray × Nat)}{k bl dp:Nat}(R:RD w p g cap rk l k bl dp) {x:ByteArray × ByteArray × Nat}(hx:l[k]?=some x) (hl:l.length≤100000) (kd:ByteArray) (he:(x.1.toList == kd.toList)=true) :
  Calls Tryz.prog 84 #[.pointer (some ⟨p,0,none⟩),.string kd] w fun ev w'=>ev = .returned (.agg #[.string x.1,.string x.2.1,.int .i64 (x.2.2:Int)])∧RD w' p g cap rk l (k+1) bl dp∧Keeps p w w':=by
 have hpl:=lt_of_heap R.blk
 have HG2:=toHid R.gl
 have hb0:Below w.heap.size w (w.alloc (.cells #[.string ⟨#[]⟩,.string ⟨#[]⟩,.int .i64 0] 121)):=(Below.refl _ _).alloc (Nat.le_refl _) _
 have R0:=R.more hb0
 obtain ⟨ka,ta,at_⟩:=x
 have hne:(ka.toList != kd.toList)=false:=by simp only at he;simp [bne,he]
 have F0:=field0 (.string ka) (.string ta) (.int .i64 (at_:Int))
 go_enter Tryz.func84,Tryz.ntmps84
 go_wp2_with fail
 refine (tnext_any R0 hx).mono ?_
 rintro ev w1 ⟨rfl,hb1⟩
 have R1:=R0.more hb1
 have K1:Keeps p w w1:=Keeps.of (hb0.trans (hb1.mono hb0.size)) (by omega)
 have hT1:=(hb1.block w.heap.size (by simp)).trans (heap_alloc_new w (.cells #[.string ⟨#[]⟩,.string ⟨#[]⟩,.int .i64 0] 121))
 clear R R0
 go_wp2_with fail
 refine (tpass_any R1 hx hl).mono ?_
 rintro ev w2 ⟨rfl,R2,K2⟩
 have hT2:=(K2.block w.heap.size (by omega) (lt_of_heap hT1)).trans hT1
 have HK:=toHid (K1.trans K2)
 have HR:=toHid R2
 obtain ⟨q0,q1,q2,f0,f1,f2⟩:=tokL_block hT2
 have hp2:=lt_of_heap hT2
 clear R1 R2 K1 K2 hT1 hT2 hx
 go_wp2
 obtain ⟨s0,s1,s2⟩:=tokL_set q0 q1 q2 (.string ka) (.string ta) (.int .i64 (at_:Int))
 refine bodyPost_ret (results_tok _ 4 rfl _ _ w.heap.size _ _ _ rfl s0 s1 s2) rfl ?_
 have hgg:=HG2.out
 exact ⟨rfl,((HR.out.other (by omega) (by omega)).other (by omega) (by omega)).other (by omega) (by omega),((HK.out.other (by omega) (Nat.le_refl _)).other (by omega) (Nat.le_refl _)).other (by omega) (Nat.le_refl _)⟩
end Go.Proofs.YtemapnogjepokaaGreatDoor
