/- Package lex: kinds of what Lex comes to; what package tree's reader asks of its tokens. -/
import Derived.Test.YtflcohidmemfpaaGreatDoorSsN
import Derived.Test.YtflcohidmemfpaaGreatDoorSsE
set_option linter.all false
namespace Go.Proofs.YtflcohidmemfpaaGreatDoor
open Go.Proofs.Tryz
open Go.RowKit

theorem Z67:∀ l m:List (ByteArray × ByteArray × Nat),cellsOf l=cellsOf m→l=m
 | [],[],_=>rfl
 | [],y::m,h=>by simp [cellsOf,Z0o] at h
 | x::l,[],h=>by simp [cellsOf,Z0o] at h
 | (k,t,o)::l,(k',t',o')::m,h=>by
  have h2:Z0o k t o++cellsOf l=Z0o k' t' o'++cellsOf m:=h
  simp [Z0o] at h2
  obtain ⟨rfl,rfl,h3,h4⟩:=h2
  have:o=o':=by omega
  subst this
  rw [Z67 l m h4]
def Zkq (k:ByteArray):Bool:=k.toList == [101,110,100]
def Zo6 (t:ByteArray):Prop:=∀ c∈t.data.toList,c≠10∧c≠34∧c≠35
def Zyx (x:ByteArray × ByteArray × Nat):Prop:=Zkq x.1=false∧(Z6o x=true → ∃ v,Lib.parseIntB 64 x.2.1.data.toList = .ok v)∧(Z4h x=false→Zo6 x.2.1)
theorem Z3v {k:ByteArray} (h1:Zkq k=false) (h2:(k.toList == [105,110,116])=false) (t:ByteArray) (o:Nat) (h3:Z4h (k,t,o)=false→Zo6 t):Zyx (k,t,o):=⟨h1,fun h=>(by
 have h4:(k.toList == [105,110,116])=true:=h
 rw [h2] at h4
 cases h4),h3⟩
theorem Zon:Zo6 ⟨#[]⟩:=fun c hc=>by simp at hc
theorem Zuw {c:UInt8} (h:(Z32 (c.toNat:Int) || Z1n (c.toNat:Int))=true):c≠10∧c≠34∧c≠35:=by
 refine ⟨?_,?_,?_⟩ <;> (rintro rfl;revert h;decide)
theorem Zwx {c:UInt8} (h:Z55 (c.toNat:Int)=true):c≠10∧c≠34∧c≠35:=by
 refine ⟨?_,?_,?_⟩ <;> (rintro rfl;revert h;decide)
theorem Zvx {c:UInt8} (h:Z1f (c.toNat:Int)=true):c≠10∧c≠34∧c≠35:=by
 refine ⟨?_,?_,?_⟩ <;> (rintro rfl;revert h;decide)
theorem Zw8 {p:UInt8→Bool} (hp:∀ c,p c=true→c≠10∧c≠34∧c≠35) (L:List UInt8):∀ c∈L.take (L.takeWhile p).length,c≠10∧c≠34∧c≠35:=fun c hc=>by
 rw [←List.prefix_iff_eq_take.1 (List.takeWhile_prefix p)] at hc
 have h:=List.all_eq_true.1 (List.all_takeWhile (p:=p) (l:=L)) c hc
 exact hp c h
theorem Zub {c:UInt8}{L:List UInt8} (hc:c≠10∧c≠34∧c≠35) {x:Bool × ByteArray × Nat} (h:Z8t c L=some x):Zo6 x.2.1:=by
 have ht:Zo6 ⟨((c::L).take (1+(L.takeWhile fun c=>Z55 (c.toNat:Int)).length)).toArray⟩:=fun d hd=>by
  have hd:d∈(c::L).take (1+(L.takeWhile fun c=>Z55 (c.toNat:Int)).length):=by simpa using hd
  rw [Nat.add_comm,List.take_succ_cons] at hd
  rcases List.mem_cons.1 hd with rfl | hd
  ·exact hc
  ·exact Zw8 (fun c h=>Zwx h) L d hd
 unfold Z8t at h
 simp only at h
 split at h
 ·simp only [Option.some.injEq] at h;subst h;exact ht
 ·split at h
  ·cases h
  ·split at h
   ·cases h
   ·simp only [Option.some.injEq] at h;subst h;exact ht
theorem Zy3 {c:UInt8}{L:List UInt8}{x:ByteArray × Nat} (h:Zjn c L=some x):Zo6 x.1:=by
 have ht:Zo6 ⟨((c::L).take ((c::L).takeWhile fun c=>Z1f (c.toNat:Int)).length).toArray⟩:=fun d hd=>by
  have hd:d∈(c::L).take ((c::L).takeWhile fun c=>Z1f (c.toNat:Int)).length:=by simpa using hd
  exact Zw8 (fun c h=>Zvx h) (c::L) d hd
 unfold Zjn at h
 simp only at h
 split at h
 ·cases h
 ·split at h
  ·simp only [Option.some.injEq] at h;subst h;exact ht
  ·cases h
theorem Zxh (k:Nat):Zo6 (Zb0 k):=by
 unfold Zo6
 iterate 21 (rcases k with _ | k;· decide)
 have:Zb0 (k+1+1+1+1+1+1+1+1+1+1+1+1+1+1+1+1+1+1+1+1+1)=⟨#[]⟩:=rfl
 rw [this]
 simp
theorem Zw7 (L:List UInt8):∀ (n k:Nat) (x:ByteArray × Nat),opL L n k=some x→Zo6 x.1
 | 0,_,_,h=>by cases h
 | n+1,k,x,h=>by
  unfold opL at h
  split at h
  ·simp only [Option.some.injEq] at h;subst h;exact Zxh k
  ·exact Zw7 L n (k+1) x h
theorem Zxu {L:List UInt8}{k t:ByteArray}{m:Nat} (h:Zds L=some (k,t,m)) (o:Nat):Zyx (k,t,o):=by
 cases L with
 | nil=>simp [Zds] at h
 | cons c L =>
  have hr:Zds (c::L)=if Z32 (c.toNat:Int) || Z1n (c.toNat:Int) then (Z8t c L).map fun x=>(if x.1 then Z8z else Z8u,x.2.1,x.2.2)
   else if Z1f (c.toNat:Int) then (Zjn c L).map fun x=>(Zpu,x.1,x.2)
   else if (c.toNat:Int) == 34 then (Zcj (L.length+1) L []).map fun x=>(Zoa,strOfNums x.1,x.2+1)
   else (opL (c::L) 21 0).map fun x=>(kOp,x.1,x.2):=rfl
  rw [hr] at h
  split at h
  ·rename_i hc
   simp only [Option.map_eq_some_iff] at h
   obtain ⟨z,hz,he⟩:=h
   simp only [Prod.mk.injEq] at he
   have ht:Zo6 t:=by rw [←he.2.1];exact Zub (Zuw hc) hz
   rw [←he.1]
   split
   ·exact Z3v (by kernel_rfl) (by kernel_rfl) _ _ (fun _=>ht)
   ·exact Z3v (by kernel_rfl) (by kernel_rfl) _ _ (fun _=>ht)
  ·split at h
   ·simp only [Option.map_eq_some_iff,Prod.mk.injEq] at h
    obtain ⟨z,hz,he,ht,_⟩:=h
    refine ⟨by rw [←he];kernel_rfl,fun _ => ?_,fun _=>by show Zo6 t;rw [←ht];exact Zy3 hz⟩
    unfold Zjn at hz
    simp only at hz
    split at hz
    ·cases hz
    ·split at hz
     next v hv =>
      simp only [Option.some.injEq] at hz
      rw [←hz] at ht
      simp only at ht
      rw [←ht]
      exact ⟨v,hv⟩
     next=>cases hz
   ·split at h
    ·simp only [Option.map_eq_some_iff,Prod.mk.injEq] at h
     obtain ⟨z,hz,he,_⟩:=h
     rw [←he]
     exact Z3v (by kernel_rfl) (by kernel_rfl) _ _ (fun h=>by
      have e:Z4h (Zoa,t,o)=true:=by kernel_rfl
      rw [e] at h
      cases h)
    ·simp only [Option.map_eq_some_iff,Prod.mk.injEq] at h
     obtain ⟨z,hz,he,ht,_⟩:=h
     rw [←he]
     exact Z3v (by kernel_rfl) (by kernel_rfl) _ _ (fun _=>by rw [←ht];exact Zw7 _ _ _ z hz)
theorem Zlu:∀ (f:Nat) (L:List UInt8) (o:Nat) (l:List (ByteArray × ByteArray × Nat)),Z6a f L o = .ok l → ∀ x∈l,Zyx x
 | 0,_,_,_,h=>by cases h
 | f+1,L,o,l,h=>by
  unfold Z6a at h
  split at h
  ·simp only [Except.ok.injEq] at h
   subst h
   intro x hx
   simp at hx
  ·cases hk:Zds (L.drop (Z12 L)) with
   | none=>rw [hk] at h;cases h
   | some y =>
    obtain ⟨k,t,m⟩:=y
    rw [hk] at h
    simp only at h
    cases hr:Z6a f (L.drop (Z12 L+m)) (o+(Z12 L+m)) with
    | error e=>rw [hr] at h;cases h
    | ok l' =>
     rw [hr] at h
     simp only [Except.ok.injEq] at h
     subst h
     intro x hx
     simp at hx
     rcases hx with rfl | hx
     ·exact Zxu hk _
     ·exact Zlu f _ _ l' hr x hx
theorem Zg3 {st st':List Int}{ind:Int}{i n n':Nat}{tk tk':List Value} (h:Z1j st ind i n tk=some (st',n',tk')):∃ m,tk'=tk++cellsOf m∧n'=n+m.length ∧ ∀ x∈m,Zyx x:=by
 unfold Z1j at h
 cases st with
 | nil=>cases h
 | cons x xs =>
  simp only at h
  split at h
  ·simp only [Option.some.injEq,Prod.mk.injEq] at h
   obtain ⟨rfl,rfl,rfl⟩:=h
   refine ⟨[(Z9u,⟨#[]⟩,i)],by simp [cellsOf],rfl,fun x hx => ?_⟩
   simp at hx
   rw [hx]
   exact Z3v (by kernel_rfl) (by kernel_rfl) _ _ (fun _=>Zon)
  ·split at h
   ·simp only [Option.some.injEq,Prod.mk.injEq] at h
    obtain ⟨rfl,rfl,rfl⟩:=h
    refine ⟨Z45 i (Z2f ind (x::xs)).1,by rw [Z6c],by simp [Z45],fun y hy => ?_⟩
    simp [Z45] at hy
    rw [hy.2]
    exact Z3v (by kernel_rfl) (by kernel_rfl) _ _ (fun _=>Zon)
   ·cases h
def KSt (σ:LexSt):Prop:=∃ l,σ.tk=cellsOf l∧σ.n=l.length ∧ ∀ x∈l,Zyx x
theorem Zy8 (s:ByteArray) (S L pre:List UInt8) (hS:Z3y S) (hL:Zcf L) (h:s.data.toList=pre++(L++S)) {st:List Int}{n:Nat}{tk:List Value} (hF:KSt ⟨pre.length,st,n,tk⟩) {σ:LexSt} (hs:Z0v s ⟨pre.length,st,n,tk⟩ = .ok σ):KSt σ∧σ.at_=(pre++L++S.take 1).length:=by
 have e1:=Zdj s S (pre++L) hS (by simpa using h)
 rw [@List.length_append _ pre] at e1
 rw [Z6l s S L pre hS hL h] at hs
 obtain ⟨l,h1,h2,h3⟩:=hF
 simp only at h1 h2 h3
 split at hs
 ·simp only [Except.ok.injEq] at hs
  subst hs
  exact ⟨⟨l,h1,h2,h3⟩,e1⟩
 ·cases hst:Z1j st (Z21 L:Nat) (pre.length+Z12 L) n tk with
  | none=>rw [hst] at hs;cases hs
  | some x =>
   obtain ⟨st',n',tk'⟩:=x
   rw [hst] at hs
   simp only at hs
   obtain ⟨m,rfl,rfl,g4⟩:=Zg3 hst
   cases hr:Z6a (L.length+1) L pre.length with
   | error e=>rw [hr] at hs;cases hs
   | ok r =>
    rw [hr] at hs
    simp only [Except.ok.injEq] at hs
    subst hs
    have i1:=Zlu _ _ _ r hr
    refine ⟨⟨l++m++r ++ [(Z3p,⟨#[]⟩,pre.length+L.length)],?_,?_,?_⟩,e1⟩
    ·simp only [h1,Z3j]
     simp [cellsOf]
    ·simp only [h2]
     simp
     omega
    ·intro x hx
     simp only [List.mem_append,List.mem_singleton] at hx
     rcases hx with ((hx | hx) | hx) | hx
     ·exact h3 x hx
     ·exact g4 x hx
     ·exact i1 x hx
     ·rw [hx]
      exact Z3v (by kernel_rfl) (by kernel_rfl) _ _ (fun _=>Zon)
theorem Zw3 (s:ByteArray):∀ (N:Nat) (R pre:List UInt8) (st:List Int) (n:Nat) (tk:List Value),R.length≤N→s.data.toList=pre++R→Inv s ⟨pre.length,st,n,tk⟩→KSt ⟨pre.length,st,n,tk⟩ → ∀ σ,Z0t s (s.size - pre.length) ⟨pre.length,st,n,tk⟩ = .ok σ→KSt σ
 | N,[],pre,st,n,tk,_,h,I,hF,σ,hr=>by
  have hz:=Z24 h
  rw [Zj5 s _ _ _ _ (by simp at hz ⊢;omega)] at hr
  simp only [Except.ok.injEq] at hr
  subst hr
  exact hF
 | 0,c::R,_,_,_,_,hN,_,_,_,_,_=>by simp at hN
 | N+1,c::R,pre,st,n,tk,hN,h,I,hF,σ,hr=>by
  have hz:=Z24 h
  simp at hz
  obtain ⟨L,S,e,hL,hS⟩:=Z7k (c::R)
  have h1:s.data.toList=pre++(L++S):=by rw [h,e]
  have hlt:pre.length<s.size:=by omega
  cases hs:Z0v s ⟨pre.length,st,n,tk⟩ with
  | error x=>rw [Z5d hlt hs] at hr;cases hr
  | ok τ =>
   rw [Z6f I hlt hs] at hr
   have I1:=(Z2r I hlt hs).1
   obtain ⟨hF1,hat⟩:=Zy8 s S L pre hS hL h1 hF hs
   have hlen:=congrArg List.length e
   simp at hlen
   obtain ⟨at1,st1,n1,tk1⟩:=τ
   simp only at hat
   subst hat
   refine Zw3 s N (S.drop 1) _ st1 n1 tk1 ?_ ?_ I1 hF1 σ hr
   ·simp at hN ⊢
    cases S with
    | nil=>simp
    | cons d S=>simp at hlen ⊢;omega
   ·rw [h1]
    simp only [List.append_assoc,List.take_append_drop]
theorem Zmz {s:ByteArray}{n:Nat}{tk:List Value} (h:Z6s s = .ok (n,tk)):∃ l a,tk=cellsOf (l ++ [(kEnd,⟨#[]⟩,a)])∧n=(l ++ [(kEnd,(⟨#[]⟩:ByteArray),a)]).length ∧ ∀ x∈l,Zyx x:=by
 unfold Z6s at h
 cases hr:Z0t s s.size ⟨0,[0],0,[]⟩ with
 | error e=>rw [hr] at h;cases h
 | ok σ =>
  rw [hr] at h
  simp only at h
  have hr':Z0t s (s.size - ([]:List UInt8).length) ⟨([]:List UInt8).length,[0],0,[]⟩ = .ok σ:=by simpa using hr
  obtain ⟨l,h1,h2,h3⟩:=Zw3 s s.size s.data.toList [] [0] 0 [] (by simp) (by simp) (Zza s) ⟨[],rfl,rfl,fun x hx=>by simp at hx⟩ σ hr'
  cases hst:Z1j σ.st 0 σ.at_ σ.n σ.tk with
  | none=>rw [hst] at h;cases h
  | some x =>
   obtain ⟨st',n',tk'⟩:=x
   rw [hst] at h
   simp only [Except.ok.injEq,Prod.mk.injEq] at h
   obtain ⟨m,rfl,rfl,g4⟩:=Zg3 hst
   refine ⟨l++m,σ.at_,?_,?_,?_⟩
   ·rw [←h.2,h1]
    simp [cellsOf]
   ·rw [←h.1,h2]
    simp
    omega
   ·intro x hx
    simp only [List.mem_append] at hx
    rcases hx with hx | hx
    ·exact h3 x hx
    ·exact g4 x hx
theorem Zyw:Zkq kEnd=true:=by kernel_rfl
theorem Zr1 {s:ByteArray}{m:List (ByteArray × ByteArray × Nat)} (h:Z6s s = .ok (m.length,cellsOf m)) (hm:m.length≤100000) (hs:s.size≤6000):TokS m:=by
 obtain ⟨l,a,e1,_,hk⟩:=Zmz h
 obtain ⟨l',e2,_,_,_,hz⟩:=Z92 h
 have e3:=Z67 _ _ e2
 subst e3
 have e4:=Z67 _ _ e1
 subst e4
 have hget:∀ (k:Nat) (x:ByteArray × ByteArray × Nat),(l ++ [(kEnd,(⟨#[]⟩:ByteArray),a)])[k]?=some x→(k<l.length∧Zyx x)∨(k=l.length∧x=(kEnd,⟨#[]⟩,a)):=fun k x hx=>by
  rcases Nat.lt_or_ge k l.length with h1 | h1
  ·rw [List.getElem?_append_left h1] at hx
   exact .inl ⟨h1,hk x (List.mem_of_getElem? hx)⟩
  ·have hlt:=(List.getElem?_eq_some_iff.1 hx).1
   simp at hlt
   have hke:k=l.length:=by omega
   subst hke
   simp at hx
   exact .inr ⟨rfl,hx.symm⟩
 have hfin:∀ (k:Nat) (x:ByteArray × ByteArray × Nat),(l ++ [(kEnd,(⟨#[]⟩:ByteArray),a)])[k]?=some x→(x.1.toList == [101,110,100])=false→k+1<(l ++ [(kEnd,(⟨#[]⟩:ByteArray),a)]).length:=fun k x hx hn=>by
  rcases hget k x hx with ⟨h1,_⟩ | ⟨_,rfl⟩
  ·simp
   omega
  ·have h2:Zkq kEnd=false:=hn
   rw [Zyw] at h2
   cases h2
 refine ⟨⟨hm,⟨(kEnd,⟨#[]⟩,a),by simp,fun ts => ?_⟩,fun k x hx hb => ?_,fun k x hx hi => ?_⟩,hfin⟩
 ·unfold Z0i
  have h1:(kEnd.toList == [111,112])=false:=by kernel_rfl
  have h2:(kEnd.toList == [119,111,114,100])=false:=by kernel_rfl
  simp only [h1,h2,Bool.or_self,Bool.false_and]
 ·refine hfin k x hx ?_
  rcases hget k x hx with ⟨_,h1⟩ | ⟨_,rfl⟩
  ·exact h1.1
  ·exfalso
   have h1:Z6o (kEnd,(⟨#[]⟩:ByteArray),a)=false:=by kernel_rfl
   have h2:Z4h (kEnd,(⟨#[]⟩:ByteArray),a)=false:=by kernel_rfl
   have h3:Z19 (kEnd,(⟨#[]⟩:ByteArray),a)=false:=by kernel_rfl
   rw [h1,h2,h3] at hb
   cases hb
 ·rcases hget k x hx with ⟨_,h1⟩ | ⟨_,rfl⟩
  ·exact ⟨by have:=hz x (List.mem_of_getElem? hx);omega,h1.2.1 hi⟩
  ·exfalso
   have h1:Z6o (kEnd,(⟨#[]⟩:ByteArray),a)=false:=by kernel_rfl
   rw [h1] at hi
   cases hi
end Go.Proofs.YtflcohidmemfpaaGreatDoor
namespace Go.Proofs.YtflcohidmemfpaaGreatDoor
open Go.Proofs.Tryz
open Go.RowKit

structure Al (l m:List (ByteArray × ByteArray × Nat)):Prop where
 len:l.length=m.length
 get:∀ k:Nat,(l[k]?=none∧m[k]?=none) ∨ ∃ (kd tx:ByteArray) (a b:Nat),l[k]?=some (kd,tx,a)∧m[k]?=some (kd,tx,b)
theorem bytes_inj {a b:ByteArray} (h:a.toList=b.toList):a=b:=by
 rw [Z0g,Z0g] at h
 have h4:a.data=b.data:=Array.toList_inj.1 h
 cases a
 cases b
 exact congrArg ByteArray.mk h4
variable {l m:List (ByteArray × ByteArray × Nat)}
theorem Al.mark (h:Al l m):Z09 l=Z09 m:=by
 funext k ts
 unfold Z09
 rcases h.get k with ⟨h1,h2⟩ | ⟨kd,tx,a,b,h1,h2⟩ <;> rw [h1,h2] <;> rfl
theorem Al.kind (h:Al l m):Z0m l=Z0m m:=by
 funext k kd
 unfold Z0m
 rcases h.get k with ⟨h1,h2⟩ | ⟨kd,tx,a,b,h1,h2⟩ <;> rw [h1,h2]
theorem Al.txt (h:Al l m):Z56 l=Z56 m:=by
 funext k
 unfold Z56
 rcases h.get k with ⟨h1,h2⟩ | ⟨kd,tx,a,b,h1,h2⟩ <;> rw [h1,h2]
theorem Al.name (h:Al l m):Z2k l=Z2k m:=by
 funext s k
 unfold Z2k
 rcases h.get k with ⟨h1,h2⟩ | ⟨kd,tx,a,b,h1,h2⟩ <;> rw [h1,h2] <;> rfl
theorem Al.more (h:Al l m) {σ:Type} (step:σ→Nat→Out σ):∀ (f:Nat) (s:σ) (k:Nat),Z4q l step f s k=Z4q m step f s k
 | 0,s,k=>rfl
 | f+1,s,k=>by
  unfold Z4q
  rw [h.mark]
  cases hm:Z09 m k [Z8s] with
  | false=>rfl
  | true =>
   simp only [cond_true]
   cases step s (k+1) with
   | error y=>rfl
   | ok y=>exact h.more step f y.1 y.2
theorem Al.several (h:Al l m) {σ:Type} (step:σ→Nat→Out σ):Z1w l step=Z1w m step:=by
 funext f s k
 unfold Z1w
 cases step s k with
 | error y=>rfl
 | ok y=>exact h.more step f y.1 y.2
theorem Al.upTo (h:Al l m) {σ:Type} (step:σ→Nat→Out σ):Z1g l step=Z1g m step:=by
 funext c f s k
 unfold Z1g
 rw [h.mark,h.several]
theorem Al.closed (h:Al l m):Z1c l=Z1c m:=by
 funext c o
 unfold Z1c
 rw [h.mark]
theorem Al.ahead (h:Al l m):Z3u l=Z3u m:=by
 funext c k dp o1 o2
 unfold Z3u
 rw [h.mark]
theorem Al.sidesOn (h:Al l m) (rank:Nat) (sub:Nat→Out (DataW Unit)):∀ (f:Nat) (e:DataW Unit) (k:Nat),Z0s l rank sub f e k=Z0s m rank sub f e k
 | 0,e,k=>rfl
 | f+1,e,k=>by
  unfold Z0s
  rcases h.get k with ⟨h1,h2⟩ | ⟨kd,tx,a,b,h1,h2⟩
  ·rw [h1,h2]
  ·rw [h1,h2]
   simp only
   have e1:Z0i (kd,tx,a) (Z0y rank)=Z0i (kd,tx,b) (Z0y rank):=rfl
   rw [e1]
   cases Z0i (kd,tx,b) (Z0y rank) with
   | false=>rfl
   | true =>
    simp only [cond_true]
    cases sub (k+1) with
    | error y=>rfl
    | ok y =>
     obtain ⟨e2,k2⟩:=y
     simp only
     rw [h.sidesOn rank sub f]
theorem Al.sides (h:Al l m) (rank:Nat):Z3l l rank=Z3l m rank:=by
 funext sub k
 unfold Z3l
 cases sub k with
 | error y=>rfl
 | ok y =>
  obtain ⟨e,k1⟩:=y
  simp only
  rw [h.sidesOn,h.len]
theorem Al.postOn (h:Al l m) (dp:Nat) (term:Nat→Out (DataW Unit)):∀ (f:Nat) (e:DataW Unit) (k:Nat),Z22 l dp term f e k=Z22 m dp term f e k
 | 0,e,k=>rfl
 | f+1,e,k=>by
  unfold Z22
  rw [h.mark,h.upTo,h.closed,h.len]
  cases Z09 m k [Z7n] with
  | true =>
   simp only [cond_true]
   cases Z2n dp k (Z4u Z8w (Z1g m (Z0n term) Za7 m.length [e] (k+1))) with
   | error y=>rfl
   | ok y=>exact h.postOn dp term f y.1 y.2
  | false =>
   simp only [cond_false]
   cases Z09 m k [Zaj] with
   | false=>rfl
   | true =>
    simp only [cond_true]
    cases Z2n dp k (Z3t e (Z1c m Zc1 (term (k+1)))) with
    | error y=>rfl
    | ok y=>exact h.postOn dp term f y.1 y.2
theorem Al.post (h:Al l m) (dp:Nat):Zde l dp=Zde m dp:=by
 funext term o
 unfold Zde
 cases o with
 | error y=>rfl
 | ok y =>
  obtain ⟨e,k1⟩:=y
  simp only
  rw [h.postOn,h.len]
theorem Al.atom (h:Al l m):Z79 l=Z79 m:=by
 funext dp term terms pairs k
 unfold Z79
 rcases h.get k with ⟨h1,h2⟩ | ⟨kd,tx,a,b,h1,h2⟩
 ·rw [h1,h2]
 ·rw [h1,h2,h.closed]
  rfl
theorem Al.pairStep (h:Al l m):Z13 l=Z13 m:=by
 funext term es k
 unfold Z13
 rw [h.closed]
theorem Al.lambda (h:Al l m):Z3f l=Z3f m:=by
 funext one k
 unfold Z3f
 rw [h.name,h.upTo,h.len]
theorem Al.ranked (h:Al l m):∀ (f dp rank k:Nat),Z0k l f dp rank k=Z0k m f dp rank k
 | 0,_,_,_=>rfl
 | f+1,dp,rank,k=>by
  have ih:Z0k l f=Z0k m f:=by
   funext dp rank k
   exact h.ranked f dp rank k
  unfold Z0k
  rw [ih,h.ahead,h.lambda,h.post,h.atom,h.upTo,h.pairStep,h.upTo,h.sides,h.len]
theorem Al.term (h:Al l m):Zau l=Zau m:=by
 funext k
 unfold Zau Zsv
 rw [h.ranked,h.len]
theorem Al.block (h:Al l m):Z5x l=Z5x m:=by
 funext bl inner k
 unfold Z5x
 rw [h.kind]
theorem Al.each (h:Al l m):Z7c l=Z7c m:=by
 funext one blk k
 unfold Z7c
 rw [h.kind,h.mark,h.txt]
theorem Al.choice (h:Al l m) (one blk:Nat→Out (List (DataW Unit))):∀ (f k:Nat),Z1y l one blk f k=Z1y m one blk f k
 | 0,k=>rfl
 | f+1,k=>by
  have ih:Z1y l one blk f=Z1y m one blk f:=by
   funext k
   exact h.choice one blk f k
  unfold Z1y
  rw [h.mark,ih]
theorem Al.func (h:Al l m):Z6y l=Z6y m:=by
 funext blk k
 unfold Z6y
 rw [h.kind,h.mark,h.txt,h.name,h.upTo,h.len]
theorem Al.line (h:Al l m):Z4e l=Z4e m:=by
 funext term one tset k
 unfold Z4e
 rw [h.kind,h.mark,h.txt,h.name,h.several,h.len]
theorem Al.statement (h:Al l m):Z0q l=Z0q m:=by
 funext a b c d e f k
 unfold Z0q
 rw [h.kind,h.mark]
end Go.Proofs.YtflcohidmemfpaaGreatDoor
namespace Go.Proofs.YtflcohidmemfpaaGreatDoor
open Go.Proofs.Tryz
open Go.RowKit

set_option maxHeartbeats 400000 in
theorem Zim (bl be:Nat) (w:World) :
  CallsD prog 39 #[.pointer (some ⟨bl,0,none⟩),.pointer (some ⟨be,0,none⟩)] .returning w fun e u' w'=>e = .returned (.tuple #[])∧u' = .returning∧w'=w:=by
 refine callsD_of_wpS func39 rfl fun c₀ cs hu => ?_
 apply wpS_seq
 apply wpS_region
 simp [wpOpsS,go_sem,recoverD,hu,ntmps39,Exit.thenS]
 apply wpS_seq
 apply wpS_seq
 apply wpS_region
 simp [wpOpsS,go_sem,Exit.thenS]
 refine wpS_cond (t:=true) (by simp [Act.eval,Array.replicate]) ?_
 simp only [if_true]
 refine wpS_of_wp (wp_ret ?_)
 cases c₀
 simp_all [bodyPostS,results,Tryz.results39,Exit.thenS]

set_option maxHeartbeats 1000000 in
theorem Zgo (bl be:Nat) (f:Addr) (older:List PanicEntry) (vl ve:Value) (w:World) (hne:bl≠be) (hl:w.cell? ⟨bl,0,none⟩=some vl) (hlf:w.frozen? ⟨bl,0,none⟩=false) (he:w.cell? ⟨be,0,none⟩=some ve) (hef:w.frozen? ⟨be,0,none⟩=false) :
  CallsD prog 39 #[.pointer (some ⟨bl,0,none⟩),.pointer (some ⟨be,0,none⟩)] (.panicking ({ v:=.iface 61 (.pointer (some f)),recovered:=false } :: older)) w fun e u' w' =>
   e = .returned (.tuple #[])∧u' = .panicking ({ v:=.iface 61 (.pointer (some f)),recovered:=true } :: older)∧w'=(w.setCell ⟨bl,0,none⟩ (.slice none 0 0)).setCell ⟨be,0,none⟩ (.iface 61 (.pointer (some f))):=by
 have ha:=Zcv f
 have he2:(w.setCell ⟨bl,0,none⟩ (.slice none 0 0)).cell? ⟨be,0,none⟩=some ve:=by rw [World.cell?_of_block (w:=w) (a:=⟨be,0,none⟩) (Z07 _ _ _ _ _ hne.symm)];exact he
 have hf2:(w.setCell ⟨bl,0,none⟩ (.slice none 0 0)).frozen? ⟨be,0,none⟩=false:=by rw [World.frozen?_of_block (w:=w) (a:=⟨be,0,none⟩) (Z07 _ _ _ _ _ hne.symm)];exact hef
 refine callsD_of_wpS func39 rfl fun c₀ cs hu => ?_
 apply wpS_seq
 apply wpS_region
 simp [wpOpsS,go_sem,recoverD,hu,ntmps39,Exit.thenS]
 apply wpS_seq
 apply wpS_seq
 apply wpS_region
 simp [wpOpsS,go_sem,Exit.thenS]
 refine wpS_cond (t:=false) (by simp [Act.eval,Array.replicate]) ?_
 simp only [Bool.false_eq_true,if_false]
 refine wpS_of_wp (wp_skip ?_)
 simp only [Exit.thenS]
 apply wpS_seq
 apply wpS_region
 simp [wpOpsS,go_sem,Exit.thenS,ha]
 apply wpS_seq
 apply wpS_seq
 apply wpS_region
 simp [wpOpsS,go_sem,Exit.thenS]
 refine wpS_cond (t:=false) (by simp [Act.eval,Array.replicate]) ?_
 simp only [Bool.false_eq_true,if_false]
 refine wpS_of_wp (wp_skip ?_)
 simp only [Exit.thenS]
 apply wpS_region
 simp [wpOpsS,go_sem,hl,hlf,he2,hf2,bodyPostS,results,Tryz.results39]

theorem Zq7:∀ (os:List Obj) (w':World) (i:Nat) (o:Obj),os[i]?=some o→(os.foldl World.alloc w').heap[w'.heap.size+i]?=some o
 | [],_,i,o,h=>by simp at h
 | x::os,w',0,o,h=>by
  simp at h
  subst h
  have hb:∀ (os:List Obj) (W:World),Below W.heap.size W (os.foldl World.alloc W):=by
   intro os
   induction os with
   | nil=>exact fun W=>Below.refl _ _
   | cons y os ih=>exact fun W=>((Below.refl W.heap.size W).alloc (Nat.le_refl _) y).trans ((ih (W.alloc y)).mono (by simp))
  have h1:=(hb os (w'.alloc x)).block w'.heap.size (by simp)
  show (os.foldl World.alloc (w'.alloc x)).heap[w'.heap.size]?=some x
  rw [h1]
  exact heap_alloc_new w' x
 | x::os,w',i+1,o,h=>by
  have h1:=Zq7 os (w'.alloc x) i o (by simpa using h)
  simp only [World.size_alloc] at h1
  show (os.foldl World.alloc (w'.alloc x)).heap[w'.heap.size+(i+1)]?=some o
  rw [show w'.heap.size+(i+1)=w'.heap.size+1+i by omega]
  exact h1
def Zg7 (w:World):List Obj:=[(.cells #[.string ⟨#[108,97,109,98,100,97]⟩] 9),(.cells #[.string ⟨#[111,114]⟩] 9),(.cells #[.string ⟨#[97,110,100]⟩] 9),(.cells #[.string ⟨#[110,111,116]⟩] 9),(.cells #[.string ⟨#[61,61]⟩,.string ⟨#[33,61]⟩,.string ⟨#[60]⟩,.string ⟨#[60,61]⟩,.string ⟨#[62]⟩,.string ⟨#[62,61]⟩,.string ⟨#[105,115]⟩,.string ⟨#[105,110]⟩] 9),(.cells #[.string ⟨#[43]⟩,.string ⟨#[45]⟩] 9),(.cells #[.string ⟨#[42]⟩,.string ⟨#[47,47]⟩,.string ⟨#[37]⟩] 9),(.cells #[.string ⟨#[110,101,103]⟩] 9),(.cells #[.slice (some ⟨w.heap.size,0,none⟩) 1 1,.slice (some ⟨w.heap.size+1,0,none⟩) 1 1,.slice (some ⟨w.heap.size+2,0,none⟩) 1 1,.slice (some ⟨w.heap.size+3,0,none⟩) 1 1,.slice (some ⟨w.heap.size+4,0,none⟩) 8 8,.slice (some ⟨w.heap.size+5,0,none⟩) 2 2,.slice (some ⟨w.heap.size+6,0,none⟩) 3 3,.slice (some ⟨w.heap.size+7,0,none⟩) 1 1] 32)]
def Z6h (w:World):World:=(Zg7 w).foldl World.alloc w
theorem Ztn (w:World):Below w.heap.size w (Z6h w)∧(Z6h w).heap.size=w.heap.size+9 ∧ ∀ p,w.heap.size+9≤p→RK p (.slice (some ⟨w.heap.size+8,0,none⟩) 8 8) (Z6h w):=by
 have hh:∀ i o,(Zg7 w)[i]?=some o→(Z6h w).heap[w.heap.size+i]?=some o:=fun i o h=>Zq7 (Zg7 w) w i o h
 have h8:=hh 8 (.cells #[.slice (some ⟨w.heap.size,0,none⟩) 1 1,.slice (some ⟨w.heap.size+1,0,none⟩) 1 1,.slice (some ⟨w.heap.size+2,0,none⟩) 1 1,.slice (some ⟨w.heap.size+3,0,none⟩) 1 1,.slice (some ⟨w.heap.size+4,0,none⟩) 8 8,.slice (some ⟨w.heap.size+5,0,none⟩) 2 2,.slice (some ⟨w.heap.size+6,0,none⟩) 3 3,.slice (some ⟨w.heap.size+7,0,none⟩) 1 1] 32) rfl
 have h:∀ (i:Nat) (v:Value),(#[.slice (some ⟨w.heap.size,0,none⟩) 1 1,.slice (some ⟨w.heap.size+1,0,none⟩) 1 1,.slice (some ⟨w.heap.size+2,0,none⟩) 1 1,.slice (some ⟨w.heap.size+3,0,none⟩) 1 1,.slice (some ⟨w.heap.size+4,0,none⟩) 8 8,.slice (some ⟨w.heap.size+5,0,none⟩) 2 2,.slice (some ⟨w.heap.size+6,0,none⟩) 3 3,.slice (some ⟨w.heap.size+7,0,none⟩) 1 1]:Array Value)[i]?=some v→(Z6h w).cell? ⟨w.heap.size+8,i,none⟩=some v:=fun i v hv=>by
  rw [cell_of_row _ _ _ _ _ _ h8]
  exact hv
 have hts:∀ (i:Nat) (cs:Array Value) (ts:List ByteArray),(Zg7 w)[i]?=some (.cells cs 9)∧cs=(ts.map Value.string).toArray→TS (Z6h w) (w.heap.size+i) 0 ts:=fun i cs ts hx j t hj=>by
  rw [cell_of_row _ _ _ _ _ _ (hh i _ hx.1),hx.2]
  simp [hj]
 refine ⟨(((((((((Below.refl _ _).alloc (Nat.le_refl _) _).alloc (by simp) _).alloc (by simp;omega) _).alloc (by simp;omega) _).alloc (by simp;omega) _).alloc (by simp;omega) _).alloc (by simp;omega) _).alloc (by simp;omega) _).alloc (by simp;omega) _,by simp [Z6h,Zg7],fun p hp=>⟨w.heap.size+8,8,rfl,by omega,fun i hi => ?_⟩⟩
 match i,hi with
 | 0,_=>exact ⟨w.heap.size,1,h 0 _ rfl,by omega,hts 0 _ _ ⟨rfl,rfl⟩⟩
 | 1,_=>exact ⟨w.heap.size+1,1,h 1 _ rfl,by omega,hts 1 _ _ ⟨rfl,rfl⟩⟩
 | 2,_=>exact ⟨w.heap.size+2,1,h 2 _ rfl,by omega,hts 2 _ _ ⟨rfl,rfl⟩⟩
 | 3,_=>exact ⟨w.heap.size+3,1,h 3 _ rfl,by omega,hts 3 _ _ ⟨rfl,rfl⟩⟩
 | 4,_=>exact ⟨w.heap.size+4,8,h 4 _ rfl,by omega,hts 4 _ _ ⟨rfl,rfl⟩⟩
 | 5,_=>exact ⟨w.heap.size+5,2,h 5 _ rfl,by omega,hts 5 _ _ ⟨rfl,rfl⟩⟩
 | 6,_=>exact ⟨w.heap.size+6,3,h 6 _ rfl,by omega,hts 6 _ _ ⟨rfl,rfl⟩⟩
 | 7,_=>exact ⟨w.heap.size+7,1,h 7 _ rfl,by omega,hts 7 _ _ ⟨rfl,rfl⟩⟩
 | n+8,hn=>omega
set_option maxHeartbeats 1000000 in
theorem Zbr (w:World):Calls prog 23 #[] w fun ev w'=>ev = .returned (.slice (some ⟨w.heap.size+8,0,none⟩) 8 8)∧w'=Z6h w:=by
 go_enter func23,ntmps23
 go_wp2_with fail
 go_ret
 exact ⟨rfl,rfl⟩
end Go.Proofs.YtflcohidmemfpaaGreatDoor
namespace Go.Proofs.YtflcohidmemfpaaGreatDoor
open Go.Proofs.Tryz
open Go.RowKit

def Zro (s:ByteArray):Prop:=∀ m ss k,s.size≤6000→Z6s s = .ok (m.length,cellsOf m)→Z86 m ≠ .ok (ss,k)
def RPost (s:ByteArray) (w:World) (ev:Ending) (w':World):Prop:=Below w.heap.size w w' ∧
  ((∃ m ss k ba bc,s.size≤6000∧Z6s s = .ok (m.length,cellsOf m)∧Z86 m = .ok (ss,k)∧ev = .returned (.tuple #[.slice ba ss.length bc,.nilIface])∧Z1h (fun b=>w.heap.size≤b) w' ba ss) ∨
   (Zro s ∧ ∃ t q,ev = .returned (.tuple #[.slice none 0 0,.iface t (.pointer q)])))
theorem LEnv.terr {B:Nat}{a0 a1:Addr}{w:World} (E:LEnv B a0 a1 w):TErr B a0 a1 w:=⟨E.env.hg,E.g1,E.env.bg,E.b1⟩
theorem TErr.up {B C:Nat}{a0 a1:Addr}{w:World} (E:TErr B a0 a1 w) (h:B≤C):TErr C a0 a1 w:=⟨E.g0,E.g1,by have:=E.b0;omega,by have:=E.b1;omega⟩
theorem Zod {b:Nat}{w:World}{v u v' u':Value}{t1 t2:TypeId} (hl:w.heap[b]?=some (.cells #[v] t1)) (he:w.heap[b+1]?=some (.cells #[u] t2)):((w.setCell ⟨b,0,none⟩ v').setCell ⟨b+1,0,none⟩ u').cell? ⟨b,0,none⟩=some v'∧((w.setCell ⟨b,0,none⟩ v').setCell ⟨b+1,0,none⟩ u').cell? ⟨b+1,0,none⟩=some u':=by
  have h1:(w.setCell ⟨b,0,none⟩ v').heap[b]?=some (.cells #[v'] t1):=by rw [Z0a hl];rfl
  have h2:(w.setCell ⟨b,0,none⟩ v').heap[b+1]?=some (.cells #[u] t2):=(Z07 _ _ _ _ _ (by omega)).trans he
  have h3:((w.setCell ⟨b,0,none⟩ v').setCell ⟨b+1,0,none⟩ u').heap[b]?=some (.cells #[v'] t1):=(Z07 _ _ _ _ _ (by omega)).trans h1
  have h4:((w.setCell ⟨b,0,none⟩ v').setCell ⟨b+1,0,none⟩ u').heap[b+1]?=some (.cells #[u'] t2):=by rw [Z0a h2];rfl
  exact ⟨Z0c h3 rfl,Z0c h4 rfl⟩
theorem Zus {s:ByteArray}{m:List (ByteArray × ByteArray × Nat)}{base:Nat}{vt:Value}{w:World} (h:Z6s s = .ok (m.length,cellsOf m)) (ho:w.ownsRow base 121 3 vt m.length (cellsOf m)):∃ g cap,vt = .slice (some ⟨g,0,none⟩) m.length cap∧base≤g∧g<w.heap.size ∧ ∀ j v,(cellsOf m)[j]?=some v→w.cell? ⟨g,j,none⟩=some v:=by
  have hn:=Zkn h
  rcases ho.2 with ⟨_,h0⟩ | ⟨g,cap,cur,rfl,hB,hg,_,_,hsz,htk⟩
  · omega
  · refine ⟨g,cap,rfl,hB,Z00 hg,fun k v hk => ?_⟩
    rw [cell_of_row w g k cur 121 (0,0) hg,←Array.getElem?_toList]
    have hlt:=(List.getElem?_eq_some_iff.1 hk).1
    have e:(cur.toList.take (m.length*3))[k]?=(cellsOf m)[k]?:=by rw [htk]
    rw [List.getElem?_take,if_pos (by have:=ho.1;omega)] at e
    rw [e]
    exact hk
set_option maxHeartbeats 1000000 in
set_option maxRecDepth 100000 in
theorem Zky (s:ByteArray) (a0 a1:Addr) (w:World) (E:LEnv w.heap.size a0 a1 w):Calls prog 25 #[.string s] w fun ev w'=>RPost s w ev w':=by
  have hmf:∀ (fn:Fn) (first cap:Array Value) (w:World),(Instr.makeFunc fn first cap).run prog w = .ok (.func fn first cap) w:=fun _ _ _ _=>rfl
  have hb0:Below w.heap.size w ((w.alloc (.cells #[.slice none 0 0] 30)).alloc (.cells #[.nilIface] 27)):=((Below.refl _ _).alloc (Nat.le_refl _) _).alloc (by simp) _
  have hs0:((w.alloc (.cells #[.slice none 0 0] 30)).alloc (.cells #[.nilIface] 27)).heap.size=w.heap.size+2:=by simp
  have hl0:((w.alloc (.cells #[.slice none 0 0] 30)).alloc (.cells #[.nilIface] 27)).heap[w.heap.size]?=some (.cells #[.slice none 0 0] 30):=(Below.heap_alloc _ _ _ (by simp)).trans (heap_alloc_new w _)
  have he0:((w.alloc (.cells #[.slice none 0 0] 30)).alloc (.cells #[.nilIface] 27)).heap[w.heap.size+1]?=some (.cells #[.nilIface] 27):=by
    have h:=heap_alloc_new (w.alloc (.cells #[.slice none 0 0] 30)) (.cells #[.nilIface] 27)
    simpa using h
  have HL:=Z01 (Zxb s a0 a1 ((w.alloc (.cells #[.slice none 0 0] 30)).alloc (.cells #[.nilIface] 27)) ((E.below hb0).up hb0.size))
  have HT:=Z01 (E.below hb0).terr
  have HB0:=Z01 hb0
  have HL0:=Z01 hl0
  have HE0:=Z01 he0
  clear hb0 hl0 he0 E
  go_enter_defers func25,ntmps25
  go_wp2_with fail
  refine HL.out.mono ?_
  rintro ev w1 ⟨hb1,hx⟩
  rw [hs0] at hb1
  have hs1:=hb1.size
  rw [hs0] at hs1
  have hl1:=(hb1.block w.heap.size (by omega)).trans HL0.out
  have he1:=(hb1.block (w.heap.size+1) (by omega)).trans HE0.out
  have cl:=Z0c hl1 rfl
  have fl:=Z14 hl1
  have ce:=Z0c he1 rfl
  have fe:=Z14 he1
  have ll:=Z00 hl1
  have le:=Z00 he1
  have HW1:=Z01 (HB0.out.trans (hb1.mono (by omega)))
  have HL1:=Z01 hl1
  have HE1:=Z01 he1
  have hway:(∃ m,s.size≤6000∧Z6s s = .ok (m.length,cellsOf m) ∧ ∃ vt,ev = .returned (.tuple #[vt,.nilIface])∧w1.ownsRow (w.heap.size+2) 121 3 vt m.length (cellsOf m))∨(Zro s ∧ ∃ t q,ev = .returned (.tuple #[.slice none 0 0,.iface t (.pointer q)])):=by
    by_cases h6:6000<s.size
    · rw [if_pos h6] at hx
      exact .inr ⟨fun m ss k h _=>by omega,_,_,hx⟩
    · rw [if_neg h6] at hx
      cases hlx:Z6s s with
      | error e =>
        rw [hlx] at hx
        obtain ⟨b,rfl,_⟩:=hx
        exact .inr ⟨(fun m ss k _ h=>by rw [hlx] at h;cases h),_,_,rfl⟩
      | ok y =>
        obtain ⟨n,tk⟩:=y
        rw [hlx] at hx
        obtain ⟨m,rfl,rfl,_⟩:=Z92 hlx
        rw [hs0] at hx
        exact .inl ⟨m,by omega,rfl,hx⟩
  have HHB:=Z01 (hb1.mono (show w.heap.size≤w.heap.size+2 by omega))
  clear hx HL hb1 hl1 he1
  rcases hway with ⟨m,h6,hlx,vt,rfl,ho⟩ | ⟨hno,t,q,rfl⟩
  rotate_left
  · have HNO:=Z01 hno
    clear hno
    go_wp2
    go_region
    all_goals (try go_wp2)
    all_goals
      simp [bodyPostD,Leaves,results,Tryz.results25,go_sem,cl,ce]
      exact ⟨(((HW1.out.setCell (by simp) _).setCell (Nat.le_refl _) _).setCell (by simp) _).drew,.inr ⟨HNO.out,_,_,rfl⟩⟩
  obtain ⟨g,cap,rfl,hg,hgl,htk⟩:=Zus hlx ho
  have hml:m.length≤100000:=by have:=Zjf hlx;omega
  have T:=Zr1 hlx hml h6
  have hm0:=Zkn hlx
  have HTK:=Z01 htk
  have HLX:=Z01 hlx
  clear ho htk hlx
  go_wp2_with fail
  refine (Zbr _).mono ?_
  rintro ev w2 ⟨rfl,hw2⟩
  have hz1:(w1.setCell ⟨w.heap.size+1,0,none⟩ .nilIface).heap.size=w1.heap.size:=Z1x _ _ _
  obtain ⟨hb2,hs2,hrk⟩:=Ztn (w1.setCell ⟨w.heap.size+1,0,none⟩ .nilIface)
  rw [←hw2] at hb2 hs2 hrk
  rw [hz1] at hb2 hs2 hrk ⊢
  have hl2:=(hb2.block w.heap.size (by omega)).trans ((Z07 _ _ _ _ _ (by omega)).trans HL1.out)
  have he2:w2.heap[w.heap.size+1]?=some (.cells #[.nilIface] 27):=(hb2.block (w.heap.size+1) (by omega)).trans (by rw [Z0a HE1.out];rfl)
  have hba:Below w2.heap.size w2 (w2.alloc (.cells #[.slice (some ⟨g,0,none⟩) m.length cap,.int .i64 0,.slice (some ⟨w1.heap.size+8,0,none⟩) 8 8,.int .i64 1,.int .i64 0] 102)):=(Below.refl _ _).alloc (Nat.le_refl _) _
  have hbW:Below w.heap.size w1 (w2.alloc (.cells #[.slice (some ⟨g,0,none⟩) m.length cap,.int .i64 0,.slice (some ⟨w1.heap.size+8,0,none⟩) 8 8,.int .i64 1,.int .i64 0] 102)):=(((Below.refl w.heap.size w1).setCell (by simp) _).trans (hb2.mono (by omega))).trans (hba.mono (by omega))
  have htk2:∀ j v,(cellsOf m)[j]?=some v→(w2.alloc (.cells #[.slice (some ⟨g,0,none⟩) m.length cap,.int .i64 0,.slice (some ⟨w1.heap.size+8,0,none⟩) 8 8,.int .i64 1,.int .i64 0] 102)).cell? ⟨g,j,none⟩=some v:=fun j v hj=>(hba.cell (p:=⟨g,j,none⟩) (show g<w2.heap.size by omega)).trans ((hb2.cell (p:=⟨g,j,none⟩) hgl).trans ((World.cell?_of_block (w:=w1) (a:=⟨g,j,none⟩) (Z07 _ _ _ _ _ (show g≠w.heap.size+1 by omega))).trans (HTK.out j v hj)))
  have hsa:(w2.alloc (.cells #[.slice (some ⟨g,0,none⟩) m.length cap,.int .i64 0,.slice (some ⟨w1.heap.size+8,0,none⟩) 8 8,.int .i64 1,.int .i64 0] 102)).heap.size=w2.heap.size+1:=by simp
  have R:RD (w2.alloc (.cells #[.slice (some ⟨g,0,none⟩) m.length cap,.int .i64 0,.slice (some ⟨w1.heap.size+8,0,none⟩) 8 8,.int .i64 1,.int .i64 0] 102)) w2.heap.size g cap (.slice (some ⟨w1.heap.size+8,0,none⟩) 8 8) m 0 1 0:=⟨heap_alloc_new w2 _,htk2,by omega,by omega⟩
  have HTE:=Z01 ((HT.out.below (HHB.out.trans hbW)).up (show w.heap.size≤w2.heap.size by omega))
  have HC:=Z01 (Zp3 (a0:=a0) (a1:=a1) T hm0 _ R HTE.out ((hrk w2.heap.size (by omega)).keeps (Keeps.of hba (Nat.le_refl _))))
  have HWB:=Z01 (HW1.out.trans hbW)
  have hl3:=(hba.block w.heap.size (by omega)).trans hl2
  have he3:=(hba.block (w.heap.size+1) (by omega)).trans he2
  have HL3:=Z01 hl3
  have HE3:=Z01 he3
  have hs2a:w1.heap.size+9≤w2.heap.size:=by omega
  have hs2b:w2.heap.size≤w1.heap.size+9:=by omega
  have HSA:Hid (w2.heap.size+1≤(w2.alloc (.cells #[.slice (some ⟨g,0,none⟩) m.length cap,.int .i64 0,.slice (some ⟨w1.heap.size+8,0,none⟩) 8 8,.int .i64 1,.int .i64 0] 102)).heap.size):=Nat.le_of_eq hsa.symm
  clear hs2 hsa hw2 hrk hl2 he2 hba hbW htk2 R hl3 he3 cl ce fl fe T hb2
  go_wp2_with fail
  refine HC.out.mono ?_
  intro ev w4 hP
  rcases hP.parts with ⟨ss,k4,ba,bc,q4,rfl,hS4,R4,K4,hk4,hk4l⟩ | ⟨y,b,q4,rfl,hf⟩
  rotate_left
  · obtain ⟨t,g1,b',e1,hbw,d0,d1⟩:=hf
    have hl4:=(hbw.block w.heap.size (by omega)).trans HL3.out
    have he4:=(hbw.block (w.heap.size+1) (by omega)).trans HE3.out
    have hno:Zro s:=fun m' ss k _ h=>by
      rw [HLX.out] at h
      simp only [Except.ok.injEq,Prod.mk.injEq] at h
      have e:=Z67 _ _ h.2
      rw [←e,q4]
      simp
    have HNO:=Z01 hno
    have hb4:=HWB.out.trans (hbw.mono (by omega))
    clear hP HC g1 d0 d1 e1 hno q4
    go_wp2_with fail
    refine leaves_cons (f:=39) (args:=#[.pointer (some ⟨w.heap.size,0,none⟩),.pointer (some ⟨w.heap.size+1,0,none⟩)]) (by simp) (by simp [go_sem]) ?_
    refine (Zgo w.heap.size (w.heap.size+1) ⟨b,0,none⟩ [] (.slice none 0 0) .nilIface w4 (by omega) (Z0c hl4 rfl) (Z14 hl4) (Z0c he4 rfl) (Z14 he4)).mono ?_
    rintro ev u' w5 ⟨rfl,rfl,rfl⟩
    obtain ⟨d1,d2⟩:=Zod (v':=.slice none 0 0) (u':=.iface 61 (.pointer (some ⟨b,0,none⟩))) hl4 he4
    have d3:Below w.heap.size w ((w4.setCell ⟨w.heap.size,0,none⟩ (.slice none 0 0)).setCell ⟨w.heap.size+1,0,none⟩ (.iface 61 (.pointer (some ⟨b,0,none⟩)))):=(hb4.setCell (Nat.le_refl _) _).setCell (by simp) _
    generalize (w4.setCell ⟨w.heap.size,0,none⟩ (.slice none 0 0)).setCell ⟨w.heap.size+1,0,none⟩ (.iface 61 (.pointer (some ⟨b,0,none⟩)))=w6 at d1 d2 d3 ⊢
    simp [Leaves,settle,results,Tryz.results25,go_sem,d1,d2]
    exact ⟨d3,.inr ⟨HNO.out,_,_,rfl⟩⟩
  have hsa:=HSA.out
  have hl4:=(K4.block w.heap.size (by omega) (by omega)).trans HL3.out
  have he4:=(K4.block (w.heap.size+1) (by omega) (by omega)).trans HE3.out
  have cl:=Z0c hl4 rfl
  have fl:=Z14 hl4
  have ce:=Z0c he4 rfl
  have fe:=Z14 he4
  have ll4:=Z00 hl4
  have le4:=Z00 he4
  have hb4:=HWB.out.trans (K4.below.mono (by omega))
  have hrep:Z1h (fun b=>w.heap.size≤b) ((w4.setCell ⟨w.heap.size,0,none⟩ (.slice ba ss.length bc)).setCell ⟨w.heap.size+1,0,none⟩ .nilIface) ba ss:=(hS4.same (S':=fun b=>w.heap.size+2≤b) (Z1z (by show ¬ (_≤w.heap.size);omega)) (fun b hb _=>by show _≤b;omega)).same (Z1z (by show ¬ (_≤w.heap.size+1);omega)) (fun b hb _=>by show _≤b;omega)
  have D:=Zod (v':=.slice ba ss.length bc) (u':=.nilIface) hl4 he4
  have d3:Below w.heap.size w ((w4.setCell ⟨w.heap.size,0,none⟩ (.slice ba ss.length bc)).setCell ⟨w.heap.size+1,0,none⟩ .nilIface):=(hb4.setCell (Nat.le_refl _) _).setCell (by simp) _
  have HD:=Z01 (And.intro D (And.intro d3 hrep))
  have HQ4:=Z01 q4
  clear hsa hP HC hl4 he4 hb4 hrep D d3 hS4 R4 K4 q4
  go_wp2_with fail
  refine leaves_cons (f:=39) (args:=#[.pointer (some ⟨w.heap.size,0,none⟩),.pointer (some ⟨w.heap.size+1,0,none⟩)]) (by simp) (by simp [go_sem]) ?_
  refine (Zim w.heap.size (w.heap.size+1) _).mono ?_
  rintro ev u' w5 ⟨rfl,rfl,rfl⟩
  obtain ⟨⟨d1,d2⟩,d3,d4⟩:=HD.out
  generalize (w4.setCell ⟨w.heap.size,0,none⟩ (.slice ba ss.length bc)).setCell ⟨w.heap.size+1,0,none⟩ .nilIface=w6 at d1 d2 d3 d4 ⊢
  simp [Leaves,settle,results,Tryz.results25,go_sem,d1,d2]
  exact ⟨d3,.inl ⟨m,ss,k4,ba,bc,h6,HLX.out,HQ4.out,rfl,d4⟩⟩
end Go.Proofs.YtflcohidmemfpaaGreatDoor
