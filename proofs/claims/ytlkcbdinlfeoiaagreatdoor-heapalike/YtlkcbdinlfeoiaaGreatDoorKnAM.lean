/- All collected, plainly: objects slide together. -/
import Derived.Test.YtlkcbdinlfeoiaaGreatDoorKnAL
import Derived.Lib.AppendZeros
namespace Go.Proofs.YtlkcbdinlfeoiaaGreatDoor
open Go.Proofs.Tryz Go.RowKit
set_option maxHeartbeats 8000000
set_option maxRecDepth 100000
set_option linter.unusedSimpArgs false
section
def Z2g (nW:Nat) (φ:Nat->Option Nat) (W:List Int) (f t:Nat) (x:Int):List Int:=if x / 4 % 256<8 then Zc8 W f t x 0 else Z4p (t+1) (szN x) (fun y=>(Z0g 0 nW φ y).1) (Zc8 W f t x 0)
theorem Zjj (o n:Nat) (g:Int->Int) (L:List Int) (i:Nat) (h:i<L.length):(Z4p o n g L).getD i 0=if o<=i/\i<o+n then g (L.getD i 0) else L.getD i 0:=by
 have hi:L[i]?=some (L.getD i 0):=by rw [U07,U03 h];rfl
 rw [U07,Zc7 hi]
 rfl
theorem Zhr (L:List Int) (i:Nat) (h:L.length<=i):L.getD i 0=0:=by rw [U07,U14 h];rfl
theorem Zaz {nW:Nat}{φ:Nat->Option Nat}{W:List Int}{f t:Nat}{x:Int} (ht:t+(1+szN x)<=W.length) (hf:f+(1+szN x)<=W.length):(Z2g nW φ W f t x).length=W.length:=by
 unfold Z2g
 split
 ·exact Z6l _ _ _ _ _ ht hf
 ·rw [Z65];exact Z6l _ _ _ _ _ ht hf
theorem Zdz {nW:Nat}{φ:Nat->Option Nat}{W:List Int}{f t:Nat}{x:Int} (ht:t+(1+szN x)<=W.length) (hf:f+(1+szN x)<=W.length) (i:Nat):(Z2g nW φ W f t x).getD i 0=if i=t then hdW x 0 else if t<=i/\i<t+1+szN x then (if x / 4 % 256<8 then W.getD (f+(i - t)) 0 else (Z0g 0 nW φ (W.getD (f+(i - t)) 0)).1) else W.getD i 0:=by
 have hl:=Z6l W f t x 0 ht hf
 have ha:=Zfa W f t i x 0 ht hf
 unfold Z2g
 by_cases hr:x / 4 % 256<8
 ·rw [U09 hr,ha]
  by_cases e:i=t
  ·rw [U09 e,U09 e]
  ·rw [U08 e,U08 e,U09 hr]
 ·rw [U08 hr]
  by_cases hi:i<(Zc8 W f t x 0).length
  ·rw [Zjj _ _ _ _ _ hi,ha]
   by_cases e:i=t
   ·rw [U09 e,U09 e,U08 (by omega)]
   ·rw [U08 e,U08 e,U08 hr]
    by_cases h2:t<=i/\i<t+1+szN x
    ·rw [U09 h2,U09 h2,U09 (by omega)]
    ·rw [U08 h2,U08 h2,U08 (by omega)]
  ·rw [Zhr _ _ (by rw [Z65];omega),U08 (by omega),U08 (by omega),Zhr _ _ (by omega)]
structure JX (m:MD) (l1 l2:List Nat) (P:List (Nat × Nat)) (e:Nat) (φ:Nat->Option Nat):Prop where
 S:m.Shape (l1++l2)
 h64:MD64 m
 w1:Z09 m.F (G0 m.F) (m.n1 - m.n0) m.n0 m.n1=some l1
 w2:Z09 m.F (G0 m.F) (m.m1 - m.m0) m.m0 m.m1=some l2
 t:Z0l m.F m.m0 P e
 e:e<=m.W.length
 nd:(P.map Prod.fst).Nodup
 sub:∀ p∈P,p.1∈l1++l2
 φ:∀ f t,φ f=some t ↔ (f,t)∈P
 ahead:P.Pairwise (fun p q=>(p.1∈l2/\q.1∈l1)\/(p.1<q.1/\(p.1∈l2 ↔ q.1∈l2)))
 roots:∀ x∈m.R,0<=ptI x->(ptI x).toNat∈P.map Prod.fst
 fields:∀ p∈P,¬ m.F p.1 / 4 % 256<8 -> ∀ k,k<szN (m.F p.1)->0<=ptI (m.F (p.1+1+k))->(ptI (m.F (p.1+1+k))).toNat∈P.map Prod.fst
variable {m:MD}{l1 l2:List Nat}{P:List (Nat × Nat)}{e:Nat}{φ:Nat->Option Nat}
theorem JX.num (X:JX m l1 l2 P e φ):∃ h:Nat,m.half=(h:Int)/\1<=h/\m.m0=2*h/\m.m0<=m.m1/\m.m1<=m.W.length/\m.n0<=m.n1/\m.n1<=m.m0/\m.W.length<=300000:=by
 have hF:=X.S.1
 have Q:=MD.parts hF
 have hn:=hF.nums
 unfold Z0c at hn
 have hw:=hF.w
 have u0:=hF.u0
 have u1:=hF.u1
 have t0:=hF.t0
 have t1:=hF.t1
 have p0:=Q.n0
 have p1:=Q.n1
 have p2:=Q.m0
 have p3:=Q.m1
 have o0:=hF.o0
 have o1:=hF.o1
 obtain ⟨h,hh⟩:∃ h:Nat,m.half=(h:Int):=⟨m.half.toNat,by omega⟩
 have hu:m.used=0\/m.used=1:=by omega
 rcases hu with hu | hu
 ·rw [hu] at p0 p1
  simp only [U2x] at p0 p1
  exact ⟨h,hh,by omega,by omega,by omega,by omega,by omega,by omega,by omega⟩
 ·rw [hu] at p0 p1
  simp only [U2z] at p0 p1
  exact ⟨h,hh,by omega,by omega,by omega,by omega,by omega,by omega,by omega⟩
theorem JX.in1 (X:JX m l1 l2 P e φ) {f:Nat} (hf:f∈l1):f+1+szN (m.F f)<=m.m0:=by
 obtain ⟨h,_,_,_,_,_,_,h7,_⟩:=X.num
 have:=Z0o X.w1 f hf
 omega
theorem JX.t2 (X:JX m l1 l2 P e φ):Z0l m.F m.m0 (l2.map fun f=>(f,f)) m.m1:=by
 obtain ⟨h,_,_,_,h4,_⟩:=X.num
 exact Z1v X.w2 h4 (U02 _)
theorem JX.in2 (X:JX m l1 l2 P e φ) {f:Nat} (hf:f∈l2):m.m0<=f/\f+1+szN (m.F f)<=m.m1:=X.t2.mem (f,f) (U0l.2 ⟨f,hf,rfl⟩)
theorem JX.old2 (X:JX m l1 l2 P e φ) {f g:Nat} (hf:f∈l2) (hg:g∈l2) (h:f<g):f+1+szN (m.F f)<=g:=by
 rcases X.t2.apart (f,f) (U0l.2 ⟨f,hf,rfl⟩) (g,g) (U0l.2 ⟨g,hg,rfl⟩) with h1 | h1
 ·have:=(U56 h1).1;omega
 ·have h1:f+1+szN (m.F f)<=g\/g+1+szN (m.F g)<=f:=h1
  omega
theorem Zae (X:JX m l1 l2 P e φ):∀ {Q:List (Nat × Nat)}{a b:Nat},Z0l m.F a Q b->Q.Pairwise (fun p q=>(p.1∈l2/\q.1∈l1)\/(p.1<q.1/\(p.1∈l2 ↔ q.1∈l2)))->(∀ q∈Q,q.1∈l2->a<=q.1) -> ∀ q∈Q,q.1∈l2->q.2<=q.1
 | [],_,_,_,_,_,q,hq,_=>by simp at hq
 | p::Q,a,b,ht,hp,ha,q,hq,hq2=>by
  obtain ⟨h1,h2⟩:=List.pairwise_cons.1 hp
  rcases U19.1 hq with rfl | hq1
  ·have:=ht.1;have:=ha q (by simp) hq2;omega
  ·refine Zae X ht.2 h2 (fun r hr hr2 => ?_) q hq1 hq2
   have ar:=ha r (by simp [hr]) hr2
   rcases h1 r hr with ⟨_,h4⟩ | ⟨h4,h5⟩
   ·have:=X.in1 h4;have:=X.in2 hr2;omega
   ·have hp2:=h5.2 hr2
    have:=X.old2 hp2 hr2 h4
    have:=ha p (by simp) hp2
    omega
theorem JX.down (X:JX m l1 l2 P e φ):∀ q∈P,q.1∈l2->q.2<=q.1:=Zae X X.t X.ahead (fun _ _ hq=>(X.in2 hq).1)
structure JI (m:MD) (φ:Nat->Option Nat) (P1:List (Nat × Nat)) (c:Nat) (W:List Int):Prop where
 len:W.length=m.W.length
 u64:U64 W
 hd:∀ p∈P1,W.getD p.2 0=hdW (m.F p.1) 0
 fld:∀ p∈P1,∀ k,k<szN (m.F p.1)->W.getD (p.2+1+k) 0=if m.F p.1 / 4 % 256<8 then m.F (p.1+1+k) else (Z0g 0 m.W.length φ (m.F (p.1+1+k))).1
 rest:∀ i,i<m.m0\/c<=i->W.getD i 0=m.F i
theorem JX.few (X:JX m l1 l2 P e φ):∀ f t,φ f=some t->t<=300000:=fun f t h=>by
 obtain ⟨h',_,_,_,_,_,_,_,h8⟩:=X.num
 have:=X.t.mem _ ((X.φ f t).1 h)
 have h1:m.m0<=t/\t+1+szN (m.F f)<=e:=this
 have:=X.e
 omega
theorem JX.range (X:JX m l1 l2 P e φ) (i:Nat):0<=m.F i/\m.F i<18446744073709551616:=by
 unfold MD.F
 rw [U07]
 cases h:m.W[i]? with
 | none=>exact ⟨by decide,by decide⟩
 | some x=>exact X.h64.w x (U0a h)
theorem JX.start (X:JX m l1 l2 P e φ):JI m φ [] m.m0 m.W:=⟨rfl,X.h64.w,by simp,by simp,fun _ _=>rfl⟩
theorem JI.step {P1 P2:List (Nat × Nat)}{p:Nat × Nat}{W:List Int} (X:JX m l1 l2 P e φ) (hP:P=P1++p::P2) (I:JI m φ P1 p.2 W):W.getD p.1 0=m.F p.1/\p.1+(1+szN (m.F p.1))<=m.W.length/\p.2+(1+szN (m.F p.1))<=m.W.length/\JI m φ (P1 ++ [p]) (p.2+1+szN (m.F p.1)) (Z2g m.W.length φ W p.1 p.2 (m.F p.1)):=by
 obtain ⟨h,_,_,hm0,hm1,hmW,hn,hnm,hW3⟩:=X.num
 have hpP:p∈P:=by rw [hP];simp
 have htl:=X.t
 rw [hP] at htl
 obtain ⟨c,t1,t2⟩:=htl.split
 have hc:p.2=c:=t2.1
 have hle:=Z0l.le t2.2
 have he:=X.e
 have hin:=X.sub p hpP
 have hsrc:∀ i,p.1<=i->i<p.1+1+szN (m.F p.1)->i<m.m0\/p.2<=i:=fun i h1 h2=>by
  rcases U0c.1 hin with hl | hl
  ·have:=X.in1 hl;omega
  ·have:=X.down p hpP hl;omega
 have hf:p.1+(1+szN (m.F p.1))<=m.W.length:=by have:=(X.S.fine _ hin).2;omega
 have hto:p.2+(1+szN (m.F p.1))<=m.W.length:=by omega
 have hx:W.getD p.1 0=m.F p.1:=I.rest _ (hsrc _ (U02 _) (by omega))
 have hxr:=X.range p.1
 have hd:=Z2s (X.S.fine _ hin).1 hxr.1 (g:=0) (by omega) (by omega)
 have hfW:p.1+(1+szN (m.F p.1))<=W.length:=by rw [I.len];exact hf
 have htW:p.2+(1+szN (m.F p.1))<=W.length:=by rw [I.len];exact hto
 have hat:=Zdz (nW:=m.W.length) (φ:=φ) htW hfW
 have hap:∀ q∈P1,q.2+1+szN (m.F q.1)<=p.2:=fun q hq=>by have:=t1.mem q hq;omega
 refine ⟨hx,hf,hto,?_,?_,fun q hq => ?_,fun q hq k hk => ?_,fun i hi => ?_⟩
 ·rw [Zaz htW hfW];exact I.len
 ·intro y hy
  obtain ⟨i,hi,rfl⟩:=U27.1 hy
  have hg:(Z2g m.W.length φ W p.1 p.2 (m.F p.1))[i]=(Z2g m.W.length φ W p.1 p.2 (m.F p.1)).getD i 0:=by rw [U07,U03 hi];rfl
  have hWr:∀ j,0<=W.getD j 0/\W.getD j 0<18446744073709551616:=fun j=>by
   rw [U07]
   cases hj:W[j]? with
   | none=>exact ⟨by decide,by decide⟩
   | some x=>exact I.u64 x (U0a hj)
  rw [hg,hat]
  split
  ·exact ⟨hd.2.2.2.2.2.1,hd.2.2.2.2.2.2⟩
  ·split
   ·split
    ·exact hWr _
    ·exact Z49 X.few (hWr _).1 (hWr _).2
   ·exact hWr _
 ·rcases U0c.1 hq with hq | hq
  ·have:=hap q hq
   rw [hat,U08 (by omega),U08 (by omega)];exact I.hd q hq
  ·obtain rfl:q=p:=by simpa using hq
   rw [hat,U09 rfl]
 ·rcases U0c.1 hq with hq | hq
  ·have:=hap q hq
   rw [hat,U08 (by omega),U08 (by omega)];exact I.fld q hq k hk
  ·obtain rfl:q=p:=by simpa using hq
   rw [hat,U08 (by omega),U09 (by omega),show q.1+(q.2+1+k - q.2)=q.1+1+k by omega,I.rest _ (hsrc _ (by omega) (by omega))]
 ·have:=X.t.mem p hpP
  rw [hat,U08 (by omega),U08 (by omega)]
  exact I.rest i (by omega)
end
section
variable {m:MD}{l1 l2:List Nat}{P:List (Nat × Nat)}{e:Nat}{φ:Nat->Option Nat}
def Zmf (m:MD) (φ:Nat->Option Nat) (W:List Int) (e:Nat):MD:=⟨m.half,m.old,m.card,m.used,0,(e:Int) - (m.m0:Int),W,m.R.map (fun x=>(Z0g 0 m.W.length φ x).1),m.K.map (fun x=>(Z0g 0 m.W.length φ x).1),Z32 (Z0g 0 m.W.length φ) m.I,List.replicate m.C.length false⟩
def atP (φ:Nat->Option Nat) (f:Nat):Nat:=(φ f).getD f
theorem JX.has (X:JX m l1 l2 P e φ) {f:Nat} (h:f∈P.map Prod.fst):(f,atP φ f)∈P:=by
 obtain ⟨p,hp,rfl⟩:=U0l.1 h
 have:atP φ p.1=p.2:=by unfold atP;rw [(X.φ p.1 p.2).2 hp];rfl
 rw [this];exact hp
theorem JX.none (X:JX m l1 l2 P e φ) {f:Nat} (h:f ∉ P.map Prod.fst):φ f=Option.none:=by
 cases hf:φ f with
 | none=>rfl
 | some t=>exact absurd (U0l.2 ⟨_,(X.φ f t).1 hf,rfl⟩) h
theorem JX.now (X:JX m l1 l2 P e φ) {x:Int} (hx:Z0b m.W.length (fun i=>decide (i∈l1++l2)) x=true) :
  (Z4r (fun f=>f∈P.map Prod.fst) x->Z0g 0 m.W.length φ x=(mvI (atP φ) x,true))/\(¬ Z4r (fun f=>f∈P.map Prod.fst) x->Z0g 0 m.W.length φ x=(2,false)/\0<=ptI x/\(ptI x).toNat ∉ P.map Prod.fst):=by
 by_cases hp:0<=ptI x
 ·have hin:=Z8v hx hp
  have hlt:=(X.S.fine _ hin).2
  have hc:0<=ptI x/\((0:Nat):Int)<=ptI x/\ptI x<(m.W.length:Int):=⟨hp,by omega,by omega⟩
  refine ⟨fun h => ?_,fun h => ?_⟩
  ·have hs:=h hp
   have h1:=(X.φ _ _).2 (X.has hs)
   unfold Z0g mvI
   rw [U09 hc,U09 hp,h1]
  ·have hns:(ptI x).toNat ∉ P.map Prod.fst:=fun hs=>h (fun _=>hs)
   unfold Z0g
   rw [U09 hc,X.none hns]
   exact ⟨rfl,hp,hns⟩
 ·refine ⟨fun _ => ?_,fun h=>absurd (fun h'=>absurd h' hp) h⟩
  unfold Z0g
  rw [U08 (fun h=>hp h.1),Zbw hp]
structure MColl (m n:MD) (l1 l2:List Nat) (us:List Nat) (S:Nat->Prop) (ψ:Nat->Nat):Prop where
 shape:n.Shape us
 h64:MD64 n
 cards:n.cardsB=true
 iso:Iso m.F n.F S ψ
 roots:n.R=m.R.map (mvI ψ)
 rin:∀ x∈m.R,Z4r S x
 in':∀ f,S f->f∈l1++l2/\ψ f∈us
 out:∀ t∈us,∃ f,S f/\ψ f=t
 order:∀ f g,S f->S g->((f∈l2/\g∈l1)\/(f<g/\(f∈l2 ↔ g∈l2)))->ψ f<ψ g
 half:n.half=m.half
 hold:n.old=m.old
 card:n.card=m.card
 used:n.used=m.used
 top:n.top=0
 cf:n.C=List.replicate m.C.length false
 klen:n.K.length=m.K.length
 weak:∀ i,i<m.K.length->(Z4r S (m.K.getD i 0)/\n.K.getD i 0=mvI ψ (m.K.getD i 0))\/(0<=ptI (m.K.getD i 0) /\ ¬ S (ptI (m.K.getD i 0)).toNat/\n.K.getD i 0=2)
 ids:∃ c:Int × Int->Bool,n.I=(m.I.filter c).map (fun x=>(mvI ψ x.1,x.2)) /\ ∀ x∈m.I,c x=true ↔ S (ptI x.1).toNat
theorem JX.bits (X:JX m l1 l2 P e φ):∀ f∈l1++l2,m.F f / 16384 % 2=0:=fun f hf=>by
 rcases U0c.1 hf with hf | hf
 ·exact U0j (U0m.1 (Z0h.1 X.w1).2 f hf)
 ·exact U0j (U0m.1 (Z0h.1 X.w2).2 f hf)
theorem JI.coll {W:List Int} (I:JI m φ P e W) (X:JX m l1 l2 P e φ):MColl m (Zmf m φ W e) l1 l2 (P.map Prod.snd) (fun f=>f∈P.map Prod.fst) (atP φ):=by
 obtain ⟨h,hh,h1',hm0,hm1,hmW,hn,hnm,hW3⟩:=X.num
 have hF:=X.S.1
 have hw:=hF.w
 have Q:=MD.parts hF
 have pm0:=Q.m0
 have he:=X.e
 have hme:=X.t.le
 have t0:=hF.t0
 have t1:=hF.t1
 have hnum:=hF.nums
 unfold Z0c at hnum
 obtain ⟨n,hn'⟩:∃ n,n=Zmf m φ W e:=⟨_,rfl⟩
 have nF:∀ i,n.F i=W.getD i 0:=fun i=>by rw [hn'];rfl
 have nW:n.W=W:=by rw [hn'];rfl
 have nWl:n.W.length=m.W.length:=by rw [nW];exact I.len
 have nh:n.half=m.half:=by rw [hn'];rfl
 have nn01:n.n1=n.n0:=by rw [hn'];show (m.used*m.half+0).toNat=(m.used*m.half).toNat;rw [Int.add_zero]
 have nm0:n.m0=m.m0:=by rw [hn'];rfl
 have nm1:n.m1=e:=by rw [hn'];show (2*m.half+((e:Int) - (m.m0:Int))).toNat=e;omega
 obtain ⟨us,hus⟩:∃ us,us=P.map Prod.snd:=⟨_,rfl⟩
 obtain ⟨S,hS⟩:∃ S:Nat->Prop,S=fun f=>f∈P.map Prod.fst:=⟨_,rfl⟩
 obtain ⟨ψ,hψ⟩:∃ ψ,ψ=atP φ:=⟨_,rfl⟩
 have hSP:∀ f,S f->(f,ψ f)∈P:=fun f hf=>by rw [hψ];rw [hS] at hf;exact X.has hf
 have hPS:∀ p∈P,S p.1/\ψ p.1=p.2:=fun p hp=>by
  rw [hS,hψ]
  exact ⟨U0l.2 ⟨p,hp,rfl⟩,by unfold atP;rw [(X.φ p.1 p.2).2 hp];rfl⟩
 have hlt:∀ p∈P,m.m0<=p.2/\p.2+1+szN (m.F p.1)<=e:=fun p hp=>X.t.mem p hp
 have hdr:∀ p∈P,Z0t (W.getD p.2 0)=true/\szN (W.getD p.2 0)=szN (m.F p.1)/\W.getD p.2 0 / 4 % 256=m.F p.1 / 4 % 256/\W.getD p.2 0 / 16384 % 2=0/\W.getD p.2 0 / 1024 % 16=0:=fun p hp=>by
  rw [I.hd p hp]
  obtain ⟨a1,a2,a3,a4,a5,_⟩:=Z2s (X.S.fine _ (X.sub p hp)).1 (X.range p.1).1 (g:=0) (by omega) (by omega)
  exact ⟨a5,by unfold szN;rw [a1],a2,by rw [a4];exact X.bits _ (X.sub p hp),a3⟩
 have hclS:∀ p∈P,¬ m.F p.1 / 4 % 256<8 -> ∀ k,k<szN (m.F p.1)->Z4r S (m.F (p.1+1+k)):=fun p hp hr k hk h0=>by rw [hS];exact X.fields p hp hr k hk h0
 have hnow:∀ x,Z0b m.W.length (fun i=>decide (i∈l1++l2)) x=true->(Z4r S x->Z0g 0 m.W.length φ x=(mvI ψ x,true))/\(¬ Z4r S x->Z0g 0 m.W.length φ x=(2,false)/\0<=ptI x /\ ¬ S (ptI x).toNat):=fun x hx=>by rw [hS,hψ];exact X.now hx
 have hfl:∀ p∈P,∀ k,k<szN (m.F p.1)->W.getD (p.2+1+k) 0=if m.F p.1 / 4 % 256<8 then m.F (p.1+1+k) else mvI ψ (m.F (p.1+1+k)):=fun p hp k hk=>by
  rw [I.fld p hp k hk]
  by_cases hr:m.F p.1 / 4 % 256<8
  ·rw [U09 hr,U09 hr]
  ·rw [U08 hr,U08 hr,(hnow _ (X.S.held (X.sub p hp) hk hr)).1 (hclS p hp hr k hk)]
 have hin:∀ f,S f->ψ f∈us/\ψ f<m.W.length:=fun f hf=>by
  have hp:=hSP f hf
  have:=hlt _ hp
  refine ⟨by rw [hus];exact U0l.2 ⟨_,hp,rfl⟩,?_⟩
  have h2:m.m0<=ψ f/\ψ f+1+szN (m.F f)<=e:=this
  omega
 have iso:Iso m.F n.F S ψ:=by
  refine ⟨fun f g hf hg hfg => ?_,fun f hf => ?_,fun f hf => ?_,fun f hf => ?_,fun f hf k hk => ?_,fun f hf hk k hk1=>hclS _ (hSP f hf) hk k hk1⟩
  ·rcases X.t.apart _ (hSP f hf) _ (hSP g hg) with h1 | h1
   ·exact (U56 h1).1
   ·have h1:ψ f+1+szN (m.F f)<=ψ g\/ψ g+1+szN (m.F g)<=ψ f:=h1
    omega
  ·have:=(hin f hf).2;omega
  ·rw [nF];exact (hdr _ (hSP f hf)).2.2.1
  ·rw [nF];exact (hdr _ (hSP f hf)).2.1
  ·rw [nF];exact hfl _ (hSP f hf) k hk
 obtain ⟨rR,rK,rI⟩:=X.S.rest'
 have hrin:∀ x∈m.R,Z4r S x:=fun x hx h0=>by rw [hS];exact X.roots x hx h0
 have nR:n.R=m.R.map (mvI ψ):=by
  rw [hn']
  show m.R.map (fun x=>(Z0g 0 m.W.length φ x).1)=m.R.map (mvI ψ)
  exact U15 fun x hx=>by rw [(hnow x (rR x hx)).1 (hrin x hx)]
 have hvs:∀ v∈l1++l2,v<300000:=fun v hv=>by have:=(X.S.fine v hv).2;omega
 have hfb:∀ x,Z0b m.W.length (fun i=>decide (i∈l1++l2)) x=true->Z4r S x->Z0b n.W.length (fun i=>decide (i∈us)) (mvI ψ x)=true:=fun x h1 h2=>by rw [nWl];exact Zdw hin h1 h2 hvs
 have walkN:∀ T:Nat->Bool,Z09 n.F T (n.n1 - n.n0) n.n0 n.n1=some []:=fun T=>Z3b (by omega)
 have walkO:∀ T:Nat->Bool,(∀ p∈P,T p.2=true)->Z09 n.F T (n.m1 - n.m0) n.m0 n.m1=some us:=fun T hT=>by
  rw [nm0,nm1,hus]
  refine Z36 X.t (fun p hp => ?_) (U02 _)
  rw [nF]
  exact ⟨(hdr p hp).1,(hdr p hp).2.1,hT p hp⟩
 have fits:n.FitsM:=by
  rw [hn']
  show Fits m.half m.old m.card W.length (List.replicate m.C.length false).length m.used 0 ((e:Int) - (m.m0:Int))
  rw [I.len,U17]
  exact ⟨hF.nums,hF.w,hF.c,hF.u0,hF.u1,by omega,by omega,by omega,by omega⟩
 have nI:n.I=Z32 (Z0g 0 m.W.length φ) m.I:=by rw [hn'];rfl
 obtain ⟨i1,i2⟩:=Z64.1 rI
 have hmvx:∀ x∈m.I,0<=ptI x.1/\x.1=(ptI x.1+1)*4/\((Z0g 0 m.W.length φ x.1).2=true->S (ptI x.1).toNat/\(Z0g 0 m.W.length φ x.1).1=(((ψ (ptI x.1).toNat:Nat):Int)+1)*4)/\(S (ptI x.1).toNat->(Z0g 0 m.W.length φ x.1).2=true):=fun x hx=>by
  obtain ⟨q1,q2⟩:=Zld (by omega) (i1 x hx).1
  obtain ⟨b1,b2⟩:=hnow x.1 (Z48 (i1 x hx).1)
  refine ⟨q1,q2,fun ho => ?_,fun hs=>by rw [b1 (fun _=>hs)]⟩
  by_cases hp:Z4r S x.1
  ·refine ⟨hp q1,?_⟩
   rw [b1 hp];show mvI ψ x.1=_;unfold mvI;rw [U09 q1]
  ·rw [(b2 hp).1] at ho;cases ho
 have hidx:∀ y∈n.I,∃ x∈m.I,(Z0g 0 m.W.length φ x.1).2=true/\y=((Z0g 0 m.W.length φ x.1).1,x.2):=fun y hy=>by
  rw [nI] at hy
  unfold Z32 at hy
  obtain ⟨x,hx,hy⟩:=List.mem_filterMap.1 hy
  split at hy
  ·rename_i ho
   cases hy
   exact ⟨x,hx,ho,rfl⟩
  ·cases hy
 have ids:Z6j n.W.length (fun i=>decide (i∈us)) n.I=true:=by
  refine Z64.2 ⟨fun y hy => ?_,?_⟩
  ·obtain ⟨x,hx,ho,rfl⟩:=hidx y hy
   obtain ⟨q1,q2,q3,q4⟩:=hmvx x hx
   refine ⟨?_,(i1 x hx).2⟩
   show Z2y n.W.length _ (Z0g 0 m.W.length φ x.1).1=true
   rw [(q3 ho).2,nWl]
   exact Zdy (hin _ (q3 ho).1).1 (hin _ (q3 ho).1).2
  ·rw [nI]
   unfold Z32
   refine List.pairwise_filterMap.2 ?_
   refine U3j ?_ i2
   intro x y hx hy hxy a ha b hb
   split at ha
   ·rename_i o1
    split at hb
    ·rename_i o2
     cases ha
     cases hb
     obtain ⟨q1,q2,q3,_⟩:=hmvx x hx
     obtain ⟨p1,p2,p3,_⟩:=hmvx y hy
     refine ⟨fun h1=>hxy.1 ?_,hxy.2⟩
     have h1:(Z0g 0 m.W.length φ x.1).1=(Z0g 0 m.W.length φ y.1).1:=h1
     rw [(q3 o1).2,(p3 o2).2] at h1
     have:=iso.inj _ _ (q3 o1).1 (p3 o2).1 (by omega)
     omega
    ·cases hb
   ·cases ha
 have hU:∀ x:Int,0<=x/\x<18446744073709551616->0<=(Z0g 0 m.W.length φ x).1/\(Z0g 0 m.W.length φ x).1<18446744073709551616:=fun x hx=>Z49 X.few hx.1 hx.2
 have h64:MD64 n:=by
  refine ⟨by rw [nW];exact I.u64,?_,?_,fun y hy => ?_⟩
  ·rw [hn'];intro y hy;obtain ⟨x,hx,rfl⟩:=U0l.1 hy;exact hU x (X.h64.r x hx)
  ·rw [hn'];intro y hy;obtain ⟨x,hx,rfl⟩:=U0l.1 hy;exact hU x (X.h64.k x hx)
  ·obtain ⟨x,hx,ho,rfl⟩:=hidx y hy
   have:=X.h64.i x hx
   exact ⟨hU x.1 this.1,this.2⟩
 have g2:∀ p∈P,G2 n.F n.W.length (fun i=>decide (i∈us)) p.2=true:=fun p hp=>by
  have a:=hdr p hp
  unfold G2
  rw [nF,a.2.2.1]
  by_cases hr:m.F p.1 / 4 % 256<8
  ·rw [U0d hr,U2g]
  ·rw [U0k hr,U1n,U0m]
   intro x hx
   unfold Z07 at hx
   obtain ⟨k,hk,rfl⟩:=U0l.1 hx
   have hk:=U0u.1 hk
   rw [nF,a.2.1] at hk
   rw [nF,hfl p hp k hk,U08 hr]
   exact hfb _ (X.S.held (X.sub p hp) hk hr) (hclS p hp hr k hk)
 have g3:∀ p∈P,G3 n.F n.Cf n.half n.card p.2=true:=fun p hp=>by
  have a:=hdr p hp
  unfold G3
  rw [nF,a.2.2.1]
  by_cases hr:m.F p.1 / 4 % 256<8
  ·rw [U0d hr,U2g]
  ·rw [U0k hr,U1n,U0m]
   intro k hk
   have hk:=U0u.1 hk
   rw [a.2.1] at hk
   unfold Z5m
   have hy:Z14 n.half (n.F (p.2+1+k))=false:=by
    cases hy:Z14 n.half (n.F (p.2+1+k)) with
    | false=>rfl
    | true =>
     exfalso
     rw [nF,hfl p hp k hk,U08 hr,nh] at hy
     have hb:=X.S.held (X.sub p hp) hk hr
     unfold Z14 at hy
     have hy:=U0j hy
     by_cases h0:0<=ptI (m.F (p.1+1+k))
     ·have hs:=hclS p hp hr k hk h0
      have h2:=hlt _ (hSP _ hs)
      have h2:m.m0<=ψ (ptI (m.F (p.1+1+k))).toNat:=h2.1
      unfold mvI at hy
      rw [U09 h0] at hy
      omega
     ·rw [Zbw h0] at hy
      have:0<=ptI (m.F (p.1+1+k)):=by
       unfold ptI
       rw [U09 ⟨hy.1,hy.2.1,by omega⟩]
       omega
      exact h0 this
   rw [hy];rfl
 have shape:n.Shape us:=by
  refine ⟨fits,?_,?_,?_⟩
  ·unfold MD.objs
   rw [walkN,walkO _ (fun p hp=>by
    have a:=hdr p hp
    unfold G1
    rw [nF,U0d a.2.2.2.1,U0d a.2.2.2.2,U5e];rfl)]
   rfl
  ·unfold MD.holdB
   rw [walkN,walkO _ g2];rfl
  ·unfold MD.restB
   rw [U0i,U0i,U0m,U0m]
   refine ⟨fun y hy => ?_,fun y hy => ?_,ids⟩
   ·rw [nR] at hy
    obtain ⟨x,hx,rfl⟩:=U0l.1 hy
    exact hfb x (rR x hx) (hrin x hx)
   ·rw [hn'] at hy
    obtain ⟨x,hx,rfl⟩:=U0l.1 hy
    obtain ⟨b1,b2⟩:=hnow x (rK x hx)
    by_cases hp:Z4r S x
    ·rw [b1 hp];exact hfb x (rK x hx) hp
    ·rw [(b2 hp).1]
     unfold Z0b
     rw [U08 (by decide),U09 (by decide)]
     decide
 rw [<-hn',<-hus,<-hS,<-hψ]
 refine ⟨shape,h64,?_,iso,nR,hrin,fun f hf=>⟨X.sub _ (hSP f hf),(hin f hf).1⟩,fun t ht => ?_,fun f g hf hg hfg => ?_,nh,by rw [hn'];rfl,by rw [hn'];rfl,by rw [hn'];rfl,by rw [hn'];rfl,by rw [hn'];rfl,by rw [hn'];exact U0v _,fun i hi => ?_,⟨fun x=>(Z0g 0 m.W.length φ x.1).2,?_,fun x hx=>⟨fun ho=>((hmvx x hx).2.2.1 ho).1,(hmvx x hx).2.2.2⟩⟩⟩
 ·unfold MD.cardsB
  rw [walkO _ g3];rfl
 ·rw [hus] at ht
  obtain ⟨p,hp,rfl⟩:=U0l.1 ht
  exact ⟨p.1,(hPS p hp).1,(hPS p hp).2⟩
 ·have hp:=hSP f hf
  have hq:=hSP g hg
  have hno:∀ a b:Nat,((a∈l2/\b∈l1)\/(a<b/\(a∈l2 ↔ b∈l2)))->((b∈l2/\a∈l1)\/(b<a/\(b∈l2 ↔ a∈l2)))->False:=fun a b h1 h2=>by
   have dis:∀ z,z∈l1->z∈l2->False:=fun z z1 z2=>by have:=X.in1 z1;have:=X.in2 z2;omega
   rcases h1 with ⟨a1,b1⟩ | ⟨a1,b1⟩
   ·rcases h2 with ⟨a2,b2⟩ | ⟨a2,b2⟩
    ·exact dis a b2 a1
    ·exact dis b b1 (b2.2 a1)
   ·rcases h2 with ⟨a2,b2⟩ | ⟨a2,b2⟩
    ·exact dis a b2 (b1.2 a2)
    ·omega
  have hne:(f,ψ f)≠(g,ψ g):=fun h1=>by
   have h1:=(U56 h1).1
   rw [h1] at hfg
   exact hno g g hfg hfg
  obtain ⟨i,hi,e1⟩:=U27.1 hp
  obtain ⟨j,hj,e2⟩:=U27.1 hq
  have hpw:=X.ahead
  have htp:=X.t
  rw [U1y] at hpw
  rcases Nat.lt_trichotomy i j with hij | hij | hij
  ·have hh:Q=Q:=rfl
   have h3:∀ {L:List (Nat × Nat)}{a b:Nat},Z0l m.F a L b->L.Pairwise (fun p q=>p.2+1+szN (m.F p.1)<=q.2):=fun {L} => by
    induction L with
    | nil=>intro a b _;exact List.Pairwise.nil
    | cons p L ih =>
     intro a b ht
     refine List.Pairwise.cons (fun q hq => ?_) (ih ht.2)
     have:=Z0l.mem ht.2 q hq
     have:=ht.1
     omega
   have h4:=h3 htp
   rw [U1y] at h4
   have h5:=h4 i j hi hj hij
   rw [e1,e2] at h5
   have h5:ψ f+1+szN (m.F f)<=ψ g:=h5
   omega
  ·subst hij
   exact absurd (e1.symm.trans e2) hne
  ·have h6:=hpw j i hj hi hij
   rw [e1,e2] at h6
   exact (hno f g hfg h6).elim
 ·obtain ⟨x,hx⟩:∃ x,m.K[i]?=some x:=⟨_,U03 hi⟩
  have hg:m.K.getD i 0=x:=by rw [U07,hx];rfl
  have hg2:n.K.getD i 0=(Z0g 0 m.W.length φ x).1:=by
   rw [hn']
   show (m.K.map _).getD i 0=_
   rw [U07,U0g,hx];rfl
  obtain ⟨b1,b2⟩:=hnow x (rK x (U0a hx))
  rw [hg,hg2]
  by_cases hp:Z4r S x
  ·rw [b1 hp];exact Or.inl ⟨hp,rfl⟩
  ·rw [(b2 hp).1];exact Or.inr ⟨(b2 hp).2.1,(b2 hp).2.2,rfl⟩
 ·rw [nI]
  unfold Z32
  have hgen:∀ l:List (Int × Int),(∀ x∈l,x∈m.I)->(l.filterMap fun x=>if (Z0g 0 m.W.length φ x.1).2=true then some ((Z0g 0 m.W.length φ x.1).1,x.2) else none)=(l.filter fun x=>(Z0g 0 m.W.length φ x.1).2).map (fun x=>(mvI ψ x.1,x.2)):=fun l=>by
   induction l with
   | nil=>intro _;rfl
   | cons x l ih =>
    intro hl
    have ih:=ih (fun y hy=>hl y (by simp [hy]))
    rw [U43,U5g]
    by_cases ho:(Z0g 0 m.W.length φ x.1).2=true
    ·obtain ⟨q1,q2,q3,q4⟩:=hmvx x (hl x (by simp))
     have q5:mvI ψ x.1=(((ψ (ptI x.1).toNat:Nat):Int)+1)*4:=by unfold mvI;rw [U09 q1]
     rw [U09 ho,U09 ho,U1f,q5,<-(q3 ho).2,ih]
    ·rw [U08 ho,U08 ho];exact ih
  exact hgen m.I (fun _ h=>h)
end
theorem Zk2 {out:List Nat}{x:Int} (h:0<=ptI x):(ptI x).toNat∈Z29 out x:=by
 unfold Z29
 by_cases hc:objI out (ptI x)<0
 ·rw [U09 ⟨h,hc⟩];simp
 ·rw [U08 (fun h1=>hc h1.2)]
  have e:ptI x=(((ptI x).toNat:Nat):Int):=by omega
  rw [e] at hc
  exact Z2a.1 (by omega)
theorem Z6t:∀ {l:List Int}{out:List Nat},∀ x∈l,0<=ptI x->(ptI x).toNat∈Z0n out l
 | [],_,x,hx,_=>by simp at hx
 | y::l,out,x,hx,h0=>by
  show (ptI x).toNat∈Z0n (Z29 out y) l
  rcases U19.1 hx with rfl | hx
  ·obtain ⟨r,hr⟩:=Z6u l (Z29 out x)
   rw [hr]
   exact U0c.2 (Or.inl (Zk2 h0))
  ·exact Z6t x hx h0
def Zik (F:Nat->Int) (out:List Nat) (f:Nat):Prop:=¬ F f / 4 % 256<8 -> ∀ x∈Z07 F f,0<=ptI x->(ptI x).toNat∈out
theorem Zik.more {F:Nat->Int}{out:List Nat}{f:Nat} (h:Zik F out f) (r:List Nat):Zik F (out++r) f:=fun h1 x hx h0=>U0c.2 (Or.inl (h h1 x hx h0))
theorem Zfw {F:Nat->Int}{out:List Nat}{f:Nat} : Zik F (Z33 F out f) f:=fun h1 x hx h0=>by
 unfold Z33
 rw [U08 h1]
 exact Z6t x hx h0
theorem Z66 {F:Nat->Int}{vs:List Nat} (hR:Reachy F vs):∀ (n:Nat) (out:List Nat) (k:Nat),Outs vs out->vs.length+1<=n+k->(∀ j f,j<k->out[j]?=some f->Zik F out f)->(∀ f∈Z10 F n out k,Zik F (Z10 F n out k) f) /\ ∃ r,Z10 F n out k=out++r
 | 0,out,k,ho,hk,hl=>by
  have:=ho.len
  rw [Z3z (by omega)]
  refine ⟨fun f hf => ?_,[],by rw [U16]⟩
  obtain ⟨j,hj⟩:=U21.1 hf
  have:=(U0e.1 hj).1
  exact hl j f (by omega) hj
 | n+1,out,k,ho,hk,hl=>by
  cases e:out[k]? with
  | none =>
   have hle:out.length<=k:=by
    rcases U2w k out.length with h | h
    ·rw [U03 h] at e;cases e
    ·exact h
   rw [Z3z hle]
   refine ⟨fun f hf => ?_,[],by rw [U16]⟩
   obtain ⟨j,hj⟩:=U21.1 hf
   have:=(U0e.1 hj).1
   exact hl j f (by omega) hj
  | some g =>
   rw [Zej e]
   obtain ⟨r,hr⟩:=Zcq F out g
   have hkl:=(U0e.1 e).1
   obtain ⟨h1,r2,h2⟩:=Z66 hR n (Z33 F out g) (k+1) (ho.step hR (ho.sub g (U0a e))) (by omega) (fun j f hj hf=>by
    rw [hr] at hf
    rw [U10 (by omega)] at hf
    by_cases hjk:j<k
    ·rw [hr];exact (hl j f hjk hf).more r
    ·obtain rfl:j=k:=by omega
     rw [e] at hf
     cases hf
     exact Zfw)
   exact ⟨h1,r++r2,by rw [h2,hr,U0y]⟩
theorem Z57 {m:MD}{vs:List Nat} (S:m.Shape vs) (h64:MD64 m):(∀ x∈m.R,0<=ptI x->(ptI x).toNat∈m.reach vs) /\ ∀ f∈m.reach vs,¬ m.F f / 4 % 256<8 -> ∀ k,k<szN (m.F f)->0<=ptI (m.F (f+1+k))->(ptI (m.F (f+1+k))).toNat∈m.reach vs:=by
 obtain ⟨h1,r,h2⟩:=Z66 (S.reachy h64) (vs.length+1) (Z0n [] m.R) 0 ((Z5f vs).comes (S.roots h64)) (by omega) (fun j f hj=>by omega)
 refine ⟨fun x hx h0 => ?_,fun f hf hk k hk1 h0=>h1 f hf hk _ (U0l.2 ⟨k,U0u.2 hk1,rfl⟩) h0⟩
 unfold MD.reach
 rw [h2]
 exact U0c.2 (Or.inl (Z6t x hx h0))
def Z2n (F:Nat->Int):Nat->List Nat->List (Nat × Nat)
 | _,[] => []
 | a,f::l=>(f,a)::Z2n F (a+1+szN (F f)) l
theorem Z1m (F:Nat->Int):∀ (l:List Nat) (a:Nat),(Z2n F a l).map Prod.fst=l
 | [],_=>rfl
 | f::l,a=>by unfold Z2n;rw [U1f,Z1m F l]
theorem Z8f (F:Nat->Int):∀ (l:List Nat) (a:Nat),Z0l F a (Z2n F a l) (a+Z0i F l)
 | [],a=>rfl
 | f::l,a=>by
  refine ⟨rfl,?_⟩
  have h:=Z8f F l (a+1+szN (F f))
  have e:a+1+szN (F f)+Z0i F l=a+Z0i F (f::l):=by unfold Z0i;rw [U1f,U32];omega
  rw [e] at h
  exact h
def Z7s (P:List (Nat × Nat)) (f:Nat):Option Nat:=(P.find? (fun p=>p.1 == f)).map Prod.snd
theorem Zei:∀ {P:List (Nat × Nat)},(P.map Prod.fst).Nodup -> ∀ f t,Z7s P f=some t ↔ (f,t)∈P
 | [],_,f,t=>by simp [Z7s]
 | p::P,hn,f,t=>by
  rw [U1f] at hn
  obtain ⟨h1,h2⟩:=U2r.1 hn
  have ih:=Zei h2 f t
  unfold Z7s at ih ⊢
  rw [List.find?_cons]
  by_cases e:p.1=f
  ·have hb:(p.1 == f)=true:=by rw [U3d];exact e
   rw [hb]
   constructor
   ·intro h
    have h:some p.2=some t:=h
    cases h
    rw [<-e];simp
   ·intro h
    rcases U19.1 h with h | h
    ·rw [<-h];rfl
    ·exact absurd (U0l.2 ⟨_,h,e.symm⟩) h1
  ·have hb:(p.1 == f)=false:=by rw [U0w];exact e
   rw [hb]
   refine ih.trans ⟨fun h=>U19.2 (Or.inr h),fun h => ?_⟩
   rcases U19.1 h with h | h
   ·rw [<-h] at e;exact absurd rfl e
   ·exact h
def Z0k (m0:Nat) (l:List Nat):List Nat:=l.filter (fun f=>decide (m0<=f))++l.filter (fun f=>decide (f<m0))
theorem JX.of {m:MD}{l1 l2:List Nat}{L:List Nat} (S:m.Shape (l1++l2)) (h64:MD64 m) (w1:Z09 m.F (G0 m.F) (m.n1 - m.n0) m.n0 m.n1=some l1) (w2:Z09 m.F (G0 m.F) (m.m1 - m.m0) m.m0 m.m1=some l2)
  (hp:L.Perm (m.reach (l1++l2))) (hs:L.Pairwise (fun a b=>a<=b)) (he:m.m0+Z0i m.F (Z0k m.m0 L)<=m.W.length) :
  JX m l1 l2 (Z2n m.F m.m0 (Z0k m.m0 L)) (m.m0+Z0i m.F (Z0k m.m0 L)) (Z7s (Z2n m.F m.m0 (Z0k m.m0 L))):=by
 have hO:=Z1h S h64
 have hmem:∀ f,f∈Z0k m.m0 L ↔ f∈m.reach (l1++l2):=fun f=>by
  unfold Z0k
  rw [U0c,U1l,U1l,<-hp.mem_iff]
  constructor
  ·rintro (h | h) <;> exact h.1
  ·intro h
   by_cases hc:m.m0<=f
   ·exact Or.inl ⟨h,U0d hc⟩
   ·exact Or.inr ⟨h,U0d (by omega)⟩
 have hLn:L.Nodup:=hp.nodup_iff.2 hO.once
 have hnd:(Z0k m.m0 L).Nodup:=by
  unfold Z0k
  refine U3r.2 ⟨hLn.filter _,hLn.filter _,fun a ha b hb e => ?_⟩
  have h1:=U0j (U1l.1 ha).2
  have h2:=U0j (U1l.1 hb).2
  omega
 have hlt:L.Pairwise (fun a b=>a<b):=(hs.and hLn).imp (fun h=>by have:=h.1;have:=h.2;omega)
 have hq:∀ f,f∈l1++l2->((m.m0<=f/\f∈l2)\/(f<m.m0/\f∈l1))/\(f∈l2->m.m0<=f):=fun f hf=>by
  have Q:=MD.parts S.1
  have p1:=Q.n1
  have p2:=Q.m0
  have u0:=S.1.u0
  have u1:=S.1.u1
  have t1:=S.1.t1
  have hn:=S.1.nums
  unfold Z0c at hn
  have hu:m.used=0\/m.used=1:=by omega
  have hn1:m.n1<=m.m0:=by
   rcases hu with hu | hu <;> (rw [hu] at p1;omega)
  have h2:f∈l2->m.m0<=f:=fun h=>(Z0o w2 f h).1
  refine ⟨?_,h2⟩
  rcases U0c.1 hf with h | h
  ·have:=Z0o w1 f h
   exact Or.inr ⟨by omega,h⟩
  ·exact Or.inl ⟨h2 h,h⟩
 refine ⟨S,h64,w1,w2,Z8f _ _ _,he,by rw [Z1m];exact hnd,fun p hp' => ?_,fun f t=>Zei (by rw [Z1m];exact hnd) f t,?_,fun x hx h0 => ?_,fun p hp' hk k hk1 h0 => ?_⟩
 ·have h1:p.1∈Z0k m.m0 L:=by rw [<-Z1m m.F (Z0k m.m0 L) m.m0];exact U0l.2 ⟨p,hp',rfl⟩
  exact hO.sub _ ((hmem _).1 h1)
 ·have hpw:(Z0k m.m0 L).Pairwise (fun a b=>(a∈l2/\b∈l1)\/(a<b/\(a∈l2 ↔ b∈l2))):=by
   have hin:∀ f∈L,f∈l1++l2:=fun f hf=>hO.sub f (hp.mem_iff.1 hf)
   unfold Z0k
   refine List.pairwise_append.2 ⟨?_,?_,fun a ha b hb => ?_⟩
   ·refine U3j ?_ (hlt.filter _)
    intro a b ha hb hab
    obtain ⟨a1,a2⟩:=U1l.1 ha
    obtain ⟨b1,b2⟩:=U1l.1 hb
    have a2:=U0j a2
    have b2:=U0j b2
    refine Or.inr ⟨hab,⟨fun _ => ?_,fun _ => ?_⟩⟩
    ·rcases (hq b (hin b b1)).1 with h | h
     ·exact h.2
     ·omega
    ·rcases (hq a (hin a a1)).1 with h | h
     ·exact h.2
     ·omega
   ·refine U3j ?_ (hlt.filter _)
    intro a b ha hb hab
    obtain ⟨a1,a2⟩:=U1l.1 ha
    obtain ⟨b1,b2⟩:=U1l.1 hb
    have a2:=U0j a2
    have b2:=U0j b2
    exact Or.inr ⟨hab,⟨fun h=>by have:=(hq a (hin a a1)).2 h;omega,fun h=>by have:=(hq b (hin b b1)).2 h;omega⟩⟩
   ·obtain ⟨a1,a2⟩:=U1l.1 ha
    obtain ⟨b1,b2⟩:=U1l.1 hb
    have a2:=U0j a2
    have b2:=U0j b2
    refine Or.inl ⟨?_,?_⟩
    ·rcases (hq a (hin a a1)).1 with h | h
     ·exact h.2
     ·omega
    ·rcases (hq b (hin b b1)).1 with h | h
     ·omega
     ·exact h.2
  have h2:=hpw
  rw [<-Z1m m.F (Z0k m.m0 L) m.m0] at h2
  exact U3s.1 h2
 ·rw [Z1m,hmem]
  exact (Z57 S h64).1 x hx h0
 ·rw [Z1m,hmem]
  have h1:p.1∈Z0k m.m0 L:=by rw [<-Z1m m.F (Z0k m.m0 L) m.m0];exact U0l.2 ⟨p,hp',rfl⟩
  exact (Z57 S h64).2 p.1 ((hmem _).1 h1) hk k hk1 h0
theorem Zfx {F:Nat->Int}{l l':List Nat} (h:l.Perm l'):Z0i F l=Z0i F l':=(h.map _).sum_nat
theorem Z6f (m0:Nat) (l:List Nat):(Z0k m0 l).Perm l:=by
 unfold Z0k
 have e:(fun f=>decide (f<m0))=(fun f:Nat => !decide (m0<=f)):=by
  funext f
  by_cases h:m0<=f
  ·rw [U0d h,U0k (by omega)];rfl
  ·rw [U0k h,U0d (by omega)];rfl
 rw [e]
 exact List.filter_append_perm _ _
def ivN (xs:List Nat):List Value:=xs.map fun i:Nat=>Value.int .i64 (i:Int)
theorem Zq9:∃ i0,prog.info? 3=some i0/\i0.zero=some (.int .i64 0)/\i0.size=1/\i0.bytes=8:=U3g (by kernel_rfl)
theorem Zl3 (w:World):Calls prog 260 #[.slice none 0 0,.int .i64 0] w fun ev w'=>ev = .returned (.slice none 0 0)/\w'=w:=by
 go_enter func260,ntmps260
 go_wp2_with fail
 go_ret
 exact ⟨rfl,rfl⟩
theorem Zm6 (n:Nat) (h0:0<n) (h1:n<=300000) (w:World):Calls prog 260 #[.slice none 0 0,.int .i64 (n:Int)] w fun ev w' => ∃ v,ev = .returned v/\w'.ownsRow w.heap.size 3 1 v 0 []/\Below w.heap.size w w':=by
 have t1:¬ (n:Int)<0:=by omega
 have t2:(0:Int)<(n:Int):=by omega
 obtain ⟨i0,hi0,hz0,hz1,hz2⟩:=Zq9
 obtain ⟨c,hc⟩:∃ c,c=grownCap w n 0 3:=⟨_,rfl⟩
 have hge:n<=c:=by rw [hc];exact grownCap_ge _ _ _ _
 have hlm:c<=maxLen:=by rw [hc];exact grownCap_le_maxLen _ _ _ _ (by unfold maxLen;omega)
 obtain ⟨w1,hw1⟩:∃ w1,w1=w.drew.alloc (.cells (Builtin.zeroCells (Value.int .i64 0).cells n++Builtin.zeroCells (Value.int .i64 0).cells (c - n)) 3):=⟨_,rfl⟩
 have hr:∀ ty,(Builtin.append_ #[100,3] ty #[.slice none 0 0,.int .i64 (n:Int)]).run prog w = .ok (.slice (some ⟨w.heap.size,0,none⟩) n c) w1:=fun ty=>by
  rw [hw1,hc]
  exact Lib.run_append_nil_zeros w 100 3 ty 3 i0 (.int .i64 0) .i64 .i64 underlying100 underlying3 hi0 hz0 n h0 (by omega) (by omega) (by rw [hz2];omega)
 have HB1:Hid (Below w.heap.size w w1):=by rw [hw1];exact (U01 _ _).drew.alloc (U02 _) _
 have HO:Hid (w1.ownsRow w.heap.size 3 1 (.slice (some ⟨w.heap.size,0,none⟩) 0 c) 0 []):=by
  refine ⟨rfl,.inr ⟨w.heap.size,c,_,rfl,U02 _,(by rw [hw1];exact U0b w.drew _),U0x _,hlm,?_,by simp⟩⟩
  have z:(Value.int .i64 0).cells = #[.int .i64 0]:=rfl
  rw [Array.size_append]
  unfold Builtin.zeroCells
  rw [z]
  simp
  omega
 have hcI:(0:Int)<=(c:Int):=by omega
 clear hc hw1
 go_enter func260,ntmps260
 go_upto_region 5 with fail
 go_wp2_with (at_builtin;refine Lib.wpList_append_run w rfl _ _ 100 3 rfl _ _ rfl rfl _ _ (hr _) ?_)
 go_wp2_with fail
 go_ret
 exact ⟨_,rfl,HO.out,HB1.out⟩
theorem Zny (n:Nat) (h1:n<=300000) (w:World):Calls prog 260 #[.slice none 0 0,.int .i64 (n:Int)] w fun ev w' => ∃ v,ev = .returned v/\w'.ownsRow w.heap.size 3 1 v 0 []/\Below w.heap.size w w':=by
 rcases U26 n with rfl | h
 ·refine (Zl3 w).mono ?_
  rintro ev w' ⟨rfl,rfl⟩
  exact ⟨_,rfl,⟨rfl,.inl ⟨rfl,rfl⟩⟩,U01 _ _⟩
 ·exact Zm6 n h h1 w
def Zeo (xs:Nat->List Nat):Nat->List Nat
 | 0 => []
 | i+1=>Zeo xs i++xs i
theorem Zf5 (xs:Nat->List Nat):∀ {k i:Nat},i<=k->(Zeo xs i).length<=(Zeo xs k).length
 | 0,i,h=>by
  obtain rfl:i=0:=by omega
  exact U02 _
 | k+1,i,h=>by
  by_cases e:i=k+1
  ·rw [e];exact U02 _
  ·refine U0n (Zf5 xs (k:=k) (by omega)) ?_
   show _<=(Zeo xs k++xs k).length
   rw [U0f]
   omega
theorem Zew (xs:List Nat):(ivN xs).length=xs.length:=U0v ..
theorem Zr0 (xs ys:List Nat):ivN (xs++ys)=ivN xs++ivN ys:=U1b ..
theorem Zr1 {xs:List Nat} : ∀ u∈ivN xs,u.oneCell'=true:=fun u h=>by
 obtain ⟨x,_,rfl⟩:=U0l.1 h
 rfl
def Src (w:World) (v:Value) (xs:List Nat):Prop:=(v = .slice none 0 0/\xs = []) \/ ∃ b o c,v = .slice (some ⟨b,o,none⟩) xs.length c/\b<w.heap.size /\ ∀ j u,(ivN xs)[j]?=some u->w.cell? ⟨b,o+j,none⟩=some u
theorem Src.below {w w':World}{v:Value}{xs:List Nat} (h:Src w v xs) (hb:Below w.heap.size w w'):Src w' v xs:=by
 rcases h with h | ⟨b,o,c,e,e2,e3⟩
 ·exact .inl h
 ·exact .inr ⟨b,o,c,e,U0r e2 hb.size,fun j u hj=>(hb.cell (p:=⟨b,o+j,none⟩) e2).trans (e3 j u hj)⟩
theorem Src.len {w:World}{v:Value}{xs:List Nat} (h:Src w v xs):∃ ao c,v = .slice ao xs.length c:=by
 rcases h with ⟨rfl,rfl⟩ | ⟨b,o,c,e,_⟩
 ·exact ⟨_,_,rfl⟩
 ·exact ⟨_,_,e⟩
theorem Z71 {w:World}{ops:Array Oper}{rest:List Oper}{o:Oper}{a:Act}{Q:Exit->Act->World->Prop} (hgd:o.guard=none) (s x:Operand)
  (ho:o.op = .call { callee:=.builtin .append,args:=#[s,x],argTypes:=#[100,100] })
  (base:Nat) (v:Value) (xs:List Nat) (hs:a.eval s=v) (hown:w.ownsRow base 3 1 v xs.length (ivN xs)) (v2:Value) (ys:List Nat) (hx:a.eval x=v2) (hsrc:Src w v2 ys) (hl:(xs++ys).length<=300000) (hbase:base<=w.heap.size)
  (h:∀ v' w',w'.ownsRow base 3 1 v' (xs++ys).length (ivN (xs++ys))->Below base w w'->wpList prog ops Q rest (a.put o.dst v') w'):wpList prog ops Q (o::rest) a w:=by
 obtain ⟨i0,hi0,hz0,hz1,hz2⟩:=Zq9
 rcases hsrc with ⟨rfl,rfl⟩ | ⟨b,f,c,rfl,e2,e3⟩
 ·refine wpList_append_own_none hgd s x 100 ho base 3 i0 1 underlying100 hi0 v xs.length (ivN xs) hs hown hx ?_
  refine h v w ?_ (U01 _ _)
  rw [U16]
  exact hown
 ·rw [U0f] at hl
  refine U4h w hgd s x 100 ho base 3 i0 (.int .i64 0) 1 8 underlying100 hi0 hz0 hz1 hz2 rfl (by omega) v xs.length (ivN xs) hs hown ⟨b,f,none⟩ ys.length c (ivN ys) hx (by rw [Zew,U57]) (fun j u hj => ?_) Zr1 (by unfold maxLen;omega) (by omega) hbase (fun v' w' h2 h3 _ => ?_)
  ·have e:(⟨b,f,none⟩:Addr).add j=⟨b,f+j,none⟩:=by unfold Addr.add;split <;> simp_all
   rw [e]
   exact e3 j u hj
  ·refine h v' w' ?_ ((U01 _ _).grown h3 hbase (fun k hk=>(Z08 hown k hk).1))
   rw [U0f,Zr0]
   exact h2
theorem Zir (k q:Nat) (v:Nat->Value) (xs:Nat->List Nat) (hk:k<=10) (hs:(Zeo xs k).length<=300000) (w:World) (hq:q<w.heap.size) (hv:∀ i,i<k->w.cell? ⟨q,i,none⟩=some (v i)/\Src w (v i) (xs i)) :
  Calls prog 242 #[.slice (some ⟨q,0,none⟩) k k] w fun ev w' => ∃ v',ev = .returned v'/\w'.ownsRow w.heap.size 3 1 v' (Zeo xs k).length (ivN (Zeo xs k))/\Below w.heap.size w w':=by
 have HV:=Z00 hv
 clear hv
 go_enter func242,ntmps242
 go_wp2_with fail
 go_loopg [3,11] (k+1) (fun gk v3 v11 wr => ∃ i:Nat,gk=k+1 - i/\i<=k/\v3 = .int .i64 ((Zeo xs i).length:Int)/\v11 = .int .i64 (i:Int)/\w=wr)
 case atStart=>exact ⟨0,rfl,U0x _,rfl,rfl,rfl⟩
 case round =>
  obtain ⟨i,hgk,hi',rfl,rfl,rfl⟩:=hrel
  have HG:=Z00 hgk
  clear hgk
  have hi0:(0:Int)<=(i:Int):=by omega
  by_cases hlt:i<k
  ·have hI:(i:Int)<(k:Int):=by omega
   obtain ⟨c0,hsr⟩:=HV.out i hlt
   obtain ⟨ao,c,hao⟩:=hsr.len
   rw [hao] at c0
   have hle:=Zf5 xs (k:=k) (i:=i+1) (by omega)
   have hl1:(Zeo xs (i+1)).length=(Zeo xs i).length+(xs i).length:=U0f
   have e1:IntKind.i64.wrap (((Zeo xs i).length:Int)+((xs i).length:Int))=((Zeo xs (i+1)).length:Int):=by
    rw [Z18 _ (by omega) (by omega)]
    omega
   have e2:¬ ((Zeo xs (i+1)).length:Int)<0:=by omega
   clear hl1 hle hsr hao
   go_wp2_with fail
   go_roundg (k+1 - (i+1))
   case measure=>have:=HG.out;omega
   case rel=>exact ⟨i+1,rfl,by omega,rfl,by go_num,rfl⟩
  ·obtain rfl:i=k:=by omega
   have hI:¬ (i:Int)<(i:Int):=by omega
   go_wp2_with fail
   refine (Zny _ hs w).mono ?_
   rintro ev w2 ⟨v2,rfl,own2,b2⟩
   have HO:=Z00 own2
   have HB:=Z00 b2
   clear own2 b2
   go_wp2_with fail
   go_loopg [6,27] (i+1) (fun gk v6 v27 wr => ∃ j:Nat,gk=i+1 - j/\j<=i/\v27 = .int .i64 (j:Int)/\Hid (wr.ownsRow w.heap.size 3 1 v6 (Zeo xs j).length (ivN (Zeo xs j)))/\Hid (Below w.heap.size w wr))
   case atStart=>exact ⟨0,rfl,U0x _,rfl,HO,HB⟩
   case round =>
    obtain ⟨j,hgk,hj',rfl,hO,hB⟩:=hrel
    have HG2:=Z00 hgk
    clear hgk
    have hj0:(0:Int)<=(j:Int):=by omega
    by_cases hlt2:j<i
    ·have hJ:(j:Int)<(i:Int):=by omega
     obtain ⟨c0,hsr⟩:=HV.out j hlt2
     have c1:=(hB.out.cell (p:=⟨q,j,none⟩) hq).trans c0
     have HS:=Z00 (hsr.below hB.out)
     have hle:=Zf5 xs (k:=i) (i:=j+1) (by omega)
     clear c0 hsr
     go_upto_region 13 with fail
     go_wp2_with (at_builtin;refine Z71 rfl _ _ rfl w.heap.size _ (Zeo xs j) rfl hO.out _ (xs j) rfl HS.out (U0n hle hs) hB.out.size ?_;intro v' w' o' b';have HO':=Z00 o';have HB':=Z00 (hB.out.trans b');clear o' b')
     go_roundg (i+1 - (j+1))
     case measure=>have:=HG2.out;omega
     case rel=>exact ⟨j+1,rfl,by omega,by go_num,HO',HB'⟩
    ·obtain rfl:j=i:=by omega
     have hJ:¬ (j:Int)<(j:Int):=by omega
     go_wp2_with fail
     go_ret
     exact ⟨_,rfl,hO.out,hB.out⟩
end Go.Proofs.YtlkcbdinlfeoiaaGreatDoor
