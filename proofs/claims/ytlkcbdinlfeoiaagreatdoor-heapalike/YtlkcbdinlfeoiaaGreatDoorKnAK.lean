/- The nursery collected, plainly: copies that lie one behind the other. -/
import Derived.Test.YtlkcbdinlfeoiaaGreatDoorMnH
namespace Go.Proofs.YtlkcbdinlfeoiaaGreatDoor
open Go.Proofs.Tryz Go.RowKit
set_option maxHeartbeats 8000000
set_option maxRecDepth 100000
set_option linter.unusedSimpArgs false
section
def Z0l (F:Nat->Int):Nat->List (Nat × Nat)->Nat->Prop
 | a,[],b=>a=b
 | a,p::L,b=>p.2=a/\Z0l F (a+1+szN (F p.1)) L b
variable {F:Nat->Int}
theorem Z0l.append:∀ {L L':List (Nat × Nat)}{a b c:Nat},Z0l F a L b->Z0l F b L' c->Z0l F a (L++L') c
 | [],_,_,_,_,h,h'=>by obtain rfl:_=_:=h;exact h'
 | _::_,_,_,_,_,h,h'=>⟨h.1,Z0l.append h.2 h'⟩
theorem Z0l.snoc {L:List (Nat × Nat)}{a b:Nat} (h:Z0l F a L b) (f:Nat):Z0l F a (L ++ [(f,b)]) (b+1+szN (F f)):=h.append ⟨rfl,rfl⟩
theorem Z0l.split:∀ {L L':List (Nat × Nat)}{a c:Nat},Z0l F a (L++L') c -> ∃ b,Z0l F a L b/\Z0l F b L' c
 | [],_,a,_,h=>⟨a,rfl,h⟩
 | _::_,_,_,_,h=>by obtain ⟨b,h1,h2⟩:=Z0l.split h.2;exact ⟨b,⟨h.1,h1⟩,h2⟩
theorem Z0l.uniq:∀ {L:List (Nat × Nat)}{a b c:Nat},Z0l F a L b->Z0l F a L c->b=c
 | [],_,_,_,h,h'=>by obtain rfl:_=_:=h;exact h'
 | _::_,_,_,_,h,h'=>Z0l.uniq h.2 h'.2
def Z0i (F:Nat->Int) (l:List Nat):Nat:=(l.map fun f=>1+szN (F f)).sum
theorem Z0l.sum:∀ {L:List (Nat × Nat)}{a b:Nat},Z0l F a L b->b=a+Z0i F (L.map Prod.fst)
 | [],_,_,h=>by obtain rfl:_=_:=h;rfl
 | p::L,a,b,h=>by
  have:=Z0l.sum h.2
  unfold Z0i at this ⊢
  rw [U1f,U1f,U32]
  omega
theorem Z0l.mem:∀ {L:List (Nat × Nat)}{a b:Nat},Z0l F a L b -> ∀ p∈L,a<=p.2/\p.2+1+szN (F p.1)<=b
 | [],_,_,_,p,hp=>by simp at hp
 | q::L,a,b,h,p,hp=>by
  have hs:=Z0l.sum h.2
  rcases U19.1 hp with rfl | hp1
  ·have:=h.1;omega
  ·have:=Z0l.mem h.2 p hp1;omega
theorem Z0l.le {L:List (Nat × Nat)}{a b:Nat} (h:Z0l F a L b):a<=b:=by have:=h.sum;omega
theorem Z0l.apart:∀ {L:List (Nat × Nat)}{a b:Nat},Z0l F a L b -> ∀ p∈L,∀ q∈L,p=q\/p.2+1+szN (F p.1)<=q.2\/q.2+1+szN (F q.1)<=p.2
 | [],_,_,_,p,hp,_,_=>by simp at hp
 | r::L,a,b,h,p,hp,q,hq=>by
  have h1:=h.1
  rcases U19.1 hp with rfl | hp1
  ·rcases U19.1 hq with rfl | hq1
   ·exact Or.inl rfl
   ·have:=Z0l.mem h.2 q hq1;omega
  ·rcases U19.1 hq with rfl | hq1
   ·have:=Z0l.mem h.2 p hp1;omega
   ·exact Z0l.apart h.2 p hp1 q hq1
theorem Z1v {G:Nat->Bool} : ∀ {n a b:Nat}{l:List Nat},Z09 F G n a b=some l->a<=b->b - a<=n->Z0l F a (l.map fun f=>(f,f)) b
 | 0,a,b,l,h,h1,h2=>by
  unfold Z09 at h
  cases h
  show a=b
  omega
 | n+1,a,b,l,h,h1,h2=>by
  unfold Z09 at h
  by_cases hc:a<b
  ·rw [U09 hc] at h
   split at h
   ·rename_i hb
    obtain ⟨l',h',rfl⟩:=U1i.1 h
    have hb:=(U0i _ _ ▸ hb).2
    have hb:=U0j (U0i _ _ ▸ hb).1
    exact ⟨rfl,Z1v h' hb (by omega)⟩
   ·cases h
  ·rw [U08 hc] at h
   cases h
   show a=b
   omega
theorem Z36 {F':Nat->Int}{G:Nat->Bool} : ∀ {L:List (Nat × Nat)}{n a b:Nat},Z0l F a L b->(∀ p∈L,Z0t (F' p.2)=true/\szN (F' p.2)=szN (F p.1)/\G p.2=true)->b - a<=n->Z09 F' G n a b=some (L.map Prod.snd)
 | [],n,a,b,h,_,_=>by obtain rfl:a=b:=h;exact Z3b (Nat.lt_irrefl _)
 | p::L,n,a,b,h,hp,hn=>by
  have hs:=Z0l.sum h.2
  obtain ⟨e1,e2,e3⟩:=hp p (by simp)
  have e0:=h.1
  rw [e0] at e1 e2 e3
  obtain ⟨n',hn',e⟩:=Z74 (F:=F') (G:=G) (n:=n) (f:=a) (t:=b) hn (by omega) (by rw [e1,e3,e2,U0d (by omega)];rfl)
  rw [e,e2,Z36 h.2 (fun q hq=>hp q (by simp [hq])) (by rw [e2] at hn';exact hn')]
  rw [U1f,<-e0]
  rfl
theorem Z6w (F:Nat->Int):∀ (l L:List Nat),l.Nodup->(∀ x∈l,x∈L)->Z0i F l<=Z0i F L
 | [],_,_,_=>U0x _
 | x::l,L,hn,h=>by
  have hx:=h x (by simp)
  have hn:=U2r.1 hn
  have hp:=List.perm_cons_erase hx
  have ih:=Z6w F l (L.erase x) hn.2 (fun y hy=>(U4u (a:=y) (b:=x) (fun e=>hn.1 (by rw [<-e];exact hy))).2 (h y (by simp [hy])))
  have e:Z0i F L=Z0i F (x::L.erase x):=(hp.map _).sum_nat
  unfold Z0i at ih e ⊢
  rw [e,U1f,U1f,U32,U32]
  omega
theorem Z2s {x g:Int} (hx:Z0t x=true) (h0:0<=x) (g0:0<=g) (g1:g<=15):hdW x g / 65536=x / 65536/\hdW x g / 4 % 256=x / 4 % 256/\hdW x g / 1024 % 16=g/\hdW x g / 16384 % 2=x / 16384 % 2/\Z0t (hdW x g)=true/\0<=hdW x g/\hdW x g<18446744073709551616:=by
 obtain ⟨e1,e2,e3⟩:=U0j hx
 unfold hdW Z0t
 rw [decide_eq_true_iff]
 refine ⟨?_,?_,?_,?_,⟨?_,?_,?_⟩,?_,?_⟩ <;> omega
theorem Zfp (W cs:List Int) (a i:Nat) (h:a+cs.length<=W.length):(splice W a cs).getD i 0=if a<=i/\i<a+cs.length then cs.getD (i - a) 0 else W.getD i 0:=by
 unfold splice
 simp only [U07]
 by_cases h1:i<a
 ·rw [U08 (by omega),U10 (by rw [U1k];omega),U1j,U09 h1]
 ·rw [U12 (by rw [U1k];omega),U1k,U3a (by omega)]
  by_cases h2:i<a+cs.length
  ·rw [U09 ⟨by omega,h2⟩,U10 (by omega)]
  ·rw [U08 (by omega),U12 (by omega),U2o]
   congr 2
   omega
theorem Z81 (W:List Int) (a i:Nat) (x:Int) (h:a<W.length):(W.set a x).getD i 0=if i=a then x else W.getD i 0:=by
 simp only [U07]
 by_cases e:i=a
 ·rw [U09 e,e,U18 h];rfl
 ·rw [U08 e,U1c (fun h=>e h.symm)]
theorem Zfa (W:List Int) (f a i:Nat) (x g:Int) (ha:a+(1+szN x)<=W.length) (hf:f+(1+szN x)<=W.length):(Zc8 W f a x g).getD i 0=if i=a then hdW x g else if a<=i/\i<a+1+szN x then W.getD (f+(i - a)) 0 else W.getD i 0:=by
 have hl:((W.drop f).take (1+szN x)).length=1+szN x:=by rw [U1k,U29];omega
 have hs:(splice W a ((W.drop f).take (1+szN x))).length=W.length:=by
  unfold splice
  rw [U0f,U0f,U1k,U29,hl];omega
 unfold Zc8
 rw [Z81 _ _ _ _ (by rw [hs];omega)]
 by_cases e:i=a
 ·rw [U09 e,U09 e]
 ·rw [U08 e,U08 e,Zfp _ _ _ _ (by rw [hl];exact ha),hl]
  by_cases h2:a<=i/\i<a+1+szN x
  ·rw [U09 ⟨h2.1,by omega⟩,U09 h2]
   simp only [U07]
   rw [U1j,U09 (by omega),U2o]
  ·rw [U08 (by omega),U08 h2]
theorem Z6l (W:List Int) (f a:Nat) (x g:Int) (ha:a+(1+szN x)<=W.length) (hf:f+(1+szN x)<=W.length):(Zc8 W f a x g).length=W.length:=by
 have hl:((W.drop f).take (1+szN x)).length=1+szN x:=by rw [U1k,U29];omega
 unfold Zc8 splice
 rw [U0t,U0f,U0f,U1k,U29,hl];omega
theorem Zo7 {W:List Int} (h:U64 W) (f a:Nat) (x g:Int) (hx:0<=hdW x g/\hdW x g<18446744073709551616):U64 (Zc8 W f a x g):=fun y hy=>by
 unfold Zc8 at hy
 rcases U1o hy with hy | rfl
 ·unfold splice at hy
  rcases U0c.1 hy with hy | hy
  ·exact h y (U4v hy)
  ·rcases U0c.1 hy with hy | hy
   ·exact h y (U4w (U4v hy))
   ·exact h y (U4w hy)
 ·exact hx
end
section
structure CX (e:CE) (m:MD) (l1 l2:List Nat) (o0:Nat):Prop where
 S:m.Shape (l1++l2)
 h64:MD64 m
 cards:m.cardsB=true
 w1:Z09 m.F (G0 m.F) (m.n1 - m.n0) m.n0 m.n1=some l1
 w2:Z09 m.F (G0 m.F) (m.m1 - m.m0) m.m0 m.m1=some l2
 lo:e.lo=m.n0
 hi:(e.hi:Int)=(m.n0:Int)+m.half
 o0:(o0:Int)=(1 - m.used)*m.half
 half:e.half=m.half
 card:e.card=m.card
 room:m.top<=m.old - m.oldTop
 tn0:0<=e.tn
 tn1:e.tn<=15
 nW:e.nW=m.W.length
 nC:e.nC=m.C.length
 cap:e.nW<=e.cW
structure CN (e:CE) (m:MD) (o0 h:Nat):Prop where
 half:m.half=(h:Int)
 h1:1<=h
 lo:e.lo=m.n0
 hi:e.hi=m.n0+h
 le:m.n0<=m.n1
 n1:m.n1<=m.n0+h
 sep:(m.n0=0/\o0=h)\/(m.n0=h/\o0=0)
 m0:m.m0=2*h
 m1:m.m0<=m.m1
 nW:e.nW=m.W.length
 room:m.m1+(m.n1 - m.n0)<=e.nW
 few:e.nW<=300000
variable {e:CE}{m:MD}{l1 l2:List Nat}{o0:Nat}
theorem CX.num (X:CX e m l1 l2 o0):∃ h,CN e m o0 h:=by
 have hF:=X.S.1
 have P:=MD.parts hF
 have hn:=hF.nums
 unfold Z0c at hn
 have hw:=hF.w
 have u0:=hF.u0
 have u1:=hF.u1
 have t0:=hF.t0
 have t1:=hF.t1
 have p0:=P.n0
 have p1:=P.n1
 have p2:=P.m0
 have p3:=P.m1
 have r:=X.room
 have ho:=X.o0
 have hnW:=X.nW
 have hhi:=X.hi
 have ot0:=hF.o0
 obtain ⟨h,hh⟩:∃ h:Nat,m.half=(h:Int):=⟨m.half.toNat,by omega⟩
 have hu:m.used=0\/m.used=1:=by omega
 rcases hu with hu | hu
 ·rw [hu] at p0 p1 ho
  simp only [U2x,Int.sub_zero,U2z] at p0 p1 ho
  exact ⟨h,hh,by omega,X.lo,by omega,by omega,by omega,Or.inl ⟨by omega,by omega⟩,by omega,by omega,hnW,by omega,by omega⟩
 ·rw [hu] at p0 p1 ho
  simp only [U2z,Int.sub_self,U2x] at p0 p1 ho
  exact ⟨h,hh,by omega,X.lo,by omega,by omega,by omega,Or.inr ⟨by omega,by omega⟩,by omega,by omega,hnW,by omega,by omega⟩
theorem CX.t1 (X:CX e m l1 l2 o0):Z0l m.F m.n0 (l1.map fun f=>(f,f)) m.n1:=by
 obtain ⟨h,N⟩:=X.num
 exact Z1v X.w1 N.le (U02 _)
theorem CX.t2 (X:CX e m l1 l2 o0):Z0l m.F m.m0 (l2.map fun f=>(f,f)) m.m1:=by
 obtain ⟨h,N⟩:=X.num
 exact Z1v X.w2 N.m1 (U02 _)
theorem CX.in1 (X:CX e m l1 l2 o0) {f:Nat} (hf:f∈l1):m.n0<=f/\f+1+szN (m.F f)<=m.n1:=X.t1.mem (f,f) (U0l.2 ⟨f,hf,rfl⟩)
theorem CX.in2 (X:CX e m l1 l2 o0) {f:Nat} (hf:f∈l2):m.m0<=f/\f+1+szN (m.F f)<=m.m1:=X.t2.mem (f,f) (U0l.2 ⟨f,hf,rfl⟩)
theorem CX.head (X:CX e m l1 l2 o0) {f:Nat} (hf:f∈l1++l2):Z0t (m.F f)=true:=(X.S.fine f hf).1
theorem CX.range (X:CX e m l1 l2 o0) (i:Nat):0<=m.F i/\m.F i<18446744073709551616:=by
 unfold MD.F
 rw [U07]
 cases h:m.W[i]? with
 | none=>exact ⟨by decide,by decide⟩
 | some x=>exact X.h64.w x (U0a h)
def Z15 (l2:List Nat) (Y G:List (Nat × Nat)) (p:Nat × Nat):Prop:=p∈Y++G\/(p.1∈l2/\p.2=p.1)
structure Dn (e:CE) (m:MD) (l2:List Nat) (Y G:List (Nat × Nat)) (s:CS) (y:Nat) (p:Nat × Nat) (k:Nat):Prop where
 at':y=p.2+1+k
 pl:Z15 l2 Y G p
 lt:k<szN (m.F p.1)
 kd:¬ m.F p.1 / 4 % 256<8
 ok:(Z0g e.lo e.hi s.φ (m.F (p.1+1+k))).2=true
 is:s.W.getD y 0=(Z0g e.lo e.hi s.φ (m.F (p.1+1+k))).1
 card:m.m0<=y->Z14 m.half (s.W.getD y 0)=true->s.C.getD (Z35 m.half m.card y) false=true
structure CI (e:CE) (m:MD) (l1 l2:List Nat) (o0:Nat) (Y G:List (Nat × Nat)) (D:Nat->Prop) (s:CS):Prop where
 tY:Z0l m.F o0 Y s.yt
 tG:Z0l m.F m.m1 G s.gt
 nd:((Y++G).map Prod.fst).Nodup
 sub:∀ p∈Y++G,p.1∈l1
 ay:∀ p∈Y,m.F p.1 / 1024 % 16<e.tn
 ag:∀ p∈G,e.tn<=m.F p.1 / 1024 % 16
 φ:∀ f t,s.φ f=some t ↔ (f,t)∈Y++G
 len:s.W.length=e.nW
 clen:s.C.length=e.nC
 u64:U64 s.W
 hy:∀ p∈Y,s.W.getD p.2 0=hdW (m.F p.1) (m.F p.1 / 1024 % 16+1)
 hg:∀ p∈G,s.W.getD p.2 0=hdW (m.F p.1) 0
 raw:∀ p∈Y++G,∀ k,k<szN (m.F p.1) -> ¬ D (p.2+1+k)->s.W.getD (p.2+1+k) 0=m.F (p.1+1+k)
 src:∀ i,m.n0<=i->i<m.n1->s.W.getD i 0=m.F i
 old:∀ i,m.m0<=i->i<m.m1 -> ¬ D i->s.W.getD i 0=m.F i
 dn:∀ y,D y -> ∃ p k,Dn e m l2 Y G s y p k
variable {Y G:List (Nat × Nat)}{D:Nat->Prop}{s:CS}
theorem CI.taken (I:CI e m l1 l2 o0 Y G D s) (X:CX e m l1 l2 o0) {l:List Nat} (hn:(l++(Y++G).map Prod.fst).Nodup) (hl:∀ f∈l,f∈l1):s.yt - o0+(s.gt - m.m1)+Z0i m.F l<=m.n1 - m.n0:=by
 have h1:=I.tY.sum
 have h2:=I.tG.sum
 have h3:=X.t1.sum
 have h4:=Z6w m.F _ l1 hn (fun x hx=>by
  rcases U0c.1 hx with hx | hx
  ·exact hl x hx
  ·obtain ⟨p,hp,rfl⟩:=U0l.1 hx;exact I.sub p hp)
 have e1:Z0i m.F (l++(Y++G).map Prod.fst)=Z0i m.F l+(Z0i m.F (Y.map Prod.fst)+Z0i m.F (G.map Prod.fst)):=by
  unfold Z0i
  rw [U1b,List.sum_append_nat,U1b,U1b,List.sum_append_nat]
 have e2:(l1.map fun f=>(f,f)).map Prod.fst=l1:=by rw [U2h];exact List.map_id' _
 rw [e2] at h3
 omega
theorem CI.place (I:CI e m l1 l2 o0 Y G D s) (X:CX e m l1 l2 o0) {h:Nat} (N:CN e m o0 h):o0<=s.yt/\s.yt<=o0+h/\m.m1<=s.gt/\s.gt<=e.nW:=by
 have h1:=I.tY.le
 have h2:=I.tG.le
 have h3:=I.taken X (l:=[]) I.nd (by simp)
 have e0:Z0i m.F []=0:=rfl
 have:=N.n1
 have:=N.room
 have:=N.le
 refine ⟨h1,by omega,h2,by omega⟩
theorem Z15.out (I:CI e m l1 l2 o0 Y G D s) (X:CX e m l1 l2 o0) {p:Nat × Nat} (hp:Z15 l2 Y G p):(p∈Y/\o0<=p.2/\p.2+1+szN (m.F p.1)<=s.yt)\/(p∈G/\m.m1<=p.2/\p.2+1+szN (m.F p.1)<=s.gt)\/(p.1∈l2/\p.2=p.1/\m.m0<=p.2/\p.2+1+szN (m.F p.1)<=m.m1):=by
 rcases hp with hp | ⟨h1,h2⟩
 ·rcases U0c.1 hp with hp | hp
  ·exact Or.inl ⟨hp,I.tY.mem p hp⟩
  ·exact Or.inr (Or.inl ⟨hp,I.tG.mem p hp⟩)
 ·have:=X.in2 h1
  rw [<-h2] at this
  exact Or.inr (Or.inr ⟨h1,h2,by rw [h2] at this ⊢;rw [h2] at *;exact this⟩)
theorem CI.apart (I:CI e m l1 l2 o0 Y G D s) (X:CX e m l1 l2 o0) {p q:Nat × Nat} (hp:Z15 l2 Y G p) (hq:Z15 l2 Y G q):p=q\/p.2+1+szN (m.F p.1)<=q.2\/q.2+1+szN (m.F q.1)<=p.2:=by
 obtain ⟨h,N⟩:=X.num
 obtain ⟨b1,b2,b3,b4⟩:=I.place X N
 have s1:=N.sep
 have s2:=N.m0
 have s3:=N.m1
 rcases hp.out I X with ⟨hp,p1,p2⟩ | ⟨hp,p1,p2⟩ | ⟨hp,p0,p1,p2⟩
 ·rcases hq.out I X with ⟨hq,q1,q2⟩ | ⟨hq,q1,q2⟩ | ⟨hq,q0,q1,q2⟩
  ·exact I.tY.apart p hp q hq
  ·omega
  ·omega
 ·rcases hq.out I X with ⟨hq,q1,q2⟩ | ⟨hq,q1,q2⟩ | ⟨hq,q0,q1,q2⟩
  ·omega
  ·exact I.tG.apart p hp q hq
  ·omega
 ·rcases hq.out I X with ⟨hq,q1,q2⟩ | ⟨hq,q1,q2⟩ | ⟨hq,q0,q1,q2⟩
  ·omega
  ·omega
  ·have h1:=X.t2.apart (p.1,p.1) (U0l.2 ⟨_,hp,rfl⟩) (q.1,q.1) (U0l.2 ⟨_,hq,rfl⟩)
   rcases h1 with h1 | h1
   ·have h1:p.1=q.1:=(U56 h1).1
    exact Or.inl (Prod.ext h1 (by rw [p0,q0,h1]))
   ·have h1:p.1+1+szN (m.F p.1)<=q.1\/q.1+1+szN (m.F q.1)<=p.1:=h1
    omega
theorem CSOK.of (I:CI e m l1 l2 o0 Y G D s) (X:CX e m l1 l2 o0):CSOK e s:=by
 obtain ⟨h,N⟩:=X.num
 obtain ⟨b1,b2,b3,b4⟩:=I.place X N
 have s1:=N.sep
 have s2:=N.m0
 have s3:=N.m1
 have s4:=N.room
 have s5:=N.few
 have s6:=N.hi
 refine ⟨I.len,N.few,X.cap,by omega,I.u64,by omega,by omega,X.tn1,fun f t ht => ?_⟩
 have:=(Z15.out I X (Or.inl ((I.φ f t).1 ht)))
 simp only at this
 rcases this with ⟨_,_,h⟩ | ⟨_,_,h⟩ | ⟨_,_,_,h⟩ <;> omega
theorem Z9c {lo hi:Nat}{φ φ':Nat->Option Nat} (h:∀ f t,φ f=some t->φ' f=some t) {x:Int} (hx:(Z0g lo hi φ x).2=true):Z0g lo hi φ' x=Z0g lo hi φ x:=by
 unfold Z0g at hx ⊢
 split
 ·rename_i hc
  rw [U09 hc] at hx
  cases hf:φ (ptI x).toNat with
  | none=>rw [hf] at hx;cases hx
  | some t=>rw [h _ _ hf]
 ·rfl
end
section
variable {e:CE}{m:MD}{l1 l2:List Nat}{o0:Nat}{Y G:List (Nat × Nat)}{D:Nat->Prop}{s:CS}
theorem CI.fresh (I:CI e m l1 l2 o0 Y G D s) {f:Nat} (hn:s.φ f=none):f ∉ (Y++G).map Prod.fst:=fun h=>by
 obtain ⟨p,hp,rfl⟩:=U0l.1 h
 have:=(I.φ p.1 p.2).2 hp
 rw [hn] at this
 cases this
theorem CI.can (I:CI e m l1 l2 o0 Y G D s) (X:CX e m l1 l2 o0) {f:Nat} (hf:f∈l1) (hn:s.φ f=none):s.W.getD f 0=m.F f/\CanCopy e s f:=by
 obtain ⟨h,N⟩:=X.num
 have hin:=X.in1 hf
 have he:s.W.getD f 0=m.F f:=I.src f hin.1 (by omega)
 have hr:=N.room
 have h0:=N.le
 have ht:=I.taken X (l:=[f]) (U2r.2 ⟨I.fresh hn,I.nd⟩) (by simpa using hf)
 have ew:Z0i m.F [f]=1+szN (m.F f):=by simp [Z0i]
 have h1:=N.n1
 have h2:=N.sep
 have h3:=I.tY.le
 have h4:=I.tG.le
 have h5:=N.m0
 have h6:=N.m1
 refine ⟨he,by rw [he];exact X.head (by simp [hf]),by rw [he];omega,fun _=>by rw [he];omega,fun _=>by rw [he];omega⟩
theorem CI.grow (I:CI e m l1 l2 o0 Y G D s) (X:CX e m l1 l2 o0) {Y' G':List (Nat × Nat)}{s':CS}{f a:Nat} (hf:f∈l1) (hn:s.φ f=none)
  (g:Int) (g0:0<=g) (g1:g<=15) (hW:s'.W=Zc8 s.W f a (m.F f) g) (hC:s'.C=s.C) (hφ:s'.φ=upd s.φ f a) (ha:a+(1+szN (m.F f))<=e.nW)
  (hout:∀ p,Z15 l2 Y G p->p.2+1+szN (m.F p.1)<=a\/a+1+szN (m.F f)<=p.2) (hsrc:∀ i,m.n0<=i->i<m.n1->i<a\/a+1+szN (m.F f)<=i) (hold:∀ i,m.m0<=i->i<m.m1->i<a\/a+1+szN (m.F f)<=i)
  (hm:∀ p,p∈Y'++G' ↔ p=(f,a)\/p∈Y++G) (hY:∀ p∈Y',p=(f,a)/\m.F f / 1024 % 16<e.tn/\g=m.F f / 1024 % 16+1\/p∈Y) (hG:∀ p∈G',p=(f,a)/\e.tn<=m.F f / 1024 % 16/\g=0\/p∈G)
  (hnd:((Y'++G').map Prod.fst).Nodup) (tY:Z0l m.F o0 Y' s'.yt) (tG:Z0l m.F m.m1 G' s'.gt):CI e m l1 l2 o0 Y' G' D s':=by
 have hin:=X.in1 hf
 obtain ⟨h,N⟩:=X.num
 have hr:=N.room
 have h0:=N.le
 have hm1:=N.m1
 have hm0:=N.m0
 have hs0:=N.sep
 have hn1:=N.n1
 have hfl:f+(1+szN (m.F f))<=s.W.length:=by rw [I.len];omega
 have hal:a+(1+szN (m.F f))<=s.W.length:=by rw [I.len];exact ha
 have hx:=X.range f
 have hd:=Z2s (X.head (f:=f) (by simp [hf])) hx.1 g0 g1
 have hat:∀ i,s'.W.getD i 0=if i=a then hdW (m.F f) g else if a<=i/\i<a+1+szN (m.F f) then s.W.getD (f+(i - a)) 0 else s.W.getD i 0:=fun i=>by rw [hW];exact Zfa _ _ _ _ _ _ hal hfl
 have hother:∀ i,i<a\/a+1+szN (m.F f)<=i->s'.W.getD i 0=s.W.getD i 0:=fun i hi=>by rw [hat,U08 (by omega),U08 (by omega)]
 have hfld:∀ p,Z15 l2 Y G p -> ∀ k,k<szN (m.F p.1)->s'.W.getD (p.2+1+k) 0=s.W.getD (p.2+1+k) 0:=fun p hp k hk=>hother _ (by have:=hout p hp;omega)
 have hmono:∀ f' t,s.φ f'=some t->s'.φ f'=some t:=fun f' t ht=>by
  rw [hφ];unfold upd
  by_cases e1:f'=f
  ·rw [e1,hn] at ht;cases ht
  ·rw [U08 e1];exact ht
 refine ⟨tY,tG,hnd,fun p hp => ?_,fun p hp => ?_,fun p hp => ?_,fun f' t => ?_,?_,by rw [hC];exact I.clen,?_,fun p hp => ?_,fun p hp => ?_,fun p hp k hk hD => ?_,fun i h1 h2 => ?_,fun i h1 h2 h3 => ?_,fun y hy => ?_⟩
 ·rcases (hm p).1 hp with rfl | hp
  ·exact hf
  ·exact I.sub p hp
 ·rcases hY p hp with ⟨rfl,h,_⟩ | hp
  ·exact h
  ·exact I.ay p hp
 ·rcases hG p hp with ⟨rfl,h,_⟩ | hp
  ·exact h
  ·exact I.ag p hp
 ·rw [hm,hφ]
  unfold upd
  by_cases e1:f'=f
  ·rw [U09 e1,e1]
   constructor
   ·intro h;cases h;exact Or.inl rfl
   ·rintro (h | h)
    ·cases h;rfl
    ·have:=(I.φ f t).2 h;rw [hn] at this;cases this
  ·rw [U08 e1,I.φ]
   constructor
   ·intro h;exact Or.inr h
   ·rintro (h | h)
    ·cases h;exact absurd rfl e1
    ·exact h
 ·rw [hW,Z6l _ _ _ _ _ hal hfl];exact I.len
 ·rw [hW];exact Zo7 I.u64 _ _ _ _ ⟨hd.2.2.2.2.2.1,hd.2.2.2.2.2.2⟩
 ·rcases hY p hp with ⟨rfl,_,h⟩ | hp
  ·rw [hat,U09 rfl,h]
  ·rw [hother _ (by have:=hout p (Or.inl (by simp [hp]));omega)]
   exact I.hy p hp
 ·rcases hG p hp with ⟨rfl,_,h⟩ | hp
  ·rw [hat,U09 rfl,h]
  ·rw [hother _ (by have:=hout p (Or.inl (by simp [hp]));omega)]
   exact I.hg p hp
 ·rcases (hm p).1 hp with rfl | hp
  ·have hk:k<szN (m.F f):=hk
   show s'.W.getD (a+1+k) 0=m.F (f+1+k)
   rw [hat,U08 (by omega),U09 (by omega),show f+(a+1+k - a)=f+1+k by omega]
   exact I.src _ (by omega) (by omega)
  ·rw [hfld p (Or.inl hp) k hk]
   exact I.raw p hp k hk hD
 ·rw [hother _ (hsrc i h1 h2)];exact I.src i h1 h2
 ·rw [hother _ (hold i h1 h2)];exact I.old i h1 h2 h3
 ·obtain ⟨p,k,d⟩:=I.dn y hy
  have hw:s'.W.getD y 0=s.W.getD y 0:=by rw [d.at'];exact hfld p d.pl k d.lt
  have hno:=Z9c (lo:=e.lo) (hi:=e.hi) hmono d.ok
  refine ⟨p,k,d.at',?_,d.lt,d.kd,by rw [hno];exact d.ok,by rw [hw,hno];exact d.is,fun h1 h2=>by rw [hC];rw [hw] at h2;exact d.card h1 h2⟩
  rcases d.pl with h | h
  ·exact Or.inl ((hm p).2 (Or.inr h))
  ·exact Or.inr h
theorem CI.copy (I:CI e m l1 l2 o0 Y G D s) (X:CX e m l1 l2 o0) {f:Nat} (hf:f∈l1) (hn:s.φ f=none) :
  ∃ Y' G',CI e m l1 l2 o0 (Y++Y') (G++G') D (s.copy e f)/\(s.copy e f).yd=s.yd/\(s.copy e f).gd=s.gd/\(s.copy e f).C=s.C/\(s.copy e f).φ f≠none/\(∀ g t,s.φ g=some t->(s.copy e f).φ g=some t)/\(∀ p∈Y'++G',∀ k,k<szN (m.F p.1) -> ¬ D (p.2+1+k)):=by
 obtain ⟨h,N⟩:=X.num
 have hin:=X.in1 hf
 have hno:=I.fresh hn
 obtain ⟨hw,hc⟩:=I.can X hf hn
 have hr:=N.room
 have h0:=N.le
 have hm1:=N.m1
 have hm0:=N.m0
 have hs0:=N.sep
 have hn1:=N.n1
 obtain ⟨b1,b2,b3,b4⟩:=I.place X N
 have ht:=I.taken X (l:=[f]) (U2r.2 ⟨hno,I.nd⟩) (by simpa using hf)
 have ew:Z0i m.F [f]=1+szN (m.F f):=by simp [Z0i]
 have x0:=X.range f
 have hmono:∀ a g t,s.φ g=some t->upd s.φ f a g=some t:=fun a g t hg=>by
  unfold upd
  by_cases e1:g=f
  ·rw [e1,hn] at hg;cases hg
  ·rw [U08 e1];exact hg
 have hout:∀ p,Z15 l2 Y G p->p.2+1+szN (m.F p.1)<=s.yt\/s.yt+1+szN (m.F f)<=p.2:=fun p hp=>by
  rcases hp.out I X with ⟨_,p1,p2⟩ | ⟨_,p1,p2⟩ | ⟨_,p0,p1,p2⟩ <;> omega
 have hout2:∀ p,Z15 l2 Y G p->p.2+1+szN (m.F p.1)<=s.gt\/s.gt+1+szN (m.F f)<=p.2:=fun p hp=>by
  rcases hp.out I X with ⟨_,p1,p2⟩ | ⟨_,p1,p2⟩ | ⟨_,p0,p1,p2⟩ <;> omega
 unfold CS.copy
 rw [hw]
 by_cases ha:e.tn<=m.F f / 1024 % 16
 ·rw [U09 ha]
  refine ⟨[],[(f,s.gt)],?_,rfl,rfl,rfl,?_,hmono s.gt,?_⟩
  ·rw [U16]
   refine I.grow X hf hn 0 (by omega) (by omega) rfl rfl rfl (by omega) hout2 (fun i h1 h2=>by omega) (fun i h1 h2=>by omega) (fun p => ?_) (fun p hp=>Or.inr hp) (fun p hp => ?_) ?_ I.tY ?_
   ·simp only [U0c,U2p]
    constructor
    ·rintro (h | h | h)
     ·exact Or.inr (Or.inl h)
     ·exact Or.inr (Or.inr h)
     ·exact Or.inl h
    ·rintro (h | h | h)
     ·exact Or.inr (Or.inr h)
     ·exact Or.inl h
     ·exact Or.inr (Or.inl h)
   ·rcases U0c.1 hp with hp | hp
    ·exact Or.inr hp
    ·exact Or.inl ⟨by simpa using hp,ha,rfl⟩
   ·rw [<-U0y,U1b]
    refine U3r.2 ⟨I.nd,by simp,fun a h1 b h2 e1 => ?_⟩
    simp only [U1f,List.map_nil,U2p] at h2
    rw [e1,h2] at h1
    exact hno h1
   ·have:=I.tG.snoc f
    rw [U2f] at this
    exact this
  ·show upd s.φ f s.gt f≠none
   unfold upd
   rw [U09 rfl]
   exact fun h=>by cases h
  ·intro p hp k hk hD
   have hp:p=(f,s.gt):=by simpa using hp
   obtain ⟨q,j,d⟩:=I.dn _ hD
   have h1:=hout2 q d.pl
   have h2:=d.at'
   have h3:=d.lt
   rw [hp] at h2 hk
   have h2:s.gt+1+k=q.2+1+j:=h2
   have hk:k<szN (m.F f):=hk
   omega
 ·rw [U08 ha]
  have htn:=X.tn1
  refine ⟨[(f,s.yt)],[],?_,rfl,rfl,rfl,?_,hmono s.yt,?_⟩
  ·rw [U16]
   refine I.grow X hf hn (m.F f / 1024 % 16+1) (by omega) (by omega) rfl rfl rfl (by omega) hout (fun i h1 h2=>by omega) (fun i h1 h2=>by omega) (fun p => ?_) (fun p hp => ?_) (fun p hp=>Or.inr hp) ?_ ?_ I.tG
   ·simp only [U0c,U2p]
    constructor
    ·rintro ((h | h) | h)
     ·exact Or.inr (Or.inl h)
     ·exact Or.inl h
     ·exact Or.inr (Or.inr h)
    ·rintro (h | h | h)
     ·exact Or.inl (Or.inr h)
     ·exact Or.inl (Or.inl h)
     ·exact Or.inr h
   ·rcases U0c.1 hp with hp | hp
    ·exact Or.inr hp
    ·exact Or.inl ⟨by simpa using hp,by omega,rfl⟩
   ·have hp:((f,s.yt)::(Y++G)).Perm (Y ++ [(f,s.yt)]++G):=by
     rw [U0y]
     exact List.perm_middle.symm
    exact (hp.map Prod.fst).nodup_iff.1 (U2r.2 ⟨hno,I.nd⟩)
   ·have:=I.tY.snoc f
    rw [U2f] at this
    exact this
  ·show upd s.φ f s.yt f≠none
   unfold upd
   rw [U09 rfl]
   exact fun h=>by cases h
  ·intro p hp k hk hD
   have hp:p=(f,s.yt):=by simpa using hp
   obtain ⟨q,j,d⟩:=I.dn _ hD
   have h1:=hout q d.pl
   have h2:=d.at'
   have h3:=d.lt
   rw [hp] at h2 hk
   have h2:s.yt+1+k=q.2+1+j:=h2
   have hk:k<szN (m.F f):=hk
   omega
end
section
variable {e:CE}{m:MD}{l1 l2:List Nat}{o0:Nat}{Y G:List (Nat × Nat)}{D:Nat->Prop}{s:CS}
theorem Z8v {nW:Nat}{vs:List Nat}{x:Int} (h:Z0b nW (fun i=>decide (i∈vs)) x=true) (hp:0<=ptI x):(ptI x).toNat∈vs:=by
 have h4:x % 4=0/\4<=x/\ptI x=x / 4 - 1:=by
  unfold ptI at hp ⊢
  split at hp
  ·rename_i c;rw [U09 c];exact ⟨c.1,c.2.1,rfl⟩
  ·omega
 unfold Z0b at h
 rw [U08 (by omega),U08 (by omega)] at h
 have hx:(x == 0)=false:=by rw [U0w];omega
 rw [hx,U1n] at h
 unfold Z2y at h
 rw [U0i,U0i] at h
 rw [h4.2.2]
 exact U0j h.2.2
structure Same (s s':CS):Prop where
 yd:s'.yd=s.yd
 gd:s'.gd=s.gd
 φ:∀ f t,s.φ f=some t->s'.φ f=some t
theorem Same.refl (s:CS):Same s s:=⟨rfl,rfl,fun _ _ h=>h⟩
theorem Same.trans {s s' s'':CS} (h:Same s s') (h':Same s' s''):Same s s'':=⟨h'.yd.trans h.yd,h'.gd.trans h.gd,fun f t ht=>h'.φ f t (h.φ f t ht)⟩
def Zf7 (F:Nat->Int) (D:Nat->Prop) (L:List (Nat × Nat)):Prop:=∀ p∈L,∀ k,k<szN (F p.1) -> ¬ D (p.2+1+k)
theorem CX.pt1 (X:CX e m l1 l2 o0) {x:Int} (hx:Z0b m.W.length (fun i=>decide (i∈l1++l2)) x=true) (hp:0<=ptI x) (h2:ptI x<(e.hi:Int)):(ptI x).toNat∈l1:=by
 obtain ⟨h,N⟩:=X.num
 have hin:=Z8v hx hp
 rcases U0c.1 hin with hin | hin
 ·exact hin
 ·have:=X.in2 hin
  have:=N.m0
  have:=N.hi
  have:=N.sep
  omega
theorem CX.needs (X:CX e m l1 l2 o0) {x:Int} (hx:Z0b m.W.length (fun i=>decide (i∈l1++l2)) x=true) (hp:(Z0g e.lo e.hi s.φ x).2=false):(ptI x).toNat∈l1/\s.φ (ptI x).toNat=none:=by
 unfold Z0g at hp
 split at hp
 ·rename_i hc
  cases hf:s.φ (ptI x).toNat with
  | none=>exact ⟨X.pt1 hx hc.1 hc.2.2,rfl⟩
  | some t=>rw [hf] at hp;cases hp
 ·cases hp
theorem CI.follow (I:CI e m l1 l2 o0 Y G D s) (X:CX e m l1 l2 o0) {x:Int} (hx:Z0b m.W.length (fun i=>decide (i∈l1++l2)) x=true) :
  ((Z0g e.lo e.hi s.φ x).2=false->CanCopy e s (ptI x).toNat /\ ∀ f t,(s.copy e (ptI x).toNat).φ f=some t->t<=300000) /\
  ∃ Y' G',CI e m l1 l2 o0 (Y++Y') (G++G') D (s.follow e x)/\Same s (s.follow e x)/\(s.follow e x).C=s.C/\(Z0g e.lo e.hi (s.follow e x).φ x).2=true/\Zf7 m.F D (Y'++G'):=by
 cases hp:(Z0g e.lo e.hi s.φ x).2 with
 | true =>
  have hf:s.follow e x=s:=by unfold CS.follow;rw [hp];rfl
  rw [hf]
  exact ⟨fun h=>(by cases h),[],[],by rw [U16,U16];exact I,Same.refl s,rfl,hp,fun p hp=>by simp at hp⟩
 | false =>
  have hf:s.follow e x=s.copy e (ptI x).toNat:=by unfold CS.follow;rw [hp];rfl
  rw [hf]
  obtain ⟨h1,h2⟩:=X.needs hx hp
  obtain ⟨Y',G',I',e1,e2,e3,e4,e5,e6⟩:=I.copy X h1 h2
  refine ⟨fun _=>⟨(I.can X h1 h2).2,(CSOK.of I' X).φ⟩,Y',G',I',⟨e1,e2,e5⟩,e3,?_,e6⟩
  unfold Z0g
  split
  ·cases hh:(s.copy e (ptI x).toNat).φ (ptI x).toNat with
   | none=>exact absurd hh e4
   | some t=>rfl
  ·rfl
theorem Zdb (C:List Bool) (a i:Nat) (x:Bool) (h:a<C.length):(C.set a x).getD i false=if i=a then x else C.getD i false:=by
 simp only [U07]
 by_cases e:i=a
 ·rw [U09 e,e,U18 h];rfl
 ·rw [U08 e,U1c (fun h=>e h.symm)]
structure IsField (m:MD) (l2:List Nat) (Y G:List (Nat × Nat)) (y:Nat) (p:Nat × Nat) (k:Nat):Prop where
 at':y=p.2+1+k
 pl:Z15 l2 Y G p
 lt:k<szN (m.F p.1)
 kd:¬ m.F p.1 / 4 % 256<8
theorem Z15.more {p:Nat × Nat} (h:Z15 l2 Y G p) (Y' G':List (Nat × Nat)):Z15 l2 (Y++Y') (G++G') p:=by
 rcases h with h | h
 ·refine Or.inl ?_
  rcases U0c.1 h with h | h <;> simp [h]
 ·exact Or.inr h
theorem CI.src_mem (I:CI e m l1 l2 o0 Y G D s) {p:Nat × Nat} (h:Z15 l2 Y G p):p.1∈l1++l2:=by
 rcases h with h | h
 ·exact U0c.2 (Or.inl (I.sub p h))
 ·exact U0c.2 (Or.inr h.1)
theorem CI.field_lt (I:CI e m l1 l2 o0 Y G D s) (X:CX e m l1 l2 o0) {y k:Nat}{p:Nat × Nat} (f:IsField m l2 Y G y p k):y<e.nW/\(y<m.n0\/m.n1<=y):=by
 obtain ⟨h,N⟩:=X.num
 obtain ⟨b1,b2,b3,b4⟩:=I.place X N
 have s1:=N.sep
 have s2:=N.m0
 have s3:=N.m1
 have s4:=N.room
 have s5:=N.n1
 have a1:=f.at'
 have a2:=f.lt
 rcases f.pl.out I X with ⟨_,p1,p2⟩ | ⟨_,p1,p2⟩ | ⟨_,p0,p1,p2⟩ <;> omega
theorem CI.val (I:CI e m l1 l2 o0 Y G D s) (X:CX e m l1 l2 o0) {y k:Nat}{p:Nat × Nat} (f:IsField m l2 Y G y p k) (hD:¬ D y):s.W.getD y 0=m.F (p.1+1+k):=by
 have a1:=f.at'
 rcases f.pl with h | ⟨h1,h2⟩
 ·rw [a1];exact I.raw p h k f.lt (by rw [<-a1];exact hD)
 ·have:=X.in2 h1
  have hl:=f.lt
  rw [I.old y (by omega) (by omega) hD,a1,h2]
theorem CI.one (I:CI e m l1 l2 o0 Y G D s) (X:CX e m l1 l2 o0) {y k j:Nat}{p q:Nat × Nat} (f:IsField m l2 Y G y p k) (g:IsField m l2 Y G y q j):p=q/\k=j:=by
 have a1:=f.at'
 have a2:=f.lt
 have b1:=g.at'
 have b2:=g.lt
 rcases I.apart X f.pl g.pl with h | h
 ·refine ⟨h,?_⟩;rw [h] at a1;omega
 ·omega
theorem CI.new_not {Y' G':List (Nat × Nat)} (I:CI e m l1 l2 o0 (Y++Y') (G++G') D s) (X:CX e m l1 l2 o0) {p:Nat × Nat} (hp:Z15 l2 Y G p):p ∉ Y'++G':=fun hq=>by
 obtain ⟨h,N⟩:=X.num
 rcases hp with h2 | ⟨h2,h3⟩
 ·have hp1:((Y++G++(Y'++G')).map Prod.fst).Nodup:=by
   refine (List.Perm.nodup_iff (List.Perm.map _ ?_)).1 I.nd
   rw [U0y,U0y]
   refine List.Perm.append_left _ ?_
   rw [<-U0y,<-U0y]
   exact List.Perm.append_right _ List.perm_append_comm
  rw [U1b] at hp1
  exact (U3r.1 hp1).2.2 p.1 (U0l.2 ⟨p,h2,rfl⟩) p.1 (U0l.2 ⟨p,hq,rfl⟩) rfl
 ·have h4:=I.sub p (by rcases U0c.1 hq with hq | hq <;> simp [hq])
  have h5:=X.in1 h4
  have h6:=X.in2 h2
  have:=N.m0
  have:=N.sep
  have:=N.n1
  omega
theorem CI.field (I:CI e m l1 l2 o0 Y G D s) (X:CX e m l1 l2 o0) {y k:Nat}{p:Nat × Nat} (f:IsField m l2 Y G y p k) (hD:¬ D y) :
  FieldOK e s y /\ ∃ Y' G',CI e m l1 l2 o0 (Y++Y') (G++G') (fun z=>D z\/z=y) (s.field e y)/\Same s (s.field e y)/\Zf7 m.F (fun z=>D z\/z=y) (Y'++G'):=by
 obtain ⟨h,N⟩:=X.num
 have hv:=I.val X f hD
 obtain ⟨hlt,hsr⟩:=I.field_lt X f
 have hx:=X.S.held (I.src_mem f.pl) f.lt f.kd
 obtain ⟨hc,Y',G',I',hS,hC,hok,hN⟩:=I.follow X hx
 rw [<-hv] at hc
 have O':=CSOK.of I' X
 refine ⟨⟨CSOK.of I X,hlt,hc,by rw [hv];exact O',by rw [hv,hC];exact I.clen⟩,Y',G',?_,?_,?_⟩
 ·obtain ⟨x,hxe⟩:∃ x,x=m.F (p.1+1+k):=⟨_,rfl⟩
  obtain ⟨s',hs'⟩:∃ s',s'=s.follow e x:=⟨_,rfl⟩
  obtain ⟨z,hz⟩:∃ z,z=(Z0g e.lo e.hi s'.φ x).1:=⟨_,rfl⟩
  rw [<-hxe] at hv hok I'
  rw [<-hs'] at hok I'
  have hX0:=X.range (p.1+1+k)
  rw [<-hxe] at hX0
  have hz01:0<=z/\z<18446744073709551616:=by rw [hz];exact Z49 (CSOK.of I' X).φ hX0.1 hX0.2
  have hyl:y<s'.W.length:=by rw [I'.len];exact hlt
  have f':IsField m l2 (Y++Y') (G++G') y p k:=⟨f.at',f.pl.more Y' G',f.lt,f.kd⟩
  have hfe:s.field e y=CS.mark e { s' with W:=s'.W.set y z } y:=by
   unfold CS.field CS.put CS.word
   rw [hv,<-hs',<-hz]
  have hW:(s.field e y).W=s'.W.set y z:=by rw [hfe];unfold CS.mark;split <;> rfl
  have hφ:(s.field e y).φ=s'.φ:=by rw [hfe];unfold CS.mark;split <;> rfl
  have hyt:(s.field e y).yt=s'.yt:=by rw [hfe];unfold CS.mark;split <;> rfl
  have hgt:(s.field e y).gt=s'.gt:=by rw [hfe];unfold CS.mark;split <;> rfl
  have hWa:∀ i,(s.field e y).W.getD i 0=if i=y then z else s'.W.getD i 0:=fun i=>by rw [hW];exact Z81 _ _ _ _ hyl
  have hCl:(s.field e y).C.length=s'.C.length:=by rw [hfe];unfold CS.mark;split <;> simp
  have hcard:∀ i,s'.C.getD i false=true->(s.field e y).C.getD i false=true:=fun i hi=>by
   rw [hfe];unfold CS.mark
   split
   ·show (s'.C.set _ true).getD i false=true
    by_cases hj:Z35 e.half e.card y<s'.C.length
    ·rw [Zdb _ _ _ _ hj];split
     ·rfl
     ·exact hi
    ·rw [List.set_eq_of_length_le (by omega)];exact hi
   ·exact hi
  have hcy:m.m0<=y->Z14 m.half z=true->(s.field e y).C.getD (Z35 m.half m.card y) false=true:=fun h1 h2=>by
   have hw0:(s'.W.set y z).getD y 0=z:=by rw [Z81 _ _ _ _ hyl,U09 rfl]
   have h2h:2*m.half<=(y:Int):=by have:=N.m0;have:=N.half;omega
   obtain ⟨d,j,_,_,hjl,hcn⟩:=Zc4 X.S.1 h2h (by rw [<-N.nW];exact hlt)
   rw [hfe];unfold CS.mark
   rw [U09 ⟨by rw [X.half];exact h2h,by rw [X.half,hw0];exact h2⟩,X.half,X.card,hcn]
   show (s'.C.set j true).getD j false=true
   rw [Zdb _ _ _ _ (by rw [I'.clen,X.nC];exact hjl),U09 rfl]
  have hhead:∀ q,Z15 l2 (Y++Y') (G++G') q->q.2≠y:=fun q hq e1=>by
   have a1:=f'.at'
   have a2:=f'.lt
   rcases I'.apart X hq f'.pl with h1 | h1
   ·rw [h1] at e1;omega
   ·omega
  refine ⟨by rw [hyt];exact I'.tY,by rw [hgt];exact I'.tG,I'.nd,I'.sub,I'.ay,I'.ag,fun f t=>by rw [hφ];exact I'.φ f t,by rw [hW,U0t];exact I'.len,by rw [hCl];exact I'.clen,?_,fun q hq => ?_,fun q hq => ?_,fun q hq j hj hn => ?_,fun i h1 h2 => ?_,fun i h1 h2 h3 => ?_,fun i hi => ?_⟩
  ·rw [hW]
   intro u hu
   rcases U1o hu with hu | rfl
   ·exact I'.u64 u hu
   ·exact hz01
  ·rw [hWa,U08 (hhead q (Or.inl (by simp only [U0c] at hq ⊢;exact Or.inl hq)))];exact I'.hy q hq
  ·rw [hWa,U08 (hhead q (Or.inl (by simp only [U0c] at hq ⊢;exact Or.inr hq)))];exact I'.hg q hq
  ·rw [hWa,U08 (fun e1=>hn (Or.inr e1))]
   exact I'.raw q hq j hj (fun h1=>hn (Or.inl h1))
  ·rw [hWa,U08 (by omega)];exact I'.src i h1 h2
  ·rw [hWa,U08 (fun e1=>h3 (Or.inr e1))]
   exact I'.old i h1 h2 (fun h=>h3 (Or.inl h))
  ·by_cases e1:i=y
   ·refine ⟨p,k,by rw [e1];exact f'.at',f'.pl,f'.lt,f'.kd,by rw [hφ,<-hxe];exact hok,by rw [hWa,U09 e1,hφ,<-hxe,hz],fun h1 h2 => ?_⟩
    rw [hWa,U09 e1] at h2
    rw [e1] at h1 ⊢
    exact hcy h1 h2
   ·have hi:D i:=by rcases hi with hi | hi;exact hi;exact absurd hi e1
    obtain ⟨q,j,d⟩:=I'.dn i hi
    refine ⟨q,j,d.at',d.pl,d.lt,d.kd,by rw [hφ];exact d.ok,by rw [hWa,U08 e1,hφ];exact d.is,fun h1 h2 => ?_⟩
    rw [hWa,U08 e1] at h2
    exact hcard _ (d.card h1 h2)
 ·have h1:(s.field e y).yd=(s.follow e (m.F (p.1+1+k))).yd:=by unfold CS.field CS.put CS.mark;rw [hv];split <;> rfl
  have h2:(s.field e y).gd=(s.follow e (m.F (p.1+1+k))).gd:=by unfold CS.field CS.put CS.mark;rw [hv];split <;> rfl
  have h3:(s.field e y).φ=(s.follow e (m.F (p.1+1+k))).φ:=by unfold CS.field CS.put CS.mark;rw [hv];split <;> rfl
  exact ⟨h1.trans hS.yd,h2.trans hS.gd,fun g t ht=>by rw [h3];exact hS.φ g t ht⟩
 ·intro q hq j hj hd
  rcases hd with hd | hd
  ·exact hN q hq j hj hd
  ·have hq':Z15 l2 (Y++Y') (G++G') q:=Or.inl (by
    rcases U0c.1 hq with hq | hq <;> simp [hq])
   have hpp:Z15 l2 (Y++Y') (G++G') p:=f.pl.more Y' G'
   have a1:=f.at'
   have a2:=f.lt
   rcases I'.apart X hq' hpp with h1 | h1
   ·rw [h1] at hq
    exact I'.new_not X f.pl hq
   ·omega
end
end Go.Proofs.YtlkcbdinlfeoiaaGreatDoor
