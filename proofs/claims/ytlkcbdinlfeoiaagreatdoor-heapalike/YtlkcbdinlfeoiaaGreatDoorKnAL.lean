/- The nursery collected, plainly: copies are gone through. -/
import Derived.Test.YtlkcbdinlfeoiaaGreatDoorKnAK
namespace Go.Proofs.YtlkcbdinlfeoiaaGreatDoor
open Go.Proofs.Tryz Go.RowKit
set_option maxHeartbeats 8000000
set_option maxRecDepth 100000
set_option linter.unusedSimpArgs false
section
variable {e:CE}{m:MD}{l1 l2:List Nat}{o0:Nat}{Y G:List (Nat × Nat)}{D:Nat->Prop}{s:CS}
def Zg5 (F:Nat->Int) (D:Nat->Prop) (L:List (Nat × Nat)):Prop:=∀ p∈L,¬ F p.1 / 4 % 256<8 -> ∀ k,k<szN (F p.1)->D (p.2+1+k)
theorem CI.fields (I:CI e m l1 l2 o0 Y G D s) (X:CX e m l1 l2 o0) {p:Nat × Nat} (hp:Z15 l2 Y G p) (hk:¬ m.F p.1 / 4 % 256<8) (hN:∀ k,k<szN (m.F p.1) -> ¬ D (p.2+1+k)):∀ n,n<=szN (m.F p.1) ->
  ∃ Y' G',CI e m l1 l2 o0 (Y++Y') (G++G') (fun z=>D z \/ ∃ k,k<n/\z=p.2+1+k) (s.fieldsN e p.2 n)/\Same s (s.fieldsN e p.2 n)/\Zf7 m.F (fun z=>D z \/ ∃ k,k<n/\z=p.2+1+k) (Y'++G')
 | 0,_=>⟨[],[],by
   rw [U16,U16]
   have e1:(fun z=>D z \/ ∃ k,k<0/\z=p.2+1+k)=D:=by
    funext z;apply propext;constructor
    ·rintro (h | ⟨k,h,_⟩)
     ·exact h
     ·omega
    ·exact Or.inl
   rw [e1];exact I,Same.refl s,fun q hq=>by simp at hq⟩
 | n+1,hn=>by
  obtain ⟨Y1,G1,I1,S1,N1⟩:=I.fields X hp hk hN n (by omega)
  have f:IsField m l2 (Y++Y1) (G++G1) (p.2+1+n) p n:=⟨rfl,hp.more Y1 G1,by omega,hk⟩
  obtain ⟨_,Y2,G2,I2,S2,N2⟩:=I1.field X f (by
   rintro (h | ⟨k,h1,h2⟩)
   ·exact hN n (by omega) h
   ·omega)
  have e1:(fun z=>(D z \/ ∃ k,k<n/\z=p.2+1+k)\/z=p.2+1+n)=(fun z=>D z \/ ∃ k,k<n+1/\z=p.2+1+k):=by
   funext z;apply propext;constructor
   ·rintro ((h | ⟨k,h,h2⟩) | h)
    ·exact Or.inl h
    ·exact Or.inr ⟨k,by omega,h2⟩
    ·exact Or.inr ⟨n,by omega,h⟩
   ·rintro (h | ⟨k,h,h2⟩)
    ·exact Or.inl (Or.inl h)
    ·by_cases hk:k<n
     ·exact Or.inl (Or.inr ⟨k,hk,h2⟩)
     ·obtain rfl:k=n:=by omega
      exact Or.inr h2
  rw [e1] at I2 N2
  rw [U0y,U0y] at I2
  refine ⟨Y1++Y2,G1++G2,I2,S1.trans S2,?_⟩
  intro q hq k hk1 hD
  have hq:q∈Y1++G1\/q∈Y2++G2:=by
   simp only [U0c] at hq ⊢
   rcases hq with (h | h) | (h | h) <;> simp [h]
  rcases hq with hq | hq
  ·rcases hD with hD | ⟨j,hj,hz⟩
   ·exact N1 q hq k hk1 (Or.inl hD)
   ·by_cases hjn:j<n
    ·exact N1 q hq k hk1 (Or.inr ⟨j,hjn,hz⟩)
    ·-- it is none of the object's own fields
     have hq':Z15 l2 (Y++Y1) (G++G1) q:=Or.inl (by rcases U0c.1 hq with h | h <;> simp [h])
     have g:IsField m l2 (Y++Y1) (G++G1) (p.2+1+j) p j:=⟨rfl,hp.more Y1 G1,by omega,hk⟩
     rcases I1.apart X hq' g.pl with h1 | h1
     ·rw [h1] at hq
      exact absurd hq (I1.new_not X hp)
     ·omega
  ·exact N2 q hq k hk1 hD
theorem CI.fieldOK (I:CI e m l1 l2 o0 Y G D s) (X:CX e m l1 l2 o0) {p:Nat × Nat} (hp:Z15 l2 Y G p) (hk:¬ m.F p.1 / 4 % 256<8) (hN:∀ k,k<szN (m.F p.1) -> ¬ D (p.2+1+k)) (n:Nat) (hn:n<szN (m.F p.1)):FieldOK e (s.fieldsN e p.2 n) (p.2+1+n):=by
 obtain ⟨Y1,G1,I1,S1,N1⟩:=I.fields X hp hk hN n (by omega)
 have f:IsField m l2 (Y++Y1) (G++G1) (p.2+1+n) p n:=⟨rfl,hp.more Y1 G1,hn,hk⟩
 exact (I1.field X f (by
  rintro (h | ⟨k,h1,h2⟩)
  ·exact hN n hn h
  ·omega)).1
theorem CI.setd (I:CI e m l1 l2 o0 Y G D s) (a b:Nat):CI e m l1 l2 o0 Y G D { s with yd:=a,gd:=b }:=
 ⟨I.tY,I.tG,I.nd,I.sub,I.ay,I.ag,I.φ,I.len,I.clen,I.u64,I.hy,I.hg,I.raw,I.src,I.old,fun y hy=>by
  obtain ⟨p,k,d⟩:=I.dn y hy
  exact ⟨p,k,d.at',d.pl,d.lt,d.kd,d.ok,d.is,d.card⟩⟩
def SI (e:CE) (m:MD) (l1 l2:List Nat) (o0:Nat) (s:CS):Prop:=∃ Y1 Y2 G1 G2 D,CI e m l1 l2 o0 (Y1++Y2) (G1++G2) D s/\Z0l m.F o0 Y1 s.yd/\Z0l m.F m.m1 G1 s.gd/\Zg5 m.F D (Y1++G1)/\Zf7 m.F D (Y2++G2)/\Zg5 m.F D (l2.map fun f=>(f,f))
theorem CI.obj (I:CI e m l1 l2 o0 Y G D s) (X:CX e m l1 l2 o0) {p:Nat × Nat} (hp:p∈Y++G) (hN:∀ k,k<szN (m.F p.1) -> ¬ D (p.2+1+k)) :
  szN (s.W.getD p.2 0)=szN (m.F p.1)/\ObjOK e s p.2 /\ ∃ Y' G' D',CI e m l1 l2 o0 (Y++Y') (G++G') D' (s.obj e p.2)/\Same s (s.obj e p.2)/\Zf7 m.F D' (Y'++G')/\Zg5 m.F D' [p]/\(∀ z,D z->D' z) /\ ∀ z,D' z->D z \/ ∃ k,k<szN (m.F p.1)/\z=p.2+1+k:=by
 have hin:=I.sub p hp
 have hx:=X.range p.1
 have hd:=X.head (f:=p.1) (by simp [hin])
 have hage:(0:Int)<=m.F p.1 / 1024 % 16:=by omega
 have hf:Z0t (s.W.getD p.2 0)=true/\szN (s.W.getD p.2 0)=szN (m.F p.1)/\s.W.getD p.2 0 / 4 % 256=m.F p.1 / 4 % 256:=by
  rcases U0c.1 hp with h | h
  ·rw [I.hy p h]
   have:=I.ay p h
   have:=X.tn1
   obtain ⟨a1,a2,_,_,a5,_⟩:=Z2s hd hx.1 (g:=m.F p.1 / 1024 % 16+1) (by omega) (by omega)
   exact ⟨a5,by unfold szN;rw [a1],a2⟩
  ·rw [I.hg p h]
   obtain ⟨a1,a2,_,_,a5,_⟩:=Z2s hd hx.1 (g:=0) (by omega) (by omega)
   exact ⟨a5,by unfold szN;rw [a1],a2⟩
 obtain ⟨h1,h2,h3⟩:=hf
 obtain ⟨h,N⟩:=X.num
 obtain ⟨b1,b2,b3,b4⟩:=I.place X N
 have s1:=N.sep
 have s2:=N.m0
 have s3:=N.m1
 have s4:=N.room
 refine ⟨h2,⟨CSOK.of I X,h1,?_,fun hk k hk1 => ?_⟩,?_⟩
 ·rw [h2]
  rcases Z15.out I X (Or.inl hp) with ⟨_,p1,p2⟩ | ⟨_,p1,p2⟩ | ⟨_,p0,p1,p2⟩ <;> omega
 ·rw [h3] at hk
  rw [h2] at hk1
  exact I.fieldOK X (Or.inl hp) hk hN k hk1
 ·by_cases hk:m.F p.1 / 4 % 256<8
  ·have ho:s.obj e p.2=s:=by unfold CS.obj;rw [h3,U09 hk]
   rw [ho]
   refine ⟨[],[],D,by rw [U16,U16];exact I,Same.refl s,fun q hq=>by simp at hq,fun q hq hk1 => ?_,fun z h=>h,fun z h=>Or.inl h⟩
   obtain rfl:q=p:=by simpa using hq
   exact absurd hk hk1
  ·have ho:s.obj e p.2=s.fieldsN e p.2 (szN (m.F p.1)):=by unfold CS.obj;rw [h3,U08 hk,h2]
   rw [ho]
   obtain ⟨Y',G',I',S',N'⟩:=I.fields X (Or.inl hp) hk hN _ (U02 _)
   refine ⟨Y',G',_,I',S',N',fun q hq _ k hk1 => ?_,fun z h=>Or.inl h,fun z h=>h⟩
   obtain rfl:q=p:=by simpa using hq
   exact Or.inr ⟨k,hk1,rfl⟩
theorem SI.step {Y1 Y2 G1 G2:List (Nat × Nat)} (X:CX e m l1 l2 o0) (I:CI e m l1 l2 o0 (Y1++Y2) (G1++G2) D s) (hA:Zg5 m.F D (Y1++G1)) (hO:Zg5 m.F D (l2.map fun f=>(f,f))) {p:Nat × Nat}{R:List (Nat × Nat)} (hR:∀ q,q∈Y2++G2->q=p\/q∈R) (hNR:Zf7 m.F D (Y2++G2)) (hRs:∀ q∈R,q∈Y2++G2/\q≠p) (hp:p∈Y2++G2) :
  szN (s.W.getD p.2 0)=szN (m.F p.1)/\ObjOK e s p.2 /\ ∃ Y' G' D',CI e m l1 l2 o0 (Y1++Y2++Y') (G1++G2++G') D' (s.obj e p.2)/\Same s (s.obj e p.2)/\Zf7 m.F D' (R++(Y'++G'))/\Zg5 m.F D' (p::(Y1++G1))/\Zg5 m.F D' (l2.map fun f=>(f,f)):=by
 have hpm:p∈Y1++Y2++(G1++G2):=by
  simp only [U0c] at hp ⊢
  rcases hp with h | h <;> simp [h]
 obtain ⟨h1,h2,Y',G',D',I',S',N',A',hD1,hD2⟩:=I.obj X hpm (hNR p hp)
 refine ⟨h1,h2,Y',G',D',I',S',?_,?_,fun q hq hk k hk1=>hD1 _ (hO q hq hk k hk1)⟩
 ·intro q hq k hk hd
  rcases U0c.1 hq with hq | hq
  ·obtain ⟨hq1,hq2⟩:=hRs q hq
   rcases hD2 _ hd with h | ⟨j,hj,hz⟩
   ·exact hNR q hq1 k hk h
   ·have hqm:q∈Y1++Y2++(G1++G2):=by
     simp only [U0c] at hq1 ⊢
     rcases hq1 with h | h <;> simp [h]
    rcases I.apart X (Or.inl hqm) (Or.inl hpm) with h | h
    ·exact hq2 h
    ·omega
  ·exact N' q hq k hk hd
 ·intro q hq hk k hk1
  rcases U19.1 hq with rfl | hq
  ·exact A' q (by simp) hk k hk1
  ·exact hD1 _ (hA q hq hk k hk1)
def Zg6 (e:CE) (o0 h:Nat) (s:CS):Nat:=(o0+h - s.yd)+(e.nW - s.gd)
theorem Z0l.nodup {F:Nat->Int}{L:List (Nat × Nat)}{a b:Nat} (h:Z0l F a L b):∀ {L1 L2:List (Nat × Nat)}{p:Nat × Nat},L=L1++p::L2 -> ∀ q∈L2,q≠p:=fun {L1 L2 p} e1 q hq e2=>by
 rw [e1] at h
 obtain ⟨c,_,h2⟩:=h.split
 have h3:=h2.1
 have h4:=Z0l.mem h2.2 q hq
 rw [e2] at h4
 omega
theorem SI.scanY (X:CX e m l1 l2 o0) {h:Nat} (N:CN e m o0 h) (hs:SI e m l1 l2 o0 s):s.yd<=300000/\s.yt<=300000/\(s.yd<s.yt->ObjOK e s s.yd/\SI e m l1 l2 o0 (s.scanY e)/\(∀ f t,s.φ f=some t->(s.scanY e).φ f=some t)/\Zg6 e o0 h (s.scanY e)<Zg6 e o0 h s):=by
 obtain ⟨Y1,Y2,G1,G2,D,I,t1,t2,hA,hN,hO⟩:=hs
 have O:=CSOK.of I X
 obtain ⟨c,u1,u2⟩:=I.tY.split
 obtain rfl:=u1.uniq t1
 have hle:=u2.le
 obtain ⟨b1,b2,b3,b4⟩:=I.place X N
 have hyt:=O.yt
 refine ⟨by omega,hyt,fun hlt => ?_⟩
 cases Y2 with
 | nil=>have u2:_=_:=u2;omega
 | cons p Y2 =>
  obtain ⟨p0,u3⟩:=u2
  obtain ⟨h1,h2,Y',G',D',I',S',N',A',hO'⟩:=SI.step (R:=Y2++G2) X I hA hO (p:=p) (fun q hq=>by
   simp only [U5f,U19] at hq
   exact hq) hN (fun q hq=>by
   refine ⟨by simp only [U5f,U19];exact Or.inr hq,fun e1 => ?_⟩
   rcases U0c.1 hq with hq | hq
   ·exact I.tY.nodup (L1:=Y1) (L2:=Y2) rfl q hq e1
   ·have a1:=I.tY.mem p (by simp)
    have a2:=I.tG.mem q (by simp [hq])
    have:=N.sep
    have:=N.m0
    have:=N.m1
    rw [e1] at a2
    omega) (by simp)
  rw [p0] at h1 h2 I' S'
  refine ⟨h2,⟨Y1 ++ [p],Y2++Y',G1,G2++G',D',?_,?_,?_,?_,?_,hO'⟩,S'.φ,?_⟩
  ·have I2:=I'.setd (s.yd+1+szN (s.W.getD s.yd 0)) s.gd
   have e1:Y1++p::Y2++Y'=Y1 ++ [p]++(Y2++Y'):=by simp
   have e2:G1++G2++G'=G1++(G2++G'):=by simp
   rw [e1,e2] at I2
   have e3:s.scanY e = { s.obj e s.yd with yd:=s.yd+1+szN (s.W.getD s.yd 0),gd:=s.gd }:=by unfold CS.scanY;rw [<-S'.gd]
   rw [e3]
   exact I2
  ·show Z0l m.F o0 (Y1 ++ [p]) (s.yd+1+szN (s.W.getD s.yd 0))
   rw [h1]
   exact t1.append ⟨p0,rfl⟩
  ·show Z0l m.F m.m1 G1 (s.obj e s.yd).gd
   rw [S'.gd];exact t2
  ·intro q hq
   refine A' q ?_
   simp at hq
   simp only [U0c,U19]
   rcases hq with h | h | h <;> simp [h]
  ·intro q hq
   refine N' q ?_
   simp only [U0c] at hq ⊢
   rcases hq with (h | h) | (h | h) <;> simp [h]
  ·have g1:(s.scanY e).gd=s.gd:=S'.gd
   have g2:(s.scanY e).yd=s.yd+1+szN (s.W.getD s.yd 0):=rfl
   unfold Zg6
   rw [g1,g2]
   omega
theorem SI.scanG (X:CX e m l1 l2 o0) {h:Nat} (N:CN e m o0 h) (hs:SI e m l1 l2 o0 s):s.gd<=300000/\s.gt<=300000/\(s.gd<s.gt->ObjOK e s s.gd/\SI e m l1 l2 o0 (s.scanG e)/\(∀ f t,s.φ f=some t->(s.scanG e).φ f=some t)/\Zg6 e o0 h (s.scanG e)<Zg6 e o0 h s):=by
 obtain ⟨Y1,Y2,G1,G2,D,I,t1,t2,hA,hN,hO⟩:=hs
 have O:=CSOK.of I X
 obtain ⟨c,u1,u2⟩:=I.tG.split
 obtain rfl:=u1.uniq t2
 have hle:=u2.le
 obtain ⟨b1,b2,b3,b4⟩:=I.place X N
 have hgt:=O.gt
 refine ⟨by omega,hgt,fun hlt => ?_⟩
 cases G2 with
 | nil=>have u2:_=_:=u2;omega
 | cons p G2 =>
  obtain ⟨p0,u3⟩:=u2
  obtain ⟨h1,h2,Y',G',D',I',S',N',A',hO'⟩:=SI.step (R:=Y2++G2) X I hA hO (p:=p) (fun q hq=>by
   simp only [U0c,U19] at hq ⊢
   rcases hq with h | h | h <;> simp [h]) hN (fun q hq=>by
   refine ⟨by simp only [U0c,U19] at hq ⊢;rcases hq with h | h <;> simp [h],fun e1 => ?_⟩
   rcases U0c.1 hq with hq | hq
   ·have a1:=I.tG.mem p (by simp)
    have a2:=I.tY.mem q (by simp [hq])
    have:=N.sep
    have:=N.m0
    have:=N.m1
    rw [e1] at a2
    omega
   ·exact I.tG.nodup (L1:=G1) (L2:=G2) rfl q hq e1) (by simp)
  rw [p0] at h1 h2 I' S'
  refine ⟨h2,⟨Y1,Y2++Y',G1 ++ [p],G2++G',D',?_,?_,?_,?_,?_,hO'⟩,S'.φ,?_⟩
  ·have I2:=I'.setd s.yd (s.gd+1+szN (s.W.getD s.gd 0))
   have e1:G1++p::G2++G'=G1 ++ [p]++(G2++G'):=by simp
   have e2:Y1++Y2++Y'=Y1++(Y2++Y'):=by simp
   rw [e1,e2] at I2
   have e3:s.scanG e = { s.obj e s.gd with yd:=s.yd,gd:=s.gd+1+szN (s.W.getD s.gd 0) }:=by unfold CS.scanG;rw [<-S'.yd]
   rw [e3]
   exact I2
  ·show Z0l m.F o0 Y1 (s.obj e s.gd).yd
   rw [S'.yd];exact t1
  ·show Z0l m.F m.m1 (G1 ++ [p]) (s.gd+1+szN (s.W.getD s.gd 0))
   rw [h1]
   exact t2.append ⟨p0,rfl⟩
  ·intro q hq
   refine A' q ?_
   simp at hq
   simp only [U0c,U19]
   rcases hq with h | h | h <;> simp [h]
  ·intro q hq
   refine N' q ?_
   simp only [U0c] at hq ⊢
   rcases hq with (h | h) | (h | h) <;> simp [h]
  ·have g1:(s.scanG e).yd=s.yd:=S'.yd
   have g2:(s.scanG e).gd=s.gd+1+szN (s.W.getD s.gd 0):=rfl
   unfold Zg6
   rw [g1,g2]
   omega
def Gone (e:CE) (m:MD) (l1 l2:List Nat) (o0:Nat) (s:CS):Prop:=∃ Y G D,CI e m l1 l2 o0 Y G D s/\Zg5 m.F D (Y++G)/\Zg5 m.F D (l2.map fun f=>(f,f))
theorem SI.fin (hs:SI e m l1 l2 o0 s) (h1:¬ s.yd<s.yt) (h2:¬ s.gd<s.gt):Gone e m l1 l2 o0 s:=by
 obtain ⟨Y1,Y2,G1,G2,D,I,t1,t2,hA,hN,hO⟩:=hs
 obtain ⟨c,u1,u2⟩:=I.tY.split
 obtain rfl:=u1.uniq t1
 obtain ⟨d,v1,v2⟩:=I.tG.split
 obtain rfl:=v1.uniq t2
 have w1:Y2 = []:=by
  cases Y2 with
  | nil=>rfl
  | cons p L=>have:=Z0l.le u2.2;omega
 have w2:G2 = []:=by
  cases G2 with
  | nil=>rfl
  | cons p L=>have:=Z0l.le v2.2;omega
 rw [w1,w2,U16,U16] at I
 exact ⟨Y1,G1,D,I,hA,hO⟩
end
section
variable {e:CE}{m:MD}{l1 l2:List Nat}{o0:Nat}{Y G:List (Nat × Nat)}{D:Nat->Prop}{s:CS}
def CS.at (s:CS) (f:Nat):Nat:=(s.φ f).getD f
def CS.has (s:CS) (l2:List Nat) (f:Nat):Prop:=f∈l2 \/ ∃ t,s.φ f=some t
def CS.mem (e:CE) (m:MD) (o0:Nat) (s:CS):MD:=⟨m.half,m.old,m.card,1 - m.used,(s.yt:Int) - (o0:Int),(s.gt:Int) - (m.m0:Int),s.W,m.R.map (fun x=>(Z0g e.lo e.hi s.φ x).1),m.K.map (fun x=>(Z0g e.lo e.hi s.φ x).1),Z32 (Z0g e.lo e.hi s.φ) m.I,s.C⟩
theorem CX.apart (X:CX e m l1 l2 o0) {f:Nat} (h1:f∈l1) (h2:f∈l2):False:=by
 obtain ⟨h,N⟩:=X.num
 have a1:=X.in1 h1
 have a2:=X.in2 h2
 have:=N.m0
 have:=N.sep
 have:=N.n1
 omega
theorem CI.old_none (I:CI e m l1 l2 o0 Y G D s) (X:CX e m l1 l2 o0) {f:Nat} (h:f∈l2):s.φ f=none:=by
 cases hf:s.φ f with
 | none=>rfl
 | some t=>exact (X.apart (I.sub _ ((I.φ f t).1 hf)) h).elim
theorem CI.has_pl (I:CI e m l1 l2 o0 Y G D s) (X:CX e m l1 l2 o0) {f:Nat} (h:s.has l2 f):Z15 l2 Y G (f,s.at f):=by
 rcases h with h | ⟨t,h⟩
 ·refine Or.inr ⟨h,?_⟩
  show (s.φ f).getD f=f
  rw [I.old_none X h];rfl
 ·refine Or.inl ?_
  have:s.at f=t:=by unfold CS.at;rw [h];rfl
  rw [this]
  exact (I.φ f t).1 h
theorem CI.pl_has (I:CI e m l1 l2 o0 Y G D s) (X:CX e m l1 l2 o0) {p:Nat × Nat} (h:Z15 l2 Y G p):s.has l2 p.1/\s.at p.1=p.2:=by
 rcases h with h | ⟨h,h2⟩
 ·have:=(I.φ p.1 p.2).2 h
  exact ⟨Or.inr ⟨_,this⟩,by unfold CS.at;rw [this];rfl⟩
 ·refine ⟨Or.inl h,?_⟩
  unfold CS.at
  rw [I.old_none X h,h2];rfl
theorem CI.now (I:CI e m l1 l2 o0 Y G D s) (X:CX e m l1 l2 o0) {x:Int} (hx:Z0b m.W.length (fun i=>decide (i∈l1++l2)) x=true) (ho:(Z0g e.lo e.hi s.φ x).2=true):(Z0g e.lo e.hi s.φ x).1=mvI s.at x/\Z4r (s.has l2) x:=by
 obtain ⟨h,N⟩:=X.num
 by_cases hp:0<=ptI x
 ·have hin:=Z8v hx hp
  have h4:x=(ptI x+1)*4:=by
   unfold ptI at hp ⊢
   split at hp
   ·rename_i c;rw [U09 c];omega
   ·omega
  unfold mvI Z4r
  rw [U09 hp]
  unfold Z0g at ho ⊢
  by_cases hc:0<=ptI x/\(e.lo:Int)<=ptI x/\ptI x<(e.hi:Int)
  ·rw [U09 hc] at ho ⊢
   cases hf:s.φ (ptI x).toNat with
   | none=>rw [hf] at ho;cases ho
   | some t =>
    have:s.at (ptI x).toNat=t:=by unfold CS.at;rw [hf];rfl
    rw [this]
    exact ⟨rfl,fun _=>Or.inr ⟨t,hf⟩⟩
  ·rw [U08 hc] at ho ⊢
   rcases U0c.1 hin with hin | hin
   ·have a1:=X.in1 hin
    have:=N.lo
    have:=N.hi
    have:=N.n1
    omega
   ·have:s.at (ptI x).toNat=(ptI x).toNat:=by unfold CS.at;rw [I.old_none X hin];rfl
    rw [this]
    exact ⟨by show x=_;omega,fun _=>Or.inl hin⟩
 ·refine ⟨?_,fun h=>absurd h hp⟩
  unfold Z0g
  rw [U08 (fun h=>hp h.1),Zbw hp]
structure Coll (e:CE) (m n:MD) (l1 l2:List Nat) (us:List Nat) (S:Nat->Prop) (ψ:Nat->Nat):Prop where
 shape:n.Shape us
 h64:MD64 n
 cards:n.cardsB=true
 iso:Iso m.F n.F S ψ
 roots:n.R=m.R.map (mvI ψ)
 rin:∀ x∈m.R,Z4r S x
 old:∀ f∈l2,S f/\ψ f=f
 in':∀ f,S f->f∈l1++l2/\ψ f∈us
 young:∀ f,S f->f∈l1->((ψ f:Int)<2*m.half ↔ m.F f / 1024 % 16<e.tn)/\(m.F f / 1024 % 16<e.tn->n.F (ψ f) / 1024 % 16=m.F f / 1024 % 16+1)
 out:∀ t∈us,∃ f,S f/\ψ f=t
 half:n.half=m.half
 hold:n.old=m.old
 card:n.card=m.card
 used:n.used=1 - m.used
 top:n.top<=m.top
 oldTop:m.oldTop<=n.oldTop
 none:(∀ f∈l1,e.tn<=m.F f / 1024 % 16)->n.top=0
 klen:n.K.length=m.K.length
 weak:∀ i,i<m.K.length->(Z4r S (m.K.getD i 0)/\n.K.getD i 0=mvI ψ (m.K.getD i 0))\/(0<=ptI (m.K.getD i 0) /\ ¬ S (ptI (m.K.getD i 0)).toNat/\n.K.getD i 0=2)
 ids:∃ c:Int × Int->Bool,n.I=(m.I.filter c).map (fun x=>(mvI ψ x.1,x.2)) /\ ∀ x∈m.I,c x=true ↔ S (ptI x.1).toNat
theorem Zdw {nW:Nat}{vs us:List Nat}{S:Nat->Prop}{ψ:Nat->Nat}{x:Int} (hu:∀ f,S f->ψ f∈us/\ψ f<nW) (hx:Z0b nW (fun i=>decide (i∈vs)) x=true) (hp:Z4r S x) (hv:∀ v∈vs,v<300000):Z0b nW (fun i=>decide (i∈us)) (mvI ψ x)=true:=by
 by_cases h:0<=ptI x
 ·obtain ⟨h1,h2⟩:=hu _ (hp h)
  unfold mvI
  rw [U09 h]
  unfold Z0b
  rw [U08 (by omega),U08 (by omega)]
  have e1:((((ψ (ptI x).toNat:Nat):Int)+1)*4 == 0)=false:=by rw [U0w];omega
  rw [e1,U1n]
  unfold Z2y
  have e2:((((ψ (ptI x).toNat:Nat):Int)+1)*4 / 4 - 1).toNat=ψ (ptI x).toNat:=by omega
  rw [e2,U0d (by omega),U0d h2]
  show (true && (true && decide (ψ (ptI x).toNat∈us)))=true
  rw [U0d h1];rfl
 ·rw [Zbw h]
  unfold Z0b at hx ⊢
  by_cases h1:x % 4=1
  ·rw [U09 h1]
  ·rw [U08 h1] at hx ⊢
   by_cases h2:x % 4=2
   ·rw [U09 h2] at hx ⊢;exact hx
   ·rw [U08 h2] at hx ⊢
    rcases U47 _ _ ▸ hx with hx | hx
    ·rw [hx,U2g]
    ·exfalso
     unfold Z2y at hx
     rw [U0i,U0i] at hx
     have a1:=U0j hx.1
     have a2:=hv _ (U0j hx.2.2)
     apply h
     unfold ptI
     rw [U09 ⟨a1.1,a1.2,by omega⟩]
     omega
theorem Z64 {nH:Nat}{hb:Nat->Bool}{l:List (Int × Int)} : Z6j nH hb l=true ↔ (∀ x∈l,Z2y nH hb x.1=true/\1<=x.2)/\l.Pairwise (fun x y=>x.1≠y.1/\x.2≠y.2):=by
 have key:∀ i (hi:i<l.length),idB nH hb l i=(Z2y nH hb l[i].1 && (decide (1<=l[i].2) && ((l.take i).all (fun y => !(y.1 == l[i].1)) && (l.take i).all (fun y => !(y.2 == l[i].2))))):=fun i hi=>by
  unfold idB
  rw [U03 hi]
  have a1:(l.map (·.1))[i]?=some l[i].1:=by rw [U0g,U03 hi];rfl
  have a2:(l.map (·.2))[i]?=some l[i].2:=by rw [U0g,U03 hi];rfl
  have b1:=Z5l a1
  have b2:=Z5l a2
  rw [<-U2y] at b1 b2
  rw [<-U2y,List.all_map] at b1 b2
  show (Z2y nH hb l[i].1 && (decide (1<=l[i].2) && (decide (((l.take (i+1)).map (·.1)).count l[i].1<=1) && decide (((l.take (i+1)).map (·.2)).count l[i].2<=1))))=_
  rw [b1,b2]
  rfl
 unfold Z6j
 rw [U0m]
 constructor
 ·intro h
  have hk:∀ i (hi:i<l.length),Z2y nH hb l[i].1=true/\1<=l[i].2/\(∀ y∈l.take i,y.1≠l[i].1/\y.2≠l[i].2):=fun i hi=>by
   have:=h i (U0u.2 hi)
   rw [key i hi,U0i,U0i,U0i,U0m,U0m] at this
   refine ⟨this.1,U0j this.2.1,fun y hy => ?_⟩
   have c1:=this.2.2.1 y hy
   have c2:=this.2.2.2 y hy
   simp at c1 c2
   exact ⟨c1,c2⟩
  refine ⟨fun x hx => ?_,?_⟩
  ·obtain ⟨i,hi,rfl⟩:=U27.1 hx
   exact ⟨(hk i hi).1,(hk i hi).2.1⟩
  ·rw [U1y]
   intro i j hi hj hij
   exact (hk j hj).2.2 _ (U27.2 ⟨i,by rw [U1k];omega,by rw [List.getElem_take]⟩)
 ·rintro ⟨h1,h2⟩ i hi
  have hi:=U0u.1 hi
  rw [key i hi,U0i,U0i,U0i,U0m,U0m]
  have a:=h1 l[i] (U1w _)
  rw [U1y] at h2
  have hk:∀ y∈l.take i,y.1≠l[i].1/\y.2≠l[i].2:=fun y hy=>by
   obtain ⟨j,hj,rfl⟩:=U27.1 hy
   rw [U1k] at hj
   rw [List.getElem_take]
   exact h2 j i (by omega) hi (by omega)
  exact ⟨a.1,U0d a.2,fun y hy=>by simp [(hk y hy).1],fun y hy=>by simp [(hk y hy).2]⟩
end
section
variable {e:CE}{m:MD}{l1 l2:List Nat}{o0:Nat}{Y G:List (Nat × Nat)}{D:Nat->Prop}{s:CS}
theorem CX.g1 (X:CX e m l1 l2 o0):(∀ f∈l1,m.F f / 16384 % 2=0)/\(∀ f∈l2,m.F f / 16384 % 2=0/\m.F f / 1024 % 16=0):=by
 obtain ⟨h,N⟩:=X.num
 refine ⟨fun f hf=>U0j (U0m.1 (Z0h.1 X.w1).2 f hf),fun f hf=>⟨U0j (U0m.1 (Z0h.1 X.w2).2 f hf),?_⟩⟩
 have ho:=X.S.2.1
 unfold MD.objs at ho
 split at ho
 ·rename_i a1 a2 k1 k2
  have c2:=Z0h.1 k2
  have e2:a2=l2:=by
   have:=(Z0h.1 X.w2).1
   rw [c2.1] at this
   exact U1h this
  have:=U0m.1 c2.2 f (by rw [e2];exact hf)
  unfold G1 at this
  rw [U0i,U47] at this
  rcases this.2 with h1 | h1
  ·have h1:=U0j h1
   have:=X.in2 hf
   have:=N.m0
   have:=N.half
   omega
  ·exact U0j h1
 ·cases ho
theorem CI.hdr (I:CI e m l1 l2 o0 Y G D s) (X:CX e m l1 l2 o0) {p:Nat × Nat} (hp:Z15 l2 Y G p) :
  Z0t (s.W.getD p.2 0)=true/\szN (s.W.getD p.2 0)=szN (m.F p.1)/\s.W.getD p.2 0 / 4 % 256=m.F p.1 / 4 % 256/\s.W.getD p.2 0 / 16384 % 2=0/\(p∈Y->s.W.getD p.2 0 / 1024 % 16=m.F p.1 / 1024 % 16+1)/\(p ∉ Y->s.W.getD p.2 0 / 1024 % 16=0):=by
 have hin:=I.src_mem hp
 have hx:=X.range p.1
 have hd:=X.head hin
 obtain ⟨g1,g2⟩:=X.g1
 by_cases hy:p∈Y
 ·rw [I.hy p hy]
  have:=I.ay p hy
  have:=X.tn1
  obtain ⟨a1,a2,a3,a4,a5,_⟩:=Z2s hd hx.1 (g:=m.F p.1 / 1024 % 16+1) (by omega) (by omega)
  exact ⟨a5,by unfold szN;rw [a1],a2,by rw [a4];exact g1 _ (I.sub p (by simp [hy])),fun _=>a3,fun h=>absurd hy h⟩
 ·rcases hp with h | ⟨h,h2⟩
  ·have hg:p∈G:=by rcases U0c.1 h with h | h;exact absurd h hy;exact h
   rw [I.hg p hg]
   obtain ⟨a1,a2,a3,a4,a5,_⟩:=Z2s hd hx.1 (g:=0) (by omega) (by omega)
   exact ⟨a5,by unfold szN;rw [a1],a2,by rw [a4];exact g1 _ (I.sub p h),fun h=>absurd h hy,fun _=>a3⟩
  ·have hw:s.W.getD p.2 0=m.F p.1:=by
    have hi:=X.in2 h
    rw [I.old p.2 (by omega) (by omega) (fun hD=>by
     obtain ⟨q,k,d⟩:=I.dn _ hD
     have a1:=d.at'
     have a2:=d.lt
     rcases I.apart X d.pl (Or.inr ⟨h,h2⟩:Z15 l2 Y G p) with h1 | h1
     ·rw [h1] at a1;omega
     ·omega),h2]
   rw [hw]
   exact ⟨hd,rfl,rfl,(g2 _ h).1,fun h=>absurd h hy,fun _=>(g2 _ h).2⟩
theorem CI.fld (I:CI e m l1 l2 o0 Y G D s) (X:CX e m l1 l2 o0) (hA:Zg5 m.F D (Y++G)) (hO:Zg5 m.F D (l2.map fun f=>(f,f))) {p:Nat × Nat} (hp:Z15 l2 Y G p) {k:Nat} (hk:k<szN (m.F p.1)) :
  (m.F p.1 / 4 % 256<8->s.W.getD (p.2+1+k) 0=m.F (p.1+1+k))/\(¬ m.F p.1 / 4 % 256<8->s.W.getD (p.2+1+k) 0=mvI s.at (m.F (p.1+1+k))/\Z4r (s.has l2) (m.F (p.1+1+k))/\(m.m0<=p.2+1+k->Z14 m.half (s.W.getD (p.2+1+k) 0)=true->s.C.getD (Z35 m.half m.card (p.2+1+k)) false=true)):=by
 refine ⟨fun hr => ?_,fun hr => ?_⟩
 ·have hD:¬ D (p.2+1+k):=fun hD=>by
   obtain ⟨q,j,d⟩:=I.dn _ hD
   have a1:=d.at'
   have a2:=d.lt
   rcases I.apart X d.pl hp with h1 | h1
   ·exact d.kd (by rw [h1];exact hr)
   ·omega
  rcases hp with h | ⟨h,h2⟩
  ·exact I.raw p h k hk hD
  ·have hi:=X.in2 h
   rw [I.old _ (by omega) (by omega) hD,h2]
 ·have hD:D (p.2+1+k):=by
   rcases hp with h | ⟨h,h2⟩
   ·exact hA p h hr k hk
   ·have:=hO (p.1,p.1) (U0l.2 ⟨p.1,h,rfl⟩) hr k hk
    rw [h2];exact this
  obtain ⟨q,j,d⟩:=I.dn _ hD
  obtain ⟨e1,e2⟩:=I.one X ⟨d.at',d.pl,d.lt,d.kd⟩ (⟨rfl,hp,hk,hr⟩:IsField m l2 Y G (p.2+1+k) p k)
  have hx:=X.S.held (I.src_mem hp) hk hr
  have ho:=d.ok
  have hi:=d.is
  rw [e1,e2] at ho hi
  obtain ⟨n1,n2⟩:=I.now X hx ho
  exact ⟨by rw [hi,n1],n2,d.card⟩
theorem MD.Shape.rest' {m:MD}{vs:List Nat} (S:m.Shape vs):(∀ x∈m.R,Z0b m.W.length (fun i=>decide (i∈vs)) x=true)/\(∀ x∈m.K,Z0b m.W.length (fun i=>decide (i∈vs)) x=true)/\Z6j m.W.length (fun i=>decide (i∈vs)) m.I=true:=by
 have h:=S.2.2.2
 unfold MD.restB at h
 rw [U0i,U0i,U0m,U0m] at h
 exact ⟨h.1,h.2.1,h.2.2⟩
theorem Z48 {nW:Nat}{hb:Nat->Bool}{x:Int} (h:Z2y nW hb x=true):Z0b nW hb x=true:=by
 unfold Z0b
 have:=h
 unfold Z2y at this
 rw [U0i] at this
 have a:=U0j this.1
 rw [U08 (by omega),U08 (by omega),h,U5e]
theorem Zld {nW:Nat}{hb:Nat->Bool}{x:Int} (hn:nW<=300000) (h:Z2y nW hb x=true):0<=ptI x/\x=(ptI x+1)*4:=by
 unfold Z2y at h
 rw [U0i,U0i] at h
 have a:=U0j h.1
 have b:=U0j h.2.1
 unfold ptI
 rw [U09 ⟨a.1,a.2,by omega⟩]
 omega
theorem Zdy {nW:Nat}{us:List Nat}{t:Nat} (h1:t∈us) (h2:t<nW):Z2y nW (fun i=>decide (i∈us)) (((t:Int)+1)*4)=true:=by
 unfold Z2y
 have e2:(((t:Int)+1)*4 / 4 - 1).toNat=t:=by omega
 rw [e2,U0d (by omega),U0d h2]
 show (true && (true && decide (t∈us)))=true
 rw [U0d h1];rfl
theorem CI.coll (I:CI e m l1 l2 o0 Y G D s) (X:CX e m l1 l2 o0) (hA:Zg5 m.F D (Y++G)) (hO:Zg5 m.F D (l2.map fun f=>(f,f))) (hR:∀ x∈m.R,(Z0g e.lo e.hi s.φ x).2=true) :
  Coll e m (s.mem e m o0) l1 l2 (Y.map Prod.snd++(l2++G.map Prod.snd)) (s.has l2) s.at:=by
 obtain ⟨h,N⟩:=X.num
 obtain ⟨b1,b2,b3,b4⟩:=I.place X N
 have hF:=X.S.1
 have hnum:=hF.nums
 unfold Z0c at hnum
 have s1:=N.sep
 have s2:=N.m0
 have s3:=N.m1
 have s4:=N.half
 have s5:=N.nW
 have s6:=N.few
 have s7:=N.n1
 have s8:=N.le
 have hw:=hF.w
 have P:=MD.parts hF
 have pm1:=P.m1
 have pm0:=P.m0
 have pn0:=P.n0
 have pn1:=P.n1
 have hu0:=hF.u0
 have hu1:=hF.u1
 have hot:=hF.o0
 have ho0:=X.o0
 have htk:=I.taken X (l:=[]) I.nd (by simp)
 have ew:Z0i m.F []=0:=rfl
 have hφ:=(CSOK.of I X).φ
 have hWl:s.W.length=m.W.length:=by rw [I.len,s5]
 have hCl:s.C.length=m.C.length:=by rw [I.clen,X.nC]
 obtain ⟨n,hn⟩:∃ n,n=s.mem e m o0:=⟨_,rfl⟩
 have nF:∀ i,n.F i=s.W.getD i 0:=fun i=>by rw [hn];rfl
 have nW:n.W=s.W:=by rw [hn];rfl
 have nWl:n.W.length=m.W.length:=by rw [nW];exact hWl
 have nh:n.half=m.half:=by rw [hn];rfl
 have nn0:n.n0=o0:=by rw [hn];show ((1 - m.used)*m.half).toNat=o0;omega
 have nn1:n.n1=s.yt:=by rw [hn];show ((1 - m.used)*m.half+((s.yt:Int) - (o0:Int))).toNat=s.yt;omega
 have nm0:n.m0=m.m0:=by rw [hn];rfl
 have nm1:n.m1=s.gt:=by rw [hn];show (2*m.half+((s.gt:Int) - (m.m0:Int))).toNat=s.gt;omega
 obtain ⟨us,hus⟩:∃ us,us=Y.map Prod.snd++(l2++G.map Prod.snd):=⟨_,rfl⟩
 have hpl:∀ p,Z15 l2 Y G p->p.2∈us/\p.2<m.W.length:=fun p hp=>by
  refine ⟨?_,?_⟩
  ·rw [hus]
   rcases hp with hp | ⟨hp,h2⟩
   ·rcases U0c.1 hp with hp | hp
    ·exact U0c.2 (Or.inl (U0l.2 ⟨p,hp,rfl⟩))
    ·exact U0c.2 (Or.inr (U0c.2 (Or.inr (U0l.2 ⟨p,hp,rfl⟩))))
   ·rw [h2];exact U0c.2 (Or.inr (U0c.2 (Or.inl hp)))
  ·rcases hp.out I X with ⟨_,p1,p2⟩ | ⟨_,p1,p2⟩ | ⟨_,p0,p1,p2⟩ <;> omega
 have hS:∀ f,s.has l2 f->s.at f∈us/\s.at f<m.W.length:=fun f hf=>hpl _ (I.has_pl X hf)
 have hvs:∀ v∈l1++l2,v<300000:=fun v hv=>by have:=(X.S.fine v hv).2;omega
 have iso:Iso m.F n.F (s.has l2) s.at:=by
  refine ⟨fun f g hf hg hfg => ?_,fun f hf => ?_,fun f hf => ?_,fun f hf => ?_,fun f hf k hk => ?_,fun f hf hk k hk1 => ?_⟩
  ·rcases I.apart X (I.has_pl X hf) (I.has_pl X hg) with h1 | h1
   ·exact (U56 h1).1
   ·have h1:s.at f+1+szN (m.F f)<=s.at g\/s.at g+1+szN (m.F g)<=s.at f:=h1
    omega
  ·have:=(hS f hf).2;omega
  ·rw [nF];exact (I.hdr X (I.has_pl X hf)).2.2.1
  ·rw [nF];exact (I.hdr X (I.has_pl X hf)).2.1
  ·obtain ⟨h1,h2⟩:=I.fld X hA hO (I.has_pl X hf) hk
   rw [nF]
   by_cases hr:m.F f / 4 % 256<8
   ·rw [U09 hr];exact h1 hr
   ·rw [U08 hr];exact (h2 hr).1
  ·exact ((I.fld X hA hO (I.has_pl X hf) hk1).2 hk).2.1
 obtain ⟨rR,rK,rI⟩:=X.S.rest'
 have hnowR:∀ x∈m.R,(Z0g e.lo e.hi s.φ x).1=mvI s.at x/\Z4r (s.has l2) x:=fun x hx=>I.now X (rR x hx) (hR x hx)
 have nR:n.R=m.R.map (mvI s.at):=by
  rw [hn]
  show m.R.map (fun x=>(Z0g e.lo e.hi s.φ x).1)=m.R.map (mvI s.at)
  exact U15 fun x hx=>(hnowR x hx).1
 have hfb:∀ x,Z0b m.W.length (fun i=>decide (i∈l1++l2)) x=true->Z4r (s.has l2) x->Z0b n.W.length (fun i=>decide (i∈us)) (mvI s.at x)=true:=fun x h1 h2=>by rw [nWl];exact Zdw hS h1 h2 hvs
 have hnowB:∀ x,Z0b m.W.length (fun i=>decide (i∈l1++l2)) x=true->Z0b n.W.length (fun i=>decide (i∈us)) (Z0g e.lo e.hi s.φ x).1=true:=fun x hx=>by
  cases ho:(Z0g e.lo e.hi s.φ x).2 with
  | true =>
   obtain ⟨h1,h2⟩:=I.now X hx ho
   rw [h1];exact hfb x hx h2
  | false =>
   have:(Z0g e.lo e.hi s.φ x).1=2:=by
    unfold Z0g at ho ⊢
    split
    ·rename_i hc
     rw [U09 hc] at ho
     split
     ·rfl
     ·rename_i t ht;rw [ht] at ho;cases ho
    ·rename_i hc;rw [U08 hc] at ho;cases ho
   rw [this]
   unfold Z0b
   rw [U08 (by decide),U09 (by decide)]
   decide
 have fits:n.FitsM:=by
  rw [hn]
  show Fits m.half m.old m.card s.W.length s.C.length (1 - m.used) ((s.yt:Int) - (o0:Int)) ((s.gt:Int) - (m.m0:Int))
  rw [hWl,hCl]
  exact ⟨hF.nums,hF.w,hF.c,by omega,by omega,by omega,by omega,by omega,by omega⟩
 have t2:Z0l m.F m.m0 (l2.map (fun f=>(f,f))++G) s.gt:=X.t2.append I.tG
 have pl2:∀ p∈l2.map (fun f=>(f,f))++G,Z15 l2 Y G p:=fun p hp=>by
  rcases U0c.1 hp with hp | hp
  ·obtain ⟨f,hf,rfl⟩:=U0l.1 hp;exact Or.inr ⟨hf,rfl⟩
  ·exact Or.inl (U0c.2 (Or.inr hp))
 have plY:∀ p∈Y,Z15 l2 Y G p:=fun p hp=>Or.inl (U0c.2 (Or.inl hp))
 have nY2:∀ p∈l2.map (fun f=>(f,f))++G,p ∉ Y:=fun p hp hy=>by
  have a1:=I.tY.mem p hy
  have a2:=t2.mem p hp
  omega
 have e2:(l2.map (fun f=>(f,f))++G).map Prod.snd=l2++G.map Prod.snd:=by
  rw [U1b,U2h]
  congr 1
  exact List.map_id' _
 have walkY:∀ (T:Nat->Bool),(∀ p∈Y,T p.2=true)->Z09 n.F T (n.n1 - n.n0) n.n0 n.n1=some (Y.map Prod.snd):=fun T hT=>by
  rw [nn0,nn1]
  refine Z36 I.tY (fun p hp => ?_) (U02 _)
  have:=I.hdr X (plY p hp)
  rw [nF]
  exact ⟨this.1,this.2.1,hT p hp⟩
 have walkO:∀ (T:Nat->Bool),(∀ p∈l2.map (fun f=>(f,f))++G,T p.2=true)->Z09 n.F T (n.m1 - n.m0) n.m0 n.m1=some (l2++G.map Prod.snd):=fun T hT=>by
  rw [nm0,nm1,<-e2]
  refine Z36 t2 (fun p hp => ?_) (U02 _)
  have:=I.hdr X (pl2 p hp)
  rw [nF]
  exact ⟨this.1,this.2.1,hT p hp⟩
 have g1Y:∀ p∈Y,G1 n.F n.half p.2=true:=fun p hp=>by
  have a:=I.hdr X (plY p hp)
  have a1:=I.tY.mem p hp
  unfold G1
  rw [nF,nh,U0d a.2.2.2.1,U0d (show ((p.2:Nat):Int)<2*m.half by omega)];rfl
 have g1O:∀ p∈l2.map (fun f=>(f,f))++G,G1 n.F n.half p.2=true:=fun p hp=>by
  have a:=I.hdr X (pl2 p hp)
  unfold G1
  rw [nF,nh,U0d a.2.2.2.1,U0d (a.2.2.2.2.2 (nY2 p hp)),U5e];rfl
 have g2:∀ p,Z15 l2 Y G p->G2 n.F n.W.length (fun i=>decide (i∈us)) p.2=true:=fun p hp=>by
  have a:=I.hdr X hp
  unfold G2
  rw [nF,a.2.2.1]
  by_cases hr:m.F p.1 / 4 % 256<8
  ·rw [U0d hr,U2g]
  ·rw [U0k hr,U1n,U0m]
   intro x hx
   unfold Z07 at hx
   obtain ⟨k,hk,rfl⟩:=U0l.1 hx
   have hk:=U0u.1 hk
   rw [nF,a.2.1] at hk
   obtain ⟨c1,c2,_⟩:=(I.fld X hA hO hp hk).2 hr
   rw [nF,c1]
   exact hfb _ (X.S.held (I.src_mem hp) hk hr) c2
 have g3:∀ p∈l2.map (fun f=>(f,f))++G,G3 n.F n.Cf n.half n.card p.2=true:=fun p hp=>by
  have a:=I.hdr X (pl2 p hp)
  have a1:=t2.mem p hp
  unfold G3
  rw [nF,a.2.2.1]
  by_cases hr:m.F p.1 / 4 % 256<8
  ·rw [U0d hr,U2g]
  ·rw [U0k hr,U1n,U0m]
   intro k hk
   have hk:=U0u.1 hk
   rw [a.2.1] at hk
   obtain ⟨_,_,c3⟩:=(I.fld X hA hO (pl2 p hp) hk).2 hr
   have c3:=c3 (by omega)
   unfold Z5m
   have ec:n.Cf (Z35 n.half n.card (p.2+1+k))=s.C.getD (Z35 m.half m.card (p.2+1+k)) false:=by rw [hn];rfl
   rw [nF,ec,nh]
   cases hy:Z14 m.half (s.W.getD (p.2+1+k) 0) with
   | false=>rfl
   | true=>rw [c3 hy];rfl
 have nI:n.I=Z32 (Z0g e.lo e.hi s.φ) m.I:=by rw [hn];rfl
 obtain ⟨i1,i2⟩:=Z64.1 rI
 have hidx:∀ y∈n.I,∃ x∈m.I,(Z0g e.lo e.hi s.φ x.1).2=true/\y=((Z0g e.lo e.hi s.φ x.1).1,x.2):=fun y hy=>by
  rw [nI] at hy
  unfold Z32 at hy
  obtain ⟨x,hx,hy⟩:=List.mem_filterMap.1 hy
  split at hy
  ·rename_i ho
   cases hy
   exact ⟨x,hx,ho,rfl⟩
  ·cases hy
 have hmvx:∀ x∈m.I,(Z0g e.lo e.hi s.φ x.1).2=true->0<=ptI x.1/\x.1=(ptI x.1+1)*4/\s.has l2 (ptI x.1).toNat/\(Z0g e.lo e.hi s.φ x.1).1=(((s.at (ptI x.1).toNat:Nat):Int)+1)*4:=fun x hx ho=>by
  obtain ⟨q1,q2⟩:=Zld (by omega) (i1 x hx).1
  obtain ⟨r1,r2⟩:=I.now X (Z48 (i1 x hx).1) ho
  refine ⟨q1,q2,r2 q1,?_⟩
  rw [r1];unfold mvI;rw [U09 q1]
 have ids:Z6j n.W.length (fun i=>decide (i∈us)) n.I=true:=by
  refine Z64.2 ⟨fun y hy => ?_,?_⟩
  ·obtain ⟨x,hx,ho,rfl⟩:=hidx y hy
   obtain ⟨q1,q2,q3,q4⟩:=hmvx x hx ho
   refine ⟨?_,(i1 x hx).2⟩
   show Z2y n.W.length _ (Z0g e.lo e.hi s.φ x.1).1=true
   rw [q4,nWl]
   exact Zdy (hS _ q3).1 (hS _ q3).2
  ·rw [nI]
   unfold Z32
   refine List.pairwise_filterMap.2 ?_
   refine U3j ?_ i2
   intro x y hx hy hxy a ha b hb
   split at ha
   ·rename_i o1
    split at hb
    ·rename_i o2
     cases ha
     cases hb
     obtain ⟨q1,q2,q3,q4⟩:=hmvx x hx o1
     obtain ⟨p1,p2,p3,p4⟩:=hmvx y hy o2
     refine ⟨fun h1=>hxy.1 ?_,hxy.2⟩
     have h1:(Z0g e.lo e.hi s.φ x.1).1=(Z0g e.lo e.hi s.φ y.1).1:=h1
     rw [q4,p4] at h1
     have:=iso.inj _ _ q3 p3 (by omega)
     omega
    ·cases hb
   ·cases ha
 have hU:∀ x:Int,0<=x/\x<18446744073709551616->0<=(Z0g e.lo e.hi s.φ x).1/\(Z0g e.lo e.hi s.φ x).1<18446744073709551616:=fun x hx=>Z49 hφ hx.1 hx.2
 have h64:MD64 n:=by
  refine ⟨by rw [nW];exact I.u64,?_,?_,fun y hy => ?_⟩
  ·rw [hn];intro y hy;obtain ⟨x,hx,rfl⟩:=U0l.1 hy;exact hU x (X.h64.r x hx)
  ·rw [hn];intro y hy;obtain ⟨x,hx,rfl⟩:=U0l.1 hy;exact hU x (X.h64.k x hx)
  ·obtain ⟨x,hx,ho,rfl⟩:=hidx y hy
   have:=X.h64.i x hx
   exact ⟨hU x.1 this.1,this.2⟩
 have shape:n.Shape us:=by
  refine ⟨fits,?_,?_,?_⟩
  ·unfold MD.objs
   rw [walkY _ g1Y,walkO _ g1O,hus]
  ·unfold MD.holdB
   rw [walkY _ (fun p hp=>g2 p (plY p hp)),walkO _ (fun p hp=>g2 p (pl2 p hp))];rfl
  ·unfold MD.restB
   rw [U0i,U0i,U0m,U0m]
   refine ⟨fun y hy => ?_,fun y hy => ?_,ids⟩
   ·rw [nR] at hy
    obtain ⟨x,hx,rfl⟩:=U0l.1 hy
    exact hfb x (rR x hx) (hnowR x hx).2
   ·rw [hn] at hy
    obtain ⟨x,hx,rfl⟩:=U0l.1 hy
    exact hnowB x (rK x hx)
 rw [<-hn,<-hus]
 have hyoung:∀ f,s.has l2 f->f∈l1->((f,s.at f)∈Y/\m.F f / 1024 % 16<e.tn/\s.at f<2*h)\/((f,s.at f)∈G/\e.tn<=m.F f / 1024 % 16/\2*h<=s.at f):=fun f hf h1=>by
  rcases I.has_pl X hf with hp | ⟨hp,_⟩
  ·rcases U0c.1 hp with hp | hp
   ·have a:=I.tY.mem _ hp
    have a1:o0<=s.at f/\s.at f+1+szN (m.F f)<=s.yt:=a
    exact Or.inl ⟨hp,I.ay _ hp,by omega⟩
   ·have a:=I.tG.mem _ hp
    have a1:m.m1<=s.at f/\s.at f+1+szN (m.F f)<=s.gt:=a
    exact Or.inr ⟨hp,I.ag _ hp,by omega⟩
  ·exact (X.apart h1 hp).elim
 refine ⟨shape,h64,?_,iso,nR,fun x hx=>(hnowR x hx).2,fun f hf=>⟨Or.inl hf,?_⟩,fun f hf=>⟨?_,(hS f hf).1⟩,fun f hf h1 => ?_,fun t ht => ?_,nh,by rw [hn];rfl,by rw [hn];rfl,by rw [hn];rfl,?_,?_,fun hno => ?_,by rw [hn];exact U0v _,fun i hi => ?_,⟨fun x=>(Z0g e.lo e.hi s.φ x.1).2,?_,fun x hx => ?_⟩⟩
 ·unfold MD.cardsB
  rw [walkO _ g3];rfl
 ·unfold CS.at;rw [I.old_none X hf];rfl
 ·exact I.src_mem (I.has_pl X hf)
 ·rcases hyoung f hf h1 with ⟨a1,a2,a3⟩ | ⟨a1,a2,a3⟩
  ·refine ⟨⟨fun _=>a2,fun _=>by omega⟩,fun _ => ?_⟩
   rw [nF]
   exact (I.hdr X (I.has_pl X hf)).2.2.2.2.1 a1
  ·exact ⟨⟨fun h5=>by omega,fun h5=>by omega⟩,fun h5=>by omega⟩
 ·rw [hus] at ht
  have:∃ p,Z15 l2 Y G p/\p.2=t:=by
   rcases U0c.1 ht with ht | ht
   ·obtain ⟨p,hp,rfl⟩:=U0l.1 ht;exact ⟨p,plY p hp,rfl⟩
   ·rcases U0c.1 ht with ht | ht
    ·exact ⟨(t,t),Or.inr ⟨ht,rfl⟩,rfl⟩
    ·obtain ⟨p,hp,rfl⟩:=U0l.1 ht;exact ⟨p,Or.inl (by simp [hp]),rfl⟩
  obtain ⟨p,hp,rfl⟩:=this
  obtain ⟨c1,c2⟩:=I.pl_has X hp
  exact ⟨p.1,c1,c2⟩
 ·rw [hn];show (s.yt:Int) - (o0:Int)<=m.top;omega
 ·rw [hn];show m.oldTop<=(s.gt:Int) - (m.m0:Int);omega
 ·have hY:Y = []:=by
   cases hy:Y with
   | nil=>rfl
   | cons p L =>
    have a1:=I.ay p (by rw [hy];simp)
    have a2:=hno p.1 (I.sub p (by rw [hy];simp))
    omega
  have ht:=I.tY
  rw [hY] at ht
  have ht:o0=s.yt:=ht
  rw [hn];show (s.yt:Int) - (o0:Int)=0;omega
 ·obtain ⟨x,hx⟩:∃ x,m.K[i]?=some x:=⟨_,U03 hi⟩
  have hg:m.K.getD i 0=x:=by rw [U07,hx];rfl
  have hg2:n.K.getD i 0=(Z0g e.lo e.hi s.φ x).1:=by
   rw [hn]
   show (m.K.map _).getD i 0=_
   rw [U07,U0g,hx];rfl
  have hb:=rK x (U0a hx)
  rw [hg,hg2]
  cases ho:(Z0g e.lo e.hi s.φ x).2 with
  | true =>
   obtain ⟨h1,h2⟩:=I.now X hb ho
   exact Or.inl ⟨h2,h1⟩
  | false =>
   obtain ⟨h1,h2⟩:=X.needs hb ho
   have h3:0<=ptI x/\(Z0g e.lo e.hi s.φ x).1=2:=by
    unfold Z0g at ho ⊢
    split at ho
    ·rename_i hc
     rw [U09 hc]
     refine ⟨hc.1,?_⟩
     rw [h2]
    ·cases ho
   refine Or.inr ⟨h3.1,fun hS' => ?_,h3.2⟩
   rcases hS' with h | ⟨t,h⟩
   ·exact X.apart h1 h
   ·rw [h2] at h;cases h
 ·rw [nI]
  unfold Z32
  have hgen:∀ l:List (Int × Int),(∀ x∈l,x∈m.I)->(l.filterMap fun x=>if (Z0g e.lo e.hi s.φ x.1).2=true then some ((Z0g e.lo e.hi s.φ x.1).1,x.2) else none)=(l.filter fun x=>(Z0g e.lo e.hi s.φ x.1).2).map (fun x=>(mvI s.at x.1,x.2)):=fun l=>by
   induction l with
   | nil=>intro _;rfl
   | cons x l ih =>
    intro hl
    have ih:=ih (fun y hy=>hl y (by simp [hy]))
    rw [U43,U5g]
    by_cases ho:(Z0g e.lo e.hi s.φ x.1).2=true
    ·obtain ⟨q1,q2,q3,q4⟩:=hmvx x (hl x (by simp)) ho
     have q5:mvI s.at x.1=(((s.at (ptI x.1).toNat:Nat):Int)+1)*4:=by unfold mvI;rw [U09 q1]
     rw [U09 ho,U09 ho,U1f,q5,<-q4,ih]
    ·rw [U08 ho,U08 ho];exact ih
  exact hgen m.I (fun _ h=>h)
 ·refine ⟨fun ho=>(hmvx x hx ho).2.2.1,fun hS' => ?_⟩
  cases ho:(Z0g e.lo e.hi s.φ x.1).2 with
  | true=>exact ho
  | false =>
   obtain ⟨h1,h2⟩:=X.needs (Z48 (i1 x hx).1) ho
   rcases hS' with h | ⟨t,h⟩
   ·exact (X.apart h1 h).elim
   ·rw [h2] at h;cases h
end
end Go.Proofs.YtlkcbdinlfeoiaaGreatDoor
