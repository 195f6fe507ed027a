/- The document's memory: what CheckOf answers is what survey says (plain laws). -/
import Derived.Test.YtlkcbdinlfeoiaaGreatDoorKnAD
import Derived.Lib.AppendIntMem
import Derived.Lib.SmallJoins
import Derived.Deep.DrawnRows
import Derived.Deep.CutBlock
namespace Go.Proofs.YtlkcbdinlfeoiaaGreatDoor
open Go.Proofs.Tryz Go.RowKit
set_option maxHeartbeats 8000000
set_option maxRecDepth 100000
def okO (F:Nat->Int) (h:Int) (vs:List Nat) (v:Nat):Bool:=(decide ((v:Int)<2*h) || decide (F v / 1024 % 16=0)) && (decide (F v / 4 % 256<8) || (Z07 F v).all (Z5o vs))
def Znj (F:Nat->Int) (C:Nat->Bool) (h c:Int) (v:Nat):Bool:=decide ((v:Int)<2*h) || (decide (F v / 4 % 256<8) || (List.range (szN (F v))).all fun j=>Z5m F C h c (v+1+j))
def idR (vs:List Nat) (l:List (Int × Int)) (i:Nat):Bool:=match l[i]? with
 | some x=>decide (0<=ptI x.1) && (decide (0<=objI vs (ptI x.1)) && (decide (1<=x.2) && (l.take i).all fun y => !(y.1 == x.1) && !(y.2 == x.2)))
 | none=>true
def MD.fine (m:MD) (vs:List Nat):Bool:=m.R.all (Z5o vs) && (m.K.all (Z5o vs) && (vs.all (okO m.F m.half vs) && (List.range m.I.length).all (idR vs m.I)))
def MD.chk (m:MD) (vs:List Nat):Int:=if m.fine vs then (if vs.all (Znj m.F m.Cf m.half m.card) then 0 else 5) else 3
def ChkP (m:MD) (n:Int):Prop:=(∃ l1 l2,Z09 m.F (G0 m.F) (m.n1 - m.n0) m.n0 m.n1=some l1/\Z09 m.F (G0 m.F) (m.m1 - m.m0) m.m0 m.m1=some l2/\n=m.chk (l1++l2))\/((Z09 m.F (G0 m.F) (m.n1 - m.n0) m.n0 m.n1=none\/Z09 m.F (G0 m.F) (m.m1 - m.m0) m.m0 m.m1=none)/\n=3)
theorem Z2x {α:Type}{l:List α}{f g:α->Bool} (h:∀ x∈l,f x=g x):l.all f=l.all g:=by
 induction l with
 | nil=>rfl
 | cons a l ih=>rw [U41,U41,h a (U4b ..),ih fun x hx=>h x (U3f _ hx)]
theorem Zsz {vs:List Nat}{nW:Nat} (hv:∀ v∈vs,v<nW) (hn:nW<=300000) {x:Int} : (decide (0<=ptI x) && decide (0<=objI vs (ptI x)))=Z2y nW (fun i=>decide (i∈vs)) x:=by
 unfold Z2y
 by_cases hc:x % 4=0/\4<=x
 ·rw [U0d hc,U1v]
  show _=(decide ((x / 4 - 1).toNat<nW) && decide ((x / 4 - 1).toNat∈vs))
  by_cases hm:(x / 4 - 1).toNat∈vs
  ·have hlt:=hv _ hm
   have hp:ptI x=x / 4 - 1:=by unfold ptI;rw [U09 ⟨hc.1,hc.2,by omega⟩]
   rw [hp,U0d hlt,U0d hm,U0d (by omega:0<=x / 4 - 1),U0d (Z83.2 ⟨_,hm,by omega⟩)]
  ·rw [U0k hm,U20]
   by_cases hp:0<=ptI x
   ·have hp2:ptI x=x / 4 - 1:=by
     unfold ptI at hp ⊢
     split at hp
     ·rename_i hc
      rw [U09 hc]
     ·omega
    have hno:¬ 0<=objI vs (ptI x):=fun h=>by
     obtain ⟨v,hvm,e⟩:=Z83.1 h
     rw [hp2] at e
     exact hm (by rw [<-e];simpa using hvm)
    rw [U0k hno,U20]
   ·rw [U0k hp,U1s]
 ·rw [U0k hc,U1s]
  have hp:ptI x = -1:=by unfold ptI;rw [U08 (fun h=>hc ⟨h.1,h.2.1⟩)]
  rw [hp]
  rfl
theorem Z5l {l:List Int}{i:Nat}{x:Int} (h:l[i]?=some x):decide ((l.take (i+1)).count x<=1)=(l.take i).all fun y => !(y == x):=by
 rw [U1g,h,U23]
 show decide ((l.take i).count x + [x].count x<=1)=_
 rw [List.count_singleton_self]
 by_cases hx:x∈l.take i
 ·have:=U4c.2 hx
  rw [U0k (by omega)]
  symm
  rw [U5b]
  exact ⟨x,hx,by simp⟩
 ·rw [U58.2 hx,U0d (by omega)]
  symm
  rw [U0m]
  intro y hy
  simp only [Bool.not_eq_true',U0w]
  rintro rfl
  exact hx hy
theorem Z3o {α:Type}{l:List α}{f g:α->Bool} : l.all (fun y=>f y && g y)=(l.all f && l.all g):=by
 induction l with
 | nil=>rfl
 | cons a l ih=>rw [U41,U41,U41,ih];cases f a <;> cases g a <;> cases l.all f <;> rfl
theorem id_eq {vs:List Nat}{nW:Nat} (hv:∀ v∈vs,v<nW) (hn:nW<=300000) (l:List (Int × Int)) (i:Nat):idR vs l i=idB nW (fun i=>decide (i∈vs)) l i:=by
 unfold idR idB
 cases h:l[i]? with
 | none=>rfl
 | some x =>
  show (decide (0<=ptI x.1) && (decide (0<=objI vs (ptI x.1)) && _))=(Z2y _ _ x.1 && _)
  rw [<-Bool.and_assoc,Zsz hv hn,U2y,U2y,Z5l (l:=l.map (·.1)) (i:=i) (x:=x.1) (by rw [U0g,h];rfl),Z5l (l:=l.map (·.2)) (i:=i) (x:=x.2) (by rw [U0g,h];rfl),<-U2y,<-U2y,List.all_map,List.all_map,Z3o]
  rfl
theorem ok_eq {m:MD} (h64:MD64 m) {vs:List Nat} (hv:∀ v∈vs,v+1+szN (m.F v)<=m.W.length) (hn:m.W.length<=300000):∀ v∈vs,okO m.F m.half vs v=((decide ((v:Int)<2*m.half) || decide (m.F v / 1024 % 16=0)) && G2 m.F m.W.length (fun i=>decide (i∈vs)) v):=fun v hvm=>by
 have hv1:∀ v∈vs,v<m.W.length:=fun v h=>by have:=hv v h;omega
 unfold okO G2
 have:(Z07 m.F v).all (Z5o vs)=(Z07 m.F v).all (Z0b m.W.length fun i=>decide (i∈vs)):=by
  apply Z2x
  intro x hx
  obtain ⟨j,hj,rfl⟩:=U0l.1 hx
  have hj:=U0u.1 hj
  have hb:=hv v hvm
  apply Z53 hv1 hn
  unfold MD.F
  rw [U07,U03 (by omega)]
  exact (h64.w _ (U1w _)).1
 rw [this]
theorem ChkP.out {m:MD}{n:Int} (h:ChkP m n) (hF:m.FitsM) (h64:MD64 m):(∃ vs,m.Shape vs/\m.cardsB=true/\n=0)\/(∃ vs,m.Shape vs/\m.cardsB=false/\n=5)\/((∀ vs,¬ m.Shape vs)/\n=3):=by
 have P:=MD.parts hF
 have hle:=P.le hF
 have hnW:m.W.length<=300000:=by obtain ⟨⟨a0,a1,a2,a3,a4,a5⟩,hw,_⟩:=hF;omega
 have hn1:(m.n1:Int)<=2*m.half:=by
  obtain ⟨⟨a0,a1,a2,a3,a4,a5⟩,hw,_,u0,u1,t0,t1,o0,o1⟩:=hF
  have b1:=P.n1
  obtain e | e:m.used=0\/m.used=1:=by omega
  ·rw [e,U2x] at b1;omega
  ·rw [e,U2z] at b1;omega
 have hm0:=P.m0
 rcases h with ⟨l1,l2,e1,e2,rfl⟩ | ⟨hno,rfl⟩
 ·have b1:=(Z0h.1 e1)
  have b2:=(Z0h.1 e2)
  obtain ⟨vs,hvs⟩:∃ vs,vs=l1++l2:=⟨_,rfl⟩
  have hv:∀ v∈vs,v+1+szN (m.F v)<=m.W.length:=fun v hv=>by
   rw [hvs] at hv
   rcases U0c.1 hv with h | h
   ·have:=(Z0o e1 v h).2;omega
   ·have:=(Z0o e2 v h).2;omega
  have hv1:∀ v∈vs,v<m.W.length:=fun v h=>by have:=hv v h;omega
  have hO:∀ us,m.objs=some us ↔ us=vs/\vs.all (fun f:Nat=>decide ((f:Int)<2*m.half) || decide (m.F f / 1024 % 16=0))=true:=fun us=>by
   have k1:Z09 m.F (G1 m.F m.half) (m.n1 - m.n0) m.n0 m.n1=if l1.all (fun f:Nat=>decide ((f:Int)<2*m.half) || decide (m.F f / 1024 % 16=0)) then some l1 else none:=by
    rw [Z1q,b1.1]
    show (if l1.all (G1 m.F m.half) then some l1 else none)=_
    have:l1.all (G1 m.F m.half)=(l1.all (G0 m.F) && l1.all (fun f:Nat=>decide ((f:Int)<2*m.half) || decide (m.F f / 1024 % 16=0))):=Z3o
    rw [this,b1.2,U1v]
   have k2:Z09 m.F (G1 m.F m.half) (m.m1 - m.m0) m.m0 m.m1=if l2.all (fun f:Nat=>decide ((f:Int)<2*m.half) || decide (m.F f / 1024 % 16=0)) then some l2 else none:=by
    rw [Z1q,b2.1]
    show (if l2.all (G1 m.F m.half) then some l2 else none)=_
    have:l2.all (G1 m.F m.half)=(l2.all (G0 m.F) && l2.all (fun f:Nat=>decide ((f:Int)<2*m.half) || decide (m.F f / 1024 % 16=0))):=Z3o
    rw [this,b2.2,U1v]
   unfold MD.objs
   rw [k1,k2,hvs,U2s]
   cases l1.all _ <;> cases l2.all _ <;> simp
   exact eq_comm
  have hH:m.holdB vs=vs.all (G2 m.F m.W.length fun i=>decide (i∈vs)):=by
   unfold MD.holdB
   rw [Z0q b1.1,Z0q b2.1,<-U2s,<-hvs]
  have hok:vs.all (okO m.F m.half vs)=(vs.all (fun f:Nat=>decide ((f:Int)<2*m.half) || decide (m.F f / 1024 % 16=0)) && m.holdB vs):=by
   rw [hH,<-Z3o]
   exact Z2x (ok_eq h64 hv hnW)
  have hre:(m.R.all (Z5o vs) && (m.K.all (Z5o vs) && (List.range m.I.length).all (idR vs m.I)))=m.restB vs:=by
   unfold MD.restB Z6j
   rw [Z2x (l:=m.R) fun x hx=>Z53 hv1 hnW (h64.r x hx).1,Z2x (l:=m.K) fun x hx=>Z53 hv1 hnW (h64.k x hx).1,Z2x (l:=List.range m.I.length) fun i _=>id_eq hv1 hnW m.I i]
  have hca:m.cardsB=vs.all (Znj m.F m.Cf m.half m.card):=by
   unfold MD.cardsB
   rw [Z0q b2.1,hvs,U2s]
   have c1:l1.all (Znj m.F m.Cf m.half m.card)=true:=by
    rw [U0m]
    intro v hv
    have:=(Z0o e1 v hv).2
    unfold Znj
    rw [U0d (by omega:(v:Int)<2*m.half),U2g]
   rw [c1,U1v]
   apply Z2x
   intro v hv
   have:=(Z0o e2 v hv).1
   unfold Znj G3
   rw [U0k (by omega:¬ (v:Int)<2*m.half),U1n]
  have hfi:m.fine vs=(vs.all (fun f:Nat=>decide ((f:Int)<2*m.half) || decide (m.F f / 1024 % 16=0)) && (m.holdB vs && m.restB vs)):=by
   unfold MD.fine
   rw [<-hre,hok]
   cases m.R.all _ <;> cases m.K.all _ <;> cases vs.all (fun f:Nat=>decide ((f:Int)<2*m.half) || decide (m.F f / 1024 % 16=0)) <;> cases m.holdB vs <;> rfl
  rw [<-hvs]
  unfold MD.chk
  rw [<-hca]
  cases hf:m.fine vs with
  | true =>
   rw [hfi] at hf
   simp only [U0i] at hf
   have S:m.Shape vs:=⟨hF,(hO vs).2 ⟨rfl,hf.1⟩,hf.2.1,hf.2.2⟩
   cases hc:m.cardsB with
   | true=>exact .inl ⟨vs,S,rfl,rfl⟩
   | false=>exact .inr (.inl ⟨vs,S,rfl,rfl⟩)
  | false =>
   refine .inr (.inr ⟨fun us S => ?_,rfl⟩)
   obtain ⟨rfl,ha⟩:=(hO us).1 S.2.1
   rw [hfi,ha,S.2.2.1,S.2.2.2] at hf
   cases hf
 ·refine .inr (.inr ⟨fun vs S => ?_,rfl⟩)
  have ho:=S.2.1
  unfold MD.objs at ho
  split at ho
  ·rename_i a1 a2 k1 k2
   have c1:=Z0h.1 k1
   have c2:=Z0h.1 k2
   have d1:a1.all (G0 m.F)=true:=by
    have:a1.all (G1 m.F m.half)=(a1.all (G0 m.F) && _):=Z3o
    rw [this,U0i] at c1
    exact c1.2.1
   have d2:a2.all (G0 m.F)=true:=by
    have:a2.all (G1 m.F m.half)=(a2.all (G0 m.F) && _):=Z3o
    rw [this,U0i] at c2
    exact c2.2.1
   rcases hno with h | h
   ·rw [Z0h.2 ⟨c1.1,d1⟩] at h;cases h
   ·rw [Z0h.2 ⟨c2.1,d2⟩] at h;cases h
  ·cases ho
theorem Z79 {F:Nat->Int}{G:Nat->Bool} : ∀ {n f t:Nat}{l:List Nat},Z09 F G n f t=some l -> ∀ v∈l,Z0t (F v)=true
 | 0,f,t,l,h=>by unfold Z09 at h;cases h;intro v hv;cases hv
 | n+1,f,t,l,h=>by
  unfold Z09 at h
  split at h
  ·split at h
   ·rename_i h1 h2
    obtain ⟨l',h',rfl⟩:=U1i.1 h
    have h3:Z0t (F f)=true:=by
     simp only [U0i,U1x] at h2
     exact h2.1
    intro v hv
    rcases U19.1 hv with rfl | hv
    ·exact h3
    ·exact Z79 h' v hv
   ·cases h
  ·cases h;intro v hv;cases hv
theorem Zc4 {m:MD} (hF:m.FitsM) {i:Nat} (h1:2*m.half<=(i:Int)) (h2:i<m.W.length):∃ d j:Nat,(i:Int) - 2*m.half=(d:Int)/\(d:Int) / m.card=(j:Int)/\j<m.C.length/\Z35 m.half m.card i=j:=by
 have hw:=hF.w
 have hc:=hF.c
 have hnum:=hF.nums
 unfold Z0c at hnum
 have g0:0<=((i:Int) - 2*m.half) / m.card:=U45 (by omega) (by omega)
 refine ⟨((i:Int) - 2*m.half).toNat,(((i:Int) - 2*m.half) / m.card).toNat,by omega,?_,?_,rfl⟩
 ·rw [show ((((i:Int) - 2*m.half).toNat:Nat):Int)=(i:Int) - 2*m.half by omega]
  omega
 ·have:((i:Int) - 2*m.half) / m.card<(m.old+m.card - 1) / m.card:=by
   have e:(m.old+m.card - 1)=(m.old - 1)+1*m.card:=by omega
   rw [e,Int.add_mul_ediv_right _ _ (by omega)]
   have:=Int.ediv_le_ediv (c:=m.card) (by omega) (show (i:Int) - 2*m.half<=m.old - 1 by omega)
   omega
  omega
theorem MD.Shape.fine {m:MD}{vs:List Nat} (S:m.Shape vs):∀ v∈vs,Z0t (m.F v)=true/\v+1+szN (m.F v)<=m.W.length:=fun v hv=>by
 have hle:=(MD.parts S.1).le S.1
 have ho:=S.2.1
 unfold MD.objs at ho
 split at ho
 ·rename_i l1 l2 e1 e2
  cases ho
  rcases U0c.1 hv with h | h
  ·exact ⟨Z79 e1 v h,by have:=(Z0o e1 v h).2;omega⟩
  ·exact ⟨Z79 e2 v h,by have:=(Z0o e2 v h).2;omega⟩
 ·cases ho
theorem MD.Shape.one {m:MD}{vs us:List Nat} (S:m.Shape vs) (S':m.Shape us):us=vs:=by
 have a:=S.2.1
 rw [S'.2.1] at a
 cases a
 rfl
theorem MD.Shape.carded {m:MD}{vs:List Nat} (S:m.Shape vs) (hC:m.cardsB=true) {f k:Nat} (hf:f∈vs) (hk:k<szN (m.F f)) (hkd:¬ m.F f / 4 % 256<8) (ho:2*m.half<=((f+1+k:Nat):Int)) (hy:Z14 m.half (m.F (f+1+k))=true):m.Cf (Z35 m.half m.card (f+1+k))=true:=by
 have P:=MD.parts S.1
 have hn1:(m.n1:Int)<=2*m.half:=by
  obtain ⟨⟨a0,a1,a2,a3,a4,a5⟩,hw,_,u0,u1,t0,t1,o0,o1⟩:=S.1
  have b1:=P.n1
  obtain e | e:m.used=0\/m.used=1:=by omega
  ·rw [e,U2x] at b1;omega
  ·rw [e,U2z] at b1;omega
 have hobj:=S.2.1
 unfold MD.objs at hobj
 split at hobj
 ·rename_i l1 l2 e1 e2
  cases hobj
  rcases U0c.1 hf with h | h
  ·have:=(Z0o e1 f h).2
   omega
  ·have b2:=Z0h.1 e2
   unfold MD.cardsB at hC
   rw [Z0q b2.1] at hC
   have g:=U0m.1 hC f h
   unfold G3 at g
   rw [U0k hkd,U1n] at g
   have c:=U0m.1 g k (U0u.2 hk)
   unfold Z5m at c
   rw [hy,U1v,Bool.not_not] at c
   exact c
 ·cases hobj
theorem MD.Shape.bare {m:MD}{vs:List Nat} (S:m.Shape vs):∃ l1 l2,vs=l1++l2/\Z09 m.F (G0 m.F) (m.n1 - m.n0) m.n0 m.n1=some l1/\Z09 m.F (G0 m.F) (m.m1 - m.m0) m.m0 m.m1=some l2:=by
 have ho:=S.2.1
 unfold MD.objs at ho
 split at ho
 ·rename_i a1 a2 k1 k2
  cases ho
  have c1:=Z0h.1 k1
  have c2:=Z0h.1 k2
  have d1:a1.all (G0 m.F)=true:=by
   have:a1.all (G1 m.F m.half)=(a1.all (G0 m.F) && _):=Z3o
   rw [this,U0i] at c1
   exact c1.2.1
  have d2:a2.all (G0 m.F)=true:=by
   have:a2.all (G1 m.F m.half)=(a2.all (G0 m.F) && _):=Z3o
   rw [this,U0i] at c2
   exact c2.2.1
  exact ⟨a1,a2,rfl,Z0h.2 ⟨c1.1,d1⟩,Z0h.2 ⟨c2.1,d2⟩⟩
 ·cases ho
theorem MD.Shape.few {m:MD}{vs:List Nat} (S:m.Shape vs):vs.length<=300000:=by
 obtain ⟨l1,l2,e,e1,e2⟩:=S.bare
 have a1:=Z4w e1
 have a2:=Z4w e2
 obtain ⟨b0,b1,b2,b3⟩:=MD.parts S.1
 obtain ⟨⟨a0,a1',a2',a3,a4,a5⟩,hw,_,u0,u1,t0,t1,o0,o1⟩:=S.1
 rw [e,U0f]
 omega
theorem MD.Shape.held {m:MD}{vs:List Nat} (S:m.Shape vs) {f k:Nat} (hf:f∈vs) (hk:k<szN (m.F f)) (hkd:¬ m.F f / 4 % 256<8):Z0b m.W.length (fun i=>decide (i∈vs)) (m.F (f+1+k))=true:=by
 obtain ⟨l1,l2,e,e1,e2⟩:=S.bare
 have b1:=Z0h.1 e1
 have b2:=Z0h.1 e2
 have h:=S.2.2.1
 unfold MD.holdB at h
 rw [Z0q b1.1,Z0q b2.1,<-U2s,<-e] at h
 have g:=U0m.1 h f hf
 unfold G2 at g
 rw [U0k hkd,U1n] at g
 exact U0m.1 g _ (U0l.2 ⟨k,U0u.2 hk,rfl⟩)
theorem Z4d {m:MD}{vs:List Nat} (S:m.Shape vs):0<m.W.length/\m.W.length<=300000/\0<m.C.length:=by
 have hnum:=S.1.nums
 have hw:=S.1.w
 have hc:=S.1.c
 unfold Z0c at hnum
 have:1<=(m.old+m.card - 1) / m.card:=(U4l (by omega)).2 (by omega)
 omega
theorem Z5c {m:MD} (h64:MD64 m):∀ i,i<m.W.length->0<=m.F i/\m.F i<18446744073709551616:=fun i hi=>by
 unfold MD.F
 rw [U07,U03 hi]
 exact h64.w _ (U1w hi)
theorem MD.Shape.reachy {m:MD}{vs:List Nat} (S:m.Shape vs) (h64:MD64 m):Reachy m.F vs where
 held f hf hkd x hx:=by
  obtain ⟨j,hj⟩:=U21.1 hx
  have hl:=(U0e.1 hj).1
  rw [Z13] at hl
  rw [Z44 hl] at hj
  cases hj
  have hfi:=(S.fine f hf).2
  refine Zaw ?_
  rw [Z53 (nW:=m.W.length) (fun v hv=>by have:=(S.fine v hv).2;omega) (Z4d S).2.1 (Z5c h64 _ (by omega)).1]
  exact S.held hf hl hkd
theorem MD.Shape.roots {m:MD}{vs:List Nat} (S:m.Shape vs) (h64:MD64 m):∀ x∈m.R,Zqj vs x:=fun x hx=>by
 have h:=S.2.2.2
 unfold MD.restB at h
 rw [U0i] at h
 refine Zaw ?_
 rw [Z53 (nW:=m.W.length) (fun v hv=>by have:=(S.fine v hv).2;omega) (Z4d S).2.1 (h64.r x hx).1]
 exact U0m.1 h.1 x hx
def MD.reach (m:MD) (vs:List Nat):List Nat:=Z10 m.F (vs.length+1) (Z0n [] m.R) 0
theorem Z5f (vs:List Nat):Outs vs []:=⟨fun f h=>by simp at h,List.nodup_nil⟩
def MD.live (m:MD) (vs:List Nat):Nat:=((m.reach vs).map (fun f=>1+szN (m.F f))).sum
theorem Z1h {m:MD}{vs:List Nat} (S:m.Shape vs) (h64:MD64 m):Outs vs (m.reach vs):=by
 have go:∀ (n:Nat) (out:List Nat) (k:Nat),Outs vs out->Outs vs (Z10 m.F n out k):=by
  intro n
  induction n with
  | zero=>intro out k h;exact h
  | succ n ih =>
   intro out k h
   unfold Z10
   cases hk:out[k]? with
   | none=>exact h
   | some f=>exact ih _ _ (h.step (S.reachy h64) (h.sub f (U0a hk)))
 exact go _ _ _ ((Z5f vs).comes (S.roots h64))
theorem Zbc:∀ (k u:Nat),u<10 ^ (k+1)->Lib.nDigits u<=k+1
 | 0,u,h=>by rw [Lib.nDigits_small (by simpa using h)];exact U02 _
 | k+1,u,h=>by
  by_cases h':u<10
  ·rw [Lib.nDigits_small h']
   omega
  ·rw [Lib.nDigits_big h']
   have:=Zbc k (u / 10) (by rw [U5d] at h;omega)
   omega
def Z1b (n:Int):ByteArray:=⟨(Lib.itoa n).toArray⟩
theorem Z68 (u:Nat) (h:u<=9223372036854775808):(Lib.decDigits u).length<=20:=by
 rw [Lib.decDigits_length]
 exact Zbc 19 u (by omega)
def Z8a (n:Int):ByteArray:=if n=0 then ⟨#[110,111,110,101]⟩ else if n=1 then ⟨#[102,97,108,115,101]⟩ else ⟨#[116,114,117,101]⟩
def Z12 (out:List Nat) (x:Int):ByteArray:=if x % 4=1 then Z1b (wrap64 x / 4) else if x % 4=2 then Z8a (x / 4) else if x=0 then ⟨#[110,111,119,104,101,114,101]⟩ else if objI out (ptI x)<0 then ⟨#[64]⟩ else ⟨#[64]⟩++Z1b (objI out (ptI x))
theorem Z0m (n:Int) (h0 : -9223372036854775808<=n) (h1:n<=9223372036854775807):(Z1b n).size<=21:=by
 unfold Z1b
 show (Lib.itoa n).toArray.size<=21
 rw [U2i]
 by_cases hn:n<0
 ·obtain ⟨u,rfl⟩:∃ u:Nat,n = -(u:Int):=⟨n.natAbs,by omega⟩
  rw [Lib.itoa_neg u (by omega)]
  have:=Z68 u (by omega)
  simp
  omega
 ·obtain ⟨u,rfl⟩:∃ u:Nat,n=(u:Int):=⟨n.toNat,by omega⟩
  rw [Lib.itoa_nonneg u]
  have:=Z68 u (by omega)
  omega
theorem Zb9 {vs:List Nat}{x:Int} (hn:vs.length<=300000) : -1<=objI vs x/\objI vs x<=300000:=by
 rcases Int.lt_or_le (objI vs x) 0 with h | h
 ·rw [Zh5 (by omega)];omega
 ·obtain ⟨k,_,e,_,_,hk⟩:=Z6i h
  omega
def Zos (d:Nat):UInt8:=([48,49,50,51,52,53,54,55,56,57,97,98,99,100,101,102]:List UInt8).getD d 0
def Z5a (x:Nat):Nat->List UInt8
 | 0 => []
 | k+1=>Zos (x / 16 ^ k % 16)::Z5a x k
theorem Z5d (x:Nat):∀ k,(Z5a x k).length=k
 | 0=>rfl
 | k+1=>by rw [Z5a,U1e,Z5d x k]
theorem Zpp (x k:Nat):x / 16 ^ k / 16=x / 16 ^ (k+1):=by rw [Nat.div_div_eq_div_mul,U5d]
def Z3q (n:Nat):Code->Option Code
 | .block i c=>bif Nat.beq i n then some (.block i c) else Z3q n c
 | .loop c=>Z3q n c
 | .seq a b=>match Z3q n a with
  | some c=>some c
  | none=>Z3q n b
 | .scope c=>Z3q n c
 | .cond _ a b=>match Z3q n a with
  | some c=>some c
  | none=>Z3q n b
 | _=>none
def Z3w (s:ByteArray) (out:List Nat) (acc:ByteArray) (x:Int):ByteArray:=((acc++s)++Z12 out x)++⟨#[10]⟩
def Z0d (s:ByteArray) (out:List Nat) (acc:ByteArray) (l:List Int):ByteArray:=l.foldl (Z3w s out) acc
theorem Z8i {s:ByteArray}{out:List Nat}{acc:ByteArray}{l:List Int}{k:Nat}{x:Int} (h:l[k]?=some x):Z0d s out acc (l.take (k+1))=Z3w s out (Z0d s out acc (l.take k)) x:=by
 unfold Z0d
 rw [U1g,h,U4g]
 rfl
theorem Z39 (out:List Nat) (hn:out.length<=300000) (x:Int):(Z12 out x).size<=22:=by
 have hw:wrap64 x=(x+9223372036854775808) % 18446744073709551616 - 9223372036854775808:=Z58 x
 have hb:=Zb9 (vs:=out) (x:=ptI x) hn
 unfold Z12
 split
 ·have:=Z0m (wrap64 x / 4) (by omega) (by omega)
  omega
 ·split
  ·unfold Z8a
   split
   ·decide
   ·split <;> decide
  ·split
   ·decide
   ·split
    ·decide
    ·have:=Z0m (objI out (ptI x)) (by omega) (by omega)
     rw [U0o]
     show 1+(Z1b (objI out (ptI x))).size<=22
     omega
def sRoot:ByteArray:=⟨#[114,111,111,116,32]⟩
def sWeak:ByteArray:=⟨#[119,101,97,107,32]⟩
def Z1z (kd:Int) (out:List Nat) (acc:ByteArray) (x:Int):ByteArray:=if kd<8 then (acc++⟨#[32,48,120]⟩)++⟨(Z5a x.toNat 16).toArray⟩ else (acc++⟨#[32]⟩)++Z12 out x
def Z1f (kd:Int) (out:List Nat) (acc:ByteArray) (l:List Int):ByteArray:=l.foldl (Z1z kd out) acc
def Z4t (F:Nat->Int) (out:List Nat) (i f:Nat) (acc:ByteArray):ByteArray:=Z1f (F f / 4 % 256) out (((acc++Z1b (i:Int))++⟨#[32]⟩)++Z1b (F f / 4 % 256)) (Z07 F f)++⟨#[10]⟩
def Z0j (F:Nat->Int) (out:List Nat) (acc:ByteArray):Nat->ByteArray
 | 0=>acc
 | k+1=>match out[k]? with
  | some f=>Z4t F out k f (Z0j F out acc k)
  | none=>Z0j F out acc k
theorem Z90 {F:Nat->Int}{out:List Nat}{acc:ByteArray}{k f:Nat} (h:out[k]?=some f):Z0j F out acc (k+1)=Z4t F out k f (Z0j F out acc k):=by
 conv=>lhs;unfold Z0j
 rw [h]
theorem Zfe (kd:Int) (out:List Nat) (hn:out.length<=300000) (acc:ByteArray) (x:Int):(Z1z kd out acc x).size<=acc.size+28:=by
 unfold Z1z
 have:=Z39 out hn x
 split
 ·rw [U0o,U0o]
  have:(⟨(Z5a x.toNat 16).toArray⟩:ByteArray).size=16:=by show (Z5a x.toNat 16).toArray.size=16;rw [U2i,Z5d]
  show acc.size+3+_<=_
  omega
 ·rw [U0o,U0o]
  show acc.size+1+_<=_
  omega
theorem Z7f (kd:Int) (out:List Nat) (hn:out.length<=300000):∀ (l:List Int) (acc:ByteArray),(Z1f kd out acc l).size<=acc.size+28*l.length
 | [],acc=>by simp [Z1f]
 | x::l,acc=>by
  have h1:=Zfe kd out hn acc x
  have h2:=Z7f kd out hn l (Z1z kd out acc x)
  show (Z1f kd out (Z1z kd out acc x) l).size<=_
  rw [U1e]
  omega
def Z9i (I:List (Int × Int)):List (Int × Int):=I.mergeSort (fun x y=>decide (x.2<=y.2))
structure IdsOK (I:List (Int × Int)):Prop where
 pos:∀ x∈I,1<=x.2
 nodup:I.Pairwise (fun x y=>x.2≠y.2)
theorem Z4z (I:List (Int × Int)):(Z9i I).Perm I:=List.mergeSort_perm _ _
theorem Zn4 (I:List (Int × Int)):(Z9i I).Pairwise (fun x y=>x.2<=y.2):=by
 have h:=List.pairwise_mergeSort (le:=fun x y:Int × Int=>decide (x.2<=y.2)) (fun a b c h1 h2=>by simp at *;omega) (fun a b=>by simp;omega) I
 exact h.imp (fun h=>U0j h)
theorem Zr7 {I:List (Int × Int)} (h:IdsOK I):(Z9i I).Pairwise (fun x y=>x.2<y.2):=by
 have h1:=Zn4 I
 have h2:(Z9i I).Pairwise (fun x y=>x.2≠y.2):=h.nodup.perm (Z4z I).symm (fun h=>h.symm)
 exact (h1.and h2).imp (fun ⟨a,b⟩=>by omega)
theorem Zpw (I:List (Int × Int)):(Z9i I).length=I.length:=(Z4z I).length_eq
theorem Zsn {L:List (Int × Int)} (h:L.Pairwise (fun x y=>x.2<y.2)) {i j:Nat}{x y:Int × Int} (hi:L[i]?=some x) (hj:L[j]?=some y) (hij:i<j):x.2<y.2:=by
 obtain ⟨h1,rfl⟩:=U0e.1 hi
 obtain ⟨h2,rfl⟩:=U0e.1 hj
 exact U1y.1 h i j h1 h2 hij
theorem Zj2 {I M:List (Int × Int)} (h:IdsOK I) (p:Int × Int->Bool) (hM:M.Perm (I.filter p)) (hs:M.Pairwise (fun x y => ¬ y.2<x.2)):M=(Z9i I).filter p:=by
 have hp2:M.Perm ((Z9i I).filter p):=hM.trans ((Z4z I).filter p).symm
 refine List.Perm.eq_of_pairwise (le:=fun x y:Int × Int=>x.2<=y.2) (fun a b ha hb h1 h2 => ?_) (hs.imp (fun h=>by omega)) ((Zn4 I).filter p) hp2
 have ha':a∈Z9i I:=(U1l.1 (hp2.mem_iff.1 ha)).1
 have hb':b∈Z9i I:=(U1l.1 hb).1
 obtain ⟨i,hi⟩:=U1z ha'
 obtain ⟨j,hj⟩:=U1z hb'
 have hL:=Zr7 h
 by_cases e:i=j
 ·subst e
  rw [hi] at hj
  cases hj
  rfl
 ·rcases Nat.lt_or_gt_of_ne e with c | c
  ·have:=Zsn hL hi hj c
   omega
  ·have:=Zsn hL hj hi c
   omega
theorem Z9g {nH:Nat}{hb:Nat->Bool}{l:List (Int × Int)} (h:Z6j nH hb l=true) {i:Nat}{x:Int × Int} (hi:l[i]?=some x):Z2y nH hb x.1=true/\1<=x.2/\((l.take (i+1)).map (·.2)).count x.2<=1:=by
 have hl:i<l.length:=(U0e.1 hi).1
 have h1:=U0m.1 h i (U0u.2 hl)
 unfold idB at h1
 rw [hi] at h1
 simp only [U0i,U1x] at h1
 exact ⟨h1.1,h1.2.1,h1.2.2.2⟩
theorem Ztg {nH:Nat}{hb:Nat->Bool}{l:List (Int × Int)} (h:Z6j nH hb l=true):IdsOK l where
 pos:=fun x hx=>by
  obtain ⟨i,hi⟩:=U1z hx
  exact (Z9g h hi).2.1
 nodup:=by
  rw [U1y]
  intro i j hi hj hij he
  have h3:=(Z9g h (U03 hj)).2.2
  rw [U1g,U03 hj,U1b,U23] at h3
  have h4:l[j].2∈(l.take j).map (·.2):=by
   rw [<-he]
   exact U0l.2 ⟨l[i],U0a (i:=i) (by rw [U1j,U09 hij,U03 hi]),rfl⟩
  have h5:=U4c.2 h4
  have h6:(List.map (fun x:Int × Int=>x.2) (some l[j]).toList).count l[j].2=1:=by simp
  omega
theorem Z8r {nH:Nat}{hb:Nat->Bool}{l:List (Int × Int)} (h:Z6j nH hb l=true):∀ x∈l,Z2y nH hb x.1=true:=fun x hx=>by
 obtain ⟨i,hi⟩:=U1z hx
 exact (Z9g h hi).1
def gId (out:List Nat) (acc:ByteArray) (x:Int × Int):ByteArray:=if objI out (ptI x.1)<0 then acc else ((((acc++⟨#[105,100,32]⟩)++Z1b x.2)++⟨#[32,64]⟩)++Z1b (objI out (ptI x.1)))++⟨#[10]⟩
def Z7d (out:List Nat) (acc:ByteArray) (l:List (Int × Int)):ByteArray:=l.foldl (gId out) acc
theorem Zmc {out:List Nat}{acc:ByteArray}{l:List (Int × Int)}{k:Nat}{x:Int × Int} (h:l[k]?=some x):Z7d out acc (l.take (k+1))=gId out (Z7d out acc (l.take k)) x:=by
 unfold Z7d
 rw [U1g,h,U4g]
 rfl
theorem ord64 {I:List (Int × Int)} (h:Zda I):Zda (Z9i I):=fun x hx=>h x ((Z4z I).mem_iff.1 hx)
section
def mvI (φ:Nat->Nat) (x:Int):Int:=if 0<=ptI x then ((φ (ptI x).toNat:Int)+1)*4 else x
def Z4r (S:Nat->Prop) (x:Int):Prop:=0<=ptI x->S (ptI x).toNat
structure Iso (F G:Nat->Int) (S:Nat->Prop) (φ:Nat->Nat):Prop where
 inj:∀ f g,S f->S g->φ f=φ g->f=g
 few:∀ f,S f->φ f<1099511627776
 kind:∀ f,S f->G (φ f) / 4 % 256=F f / 4 % 256
 size:∀ f,S f->szN (G (φ f))=szN (F f)
 fld:∀ f,S f -> ∀ k,k<szN (F f)->G (φ f+1+k)=if F f / 4 % 256<8 then F (f+1+k) else mvI φ (F (f+1+k))
 cl:∀ f,S f -> ¬ F f / 4 % 256<8 -> ∀ k,k<szN (F f)->Z4r S (F (f+1+k))
theorem Z82 {f:Nat} (h:f<1099511627776):ptI (((f:Int)+1)*4)=(f:Int):=by unfold ptI;rw [U09 (by omega)];omega
theorem Zt4 {S:Nat->Prop}{φ:Nat->Nat} (hf:∀ f,S f->φ f<1099511627776) {x:Int} (hx:Z4r S x) (h:0<=ptI x):ptI (mvI φ x)=(φ (ptI x).toNat:Int):=by
 unfold mvI
 rw [U09 h,Z82 (hf _ (hx h))]
theorem Zbw {φ:Nat->Nat}{x:Int} (h:¬ 0<=ptI x):mvI φ x=x:=by unfold mvI;rw [U08 h]
theorem Zdx {vs:List Nat}{x:Int} (h:x<0):objI vs x = -1:=by
 unfold objI
 rw [U46.2]
 intro v _
 rw [U0w]
 omega
theorem Z80 {S:Nat->Prop}{φ:Nat->Nat} (hi:∀ f g,S f->S g->φ f=φ g->f=g) {f:Nat} (hf:S f):∀ {out:List Nat},(∀ g∈out,S g)->objI (out.map φ) (φ f:Int)=objI out (f:Int):=fun {out} h=>by
 unfold objI
 rw [List.findIdx?_map]
 have e:out.findIdx? ((fun v:Nat=>((v:Int) == (φ f:Int))) ∘ φ)=out.findIdx? (fun v:Nat=>((v:Int) == (f:Int))):=by
  induction out with
  | nil=>rfl
  | cons a l ih =>
   have ih:=ih (fun g hg=>h g (by simp [hg]))
   have ha:(((fun v:Nat=>((v:Int) == (φ f:Int))) ∘ φ) a)=((a:Int) == (f:Int)):=by
    show ((φ a:Int) == (φ f:Int))=((a:Int) == (f:Int))
    rw [Bool.eq_iff_iff,U3d,U3d]
    constructor
    ·intro e
     have:=hi a f (h a (by simp)) hf (by omega)
     omega
    ·intro e
     obtain rfl:a=f:=by omega
     rfl
   rw [List.findIdx?_cons,List.findIdx?_cons,ha,ih]
 rw [e]
theorem Zgl {S:Nat->Prop}{φ:Nat->Nat} (hi:∀ f g,S f->S g->φ f=φ g->f=g) (hf:∀ f,S f->φ f<1099511627776) {out:List Nat} (ho:∀ g∈out,S g) {x:Int} (hx:Z4r S x):Z12 (out.map φ) (mvI φ x)=Z12 out x:=by
 by_cases h:0<=ptI x
 ·have hp:=Zt4 hf hx h
  have hb:=hx h
  have hx4:x % 4=0/\4<=x:=by
   unfold ptI at h
   split at h
   ·rename_i c;exact ⟨c.1,c.2.1⟩
   ·omega
  obtain ⟨g,hg⟩:∃ g,g=(ptI x).toNat:=⟨_,rfl⟩
  have hgi:ptI x=(g:Int):=by omega
  have he:mvI φ x=((φ g:Int)+1)*4:=by unfold mvI;rw [U09 h,hg]
  rw [<-hg] at hp hb
  have ho':objI (out.map φ) (φ g:Int)=objI out (g:Int):=Z80 hi hb ho
  unfold Z12
  have e1:¬ ((φ g:Int)+1)*4 % 4=1:=by omega
  have e2:¬ ((φ g:Int)+1)*4 % 4=2:=by omega
  have e3:¬ ((φ g:Int)+1)*4=0:=by omega
  have d1:¬ x % 4=1:=by omega
  have d2:¬ x % 4=2:=by omega
  have d3:¬ x=0:=by omega
  rw [hp,hgi,ho',he,U08 e1,U08 e2,U08 e3,U08 d1,U08 d2,U08 d3]
 ·rw [Zbw h]
  unfold Z12
  rw [Zdx (vs:=out.map φ) (by omega),Zdx (vs:=out) (by omega)]
theorem Zpd {S:Nat->Prop}{φ:Nat->Nat} (hi:∀ f g,S f->S g->φ f=φ g->f=g) (hf:∀ f,S f->φ f<1099511627776) {out:List Nat} (ho:∀ g∈out,S g) {x:Int} (hx:Z4r S x):Z29 (out.map φ) (mvI φ x)=(Z29 out x).map φ /\ ∀ g∈Z29 out x,S g:=by
 by_cases h:0<=ptI x
 ·have hp:=Zt4 hf hx h
  have hb:=hx h
  obtain ⟨g,hg⟩:∃ g,g=(ptI x).toNat:=⟨_,rfl⟩
  have hgi:ptI x=(g:Int):=by omega
  rw [<-hg] at hp hb
  have ho':objI (out.map φ) (φ g:Int)=objI out (g:Int):=Z80 hi hb ho
  unfold Z29
  rw [hp,hgi,ho']
  by_cases hc:objI out (g:Int)<0
  ·rw [U09 ⟨by omega,hc⟩,U09 ⟨by omega,hc⟩,U1b]
   refine ⟨by simp,fun k hk => ?_⟩
   rcases U0c.1 hk with hk | hk
   ·exact ho k hk
   ·simp at hk;rw [hk];exact hb
  ·rw [U08 (fun h=>hc h.2),U08 (fun h=>hc h.2)]
   exact ⟨rfl,ho⟩
 ·rw [Zbw h]
  unfold Z29
  rw [U08 (fun c=>h c.1),U08 (fun c=>h c.1)]
  exact ⟨rfl,ho⟩
theorem Z8u {S:Nat->Prop}{φ:Nat->Nat} (hi:∀ f g,S f->S g->φ f=φ g->f=g) (hf:∀ f,S f->φ f<1099511627776):∀ {l:List Int}{out:List Nat},(∀ g∈out,S g)->(∀ x∈l,Z4r S x)->Z0n (out.map φ) (l.map (mvI φ))=(Z0n out l).map φ /\ ∀ g∈Z0n out l,S g
 | [],out,ho,_=>⟨rfl,ho⟩
 | x::l,out,ho,hl=>by
  obtain ⟨e,h⟩:=Zpd hi hf ho (hl x (by simp))
  have ih:=Z8u hi hf (l:=l) h (fun y hy=>hl y (by simp [hy]))
  show Z0n (Z29 (out.map φ) (mvI φ x)) (l.map (mvI φ))=(Z0n (Z29 out x) l).map φ/\_
  rw [e]
  exact ih
variable {F G:Nat->Int}{S:Nat->Prop}{φ:Nat->Nat}
theorem Iso.fields (h:Iso F G S φ) {f:Nat} (hf:S f):Z07 G (φ f)=if F f / 4 % 256<8 then Z07 F f else (Z07 F f).map (mvI φ):=by
 have h1:=h.fld f hf
 unfold Z07
 rw [h.size f hf]
 by_cases hk:F f / 4 % 256<8
 ·rw [U09 hk]
  refine U15 fun j hj => ?_
  rw [h1 j (U0u.1 hj),U09 hk]
 ·rw [U08 hk,U2h]
  refine U15 fun j hj => ?_
  rw [h1 j (U0u.1 hj),U08 hk]
  rfl
theorem Iso.ptIn (h:Iso F G S φ) {f:Nat} (hf:S f) (hk:¬ F f / 4 % 256<8):∀ x∈Z07 F f,Z4r S x:=fun x hx=>by
 unfold Z07 at hx
 obtain ⟨j,hj,rfl⟩:=U0l.1 hx
 exact h.cl f hf hk j (U0u.1 hj)
theorem Iso.step (h:Iso F G S φ) {out:List Nat} (ho:∀ g∈out,S g) {f:Nat} (hf:S f):Z33 G (out.map φ) (φ f)=(Z33 F out f).map φ /\ ∀ g∈Z33 F out f,S g:=by
 unfold Z33
 rw [h.kind f hf,h.fields hf]
 by_cases hk:F f / 4 % 256<8
 ·rw [U09 hk,U09 hk];exact ⟨rfl,ho⟩
 ·rw [U08 hk,U08 hk,U08 hk]
  exact Z8u h.inj h.few ho (h.ptIn hf hk)
theorem Iso.reach (h:Iso F G S φ):∀ (n:Nat) (out:List Nat) (k:Nat),(∀ g∈out,S g)->Z10 G n (out.map φ) k=(Z10 F n out k).map φ /\ ∀ g∈Z10 F n out k,S g
 | 0,out,_,ho=>⟨rfl,ho⟩
 | n+1,out,k,ho=>by
  unfold Z10
  rw [U0g]
  cases e:out[k]? with
  | none=>exact ⟨rfl,ho⟩
  | some f =>
   have hf:=ho f (U0a e)
   obtain ⟨e1,h1⟩:=h.step ho hf
   show Z10 G n (Z33 G (out.map φ) (φ f)) (k+1)=_/\_
   rw [e1]
   exact h.reach n _ (k+1) h1
theorem Z4j {F:Nat->Int}{vs:List Nat} (hR:Reachy F vs) (j:Nat):∀ (n:Nat) (out:List Nat) (k:Nat),Outs vs out->vs.length+1<=n+k->Z10 F (n+j) out k=Z10 F n out k
 | 0,out,k,ho,hk=>by
  have:=ho.len
  rw [Z3z (by omega),Z3z (by omega)]
 | n+1,out,k,ho,hk=>by
  rw [Nat.succ_add]
  conv=>lhs;unfold Z10
  conv=>rhs;unfold Z10
  cases e:out[k]? with
  | none=>rfl
  | some f=>exact Z4j hR j n _ (k+1) (ho.step hR (ho.sub f (U0a e))) (by omega)
end
section
variable {F G:Nat->Int}{S:Nat->Prop}{φ:Nat->Nat}
theorem Za3 (hi:∀ f g,S f->S g->φ f=φ g->f=g) (hf:∀ f,S f->φ f<1099511627776) {out:List Nat} (ho:∀ g∈out,S g) (s:ByteArray):∀ {l:List Int}{acc:ByteArray},(∀ x∈l,Z4r S x)->Z0d s (out.map φ) acc (l.map (mvI φ))=Z0d s out acc l
 | [],_,_=>rfl
 | x::l,acc,hl=>by
  show Z0d s (out.map φ) (Z3w s (out.map φ) acc (mvI φ x)) (l.map (mvI φ))=Z0d s out (Z3w s out acc x) l
  have e:Z3w s (out.map φ) acc (mvI φ x)=Z3w s out acc x:=by unfold Z3w;rw [Zgl hi hf ho (hl x (by simp))]
  rw [e]
  exact Za3 hi hf ho s (fun y hy=>hl y (by simp [hy]))
theorem Z8o (hi:∀ f g,S f->S g->φ f=φ g->f=g) (hf:∀ f,S f->φ f<1099511627776) {out:List Nat} (ho:∀ g∈out,S g) {kd:Int} (hk:¬ kd<8):∀ {l:List Int}{acc:ByteArray},(∀ x∈l,Z4r S x)->Z1f kd (out.map φ) acc (l.map (mvI φ))=Z1f kd out acc l
 | [],_,_=>rfl
 | x::l,acc,hl=>by
  show Z1f kd (out.map φ) (Z1z kd (out.map φ) acc (mvI φ x)) (l.map (mvI φ))=Z1f kd out (Z1z kd out acc x) l
  have e:Z1z kd (out.map φ) acc (mvI φ x)=Z1z kd out acc x:=by unfold Z1z;rw [U08 hk,U08 hk,Zgl hi hf ho (hl x (by simp))]
  rw [e]
  exact Z8o hi hf ho hk (fun y hy=>hl y (by simp [hy]))
theorem Z8q {out out':List Nat}{kd:Int} (hk:kd<8):∀ {l:List Int}{acc:ByteArray},Z1f kd out' acc l=Z1f kd out acc l
 | [],_=>rfl
 | x::l,acc=>by
  show Z1f kd out' (Z1z kd out' acc x) l=Z1f kd out (Z1z kd out acc x) l
  have e:Z1z kd out' acc x=Z1z kd out acc x:=by unfold Z1z;rw [U09 hk,U09 hk]
  rw [e]
  exact Z8q hk
theorem Iso.objT (h:Iso F G S φ) {out:List Nat} (ho:∀ g∈out,S g) {f:Nat} (hf:S f) (i:Nat) (acc:ByteArray):Z4t G (out.map φ) i (φ f) acc=Z4t F out i f acc:=by
 unfold Z4t
 rw [h.kind f hf,h.fields hf]
 by_cases hk:F f / 4 % 256<8
 ·rw [U09 hk,Z8q (out:=out) hk]
 ·rw [U08 hk,Z8o h.inj h.few ho hk (h.ptIn hf hk)]
theorem Iso.objs (h:Iso F G S φ) {out:List Nat} (ho:∀ g∈out,S g) (acc:ByteArray):∀ k,Z0j G (out.map φ) acc k=Z0j F out acc k
 | 0=>rfl
 | k+1=>by
  unfold Z0j
  rw [U0g]
  cases e:out[k]? with
  | none=>exact h.objs ho acc k
  | some f =>
   show Z4t G (out.map φ) k (φ f) (Z0j G (out.map φ) acc k)=Z4t F out k f (Z0j F out acc k)
   rw [h.objs ho acc k]
   exact h.objT ho (ho f (U0a e)) k _
theorem Z4a {m n:MD}{vs us:List Nat} (Sm:m.Shape vs) (h6:MD64 m) (Sn:n.Shape us) (h6n:MD64 n) (I:Iso m.F n.F S φ) (hR:n.R=m.R.map (mvI φ)) (hr:∀ x∈m.R,Z4r S x) :
  n.reach us=(m.reach vs).map φ /\ ∀ g∈m.reach vs,S g:=by
 have hm:=Z4j (Sm.reachy h6) (us.length+1) (vs.length+1) (Z0n [] m.R) 0 ((Z5f vs).comes (Sm.roots h6)) (by omega)
 have hn:=Z4j (Sn.reachy h6n) (vs.length+1) (us.length+1) (Z0n [] n.R) 0 ((Z5f us).comes (Sn.roots h6n)) (by omega)
 obtain ⟨e,hS⟩:=Z8u I.inj I.few (l:=m.R) (out:=[]) (by simp) hr
 obtain ⟨e2,hS2⟩:=I.reach (vs.length+1+(us.length+1)) (Z0n [] m.R) 0 hS
 unfold MD.reach
 rw [hm] at e2 hS2
 refine ⟨?_,hS2⟩
 rw [<-hn,hR,<-e2,Nat.add_comm (us.length+1)]
 rw [show Z0n [] (m.R.map (mvI φ))=(Z0n [] m.R).map φ from e]
def MD.mainText (m:MD) (vs:List Nat):ByteArray:=Z0j m.F (m.reach vs) (Z0d sRoot (m.reach vs) ⟨#[]⟩ m.R) (m.reach vs).length
theorem Ze9 {m n:MD}{vs us:List Nat} (I:Iso m.F n.F S φ) (hR:n.R=m.R.map (mvI φ)) (hr:∀ x∈m.R,Z4r S x) (he:n.reach us=(m.reach vs).map φ) (hs:∀ g∈m.reach vs,S g):n.mainText us=m.mainText vs:=by
 unfold MD.mainText
 rw [he,hR,Za3 I.inj I.few hs sRoot hr,I.objs hs,U0v]
def Z8k (F:Nat->Int) (l:List Nat):Nat:=(l.map fun f=>1+szN (F f)).sum
theorem Zeb (I:Iso F G S φ) {l:List Nat} (hs:∀ g∈l,S g):Z8k G (l.map φ)=Z8k F l:=by
 unfold Z8k
 rw [U2h]
 congr 1
 refine U15 fun f hf => ?_
 show 1+szN (G (φ f))=_
 rw [I.size f (hs f hf)]
end
theorem Zka (w:World) (e size:Nat):(w.alloc (.cells #[] e)).ownsRow w.heap.size e size (.slice (some ⟨w.heap.size,0,none⟩) 0 0) 0 []:=
 ⟨by simp,.inr ⟨w.heap.size,0,#[],rfl,U02 _,U0b w _,U02 _,by unfold maxLen;omega,by simp,by simp⟩⟩
theorem nilYW (n c:Nat) (w:World):(binOp .eql 79 (.slice none n c) (.slice none 0 0)).run prog w = .ok (.bool true) w:=by kernel_rfl
theorem nilNW (ad:Addr) (n c:Nat) (w:World):(binOp .eql 79 (.slice (some ad) n c) (.slice none 0 0)).run prog w = .ok (.bool false) w:=by kernel_rfl
theorem Z5j (ao:Option Addr) (n c:Nat) (w:World) (xs:List Value) (hl:xs.length=n*1) (hsrc:0<n -> ∃ ad:Addr,ao=some ad/\ad.block<w.heap.size /\ ∀ j v,xs[j]?=some v->w.cell? (ad.add j)=some v) (h1:∀ v∈xs,v.oneCell'=true) (hn:n<=300000) :
  Calls prog 96 #[.slice ao n c] w fun ev w' => ∃ ao' c',ev = .returned (.slice ao' n c')/\w'.ownsRow w.heap.size 81 1 (.slice ao' n c') n xs/\Below w.heap.size w w':=by
 obtain ⟨i0,hi0,hz0,hz1,hz2⟩:=Zlx
 cases ao with
 | none =>
  obtain rfl:n=0:=by
   rcases U26 n with h | h
   ·exact h
   ·obtain ⟨_,e,_⟩:=hsrc h;cases e
  obtain rfl:xs = []:=U2l (by omega)
  have hq:=nilYW
  go_enter func96,ntmps96
  go_wp2_with fail
  go_ret
  exact ⟨none,0,rfl,⟨rfl,.inl ⟨rfl,rfl⟩⟩,U01 _ _⟩
 | some ad =>
  have HS:Hid (∀ j v,xs[j]?=some v->w.cell? (ad.add j)=some v):=fun j v hj=>by
   rcases U26 n with h | h
   ·subst h;have:=(U0e.1 hj).1;omega
   ·obtain ⟨_,e,_,h⟩:=hsrc h;cases e;exact h j v hj
  clear hsrc
  have hq:=nilNW
  go_enter func96,ntmps96
  go_wp2_with (at_builtin;refine U4h _ rfl _ _ _ rfl w.heap.size 81 i0 (.int .u64 0) 1 8 underlying79 hi0 hz0 hz1 hz2 rfl (by decide) (.slice (some ⟨w.heap.size,0,none⟩) 0 0) 0 [] rfl (Zka w 81 1) ad n c xs rfl hl (fun j v hj=>(((U01 _ _).alloc (U02 _) _).cell (p:=ad.add j) (Z02 (HS.out j v hj))).trans (HS.out j v hj)) h1 (by unfold maxLen;omega) (by omega) (by simp) ?_;intro v' w' hown hgrow hnil)
  rw [U1p,List.nil_append] at hown
  obtain ⟨ao',c',rfl⟩:=Z2w hown
  go_ret
  exact ⟨ao',c',rfl,hown,((U01 _ _).alloc (U02 _) _).grown hgrow (by simp) (fun k hk=>by cases hk;exact U02 _)⟩
end Go.Proofs.YtlkcbdinlfeoiaaGreatDoor
