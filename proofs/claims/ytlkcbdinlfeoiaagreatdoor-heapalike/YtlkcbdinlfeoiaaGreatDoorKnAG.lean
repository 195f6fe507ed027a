import Derived.Test.YtlkcbdinlfeoiaaGreatDoorKnAF
namespace Go.Proofs.YtlkcbdinlfeoiaaGreatDoor
open Go.Proofs.Tryz Go.RowKit
set_option maxHeartbeats 8000000
set_option maxRecDepth 100000
set_option linter.unusedSimpArgs false
section
structure CL where
 kind:Nat
 n:Int
 ref:Nat
structure ND where
 kind:Int
 raw:List Int
 f:List CL
structure MO where
 R:List CL
 N:List ND
def wdC (φ:Nat->Nat) (c:CL):Int:=if c.kind=4 then ((φ c.ref:Int)+1)*4 else if c.kind=3 then (c.n*4+1) % 18446744073709551616 else (c.kind:Int)*4+2
def wdN (φ:Nat->Nat) (d:ND):List Int:=if d.kind<8 then d.raw else d.f.map (wdC φ)
def Zdd (S:Nat->Prop) (c:CL):Prop:=c.kind=4->S c.ref
theorem Zts {φ:Nat->Nat}{c:CL} (h:c.kind≠4):¬ 0<=ptI (wdC φ c):=by
 unfold wdC ptI
 rw [U08 h]
 split <;> split <;> omega
theorem Zi5 {φ:Nat->Nat}{c:CL} (h:c.kind=4) (hf:φ c.ref<1099511627776):ptI (wdC φ c)=(φ c.ref:Int):=by
 unfold wdC
 rw [U09 h,Z82 hf]
theorem Zt1 {φ ψ:Nat->Nat}{c:CL} (hf:c.kind=4->φ c.ref<1099511627776):mvI ψ (wdC φ c)=wdC (fun i=>ψ (φ i)) c:=by
 by_cases h:c.kind=4
 ·have hp:=Zi5 h (hf h)
  unfold mvI
  rw [U09 (by omega),hp]
  unfold wdC
  rw [U09 h]
  simp
 ·rw [Zbw (Zts h)]
  unfold wdC
  rw [U08 h,U08 h]
theorem Zsm {S':Nat->Prop}{φ:Nat->Nat}{c:CL} (hf:c.kind=4->φ c.ref<1099511627776) (h:Z4r S' (wdC φ c)):Zdd (fun i=>S' (φ i)) c:=fun hk=>by
 have hp:=Zi5 hk (hf hk)
 have:=h (by omega)
 rw [hp] at this
 simpa using this
structure RelM (M:MO) (R:List Int) (F:Nat->Int) (us:List Nat) (S:Nat->Prop) (φ:Nat->Nat):Prop where
 inj:∀ i j,S i->S j->φ i=φ j->i=j
 few:∀ i,S i->φ i<1099511627776
 has:∀ i,S i -> ∃ d,M.N[i]?=some d/\φ i∈us/\F (φ i) / 4 % 256=d.kind/\Z07 F (φ i)=wdN φ d/\(¬ d.kind<8 -> ∀ c∈d.f,Zdd S c)
 roots:R=M.R.map (wdC φ)
 rin:∀ c∈M.R,Zdd S c
theorem RelM.kept {M:MO}{R R':List Int}{F G:Nat->Int}{vs us:List Nat}{S S':Nat->Prop}{φ ψ:Nat->Nat} (h:RelM M R F vs S φ) (I:Iso F G S' ψ) (hR:R'=R.map (mvI ψ)) (hr:∀ x∈R,Z4r S' x) (hu:∀ f,S' f->ψ f∈us):RelM M R' G us (fun i=>S i/\S' (φ i)) (fun i=>ψ (φ i)) where
 inj i j hi hj e:=h.inj i j hi.1 hj.1 (I.inj _ _ hi.2 hj.2 e)
 few i hi:=I.few _ hi.2
 has i hi:=by
  obtain ⟨d,h1,h2,h3,h4,h5⟩:=h.has i hi.1
  have hfl:=I.fields hi.2
  refine ⟨d,h1,hu _ hi.2,(I.kind _ hi.2).trans h3,?_,fun hk c hc => ?_⟩
  ·rw [hfl,h3,h4]
   unfold wdN
   by_cases hk:d.kind<8
   ·rw [U09 hk,U09 hk,U09 hk]
   ·rw [U08 hk,U08 hk,U08 hk,U2h]
    exact U15 fun c hc=>Zt1 (fun h'=>h.few _ (h5 hk c hc h'))
  ·intro h4'
   have hs:=h5 hk c hc h4'
   refine ⟨hs,?_⟩
   have hp:=I.ptIn hi.2 (by rw [h3];exact hk) (wdC φ c) (by rw [h4];unfold wdN;rw [U08 hk];exact U33 hc)
   exact Zsm (fun _=>h.few _ hs) hp h4'
 roots:=by
  rw [hR,h.roots,U2h]
  exact U15 fun c hc=>Zt1 (fun h'=>h.few _ (h.rin c hc h'))
 rin c hc h4:=by
  have hs:=h.rin c hc h4
  refine ⟨hs,Zsm (fun _=>h.few _ hs) (hr _ ?_) h4⟩
  rw [h.roots];exact U33 hc
def Z7t (out:List Nat) (c:CL):List Nat:=if c.kind=4/\c.ref ∉ out then out ++ [c.ref] else out
def Z2q (out:List Nat) (l:List CL):List Nat:=l.foldl Z7t out
def Zbp (M:MO) (out:List Nat) (i:Nat):List Nat:=match M.N[i]? with
 | none=>out
 | some d=>if d.kind<8 then out else Z2q out d.f
def Z2h (M:MO):Nat->List Nat->Nat->List Nat
 | 0,out,_=>out
 | n+1,out,k=>match out[k]? with
  | none=>out
  | some i=>Z2h M n (Zbp M out i) (k+1)
variable {M:MO}{R:List Int}{F:Nat->Int}{us:List Nat}{S:Nat->Prop}{φ:Nat->Nat}
theorem RelM.objI (h:RelM M R F us S φ) {out:List Nat} (ho:∀ g∈out,S g) {i:Nat} (hi:S i):objI (out.map φ) (φ i:Int)<0 ↔ i ∉ out:=by
 rw [Z80 h.inj hi ho]
 have:=Z2a (vs:=out) (f:=i)
 constructor
 ·intro h1 h2
  have:=this.2 h2
  omega
 ·intro h1
  exact Int.not_le.1 (fun h2=>h1 (this.1 h2))
theorem RelM.meet (h:RelM M R F us S φ) {out:List Nat} (ho:∀ g∈out,S g) {c:CL} (hc:Zdd S c):Z29 (out.map φ) (wdC φ c)=(Z7t out c).map φ /\ ∀ g∈Z7t out c,S g:=by
 unfold Z29 Z7t
 by_cases hk:c.kind=4
 ·have hs:=hc hk
  have hp:=Zi5 hk (h.few _ hs)
  rw [hp]
  have hb:=h.objI ho hs
  by_cases hi:c.ref ∉ out
  ·rw [U09 ⟨by omega,hb.2 hi⟩,U09 ⟨hk,hi⟩,U1b]
   refine ⟨by simp,fun g hg => ?_⟩
   rcases U0c.1 hg with hg | hg
   ·exact ho g hg
   ·simp at hg;rw [hg];exact hs
  ·rw [U08 (fun c=>hi (hb.1 c.2)),U08 (fun c=>hi c.2)]
   exact ⟨rfl,ho⟩
 ·rw [U08 (fun c=>Zts hk c.1),U08 (fun c=>hk c.1)]
  exact ⟨rfl,ho⟩
theorem RelM.meets (h:RelM M R F us S φ):∀ {l:List CL}{out:List Nat},(∀ g∈out,S g)->(∀ c∈l,Zdd S c)->Z0n (out.map φ) (l.map (wdC φ))=(Z2q out l).map φ /\ ∀ g∈Z2q out l,S g
 | [],out,ho,_=>⟨rfl,ho⟩
 | c::l,out,ho,hl=>by
  obtain ⟨e,h1⟩:=h.meet ho (hl c (by simp))
  have ih:=h.meets (l:=l) h1 (fun y hy=>hl y (by simp [hy]))
  show Z0n (Z29 (out.map φ) (wdC φ c)) (l.map (wdC φ))=(Z2q (Z7t out c) l).map φ/\_
  rw [e]
  exact ih
theorem RelM.step (h:RelM M R F us S φ) {out:List Nat} (ho:∀ g∈out,S g) {i:Nat} (hi:S i):Z33 F (out.map φ) (φ i)=(Zbp M out i).map φ /\ ∀ g∈Zbp M out i,S g:=by
 obtain ⟨d,h1,h2,h3,h4,h5⟩:=h.has i hi
 unfold Z33 Zbp
 rw [h1,h3,h4]
 by_cases hk:d.kind<8
 ·rw [U09 hk]
  show _=((if d.kind<8 then out else _).map φ) /\ ∀ g∈(if d.kind<8 then out else _),S g
  rw [U09 hk];exact ⟨rfl,ho⟩
 ·rw [U08 hk]
  show _=((if d.kind<8 then out else Z2q out d.f).map φ) /\ ∀ g∈(if d.kind<8 then out else Z2q out d.f),S g
  unfold wdN
  rw [U08 hk,U08 hk]
  exact h.meets ho (h5 hk)
theorem RelM.reach (h:RelM M R F us S φ):∀ (n:Nat) (out:List Nat) (k:Nat),(∀ g∈out,S g)->Z10 F n (out.map φ) k=(Z2h M n out k).map φ /\ ∀ g∈Z2h M n out k,S g
 | 0,out,_,ho=>⟨rfl,ho⟩
 | n+1,out,k,ho=>by
  unfold Z10 Z2h
  rw [U0g]
  cases e:out[k]? with
  | none=>exact ⟨rfl,ho⟩
  | some i =>
   obtain ⟨e1,h1⟩:=h.step ho (ho i (U0a e))
   show Z10 F n (Z33 F (out.map φ) (φ i)) (k+1)=_/\_
   rw [e1]
   exact h.reach n _ (k+1) h1
end
section
variable {M:MO}{R:List Int}{F:Nat->Int}{us:List Nat}{S:Nat->Prop}{φ:Nat->Nat}
theorem RelM.root (h:RelM M R F us S φ) (r:Nat) {c:CL} (hc:Zdd S c):RelM { M with R:=M.R.set r c } (R.set r (wdC φ c)) F us S φ where
 inj:=h.inj
 few:=h.few
 has:=h.has
 roots:=by rw [h.roots,U35]
 rin d hd:=by
  rcases U1o hd with h1 | h1
  ·exact h.rin d h1
  ·rw [h1];exact hc
theorem RelM.same (h:RelM M R F us S φ) {G:Nat->Int}{vs:List Nat} (hk:∀ i,S i->G (φ i) / 4 % 256=F (φ i) / 4 % 256/\Z07 G (φ i)=Z07 F (φ i)/\φ i∈vs):RelM M R G vs S φ where
 inj:=h.inj
 few:=h.few
 has i hi:=by
  obtain ⟨d,h1,h2,h3,h4,h5⟩:=h.has i hi
  obtain ⟨k1,k2,k3⟩:=hk i hi
  exact ⟨d,h1,k3,k1.trans h3,k2.trans h4,h5⟩
 roots:=h.roots
 rin:=h.rin
theorem Z8w {φ ψ:Nat->Nat}{c:CL} (h:c.kind=4->ψ c.ref=φ c.ref):wdC ψ c=wdC φ c:=by
 unfold wdC
 by_cases hk:c.kind=4
 ·rw [U09 hk,U09 hk,h hk]
 ·rw [U08 hk,U08 hk]
theorem Z8e {S:Nat->Prop}{φ ψ:Nat->Nat}{d:ND} (h:∀ i,S i->ψ i=φ i) (hd:¬ d.kind<8 -> ∀ c∈d.f,Zdd S c):wdN ψ d=wdN φ d:=by
 unfold wdN
 by_cases hk:d.kind<8
 ·rw [U09 hk,U09 hk]
 ·rw [U08 hk,U08 hk]
  exact U15 fun c hc=>Z8w (fun h4=>h _ (hd hk c hc h4))
theorem RelM.make (h:RelM M R F us S φ) (hS:∀ i,S i->i<M.N.length) {t:Nat} (ht:t∈us) (hts:∀ i,S i->φ i≠t) (htf:t<1099511627776) {d:ND} (hk:F t / 4 % 256=d.kind) (hf:Z07 F t=wdN φ d) (hd:¬ d.kind<8 -> ∀ c∈d.f,Zdd S c) :
  RelM { M with N:=M.N ++ [d] } R F us (fun i=>S i\/i=M.N.length) (fun i=>if i=M.N.length then t else φ i):=by
 have e:∀ i,S i->(if i=M.N.length then t else φ i)=φ i:=fun i hi=>U08 (by have:=hS i hi;omega)
 refine ⟨?_,?_,?_,?_,?_⟩
 ·rintro i j (hi | hi) (hj | hj)
  ·rw [e i hi,e j hj];exact h.inj i j hi hj
  ·rw [e i hi,U09 hj];exact fun q=>absurd q (hts i hi)
  ·rw [U09 hi,e j hj];exact fun q=>absurd q.symm (hts j hj)
  ·intro _;rw [hi,hj]
 ·rintro i (hi | hi)
  ·show (if i=M.N.length then t else φ i)<_
   rw [e i hi];exact h.few i hi
  ·show (if i=M.N.length then t else φ i)<_
   rw [U09 hi];exact htf
 ·rintro i (hi | hi)
  ·obtain ⟨d',h1,h2,h3,h4,h5⟩:=h.has i hi
   have hl:=hS i hi
   refine ⟨d',?_,?_,?_,?_,fun q c hc h4=>Or.inl (h5 q c hc h4)⟩
   ·show (M.N ++ [d])[i]?=_
    rw [U10 hl];exact h1
   ·show (if i=M.N.length then t else φ i)∈us
    rw [e i hi];exact h2
   ·show F (if i=M.N.length then t else φ i) / 4 % 256=_
    rw [e i hi];exact h3
   ·show Z07 F (if i=M.N.length then t else φ i)=_
    rw [e i hi,h4]
    exact (Z8e e h5).symm
  ·refine ⟨d,?_,?_,?_,?_,fun q c hc h4=>Or.inl (hd q c hc h4)⟩
   ·show (M.N ++ [d])[i]?=_
    rw [hi,U12 (U02 _)];simp
   ·show (if i=M.N.length then t else φ i)∈us
    rw [U09 hi];exact ht
   ·show F (if i=M.N.length then t else φ i) / 4 % 256=_
    rw [U09 hi];exact hk
   ·show Z07 F (if i=M.N.length then t else φ i)=_
    rw [U09 hi,hf]
    exact (Z8e e hd).symm
 ·show R=M.R.map _
  rw [h.roots]
  exact (U15 fun c hc=>(Z8w (fun h4=>e _ (h.rin c hc h4)))).symm
 ·exact fun c hc h4=>Or.inl (h.rin c hc h4)
theorem RelM.put (h:RelM M R F us S φ) {G:Nat->Int}{i k:Nat}{d:ND}{c:CL} (hi:S i) (hd:M.N[i]?=some d) (hk8:¬ d.kind<8) (hc:Zdd S c)
  (hk:∀ j,S j->G (φ j) / 4 % 256=F (φ j) / 4 % 256) (ho:∀ j,S j->j≠i->Z07 G (φ j)=Z07 F (φ j)) (hf:Z07 G (φ i)=(Z07 F (φ i)).set k (wdC φ c)) :
  RelM { M with N:=M.N.set i { d with f:=d.f.set k c } } R G us S φ where
 inj:=h.inj
 few:=h.few
 has j hj:=by
  obtain ⟨d',h1,h2,h3,h4,h5⟩:=h.has j hj
  by_cases e:j=i
  ·subst e
   obtain rfl:d=d':=by rw [hd] at h1;exact U1h h1
   refine ⟨{ d with f:=d.f.set k c },?_,h2,(hk j hj).trans h3,?_,fun _ x hx => ?_⟩
   ·show (M.N.set j _)[j]?=_
    rw [U18 (by
     rcases U2w j M.N.length with q | q
     ·exact q
     ·rw [U14 q] at hd;cases hd)]
   ·rw [hf,h4]
    unfold wdN
    rw [U08 hk8]
    show _=if d.kind<8 then _ else (d.f.set k c).map (wdC φ)
    rw [U08 hk8,U35]
   ·rcases U1o hx with q | q
    ·exact h5 hk8 x q
    ·rw [q];exact hc
  ·refine ⟨d',?_,h2,(hk j hj).trans h3,(ho j hj e).trans h4,h5⟩
   show (M.N.set i _)[j]?=_
   rw [U1c (fun q=>e q.symm)];exact h1
 roots:=h.roots
 rin:=h.rin
end
section
structure CLok (c:CL):Prop where
 kind:c.kind<=4
 lo:c.kind=3 -> -2305843009213693952<=c.n
 hi:c.kind=3->c.n<2305843009213693952
def Zhv (out:List Nat) (c:CL):ByteArray:=if c.kind=4 then (if objI out (c.ref:Int)<0 then ⟨#[64]⟩ else ⟨#[64]⟩++Z1b (objI out (c.ref:Int))) else if c.kind=3 then Z1b c.n else Z8a (c.kind:Int)
variable {M:MO}{R:List Int}{F:Nat->Int}{us:List Nat}{S:Nat->Prop}{φ:Nat->Nat}
theorem RelM.tell (h:RelM M R F us S φ) {out:List Nat} (ho:∀ g∈out,S g) {c:CL} (hc:Zdd S c) (hk:CLok c):Z12 (out.map φ) (wdC φ c)=Zhv out c:=by
 unfold Zhv
 by_cases h4:c.kind=4
 ·have hs:=hc h4
  have hf:=h.few _ hs
  have hp:=Zi5 h4 hf
  have hw:wdC φ c=((φ c.ref:Int)+1)*4:=by unfold wdC;rw [U09 h4]
  have e:=Z80 h.inj hs ho
  unfold Z12
  rw [U09 h4,hp,e,hw,U08 (by omega),U08 (by omega),U08 (by omega)]
 ·rw [U08 h4]
  by_cases h3:c.kind=3
  ·have hw:wdC φ c=(c.n*4+1) % 18446744073709551616:=by unfold wdC;rw [U08 h4,U09 h3]
   have h1:=hk.lo h3
   have h2:=hk.hi h3
   have hx:wrap64 ((c.n*4+1) % 18446744073709551616) / 4=c.n:=by unfold wrap64;omega
   unfold Z12
   rw [U09 h3,hw,U09 (by omega),hx]
  ·have hw:wdC φ c=(c.kind:Int)*4+2:=by unfold wdC;rw [U08 h4,U08 h3]
   have hx:((c.kind:Int)*4+2) / 4=(c.kind:Int):=by omega
   unfold Z12
   rw [U08 h3,hw,U08 (by omega),U09 (by omega),hx]
def Zgp (out:List Nat) (acc:ByteArray) (l:List CL):ByteArray:=l.foldl (fun a c=>((a++sRoot)++Zhv out c)++⟨#[10]⟩) acc
def Zf9 (out:List Nat) (acc:ByteArray) (l:List CL):ByteArray:=l.foldl (fun a c=>(a++⟨#[32]⟩)++Zhv out c) acc
theorem RelM.rootLines (h:RelM M R F us S φ) {out:List Nat} (ho:∀ g∈out,S g):∀ {l:List CL}{acc:ByteArray},(∀ c∈l,Zdd S c/\CLok c)->Z0d sRoot (out.map φ) acc (l.map (wdC φ))=Zgp out acc l
 | [],_,_=>rfl
 | c::l,acc,hl=>by
  show Z0d sRoot (out.map φ) (Z3w sRoot (out.map φ) acc (wdC φ c)) (l.map (wdC φ))=Zgp out (((acc++sRoot)++Zhv out c)++⟨#[10]⟩) l
  unfold Z3w
  rw [h.tell ho (hl c (by simp)).1 (hl c (by simp)).2]
  exact h.rootLines ho (fun y hy=>hl y (by simp [hy]))
theorem RelM.fieldTexts (h:RelM M R F us S φ) {out:List Nat} (ho:∀ g∈out,S g) {kd:Int} (hk:¬ kd<8):∀ {l:List CL}{acc:ByteArray},(∀ c∈l,Zdd S c/\CLok c)->Z1f kd (out.map φ) acc (l.map (wdC φ))=Zf9 out acc l
 | [],_,_=>rfl
 | c::l,acc,hl=>by
  show Z1f kd (out.map φ) (Z1z kd (out.map φ) acc (wdC φ c)) (l.map (wdC φ))=Zf9 out ((acc++⟨#[32]⟩)++Zhv out c) l
  unfold Z1z
  rw [U08 hk,h.tell ho (hl c (by simp)).1 (hl c (by simp)).2]
  exact h.fieldTexts ho hk (fun y hy=>hl y (by simp [hy]))
def Zfv (T:Int->List Int->ByteArray) (F:Nat->Int) (out:List Nat) (i f:Nat) (acc:ByteArray):ByteArray:=
 if F f / 4 % 256<8 then ((((acc++Z1b (i:Int))++⟨#[32]⟩)++Z1b (F f / 4 % 256))++T (F f / 4 % 256) (Z07 F f))++⟨#[10]⟩ else Z4t F out i f acc
def Z2u (T:Int->List Int->ByteArray) (F:Nat->Int) (out:List Nat) (acc:ByteArray):Nat->ByteArray
 | 0=>acc
 | k+1=>match out[k]? with
  | some f=>Zfv T F out k f (Z2u T F out acc k)
  | none=>Z2u T F out acc k
def Zo3 (T:Int->List Int->ByteArray) (out:List Nat) (i:Nat) (d:ND) (acc:ByteArray):ByteArray:=
 if d.kind<8 then ((((acc++Z1b (i:Int))++⟨#[32]⟩)++Z1b d.kind)++T d.kind d.raw)++⟨#[10]⟩ else Zf9 out (((acc++Z1b (i:Int))++⟨#[32]⟩)++Z1b d.kind) d.f++⟨#[10]⟩
def Z7n (T:Int->List Int->ByteArray) (M:MO) (out:List Nat) (acc:ByteArray):Nat->ByteArray
 | 0=>acc
 | k+1=>match out[k]?.bind (fun i=>M.N[i]?) with
  | some d=>Zo3 T out k d (Z7n T M out acc k)
  | none=>Z7n T M out acc k
structure MOok (M:MO):Prop where
 roots:∀ c∈M.R,CLok c
 flds:∀ d∈M.N,¬ d.kind<8 -> ∀ c∈d.f,CLok c
theorem RelM.objT (h:RelM M R F us S φ) (hM:MOok M) (T:Int->List Int->ByteArray) {out:List Nat} (ho:∀ g∈out,S g) {i:Nat} (hi:S i) {d:ND} (hd:M.N[i]?=some d) (k:Nat) (acc:ByteArray):Zfv T F (out.map φ) k (φ i) acc=Zo3 T out k d acc:=by
 obtain ⟨d',h1,h2,h3,h4,h5⟩:=h.has i hi
 obtain rfl:d=d':=by rw [hd] at h1;exact U1h h1
 have hm:=hM.flds d (U0a hd)
 unfold Zfv Zo3 Z4t
 rw [h3,h4]
 unfold wdN
 by_cases hk:d.kind<8
 ·rw [U09 hk,U09 hk,U09 hk]
 ·rw [U08 hk,U08 hk,U08 hk,h.fieldTexts ho hk (fun c hc=>⟨h5 hk c hc,hm hk c hc⟩)]
theorem RelM.objs (h:RelM M R F us S φ) (hM:MOok M) (T:Int->List Int->ByteArray) {out:List Nat} (ho:∀ g∈out,S g) (acc:ByteArray):∀ k,Z2u T F (out.map φ) acc k=Z7n T M out acc k
 | 0=>rfl
 | k+1=>by
  unfold Z2u Z7n
  rw [U0g]
  cases e:out[k]? with
  | none=>exact h.objs hM T ho acc k
  | some i =>
   have hi:=ho i (U0a e)
   obtain ⟨d,h1,_⟩:=h.has i hi
   show Zfv T F (out.map φ) k (φ i) (Z2u T F (out.map φ) acc k)=match M.N[i]? with
    | some d=>Zo3 T out k d (Z7n T M out acc k)
    | none=>Z7n T M out acc k
   rw [h1,h.objs hM T ho acc k]
   exact h.objT hM T ho hi h1 k _
def MO.reach (M:MO) (n:Nat):List Nat:=Z2h M n (Z2q [] M.R) 0
def MO.show (T:Int->List Int->ByteArray) (M:MO) (n:Nat):ByteArray:=Z7n T M (M.reach n) (Zgp (M.reach n) ⟨#[]⟩ M.R) (M.reach n).length
theorem RelM.text (h:RelM M R F us S φ) (hM:MOok M) (T:Int->List Int->ByteArray) (n:Nat) :
  Z10 F n (Z0n [] R) 0=(M.reach n).map φ/\Z2u T F (Z10 F n (Z0n [] R) 0) (Z0d sRoot (Z10 F n (Z0n [] R) 0) ⟨#[]⟩ R) (Z10 F n (Z0n [] R) 0).length=M.show T n:=by
 obtain ⟨e0,s0⟩:=h.meets (l:=M.R) (out:=[]) (by simp) h.rin
 obtain ⟨e1,s1⟩:=h.reach n (Z2q [] M.R) 0 s0
 have hR:=h.roots
 have e:Z10 F n (Z0n [] R) 0=(M.reach n).map φ:=by
  rw [hR]
  rw [show Z0n [] (M.R.map (wdC φ))=(Z2q [] M.R).map φ from e0]
  exact e1
 have s1:∀ g∈M.reach n,S g:=s1
 refine ⟨e,?_⟩
 rw [e,U0v]
 conv=>lhs;rw [hR]
 rw [h.rootLines s1 (fun c hc=>⟨h.rin c hc,hM.roots c hc⟩),h.objs hM T s1]
 rfl
end
section
theorem Zd7 {F:Nat->Int}{s t N:Nat} (hh:Z0t (F t)=true) (hs:szN (F t)=s):Z09 F (fun _=>true) (N+1) t (t+1+s)=some [t]:=by
 unfold Z09
 rw [U09 (by omega),hh,hs,U0d (U02 _),U09 (by rfl),Z3b (by omega)]
 rfl
theorem Z6v {F F':Nat->Int}{s t:Nat} (hh:Z0t (F' t)=true) (hs:szN (F' t)=s):∀ {n a:Nat}{l:List Nat},Z09 F (fun _=>true) n a t=some l->a<=t->t - a<=n->(∀ v∈l,F' v=F v)->Z09 F' (fun _=>true) (n+1+s) a (t+1+s)=some (l ++ [t])
 | 0,a,l,h,ha,hn,_=>by
  unfold Z09 at h
  cases h
  obtain rfl:a=t:=by omega
  rw [show 0+1+s=s+1 by omega]
  exact Zd7 hh hs
 | n+1,a,l,h,ha,hn,he=>by
  unfold Z09 at h
  split at h
  ·rename_i h1
   split at h
   ·rename_i h2
    obtain ⟨l',h',rfl⟩:=U1i.1 h
    simp only [U0i,U1x] at h2
    have e:=he a (U4b ..)
    have ih:=Z6v hh hs h' h2.2.1 (by omega) (fun v hv=>he v (U3f _ hv))
    rw [show n+1+1+s=(n+1+s)+1 by omega]
    unfold Z09
    rw [U09 (by omega),e,h2.1,U0d (show a+1+szN (F a)<=t+1+s by omega),U09 (by rfl),ih]
    rfl
   ·cases h
  ·cases h
   obtain rfl:a=t:=by omega
   rw [show n+1+1+s=(n+1+s)+1 by omega]
   exact Zd7 hh hs
theorem Z3c {F F':Nat->Int} : ∀ {n f t:Nat}{l:List Nat},Z09 F (fun _=>true) n f t=some l->(∀ v∈l,F' v=F v)->Z09 F' (fun _=>true) n f t=some l
 | 0,f,t,l,h,_=>by unfold Z09 at h ⊢;exact h
 | n+1,f,t,l,h,he=>by
  unfold Z09 at h ⊢
  split at h
  ·rename_i h1
   rw [U09 h1]
   split at h
   ·rename_i h2
    obtain ⟨l',h',rfl⟩:=U1i.1 h
    rw [he f (U4b ..),U09 h2,Z3c h' fun v hv=>he v (U3f _ hv)]
    rfl
   ·cases h
  ·rename_i h1
   rw [U08 h1]
   exact h
theorem Z4o {nW:Nat}{p q:Nat->Bool} (h:∀ i,p i=true->q i=true) {x:Int} (hx:Z0b nW p x=true):Z0b nW q x=true:=by
 unfold Z0b at *
 split
 ·rfl
 ·rename_i h1
  rw [U08 h1] at hx
  split
  ·rename_i h2
   rw [U09 h2] at hx;exact hx
  ·rename_i h2
   rw [U08 h2] at hx
   rw [U47] at hx ⊢
   rcases hx with hx | hx
   ·exact .inl hx
   ·right
    unfold Z2y at hx ⊢
    rw [U0i,U0i] at hx ⊢
    exact ⟨hx.1,hx.2.1,h _ hx.2.2⟩
structure Laid (m n:MD) (t s:Nat) (y:Bool):Prop where
 half:n.half=m.half
 old:n.old=m.old
 card:n.card=m.card
 used:n.used=m.used
 R:n.R=m.R
 K:n.K=m.K
 I:n.I=m.I
 C:n.C=m.C
 len:n.W.length=m.W.length
 top:n.top=if y then m.top+1+s else m.top
 otop:n.oldTop=if y then m.oldTop else m.oldTop+1+s
 place:t=if y then m.n1 else m.m1
 room:if y then m.top+1+s<=m.half else m.oldTop+1+s<=m.old
 same:∀ i,i<t\/t+1+s<=i->n.F i=m.F i
 head:Z0t (n.F t)=true
 size:szN (n.F t)=s
 bit:n.F t / 16384 % 2=0
 age:n.F t / 1024 % 16=0
 flds:¬ n.F t / 4 % 256<8 -> ∀ k,k<s->Z0b m.W.length (fun _=>false) (n.F (t+1+k))=true
theorem Zg8 {nW:Nat}{x h:Int} (hx:Z0b nW (fun _=>false) x=true):Z14 h x=false:=by
 unfold Z0b at hx
 unfold Z14
 rw [U0p]
 rintro ⟨h1,h2,_⟩
 rw [U08 (by omega),U08 (by omega)] at hx
 unfold Z2y at hx
 simp at hx
 omega
theorem Zke {nW:Nat}{p q:Nat->Bool} (h:∀ i,p i=true->q i=true) {l:List (Int × Int)} (hx:Z6j nW p l=true):Z6j nW q l=true:=by
 unfold Z6j at *
 rw [U0m] at *
 intro i hi
 have g:=hx i hi
 unfold idB at *
 split
 ·rename_i x e
  rw [e] at g
  simp only [U0i] at g ⊢
  refine ⟨?_,g.2⟩
  have:=g.1
  unfold Z2y at this ⊢
  rw [U0i,U0i] at this ⊢
  exact ⟨this.1,this.2.1,h _ this.2.2⟩
 ·rfl
variable {m n:MD}{t s:Nat}{y:Bool}
theorem Laid.fits (L:Laid m n t s y) (h:m.FitsM):n.FitsM:=by
 obtain ⟨a0,hw,hc,u0,u1,t0,t1,o0,o1⟩:=h
 have hr:=L.room
 have ht:=L.top
 have ho:=L.otop
 unfold MD.FitsM
 rw [L.half,L.old,L.card,L.used,L.len,L.C]
 cases y with
 | true =>
  simp only [if_true] at hr ht ho
  exact ⟨a0,hw,hc,u0,u1,by omega,by omega,by omega,by omega⟩
 | false =>
  simp only [U36,if_false] at hr ht ho
  exact ⟨a0,hw,hc,u0,u1,by omega,by omega,by omega,by omega⟩
theorem Laid.right {vs:List Nat} (L:Laid m n t s y) (S:m.Shape vs) (hC:m.cardsB=true) :
  (∀ v∈vs,v+1+szN (m.F v)<=t\/t+1+s<=v)/\t+1+s<=m.W.length /\ ∃ us,n.Shape us/\n.cardsB=true /\ ∀ v,v∈us ↔ v∈vs\/v=t:=by
 have hFit:=L.fits S.1
 have P:=MD.parts S.1
 have Q:=MD.parts hFit
 obtain ⟨p1,p2,p3,p4⟩:=P
 obtain ⟨q1,q2,q3,q4⟩:=Q
 have hS1:=S.1
 obtain ⟨⟨a0,a1,a2,a3,a4,a5⟩,hw,hc,u0,u1,t0,t1,o0,o1⟩:=hS1
 have hr:=L.room
 have ht:=L.top
 have ho:=L.otop
 have hpl:=L.place
 rw [L.used,L.half] at q1 q2
 rw [L.half] at q3 q4
 have huh:m.used*m.half=0\/m.used*m.half=m.half:=by
  obtain e | e:m.used=0\/m.used=1:=by omega
  ·rw [e,U2x];exact .inl rfl
  ·rw [e,U2z];exact .inr rfl
 obtain ⟨z,hz⟩:∃ z,z=m.used*m.half:=⟨_,rfl⟩
 rw [<-hz] at p1 p2 q1 q2 huh
 have hobj:=S.2.1
 unfold MD.objs at hobj
 split at hobj
 case h_2=>cases hobj
 rename_i l1 l2 e1 e2
 cases hobj
 have c1:=Z0h.1 e1
 have c2:=Z0h.1 e2
 have hap:∀ v∈l1++l2,v+1+szN (m.F v)<=t\/t+1+s<=v:=fun v hv=>by
  rcases U0c.1 hv with h | h
  ·have:=Z0o e1 v h
   cases y with
   | true=>simp only [if_true] at *;omega
   | false=>simp only [U36,if_false] at *;omega
  ·have:=Z0o e2 v h
   cases y with
   | true=>simp only [if_true] at *;omega
   | false=>simp only [U36,if_false] at *;omega
 have hlen:t+1+s<=m.W.length:=by
  cases y with
  | true=>simp only [if_true] at *;omega
  | false=>simp only [U36,if_false] at *;omega
 refine ⟨hap,hlen,?_⟩
 have hv:∀ v∈l1++l2,n.F v=m.F v:=fun v h=>L.same v (by have:=hap v h;omega)
 have hfl:∀ v∈l1++l2,∀ j,j<szN (m.F v)->n.F (v+1+j)=m.F (v+1+j):=fun v h j hj=>L.same _ (by have:=hap v h;omega)
 obtain ⟨k1,k2,d1,d2,hk1,hk2,hky⟩:∃ k1 k2:List Nat,Z09 n.F (fun _=>true) (n.n1 - n.n0) n.n0 n.n1=some k1/\Z09 n.F (fun _=>true) (n.m1 - n.m0) n.m0 n.m1=some k2/\(∀ v,v∈k1 ↔ v∈l1\/(y=true/\v=t))/\(∀ v,v∈k2 ↔ v∈l2\/(y=false/\v=t))/\True:=by
  cases y with
  | true =>
   simp only [if_true] at *
   have g:=Z6v L.head L.size (F:=m.F) (n:=m.n1 - m.n0) (a:=m.n0) (l:=l1) (by rw [hpl];exact c1.1) (by omega) (by omega) (fun v h=>hv v (U2q _ h))
   refine ⟨l1 ++ [t],l2,?_,?_,fun v=>by simp,fun v=>by simp,trivial⟩
   ·rw [show n.n0=m.n0 by omega,show n.n1=t+1+s by omega,show t+1+s - m.n0=m.n1 - m.n0+1+s by omega];exact g
   ·rw [show n.m0=m.m0 by omega,show n.m1=m.m1 by omega];exact Z3c c2.1 (fun v h=>hv v (U2k _ h))
  | false =>
   simp only [U36,if_false] at *
   have g:=Z6v L.head L.size (F:=m.F) (n:=m.m1 - m.m0) (a:=m.m0) (l:=l2) (by rw [hpl];exact c2.1) (by omega) (by omega) (fun v h=>hv v (U2k _ h))
   refine ⟨l1,l2 ++ [t],?_,?_,fun v=>by simp,fun v=>by simp,trivial⟩
   ·rw [show n.n0=m.n0 by omega,show n.n1=m.n1 by omega];exact Z3c c1.1 (fun v h=>hv v (U2q _ h))
   ·rw [show n.m0=m.m0 by omega,show n.m1=t+1+s by omega,show t+1+s - m.m0=m.m1 - m.m0+1+s by omega];exact g
 have hmem:∀ v,v∈k1++k2 ↔ v∈l1++l2\/v=t:=fun v=>by
  rw [U0c,U0c,hk1,hk2]
  cases y
  ·simp [or_assoc]
  ·simp only [Bool.true_eq_false,true_and,false_and,or_false];rw [or_assoc,or_assoc,or_comm (a:=v=t)]
 have hmore:∀ i,(decide (i∈l1++l2))=true->(decide (i∈k1++k2))=true:=fun i hi=>U0d ((hmem i).2 (.inl (U0j hi)))
 have hG1:∀ v∈k1++k2,G1 n.F n.half v=true:=fun v h=>by
  rcases (hmem v).1 h with g | g
  ·have q:G1 m.F m.half v=true:=by
    rcases U0c.1 g with g | g
    ·exact U0m.1 c1.2 v g
    ·exact U0m.1 c2.2 v g
   unfold G1 at q ⊢
   rw [hv v g,L.half];exact q
  ·rw [g];unfold G1
   rw [U0d L.bit,U0d L.age,U5e];rfl
 have hG2:∀ v∈k1++k2,G2 n.F n.W.length (fun i=>decide (i∈k1++k2)) v=true:=fun v h=>by
  unfold G2
  rw [L.len]
  by_cases hkd:n.F v / 4 % 256<8
  ·rw [U0d hkd,U2g]
  ·rw [U0k hkd,U1n,U0m]
   intro x hx
   obtain ⟨j,hj,rfl⟩:=U0l.1 hx
   have hj:=U0u.1 hj
   rcases (hmem v).1 h with g | g
   ·rw [hv v g] at hj hkd
    show Z0b _ _ (n.F (v+1+j))=true
    rw [hfl v g j hj]
    exact Z4o hmore (S.held g hj hkd)
   ·subst g
    rw [L.size] at hj
    exact Z4o (fun i hi=>by cases hi) (L.flds hkd j hj)
 refine ⟨k1++k2,⟨hFit,?_,?_,?_⟩,?_,hmem⟩
 ·unfold MD.objs
  rw [Z1q,d1,Z1q,d2,U3i,U3i,U09 (U0m.2 fun v h=>hG1 v (U2q _ h)),U09 (U0m.2 fun v h=>hG1 v (U2k _ h))]
 ·unfold MD.holdB
  rw [Z0q d1,Z0q d2,<-U2s,U0m]
  exact hG2
 ·have:=S.2.2.2
  unfold MD.restB at this ⊢
  rw [L.len,L.R,L.K,L.I]
  simp only [U0i,U0m] at this ⊢
  exact ⟨fun x hx=>Z4o hmore (this.1 x hx),fun x hx=>Z4o hmore (this.2.1 x hx),Zke hmore this.2.2⟩
 ·unfold MD.cardsB at hC ⊢
  rw [Z0q c2.1,U0m] at hC
  rw [Z0q d2,U0m]
  intro v h
  rcases (hk2 v).1 h with g | g
  ·have q:=hC v g
   have gm:=U2k l1 g
   unfold G3 at q ⊢
   rw [hv v gm]
   by_cases hkd:m.F v / 4 % 256<8
   ·rw [U0d hkd,U2g]
   ·rw [U0k hkd,U1n,U0m] at q ⊢
    intro j hj
    have:=q j hj
    unfold Z5m at this ⊢
    rw [hfl v gm j (U0u.1 hj),L.half,L.card]
    unfold MD.Cf at this ⊢
    rw [L.C];exact this
  ·obtain ⟨_,rfl⟩:=g
   unfold G3
   by_cases hkd:n.F v / 4 % 256<8
   ·rw [U0d hkd,U2g]
   ·rw [U0k hkd,U1n,U0m]
    intro j hj
    have hj:=U0u.1 hj
    rw [L.size] at hj
    unfold Z5m
    rw [Zg8 (L.flds hkd j hj)];rfl
end
section
structure HRel (m:MD) (vs:List Nat) (M:MO) (S:Nat->Prop) (φ:Nat->Nat):Prop where
 shape:m.Shape vs
 cards:m.cardsB=true
 h64:MD64 m
 ok:MOok M
 inN:∀ i,S i->i<M.N.length
 rel:RelM M m.R m.F vs S φ
variable {m n:MD}{vs us:List Nat}{M:MO}{S:Nat->Prop}{φ:Nat->Nat}
theorem HRel.kept (h:HRel m vs M S φ) (hs:n.Shape us) (hc:n.cardsB=true) (h6:MD64 n) {S':Nat->Prop}{ψ:Nat->Nat} (I:Iso m.F n.F S' ψ) (hR:n.R=m.R.map (mvI ψ)) (hr:∀ x∈m.R,Z4r S' x) (hu:∀ f,S' f->ψ f∈us):HRel n us M (fun i=>S i/\S' (φ i)) (fun i=>ψ (φ i)):=
 ⟨hs,hc,h6,h.ok,fun i hi=>h.inN i hi.1,h.rel.kept I hR hr hu⟩
theorem HRel.few (h:HRel m vs M S φ) {f:Nat} (hf:f∈vs):f<300000:=by
 have h1:=(h.shape.fine f hf).2
 obtain ⟨⟨a0,a1,a2,a3,a4,a5⟩,hw,hc,u0,u1,t0,t1,o0,o1⟩:=h.shape.1
 omega
theorem HRel.word (h:HRel m vs M S φ) {c:CL} (hc:Zdd S c) (hk:CLok c):Z0b m.W.length (fun i=>decide (i∈vs)) (wdC φ c)=true/\0<=wdC φ c/\wdC φ c<18446744073709551616:=by
 unfold wdC
 by_cases h4:c.kind=4
 ·obtain ⟨d,_,hv,_⟩:=h.rel.has _ (hc h4)
  have h1:=(h.shape.fine _ hv).2
  have h2:=h.few hv
  rw [U09 h4]
  refine ⟨?_,by omega,by omega⟩
  unfold Z0b
  rw [U08 (by omega),U08 (by omega),U47]
  right
  unfold Z2y
  have e:((((φ c.ref:Int)+1)*4) / 4 - 1).toNat=φ c.ref:=by omega
  rw [e,U0d (by omega),U0d (by omega)]
  show (true && (true && decide (φ c.ref∈vs)))=true
  rw [U0d hv]
  rfl
 ·rw [U08 h4]
  by_cases h3:c.kind=3
  ·rw [U09 h3]
   refine ⟨?_,by omega,by omega⟩
   unfold Z0b
   rw [U09 (by omega)]
  ·rw [U08 h3]
   have:=hk.kind
   refine ⟨?_,by omega,by omega⟩
   unfold Z0b
   rw [U08 (by omega),U09 (by omega),U0d (by omega)]
theorem HRel.root (h:HRel m vs M S φ) (r:Nat) {c:CL} (hc:Zdd S c) (hk:CLok c):HRel { m with R:=m.R.set r (wdC φ c) } vs { M with R:=M.R.set r c } S φ where
 shape:=by
  obtain ⟨h1,h2,h3,h4⟩:=h.shape
  refine ⟨h1,h2,h3,?_⟩
  unfold MD.restB at h4 ⊢
  rw [U0i] at h4 ⊢
  refine ⟨?_,h4.2⟩
  rw [U0m] at h4 ⊢
  intro x hx
  rcases U1o hx with q | q
  ·exact h4.1 x q
  ·rw [q];exact (h.word hc hk).1
 cards:=h.cards
 h64:=by
  obtain ⟨a,b,c',d⟩:=h.h64
  refine ⟨a,fun x hx => ?_,c',d⟩
  rcases U1o hx with q | q
  ·exact b x q
  ·rw [q];exact (h.word hc hk).2
 ok:=⟨fun x hx=>by
  rcases U1o hx with q | q
  ·exact h.ok.roots x q
  ·rw [q];exact hk,h.ok.flds⟩
 inN:=h.inN
 rel:=h.rel.root r hc
theorem HRel.laid (h:HRel m vs M S φ) {t s:Nat}{y:Bool} (L:Laid m n t s y) (h6:MD64 n) {d:ND} (hk:n.F t / 4 % 256=d.kind) (hf:Z07 n.F t=wdN φ d) (hd:¬ d.kind<8 -> ∀ c∈d.f,Zdd S c/\CLok c) :
  ∃ us,HRel n us { M with N:=M.N ++ [d] } (fun i=>S i\/i=M.N.length) (fun i=>if i=M.N.length then t else φ i):=by
 obtain ⟨hap,hl,us,hs,hc,hm⟩:=L.right h.shape h.cards
 obtain ⟨⟨a0,a1,a2,a3,a4,a5⟩,hw,_,u0,u1,t0,t1,o0,o1⟩:=h.shape.1
 have hsame:RelM M n.R n.F us S φ:=by
  rw [L.R]
  refine h.rel.same fun i hi => ?_
  obtain ⟨d',_,hv,_⟩:=h.rel.has i hi
  have ha:=hap _ hv
  have e:n.F (φ i)=m.F (φ i):=L.same _ (by omega)
  refine ⟨by rw [e],?_,(hm _).2 (.inl hv)⟩
  unfold Z07
  rw [e]
  exact U15 fun j hj=>L.same _ (by have:=U0u.1 hj;omega)
 refine ⟨us,hs,hc,h6,⟨h.ok.roots,fun x hx => ?_⟩,fun i hi => ?_,?_⟩
 ·rcases U0c.1 hx with q | q
  ·exact h.ok.flds x q
  ·simp at q;rw [q];exact fun q c hc=>(hd q c hc).2
 ·show i<(M.N ++ [d]).length
  rw [U0f]
  rcases hi with q | q
  ·have:=h.inN i q;omega
  ·simp;omega
 ·refine hsame.make h.inN ((hm t).2 (.inr rfl)) (fun i hi => ?_) (by omega) hk hf (fun q c hc=>(hd q c hc).1)
  obtain ⟨d',_,hv,_⟩:=h.rel.has i hi
  have:=hap _ hv
  omega
end
section
theorem Z1r {F:Nat->Int}{G:Nat->Bool} : ∀ {n a t:Nat}{l:List Nat},Z09 F G n a t=some l -> ∀ v∈l,∀ u∈l,u<=v\/v+1+szN (F v)<=u
 | 0,a,t,l,h=>by unfold Z09 at h;cases h;intro v hv;cases hv
 | n+1,a,t,l,h=>by
  unfold Z09 at h
  split at h
  ·split at h
   ·obtain ⟨l',h',rfl⟩:=U1i.1 h
    intro v hv u hu
    rcases U19.1 hv with hva | hv'
    ·rcases U19.1 hu with hua | hu'
     ·exact .inl (by omega)
     ·exact .inr (by rw [hva];exact (Z0o h' u hu').1)
    ·rcases U19.1 hu with hua | hu'
     ·have:=(Z0o h' v hv').1
      exact .inl (by omega)
     ·exact Z1r h' v hv' u hu'
   ·cases h
  ·cases h;intro v hv;cases hv
theorem Z51 (m:MD) (y:Nat) (x:Int):m.put y x = { m with W:=m.W.set y x,C:=if 2*m.half<=(y:Int)/\Z14 m.half x=true then m.C.set (Z35 m.half m.card y) true else m.C }:=by
 unfold MD.put MD.setC MD.setW
 split <;> rfl
theorem Zj4 {m:MD}{vs:List Nat} (S:m.Shape vs) (hC:m.cardsB=true) {f k:Nat}{x:Int} (hf:f∈vs) (hk:k<szN (m.F f)) (hx:Z0b m.W.length (fun i=>decide (i∈vs)) x=true):(m.put (f+1+k) x).Shape vs/\(m.put (f+1+k) x).cardsB=true:=by
 obtain ⟨y,hy⟩:∃ y,y=f+1+k:=⟨_,rfl⟩
 rw [<-hy]
 have hff:=S.fine f hf
 have hyl:y<m.W.length:=by omega
 obtain ⟨l1,l2,e,e1,e2⟩:=S.bare
 have b1:=Z0h.1 e1
 have b2:=Z0h.1 e2
 have P:=MD.parts S.1
 have hm0:=P.m0
 have hn1:(m.n1:Int)<=2*m.half:=by
  obtain ⟨⟨a0,a1,a2,a3,a4,a5⟩,hw,_,u0,u1,t0,t1,o0,o1⟩:=S.1
  have c1:=P.n1
  obtain e | e:m.used=0\/m.used=1:=by omega
  ·rw [e,U2x] at c1;omega
  ·rw [e,U2z] at c1;omega
 have hno:∀ v∈vs,v≠y:=fun v hv he=>by
  subst he
  rw [e] at hv hf
  rcases U0c.1 hv with h | h
  ·have q1:=Z0o e1 _ h
   rcases U0c.1 hf with g | g
   ·have:=Z1r e1 f g _ h
    omega
   ·have:=Z0o e2 f g
    omega
  ·have q1:=Z0o e2 _ h
   rcases U0c.1 hf with g | g
   ·have:=Z0o e1 f g
    omega
   ·have:=Z1r e2 f g _ h
    omega
 obtain ⟨m',hm'⟩:∃ m',m'=m.put y x:=⟨_,rfl⟩
 rw [<-hm']
 rw [Z51] at hm'
 have hW:m'.W=m.W.set y x:=by rw [hm']
 have hF:∀ i,i≠y->m'.F i=m.F i:=fun i hi=>by
  unfold MD.F
  rw [hW,U07,U07,U1c (fun h=>hi h.symm)]
 have hFy:m'.F y=x:=by
  unfold MD.F
  rw [hW,U07,U18 hyl]
  rfl
 have hl:m'.W.length=m.W.length:=by rw [hW,U0t]
 have hCl:m'.C.length=m.C.length:=by rw [hm'];show (if _ then _ else _:List Bool).length=_;split <;> simp
 have hFit:m'.FitsM:=by
  have:=S.1
  unfold MD.FitsM
  rw [hl,hCl,hm']
  exact this
 have hn0':m'.n0=m.n0:=by rw [hm'];rfl
 have hn1':m'.n1=m.n1:=by rw [hm'];rfl
 have hm0':m'.m0=m.m0:=by rw [hm'];rfl
 have hm1':m'.m1=m.m1:=by rw [hm'];rfl
 have hh':m'.half=m.half:=by rw [hm']
 have hc':m'.card=m.card:=by rw [hm']
 have hv1:∀ v∈l1,m'.F v=m.F v:=fun v hv=>hF v (hno v (by rw [e];exact U2q _ hv))
 have hv2:∀ v∈l2,m'.F v=m.F v:=fun v hv=>hF v (hno v (by rw [e];exact U2k _ hv))
 have d1:=Z3c b1.1 hv1
 have d2:=Z3c b2.1 hv2
 have hO:m'.objs=some vs:=by
  have ho:=S.2.1
  unfold MD.objs at ho ⊢
  rw [Z1q,b1.1,Z1q,b2.1] at ho
  rw [hn0',hn1',hm0',hm1',hh',Z1q,d1,Z1q,d2]
  have g1:l1.all (G1 m'.F m.half)=l1.all (G1 m.F m.half):=Z2x fun v hv=>by unfold G1;rw [hv1 v hv]
  have g2:l2.all (G1 m'.F m.half)=l2.all (G1 m.F m.half):=Z2x fun v hv=>by unfold G1;rw [hv2 v hv]
  rw [U3i,U3i,g1,g2]
  exact ho
 have hH:m'.holdB vs=true:=by
  unfold MD.holdB
  rw [hn0',hn1',hm0',hm1',Z0q d1,Z0q d2,<-U2s,<-e,U0m,hl]
  intro v hv
  unfold G2
  rw [hF v (hno v hv)]
  by_cases hkd:m.F v / 4 % 256<8
  ·rw [U0d hkd,U2g]
  ·rw [U0k hkd,U1n,U0m]
   intro z hz
   obtain ⟨j,hj,rfl⟩:=U0l.1 hz
   rw [hF v (hno v hv)] at hj
   have hj:=U0u.1 hj
   by_cases he:v+1+j=y
   ·show Z0b _ _ (m'.F (v+1+j))=true
    rw [he,hFy]
    exact hx
   ·show Z0b _ _ (m'.F (v+1+j))=true
    rw [hF _ he]
    exact S.held hv hj hkd
 have hR:m'.restB vs=true:=by
  have:=S.2.2.2
  unfold MD.restB at this ⊢
  rw [hl,hm']
  exact this
 refine ⟨⟨hFit,hO,hH,hR⟩,?_⟩
 unfold MD.cardsB
 rw [hm0',hm1',Z0q d2,U0m,hh',hc']
 intro v hv
 have hvm:v∈vs:=by rw [e];exact U2k _ hv
 have hlo:=(Z0o e2 v hv).1
 unfold G3
 rw [hv2 v hv]
 by_cases hkd:m.F v / 4 % 256<8
 ·rw [U0d hkd,U2g]
 ·rw [U0k hkd,U1n,U0m]
  intro j hj
  have hj:=U0u.1 hj
  have hvf:=S.fine v hvm
  have hup:∀ i,m.Cf i=true->m'.Cf i=true:=fun i hi=>by
   unfold MD.Cf at hi ⊢
   rw [hm']
   show (if _ then _ else _:List Bool).getD i false=true
   split
   ·rw [U07,U4i] at *
    split
    ·split
     ·rfl
     ·rename_i h1 h2
      subst h1
      rw [U14 (by omega)] at hi
      exact hi
    ·exact hi
   ·exact hi
  unfold Z5m
  by_cases hyo:Z14 m.half (m'.F (v+1+j))=true
  ·rw [hyo,U1v,Bool.not_not]
   by_cases he:v+1+j=y
   ·rw [he] at hyo ⊢
    rw [hFy] at hyo
    have hyo2:2*m.half<=(y:Int):=by omega
    obtain ⟨d,q,_,_,hq,hcn⟩:=Zc4 S.1 hyo2 hyl
    unfold MD.Cf
    rw [hm']
    show (if _ then _ else _:List Bool).getD _ false=true
    rw [U09 ⟨hyo2,hyo⟩,U07,U18 (by rw [hcn];exact hq)]
    rfl
   ·rw [hF _ he] at hyo
    exact hup _ (S.carded hC hvm hj hkd (by omega) hyo)
  ·rw [Bool.not_eq_true] at hyo
   rw [hyo,U1s]
   rfl
variable {m:MD}{vs:List Nat}{M:MO}{S:Nat->Prop}{φ:Nat->Nat}
theorem HRel.apart (h:HRel m vs M S φ):∀ v∈vs,∀ u∈vs,u=v\/v+1+szN (m.F v)<=u\/u+1+szN (m.F u)<=v:=by
 obtain ⟨l1,l2,e,e1,e2⟩:=h.shape.bare
 obtain ⟨p1,p2,p3,p4⟩:=MD.parts h.shape.1
 obtain ⟨⟨a0,a1,a2,a3,a4,a5⟩,hw,_,u0,u1,t0,t1,o0,o1⟩:=h.shape.1
 have huh:m.used*m.half=0\/m.used*m.half=m.half:=by
  obtain e | e:m.used=0\/m.used=1:=by omega
  ·rw [e,U2x];exact .inl rfl
  ·rw [e,U2z];exact .inr rfl
 have hn1:m.n1<=m.m0:=by omega
 intro v hv u hu
 rw [e] at hv hu
 rcases U0c.1 hv with g | g <;> rcases U0c.1 hu with k | k
 ·have:=Z1r e1 v g u k
  have:=Z1r e1 u k v g
  omega
 ·have:=Z0o e1 v g
  have:=Z0o e2 u k
  omega
 ·have:=Z0o e2 v g
  have:=Z0o e1 u k
  omega
 ·have:=Z1r e2 v g u k
  have:=Z1r e2 u k v g
  omega
theorem HRel.put (h:HRel m vs M S φ) {i k:Nat}{d:ND}{c:CL} (hi:S i) (hd:M.N[i]?=some d) (hk8:¬ d.kind<8) (hk:k<d.f.length) (hc:Zdd S c) (hok:CLok c) :
  HRel (m.put (φ i+1+k) (wdC φ c)) vs { M with N:=M.N.set i { d with f:=d.f.set k c } } S φ:=by
 obtain ⟨d',h1,hv,h3,h4,h5⟩:=h.rel.has i hi
 obtain rfl:d=d':=by rw [hd] at h1;exact U1h h1
 have hsz:szN (m.F (φ i))=d.f.length:=by
  have:=congrArg List.length h4
  unfold Z07 wdN at this
  rw [U08 hk8] at this
  simpa using this
 have hfine:=(h.shape.fine _ hv).2
 obtain ⟨hs,hcd⟩:=Zj4 h.shape h.cards hv (show k<szN (m.F (φ i)) by omega) (h.word hc hok).1
 have hw:=(h.word hc hok).2
 obtain ⟨x,hx⟩:∃ x,x=wdC φ c:=⟨_,rfl⟩
 rw [<-hx] at hs hcd hw ⊢
 have hF:∀ z,z≠φ i+1+k->(m.put (φ i+1+k) x).F z=m.F z:=fun z hz=>by
  unfold MD.F
  rw [Z51]
  show (m.W.set _ x).getD z 0=_
  rw [U07,U07,U1c (fun q=>hz q.symm)]
 have hFy:(m.put (φ i+1+k) x).F (φ i+1+k)=x:=by
  unfold MD.F
  rw [Z51]
  show (m.W.set _ x).getD _ 0=_
  rw [U07,U18 (by omega)]
  rfl
 have hR:(m.put (φ i+1+k) x).R=m.R:=by rw [Z51]
 have h64:MD64 (m.put (φ i+1+k) x):=by
  obtain ⟨a,b,c',e⟩:=h.h64
  rw [Z51]
  refine ⟨fun z hz => ?_,b,c',e⟩
  rcases U1o hz with q | q
  ·exact a z q
  ·rw [q];exact hw
 obtain ⟨G,hG⟩:∃ G,G=(m.put (φ i+1+k) x).F:=⟨_,rfl⟩
 have hlt:i<M.N.length:=h.inN i hi
 refine ⟨hs,hcd,h64,⟨h.ok.roots,fun e he hk8' c' hc' => ?_⟩,fun j hj=>by show j<(M.N.set i _).length;rw [U0t];exact h.inN j hj,?_⟩
 ·rcases U1o he with q | q
  ·exact h.ok.flds e q hk8' c' hc'
  ·rw [q] at hc'
   rcases U1o hc' with q | q
   ·exact h.ok.flds d (U0a hd) hk8 c' q
   ·rw [q];exact hok
 rw [hR,<-hG]
 rw [<-hG] at hF hFy
 have ap:∀ j,S j->φ j≠φ i+1+k/\(j≠i -> ∀ z,z<szN (m.F (φ j))->φ j+1+z≠φ i+1+k):=fun j hj=>by
  obtain ⟨_,_,hvj,_⟩:=h.rel.has j hj
  have a:=h.apart _ hv _ hvj
  refine ⟨by omega,fun hne z hz => ?_⟩
  have:φ j≠φ i:=fun q=>hne (h.rel.inj j i hj hi q)
  omega
 refine h.rel.put hi hd hk8 hc (fun j hj=>by rw [hF _ (ap j hj).1]) (fun j hj hne => ?_) ?_
 ·unfold Z07
  rw [hF _ (ap j hj).1]
  exact U15 fun z hz=>hF _ ((ap j hj).2 hne z (U0u.1 hz))
 ·unfold Z07
  rw [hF _ (ap i hi).1,<-hx]
  refine U24 fun z => ?_
  rw [U4i,U0g,U0g]
  by_cases q:k=z
  ·subst q
   rw [U09 rfl,U09 (by simp;omega),U1u (show k<szN (m.F (φ i)) by omega)]
   show some (G (φ i+1+k))=_
   rw [hFy]
  ·rw [U08 q]
   cases hz:(List.range (szN (m.F (φ i))))[z]? with
   | none=>rfl
   | some z' =>
    obtain ⟨hz1,hz2⟩:=U0e.1 hz
    rw [List.getElem_range] at hz2
    show some (G (φ i+1+z'))=some (m.F (φ i+1+z'))
    rw [hF _ (by omega)]
end
end Go.Proofs.YtlkcbdinlfeoiaaGreatDoor
