import Derived.Test.YtlkcbdinlfeoiaaGreatDoorKnAE
import Derived.Test.YtlkcbdinlfeoiaaGreatDoorKnAF
namespace Go.Proofs.YtlkcbdinlfeoiaaGreatDoor
open Go.Proofs.Tryz
open Go.RowKit

structure CL where
 kind:Nat
 n:Int
 ref:Nat
structure ND where
 kind:Int
 raw:List Int
 f:List CL
structure MO where
 R:List CL
 N:List ND
def wdC (φ:Nat→Nat) (c:CL):Int:=if c.kind=4 then ((φ c.ref:Int)+1)*4 else if c.kind=3 then (c.n*4+1) % 18446744073709551616 else (c.kind:Int)*4+2
def wdN (φ:Nat→Nat) (d:ND):List Int:=if d.kind<8 then d.raw else d.f.map (wdC φ)
def Zdu (S:Nat→Prop) (c:CL):Prop:=c.kind=4→S c.ref
theorem Zsr {φ:Nat→Nat}{c:CL} (h:c.kind≠4):¬ 0≤ptI (wdC φ c):=by
 unfold wdC ptI
 rw [if_neg h]
 split <;> split <;> omega
theorem Zib {φ:Nat→Nat}{c:CL} (h:c.kind=4) (hf:φ c.ref<1099511627776):ptI (wdC φ c)=(φ c.ref:Int):=by
 unfold wdC
 rw [if_pos h,Z86 hf]
theorem Zsp {φ ψ:Nat→Nat}{c:CL} (hf:c.kind=4→φ c.ref<1099511627776):mvI ψ (wdC φ c)=wdC (fun i=>ψ (φ i)) c:=by
 by_cases h:c.kind=4
 ·have hp:=Zib h (hf h)
  unfold mvI
  rw [if_pos (by omega),hp]
  unfold wdC
  rw [if_pos h]
  simp
 ·rw [Zcg (Zsr h)]
  unfold wdC
  rw [if_neg h,if_neg h]
theorem Zsq {S':Nat→Prop}{φ:Nat→Nat}{c:CL} (hf:c.kind=4→φ c.ref<1099511627776) (h:Z4y S' (wdC φ c)):Zdu (fun i=>S' (φ i)) c:=fun hk=>by
 have hp:=Zib hk (hf hk)
 have:=h (by omega)
 rw [hp] at this
 simpa using this

structure RelM (M:MO) (R:List Int) (F:Nat→Int) (us:List Nat) (S:Nat→Prop) (φ:Nat→Nat):Prop where
 inj:∀ i j,S i→S j→φ i=φ j→i=j
 few:∀ i,S i→φ i<1099511627776
 has:∀ i,S i → ∃ d,M.N[i]?=some d∧φ i∈us∧F (φ i) / 4 % 256=d.kind∧Z07 F (φ i)=wdN φ d∧(¬ d.kind<8 → ∀ c∈d.f,Zdu S c)
 roots:R=M.R.map (wdC φ)
 rin:∀ c∈M.R,Zdu S c
theorem RelM.kept {M:MO}{R R':List Int}{F G:Nat→Int}{vs us:List Nat}{S S':Nat→Prop}{φ ψ:Nat→Nat} (h:RelM M R F vs S φ) (I:Iso F G S' ψ) (hR:R'=R.map (mvI ψ)) (hr:∀ x∈R,Z4y S' x) (hu:∀ f,S' f→ψ f∈us):RelM M R' G us (fun i=>S i∧S' (φ i)) (fun i=>ψ (φ i)) where
 inj i j hi hj e:=h.inj i j hi.1 hj.1 (I.inj _ _ hi.2 hj.2 e)
 few i hi:=I.few _ hi.2
 has i hi:=by
  obtain ⟨d,h1,h2,h3,h4,h5⟩:=h.has i hi.1
  have hfl:=I.fields hi.2
  refine ⟨d,h1,hu _ hi.2,(I.kind _ hi.2).trans h3,?_,fun hk c hc => ?_⟩
  ·rw [hfl,h3,h4]
   unfold wdN
   by_cases hk:d.kind<8
   ·rw [if_pos hk,if_pos hk,if_pos hk]
   ·rw [if_neg hk,if_neg hk,if_neg hk,List.map_map]
    exact List.map_congr_left fun c hc=>Zsp (fun h'=>h.few _ (h5 hk c hc h'))
  ·intro h4'
   have hs:=h5 hk c hc h4'
   refine ⟨hs,?_⟩
   have hp:=I.ptIn hi.2 (by rw [h3];exact hk) (wdC φ c) (by rw [h4];unfold wdN;rw [if_neg hk];exact List.mem_map_of_mem hc)
   exact Zsq (fun _=>h.few _ hs) hp h4'
 roots:=by
  rw [hR,h.roots,List.map_map]
  exact List.map_congr_left fun c hc=>Zsp (fun h'=>h.few _ (h.rin c hc h'))
 rin c hc h4:=by
  have hs:=h.rin c hc h4
  refine ⟨hs,Zsq (fun _=>h.few _ hs) (hr _ ?_) h4⟩
  rw [h.roots];exact List.mem_map_of_mem hc

def Z7q (out:List Nat) (c:CL):List Nat:=if c.kind=4∧c.ref ∉ out then out ++ [c.ref] else out
def Z30 (out:List Nat) (l:List CL):List Nat:=l.foldl Z7q out
def Zc5 (M:MO) (out:List Nat) (i:Nat):List Nat:=match M.N[i]? with
 | none=>out
 | some d=>if d.kind<8 then out else Z30 out d.f
def Z2h (M:MO):Nat→List Nat→Nat→List Nat
 | 0,out,_=>out
 | n+1,out,k=>match out[k]? with
  | none=>out
  | some i=>Z2h M n (Zc5 M out i) (k+1)
variable {M:MO}{R:List Int}{F:Nat→Int}{us:List Nat}{S:Nat→Prop}{φ:Nat→Nat}
theorem RelM.objI (h:RelM M R F us S φ) {out:List Nat} (ho:∀ g∈out,S g) {i:Nat} (hi:S i):objI (out.map φ) (φ i:Int)<0 ↔ i ∉ out:=by
 rw [Z83 h.inj hi ho]
 have:=Z2c (vs:=out) (f:=i)
 constructor
 ·intro h1 h2
  have:=this.2 h2
  omega
 ·intro h1
  exact Int.not_le.1 (fun h2=>h1 (this.1 h2))
theorem RelM.meet (h:RelM M R F us S φ) {out:List Nat} (ho:∀ g∈out,S g) {c:CL} (hc:Zdu S c):Z2b (out.map φ) (wdC φ c)=(Z7q out c).map φ ∧ ∀ g∈Z7q out c,S g:=by
 unfold Z2b Z7q
 by_cases hk:c.kind=4
 ·have hs:=hc hk
  have hp:=Zib hk (h.few _ hs)
  rw [hp]
  have hb:=h.objI ho hs
  by_cases hi:c.ref ∉ out
  ·rw [if_pos ⟨by omega,hb.2 hi⟩,if_pos ⟨hk,hi⟩,List.map_append]
   refine ⟨by simp,fun g hg => ?_⟩
   rcases List.mem_append.1 hg with hg | hg
   ·exact ho g hg
   ·simp at hg;rw [hg];exact hs
  ·rw [if_neg (fun c=>hi (hb.1 c.2)),if_neg (fun c=>hi c.2)]
   exact ⟨rfl,ho⟩
 ·rw [if_neg (fun c=>Zsr hk c.1),if_neg (fun c=>hk c.1)]
  exact ⟨rfl,ho⟩
theorem RelM.meets (h:RelM M R F us S φ):∀ {l:List CL}{out:List Nat},(∀ g∈out,S g)→(∀ c∈l,Zdu S c)→Z0o (out.map φ) (l.map (wdC φ))=(Z30 out l).map φ ∧ ∀ g∈Z30 out l,S g
 | [],out,ho,_=>⟨rfl,ho⟩
 | c::l,out,ho,hl=>by
  obtain ⟨e,h1⟩:=h.meet ho (hl c (by simp))
  have ih:=h.meets (l:=l) h1 (fun y hy=>hl y (by simp [hy]))
  show Z0o (Z2b (out.map φ) (wdC φ c)) (l.map (wdC φ))=(Z30 (Z7q out c) l).map φ∧_
  rw [e]
  exact ih
theorem RelM.step (h:RelM M R F us S φ) {out:List Nat} (ho:∀ g∈out,S g) {i:Nat} (hi:S i):Z36 F (out.map φ) (φ i)=(Zc5 M out i).map φ ∧ ∀ g∈Zc5 M out i,S g:=by
 obtain ⟨d,h1,h2,h3,h4,h5⟩:=h.has i hi
 unfold Z36 Zc5
 rw [h1,h3,h4]
 by_cases hk:d.kind<8
 ·rw [if_pos hk]
  show _=((if d.kind<8 then out else _).map φ) ∧ ∀ g∈(if d.kind<8 then out else _),S g
  rw [if_pos hk];exact ⟨rfl,ho⟩
 ·rw [if_neg hk]
  show _=((if d.kind<8 then out else Z30 out d.f).map φ) ∧ ∀ g∈(if d.kind<8 then out else Z30 out d.f),S g
  unfold wdN
  rw [if_neg hk,if_neg hk]
  exact h.meets ho (h5 hk)
theorem RelM.reach (h:RelM M R F us S φ):∀ (n:Nat) (out:List Nat) (k:Nat),(∀ g∈out,S g)→Z0z F n (out.map φ) k=(Z2h M n out k).map φ ∧ ∀ g∈Z2h M n out k,S g
 | 0,out,_,ho=>⟨rfl,ho⟩
 | n+1,out,k,ho=>by
  unfold Z0z Z2h
  rw [List.getElem?_map]
  cases e:out[k]? with
  | none=>exact ⟨rfl,ho⟩
  | some i =>
   obtain ⟨e1,h1⟩:=h.step ho (ho i (List.mem_of_getElem? e))
   show Z0z F n (Z36 F (out.map φ) (φ i)) (k+1)=_∧_
   rw [e1]
   exact h.reach n _ (k+1) h1
end Go.Proofs.YtlkcbdinlfeoiaaGreatDoor
namespace Go.Proofs.YtlkcbdinlfeoiaaGreatDoor
open Go.Proofs.Tryz
open Go.RowKit

variable {M:MO}{R:List Int}{F:Nat→Int}{us:List Nat}{S:Nat→Prop}{φ:Nat→Nat}
theorem RelM.root (h:RelM M R F us S φ) (r:Nat) {c:CL} (hc:Zdu S c):RelM { M with R:=M.R.set r c } (R.set r (wdC φ c)) F us S φ where
 inj:=h.inj
 few:=h.few
 has:=h.has
 roots:=by rw [h.roots,List.map_set]
 rin d hd:=by
  rcases List.mem_or_eq_of_mem_set hd with h1 | h1
  ·exact h.rin d h1
  ·rw [h1];exact hc
theorem RelM.same (h:RelM M R F us S φ) {G:Nat→Int}{vs:List Nat} (hk:∀ i,S i→G (φ i) / 4 % 256=F (φ i) / 4 % 256∧Z07 G (φ i)=Z07 F (φ i)∧φ i∈vs):RelM M R G vs S φ where
 inj:=h.inj
 few:=h.few
 has i hi:=by
  obtain ⟨d,h1,h2,h3,h4,h5⟩:=h.has i hi
  obtain ⟨k1,k2,k3⟩:=hk i hi
  exact ⟨d,h1,k3,k1.trans h3,k2.trans h4,h5⟩
 roots:=h.roots
 rin:=h.rin
theorem Z91 {φ ψ:Nat→Nat}{c:CL} (h:c.kind=4→ψ c.ref=φ c.ref):wdC ψ c=wdC φ c:=by
 unfold wdC
 by_cases hk:c.kind=4
 ·rw [if_pos hk,if_pos hk,h hk]
 ·rw [if_neg hk,if_neg hk]
theorem Z9n {S:Nat→Prop}{φ ψ:Nat→Nat}{d:ND} (h:∀ i,S i→ψ i=φ i) (hd:¬ d.kind<8 → ∀ c∈d.f,Zdu S c):wdN ψ d=wdN φ d:=by
 unfold wdN
 by_cases hk:d.kind<8
 ·rw [if_pos hk,if_pos hk]
 ·rw [if_neg hk,if_neg hk]
  exact List.map_congr_left fun c hc=>Z91 (fun h4=>h _ (hd hk c hc h4))
theorem RelM.make (h:RelM M R F us S φ) (hS:∀ i,S i→i<M.N.length) {t:Nat} (ht:t∈us) (hts:∀ i,S i→φ i≠t) (htf:t<1099511627776) {d:ND} (hk:F t / 4 % 256=d.kind) (hf:Z07 F t=wdN φ d) (hd:¬ d.kind<8 → ∀ c∈d.f,Zdu S c) :
  RelM { M with N:=M.N ++ [d] } R F us (fun i=>S i∨i=M.N.length) (fun i=>if i=M.N.length then t else φ i):=by
 have e:∀ i,S i→(if i=M.N.length then t else φ i)=φ i:=fun i hi=>if_neg (by have:=hS i hi;omega)
 refine ⟨?_,?_,?_,?_,?_⟩
 ·rintro i j (hi | hi) (hj | hj)
  ·rw [e i hi,e j hj];exact h.inj i j hi hj
  ·rw [e i hi,if_pos hj];exact fun q=>absurd q (hts i hi)
  ·rw [if_pos hi,e j hj];exact fun q=>absurd q.symm (hts j hj)
  ·intro _;rw [hi,hj]
 ·rintro i (hi | hi)
  ·show (if i=M.N.length then t else φ i)<_
   rw [e i hi];exact h.few i hi
  ·show (if i=M.N.length then t else φ i)<_
   rw [if_pos hi];exact htf
 ·rintro i (hi | hi)
  ·obtain ⟨d',h1,h2,h3,h4,h5⟩:=h.has i hi
   have hl:=hS i hi
   refine ⟨d',?_,?_,?_,?_,fun q c hc h4=>Or.inl (h5 q c hc h4)⟩
   ·show (M.N ++ [d])[i]?=_
    rw [List.getElem?_append_left hl];exact h1
   ·show (if i=M.N.length then t else φ i)∈us
    rw [e i hi];exact h2
   ·show F (if i=M.N.length then t else φ i) / 4 % 256=_
    rw [e i hi];exact h3
   ·show Z07 F (if i=M.N.length then t else φ i)=_
    rw [e i hi,h4]
    exact (Z9n e h5).symm
  ·refine ⟨d,?_,?_,?_,?_,fun q c hc h4=>Or.inl (hd q c hc h4)⟩
   ·show (M.N ++ [d])[i]?=_
    rw [hi,List.getElem?_append_right (Nat.le_refl _)];simp
   ·show (if i=M.N.length then t else φ i)∈us
    rw [if_pos hi];exact ht
   ·show F (if i=M.N.length then t else φ i) / 4 % 256=_
    rw [if_pos hi];exact hk
   ·show Z07 F (if i=M.N.length then t else φ i)=_
    rw [if_pos hi,hf]
    exact (Z9n e hd).symm
 ·show R=M.R.map _
  rw [h.roots]
  exact (List.map_congr_left fun c hc=>(Z91 (fun h4=>e _ (h.rin c hc h4)))).symm
 ·exact fun c hc h4=>Or.inl (h.rin c hc h4)
theorem RelM.put (h:RelM M R F us S φ) {G:Nat→Int}{i k:Nat}{d:ND}{c:CL} (hi:S i) (hd:M.N[i]?=some d) (hk8:¬ d.kind<8) (hc:Zdu S c)
  (hk:∀ j,S j→G (φ j) / 4 % 256=F (φ j) / 4 % 256) (ho:∀ j,S j→j≠i→Z07 G (φ j)=Z07 F (φ j)) (hf:Z07 G (φ i)=(Z07 F (φ i)).set k (wdC φ c)) :
  RelM { M with N:=M.N.set i { d with f:=d.f.set k c } } R G us S φ where
 inj:=h.inj
 few:=h.few
 has j hj:=by
  obtain ⟨d',h1,h2,h3,h4,h5⟩:=h.has j hj
  by_cases e:j=i
  ·subst e
   obtain rfl:d=d':=by rw [hd] at h1;exact Option.some.inj h1
   refine ⟨{ d with f:=d.f.set k c },?_,h2,(hk j hj).trans h3,?_,fun _ x hx => ?_⟩
   ·show (M.N.set j _)[j]?=_
    rw [List.getElem?_set_self (by
     rcases Nat.lt_or_ge j M.N.length with q | q
     ·exact q
     ·rw [List.getElem?_eq_none q] at hd;cases hd)]
   ·rw [hf,h4]
    unfold wdN
    rw [if_neg hk8]
    show _=if d.kind<8 then _ else (d.f.set k c).map (wdC φ)
    rw [if_neg hk8,List.map_set]
   ·rcases List.mem_or_eq_of_mem_set hx with q | q
    ·exact h5 hk8 x q
    ·rw [q];exact hc
  ·refine ⟨d',?_,h2,(hk j hj).trans h3,(ho j hj e).trans h4,h5⟩
   show (M.N.set i _)[j]?=_
   rw [List.getElem?_set_ne (fun q=>e q.symm)];exact h1
 roots:=h.roots
 rin:=h.rin
end Go.Proofs.YtlkcbdinlfeoiaaGreatDoor
namespace Go.Proofs.YtlkcbdinlfeoiaaGreatDoor
open Go.Proofs.Tryz
open Go.RowKit

structure CLok (c:CL):Prop where
 kind:c.kind≤4
 lo:c.kind=3 → -2305843009213693952≤c.n
 hi:c.kind=3→c.n<2305843009213693952
def Zhj (out:List Nat) (c:CL):ByteArray:=if c.kind=4 then (if objI out (c.ref:Int)<0 then ⟨#[64]⟩ else ⟨#[64]⟩++Z1c (objI out (c.ref:Int))) else if c.kind=3 then Z1c c.n else Z8r (c.kind:Int)
variable {M:MO}{R:List Int}{F:Nat→Int}{us:List Nat}{S:Nat→Prop}{φ:Nat→Nat}
theorem RelM.tell (h:RelM M R F us S φ) {out:List Nat} (ho:∀ g∈out,S g) {c:CL} (hc:Zdu S c) (hk:CLok c):Z10 (out.map φ) (wdC φ c)=Zhj out c:=by
 unfold Zhj
 by_cases h4:c.kind=4
 ·have hs:=hc h4
  have hf:=h.few _ hs
  have hp:=Zib h4 hf
  have hw:wdC φ c=((φ c.ref:Int)+1)*4:=by unfold wdC;rw [if_pos h4]
  have e:=Z83 h.inj hs ho
  unfold Z10
  rw [if_pos h4,hp,e,hw,if_neg (by omega),if_neg (by omega),if_neg (by omega)]
 ·rw [if_neg h4]
  by_cases h3:c.kind=3
  ·have hw:wdC φ c=(c.n*4+1) % 18446744073709551616:=by unfold wdC;rw [if_neg h4,if_pos h3]
   have h1:=hk.lo h3
   have h2:=hk.hi h3
   have hx:wrap64 ((c.n*4+1) % 18446744073709551616) / 4=c.n:=by unfold wrap64;omega
   unfold Z10
   rw [if_pos h3,hw,if_pos (by omega),hx]
  ·have hw:wdC φ c=(c.kind:Int)*4+2:=by unfold wdC;rw [if_neg h4,if_neg h3]
   have hx:((c.kind:Int)*4+2) / 4=(c.kind:Int):=by omega
   unfold Z10
   rw [if_neg h3,hw,if_neg (by omega),if_pos (by omega),hx]
def Zgv (out:List Nat) (acc:ByteArray) (l:List CL):ByteArray:=l.foldl (fun a c=>((a++sRoot)++Zhj out c)++⟨#[10]⟩) acc
def Zev (out:List Nat) (acc:ByteArray) (l:List CL):ByteArray:=l.foldl (fun a c=>(a++⟨#[32]⟩)++Zhj out c) acc
theorem RelM.rootLines (h:RelM M R F us S φ) {out:List Nat} (ho:∀ g∈out,S g):∀ {l:List CL}{acc:ByteArray},(∀ c∈l,Zdu S c∧CLok c)→Z0d sRoot (out.map φ) acc (l.map (wdC φ))=Zgv out acc l
 | [],_,_=>rfl
 | c::l,acc,hl=>by
  show Z0d sRoot (out.map φ) (Z3z sRoot (out.map φ) acc (wdC φ c)) (l.map (wdC φ))=Zgv out (((acc++sRoot)++Zhj out c)++⟨#[10]⟩) l
  unfold Z3z
  rw [h.tell ho (hl c (by simp)).1 (hl c (by simp)).2]
  exact h.rootLines ho (fun y hy=>hl y (by simp [hy]))
theorem RelM.fieldTexts (h:RelM M R F us S φ) {out:List Nat} (ho:∀ g∈out,S g) {kd:Int} (hk:¬ kd<8):∀ {l:List CL}{acc:ByteArray},(∀ c∈l,Zdu S c∧CLok c)→Z1d kd (out.map φ) acc (l.map (wdC φ))=Zev out acc l
 | [],_,_=>rfl
 | c::l,acc,hl=>by
  show Z1d kd (out.map φ) (Z20 kd (out.map φ) acc (wdC φ c)) (l.map (wdC φ))=Zev out ((acc++⟨#[32]⟩)++Zhj out c) l
  unfold Z20
  rw [if_neg hk,h.tell ho (hl c (by simp)).1 (hl c (by simp)).2]
  exact h.fieldTexts ho hk (fun y hy=>hl y (by simp [hy]))
def Zg3 (T:Int→List Int→ByteArray) (F:Nat→Int) (out:List Nat) (i f:Nat) (acc:ByteArray):ByteArray:=
 if F f / 4 % 256<8 then ((((acc++Z1c (i:Int))++⟨#[32]⟩)++Z1c (F f / 4 % 256))++T (F f / 4 % 256) (Z07 F f))++⟨#[10]⟩ else Z4z F out i f acc
def Z2x (T:Int→List Int→ByteArray) (F:Nat→Int) (out:List Nat) (acc:ByteArray):Nat→ByteArray
 | 0=>acc
 | k+1=>match out[k]? with
  | some f=>Zg3 T F out k f (Z2x T F out acc k)
  | none=>Z2x T F out acc k
def Zq1 (T:Int→List Int→ByteArray) (out:List Nat) (i:Nat) (d:ND) (acc:ByteArray):ByteArray:=
 if d.kind<8 then ((((acc++Z1c (i:Int))++⟨#[32]⟩)++Z1c d.kind)++T d.kind d.raw)++⟨#[10]⟩ else Zev out (((acc++Z1c (i:Int))++⟨#[32]⟩)++Z1c d.kind) d.f++⟨#[10]⟩
def Z7c (T:Int→List Int→ByteArray) (M:MO) (out:List Nat) (acc:ByteArray):Nat→ByteArray
 | 0=>acc
 | k+1=>match out[k]?.bind (fun i=>M.N[i]?) with
  | some d=>Zq1 T out k d (Z7c T M out acc k)
  | none=>Z7c T M out acc k
structure MOok (M:MO):Prop where
 roots:∀ c∈M.R,CLok c
 flds:∀ d∈M.N,¬ d.kind<8 → ∀ c∈d.f,CLok c
theorem RelM.objT (h:RelM M R F us S φ) (hM:MOok M) (T:Int→List Int→ByteArray) {out:List Nat} (ho:∀ g∈out,S g) {i:Nat} (hi:S i) {d:ND} (hd:M.N[i]?=some d) (k:Nat) (acc:ByteArray):Zg3 T F (out.map φ) k (φ i) acc=Zq1 T out k d acc:=by
 obtain ⟨d',h1,h2,h3,h4,h5⟩:=h.has i hi
 obtain rfl:d=d':=by rw [hd] at h1;exact Option.some.inj h1
 have hm:=hM.flds d (List.mem_of_getElem? hd)
 unfold Zg3 Zq1 Z4z
 rw [h3,h4]
 unfold wdN
 by_cases hk:d.kind<8
 ·rw [if_pos hk,if_pos hk,if_pos hk]
 ·rw [if_neg hk,if_neg hk,if_neg hk,h.fieldTexts ho hk (fun c hc=>⟨h5 hk c hc,hm hk c hc⟩)]
theorem RelM.objs (h:RelM M R F us S φ) (hM:MOok M) (T:Int→List Int→ByteArray) {out:List Nat} (ho:∀ g∈out,S g) (acc:ByteArray):∀ k,Z2x T F (out.map φ) acc k=Z7c T M out acc k
 | 0=>rfl
 | k+1=>by
  unfold Z2x Z7c
  rw [List.getElem?_map]
  cases e:out[k]? with
  | none=>exact h.objs hM T ho acc k
  | some i =>
   have hi:=ho i (List.mem_of_getElem? e)
   obtain ⟨d,h1,_⟩:=h.has i hi
   show Zg3 T F (out.map φ) k (φ i) (Z2x T F (out.map φ) acc k)=match M.N[i]? with
    | some d=>Zq1 T out k d (Z7c T M out acc k)
    | none=>Z7c T M out acc k
   rw [h1,h.objs hM T ho acc k]
   exact h.objT hM T ho hi h1 k _
def MO.reach (M:MO) (n:Nat):List Nat:=Z2h M n (Z30 [] M.R) 0
def MO.show (T:Int→List Int→ByteArray) (M:MO) (n:Nat):ByteArray:=Z7c T M (M.reach n) (Zgv (M.reach n) ⟨#[]⟩ M.R) (M.reach n).length
theorem RelM.text (h:RelM M R F us S φ) (hM:MOok M) (T:Int→List Int→ByteArray) (n:Nat) :
  Z0z F n (Z0o [] R) 0=(M.reach n).map φ∧Z2x T F (Z0z F n (Z0o [] R) 0) (Z0d sRoot (Z0z F n (Z0o [] R) 0) ⟨#[]⟩ R) (Z0z F n (Z0o [] R) 0).length=M.show T n:=by
 obtain ⟨e0,s0⟩:=h.meets (l:=M.R) (out:=[]) (by simp) h.rin
 obtain ⟨e1,s1⟩:=h.reach n (Z30 [] M.R) 0 s0
 have hR:=h.roots
 have e:Z0z F n (Z0o [] R) 0=(M.reach n).map φ:=by
  rw [hR]
  rw [show Z0o [] (M.R.map (wdC φ))=(Z30 [] M.R).map φ from e0]
  exact e1
 have s1:∀ g∈M.reach n,S g:=s1
 refine ⟨e,?_⟩
 rw [e,List.length_map]
 conv=>lhs;rw [hR]
 rw [h.rootLines s1 (fun c hc=>⟨h.rin c hc,hM.roots c hc⟩),h.objs hM T s1]
 rfl
end Go.Proofs.YtlkcbdinlfeoiaaGreatDoor
namespace Go.Proofs.YtlkcbdinlfeoiaaGreatDoor
open Go.Proofs.Tryz
open Go.RowKit

theorem Zdi {F:Nat→Int}{s t N:Nat} (hh:Z0u (F t)=true) (hs:szN (F t)=s):Z0a F (fun _=>true) (N+1) t (t+1+s)=some [t]:=by
 unfold Z0a
 rw [if_pos (by omega),hh,hs,decide_eq_true (Nat.le_refl _),if_pos (by rfl),Z3b (by omega)]
 rfl
theorem Z7a {F F':Nat→Int}{s t:Nat} (hh:Z0u (F' t)=true) (hs:szN (F' t)=s):∀ {n a:Nat}{l:List Nat},Z0a F (fun _=>true) n a t=some l→a≤t→t - a≤n→(∀ v∈l,F' v=F v)→Z0a F' (fun _=>true) (n+1+s) a (t+1+s)=some (l ++ [t])
 | 0,a,l,h,ha,hn,_=>by
  unfold Z0a at h
  cases h
  obtain rfl:a=t:=by omega
  rw [show 0+1+s=s+1 by omega]
  exact Zdi hh hs
 | n+1,a,l,h,ha,hn,he=>by
  unfold Z0a at h
  split at h
  ·rename_i h1
   split at h
   ·rename_i h2
    obtain ⟨l',h',rfl⟩:=Option.map_eq_some_iff.1 h
    simp only [Bool.and_eq_true,decide_eq_true_eq] at h2
    have e:=he a (List.mem_cons_self ..)
    have ih:=Z7a hh hs h' h2.2.1 (by omega) (fun v hv=>he v (List.mem_cons_of_mem _ hv))
    rw [show n+1+1+s=(n+1+s)+1 by omega]
    unfold Z0a
    rw [if_pos (by omega),e,h2.1,decide_eq_true (show a+1+szN (F a)≤t+1+s by omega),if_pos (by rfl),ih]
    rfl
   ·cases h
  ·cases h
   obtain rfl:a=t:=by omega
   rw [show n+1+1+s=(n+1+s)+1 by omega]
   exact Zdi hh hs
theorem Z3g {F F':Nat→Int} : ∀ {n f t:Nat}{l:List Nat},Z0a F (fun _=>true) n f t=some l→(∀ v∈l,F' v=F v)→Z0a F' (fun _=>true) n f t=some l
 | 0,f,t,l,h,_=>by unfold Z0a at h ⊢;exact h
 | n+1,f,t,l,h,he=>by
  unfold Z0a at h ⊢
  split at h
  ·rename_i h1
   rw [if_pos h1]
   split at h
   ·rename_i h2
    obtain ⟨l',h',rfl⟩:=Option.map_eq_some_iff.1 h
    rw [he f (List.mem_cons_self ..),if_pos h2,Z3g h' fun v hv=>he v (List.mem_cons_of_mem _ hv)]
    rfl
   ·cases h
  ·rename_i h1
   rw [if_neg h1]
   exact h
theorem Z4v {nW:Nat}{p q:Nat→Bool} (h:∀ i,p i=true→q i=true) {x:Int} (hx:Z0b nW p x=true):Z0b nW q x=true:=by
 unfold Z0b at *
 split
 ·rfl
 ·rename_i h1
  rw [if_neg h1] at hx
  split
  ·rename_i h2
   rw [if_pos h2] at hx;exact hx
  ·rename_i h2
   rw [if_neg h2] at hx
   rw [Bool.or_eq_true] at hx ⊢
   rcases hx with hx | hx
   ·exact .inl hx
   ·right
    unfold Z33 at hx ⊢
    rw [Bool.and_eq_true,Bool.and_eq_true] at hx ⊢
    exact ⟨hx.1,hx.2.1,h _ hx.2.2⟩
structure Laid (m n:MD) (t s:Nat) (y:Bool):Prop where
 half:n.half=m.half
 old:n.old=m.old
 card:n.card=m.card
 used:n.used=m.used
 R:n.R=m.R
 K:n.K=m.K
 I:n.I=m.I
 C:n.C=m.C
 len:n.W.length=m.W.length
 top:n.top=if y then m.top+1+s else m.top
 otop:n.oldTop=if y then m.oldTop else m.oldTop+1+s
 place:t=if y then m.n1 else m.m1
 room:if y then m.top+1+s≤m.half else m.oldTop+1+s≤m.old
 same:∀ i,i<t∨t+1+s≤i→n.F i=m.F i
 head:Z0u (n.F t)=true
 size:szN (n.F t)=s
 bit:n.F t / 16384 % 2=0
 age:n.F t / 1024 % 16=0
 flds:¬ n.F t / 4 % 256<8 → ∀ k,k<s→Z0b m.W.length (fun _=>false) (n.F (t+1+k))=true
theorem Zfr {nW:Nat}{x h:Int} (hx:Z0b nW (fun _=>false) x=true):Z14 h x=false:=by
 unfold Z0b at hx
 unfold Z14
 rw [decide_eq_false_iff_not]
 rintro ⟨h1,h2,_⟩
 rw [if_neg (by omega),if_neg (by omega)] at hx
 unfold Z33 at hx
 simp at hx
 omega
theorem Zkd {nW:Nat}{p q:Nat→Bool} (h:∀ i,p i=true→q i=true) {l:List (Int × Int)} (hx:Z67 nW p l=true):Z67 nW q l=true:=by
 unfold Z67 at *
 rw [List.all_eq_true] at *
 intro i hi
 have g:=hx i hi
 unfold idB at *
 split
 ·rename_i x e
  rw [e] at g
  simp only [Bool.and_eq_true] at g ⊢
  refine ⟨?_,g.2⟩
  have:=g.1
  unfold Z33 at this ⊢
  rw [Bool.and_eq_true,Bool.and_eq_true] at this ⊢
  exact ⟨this.1,this.2.1,h _ this.2.2⟩
 ·rfl
variable {m n:MD}{t s:Nat}{y:Bool}
theorem Laid.fits (L:Laid m n t s y) (h:m.FitsM):n.FitsM:=by
 obtain ⟨a0,hw,hc,u0,u1,t0,t1,o0,o1⟩:=h
 have hr:=L.room
 have ht:=L.top
 have ho:=L.otop
 unfold MD.FitsM
 rw [L.half,L.old,L.card,L.used,L.len,L.C]
 cases y with
 | true =>
  simp only [if_true] at hr ht ho
  exact ⟨a0,hw,hc,u0,u1,by omega,by omega,by omega,by omega⟩
 | false =>
  simp only [Bool.false_eq_true,if_false] at hr ht ho
  exact ⟨a0,hw,hc,u0,u1,by omega,by omega,by omega,by omega⟩
theorem Laid.right {vs:List Nat} (L:Laid m n t s y) (S:m.Shape vs) (hC:m.cardsB=true) :
  (∀ v∈vs,v+1+szN (m.F v)≤t∨t+1+s≤v)∧t+1+s≤m.W.length ∧ ∃ us,n.Shape us∧n.cardsB=true ∧ ∀ v,v∈us ↔ v∈vs∨v=t:=by
 have hFit:=L.fits S.1
 have P:=MD.parts S.1
 have Q:=MD.parts hFit
 obtain ⟨p1,p2,p3,p4⟩:=P
 obtain ⟨q1,q2,q3,q4⟩:=Q
 have hS1:=S.1
 obtain ⟨⟨a0,a1,a2,a3,a4,a5⟩,hw,hc,u0,u1,t0,t1,o0,o1⟩:=hS1
 have hr:=L.room
 have ht:=L.top
 have ho:=L.otop
 have hpl:=L.place
 rw [L.used,L.half] at q1 q2
 rw [L.half] at q3 q4
 have huh:m.used*m.half=0∨m.used*m.half=m.half:=by
  obtain e | e:m.used=0∨m.used=1:=by omega
  ·rw [e,Int.zero_mul];exact .inl rfl
  ·rw [e,Int.one_mul];exact .inr rfl
 obtain ⟨z,hz⟩:∃ z,z=m.used*m.half:=⟨_,rfl⟩
 rw [←hz] at p1 p2 q1 q2 huh
 have hobj:=S.2.1
 unfold MD.objs at hobj
 split at hobj
 case h_2=>cases hobj
 rename_i l1 l2 e1 e2
 cases hobj
 have c1:=Z0h.1 e1
 have c2:=Z0h.1 e2
 have hap:∀ v∈l1++l2,v+1+szN (m.F v)≤t∨t+1+s≤v:=fun v hv=>by
  rcases List.mem_append.1 hv with h | h
  ·have:=Z0q e1 v h
   cases y with
   | true=>simp only [if_true] at *;omega
   | false=>simp only [Bool.false_eq_true,if_false] at *;omega
  ·have:=Z0q e2 v h
   cases y with
   | true=>simp only [if_true] at *;omega
   | false=>simp only [Bool.false_eq_true,if_false] at *;omega
 have hlen:t+1+s≤m.W.length:=by
  cases y with
  | true=>simp only [if_true] at *;omega
  | false=>simp only [Bool.false_eq_true,if_false] at *;omega
 refine ⟨hap,hlen,?_⟩
 have hv:∀ v∈l1++l2,n.F v=m.F v:=fun v h=>L.same v (by have:=hap v h;omega)
 have hfl:∀ v∈l1++l2,∀ j,j<szN (m.F v)→n.F (v+1+j)=m.F (v+1+j):=fun v h j hj=>L.same _ (by have:=hap v h;omega)
 obtain ⟨k1,k2,d1,d2,hk1,hk2,hky⟩:∃ k1 k2:List Nat,Z0a n.F (fun _=>true) (n.n1 - n.n0) n.n0 n.n1=some k1∧Z0a n.F (fun _=>true) (n.m1 - n.m0) n.m0 n.m1=some k2∧(∀ v,v∈k1 ↔ v∈l1∨(y=true∧v=t))∧(∀ v,v∈k2 ↔ v∈l2∨(y=false∧v=t))∧True:=by
  cases y with
  | true =>
   simp only [if_true] at *
   have g:=Z7a L.head L.size (F:=m.F) (n:=m.n1 - m.n0) (a:=m.n0) (l:=l1) (by rw [hpl];exact c1.1) (by omega) (by omega) (fun v h=>hv v (List.mem_append_left _ h))
   refine ⟨l1 ++ [t],l2,?_,?_,fun v=>by simp,fun v=>by simp,trivial⟩
   ·rw [show n.n0=m.n0 by omega,show n.n1=t+1+s by omega,show t+1+s - m.n0=m.n1 - m.n0+1+s by omega];exact g
   ·rw [show n.m0=m.m0 by omega,show n.m1=m.m1 by omega];exact Z3g c2.1 (fun v h=>hv v (List.mem_append_right _ h))
  | false =>
   simp only [Bool.false_eq_true,if_false] at *
   have g:=Z7a L.head L.size (F:=m.F) (n:=m.m1 - m.m0) (a:=m.m0) (l:=l2) (by rw [hpl];exact c2.1) (by omega) (by omega) (fun v h=>hv v (List.mem_append_right _ h))
   refine ⟨l1,l2 ++ [t],?_,?_,fun v=>by simp,fun v=>by simp,trivial⟩
   ·rw [show n.n0=m.n0 by omega,show n.n1=m.n1 by omega];exact Z3g c1.1 (fun v h=>hv v (List.mem_append_left _ h))
   ·rw [show n.m0=m.m0 by omega,show n.m1=t+1+s by omega,show t+1+s - m.m0=m.m1 - m.m0+1+s by omega];exact g
 have hmem:∀ v,v∈k1++k2 ↔ v∈l1++l2∨v=t:=fun v=>by
  rw [List.mem_append,List.mem_append,hk1,hk2]
  cases y
  ·simp [or_assoc]
  ·simp only [Bool.true_eq_false,true_and,false_and,or_false];rw [or_assoc,or_assoc,or_comm (a:=v=t)]
 have hmore:∀ i,(decide (i∈l1++l2))=true→(decide (i∈k1++k2))=true:=fun i hi=>decide_eq_true ((hmem i).2 (.inl (of_decide_eq_true hi)))
 have hG1:∀ v∈k1++k2,G1 n.F n.half v=true:=fun v h=>by
  rcases (hmem v).1 h with g | g
  ·have q:G1 m.F m.half v=true:=by
    rcases List.mem_append.1 g with g | g
    ·exact List.all_eq_true.1 c1.2 v g
    ·exact List.all_eq_true.1 c2.2 v g
   unfold G1 at q ⊢
   rw [hv v g,L.half];exact q
  ·rw [g];unfold G1
   rw [decide_eq_true L.bit,decide_eq_true L.age,Bool.or_true];rfl
 have hG2:∀ v∈k1++k2,G2 n.F n.W.length (fun i=>decide (i∈k1++k2)) v=true:=fun v h=>by
  unfold G2
  rw [L.len]
  by_cases hkd:n.F v / 4 % 256<8
  ·rw [decide_eq_true hkd,Bool.true_or]
  ·rw [decide_eq_false hkd,Bool.false_or,List.all_eq_true]
   intro x hx
   obtain ⟨j,hj,rfl⟩:=List.mem_map.1 hx
   have hj:=List.mem_range.1 hj
   rcases (hmem v).1 h with g | g
   ·rw [hv v g] at hj hkd
    show Z0b _ _ (n.F (v+1+j))=true
    rw [hfl v g j hj]
    exact Z4v hmore (S.held g hj hkd)
   ·subst g
    rw [L.size] at hj
    exact Z4v (fun i hi=>by cases hi) (L.flds hkd j hj)
 refine ⟨k1++k2,⟨hFit,?_,?_,?_⟩,?_,hmem⟩
 ·unfold MD.objs
  rw [Z1u,d1,Z1u,d2,Option.bind_some,Option.bind_some,if_pos (List.all_eq_true.2 fun v h=>hG1 v (List.mem_append_left _ h)),if_pos (List.all_eq_true.2 fun v h=>hG1 v (List.mem_append_right _ h))]
 ·unfold MD.holdB
  rw [Z0t d1,Z0t d2,←List.all_append,List.all_eq_true]
  exact hG2
 ·have:=S.2.2.2
  unfold MD.restB at this ⊢
  rw [L.len,L.R,L.K,L.I]
  simp only [Bool.and_eq_true,List.all_eq_true] at this ⊢
  exact ⟨fun x hx=>Z4v hmore (this.1 x hx),fun x hx=>Z4v hmore (this.2.1 x hx),Zkd hmore this.2.2⟩
 ·unfold MD.cardsB at hC ⊢
  rw [Z0t c2.1,List.all_eq_true] at hC
  rw [Z0t d2,List.all_eq_true]
  intro v h
  rcases (hk2 v).1 h with g | g
  ·have q:=hC v g
   have gm:=List.mem_append_right l1 g
   unfold G3 at q ⊢
   rw [hv v gm]
   by_cases hkd:m.F v / 4 % 256<8
   ·rw [decide_eq_true hkd,Bool.true_or]
   ·rw [decide_eq_false hkd,Bool.false_or,List.all_eq_true] at q ⊢
    intro j hj
    have:=q j hj
    unfold Z5o at this ⊢
    rw [hfl v gm j (List.mem_range.1 hj),L.half,L.card]
    unfold MD.Cf at this ⊢
    rw [L.C];exact this
  ·obtain ⟨_,rfl⟩:=g
   unfold G3
   by_cases hkd:n.F v / 4 % 256<8
   ·rw [decide_eq_true hkd,Bool.true_or]
   ·rw [decide_eq_false hkd,Bool.false_or,List.all_eq_true]
    intro j hj
    have hj:=List.mem_range.1 hj
    rw [L.size] at hj
    unfold Z5o
    rw [Zfr (L.flds hkd j hj)];rfl
end Go.Proofs.YtlkcbdinlfeoiaaGreatDoor
namespace Go.Proofs.YtlkcbdinlfeoiaaGreatDoor
open Go.Proofs.Tryz
open Go.RowKit

structure HRel (m:MD) (vs:List Nat) (M:MO) (S:Nat→Prop) (φ:Nat→Nat):Prop where
 shape:m.Shape vs
 cards:m.cardsB=true
 h64:MD64 m
 ok:MOok M
 inN:∀ i,S i→i<M.N.length
 rel:RelM M m.R m.F vs S φ
variable {m n:MD}{vs us:List Nat}{M:MO}{S:Nat→Prop}{φ:Nat→Nat}
theorem HRel.kept (h:HRel m vs M S φ) (hs:n.Shape us) (hc:n.cardsB=true) (h6:MD64 n) {S':Nat→Prop}{ψ:Nat→Nat} (I:Iso m.F n.F S' ψ) (hR:n.R=m.R.map (mvI ψ)) (hr:∀ x∈m.R,Z4y S' x) (hu:∀ f,S' f→ψ f∈us):HRel n us M (fun i=>S i∧S' (φ i)) (fun i=>ψ (φ i)):=
 ⟨hs,hc,h6,h.ok,fun i hi=>h.inN i hi.1,h.rel.kept I hR hr hu⟩
theorem HRel.few (h:HRel m vs M S φ) {f:Nat} (hf:f∈vs):f<300000:=by
 have h1:=(h.shape.fine f hf).2
 obtain ⟨⟨a0,a1,a2,a3,a4,a5⟩,hw,hc,u0,u1,t0,t1,o0,o1⟩:=h.shape.1
 omega
theorem HRel.word (h:HRel m vs M S φ) {c:CL} (hc:Zdu S c) (hk:CLok c):Z0b m.W.length (fun i=>decide (i∈vs)) (wdC φ c)=true∧0≤wdC φ c∧wdC φ c<18446744073709551616:=by
 unfold wdC
 by_cases h4:c.kind=4
 ·obtain ⟨d,_,hv,_⟩:=h.rel.has _ (hc h4)
  have h1:=(h.shape.fine _ hv).2
  have h2:=h.few hv
  rw [if_pos h4]
  refine ⟨?_,by omega,by omega⟩
  unfold Z0b
  rw [if_neg (by omega),if_neg (by omega),Bool.or_eq_true]
  right
  unfold Z33
  have e:((((φ c.ref:Int)+1)*4) / 4 - 1).toNat=φ c.ref:=by omega
  rw [e,decide_eq_true (by omega),decide_eq_true (by omega)]
  show (true && (true && decide (φ c.ref∈vs)))=true
  rw [decide_eq_true hv]
  rfl
 ·rw [if_neg h4]
  by_cases h3:c.kind=3
  ·rw [if_pos h3]
   refine ⟨?_,by omega,by omega⟩
   unfold Z0b
   rw [if_pos (by omega)]
  ·rw [if_neg h3]
   have:=hk.kind
   refine ⟨?_,by omega,by omega⟩
   unfold Z0b
   rw [if_neg (by omega),if_pos (by omega),decide_eq_true (by omega)]
theorem HRel.root (h:HRel m vs M S φ) (r:Nat) {c:CL} (hc:Zdu S c) (hk:CLok c):HRel { m with R:=m.R.set r (wdC φ c) } vs { M with R:=M.R.set r c } S φ where
 shape:=by
  obtain ⟨h1,h2,h3,h4⟩:=h.shape
  refine ⟨h1,h2,h3,?_⟩
  unfold MD.restB at h4 ⊢
  rw [Bool.and_eq_true] at h4 ⊢
  refine ⟨?_,h4.2⟩
  rw [List.all_eq_true] at h4 ⊢
  intro x hx
  rcases List.mem_or_eq_of_mem_set hx with q | q
  ·exact h4.1 x q
  ·rw [q];exact (h.word hc hk).1
 cards:=h.cards
 h64:=by
  obtain ⟨a,b,c',d⟩:=h.h64
  refine ⟨a,fun x hx => ?_,c',d⟩
  rcases List.mem_or_eq_of_mem_set hx with q | q
  ·exact b x q
  ·rw [q];exact (h.word hc hk).2
 ok:=⟨fun x hx=>by
  rcases List.mem_or_eq_of_mem_set hx with q | q
  ·exact h.ok.roots x q
  ·rw [q];exact hk,h.ok.flds⟩
 inN:=h.inN
 rel:=h.rel.root r hc
theorem HRel.laid (h:HRel m vs M S φ) {t s:Nat}{y:Bool} (L:Laid m n t s y) (h6:MD64 n) {d:ND} (hk:n.F t / 4 % 256=d.kind) (hf:Z07 n.F t=wdN φ d) (hd:¬ d.kind<8 → ∀ c∈d.f,Zdu S c∧CLok c) :
  ∃ us,HRel n us { M with N:=M.N ++ [d] } (fun i=>S i∨i=M.N.length) (fun i=>if i=M.N.length then t else φ i):=by
 obtain ⟨hap,hl,us,hs,hc,hm⟩:=L.right h.shape h.cards
 obtain ⟨⟨a0,a1,a2,a3,a4,a5⟩,hw,_,u0,u1,t0,t1,o0,o1⟩:=h.shape.1
 have hsame:RelM M n.R n.F us S φ:=by
  rw [L.R]
  refine h.rel.same fun i hi => ?_
  obtain ⟨d',_,hv,_⟩:=h.rel.has i hi
  have ha:=hap _ hv
  have e:n.F (φ i)=m.F (φ i):=L.same _ (by omega)
  refine ⟨by rw [e],?_,(hm _).2 (.inl hv)⟩
  unfold Z07
  rw [e]
  exact List.map_congr_left fun j hj=>L.same _ (by have:=List.mem_range.1 hj;omega)
 refine ⟨us,hs,hc,h6,⟨h.ok.roots,fun x hx => ?_⟩,fun i hi => ?_,?_⟩
 ·rcases List.mem_append.1 hx with q | q
  ·exact h.ok.flds x q
  ·simp at q;rw [q];exact fun q c hc=>(hd q c hc).2
 ·show i<(M.N ++ [d]).length
  rw [List.length_append]
  rcases hi with q | q
  ·have:=h.inN i q;omega
  ·simp;omega
 ·refine hsame.make h.inN ((hm t).2 (.inr rfl)) (fun i hi => ?_) (by omega) hk hf (fun q c hc=>(hd q c hc).1)
  obtain ⟨d',_,hv,_⟩:=h.rel.has i hi
  have:=hap _ hv
  omega
end Go.Proofs.YtlkcbdinlfeoiaaGreatDoor
namespace Go.Proofs.YtlkcbdinlfeoiaaGreatDoor
open Go.Proofs.Tryz
open Go.RowKit

theorem Z1t {F:Nat→Int}{G:Nat→Bool} : ∀ {n a t:Nat}{l:List Nat},Z0a F G n a t=some l → ∀ v∈l,∀ u∈l,u≤v∨v+1+szN (F v)≤u
 | 0,a,t,l,h=>by unfold Z0a at h;cases h;intro v hv;cases hv
 | n+1,a,t,l,h=>by
  unfold Z0a at h
  split at h
  ·split at h
   ·obtain ⟨l',h',rfl⟩:=Option.map_eq_some_iff.1 h
    intro v hv u hu
    rcases List.mem_cons.1 hv with hva | hv'
    ·rcases List.mem_cons.1 hu with hua | hu'
     ·exact .inl (by omega)
     ·exact .inr (by rw [hva];exact (Z0q h' u hu').1)
    ·rcases List.mem_cons.1 hu with hua | hu'
     ·have:=(Z0q h' v hv').1
      exact .inl (by omega)
     ·exact Z1t h' v hv' u hu'
   ·cases h
  ·cases h;intro v hv;cases hv
theorem Z54 (m:MD) (y:Nat) (x:Int):m.put y x = { m with W:=m.W.set y x,C:=if 2*m.half≤(y:Int)∧Z14 m.half x=true then m.C.set (Z3a m.half m.card y) true else m.C }:=by
 unfold MD.put MD.setC MD.setW
 split <;> rfl
theorem Zht {m:MD}{vs:List Nat} (S:m.Shape vs) (hC:m.cardsB=true) {f k:Nat}{x:Int} (hf:f∈vs) (hk:k<szN (m.F f)) (hx:Z0b m.W.length (fun i=>decide (i∈vs)) x=true):(m.put (f+1+k) x).Shape vs∧(m.put (f+1+k) x).cardsB=true:=by
 obtain ⟨y,hy⟩:∃ y,y=f+1+k:=⟨_,rfl⟩
 rw [←hy]
 have hff:=S.fine f hf
 have hyl:y<m.W.length:=by omega
 obtain ⟨l1,l2,e,e1,e2⟩:=S.bare
 have b1:=Z0h.1 e1
 have b2:=Z0h.1 e2
 have P:=MD.parts S.1
 have hm0:=P.m0
 have hn1:(m.n1:Int)≤2*m.half:=by
  obtain ⟨⟨a0,a1,a2,a3,a4,a5⟩,hw,_,u0,u1,t0,t1,o0,o1⟩:=S.1
  have c1:=P.n1
  obtain e | e:m.used=0∨m.used=1:=by omega
  ·rw [e,Int.zero_mul] at c1;omega
  ·rw [e,Int.one_mul] at c1;omega
 have hno:∀ v∈vs,v≠y:=fun v hv he=>by
  subst he
  rw [e] at hv hf
  rcases List.mem_append.1 hv with h | h
  ·have q1:=Z0q e1 _ h
   rcases List.mem_append.1 hf with g | g
   ·have:=Z1t e1 f g _ h
    omega
   ·have:=Z0q e2 f g
    omega
  ·have q1:=Z0q e2 _ h
   rcases List.mem_append.1 hf with g | g
   ·have:=Z0q e1 f g
    omega
   ·have:=Z1t e2 f g _ h
    omega
 obtain ⟨m',hm'⟩:∃ m',m'=m.put y x:=⟨_,rfl⟩
 rw [←hm']
 rw [Z54] at hm'
 have hW:m'.W=m.W.set y x:=by rw [hm']
 have hF:∀ i,i≠y→m'.F i=m.F i:=fun i hi=>by
  unfold MD.F
  rw [hW,List.getD_eq_getElem?_getD,List.getD_eq_getElem?_getD,List.getElem?_set_ne (fun h=>hi h.symm)]
 have hFy:m'.F y=x:=by
  unfold MD.F
  rw [hW,List.getD_eq_getElem?_getD,List.getElem?_set_self hyl]
  rfl
 have hl:m'.W.length=m.W.length:=by rw [hW,List.length_set]
 have hCl:m'.C.length=m.C.length:=by rw [hm'];show (if _ then _ else _:List Bool).length=_;split <;> simp
 have hFit:m'.FitsM:=by
  have:=S.1
  unfold MD.FitsM
  rw [hl,hCl,hm']
  exact this
 have hn0':m'.n0=m.n0:=by rw [hm'];rfl
 have hn1':m'.n1=m.n1:=by rw [hm'];rfl
 have hm0':m'.m0=m.m0:=by rw [hm'];rfl
 have hm1':m'.m1=m.m1:=by rw [hm'];rfl
 have hh':m'.half=m.half:=by rw [hm']
 have hc':m'.card=m.card:=by rw [hm']
 have hv1:∀ v∈l1,m'.F v=m.F v:=fun v hv=>hF v (hno v (by rw [e];exact List.mem_append_left _ hv))
 have hv2:∀ v∈l2,m'.F v=m.F v:=fun v hv=>hF v (hno v (by rw [e];exact List.mem_append_right _ hv))
 have d1:=Z3g b1.1 hv1
 have d2:=Z3g b2.1 hv2
 have hO:m'.objs=some vs:=by
  have ho:=S.2.1
  unfold MD.objs at ho ⊢
  rw [Z1u,b1.1,Z1u,b2.1] at ho
  rw [hn0',hn1',hm0',hm1',hh',Z1u,d1,Z1u,d2]
  have g1:l1.all (G1 m'.F m.half)=l1.all (G1 m.F m.half):=Z2v fun v hv=>by unfold G1;rw [hv1 v hv]
  have g2:l2.all (G1 m'.F m.half)=l2.all (G1 m.F m.half):=Z2v fun v hv=>by unfold G1;rw [hv2 v hv]
  rw [Option.bind_some,Option.bind_some,g1,g2]
  exact ho
 have hH:m'.holdB vs=true:=by
  unfold MD.holdB
  rw [hn0',hn1',hm0',hm1',Z0t d1,Z0t d2,←List.all_append,←e,List.all_eq_true,hl]
  intro v hv
  unfold G2
  rw [hF v (hno v hv)]
  by_cases hkd:m.F v / 4 % 256<8
  ·rw [decide_eq_true hkd,Bool.true_or]
  ·rw [decide_eq_false hkd,Bool.false_or,List.all_eq_true]
   intro z hz
   obtain ⟨j,hj,rfl⟩:=List.mem_map.1 hz
   rw [hF v (hno v hv)] at hj
   have hj:=List.mem_range.1 hj
   by_cases he:v+1+j=y
   ·show Z0b _ _ (m'.F (v+1+j))=true
    rw [he,hFy]
    exact hx
   ·show Z0b _ _ (m'.F (v+1+j))=true
    rw [hF _ he]
    exact S.held hv hj hkd
 have hR:m'.restB vs=true:=by
  have:=S.2.2.2
  unfold MD.restB at this ⊢
  rw [hl,hm']
  exact this
 refine ⟨⟨hFit,hO,hH,hR⟩,?_⟩
 unfold MD.cardsB
 rw [hm0',hm1',Z0t d2,List.all_eq_true,hh',hc']
 intro v hv
 have hvm:v∈vs:=by rw [e];exact List.mem_append_right _ hv
 have hlo:=(Z0q e2 v hv).1
 unfold G3
 rw [hv2 v hv]
 by_cases hkd:m.F v / 4 % 256<8
 ·rw [decide_eq_true hkd,Bool.true_or]
 ·rw [decide_eq_false hkd,Bool.false_or,List.all_eq_true]
  intro j hj
  have hj:=List.mem_range.1 hj
  have hvf:=S.fine v hvm
  have hup:∀ i,m.Cf i=true→m'.Cf i=true:=fun i hi=>by
   unfold MD.Cf at hi ⊢
   rw [hm']
   show (if _ then _ else _:List Bool).getD i false=true
   split
   ·rw [List.getD_eq_getElem?_getD,List.getElem?_set] at *
    split
    ·split
     ·rfl
     ·rename_i h1 h2
      subst h1
      rw [List.getElem?_eq_none (by omega)] at hi
      exact hi
    ·exact hi
   ·exact hi
  unfold Z5o
  by_cases hyo:Z14 m.half (m'.F (v+1+j))=true
  ·rw [hyo,Bool.true_and,Bool.not_not]
   by_cases he:v+1+j=y
   ·rw [he] at hyo ⊢
    rw [hFy] at hyo
    have hyo2:2*m.half≤(y:Int):=by omega
    obtain ⟨d,q,_,_,hq,hcn⟩:=Zby S.1 hyo2 hyl
    unfold MD.Cf
    rw [hm']
    show (if _ then _ else _:List Bool).getD _ false=true
    rw [if_pos ⟨hyo2,hyo⟩,List.getD_eq_getElem?_getD,List.getElem?_set_self (by rw [hcn];exact hq)]
    rfl
   ·rw [hF _ he] at hyo
    exact hup _ (S.carded hC hvm hj hkd (by omega) hyo)
  ·rw [Bool.not_eq_true] at hyo
   rw [hyo,Bool.false_and]
   rfl

variable {m:MD}{vs:List Nat}{M:MO}{S:Nat→Prop}{φ:Nat→Nat}
theorem HRel.apart (h:HRel m vs M S φ):∀ v∈vs,∀ u∈vs,u=v∨v+1+szN (m.F v)≤u∨u+1+szN (m.F u)≤v:=by
 obtain ⟨l1,l2,e,e1,e2⟩:=h.shape.bare
 obtain ⟨p1,p2,p3,p4⟩:=MD.parts h.shape.1
 obtain ⟨⟨a0,a1,a2,a3,a4,a5⟩,hw,_,u0,u1,t0,t1,o0,o1⟩:=h.shape.1
 have huh:m.used*m.half=0∨m.used*m.half=m.half:=by
  obtain e | e:m.used=0∨m.used=1:=by omega
  ·rw [e,Int.zero_mul];exact .inl rfl
  ·rw [e,Int.one_mul];exact .inr rfl
 have hn1:m.n1≤m.m0:=by omega
 intro v hv u hu
 rw [e] at hv hu
 rcases List.mem_append.1 hv with g | g <;> rcases List.mem_append.1 hu with k | k
 ·have:=Z1t e1 v g u k
  have:=Z1t e1 u k v g
  omega
 ·have:=Z0q e1 v g
  have:=Z0q e2 u k
  omega
 ·have:=Z0q e2 v g
  have:=Z0q e1 u k
  omega
 ·have:=Z1t e2 v g u k
  have:=Z1t e2 u k v g
  omega
theorem HRel.put (h:HRel m vs M S φ) {i k:Nat}{d:ND}{c:CL} (hi:S i) (hd:M.N[i]?=some d) (hk8:¬ d.kind<8) (hk:k<d.f.length) (hc:Zdu S c) (hok:CLok c) :
  HRel (m.put (φ i+1+k) (wdC φ c)) vs { M with N:=M.N.set i { d with f:=d.f.set k c } } S φ:=by
 obtain ⟨d',h1,hv,h3,h4,h5⟩:=h.rel.has i hi
 obtain rfl:d=d':=by rw [hd] at h1;exact Option.some.inj h1
 have hsz:szN (m.F (φ i))=d.f.length:=by
  have:=congrArg List.length h4
  unfold Z07 wdN at this
  rw [if_neg hk8] at this
  simpa using this
 have hfine:=(h.shape.fine _ hv).2
 obtain ⟨hs,hcd⟩:=Zht h.shape h.cards hv (show k<szN (m.F (φ i)) by omega) (h.word hc hok).1
 have hw:=(h.word hc hok).2
 obtain ⟨x,hx⟩:∃ x,x=wdC φ c:=⟨_,rfl⟩
 rw [←hx] at hs hcd hw ⊢
 have hF:∀ z,z≠φ i+1+k→(m.put (φ i+1+k) x).F z=m.F z:=fun z hz=>by
  unfold MD.F
  rw [Z54]
  show (m.W.set _ x).getD z 0=_
  rw [List.getD_eq_getElem?_getD,List.getD_eq_getElem?_getD,List.getElem?_set_ne (fun q=>hz q.symm)]
 have hFy:(m.put (φ i+1+k) x).F (φ i+1+k)=x:=by
  unfold MD.F
  rw [Z54]
  show (m.W.set _ x).getD _ 0=_
  rw [List.getD_eq_getElem?_getD,List.getElem?_set_self (by omega)]
  rfl
 have hR:(m.put (φ i+1+k) x).R=m.R:=by rw [Z54]
 have h64:MD64 (m.put (φ i+1+k) x):=by
  obtain ⟨a,b,c',e⟩:=h.h64
  rw [Z54]
  refine ⟨fun z hz => ?_,b,c',e⟩
  rcases List.mem_or_eq_of_mem_set hz with q | q
  ·exact a z q
  ·rw [q];exact hw
 obtain ⟨G,hG⟩:∃ G,G=(m.put (φ i+1+k) x).F:=⟨_,rfl⟩
 have hlt:i<M.N.length:=h.inN i hi
 refine ⟨hs,hcd,h64,⟨h.ok.roots,fun e he hk8' c' hc' => ?_⟩,fun j hj=>by show j<(M.N.set i _).length;rw [List.length_set];exact h.inN j hj,?_⟩
 ·rcases List.mem_or_eq_of_mem_set he with q | q
  ·exact h.ok.flds e q hk8' c' hc'
  ·rw [q] at hc'
   rcases List.mem_or_eq_of_mem_set hc' with q | q
   ·exact h.ok.flds d (List.mem_of_getElem? hd) hk8 c' q
   ·rw [q];exact hok
 rw [hR,←hG]
 rw [←hG] at hF hFy
 have ap:∀ j,S j→φ j≠φ i+1+k∧(j≠i → ∀ z,z<szN (m.F (φ j))→φ j+1+z≠φ i+1+k):=fun j hj=>by
  obtain ⟨_,_,hvj,_⟩:=h.rel.has j hj
  have a:=h.apart _ hv _ hvj
  refine ⟨by omega,fun hne z hz => ?_⟩
  have:φ j≠φ i:=fun q=>hne (h.rel.inj j i hj hi q)
  omega
 refine h.rel.put hi hd hk8 hc (fun j hj=>by rw [hF _ (ap j hj).1]) (fun j hj hne => ?_) ?_
 ·unfold Z07
  rw [hF _ (ap j hj).1]
  exact List.map_congr_left fun z hz=>hF _ ((ap j hj).2 hne z (List.mem_range.1 hz))
 ·unfold Z07
  rw [hF _ (ap i hi).1,←hx]
  refine List.ext_getElem? fun z => ?_
  rw [List.getElem?_set,List.getElem?_map,List.getElem?_map]
  by_cases q:k=z
  ·subst q
   rw [if_pos rfl,if_pos (by simp;omega),List.getElem?_range (show k<szN (m.F (φ i)) by omega)]
   show some (G (φ i+1+k))=_
   rw [hFy]
  ·rw [if_neg q]
   cases hz:(List.range (szN (m.F (φ i))))[z]? with
   | none=>rfl
   | some z' =>
    obtain ⟨hz1,hz2⟩:=List.getElem?_eq_some_iff.1 hz
    rw [List.getElem_range] at hz2
    show some (G (φ i+1+z'))=some (m.F (φ i+1+z'))
    rw [hF _ (by omega)]
end Go.Proofs.YtlkcbdinlfeoiaaGreatDoor
