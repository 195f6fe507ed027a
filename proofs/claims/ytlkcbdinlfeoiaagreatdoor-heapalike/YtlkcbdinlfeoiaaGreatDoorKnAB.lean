/- The document's memory: Shaped, CheckOf of a memory with no objects, by contracts. -/
import Derived.Test.YtlkcbdinlfeoiaaGreatDoorMemD
namespace Go.Proofs.YtlkcbdinlfeoiaaGreatDoor
open Go.Proofs.Tryz Go.RowKit
set_option maxHeartbeats 8000000
set_option maxRecDepth 100000
theorem drew2 (w:World) (a b:Nat):(w.drewN a).drewN b=w.drewN (a+b):=by simp [World.drewN,U2f]
theorem Zq1 {w:World}{a b:Nat} : ∃ q,(w.drewN a).drewN b=w.drewN q:=⟨_,by rw [drew2]⟩
theorem MemAt.memO {p:Nat}{half old card:Int}{W:Value}{used top oldTop:Int}{roots weak ids cards:Value}{w:World} (M:MemAt p half old card W used top oldTop roots weak ids cards w):MemO p 0 half old card W used top oldTop roots weak ids cards w:=
 ⟨M.c0,M.c1,M.c2,M.c3,M.c4,M.c5,M.c6,M.c7,M.c8,M.c9,M.c10⟩
structure MD where
 half:Int
 old:Int
 card:Int
 used:Int
 top:Int
 oldTop:Int
 W:List Int
 R:List Int
 K:List Int
 I:List (Int × Int)
 C:List Bool
def Z05 (l:List Int):List Value:=l.map (Value.int .u64)
def Z2e (l:List (Int × Int)):List Value:=l.flatMap fun p => [.int .u64 p.1,.int .i64 p.2]
def Z0s (l:List Bool):List Value:=l.map Value.bool
def Z4g (w:World) (v:Value) (n:Nat) (xs:List Value):Prop:=∃ ao cap,v = .slice ao n cap/\n<=cap/\(0<n -> ∃ b o,ao=some ⟨b,o,none⟩/\b<w.heap.size /\ ∀ j u,xs[j]?=some u->w.cell? ⟨b,o+j,none⟩=some u)
theorem Z4g.below {w w':World}{v:Value}{n:Nat}{xs:List Value} (h:Z4g w v n xs) (hb:Below w.heap.size w w'):Z4g w' v n xs:=by
 obtain ⟨ao,cap,e,hc,h⟩:=h
 refine ⟨ao,cap,e,hc,fun hn => ?_⟩
 obtain ⟨b,o,e1,e2,e3⟩:=h hn
 exact ⟨b,o,e1,U0r e2 hb.size,fun j u hj=>(hb.cell (p:=⟨b,o+j,none⟩) e2).trans (e3 j u hj)⟩
theorem Z4g.src {w:World}{ao:Option Addr}{n cap:Nat}{xs:List Value} (h:Z4g w (.slice ao n cap) n xs):0<n -> ∃ ad:Addr,ao=some ad/\ad.block<w.heap.size /\ ∀ j v,xs[j]?=some v->w.cell? (ad.add j)=some v:=fun hn=>by
 obtain ⟨ao',cap',e,_,h⟩:=h
 cases e
 obtain ⟨b,o,e1,e2,e3⟩:=h hn
 refine ⟨⟨b,o,none⟩,e1,e2,fun j v hj => ?_⟩
 have e:(⟨b,o,none⟩:Addr).add j=⟨b,o+j,none⟩:=by unfold Addr.add;split <;> simp_all
 rw [e]
 exact e3 j v hj
theorem Z2p {w:World}{base e size n:Nat}{v:Value}{xs:List Value} (h:w.ownsRow base e size v n xs):Z4g w v n xs:=by
 obtain ⟨h1,h2⟩:=h
 rcases h2 with ⟨rfl,rfl⟩ | ⟨g,cap,cur,rfl,hb,hg,hc,_,hs,ht⟩
 ·exact ⟨none,0,rfl,U02 _,fun h=>absurd h (by omega)⟩
 ·refine ⟨_,_,rfl,hc,fun _=>⟨g,0,rfl,Z01 hg,fun j u hj => ?_⟩⟩
  have hj':=hj
  rw [<-ht,U1j] at hj
  split at hj
  ·rw [U1p,U06 _ _ _ _ _ _ hg,<-U1q]
   exact hj
  ·cases hj
def Zqr (p o:Nat) (m:MD) (w:World):Prop:=∃ vW vR vK vI vC,p<w.heap.size/\MemO p o m.half m.old m.card vW m.used m.top m.oldTop vR vK vI vC w /\
 Z4g w vW m.W.length (Z05 m.W)/\Z4g w vR m.R.length (Z05 m.R)/\Z4g w vK m.K.length (Z05 m.K)/\Z4g w vI m.I.length (Z2e m.I)/\Z4g w vC m.C.length (Z0s m.C)
theorem Zqr.below {p o:Nat}{m:MD}{w w':World} (h:Zqr p o m w) (hb:Below w.heap.size w w'):Zqr p o m w':=by
 obtain ⟨vW,vR,vK,vI,vC,hp,M,h1,h2,h3,h4,h5⟩:=h
 exact ⟨vW,vR,vK,vI,vC,U0r hp hb.size,M.below hb hp,h1.below hb,h2.below hb,h3.below hb,h4.below hb,h5.below hb⟩
theorem Z3y (l:List Int):(Z05 l).length=l.length:=by simp [Z05]
theorem lenB (l:List Bool):(Z0s l).length=l.length:=by simp [Z0s]
theorem lenI (l:List (Int × Int)):(Z2e l).length=l.length*2:=by
 induction l with
 | nil=>rfl
 | cons p l ih=>simp [Z2e] at *;omega
theorem Z3g (l:List Int):∀ v∈Z05 l,v.oneCell'=true:=fun v hv=>by
 obtain ⟨x,_,rfl⟩:=U0l.1 hv
 rfl
theorem Z2d {l:List Int}{j:Nat}{x:Int} (h:l[j]?=some x):(Z05 l)[j]?=some (.int .u64 x):=by simp [Z05,h]
theorem Zgo {l:List Bool}{j:Nat}{x:Bool} (h:l[j]?=some x):(Z0s l)[j]?=some (.bool x):=by simp [Z0s,h]
theorem Z52 {l:List (Int × Int)} : ∀ {j:Nat}{x:Int × Int},l[j]?=some x->(Z2e l)[j*2]?=some (.int .u64 x.1)/\(Z2e l)[j*2+1]?=some (.int .i64 x.2):=by
 induction l with
 | nil=>intro j x h;cases h
 | cons p l ih =>
  intro j x h
  have e:Z2e (p::l) = .int .u64 p.1 :: .int .i64 p.2::Z2e l:=rfl
  rw [e]
  cases j with
  | zero=>cases h;exact ⟨rfl,rfl⟩
  | succ j =>
   have:=ih (j:=j) (x:=x) (by simpa using h)
   rw [show (j+1)*2=j*2+2 by omega,show j*2+2+1=j*2+1+2 by omega]
   exact this
end Go.Proofs.YtlkcbdinlfeoiaaGreatDoor
