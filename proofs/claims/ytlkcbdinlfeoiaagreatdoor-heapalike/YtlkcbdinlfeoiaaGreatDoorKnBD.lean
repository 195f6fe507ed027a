/- Package minor: Collect of a right memory, by a contract; the closed fact still. -/
import Derived.Test.YtlkcbdinlfeoiaaGreatDoorMnK
import Derived.Test.YtlkcbdinlfeoiaaGreatDoorKnAO
namespace Go.Proofs.YtlkcbdinlfeoiaaGreatDoor
open Go.Proofs.Tryz Go.RowKit
set_option maxHeartbeats 8000000
set_option maxRecDepth 100000
section
open Go.Maps
theorem ColAt.mem {p bW bC cW cC:Nat}{m:MD}{vR vK vI:Value}{w:World} (h:ColAt p bW bC cW cC m vR vK vI w):MemAt p m.half m.old m.card (.slice (some ⟨bW,0,none⟩) m.W.length cW) m.used m.top m.oldTop vR vK vI (.slice (some ⟨bC,0,none⟩) m.C.length cC) w:=by
 have hp:=h.mb
 unfold MB at hp
 constructor <;> (rw [U06 _ _ _ _ _ _ hp];rfl)
theorem Znw {t:TypeId}{v:Value}{n:Nat}{xs:List Value}{w:World} (h:Z20 t 2 v n xs w):Z4g w v n xs:=by
 obtain ⟨ao,cap,e,hc,_,hf⟩:=h
 refine ⟨ao,cap,e,hc,fun h0 => ?_⟩
 obtain ⟨g,e2,hb⟩:=hf h0
 exact ⟨g,0,e2,hb.lt,fun j u hj=>by rw [U1p];exact hb.cell hj⟩
theorem ColAt.repP {p bW bC cW cC:Nat}{m:MD}{vR vK vI:Value}{w:World} (h:ColAt p bW bC cW cC m vR vK vI w):Z86 p m w:=
 ⟨_,_,_,_,_,Z01 h.mb,h.mem,⟨_,_,rfl,h.cap,fun _=>⟨bW,rfl,h.hW.lt,fun _ _ hj=>h.hW.cell hj⟩⟩,h.R,h.K,Znw h.I,⟨_,_,rfl,h.capC,fun _=>⟨bC,rfl,h.hC.lt,fun _ _ hj=>h.hC.cell hj⟩⟩⟩
theorem Zm4 {m:MD}{vs:List Nat} (S:m.Shape vs):0<m.W.length/\0<m.C.length/\m.W.length<=300000:=by
 have hn:=S.1.nums
 unfold Z0c at hn
 have h1:=S.1.w
 have h2:=S.1.c
 have h3:(1:Int)<=(m.old+m.card - 1) / m.card:=U4r (by omega) (by omega)
 omega
def Zt5 (a:Nat->Addr) (p bW bC cW cC:Nat) (m:MD) (l1 l2:List Nat) (tn:Int) (w:World) (ev:Ending) (w':World):Prop:=
 (¬ (0<=tn/\tn<=15)/\ev = .returned (Z0p a 1)/\Below w.heap.size w w')\/((0<=tn/\tn<=15)/\m.old - m.oldTop<m.top/\ev = .returned (Z0p a 5)/\Below w.heap.size w w')\/((0<=tn/\tn<=15)/\m.top<=m.old - m.oldTop/\ev = .returned .nilIface/\Z1j p bW bC cW cC m l1 l2 tn w w')
theorem Z1j.from {p bW bC cW cC:Nat}{m:MD}{l1 l2:List Nat}{tn:Int}{w w1 w':World} (hb:Below w.heap.size w w1) (h:Z1j p bW bC cW cC m l1 l2 tn w1 w'):Z1j p bW bC cW cC m l1 l2 tn w w':=by
 obtain ⟨e,n,us,S,ψ,vR,vK,vI,h1,h2,h3,h5,h4,h6⟩:=h
 exact ⟨e,n,us,S,ψ,vR,vK,vI,h1,h2,h3,h5,(Aside.of_below hb).join h4 (fun _ _ h=>h),h6.base hb.size⟩
theorem Zd4 (a:Nat->Addr) (p bW bC cW cC:Nat) (m:MD) (vR vK vI:Value) (l1 l2:List Nat) (tn:Int) (w:World) (H:ColAt p bW bC cW cC m vR vK vI w) (S:m.Shape (l1++l2)) (hC:m.cardsB=true) (h64:MD64 m) (w1:Z09 m.F (G0 m.F) (m.n1 - m.n0) m.n0 m.n1=some l1) (w2:Z09 m.F (G0 m.F) (m.m1 - m.m0) m.m0 m.m1=some l2)
  (hlR:m.R.length<=300000) (hlK:m.K.length<=300000) (hlI:m.I.length<=300000) (htn : -9223372036854775808<=tn/\tn<9223372036854775808) (E:∀ w',Aside (Z7g p bW bC) w w'->MErr a w') :
  Calls prog 116 #[.pointer (some ⟨p,0,none⟩),.int .i64 tn] w fun ev w'=>Zt5 a p bW bC cW cC m l1 l2 tn w ev w':=by
 have E0:=E w (Aside.refl _ _)
 have kc:=Zf4 a p m (l1++l2) S hC h64 hlR hlK hlI w E0.three H.repP
 have hn:=S.1.nums
 unfold Z0c at hn
 have P:=MD.parts S.1
 have pn0:=P.n0
 have pm0:=P.m0
 have pm1:=P.m1
 have hu0:=S.1.u0
 have hu1:=S.1.u1
 have ht0:=S.1.t0
 have ht1:=S.1.t1
 have ho0:=S.1.o0
 have ho1:=S.1.o1
 have hMb:Hid (∀ W,Below w.heap.size w W->W.cell? ⟨p,5,none⟩=some (.int .i64 m.top)/\W.cell? ⟨p,1,none⟩=some (.int .i64 m.old)/\W.cell? ⟨p,6,none⟩=some (.int .i64 m.oldTop)/\MErr a W):=fun W hW=>by
  have h:=H.below hW
  exact ⟨h.mem.c5,h.mem.c1,h.mem.c6,E0.below hW⟩
 have hK:Hid (m.top<=m.old - m.oldTop->(0<=tn/\tn<=15) -> ∀ W,Below w.heap.size w W->Calls prog 165 #[.pointer (some ⟨p,0,none⟩),.int .i64 tn] W fun ev w'=>ev = .returned (.tuple #[])/\Z1j p bW bC cW cC m l1 l2 tn w w'):=fun hroom ht W hW=>by
  have hus:m.used=0\/m.used=1:=by omega
  have hprod:m.used*m.half=(m.n0:Int):=pn0.symm
  obtain ⟨o0,hoo⟩:∃ o0:Nat,(o0:Int)=(1 - m.used)*m.half:=by
   rcases hus with h | h
   ·exact ⟨m.half.toNat,by rw [h];omega⟩
   ·exact ⟨0,by rw [h];omega⟩
  obtain ⟨hi,hhi⟩:∃ hi:Nat,(hi:Int)=(m.n0:Int)+m.half:=⟨((m.n0:Int)+m.half).toNat,by omega⟩
  have hob:(o0:Int)<=65536/\(m.n0:Int)<=65536:=by
   rcases hus with h | h
   ·rw [h] at hoo pn0;omega
   ·rw [h] at hoo pn0;omega
  refine (Zgd a p bW bC cW cC m vR vK vI l1 l2 tn o0 hi W (H.below hW) (fun e q1 q2 q3 q4 q5 q6 q7 q8=>⟨S,h64,hC,w1,w2,q1,by rw [q2];exact hhi,hoo,q4,q5,hroom,by rw [q3];exact ht.1,by rw [q3];exact ht.2,q6,q7,by rw [q6,q8];exact H.cap⟩) hlR hlK hlI (fun w' h=>(E w' ((Aside.of_below hW).join h (fun _ _ h=>h))).we) ?_ ?_ ?_ ?_ ?_ ?_).mono ?_
  ·rw [hprod,Z18 _ (by omega) (by omega)]
  ·rw [Z18 _ (by omega) (by omega)]
  ·rw [<-hoo,Z18 _ (by omega) (by omega)]
  ·rw [Z18 _ (by omega) (by omega)];exact pm0.symm
  ·rw [<-hhi,Z18 _ (by omega) (by omega)]
  ·rw [pm0,Z18 _ (by omega) (by omega)];exact pm1.symm
  ·rintro ev w' ⟨rfl,h⟩
   exact ⟨rfl,Z1j.from hW h⟩
 have e1:IntKind.i64.wrap (m.old - m.oldTop)=m.old - m.oldTop:=Z18 _ (by omega) (by omega)
 clear H S hC h64 w1 w2 E E0 hn P pn0 pm0 pm1 hu0 hu1 ht0 ht1 ho0 ho1
 by_cases ht:0<=tn/\tn<=15
 ·by_cases hroom:m.top<=m.old - m.oldTop
  ·have t1:¬ tn<0:=by omega
   have t2:¬ 15<tn:=by omega
   have t3:¬ m.old - m.oldTop<m.top:=by omega
   have HKK:=Z00 (hK.out hroom ht)
   have HRR:=Z00 hroom
   have HTT:=Z00 ht
   clear hK hroom ht
   go_enter func116,ntmps116
   go_wp2_with fail
   refine kc.mono ?_
   clear kc
   rintro ev w3 ⟨rfl,b3⟩
   obtain ⟨c5,c1,c6,_⟩:=hMb.out w3 b3
   have HB3:=Z00 b3
   clear b3
   go_wp2_with fail
   go_quiet (fail)
   obtain ⟨w4,hw4⟩:∃ w4,w4=w3.drewN nq:=⟨_,rfl⟩
   rw [<-hw4]
   have b4:Below w.heap.size w w4:=by rw [hw4];exact Z03 HB3.out
   have kk:=HKK.out w4 b4
   clear hw4 b4 c5 c1 c6
   go_wp2_with fail
   refine kk.mono ?_
   clear kk
   rintro ev w5 ⟨rfl,hP⟩
   have HP:=Z00 hP
   clear hP
   go_wp2_with fail
   go_ret
   exact Or.inr (Or.inr ⟨HTT.out,HRR.out,rfl,HP.out⟩)
  ·have t1:¬ tn<0:=by omega
   have t2:¬ 15<tn:=by omega
   have t3:m.old - m.oldTop<m.top:=by omega
   have HRR:=Z00 t3
   have HTT:=Z00 ht
   clear hK hroom ht
   go_enter func116,ntmps116
   go_wp2_with fail
   refine kc.mono ?_
   clear kc
   rintro ev w3 ⟨rfl,b3⟩
   obtain ⟨c5,c1,c6,E3⟩:=hMb.out w3 b3
   have hE5:=E3.c5
   have HB3:=Z00 b3
   clear b3 E3
   go_wp2_with fail
   go_quiet (fail)
   go_wp2_with fail
   go_ret
   exact Or.inr (Or.inl ⟨HTT.out,HRR.out,rfl,Z03 HB3.out⟩)
 ·have HTT:=Z00 ht
  clear hK
  have hcase:tn<0\/(¬ tn<0/\15<tn):=by omega
  clear ht
  rcases hcase with t1 | ⟨t1,t2⟩
  ·go_enter func116,ntmps116
   go_wp2_with fail
   refine kc.mono ?_
   clear kc
   rintro ev w3 ⟨rfl,b3⟩
   obtain ⟨c5,c1,c6,E3⟩:=hMb.out w3 b3
   have hE1:=E3.c1
   have HB3:=Z00 b3
   clear b3 E3
   go_wp2_with fail
   go_ret
   exact Or.inl ⟨HTT.out,rfl,HB3.out⟩
  ·go_enter func116,ntmps116
   go_wp2_with fail
   refine kc.mono ?_
   clear kc
   rintro ev w3 ⟨rfl,b3⟩
   obtain ⟨c5,c1,c6,E3⟩:=hMb.out w3 b3
   have hE1:=E3.c1
   have HB3:=Z00 b3
   clear b3 E3
   go_wp2_with fail
   go_ret
   exact Or.inl ⟨HTT.out,rfl,HB3.out⟩
end
def MD.textA (m:MD) (vs:List Nat):ByteArray:=Z0j m.F (m.reach vs) (Z0d sRoot (m.reach vs) ⟨#[]⟩ m.R) (m.reach vs).length
def MD.textB (m:MD) (vs:List Nat):ByteArray:=Z7d (m.reach vs) (Z0d sWeak (m.reach vs) ⟨#[]⟩ m.K) (Z9i m.I)
section
open Go.Maps
theorem Coll.text {e:CE}{m n:MD}{l1 l2 us:List Nat}{S:Nat->Prop}{ψ:Nat->Nat} (h:Coll e m n l1 l2 us S ψ) (Sm:m.Shape (l1++l2)) (h64:MD64 m):n.textA us=m.textA (l1++l2):=by
 obtain ⟨h1,h2⟩:=Z4a Sm h64 h.shape h.h64 h.iso h.roots h.rin
 exact Ze9 h.iso h.roots h.rin h1 h2
theorem Coll.ilen {e:CE}{m n:MD}{l1 l2 us:List Nat}{S:Nat->Prop}{ψ:Nat->Nat} (h:Coll e m n l1 l2 us S ψ):n.I.length<=m.I.length:=by
 obtain ⟨c,e1,_⟩:=h.ids
 rw [e1,U0v]
 exact U3b _ _
theorem Zhc {m:MD}{vs l1:List Nat} (S:m.Shape vs) (w1:Z09 m.F (G0 m.F) (m.n1 - m.n0) m.n0 m.n1=some l1) {t:Nat} (ht:t∈l1):(t:Int)<2*m.half:=by
 have h:=Z0o w1 t ht
 have P:=MD.parts S.1
 have p1:=P.n1
 have u0:=S.1.u0
 have u1:=S.1.u1
 have t1:=S.1.t1
 have hu:m.used=0\/m.used=1:=by omega
 rcases hu with hu | hu
 ·rw [hu] at p1;omega
 ·rw [hu] at p1;omega
theorem Zkz {m:MD}{vs l2:List Nat} (S:m.Shape vs) (w2:Z09 m.F (G0 m.F) (m.m1 - m.m0) m.m0 m.m1=some l2) {t:Nat} (ht:t∈l2):2*m.half<=(t:Int):=by
 have h:=Z0o w2 t ht
 have P:=MD.parts S.1
 have p1:=P.m0
 omega
structure GrowI (m:MD) (vs:List Nat) (bx bW bC cW cC:Nat) (tn:Int) (i:Nat) (w2:World) (mi:MD) (l1 l2:List Nat) (vR vK vI:Value) (w:World):Prop where
 at':ColAt bx bW bC cW cC mi vR vK vI w
 S:mi.Shape (l1++l2)
 cards:mi.cardsB=true
 h64:MD64 mi
 k1:Z09 mi.F (G0 mi.F) (mi.n1 - mi.n0) mi.n0 mi.n1=some l1
 k2:Z09 mi.F (G0 mi.F) (mi.m1 - mi.m0) mi.m0 mi.m1=some l2
 R:mi.R.length<=300000
 K:mi.K.length<=300000
 I:mi.I.length<=300000
 text:mi.textA (l1++l2)=m.textA vs
 age:∀ f∈l1,(i:Int)<=mi.F f / 1024 % 16
 top:tn+1<=(i:Int)->mi.top=0
 below:Below w2.heap.size w2 w
 xx:w2.heap.size<=bx
 xW:w2.heap.size<=bW
 xC:w2.heap.size<=bC
def GrowS (m:MD) (vs:List Nat) (bx bW bC cW cC:Nat) (tn:Int) (i:Nat) (w2 w:World):Prop:=∃ mi l1 l2 vR vK vI,GrowI m vs bx bW bC cW cC tn i w2 mi l1 l2 vR vK vI w
theorem GrowI.step {m:MD}{vs:List Nat}{bx bW bC cW cC:Nat}{tn:Int}{i:Nat}{w2:World}{mi:MD}{l1 l2:List Nat}{vR vK vI:Value}{w w':World} (h:GrowI m vs bx bW bC cW cC tn i w2 mi l1 l2 vR vK vI w) (hp:Z1j bx bW bC cW cC mi l1 l2 tn w w'):GrowS m vs bx bW bC cW cC tn (i+1) w2 w':=by
 obtain ⟨e,n,us,S,ψ,vR',vK',vI',htn,hN,hC,_,ha,_⟩:=hp
 obtain ⟨l1',l2',hus,g1,g2⟩:=hC.shape.bare
 have Sn:=hC.shape
 rw [hus] at Sn
 refine ⟨n,l1',l2',vR',vK',vI',hN,Sn,hC.cards,hC.h64,g1,g2,?_,?_,?_,?_,fun t ht => ?_,fun hi => ?_,?_,h.xx,h.xW,h.xC⟩
 ·rw [hC.roots,U0v];exact h.R
 ·rw [hC.klen];exact h.K
 ·have:=hC.ilen;have:=h.I;omega
 ·rw [<-hus,hC.text h.S h.h64];exact h.text
 ·obtain ⟨f,hf,hft⟩:=hC.out t (by rw [hus];exact U0c.2 (Or.inl ht))
  have hlt:=Zhc Sn g1 ht
  rw [hC.half] at hlt
  rcases U0c.1 (hC.in' f hf).1 with hfl | hfl
  ·obtain ⟨y1,y2⟩:=hC.young f hf hfl
   have:=h.age f hfl
   have h3:=y2 (y1.1 (by rw [hft];exact hlt))
   rw [hft] at h3
   rw [h3]
   omega
  ·have h1:=(hC.old f hfl).2
   have h2:=Zkz h.S h.k2 hfl
   rw [hft] at h1
   omega
 ·refine hC.none (fun f hf => ?_)
  have:=h.age f hf
  rw [htn]
  omega
 ·exact h.below.trans (ha.below h.below.size (fun k hk hx=>by
   have:=h.xx;have:=h.xW;have:=h.xC
   rcases hx with h | h | h <;> omega))
theorem GrowI.start {m:MD}{vs l1 l2:List Nat}{bx bW bC cW cC:Nat}{tn:Int}{w2:World}{vR vK vI:Value}{w:World} (hv:vs=l1++l2) (at':ColAt bx bW bC cW cC m vR vK vI w) (S:m.Shape vs) (cards:m.cardsB=true) (h64:MD64 m) (w1:Z09 m.F (G0 m.F) (m.n1 - m.n0) m.n0 m.n1=some l1) (g2:Z09 m.F (G0 m.F) (m.m1 - m.m0) m.m0 m.m1=some l2) (R:m.R.length<=300000) (K:m.K.length<=300000) (I:m.I.length<=300000) (h0:0<=tn) (below:Below w2.heap.size w2 w) (hx:w2.heap.size<=bx) (hW:w2.heap.size<=bW) (hC:w2.heap.size<=bC):GrowI m vs bx bW bC cW cC tn 0 w2 m l1 l2 vR vK vI w:=
 ⟨at',by rw [<-hv];exact S,cards,h64,w1,g2,R,K,I,by rw [hv],fun f _=>U3o _ (by decide),fun h=>by omega,below,hx,hW,hC⟩
end
end Go.Proofs.YtlkcbdinlfeoiaaGreatDoor
