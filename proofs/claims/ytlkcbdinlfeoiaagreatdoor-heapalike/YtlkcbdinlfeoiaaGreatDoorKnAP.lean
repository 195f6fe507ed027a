/- Collect of all (package major), by a contract. -/
import Derived.Test.YtlkcbdinlfeoiaaGreatDoorMjJ
import Derived.Test.YtlkcbdinlfeoiaaGreatDoorKnBD
import Derived.Test.YtlkcbdinlfeoiaaGreatDoorKnAG
namespace Go.Proofs.YtlkcbdinlfeoiaaGreatDoor
open Go.Proofs.Tryz Go.RowKit
set_option maxHeartbeats 8000000
set_option maxRecDepth 100000
set_option linter.unusedSimpArgs false
section
open Go.Maps
theorem Zi0 (F:Nat->Int) (l l':List Nat):Z0i F (l++l')=Z0i F l+Z0i F l':=by unfold Z0i;rw [U1b,U4x]
theorem Zh7 {m:MD}{l1 l2:List Nat} (S:m.Shape (l1++l2)) (h64:MD64 m) (w1:Z09 m.F (G0 m.F) (m.n1 - m.n0) m.n0 m.n1=some l1) (w2:Z09 m.F (G0 m.F) (m.m1 - m.m0) m.m0 m.m1=some l2):m.live (l1++l2)<=300000/\m.m0<=300000/\m.m0+(m.m1 - m.m0)<=m.W.length:=by
 have hO:=Z1h S h64
 have h1:=Z6w m.F (m.reach (l1++l2)) (l1++l2) hO.once hO.sub
 have P:=MD.parts S.1
 have hn:=S.1.nums
 unfold Z0c at hn
 have p0:=P.n0
 have p1:=P.n1
 have p2:=P.m0
 have p3:=P.m1
 have t0:=S.1.t0
 have t1:=S.1.t1
 have o0:=S.1.o0
 have o1:=S.1.o1
 have hw:=S.1.w
 have k1:=(Z1v w1 (by omega) (U02 _)).sum
 have k2:=(Z1v w2 (by omega) (U02 _)).sum
 have e:∀ l:List Nat,(l.map fun f=>(f,f)).map Prod.fst=l:=fun l=>by rw [U2h];exact List.map_id' _
 rw [e] at k1 k2
 rw [Zi0] at h1
 show Z0i m.F (m.reach (l1++l2))<=300000/\_
 omega
def Zr8 (a:Nat->Addr) (p bW bC cW cC:Nat) (m:MD) (l1 l2:List Nat) (w:World) (ev:Ending) (w':World):Prop:=
 (m.W.length<m.m0+m.live (l1++l2)/\ev = .returned (Z0p a 5)/\Below w.heap.size w w') \/
 (m.m0+m.live (l1++l2)<=m.W.length/\ev = .returned .nilIface /\ ∃ P φ,JX m l1 l2 P (m.m0+m.live (l1++l2)) φ/\P.map Prod.fst=Z0k m.m0 (Z4e (m.reach (l1++l2)))/\Z1i p bW bC cW cC m φ P (m.m0+m.live (l1++l2)) w w')
theorem Z1i.from {p bW bC cW cC:Nat}{m:MD}{φ:Nat->Option Nat}{P:List (Nat × Nat)}{e:Nat}{w w1 w':World} (hb:Below w.heap.size w w1) (h:Z1i p bW bC cW cC m φ P e w1 w'):Z1i p bW bC cW cC m φ P e w w':=by
 obtain ⟨vR,vK,vI,h1,h2,h3⟩:=h
 exact ⟨vR,vK,vI,h1,(Aside.of_below hb).join h2 (fun _ _ h=>h),h3.base hb.size⟩
theorem Zdn (a:Nat->Addr) (p bW bC cW cC:Nat) (m:MD) (vR vK vI:Value) (l1 l2:List Nat) (w:World) (H:ColAt p bW bC cW cC m vR vK vI w) (S:m.Shape (l1++l2)) (hC:m.cardsB=true) (h64:MD64 m) (w1:Z09 m.F (G0 m.F) (m.n1 - m.n0) m.n0 m.n1=some l1) (w2:Z09 m.F (G0 m.F) (m.m1 - m.m0) m.m0 m.m1=some l2)
  (hlR:m.R.length<=300000) (hlK:m.K.length<=300000) (hlI:m.I.length<=300000) (E:∀ w',Aside (Z7g p bW bC) w w'->MErr a w') :
  Calls prog 117 #[.pointer (some ⟨p,0,none⟩)] w (Zr8 a p bW bC cW cC m l1 l2 w):=by
 have E0:=E w (Aside.refl _ _)
 have kr:=Z6k a p m (l1++l2) S hC h64 hlR hlK hlI w E0.three H.repP
 obtain ⟨few1,few2,few3⟩:=Zh7 S h64 w1 w2
 have hO:=Z1h S h64
 have hwl:=(Zm4 S).2.2
 obtain ⟨rr,hrr⟩:∃ rr,rr=m.reach (l1++l2):=⟨_,rfl⟩
 obtain ⟨l,hl⟩:∃ l,l=Z0k m.m0 (Z4e rr):=⟨_,rfl⟩
 have hperm:l.Perm rr:=by rw [hl];exact (Z6f _ _).trans (Z4f _)
 have hlive:Z0i m.F l=m.live (l1++l2):=by unfold MD.live;rw [<-hrr];exact Zfx hperm
 rw [<-hrr] at kr hO
 have hrl:rr.length<=300000:=by have:=hO.len;have:=S.few;omega
 have hll:l.length<=300000:=by rw [hperm.length_eq];exact hrl
 have hnd:l.Nodup:=hperm.nodup_iff.2 hO.once
 have hf:∀ f∈l,f<m.W.length/\0<=m.F f/\m.F f<18446744073709551616/\m.F f % 4=3/\m.F f / 32768 % 2=0/\m.F f / 65536<=4096:=fun f hf=>by
  have hin:=hO.sub f (hperm.mem_iff.1 hf)
  obtain ⟨h1,h2⟩:=S.fine f hin
  obtain ⟨e1,e2,e3⟩:=U0j h1
  have r:=Z5c h64 f (by omega)
  exact ⟨by omega,r.1,r.2,e1,e2,e3⟩
 have hX:m.m0+m.live (l1++l2)<=m.W.length->JX m l1 l2 (Z2n m.F m.m0 l) (m.m0+m.live (l1++l2)) (Z7s (Z2n m.F m.m0 l)):=fun he=>by
  have h:=JX.of (L:=Z4e rr) S h64 w1 w2 (by rw [<-hrr];exact Z4f _) (Z77 _) (by rw [<-hl,hlive];exact he)
  rw [<-hl,hlive] at h
  exact h
 obtain ⟨hh,hhe⟩:∃ hh:Int,hh=m.half:=⟨_,rfl⟩
 have hm0:(m.m0:Int)=2*m.half:=(MD.parts S.1).m0
 have hp:=Z01 H.mb
 have lW:=H.hW.lt
 have lC:=H.hC.lt
 have HPL:Hid (∀ w1 ao cap,Below w.heap.size w w1->w1.ownsRow w.heap.size 3 1 (.slice ao rr.length cap) rr.length (Z9u rr)->Calls prog 166 #[.pointer (some ⟨p,0,none⟩),.slice ao rr.length cap] w1 (Zbi p w.heap.size m.W.length m.m0 m.F l w1)):=fun w1 ao cap hb own=>by
  have H1:=H.below hb
  refine Zpm p w.heap.size bW cW m.W.length m.m0 m.half m.F rr l ao cap w1 hrl hm0 few2 hb.size own hwl (by rw [hl];rfl) hnd hll hf (by rw [hlive];omega) hp lW H1.mem.c0 H1.mem.c3 (fun i hi => ?_)
  refine H1.hW.cell ?_
  unfold Z05 MD.F
  rw [U0g,U07,U03 hi]
  rfl
 have HEq:Hid (Z0i m.F l=m.live (l1++l2)):=hlive
 have HLL:=Z00 hl
 have HRR:=Z00 hrr
 have HX:=Z00 hX
 have HH:=Z00 H
 have HE:=Z00 E
 have HPl:Hid (Z2n m.F m.m0 l=Z2n m.F m.m0 l/\(Z2n m.F m.m0 l).map Prod.fst=l/\(Z2n m.F m.m0 l).length<=300000):=⟨rfl,Z1m _ _ _,by have:=congrArg List.length (Z1m m.F l m.m0);rw [U0v] at this;rw [this];exact hll⟩
 clear H S hC h64 w1 w2 E E0 hO hrr hl hperm hlive hrl hll hnd hf hX hhe hm0
 go_enter func117,ntmps117
 go_wp2_with fail
 refine kr.mono ?_
 clear kr
 rintro ev w1 ⟨ao,cap,rfl,own,b1⟩
 have kp:=HPL.out w1 ao cap b1 own
 have HB1:=Z00 b1
 clear own b1
 go_wp2_with fail
 refine kp.mono ?_
 clear kp
 rintro ev w2 ⟨q,bm,n,D,vM,rfl,hS,hW,hq,hbm,b2⟩
 rw [HEq.out] at hS
 have B2:Below w.heap.size w w2:=HB1.out.trans b2
 have H2:=HH.out.below B2
 have c5:=hS.cells.2.2.2.2.2
 have c3:=H2.mem.c3
 obtain ⟨T,hT⟩:∃ T,T=m.m0+m.live (l1++l2):=⟨_,rfl⟩
 obtain ⟨nW,hnW⟩:∃ nW,nW=m.W.length:=⟨_,rfl⟩
 rw [<-hT] at c5
 rw [<-hnW] at c3
 have HS:=Z00 hS
 have HWe:=Z00 hW
 have HB2:=Z00 B2
 have HT:=Z00 hT
 have HNW:=Z00 hnW
 have hsz1:=HB1.out.size
 have HE2:Hid (∀ w3,Below w2.heap.size w2 w3->MErr a w3):=fun w3 b3=>HE.out w3 (Aside.of_below (B2.trans (b3.mono B2.size)))
 have E2:=(HE2.out w2 (U01 _ _)).c5
 have hTb:T<=700000:=by omega
 have hNb:nW<=300000:=by omega
 by_cases hroom:T<=nW
 ·have t1:¬ (nW:Int)<(T:Int):=by omega
  have X:=HX.out (by have:=HT.out;have:=HNW.out;omega)
  have HJX:=Z00 X
  have HR0:Hid (m.m0+m.live (l1++l2)<=m.W.length):=by show _<=_;have:=HT.out;have:=HNW.out;omega
  have HK:Hid (∀ w3,Below w2.heap.size w2 w3->Calls prog 167 #[.pointer (some ⟨q,0,none⟩)] w3 fun ev w'=>ev = .returned (.tuple #[])/\Z1i p bW bC cW cC m (Z7s (Z2n m.F m.m0 l)) (Z2n m.F m.m0 l) (m.m0+m.live (l1++l2)) w w'):=fun w3 b3=>by
   have B3:=B2.trans (b3.mono B2.size)
   refine (Zml a p q bm bW bC cW cC w1.heap.size _ n m vR vK vI vM l1 l2 _ D _ w3 (HH.out.below B3) (hS.below b3) hW X hlR hlK hlI HPl.out.2.2 (by omega) (by omega) (by omega) hq hbm (fun w' ha=>(HE.out w' ((Aside.of_below B3).join ha (fun _ _ h=>h))).we)).mono ?_
   rintro ev w' ⟨rfl,h⟩
   exact ⟨rfl,Z1i.from B3 h⟩
  clear hS hW b2 B2 H2 hT hnW X hroom
  go_wp2_with fail
  go_quiet (fail)
  obtain ⟨w3,hw3⟩:∃ w3,w3=w2.drewN nq:=⟨_,rfl⟩
  rw [<-hw3]
  have kk:=HK.out w3 (by rw [hw3];exact Z03 (U01 _ _))
  clear hw3 c5 c3 E2
  go_wp2_with fail
  refine kk.mono ?_
  clear kk
  rintro ev w4 ⟨rfl,hP⟩
  have HP:=Z00 hP
  clear hP
  have HEND:Hid (Zr8 a p bW bC cW cC m l1 l2 w (.returned .nilIface) w4):=Or.inr ⟨HR0.out,rfl,_,_,HJX.out,by rw [HPl.out.2.1,HLL.out,HRR.out],HP.out⟩
  go_wp2_with fail
  first | exact HEND.out | (go_ret;exact HEND.out)
 ·have t1:(nW:Int)<(T:Int):=by omega
  have HR0:Hid (m.W.length<m.m0+m.live (l1++l2)):=by show _<_;have:=HT.out;have:=HNW.out;omega
  have HEND:Hid (∀ w3,Below w2.heap.size w2 w3->Zr8 a p bW bC cW cC m l1 l2 w (.returned (Z0p a 5)) w3):=fun w3 b3=>Or.inl ⟨HR0.out,rfl,HB2.out.trans (b3.mono HB2.out.size)⟩
  clear hS hW b2 B2 H2 hT hnW hroom
  go_wp2_with fail
  go_quiet (fail)
  go_wp2_with fail
  have hE:=HEND.out (w2.drewN nq) (Z03 (U01 _ _))
  first | exact hE | (go_ret;exact hE)
end
section
open Go.Maps
variable {m n:MD}{l1 l2 us:List Nat}{S:Nat->Prop}{ψ:Nat->Nat}
theorem MColl.text (h:MColl m n l1 l2 us S ψ) (Sm:m.Shape (l1++l2)) (h64:MD64 m):n.textA us=m.textA (l1++l2):=by
 obtain ⟨h1,h2⟩:=Z4a Sm h64 h.shape h.h64 h.iso h.roots h.rin
 exact Ze9 h.iso h.roots h.rin h1 h2
theorem MColl.ilen (h:MColl m n l1 l2 us S ψ):n.I.length<=m.I.length:=by
 obtain ⟨c,e1,_⟩:=h.ids
 rw [e1,U0v]
 exact U3b _ _
theorem MColl.live (h:MColl m n l1 l2 us S ψ) (Sm:m.Shape (l1++l2)) (h64:MD64 m):n.live us=m.live (l1++l2):=by
 obtain ⟨h1,h2⟩:=Z4a Sm h64 h.shape h.h64 h.iso h.roots h.rin
 unfold MD.live
 rw [h1]
 exact Zeb h.iso h2
theorem Coll.live {e:CE} (h:Coll e m n l1 l2 us S ψ) (Sm:m.Shape (l1++l2)) (h64:MD64 m):n.live us=m.live (l1++l2):=by
 obtain ⟨h1,h2⟩:=Z4a Sm h64 h.shape h.h64 h.iso h.roots h.rin
 unfold MD.live
 rw [h1]
 exact Zeb h.iso h2
structure JDone (m n:MD) (l1 l2 us:List Nat) (S:Nat->Prop) (ψ:Nat->Nat):Prop where
 C:MColl m n l1 l2 us S ψ
 top:n.oldTop=(m.live (l1++l2):Int)
 led:∀ f,S f ↔ f∈m.reach (l1++l2)
 slid:Slid n us
 first:Z0k n.m0 (Z4e (n.reach us))=us
theorem Zgz {F:Nat->Int} : ∀ {L:List (Nat × Nat)}{a b:Nat},Z0l F a L b->(L.map Prod.snd).Pairwise (fun x y=>x<=y) /\ ∀ x∈L.map Prod.snd,a<=x
 | [],_,_,_=>⟨List.Pairwise.nil,by simp⟩
 | p::L,a,b,h=>by
  obtain ⟨h1,h2⟩:=Zgz h.2
  have e:p.2=a:=h.1
  rw [U1f]
  refine ⟨List.Pairwise.cons (fun x hx => ?_) h1,fun x hx => ?_⟩
  ·have:=h2 x hx;omega
  ·rcases U19.1 hx with rfl | hx
   ·omega
   ·have:=h2 x hx;omega
theorem Zpf {P:List (Nat × Nat)}{φ:Nat->Option Nat} (Sm:m.Shape (l1++l2)) (h64:MD64 m) (X:JX m l1 l2 P (m.m0+m.live (l1++l2)) φ) (hP:P.map Prod.fst=Z0k m.m0 (Z4e (m.reach (l1++l2)))) :
  JDone m (Zmf m φ (Z17 m.W.length φ m.W P) (m.m0+m.live (l1++l2))) l1 l2 (P.map Prod.snd) (fun f=>f∈P.map Prod.fst) (atP φ):=by
 have M:=X.fin.coll X
 obtain ⟨n,hn⟩:∃ n,n=Zmf m φ (Z17 m.W.length φ m.W P) (m.m0+m.live (l1++l2)):=⟨_,rfl⟩
 have hot:n.oldTop=(m.live (l1++l2):Int):=by
  rw [hn]
  show ((m.m0+m.live (l1++l2):Nat):Int) - (m.m0:Int)=_
  omega
 have hm0:n.m0=m.m0:=by rw [hn];rfl
 rw [<-hn] at M ⊢
 have hperm:(P.map Prod.fst).Perm (m.reach (l1++l2)):=by rw [hP];exact (Z6f _ _).trans (Z4f _)
 obtain ⟨r1,r2⟩:=Z4a Sm h64 M.shape M.h64 M.iso M.roots M.rin
 have hsnd:(P.map Prod.fst).map (atP φ)=P.map Prod.snd:=by
  rw [U2h]
  refine U15 fun p hp => ?_
  show atP φ p.1=p.2
  unfold atP
  rw [(X.φ p.1 p.2).2 hp]
  rfl
 have hperm2:(n.reach (P.map Prod.snd)).Perm (P.map Prod.snd):=by
  have h1:=hperm.map (atP φ)
  rw [hsnd] at h1
  rw [r1]
  exact h1.symm
 obtain ⟨u1,u2⟩:=Zgz X.t
 have hsort:Z4e (n.reach (P.map Prod.snd))=P.map Prod.snd:=by
  refine List.Perm.eq_of_pairwise (le:=fun x y=>x<=y) (fun x y _ _ h1 h2=>Nat.le_antisymm h1 h2) (Z77 _) u1 ((Z4f _).trans hperm2)
 refine ⟨M,hot,fun f=>hperm.mem_iff,⟨M.shape,M.h64,M.top,fun f hf=>hperm2.mem_iff.2 hf,fun x hx h0 => ?_,?_⟩,?_⟩
 ·obtain ⟨_,rK,_⟩:=M.shape.rest'
  exact Z8v (rK x hx) h0
 ·have h1:n.C.length=m.C.length:=by rw [M.cf,U17]
  rw [h1]
  exact M.cf
 ·rw [hsort,hm0]
  unfold Z0k
  have e1:(P.map Prod.snd).filter (fun f=>decide (m.m0<=f))=P.map Prod.snd:=List.filter_eq_self.2 fun x hx=>U0d (u2 x hx)
  have e2:(P.map Prod.snd).filter (fun f=>decide (f<m.m0)) = []:=List.filter_eq_nil_iff.2 fun x hx=>by have:=u2 x hx;simp;omega
  rw [e1,e2,U16]
theorem JDone.again {k1 k2:List Nat} (h:JDone m n l1 l2 us S ψ) (hus:us=k1++k2) (w1:Z09 n.F (G0 n.F) (n.n1 - n.n0) n.n0 n.n1=some k1) (w2:Z09 n.F (G0 n.F) (n.m1 - n.m0) n.m0 n.m1=some k2) {P:List (Nat × Nat)}{e:Nat}{φ:Nat->Option Nat} (X:JX n k1 k2 P e φ) (hP:P.map Prod.fst=Z0k n.m0 (Z4e (n.reach (k1++k2)))):Zmf n φ (Z17 n.W.length φ n.W P) e=n:=
 (h.slid.again hus w1 w2 X (by rw [hP,<-hus];exact h.first)).1
theorem JDone.order (h:JDone m n l1 l2 us S ψ) (Sm:m.Shape (l1++l2)) (w1:Z09 m.F (G0 m.F) (m.n1 - m.n0) m.n0 m.n1=some l1) (w2:Z09 m.F (G0 m.F) (m.m1 - m.m0) m.m0 m.m1=some l2) {f g:Nat} (hf:S f) (hg:S g) (ha:(2*m.half<=(f:Int) /\ ¬ 2*m.half<=(g:Int))\/((2*m.half<=(f:Int) ↔ 2*m.half<=(g:Int))/\(f:Int)<(g:Int))):ψ f<ψ g:=by
 have key:∀ x,S x->((2*m.half<=(x:Int)->x∈l2)/\(¬ 2*m.half<=(x:Int)->x∈l1)/\(x∈l2->2*m.half<=(x:Int))):=fun x hx=>by
  have hin:=(h.C.in' x hx).1
  refine ⟨fun h1 => ?_,fun h1 => ?_,fun h1=>Zkz Sm w2 h1⟩
  ·rcases U0c.1 hin with h2 | h2
   ·have:=Zhc Sm w1 h2;omega
   ·exact h2
  ·rcases U0c.1 hin with h2 | h2
   ·exact h2
   ·have:=Zkz Sm w2 h2;omega
 obtain ⟨f1,f2,f3⟩:=key f hf
 obtain ⟨g1,g2,g3⟩:=key g hg
 refine h.C.order f g hf hg ?_
 rcases ha with ⟨a1,a2⟩ | ⟨a1,a2⟩
 ·exact Or.inl ⟨f1 a1,g2 a2⟩
 ·exact Or.inr ⟨by omega,⟨fun h1=>g1 (a1.1 (f3 h1)),fun h1=>f1 (a1.2 (g3 h1))⟩⟩
end
section
open Go.Maps
structure KeptH (m n:MD) (l1 l2 us:List Nat) (S:Nat->Prop) (ψ:Nat->Nat):Prop where
 Sm:m.Shape (l1++l2)
 m64:MD64 m
 shape:n.Shape us
 h64:MD64 n
 iso:Iso m.F n.F S ψ
 roots:n.R=m.R.map (mvI ψ)
 rin:∀ x∈m.R,Z4r S x
 in':∀ f,S f->f∈l1++l2/\ψ f∈us
 half:n.half=m.half
 hold:n.old=m.old
 klen:n.K.length=m.K.length
 weak:∀ i,i<m.K.length->(Z4r S (m.K.getD i 0)/\n.K.getD i 0=mvI ψ (m.K.getD i 0))\/(0<=ptI (m.K.getD i 0) /\ ¬ S (ptI (m.K.getD i 0)).toNat/\n.K.getD i 0=2)
 ids:∃ c:Int × Int->Bool,n.I=(m.I.filter c).map (fun x=>(mvI ψ x.1,x.2)) /\ ∀ x∈m.I,c x=true ↔ S (ptI x.1).toNat
theorem Coll.kept {e:CE}{m n:MD}{l1 l2 us:List Nat}{S:Nat->Prop}{ψ:Nat->Nat} (h:Coll e m n l1 l2 us S ψ) (Sm:m.Shape (l1++l2)) (m64:MD64 m):KeptH m n l1 l2 us S ψ:=⟨Sm,m64,h.shape,h.h64,h.iso,h.roots,h.rin,h.in',h.half,h.hold,h.klen,h.weak,h.ids⟩
theorem MColl.kept {m n:MD}{l1 l2 us:List Nat}{S:Nat->Prop}{ψ:Nat->Nat} (h:MColl m n l1 l2 us S ψ) (Sm:m.Shape (l1++l2)) (m64:MD64 m):KeptH m n l1 l2 us S ψ:=⟨Sm,m64,h.shape,h.h64,h.iso,h.roots,h.rin,h.in',h.half,h.hold,h.klen,h.weak,h.ids⟩
end
section
variable {m n:MD}{vs us l1 l2:List Nat}{M:MO}{S S':Nat->Prop}{φ ψ:Nat->Nat}
theorem HRel.keptH (h:HRel m vs M S φ) (K:KeptH m n l1 l2 us S' ψ) (hc:n.cardsB=true):HRel n us M (fun i=>S i/\S' (φ i)) (fun i=>ψ (φ i)):=
 h.kept K.shape hc K.h64 K.iso K.roots K.rin (fun f hf=>(K.in' f hf).2)
theorem Zl5 (out:List Nat) (c:CL):∃ l,Z7t out c=out++l:=by
 unfold Z7t
 split
 ·exact ⟨_,rfl⟩
 ·exact ⟨[],by simp⟩
theorem Zah:∀ (l:List CL) (out:List Nat),∃ r,Z2q out l=out++r
 | [],out=>⟨[],by simp [Z2q]⟩
 | x::l,out=>by
  obtain ⟨a,ha⟩:=Zl5 out x
  obtain ⟨b,hb⟩:=Zah l (Z7t out x)
  exact ⟨a++b,by show Z2q (Z7t out x) l=_;rw [hb,ha,U0y]⟩
theorem Zmx (M:MO) (out:List Nat) (i:Nat):∃ r,Zbp M out i=out++r:=by
 unfold Zbp
 split
 ·exact ⟨[],by simp⟩
 ·split
  ·exact ⟨[],by simp⟩
  ·exact Zah _ _
theorem Zav (M:MO):∀ (n:Nat) (out:List Nat) (k:Nat),∃ r,Z2h M n out k=out++r
 | 0,out,_=>⟨[],by simp [Z2h]⟩
 | n+1,out,k=>by
  unfold Z2h
  cases e:out[k]? with
  | none=>exact ⟨[],by simp⟩
  | some i =>
   obtain ⟨a,ha⟩:=Zmx M out i
   obtain ⟨b,hb⟩:=Zav M n (Zbp M out i) (k+1)
   exact ⟨a++b,by show Z2h M n (Zbp M out i) (k+1)=_;rw [hb,ha,U0y]⟩
theorem Zba {out:List Nat}{k:Nat} (h:out.length<=k):∀ n,Z2h M n out k=out
 | 0=>rfl
 | n+1=>by unfold Z2h;rw [U14 h]
theorem Zkw {out:List Nat}{k i n:Nat} (h:out[k]?=some i):Z2h M (n+1) out k=Z2h M n (Zbp M out i) (k+1):=by
 conv=>lhs;unfold Z2h
 rw [h]
theorem Z6b (j:Nat):∀ (n:Nat) (out:List Nat) (k:Nat) (X:List Nat),Z2h M (n+j) out k=X->X.length<=n+k->Z2h M n out k=X
 | 0,out,k,X,h,hl=>by
  obtain ⟨r,hr⟩:=Zav M (0+j) out k
  have:out.length<=k:=by
   have:=congrArg List.length (h.symm.trans hr)
   rw [U0f] at this
   omega
  rw [Zba this] at h ⊢
  exact h
 | n+1,out,k,X,h,hl=>by
  rw [show n+1+j=(n+j)+1 by omega] at h
  cases e:out[k]? with
  | none =>
   unfold Z2h at h ⊢
   rw [e] at h ⊢
   exact h
  | some i =>
   rw [Zkw e] at h ⊢
   exact Z6b j n _ (k+1) X h (by omega)
def MO.all (M:MO):List Nat:=M.reach (M.N.length+1)
theorem HRel.reach (h:HRel m vs M S φ) (j:Nat):m.reach vs=(M.reach (vs.length+1+j)).map φ /\ ∀ i∈M.reach (vs.length+1+j),S i:=by
 obtain ⟨e0,s0⟩:=h.rel.meets (l:=M.R) (out:=[]) (by simp) h.rel.rin
 obtain ⟨e1,s1⟩:=h.rel.reach (vs.length+1+j) (Z2q [] M.R) 0 s0
 have hm:=Z4j (h.shape.reachy h.h64) j (vs.length+1) (Z0n [] m.R) 0 ((Z5f vs).comes (h.shape.roots h.h64)) (by omega)
 refine ⟨?_,s1⟩
 unfold MD.reach
 rw [<-hm]
 have hR:Z0n [] m.R=(Z2q [] M.R).map φ:=by rw [h.rel.roots];exact e0
 rw [hR]
 exact e1
theorem Z7p {f:Nat->Nat} : ∀ {l:List Nat},(l.map f).Nodup->l.Nodup
 | [],_=>List.nodup_nil
 | a::l,h=>by
  rw [U1f,U2r] at h
  rw [U2r]
  exact ⟨fun q=>h.1 (U33 q),Z7p h.2⟩
theorem HRel.all (h:HRel m vs M S φ):m.reach vs=M.all.map φ/\(∀ i∈M.all,S i)/\M.all.Nodup:=by
 obtain ⟨e,s⟩:=h.reach (M.N.length+1)
 have hn:(M.reach (vs.length+1+(M.N.length+1))).Nodup:=Z7p (f:=φ) (by rw [<-e];exact (Z1h h.shape h.h64).once)
 have hl:=Z55 _ (List.range M.N.length) hn (fun i hi=>U0u.2 (h.inN i (s i hi)))
 rw [List.length_range] at hl
 have q:M.all=M.reach (vs.length+1+(M.N.length+1)):=by
  unfold MO.all MO.reach
  refine Z6b (vs.length+1) (M.N.length+1) _ 0 _ (by rw [Nat.add_comm]) ?_
  have:(Z2h M (vs.length+1+(M.N.length+1)) (Z2q [] M.R) 0).length<=M.N.length:=hl
  omega
 rw [q]
 exact ⟨e,s,hn⟩
theorem HRel.mem (h:HRel m vs M S φ) {i:Nat} (hi:S i) (hm:φ i∈m.reach vs):i∈M.all:=by
 obtain ⟨e,s,_⟩:=h.all
 rw [e] at hm
 obtain ⟨j,hj,q⟩:=U0l.1 hm
 rw [h.rel.inj j i (s j hj) hi q] at hj
 exact hj
theorem HRel.closed (h:HRel m vs M S φ):(∀ c∈M.R,c.kind=4->c.ref∈M.all) /\ ∀ i∈M.all,∀ d,M.N[i]?=some d -> ¬ d.kind<8 -> ∀ c∈d.f,c.kind=4->c.ref∈M.all:=by
 obtain ⟨k1,k2⟩:=Z57 h.shape h.h64
 obtain ⟨e,s,_⟩:=h.all
 refine ⟨fun c hc h4 => ?_,fun i hi d hd hk c hc h4 => ?_⟩
 ·have hs:=h.rel.rin c hc h4
  have hp:=Zi5 h4 (h.rel.few _ hs)
  have g:=k1 (wdC φ c) (by rw [h.rel.roots];exact U33 hc) (by omega)
  rw [hp] at g
  exact h.mem hs (by simpa using g)
 ·obtain ⟨d',h1,h2,h3,h4',h5⟩:=h.rel.has i (s i hi)
  obtain rfl:d=d':=by rw [hd] at h1;exact U1h h1
  have hs:=h5 hk c hc h4
  have hp:=Zi5 h4 (h.rel.few _ hs)
  have hin:wdC φ c∈Z07 m.F (φ i):=by rw [h4'];unfold wdN;rw [U08 hk];exact U33 hc
  unfold Z07 at hin
  obtain ⟨j,hj,q⟩:=U0l.1 hin
  have g:=k2 (φ i) (by rw [e];exact U33 hi) (by rw [h3];exact hk) j (U0u.1 hj)
  rw [show m.F (φ i+1+j)=wdC φ c from q,hp] at g
  exact h.mem hs (by simpa using g (by omega))
def MO.text (T:Int->List Int->ByteArray) (M:MO):ByteArray:=Z7n T M M.all (Zgp M.all ⟨#[]⟩ M.R) M.all.length
theorem HRel.text (h:HRel m vs M S φ) (T:Int->List Int->ByteArray):Z2u T m.F (m.reach vs) (Z0d sRoot (m.reach vs) ⟨#[]⟩ m.R) (m.reach vs).length=M.text T:=by
 obtain ⟨e,s,_⟩:=h.all
 rw [e,U0v]
 conv=>lhs;rw [h.rel.roots]
 rw [h.rel.rootLines s (fun c hc=>⟨h.rel.rin c hc,h.ok.roots c hc⟩),h.rel.objs h.ok T s]
 rfl
def MO.words (M:MO):Nat:=(M.all.map fun i=>match M.N[i]? with
 | some d=>1+(if d.kind<8 then d.raw.length else d.f.length)
 | none=>0).sum
theorem HRel.words (h:HRel m vs M S φ):Z8k m.F (m.reach vs)=M.words:=by
 obtain ⟨e,s,_⟩:=h.all
 unfold Z8k MO.words
 rw [e,U2h]
 refine congrArg List.sum (U15 fun i hi => ?_)
 obtain ⟨d,h1,_,_,h4,_⟩:=h.rel.has i (s i hi)
 have hz:szN (m.F (φ i))=(wdN φ d).length:=by
  have:=congrArg List.length h4
  unfold Z07 at this
  simpa using this
 show 1+szN (m.F (φ i))=_
 rw [h1,hz]
 unfold wdN
 by_cases hk:d.kind<8
 ·rw [U09 hk]
  show _=1+(if d.kind<8 then _ else _)
  rw [U09 hk]
 ·rw [U08 hk]
  show _=1+(if d.kind<8 then _ else _)
  rw [U08 hk,U0v]
end
section
structure MXtra where
 K:List Nat
 ser:Nat->Int
 next:Int
def adW (φ:Nat->Nat) (i:Nat):Int:=((φ i:Int)+1)*4
structure WRel (m:MD) (sr:Int) (M:MO) (X:MXtra) (S:Nat->Prop) (φ:Nat->Nat):Prop where
 klen:m.K.length=X.K.length
 kref:∀ i∈X.K,i<M.N.length
 weak:∀ j i,X.K[j]?=some i->(S i/\m.K.getD j 0=adW φ i)\/(¬ S i/\m.K.getD j 0=2)
 next:sr=X.next
 n0:0<=X.next
 top:∀ x∈m.I,1<=x.2/\x.2<=X.next
 bare:∀ i,S i->X.ser i=0 -> ∀ x∈m.I,x.1≠adW φ i
 known:∀ i,S i->X.ser i≠0->(adW φ i,X.ser i)∈m.I
 fresh:∀ i,M.N.length<=i->X.ser i=0
variable {m n:MD}{vs us l1 l2:List Nat}{M:MO}{X:MXtra}{sr:Int}{S S':Nat->Prop}{φ ψ:Nat->Nat}
theorem Za0 {i:Nat} (h:φ i<1099511627776):ptI (adW φ i)=(φ i:Int):=Z82 h
theorem Zqb {i:Nat} (h:φ i<1099511627776):mvI ψ (adW φ i)=adW (fun j=>ψ (φ j)) i:=by
 have hp:=Za0 h
 unfold mvI
 rw [U09 (by omega),hp]
 simp [adW]
theorem Zot {x:Int} (h:0<=ptI x):x=(((ptI x).toNat:Int)+1)*4:=by
 unfold ptI at *
 split at h
 ·rename_i c
  rw [U09 c]
  omega
 ·omega
theorem WRel.kept (w:WRel m sr M X S φ) (h:HRel m vs M S φ) (K:KeptH m n l1 l2 us S' ψ):WRel n sr M X (fun i=>S i/\S' (φ i)) (fun i=>ψ (φ i)):=by
 obtain ⟨c,hI,hc⟩:=K.ids
 refine ⟨K.klen.trans w.klen,w.kref,fun j i hj => ?_,w.next,w.n0,fun x hx => ?_,fun i hi h0 x hx => ?_,fun i hi h0 => ?_,w.fresh⟩
 ·have hjl:j<m.K.length:=by
   rw [w.klen]
   rcases U2w j X.K.length with q | q
   ·exact q
   ·rw [U14 q] at hj;cases hj
  rcases w.weak j i hj with ⟨hs,e⟩ | ⟨hs,e⟩
  ·have hf:=h.rel.few i hs
   have hp:=Za0 hf
   rcases K.weak j hjl with ⟨k1,k2⟩ | ⟨k1,k2,k3⟩
   ·left
    rw [e] at k1 k2
    have:=k1 (by omega)
    rw [hp] at this
    exact ⟨⟨hs,by simpa using this⟩,k2.trans (Zqb hf)⟩
   ·right
    rw [e,hp] at k2
    exact ⟨fun q=>k2 (by simpa using q.2),k3⟩
  ·right
   refine ⟨fun q=>hs q.1,?_⟩
   have p2:¬ 0<=ptI 2:=by unfold ptI;simp
   rcases K.weak j hjl with ⟨k1,k2⟩ | ⟨k1,k2,k3⟩
   ·rw [k2,e,Zbw p2]
   ·exact k3
 ·rw [hI] at hx
  obtain ⟨x0,h1,rfl⟩:=U0l.1 hx
  exact w.top x0 (U1l.1 h1).1
 ·rw [hI] at hx
  obtain ⟨x0,h1,rfl⟩:=U0l.1 hx
  obtain ⟨h2,h3⟩:=U1l.1 h1
  have hs':=(hc x0 h2).1 h3
  have hfi:=K.iso.few _ hi.2
  intro q
  have q:mvI ψ x0.1=((ψ (φ i):Int)+1)*4:=q
  by_cases hp:0<=ptI x0.1
  ·have e:mvI ψ x0.1=((ψ (ptI x0.1).toNat:Int)+1)*4:=by unfold mvI;rw [U09 hp]
   have e2:ψ (ptI x0.1).toNat=ψ (φ i):=by omega
   have e3:=K.iso.inj _ _ hs' hi.2 e2
   refine w.bare i hi.1 h0 x0 h2 ?_
   rw [Zot hp,e3]
   rfl
  ·rw [Zbw hp] at q
   rw [q,Z82 hfi] at hp
   omega
 ·have hm:=w.known i hi.1 h0
  have hf:=h.rel.few i hi.1
  have hp:=Za0 hf
  rw [hI]
  refine U0l.2 ⟨(adW φ i,X.ser i),U1l.2 ⟨hm,(hc _ hm).2 ?_⟩,?_⟩
  ·show S' (ptI (adW φ i)).toNat
   rw [hp];simpa using hi.2
  ·show (mvI ψ (adW φ i),X.ser i)=_
   rw [Zqb hf]
theorem WRel.same {M':MO} (w:WRel m sr M X S φ) (hK:n.K=m.K) (hI:n.I=m.I) (hN:M'.N.length=M.N.length):WRel n sr M' X S φ:=by
 obtain ⟨a,b,c,d,e,f,g,h,i⟩:=w
 refine ⟨by rw [hK];exact a,by rw [hN];exact b,by rw [hK];exact c,d,e,by rw [hI];exact f,by rw [hI];exact g,by rw [hI];exact h,by rw [hN];exact i⟩
theorem WRel.make (w:WRel m sr M X S φ) (hS:∀ i,S i->i<M.N.length) {t:Nat} (hK:n.K=m.K) (hI:n.I=m.I) (hn:∀ x∈m.I,x.1≠((t:Int)+1)*4) (d:ND):WRel n sr { M with N:=M.N ++ [d] } X (fun i=>S i\/i=M.N.length) (fun i=>if i=M.N.length then t else φ i):=by
 have e:∀ i,i<M.N.length->adW (fun i=>if i=M.N.length then t else φ i) i=adW φ i:=fun i hi=>by
  show (((if i=M.N.length then t else φ i:Nat):Int)+1)*4=((φ i:Int)+1)*4
  rw [U08 (by omega)]
 have e':adW (fun i=>if i=M.N.length then t else φ i) M.N.length=((t:Int)+1)*4:=by
  show (((if M.N.length=M.N.length then t else φ M.N.length:Nat):Int)+1)*4=_
  rw [U09 rfl]
 have hl:({ M with N:=M.N ++ [d] } : MO).N.length=M.N.length+1:=by show (M.N ++ [d]).length=_;simp
 refine ⟨by rw [hK];exact w.klen,fun i hi=>by have:=w.kref i hi;omega,fun j i hj => ?_,w.next,w.n0,by rw [hI];exact w.top,fun i hi h0 x hx => ?_,fun i hi h0 => ?_,fun i hi=>w.fresh i (by omega)⟩
 ·have hil:=w.kref i (U0a hj)
  rw [hK,e i hil]
  rcases w.weak j i hj with q | q
  ·exact .inl ⟨.inl q.1,q.2⟩
  ·exact .inr ⟨fun c=>by rcases c with c | c;exact q.1 c;omega,q.2⟩
 ·rw [hI] at hx
  rcases hi with q | q
  ·rw [e i (hS i q)];exact w.bare i q h0 x hx
  ·rw [q,e'];exact hn x hx
 ·rw [hI]
  rcases hi with q | q
  ·rw [e i (hS i q)];exact w.known i q h0
  ·exact absurd (w.fresh i (by omega)) h0
theorem WRel.serial (w:WRel m sr M X S φ) (h:HRel m vs M S φ) {i:Nat} (hi:S i) (hK:n.K=m.K) (hI:n.I=m.I ++ [(adW φ i,sr+1)]):WRel n (sr+1) M { X with ser:=fun j=>if j=i then X.next+1 else X.ser j,next:=X.next+1 } S φ:=by
 have hn:=w.n0
 have hx:=w.next
 have hil:=h.inN i hi
 refine ⟨by rw [hK];exact w.klen,w.kref,by rw [hK];exact w.weak,by show sr+1=X.next+1;omega,by show 0<=X.next+1;omega,fun x hx => ?_,fun j hj h1 x hx => ?_,fun j hj h1 => ?_,fun j hj => ?_⟩
 ·rw [hI] at hx
  show 1<=x.2/\x.2<=X.next+1
  rcases U0c.1 hx with q | q
  ·have:=w.top x q;omega
  ·simp at q;rw [q];show 1<=sr+1/\sr+1<=X.next+1;omega
 ·have h1:(if j=i then X.next+1 else X.ser j)=0:=h1
  have hji:j≠i:=fun q=>by rw [U09 q] at h1;omega
  rw [U08 hji] at h1
  rw [hI] at hx
  rcases U0c.1 hx with q | q
  ·exact w.bare j hj h1 x q
  ·simp at q
   rw [q]
   show adW φ i≠adW φ j
   unfold adW
   exact fun c=>hji (h.rel.inj j i hj hi (by omega))
 ·have h1:(if j=i then X.next+1 else X.ser j)≠0:=h1
  show (adW φ j,if j=i then X.next+1 else X.ser j)∈n.I
  rw [hI]
  by_cases q:j=i
  ·rw [U09 q,q,<-hx];simp
  ·rw [U08 q] at h1 ⊢
   exact U2q _ (w.known j hj h1)
 ·show (if j=i then X.next+1 else X.ser j)=0
  rw [U08 (by omega)];exact w.fresh j hj
theorem WRel.weakly (w:WRel m sr M X S φ) (h:HRel m vs M S φ) {i:Nat} (hi:S i) (hK:n.K=m.K ++ [adW φ i]) (hI:n.I=m.I):WRel n sr M { X with K:=X.K ++ [i] } S φ:=by
 refine ⟨?_,fun j hj => ?_,fun j k hj => ?_,w.next,w.n0,by rw [hI];exact w.top,by rw [hI];exact w.bare,by rw [hI];exact w.known,w.fresh⟩
 ·rw [hK];show _=(X.K ++ [i]).length;simp [w.klen]
 ·rcases U0c.1 hj with q | q
  ·exact w.kref j q
  ·simp at q;rw [q];exact h.inN i hi
 ·have hj:(X.K ++ [i])[j]?=_:=hj
  rw [hK,U07]
  rcases U2w j X.K.length with q | q
  ·rw [U10 q] at hj
   rw [U10 (by rw [w.klen];exact q),<-U07]
   exact w.weak j k hj
  ·rw [U12 q] at hj
   rw [U12 (by rw [w.klen];exact q),w.klen]
   cases hz:j - X.K.length with
   | zero =>
    rw [hz] at hj
    simp at hj
    left
    rw [<-hj]
    exact ⟨hi,rfl⟩
   | succ z =>
    rw [hz] at hj
    simp at hj
end
section
variable {m n:MD}{vs us:List Nat}{M:MO}{X:MXtra}{sr:Int}{S:Nat->Prop}{φ:Nat->Nat}
theorem HRel.new (hs:m.Shape []) (hc:m.cardsB=true) (h6:MD64 m) {k:Nat} (hR:m.R=List.replicate k 2):HRel m [] ⟨List.replicate k ⟨0,0,0⟩,[]⟩ (fun _=>False) (fun i=>i) where
 shape:=hs
 cards:=hc
 h64:=h6
 ok:=⟨fun c q=>by rw [U3k q];exact ⟨by simp,by simp,by simp⟩,fun d q=>by cases q⟩
 inN:=fun _ q=>q.elim
 rel:=⟨fun _ _ q=>q.elim,fun _ q=>q.elim,fun _ q=>q.elim,by rw [hR];simp [wdC],fun c q h4=>by rw [U3k q] at h4;cases h4⟩
theorem WRel.new {k:Nat} (hK:m.K = []) (hI:m.I = []):WRel m 0 ⟨List.replicate k ⟨0,0,0⟩,[]⟩ ⟨[],fun _=>0,0⟩ (fun _=>False) (fun i=>i):=by
 refine ⟨by rw [hK];rfl,fun i q=>(by cases q),fun j i q=>(by simp at q),rfl,Int.le_refl _,(by rw [hI];exact fun x q=>by cases q),fun _ q=>q.elim,fun _ q=>q.elim,fun _ _=>rfl⟩
theorem HRel.ad (h:HRel m vs M S φ) {i:Nat} (hi:S i):Z2y m.W.length (fun j=>decide (j∈vs)) (adW φ i)=true/\0<=adW φ i/\adW φ i<18446744073709551616:=by
 obtain ⟨d,_,hv,_⟩:=h.rel.has _ hi
 have h1:=(h.shape.fine _ hv).2
 have h2:=h.few hv
 unfold adW
 refine ⟨?_,by omega,by omega⟩
 unfold Z2y
 have e:((((φ i:Int)+1)*4) / 4 - 1).toNat=φ i:=by omega
 rw [e,U0d (by omega),U0d (by omega)]
 show (true && (true && decide (φ i∈vs)))=true
 rw [U0d hv]
 rfl
theorem HRel.weakly (h:HRel m vs M S φ) {i:Nat} (hi:S i):HRel { m with K:=m.K ++ [adW φ i] } vs M S φ where
 shape:=by
  obtain ⟨h1,h2,h3,h4⟩:=h.shape
  refine ⟨h1,h2,h3,?_⟩
  unfold MD.restB at h4 ⊢
  rw [U0i,U0i] at h4 ⊢
  refine ⟨h4.1,?_,h4.2.2⟩
  show (m.K ++ [adW φ i]).all _=true
  rw [U2s,h4.2.1]
  simp only [U41,List.all_nil,Bool.and_true,U1v]
  exact Z48 (h.ad hi).1
 cards:=h.cards
 h64:=by
  obtain ⟨a,b,c,d⟩:=h.h64
  refine ⟨a,b,fun x hx => ?_,d⟩
  rcases U0c.1 hx with q | q
  ·exact c x q
  ·simp at q;rw [q];exact (h.ad hi).2
 ok:=h.ok
 inN:=h.inN
 rel:=h.rel
theorem Zhk {α:Type} [BEq α] [LawfulBEq α] {l:List α}{a:α} (h:∀ x∈l,x≠a):l.count a=0:=U58.2 (fun q=>h a q rfl)
theorem HRel.serial (h:HRel m vs M S φ) (w:WRel m sr M X S φ) {i:Nat} (hi:S i) (h0:X.ser i=0) (hb:sr<9223372036854775807):HRel { m with I:=m.I ++ [(adW φ i,sr+1)] } vs M S φ where
 shape:=by
  have hx:=w.next
  have hn:=w.n0
  obtain ⟨h1,h2,h3,h4⟩:=h.shape
  refine ⟨h1,h2,h3,?_⟩
  unfold MD.restB at h4 ⊢
  rw [U0i,U0i] at h4 ⊢
  refine ⟨h4.1,h4.2.1,?_⟩
  have g:=h4.2.2
  show Z6j m.W.length (fun j=>decide (j∈vs)) (m.I ++ [(adW φ i,sr+1)])=true
  unfold Z6j at g ⊢
  rw [U0m] at g ⊢
  intro j hj
  have hj:=U0u.1 hj
  rw [U0f,List.length_singleton] at hj
  rcases U2w j m.I.length with q | q
  ·have g:=g j (U0u.2 q)
   unfold idB at g ⊢
   rw [U10 q,U2b (by omega)]
   exact g
  ·obtain rfl:j=m.I.length:=by omega
   unfold idB
   rw [U12 (U02 _),U28,U13 (by simp)]
   show (Z2y m.W.length (fun j=>decide (j∈vs)) (adW φ i) && (decide (1<=sr+1) && (decide (((m.I ++ [(adW φ i,sr+1)]).map (·.1)).count (adW φ i)<=1) && decide (((m.I ++ [(adW φ i,sr+1)]).map (·.2)).count (sr+1)<=1))))=true
   rw [U1b,U1b,U23,U23,(h.ad hi).1,
    Zhk (l:=m.I.map (·.1)) (a:=adW φ i) (fun x q=>by
     obtain ⟨y,hy,rfl⟩:=U0l.1 q
     exact w.bare i hi h0 y hy),
    Zhk (l:=m.I.map (·.2)) (a:=sr+1) (fun x q=>by
     obtain ⟨y,hy,rfl⟩:=U0l.1 q
     have:=w.top y hy
     show y.2≠sr+1
     omega)]
   simp
   omega
 cards:=h.cards
 h64:=by
  have hx:=w.next
  have hn:=w.n0
  obtain ⟨a,b,c,d⟩:=h.h64
  refine ⟨a,b,c,fun x hx => ?_⟩
  rcases U0c.1 hx with q | q
  ·exact d x q
  ·simp at q;rw [q];exact ⟨(h.ad hi).2,by show -9223372036854775808<=sr+1/\sr+1<9223372036854775808;omega⟩
 ok:=h.ok
 inN:=h.inN
 rel:=h.rel
theorem WRel.one (w:WRel m sr M X S φ) {i:Nat} (hi:S i) (h0:X.ser i≠0):∃ j:Nat,m.I[j]?=some (adW φ i,X.ser i)/\j<m.I.length:=by
 obtain ⟨j,hj,e⟩:=U27.1 (w.known i hi h0)
 exact ⟨j,by rw [U03 hj,e],hj⟩
end
section
def HM (m:MD) (sr:Int) (M:MO) (X:MXtra):Prop:=∃ vs S φ,HRel m vs M S φ/\WRel m sr M X S φ
variable {m n:MD}{us l1 l2:List Nat}{M:MO}{X:MXtra}{sr:Int}{S':Nat->Prop}{ψ:Nat->Nat}
theorem HM.kept (h:HM m sr M X) (K:KeptH m n l1 l2 us S' ψ) (hc:n.cardsB=true):HM n sr M X:=by
 obtain ⟨vs,S,φ,hr,hw⟩:=h
 exact ⟨us,_,_,hr.keptH K hc,hw.kept hr K⟩
theorem HM.shape (h:HM m sr M X):∃ vs,m.Shape vs/\m.cardsB=true/\MD64 m:=by
 obtain ⟨vs,S,φ,hr,_⟩:=h
 exact ⟨vs,hr.shape,hr.cards,hr.h64⟩
theorem HM.minor {e:CE} (h:HM m sr M X) (Sm:m.Shape (l1++l2)) (C:Coll e m n l1 l2 us S' ψ):HM n sr M X:=by
 obtain ⟨vs,S,φ,hr,hw⟩:=h
 exact HM.kept ⟨vs,S,φ,hr,hw⟩ (C.kept Sm hr.h64) C.cards
theorem HM.live (h:HM m sr M X) (Sm:m.Shape (l1++l2)):m.live (l1++l2)=M.words:=by
 obtain ⟨vs,S,φ,hr,_⟩:=h
 obtain rfl:=Sm.one hr.shape
 exact hr.words
theorem HM.major (h:HM m sr M X) (Sm:m.Shape (l1++l2)) (D:JDone m n l1 l2 us S' ψ):HM n sr M X/\n.top=0/\n.oldTop=(M.words:Int):=by
 have hl:=h.live Sm
 obtain ⟨vs,S,φ,hr,hw⟩:=h
 refine ⟨HM.kept ⟨vs,S,φ,hr,hw⟩ (D.C.kept Sm hr.h64) D.C.cards,D.C.top,?_⟩
 rw [D.top,hl]
theorem HM.text (h:HM m sr M X) (T:Int->List Int->ByteArray) {vs:List Nat} (Sm:m.Shape vs):Z2u T m.F (m.reach vs) (Z0d sRoot (m.reach vs) ⟨#[]⟩ m.R) (m.reach vs).length=M.text T:=by
 obtain ⟨us,S,φ,hr,_⟩:=h
 obtain rfl:=Sm.one hr.shape
 exact hr.text T
end
section
variable {m n:MD}{M:MO}{X:MXtra}{sr:Int}
theorem HM.roots (h:HM m sr M X):m.R.length=M.R.length:=by
 obtain ⟨vs,S,φ,hr,_⟩:=h
 rw [hr.rel.roots,U0v]
theorem HM.plain (h:HM m sr M X) (r:Nat) {c:CL} (h4:c.kind≠4) (hk:CLok c):HM { m with R:=m.R.set r (wdC (fun i=>i) c) } sr { M with R:=M.R.set r c } X:=by
 obtain ⟨vs,S,φ,hr,hw⟩:=h
 have e:wdC (fun i=>i) c=wdC φ c:=Z8w (fun q=>absurd q h4)
 rw [e]
 exact ⟨vs,S,φ,hr.root r (fun q=>absurd q h4) hk,hw.same rfl rfl rfl⟩
theorem HM.copy (h:HM m sr M X) (r:Nat) {j:Nat}{c:CL} (hj:M.R[j]?=some c):∃ x,m.R[j]?=some x/\HM { m with R:=m.R.set r x } sr { M with R:=M.R.set r c } X:=by
 obtain ⟨vs,S,φ,hr,hw⟩:=h
 have hc:=U0a hj
 refine ⟨wdC φ c,by rw [hr.rel.roots,U0g,hj];rfl,vs,S,φ,hr.root r (hr.rel.rin c hc) (hr.ok.roots c hc),hw.same rfl rfl rfl⟩
theorem Zk5 {φ ψ:Nat->Nat}{d:ND} (h:¬ d.kind<8 -> ∀ c∈d.f,c.kind≠4):wdN ψ d=wdN φ d:=Z8e (S:=fun _=>False) (fun _ q=>q.elim) (fun q c hc h4=>h q c hc h4)
theorem HM.make (h:HM m sr M X) {t s:Nat}{y:Bool} (L:Laid m n t s y) (h6:MD64 n) (r:Nat) {d:ND} (hk:n.F t / 4 % 256=d.kind) (hf:Z07 n.F t=wdN (fun i=>i) d) (hd:¬ d.kind<8 -> ∀ c∈d.f,c.kind≠4/\CLok c) :
  HM { n with R:=n.R.set r (((t:Int)+1)*4) } sr ⟨M.R.set r ⟨4,0,M.N.length⟩,M.N ++ [d]⟩ X:=by
 obtain ⟨vs,S,φ,hr,hw⟩:=h
 obtain ⟨hap,_,_,_,_,_⟩:=L.right hr.shape hr.cards
 have hfew:=hr.shape
 obtain ⟨us,hn⟩:=hr.laid L h6 hk (hf.trans (Zk5 (fun q c hc=>(hd q c hc).1))) (fun q c hc=>⟨fun h4=>absurd h4 (hd q c hc).1,(hd q c hc).2⟩)
 have ids:∀ x∈m.I,x.1≠((t:Int)+1)*4:=fun x hx e=>by
  have g:=(hr.shape.rest').2.2
  unfold Z6j at g
  rw [U0m] at g
  obtain ⟨j,hj,e1⟩:=U27.1 hx
  have g:=g j (U0u.2 hj)
  unfold idB at g
  rw [U03 hj,e1] at g
  have g:(Z2y m.W.length (fun i=>decide (i∈vs)) x.1 && _)=true:=g
  rw [U0i] at g
  have g:=g.1
  unfold Z2y at g
  rw [e,U0i,U0i] at g
  have hv:((((t:Int)+1)*4) / 4 - 1).toNat∈vs:=U0j g.2.2
  rw [show ((((t:Int)+1)*4) / 4 - 1).toNat=t by omega] at hv
  have:=hap t hv
  omega
 have hw':=hw.make hr.inN (n:=n) (t:=t) L.K L.I ids d
 have hc:Zdd (fun i=>S i\/i=M.N.length) (⟨4,0,M.N.length⟩:CL):=fun _=>.inr rfl
 have g:=hn.root r hc ⟨by simp,by simp,by simp⟩
 have e:wdC (fun i=>if i=M.N.length then t else φ i) (⟨4,0,M.N.length⟩:CL)=((t:Int)+1)*4:=by
  show (if (4:Nat)=4 then (((if M.N.length=M.N.length then t else φ M.N.length:Nat):Int)+1)*4 else _)=_
  rw [U09 rfl,U09 rfl]
 rw [e] at g
 exact ⟨us,_,_,g,hw'.same rfl rfl rfl⟩
theorem HM.get (h:HM m sr M X) (r:Nat) {j i k:Nat}{c v:CL}{d:ND} (hj:M.R[j]?=some c) (h4:c.kind=4) (hi:c.ref=i) (hd:M.N[i]?=some d) (hk8:¬ d.kind<8) (hk:d.f[k]?=some v) :
  ∃ f:Nat,m.R[j]?=some (((f:Int)+1)*4)/\f+1+k<m.W.length/\Z0t (m.F f)=true/\m.F f / 4 % 256=d.kind/\szN (m.F f)=d.f.length/\HM { m with R:=m.R.set r (m.F (f+1+k)) } sr { M with R:=M.R.set r v } X:=by
 obtain ⟨vs,S,φ,hr,hw⟩:=h
 subst hi
 have hs:=hr.rel.rin c (U0a hj) h4
 obtain ⟨d',h1,hv,h3,h4',h5⟩:=hr.rel.has _ hs
 obtain rfl:d=d':=by rw [hd] at h1;exact U1h h1
 have hfl:Z07 m.F (φ c.ref)=d.f.map (wdC φ):=by rw [h4'];unfold wdN;rw [U08 hk8]
 have hsz:szN (m.F (φ c.ref))=d.f.length:=by
  have:=congrArg List.length hfl
  unfold Z07 at this
  simpa using this
 have hkl:k<d.f.length:=by
  rcases U2w k d.f.length with q | q
  ·exact q
  ·rw [U14 q] at hk;cases hk
 have hx:m.F (φ c.ref+1+k)=wdC φ v:=by
  have:=congrArg (fun l:List Int=>l[k]?) hfl
  unfold Z07 at this
  simp only [U0g,hk,U1u (show k<szN (m.F (φ c.ref)) by omega)] at this
  exact U1h this
 have hfine:=hr.shape.fine _ hv
 refine ⟨φ c.ref,?_,by omega,hfine.1,h3,hsz,?_⟩
 ·rw [hr.rel.roots,U0g,hj]
  show some (wdC φ c)=_
  unfold wdC
  rw [U09 h4]
 ·rw [hx]
  have hvm:=U0a hk
  exact ⟨vs,S,φ,hr.root r (h5 hk8 v hvm) (hr.ok.flds d (U0a hd) hk8 v hvm),hw.same rfl rfl rfl⟩
end
section
variable {m n:MD}{M:MO}{X:MXtra}{sr:Int}
theorem HM.put (h:HM m sr M X) {j k q:Nat}{c v:CL}{d:ND} (hj:M.R[j]?=some c) (h4:c.kind=4) (hd:M.N[c.ref]?=some d) (hk8:¬ d.kind<8) (hk:k<d.f.length) (hq:M.R[q]?=some v) :
  ∃ (f:Nat) (x:Int),m.R[j]?=some (((f:Int)+1)*4)/\m.R[q]?=some x/\f+1+k<m.W.length/\Z0t (m.F f)=true/\m.F f / 4 % 256=d.kind/\szN (m.F f)=d.f.length/\HM (m.put (f+1+k) x) sr { M with N:=M.N.set c.ref { d with f:=d.f.set k v } } X:=by
 obtain ⟨vs,S,φ,hr,hw⟩:=h
 have hs:=hr.rel.rin c (U0a hj) h4
 obtain ⟨d',h1,hv,h3,h4',h5⟩:=hr.rel.has _ hs
 obtain rfl:d=d':=by rw [hd] at h1;exact U1h h1
 have hsz:szN (m.F (φ c.ref))=d.f.length:=by
  have:=congrArg List.length h4'
  unfold Z07 wdN at this
  rw [U08 hk8] at this
  simpa using this
 have hfine:=hr.shape.fine _ hv
 have hvm:=U0a hq
 refine ⟨φ c.ref,wdC φ v,?_,by rw [hr.rel.roots,U0g,hq];rfl,by omega,hfine.1,h3,hsz,vs,S,φ,hr.put hs hd hk8 hk (hr.rel.rin v hvm) (hr.ok.roots v hvm),hw.same ?_ ?_ ?_⟩
 ·rw [hr.rel.roots,U0g,hj]
  show some (wdC φ c)=_
  unfold wdC
  rw [U09 h4]
 ·rw [Z51]
 ·rw [Z51]
 ·show (M.N.set _ _).length=_
  rw [U0t]
theorem HM.weakly (h:HM m sr M X) {j:Nat}{c:CL} (hj:M.R[j]?=some c) (h4:c.kind=4):∃ x,m.R[j]?=some x/\0<=ptI x/\HM { m with K:=m.K ++ [x] } sr M { X with K:=X.K ++ [c.ref] }:=by
 obtain ⟨vs,S,φ,hr,hw⟩:=h
 have hs:=hr.rel.rin c (U0a hj) h4
 have hp:=Za0 (φ:=φ) (hr.rel.few _ hs)
 refine ⟨adW φ c.ref,?_,by omega,vs,S,φ,hr.weakly hs,hw.weakly hr hs rfl rfl⟩
 rw [hr.rel.roots,U0g,hj]
 show some (wdC φ c)=_
 unfold wdC adW
 rw [U09 h4]
theorem HM.serial (h:HM m sr M X) {j:Nat}{c:CL} (hj:M.R[j]?=some c) (h4:c.kind=4) (hb:sr<9223372036854775807):∃ x,m.R[j]?=some x/\0<=ptI x /\
  ((X.ser c.ref=0/\(∀ y∈m.I,y.1≠x)/\HM { m with I:=m.I ++ [(x,sr+1)] } (sr+1) M { X with ser:=fun j=>if j=c.ref then X.next+1 else X.ser j,next:=X.next+1 })\/(X.ser c.ref≠0/\(x,X.ser c.ref)∈m.I)):=by
 obtain ⟨vs,S,φ,hr,hw⟩:=h
 have hs:=hr.rel.rin c (U0a hj) h4
 have hp:=Za0 (φ:=φ) (hr.rel.few _ hs)
 refine ⟨adW φ c.ref,?_,by omega,?_⟩
 ·rw [hr.rel.roots,U0g,hj]
  show some (wdC φ c)=_
  unfold wdC adW
  rw [U09 h4]
 ·by_cases h0:X.ser c.ref=0
  ·exact .inl ⟨h0,hw.bare _ hs h0,vs,S,φ,hr.serial hw hs h0 hb,hw.serial hr hs rfl rfl⟩
  ·exact .inr ⟨h0,hw.known _ hs h0⟩
end
end Go.Proofs.YtlkcbdinlfeoiaaGreatDoor
