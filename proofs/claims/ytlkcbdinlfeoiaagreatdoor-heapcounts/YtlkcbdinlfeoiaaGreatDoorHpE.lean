/- Package heap: Show of a heap with no raw objects: the graph's text. -/
import Derived.Test.YtlkcbdinlfeoiaaGreatDoorKnBA
import Derived.Test.YtlkcbdinlfeoiaaGreatDoorKnAO
import Derived.Test.YtlkcbdinlfeoiaaGreatDoorMemHC
namespace Go.Proofs.YtlkcbdinlfeoiaaGreatDoor
open Go.Proofs.Tryz
open Go.RowKit Go.Maps

set_option maxHeartbeats 4000000 in
set_option maxRecDepth 100000 in
theorem Zn9 (a:Nat→Addr) (q p:Nat) (tn sr:Int) (m:MD) (vs:List Nat) (hS:m.Shape vs) (hCr:m.cardsB=true) (h64:MD64 m) (bR:m.R.length≤300000) (hK:m.K = []) (hI:m.I = []) (hkd:∀ f∈m.reach vs,m.F f / 4 % 256≠1∧m.F f / 4 % 256≠2) (hsz:(m.text vs).size<4294967281) (w:World) (E:MErr3 a w) (ht:Z2e w) (hz:Zcy w) (H:HeapAt q p tn sr w) (R:Z6d p m w) :
  Calls prog 22 #[.pointer (some ⟨q,0,none⟩)] w fun ev w'=>ev = .returned (.string (m.text vs))∧Below w.heap.size w w':=by
 have HE:=Z00 E
 have HR:=Z00 R
 have H64:=Z00 h64
 have HSS:=Z00 hS
 have HH:=Z00 H
 have HT:=Z00 ht
 have HZ:=Z00 hz
 obtain ⟨vW,vR,vK,vI,vC,hp,M,hW,hR,hKr,hIr,hCr'⟩:=R
 have HW:=Z00 hW
 have HRr:=Z00 hR
 have HC:=Z00 hCr'
 obtain ⟨aW,cW,rfl,_⟩:=hW
 obtain ⟨aR,cR,rfl,_⟩:=hR
 obtain ⟨aK,cK,rfl,_⟩:=hKr
 obtain ⟨aI,cI,rfl,_⟩:=hIr
 obtain ⟨aC,cC,rfl,_⟩:=hCr'
 have d0:=H.c0
 obtain ⟨m0,m1,m2,m3,m4,m5,m6,m7,m8,m9,m10⟩:=M
 clear E h64 hS H ht hz
 go_enter func22,ntmps22
 go_upto_region 3 with fail
 obtain ⟨w1,hw1⟩:∃ w1,w1=w.alloc (.cells #[.int .i64 m.half,.int .i64 m.old,.int .i64 m.card,.slice aW m.W.length cW,.int .i64 m.used,.int .i64 m.top,.int .i64 m.oldTop,.slice aR m.R.length cR,.slice none 0 0,.slice none 0 0,.slice aC m.C.length cC] 84):=⟨_,rfl⟩
 obtain ⟨o,ho⟩:∃ o,o=w.heap.size:=⟨_,rfl⟩
 have b1:Below w.heap.size w w1:=by rw [hw1];exact (Below.refl _ _).alloc (Nat.le_refl _) _
 have R1:Hid (Z6d o m w1):=by
  have hM:=Z2t w m.half m.old m.card (.slice aW m.W.length cW) m.used m.top m.oldTop (.slice aR m.R.length cR) (.slice none 0 0) (.slice none 0 0) (.slice aC m.C.length cC) 84
  rw [←hw1,←ho] at hM
  refine ⟨_,_,_,_,_,?_,hM,HW.out.below b1,HRr.out.below b1,?_,?_,HC.out.below b1⟩
  ·rw [hw1,ho];simp
  ·rw [hK];exact ⟨none,0,rfl,Nat.le_refl _,fun h=>absurd h (by simp)⟩
  ·rw [hI];exact ⟨none,0,rfl,Nat.le_refl _,fun h=>absurd h (by simp)⟩
 rw [←hw1,←ho]
 have bK:m.K.length≤300000:=by rw [hK];simp
 have bI:m.I.length≤300000:=by rw [hI];simp
 have kg:=Zdb a o m H64.out bR bK bI w1 (HE.out.below b1) (HT.out.below b1 (Nat.le_refl _)) (HZ.out.below b1 (Nat.le_refl _)) R1.out
 have m7':w1.cell? ⟨o,7,none⟩=some (.slice aR m.R.length cR):=by rw [hw1,ho,cell_of_row _ _ 7 _ _ _ (heap_alloc_new _ _)];rfl
 clear hw1 ho m0 m1 m2 m3 m4 m5 m6 m7 m8 m9 m10 d0
 have HB1:=Z00 b1
 clear b1
 go_wp2_with fail
 refine kg.mono ?_
 clear kg
 rintro ev w2 ⟨b2,⟨us,hus,_,rfl⟩ | ⟨us,_,hC,_⟩ | ⟨hno,_⟩⟩
 rotate_left
 ·rw [hCr] at hC;cases hC
 ·exact absurd HSS.out (hno vs)
 have hus:=HSS.out.one hus
 subst hus
 have HB2:=Z00 (HB1.out.trans (b2.mono HB1.out.size))
 have R2:=Z00 (R1.out.below b2)
 have kr:=Z7o a o m us HSS.out hCr H64.out bR bK bI w2 (HE.out.below HB2.out) R2.out
 clear b2
 go_wp2_with fail
 refine kr.mono ?_
 clear kr
 rintro ev w3 ⟨ao,cap,rfl,hrow,b3⟩
 have HROW:=Z00 hrow
 have HB3:=Z00 (HB2.out.trans (b3.mono HB2.out.size))
 clear hrow b3 R1 R2 HW HRr HC hK hI bK bI HB1 HB2 m7'
 have hol:=Z15 HSS.out H64.out
 have hfw:=HSS.out.few
 have hrl:=hol.len
 have HFX:Hid (∀ f∈m.reach us,∃ x,m.W[f]?=some x∧0≤x∧x<18446744073709551616∧x % 4=3∧x / 32768 % 2=0∧x / 65536≤4096∧x / 4 % 256≠1∧x / 4 % 256≠2):=by
  intro f hf
  obtain ⟨h1,h2⟩:=HSS.out.fine f (hol.sub f hf)
  obtain ⟨k1,k2⟩:=hkd f hf
  have hlt:f<m.W.length:=by omega
  have hFf:m.F f=m.W[f]:=by unfold MD.F;rw [List.getD_eq_getElem?_getD,List.getElem?_eq_getElem hlt];rfl
  rw [hFf] at h1 k1 k2
  obtain ⟨e1,e2,e3⟩:=of_decide_eq_true h1
  obtain ⟨u1,u2⟩:=H64.out.w _ (List.getElem_mem hlt)
  exact ⟨m.W[f],List.getElem?_eq_getElem hlt,u1,u2,e1,e2,e3,k1,k2⟩
 obtain ⟨A,hA⟩:∃ A,A=m.text us:=⟨_,rfl⟩
 rw [←hA] at hsz ⊢
 have HA:=Z00 hA
 clear hA hol
 go_upto_region 5 with fail
 have ks:=Zcd A hsz w3
 go_wp2_with fail
 refine ks.mono ?_
 clear ks
 rintro ev w4 ⟨N,k,rfl,hl,hNs,hw4⟩
 obtain ⟨o4,ho4⟩:∃ o4,o4=w3.heap.size:=⟨_,rfl⟩
 have hn4:w4.heap[o4]?=some (.cells (Lib.cellsOf (Lib.splitB nlB 1 k A) N) 9):=by rw [hw4,ho4];exact heap_alloc_new _ _
 have HB4:Hid (Below w.heap.size w w4):=by rw [hw4];exact HB3.out.alloc HB3.out.size _
 have HROW4:=Z00 (HROW.out.below (w':=w4) (by rw [hw4];exact (Below.refl _ _).alloc (Nat.le_refl _) _))
 have HN4:=Z00 hn4
 rw [←ho4]
 clear hw4 ho4 hn4 HROW HB3
 obtain ⟨rr,hrr⟩:∃ rr,rr=m.reach us:=⟨_,rfl⟩
 rw [←hrr] at HFX HROW4 hrl ⊢
 have hrn:rr.length≤300000:=Nat.le_trans hrl hfw
 clear hrl hfw
 obtain ⟨nS,hnS⟩:∃ nS,nS=(Lib.splitB nlB 1 k A).length:=⟨_,rfl⟩
 rw [←hnS]
 have HNS:=Z00 hnS
 clear hnS hrr
 go_wp2_with fail
 go_loopg [34] (rr.length+1) (fun gk v34 wr => ∃ (i:Nat),gk=rr.length+1 - i∧i≤rr.length∧v34 = .int .i64 (i:Int)∧Below w4.heap.size w4 wr)
 case atStart=>exact ⟨0,rfl,Nat.zero_le _,rfl,Below.refl _ _⟩
 case round =>
  obtain ⟨i,hgk,hk,rfl,hb⟩:=hrel
  have HG:=Z00 hgk
  have hk0:(0:Int)≤(i:Int):=by omega
  have HB:=Z00 hb
  clear hgk hb
  by_cases hlt:i<rr.length
  ·have hI:(i:Int)<(rr.length:Int):=by omega
   obtain ⟨f,hf⟩:∃ f,rr[i]?=some f:=⟨_,List.getElem?_eq_getElem hlt⟩
   obtain ⟨_,_,e,_,f1⟩:=HROW4.out
   cases e
   obtain ⟨p1,o1,rfl,l1,g1⟩:=f1 (by omega)
   have r0:wr.cell? ⟨p1,o1+i,none⟩=some (.int .i64 (f:Int)):=(HB.out.cell (p:=⟨p1,o1+i,none⟩) l1).trans (g1 i _ (by unfold Z8e;rw [List.getElem?_map,hf];rfl))
   obtain ⟨x,hx,x0,x1,x2,x3,x4,x5,x6⟩:=HFX.out f (List.mem_of_getElem? hf)
   have hbw:Below w.heap.size w wr:=HB4.out.trans (HB.out.mono HB4.out.size)
   have kt:=Za8 q p tn sr m f x hx x0 x1 x2 x3 x4 x5 x6 wr (HH.out.below hbw) (HR.out.below hbw)
   clear g1 f1 hf hx x0 x1 x2 x3 x4 x5 x6 hbw
   go_wp2_with fail
   refine kt.mono ?_
   clear kt r0
   rintro ev w5 ⟨rfl,b5⟩
   go_wp2_with fail
   go_roundg (rr.length+1 - (i+1))
   case measure=>have:=HG.out;omega
   case rel=>exact ⟨i+1,rfl,by omega,by go_num,HB.out.trans (b5.mono HB.out.size)⟩
  ·have hI:¬ (i:Int)<(rr.length:Int):=by omega
   have hcs:∀ (j:Nat) y,(Lib.splitB nlB 1 k A)[j]?=some y→wr.cell? ⟨o4,0+j,none⟩=some (.string y):=fun j y hj=>by
    rw [Nat.zero_add]
    refine (HB.out.cell (p:=⟨o4,j,none⟩) (Z01 HN4.out)).trans ?_
    rw [cell_of_row _ _ j _ _ _ HN4.out]
    unfold Lib.cellsOf
    rw [List.getElem?_toArray,List.getElem?_append_left (by rw [List.length_map];exact (List.getElem?_eq_some_iff.mp hj).1),List.getElem?_map,hj]
    rfl
   have hsj:Lib.join ((Lib.splitB nlB 1 k A).map (·.data.toList)) (⟨#[]⟩:ByteArray).data.toList=A.data.toList:=Zig nlB A k
   have kj:=Z4n o4 0 N (Lib.splitB nlB 1 k A) ⟨#[]⟩ wr hcs (Nat.lt_of_lt_of_le (Z01 HN4.out) HB.out.size) (by omega) hl (by rw [hsj,Array.length_toList];have:A.data.size=A.size:=rfl;omega)
   rw [hsj,Znu,←HNS.out] at kj
   clear hcs hsj
   go_wp2_with fail
   refine kj.mono ?_
   clear kj
   rintro ev w5 ⟨rfl,b5⟩
   go_wp2_with fail
   first | go_ret | skip
   exact ⟨by rw [HA.out];rfl,HB4.out.trans ((HB.out.trans (b5.mono HB.out.size)).mono HB4.out.size)⟩
end Go.Proofs.YtlkcbdinlfeoiaaGreatDoor
