/- Package minor: what was copied is gone through (scanPart), by a contract. -/
import Derived.Test.YtlkcbdinlfeoiaaGreatDoorKnAJ
namespace Go.Proofs.YtlkcbdinlfeoiaaGreatDoor
open Go.Proofs.Tryz Go.RowKit
set_option maxHeartbeats 8000000
set_option maxRecDepth 100000
section
open Go.Maps
structure FieldOK (e:CE) (s:CS) (y:Nat):Prop where
 ok:CSOK e s
 lt:y<e.nW
 can:(Z0g e.lo e.hi s.φ (s.W.getD y 0)).2=false->CanCopy e s (ptI (s.W.getD y 0)).toNat /\ ∀ f t,(s.copy e (ptI (s.W.getD y 0)).toNat).φ f=some t->t<=300000
 ok':CSOK e (s.follow e (s.W.getD y 0))
 cards:(s.follow e (s.W.getD y 0)).C.length=e.nC
def CS.fieldsN (e:CE) (s:CS) (f:Nat):Nat->CS
 | 0=>s
 | k+1=>(s.fieldsN e f k).field e (f+1+k)
def CS.obj (e:CE) (s:CS) (f:Nat):CS:=if s.W.getD f 0 / 4 % 256<8 then s else s.fieldsN e f (szN (s.W.getD f 0))
structure ObjOK (e:CE) (s:CS) (f:Nat):Prop where
 ok:CSOK e s
 head:Z0t (s.W.getD f 0)=true
 fit:f+1+szN (s.W.getD f 0)<=e.nW
 fields:¬ s.W.getD f 0 / 4 % 256<8 -> ∀ k,k<szN (s.W.getD f 0)->FieldOK e (s.fieldsN e f k) (f+1+k)
theorem CopAt.setYd {e:CE}{s:CS}{w:World} (h:CopAt e s w) (n:Nat):CopAt e { s with yd:=n } (w.setCell ⟨e.q,5,none⟩ (.int .i64 (n:Int))):=by
 obtain ⟨n1,n2,n3,n4,n5,n6,n7,n8,n9,n10⟩:=h.ne
 obtain ⟨k,D,hn,hm,hW⟩:=h.hm
 have ha:Aside (· = e.q) w (w.setCell ⟨e.q,5,none⟩ (.int .i64 (n:Int))):=(Aside.refl (fun k=>k=e.q) w).setCell (g:=e.q) rfl _
 exact ⟨by rw [Z06 h.hq];rfl,(ha.block _ (Z01 h.hp) n1.symm).trans h.hp,h.hW.aside ha n3.symm,h.hC.aside ha n4.symm,k,D,hn,Z0f hm ha n2.symm,hW⟩
theorem CopAt.setGd {e:CE}{s:CS}{w:World} (h:CopAt e s w) (n:Nat):CopAt e { s with gd:=n } (w.setCell ⟨e.q,7,none⟩ (.int .i64 (n:Int))):=by
 obtain ⟨n1,n2,n3,n4,n5,n6,n7,n8,n9,n10⟩:=h.ne
 obtain ⟨k,D,hn,hm,hW⟩:=h.hm
 have ha:Aside (· = e.q) w (w.setCell ⟨e.q,7,none⟩ (.int .i64 (n:Int))):=(Aside.refl (fun k=>k=e.q) w).setCell (g:=e.q) rfl _
 exact ⟨by rw [Z06 h.hq];rfl,(ha.block _ (Z01 h.hp) n1.symm).trans h.hp,h.hW.aside ha n3.symm,h.hC.aside ha n4.symm,k,D,hn,Z0f hm ha n2.symm,hW⟩
def CS.scanY (e:CE) (s:CS):CS:={ s.obj e s.yd with yd:=s.yd+1+szN (s.W.getD s.yd 0) }
theorem Zna (a:Nat->Addr) (e:CE) (s0:CS) (w:World) (H:CopAt e s0 w) (F:Fits e.half e.old e.card e.nW e.nC e.used e.top e.oldTop) (E:∀ w',Aside e.own w w'->WErr a w') (Inv:CS->Prop) (μ:CS->Nat) (h0:Inv s0)
  (hI:∀ s,Inv s->s.yd<=300000/\s.yt<=300000/\(s.yd<s.yt->ObjOK e s s.yd/\Inv (s.scanY e)/\μ (s.scanY e)<μ s)) :
  Calls prog 238 #[.pointer (some ⟨e.q,0,none⟩),.pointer (some ⟨e.q,5,none⟩)] w fun ev w'=>ev = .returned (.tuple #[]) /\ ∃ s,Inv s /\ ¬ s.yd<s.yt/\CopAt e s w'/\Aside e.own w w':=by
 have HI:=Z00 hI
 have HE:=Z00 E
 have HF:=Z00 F
 have H0:=Z00 H
 have HI0:=Z00 h0
 clear H E F hI h0
 go_enter func238,ntmps238
 go_wp2_with fail
 go_loopg [] (μ s0+1) (fun gk wr => ∃ s,gk=μ s+1/\Hid (Inv s)/\Hid (CopAt e s wr)/\Hid (Aside e.own w wr))
 case atStart=>exact ⟨s0,rfl,HI0,H0,Aside.refl _ _⟩
 case round =>
  obtain ⟨s,hgk,hi,hH,hA⟩:=hrel
  have HGK:=Z00 hgk
  clear hgk
  obtain ⟨b1,b2,hst⟩:=HI.out s hi.out
  have HST:=Z00 hst
  obtain ⟨c0,c1,c2,c3,c4,c5,c6,c7,c8,cm⟩:=hH.out.cells
  clear hst
  by_cases hlt:s.yd<s.yt
  ·have hlI:(s.yd:Int)<(s.yt:Int):=by omega
   obtain ⟨hob,hinv,hmu⟩:=HST.out hlt
   obtain ⟨x,hxe⟩:∃ x,x=s.W.getD s.yd 0:=⟨_,rfl⟩
   have hfl:s.yd<s.W.length:=by have:=hob.fit;have:=hob.ok.len;omega
   have hx:s.W[s.yd]?=some x:=by rw [hxe,U07,U03 hfl];rfl
   obtain ⟨x0,x1⟩:=hob.ok.u64 x (U0a hx)
   have hhd:=hob.head
   have hfit:=hob.fit
   have hfew:=hob.ok.few
   rw [<-hxe] at hhd hfit
   obtain ⟨E1,E2,E3⟩:=U0j hhd
   have hsz:x / 65536=(szN x:Int):=by unfold szN;omega
   obtain ⟨n,hn⟩:∃ n,n=szN x:=⟨_,rfl⟩
   obtain ⟨kd,hkd⟩:∃ kd,kd=x / 4 % 256:=⟨_,rfl⟩
   have hk0:0<=kd:=by omega
   have kh:=fun w1 (b1:Below wr.heap.size wr w1)=>Z6c e s s.yd x w1 (hH.out.below b1) hx (by omega) x0 x1 hhd
   unfold Z1o at kh
   rw [hsz,<-hn,<-hkd] at kh
   rw [<-hn] at hfit
   have HKH:=Z00 kh
   have HOB:=Z00 hob
   have HINV:=Z00 hinv
   have HMU:=Z00 hmu
   have HXE:=Z00 hxe
   have HN:=Z00 hn
   have HKD:=Z00 hkd
   generalize x / 1024 % 16=ag at *
   generalize x / 16384 % 2=mk at *
   clear hob hinv hmu hhd E1 E2 E3 hsz hn hkd hx x0 x1 hfl kh hxe
   go_wp2_with fail
   go_quiet (fail)
   obtain ⟨w1,hw1⟩:∃ w1,w1=wr.drewN nq:=⟨_,rfl⟩
   rw [<-hw1]
   have b1:Below wr.heap.size wr w1:=by rw [hw1];exact Z03 (U01 _ _)
   have H1:=hH.out.below b1
   have kh:=HKH.out w1 b1
   have HB1:=Z00 b1
   clear hw1 b1 c0 c1 c2 c3 c4 c5 c6 c7 c8 cm
   obtain ⟨c0,c1,c2,c3,c4,c5,c6,c7,c8,cm⟩:=H1.cells
   clear H1
   go_wp2_with fail
   refine kh.mono ?_
   clear kh
   rintro ev w2 ⟨rfl,b2⟩
   go_upto_region 2 with fail
   obtain ⟨w3,hw3⟩:∃ w3,w3=w2.alloc (.cells #[.int .i64 kd,.int .i64 ag,.int .i64 mk,.int .i64 (n:Int)] 172):=⟨_,rfl⟩
   obtain ⟨bo,hbo⟩:∃ bo,bo=w2.heap.size:=⟨_,rfl⟩
   have b13:Below w1.heap.size w1 w3:=by rw [hw3];exact b2.alloc b2.size _
   have b3:Below wr.heap.size wr w3:=HB1.out.trans (b13.mono HB1.out.size)
   have n3:w3.heap[bo]?=some (.cells #[.int .i64 kd,.int .i64 ag,.int .i64 mk,.int .i64 (n:Int)] 172):=by rw [hw3,hbo];exact U0b _ _
   have hbw:wr.heap.size<=bo:=by rw [hbo];exact U0n HB1.out.size b2.size
   rw [<-hw3,<-hbo]
   obtain ⟨o0,o1,o2,o3,_⟩:=Z0e n3
   have H3:=hH.out.below b3
   clear c0 c1 c2 c3 c4 c5 c6 c7 c8 cm
   obtain ⟨c0,c1,c2,c3,c4,c5,c6,c7,c8,cm⟩:=H3.cells
   obtain ⟨en,hen⟩:∃ en,en=s.yd+1+n:=⟨_,rfl⟩
   have g1:IntKind.i64.wrap ((s.yd:Int)+1)=(s.yd:Int)+1:=by rw [U1d];omega
   have g2:IntKind.i64.wrap ((s.yd:Int)+1+(n:Int))=(en:Int):=by rw [U1d];omega
   have HEN:=Z00 hen
   have HN3:=Z00 n3
   have HB3:=Z00 b3
   have HH3:=Z00 H3
   have HBW:=Z00 hbw
   clear hw3 hbo b13 b3 n3 hbw H3 hen b2 HB1
   go_quiet (fail)
   obtain ⟨w4,hw4⟩:∃ w4,w4=w3.drewN nq:=⟨_,rfl⟩
   rw [<-hw4]
   have b34:Below w3.heap.size w3 w4:=by rw [hw4];exact Z03 (U01 _ _)
   have H4:=HH3.out.below b34
   have n4:=(b34.block _ (Z01 HN3.out)).trans HN3.out
   have A4:Hid (Aside e.own w w4):=hA.out.trans (Aside.of_below (HB3.out.trans (b34.mono HB3.out.size)))
   have hbo:¬ e.own bo:=fun h=>by
    have q1:=Z01 hH.out.hq
    have q3:=hH.out.hW.lt
    have q4:=hH.out.hC.lt
    obtain ⟨_,_,_,hm,_⟩:=hH.out.hm
    have q5:=hm.lt
    have q6:=HBW.out
    rcases h with h | h | h | h <;> omega
   have HBO:=Z00 hbo
   have HH4:=Z00 H4
   have HN4:=Z00 n4
   clear c0 c1 c2 c3 c4 c5 c6 c7 c8 cm o0 o1 o2 o3 hw4 b34 n4 hbo HN3 HB3 HH3
   obtain ⟨c0,c1,c2,c3,c4,c5,c6,c7,c8,cm⟩:=H4.cells
   clear H4
   go_wp2_with fail
   go_loopg [6] (n+1) (fun gi v6 wi => ∃ k:Nat,gi=n+1 - k/\k<=n/\v6 = .int .i64 ((s.yd+1+k:Nat):Int)/\Hid (kd<8->k=0)/\Hid (CopAt e (s.fieldsN e s.yd k) wi)/\Hid (Aside e.own w wi)/\Hid (wi.heap[bo]?=some (.cells #[.int .i64 kd,.int .i64 ag,.int .i64 mk,.int .i64 (n:Int)] 172)))
   case atStart=>exact ⟨0,rfl,U0x _,by go_num,fun _=>rfl,HH4,A4,HN4⟩
   case round =>
    obtain ⟨k,hgi,hkn,rfl,hraw,hHk,hAk,hNk⟩:=hrel
    have HGI:=Z00 hgi
    clear hgi
    obtain ⟨o0,o1,o2,o3,_⟩:=Z0e hNk.out
    obtain ⟨y,hy⟩:∃ y,y=s.yd+1+k:=⟨_,rfl⟩
    rw [<-hy]
    have HY:=Z00 hy
    have hy0:(0:Int)<=(y:Int):=by omega
    have kr:=Z21 kd hk0
    obtain ⟨zJ,cJ⟩:∃ z,wr.cell? ⟨e.q,5,none⟩=some z:=by obtain ⟨_,_,_,_,_,k5,_,k7,_⟩:=hHk.out.cells;exact ⟨_,k5⟩
    have fJ:wr.frozen? ⟨e.q,5,none⟩=false:=by have h:=hHk.out.hq;simp [World.frozen?,h]
    have hX:s.fieldsN e s.yd k=s.obj e s.yd->CopAt e (s.scanY e) (wr.setCell ⟨e.q,5,none⟩ (.int .i64 (en:Int)))/\Aside e.own w (wr.setCell ⟨e.q,5,none⟩ (.int .i64 (en:Int))):=fun h=>by
     refine ⟨?_,hAk.out.setCell (Or.inl rfl) _⟩
     have h2:=hHk.out.setYd en
     rw [h] at h2
     unfold CS.scanY
     rw [<-HXE.out,<-HN.out,<-HEN.out]
     exact h2
    have HX:=Z00 hX
    clear hX
    by_cases hke:k<n
    ·have hye:(y:Int)<(en:Int):=by have:=HEN.out;omega
     by_cases hrw:kd<8
     ·rw [U0d hrw] at kr
      clear hy
      go_wp2_with fail
      refine (kr _).mono ?_
      rintro ev w5 ⟨rfl,rfl⟩
      obtain ⟨h2,a2⟩:=HX.out (by rw [hraw.out hrw];unfold CS.obj;rw [U09 (by rw [<-HXE.out,<-HKD.out];exact hrw)];rfl)
      have H2:=Z00 h2
      have A2:=Z00 a2
      clear h2 a2
      go_wp2_with fail
      go_roundg (μ (s.scanY e)+1)
      case measure=>have:=HGK.out;have:=HMU.out;omega
      case rel=>exact ⟨_,rfl,HINV,H2,A2⟩
     ·rw [U0k hrw] at kr
      clear hy
      go_wp2_with fail
      refine (kr _).mono ?_
      rintro ev w5 ⟨rfl,e5⟩
      rw [e5]
      clear e5 w5
      have hfo:=HOB.out.fields (by rw [<-HXE.out,<-HKD.out];omega) k (by rw [<-HXE.out,<-HN.out];exact hke)
      rw [<-HY.out] at hfo
      have kf:=Z6z a e (s.fieldsN e s.yd k) y wr hHk.out hfo.ok HF.out hfo.lt (fun w' h=>HE.out w' (hAk.out.trans h)) hfo.can hfo.ok' hfo.cards
      clear hfo
      go_wp2_with fail
      refine kf.mono ?_
      clear kf
      rintro ev w6 ⟨rfl,h6,a6⟩
      have H6:Hid (CopAt e (s.fieldsN e s.yd (k+1)) w6):=by show CopAt e ((s.fieldsN e s.yd k).field e (s.yd+1+k)) w6;rw [<-HY.out];exact h6
      have A6:Hid (Aside e.own w w6):=hAk.out.trans a6
      have N6:Hid (w6.heap[bo]?=some (.cells #[.int .i64 kd,.int .i64 ag,.int .i64 mk,.int .i64 (n:Int)] 172)):=(a6.block bo (Z01 hNk.out) HBO.out).trans hNk.out
      clear h6 a6
      have hy3:y<=300000:=by have:=HY.out;omega
      go_wp2_with fail
      go_roundg (n+1 - (k+1))
      case measure=>have:=HGI.out;omega
      case rel=>exact ⟨k+1,rfl,by omega,by have:=HY.out;go_num,fun h=>by omega,H6,A6,N6⟩
    ·have hye:¬ (y:Int)<(en:Int):=by have:=HEN.out;omega
     clear hy
     obtain ⟨h2,a2⟩:=HX.out (by
      unfold CS.obj
      rw [<-HXE.out,<-HKD.out]
      by_cases hrw:kd<8
      ·rw [U09 hrw,hraw.out hrw];rfl
      ·rw [U08 hrw,<-HN.out,show k=n by omega])
     have H2:=Z00 h2
     have A2:=Z00 a2
     clear h2 a2
     go_wp2_with fail
     go_roundg (μ (s.scanY e)+1)
     case measure=>have:=HGK.out;have:=HMU.out;omega
     case rel=>exact ⟨_,rfl,HINV,H2,A2⟩
  ·have hlI:¬ (s.yd:Int)<(s.yt:Int):=by omega
   go_wp2_with fail
   go_quiet (fail)
   go_wp2_with fail
   go_end0
   have hb:=Z03 (q:=nq) (U01 wr.heap.size wr)
   exact ⟨rfl,s,hi.out,hlt,hH.out.below hb,hA.out.trans (Aside.of_below hb)⟩
def CS.scanG (e:CE) (s:CS):CS:={ s.obj e s.gd with gd:=s.gd+1+szN (s.W.getD s.gd 0) }
theorem Zjy (a:Nat->Addr) (e:CE) (s0:CS) (w:World) (H:CopAt e s0 w) (F:Fits e.half e.old e.card e.nW e.nC e.used e.top e.oldTop) (E:∀ w',Aside e.own w w'->WErr a w') (Inv:CS->Prop) (μ:CS->Nat) (h0:Inv s0)
  (hI:∀ s,Inv s->s.gd<=300000/\s.gt<=300000/\(s.gd<s.gt->ObjOK e s s.gd/\Inv (s.scanG e)/\μ (s.scanG e)<μ s)) :
  Calls prog 238 #[.pointer (some ⟨e.q,0,none⟩),.pointer (some ⟨e.q,7,none⟩)] w fun ev w'=>ev = .returned (.tuple #[]) /\ ∃ s,Inv s /\ ¬ s.gd<s.gt/\CopAt e s w'/\Aside e.own w w':=by
 have HI:=Z00 hI
 have HE:=Z00 E
 have HF:=Z00 F
 have H0:=Z00 H
 have HI0:=Z00 h0
 clear H E F hI h0
 go_enter func238,ntmps238
 go_wp2_with fail
 go_loopg [] (μ s0+1) (fun gk wr => ∃ s,gk=μ s+1/\Hid (Inv s)/\Hid (CopAt e s wr)/\Hid (Aside e.own w wr))
 case atStart=>exact ⟨s0,rfl,HI0,H0,Aside.refl _ _⟩
 case round =>
  obtain ⟨s,hgk,hi,hH,hA⟩:=hrel
  have HGK:=Z00 hgk
  clear hgk
  obtain ⟨b1,b2,hst⟩:=HI.out s hi.out
  have HST:=Z00 hst
  obtain ⟨c0,c1,c2,c3,c4,c5,c6,c7,c8,cm⟩:=hH.out.cells
  clear hst
  by_cases hlt:s.gd<s.gt
  ·have hlI:(s.gd:Int)<(s.gt:Int):=by omega
   obtain ⟨hob,hinv,hmu⟩:=HST.out hlt
   obtain ⟨x,hxe⟩:∃ x,x=s.W.getD s.gd 0:=⟨_,rfl⟩
   have hfl:s.gd<s.W.length:=by have:=hob.fit;have:=hob.ok.len;omega
   have hx:s.W[s.gd]?=some x:=by rw [hxe,U07,U03 hfl];rfl
   obtain ⟨x0,x1⟩:=hob.ok.u64 x (U0a hx)
   have hhd:=hob.head
   have hfit:=hob.fit
   have hfew:=hob.ok.few
   rw [<-hxe] at hhd hfit
   obtain ⟨E1,E2,E3⟩:=U0j hhd
   have hsz:x / 65536=(szN x:Int):=by unfold szN;omega
   obtain ⟨n,hn⟩:∃ n,n=szN x:=⟨_,rfl⟩
   obtain ⟨kd,hkd⟩:∃ kd,kd=x / 4 % 256:=⟨_,rfl⟩
   have hk0:0<=kd:=by omega
   have kh:=fun w1 (b1:Below wr.heap.size wr w1)=>Z6c e s s.gd x w1 (hH.out.below b1) hx (by omega) x0 x1 hhd
   unfold Z1o at kh
   rw [hsz,<-hn,<-hkd] at kh
   rw [<-hn] at hfit
   have HKH:=Z00 kh
   have HOB:=Z00 hob
   have HINV:=Z00 hinv
   have HMU:=Z00 hmu
   have HXE:=Z00 hxe
   have HN:=Z00 hn
   have HKD:=Z00 hkd
   generalize x / 1024 % 16=ag at *
   generalize x / 16384 % 2=mk at *
   clear hob hinv hmu hhd E1 E2 E3 hsz hn hkd hx x0 x1 hfl kh hxe
   go_wp2_with fail
   go_quiet (fail)
   obtain ⟨w1,hw1⟩:∃ w1,w1=wr.drewN nq:=⟨_,rfl⟩
   rw [<-hw1]
   have b1:Below wr.heap.size wr w1:=by rw [hw1];exact Z03 (U01 _ _)
   have H1:=hH.out.below b1
   have kh:=HKH.out w1 b1
   have HB1:=Z00 b1
   clear hw1 b1 c0 c1 c2 c3 c4 c5 c6 c7 c8 cm
   obtain ⟨c0,c1,c2,c3,c4,c5,c6,c7,c8,cm⟩:=H1.cells
   clear H1
   go_wp2_with fail
   refine kh.mono ?_
   clear kh
   rintro ev w2 ⟨rfl,b2⟩
   go_upto_region 2 with fail
   obtain ⟨w3,hw3⟩:∃ w3,w3=w2.alloc (.cells #[.int .i64 kd,.int .i64 ag,.int .i64 mk,.int .i64 (n:Int)] 172):=⟨_,rfl⟩
   obtain ⟨bo,hbo⟩:∃ bo,bo=w2.heap.size:=⟨_,rfl⟩
   have b13:Below w1.heap.size w1 w3:=by rw [hw3];exact b2.alloc b2.size _
   have b3:Below wr.heap.size wr w3:=HB1.out.trans (b13.mono HB1.out.size)
   have n3:w3.heap[bo]?=some (.cells #[.int .i64 kd,.int .i64 ag,.int .i64 mk,.int .i64 (n:Int)] 172):=by rw [hw3,hbo];exact U0b _ _
   have hbw:wr.heap.size<=bo:=by rw [hbo];exact U0n HB1.out.size b2.size
   rw [<-hw3,<-hbo]
   obtain ⟨o0,o1,o2,o3,_⟩:=Z0e n3
   have H3:=hH.out.below b3
   clear c0 c1 c2 c3 c4 c5 c6 c7 c8 cm
   obtain ⟨c0,c1,c2,c3,c4,c5,c6,c7,c8,cm⟩:=H3.cells
   obtain ⟨en,hen⟩:∃ en,en=s.gd+1+n:=⟨_,rfl⟩
   have g1:IntKind.i64.wrap ((s.gd:Int)+1)=(s.gd:Int)+1:=by rw [U1d];omega
   have g2:IntKind.i64.wrap ((s.gd:Int)+1+(n:Int))=(en:Int):=by rw [U1d];omega
   have HEN:=Z00 hen
   have HN3:=Z00 n3
   have HB3:=Z00 b3
   have HH3:=Z00 H3
   have HBW:=Z00 hbw
   clear hw3 hbo b13 b3 n3 hbw H3 hen b2 HB1
   go_quiet (fail)
   obtain ⟨w4,hw4⟩:∃ w4,w4=w3.drewN nq:=⟨_,rfl⟩
   rw [<-hw4]
   have b34:Below w3.heap.size w3 w4:=by rw [hw4];exact Z03 (U01 _ _)
   have H4:=HH3.out.below b34
   have n4:=(b34.block _ (Z01 HN3.out)).trans HN3.out
   have A4:Hid (Aside e.own w w4):=hA.out.trans (Aside.of_below (HB3.out.trans (b34.mono HB3.out.size)))
   have hbo:¬ e.own bo:=fun h=>by
    have q1:=Z01 hH.out.hq
    have q3:=hH.out.hW.lt
    have q4:=hH.out.hC.lt
    obtain ⟨_,_,_,hm,_⟩:=hH.out.hm
    have q5:=hm.lt
    have q6:=HBW.out
    rcases h with h | h | h | h <;> omega
   have HBO:=Z00 hbo
   have HH4:=Z00 H4
   have HN4:=Z00 n4
   clear c0 c1 c2 c3 c4 c5 c6 c7 c8 cm o0 o1 o2 o3 hw4 b34 n4 hbo HN3 HB3 HH3
   obtain ⟨c0,c1,c2,c3,c4,c5,c6,c7,c8,cm⟩:=H4.cells
   clear H4
   go_wp2_with fail
   go_loopg [6] (n+1) (fun gi v6 wi => ∃ k:Nat,gi=n+1 - k/\k<=n/\v6 = .int .i64 ((s.gd+1+k:Nat):Int)/\Hid (kd<8->k=0)/\Hid (CopAt e (s.fieldsN e s.gd k) wi)/\Hid (Aside e.own w wi)/\Hid (wi.heap[bo]?=some (.cells #[.int .i64 kd,.int .i64 ag,.int .i64 mk,.int .i64 (n:Int)] 172)))
   case atStart=>exact ⟨0,rfl,U0x _,by go_num,fun _=>rfl,HH4,A4,HN4⟩
   case round =>
    obtain ⟨k,hgi,hkn,rfl,hraw,hHk,hAk,hNk⟩:=hrel
    have HGI:=Z00 hgi
    clear hgi
    obtain ⟨o0,o1,o2,o3,_⟩:=Z0e hNk.out
    obtain ⟨y,hy⟩:∃ y,y=s.gd+1+k:=⟨_,rfl⟩
    rw [<-hy]
    have HY:=Z00 hy
    have hy0:(0:Int)<=(y:Int):=by omega
    have kr:=Z21 kd hk0
    obtain ⟨zJ,cJ⟩:∃ z,wr.cell? ⟨e.q,7,none⟩=some z:=by obtain ⟨_,_,_,_,_,k5,_,k7,_⟩:=hHk.out.cells;exact ⟨_,k7⟩
    have fJ:wr.frozen? ⟨e.q,7,none⟩=false:=by have h:=hHk.out.hq;simp [World.frozen?,h]
    have hX:s.fieldsN e s.gd k=s.obj e s.gd->CopAt e (s.scanG e) (wr.setCell ⟨e.q,7,none⟩ (.int .i64 (en:Int)))/\Aside e.own w (wr.setCell ⟨e.q,7,none⟩ (.int .i64 (en:Int))):=fun h=>by
     refine ⟨?_,hAk.out.setCell (Or.inl rfl) _⟩
     have h2:=hHk.out.setGd en
     rw [h] at h2
     unfold CS.scanG
     rw [<-HXE.out,<-HN.out,<-HEN.out]
     exact h2
    have HX:=Z00 hX
    clear hX
    by_cases hke:k<n
    ·have hye:(y:Int)<(en:Int):=by have:=HEN.out;omega
     by_cases hrw:kd<8
     ·rw [U0d hrw] at kr
      clear hy
      go_wp2_with fail
      refine (kr _).mono ?_
      rintro ev w5 ⟨rfl,rfl⟩
      obtain ⟨h2,a2⟩:=HX.out (by rw [hraw.out hrw];unfold CS.obj;rw [U09 (by rw [<-HXE.out,<-HKD.out];exact hrw)];rfl)
      have H2:=Z00 h2
      have A2:=Z00 a2
      clear h2 a2
      go_wp2_with fail
      go_roundg (μ (s.scanG e)+1)
      case measure=>have:=HGK.out;have:=HMU.out;omega
      case rel=>exact ⟨_,rfl,HINV,H2,A2⟩
     ·rw [U0k hrw] at kr
      clear hy
      go_wp2_with fail
      refine (kr _).mono ?_
      rintro ev w5 ⟨rfl,e5⟩
      rw [e5]
      clear e5 w5
      have hfo:=HOB.out.fields (by rw [<-HXE.out,<-HKD.out];omega) k (by rw [<-HXE.out,<-HN.out];exact hke)
      rw [<-HY.out] at hfo
      have kf:=Z6z a e (s.fieldsN e s.gd k) y wr hHk.out hfo.ok HF.out hfo.lt (fun w' h=>HE.out w' (hAk.out.trans h)) hfo.can hfo.ok' hfo.cards
      clear hfo
      go_wp2_with fail
      refine kf.mono ?_
      clear kf
      rintro ev w6 ⟨rfl,h6,a6⟩
      have H6:Hid (CopAt e (s.fieldsN e s.gd (k+1)) w6):=by show CopAt e ((s.fieldsN e s.gd k).field e (s.gd+1+k)) w6;rw [<-HY.out];exact h6
      have A6:Hid (Aside e.own w w6):=hAk.out.trans a6
      have N6:Hid (w6.heap[bo]?=some (.cells #[.int .i64 kd,.int .i64 ag,.int .i64 mk,.int .i64 (n:Int)] 172)):=(a6.block bo (Z01 hNk.out) HBO.out).trans hNk.out
      clear h6 a6
      have hy3:y<=300000:=by have:=HY.out;omega
      go_wp2_with fail
      go_roundg (n+1 - (k+1))
      case measure=>have:=HGI.out;omega
      case rel=>exact ⟨k+1,rfl,by omega,by have:=HY.out;go_num,fun h=>by omega,H6,A6,N6⟩
    ·have hye:¬ (y:Int)<(en:Int):=by have:=HEN.out;omega
     clear hy
     obtain ⟨h2,a2⟩:=HX.out (by
      unfold CS.obj
      rw [<-HXE.out,<-HKD.out]
      by_cases hrw:kd<8
      ·rw [U09 hrw,hraw.out hrw];rfl
      ·rw [U08 hrw,<-HN.out,show k=n by omega])
     have H2:=Z00 h2
     have A2:=Z00 a2
     clear h2 a2
     go_wp2_with fail
     go_roundg (μ (s.scanG e)+1)
     case measure=>have:=HGK.out;have:=HMU.out;omega
     case rel=>exact ⟨_,rfl,HINV,H2,A2⟩
  ·have hlI:¬ (s.gd:Int)<(s.gt:Int):=by omega
   go_wp2_with fail
   go_quiet (fail)
   go_wp2_with fail
   go_end0
   have hb:=Z03 (q:=nq) (U01 wr.heap.size wr)
   exact ⟨rfl,s,hi.out,hlt,hH.out.below hb,hA.out.trans (Aside.of_below hb)⟩
end
end Go.Proofs.YtlkcbdinlfeoiaaGreatDoor
