/- Package mem: IDs (holdIDs), by a contract. -/
import Derived.Test.YtlkcbdinlfeoiaaGreatDoorKnAV
import Derived.Test.YtlkcbdinlfeoiaaGreatDoorMemS
import Derived.Deep.AppendLies
namespace Go.Proofs.YtlkcbdinlfeoiaaGreatDoor
open Go.Proofs.Tryz Go.RowKit
set_option maxHeartbeats 8000000
set_option maxRecDepth 100000
section
open Go.Maps
theorem Zjr:Keyed prog 81:=int_keyed underlying81
theorem Zrj:Keyed prog 3:=int_keyed underlying3
theorem Z6r (w:World):(zeroValue 3).run prog w = .ok (.int .i64 0) w:=by kernel_rfl
theorem Z11 {w w':World} (hb:Below w.heap.size w w'):w.grownBy w' none:=⟨hb.os,hb.tape,hb.output,hb.size,fun k hk _=>hb.block k hk⟩
def Ze2 (q:IntKind) (D:DataW Unit) (l:List Int):Prop:=IsMap D /\ ∀ x,D.atKey (.int q x) (.lit (.int .i64 0)) = .lit (.int .i64 (l.count x:Nat))
theorem Z8s (q:IntKind):Ze2 q (.map []) []:=⟨⟨[],rfl⟩,fun _=>rfl⟩
theorem Zaq {q:IntKind}{D:DataW Unit}{l:List Int} (h:Ze2 q D l) (x:Int):Ze2 q (D.put (.int q x) (.lit (.int .i64 ((l.count x:Nat)+1)))) (l ++ [x]):=by
 refine ⟨h.1.put _ _,fun y => ?_⟩
 by_cases e:y=x
 ·subst e
  rw [U4d h.1 (by trivial),U23]
  simp
 ·rw [atKey_put_other (fun h=>e (by cases h;rfl)),h.2 y,U23,List.count_singleton]
  have:(x == y)=false:=by rw [U0w];exact fun h=>e h.symm
  simp [this]
def idB (nH:Nat) (hb:Nat->Bool) (l:List (Int × Int)) (i:Nat):Bool:=match l[i]? with
 | some x=>Z2y nH hb x.1 && (decide (1<=x.2) && (decide (((l.take (i+1)).map (·.1)).count x.1<=1) && decide (((l.take (i+1)).map (·.2)).count x.2<=1)))
 | none=>true
def Z6j (nH:Nat) (hb:Nat->Bool) (l:List (Int × Int)):Bool:=(List.range l.length).all (idB nH hb l)
def Zda (l:List (Int × Int)):Prop:=∀ x∈l,(0<=x.1/\x.1<18446744073709551616)/\(-9223372036854775808<=x.2/\x.2<9223372036854775808)
theorem wf_u {x:Int} (h0:0<=x) (h1:x<18446744073709551616):(Lit.int .u64 x).wf=true:=WalkArith.wf_u64 (by omega)
theorem Zp9 {x:Int} (h0 : -9223372036854775808<=x) (h1:x<9223372036854775808):(Lit.int .i64 x).wf=true:=WalkArith.wf_i64 (by omega)
theorem Zg0 (a:Nat->Addr) (bh nH:Nat) (hb:Nat->Bool) (hn:nH<=300000) (l:List (Int × Int)) (hl:l.length<=300000) (hu:Zda l) (ao:Option Addr) (cap:Nat) (w:World) (E:WErr a w) (H:Z2m w bh nH hb) (hbl:bh<w.heap.size) (hR:Z4g w (.slice ao l.length cap) l.length (Z2e l)) :
  Calls prog 131 #[.slice (some ⟨bh,0,none⟩) nH nH,.slice ao l.length cap] w fun ev w'=>ev = .returned (.bool (Z6j nH hb l))/\Below w.heap.size w w':=by
 have hmm:=@run_makeMap prog
 have HR:=Z00 hR
 have HU:=Z00 hu
 have HH:=Z00 H
 have HE:=Z00 E
 clear hR hu H E
 go_enter func131,ntmps131
 go_wp2_with fail
 go_loopg [13] (l.length+1) (fun gk v13 wr => ∃ (k:Nat) (D1 D2:DataW Unit),gk=l.length+1 - k/\k<=l.length/\v13 = .int .i64 (k:Int)/\Below w.heap.size w wr/\Hid ((List.range k).all (idB nH hb l)=true)/\Hid (wr.ownsMap prog 81 (plainElem prog 3) w.heap.size k D1)/\Hid (wr.ownsMap prog 3 (plainElem prog 3) (w.heap.size+1) k D2)/\Hid (Ze2 .u64 D1 ((l.take k).map (·.1)))/\Hid (Ze2 .i64 D2 ((l.take k).map (·.2))))
 case atStart =>
  have m1:=(U4a w prog 81 (plainElem (H:=Unit) prog 3)).alloc (.map #[] 0)
  have m2:=U4a (w.alloc (.map #[] 0)) prog 3 (plainElem (H:=Unit) prog 3)
  have e:(w.alloc (.map #[] 0)).heap.size=w.heap.size+1:=by simp
  rw [e] at m2
  exact ⟨0,.map [],.map [],rfl,U0x _,rfl,Z6q w _ _,rfl,m1,m2,Z8s _,Z8s _⟩
 case round =>
  obtain ⟨k,D1,D2,hgk,hk,hv13,hb1,hal,hm1,hm2,hc1,hc2⟩:=hrel
  subst hv13
  have HG:=Z00 hgk
  clear hgk hmm
  by_cases hlt:k<l.length
  ·have hI:(k:Int)<(l.length:Int):=by omega
   have hI0:(0:Int)<=(k:Int):=by omega
   obtain ⟨⟨x,y⟩,hx⟩:∃ x,l[k]?=some x:=⟨_,U03 hlt⟩
   obtain ⟨_,_,e,_,f1⟩:=HR.out
   cases e
   obtain ⟨p1,o1,rfl,l1,g1⟩:=f1 (by omega)
   have r1:wr.cell? ⟨p1,o1+k*2,none⟩=some (.int .u64 x):=(hb1.cell (p:=⟨p1,o1+k*2,none⟩) l1).trans (g1 _ _ (Z52 hx).1)
   have r2:wr.cell? ⟨p1,o1+k*2+1,none⟩=some (.int .i64 y):=(hb1.cell (p:=⟨p1,o1+k*2+1,none⟩) l1).trans (by rw [U2f];exact g1 _ _ (Z52 hx).2)
   obtain ⟨⟨xu0,xu1⟩,yu0,yu1⟩:=HU.out (x,y) (U0a hx)
   have hkx:Hid (keyOf prog 81 (.int .u64 x)=some (.int .u64 x)):=U3h underlying81 (wf_u xu0 xu1)
   have hky:Hid (keyOf prog 3 (.int .i64 y)=some (.int .i64 y)):=U3h underlying3 (Zp9 yu0 yu1)
   have e1:(l.take (k+1)).map (·.1)=(l.take k).map (·.1) ++ [x]:=by rw [U1g,hx];simp
   have e2:(l.take (k+1)).map (·.2)=(l.take k).map (·.2) ++ [y]:=by rw [U1g,hx];simp
   have HB:Hid (idB nH hb l k=(Z2y nH hb x && (decide (1<=y) && (decide (((l.take k).map (·.1)).count x+1<=1) && decide (((l.take k).map (·.2)).count y+1<=1))))):=by
    show _=_
    unfold idB
    rw [hx]
    simp only [e1,e2,U23,List.count_singleton_self]
   have HT1:=Z00 e1
   have HT2:=Z00 e2
   have k1:((l.take k).map (·.1)).count x<=300000:=U0n (List.count_le_length) (by simp;omega)
   have k2:((l.take k).map (·.2)).count y<=300000:=U0n (List.count_le_length) (by simp;omega)
   have hA1:=hc1.out.2 x
   have hA2:=hc2.out.2 y
   have HP1:=Z00 (Zaq hc1.out x)
   have HP2:=Z00 (Zaq hc2.out y)
   generalize ((l.take k).map (·.1)).count x=n1 at *
   generalize ((l.take k).map (·.2)).count y=n2 at *
   have HA1:=Z00 hA1
   have HA2:=Z00 hA2
   clear f1 g1 hx e1 e2 hA1 hA2
   have bl1:=hm1.out.lt
   have bl2:=hm2.out.lt
   have HM1:=Z00 (hm1.out.alloc (.cells #[.int .u64 x,.int .i64 y] 123))
   have HM2:=Z00 (hm2.out.alloc (.cells #[.int .u64 x,.int .i64 y] 123))
   have HI:=Z00 (U0b wr (.cells #[.int .u64 x,.int .i64 y] 123))
   have HBA:=Z00 (hb1.alloc hb1.size (.cells #[.int .u64 x,.int .i64 y] 123))
   have J1:=hc1.out.1
   have J2:=hc2.out.1
   clear hm1 hm2 hc1 hc2
   go_wp2_with (first
    | (at_lookup;refine wpList_lookup_own_int _ rfl _ _ 136 rfl 81 3 .i64 Zjr underlying136 underlying3 (Z6r _) w.heap.size k _ rfl HM1.out _ _ rfl hkx.out ?_;intro c hat hwc;obtain rfl:c=(n1:Int):=(by have e:=HA1.out.symm.trans hat;cases e;rfl);clear hat hwc)
    | (at_mapUpdate;refine U3e _ rfl _ _ _ 136 rfl 81 3 Zjr underlying136 _ w.heap.size k _ rfl HM1.out (by unfold maxLen;omega) _ _ _ rfl rfl hkx.out _ [] (U4m underlying3 (Zp9 (by omega) (by omega))) ?_;intro w1 hown1 hgrow1;have HO1:=Z00 hown1;have HM2':=Z00 (HM2.out.kept hgrow1 (by simp));have hid1:=(hgrow1.block wr.heap.size (by simp) (by simp;omega)).trans HI.out;have HI1:=Z00 hid1;have q0:=U06 _ _ 0 _ _ _ hid1;have q1:=U06 _ _ 1 _ _ _ hid1;have HB1:=Z00 (HBA.out.grown hgrow1 HBA.out.size (fun j hj=>by cases hj;exact U02 _));clear hown1 hgrow1 hid1)
    | (at_lookup;refine wpList_lookup_own_int _ rfl _ _ 236 rfl 3 3 .i64 Zrj underlying236 underlying3 (Z6r _) (w.heap.size+1) k _ rfl HM2'.out _ _ rfl hky.out ?_;intro c hat hwc;obtain rfl:c=(n2:Int):=(by have e:=HA2.out.symm.trans hat;cases e;rfl);clear hat hwc)
    | (at_mapUpdate;refine U3e _ rfl _ _ _ 236 rfl 3 3 Zrj underlying236 _ (w.heap.size+1) k _ rfl HM2'.out (by unfold maxLen;omega) _ _ _ rfl rfl hky.out _ [] (U4m underlying3 (Zp9 (by omega) (by omega))) ?_;intro w2 hown2 hgrow2;have HO2:=Z00 hown2;have HO1':=Z00 (HO1.out.kept hgrow2 (by simp));have hid2:=(hgrow2.block wr.heap.size (Z01 HI1.out) (by simp;omega)).trans HI1.out;have HI2:=Z00 hid2;have p0:=U06 _ _ 0 _ _ _ hid2;have p1':=U06 _ _ 1 _ _ _ hid2;have HB2:=Z00 (HB1.out.grown hgrow2 HB1.out.size (fun j hj=>by cases hj;omega));clear hown2 hgrow2 hid2))
   have hbw:=HB2.out
   refine (Z89 a bh nH hb hn x xu0 xu1 w2 (HE.out.below hbw) (HH.out.below hbw hbl) (U0r hbl hbw.size)).mono ?_
   rintro ev w3 ⟨rfl,hb3⟩
   have hb4:=hbw.trans (hb3.mono hbw.size)
   have hid3:=(hb3.block wr.heap.size (Z01 HI2.out)).trans HI2.out
   have t0:=U06 _ _ 0 _ _ _ hid3
   have t1:=U06 _ _ 1 _ _ _ hid3
   have M1:=HO1'.out.kept (Z11 hb3) (by simp)
   have M2:=HO2.out.kept (Z11 hb3) (by simp)
   obtain ⟨c1,run1,at1,_⟩:=M1.lookup_int Zjr underlying136 underlying3 (Z6r _) hkx.out
   obtain ⟨c2,run2,at2,_⟩:=M2.lookup_int Zrj underlying236 underlying3 (Z6r _) hky.out
   rw [U4d J1 (by trivial)] at at1
   rw [U4d J2 (by trivial)] at at2
   obtain rfl:c1=(n1:Int)+1:=by cases at1;rfl
   obtain rfl:c2=(n2:Int)+1:=by cases at2;rfl
   have HM1e:=Z00 M1
   have HM2e:=Z00 M2
   have u0:w3.cell? ⟨wr.heap.size,0,none⟩=some (.int .u64 x):=t0
   have u1:w3.cell? ⟨wr.heap.size,1,none⟩=some (.int .i64 y):=t1
   clear at1 at2 M1 M2 t0 t1 p0 p1' q0 q1 hid3
   cases hpb:Z2y nH hb x with
   | false =>
    rw [hpb] at HB
    clear hpb
    have HN:Hid (Z6j nH hb l=false):=Z2t hlt (by rw [HB.out];rw [U1s])
    clear HB
    go_wp2_with fail
    go_ret
    rw [HN.out]
    exact ⟨rfl,hb4⟩
   | true =>
    rw [hpb] at HB
    clear hpb
    by_cases hy:y<1
    ·have hy2:decide (1<=y)=false:=by rw [U0p];omega
     rw [hy2] at HB
     clear hy2
     have HN:Hid (Z6j nH hb l=false):=Z2t hlt (by rw [HB.out];rw [U1s,U20])
     clear HB
     go_wp2_with fail
     go_ret
     rw [HN.out]
     exact ⟨rfl,hb4⟩
    ·have hy2:decide (1<=y)=true:=by rw [U1x];omega
     have hy3:¬ y<1:=hy
     rw [hy2] at HB
     clear hy2
     by_cases hn1:0<n1
     ·have hd1:decide (n1+1<=1)=false:=by rw [U0p];omega
      have hg1:(n1:Int)+1 > 1:=by omega
      rw [hd1] at HB
      clear hd1
      have HN:Hid (Z6j nH hb l=false):=Z2t hlt (by rw [HB.out];rw [U1s,U20,U20])
      clear HB
      go_wp2_with fail
      go_ret
      rw [HN.out]
      exact ⟨rfl,hb4⟩
     ·obtain rfl:n1=0:=by omega
      by_cases hn2:0<n2
      ·have hd2:decide (n2+1<=1)=false:=by rw [U0p];omega
       have hg2:(n2:Int)+1 > 1:=by omega
       rw [hd2] at HB
       clear hd2
       have HN:Hid (Z6j nH hb l=false):=Z2t hlt (by rw [HB.out];rfl)
       clear HB
       go_wp2_with fail
       go_ret
       rw [HN.out]
       exact ⟨rfl,hb4⟩
      ·obtain rfl:n2=0:=by omega
       have HT:Hid ((List.range (k+1)).all (idB nH hb l)=true):=Z5s hal.out (by rw [HB.out];rfl)
       clear HB hal
       go_wp2_with fail
       go_roundg (l.length+1 - (k+1))
       case measure=>have:=HG.out;omega
       case rel=>exact ⟨k+1,_,_,rfl,by omega,by go_num,hb4,HT,HM1e.out,HM2e.out,by rw [HT1.out];exact HP1,by rw [HT2.out];exact HP2⟩
  ·obtain rfl:k=l.length:=by omega
   go_wp2_with fail
   go_ret
   unfold Z6j
   rw [hal.out]
   exact ⟨rfl,hb1⟩
end
structure MErr (a:Nat->Addr) (w:World):Prop where
 c1:w.cell? ⟨0,0,none⟩=some (.iface 338 (.pointer (some (a 1))))
 c2:w.cell? ⟨3,0,none⟩=some (.iface 338 (.pointer (some (a 2))))
 c4:w.cell? ⟨1,0,none⟩=some (.iface 338 (.pointer (some (a 4))))
 c5:w.cell? ⟨5,0,none⟩=some (.iface 338 (.pointer (some (a 5))))
theorem MErr.below {a:Nat->Addr}{w w':World} (E:MErr a w) (hb:Below w.heap.size w w'):MErr a w' where
 c1:=(hb.cell (p:=⟨0,0,none⟩) (Z02 E.c1)).trans E.c1
 c2:=(hb.cell (p:=⟨3,0,none⟩) (Z02 E.c2)).trans E.c2
 c4:=(hb.cell (p:=⟨1,0,none⟩) (Z02 E.c4)).trans E.c4
 c5:=(hb.cell (p:=⟨5,0,none⟩) (Z02 E.c5)).trans E.c5
theorem MErr.we {a:Nat->Addr}{w:World} (E:MErr a w):WErr a w:=⟨E.c1,E.c2⟩
theorem Errs.me {a:Nat->Addr}{w:World} (E:Errs a w):MErr a w:=⟨E.c1,E.c2,E.c4,E.c5⟩
def Zq7 (w:World) (v:Value) (n:Nat) (xs:List Value):Prop:=∃ ao cap,v = .slice ao n cap/\n<=cap/\(0<n -> ∃ b,ao=some ⟨b,0,none⟩/\b<w.heap.size /\ ∀ j u,xs[j]?=some u->w.cell? ⟨b,j,none⟩=some u)
theorem Zq7.row {w:World}{v:Value}{n:Nat}{xs:List Value} (h:Zq7 w v n xs):Z4g w v n xs:=by
 obtain ⟨ao,cap,e,hc,h⟩:=h
 refine ⟨ao,cap,e,hc,fun hn => ?_⟩
 obtain ⟨b,e1,e2,e3⟩:=h hn
 exact ⟨b,0,e1,e2,fun j u hj=>by rw [U1p];exact e3 j u hj⟩
theorem Zq7.below {w w':World}{v:Value}{n:Nat}{xs:List Value} (h:Zq7 w v n xs) (hb:Below w.heap.size w w'):Zq7 w' v n xs:=by
 obtain ⟨ao,cap,e,hc,h⟩:=h
 refine ⟨ao,cap,e,hc,fun hn => ?_⟩
 obtain ⟨b,e1,e2,e3⟩:=h hn
 exact ⟨b,e1,U0r e2 hb.size,fun j u hj=>(hb.cell (p:=⟨b,j,none⟩) e2).trans (e3 j u hj)⟩
theorem Z6m {w:World}{base e size n:Nat}{v:Value}{xs:List Value} (h:w.ownsRow base e size v n xs):Zq7 w v n xs:=by
 obtain ⟨h1,h2⟩:=h
 rcases h2 with ⟨rfl,rfl⟩ | ⟨g,cap,cur,rfl,hb,hg,hc,_,hs,ht⟩
 ·exact ⟨none,0,rfl,U02 _,fun h=>absurd h (by omega)⟩
 ·refine ⟨_,_,rfl,hc,fun _=>⟨g,rfl,Z01 hg,fun j u hj => ?_⟩⟩
  rw [<-ht,U1j] at hj
  split at hj
  ·rw [U06 _ _ _ _ _ _ hg,<-U1q]
   exact hj
  ·cases hj
def Z86 (p:Nat) (m:MD) (w:World):Prop:=∃ vW vR vK vI vC,p<w.heap.size/\MemAt p m.half m.old m.card vW m.used m.top m.oldTop vR vK vI vC w /\
 Zq7 w vW m.W.length (Z05 m.W)/\Z4g w vR m.R.length (Z05 m.R)/\Z4g w vK m.K.length (Z05 m.K)/\Z4g w vI m.I.length (Z2e m.I)/\Zq7 w vC m.C.length (Z0s m.C)
theorem Z86.below {p:Nat}{m:MD}{w w':World} (h:Z86 p m w) (hb:Below w.heap.size w w'):Z86 p m w':=by
 obtain ⟨vW,vR,vK,vI,vC,hp,M,h1,h2,h3,h4,h5⟩:=h
 exact ⟨vW,vR,vK,vI,vC,U0r hp hb.size,M.below hb hp,h1.below hb,h2.below hb,h3.below hb,h4.below hb,h5.below hb⟩
theorem Z86.rep {p:Nat}{m:MD}{w:World} (h:Z86 p m w):Zqr p 0 m w:=by
 obtain ⟨vW,vR,vK,vI,vC,hp,M,h1,h2,h3,h4,h5⟩:=h
 exact ⟨vW,vR,vK,vI,vC,hp,M.memO,h1.row,h2,h3,h4,h5.row⟩
structure MD64 (m:MD):Prop where
 w:U64 m.W
 r:U64 m.R
 k:U64 m.K
 i:Zda m.I
def MD.F (m:MD) (i:Nat):Int:=m.W.getD i 0
def MD.Cf (m:MD) (i:Nat):Bool:=m.C.getD i false
def MD.n0 (m:MD):Nat:=(m.used*m.half).toNat
def MD.n1 (m:MD):Nat:=(m.used*m.half+m.top).toNat
def MD.m0 (m:MD):Nat:=(2*m.half).toNat
def MD.m1 (m:MD):Nat:=(2*m.half+m.oldTop).toNat
def MD.FitsM (m:MD):Prop:=Fits m.half m.old m.card m.W.length m.C.length m.used m.top m.oldTop
theorem MD.parts {m:MD} (h:m.FitsM):Parts m.half m.used m.top m.oldTop m.n0 m.n1 m.m0 m.m1:=by
 obtain ⟨⟨a0,a1,a2,a3,a4,a5⟩,hw,_,u0,u1,t0,t1,o0,o1⟩:=h
 have:0<=m.used*m.half:=Int.mul_nonneg u0 (by omega)
 constructor
 ·unfold MD.n0;omega
 ·unfold MD.n1;omega
 ·unfold MD.m0;omega
 ·unfold MD.m1;omega
def MD.objs (m:MD):Option (List Nat):=match Z09 m.F (G1 m.F m.half) (m.n1 - m.n0) m.n0 m.n1,Z09 m.F (G1 m.F m.half) (m.m1 - m.m0) m.m0 m.m1 with
 | some l1,some l2=>some (l1++l2)
 | _,_=>none
def MD.holdB (m:MD) (vs:List Nat):Bool:=(Z09 m.F (G2 m.F m.W.length (fun i=>decide (i∈vs))) (m.n1 - m.n0) m.n0 m.n1).isSome && (Z09 m.F (G2 m.F m.W.length (fun i=>decide (i∈vs))) (m.m1 - m.m0) m.m0 m.m1).isSome
def MD.restB (m:MD) (vs:List Nat):Bool:=m.R.all (Z0b m.W.length (fun i=>decide (i∈vs))) && (m.K.all (Z0b m.W.length (fun i=>decide (i∈vs))) && Z6j m.W.length (fun i=>decide (i∈vs)) m.I)
def MD.cardsB (m:MD):Bool:=(Z09 m.F (G3 m.F m.Cf m.half m.card) (m.m1 - m.m0) m.m0 m.m1).isSome
def MD.Shape (m:MD) (vs:List Nat):Prop:=m.FitsM/\m.objs=some vs/\m.holdB vs=true/\m.restB vs=true
theorem Ze0 {p:Nat}{m:MD}{w:World}{vR vK vI:Value}{b bc cW cC:Nat} (hF:m.FitsM) (h64:MD64 m) (M:MemAt p m.half m.old m.card (.slice (some ⟨b,0,none⟩) m.W.length cW) m.used m.top m.oldTop vR vK vI (.slice (some ⟨bc,0,none⟩) m.C.length cC) w) (hc:m.W.length<=cW)
  (hw:∀ j u,(Z05 m.W)[j]?=some u->w.cell? ⟨b,j,none⟩=some u) (hk:∀ j u,(Z0s m.C)[j]?=some u->w.cell? ⟨bc,j,none⟩=some u):Looked p b bc m.W.length m.C.length cW cC m.half m.old m.card m.used m.top m.oldTop vR vK vI m.F m.Cf w where
 mem:=M
 fits:=hF
 cap:=hc
 words i hi:=hw i _ (Z2d (by unfold MD.F;rw [U07,U03 hi];rfl))
 cards i hi:=hk i _ (Zgo (by unfold MD.Cf;rw [U07,U03 hi];rfl))
 range i hi:=by
  unfold MD.F
  rw [U07,U03 hi]
  exact h64.w _ (U1w hi)
theorem Zlq {m:MD} (h:m.objs=none):((Z09 m.F (G1 m.F m.half) (m.n1 - m.n0) m.n0 m.n1).isSome && (Z09 m.F (G1 m.F m.half) (m.m1 - m.m0) m.m0 m.m1).isSome)=false:=by
 unfold MD.objs at h
 cases h1:Z09 m.F (G1 m.F m.half) (m.n1 - m.n0) m.n0 m.n1 with
 | none=>rfl
 | some l1 =>
  cases h2:Z09 m.F (G1 m.F m.half) (m.m1 - m.m0) m.m0 m.m1 with
  | none=>rfl
  | some l2=>rw [h1,h2] at h;cases h
theorem Zkd {m:MD}{vs:List Nat} (h:m.objs=some vs):∃ l1 l2,Z09 m.F (G1 m.F m.half) (m.n1 - m.n0) m.n0 m.n1=some l1/\Z09 m.F (G1 m.F m.half) (m.m1 - m.m0) m.m0 m.m1=some l2/\vs=l1++l2:=by
 unfold MD.objs at h
 cases h1:Z09 m.F (G1 m.F m.half) (m.n1 - m.n0) m.n0 m.n1 with
 | none=>rw [h1] at h;cases h
 | some l1 =>
  cases h2:Z09 m.F (G1 m.F m.half) (m.m1 - m.m0) m.m0 m.m1 with
  | none=>rw [h1,h2] at h;cases h
  | some l2=>rw [h1,h2] at h;cases h;exact ⟨l1,l2,rfl,rfl,rfl⟩
theorem Zli (w:World) (n:Nat):Z1l (w.alloc (.cells (Array.replicate n (.bool false)) 4)) w.heap.size n []:=
 ⟨_,U0b w _,by simp,fun i hi=>by simp [hi]⟩
def Zb1 (a:Nat->Addr) (m:MD) (w:World) (ev:Ending) (w':World):Prop:=Below w.heap.size w w' /\
 ((∃ vs bh,m.Shape vs/\m.cardsB=true/\ev = .returned (.tuple #[.slice (some ⟨bh,0,none⟩) m.W.length m.W.length,.nilIface])/\Z1l w' bh m.W.length vs/\w.heap.size<=bh) \/
  (∃ vs,m.Shape vs/\m.cardsB=false/\ev = .returned (.tuple #[.slice none 0 0,Z0p a 4])) \/
  ((∀ vs,¬ m.Shape vs)/\ev = .returned (.tuple #[.slice none 0 0,Z0p a 2])))
def ptI (x:Int):Int:=if x % 4=0/\4<=x/\x / 4<=1099511627776 then x / 4 - 1 else -1
def objI (vs:List Nat) (x:Int):Int:=match vs.findIdx? (fun v:Nat=>(v:Int) == x) with
 | some i=>(i:Int)
 | none => -1
def Z5o (vs:List Nat) (x:Int):Bool:=if x % 4=0 then (x == 0) || (decide (0<=ptI x) && decide (0<=objI vs (ptI x))) else if x % 4=1 then true else if x % 4=2 then decide (x / 4<=2) else false
theorem Zqr.drewN {p o:Nat}{m:MD}{w:World} (h:Zqr p o m w) (q:Nat):Zqr p o m (w.drewN q):=h.below (Z03 (U01 _ _))
theorem Z0u (w:World) (o:Obj) (k:Nat) (h:k<w.heap.size):(w.alloc o).heap[k]?=w.heap[k]?:=((U01 w.heap.size w).alloc (U02 _) o).block k h
def G0 (F:Nat->Int) (f:Nat):Bool:=decide (F f / 16384 % 2=0)
theorem Z4w {F:Nat->Int}{G:Nat->Bool} : ∀ {n f t:Nat}{l:List Nat},Z09 F G n f t=some l->l.length<=n
 | 0,f,t,l,h=>by unfold Z09 at h;cases h;simp
 | n+1,f,t,l,h=>by
  unfold Z09 at h
  split at h
  ·split at h
   ·obtain ⟨l',h',rfl⟩:=U1i.1 h
    have:=Z4w h'
    simp
    omega
   ·cases h
  ·cases h;simp
def Z29 (out:List Nat) (x:Int):List Nat:=if 0<=ptI x/\objI out (ptI x)<0 then out ++ [(ptI x).toNat] else out
theorem Zh5 {vs:List Nat}{x:Int} (h:¬ 0<=objI vs x):objI vs x = -1:=by
 unfold objI at *
 split at h <;> simp_all
theorem Z6i {vs:List Nat}{x:Int} (h:0<=objI vs x):∃ k f:Nat,objI vs x=(k:Int)/\vs[k]?=some f/\(f:Int)=x/\k<vs.length:=by
 unfold objI at *
 cases e:vs.findIdx? (fun v:Nat=>(v:Int) == x) with
 | none=>rw [e] at h;simp at h
 | some i =>
  obtain ⟨hl,h1,_⟩:=U4k.1 e
  exact ⟨i,vs[i],rfl,U03 hl,by simpa using h1,hl⟩
theorem Z2a {vs:List Nat}{f:Nat} : 0<=objI vs (f:Int) ↔ f∈vs:=by
 constructor
 ·intro h
  obtain ⟨k,g,_,h1,h2,_⟩:=Z6i h
  obtain rfl:g=f:=by omega
  exact U0a h1
 ·intro h
  rcases Int.lt_or_le (objI vs (f:Int)) 0 with hl | hl
  ·exfalso
   unfold objI at hl
   cases e:vs.findIdx? (fun v:Nat=>(v:Int) == (f:Int)) with
   | none =>
    rw [U46] at e
    have:=e f h
    simp at this
   | some i=>rw [e] at hl;simp at hl;omega
  ·exact hl
def Zqj (vs:List Nat) (x:Int):Prop:=0<=ptI x->0<=objI vs (ptI x)
theorem Zaw {vs:List Nat}{x:Int} (h:Z5o vs x=true):Zqj vs x:=fun hp=>by
 unfold Z5o at h
 unfold ptI at hp
 split at hp
 ·rename_i hx
  rw [U09 hx.1] at h
  have hz:(x == 0)=false:=by rw [U0w];omega
  rw [hz,U1n,U0i] at h
  exact U0j h.2
 ·omega
structure Outs (vs out:List Nat):Prop where
 sub:∀ f∈out,f∈vs
 once:out.Nodup
theorem Z55:∀ (out vs:List Nat),out.Nodup->(∀ f∈out,f∈vs)->out.length<=vs.length
 | [],_,_,_=>U0x _
 | a::out,vs,h,hs=>by
  rw [U2r] at h
  have h1:=Z55 out (vs.erase a) h.2 (fun f hf=>by
   have hne:f≠a:=fun e=>h.1 (by rw [<-e];exact hf)
   exact (U4u hne).2 (hs f (by simp [hf])))
  have ha:=hs a (by simp)
  rw [List.length_erase_of_mem ha] at h1
  have:=List.length_pos_of_mem ha
  rw [U1e]
  omega
theorem Outs.len {vs out:List Nat} (h:Outs vs out):out.length<=vs.length:=Z55 _ _ h.once h.sub
theorem Outs.come {vs out:List Nat} (h:Outs vs out) {x:Int} (hx:Zqj vs x):Outs vs (Z29 out x):=by
 unfold Z29
 split
 ·rename_i hc
  obtain ⟨f,hf⟩:∃ f:Nat,(f:Int)=ptI x:=⟨(ptI x).toNat,by omega⟩
  have hv:=hx hc.1
  rw [<-hf] at hv hc
  have e:(ptI x).toNat=f:=by omega
  rw [e]
  have hn:f ∉ out:=fun hm=>by
   have:=Z2a.2 hm
   omega
  refine ⟨fun g hg => ?_,?_⟩
  ·rcases U0c.1 hg with hg | hg
   ·exact h.sub g hg
   ·simp at hg;rw [hg];exact Z2a.1 hv
  ·rw [U3r]
   refine ⟨h.once,by simp,fun a ha b hb => ?_⟩
   simp at hb
   rw [hb]
   exact fun e=>hn (e ▸ ha)
 ·exact h
def Z0n (out:List Nat) (l:List Int):List Nat:=l.foldl Z29 out
theorem Z4h {out:List Nat}{l:List Int}{k:Nat}{x:Int} (h:l[k]?=some x):Z0n out (l.take (k+1))=Z29 (Z0n out (l.take k)) x:=by
 unfold Z0n
 rw [U1g,h,U4g]
 rfl
theorem Outs.comes {vs:List Nat} : ∀ {l:List Int}{out:List Nat},Outs vs out->(∀ x∈l,Zqj vs x)->Outs vs (Z0n out l)
 | [],_,h,_=>h
 | x::l,_,h,hx=>Outs.comes (l:=l) (h.come (hx x (by simp))) (fun y hy=>hx y (by simp [hy]))
theorem Zk0 (out:List Nat) (x:Int):∃ l,Z29 out x=out++l:=by
 unfold Z29
 split
 ·exact ⟨_,rfl⟩
 ·exact ⟨[],by simp⟩
theorem Z6u:∀ (l:List Int) (out:List Nat),∃ r,Z0n out l=out++r
 | [],out=>⟨[],by simp [Z0n]⟩
 | x::l,out=>by
  obtain ⟨a,ha⟩:=Zk0 out x
  obtain ⟨b,hb⟩:=Z6u l (Z29 out x)
  exact ⟨a++b,by show Z0n (Z29 out x) l=_;rw [hb,ha,U0y]⟩
def Z33 (F:Nat->Int) (out:List Nat) (f:Nat):List Nat:=if F f / 4 % 256<8 then out else Z0n out (Z07 F f)
def Z10 (F:Nat->Int):Nat->List Nat->Nat->List Nat
 | 0,out,_=>out
 | n+1,out,k=>match out[k]? with
  | none=>out
  | some f=>Z10 F n (Z33 F out f) (k+1)
theorem Z3z {F:Nat->Int}{out:List Nat}{k:Nat} (h:out.length<=k):∀ n,Z10 F n out k=out
 | 0=>rfl
 | n+1=>by unfold Z10;rw [U14 h]
theorem Zej {F:Nat->Int}{out:List Nat}{k f n:Nat} (h:out[k]?=some f):Z10 F (n+1) out k=Z10 F n (Z33 F out f) (k+1):=by
 conv=>lhs;unfold Z10
 rw [h]
structure Reachy (F:Nat->Int) (vs:List Nat):Prop where
 held:∀ f∈vs,¬ F f / 4 % 256<8 -> ∀ x∈Z07 F f,Zqj vs x
theorem Outs.step {F:Nat->Int}{vs out:List Nat} (h:Outs vs out) (hR:Reachy F vs) {f:Nat} (hf:f∈vs):Outs vs (Z33 F out f):=by
 unfold Z33
 split
 ·exact h
 ·rename_i hc
  exact h.comes (hR.held f hf hc)
theorem Zcq (F:Nat->Int) (out:List Nat) (f:Nat):∃ r,Z33 F out f=out++r:=by
 unfold Z33
 split
 ·exact ⟨[],by simp⟩
 ·exact Z6u _ _
theorem Z1q {F:Nat->Int}{G:Nat->Bool} : ∀ {n f t:Nat},Z09 F G n f t=(Z09 F (fun _=>true) n f t).bind fun l=>if l.all G then some l else none
 | 0,f,t=>by simp [Z09]
 | n+1,f,t=>by
  rw [Z09,Z09]
  by_cases h1:f<t
  ·rw [U09 h1,U09 h1]
   by_cases h2:(Z0t (F f) && (decide (f+1+szN (F f)<=t) && true))=true
   ·rw [U09 h2,Z1q (n:=n)]
    have h3:Z0t (F f)=true/\f+1+szN (F f)<=t:=by simpa using h2
    cases hw:Z09 F (fun _=>true) n (f+1+szN (F f)) t with
    | none=>simp
    | some l =>
     cases hg:G f with
     | true =>
      rw [U09 (by rw [h3.1,U0d h3.2];rfl)]
      simp [hg]
     | false =>
      rw [U08 (by simp)]
      simp [hg]
   ·rw [U08 h2]
    have h3:¬ (Z0t (F f)=true/\f+1+szN (F f)<=t):=by simpa using h2
    rw [U08 (fun h=>h3 (by
     simp only [U0i,U1x] at h
     exact ⟨h.1,h.2.1⟩))]
    rfl
  ·rw [U08 h1,U08 h1]
   rfl
theorem Z0h {F:Nat->Int}{G:Nat->Bool}{n f t:Nat}{l:List Nat} : Z09 F G n f t=some l ↔ Z09 F (fun _=>true) n f t=some l/\l.all G=true:=by
 rw [Z1q]
 cases Z09 F (fun _=>true) n f t with
 | none=>simp
 | some l' =>
  simp only [U3i,U5a]
  cases ha:l'.all G with
  | true =>
   rw [U09 rfl]
   simp only [U5a]
   exact ⟨fun h=>⟨h,h ▸ ha⟩,fun h=>h.1⟩
  | false =>
   rw [U08 (by simp)]
   exact ⟨fun h=>(by cases h),fun h=>absurd (h.1 ▸ h.2) (by rw [ha];simp)⟩
theorem Z0q {F:Nat->Int}{G:Nat->Bool}{n f t:Nat}{l:List Nat} (h:Z09 F (fun _=>true) n f t=some l):(Z09 F G n f t).isSome=l.all G:=by
 rw [Z1q,h]
 simp only [U3i]
 cases ha:l.all G with
 | true=>simp
 | false=>simp
theorem Z0o {F:Nat->Int}{G:Nat->Bool} : ∀ {n f t:Nat}{l:List Nat},Z09 F G n f t=some l -> ∀ v∈l,f<=v/\v+1+szN (F v)<=t
 | 0,f,t,l,h=>by unfold Z09 at h;cases h;intro v hv;cases hv
 | n+1,f,t,l,h=>by
  unfold Z09 at h
  split at h
  ·split at h
   ·rename_i h1 h2
    obtain ⟨l',h',rfl⟩:=U1i.1 h
    have h3:f+1+szN (F f)<=t:=by
     simp only [U0i,U1x] at h2
     exact h2.2.1
    intro v hv
    rcases U19.1 hv with rfl | hv
    ·exact ⟨U02 _,h3⟩
    ·have:=Z0o h' v hv
     exact ⟨by omega,this.2⟩
   ·cases h
  ·cases h;intro v hv;cases hv
theorem Z83 {vs:List Nat}{x:Int} : 0<=objI vs x ↔ ∃ v∈vs,(v:Int)=x:=by
 unfold objI
 cases h:vs.findIdx? (fun v:Nat=>(v:Int) == x) with
 | none =>
  rw [U46] at h
  constructor
  ·intro h';simp at h'
  ·rintro ⟨v,hv,e⟩
   have:=h v hv
   simp at this
   exact absurd e this
 | some i =>
  rw [U4k] at h
  obtain ⟨hl,e,_⟩:=h
  constructor
  ·intro _
   exact ⟨vs[i],U1w hl,by simpa using e⟩
  ·intro _
   simp
theorem Z53 {vs:List Nat}{nW:Nat} (hv:∀ v∈vs,v<nW) (hn:nW<=300000) {x:Int} (h0:0<=x):Z5o vs x=Z0b nW (fun i=>decide (i∈vs)) x:=by
 unfold Z5o Z0b
 by_cases c0:x % 4=0
 ·rw [U09 c0,U08 (by omega),U08 (by omega)]
  by_cases cz:x=0
  ·subst cz;rfl
  have hz:(x == 0)=false:=by rw [U0w];exact cz
  rw [hz,U1n,U1n]
  unfold Z2y
  rw [U0d (And.intro c0 (by omega:4<=x)),U1v]
  show _=(decide ((x / 4 - 1).toNat<nW) && decide ((x / 4 - 1).toNat∈vs))
  by_cases hm:(x / 4 - 1).toNat∈vs
  ·have hlt:=hv _ hm
   have hp:ptI x=x / 4 - 1:=by unfold ptI;rw [U09 ⟨c0,by omega,by omega⟩]
   rw [hp,U0d hlt,U0d hm,U0d (by omega:0<=x / 4 - 1),U0d (Z83.2 ⟨_,hm,by omega⟩)]
  ·rw [U0k hm,U20]
   by_cases hp:0<=ptI x
   ·have hp2:ptI x=x / 4 - 1:=by
     unfold ptI at hp ⊢
     split at hp
     ·rename_i hc
      rw [U09 hc]
     ·omega
    have hno:¬ 0<=objI vs (ptI x):=fun h=>by
     obtain ⟨v,hvm,e⟩:=Z83.1 h
     rw [hp2] at e
     exact hm (by rw [<-e];simpa using hvm)
    rw [U0k hno,U20]
   ·rw [U0k hp,U1s]
 ·rw [U08 c0]
  by_cases c1:x % 4=1
  ·rw [U09 c1,U09 c1]
  ·rw [U08 c1,U08 c1]
   by_cases c2:x % 4=2
   ·rw [U09 c2,U09 c2]
   ·rw [U08 c2,U08 c2]
    have hz:(x == 0)=false:=by rw [U0w];omega
    rw [hz,U1n]
    unfold Z2y
    rw [U0k (fun h=>c0 h.1),U1s]
end Go.Proofs.YtlkcbdinlfeoiaaGreatDoor
