/- Package heap by contracts: a new object is laid (lay). -/
import Derived.Test.YtlkcbdinlfeoiaaGreatDoorKrA
import Derived.Test.YtlkcbdinlfeoiaaGreatDoorKnAT
namespace Go.Proofs.YtlkcbdinlfeoiaaGreatDoor
open Go.Proofs.Tryz Go.RowKit
set_option maxHeartbeats 8000000
set_option maxRecDepth 100000
set_option linter.unusedSimpArgs false
section
open Go.Maps
variable {h:HP}{sr:Int}{m:MD}{w w':World}{a:Nat->Addr}{w0:World}{M:MO}{X:MXtra}
theorem Zio (W:List Int) (rest:List Value) (t:Nat) (hd:Int) (fs:List Int) (h:t+1+fs.length<=W.length):splice (((Z05 W++rest).toArray.setIfInBounds t (.int .u64 hd)).toList) (t+1) (Z05 fs)=Z05 (lyW W t hd fs)++rest:=by
 have hl:(Z05 W).length=W.length:=Z3y W
 have hf:(Z05 fs).length=fs.length:=Z3y fs
 have e1:((Z05 W++rest).toArray.setIfInBounds t (.int .u64 hd)).toList=(Z05 W).set t (.int .u64 hd)++rest:=by
  rw [U00,List.set_append_left _ _ (by omega)]
 rw [e1]
 unfold splice lyW
 have e2:((Z05 W).set t (.int .u64 hd)++rest).take (t+1)=Z05 (W.take t) ++ [.int .u64 hd]:=by
  rw [U2b (by rw [U0t];omega)]
  unfold Z05
  rw [U4p (by rw [U0t,U0v];omega),List.getElem_set_self,List.take_set_of_le (U02 _),U2y]
 have e3:((Z05 W).set t (.int .u64 hd)++rest).drop (t+1+(Z05 fs).length)=Z05 (W.drop (t+1+fs.length))++rest:=by
  rw [U3q (by rw [U0t];omega),hf]
  unfold Z05
  rw [List.drop_set_of_lt (by omega),List.map_drop]
 rw [e2,e3]
 unfold Z05
 simp
def Z1t (a:Nat->Addr) (w0:World) (h:HP) (m:MD) (M:MO) (X:MXtra) (kd:Int) (fs:List Int) (w:World) (ev:Ending) (w':World):Prop:=
 (∃ h' sr' k n t y,Nxt h h' w w'/\Dim m k/\HM k sr' M X/\HAt h' sr' n w'/\Laid k n t fs.length y/\MD64 n/\n.F t / 4 % 256=kd/\Z07 n.F t=fs/\ev = .returned (.tuple #[.int .u64 (((t:Int)+1)*4),.nilIface])) \/
 (ev = .returned (.tuple #[.int .u64 0,Z0p a 5])/\Stp a w0 h m M X w w'/\m.old<(M.words:Int)+(1+(fs.length:Int)))
theorem Zbr (s:HS a w0 h sr m M X w) (kd:Int) (fs:List Int) (g cap:Nat) (hg:Blk g 81 (Z05 fs) w) (hgo:¬ h.own g) (k0:0<=kd) (k1:kd<=255) (hf:fs.length<=4096) (hu:U64 fs) (hfl:¬ kd<8 -> ∀ x∈fs,∀ nW,Z0b nW (fun _=>false) x=true) :
  Calls prog 71 #[.pointer (some ⟨h.q,0,none⟩),.int .i64 kd,.slice (some ⟨g,0,none⟩) fs.length cap] w (Z1t a w0 h m M X kd fs w):=by
 have hsum:((fs.length:Int)*65536+0*16384+0*1024+kd*4+3)=hdN kd fs.length:=by unfold hdN;omega
 have ko:=fun w=>Z59 kd 0 0 (fs.length:Int) k0 k1 (by omega) (by omega) (by omega) (by omega) (by omega) (by omega) w
 rw [hsum] at ko
 have KT:Hid (∀ w1,Below w.heap.size w w1->Calls prog 119 #[.pointer (some ⟨h.q,0,none⟩),.int .i64 ((1+fs.length:Nat):Int)] w1 (Z85 a w0 h m M X (1+fs.length) w1)):=fun w1 hb=>Zkm (s.below hb) (1+fs.length) (by omega)
 obtain ⟨hd,hhd⟩:∃ hd,hd=hdN kd fs.length:=⟨_,rfl⟩
 rw [<-hhd] at ko
 obtain ⟨q,hq⟩:∃ q,q=h.q:=⟨_,rfl⟩
 rw [<-hq] at KT ⊢
 obtain ⟨nf,hnf⟩:∃ n,n=fs.length:=⟨_,rfl⟩
 have HSS:=Z00 s
 have HQ:=Z00 hq
 have HHD:=Z00 hhd
 have HG:=Z00 hg
 have HGO:=Z00 hgo
 have HFL:=Z00 hfl
 have HNF:=Z00 hnf
 have HU:=Z00 hu
 have HK:Hid (0<=kd/\kd<=255):=⟨k0,k1⟩
 rw [<-hnf] at ko KT hf ⊢
 have HNN:Hid ((1:Int)+(nf:Int)=((1+nf:Nat):Int)):=by show _=_;omega
 have hfi:(nf:Int)<=4096:=by omega
 have hfi0:(0:Int)<=(nf:Int):=by omega
 have ew:IntKind.i64.wrap (1+(nf:Int))=1+(nf:Int):=Z18 _ (by omega) (by omega)
 clear s hq hhd hg hgo hfl hnf hu hsum k0 k1
 go_enter func71,ntmps71
 go_wp2_with fail
 refine (ko w).mono ?_
 clear ko
 rintro ev w1 ⟨rfl,b1⟩
 have kt:=KT.out w1 b1
 rw [<-HNN.out] at kt
 have HB1:=Z00 b1
 clear b1
 go_wp2_with fail
 refine kt.mono ?_
 clear kt
 rintro ev w2 (⟨h1,sr1,k,y,N,D,hm,rfl,hroom,H⟩ | ⟨rfl,hS,hl⟩)
 ·obtain ⟨l1,l2,rt⟩:=hm.right
  obtain ⟨t,n,ht,hfit,hn,L,h64,hkd,hfs⟩:=Zs4 (kd:=kd) (fs:=fs) rt y HK.out.1 HK.out.2 (by rw [<-HNF.out];exact hf) HU.out (fun hk x hx=>HFL.out (by omega) x hx _) (by rw [<-HNF.out];exact hroom)
  rw [<-ht]
  have hNw:Nxt h h1 w w2:=(Nxt.of_below h HB1.out).trans N
  have hgb:Blk g 81 (Z05 fs) w2:=HG.out.aside hNw.aside HGO.out
  have hgn:¬ h1.own g:=fun e=>by
   rcases hNw.own g e with e | e
   ·exact HGO.out e
   ·have:=HG.out.lt;omega
  have hlen:(Zqn k y (1+nf)).W.length=k.W.length:=rfl
  have c0:=H.c0
  have hq1:h1.q=q:=hNw.q.trans HQ.out.symm
  rw [hq1] at c0
  have c3:=H.cm.c3
  rw [hlen] at c3
  obtain ⟨rest,hbW⟩:=H.hW
  have hcapW:k.W.length<=h1.cW:=H.cap
  have hwl:=rt.S.1.w
  have hnum:=rt.S.1.nums
  unfold Z0c at hnum
  have hW3:k.W.length<=200000:=by omega
  have fz:w2.frozen? ⟨h1.bW,t,none⟩=false:=Zk3 hbW
  have hfit':t+1+nf<=k.W.length:=by rw [HNF.out];exact hfit
  have cx:∃ u,w2.cell? ⟨h1.bW,t,none⟩=some u:=by
   rw [U06 _ _ _ _ _ _ hbW]
   have e:(Z05 (Zqn k y (1+nf)).W).length=k.W.length:=Z3y _
   exact ⟨_,U2a (by simp only [U2i,U0f];omega)⟩
  obtain ⟨u,cx⟩:=cx
  have ka:=fun w=>Z94 (t:Int) (by omega) (by omega) w
  have xi:(t:Int)<(k.W.length:Int):=by omega
  have xi0:(0:Int)<=(t:Int):=by omega
  have ea:IntKind.i64.wrap ((t:Int)+1)=(t:Int)+1:=Z18 _ (by omega) (by omega)
  have s3:(t:Int)+1<=(k.W.length:Int):=by omega
  obtain ⟨nW,hnW⟩:∃ nW,nW=k.W.length:=⟨_,rfl⟩
  obtain ⟨cW,hcW⟩:∃ cW,cW=h1.cW:=⟨_,rfl⟩
  rw [<-hnW] at c3 xi s3 hcapW hW3 hfit'
  rw [<-hcW] at c3 hcapW
  have HFT:Hid (t+1+nf<=nW/\nW<=cW/\nW<=200000):=⟨hfit',hcapW,hW3⟩
  have HH:=Z00 H
  have HNW:=Z00 hnW
  have HLA:Hid (Nxt h h1 w w2/\Dim m k/\HM k sr1 M X/\Laid k n t fs.length y/\MD64 n/\n.F t / 4 % 256=kd/\Z07 n.F t=fs/\n = { Zqn k y (1+fs.length) with W:=lyW k.W t (hdN kd fs.length) fs } /\ t+1+fs.length<=k.W.length):=⟨hNw,D,hm,L,h64,hkd,hfs,hn,hfit⟩
  have HGB:=Z00 hgb
  have HGN:Hid (g≠h1.bW):=fun e=>hgn (.inr (.inr (.inl e)))
  have HBW:=Z00 hbW
  have hcases:(cW=t+1/\nf=0) \/ ¬ cW=t+1:=by omega
  clear hNw D hm L h64 hkd hfs hn hfit hgb hgn hlen hq1 hcapW hwl hnum hW3 hfit' hnW hcW rt hroom ht N H hbW
  go_upto_region 8 with fail
  obtain ⟨w3,hw3⟩:∃ w3,w3=w2.setCell ⟨h1.bW,t,none⟩ (.int .u64 hd):=⟨_,rfl⟩
  rw [<-hw3]
  obtain ⟨cur,hcur⟩:∃ cur:List Value,cur=((Z05 (Zqn k y (1+nf)).W++rest).toArray.setIfInBounds t (.int .u64 hd)).toList:=⟨_,rfl⟩
  have HCU:=Z00 hcur
  have HCUR:Hid (w3.heap[h1.bW]?=some (.cells cur.toArray 81 (0,0))):=by
   show _=_
   rw [hw3,HCU.out,Z06 HBW.out]
  have a3:Aside (· = h1.bW) w2 w3:=by rw [hw3];exact (Aside.refl (fun k=>k=h1.bW) w2).setCell (g:=h1.bW) rfl _
  have c0':w3.cell? ⟨q,0,none⟩=some (.pointer (some ⟨h1.p,0,none⟩)):=a3.cell c0 (fun e=>by
   have:=HH.out.tq.ne HH.out.tW (by decide)
   rw [HLA.out.1.q] at this
   exact this (by rw [<-HQ.out];exact e))
  have c3':w3.cell? ⟨h1.p,3,none⟩=some (.slice (some ⟨h1.bW,0,none⟩) nW cW):=a3.cell c3 (HH.out.tp.ne HH.out.tW (by decide))
  have G3:=Z00 (HGB.out.aside a3 HGN.out)
  have HA3:=Z00 a3
  have HCL:Hid (t+1+(Z05 fs).length<=cur.length):=by
   show _<=_
   rw [HCU.out,Z3y,<-HNF.out,U2c,U3l,U2i,U0f]
   have e:(Z05 (Zqn k y (1+nf)).W).length=nW:=by rw [HNW.out];exact Z3y _
   have:=HFT.out
   omega
  have HMIN:Hid ((Z05 fs).length=Nat.min nf (nW - (t+1))):=by
   show _=_
   rw [Z3y,<-HNF.out]
   have:=HFT.out
   exact (U3a (by omega)).symm
  have HPOS:Hid (0<(Z05 fs).length -> ∃ ad,some (⟨g,0,none⟩:Addr)=some ad /\ ∀ j v,(Z05 fs)[j]?=some v->w3.cell? (ad.add j)=some v):=fun _=>⟨_,rfl,fun j v hj=>by
   have e:(⟨g,0,none⟩:Addr).add j=⟨g,j,none⟩:=by unfold Addr.add;split <;> simp_all
   rw [e]
   exact G3.out.cell hj⟩
  have HONE:Hid (∀ v∈Z05 fs,v.oneCell'=true):=fun v hv=>by
   unfold Z05 at hv
   obtain ⟨x,_,rfl⟩:=U0l.1 hv
   rfl
  have HFLn:Hid ((Z05 fs).length=nf):=by show _=_;rw [Z3y];exact HNF.out.symm
  have HEND:Hid (∀ w5,(∃ w4,w4.heap[h1.bW]?=some (.cells (splice cur (t+1) (Z05 fs)).toArray 81 (0,0))/\Apart h1.bW w3 w4/\Below w4.heap.size w4 w5)->Z1t a w0 h m M X kd fs w (.returned (.tuple #[.int .u64 (((t:Int)+1)*4),.nilIface])) w5):=fun w5 hw=>by
   obtain ⟨w4,hg4,ha4,b5⟩:=hw
   obtain ⟨e1,e2,e3,e4,e5,e6,e7,e8,e9⟩:=HLA.out
   have a4:Aside (· = h1.bW) w2 w4:=HA3.out.trans ⟨ha4.os,ha4.tape,ha4.output,by rw [ha4.size];exact U02 _,fun k _ hk=>ha4.block k hk⟩
   have hb4:Blk h1.bW 81 (Z05 (lyW k.W t (hdN kd fs.length) fs)) w4:=⟨rest,by
    rw [hg4,HCU.out,HHD.out]
    exact congrArg (fun l=>some (Obj.cells (List.toArray l) 81 (0,0))) (Zio k.W rest t _ fs e9)⟩
   have H4:HAt h1 sr1 n w4:=by
    rw [e8,<-HNF.out]
    have hx:=HH.out.words (W':=lyW k.W t (hdN kd fs.length) fs) (by rw [Zlw e9];rfl) a4 hb4
    rw [<-HNF.out] at hx
    exact hx
   refine .inl ⟨h1,sr1,k,n,t,y,(e1.trans (Nxt.below ?_ b5)),e2,e3,H4.below b5,e4,e5,e6,e7,rfl⟩
   exact ⟨rfl,rfl,fun _ hk=>.inl hk,a4.mono (fun k hk=>.inr (.inr (.inl hk)))⟩
  clear hw3 a3 c0 c3 fz cx hcur
  rcases hcases with ⟨hc,hz⟩ | hc
  ·have hc1:cW=t+1:=hc
   have HP0:Hid (∀ x:Option Addr,0<(Z05 fs).length->x=some ⟨h1.bW,t+1,none⟩ /\ ∃ ad,some (⟨g,0,none⟩:Addr)=some ad /\ ∀ j v,(Z05 fs)[j]?=some v->w3.cell? (ad.add j)=some v):=fun x hx=>absurd hx (by rw [HFLn.out];omega)
   have HZ:=Z00 hz
   clear hz
   go_wp2_with (refine Z40 rfl _ _ _ _ rfl 81 underlying79 Z9a _ _ _ _ _ _ rfl rfl h1.bW (t+1) cur 81 HCUR.out (Z05 fs) HMIN.out (HP0.out _) HCL.out HONE.out ?_;intro w4 hg4 ha4)
   refine (ka w4).mono ?_
   clear ka
   rintro ev w5 ⟨rfl,b5⟩
   have hE:=Z00 (HEND.out w5 ⟨w4,hg4.out,ha4.out,b5⟩)
   clear hg4 ha4 b5
   go_wp2_with fail
   first | go_ret2 | skip
   exact hE.out
  ·have hc1:¬ cW=t+1:=hc
   have hc2:¬ t+1=cW:=fun e=>hc e.symm
   have hc3:¬ cW - (t+1)=0:=by have:=HFT.out;omega
   go_wp2_with (refine Z40 rfl _ _ _ _ rfl 81 underlying79 Z9a _ _ _ _ _ _ rfl rfl h1.bW (t+1) cur 81 HCUR.out (Z05 fs) HMIN.out (fun h=>⟨rfl,HPOS.out h⟩) HCL.out HONE.out ?_;intro w4 hg4 ha4)
   refine (ka w4).mono ?_
   clear ka
   rintro ev w5 ⟨rfl,b5⟩
   have hE:=Z00 (HEND.out w5 ⟨w4,hg4.out,ha4.out,b5⟩)
   clear hg4 ha4 b5
   go_wp2_with fail
   first | go_ret2 | skip
   exact hE.out
 ·have HE:Hid (Z1t a w0 h m M X kd fs w (.returned (.tuple #[.int .u64 0,Z0p a 5])) w2):=by
   obtain ⟨h1,sr1,k,N,D,s1⟩:=hS
   refine .inr ⟨rfl,⟨h1,sr1,k,(Nxt.of_below h HB1.out).trans N,D,s1⟩,?_⟩
   rw [<-HNF.out];omega
  clear hS hl
  unfold Z0p
  go_wp2_with fail
  first | go_ret2 | skip
  exact HE.out
end
section
open Go.Maps
variable {h:HP}{sr:Int}{m:MD}{w w':World}{a:Nat->Addr}{w0:World}{M:MO}{X:MXtra}
def Zjg (a:Nat->Addr) (w0:World) (h:HP) (m:MD) (M:MO) (X:MXtra) (M':MO) (X':MXtra) (need:Int) (w:World) (ev:Ending) (w':World):Prop:=
 (ev = .returned .nilIface/\Stp a w0 h m M' X' w w')\/(ev = .returned (Z0p a 5)/\Stp a w0 h m M X w w'/\m.old<(M.words:Int)+need)
theorem Stp.drew (t:Stp a w0 h m M X w w') (k:Nat):Stp a w0 h m M X w (w'.drewN k):=by
 obtain ⟨h',sr',n,N,D,s⟩:=t
 have b:=Z03 (q:=k) (U01 w'.heap.size w')
 exact ⟨h',sr',n,N.below b,D,s.below b⟩
theorem Zjg.back {M':MO}{X':MXtra}{need:Int}{w1:World}{ev:Ending} (hb:Below w.heap.size w w1) (t:Zjg a w0 h m M X M' X' need w1 ev w'):Zjg a w0 h m M X M' X' need w ev w':=by
 rcases t with ⟨e,t⟩ | ⟨e,t,f⟩
 ·exact .inl ⟨e,t.back hb⟩
 ·exact .inr ⟨e,t.back hb,f⟩
def Ztv (h:HP) (m:MD) (M:MO) (X:MXtra) (kd:Int) (fs:List Int) (w:World) (y:Int) (h':HP) (sr':Int) (n:MD) (w1:World):Prop:=∃ k t yy,Nxt h h' w w1/\Dim m k/\HM k sr' M X/\Laid k n t fs.length yy/\MD64 n/\n.F t / 4 % 256=kd/\Z07 n.F t=fs/\y=((t:Int)+1)*4
def Zt0 (a:Nat->Addr) (w0:World) (h:HP) (m:MD) (M:MO) (X:MXtra) (fs:List Int) (w:World) (k:Nat) (w1:World):Prop:=k=5/\Stp a w0 h m M X w w1/\m.old<(M.words:Int)+(1+(fs.length:Int))
theorem Zbj (s:HS a w0 h sr m M X w) {kd:Int}{fs:List Int}{r:Nat} (hr:r<m.R.length) {ev:Ending}{w1:World} (t:Z1t a w0 h m M X kd fs w ev w1):Made a h.q r (Ztv h m M X kd fs w) (Zt0 a w0 h m M X fs w) ev w1:=by
 rcases t with ⟨h',sr',k,n,t,y,N,D,hm,H,L,h6,hk,hf,rfl⟩ | ⟨rfl,t,f⟩
 ·refine .inl ⟨_,h',sr',n,rfl,H,N.q,?_,k,t,y,N,D,hm,L,h6,hk,hf,rfl⟩
  rw [L.R,hm.roots,<-s.hm.roots];exact hr
 ·exact .inr ⟨5,rfl,rfl,t,f⟩
theorem Z9b (s:HS a w0 h sr m M X w) {kd:Int}{fs:List Int}{r:Nat}{d:ND} (hk:d.kind=kd) (hf:wdN (fun i=>i) d=fs) (hd:¬ d.kind<8 -> ∀ c∈d.f,c.kind≠4/\CLok c) {ev:Ending}
  (t:(∃ y h' sr' n w1,ev = .returned .nilIface/\Ztv h m M X kd fs w y h' sr' n w1/\HAt h' sr' { n with R:=n.R.set r y } w'/\Nxt h' h' w1 w') \/ ∃ k,ev = .returned (Z0p a k)/\Zt0 a w0 h m M X fs w k w') :
  Zjg a w0 h m M X ⟨M.R.set r ⟨4,0,M.N.length⟩,M.N ++ [d]⟩ X (1+(fs.length:Int)) w ev w':=by
 rcases t with ⟨y,h',sr',n,w1,rfl,⟨k,t,yy,N,D,hm,L,h6,ek,ef,rfl⟩,H,N'⟩ | ⟨k,rfl,rfl,t,f⟩
 ·refine .inl ⟨rfl,h',sr',{ n with R:=n.R.set r (((t:Int)+1)*4) },N.trans N',⟨L.half.trans D.half,L.old.trans D.old,L.card.trans D.card⟩,s.next (N.trans N') H (hm.make L h6 r (ek.trans hk.symm) (ef.trans hf.symm) hd) s.kl ?_⟩
  show (M.R.set r _).length<=5000
  rw [U0t];exact s.rl
 ·exact .inr ⟨rfl,t,f⟩
theorem HAt.fresh (H:HAt h sr m w) {b:Nat} (hb:w.heap.size<=b):¬ h.own b:=fun e=>by have:=H.lt e;omega
theorem Nxt.cell {h h':HP} (N:Nxt h h' w w') {b o:Nat}{v:Value} (hc:w.cell? ⟨b,o,none⟩=some v) (hx:¬ h.own b):w'.cell? ⟨b,o,none⟩=some v:=N.aside.cell hc hx
theorem Z1t.cell {kd:Int}{fs:List Int}{ev:Ending} (t:Z1t a w0 h m M X kd fs w ev w') {b o:Nat}{v:Value} (hc:w.cell? ⟨b,o,none⟩=some v) (hx:¬ h.own b):w'.cell? ⟨b,o,none⟩=some v:=by
 rcases t with ⟨h',_,_,_,_,_,N,_⟩ | ⟨_,⟨h',_,_,N,_⟩,_⟩
 ·exact N.cell hc hx
 ·exact N.cell hc hx
theorem Z1t.back {kd:Int}{fs:List Int}{ev:Ending}{w1:World} (hb:Below w.heap.size w w1) (t:Z1t a w0 h m M X kd fs w1 ev w'):Z1t a w0 h m M X kd fs w ev w':=by
 rcases t with ⟨h',sr',k,n,t,y,N,r⟩ | ⟨e,t,f⟩
 ·exact .inl ⟨h',sr',k,n,t,y,(Nxt.of_below h hb).trans N,r⟩
 ·exact .inr ⟨e,t.back hb,f⟩
theorem Z1t.forms {kd:Int}{fs:List Int}{ev:Ending} (t:Z1t a w0 h m M X kd fs w ev w'):∃ y e,ev = .returned (.tuple #[.int .u64 y,e]):=by
 rcases t with ⟨h',sr',k,n,t,y,N,_,_,_,_,_,_,_,e⟩ | ⟨e,t,f⟩
 ·exact ⟨_,_,e⟩
 ·exact ⟨_,_,e⟩
theorem Zob (s:HS a w0 h sr m M X w) (kd:Int) (n bk bs bh:Nat) (ck:w.cell? ⟨bk,0,none⟩=some (.int .i64 kd)) (cs:w.cell? ⟨bs,0,none⟩=some (.int .i64 (n:Int))) (ch:w.cell? ⟨bh,0,none⟩=some (.pointer (some ⟨h.q,0,none⟩)))
  (ok:¬ h.own bk) (os:¬ h.own bs) (oh:¬ h.own bh) (k0:8<=kd) (k1:kd<=255) (hf:n<=4096) :
  Calls prog 70 #[.pointer (some ⟨bk,0,none⟩),.pointer (some ⟨bs,0,none⟩),.pointer (some ⟨bh,0,none⟩)] w (Z1t a w0 h m M X kd (List.replicate n 2) w):=by
 have kw1:=fun w=>Z0z kd 8 255 w
 have kw2:=fun w=>Z0z (n:Int) 0 4096 w
 rw [show (decide (8<=kd) && decide (kd<=255))=true by simp;omega] at kw1
 rw [show (decide (0<=(n:Int)) && decide ((n:Int)<=4096))=true by simp;omega] at kw2
 have hbk:bk<w.heap.size:=Z02 ck
 have hbs:bs<w.heap.size:=Z02 cs
 have hbh:bh<w.heap.size:=Z02 ch
 have hlen:(List.replicate n (2:Int)).length=n:=U17
 obtain ⟨q,hq⟩:∃ q,q=h.q:=⟨_,rfl⟩
 have HL:Hid (∀ g w1,Below w.heap.size w w1->w1.heap[g]?=some (.cells (Array.replicate n (.int .u64 2)) 81)->w.heap.size<=g->Calls prog 71 #[.pointer (some ⟨q,0,none⟩),.int .i64 kd,.slice (some ⟨g,0,none⟩) n n] w1 fun ev w'=>Z1t a w0 h m M X kd (List.replicate n 2) w ev w'/\(w'.cell? ⟨bk,0,none⟩=some (.int .i64 kd)/\w'.cell? ⟨bs,0,none⟩=some (.int .i64 (n:Int))/\w'.cell? ⟨bh,0,none⟩=some (.pointer (some ⟨q,0,none⟩)))):=fun g w1 b1 hg hgs=>by
  have hx:=Zbr (s.below b1) kd (List.replicate n 2) g n ⟨[],by rw [hg];simp [Z05]⟩ (s.at'.fresh hgs) (by omega) k1 (by omega) (fun x hx=>by rw [(U39.1 hx).2];decide) (fun _ x hx nW=>by rw [(U39.1 hx).2];rfl)
  rw [hlen,<-hq] at hx
  refine hx.mono ?_
  intro ev w' t
  have c1:=t.cell ((b1.cell (p:=⟨bk,0,none⟩) hbk).trans ck) ok
  have c2:=t.cell ((b1.cell (p:=⟨bs,0,none⟩) hbs).trans cs) os
  have c3:=t.cell ((b1.cell (p:=⟨bh,0,none⟩) hbh).trans ch) oh
  rw [<-hq] at c3
  exact ⟨t.back b1,c1,c2,c3⟩
 rw [<-hq] at ch
 have HR:Hid (∀ qx w1,Below w.heap.size w w1->w1.heap[qx]?=some (.cells #[.int .u64 2] 81)->Calls prog 41 #[.slice (some ⟨qx,0,none⟩) 1 1,.int .i64 (n:Int)] w1 fun ev w' => ∃ g,ev = .returned (.slice (some ⟨g,0,none⟩) n n)/\w.heap.size<=g/\w'.heap[g]?=some (.cells (Array.replicate n (.int .u64 2)) 81)/\Below w.heap.size w w'):=fun qx w1 b1 hq=>by
  refine (Zax 2 n (by omega) qx 0 w1 (by rw [U06 _ _ _ _ _ _ hq];rfl)).mono ?_
  rintro ev w' ⟨g,rfl,hg,hr,hb⟩
  exact ⟨g,rfl,U0n b1.size hg,hr,b1.trans (hb.mono b1.size)⟩
 have HA:Hid (∀ W,Below w.heap.size w W->W.cell? ⟨bk,0,none⟩=some (.int .i64 kd)/\W.cell? ⟨bs,0,none⟩=some (.int .i64 (n:Int))/\W.cell? ⟨bh,0,none⟩=some (.pointer (some ⟨q,0,none⟩))):=fun W b=>⟨(b.cell (p:=⟨bk,0,none⟩) hbk).trans ck,(b.cell (p:=⟨bs,0,none⟩) hbs).trans cs,(b.cell (p:=⟨bh,0,none⟩) hbh).trans ch⟩
 have HRA:=Z00 (HR.out w.heap.size (w.alloc (.cells #[.int .u64 2] 81)).drew (((U01 _ _).alloc (U02 _) _).drew) (U0b _ _))
 have HAA:=Z00 (HA.out (w.alloc (.cells #[.int .u64 2] 81)).drew (((U01 _ _).alloc (U02 _) _).drew))
 have HA0:=Z00 (HA.out w.drew (U01 _ _).drew)
 clear s hq HR ok os oh hlen k0 k1
 go_enter func70,ntmps70
 go_wp2_with fail
 refine (kw1 _).mono ?_
 rintro ev w1 ⟨rfl,e1⟩
 rw [e1]
 clear e1 w1
 go_wp2_with fail
 refine (kw2 _).mono ?_
 rintro ev w1 ⟨rfl,e1⟩
 rw [e1]
 clear e1 w1
 clear kw1 kw2
 go_upto_region 3 with fail
 go_region_held3 (fun W=>W.cell? ⟨bk,0,none⟩=some (.int .i64 kd)/\W.cell? ⟨bs,0,none⟩=some (.int .i64 (n:Int))/\W.cell? ⟨bh,0,none⟩=some (.pointer (some ⟨q,0,none⟩))) (first | with_reducible exact hS | with_reducible exact HA.out _ hb | with_reducible exact HA0.out | with_reducible exact HAA.out) (first | (go_at_call 41;refine HRA.out.mono ?_;rintro ev w2 ⟨g,rfl,hg,hr,hb⟩) | (go_at_call 71;refine (HL.out _ _ hb hr hg).mono ?_;rintro ev w3 ⟨hP,hS⟩;have HP3:=Z00 hP;obtain ⟨y,e,rfl⟩:=hP.forms;clear hP))
 all_goals go_wp2_with fail
 all_goals go_ret2
 all_goals exact HP3.out
theorem Zs5 (a:Nat->Addr) (kd n:Int) (bk bs bh:Nat) (w:World) (ck:w.cell? ⟨bk,0,none⟩=some (.int .i64 kd)) (cs:w.cell? ⟨bs,0,none⟩=some (.int .i64 n)) (E:MErr a w) (hno:¬ (8<=kd/\kd<=255/\0<=n/\n<=4096)) :
  Calls prog 70 #[.pointer (some ⟨bk,0,none⟩),.pointer (some ⟨bs,0,none⟩),.pointer (some ⟨bh,0,none⟩)] w fun ev w'=>ev = .returned (.tuple #[.int .u64 0,Z0p a 1])/\Below w.heap.size w w':=by
 have kw1:=fun w=>Z0z kd 8 255 w
 have kw2:=fun w=>Z0z n 0 4096 w
 have g1:=E.c1
 clear E
 by_cases c:8<=kd/\kd<=255
 ·rw [show (decide (8<=kd) && decide (kd<=255))=true by simp;omega] at kw1
  rw [show (decide (0<=n) && decide (n<=4096))=false by rw [U1m,U0p,U0p];omega] at kw2
  clear c hno
  go_enter func70,ntmps70
  go_wp2_with fail
  refine (kw1 _).mono ?_
  rintro ev w1 ⟨rfl,e1⟩
  rw [e1]
  clear e1 w1
  go_wp2_with fail
  refine (kw2 _).mono ?_
  rintro ev w1 ⟨rfl,e1⟩
  rw [e1]
  clear e1 w1
  clear kw1 kw2
  go_wp2_with fail
  go_quiet (fail)
  go_wp2_with fail
  go_ret2
  exact ⟨rfl,Z03 (U01 _ _)⟩
 ·rw [show (decide (8<=kd) && decide (kd<=255))=false by rw [U1m,U0p,U0p];omega] at kw1
  clear c hno kw2
  go_enter func70,ntmps70
  go_wp2_with fail
  refine (kw1 _).mono ?_
  rintro ev w1 ⟨rfl,e1⟩
  rw [e1]
  clear e1 w1
  clear kw1
  go_wp2_with fail
  go_quiet (fail)
  go_wp2_with fail
  go_ret2
  exact ⟨rfl,Z03 (U01 _ _)⟩
end
section
open Go.Maps
variable {h:HP}{sr:Int}{m:MD}{w w':World}{a:Nat->Addr}{w0:World}{M:MO}{X:MXtra}
theorem Z9d (args:Array Value) (w:World):(callFunc 77 args).run prog w = .ok (.enter 77 args) w:=by kernel_rfl
theorem Z9z (args:Array Value) (w:World):(callFunc 76 args).run prog w = .ok (.enter 76 args) w:=by kernel_rfl
def Z3s (a:Nat->Addr) (w:World) (k:Nat) (ev:Ending) (w':World):Prop:=ev = .returned (Z0p a k)/\Below w.heap.size w w'
def cl0:CL:=⟨0,0,0⟩
theorem Ztq (φ:Nat->Nat) (n:Nat):(List.replicate n cl0).map (wdC φ)=List.replicate n 2:=by rw [List.map_replicate];rfl
def mkN (kd:Int) (n:Nat):ND:=⟨kd,[],List.replicate n cl0⟩
def MO.made (M:MO) (r:Nat) (d:ND):MO:=⟨M.R.set r ⟨4,0,M.N.length⟩,M.N ++ [d]⟩
theorem Z6s (w:World) (x y z:Obj):∃ w1,w1=((w.alloc x).alloc y).alloc z/\Below w.heap.size w w1/\w1.heap[w.heap.size]?=some x/\w1.heap[w.heap.size+1]?=some y/\w1.heap[w.heap.size+1+1]?=some z:=by
 refine ⟨_,rfl,(((U01 _ _).alloc (U02 _) _).alloc (by simp) _).alloc (by simp;omega) _,?_,?_,?_⟩
 ·obtain ⟨n1,n2⟩:=Z3i w x y
  have b2:Below (w.heap.size+2) ((w.alloc x).alloc y) (((w.alloc x).alloc y).alloc z):=(U01 _ _).alloc (by simp) _
  exact (b2.block _ (by omega)).trans n1
 ·obtain ⟨n1,n2⟩:=Z3i w x y
  have b2:Below (w.heap.size+2) ((w.alloc x).alloc y) (((w.alloc x).alloc y).alloc z):=(U01 _ _).alloc (by simp) _
  exact (b2.block _ (by omega)).trans n2
 ·have h:=U0b ((w.alloc x).alloc y) z
  simpa using h
theorem Zlu (s:HS a w0 h sr m M X w) (r n:Nat) (kd:Int) (hr:r<m.R.length) (k0:8<=kd) (k1:kd<=255) (hn:n<=4096) :
  Calls prog 28 #[.pointer (some ⟨h.q,0,none⟩),.int .i64 (r:Int),.int .i64 kd,.int .i64 (n:Int)] w (Zjg a w0 h m M X (M.made r (mkN kd n)) X (1+(n:Int)) w):=by
 obtain ⟨w1,hw1,b1,n1,n2,n3⟩:=Z6s w (.cells #[.pointer (some ⟨h.q,0,none⟩)] 25) (.cells #[.int .i64 kd] 3) (.cells #[.int .i64 (n:Int)] 3)
 have s1:=s.below b1
 have ch:w1.cell? ⟨w.heap.size,0,none⟩=some (.pointer (some ⟨h.q,0,none⟩)):=by rw [U06 _ _ _ _ _ _ n1];rfl
 have ck:w1.cell? ⟨w.heap.size+1,0,none⟩=some (.int .i64 kd):=by rw [U06 _ _ _ _ _ _ n2];rfl
 have cs:w1.cell? ⟨w.heap.size+1+1,0,none⟩=some (.int .i64 (n:Int)):=by rw [U06 _ _ _ _ _ _ n3];rfl
 have km:=Zob s1 kd n (w.heap.size+1) (w.heap.size+1+1) w.heap.size ck cs ch (s.at'.fresh (by omega)) (s.at'.fresh (by omega)) (s.at'.fresh (by omega)) k0 k1 hn
 have hlen:(List.replicate n (2:Int)).length=n:=U17
 have kb:=(Z1a s1 70 _ Zbd hr (Ztv h m M X kd (List.replicate n 2) w1) (Zt0 a w0 h m M X (List.replicate n 2) w1) (km.mono fun ev w' t=>Zbj s1 hr t)).mono (fun ev w' t=>Zjg.back b1 (Z9b s1 (d:=mkN kd n) rfl (by
  show (if kd<8 then [] else (List.replicate n cl0).map _)=_
  rw [U08 (by omega),Ztq]) (fun _ c hc=>by
  have hc:c∈List.replicate n cl0:=hc
  rw [(U39.1 hc).2]
  exact ⟨by decide,⟨by decide,by decide,by decide⟩⟩) t))
 rw [hlen] at kb
 rw [hw1] at kb
 have HW1:=Z00 hw1
 clear hw1 b1 n1 n2 n3 s1 ch ck cs km hlen s
 go_enter func28,ntmps28
 go_wp2_with fail
 refine kb.mono ?_
 clear kb
 rintro ev w2 (⟨rfl,hP⟩ | ⟨rfl,hP⟩)
 ·have HP':=Z00 hP
  clear hP
  go_wp2_with fail
  go_ret
  exact .inl ⟨rfl,HP'.out⟩
 ·have HP':=Z00 hP
  clear hP
  go_wp2_with fail
  go_ret
  exact .inr ⟨rfl,HP'.out⟩
theorem Zex (s:HS a w0 h sr m M X w) (r kd n:Int) (hr:¬ (0<=r/\r<(m.R.length:Int))) :
  Calls prog 28 #[.pointer (some ⟨h.q,0,none⟩),.int .i64 r,.int .i64 kd,.int .i64 n] w (Z3s a w 4):=by
 obtain ⟨w1,hw1,b1,n1,n2,n3⟩:=Z6s w (.cells #[.pointer (some ⟨h.q,0,none⟩)] 25) (.cells #[.int .i64 kd] 3) (.cells #[.int .i64 n] 3)
 have kb:=fun f=>Z3a (s.below b1) f hr
 rw [hw1] at kb
 have HB:Hid (Below w.heap.size w (((w.alloc (.cells #[.pointer (some ⟨h.q,0,none⟩)] 25)).alloc (.cells #[.int .i64 kd] 3)).alloc (.cells #[.int .i64 n] 3))):=by rw [<-hw1];exact b1
 have HW1:=Z00 hw1
 clear hw1 b1 n1 n2 n3 s
 go_enter func28,ntmps28
 go_wp2_with fail
 refine (kb _).mono ?_
 clear kb
 rintro ev w2 ⟨rfl,e⟩
 have HB2:=Z00 (HB.out.trans (e.mono HB.out.size))
 clear e
 go_wp2_with fail
 go_ret
 exact ⟨rfl,HB2.out⟩
theorem Zge (s:HS a w0 h sr m M X w) (r:Nat) (kd n:Int) (hr:r<m.R.length) (hno:¬ (8<=kd/\kd<=255/\0<=n/\n<=4096)) :
  Calls prog 28 #[.pointer (some ⟨h.q,0,none⟩),.int .i64 (r:Int),.int .i64 kd,.int .i64 n] w (Z3s a w 1):=by
 obtain ⟨w1,hw1,b1,n1,n2,n3⟩:=Z6s w (.cells #[.pointer (some ⟨h.q,0,none⟩)] 25) (.cells #[.int .i64 kd] 3) (.cells #[.int .i64 n] 3)
 have s1:=s.below b1
 have ck:w1.cell? ⟨w.heap.size+1,0,none⟩=some (.int .i64 kd):=by rw [U06 _ _ _ _ _ _ n2];rfl
 have cs:w1.cell? ⟨w.heap.size+1+1,0,none⟩=some (.int .i64 n):=by rw [U06 _ _ _ _ _ _ n3];rfl
 have km:=Zs5 a kd n (w.heap.size+1) (w.heap.size+1+1) w.heap.size w1 ck cs s1.benv.five hno
 have kb:=(Z1a s1 70 _ Zbd hr (fun _ _ _ _ _=>False) (fun k w'=>k=1/\Below w1.heap.size w1 w') (km.mono fun ev w' t=>.inr ⟨1,t.1,rfl,t.2⟩)).mono (R':=Z3s a w 1) (by
  rintro ev w' (⟨_,_,_,_,_,_,hf,_⟩ | ⟨k,rfl,rfl,hb⟩)
  ·exact hf.elim
  ·exact ⟨rfl,b1.trans (hb.mono b1.size)⟩)
 rw [hw1] at kb
 have HW1:=Z00 hw1
 clear hw1 b1 n1 n2 n3 s1 ck cs km s
 go_enter func28,ntmps28
 go_wp2_with fail
 refine kb.mono ?_
 clear kb
 rintro ev w2 ⟨rfl,hP⟩
 have HP':=Z00 hP
 clear hP
 go_wp2_with fail
 go_ret
 exact ⟨rfl,HP'.out⟩
end
section
open Go.Maps
variable {h:HP}{sr:Int}{m:MD}{w w':World}{a:Nat->Addr}{w0:World}{M:MO}{X:MXtra}
def MO.set (M:MO) (r:Nat) (c:CL):MO:={ M with R:=M.R.set r c }
theorem Zc5 {h':HP}{sr':Int}{n:MD}{w1:World}{y:Int}{r:Nat}{c:CL} (s:HS a w0 h sr m M X w) (N:Nxt h h' w w1) (N':Nxt h' h' w1 w') (D:Dim m n) (H:HAt h' sr' { n with R:=n.R.set r y } w') (hm:HM { n with R:=n.R.set r y } sr' (M.set r c) X):Stp a w0 h m (M.set r c) X w w':=
 ⟨h',sr',{ n with R:=n.R.set r y },N.trans N',⟨D.half,D.old,D.card⟩,s.next (N.trans N') H hm s.kl (by show (M.R.set r c).length<=5000;rw [U0t];exact s.rl)⟩
def clK (n:Nat):CL:=⟨n,0,0⟩
theorem Zsy (φ:Nat->Nat) {n:Nat} (hn:n<=2):wdC φ (clK n)=(n:Int)*4+2:=by
 unfold wdC clK
 rw [U08 (by show ¬ n=4;omega),U08 (by show ¬ n=3;omega)]
theorem Zsb (n:Nat) (hn:n<=2) (w:World) (bn:Nat) (hc:w.cell? ⟨bn,0,none⟩=some (.int .i64 (n:Int))) :
  Calls prog 77 #[.pointer (some ⟨bn,0,none⟩)] w fun ev w'=>ev = .returned (.tuple #[.int .u64 ((n:Int)*4+2),.nilIface])/\Below w.heap.size w w':=by
 have k:=Zb8 (n:Int) (by omega) (by omega) w
 go_enter func77,ntmps77
 go_wp2_with fail
 refine k.mono ?_
 clear k
 rintro ev w1 ⟨rfl,b1⟩
 go_wp2_with fail
 go_ret2
 exact ⟨rfl,b1⟩
theorem Zi2 (a:Nat->Addr) (n:Int) (hn:n<0\/2<n) (w:World) (E:WErr a w) (bn:Nat) (hc:w.cell? ⟨bn,0,none⟩=some (.int .i64 n)) :
  Calls prog 77 #[.pointer (some ⟨bn,0,none⟩)] w fun ev w'=>ev = .returned (.tuple #[.int .u64 0,Z0p a 1])/\Below w.heap.size w w':=by
 have k:=Za4 a n hn w E
 clear E
 go_enter func77,ntmps77
 go_wp2_with fail
 refine k.mono ?_
 clear k
 rintro ev w1 ⟨rfl,b1⟩
 go_wp2_with fail
 go_ret2
 exact ⟨rfl,b1⟩
theorem Zj0 (s:HS a w0 h sr m M X w) (r n:Nat) (hr:r<m.R.length) (hn:n<=2) :
  Calls prog 32 #[.pointer (some ⟨h.q,0,none⟩),.int .i64 (r:Int),.int .i64 (n:Int)] w fun ev w'=>ev = .returned .nilIface/\Stp a w0 h m (M.set r (clK n)) X w w':=by
 obtain ⟨w1,hw1⟩:∃ w1,w1=w.alloc (.cells #[.int .i64 (n:Int)] 3):=⟨_,rfl⟩
 have b1:Below w.heap.size w w1:=by rw [hw1];exact (U01 _ _).alloc (U02 _) _
 have n1:w1.heap[w.heap.size]?=some (.cells #[.int .i64 (n:Int)] 3):=by rw [hw1];exact U0b _ _
 have s1:=s.below b1
 have cn:w1.cell? ⟨w.heap.size,0,none⟩=some (.int .i64 (n:Int)):=by rw [U06 _ _ _ _ _ _ n1];rfl
 have kb:=(Z1a s1 77 _ Z9d hr (fun y h' sr' n' w'=>y=(n:Int)*4+2/\h'=h/\sr'=sr/\n'=m/\Below w1.heap.size w1 w') (fun _ _=>False) ((Zsb n hn w1 w.heap.size cn).mono fun ev w' t=>.inl ⟨_,h,sr,m,t.1,s1.at'.below t.2,rfl,hr,rfl,rfl,rfl,rfl,t.2⟩)).mono (R':=fun ev w'=>ev = .returned .nilIface/\Stp a w0 h m (M.set r (clK n)) X w w') (by
  rintro ev w' (⟨y,h',sr',n',w2,rfl,⟨rfl,rfl,rfl,rfl,hb⟩,H,N'⟩ | ⟨k,rfl,hf⟩)
  ·have hm:=s.hm.plain r (c:=clK n) (by show ¬ n=4;omega) ⟨by show n<=4;omega,fun e=>by have e:n=3:=e;omega,fun e=>by have e:n=3:=e;omega⟩
   rw [Zsy _ hn] at hm
   exact ⟨rfl,Zc5 s (Nxt.of_below _ (b1.trans (hb.mono b1.size))) N' (Dim.refl _) H hm⟩
  ·exact hf.elim)
 rw [hw1] at kb
 clear hw1 b1 n1 s1 cn s
 go_enter func32,ntmps32
 go_wp2_with fail
 refine kb.mono ?_
 clear kb
 rintro ev w2 ⟨rfl,hP⟩
 have HP':=Z00 hP
 clear hP
 go_wp2_with fail
 go_ret
 exact ⟨rfl,HP'.out⟩
theorem Zss (s:HS a w0 h sr m M X w) (j bh bf:Nat) (hj:j<m.R.length) (ch:w.cell? ⟨bh,0,none⟩=some (.pointer (some ⟨h.q,0,none⟩))) (cf:w.cell? ⟨bf,0,none⟩=some (.int .i64 (j:Int))) :
  Calls prog 76 #[.pointer (some ⟨bh,0,none⟩),.pointer (some ⟨bf,0,none⟩)] w fun ev w'=>ev = .returned (.tuple #[.int .u64 (m.R.getD j 0),.nilIface])/\Below w.heap.size w w':=by
 have kr:Hid (∀ k,Calls prog 73 #[.pointer (some ⟨h.q,0,none⟩),.int .i64 (j:Int)] (w.drewN k) fun ev w'=>ev = .returned (.tuple #[.int .u64 (m.R.getD j 0),.nilIface])/\w'=w.drewN k):=fun k=>(s.below (w':=w.drewN k) (Z03 (U01 _ _))).rootOk hj
 obtain ⟨q,hq⟩:∃ q,q=h.q:=⟨_,rfl⟩
 rw [<-hq] at kr ch
 obtain ⟨x,hx⟩:∃ x,x=m.R.getD j 0:=⟨_,rfl⟩
 rw [<-hx] at kr ⊢
 clear s hq hx
 go_enter func76,ntmps76
 go_upto_region 1 with fail
 go_quiet (first | (go_at_call 73;exact U0q (kr.out _)))
 go_wp2_with fail
 go_ret2
 exact ⟨rfl,Z03 (U01 _ _)⟩
theorem Zlm (s:HS a w0 h sr m M X w) (r j:Nat) (c:CL) (hr:r<m.R.length) (hj:M.R[j]?=some c) :
  Calls prog 31 #[.pointer (some ⟨h.q,0,none⟩),.int .i64 (r:Int),.int .i64 (j:Int)] w fun ev w'=>ev = .returned .nilIface/\Stp a w0 h m (M.set r c) X w w':=by
 obtain ⟨w1,hw1⟩:∃ w1,w1=(w.alloc (.cells #[.pointer (some ⟨h.q,0,none⟩)] 25)).alloc (.cells #[.int .i64 (j:Int)] 3):=⟨_,rfl⟩
 obtain ⟨n1,n2⟩:=Z3i w (.cells #[.pointer (some ⟨h.q,0,none⟩)] 25) (.cells #[.int .i64 (j:Int)] 3)
 rw [<-hw1] at n1 n2
 have b1:Below w.heap.size w w1:=by rw [hw1];exact ((U01 _ _).alloc (U02 _) _).alloc (by simp) _
 have s1:=s.below b1
 have ch:w1.cell? ⟨w.heap.size,0,none⟩=some (.pointer (some ⟨h.q,0,none⟩)):=by rw [U06 _ _ _ _ _ _ n1];rfl
 have cf:w1.cell? ⟨w.heap.size+1,0,none⟩=some (.int .i64 (j:Int)):=by rw [U06 _ _ _ _ _ _ n2];rfl
 have hjl:j<m.R.length:=by rw [s.hm.roots];exact (U0e.1 hj).1
 obtain ⟨x,hx,hm⟩:=s.hm.copy r hj
 have ex:m.R.getD j 0=x:=by rw [U07,hx];rfl
 have k1:=Zss s1 j _ _ hjl ch cf
 rw [ex] at k1
 have kb:=(Z1a s1 76 _ Z9z hr (fun y h' sr' n' w'=>y=x/\h'=h/\sr'=sr/\n'=m/\Below w1.heap.size w1 w') (fun _ _=>False) (k1.mono fun ev w' t=>.inl ⟨_,h,sr,m,t.1,s1.at'.below t.2,rfl,hr,rfl,rfl,rfl,rfl,t.2⟩)).mono (R':=fun ev w'=>ev = .returned .nilIface/\Stp a w0 h m (M.set r c) X w w') (by
  rintro ev w' (⟨y,h',sr',n',w2,rfl,⟨rfl,rfl,rfl,rfl,hb⟩,H,N'⟩ | ⟨k,rfl,hf⟩)
  ·exact ⟨rfl,Zc5 s (Nxt.of_below _ (b1.trans (hb.mono b1.size))) N' (Dim.refl _) H hm⟩
  ·exact hf.elim)
 rw [hw1] at kb
 clear hw1 b1 n1 n2 s1 ch cf k1 s
 go_enter func31,ntmps31
 go_wp2_with fail
 refine kb.mono ?_
 clear kb
 rintro ev w2 ⟨rfl,hP⟩
 have HP':=Z00 hP
 clear hP
 go_wp2_with fail
 go_ret
 exact ⟨rfl,HP'.out⟩
end
section
open Go.Maps
variable {h:HP}{sr:Int}{m:MD}{w w':World}{a:Nat->Addr}{w0:World}{M:MO}{X:MXtra}
theorem Z4v (tmps:Array Value) (W:World) (b:Nat) (v0 v1 v2 v3:Value) (h2:tmps[5]?.getD undef = .pointer (some ⟨b,0,none⟩)) (c0:W.cell? ⟨b,0,none⟩=some v0) (c1:W.cell? ⟨b,1,none⟩=some v1) (c2:W.cell? ⟨b,2,none⟩=some v2) (c3:W.cell? ⟨b,3,none⟩=some v3) :
  (results f121 tmps).run prog W = .ok (.tuple #[tmps[4]?.getD undef,.agg #[v0,v1,v2,v3],tmps[6]?.getD undef]) W:=by
 simp [results,Tryz.results121,go_sem,h2,c0,c1,c2,c3]
theorem Zhx (q p b nW cW f:Nat) (y:Int) (hf:f<nW) (hW:nW<=300000) (h0:0<=y) (h1:y<18446744073709551616) (hh:Z0t y=true) (w:World) (c0:w.cell? ⟨q,0,none⟩=some (.pointer (some ⟨p,0,none⟩))) (c3:w.cell? ⟨p,3,none⟩=some (.slice (some ⟨b,0,none⟩) nW cW)) (cf:w.cell? ⟨b,f,none⟩=some (.int .u64 y)) :
  Calls prog 121 #[.pointer (some ⟨q,0,none⟩),.int .u64 (((f:Int)+1)*4)] w fun ev w'=>ev = .returned (.tuple #[.int .i64 (f:Int),Z1o y,.bool true])/\Below w.heap.size w w':=by
 have ht:=Z3h (((f:Int)+1)*4) (by omega) (by omega) (by omega) (w.alloc (.cells #[.int .i64 0,.int .i64 0,.int .i64 0,.int .i64 0] 172))
 have hfx:((f:Int)+1)*4 / 4 - 1=(f:Int):=by omega
 rw [hfx] at ht
 unfold Z0t at hh
 have hh':=U0j hh
 have hI:(f:Int)<(nW:Int):=by omega
 have hI0:(0:Int)<=(f:Int):=by omega
 obtain ⟨x,hx⟩:∃ x,x=((f:Int)+1)*4:=⟨_,rfl⟩
 rw [<-hx] at ht ⊢
 have hba:Below w.heap.size w (w.alloc (.cells #[.int .i64 0,.int .i64 0,.int .i64 0,.int .i64 0] 172)):=(U01 _ _).alloc (U02 _) _
 have hna:=U0b w (.cells #[.int .i64 0,.int .i64 0,.int .i64 0,.int .i64 0] 172)
 have kh:Hid (∀ w,Calls prog 105 #[.int .u64 y] w fun ev w'=>ev = .returned (.tuple #[Z1o y,.nilIface])/\Below w.heap.size w w'):=fun w=>Z2c y h0 h1 hh'.1 hh'.2.1 hh'.2.2 w
 have HC:Hid (∀ W,Below w.heap.size w W->W.cell? ⟨q,0,none⟩=some (.pointer (some ⟨p,0,none⟩))/\W.cell? ⟨p,3,none⟩=some (.slice (some ⟨b,0,none⟩) nW cW)/\W.cell? ⟨b,f,none⟩=some (.int .u64 y)):=fun W hW =>
  ⟨(hW.cell (p:=⟨q,0,none⟩) (Z02 c0)).trans c0,(hW.cell (p:=⟨p,3,none⟩) (Z02 c3)).trans c3,(hW.cell (p:=⟨b,f,none⟩) (Z02 cf)).trans cf⟩
 clear hfx hh hx hh' h0 h1 c0 c3 cf
 unfold Z1o at kh ⊢
 generalize y / 4 % 256=kd at kh ⊢
 generalize y / 1024 % 16=ag at kh ⊢
 generalize y / 16384 % 2=mk at kh ⊢
 generalize y / 65536=sz at kh ⊢
 go_enter func121,ntmps121
 go_wp2_with fail
 generalize w.alloc (.cells #[.int .i64 0,.int .i64 0,.int .i64 0,.int .i64 0] 172)=wa at *
 obtain ⟨o,ho⟩:∃ o,o=w.heap.size:=⟨_,rfl⟩
 rw [<-ho] at hna ⊢
 have HQL:Hid (w.heap.size<=o):=U31 ho.symm
 clear ho
 refine ht.mono ?_
 rintro ev w1 ⟨rfl,hw1a⟩
 have hw1:=hba.trans (hw1a.mono hba.size)
 have hn1:=(hw1a.block o (Z01 hna)).trans hna
 have HN1:=Z00 hn1
 obtain ⟨d0,d3,df⟩:=HC.out w1 hw1
 clear ht hn1 hw1a hba hna
 go_wp2_with fail
 refine (kh.out w1).mono ?_
 rintro ev w2 ⟨rfl,hw2⟩
 clear kh
 have hn2:=(hw2.block o (Z01 HN1.out)).trans HN1.out
 obtain ⟨r0,r1,r2,r3,rf⟩:=Z0e hn2
 have rf0:=rf 0
 have rf1:=rf 1
 have rf2:=rf 2
 have rf3:=rf 3
 have hn3:=Zal hn2 (.int .i64 kd) (.int .i64 ag) (.int .i64 mk) (.int .i64 sz)
 have hw3:=Z1w (hw1.trans (hw2.mono hw1.size)) HQL.out (.int .i64 kd) (.int .i64 ag) (.int .i64 mk) (.int .i64 sz)
 unfold Zjq at hn3 hw3
 clear hn2 rf
 go_upto_region 5 with fail
 generalize (((w2.setCell ⟨o,0,none⟩ (.int .i64 kd)).setCell ⟨o,1,none⟩ (.int .i64 ag)).setCell ⟨o,2,none⟩ (.int .i64 mk)).setCell ⟨o,3,none⟩ (.int .i64 sz)=w3 at *
 have HN3:=Z00 hn3
 obtain ⟨s0,s1,s2,s3,sf⟩:=Z0e hn3
 have sf0:=sf 0
 have sf1:=sf 1
 have sf2:=sf 2
 have sf3:=sf 3
 clear r0 r1 r2 r3 rf0 rf1 rf2 rf3 hn3 sf d0 d3 df
 go_region
 all_goals go_wp2_with fail
 all_goals obtain ⟨t0,t1,t2,t3⟩:=Z26 s0 s1 s2 s3 (.int .i64 kd) (.int .i64 ag) (.int .i64 mk) (.int .i64 sz)
 all_goals refine U2n (Z4v _ _ o _ _ _ _ rfl t0 t1 t2 t3) rfl ?_
 all_goals exact ⟨rfl,(Z1w hw3 HQL.out _ _ _ _).drew⟩
theorem Zix (a:Nat->Addr) (q:Nat) (x:Int) (h0:0<=x) (h1:x<18446744073709551616) (hc:¬ (x % 4=0/\4<=x/\x / 4 - 1<=1099511627776)) (w:World) (E:WErr a w) :
  Calls prog 121 #[.pointer (some ⟨q,0,none⟩),.int .u64 x] w fun ev w'=>ev = .returned (.tuple #[.int .i64 0,Z1o 0,.bool false])/\Below w.heap.size w w':=by
 unfold Z1o
 have hba:Below w.heap.size w (w.alloc (.cells #[.int .i64 0,.int .i64 0,.int .i64 0,.int .i64 0] 172)):=(U01 _ _).alloc (U02 _) _
 have hna:=U0b w (.cells #[.int .i64 0,.int .i64 0,.int .i64 0,.int .i64 0] 172)
 have ht:=Z67 a x h0 h1 hc (w.alloc (.cells #[.int .i64 0,.int .i64 0,.int .i64 0,.int .i64 0] 172)) (E.below hba)
 unfold Z0p at ht
 clear hc h0 h1 E
 go_enter func121,ntmps121
 go_wp2_with fail
 generalize w.alloc (.cells #[.int .i64 0,.int .i64 0,.int .i64 0,.int .i64 0] 172)=wa at *
 obtain ⟨o,ho⟩:∃ o,o=w.heap.size:=⟨_,rfl⟩
 rw [<-ho] at hna ⊢
 have HQL:Hid (w.heap.size<=o):=U31 ho.symm
 clear ho
 refine ht.mono ?_
 rintro ev w1 ⟨rfl,hw1a⟩
 have hw1:=hba.trans (hw1a.mono hba.size)
 have hn1:=(hw1a.block o (Z01 hna)).trans hna
 obtain ⟨r0,r1,r2,r3,rf⟩:=Z0e hn1
 have rf0:=rf 0
 have rf1:=rf 1
 have rf2:=rf 2
 have rf3:=rf 3
 clear rf hn1 hna ht hw1a hba
 go_wp2_with fail
 obtain ⟨t0,t1,t2,t3⟩:=Z26 r0 r1 r2 r3 (.int .i64 0) (.int .i64 0) (.int .i64 0) (.int .i64 0)
 refine U2n (Z4v _ _ o _ _ _ _ rfl t0 t1 t2 t3) rfl ?_
 exact ⟨rfl,Z1w hw1 HQL.out _ _ _ _⟩
end
end Go.Proofs.YtlkcbdinlfeoiaaGreatDoor
