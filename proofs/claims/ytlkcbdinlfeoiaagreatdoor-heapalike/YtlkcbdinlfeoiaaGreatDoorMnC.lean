/- Package minor: an object is copied out (copyOut), by a contract. -/
import Derived.Test.YtlkcbdinlfeoiaaGreatDoorKnAI
namespace Go.Proofs.YtlkcbdinlfeoiaaGreatDoor
open Go.Proofs.Tryz Go.RowKit
set_option maxHeartbeats 8000000
set_option maxRecDepth 100000
section
open Go.Maps
theorem Zbf:(prog.info? 81).map (·.size)=some 1:=by kernel_rfl
theorem Zbq (e:CE) (s:CS) (f:Nat) (x:Int) (w:World) (H:CopAt e s w) (hx:s.W[f]?=some x) (hl:s.W.length=e.nW) (hn:e.nW<=300000) (hcw:e.nW<=e.cW) (hU:U64 s.W) (hh:Z0t x=true) (hfit:f+(1+szN x)<=e.nW) (hroom:s.gt+(1+szN x)<=e.nW) (hyt:s.yt<=300000) (hgt:s.gt<=300000) (hage:e.tn<=x / 1024 % 16) :
  Calls prog 255 #[.pointer (some ⟨e.q,0,none⟩),.int .u64 (((f:Int)+1)*4)] w fun ev w'=>ev = .returned (.tuple #[])/\CopAt e (s.grown f x) w'/\Aside e.own w w':=by
 obtain ⟨x0,x1⟩:=hU x (U0a hx)
 have hff:f<e.nW:=by omega
 have kt:=Z3h (((f:Int)+1)*4) (by omega) (by omega) (by omega) w
 rw [show (((f:Int)+1)*4) / 4 - 1=(f:Int) by omega] at kt
 have kh:=fun w1 (b1:Below w.heap.size w w1)=>Z6c e s f x w1 (H.below b1) hx hff x0 x1 hh
 unfold Z1o at kh
 obtain ⟨hq1,hq2,hq3,hq4,hq5,hq6,hq7,hq8,hq9,hq10⟩:=H.ne
 obtain ⟨E1,E2,E3⟩:=U0j hh
 obtain ⟨n,hnn⟩:∃ n:Nat,n=1+szN x:=⟨_,rfl⟩
 have hsz:x / 65536=(szN x:Int):=by unfold szN;omega
 have hnI:1+x / 65536=(n:Int):=by omega
 obtain ⟨k,hk⟩:∃ k,k=x / 4 % 256:=⟨_,rfl⟩
 obtain ⟨ag,hag⟩:∃ ag,ag=x / 1024 % 16:=⟨_,rfl⟩
 obtain ⟨mk,hmk⟩:∃ mk,mk=x / 16384 % 2:=⟨_,rfl⟩
 obtain ⟨sz,hszz⟩:∃ sz,sz=x / 65536:=⟨_,rfl⟩
 have HNEW:Hid (s.grown f x = { s with W:=(splice s.W s.gt ((s.W.drop f).take n)).set s.gt (sz*65536+mk*16384+(0)*1024+k*4+3),φ:=upd s.φ f s.gt,gt:=s.gt+n }):=by
  show _=_
  unfold CS.grown Zc8 hdW
  simp only [hk,hmk,hszz,hnn]
 simp only [<-hk,<-hag,<-hmk,<-hszz] at kh hnI hage hsz
 have gk0:0<=k/\k<=255:=by omega
 have ga0:0<=ag/\ag<=15:=by omega
 have gm0:0<=mk/\mk<=1:=by omega
 have gs0:0<=sz/\sz<=4096:=by omega
 have ko:=fun w=>Z59 k (0) mk sz gk0.1 gk0.2 (by omega) (by omega) gm0.1 gm0.2 gs0.1 gs0.2 w
 obtain ⟨hw,hhw⟩:∃ hw,hw=sz*65536+mk*16384+(0)*1024+k*4+3:=⟨_,rfl⟩
 rw [<-hhw] at ko HNEW
 clear hhw
 have hn1:1<=n:=by omega
 have hnb:n<=4097:=by omega
 rw [<-hnn] at hfit hroom
 have HH:=Z00 H
 have HKH:=Z00 kh
 have HX:=Z00 hx
 have HNI:=Z00 hnI
 have HL:=Z00 hl
 clear kh hk hag hmk hszz hsz hnn hnI E1 E2 E3 H hx hU hh x0 x1 hl
 obtain ⟨q,hq⟩:∃ q,q=e.q:=⟨_,rfl⟩
 rw [<-hq]
 have HQ:=Z00 hq
 clear hq
 go_enter func255,ntmps255
 go_wp2_with fail
 refine kt.mono ?_
 clear kt
 rintro ev w1 ⟨rfl,b1⟩
 have kh:=HKH.out w1 b1
 rw [<-HQ.out] at kh
 have HB1:=Z00 b1
 clear b1
 go_wp2_with fail
 refine kh.mono ?_
 clear kh
 rintro ev w2 ⟨rfl,b2⟩
 go_upto_region 2 with fail
 obtain ⟨w3,hw3⟩:∃ w3,w3=w2.alloc (.cells #[.int .i64 k,.int .i64 ag,.int .i64 mk,.int .i64 sz] 172):=⟨_,rfl⟩
 obtain ⟨bo,hbo⟩:∃ bo,bo=w2.heap.size:=⟨_,rfl⟩
 have b3:Below w.heap.size w w3:=by rw [hw3];exact (HB1.out.trans (b2.mono HB1.out.size)).alloc (HB1.out.trans (b2.mono HB1.out.size)).size _
 have n3:w3.heap[bo]?=some (.cells #[.int .i64 k,.int .i64 ag,.int .i64 mk,.int .i64 sz] 172):=by rw [hw3,hbo];exact U0b _ _
 have hbw:w.heap.size<=bo:=by rw [hbo];exact (HB1.out.trans (b2.mono HB1.out.size)).size
 rw [<-hw3,<-hbo]
 obtain ⟨o0,o1,o2,o3,of'⟩:=Z0e n3
 have of1:=of' 1
 have H3:=HH.out.below b3
 obtain ⟨c0,c1,c2,c3,c4,c5,c6,c7,c8,m3⟩:=H3.cells
 rw [<-HQ.out] at c0 c1 c2 c3 c4 c5 c6 c7 c8
 have fz:∀ o,w3.frozen? ⟨q,o,none⟩=false:=fun o=>by have h:=H3.hq;rw [<-HQ.out] at h;simp [World.frozen?,h]
 have HN3:=Z00 n3
 have HB3:=Z00 b3
 have HFZ:=Z00 fz
 have HH3:=Z00 H3
 have HBW:=Z00 hbw
 clear hw3 hbo b3 n3 of' H3 b2 HB1 hbw fz
 have hsI:IntKind.i64.wrap (1+sz)=(n:Int):=by rw [HNI.out,U1d];omega
 go_wp2_with fail
 go_quiet (fail)
 obtain ⟨w4,hw4⟩:∃ w4,w4=(w3.drewN nq).setCell ⟨bo,1,none⟩ (.int .i64 (0)):=⟨_,rfl⟩
 have hne:∀ k,(k=e.q\/k=e.p\/k=e.bm\/k=e.bW\/k=e.bC) -> ¬ k=bo:=fun k hk=>by
  have h1:=Z01 HH.out.hq
  have h2:=Z01 HH.out.hp
  have h3:=HH.out.hW.lt
  have h4:=HH.out.hC.lt
  obtain ⟨_,_,_,hm,_⟩:=HH.out.hm
  have h5:=hm.lt
  have h6:=HBW.out
  omega
 have a4:Aside (· = bo) w3 w4:=by rw [hw4];exact (Aside.of_below (X:=fun k=>k=bo) (Z03 (U01 _ _))).setCell (g:=bo) rfl _
 have H4:=HH3.out.aside a4 hne
 have n4:w4.heap[bo]?=some (.cells #[.int .i64 k,.int .i64 (0),.int .i64 mk,.int .i64 sz] 172):=by rw [hw4];exact (Z06 HN3.out)
 have A4:Aside (fun k=>k=e.q\/k=e.bW) w w4:=⟨a4.os.trans HB3.out.os,a4.tape.trans HB3.out.tape,a4.output.trans HB3.out.output,U0n HB3.out.size a4.size,fun k hk _=>(a4.block k (U0r hk HB3.out.size) (fun e=>by have:=HBW.out;have e':k=bo:=e;omega)).trans (HB3.out.block k hk)⟩
 go_upto_region 7 with fail
 rw [<-hw4]
 obtain ⟨d0,d1,d2,d3,d4,d5,d6,d7,d8,dm⟩:=H4.cells
 have fz4:w4.frozen? ⟨e.q,7+1,none⟩=false:=by have h:=H4.hq;simp [World.frozen?,h]
 have kp:=Zec e.q 7 (s.gt:Int) (n:Int) (by omega) (by omega) (by omega) (by omega) w4 d8 fz4
 rw [<-HQ.out] at kp
 have HH4:=Z00 H4
 have HN4:=Z00 n4
 have HA4:=Z00 A4
 clear hw4 a4 H4 n4 A4 d0 d1 d2 d3 d4 d5 d6 d7 d8 dm c0 c1 c2 c3 c4 c5 c6 c7 c8 m3 o0 o1 o2 o3 of1 fz4 HN3 HB3 HFZ HH3
 go_wp2_with fail
 refine kp.mono ?_
 clear kp
 rintro ev w5 ⟨rfl,hw5⟩
 rw [HQ.out] at hw5
 have H5:CopAt e { s with gt:=s.gt+n } w5:=by rw [hw5];exact HH4.out.setGt n
 have hqb:¬ e.q=bo:=hne _ (Or.inl rfl)
 have n5:w5.heap[bo]?=some (.cells #[.int .i64 k,.int .i64 (0),.int .i64 mk,.int .i64 sz] 172):=by rw [hw5];exact (Z0a _ _ _ _ _ (fun e=>hqb e.symm)).trans HN4.out
 have A5:Hid (Aside (fun k=>k=e.q\/k=e.bW) w w5):=by rw [hw5];exact HA4.out.setCell (Or.inl rfl) _
 have HH5:=Z00 H5
 have HN5:=Z00 n5
 clear hw5 H5 n5 HH4 HN4 HA4
 go_upto_region 8 with fail
 obtain ⟨d0,d1,d2,d3,d4,d5,d6,d7,d8,dm⟩:=HH5.out.cells
 rw [<-HQ.out] at d0
 have HS5:Hid (w5.drew.cell? ⟨q,0,none⟩=some (.pointer (some ⟨e.p,0,none⟩))/\w5.drew.cell? ⟨e.p,3,none⟩=some (.slice (some ⟨e.bW,0,none⟩) e.nW e.cW)):=⟨d0,dm⟩
 have s1:((s.gt:Int))<=(e.nW:Int):=by omega
 have s2:¬ e.cW=s.gt:=by omega
 have s3:¬ s.gt=e.cW:=by omega
 have s4:¬ e.cW - s.gt=0:=by omega
 obtain ⟨fn,hfn⟩:∃ fn,fn=f+n:=⟨_,rfl⟩
 have HFN:=Z00 hfn
 have s5:IntKind.i64.wrap ((f:Int)+(n:Int))=(fn:Int):=by rw [U1d];omega
 have s6:(f:Int)<=(fn:Int):=by omega
 have s7:(fn:Int)<=(e.cW:Int):=by omega
 have s7':(fn:Int)<=(e.nW:Int):=by omega
 have s8:¬ e.cW=f:=by omega
 have s9:¬ f=e.cW:=by omega
 have s10:¬ e.cW - f=0:=by omega
 have s11:(0:Int)<=(f:Int):=by omega
 have s12:(0:Int)<=(fn:Int):=by omega
 have s13:(0:Int)<=(s.gt:Int):=by omega
 have HSK:Hid (∀ W,Aside (· = e.bW) w5.drew W->W.cell? ⟨q,0,none⟩=some (.pointer (some ⟨e.p,0,none⟩))/\W.cell? ⟨e.p,3,none⟩=some (.slice (some ⟨e.bW,0,none⟩) e.nW e.cW)):=fun W ha=>by
  refine ⟨ha.cell HS5.out.1 (fun h=>hq3 ?_),ha.cell HS5.out.2 (fun h=>hq6 h)⟩
  rw [<-HQ.out];exact h
 have HBLK:Hid (Blk e.bW 81 (Z05 s.W) w5.drew):=HH5.out.hW.below (U01 _ _).drew
 have hlW:s.W.length=e.nW:=HL.out
 have hcl:(Z05 ((s.W.drop f).take n)).length=n:=by rw [Z3y,U1k,U29];omega
 have HMIN:Hid ((Z05 ((s.W.drop f).take n)).length=Nat.min (fn - f) (e.nW - s.gt)):=by
  show _=_
  rw [hcl]
  have:fn - f=n:=by omega
  rw [this]
  exact (U3a (by omega)).symm
 have HFIT:Hid (s.gt+(Z05 ((s.W.drop f).take n)).length<=(Z05 s.W).length):=by show _<=_;rw [hcl,Z3y];omega
 have HSRC:Hid (∀ j v,(Z05 ((s.W.drop f).take n))[j]?=some v->w5.drew.cell? ((⟨e.bW,f,none⟩:Addr).add j)=some v):=fun j v hj=>by
  have hjn:j<n:=by have:=(U0e.1 hj).1;omega
  have e1:(⟨e.bW,f,none⟩:Addr).add j=⟨e.bW,f+j,none⟩:=by unfold Addr.add;split <;> simp_all
  rw [e1]
  refine HBLK.out.cell ?_
  unfold Z05 at hj ⊢
  rw [U0g,U1j,U09 hjn,U2o] at hj
  rw [U0g]
  exact hj
 clear hfn hcl hlW
 clear d0 d1 d2 d3 d4 d5 d6 d7 d8 dm
 go_region_held3 (fun W=>W.cell? ⟨q,0,none⟩=some (.pointer (some ⟨e.p,0,none⟩))/\W.cell? ⟨e.p,3,none⟩=some (.slice (some ⟨e.bW,0,none⟩) e.nW e.cW)) (first | with_reducible exact HSK.out _ hA6.out | with_reducible exact HS5.out) (first | (refine Z3k (by rfl) _ _ _ _ (by rfl) 81 underlying79 Zbf ⟨e.bW,f,none⟩ (e.nW - s.gt) (e.cW - s.gt) (fn - f) (e.cW - f) e.bW s.gt (by rfl) (by rfl) (Z05 s.W) 81 HBLK.out (Z05 ((s.W.drop f).take n)) HMIN.out HSRC.out HFIT.out (Z3g _) ?_;intro w6 hB6 hA6))
 have a56:Aside (· = e.bW) w5 w6:=(Aside.of_below (X:=fun k=>k=e.bW) (U01 _ _).drew).trans hA6.out
 have hB6':Blk e.bW 81 (Z05 (splice s.W s.gt ((s.W.drop f).take n))) w6:=by have h:=hB6.out;rw [Z4k] at h;exact h
 have H6:=HH5.out.words a56 _ hB6'
 have hbb:¬ bo=e.bW:=fun h=>hne e.bW (by simp) h.symm
 have n6:=(a56.block bo (Z01 HN5.out) hbb).trans HN5.out
 have A6:Hid (Aside (fun k=>k=e.q\/k=e.bW) w w6):=A5.out.trans (a56.mono (fun k hk=>Or.inr hk))
 have HH6:=Z00 H6
 have HN6:=Z00 n6
 obtain ⟨W6,hW6⟩:∃ W6,W6=splice s.W s.gt ((s.W.drop f).take n):=⟨_,rfl⟩
 have hl6:s.gt<W6.length:=by
  rw [hW6,length_splice _ _ _ (by have:=HFIT.out;rw [Z3y,Z3y] at this;exact this),HL.out]
  omega
 rw [<-hW6] at HH6
 have HW6:=Z00 hW6
 clear hW6
 have HSK6:Hid (∀ W,Aside (· = e.bW) w6.drew W->W.cell? ⟨q,0,none⟩=some (.pointer (some ⟨e.p,0,none⟩))/\W.cell? ⟨e.p,3,none⟩=some (.slice (some ⟨e.bW,0,none⟩) e.nW e.cW)/\W.cell? ⟨bo,0,none⟩=some (.int .i64 k)/\W.cell? ⟨bo,1,none⟩=some (.int .i64 (0))/\W.cell? ⟨bo,2,none⟩=some (.int .i64 mk)/\W.cell? ⟨bo,3,none⟩=some (.int .i64 sz)):=fun W ha=>by
  obtain ⟨d0,_,_,_,_,_,_,_,_,dm⟩:=HH6.out.cells
  obtain ⟨o0,o1,o2,o3,_⟩:=Z0e HN6.out
  refine ⟨ha.cell (by rw [HQ.out];exact d0) (fun h=>hq3 ?_),ha.cell dm (fun h=>hq6 h),ha.cell o0 hbb,ha.cell o1 hbb,ha.cell o2 hbb,ha.cell o3 hbb⟩
  rw [<-HQ.out];exact h
 have HS6:=Z00 (HSK6.out _ (Aside.refl _ _))
 have HC7:Hid (∀ w7,Below w6.drew.heap.size w6.drew w7->(∃ u,w7.cell? ⟨e.bW,s.gt,none⟩=some u)/\w7.frozen? ⟨e.bW,s.gt,none⟩=false):=fun w7 b7=>by
  have hb:=(HH6.out.hW.below (w':=w6.drew) (U01 _ _).drew).below b7
  exact ⟨⟨_,hb.cell (U03 (by rw [Z3y];exact hl6))⟩,hb.frozen _⟩
 have hti:(s.gt:Int)<(e.nW:Int):=by omega
 clear hB6 hA6 a56 hB6' H6 n6 HH5 HN5 A5 HS5 HSK HBLK HMIN HFIT HSRC s1 s2 s3 s4 s5 s6 s7 s7' s8 s9 s10 s11 s12 HFN
 go_upto_region 9 with fail
 go_region_held3 (fun W=>W.cell? ⟨q,0,none⟩=some (.pointer (some ⟨e.p,0,none⟩))/\W.cell? ⟨e.p,3,none⟩=some (.slice (some ⟨e.bW,0,none⟩) e.nW e.cW)/\W.cell? ⟨bo,0,none⟩=some (.int .i64 k)/\W.cell? ⟨bo,1,none⟩=some (.int .i64 (0))/\W.cell? ⟨bo,2,none⟩=some (.int .i64 mk)/\W.cell? ⟨bo,3,none⟩=some (.int .i64 sz)) (first | with_reducible exact HS6.out | with_reducible exact HSK6.out _ (Aside.of_below b7) | exact HSK6.out _ ((Aside.of_below (X:=fun k=>k=e.bW) b7).setCell rfl _)) (first | (go_at_call 118;refine (ko _).mono ?_;rintro ev w7 ⟨rfl,b7⟩;obtain ⟨⟨u7,c7⟩,f7⟩:=HC7.out w7 b7))
 obtain ⟨w8,hw8⟩:∃ w8,w8=w7.setCell ⟨e.bW,s.gt,none⟩ (.int .u64 hw):=⟨_,rfl⟩
 rw [<-hw8]
 have a7:Aside (· = e.bW) w6 w7:=(Aside.of_below (X:=fun k=>k=e.bW) (U01 _ _).drew).trans (Aside.of_below b7)
 have a8:Aside (· = e.bW) w6 w8:=by rw [hw8];exact a7.setCell rfl _
 have hB8:Blk e.bW 81 (Z05 (W6.set s.gt hw)) w8:=by
  rw [hw8,<-Z23]
  exact ((HH6.out.hW.below (w':=w6.drew) (U01 _ _).drew).below b7).set (by rw [Z3y];exact hl6) _
 have H8:=HH6.out.words a8 _ hB8
 have A8:Aside (fun k=>k=e.q\/k=e.bW) w w8:=A6.out.trans (a8.mono (fun k hk=>Or.inr hk))
 obtain ⟨nm,D,hnm,hM,hWe⟩:=HH.out.hm
 have hM8:=Z0f hM A8 (fun h=>by rcases h with h | h;exact hq2 h.symm;exact hq8 h)
 have kn:=Zhp (e.lo:Int) (e.hi:Int) e.bm nm f s.gt 0 D w8 (by omega) (by omega) (by omega) hM8 (U0x _) (U0x _)
 obtain ⟨d0,d1,d2,d3,_⟩:=H8.cells
 rw [<-HQ.out] at d0 d1 d2 d3
 have HH8:=Z00 H8
 have HA8:=Z00 A8
 have HWe:=Z00 hWe
 clear hw8 a7 a8 hB8 H8 A8 hM hM8 hWe b7 c7 f7 HC7 HS6 HSK6 HH6 A6 HN6
 go_wp2_with fail
 refine kn.mono ?_
 clear kn
 rintro ev w9 ⟨rfl,⟨n9,hn9,hM9⟩,b9,hf9⟩
 go_wp2_with fail
 go_end0
 have a9:Aside (· = e.bm) w8 w9:=⟨b9.os,b9.tape,b9.output,b9.size,hf9⟩
 have H9:=HH8.out
 rw [HNEW.out]
 refine ⟨rfl,⟨?_,?_,?_,?_,n9,_,?_,hM9,Zc0 HWe.out f s.gt⟩,(HA8.out.mono (fun k hk => ?_)).trans (a9.mono (fun k hk=>Or.inr (Or.inl hk)))⟩
 ·exact (a9.block _ (Z01 H9.hq) hq2).trans H9.hq
 ·exact (a9.block _ (Z01 H9.hp) hq5).trans H9.hp
 ·have h:=H9.hW.aside a9 (fun h=>hq8 h.symm)
  rw [HW6.out] at h
  exact h
 ·exact H9.hC.aside a9 (fun h=>hq9 h.symm)
 ·show n9<=s.yt+(s.gt+n)
  omega
 ·rcases hk with hk | hk
  ·exact Or.inl hk
  ·exact Or.inr (Or.inr (Or.inl hk))
theorem Zce (e:CE) (s:CS) (f:Nat) (x:Int) (w:World) (H:CopAt e s w) (hx:s.W[f]?=some x) (hl:s.W.length=e.nW) (hn:e.nW<=300000) (hcw:e.nW<=e.cW) (hU:U64 s.W) (hh:Z0t x=true) (hfit:f+(1+szN x)<=e.nW) (hroom:s.yt+(1+szN x)<=e.nW) (hyt:s.yt<=300000) (hgt:s.gt<=300000) (ht1:e.tn<=15) (hage:x / 1024 % 16<e.tn) :
  Calls prog 255 #[.pointer (some ⟨e.q,0,none⟩),.int .u64 (((f:Int)+1)*4)] w fun ev w'=>ev = .returned (.tuple #[])/\CopAt e (s.young f x) w'/\Aside e.own w w':=by
 obtain ⟨x0,x1⟩:=hU x (U0a hx)
 have hff:f<e.nW:=by omega
 have kt:=Z3h (((f:Int)+1)*4) (by omega) (by omega) (by omega) w
 rw [show (((f:Int)+1)*4) / 4 - 1=(f:Int) by omega] at kt
 have kh:=fun w1 (b1:Below w.heap.size w w1)=>Z6c e s f x w1 (H.below b1) hx hff x0 x1 hh
 unfold Z1o at kh
 obtain ⟨hq1,hq2,hq3,hq4,hq5,hq6,hq7,hq8,hq9,hq10⟩:=H.ne
 obtain ⟨E1,E2,E3⟩:=U0j hh
 obtain ⟨n,hnn⟩:∃ n:Nat,n=1+szN x:=⟨_,rfl⟩
 have hsz:x / 65536=(szN x:Int):=by unfold szN;omega
 have hnI:1+x / 65536=(n:Int):=by omega
 obtain ⟨k,hk⟩:∃ k,k=x / 4 % 256:=⟨_,rfl⟩
 obtain ⟨ag,hag⟩:∃ ag,ag=x / 1024 % 16:=⟨_,rfl⟩
 obtain ⟨mk,hmk⟩:∃ mk,mk=x / 16384 % 2:=⟨_,rfl⟩
 obtain ⟨sz,hszz⟩:∃ sz,sz=x / 65536:=⟨_,rfl⟩
 have HNEW:Hid (s.young f x = { s with W:=(splice s.W s.yt ((s.W.drop f).take n)).set s.yt (sz*65536+mk*16384+(ag+1)*1024+k*4+3),φ:=upd s.φ f s.yt,yt:=s.yt+n }):=by
  show _=_
  unfold CS.young Zc8 hdW
  simp only [hk,hag,hmk,hszz,hnn]
 simp only [<-hk,<-hag,<-hmk,<-hszz] at kh hnI hage hsz
 have gk0:0<=k/\k<=255:=by omega
 have ga0:0<=ag/\ag<=15:=by omega
 have gm0:0<=mk/\mk<=1:=by omega
 have gs0:0<=sz/\sz<=4096:=by omega
 have ko:=fun w=>Z59 k (ag+1) mk sz gk0.1 gk0.2 (by omega) (by omega) gm0.1 gm0.2 gs0.1 gs0.2 w
 obtain ⟨hw,hhw⟩:∃ hw,hw=sz*65536+mk*16384+(ag+1)*1024+k*4+3:=⟨_,rfl⟩
 rw [<-hhw] at ko HNEW
 clear hhw
 have hn1:1<=n:=by omega
 have hage2:¬ e.tn<=ag:=by omega
 have hnb:n<=4097:=by omega
 rw [<-hnn] at hfit hroom
 have HH:=Z00 H
 have HKH:=Z00 kh
 have HX:=Z00 hx
 have HNI:=Z00 hnI
 have HL:=Z00 hl
 clear kh hk hag hmk hszz hsz hnn hnI E1 E2 E3 H hx hU hh x0 x1 hl
 obtain ⟨q,hq⟩:∃ q,q=e.q:=⟨_,rfl⟩
 rw [<-hq]
 have HQ:=Z00 hq
 clear hq
 go_enter func255,ntmps255
 go_wp2_with fail
 refine kt.mono ?_
 clear kt
 rintro ev w1 ⟨rfl,b1⟩
 have kh:=HKH.out w1 b1
 rw [<-HQ.out] at kh
 have HB1:=Z00 b1
 clear b1
 go_wp2_with fail
 refine kh.mono ?_
 clear kh
 rintro ev w2 ⟨rfl,b2⟩
 go_upto_region 2 with fail
 obtain ⟨w3,hw3⟩:∃ w3,w3=w2.alloc (.cells #[.int .i64 k,.int .i64 ag,.int .i64 mk,.int .i64 sz] 172):=⟨_,rfl⟩
 obtain ⟨bo,hbo⟩:∃ bo,bo=w2.heap.size:=⟨_,rfl⟩
 have b3:Below w.heap.size w w3:=by rw [hw3];exact (HB1.out.trans (b2.mono HB1.out.size)).alloc (HB1.out.trans (b2.mono HB1.out.size)).size _
 have n3:w3.heap[bo]?=some (.cells #[.int .i64 k,.int .i64 ag,.int .i64 mk,.int .i64 sz] 172):=by rw [hw3,hbo];exact U0b _ _
 have hbw:w.heap.size<=bo:=by rw [hbo];exact (HB1.out.trans (b2.mono HB1.out.size)).size
 rw [<-hw3,<-hbo]
 obtain ⟨o0,o1,o2,o3,of'⟩:=Z0e n3
 have of1:=of' 1
 have H3:=HH.out.below b3
 obtain ⟨c0,c1,c2,c3,c4,c5,c6,c7,c8,m3⟩:=H3.cells
 rw [<-HQ.out] at c0 c1 c2 c3 c4 c5 c6 c7 c8
 have fz:∀ o,w3.frozen? ⟨q,o,none⟩=false:=fun o=>by have h:=H3.hq;rw [<-HQ.out] at h;simp [World.frozen?,h]
 have HN3:=Z00 n3
 have HB3:=Z00 b3
 have HFZ:=Z00 fz
 have HH3:=Z00 H3
 have HBW:=Z00 hbw
 clear hw3 hbo b3 n3 of' H3 b2 HB1 hbw fz
 have hsI:IntKind.i64.wrap (1+sz)=(n:Int):=by rw [HNI.out,U1d];omega
 go_wp2_with fail
 go_quiet (fail)
 obtain ⟨w4,hw4⟩:∃ w4,w4=(w3.drewN nq).setCell ⟨bo,1,none⟩ (.int .i64 (ag+1)):=⟨_,rfl⟩
 have hne:∀ k,(k=e.q\/k=e.p\/k=e.bm\/k=e.bW\/k=e.bC) -> ¬ k=bo:=fun k hk=>by
  have h1:=Z01 HH.out.hq
  have h2:=Z01 HH.out.hp
  have h3:=HH.out.hW.lt
  have h4:=HH.out.hC.lt
  obtain ⟨_,_,_,hm,_⟩:=HH.out.hm
  have h5:=hm.lt
  have h6:=HBW.out
  omega
 have a4:Aside (· = bo) w3 w4:=by rw [hw4];exact (Aside.of_below (X:=fun k=>k=bo) (Z03 (U01 _ _))).setCell (g:=bo) rfl _
 have H4:=HH3.out.aside a4 hne
 have n4:w4.heap[bo]?=some (.cells #[.int .i64 k,.int .i64 (ag+1),.int .i64 mk,.int .i64 sz] 172):=by rw [hw4];exact (Z06 HN3.out)
 have A4:Aside (fun k=>k=e.q\/k=e.bW) w w4:=⟨a4.os.trans HB3.out.os,a4.tape.trans HB3.out.tape,a4.output.trans HB3.out.output,U0n HB3.out.size a4.size,fun k hk _=>(a4.block k (U0r hk HB3.out.size) (fun e=>by have:=HBW.out;have e':k=bo:=e;omega)).trans (HB3.out.block k hk)⟩
 go_upto_region 7 with fail
 rw [<-hw4]
 obtain ⟨d0,d1,d2,d3,d4,d5,d6,d7,d8,dm⟩:=H4.cells
 have fz4:w4.frozen? ⟨e.q,5+1,none⟩=false:=by have h:=H4.hq;simp [World.frozen?,h]
 have kp:=Zec e.q 5 (s.yt:Int) (n:Int) (by omega) (by omega) (by omega) (by omega) w4 d6 fz4
 rw [<-HQ.out] at kp
 have HH4:=Z00 H4
 have HN4:=Z00 n4
 have HA4:=Z00 A4
 clear hw4 a4 H4 n4 A4 d0 d1 d2 d3 d4 d5 d6 d7 d8 dm c0 c1 c2 c3 c4 c5 c6 c7 c8 m3 o0 o1 o2 o3 of1 fz4 HN3 HB3 HFZ HH3
 go_wp2_with fail
 refine kp.mono ?_
 clear kp
 rintro ev w5 ⟨rfl,hw5⟩
 rw [HQ.out] at hw5
 have H5:CopAt e { s with yt:=s.yt+n } w5:=by rw [hw5];exact HH4.out.setYt n
 have hqb:¬ e.q=bo:=hne _ (Or.inl rfl)
 have n5:w5.heap[bo]?=some (.cells #[.int .i64 k,.int .i64 (ag+1),.int .i64 mk,.int .i64 sz] 172):=by rw [hw5];exact (Z0a _ _ _ _ _ (fun e=>hqb e.symm)).trans HN4.out
 have A5:Hid (Aside (fun k=>k=e.q\/k=e.bW) w w5):=by rw [hw5];exact HA4.out.setCell (Or.inl rfl) _
 have HH5:=Z00 H5
 have HN5:=Z00 n5
 clear hw5 H5 n5 HH4 HN4 HA4
 go_upto_region 8 with fail
 obtain ⟨d0,d1,d2,d3,d4,d5,d6,d7,d8,dm⟩:=HH5.out.cells
 rw [<-HQ.out] at d0
 have HS5:Hid (w5.drew.cell? ⟨q,0,none⟩=some (.pointer (some ⟨e.p,0,none⟩))/\w5.drew.cell? ⟨e.p,3,none⟩=some (.slice (some ⟨e.bW,0,none⟩) e.nW e.cW)):=⟨d0,dm⟩
 have s1:((s.yt:Int))<=(e.nW:Int):=by omega
 have s2:¬ e.cW=s.yt:=by omega
 have s3:¬ s.yt=e.cW:=by omega
 have s4:¬ e.cW - s.yt=0:=by omega
 obtain ⟨fn,hfn⟩:∃ fn,fn=f+n:=⟨_,rfl⟩
 have HFN:=Z00 hfn
 have s5:IntKind.i64.wrap ((f:Int)+(n:Int))=(fn:Int):=by rw [U1d];omega
 have s6:(f:Int)<=(fn:Int):=by omega
 have s7:(fn:Int)<=(e.cW:Int):=by omega
 have s7':(fn:Int)<=(e.nW:Int):=by omega
 have s8:¬ e.cW=f:=by omega
 have s9:¬ f=e.cW:=by omega
 have s10:¬ e.cW - f=0:=by omega
 have s11:(0:Int)<=(f:Int):=by omega
 have s12:(0:Int)<=(fn:Int):=by omega
 have s13:(0:Int)<=(s.yt:Int):=by omega
 have HSK:Hid (∀ W,Aside (· = e.bW) w5.drew W->W.cell? ⟨q,0,none⟩=some (.pointer (some ⟨e.p,0,none⟩))/\W.cell? ⟨e.p,3,none⟩=some (.slice (some ⟨e.bW,0,none⟩) e.nW e.cW)):=fun W ha=>by
  refine ⟨ha.cell HS5.out.1 (fun h=>hq3 ?_),ha.cell HS5.out.2 (fun h=>hq6 h)⟩
  rw [<-HQ.out];exact h
 have HBLK:Hid (Blk e.bW 81 (Z05 s.W) w5.drew):=HH5.out.hW.below (U01 _ _).drew
 have hlW:s.W.length=e.nW:=HL.out
 have hcl:(Z05 ((s.W.drop f).take n)).length=n:=by rw [Z3y,U1k,U29];omega
 have HMIN:Hid ((Z05 ((s.W.drop f).take n)).length=Nat.min (fn - f) (e.nW - s.yt)):=by
  show _=_
  rw [hcl]
  have:fn - f=n:=by omega
  rw [this]
  exact (U3a (by omega)).symm
 have HFIT:Hid (s.yt+(Z05 ((s.W.drop f).take n)).length<=(Z05 s.W).length):=by show _<=_;rw [hcl,Z3y];omega
 have HSRC:Hid (∀ j v,(Z05 ((s.W.drop f).take n))[j]?=some v->w5.drew.cell? ((⟨e.bW,f,none⟩:Addr).add j)=some v):=fun j v hj=>by
  have hjn:j<n:=by have:=(U0e.1 hj).1;omega
  have e1:(⟨e.bW,f,none⟩:Addr).add j=⟨e.bW,f+j,none⟩:=by unfold Addr.add;split <;> simp_all
  rw [e1]
  refine HBLK.out.cell ?_
  unfold Z05 at hj ⊢
  rw [U0g,U1j,U09 hjn,U2o] at hj
  rw [U0g]
  exact hj
 clear hfn hcl hlW
 clear d0 d1 d2 d3 d4 d5 d6 d7 d8 dm
 go_region_held3 (fun W=>W.cell? ⟨q,0,none⟩=some (.pointer (some ⟨e.p,0,none⟩))/\W.cell? ⟨e.p,3,none⟩=some (.slice (some ⟨e.bW,0,none⟩) e.nW e.cW)) (first | with_reducible exact HSK.out _ hA6.out | with_reducible exact HS5.out) (first | (refine Z3k (by rfl) _ _ _ _ (by rfl) 81 underlying79 Zbf ⟨e.bW,f,none⟩ (e.nW - s.yt) (e.cW - s.yt) (fn - f) (e.cW - f) e.bW s.yt (by rfl) (by rfl) (Z05 s.W) 81 HBLK.out (Z05 ((s.W.drop f).take n)) HMIN.out HSRC.out HFIT.out (Z3g _) ?_;intro w6 hB6 hA6))
 have a56:Aside (· = e.bW) w5 w6:=(Aside.of_below (X:=fun k=>k=e.bW) (U01 _ _).drew).trans hA6.out
 have hB6':Blk e.bW 81 (Z05 (splice s.W s.yt ((s.W.drop f).take n))) w6:=by have h:=hB6.out;rw [Z4k] at h;exact h
 have H6:=HH5.out.words a56 _ hB6'
 have hbb:¬ bo=e.bW:=fun h=>hne e.bW (by simp) h.symm
 have n6:=(a56.block bo (Z01 HN5.out) hbb).trans HN5.out
 have A6:Hid (Aside (fun k=>k=e.q\/k=e.bW) w w6):=A5.out.trans (a56.mono (fun k hk=>Or.inr hk))
 have HH6:=Z00 H6
 have HN6:=Z00 n6
 obtain ⟨W6,hW6⟩:∃ W6,W6=splice s.W s.yt ((s.W.drop f).take n):=⟨_,rfl⟩
 have hl6:s.yt<W6.length:=by
  rw [hW6,length_splice _ _ _ (by have:=HFIT.out;rw [Z3y,Z3y] at this;exact this),HL.out]
  omega
 rw [<-hW6] at HH6
 have HW6:=Z00 hW6
 clear hW6
 have HSK6:Hid (∀ W,Aside (· = e.bW) w6.drew W->W.cell? ⟨q,0,none⟩=some (.pointer (some ⟨e.p,0,none⟩))/\W.cell? ⟨e.p,3,none⟩=some (.slice (some ⟨e.bW,0,none⟩) e.nW e.cW)/\W.cell? ⟨bo,0,none⟩=some (.int .i64 k)/\W.cell? ⟨bo,1,none⟩=some (.int .i64 (ag+1))/\W.cell? ⟨bo,2,none⟩=some (.int .i64 mk)/\W.cell? ⟨bo,3,none⟩=some (.int .i64 sz)):=fun W ha=>by
  obtain ⟨d0,_,_,_,_,_,_,_,_,dm⟩:=HH6.out.cells
  obtain ⟨o0,o1,o2,o3,_⟩:=Z0e HN6.out
  refine ⟨ha.cell (by rw [HQ.out];exact d0) (fun h=>hq3 ?_),ha.cell dm (fun h=>hq6 h),ha.cell o0 hbb,ha.cell o1 hbb,ha.cell o2 hbb,ha.cell o3 hbb⟩
  rw [<-HQ.out];exact h
 have HS6:=Z00 (HSK6.out _ (Aside.refl _ _))
 have HC7:Hid (∀ w7,Below w6.drew.heap.size w6.drew w7->(∃ u,w7.cell? ⟨e.bW,s.yt,none⟩=some u)/\w7.frozen? ⟨e.bW,s.yt,none⟩=false):=fun w7 b7=>by
  have hb:=(HH6.out.hW.below (w':=w6.drew) (U01 _ _).drew).below b7
  exact ⟨⟨_,hb.cell (U03 (by rw [Z3y];exact hl6))⟩,hb.frozen _⟩
 have hti:(s.yt:Int)<(e.nW:Int):=by omega
 clear hB6 hA6 a56 hB6' H6 n6 HH5 HN5 A5 HS5 HSK HBLK HMIN HFIT HSRC s1 s2 s3 s4 s5 s6 s7 s7' s8 s9 s10 s11 s12 HFN
 go_upto_region 9 with fail
 go_region_held3 (fun W=>W.cell? ⟨q,0,none⟩=some (.pointer (some ⟨e.p,0,none⟩))/\W.cell? ⟨e.p,3,none⟩=some (.slice (some ⟨e.bW,0,none⟩) e.nW e.cW)/\W.cell? ⟨bo,0,none⟩=some (.int .i64 k)/\W.cell? ⟨bo,1,none⟩=some (.int .i64 (ag+1))/\W.cell? ⟨bo,2,none⟩=some (.int .i64 mk)/\W.cell? ⟨bo,3,none⟩=some (.int .i64 sz)) (first | with_reducible exact HS6.out | with_reducible exact HSK6.out _ (Aside.of_below b7) | exact HSK6.out _ ((Aside.of_below (X:=fun k=>k=e.bW) b7).setCell rfl _)) (first | (go_at_call 118;refine (ko _).mono ?_;rintro ev w7 ⟨rfl,b7⟩;obtain ⟨⟨u7,c7⟩,f7⟩:=HC7.out w7 b7))
 obtain ⟨w8,hw8⟩:∃ w8,w8=w7.setCell ⟨e.bW,s.yt,none⟩ (.int .u64 hw):=⟨_,rfl⟩
 rw [<-hw8]
 have a7:Aside (· = e.bW) w6 w7:=(Aside.of_below (X:=fun k=>k=e.bW) (U01 _ _).drew).trans (Aside.of_below b7)
 have a8:Aside (· = e.bW) w6 w8:=by rw [hw8];exact a7.setCell rfl _
 have hB8:Blk e.bW 81 (Z05 (W6.set s.yt hw)) w8:=by
  rw [hw8,<-Z23]
  exact ((HH6.out.hW.below (w':=w6.drew) (U01 _ _).drew).below b7).set (by rw [Z3y];exact hl6) _
 have H8:=HH6.out.words a8 _ hB8
 have A8:Aside (fun k=>k=e.q\/k=e.bW) w w8:=A6.out.trans (a8.mono (fun k hk=>Or.inr hk))
 obtain ⟨nm,D,hnm,hM,hWe⟩:=HH.out.hm
 have hM8:=Z0f hM A8 (fun h=>by rcases h with h | h;exact hq2 h.symm;exact hq8 h)
 have kn:=Zhp (e.lo:Int) (e.hi:Int) e.bm nm f s.yt 0 D w8 (by omega) (by omega) (by omega) hM8 (U0x _) (U0x _)
 obtain ⟨d0,d1,d2,d3,_⟩:=H8.cells
 rw [<-HQ.out] at d0 d1 d2 d3
 have HH8:=Z00 H8
 have HA8:=Z00 A8
 have HWe:=Z00 hWe
 clear hw8 a7 a8 hB8 H8 A8 hM hM8 hWe b7 c7 f7 HC7 HS6 HSK6 HH6 A6 HN6
 go_wp2_with fail
 refine kn.mono ?_
 clear kn
 rintro ev w9 ⟨rfl,⟨n9,hn9,hM9⟩,b9,hf9⟩
 go_wp2_with fail
 go_end0
 have a9:Aside (· = e.bm) w8 w9:=⟨b9.os,b9.tape,b9.output,b9.size,hf9⟩
 have H9:=HH8.out
 rw [HNEW.out]
 refine ⟨rfl,⟨?_,?_,?_,?_,n9,_,?_,hM9,Zc0 HWe.out f s.yt⟩,(HA8.out.mono (fun k hk => ?_)).trans (a9.mono (fun k hk=>Or.inr (Or.inl hk)))⟩
 ·exact (a9.block _ (Z01 H9.hq) hq2).trans H9.hq
 ·exact (a9.block _ (Z01 H9.hp) hq5).trans H9.hp
 ·have h:=H9.hW.aside a9 (fun h=>hq8 h.symm)
  rw [HW6.out] at h
  exact h
 ·exact H9.hC.aside a9 (fun h=>hq9 h.symm)
 ·show n9<=s.yt+n+s.gt
  omega
 ·rcases hk with hk | hk
  ·exact Or.inl hk
  ·exact Or.inr (Or.inr (Or.inl hk))
end
end Go.Proofs.YtlkcbdinlfeoiaaGreatDoor
