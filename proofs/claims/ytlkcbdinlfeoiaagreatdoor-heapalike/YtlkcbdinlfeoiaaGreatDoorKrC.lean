/- Package heap by contracts: made, pointer, field. -/
import Derived.Test.YtlkcbdinlfeoiaaGreatDoorKrB
namespace Go.Proofs.YtlkcbdinlfeoiaaGreatDoor
open Go.Proofs.Tryz Go.RowKit
set_option maxHeartbeats 8000000
set_option maxRecDepth 100000
section
open Go.Maps
variable {h:HP}{sr:Int}{m:MD}{w w':World}{a:Nat->Addr}{w0:World}{M:MO}{X:MXtra}
structure ObjAt (m:MD) (M:MO) (r:Nat) (c:CL) (f:Nat) (d:ND):Prop where
 four:c.kind=4
 has:M.N[c.ref]?=some d
 root:m.R[r]?=some (((f:Int)+1)*4)
 fits:f+1+szN (m.F f)<=m.W.length
 head:Z0t (m.F f)=true
 kind:m.F f / 4 % 256=d.kind
 size:szN (m.F f)=if d.kind<8 then d.raw.length else d.f.length
theorem HM.rootIs (hm:HM m sr M X) {r:Nat}{c:CL} (hj:M.R[r]?=some c):(c.kind≠4 /\ ∃ x,m.R[r]?=some x/\0<=x/\x<18446744073709551616/\x % 4≠0) \/ ∃ f d,ObjAt m M r c f d:=by
 obtain ⟨vs,S,φ,hr,hw⟩:=hm
 have hc:=U0a hj
 have hx:m.R[r]?=some (wdC φ c):=by rw [hr.rel.roots,U0g,hj];rfl
 by_cases h4:c.kind=4
 ·right
  have hs:=hr.rel.rin c hc h4
  obtain ⟨d,h1,hv,h3,h4',h5⟩:=hr.rel.has _ hs
  obtain ⟨k1,k2⟩:=hr.shape.fine _ hv
  refine ⟨φ c.ref,d,h4,h1,?_,k2,k1,h3,?_⟩
  ·rw [hx];unfold wdC;rw [U09 h4]
  ·have e:(Z07 m.F (φ c.ref)).length=szN (m.F (φ c.ref)):=by unfold Z07;simp
   rw [<-e,h4']
   unfold wdN
   split
   ·rfl
   ·rw [U0v]
 ·left
  obtain ⟨_,k1,k2⟩:=hr.word (fun q=>absurd q h4) (hr.ok.roots c hc)
  refine ⟨h4,_,hx,k1,k2,?_⟩
  unfold wdC
  rw [U08 h4]
  split <;> omega
theorem HS.wordAt (s:HS a w0 h sr m M X w) {f:Nat} (hf:f<m.W.length):w.cell? ⟨h.bW,f,none⟩=some (.int .u64 (m.F f)):=by
 refine s.at'.hW.cell ?_
 unfold Z05 MD.F
 rw [U0g,U07,U03 hf]
 rfl
theorem HS.wlen (s:HS a w0 h sr m M X w):m.W.length<=300000:=by obtain ⟨_,n1,_,n3,_,_,_,_,_,n9,_⟩:=s.nums;omega
theorem HS.range (s:HS a w0 h sr m M X w) {f:Nat} (hf:f<m.W.length):0<=m.F f/\m.F f<18446744073709551616:=by
 obtain ⟨l1,l2,rt⟩:=s.hm.right
 exact Z5c rt.h64 f hf
theorem Z41 {r:Nat}{x:Int}{l:List Int} (h:l[r]?=some x):l.getD r 0=x/\r<l.length:=⟨by rw [U07,h];rfl,(U0e.1 h).1⟩
theorem HS.objectOk (s:HS a w0 h sr m M X w) {r f:Nat}{c:CL}{d:ND} (o:ObjAt m M r c f d):Calls prog 121 #[.pointer (some ⟨h.q,0,none⟩),.int .u64 (((f:Int)+1)*4)] w fun ev w'=>ev = .returned (.tuple #[.int .i64 (f:Int),Z1o (m.F f),.bool true])/\Below w.heap.size w w':=by
 have hf:f<m.W.length:=by have:=o.fits;omega
 obtain ⟨k0,k1⟩:=s.range hf
 exact Zhx h.q h.p h.bW m.W.length h.cW f (m.F f) hf s.wlen k0 k1 o.head w s.at'.c0 s.at'.cm.c3 (s.wordAt hf)
theorem Zhg (s:HS a w0 h sr m M X w) {r f:Nat}{c:CL}{d:ND} (o:ObjAt m M r c f d) (h8:¬ d.kind<8) :
  Calls prog 122 #[.pointer (some ⟨h.q,0,none⟩),.int .i64 (r:Int)] w fun ev w'=>ev = .returned (.tuple #[.int .i64 ((f:Int)+1),.int .i64 (szN (m.F f):Int),.nilIface])/\Below w.heap.size w w':=by
 obtain ⟨e1,hr⟩:=Z41 o.root
 have kr:=s.rootOk hr
 rw [e1] at kr
 have hwl:=s.wlen
 have hfl:=o.fits
 have ko:=s.objectOk o
 unfold Z1o at ko
 have hsz:m.F f / 65536=(szN (m.F f):Int):=by
  have hf:f<m.W.length:=by omega
  have:=(s.range hf).1
  unfold szN;omega
 rw [hsz,o.kind] at ko
 have kd0:0<=d.kind:=by have:=o.kind;omega
 have kraw:=fun w=>Z21 d.kind kd0 w
 rw [U0k h8] at kraw
 have ew:IntKind.i64.wrap ((f:Int)+1)=(f:Int)+1:=Z18 _ (by omega) (by omega)
 obtain ⟨q,hq⟩:∃ q,q=h.q:=⟨_,rfl⟩
 rw [<-hq] at kr ko ⊢
 obtain ⟨x,hx⟩:∃ x,x=((f:Int)+1)*4:=⟨_,rfl⟩
 rw [<-hx] at kr ko
 generalize m.F f / 1024 % 16=g1 at ko
 generalize m.F f / 16384 % 2=g2 at ko
 generalize szN (m.F f)=sz at *
 generalize d.kind=kd at *
 clear s o hx hq hr h8 kd0 hsz hfl
 go_enter func122,ntmps122
 go_wp2_with fail
 refine kr.mono ?_
 clear kr
 rintro ev w1 ⟨rfl,rfl⟩
 go_wp2_with fail
 refine ko.mono ?_
 clear ko
 rintro ev w2 ⟨rfl,b2⟩
 have HB2:=Z00 b2
 obtain ⟨w3,hw3⟩:∃ w3,w3=w2.alloc (.cells #[.int .i64 kd,.int .i64 g1,.int .i64 g2,.int .i64 (sz:Int)] 172):=⟨_,rfl⟩
 have n3:w3.heap[w2.heap.size]?=some (.cells #[.int .i64 kd,.int .i64 g1,.int .i64 g2,.int .i64 (sz:Int)] 172):=by rw [hw3];exact U0b _ _
 have HB3:Hid (Below w1.heap.size w1 w3):=by rw [hw3];exact HB2.out.alloc HB2.out.size _
 obtain ⟨r0,r1,r2,r3,rf⟩:=Z0e n3
 have HW3:=Z00 hw3
 clear b2 hw3 n3 rf
 go_upto_region 5 with fail
 rw [<-HW3.out]
 go_wp2_with fail
 refine (kraw _).mono ?_
 rintro ev w4 ⟨rfl,e4⟩
 rw [e4]
 clear e4 w4 kraw
 go_wp2_with fail
 go_quiet (fail)
 go_wp2_with fail
 go_ret3
 exact ⟨rfl,Z03 HB3.out⟩
theorem Zdg (s:HS a w0 h sr m M X w) {r f k:Nat}{c:CL}{d:ND} (o:ObjAt m M r c f d) (h8:¬ d.kind<8) (hk:k<d.f.length) :
  Calls prog 74 #[.pointer (some ⟨h.q,0,none⟩),.int .i64 (r:Int),.int .i64 (k:Int)] w fun ev w'=>ev = .returned (.tuple #[.int .i64 ((f+1+k:Nat):Int),.nilIface])/\Below w.heap.size w w':=by
 have km:=Zhg s o h8
 have hsz:szN (m.F f)=d.f.length:=by rw [o.size,U08 h8]
 have hwl:=s.wlen
 have hfl:=o.fits
 rw [hsz] at km hfl
 have kw:=fun w=>Z0z (k:Int) 0 ((d.f.length:Int) - 1) w
 rw [show (decide (0<=(k:Int)) && decide ((k:Int)<=(d.f.length:Int) - 1))=true by simp;omega] at kw
 have e1:IntKind.i64.wrap ((d.f.length:Int) - 1)=(d.f.length:Int) - 1:=Z18 _ (by omega) (by omega)
 have e2:IntKind.i64.wrap ((f:Int)+1+(k:Int))=((f+1+k:Nat):Int):=by rw [Z18 _ (by omega) (by omega)];omega
 obtain ⟨q,hq⟩:∃ q,q=h.q:=⟨_,rfl⟩
 rw [<-hq] at km ⊢
 generalize d.f.length=L at *
 obtain ⟨z,hz⟩:∃ z:Int,z=((f+1+k:Nat):Int):=⟨_,rfl⟩
 rw [<-hz] at e2 ⊢
 clear s o hq h8 hsz hz hfl hk
 go_enter func74,ntmps74
 go_wp2_with fail
 refine km.mono ?_
 clear km
 rintro ev w1 ⟨rfl,b1⟩
 have HB1:=Z00 b1
 clear b1
 go_wp2_with fail
 refine (kw _).mono ?_
 rintro ev w4 ⟨rfl,e4⟩
 rw [e4]
 clear e4 w4 kw
 go_wp2_with fail
 go_ret2
 exact ⟨rfl,HB1.out⟩
theorem Z95 (s:HS a w0 h sr m M X w) {r f:Nat}{c:CL}{d:ND} (o:ObjAt m M r c f d) :
  Calls prog 72 #[.pointer (some ⟨h.q,0,none⟩),.int .i64 (r:Int)] w fun ev w'=>ev = .returned (.tuple #[.int .u64 (((f:Int)+1)*4),.nilIface])/\Below w.heap.size w w':=by
 obtain ⟨e1,hr⟩:=Z41 o.root
 have kr:=s.rootOk hr
 rw [e1] at kr
 have ko:=s.objectOk o
 unfold Z1o at ko
 obtain ⟨q,hq⟩:∃ q,q=h.q:=⟨_,rfl⟩
 rw [<-hq] at kr ko ⊢
 obtain ⟨x,hx⟩:∃ x,x=((f:Int)+1)*4:=⟨_,rfl⟩
 rw [<-hx] at kr ko ⊢
 generalize m.F f / 1024 % 16=g1 at ko
 generalize m.F f / 16384 % 2=g2 at ko
 generalize m.F f / 65536=sz at ko
 generalize m.F f / 4 % 256=kd at ko
 clear s o hx hq hr
 go_enter func72,ntmps72
 go_wp2_with fail
 refine kr.mono ?_
 clear kr
 rintro ev w1 ⟨rfl,rfl⟩
 go_wp2_with fail
 refine ko.mono ?_
 clear ko
 rintro ev w2 ⟨rfl,b2⟩
 have HB3:Hid (Below w1.heap.size w1 (w2.alloc (.cells #[.int .i64 kd,.int .i64 g1,.int .i64 g2,.int .i64 sz] 172))):=b2.alloc b2.size _
 clear b2
 go_wp2_with fail
 go_ret2
 exact ⟨rfl,HB3.out⟩
end
section
open Go.Maps
variable {h:HP}{sr:Int}{m:MD}{w w':World}{a:Nat->Addr}{w0:World}{M:MO}{X:MXtra}
theorem HAt.setCard (H:HAt h sr m w) {j:Nat} (hj:j<m.C.length) (x:Bool):HAt h sr (m.setC j x) (w.setCell ⟨h.bC,j,none⟩ (.bool x)):=by
 have tC:=H.tC
 have ha:Aside (fun k=>k=h.bC) w (w.setCell ⟨h.bC,j,none⟩ (.bool x)):=(Aside.refl (fun k=>k=h.bC) w).setCell (g:=h.bC) rfl _
 have hs:=H.hC.set (j:=j) (by unfold Z0s;rw [U0v];exact hj) (.bool x)
 refine ⟨(ha.block _ H.tq.lt (H.tq.ne tC (by decide))).trans H.hq,?_,H.hW.aside ha (H.tW.ne tC (by decide)),?_,H.cap,?_,H.R.aside ha (fun g hg=>(Z4i H.R hg).ne tC (by decide)),?_,?_,H.rk,H.rb,H.kb⟩
 ·show MB _ _ _ _ _ _ _ _ _ _ _ (.slice _ (m.C.set j x).length _) _
  rw [U0t]
  exact (ha.block _ H.tp.lt (H.tp.ne tC (by decide))).trans H.mb
 ·show Blk _ _ (Z0s (m.C.set j x)) _
  rw [<-Zb7];exact hs
 ·show (m.C.set j x).length<=_
  rw [U0t];exact H.capC
 ·exact Z04 H.K (fun k hk=>ha.block k (Z08 H.K k hk).2 ((Z25 H.K hk).ne tC (by decide)))
 ·exact Z04 H.I (fun k hk=>ha.block k (Z08 H.I k hk).2 ((Z25 H.I hk).ne tC (by decide)))
theorem HAt.cardAt (H:HAt h sr m w) {j:Nat} (hj:j<m.C.length):w.cell? ⟨h.bC,j,none⟩=some (.bool (m.Cf j)):=by
 refine H.hC.cell ?_
 unfold Z0s MD.Cf
 rw [U0g,U07,U03 hj]
 rfl
theorem Zl0 (H:HAt h sr m w) (hF:m.FitsM) (y:Nat) (hyl:y<m.W.length) (x:Int) (hx:m.F y=x) (x0:0<=x) (x1:x<18446744073709551616) (E:WErr a w) :
  Calls prog 75 #[.pointer (some ⟨h.p,0,none⟩),.int .i64 (y:Int)] w fun ev w'=>ev = .returned (.tuple #[])/\HAt h sr (m.mark y) w'/\Nxt h h w w':=by
 have hnum:=hF.nums
 unfold Z0c at hnum
 have hw:=hF.w
 have hy3:y<=300000:=by omega
 have dy:w.cell? ⟨h.bW,y,none⟩=some (.int .u64 x):=by
  refine H.hW.cell ?_
  rw [<-hx]
  unfold Z05 MD.F
  rw [U0g,U07,U03 hyl]
  rfl
 have M0:=H.cm
 obtain ⟨bx,hbx⟩:∃ bx,bx=h.p:=⟨_,rfl⟩
 obtain ⟨g,hg⟩:∃ g,g=h.bW:=⟨_,rfl⟩
 obtain ⟨gc,hgc⟩:∃ gc,gc=h.bC:=⟨_,rfl⟩
 rw [<-hbx,<-hg,<-hgc] at M0
 rw [<-hg] at dy
 have c0:w.cell? ⟨bx,0,none⟩=some (.int .i64 m.half):=M0.c0
 have c3:=M0.c3
 have km:Hid (∀ q,Calls prog 123 #[.pointer (some ⟨bx,0,none⟩)] (w.drewN q) fun ev w'=>ev = .returned (.bool true) /\ ∃ n,w'=(w.drewN q).drewN n):=fun q=>Z3d bx m.half m.old m.card m.W.length m.C.length h.cW h.cC _ _ m.used m.top m.oldTop _ _ _ hF (w.drewN q) (M0.below (Z03 (U01 _ _)) (Z02 c0))
 have ko:Hid (∀ q,Calls prog 85 #[.pointer (some ⟨bx,0,none⟩)] (w.drewN q) fun ev w'=>ev = .returned (.int .i64 (2*m.half))/\w'=w.drewN q):=fun q=>Z0v bx m.half (by omega) (by omega) (w.drewN q) c0
 have ky:Hid (∀ q,Calls prog 125 #[.pointer (some ⟨bx,0,none⟩),.int .u64 x] (w.drewN q) fun ev w'=>ev = .returned (.bool (Z14 m.half x)) /\ ∃ n,w'=(w.drewN q).drewN n):=fun q=>Z8y a bx m.half x (by omega) (by omega) x0 x1 (w.drewN q) (E.below (Z03 (U01 _ _))) c0
 have kw:Hid (∀ W,Calls prog 124 #[.int .i64 (y:Int),.int .i64 (2*m.half),.int .i64 ((m.W.length:Int) - 1)] W fun ev w'=>ev = .returned (.bool (decide (2*m.half<=(y:Int))))/\w'=W):=fun W=>by
  have h:=Z3j (y:Int) (2*m.half) ((m.W.length:Int) - 1) W
  rw [U0d (show (y:Int)<=(m.W.length:Int) - 1 by omega),Bool.and_true] at h
  exact h
 have e1:IntKind.i64.wrap ((m.W.length:Int) - 1)=(m.W.length:Int) - 1:=Z18 _ (by omega) (by omega)
 have hI:(y:Int)<(m.W.length:Int):=by omega
 have hI0:(0:Int)<=(y:Int):=by omega
 have HX:=Z00 hx
 have HH:=Z00 H
 have HG:=Z00 hgc
 rw [<-hbx]
 clear H E hx hw hbx hg
 by_cases hold:2*m.half<=(y:Int)
 ·rw [U0d hold] at kw
  cases hyo:Z14 m.half x with
  | true =>
   rw [hyo] at ky
   have HPU:Hid (m.mark y=m.setC (Z35 m.half m.card y) true):=by show _=_;unfold MD.mark;rw [U09 ⟨hold,by rw [HX.out];exact hyo⟩]
   clear hyo
   obtain ⟨d,j,hd,hj,hjl,hcn⟩:=Zc4 hF hold hyl
   have d2:w.cell? ⟨bx,2,none⟩=some (.int .i64 m.card):=M0.c2
   have d10:w.cell? ⟨bx,10,none⟩=some (.slice (some ⟨gc,0,none⟩) m.C.length h.cC):=M0.c10
   have dj:w.cell? ⟨gc,j,none⟩=some (.bool (m.Cf j)):=by rw [HG.out];exact HH.out.cardAt hjl
   have dfj:w.frozen? ⟨gc,j,none⟩=false:=by rw [HG.out];exact HH.out.hC.frozen j
   have hJ:(j:Int)<(m.C.length:Int):=by omega
   have hJ0:(0:Int)<=(j:Int):=by omega
   have HCN:=Z00 hcn
   have HJL:=Z00 hjl
   have kc:Hid (∀ W,Below w.heap.size w W->Calls prog 126 #[.pointer (some ⟨bx,0,none⟩),.int .i64 (y:Int)] W fun ev w'=>ev = .returned (.int .i64 (j:Int)) /\ ∃ n,w'=W.drewN n):=fun W hW=>Z5h bx m.half m.card y d j (by omega) (by omega) (by omega) hy3 hd hj W ((hW.cell (p:=⟨bx,0,none⟩) (Z02 c0)).trans c0) ((hW.cell (p:=⟨bx,2,none⟩) (Z02 d2)).trans d2)
   clear hd hj hcn hgc M0
   go_enter func75,ntmps75
   go_wp2_with fail
   go_quiet (first | (go_at_call 123;exact U1a (km.out _)) | (go_at_call 85;exact U0q (ko.out _)) | (go_at_call 124;exact U0q (kw.out _)) | (go_at_call 125;exact U1a (ky.out _)))
   go_upto_region 1 with fail
   obtain ⟨w5,hw5⟩:∃ w5,w5=w.drewN nq:=⟨_,rfl⟩
   rw [<-hw5]
   have hb5:Below w.heap.size w w5:=by rw [hw5];exact Z03 (U01 _ _)
   have d10:w5.cell? ⟨bx,10,none⟩=some (.slice (some ⟨gc,0,none⟩) m.C.length h.cC):=(hb5.cell (p:=⟨bx,10,none⟩) (Z02 d10)).trans d10
   have dj5:w5.cell? ⟨gc,j,none⟩=some (.bool (m.Cf j)):=(hb5.cell (p:=⟨gc,j,none⟩) (Z02 dj)).trans dj
   have df5:=(hb5.frozen (p:=⟨gc,j,none⟩) (Z02 dj)).trans dfj
   have ldj:=Z02 dj5
   have ld10:=Z02 d10
   have kc:Hid (∀ W,Below w5.heap.size w5 W->Calls prog 126 #[.pointer (some ⟨bx,0,none⟩),.int .i64 (y:Int)] W fun ev w'=>ev = .returned (.int .i64 (j:Int))/\Below w5.heap.size w5 w'):=fun W hW=>by
    refine (kc.out W (hb5.trans (hW.mono hb5.size))).mono ?_
    rintro ev w9 ⟨rfl,n,hq⟩
    exact ⟨rfl,by rw [hq];exact Z03 hW⟩
   have HB5:=Z00 hb5
   clear hw5 hb5 c0 c3 dy dj dfj d2
   go_region_with ((go_at_call 126;refine (kc.out _ (by first | exact (U01 _ _).drew | exact U01 _ _)).mono ?_;rintro ev w7 ⟨rfl,hb7⟩;have t10:=(hb7.cell (p:=⟨bx,10,none⟩) ld10).trans d10;have tj:=(hb7.cell (p:=⟨gc,j,none⟩) ldj).trans dj5;have tf:=(hb7.frozen (p:=⟨gc,j,none⟩) ldj).trans df5))
   all_goals go_wp2_with fail
   all_goals go_end0
   all_goals (
    have H7:=(HH.out.below (HB5.out.trans (hb7.mono HB5.out.size))).setCard HJL.out true
    have N7:Nxt h h w (w7.setCell ⟨h.bC,j,none⟩ (.bool true)):=(Nxt.of_below h (HB5.out.trans (hb7.mono HB5.out.size))).set (.inl (.inr (.inr (.inr (.inl rfl)))))
    rw [<-HG.out] at H7 N7
    refine ⟨rfl,?_,?_⟩
    ·rw [HPU.out,HCN.out];first | exact H7 | exact H7.below (U01 _ _).drew
    ·first | exact N7 | exact N7.below (U01 _ _).drew)
  | false =>
   rw [hyo] at ky
   have HPU:Hid (m.mark y=m):=by show _=_;unfold MD.mark;rw [U08 (fun h=>by rw [HX.out,hyo] at h;cases h.2)]
   clear hyo M0
   go_enter func75,ntmps75
   go_wp2_with fail
   go_quiet (first | (go_at_call 123;exact U1a (km.out _)) | (go_at_call 85;exact U0q (ko.out _)) | (go_at_call 124;exact U0q (kw.out _)) | (go_at_call 125;exact U1a (ky.out _)))
   go_wp2_with fail
   go_end0
   have hb5:Below w.heap.size w (w.drewN nq):=Z03 (U01 _ _)
   exact ⟨rfl,by rw [HPU.out];exact HH.out.below hb5,Nxt.of_below h hb5⟩
 ·rw [U0k hold] at kw
  have HPU:Hid (m.mark y=m):=by show _=_;unfold MD.mark;rw [U08 (fun h=>hold h.1)]
  clear M0
  go_enter func75,ntmps75
  go_wp2_with fail
  go_quiet (first | (go_at_call 123;exact U1a (km.out _)) | (go_at_call 85;exact U0q (ko.out _)) | (go_at_call 124;exact U0q (kw.out _)) | (go_at_call 125;exact U1a (ky.out _)))
  go_wp2_with fail
  go_end0
  have hb5:Below w.heap.size w (w.drewN nq):=Z03 (U01 _ _)
  exact ⟨rfl,by rw [HPU.out];exact HH.out.below hb5,Nxt.of_below h hb5⟩
end
section
open Go.Maps
variable {h:HP}{sr:Int}{m:MD}{w w':World}{a:Nat->Addr}{w0:World}{M:MO}{X:MXtra}
def MO.putN (M:MO) (i:Nat) (d:ND) (k:Nat) (v:CL):MO:={ M with N:=M.N.set i { d with f:=d.f.set k v } }
theorem Zlr {m:MD}{y:Nat}{x:Int} (h:y<m.W.length):(m.setW y x).F y=x:=by
 unfold MD.F MD.setW
 show (m.W.set y x).getD y 0=x
 rw [U07,U18 h]
 rfl
theorem Zll {m:MD}{y:Nat}{x:Int} (h:y<m.W.length):m.put y x=(m.setW y x).mark y:=by
 unfold MD.put MD.mark
 rw [Zlr h]
 rfl
theorem Zn2 {y:Nat}{x:Int} (F:m.FitsM):(m.setW y x).FitsM:=by
 unfold MD.FitsM MD.setW at *
 show Fits m.half m.old m.card (m.W.set y x).length m.C.length m.used m.top m.oldTop
 rw [U0t]
 exact F
theorem HAt.setWord (H:HAt h sr m w) {y:Nat} (hy:y<m.W.length) (x:Int):HAt h sr (m.setW y x) (w.setCell ⟨h.bW,y,none⟩ (.int .u64 x)):=by
 have hs:=H.hW.set (j:=y) (by rw [Z3y];exact hy) (.int .u64 x)
 rw [Z23] at hs
 exact H.words (by rw [U0t]) ((Aside.refl (fun k=>k=h.bW) w).setCell (g:=h.bW) rfl _) hs
theorem Zq5 (s:HS a w0 h sr m M X w) {r k j:Nat}{c v:CL}{d:ND} (hj:M.R[r]?=some c) (h4:c.kind=4) (hd:M.N[c.ref]?=some d) (h8:¬ d.kind<8) (hk:k<d.f.length) (hq:M.R[j]?=some v) :
  Calls prog 30 #[.pointer (some ⟨h.q,0,none⟩),.int .i64 (r:Int),.int .i64 (k:Int),.int .i64 (j:Int)] w fun ev w'=>ev = .returned .nilIface/\Stp a w0 h m (M.putN c.ref d k v) X w w':=by
 obtain ⟨f,x,e1,e2,e3,_,_,_,hm⟩:=s.hm.put hj h4 hd h8 hk hq
 obtain ⟨f',d',o⟩:∃ f d',ObjAt m M r c f d':=by
  rcases s.hm.rootIs hj with ⟨q,_⟩ | q
  ·exact absurd h4 q
  ·exact q
 obtain rfl:d=d':=by have:=o.has;rw [hd] at this;exact U1h this
 obtain rfl:f=f':=by have:=o.root;rw [e1] at this;have:=U1h this;omega
 obtain ⟨g2,hjl⟩:=Z41 e2
 have kr:=s.rootOk hjl
 rw [g2] at kr
 have kf:=Zdg s o h8 hk
 obtain ⟨l1,l2,rt⟩:=s.hm.right
 have hxr:=rt.h64.r x (U0a e2)
 have hWl:=s.wlen
 obtain ⟨y,hy⟩:∃ y,y=f+1+k:=⟨_,rfl⟩
 rw [<-hy] at e3 hm kf
 have HMk:Hid (∀ w1,HAt h sr (m.setW y x) w1->WErr a w1->Calls prog 75 #[.pointer (some ⟨h.p,0,none⟩),.int .i64 (y:Int)] w1 fun ev w'=>ev = .returned (.tuple #[])/\HAt h sr (m.put y x) w'/\Nxt h h w1 w'):=fun w1 H1 E1=>by
  have hx:=Zl0 H1 (Zn2 rt.S.1) y (by show y<(m.W.set y x).length;rw [U0t];exact e3) x (Zlr e3) hxr.1 hxr.2 E1
  rw [<-Zll e3] at hx
  exact hx
 have HIS:Hid (∀ w',Nxt h h w w'->HAt h sr (m.put y x) w'->Stp a w0 h m (M.putN c.ref d k v) X w w'):=fun w' N H=>by
  refine ⟨h,sr,_,N,?_,s.next N H hm s.kl s.rl⟩
  rw [Z51]
  exact ⟨rfl,rfl,rfl⟩
 have HSS:=Z00 s
 obtain ⟨q,hq'⟩:∃ q,q=h.q:=⟨_,rfl⟩
 obtain ⟨p,hp⟩:∃ p,p=h.p:=⟨_,rfl⟩
 obtain ⟨b,hb⟩:∃ b,b=h.bW:=⟨_,rfl⟩
 have HB:=Z00 hb
 have HC:Hid (∀ W,Nxt h h w W->HAt h sr m W->W.cell? ⟨q,0,none⟩=some (.pointer (some ⟨p,0,none⟩))/\W.cell? ⟨p,3,none⟩=some (.slice (some ⟨b,0,none⟩) m.W.length h.cW)):=fun W _ H=>⟨by rw [hq',hp];exact H.c0,by rw [hp,hb];exact H.cm.c3⟩
 have HP0:=Z00 hp
 have HQ:=Z00 hq'
 rw [<-hq'] at kr kf ⊢
 rw [<-hp] at HMk
 have hI:(y:Int)<(m.W.length:Int):=by omega
 have hI0:(0:Int)<=(y:Int):=by omega
 have HY:=Z00 e3
 clear s e1 o g2 hjl rt hxr hy hm hq' hp hb hj h4 hd h8 hk hq e2 e3
 go_enter func30,ntmps30
 go_wp2_with fail
 refine kr.mono ?_
 clear kr
 rintro ev w1 ⟨rfl,rfl⟩
 go_wp2_with fail
 refine kf.mono ?_
 clear kf
 rintro ev w2 ⟨rfl,b2⟩
 have s2:=HSS.out.below b2
 obtain ⟨d0,d3⟩:=HC.out w2 (Nxt.of_below h b2) s2.at'
 have cy:w2.cell? ⟨b,y,none⟩=some (.int .u64 (m.F y)):=by rw [HB.out];exact s2.wordAt HY.out
 have fy:w2.frozen? ⟨b,y,none⟩=false:=by rw [HB.out];exact s2.at'.hW.frozen y
 have H3:HAt h sr (m.setW y x) (w2.setCell ⟨b,y,none⟩ (.int .u64 x)):=by rw [HB.out];exact s2.at'.setWord HY.out x
 have N3:Nxt h h w1 (w2.setCell ⟨b,y,none⟩ (.int .u64 x)):=(Nxt.of_below h b2).set (.inl (.inr (.inr (.inl HB.out))))
 have d0':(w2.setCell ⟨b,y,none⟩ (.int .u64 x)).cell? ⟨q,0,none⟩=some (.pointer (some ⟨p,0,none⟩)):=by rw [HQ.out,HP0.out];exact H3.c0
 have E3:=(HSS.out.aenv N3.aside).we
 have km:=HMk.out _ H3 E3
 have HH3:=Z00 H3
 have HN3:=Z00 N3
 clear b2 s2 H3 N3 E3
 go_upto_region 8 with fail
 generalize w2.setCell ⟨b,y,none⟩ (.int .u64 x)=w3 at *
 clear d0 d3 cy fy
 go_wp2_with fail
 refine km.mono ?_
 clear km
 rintro ev w4 ⟨rfl,H4,N4⟩
 have HE:=Z00 (HIS.out w4 (HN3.out.trans N4) H4)
 clear H4 N4
 go_wp2_with fail
 go_ret
 exact ⟨rfl,HE.out⟩
theorem Zaa (s:HS a w0 h sr m M X w):Calls prog 26 #[.pointer (some ⟨h.q,0,none⟩)] w fun ev w'=>(ev = .returned (Z0p a 5)/\Below w.heap.size w w'/\m.old<(M.words:Int))\/(ev = .returned .nilIface/\Stp a w0 h m M X w w'):=by
 have k:=Ziq s
 clear s
 go_enter func26,ntmps26
 go_wp2_with fail
 refine k.mono ?_
 clear k
 rintro ev w1 (⟨rfl,hP⟩ | ⟨rfl,hP⟩)
 ·have HP':=Z00 hP
  clear hP
  go_wp2_with fail
  first | go_ret | skip
  exact .inl ⟨rfl,HP'.out⟩
 ·have HP':=Z00 hP
  clear hP
  go_wp2_with fail
  first | go_ret | skip
  exact .inr ⟨rfl,HP'.out⟩
theorem Zan (s:HS a w0 h sr m M X w):Calls prog 27 #[.pointer (some ⟨h.q,0,none⟩)] w fun ev w'=>(ev = .returned (Z0p a 5)/\Below w.heap.size w w'/\m.old<(M.words:Int))\/(ev = .returned .nilIface/\Zsk a w0 h m M X w w'):=by
 have k:=Z5k s
 clear s
 go_enter func27,ntmps27
 go_wp2_with fail
 refine k.mono ?_
 clear k
 rintro ev w1 (⟨rfl,hP⟩ | ⟨rfl,hP⟩)
 ·have HP':=Z00 hP
  clear hP
  go_wp2_with fail
  first | go_ret | skip
  exact .inl ⟨rfl,HP'.out⟩
 ·have HP':=Z00 hP
  clear hP
  go_wp2_with fail
  first | go_ret | skip
  exact .inr ⟨rfl,HP'.out⟩
end
section
open Go.Maps
variable {h:HP}{sr:Int}{m:MD}{w w':World}{a:Nat->Addr}{w0:World}{M:MO}{X:MXtra}
theorem Zfr (a:Nat->Addr) (half old card tn:Int) (n:Nat) (w:World) (E:HEnv a w) (H:Zdf half old card tn n) :
  Calls prog 11 #[.agg #[.int .i64 half,.int .i64 old,.int .i64 card,.int .i64 tn],.int .i64 (n:Int)] w fun ev w' => ∃ h m,ev = .returned (.tuple #[.pointer (some ⟨h.q,0,none⟩),.nilIface])/\HS a w h 0 m (MO.new n) MXtra.new w'/\m.half=half/\m.old=old/\m.card=card:=by
 obtain ⟨hn,t0,t1,r0,r1⟩:=H
 have hn':=hn
 unfold Z0c at hn'
 have hq0:0<=(old+card - 1) / card:=U45 (by omega) (by omega)
 obtain ⟨nW,hW⟩:∃ nW:Nat,(nW:Int)=2*half+old:=⟨(2*half+old).toNat,by omega⟩
 obtain ⟨nC,hC⟩:∃ nC:Nat,(nC:Int)=(old+card - 1) / card:=⟨((old+card - 1) / card).toNat,by omega⟩
 refine (Zrz half old card tn n nW nC hW hC ⟨hn,t0,t1,r0,r1⟩ w).mono ?_
 rintro ev w' ⟨q,p,g,rfl,k1,k2,k3,hb,I⟩
 have eW:Array.replicate nW (Value.int .u64 0)=(Z05 (List.replicate nW 0)).toArray:=by unfold Z05;simp
 have eR:Array.replicate n (Value.int .u64 2)=(Z05 (List.replicate n 2)).toArray:=by unfold Z05;simp
 have eC:Array.replicate nC (Value.bool false)=(Z0s (List.replicate nC false)).toArray:=by unfold Z0s;simp
 refine ⟨⟨q,p,p+1,p+2,nW,nC,tn,.slice (some ⟨g,0,none⟩) n n,.slice none 0 0,.slice none 0 0⟩,Z9j half old card nW nC n,rfl,⟨⟨I.hq,?_,⟨[],?_⟩,⟨[],?_⟩,?_,?_,?_,⟨rfl,.inl ⟨rfl,rfl⟩⟩,⟨rfl,.inl ⟨rfl,rfl⟩⟩,?_,?_,?_⟩,newHM hn hW hC,E,hb,?_,t0,t1,?_,?_⟩,rfl,rfl,rfl⟩
 ·unfold MB
  have h:=I.hp
  show _=some (Obj.cells #[_,_,_,.slice _ (List.replicate nW (0:Int)).length _,_,_,_,_,_,_,.slice _ (List.replicate nC false).length _] _)
  rw [U17,U17]
  exact h
 ·rw [U16]
  show _=some (Obj.cells (Z05 (List.replicate nW 0)).toArray _)
  rw [<-eW];exact I.hW
 ·rw [U16]
  show _=some (Obj.cells (Z0s (List.replicate nC false)).toArray _)
  rw [<-eC];exact I.hC
 ·show (List.replicate nW (0:Int)).length<=nW
  simp
 ·show (List.replicate nC false).length<=nC
  simp
 ·refine ⟨some ⟨g,0,none⟩,n,?_,?_,?_,fun _=>⟨g,rfl,[],?_⟩⟩
  ·show Value.slice _ n n=Value.slice _ (List.replicate n (2:Int)).length n
   rw [U17]
  ·show (List.replicate n (2:Int)).length<=n
   simp
  ·show (Z05 (List.replicate n 2)).length=(List.replicate n (2:Int)).length*1
   rw [Z3y];simp
  ·rw [U16]
   show _=some (Obj.cells (Z05 (List.replicate n 2)).toArray _)
   rw [<-eR];exact I.hR
 ·intro g' _ e
  cases e
 ·intro g' hg e
  have e1:=Zbs hg
  have e:g'=p+1:=e
  omega
 ·intro e
  cases e
 ·intro k hk
  rcases hk with hk | hk | hk | hk | hk | hk | hk
  ·have hk:k=q:=hk;omega
  ·have hk:k=p:=hk;omega
  ·have hk:k=p+1:=hk;omega
  ·have hk:k=p+2:=hk;omega
  ·have e1:=Zbs hk;omega
  ·cases hk
  ·cases hk
 ·show 0<=5000
  omega
 ·show (List.replicate n _).length<=5000
  rw [U17];omega
structure Ring (M:MO) (i:Nat):Prop where
 r0:M.R[0]?=some ⟨4,0,0⟩
 r1:M.R[1]?=some ⟨4,0,i - 1⟩
 rl:M.R.length=3
 nl:M.N.length=i
 n0:M.N[0]?=some (mkN 9 1)
 nk:∀ k,0<k->k<i->M.N[k]?=some ⟨9,[],[⟨4,0,k - 1⟩]⟩
theorem Zch {M:MO} (h:∀ d∈M.N,ndW d=2):M.total=2*M.N.length:=by
 unfold MO.total
 have:∀ l:List ND,(∀ d∈l,ndW d=2)->(l.map ndW).sum=2*l.length:=fun l hl=>by
  induction l with
  | nil=>rfl
  | cons d l ih =>
   rw [U1f,U32,hl d (by simp),ih (fun x hx=>hl x (by simp [hx])),U1e]
   omega
 exact this M.N h
theorem Ring.total {i:Nat} (R:Ring M i):M.total=2*i:=by
 rw [Zch (fun d hd => ?_),R.nl]
 obtain ⟨k,hk⟩:=U1z hd
 have hl:=(U0e.1 hk).1
 rw [R.nl] at hl
 rcases U26 k with rfl | h0
 ·rw [R.n0] at hk;cases hk;rfl
 ·rw [R.nk k h0 hl] at hk;cases hk;rfl
theorem Ring.begin:Ring (((MO.new 3).made 0 (mkN 9 1)).set 1 ⟨4,0,0⟩) 1:=⟨rfl,rfl,rfl,rfl,rfl,fun k h0 h1=>by omega⟩
def Zrm (M:MO) (i:Nat):MO:=(((M.made 2 (mkN 9 1)).putN i (mkN 9 1) 0 ⟨4,0,i - 1⟩).set 1 ⟨4,0,i⟩)
theorem Ring.next {i:Nat} (hi:1<=i) (R:Ring M i):(M.made 2 (mkN 9 1)).R[2]?=some ⟨4,0,i⟩/\(M.made 2 (mkN 9 1)).N[i]?=some (mkN 9 1)/\(M.made 2 (mkN 9 1)).R[1]?=some ⟨4,0,i - 1⟩/\Ring (Zrm M i) (i+1):=by
 have hR:(M.made 2 (mkN 9 1)).R=M.R.set 2 ⟨4,0,i⟩:=by show M.R.set 2 ⟨4,0,M.N.length⟩=_;rw [R.nl]
 have hN:(M.made 2 (mkN 9 1)).N=M.N ++ [mkN 9 1]:=rfl
 have hN2:(Zrm M i).N=M.N ++ [⟨9,[],[⟨4,0,i - 1⟩]⟩]:=by
  show (M.N ++ [mkN 9 1]).set i _=_
  rw [List.set_append_right _ _ (by rw [R.nl];exact U02 _),R.nl,U28]
  rfl
 have hR2:(Zrm M i).R=(M.R.set 2 ⟨4,0,i⟩).set 1 ⟨4,0,i⟩:=by show (M.made 2 (mkN 9 1)).R.set 1 _=_;rw [hR]
 have hl:=R.rl
 refine ⟨?_,?_,?_,⟨?_,?_,?_,?_,?_,?_⟩⟩
 ·rw [hR,U18 (by omega)]
 ·rw [hN,U12 (by rw [R.nl];exact U02 _),R.nl,U28];rfl
 ·rw [hR,U1c (by omega)];exact R.r1
 ·rw [hR2,U1c (by omega),U1c (by omega)];exact R.r0
 ·rw [hR2,U18 (by rw [U0t];omega)];rfl
 ·rw [hR2,U0t,U0t];exact hl
 ·rw [hN2,U0f,R.nl];rfl
 ·rw [hN2,U10 (by rw [R.nl];omega)];exact R.n0
 ·intro k h0 h1
  rw [hN2]
  by_cases hk:k<i
  ·rw [U10 (by rw [R.nl];exact hk)];exact R.nk k h0 hk
  ·obtain rfl:k=i:=by omega
   rw [U12 (by rw [R.nl];exact U02 _),R.nl,U28];rfl
def Z4q (M:MO) (n:Nat) (keep:Bool):MO:=let M1:=((M.putN 0 (mkN 9 1) 0 ⟨4,0,n - 1⟩).set 1 (clK 0)).set 2 (clK 0);if keep then M1 else M1.set 0 (clK 0)
theorem Ring.keeps {n:Nat} (hn:1<=n) (R:Ring M n) (hm:HM m sr (Z4q M n true) X):(Z4q M n true).words=2*n:=by
 have hN:(Z4q M n true).N=M.N.set 0 ⟨9,[],[⟨4,0,n - 1⟩]⟩:=rfl
 have hR:(Z4q M n true).R=(M.R.set 1 (clK 0)).set 2 (clK 0):=rfl
 have hnl:(Z4q M n true).N.length=n:=by rw [hN,U0t];exact R.nl
 have h0:(Z4q M n true).N[0]?=some ⟨9,[],[⟨4,0,n - 1⟩]⟩:=by rw [hN,U18 (by rw [R.nl];omega)]
 have hk:∀ k,0<k->k<n->(Z4q M n true).N[k]?=some ⟨9,[],[⟨4,0,k - 1⟩]⟩:=fun k h1 h2=>by rw [hN,U1c (by omega)];exact R.nk k h1 h2
 obtain ⟨_,_,a3,a4⟩:=hm.all
 have i0:0∈(Z4q M n true).all:=a3 ⟨4,0,0⟩ (by
  refine U0a (i:=0) ?_
  rw [hR,U1c (by omega),U1c (by omega)]
  exact R.r0) rfl
 have il:n - 1∈(Z4q M n true).all:=a4 0 i0 _ h0 (by show ¬ (9:Int)<8;decide) ⟨4,0,n - 1⟩ (by simp) rfl
 have ia:∀ j,j<n->n - 1 - j∈(Z4q M n true).all:=fun j=>by
  induction j with
  | zero=>exact fun _=>il
  | succ j ih =>
   intro hj
   have h1:=ih (by omega)
   have h2:=a4 _ h1 _ (hk _ (by omega) (by omega)) (by show ¬ (9:Int)<8;decide) ⟨4,0,n - 1 - j - 1⟩ (by simp) rfl
   exact h2
 rw [hm.whole (fun i hi=>by
  rw [hnl] at hi
  have:=ia (n - 1 - i) (by omega)
  rw [show n - 1 - (n - 1 - i)=i by omega] at this
  exact this),Zch (fun d hd => ?_),hnl]
 obtain ⟨k,hk'⟩:=U1z hd
 have hl:=(U0e.1 hk').1
 rw [hnl] at hl
 rcases U26 k with rfl | hp
 ·rw [h0] at hk';cases hk';rfl
 ·rw [hk k hp hl] at hk';cases hk';rfl
theorem Ring.gone {n:Nat} (R:Ring M n):(Z4q M n false).words=0:=by
 refine Zja (fun c hc => ?_)
 have hR:(Z4q M n false).R=((M.R.set 1 (clK 0)).set 2 (clK 0)).set 0 (clK 0):=rfl
 rw [hR] at hc
 obtain ⟨k,hk⟩:=U1z hc
 have hl:=(U0e.1 hk).1
 rw [U0t,U0t,U0t,R.rl] at hl
 have hl3:=R.rl
 rcases (by omega:k=0\/k=1\/k=2) with rfl | rfl | rfl
 ·rw [U18 (by simp [R.rl])] at hk;cases hk;decide
 ·rw [U1c (by omega),U1c (by omega),U18 (by omega)] at hk;cases hk;decide
 ·rw [U1c (by omega),U18 (by rw [U0t];omega)] at hk;cases hk;decide
end
section
open Go.Maps
variable {h:HP}{sr:Int}{m:MD}{w w':World}{a:Nat->Addr}{w0:World}{M:MO}{X:MXtra}
theorem Zhb:∃ i,prog.info? 81=some i/\i.zero=some (.int .u64 0)/\i.size=1/\i.bytes=8:=U3g (by kernel_rfl)
theorem HAt.weakly (H:HAt h sr m w) {w1:World}{v':Value}{x:Int} (g:w.grownBy w1 h.vK.ownBlock) (hv:∀ k,v'.ownBlock=some k->h.vK.ownBlock=some k\/w.heap.size<=k) (o:w1.ownsRow 0 81 1 v' (m.K.length+1) (Z05 m.K ++ [.int .u64 x])) :
  HAt { h with vK:=v' } sr { m with K:=m.K ++ [x] } (w1.setCell ⟨h.p,8,none⟩ v')/\Nxt h { h with vK:=v' } w (w1.setCell ⟨h.p,8,none⟩ v'):=by
 have hk0:∀ k,h.vK.ownBlock=some k->k≠h.q/\k≠h.p/\k≠h.bW/\k≠h.bC /\ ¬ Z1n h.vR k /\ ¬ h.vI.ownBlock=some k:=fun k hk=>by
  have t:=Z25 H.K hk
  exact ⟨t.ne H.tq (by decide),t.ne H.tp (by decide),fun e=>H.kb (by rw [hk,e]),t.ne H.tC (by decide),fun e=>H.rk k e hk,fun e=>(Z25 H.I e).ne t (by decide) rfl⟩
 have ha:Aside (fun k=>h.vK.ownBlock=some k) w w1:=⟨g.os,g.tape,g.output,g.size,fun k hk hx=>g.block k hk (fun e=>hx e.symm)⟩
 have hp1:=(ha.block _ H.tp.lt (fun e=>(hk0 _ e).2.1 rfl)).trans H.mb
 have hq1:=(ha.block _ H.tq.lt (fun e=>(hk0 _ e).1 rfl)).trans H.hq
 have ap:Aside (fun k=>k=h.p) w1 (w1.setCell ⟨h.p,8,none⟩ v'):=(Aside.refl (fun k=>k=h.p) w1).setCell (g:=h.p) rfl _
 have lp:=H.tp.lt
 have nqp:=H.tq.ne H.tp (by decide)
 have nWp:=H.tW.ne H.tp (by decide)
 have nCp:=H.tC.ne H.tp (by decide)
 have nRp:∀ k,Z1n h.vR k->k≠h.p:=fun k hk=>(Z4i H.R hk).ne H.tp (by decide)
 have nIp:∀ k,h.vI.ownBlock=some k->k≠h.p:=fun k hk=>(Z25 H.I hk).ne H.tp (by decide)
 have hKp:∀ k,v'.ownBlock=some k->k≠h.p:=fun k hk e=>by
  rcases hv k hk with h1 | h1
  ·exact (hk0 k h1).2.1 e
  ·rw [e] at h1;omega
 refine ⟨⟨?_,?_,?_,?_,H.cap,H.capC,?_,?_,?_,?_,H.rb,?_⟩,rfl,rfl,fun k hk => ?_,?_⟩
 ·exact (ap.block _ (Z01 hq1) nqp).trans hq1
 ·exact Z06 hp1
 ·exact (H.hW.aside ha (fun e=>(hk0 _ e).2.2.1 rfl)).aside ap nWp
 ·exact (H.hC.aside ha (fun e=>(hk0 _ e).2.2.2.1 rfl)).aside ap nCp
 ·exact (H.R.aside ha (fun k hk e=>(hk0 k e).2.2.2.2.1 hk)).aside ap (fun k hk=>nRp k hk)
 ·show World.ownsRow _ 0 _ 1 v' (m.K ++ [x]).length (Z05 (m.K ++ [x]))
  have e:Z05 (m.K ++ [x])=Z05 m.K ++ [.int .u64 x]:=by simp [Z05]
  rw [e,U0f]
  exact Z04 o (fun k hk=>ap.block k (Z08 o k hk).2 (hKp k hk))
 ·have o1:=Z04 (w':=w1) H.I (fun k hk=>ha.block k (Z08 H.I k hk).2 (fun e=>(hk0 k e).2.2.2.2.2 hk))
  exact Z04 o1 (fun k hk=>ap.block k (Z08 o1 k hk).2 (nIp k hk))
 ·intro k hk e
  rcases hv k e with h1 | h1
  ·exact H.rk k hk h1
  ·have:=(Z4i H.R hk).lt;omega
 ·intro e
  rcases hv _ e with h1 | h1
  ·exact H.kb h1
  ·have:=H.tW.lt
   have h1:w.heap.size<=h.bW:=h1
   omega
 ·rcases hk with hk | hk | hk | hk | hk | hk | hk
  ·exact .inl (.inl hk)
  ·exact .inl (.inr (.inl hk))
  ·exact .inl (.inr (.inr (.inl hk)))
  ·exact .inl (.inr (.inr (.inr (.inl hk))))
  ·exact .inl (.inr (.inr (.inr (.inr (.inl hk)))))
  ·rcases hv k hk with h1 | h1
   ·exact .inl (.inr (.inr (.inr (.inr (.inr (.inl h1))))))
   ·exact .inr h1
  ·exact .inl (.inr (.inr (.inr (.inr (.inr (.inr hk))))))
 ·exact (ha.mono (fun k hk=>.inr (.inr (.inr (.inr (.inr (.inl hk))))))).join ap (fun k _ hk=>.inr (.inl hk))
end
end Go.Proofs.YtlkcbdinlfeoiaaGreatDoor
