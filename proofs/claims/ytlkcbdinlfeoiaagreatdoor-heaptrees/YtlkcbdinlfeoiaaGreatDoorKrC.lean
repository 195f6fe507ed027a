/- Package heap by contracts: made, pointer, field. -/
import Derived.Test.YtlkcbdinlfeoiaaGreatDoorKrA
import Derived.Test.YtlkcbdinlfeoiaaGreatDoorKnAT
import Derived.Deep.AppendLies
import Derived.Test.YtlkcbdinlfeoiaaGreatDoorKnBA
import Derived.Test.YtlkcbdinlfeoiaaGreatDoorKnBE
namespace Go.Proofs.YtlkcbdinlfeoiaaGreatDoor
open Go.RowKit Go.Maps

variable {h:HP}{sr:Int}{m:MD}{w w':World}{a:Nat→Addr}{w0:World}{M:MO}{X:MXtra}
structure ObjAt (m:MD) (M:MO) (r:Nat) (c:CL) (f:Nat) (d:ND):Prop where
 four:c.kind=4
 has:M.N[c.ref]?=some d
 root:m.R[r]?=some (((f:Int)+1)*4)
 fits:f+1+szN (m.F f)≤m.W.length
 head:headB (m.F f)=true
 kind:m.F f / 4 % 256=d.kind
 size:szN (m.F f)=if d.kind<8 then d.raw.length else d.f.length
theorem HM.rootIs (hm:HM m sr M X) {r:Nat}{c:CL} (hj:M.R[r]?=some c):(c.kind≠4 ∧ ∃ x,m.R[r]?=some x∧0≤x∧x<18446744073709551616∧x % 4≠0) ∨ ∃ f d,ObjAt m M r c f d:=by
 obtain ⟨vs,S,φ,hr,hw⟩:=hm
 have hc:=List.mem_of_getElem? hj
 have hx:m.R[r]?=some (wdC φ c):=by rw [hr.rel.roots,List.getElem?_map,hj];rfl
 by_cases h4:c.kind=4
 ·right
  have hs:=hr.rel.rin c hc h4
  obtain ⟨d,h1,hv,h3,h4',h5⟩:=hr.rel.has _ hs
  obtain ⟨k1,k2⟩:=hr.shape.fine _ hv
  refine ⟨φ c.ref,d,h4,h1,?_,k2,k1,h3,?_⟩
  ·rw [hx];unfold wdC;rw [if_pos h4]
  ·have e:(fieldsP m.F (φ c.ref)).length=szN (m.F (φ c.ref)):=by unfold fieldsP;simp
   rw [←e,h4']
   unfold wdN
   split
   ·rfl
   ·rw [List.length_map]
 ·left
  obtain ⟨_,k1,k2⟩:=hr.word (fun q=>absurd q h4) (hr.ok.roots c hc)
  refine ⟨h4,_,hx,k1,k2,?_⟩
  unfold wdC
  rw [if_neg h4]
  split <;> omega
theorem HS.wordAt (s:HS a w0 h sr m M X w) {f:Nat} (hf:f<m.W.length):w.cell? ⟨h.bW,f,none⟩=some (.int .u64 (m.F f)):=by
 refine s.at'.hW.cell ?_
 unfold wordsV MD.F
 rw [List.getElem?_map,List.getD_eq_getElem?_getD,List.getElem?_eq_getElem hf]
 rfl
theorem HS.wlen (s:HS a w0 h sr m M X w):m.W.length≤300000:=by obtain ⟨_,n1,_,n3,_,_,_,_,_,n9,_⟩:=s.nums;omega
theorem HS.range (s:HS a w0 h sr m M X w) {f:Nat} (hf:f<m.W.length):0≤m.F f∧m.F f<18446744073709551616:=by
 obtain ⟨l1,l2,rt⟩:=s.hm.right
 exact md_range rt.h64 f hf
theorem getD_some {r:Nat}{x:Int}{l:List Int} (h:l[r]?=some x):l.getD r 0=x∧r<l.length:=⟨by rw [List.getD_eq_getElem?_getD,h];rfl,(List.getElem?_eq_some_iff.1 h).1⟩
theorem HS.objectOk (s:HS a w0 h sr m M X w) {r f:Nat}{c:CL}{d:ND} (o:ObjAt m M r c f d):Calls Tryz.prog 121 #[.pointer (some ⟨h.q,0,none⟩),.int .u64 (((f:Int)+1)*4)] w fun ev w'=>ev = .returned (.tuple #[.int .i64 (f:Int),headV (m.F f),.bool true])∧Below w.heap.size w w':=by
 have hf:f<m.W.length:=by have:=o.fits;omega
 obtain ⟨k0,k1⟩:=s.range hf
 exact hobject_ok h.q h.p h.bW m.W.length h.cW f (m.F f) hf s.wlen k0 k1 o.head w s.at'.c0 s.at'.cm.c3 (s.wordAt hf)
set_option maxHeartbeats 2000000 in
set_option maxRecDepth 100000 in
theorem hmade_ok (s:HS a w0 h sr m M X w) {r f:Nat}{c:CL}{d:ND} (o:ObjAt m M r c f d) (h8:¬ d.kind<8) :
  Calls Tryz.prog 122 #[.pointer (some ⟨h.q,0,none⟩),.int .i64 (r:Int)] w fun ev w'=>ev = .returned (.tuple #[.int .i64 ((f:Int)+1),.int .i64 (szN (m.F f):Int),.nilIface])∧Below w.heap.size w w':=by
 obtain ⟨e1,hr⟩:=getD_some o.root
 have kr:=s.rootOk hr
 rw [e1] at kr
 have hwl:=s.wlen
 have hfl:=o.fits
 have ko:=s.objectOk o
 unfold headV at ko
 have hsz:m.F f / 65536=(szN (m.F f):Int):=by
  have hf:f<m.W.length:=by omega
  have:=(s.range hf).1
  unfold szN;omega
 rw [hsz,o.kind] at ko
 have kd0:0≤d.kind:=by have:=o.kind;omega
 have kraw:=fun w=>raw_any d.kind kd0 w
 rw [decide_eq_false h8] at kraw
 have ew:IntKind.i64.wrap ((f:Int)+1)=(f:Int)+1:=wrapI _ (by omega) (by omega)
 obtain ⟨q,hq⟩:∃ q,q=h.q:=⟨_,rfl⟩
 rw [←hq] at kr ko ⊢
 obtain ⟨x,hx⟩:∃ x,x=((f:Int)+1)*4:=⟨_,rfl⟩
 rw [←hx] at kr ko
 generalize m.F f / 1024 % 16=g1 at ko
 generalize m.F f / 16384 % 2=g2 at ko
 generalize szN (m.F f)=sz at *
 generalize d.kind=kd at *
 clear s o hx hq hr h8 kd0 hsz hfl
 go_enter Tryz.func122,Tryz.ntmps122
 go_wp2_with fail
 refine kr.mono ?_
 clear kr
 rintro ev w1 ⟨rfl,rfl⟩
 go_wp2_with fail
 refine ko.mono ?_
 clear ko
 rintro ev w2 ⟨rfl,b2⟩
 have HB2:=toHid b2
 obtain ⟨w3,hw3⟩:∃ w3,w3=w2.alloc (.cells #[.int .i64 kd,.int .i64 g1,.int .i64 g2,.int .i64 (sz:Int)] 172):=⟨_,rfl⟩
 have n3:w3.heap[w2.heap.size]?=some (.cells #[.int .i64 kd,.int .i64 g1,.int .i64 g2,.int .i64 (sz:Int)] 172):=by rw [hw3];exact heap_alloc_new _ _
 have HB3:Hid (Below w1.heap.size w1 w3):=by rw [hw3];exact HB2.out.alloc HB2.out.size _
 obtain ⟨r0,r1,r2,r3,rf⟩:=head_block n3
 have HW3:=toHid hw3
 clear b2 hw3 n3 rf
 go_upto_region 5 with fail
 rw [←HW3.out]
 go_wp2_with fail
 refine (kraw _).mono ?_
 rintro ev w4 ⟨rfl,e4⟩
 rw [e4]
 clear e4 w4 kraw
 go_wp2_with fail
 go_quiet (fail)
 go_wp2_with fail
 go_ret3
 exact ⟨rfl,below_drewN HB3.out⟩
set_option maxHeartbeats 2000000 in
set_option maxRecDepth 100000 in
theorem hfield_ok (s:HS a w0 h sr m M X w) {r f k:Nat}{c:CL}{d:ND} (o:ObjAt m M r c f d) (h8:¬ d.kind<8) (hk:k<d.f.length) :
  Calls Tryz.prog 74 #[.pointer (some ⟨h.q,0,none⟩),.int .i64 (r:Int),.int .i64 (k:Int)] w fun ev w'=>ev = .returned (.tuple #[.int .i64 ((f+1+k:Nat):Int),.nilIface])∧Below w.heap.size w w':=by
 have km:=hmade_ok s o h8
 have hsz:szN (m.F f)=d.f.length:=by rw [o.size,if_neg h8]
 have hwl:=s.wlen
 have hfl:=o.fits
 rw [hsz] at km hfl
 have kw:=fun w=>hwithin_any (k:Int) 0 ((d.f.length:Int) - 1) w
 rw [show (decide (0≤(k:Int)) && decide ((k:Int)≤(d.f.length:Int) - 1))=true by simp;omega] at kw
 have e1:IntKind.i64.wrap ((d.f.length:Int) - 1)=(d.f.length:Int) - 1:=wrapI _ (by omega) (by omega)
 have e2:IntKind.i64.wrap ((f:Int)+1+(k:Int))=((f+1+k:Nat):Int):=by rw [wrapI _ (by omega) (by omega)];omega
 obtain ⟨q,hq⟩:∃ q,q=h.q:=⟨_,rfl⟩
 rw [←hq] at km ⊢
 generalize d.f.length=L at *
 obtain ⟨z,hz⟩:∃ z:Int,z=((f+1+k:Nat):Int):=⟨_,rfl⟩
 rw [←hz] at e2 ⊢
 clear s o hq h8 hsz hz hfl hk
 go_enter Tryz.func74,Tryz.ntmps74
 go_wp2_with fail
 refine km.mono ?_
 clear km
 rintro ev w1 ⟨rfl,b1⟩
 have HB1:=toHid b1
 clear b1
 go_wp2_with fail
 refine (kw _).mono ?_
 rintro ev w4 ⟨rfl,e4⟩
 rw [e4]
 clear e4 w4 kw
 go_wp2_with fail
 go_ret2
 exact ⟨rfl,HB1.out⟩
end Go.Proofs.YtlkcbdinlfeoiaaGreatDoor
namespace Go.Proofs.YtlkcbdinlfeoiaaGreatDoor
open Go.RowKit Go.Maps

variable {h:HP}{sr:Int}{m:MD}{w w':World}{a:Nat→Addr}{w0:World}{M:MO}{X:MXtra}
theorem HAt.setCard (H:HAt h sr m w) {j:Nat} (hj:j<m.C.length) (x:Bool):HAt h sr (m.setC j x) (w.setCell ⟨h.bC,j,none⟩ (.bool x)):=by
 have tC:=H.tC
 have ha:Aside (fun k=>k=h.bC) w (w.setCell ⟨h.bC,j,none⟩ (.bool x)):=(Aside.refl (fun k=>k=h.bC) w).setCell (g:=h.bC) rfl _
 have hs:=H.hC.set (j:=j) (by unfold boolsV;rw [List.length_map];exact hj) (.bool x)
 refine ⟨(ha.block _ H.tq.lt (H.tq.ne tC (by decide))).trans H.hq,?_,H.hW.aside ha (H.tW.ne tC (by decide)),?_,H.cap,?_,H.R.aside ha (fun g hg=>(rowB_ty H.R hg).ne tC (by decide)),?_,?_,H.rk,H.rb,H.kb⟩
 ·show MB _ _ _ _ _ _ _ _ _ _ _ (.slice _ (m.C.set j x).length _) _
  rw [List.length_set]
  exact (ha.block _ H.tp.lt (H.tp.ne tC (by decide))).trans H.mb
 ·show Blk _ _ (boolsV (m.C.set j x)) _
  rw [←boolsV_set];exact hs
 ·show (m.C.set j x).length≤_
  rw [List.length_set];exact H.capC
 ·exact ownsRow_far' H.K (fun k hk=>ha.block k (own_lt2 H.K k hk).2 ((own_ty H.K hk).ne tC (by decide)))
 ·exact ownsRow_far' H.I (fun k hk=>ha.block k (own_lt2 H.I k hk).2 ((own_ty H.I hk).ne tC (by decide)))
theorem HAt.cardAt (H:HAt h sr m w) {j:Nat} (hj:j<m.C.length):w.cell? ⟨h.bC,j,none⟩=some (.bool (m.Cf j)):=by
 refine H.hC.cell ?_
 unfold boolsV MD.Cf
 rw [List.getElem?_map,List.getD_eq_getElem?_getD,List.getElem?_eq_getElem hj]
 rfl
set_option maxHeartbeats 4000000 in
set_option maxRecDepth 100000 in
theorem hmark_any (H:HAt h sr m w) (hF:m.FitsM) (y:Nat) (hyl:y<m.W.length) (x:Int) (hx:m.F y=x) (x0:0≤x) (x1:x<18446744073709551616) (E:WErr a w) :
  Calls Tryz.prog 75 #[.pointer (some ⟨h.p,0,none⟩),.int .i64 (y:Int)] w fun ev w'=>ev = .returned (.tuple #[])∧HAt h sr (m.mark y) w'∧Nxt h h w w':=by
 have hnum:=hF.nums
 unfold numsOK at hnum
 have hw:=hF.w
 have hy3:y≤300000:=by omega
 have dy:w.cell? ⟨h.bW,y,none⟩=some (.int .u64 x):=by
  refine H.hW.cell ?_
  rw [←hx]
  unfold wordsV MD.F
  rw [List.getElem?_map,List.getD_eq_getElem?_getD,List.getElem?_eq_getElem hyl]
  rfl
 have M0:=H.cm
 obtain ⟨bx,hbx⟩:∃ bx,bx=h.p:=⟨_,rfl⟩
 obtain ⟨g,hg⟩:∃ g,g=h.bW:=⟨_,rfl⟩
 obtain ⟨gc,hgc⟩:∃ gc,gc=h.bC:=⟨_,rfl⟩
 rw [←hbx,←hg,←hgc] at M0
 rw [←hg] at dy
 have c0:w.cell? ⟨bx,0,none⟩=some (.int .i64 m.half):=M0.c0
 have c3:=M0.c3
 have km:Hid (∀ q,Calls Tryz.prog 123 #[.pointer (some ⟨bx,0,none⟩)] (w.drewN q) fun ev w'=>ev = .returned (.bool true) ∧ ∃ n,w'=(w.drewN q).drewN n):=fun q=>measured_ok bx m.half m.old m.card m.W.length m.C.length h.cW h.cC _ _ m.used m.top m.oldTop _ _ _ hF (w.drewN q) (M0.below (below_drewN (Below.refl _ _)) (lt_of_cell c0))
 have ko:Hid (∀ q,Calls Tryz.prog 85 #[.pointer (some ⟨bx,0,none⟩)] (w.drewN q) fun ev w'=>ev = .returned (.int .i64 (2*m.half))∧w'=w.drewN q):=fun q=>oldFrom_any bx m.half (by omega) (by omega) (w.drewN q) c0
 have ky:Hid (∀ q,Calls Tryz.prog 125 #[.pointer (some ⟨bx,0,none⟩),.int .u64 x] (w.drewN q) fun ev w'=>ev = .returned (.bool (youngB m.half x)) ∧ ∃ n,w'=(w.drewN q).drewN n):=fun q=>young_any a bx m.half x (by omega) (by omega) x0 x1 (w.drewN q) (E.below (below_drewN (Below.refl _ _))) c0
 have kw:Hid (∀ W,Calls Tryz.prog 124 #[.int .i64 (y:Int),.int .i64 (2*m.half),.int .i64 ((m.W.length:Int) - 1)] W fun ev w'=>ev = .returned (.bool (decide (2*m.half≤(y:Int))))∧w'=W):=fun W=>by
  have h:=mwithin_any (y:Int) (2*m.half) ((m.W.length:Int) - 1) W
  rw [decide_eq_true (show (y:Int)≤(m.W.length:Int) - 1 by omega),Bool.and_true] at h
  exact h
 have e1:IntKind.i64.wrap ((m.W.length:Int) - 1)=(m.W.length:Int) - 1:=wrapI _ (by omega) (by omega)
 have hI:(y:Int)<(m.W.length:Int):=by omega
 have hI0:(0:Int)≤(y:Int):=by omega
 have HX:=toHid hx
 have HH:=toHid H
 have HG:=toHid hgc
 rw [←hbx]
 clear H E hx hw hbx hg
 by_cases hold:2*m.half≤(y:Int)
 ·rw [decide_eq_true hold] at kw
  cases hyo:youngB m.half x with
  | true =>
   rw [hyo] at ky
   have HPU:Hid (m.mark y=m.setC (cardN m.half m.card y) true):=by show _=_;unfold MD.mark;rw [if_pos ⟨hold,by rw [HX.out];exact hyo⟩]
   clear hyo
   obtain ⟨d,j,hd,hj,hjl,hcn⟩:=card_ix hF hold hyl
   have d2:w.cell? ⟨bx,2,none⟩=some (.int .i64 m.card):=M0.c2
   have d10:w.cell? ⟨bx,10,none⟩=some (.slice (some ⟨gc,0,none⟩) m.C.length h.cC):=M0.c10
   have dj:w.cell? ⟨gc,j,none⟩=some (.bool (m.Cf j)):=by rw [HG.out];exact HH.out.cardAt hjl
   have dfj:w.frozen? ⟨gc,j,none⟩=false:=by rw [HG.out];exact HH.out.hC.frozen j
   have hJ:(j:Int)<(m.C.length:Int):=by omega
   have hJ0:(0:Int)≤(j:Int):=by omega
   have HCN:=toHid hcn
   have HJL:=toHid hjl
   have kc:Hid (∀ W,Below w.heap.size w W→Calls Tryz.prog 126 #[.pointer (some ⟨bx,0,none⟩),.int .i64 (y:Int)] W fun ev w'=>ev = .returned (.int .i64 (j:Int)) ∧ ∃ n,w'=W.drewN n):=fun W hW=>cardOf_any bx m.half m.card y d j (by omega) (by omega) (by omega) hy3 hd hj W ((hW.cell (p:=⟨bx,0,none⟩) (lt_of_cell c0)).trans c0) ((hW.cell (p:=⟨bx,2,none⟩) (lt_of_cell d2)).trans d2)
   clear hd hj hcn hgc M0
   go_enter Tryz.func75,Tryz.ntmps75
   go_wp2_with fail
   go_quiet (first | (go_at_call 123;exact Calls.quiet_of (km.out _)) | (go_at_call 85;exact Calls.quiet_of_same (ko.out _)) | (go_at_call 124;exact Calls.quiet_of_same (kw.out _)) | (go_at_call 125;exact Calls.quiet_of (ky.out _)))
   go_upto_region 1 with fail
   obtain ⟨w5,hw5⟩:∃ w5,w5=w.drewN nq:=⟨_,rfl⟩
   rw [←hw5]
   have hb5:Below w.heap.size w w5:=by rw [hw5];exact below_drewN (Below.refl _ _)
   have d10:w5.cell? ⟨bx,10,none⟩=some (.slice (some ⟨gc,0,none⟩) m.C.length h.cC):=(hb5.cell (p:=⟨bx,10,none⟩) (lt_of_cell d10)).trans d10
   have dj5:w5.cell? ⟨gc,j,none⟩=some (.bool (m.Cf j)):=(hb5.cell (p:=⟨gc,j,none⟩) (lt_of_cell dj)).trans dj
   have df5:=(hb5.frozen (p:=⟨gc,j,none⟩) (lt_of_cell dj)).trans dfj
   have ldj:=lt_of_cell dj5
   have ld10:=lt_of_cell d10
   have kc:Hid (∀ W,Below w5.heap.size w5 W→Calls Tryz.prog 126 #[.pointer (some ⟨bx,0,none⟩),.int .i64 (y:Int)] W fun ev w'=>ev = .returned (.int .i64 (j:Int))∧Below w5.heap.size w5 w'):=fun W hW=>by
    refine (kc.out W (hb5.trans (hW.mono hb5.size))).mono ?_
    rintro ev w9 ⟨rfl,n,hq⟩
    exact ⟨rfl,by rw [hq];exact below_drewN hW⟩
   have HB5:=toHid hb5
   clear hw5 hb5 c0 c3 dy dj dfj d2
   go_region_with ((go_at_call 126;refine (kc.out _ (by first | exact (Below.refl _ _).drew | exact Below.refl _ _)).mono ?_;rintro ev w7 ⟨rfl,hb7⟩;have t10:=(hb7.cell (p:=⟨bx,10,none⟩) ld10).trans d10;have tj:=(hb7.cell (p:=⟨gc,j,none⟩) ldj).trans dj5;have tf:=(hb7.frozen (p:=⟨gc,j,none⟩) ldj).trans df5))
   all_goals go_wp2_with fail
   all_goals go_end0
   all_goals (
    have H7:=(HH.out.below (HB5.out.trans (hb7.mono HB5.out.size))).setCard HJL.out true
    have N7:Nxt h h w (w7.setCell ⟨h.bC,j,none⟩ (.bool true)):=(Nxt.of_below h (HB5.out.trans (hb7.mono HB5.out.size))).set (.inl (.inr (.inr (.inr (.inl rfl)))))
    rw [←HG.out] at H7 N7
    refine ⟨rfl,?_,?_⟩
    ·rw [HPU.out,HCN.out];first | exact H7 | exact H7.below (Below.refl _ _).drew
    ·first | exact N7 | exact N7.below (Below.refl _ _).drew)
  | false =>
   rw [hyo] at ky
   have HPU:Hid (m.mark y=m):=by show _=_;unfold MD.mark;rw [if_neg (fun h=>by rw [HX.out,hyo] at h;cases h.2)]
   clear hyo M0
   go_enter Tryz.func75,Tryz.ntmps75
   go_wp2_with fail
   go_quiet (first | (go_at_call 123;exact Calls.quiet_of (km.out _)) | (go_at_call 85;exact Calls.quiet_of_same (ko.out _)) | (go_at_call 124;exact Calls.quiet_of_same (kw.out _)) | (go_at_call 125;exact Calls.quiet_of (ky.out _)))
   go_wp2_with fail
   go_end0
   have hb5:Below w.heap.size w (w.drewN nq):=below_drewN (Below.refl _ _)
   exact ⟨rfl,by rw [HPU.out];exact HH.out.below hb5,Nxt.of_below h hb5⟩
 ·rw [decide_eq_false hold] at kw
  have HPU:Hid (m.mark y=m):=by show _=_;unfold MD.mark;rw [if_neg (fun h=>hold h.1)]
  clear M0
  go_enter Tryz.func75,Tryz.ntmps75
  go_wp2_with fail
  go_quiet (first | (go_at_call 123;exact Calls.quiet_of (km.out _)) | (go_at_call 85;exact Calls.quiet_of_same (ko.out _)) | (go_at_call 124;exact Calls.quiet_of_same (kw.out _)) | (go_at_call 125;exact Calls.quiet_of (ky.out _)))
  go_wp2_with fail
  go_end0
  have hb5:Below w.heap.size w (w.drewN nq):=below_drewN (Below.refl _ _)
  exact ⟨rfl,by rw [HPU.out];exact HH.out.below hb5,Nxt.of_below h hb5⟩
end Go.Proofs.YtlkcbdinlfeoiaaGreatDoor
namespace Go.Proofs.YtlkcbdinlfeoiaaGreatDoor
open Go.RowKit Go.Maps

variable {h:HP}{sr:Int}{m:MD}{w w':World}{a:Nat→Addr}{w0:World}{M:MO}{X:MXtra}
def MO.putN (M:MO) (i:Nat) (d:ND) (k:Nat) (v:CL):MO:={ M with N:=M.N.set i { d with f:=d.f.set k v } }
theorem setW_FH {m:MD}{y:Nat}{x:Int} (h:y<m.W.length):(m.setW y x).F y=x:=by
 unfold MD.F MD.setW
 show (m.W.set y x).getD y 0=x
 rw [List.getD_eq_getElem?_getD,List.getElem?_set_self h]
 rfl
theorem put_markH {m:MD}{y:Nat}{x:Int} (h:y<m.W.length):m.put y x=(m.setW y x).mark y:=by
 unfold MD.put MD.mark
 rw [setW_FH h]
 rfl
theorem setW_fits {y:Nat}{x:Int} (F:m.FitsM):(m.setW y x).FitsM:=by
 unfold MD.FitsM MD.setW at *
 show Fits m.half m.old m.card (m.W.set y x).length m.C.length m.used m.top m.oldTop
 rw [List.length_set]
 exact F
theorem HAt.setWord (H:HAt h sr m w) {y:Nat} (hy:y<m.W.length) (x:Int):HAt h sr (m.setW y x) (w.setCell ⟨h.bW,y,none⟩ (.int .u64 x)):=by
 have hs:=H.hW.set (j:=y) (by rw [lenV];exact hy) (.int .u64 x)
 rw [wordsV_set] at hs
 exact H.words (by rw [List.length_set]) ((Aside.refl (fun k=>k=h.bW) w).setCell (g:=h.bW) rfl _) hs
set_option maxHeartbeats 2000000 in
set_option maxRecDepth 100000 in
theorem hput_any (s:HS a w0 h sr m M X w) {r k j:Nat}{c v:CL}{d:ND} (hj:M.R[r]?=some c) (h4:c.kind=4) (hd:M.N[c.ref]?=some d) (h8:¬ d.kind<8) (hk:k<d.f.length) (hq:M.R[j]?=some v) :
  Calls Tryz.prog 30 #[.pointer (some ⟨h.q,0,none⟩),.int .i64 (r:Int),.int .i64 (k:Int),.int .i64 (j:Int)] w fun ev w'=>ev = .returned .nilIface∧Stp a w0 h m (M.putN c.ref d k v) X w w':=by
 obtain ⟨f,x,e1,e2,e3,_,_,_,hm⟩:=s.hm.put hj h4 hd h8 hk hq
 obtain ⟨f',d',o⟩:∃ f d',ObjAt m M r c f d':=by
  rcases s.hm.rootIs hj with ⟨q,_⟩ | q
  ·exact absurd h4 q
  ·exact q
 obtain rfl:d=d':=by have:=o.has;rw [hd] at this;exact Option.some.inj this
 obtain rfl:f=f':=by have:=o.root;rw [e1] at this;have:=Option.some.inj this;omega
 obtain ⟨g2,hjl⟩:=getD_some e2
 have kr:=s.rootOk hjl
 rw [g2] at kr
 have kf:=hfield_ok s o h8 hk
 obtain ⟨l1,l2,rt⟩:=s.hm.right
 have hxr:=rt.h64.r x (List.mem_of_getElem? e2)
 have hWl:=s.wlen
 obtain ⟨y,hy⟩:∃ y,y=f+1+k:=⟨_,rfl⟩
 rw [←hy] at e3 hm kf
 have HMk:Hid (∀ w1,HAt h sr (m.setW y x) w1→WErr a w1→Calls Tryz.prog 75 #[.pointer (some ⟨h.p,0,none⟩),.int .i64 (y:Int)] w1 fun ev w'=>ev = .returned (.tuple #[])∧HAt h sr (m.put y x) w'∧Nxt h h w1 w'):=fun w1 H1 E1=>by
  have hx:=hmark_any H1 (setW_fits rt.S.1) y (by show y<(m.W.set y x).length;rw [List.length_set];exact e3) x (setW_FH e3) hxr.1 hxr.2 E1
  rw [←put_markH e3] at hx
  exact hx
 have HIS:Hid (∀ w',Nxt h h w w'→HAt h sr (m.put y x) w'→Stp a w0 h m (M.putN c.ref d k v) X w w'):=fun w' N H=>by
  refine ⟨h,sr,_,N,?_,s.next N H hm s.kl s.rl⟩
  rw [put_eqH]
  exact ⟨rfl,rfl,rfl⟩
 have HSS:=toHid s
 obtain ⟨q,hq'⟩:∃ q,q=h.q:=⟨_,rfl⟩
 obtain ⟨p,hp⟩:∃ p,p=h.p:=⟨_,rfl⟩
 obtain ⟨b,hb⟩:∃ b,b=h.bW:=⟨_,rfl⟩
 have HB:=toHid hb
 have HC:Hid (∀ W,Nxt h h w W→HAt h sr m W→W.cell? ⟨q,0,none⟩=some (.pointer (some ⟨p,0,none⟩))∧W.cell? ⟨p,3,none⟩=some (.slice (some ⟨b,0,none⟩) m.W.length h.cW)):=fun W _ H=>⟨by rw [hq',hp];exact H.c0,by rw [hp,hb];exact H.cm.c3⟩
 have HP0:=toHid hp
 have HQ:=toHid hq'
 rw [←hq'] at kr kf ⊢
 rw [←hp] at HMk
 have hI:(y:Int)<(m.W.length:Int):=by omega
 have hI0:(0:Int)≤(y:Int):=by omega
 have HY:=toHid e3
 clear s e1 o g2 hjl rt hxr hy hm hq' hp hb hj h4 hd h8 hk hq e2 e3
 go_enter Tryz.func30,Tryz.ntmps30
 go_wp2_with fail
 refine kr.mono ?_
 clear kr
 rintro ev w1 ⟨rfl,rfl⟩
 go_wp2_with fail
 refine kf.mono ?_
 clear kf
 rintro ev w2 ⟨rfl,b2⟩
 have s2:=HSS.out.below b2
 obtain ⟨d0,d3⟩:=HC.out w2 (Nxt.of_below h b2) s2.at'
 have cy:w2.cell? ⟨b,y,none⟩=some (.int .u64 (m.F y)):=by rw [HB.out];exact s2.wordAt HY.out
 have fy:w2.frozen? ⟨b,y,none⟩=false:=by rw [HB.out];exact s2.at'.hW.frozen y
 have H3:HAt h sr (m.setW y x) (w2.setCell ⟨b,y,none⟩ (.int .u64 x)):=by rw [HB.out];exact s2.at'.setWord HY.out x
 have N3:Nxt h h w1 (w2.setCell ⟨b,y,none⟩ (.int .u64 x)):=(Nxt.of_below h b2).set (.inl (.inr (.inr (.inl HB.out))))
 have d0':(w2.setCell ⟨b,y,none⟩ (.int .u64 x)).cell? ⟨q,0,none⟩=some (.pointer (some ⟨p,0,none⟩)):=by rw [HQ.out,HP0.out];exact H3.c0
 have E3:=(HSS.out.aenv N3.aside).we
 have km:=HMk.out _ H3 E3
 have HH3:=toHid H3
 have HN3:=toHid N3
 clear b2 s2 H3 N3 E3
 go_upto_region 8 with fail
 generalize w2.setCell ⟨b,y,none⟩ (.int .u64 x)=w3 at *
 clear d0 d3 cy fy
 go_wp2_with fail
 refine km.mono ?_
 clear km
 rintro ev w4 ⟨rfl,H4,N4⟩
 have HE:=toHid (HIS.out w4 (HN3.out.trans N4) H4)
 clear H4 N4
 go_wp2_with fail
 go_ret
 exact ⟨rfl,HE.out⟩
set_option maxHeartbeats 1000000 in
set_option maxRecDepth 100000 in
theorem hmajor_any (s:HS a w0 h sr m M X w):Calls Tryz.prog 27 #[.pointer (some ⟨h.q,0,none⟩)] w fun ev w'=>(ev = .returned (errV a 5)∧Below w.heap.size w w'∧m.old<(M.words:Int))∨(ev = .returned .nilIface∧StpJ a w0 h m M X w w'):=by
 have k:=smajor_any s
 clear s
 go_enter Tryz.func27,Tryz.ntmps27
 go_wp2_with fail
 refine k.mono ?_
 clear k
 rintro ev w1 (⟨rfl,hP⟩ | ⟨rfl,hP⟩)
 ·have HP':=toHid hP
  clear hP
  go_wp2_with fail
  first | go_ret | skip
  exact .inl ⟨rfl,HP'.out⟩
 ·have HP':=toHid hP
  clear hP
  go_wp2_with fail
  first | go_ret | skip
  exact .inr ⟨rfl,HP'.out⟩
end Go.Proofs.YtlkcbdinlfeoiaaGreatDoor
namespace Go.Proofs.YtlkcbdinlfeoiaaGreatDoor
open Go.RowKit Go.Maps

variable {h:HP}{sr:Int}{m:MD}{w w':World}{a:Nat→Addr}{w0:World}{M:MO}{X:MXtra}
theorem hnew_hs (a:Nat→Addr) (half old card tn:Int) (n:Nat) (w:World) (E:HEnv a w) (H:heapOK half old card tn n) :
  Calls Tryz.prog 11 #[.agg #[.int .i64 half,.int .i64 old,.int .i64 card,.int .i64 tn],.int .i64 (n:Int)] w fun ev w' => ∃ h m,ev = .returned (.tuple #[.pointer (some ⟨h.q,0,none⟩),.nilIface])∧HS a w h 0 m (MO.new n) MXtra.new w'∧m.half=half∧m.old=old∧m.card=card:=by
 obtain ⟨hn,t0,t1,r0,r1⟩:=H
 have hn':=hn
 unfold numsOK at hn'
 have hq0:0≤(old+card - 1) / card:=Int.ediv_nonneg (by omega) (by omega)
 obtain ⟨nW,hW⟩:∃ nW:Nat,(nW:Int)=2*half+old:=⟨(2*half+old).toNat,by omega⟩
 obtain ⟨nC,hC⟩:∃ nC:Nat,(nC:Int)=(old+card - 1) / card:=⟨((old+card - 1) / card).toNat,by omega⟩
 refine (hnew_ok half old card tn n nW nC hW hC ⟨hn,t0,t1,r0,r1⟩ w).mono ?_
 rintro ev w' ⟨q,p,g,rfl,k1,k2,k3,hb,I⟩
 have eW:Array.replicate nW (Value.int .u64 0)=(wordsV (List.replicate nW 0)).toArray:=by unfold wordsV;simp
 have eR:Array.replicate n (Value.int .u64 2)=(wordsV (List.replicate n 2)).toArray:=by unfold wordsV;simp
 have eC:Array.replicate nC (Value.bool false)=(boolsV (List.replicate nC false)).toArray:=by unfold boolsV;simp
 refine ⟨⟨q,p,p+1,p+2,nW,nC,tn,.slice (some ⟨g,0,none⟩) n n,.slice none 0 0,.slice none 0 0⟩,newM half old card nW nC n,rfl,⟨⟨I.hq,?_,⟨[],?_⟩,⟨[],?_⟩,?_,?_,?_,⟨rfl,.inl ⟨rfl,rfl⟩⟩,⟨rfl,.inl ⟨rfl,rfl⟩⟩,?_,?_,?_⟩,newHM hn hW hC,E,hb,?_,t0,t1,?_,?_⟩,rfl,rfl,rfl⟩
 ·unfold MB
  have h:=I.hp
  show _=some (Obj.cells #[_,_,_,.slice _ (List.replicate nW (0:Int)).length _,_,_,_,_,_,_,.slice _ (List.replicate nC false).length _] _)
  rw [List.length_replicate,List.length_replicate]
  exact h
 ·rw [List.append_nil]
  show _=some (Obj.cells (wordsV (List.replicate nW 0)).toArray _)
  rw [←eW];exact I.hW
 ·rw [List.append_nil]
  show _=some (Obj.cells (boolsV (List.replicate nC false)).toArray _)
  rw [←eC];exact I.hC
 ·show (List.replicate nW (0:Int)).length≤nW
  simp
 ·show (List.replicate nC false).length≤nC
  simp
 ·refine ⟨some ⟨g,0,none⟩,n,?_,?_,?_,fun _=>⟨g,rfl,[],?_⟩⟩
  ·show Value.slice _ n n=Value.slice _ (List.replicate n (2:Int)).length n
   rw [List.length_replicate]
  ·show (List.replicate n (2:Int)).length≤n
   simp
  ·show (wordsV (List.replicate n 2)).length=(List.replicate n (2:Int)).length*1
   rw [lenV];simp
  ·rw [List.append_nil]
   show _=some (Obj.cells (wordsV (List.replicate n 2)).toArray _)
   rw [←eR];exact I.hR
 ·intro g' _ e
  cases e
 ·intro g' hg e
  have e1:=isOf_row hg
  have e:g'=p+1:=e
  omega
 ·intro e
  cases e
 ·intro k hk
  rcases hk with hk | hk | hk | hk | hk | hk | hk
  ·have hk:k=q:=hk;omega
  ·have hk:k=p:=hk;omega
  ·have hk:k=p+1:=hk;omega
  ·have hk:k=p+2:=hk;omega
  ·have e1:=isOf_row hk;omega
  ·cases hk
  ·cases hk
 ·show 0≤5000
  omega
 ·show (List.replicate n _).length≤5000
  rw [List.length_replicate];omega
theorem hwords_hs (s:HS a w0 h sr m M X w):Calls Tryz.prog 34 #[.pointer (some ⟨h.q,0,none⟩)] w fun ev w'=>ev = .returned (.tuple #[.int .i64 m.top,.int .i64 m.oldTop])∧Below w.heap.size w w':=
 hwords_any h.q h.p h.tn sr m w ⟨s.at'.tq.lt,s.at'.c0,s.at'.c1,s.at'.c2⟩ s.at'.col.repP
structure Ring (M:MO) (i:Nat):Prop where
 r0:M.R[0]?=some ⟨4,0,0⟩
 r1:M.R[1]?=some ⟨4,0,i - 1⟩
 rl:M.R.length=3
 nl:M.N.length=i
 n0:M.N[0]?=some (mkN 9 1)
 nk:∀ k,0<k→k<i→M.N[k]?=some ⟨9,[],[⟨4,0,k - 1⟩]⟩
theorem total_two {M:MO} (h:∀ d∈M.N,ndW d=2):M.total=2*M.N.length:=by
 unfold MO.total
 have:∀ l:List ND,(∀ d∈l,ndW d=2)→(l.map ndW).sum=2*l.length:=fun l hl=>by
  induction l with
  | nil=>rfl
  | cons d l ih =>
   rw [List.map_cons,List.sum_cons,hl d (by simp),ih (fun x hx=>hl x (by simp [hx])),List.length_cons]
   omega
 exact this M.N h
theorem Ring.total {i:Nat} (R:Ring M i):M.total=2*i:=by
 rw [total_two (fun d hd => ?_),R.nl]
 obtain ⟨k,hk⟩:=List.getElem?_of_mem hd
 have hl:=(List.getElem?_eq_some_iff.1 hk).1
 rw [R.nl] at hl
 rcases Nat.eq_zero_or_pos k with rfl | h0
 ·rw [R.n0] at hk;cases hk;rfl
 ·rw [R.nk k h0 hl] at hk;cases hk;rfl
theorem Ring.begin:Ring (((MO.new 3).made 0 (mkN 9 1)).set 1 ⟨4,0,0⟩) 1:=⟨rfl,rfl,rfl,rfl,rfl,fun k h0 h1=>by omega⟩
def ringM (M:MO) (i:Nat):MO:=(((M.made 2 (mkN 9 1)).putN i (mkN 9 1) 0 ⟨4,0,i - 1⟩).set 1 ⟨4,0,i⟩)
theorem Ring.next {i:Nat} (hi:1≤i) (R:Ring M i):(M.made 2 (mkN 9 1)).R[2]?=some ⟨4,0,i⟩∧(M.made 2 (mkN 9 1)).N[i]?=some (mkN 9 1)∧(M.made 2 (mkN 9 1)).R[1]?=some ⟨4,0,i - 1⟩∧Ring (ringM M i) (i+1):=by
 have hR:(M.made 2 (mkN 9 1)).R=M.R.set 2 ⟨4,0,i⟩:=by show M.R.set 2 ⟨4,0,M.N.length⟩=_;rw [R.nl]
 have hN:(M.made 2 (mkN 9 1)).N=M.N ++ [mkN 9 1]:=rfl
 have hN2:(ringM M i).N=M.N ++ [⟨9,[],[⟨4,0,i - 1⟩]⟩]:=by
  show (M.N ++ [mkN 9 1]).set i _=_
  rw [List.set_append_right _ _ (by rw [R.nl];exact Nat.le_refl _),R.nl,Nat.sub_self]
  rfl
 have hR2:(ringM M i).R=(M.R.set 2 ⟨4,0,i⟩).set 1 ⟨4,0,i⟩:=by show (M.made 2 (mkN 9 1)).R.set 1 _=_;rw [hR]
 have hl:=R.rl
 refine ⟨?_,?_,?_,⟨?_,?_,?_,?_,?_,?_⟩⟩
 ·rw [hR,List.getElem?_set_self (by omega)]
 ·rw [hN,List.getElem?_append_right (by rw [R.nl];exact Nat.le_refl _),R.nl,Nat.sub_self];rfl
 ·rw [hR,List.getElem?_set_ne (by omega)];exact R.r1
 ·rw [hR2,List.getElem?_set_ne (by omega),List.getElem?_set_ne (by omega)];exact R.r0
 ·rw [hR2,List.getElem?_set_self (by rw [List.length_set];omega)];rfl
 ·rw [hR2,List.length_set,List.length_set];exact hl
 ·rw [hN2,List.length_append,R.nl];rfl
 ·rw [hN2,List.getElem?_append_left (by rw [R.nl];omega)];exact R.n0
 ·intro k h0 h1
  rw [hN2]
  by_cases hk:k<i
  ·rw [List.getElem?_append_left (by rw [R.nl];exact hk)];exact R.nk k h0 hk
  ·obtain rfl:k=i:=by omega
   rw [List.getElem?_append_right (by rw [R.nl];exact Nat.le_refl _),R.nl,Nat.sub_self];rfl
def closeM (M:MO) (n:Nat) (keep:Bool):MO:=let M1:=((M.putN 0 (mkN 9 1) 0 ⟨4,0,n - 1⟩).set 1 (clK 0)).set 2 (clK 0);if keep then M1 else M1.set 0 (clK 0)
theorem Ring.keeps {n:Nat} (hn:1≤n) (R:Ring M n) (hm:HM m sr (closeM M n true) X):(closeM M n true).words=2*n:=by
 have hN:(closeM M n true).N=M.N.set 0 ⟨9,[],[⟨4,0,n - 1⟩]⟩:=rfl
 have hR:(closeM M n true).R=(M.R.set 1 (clK 0)).set 2 (clK 0):=rfl
 have hnl:(closeM M n true).N.length=n:=by rw [hN,List.length_set];exact R.nl
 have h0:(closeM M n true).N[0]?=some ⟨9,[],[⟨4,0,n - 1⟩]⟩:=by rw [hN,List.getElem?_set_self (by rw [R.nl];omega)]
 have hk:∀ k,0<k→k<n→(closeM M n true).N[k]?=some ⟨9,[],[⟨4,0,k - 1⟩]⟩:=fun k h1 h2=>by rw [hN,List.getElem?_set_ne (by omega)];exact R.nk k h1 h2
 obtain ⟨_,_,a3,a4⟩:=hm.all
 have i0:0∈(closeM M n true).all:=a3 ⟨4,0,0⟩ (by
  refine List.mem_of_getElem? (i:=0) ?_
  rw [hR,List.getElem?_set_ne (by omega),List.getElem?_set_ne (by omega)]
  exact R.r0) rfl
 have il:n - 1∈(closeM M n true).all:=a4 0 i0 _ h0 (by show ¬ (9:Int)<8;decide) ⟨4,0,n - 1⟩ (by simp) rfl
 have ia:∀ j,j<n→n - 1 - j∈(closeM M n true).all:=fun j=>by
  induction j with
  | zero=>exact fun _=>il
  | succ j ih =>
   intro hj
   have h1:=ih (by omega)
   have h2:=a4 _ h1 _ (hk _ (by omega) (by omega)) (by show ¬ (9:Int)<8;decide) ⟨4,0,n - 1 - j - 1⟩ (by simp) rfl
   exact h2
 rw [hm.whole (fun i hi=>by
  rw [hnl] at hi
  have:=ia (n - 1 - i) (by omega)
  rw [show n - 1 - (n - 1 - i)=i by omega] at this
  exact this),total_two (fun d hd => ?_),hnl]
 obtain ⟨k,hk'⟩:=List.getElem?_of_mem hd
 have hl:=(List.getElem?_eq_some_iff.1 hk').1
 rw [hnl] at hl
 rcases Nat.eq_zero_or_pos k with rfl | hp
 ·rw [h0] at hk';cases hk';rfl
 ·rw [hk k hp hl] at hk';cases hk';rfl
theorem Ring.gone {n:Nat} (R:Ring M n):(closeM M n false).words=0:=by
 refine words_none (fun c hc => ?_)
 have hR:(closeM M n false).R=((M.R.set 1 (clK 0)).set 2 (clK 0)).set 0 (clK 0):=rfl
 rw [hR] at hc
 obtain ⟨k,hk⟩:=List.getElem?_of_mem hc
 have hl:=(List.getElem?_eq_some_iff.1 hk).1
 rw [List.length_set,List.length_set,List.length_set,R.rl] at hl
 have hl3:=R.rl
 rcases (by omega:k=0∨k=1∨k=2) with rfl | rfl | rfl
 ·rw [List.getElem?_set_self (by simp [R.rl])] at hk;cases hk;decide
 ·rw [List.getElem?_set_ne (by omega),List.getElem?_set_ne (by omega),List.getElem?_set_self (by omega)] at hk;cases hk;decide
 ·rw [List.getElem?_set_ne (by omega),List.getElem?_set_self (by rw [List.length_set];omega)] at hk;cases hk;decide
end Go.Proofs.YtlkcbdinlfeoiaaGreatDoor
namespace Go.Proofs.YtlkcbdinlfeoiaaGreatDoor
open Go.RowKit Go.Maps

variable {h:HP}{sr:Int}{m:MD}{w w':World}{a:Nat→Addr}{w0:World}{M:MO}{X:MXtra}
def MXtra.weak (X:MXtra) (i:Nat):MXtra:={ X with K:=X.K ++ [i] }
end Go.Proofs.YtlkcbdinlfeoiaaGreatDoor
namespace Go.Proofs.YtlkcbdinlfeoiaaGreatDoor
open Go.RowKit Go.Maps

variable {h:HP}{sr:Int}{m:MD}{w w':World}{a:Nat→Addr}{w0:World}{M:MO}{X:MXtra}
def clI (n:Int):CL:=⟨3,n,0⟩
set_option maxHeartbeats 2000000 in
theorem hint1_ok (n:Int) (c1 : -2305843009213693952≤n) (c2:n<2305843009213693952) (w:World) (bn bh:Nat) (hc:w.cell? ⟨bn,0,none⟩=some (.int .i64 n)) :
  Calls Tryz.prog 82 #[.pointer (some ⟨bn,0,none⟩),.pointer (some ⟨bh,0,none⟩)] w fun ev w'=>ev = .returned (.tuple #[.int .u64 ((n*4+1) % 18446744073709551616),.nilIface])∧Below w.heap.size w w':=by
 have k:=ofInt_ok n c1 c2 w
 go_enter Tryz.func82,Tryz.ntmps82
 go_wp2_with fail
 refine k.mono ?_
 clear k
 rintro ev w1 ⟨rfl,b1⟩
 go_wp2_with fail
 go_ret2
 exact ⟨rfl,b1⟩
theorem wd_clI (n:Int):wdC (fun i=>i) (clI n)=(n*4+1) % 18446744073709551616:=by
 show (if (3:Nat)=4 then _ else if (3:Nat)=3 then (n*4+1) % 18446744073709551616 else _)=_
 rw [if_neg (by decide),if_pos rfl]
theorem two_mad (w:World) (x y:Obj):∃ w1,w1=(w.alloc x).alloc y∧Below w.heap.size w w1∧w1.heap[w.heap.size]?=some x∧w1.heap[w.heap.size+1]?=some y:=by
 obtain ⟨n1,n2⟩:=two_new w x y
 exact ⟨_,rfl,((Below.refl _ _).alloc (Nat.le_refl _) _).alloc (by simp) _,n1,n2⟩
set_option maxHeartbeats 2000000 in
theorem hint_ok (s:HS a w0 h sr m M X w) (r:Nat) (n:Int) (hr:r<m.R.length) (c1 : -2305843009213693952≤n) (c2:n<2305843009213693952) :
  Calls Tryz.prog 38 #[.pointer (some ⟨h.q,0,none⟩),.int .i64 (r:Int),.int .i64 n] w fun ev w'=>ev = .returned .nilIface∧Stp a w0 h m (M.set r (clI n)) X w w':=by
 obtain ⟨w1,hw1,b1,n1,n2⟩:=two_mad w (.cells #[.pointer (some ⟨h.q,0,none⟩)] 25) (.cells #[.int .i64 n] 2)
 have s1:=s.below b1
 have cn:w1.cell? ⟨w.heap.size+1,0,none⟩=some (.int .i64 n):=by rw [cell_of_row _ _ _ _ _ _ n2];rfl
 have kb:=(hbecome_ok s1 82 _ enterInt1 hr (fun y h' sr' n' w'=>y=(n*4+1) % 18446744073709551616∧h'=h∧sr'=sr∧n'=m∧Below w1.heap.size w1 w') (fun _ _=>False) ((hint1_ok n c1 c2 w1 (w.heap.size+1) w.heap.size cn).mono fun ev w' t=>.inl ⟨_,h,sr,m,t.1,s1.at'.below t.2,rfl,hr,rfl,rfl,rfl,rfl,t.2⟩)).mono (R':=fun ev w'=>ev = .returned .nilIface∧Stp a w0 h m (M.set r (clI n)) X w w') (by
  rintro ev w' (⟨y,h',sr',n',w2,rfl,⟨rfl,rfl,rfl,rfl,hb⟩,H,N'⟩ | ⟨k,rfl,hf⟩)
  ·have hm:=s.hm.plain r (c:=clI n) (by show ¬ 3=4;omega) ⟨by show 3≤4;omega,fun _=>c1,fun _=>c2⟩
   rw [wd_clI] at hm
   exact ⟨rfl,set_stp s (Nxt.of_below _ (b1.trans (hb.mono b1.size))) N' (Dim.refl _) H hm⟩
  ·exact hf.elim)
 rw [hw1] at kb
 clear hw1 b1 n1 n2 s1 cn s
 go_enter Tryz.func38,Tryz.ntmps38
 go_wp2_with fail
 refine kb.mono ?_
 clear kb
 rintro ev w2 ⟨rfl,hP⟩
 have HP':=toHid hP
 clear hP
 go_wp2_with fail
 go_ret
 exact ⟨rfl,HP'.out⟩
end Go.Proofs.YtlkcbdinlfeoiaaGreatDoor
namespace Go.Proofs.YtlkcbdinlfeoiaaGreatDoor
open Go.RowKit

set_option maxHeartbeats 4000000 in
set_option maxRecDepth 100000 in
theorem tellRaw_box (q p:Nat) (tn sr:Int) (m:MD) (f:Nat) (x y v:Int) (hf:m.W[f]?=some x) (hg:m.W[f+1]?=some y) (hv:IntKind.i64.wrap y=v) (v0 : -9223372036854775808≤v) (v1:v≤9223372036854775807) (hl:m.W.length≤1000000) (h0:0≤x) (h1:x<18446744073709551616) (hx:x % 4=3) (hy:x / 32768 % 2=0) (hz:x / 65536≤4096) (k1:x / 4 % 256=1) (hd:(decB v).size≤100) (w:World) (H:HeapAt q p tn sr w) (R:RepP p m w) (ht:TabbedM w) :
  Calls Tryz.prog 55 #[.pointer (some ⟨q,0,none⟩),.int .i64 (f:Int)] w fun ev w'=>ev = .returned (.tuple #[.string (decB 1++⟨#[32]⟩++decB v),.bool true])∧Below w.heap.size w w':=by
 have kt:Hid (∀ w,Calls Tryz.prog 105 #[.int .u64 x] w fun ev w'=>ev = .returned (.tuple #[.agg #[.int .i64 (x / 4 % 256),.int .i64 (x / 1024 % 16),.int .i64 (x / 16384 % 2),.int .i64 (x / 65536)],.nilIface])∧Below w.heap.size w w'):=fun w=>toHead_ok x h0 h1 hx hy hz w
 obtain ⟨vW,vR,vK,vI,vC,hp,M,⟨ao,cap,rfl,hcap,hW⟩,_⟩:=R
 have hlt:f+1<m.W.length:=(List.getElem?_eq_some_iff.mp hg).1
 obtain ⟨b,rfl,hb,hc⟩:=hW (by omega)
 have d0:=H.c0
 have d3:=M.c3
 have df:w.cell? ⟨b,f,none⟩=some (.int .u64 x):=hc f _ (by unfold wordsV;rw [List.getElem?_map,hf];rfl)
 have dg:w.cell? ⟨b,f+1,none⟩=some (.int .u64 y):=hc (f+1) _ (by unfold wordsV;rw [List.getElem?_map,hg];rfl)
 have hI:(f:Int)<(m.W.length:Int):=by omega
 have hI1:(f:Int)+1<(m.W.length:Int):=by omega
 have hI0:(0:Int)≤(f:Int):=by omega
 have hwf:IntKind.i64.wrap ((f:Int)+1)=(f:Int)+1:=wrapI _ (by omega) (by omega)
 have HA:Hid (∀ W,Below w.heap.size w W→W.cell? ⟨q,0,none⟩=some (.pointer (some ⟨p,0,none⟩))∧W.cell? ⟨p,3,none⟩=w.cell? ⟨p,3,none⟩∧W.cell? ⟨b,f+1,none⟩=some (.int .u64 y)):=fun W b=>⟨(b.cell (p:=⟨q,0,none⟩) (lt_of_cell d0)).trans d0,b.cell (p:=⟨p,3,none⟩) (lt_of_cell d3),(b.cell (p:=⟨_,f+1,none⟩) (lt_of_cell dg)).trans dg⟩
 have HFm:Hid (∀ W,Below w.heap.size w W→Calls Tryz.prog 106 #[.int .i64 v,.int .i64 10] W fun ev w'=>ev = .returned (.string (decB v))∧Below W.heap.size W w'):=fun W hW=>by
  refine (format_any v v0 v1 W (ht.below hW (Nat.le_refl _))).mono ?_
  rintro ev w' ⟨rfl,k,os,rfl⟩
  exact ⟨rfl,Lib.below_grow W.heap.size W (Nat.le_refl _) k os⟩
 have HIt:Hid (∀ W,Below w.heap.size w W→Calls Tryz.prog 56 #[.int .i64 1] W fun ev w'=>ev = .returned (.string (decB 1))∧Below W.heap.size W w'):=fun W hW=>itoa_at (by omega) (by omega) W (ht.below hW (Nat.le_refl _))
 have hd1:=decB_size 1 (by omega) (by omega)
 have a1:=fun wx=>run_string_add (P:=Tryz.prog) wx (decB 1) ⟨#[32]⟩ (by omega) (by decide)
 have a2:=fun wx=>run_string_add (P:=Tryz.prog) wx (decB 1++⟨#[32]⟩) (decB v) (by rw [ByteArray.size_append];show (((decB 1).size+1:Nat):Int)≤_;omega) (by omega)
 rw [k1] at kt
 clear hW hc M H h0 h1 hx hy hz hf hg hlt ht
 generalize x / 1024 % 16=ag at *
 generalize x / 16384 % 2=mk at *
 generalize x / 65536=sz at *
 generalize m.W.length=nW at *
 go_enter Tryz.func55,Tryz.ntmps55
 go_wp2_with fail
 refine (kt.out _).mono ?_
 rintro ev w1 ⟨rfl,hw1⟩
 obtain ⟨W2,hW2⟩:∃ W2,W2=w1.alloc (.cells #[.int .i64 1,.int .i64 ag,.int .i64 mk,.int .i64 sz] 172):=⟨_,rfl⟩
 have hw2:Below w.heap.size w W2:=by rw [hW2];exact hw1.alloc hw1.size _
 obtain ⟨e0,e1,e2⟩:=HA.out W2 hw2
 rw [d3] at e1
 have HW2:=toHid hw2
 have kf:=HFm.out W2 hw2
 have ci:W2.cell? ⟨w1.heap.size,0,none⟩=some (.int .i64 1):=by rw [hW2,cell_of_row _ _ _ _ _ _ (heap_alloc_new _ _)];rfl
 rw [hW2] at e0 e1 e2 kf ci
 clear kt d0 d3 df dg hw1 hw2
 go_wp2_with fail
 refine kf.mono ?_
 clear kf
 rintro ev w3 ⟨rfl,b3⟩
 rw [←hW2] at b3 ci
 have c3:w3.cell? ⟨w1.heap.size,0,none⟩=some (.int .i64 1):=(b3.cell (p:=⟨w1.heap.size,0,none⟩) (lt_of_cell ci)).trans ci
 have hw3:Below w.heap.size w w3:=HW2.out.trans (b3.mono HW2.out.size)
 have ki:=HIt.out w3 hw3
 have HW3:=toHid hw3
 clear e0 e1 e2 b3 ci hw3 hW2
 go_wp2_with fail
 refine ki.mono ?_
 clear ki
 rintro ev w4 ⟨rfl,b4⟩
 have HW4:=toHid (HW3.out.trans (b4.mono HW3.out.size))
 clear b4
 go_wp2_with fail
 go_ret2
 exact ⟨rfl,HW4.out⟩
end Go.Proofs.YtlkcbdinlfeoiaaGreatDoor
