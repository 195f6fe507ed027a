/- Package tree's writer at one raise: its text, byte by byte around the term. (Written out of WrtJ's and WrtM's walks.) -/
import Derived.Test.YtknjeecjhahbaaaGreatDoorBaY
import Derived.Test.YtknjeecjhahbaaaGreatDoorBaN
set_option linter.all false
namespace Go.Proofs.YtknjeecjhahbaaaGreatDoor
open Go.RowKit Go.Lib
variable {P:Prop}

def raiseB:ByteArray:=⟨#[114,97,105,115,101,32]⟩
set_option maxHeartbeats 4000000 in
set_option maxRecDepth 100000 in
theorem lineR {p:Nat}{rk:Value}{w1:World}{k:Nat} (H:RW P p rk w1 k) {nm:ByteArray}{pa:Option Addr}{pn pc:Nat}{la:Option Addr}{ln lc:Nat}{ba:Option Addr}{bn bc:Nat}{ea:Option Addr}{en ec:Nat} (hrow:TvRow w1 p (tv P w1 p k) la ln) (hl:1≤ln) (w:World) (C:WT p rk w1 w) :
  Calls Tryz.prog 44 #[.pointer (some ⟨p,0,none⟩),.agg #[.string ⟨#[114,97,105,115,101]⟩,.string nm,.slice pa pn pc,.slice la ln lc,.slice ba bn bc,.slice ea en ec]] w fun ev w'=>ev = .returned (.tuple #[])∧WX False p rk w1 w w' ∧ ∀ t,WAt p w t→t.size≤100 → ∃ d,GN P d∧WAt p w' (t++raiseB++d):=by
 obtain ⟨b,o,rfl,hb,op0,z0,s0,pa0,pn0,pc0,la0,ln0,lc0,k00,k01,k02,k03,k04,ht0⟩:=hrow.first (by omega)
 obtain ⟨wE,hE⟩:∃ wE,wE=w.alloc (.cells #[.string ⟨#[114,97,105,115,101]⟩,.string nm,.slice pa pn pc,.slice (some ⟨b,o,none⟩) ln lc,.slice ba bn bc,.slice ea en ec] 46):=⟨_,rfl⟩
 have hWE:WX False p rk w1 w wE:=by rw [hE];exact (WX.start C).alloc _
 have hq:wE.heap[w.heap.size]?=some (.cells #[.string ⟨#[114,97,105,115,101]⟩,.string nm,.slice pa pn pc,.slice (some ⟨b,o,none⟩) ln lc,.slice ba bn bc,.slice ea en ec] 46):=by rw [hE];exact heap_alloc_new _ _
 have HE:=toHidP hE
 have HS:Hid (w.heap.size+1=wE.heap.size):=by show _=_;rw [hE];simp
 have hp:=C.lt
 have HK:Hid (∀ w',WX False p rk w1 wE w'→w'.cell? ⟨w.heap.size,0,none⟩=some (.string ⟨#[114,97,105,115,101]⟩)∧w'.cell? ⟨w.heap.size,1,none⟩=some (.string nm)∧w'.cell? ⟨w.heap.size,2,none⟩=some (.slice pa pn pc)∧w'.cell? ⟨w.heap.size,3,none⟩=some (.slice (some ⟨b,o,none⟩) ln lc)∧w'.cell? ⟨w.heap.size,4,none⟩=some (.slice ba bn bc)∧w'.cell? ⟨w.heap.size,5,none⟩=some (.slice ea en ec)∧w'.cell? ⟨b,o,none⟩=some (.string op0)∧w'.cell? ⟨b,o+1,none⟩=some (.int .i64 z0)∧w'.cell? ⟨b,o+2,none⟩=some (.string s0)∧w'.cell? ⟨b,o+3,none⟩=some (.slice pa0 pn0 pc0)∧w'.cell? ⟨b,o+4,none⟩=some (.slice la0 ln0 lc0)):=fun w' h=>let e:=stmt_block (h.block hq (by omega) (by decide));⟨e.1,e.2.1,e.2.2.1,e.2.2.2.1,e.2.2.2.2.1,e.2.2.2.2.2.1,h.wt.old (a:=⟨b,o,none⟩) hb k00,h.wt.old (a:=⟨b,o+1,none⟩) hb k01,h.wt.old (a:=⟨b,o+2,none⟩) hb k02,h.wt.old (a:=⟨b,o+3,none⟩) hb k03,h.wt.old (a:=⟨b,o+4,none⟩) hb k04⟩
 have HCA:=toHidP hWE
 have HTE:Hid (∀ t,WAt p w t→WAt p wE t):=fun t ht=>by rw [hE];exact ht.more ((Below.refl _ _).alloc (Nat.le_refl _) _)
 have HH:=toHidP H
 have HR:=toHidP hrow
 have HT0:=toHidP ht0
 have hbw:b<w.heap.size:=by omega
 have hL:(0:Int)<(ln:Int):=by omega
 have HS0:=toHidP (WX.start (P:=False) hWE.wt)
 clear C hE hWE hq H hrow k00 k01 k02 k03 k04 ht0
 go_enter Tryz.func44,Tryz.ntmps44
 go_wp2_with fail
 rw [←HE.out,HS.out]
 refine (put1E HS0.out raiseB (by decide)).mono ?_
 rintro ev v0 ⟨rfl,g0,q0⟩
 have Q0:=toHidP q0
 clear q0
 have G0:=toHidP g0
 obtain ⟨x0,x1,x2,x3,x4,x5,y00,y01,y02,y03,y04⟩:=HK.out v0 G0.out
 clear g0
 go_wp2_with fail
 refine (term_wt HH.out HT0.out _ G0.out.wt).mono ?_
 rintro ev v1 ⟨rfl,g1⟩
 have G1:=toHidP (G0.out.trans g1.weak)
 have Q1:=toHidP g1.grow
 clear x0 x1 x2 x3 x4 x5 y00 y01 y02 y03 y04
 clear g1
 go_wp2_with fail
 go_end0
 exact ⟨rfl,HCA.out.trans G1.out,fun t ht h6=>by
  rcases Q0.out t (HTE.out t ht) with h | ⟨_,h⟩
  ·exact Q1.out _ h
  ·have e:raiseB.size=6:=rfl
   omega⟩
set_option maxHeartbeats 4000000 in
set_option maxRecDepth 100000 in
theorem stR {p:Nat}{rk:Value}{w1:World}{k:Nat} (H:RW P p rk w1 k) {nm:ByteArray}{pa:Option Addr}{pn pc:Nat}{la:Option Addr}{ln lc:Nat}{ba:Option Addr}{bn bc:Nat}{ea:Option Addr}{en ec:Nat} (hrow:TvRow w1 p (tv P w1 p k) la ln) (hl:1≤ln) (w:World) (C:WT p rk w1 w) :
  Calls Tryz.prog 26 #[.pointer (some ⟨p,0,none⟩),.agg #[.string ⟨#[114,97,105,115,101]⟩,.string nm,.slice pa pn pc,.slice la ln lc,.slice ba bn bc,.slice ea en ec],.int .i64 0] w fun ev w'=>ev = .returned (.tuple #[])∧WX False p rk w1 w w' ∧ ∀ t,WAt p w t→t.size≤100 → ∃ d,GN P d∧(WAt p w' (t++raiseB++d++⟨#[10]⟩)∨LAt p w'):=by
 obtain ⟨wE,hE⟩:∃ wE,wE=w.alloc (.cells #[.string ⟨#[114,97,105,115,101]⟩,.string nm,.slice pa pn pc,.slice la ln lc,.slice ba bn bc,.slice ea en ec] 46):=⟨_,rfl⟩
 have hWE:WX False p rk w1 w wE:=by rw [hE];exact (WX.start C).alloc _
 have hq:wE.heap[w.heap.size]?=some (.cells #[.string ⟨#[114,97,105,115,101]⟩,.string nm,.slice pa pn pc,.slice la ln lc,.slice ba bn bc,.slice ea en ec] 46):=by rw [hE];exact heap_alloc_new _ _
 have HE:=toHidP hE
 have hp:=C.lt
 have HK:Hid (∀ w',WX False p rk w1 wE w'→w'.cell? ⟨w.heap.size,0,none⟩=some (.string ⟨#[114,97,105,115,101]⟩)∧w'.cell? ⟨w.heap.size,1,none⟩=some (.string nm)∧w'.cell? ⟨w.heap.size,2,none⟩=some (.slice pa pn pc)∧w'.cell? ⟨w.heap.size,3,none⟩=some (.slice la ln lc)∧w'.cell? ⟨w.heap.size,4,none⟩=some (.slice ba bn bc)∧w'.cell? ⟨w.heap.size,5,none⟩=some (.slice ea en ec)):=fun w' h=>let e:=stmt_block (h.block hq (by omega) (by decide));⟨e.1,e.2.1,e.2.2.1,e.2.2.2.1,e.2.2.2.2.1,e.2.2.2.2.2.1⟩
 have HCA:=toHidP hWE
 have HH:=toHidP H
 have HROW:=toHidP hrow
 have HTE:Hid (∀ t,WAt p w t→WAt p wE t):=fun t ht=>by rw [hE];exact ht.more ((Below.refl _ _).alloc (Nat.le_refl _) _)
 have ht1:termsN ⟨#[114,97,105,115,101]⟩=1:=by kernel_rfl
 have hL1:¬ (ln:Int)<1:=by omega
 clear C hE hWE hq H hrow
 go_enter Tryz.func26,Tryz.ntmps26
 go_wp2_with fail
 go_quiet ((go_at_call 39;exact Calls.quiet_of_same (termsOf_any _ _)))
 rw [←HE.out]
 obtain ⟨wD,hwD⟩:∃ wD,wD=wE.drewN nq:=⟨_,rfl⟩
 have GD:Hid (WX False p rk w1 wE wD):=by show WX _ _ _ _ _ _;rw [hwD];exact (WX.start HCA.out.wt).drewN
 have HTD:Hid (∀ t,WAt p w t→WAt p wD t):=fun t ht=>by rw [hwD];exact HTE.out t ht
 rw [←hwD]
 obtain ⟨x0,x1,x2,x3,x4,x5⟩:=HK.out wD GD.out
 clear hwD
 go_wp2_with fail
 refine (lineR HH.out HROW.out hl _ GD.out.wt).mono ?_
 rintro ev v0 ⟨rfl,g0,q0⟩
 have Q0:=toHidP q0
 clear q0
 have G0:=toHidP (GD.out.trans g0)
 clear x0 x1 x2 x3 x4 x5
 obtain ⟨x0,x1,x2,x3,x4,x5⟩:=HK.out v0 G0.out
 clear g0
 go_wp2_with fail
 refine (put1E G0.out ⟨#[10]⟩ (by decide)).mono ?_
 rintro ev v1 ⟨rfl,g1,q1⟩
 have Q1:=toHidP q1
 clear q1
 have G1:=toHidP g1
 clear x0 x1 x2 x3 x4 x5
 clear g1
 go_wp2_with fail
 go_end0
 exact ⟨rfl,HCA.out.trans G1.out,fun t ht h6=>by
  obtain ⟨e,ge,he⟩:=Q0.out t (HTD.out t ht) h6
  exact ⟨e,ge,(Q1.out _ he).imp id (fun h=>h.1)⟩⟩
set_option maxHeartbeats 4000000 in
set_option maxRecDepth 100000 in
theorem stsR {p:Nat}{rk:Value}{w1:World}{k:Nat} (H:RW P p rk w1 k) {b o bc:Nat} (hb:b<p) {nm:ByteArray}{pa:Option Addr}{pn pc:Nat}{la:Option Addr}{ln lc:Nat}{ba:Option Addr}{bn bd:Nat}{ea:Option Addr}{en ec:Nat}
  (k0:w1.cell? ⟨b,o,none⟩=some (.string ⟨#[114,97,105,115,101]⟩)) (k1:w1.cell? ⟨b,o+1,none⟩=some (.string nm)) (k2:w1.cell? ⟨b,o+2,none⟩=some (.slice pa pn pc)) (k3:w1.cell? ⟨b,o+3,none⟩=some (.slice la ln lc)) (k4:w1.cell? ⟨b,o+4,none⟩=some (.slice ba bn bd)) (k5:w1.cell? ⟨b,o+5,none⟩=some (.slice ea en ec))
  (hrow:TvRow w1 p (tv P w1 p k) la ln) (hl:1≤ln) (w:World) (C:WT p rk w1 w) (hT:WAt p w ⟨#[]⟩) (h3:w.cell? ⟨p,3,none⟩=some (.bool false)) :
  Calls Tryz.prog 14 #[.pointer (some ⟨p,0,none⟩),.slice (some ⟨b,o,none⟩) 1 bc,.int .i64 0] w fun ev w'=>ev = .returned (.tuple #[])∧WT p rk w1 w' ∧ ∃ d,GN P d∧(WAt p w' (raiseB++d++⟨#[10]⟩)∨LAt p w'):=by
 have HC:=toHidP C
 have HT:=toHidP hT
 have HH:=toHidP H
 have HR:=toHidP hrow
 have y0:=C.old (a:=⟨b,o,none⟩) hb k0
 have y1:=C.old (a:=⟨b,o+1,none⟩) hb k1
 have y2:=C.old (a:=⟨b,o+2,none⟩) hb k2
 have y3:=C.old (a:=⟨b,o+3,none⟩) hb k3
 have y4:=C.old (a:=⟨b,o+4,none⟩) hb k4
 have y5:=C.old (a:=⟨b,o+5,none⟩) hb k5
 have hbl:=lt_of_cell y0
 have hpl:=C.lt
 obtain ⟨wE,hE⟩:∃ wE,wE=w.alloc (.cells #[.string ⟨#[114,97,105,115,101]⟩,.string nm,.slice pa pn pc,.slice la ln lc,.slice ba bn bd,.slice ea en ec] 46):=⟨_,rfl⟩
 have hWE:WX False p rk w1 w wE:=by rw [hE];exact (WX.start C).alloc _
 have HTE:Hid (WAt p wE ⟨#[]⟩):=by show WAt _ _ _;rw [hE];exact hT.more ((Below.refl _ _).alloc (Nat.le_refl _) _)
 have hq:wE.heap[w.heap.size]?=some (.cells #[.string ⟨#[114,97,105,115,101]⟩,.string nm,.slice pa pn pc,.slice la ln lc,.slice ba bn bd,.slice ea en ec] 46):=by rw [hE];exact heap_alloc_new _ _
 obtain ⟨x0,x1,x2,x3,x4,x5,_⟩:=stmt_block hq
 have HE:=toHidP hE
 have HWE:=toHidP hWE
 clear C hT H hrow k0 k1 k2 k3 k4 k5 hE hWE hq
 go_enter Tryz.func14,Tryz.ntmps14
 go_wp2_with fail
 go_loopg [10] 2 (fun gk v10 wr => ∃ i:Nat,gk=2 - i∧i≤1∧v10 = .int .i64 (i:Int)∧((i=0∧wr=w)∨(i=1∧WT p rk w1 wr ∧ ∃ d,GN P d∧(WAt p wr (raiseB++d++⟨#[10]⟩)∨LAt p wr))))
 case atStart=>exact ⟨0,rfl,Nat.zero_le _,rfl,.inl ⟨rfl,rfl⟩⟩
 case round =>
  obtain ⟨i,hgk,hi,rfl,⟨rfl,rfl⟩ | ⟨rfl,hW,hX⟩⟩:=hrel
  ·have HG:=toHidP hgk
   clear hgk
   go_wp2_with fail
   rw [←HE.out]
   clear y0 y1 y2 y3 y4 y5 h3
   refine (begin_zero _).mono ?_
   rintro ev v1 ⟨rfl,rfl⟩
   go_wp2_with fail
   refine (stR HH.out HR.out hl v1 HWE.out.wt).mono ?_
   rintro ev v2 ⟨rfl,g2,q2⟩
   have G2:=toHidP g2.wt
   have Q2:Hid (∃ d,GN P d∧(WAt p v2 (raiseB++d++⟨#[10]⟩)∨LAt p v2)):=by
    obtain ⟨d,gd,hd⟩:=q2 _ HTE.out (by decide)
    have e:(⟨#[]⟩:ByteArray)++raiseB=raiseB:=by decide
    rw [e] at hd
    exact ⟨d,gd,hd⟩
   clear g2 q2 x0 x1 x2 x3 x4 x5
   go_wp2_with fail
   go_roundg 1
   case measure=>have:=HG.out;omega
   case rel=>exact ⟨1,rfl,by omega,by go_num,.inr ⟨rfl,G2.out,Q2.out⟩⟩
  ·have HWW:=toHidP hW
   have HXX:=toHidP hX
   clear hgk hW hX y0 y1 y2 y3 y4 y5 h3
   go_wp2_with fail
   go_end0
   exact ⟨rfl,HWW.out,HXX.out⟩
end Go.Proofs.YtknjeecjhahbaaaGreatDoor
