/- The law MajorKeeps by a walk. -/
import Derived.Test.YtnenggkgfhgcnaaGreatDoorKpG
namespace Go.Proofs.YtnenggkgfhgcnaaGreatDoor
open Go.RowKit Go.Maps

set_option maxHeartbeats 4000000 in
set_option maxRecDepth 100000 in
theorem majorKeeps_far (a:Nat→Addr) (p o:Nat) (m:MD) (w:World) (E:Errs a w) (h:RepM p o m w) (hn:¬ (m.W.length≤1000∧m.R.length≤100∧m.K.length≤100∧m.I.length≤100∧m.C.length≤1000)):Calls Tryz.prog 3 #[.pointer (some ⟨p,o,none⟩)] w fun ev w'=>ev = .returned (.bool true)∧Below w.heap.size w w':=by
 have ks:=still_any a w E.me
 go_enter Tryz.func3,Tryz.ntmps3
 go_wp2_with fail
 refine ks.mono ?_
 rintro ev w1 ⟨rfl,hb⟩
 go_wp2_with fail
 refine (near_no p o m w1 (h.below hb) hn).mono ?_
 rintro ev w2 ⟨rfl,hq⟩
 rw [hq]
 clear hq w2
 go_wp2_with fail
 go_ret
 exact ⟨rfl,hb⟩
set_option maxHeartbeats 4000000 in
set_option maxRecDepth 100000 in
theorem majorKeeps_nil (a:Nat→Addr) (w:World) (E:Errs a w):Calls Tryz.prog 3 #[.pointer none] w fun ev w'=>ev = .returned (.bool true)∧Below w.heap.size w w':=by
 have ks:=still_any a w E.me
 have HE:=toHid E
 clear E
 go_enter Tryz.func3,Tryz.ntmps3
 go_wp2_with fail
 refine ks.mono ?_
 clear ks
 rintro ev w1 ⟨rfl,hb⟩
 go_wp2_with fail
 refine (jNear_none w1).mono ?_
 rintro ev wz ⟨rfl,hq⟩
 rw [hq]
 clear hq wz
 go_wp2_with fail
 refine (checkOf_nil w1).mono ?_
 rintro ev w2 ⟨rfl,hb2⟩
 have HB2:Hid (Below w.heap.size w w2):=hb.trans (hb2.mono hb.size)
 clear hb hb2
 go_wp2_with fail
 go_quiet (fail)
 obtain ⟨w3,hw3⟩:∃ w3,w3=w2.drewN nq:=⟨_,rfl⟩
 have HB3:Hid (Below w.heap.size w w3):=by rw [hw3];exact below_drewN HB2.out
 rw [←hw3]
 clear hw3
 go_wp2_with fail
 refine (memOf_none w3).mono ?_
 rintro ev wz ⟨rfl,hq⟩
 rw [hq]
 clear hq wz
 have kc:=jcollect_none a w3 (HE.out.below HB3.out).me
 go_wp2_with fail
 refine kc.mono ?_
 clear kc
 rintro ev w4 ⟨rfl,hb4⟩
 have HB4:Hid (Below w.heap.size w w4):=HB3.out.trans (hb4.mono HB3.out.size)
 have kd:=coded_any a 2 (by decide) w4 (HE.out.below HB4.out)
 clear hb4
 go_wp2_with fail
 refine kd.mono ?_
 clear kd
 rintro ev w5 ⟨rfl,hb5⟩
 have HB5:Hid (Below w.heap.size w w5):=HB4.out.trans (hb5.mono HB4.out.size)
 clear hb5
 go_wp2_with fail
 go_ret
 exact ⟨rfl,HB5.out⟩
set_option maxHeartbeats 8000000 in
set_option maxRecDepth 100000 in
theorem majorKeeps_bad (a:Nat→Addr) (p o:Nat) (m:MD) (w:World) (E:Errs a w) (h:RepM p o m w) (h64:MD64 m) (n1:m.W.length≤1000) (n2:m.R.length≤100) (n3:m.K.length≤100) (n4:m.I.length≤100) (n5:m.C.length≤1000) (hbad:¬ ((∃ vs,m.Shape vs)∧m.cardsB=true)):Calls Tryz.prog 3 #[.pointer (some ⟨p,o,none⟩)] w fun ev w'=>ev = .returned (.bool true)∧Below w.heap.size w w':=by
 have HBAD:=toHid hbad
 clear hbad
 have HE:=toHid E
 have HR:=toHid h
 have H64:=toHid h64
 have ks:=still_any a w E.me
 clear E h h64
 go_enter Tryz.func3,Tryz.ntmps3
 go_wp2_with fail
 refine ks.mono ?_
 clear ks
 rintro ev w1 ⟨rfl,hb1⟩
 go_wp2_with fail
 refine (near_yes p o m w1 (HR.out.below hb1) n1 n2 n3 n4 n5).mono ?_
 rintro ev w2 ⟨rfl,hq⟩
 rw [hq]
 clear hq w2
 go_wp2_with fail
 refine (checkOf_any p o m H64.out (by omega) (by omega) (by omega) w1 (HR.out.below hb1)).mono ?_
 rintro ev w2 ⟨hb2,⟨vs,hS,hC,rfl⟩ | ⟨vs,hs,hC,rfl⟩ | ⟨hno,rfl⟩⟩
 ·exact absurd ⟨⟨vs,hS⟩,hC⟩ HBAD.out
 ·have HB2:Hid (Below w.heap.size w w2):=hb1.trans (hb2.mono hb1.size)
  clear hb1 hb2
  go_wp2_with fail
  go_quiet (fail)
  obtain ⟨w2',hw2⟩:∃ w2',w2'=w2.drewN nq:=⟨_,rfl⟩
  have HB2':Hid (Below w.heap.size w w2'):=by rw [hw2];exact below_drewN HB2.out
  rw [←hw2]
  clear hw2
  go_wp2_with fail
  refine (memOf_own p o m w2' (HR.out.below HB2'.out) (by omega) (by omega) (by omega) (by omega) (by omega)).mono ?_
  rintro ev w3 ⟨bx,rfl,O3,hb3⟩
  have HB3:Hid (Below w.heap.size w w3):=HB2'.out.trans (hb3.mono HB2'.out.size)
  have HP3:=toHid O3.repP
  have kc:=jcollect_bad a bx m H64.out (by omega) (by omega) (by omega) w3 (HE.out.below HB3.out).me.three HP3.out HBAD.out
  clear O3 hb3
  go_wp2_with fail
  refine kc.mono ?_
  clear kc
  rintro ev w4 ⟨hb4,hp4⟩
  have HM4:Hid (RepM bx 0 m w4):=HP3.out.rep.below hb4
  have HB4:Hid (Below w.heap.size w w4):=HB3.out.trans (hb4.mono HB3.out.size)
  clear hb4
  rcases hp4 with ⟨_,_,rfl⟩ | ⟨hno,rfl⟩
  rotate_left
  ·exact absurd hs (hno vs)
  have kd:=coded_any a 4 (by decide) w4 (HE.out.below HB4.out)
  go_wp2_with fail
  refine kd.mono ?_
  clear kd
  rintro ev w5 ⟨rfl,hb5⟩
  have HB5:Hid (Below w.heap.size w w5):=HB4.out.trans (hb5.mono HB4.out.size)
  have kb:=memBack_any bx m w5 (HM4.out.below hb5) (by omega) (by omega) (by omega) (by omega) (by omega)
  clear hb5
  go_wp2_with fail
  refine kb.mono ?_
  clear kb
  rintro ev w6 ⟨bn,rfl,_,hRn,hb6⟩
  have HB6:Hid (Below w.heap.size w w6):=HB5.out.trans (hb6.mono HB5.out.size)
  have kq:=sameMemory_eq bn 0 p o m w6 hRn (HR.out.below HB6.out) (by omega) (by omega) (by omega) (by omega) (by omega)
  clear hRn hb6
  go_wp2_with fail
  refine kq.mono ?_
  clear kq
  rintro ev w7 ⟨rfl,hb7⟩
  have HB7:Hid (Below w.heap.size w w7):=HB6.out.trans (hb7.mono HB6.out.size)
  clear hb7
  go_wp2_with fail
  go_ret
  exact ⟨rfl,HB7.out⟩
 ·have HB2:Hid (Below w.heap.size w w2):=hb1.trans (hb2.mono hb1.size)
  clear hb1 hb2
  go_wp2_with fail
  go_quiet (fail)
  obtain ⟨w2',hw2⟩:∃ w2',w2'=w2.drewN nq:=⟨_,rfl⟩
  have HB2':Hid (Below w.heap.size w w2'):=by rw [hw2];exact below_drewN HB2.out
  rw [←hw2]
  clear hw2
  go_wp2_with fail
  refine (memOf_own p o m w2' (HR.out.below HB2'.out) (by omega) (by omega) (by omega) (by omega) (by omega)).mono ?_
  rintro ev w3 ⟨bx,rfl,O3,hb3⟩
  have HB3:Hid (Below w.heap.size w w3):=HB2'.out.trans (hb3.mono HB2'.out.size)
  have HP3:=toHid O3.repP
  have kc:=jcollect_bad a bx m H64.out (by omega) (by omega) (by omega) w3 (HE.out.below HB3.out).me.three HP3.out HBAD.out
  clear O3 hb3
  go_wp2_with fail
  refine kc.mono ?_
  clear kc
  rintro ev w4 ⟨hb4,hp4⟩
  have HM4:Hid (RepM bx 0 m w4):=HP3.out.rep.below hb4
  have HB4:Hid (Below w.heap.size w w4):=HB3.out.trans (hb4.mono HB3.out.size)
  clear hb4
  rcases hp4 with ⟨hs,_,rfl⟩ | ⟨_,rfl⟩
  ·obtain ⟨vs,hs⟩:=hs;exact absurd hs (hno vs)
  have kd:=coded_any a 2 (by decide) w4 (HE.out.below HB4.out)
  go_wp2_with fail
  refine kd.mono ?_
  clear kd
  rintro ev w5 ⟨rfl,hb5⟩
  have HB5:Hid (Below w.heap.size w w5):=HB4.out.trans (hb5.mono HB4.out.size)
  have kb:=memBack_any bx m w5 (HM4.out.below hb5) (by omega) (by omega) (by omega) (by omega) (by omega)
  clear hb5
  go_wp2_with fail
  refine kb.mono ?_
  clear kb
  rintro ev w6 ⟨bn,rfl,_,hRn,hb6⟩
  have HB6:Hid (Below w.heap.size w w6):=HB5.out.trans (hb6.mono HB5.out.size)
  have kq:=sameMemory_eq bn 0 p o m w6 hRn (HR.out.below HB6.out) (by omega) (by omega) (by omega) (by omega) (by omega)
  clear hRn hb6
  go_wp2_with fail
  refine kq.mono ?_
  clear kq
  rintro ev w7 ⟨rfl,hb7⟩
  have HB7:Hid (Below w.heap.size w w7):=HB6.out.trans (hb7.mono HB6.out.size)
  clear hb7
  go_wp2_with fail
  go_ret
  exact ⟨rfl,HB7.out⟩
set_option maxHeartbeats 8000000 in
set_option maxRecDepth 100000 in
theorem majorKeeps_full (a:Nat→Addr) (p o:Nat) (m:MD) (w:World) (E:Errs a w) (h:RepM p o m w) (h64:MD64 m) (n1:m.W.length≤1000) (n2:m.R.length≤100) (n3:m.K.length≤100) (n4:m.I.length≤100) (n5:m.C.length≤1000) (vs:List Nat) (hS:m.Shape vs) (hC:m.cardsB=true) (hl:m.old<(m.live vs:Int)):Calls Tryz.prog 3 #[.pointer (some ⟨p,o,none⟩)] w fun ev w'=>ev = .returned (.bool true)∧Below w.heap.size w w':=by
 have HS:=toHid hS
 have HC:=toHid hC
 have hwl:(m.W.length:Int)=(m.m0:Int)+m.old:=by
  have h1:=hS.1.w
  have h2:=(MD.parts hS.1).m0
  omega
 have HWL:=toHid hwl
 obtain ⟨lv,hlv⟩:∃ lv,lv=m.live vs:=⟨_,rfl⟩
 rw [←hlv] at hl
 have HLVE:=toHid hlv
 have HLL:=toHid hl
 clear hS hC hwl hlv
 have HE:=toHid E
 have HR:=toHid h
 have H64:=toHid h64
 have ks:=still_any a w E.me
 clear E h h64
 go_enter Tryz.func3,Tryz.ntmps3
 go_wp2_with fail
 refine ks.mono ?_
 clear ks
 rintro ev w1 ⟨rfl,hb1⟩
 go_wp2_with fail
 refine (near_yes p o m w1 (HR.out.below hb1) n1 n2 n3 n4 n5).mono ?_
 rintro ev w2 ⟨rfl,hq⟩
 rw [hq]
 clear hq w2
 go_wp2_with fail
 refine (checkOf_any p o m H64.out (by omega) (by omega) (by omega) w1 (HR.out.below hb1)).mono ?_
 rintro ev w2 ⟨hb2,⟨vs',hS',hC',rfl⟩ | ⟨_,_,hC',_⟩ | ⟨hno,_⟩⟩
 rotate_left
 ·rw [HC.out] at hC';cases hC'
 ·exact absurd HS.out (hno vs)
 clear hS' hC' vs'
 have HB2:Hid (Below w.heap.size w w2):=hb1.trans (hb2.mono hb1.size)
 clear hb1 hb2
 have HOL:Hid (∀ W,Below w2.heap.size w2 W→W.cell? ⟨p,o+1,none⟩=some (.int .i64 m.old)):=fun W hW=>by
  obtain ⟨_,_,_,_,_,_,Mm,_⟩:=(HR.out.below HB2.out).below hW
  exact Mm.c1
 have HOL0:=toHid (HOL.out w2 (Below.refl _ _))
 have HLV:Hid (∀ W,Below w2.heap.size w2 W→Calls Tryz.prog 10 #[.pointer (some ⟨p,o,none⟩)] W fun ev w'=>ev = .returned (.int .i64 (lv:Int))∧Below w2.heap.size w2 w'):=fun W hW=>by
  rw [HLVE.out]
  refine (liveOf_any p o m vs HS.out H64.out (by omega) W ((HR.out.below HB2.out).below hW)).mono ?_
  rintro ev w' ⟨rfl,hb⟩
  exact ⟨rfl,hW.trans (hb.mono hW.size)⟩
 go_wp2_with fail
 go_cut [34] from 24 to 35 (fun v34 wx=>v34 = .bool true∧Hid (Below w2.heap.size w2 wx))
 case first =>
  go_region_held3 (fun W=>W.cell? ⟨p,o+1,none⟩=some (.int .i64 m.old)) (first | with_reducible exact HOL0.out | with_reducible exact HOL.out _ hbC | exact HOL0.out) (first | (go_at_call 10;refine (HLV.out _ (by first | exact Below.refl _ _ | exact (Below.refl _ _).drew)).mono ?_;rintro ev wC ⟨rfl,hbC⟩))
  all_goals go_wp2_with fail
  all_goals go_meet
  all_goals exact ⟨by simp;try omega,hbC⟩
 case rest =>
 obtain ⟨rfl,hbc⟩:=hcut
 obtain ⟨w2',hw2⟩:∃ w2',w2'=wc:=⟨_,rfl⟩
 subst hw2
 have HB2':Hid (Below w.heap.size w w2'):=HB2.out.trans (hbc.out.mono HB2.out.size)
 clear HOL HOL0 HLV hbc
 go_wp2_with fail
 refine (memOf_own p o m w2' (HR.out.below HB2'.out) (by omega) (by omega) (by omega) (by omega) (by omega)).mono ?_
 rintro ev w3 ⟨bx,rfl,O3,hb3⟩
 have HB3:Hid (Below w.heap.size w w3):=HB2'.out.trans (hb3.mono HB2'.out.size)
 have HP3:=toHid O3.repP
 obtain ⟨l1,l2,hv,g1,g2⟩:=HS.out.bare
 obtain ⟨bW,bC,cW,cC,vR,vK,vI,hCA,x0,x1,x2⟩:=colAt_of O3 (shape_pos HS.out).1 (shape_pos HS.out).2.1
 have kc:=jcollect_any a bx bW bC cW cC m vR vK vI l1 l2 w3 hCA (by rw [←hv];exact HS.out) HC.out H64.out g1 g2 (by omega) (by omega) (by omega) (fun w' h=>(HE.out.below HB2'.out).me.below (hb3.trans (h.below hb3.size (fun q hq hx=>by
  rcases hx with h | h | h <;> omega))))
 have HHV:=toHid hv
 have HB23:=toHid hb3
 have HXX:Hid (w2'.heap.size≤bx∧w2'.heap.size≤bW∧w2'.heap.size≤bC):=⟨x0,x1,x2⟩
 clear O3 hCA hv g1 g2 hb3 x0 x1 x2
 go_wp2_with fail
 refine kc.mono ?_
 clear kc
 rintro ev w4 (⟨t1,rfl,hb4⟩ | ⟨t1,rfl,P,φ,X,hPf,vR',vK',vI',hN,ha⟩)
 ·have HM4:Hid (RepM bx 0 m w4):=HP3.out.rep.below hb4
  have HB4:Hid (Below w.heap.size w w4):=HB3.out.trans (hb4.mono HB3.out.size)
  clear hb4
  have kd:=coded_any a 5 (by decide) w4 (HE.out.below HB4.out)
  go_wp2_with fail
  refine kd.mono ?_
  clear kd
  rintro ev w5 ⟨rfl,hb5⟩
  have HB5:Hid (Below w.heap.size w w5):=HB4.out.trans (hb5.mono HB4.out.size)
  have kb:=memBack_any bx m w5 (HM4.out.below hb5) (by omega) (by omega) (by omega) (by omega) (by omega)
  clear hb5
  go_wp2_with fail
  refine kb.mono ?_
  clear kb
  rintro ev w6 ⟨bn,rfl,_,hRn,hb6⟩
  have HB6:Hid (Below w.heap.size w w6):=HB5.out.trans (hb6.mono HB5.out.size)
  have kq:=sameMemory_eq bn 0 p o m w6 hRn (HR.out.below HB6.out) (by omega) (by omega) (by omega) (by omega) (by omega)
  clear hRn hb6
  go_wp2_with fail
  refine kq.mono ?_
  clear kq
  rintro ev w7 ⟨rfl,hb7⟩
  have HB7:Hid (Below w.heap.size w w7):=HB6.out.trans (hb7.mono HB6.out.size)
  clear hb7
  go_wp2_with fail
  go_ret
  exact ⟨rfl,HB7.out⟩
 ·have h1:=HWL.out
  have h2:=HLL.out
  rw [HLVE.out,HHV.out] at h2
  omega
set_option maxHeartbeats 8000000 in
set_option maxRecDepth 100000 in
theorem majorKeeps_ok (a:Nat→Addr) (p o:Nat) (m:MD) (w:World) (E:Errs a w) (h:RepM p o m w) (h64:MD64 m) (n1:m.W.length≤1000) (n2:m.R.length≤100) (n3:m.K.length≤100) (n4:m.I.length≤100) (n5:m.C.length≤1000) (vs:List Nat) (hS:m.Shape vs) (hC:m.cardsB=true) (hl:(m.live vs:Int)≤m.old):Calls Tryz.prog 3 #[.pointer (some ⟨p,o,none⟩)] w fun ev w'=>ev = .returned (.bool true)∧Below w.heap.size w w':=by
 have HS:=toHid hS
 have HC:=toHid hC
 have hwl:(m.W.length:Int)=(m.m0:Int)+m.old:=by
  have h1:=hS.1.w
  have h2:=(MD.parts hS.1).m0
  omega
 have HWL:=toHid hwl
 obtain ⟨lv,hlv⟩:∃ lv,lv=m.live vs:=⟨_,rfl⟩
 rw [←hlv] at hl
 have HLVE:=toHid hlv
 have HLL:=toHid hl
 clear hS hC hwl hlv
 have HE:=toHid E
 have HR:=toHid h
 have H64:=toHid h64
 have ks:=still_any a w E.me
 clear E h h64
 go_enter Tryz.func3,Tryz.ntmps3
 go_wp2_with fail
 refine ks.mono ?_
 clear ks
 rintro ev w1 ⟨rfl,hb1⟩
 go_wp2_with fail
 refine (near_yes p o m w1 (HR.out.below hb1) n1 n2 n3 n4 n5).mono ?_
 rintro ev w2 ⟨rfl,hq⟩
 rw [hq]
 clear hq w2
 go_wp2_with fail
 refine (checkOf_any p o m H64.out (by omega) (by omega) (by omega) w1 (HR.out.below hb1)).mono ?_
 rintro ev w2 ⟨hb2,⟨vs',hS',hC',rfl⟩ | ⟨_,_,hC',_⟩ | ⟨hno,_⟩⟩
 rotate_left
 ·rw [HC.out] at hC';cases hC'
 ·exact absurd HS.out (hno vs)
 clear hS' hC' vs'
 have HB2:Hid (Below w.heap.size w w2):=hb1.trans (hb2.mono hb1.size)
 clear hb1 hb2
 have HOL:Hid (∀ W,Below w2.heap.size w2 W→W.cell? ⟨p,o+1,none⟩=some (.int .i64 m.old)):=fun W hW=>by
  obtain ⟨_,_,_,_,_,_,Mm,_⟩:=(HR.out.below HB2.out).below hW
  exact Mm.c1
 have HOL0:=toHid (HOL.out w2 (Below.refl _ _))
 have HLV:Hid (∀ W,Below w2.heap.size w2 W→Calls Tryz.prog 10 #[.pointer (some ⟨p,o,none⟩)] W fun ev w'=>ev = .returned (.int .i64 (lv:Int))∧Below w2.heap.size w2 w'):=fun W hW=>by
  rw [HLVE.out]
  refine (liveOf_any p o m vs HS.out H64.out (by omega) W ((HR.out.below HB2.out).below hW)).mono ?_
  rintro ev w' ⟨rfl,hb⟩
  exact ⟨rfl,hW.trans (hb.mono hW.size)⟩
 go_wp2_with fail
 go_cut [34] from 24 to 35 (fun v34 wx=>v34 = .bool false∧Hid (Below w2.heap.size w2 wx))
 case first =>
  go_region_held3 (fun W=>W.cell? ⟨p,o+1,none⟩=some (.int .i64 m.old)) (first | with_reducible exact HOL0.out | with_reducible exact HOL.out _ hbC | exact HOL0.out) (first | (go_at_call 10;refine (HLV.out _ (by first | exact Below.refl _ _ | exact (Below.refl _ _).drew)).mono ?_;rintro ev wC ⟨rfl,hbC⟩))
  all_goals go_wp2_with fail
  all_goals go_meet
  all_goals exact ⟨by simp;try omega,hbC⟩
 case rest =>
 obtain ⟨rfl,hbc⟩:=hcut
 obtain ⟨w2',hw2⟩:∃ w2',w2'=wc:=⟨_,rfl⟩
 subst hw2
 have HB2':Hid (Below w.heap.size w w2'):=HB2.out.trans (hbc.out.mono HB2.out.size)
 clear HOL HOL0 HLV hbc
 go_wp2_with fail
 refine (memOf_own p o m w2' (HR.out.below HB2'.out) (by omega) (by omega) (by omega) (by omega) (by omega)).mono ?_
 rintro ev w3 ⟨bx,rfl,O3,hb3⟩
 have HB3:Hid (Below w.heap.size w w3):=HB2'.out.trans (hb3.mono HB2'.out.size)
 have HP3:=toHid O3.repP
 obtain ⟨l1,l2,hv,g1,g2⟩:=HS.out.bare
 obtain ⟨bW,bC,cW,cC,vR,vK,vI,hCA,x0,x1,x2⟩:=colAt_of O3 (shape_pos HS.out).1 (shape_pos HS.out).2.1
 have kc:=jcollect_any a bx bW bC cW cC m vR vK vI l1 l2 w3 hCA (by rw [←hv];exact HS.out) HC.out H64.out g1 g2 (by omega) (by omega) (by omega) (fun w' h=>(HE.out.below HB2'.out).me.below (hb3.trans (h.below hb3.size (fun q hq hx=>by
  rcases hx with h | h | h <;> omega))))
 have HHV:=toHid hv
 have HB23:=toHid hb3
 have HXX:Hid (w2'.heap.size≤bx∧w2'.heap.size≤bW∧w2'.heap.size≤bC):=⟨x0,x1,x2⟩
 clear O3 hCA hv g1 g2 hb3 x0 x1 x2
 go_wp2_with fail
 refine kc.mono ?_
 clear kc
 rintro ev w4 (⟨t1,rfl,hb4⟩ | ⟨t1,rfl,P,φ,X,hPf,vR',vK',vI',hN,ha⟩)
 ·have h1:=HWL.out
  have h2:=HLL.out
  rw [HLVE.out,HHV.out] at h2
  omega
 ·have Sm:m.Shape (l1++l2):=by rw [←HHV.out];exact HS.out
  have hb4:Below w2'.heap.size w2' w4:=HB23.out.trans (ha.below HB23.out.size (fun q hq hx=>by
   obtain ⟨x0,x1,x2⟩:=HXX.out
   rcases hx with h | h | h <;> omega))
  have HB4:Hid (Below w.heap.size w w4):=HB2'.out.trans (hb4.mono HB2'.out.size)
  have J:=jdone_of Sm H64.out X hPf
  obtain ⟨n,hn⟩:∃ n,n=majM m φ (carryL m.W.length φ m.W P) (m.m0+m.live (l1++l2)):=⟨_,rfl⟩
  obtain ⟨us,hus⟩:∃ us,us=P.map Prod.snd:=⟨_,rfl⟩
  rw [←hn,←hus] at J
  rw [←hn] at hN
  have hCo:=J.C
  have K:=hCo.kept Sm H64.out
  have HW:Hid (WeakH m n vs us true):=by rw [HHV.out];exact K.weakH true (fun _ f hf=>(J.led f).1 hf)
  have HI:Hid (IdsH m n vs us):=by rw [HHV.out];exact K.idsH
  have HTX:Hid (n.textA us=m.textA vs):=by show _=_;rw [HHV.out];exact hCo.text Sm H64.out
  have HN64:Hid (n.Shape us∧MD64 n∧n.cardsB=true):=⟨hCo.shape,hCo.h64,hCo.cards⟩
  have lR:n.R.length≤100:=by rw [hCo.roots,List.length_map];omega
  have lK:n.K.length≤100:=by rw [hCo.klen];omega
  have lI:n.I.length≤100:=by have:=hCo.ilen;omega
  have lW:=(shape_pos hCo.shape).2.2
  have lC:=shape_c hCo.shape
  have HNT:Hid (n.top=0∧n.oldTop=(lv:Int)∧n.live us=lv∧n.C=List.replicate m.C.length false):=by
   refine ⟨hCo.top,?_,?_,hCo.cf⟩
   ·rw [J.top,HLVE.out,HHV.out]
   ·rw [hCo.live Sm H64.out,HLVE.out,HHV.out]
  have kb:=memBack_any bx n w4 hN.repP.rep lW (by omega) (by omega) (by omega) lC
  clear hb4 hN hCo ha K Sm J X hPf hn hus
  go_wp2_with fail
  refine kb.mono ?_
  clear kb
  rintro ev w5 ⟨bn,rfl,_,hRn,hb5⟩
  have HB5:Hid (Below w.heap.size w w5):=HB4.out.trans (hb5.mono HB4.out.size)
  have HRn:=toHid hRn
  clear hRn hb5
  have HS5:Hid (∀ W,Below w5.heap.size w5 W→W.cell? ⟨bn,5,none⟩=some (.int .i64 0)∧W.cell? ⟨bn,6,none⟩=some (.int .i64 (lv:Int))):=fun W hW=>by
   obtain ⟨_,_,_,_,_,_,Mn,_⟩:=HRn.out.below hW
   have z5:=Mn.c5
   have z6:=Mn.c6
   rw [HNT.out.1,Nat.zero_add] at z5
   rw [HNT.out.2.1,Nat.zero_add] at z6
   exact ⟨z5,z6⟩
  have HS50:=toHid (HS5.out w5 (Below.refl _ _))
  have HCK:Hid (∀ W,Below w5.heap.size w5 W→Calls Tryz.prog 9 #[.pointer (some ⟨bn,0,none⟩)] W fun ev w'=>ev = .returned (.int .i64 0)∧Below w5.heap.size w5 w'):=fun W hW=>by
   refine (checkOf_any bn 0 n HN64.out.2.1 (by omega) (by omega) (by omega) W (HRn.out.below hW)).mono ?_
   rintro ev w' ⟨hb,⟨_,_,_,rfl⟩ | ⟨_,_,hc,_⟩ | ⟨hno,_⟩⟩
   ·exact ⟨rfl,hW.trans (hb.mono hW.size)⟩
   ·rw [HN64.out.2.2] at hc;cases hc
   ·exact absurd HN64.out.1 (hno us)
  have HL1:Hid (∀ W,Below w5.heap.size w5 W→Calls Tryz.prog 10 #[.pointer (some ⟨p,o,none⟩)] W fun ev w'=>ev = .returned (.int .i64 (lv:Int))∧Below w5.heap.size w5 w'):=fun W hW=>by
   rw [HLVE.out]
   refine (liveOf_any p o m vs HS.out H64.out (by omega) W ((HR.out.below HB5.out).below hW)).mono ?_
   rintro ev w' ⟨rfl,hb⟩
   exact ⟨rfl,hW.trans (hb.mono hW.size)⟩
  have HL2:Hid (∀ W,Below w5.heap.size w5 W→Calls Tryz.prog 10 #[.pointer (some ⟨bn,0,none⟩)] W fun ev w'=>ev = .returned (.int .i64 (lv:Int))∧Below w5.heap.size w5 w'):=fun W hW=>by
   have h:=liveOf_any bn 0 n us HN64.out.1 HN64.out.2.1 (by omega) W (HRn.out.below hW)
   rw [HNT.out.2.2.1] at h
   refine h.mono ?_
   rintro ev w' ⟨rfl,hb⟩
   exact ⟨rfl,hW.trans (hb.mono hW.size)⟩
  go_upto_region 12 with fail
  go_cut [87] from 56 to 88 (fun v87 wx=>v87 = .bool false∧Hid (Below w5.heap.size w5 wx))
  case first =>
   go_region_held3 (fun W=>W.cell? ⟨bn,5,none⟩=some (.int .i64 0)∧W.cell? ⟨bn,6,none⟩=some (.int .i64 (lv:Int))) (first | with_reducible exact HS50.out | with_reducible exact HS5.out _ hbE | with_reducible exact HS5.out _ hbD | with_reducible exact HS5.out _ hbC | exact HS50.out) (first | (go_at_call 9;refine (HCK.out _ (by first | exact Below.refl _ _ | exact (Below.refl _ _).drew)).mono ?_;rintro ev wC ⟨rfl,hbC⟩) | (go_at_call_of 10 o;refine (HL1.out _ hbC).mono ?_;rintro ev wD ⟨rfl,hbD⟩) | (go_at_call_of 10 bn;refine (HL2.out _ hbD).mono ?_;rintro ev wE ⟨rfl,hbE⟩))
   all_goals go_wp2_with fail
   all_goals go_meet
   all_goals exact ⟨by simp,hbE⟩
  case rest =>
  obtain ⟨rfl,hb6⟩:=hcut
  obtain ⟨w6,hw6⟩:∃ w6,w6=wc:=⟨_,rfl⟩
  subst hw6
  have HB6:Hid (Below w.heap.size w w6):=HB5.out.trans (hb6.out.mono HB5.out.size)
  have HRn6:=toHid (HRn.out.below hb6.out)
  clear HS5 HS50 HCK HL1 HL2 hb6
  obtain ⟨_,_,_,_,_,_,Mn,_,_,_,_,⟨aC,kC,rfl,hkC,fC⟩⟩:=id HRn6.out
  have zC:=Mn.c10
  rw [Nat.zero_add] at zC
  obtain ⟨NC,hNC⟩:∃ NC,NC=n.C.length:=⟨_,rfl⟩
  have HCf:Hid (∀ i,i<NC→n.C[i]?=some false):=fun i hi=>by
   rw [hNC,HNT.out.2.2.2,List.length_replicate] at hi
   rw [HNT.out.2.2.2]
   exact List.getElem?_replicate_of_lt hi
  rw [←hNC] at zC fC
  have HFC:=toHid fC
  have HZC:Hid (∀ W,Below w6.heap.size w6 W→W.cell? ⟨bn,10,none⟩=some (.slice aC NC kC)):=fun W hW=>(hW.cell (p:=⟨bn,10,none⟩) (lt_of_cell zC)).trans zC
  have hNCb:NC≤300000:=by omega
  clear Mn fC hNC zC hkC
  go_wp2_with fail
  go_loopg [8] (NC+1) (fun gk v8 wr => ∃ i:Nat,gk=NC+1 - i∧i≤NC∧v8 = .int .i64 (i:Int)∧Hid (Below w6.heap.size w6 wr))
  case atStart=>exact ⟨0,rfl,Nat.zero_le _,rfl,Below.refl _ _⟩
  case round =>
   obtain ⟨i,hgk,hi',rfl,hB⟩:=hrel
   have HGK:=toHid hgk
   clear hgk
   have hi0:(0:Int)≤(i:Int):=by omega
   have zC:=HZC.out wr hB.out
   by_cases hlt:i<NC
   ·have hI:(i:Int)<(NC:Int):=by omega
    obtain ⟨gC,oC,rfl,lC',cC'⟩:=HFC.out (by omega)
    have cz:wr.cell? ⟨gC,oC+i,none⟩=some (.bool false):=(hB.out.cell (p:=⟨gC,oC+i,none⟩) lC').trans (cC' i _ (bools_at (HCf.out i hlt)))
    clear cC'
    go_wp2_with fail
    go_roundg (NC+1 - (i+1))
    case measure=>have:=HGK.out;omega
    case rel=>exact ⟨i+1,rfl,by omega,by go_num,hB⟩
   ·have hI:¬ (i:Int)<(NC:Int):=by omega
    have HB6':Hid (Below w.heap.size w wr):=HB6.out.trans (hB.out.mono HB6.out.size)
    have HRr:=toHid (HRn6.out.below hB.out)
    have kg:=graphOf_any p o m vs HS.out H64.out (by omega) (by omega) (by omega) wr (HR.out.below HB6'.out)
    go_wp2_with fail
    refine kg.mono ?_
    clear kg
    rintro ev w7 ⟨rfl,hb7⟩
    have kg:=graphOf_any bn 0 n us HN64.out.1 HN64.out.2.1 (by omega) (by omega) (by omega) w7 (HRr.out.below hb7)
    rw [HTX.out] at kg
    have HB7:Hid (Below w.heap.size w w7):=HB6'.out.trans (hb7.mono HB6'.out.size)
    have HRn7:=toHid (HRr.out.below hb7)
    clear hb7 zC
    go_wp2_with fail
    refine kg.mono ?_
    clear kg
    rintro ev w8 ⟨rfl,hb8⟩
    have HB8:Hid (Below w.heap.size w w8):=HB7.out.trans (hb8.mono HB7.out.size)
    have HRn8:=toHid (HRn7.out.below hb8)
    clear hb8
    have kw:=weakOK_any p o bn 0 m n vs us true HW.out (by omega) (by omega) (by omega) (by omega) (by omega) (by omega) (by omega) (by omega) (by omega) (by omega) w8 (HR.out.below HB8.out) HRn8.out
    have hfin2:Hid (∀ W,Below w8.heap.size w8 W→Calls Tryz.prog 18 #[.pointer (some ⟨p,o,none⟩),.pointer (some ⟨bn,0,none⟩)] W fun ev w'=>ev = .returned (.bool true)∧Below W.heap.size W w'):=fun W hW=>idsOK_any p o bn 0 m n vs us HI.out (by omega) (by omega) (by omega) (by omega) (by omega) (by omega) (by omega) (by omega) (by omega) (by omega) W ((HR.out.below HB8.out).below hW) (HRn8.out.below hW)
    go_wp2_with fail
    refine kw.mono ?_
    clear kw
    rintro ev w10 ⟨rfl,hb10⟩
    have hB10:Hid (Below w8.heap.size w8 w10):=hb10
    have ki:=hfin2.out w10 hB10.out
    clear hb10
    go_wp2_with fail
    refine ki.mono ?_
    clear ki
    rintro ev w11 ⟨rfl,hb11⟩
    have hB11:Hid (Below w.heap.size w w11):=HB8.out.trans ((hB10.out.trans (hb11.mono hB10.out.size)).mono HB8.out.size)
    clear hb11
    go_wp2_with fail
    go_ret
    exact ⟨by simp,hB11.out⟩
theorem majorKeeps_any (a:Nat→Addr) (p o:Nat) (m:MD) (w:World) (E:Errs a w) (h:RepM p o m w) (h64:MD64 m):Calls Tryz.prog 3 #[.pointer (some ⟨p,o,none⟩)] w fun ev w'=>ev = .returned (.bool true)∧Below w.heap.size w w':=by
 by_cases hn:m.W.length≤1000∧m.R.length≤100∧m.K.length≤100∧m.I.length≤100∧m.C.length≤1000
 ·obtain ⟨n1,n2,n3,n4,n5⟩:=hn
  by_cases hb:(∃ vs,m.Shape vs)∧m.cardsB=true
  ·obtain ⟨⟨vs,hS⟩,hC⟩:=hb
   by_cases hr:(m.live vs:Int)≤m.old
   ·exact majorKeeps_ok a p o m w E h h64 n1 n2 n3 n4 n5 vs hS hC hr
   ·exact majorKeeps_full a p o m w E h h64 n1 n2 n3 n4 n5 vs hS hC (by omega)
  ·exact majorKeeps_bad a p o m w E h h64 n1 n2 n3 n4 n5 hb
 ·exact majorKeeps_far a p o m w E h hn
end Go.Proofs.YtnenggkgfhgcnaaGreatDoor
