/- The law MinorKeeps by a walk. -/
import Derived.Test.YtnenggkgfhgcnaaGreatDoorKpG
namespace Go.Proofs.YtnenggkgfhgcnaaGreatDoor
open Go.RowKit Go.Maps

set_option maxHeartbeats 4000000 in
set_option maxRecDepth 100000 in
theorem minorKeeps_far (a:Nat→Addr) (p o:Nat) (m:MD) (tn:Int) (w:World) (E:Errs a w) (h:RepM p o m w) (hn:¬ (m.W.length≤1000∧m.R.length≤100∧m.K.length≤100∧m.I.length≤100∧m.C.length≤1000)):Calls Tryz.prog 5 #[.pointer (some ⟨p,o,none⟩),.int .i64 tn] w fun ev w'=>ev = .returned (.bool true)∧Below w.heap.size w w':=by
 have ks:=still_any a w E.me
 go_enter Tryz.func5,Tryz.ntmps5
 go_wp2_with fail
 refine ks.mono ?_
 rintro ev w1 ⟨rfl,hb⟩
 go_wp2_with fail
 refine (near_no p o m w1 (h.below hb) hn).mono ?_
 rintro ev w2 ⟨rfl,hq⟩
 rw [hq]
 clear hq w2
 go_wp2_with fail
 go_ret
 exact ⟨rfl,hb⟩
set_option maxHeartbeats 4000000 in
set_option maxRecDepth 100000 in
theorem minorKeeps_nil (a:Nat→Addr) (tn:Int) (w:World) (E:Errs a w):Calls Tryz.prog 5 #[.pointer none,.int .i64 tn] w fun ev w'=>ev = .returned (.bool true)∧Below w.heap.size w w':=by
 have ks:=still_any a w E.me
 have HE:=toHid E
 clear E
 go_enter Tryz.func5,Tryz.ntmps5
 go_wp2_with fail
 refine ks.mono ?_
 clear ks
 rintro ev w1 ⟨rfl,hb⟩
 go_wp2_with fail
 refine (jNear_none w1).mono ?_
 rintro ev wz ⟨rfl,hq⟩
 rw [hq]
 clear hq wz
 go_wp2_with fail
 refine (checkOf_nil w1).mono ?_
 rintro ev w2 ⟨rfl,hb2⟩
 have HB2:Hid (Below w.heap.size w w2):=hb.trans (hb2.mono hb.size)
 clear hb hb2
 go_wp2_with fail
 go_quiet (fail)
 obtain ⟨w3,hw3⟩:∃ w3,w3=w2.drewN nq:=⟨_,rfl⟩
 have HB3:Hid (Below w.heap.size w w3):=by rw [hw3];exact below_drewN HB2.out
 rw [←hw3]
 clear hw3
 go_wp2_with fail
 refine (memOf_none w3).mono ?_
 rintro ev wz ⟨rfl,hq⟩
 rw [hq]
 clear hq wz
 have kc:=ncollect_none a tn w3 (HE.out.below HB3.out).me
 go_wp2_with fail
 refine kc.mono ?_
 clear kc
 rintro ev w4 ⟨rfl,hb4⟩
 have HB4:Hid (Below w.heap.size w w4):=HB3.out.trans (hb4.mono HB3.out.size)
 have kd:=coded_any a 2 (by decide) w4 (HE.out.below HB4.out)
 clear hb4
 go_wp2_with fail
 refine kd.mono ?_
 clear kd
 rintro ev w5 ⟨rfl,hb5⟩
 have HB5:Hid (Below w.heap.size w w5):=HB4.out.trans (hb5.mono HB4.out.size)
 clear hb5
 go_wp2_with fail
 go_ret
 exact ⟨rfl,HB5.out⟩
set_option maxHeartbeats 8000000 in
set_option maxRecDepth 100000 in
theorem minorKeeps_bad (a:Nat→Addr) (p o:Nat) (m:MD) (tn:Int) (w:World) (E:Errs a w) (h:RepM p o m w) (h64:MD64 m) (n1:m.W.length≤1000) (n2:m.R.length≤100) (n3:m.K.length≤100) (n4:m.I.length≤100) (n5:m.C.length≤1000) (hbad:¬ ((∃ vs,m.Shape vs)∧m.cardsB=true)):Calls Tryz.prog 5 #[.pointer (some ⟨p,o,none⟩),.int .i64 tn] w fun ev w'=>ev = .returned (.bool true)∧Below w.heap.size w w':=by
 have HBAD:=toHid hbad
 clear hbad
 have HE:=toHid E
 have HR:=toHid h
 have H64:=toHid h64
 have ks:=still_any a w E.me
 clear E h h64
 go_enter Tryz.func5,Tryz.ntmps5
 go_wp2_with fail
 refine ks.mono ?_
 clear ks
 rintro ev w1 ⟨rfl,hb1⟩
 go_wp2_with fail
 refine (near_yes p o m w1 (HR.out.below hb1) n1 n2 n3 n4 n5).mono ?_
 rintro ev w2 ⟨rfl,hq⟩
 rw [hq]
 clear hq w2
 go_wp2_with fail
 refine (checkOf_any p o m H64.out (by omega) (by omega) (by omega) w1 (HR.out.below hb1)).mono ?_
 rintro ev w2 ⟨hb2,⟨vs,hS,hC,rfl⟩ | ⟨vs,hs,hC,rfl⟩ | ⟨hno,rfl⟩⟩
 ·exact absurd ⟨⟨vs,hS⟩,hC⟩ HBAD.out
 ·have HB2:Hid (Below w.heap.size w w2):=hb1.trans (hb2.mono hb1.size)
  clear hb1 hb2
  go_wp2_with fail
  go_quiet (fail)
  obtain ⟨w2',hw2⟩:∃ w2',w2'=w2.drewN nq:=⟨_,rfl⟩
  have HB2':Hid (Below w.heap.size w w2'):=by rw [hw2];exact below_drewN HB2.out
  rw [←hw2]
  clear hw2
  go_wp2_with fail
  refine (memOf_own p o m w2' (HR.out.below HB2'.out) (by omega) (by omega) (by omega) (by omega) (by omega)).mono ?_
  rintro ev w3 ⟨bx,rfl,O3,hb3⟩
  have HB3:Hid (Below w.heap.size w w3):=HB2'.out.trans (hb3.mono HB2'.out.size)
  have HP3:=toHid O3.repP
  have kc:=ncollect_bad a bx m tn H64.out (by omega) (by omega) (by omega) w3 (HE.out.below HB3.out).me.three HP3.out HBAD.out
  clear O3 hb3
  go_wp2_with fail
  refine kc.mono ?_
  clear kc
  rintro ev w4 ⟨hb4,hp4⟩
  have HM4:Hid (RepM bx 0 m w4):=HP3.out.rep.below hb4
  have HB4:Hid (Below w.heap.size w w4):=HB3.out.trans (hb4.mono HB3.out.size)
  clear hb4
  rcases hp4 with ⟨_,_,rfl⟩ | ⟨hno,rfl⟩
  rotate_left
  ·exact absurd hs (hno vs)
  have kd:=coded_any a 4 (by decide) w4 (HE.out.below HB4.out)
  go_wp2_with fail
  refine kd.mono ?_
  clear kd
  rintro ev w5 ⟨rfl,hb5⟩
  have HB5:Hid (Below w.heap.size w w5):=HB4.out.trans (hb5.mono HB4.out.size)
  have kb:=memBack_any bx m w5 (HM4.out.below hb5) (by omega) (by omega) (by omega) (by omega) (by omega)
  clear hb5
  go_wp2_with fail
  refine kb.mono ?_
  clear kb
  rintro ev w6 ⟨bn,rfl,_,hRn,hb6⟩
  have HB6:Hid (Below w.heap.size w w6):=HB5.out.trans (hb6.mono HB5.out.size)
  have kq:=sameMemory_eq bn 0 p o m w6 hRn (HR.out.below HB6.out) (by omega) (by omega) (by omega) (by omega) (by omega)
  clear hRn hb6
  go_wp2_with fail
  refine kq.mono ?_
  clear kq
  rintro ev w7 ⟨rfl,hb7⟩
  have HB7:Hid (Below w.heap.size w w7):=HB6.out.trans (hb7.mono HB6.out.size)
  clear hb7
  go_wp2_with fail
  go_ret
  exact ⟨rfl,HB7.out⟩
 ·have HB2:Hid (Below w.heap.size w w2):=hb1.trans (hb2.mono hb1.size)
  clear hb1 hb2
  go_wp2_with fail
  go_quiet (fail)
  obtain ⟨w2',hw2⟩:∃ w2',w2'=w2.drewN nq:=⟨_,rfl⟩
  have HB2':Hid (Below w.heap.size w w2'):=by rw [hw2];exact below_drewN HB2.out
  rw [←hw2]
  clear hw2
  go_wp2_with fail
  refine (memOf_own p o m w2' (HR.out.below HB2'.out) (by omega) (by omega) (by omega) (by omega) (by omega)).mono ?_
  rintro ev w3 ⟨bx,rfl,O3,hb3⟩
  have HB3:Hid (Below w.heap.size w w3):=HB2'.out.trans (hb3.mono HB2'.out.size)
  have HP3:=toHid O3.repP
  have kc:=ncollect_bad a bx m tn H64.out (by omega) (by omega) (by omega) w3 (HE.out.below HB3.out).me.three HP3.out HBAD.out
  clear O3 hb3
  go_wp2_with fail
  refine kc.mono ?_
  clear kc
  rintro ev w4 ⟨hb4,hp4⟩
  have HM4:Hid (RepM bx 0 m w4):=HP3.out.rep.below hb4
  have HB4:Hid (Below w.heap.size w w4):=HB3.out.trans (hb4.mono HB3.out.size)
  clear hb4
  rcases hp4 with ⟨hs,_,rfl⟩ | ⟨_,rfl⟩
  ·obtain ⟨vs,hs⟩:=hs;exact absurd hs (hno vs)
  have kd:=coded_any a 2 (by decide) w4 (HE.out.below HB4.out)
  go_wp2_with fail
  refine kd.mono ?_
  clear kd
  rintro ev w5 ⟨rfl,hb5⟩
  have HB5:Hid (Below w.heap.size w w5):=HB4.out.trans (hb5.mono HB4.out.size)
  have kb:=memBack_any bx m w5 (HM4.out.below hb5) (by omega) (by omega) (by omega) (by omega) (by omega)
  clear hb5
  go_wp2_with fail
  refine kb.mono ?_
  clear kb
  rintro ev w6 ⟨bn,rfl,_,hRn,hb6⟩
  have HB6:Hid (Below w.heap.size w w6):=HB5.out.trans (hb6.mono HB5.out.size)
  have kq:=sameMemory_eq bn 0 p o m w6 hRn (HR.out.below HB6.out) (by omega) (by omega) (by omega) (by omega) (by omega)
  clear hRn hb6
  go_wp2_with fail
  refine kq.mono ?_
  clear kq
  rintro ev w7 ⟨rfl,hb7⟩
  have HB7:Hid (Below w.heap.size w w7):=HB6.out.trans (hb7.mono HB6.out.size)
  clear hb7
  go_wp2_with fail
  go_ret
  exact ⟨rfl,HB7.out⟩
set_option maxHeartbeats 8000000 in
set_option maxRecDepth 100000 in
theorem minorKeeps_out (a:Nat→Addr) (p o:Nat) (m:MD) (tn:Int) (htn : -9223372036854775808≤tn∧tn<9223372036854775808) (w:World) (E:Errs a w) (h:RepM p o m w) (h64:MD64 m) (n1:m.W.length≤1000) (n2:m.R.length≤100) (n3:m.K.length≤100) (n4:m.I.length≤100) (n5:m.C.length≤1000) (vs:List Nat) (hS:m.Shape vs) (hC:m.cardsB=true) (ht:¬ (0≤tn∧tn≤15)):Calls Tryz.prog 5 #[.pointer (some ⟨p,o,none⟩),.int .i64 tn] w fun ev w'=>ev = .returned (.bool true)∧Below w.heap.size w w':=by
 have HS:=toHid hS
 have HC:=toHid hC
 clear hS hC
 have hnum:=HS.out.1.nums
 unfold numsOK at hnum
 have o0:=HS.out.1.o0
 have o1:=HS.out.1.o1
 have e1:IntKind.i64.wrap (m.old - m.oldTop)=m.old - m.oldTop:=wrapI _ (by omega) (by omega)
 clear hnum o0 o1
 have hcase:tn<0∨(¬ tn<0∧15<tn):=by omega
 have HTT:=toHid ht
 clear ht
 have HE:=toHid E
 have HR:=toHid h
 have H64:=toHid h64
 have ks:=still_any a w E.me
 clear E h h64
 go_enter Tryz.func5,Tryz.ntmps5
 go_wp2_with fail
 refine ks.mono ?_
 clear ks
 rintro ev w1 ⟨rfl,hb1⟩
 go_wp2_with fail
 refine (near_yes p o m w1 (HR.out.below hb1) n1 n2 n3 n4 n5).mono ?_
 rintro ev w2 ⟨rfl,hq⟩
 rw [hq]
 clear hq w2
 go_wp2_with fail
 refine (checkOf_any p o m H64.out (by omega) (by omega) (by omega) w1 (HR.out.below hb1)).mono ?_
 rintro ev w2 ⟨hb2,⟨vs',hS',hC',rfl⟩ | ⟨_,_,hC',_⟩ | ⟨hno,_⟩⟩
 rotate_left
 ·rw [HC.out] at hC';cases hC'
 ·exact absurd HS.out (hno vs)
 clear hS' hC' vs'
 have HB2:Hid (Below w.heap.size w w2):=hb1.trans (hb2.mono hb1.size)
 obtain ⟨_,_,_,_,_,_,M2,_⟩:=HR.out.below HB2.out
 have q1:=M2.c1
 have q5:=M2.c5
 have q6:=M2.c6
 clear M2 hb1 hb2
 rcases hcase with t1 | ⟨t1,t2⟩
 all_goals (
  go_wp2_with fail
  go_quiet (fail)
  obtain ⟨w2',hw2⟩:∃ w2',w2'=w2.drewN nq:=⟨_,rfl⟩
  have HB2':Hid (Below w.heap.size w w2'):=by rw [hw2];exact below_drewN HB2.out
  rw [←hw2]
  clear hw2 q1 q5 q6
  go_wp2_with fail
  refine (memOf_own p o m w2' (HR.out.below HB2'.out) (by omega) (by omega) (by omega) (by omega) (by omega)).mono ?_
  rintro ev w3 ⟨bx,rfl,O3,hb3⟩
  have HB3:Hid (Below w.heap.size w w3):=HB2'.out.trans (hb3.mono HB2'.out.size)
  have HP3:=toHid O3.repP
  obtain ⟨l1,l2,hv,g1,g2⟩:=HS.out.bare
  obtain ⟨bW,bC,cW,cC,vR,vK,vI,hCA,x0,x1,x2⟩:=colAt_of O3 (shape_pos HS.out).1 (shape_pos HS.out).2.1
  have kc:=ncollect_any a bx bW bC cW cC m vR vK vI l1 l2 tn w3 hCA (by rw [←hv];exact HS.out) HC.out H64.out g1 g2 (by omega) (by omega) (by omega) htn (fun w' h=>(HE.out.below HB2'.out).me.below (hb3.trans (h.below hb3.size (fun q hq hx=>by
   rcases hx with h | h | h <;> omega))))
  have HHV:=toHid hv
  have HB23:=toHid hb3
  have HXX:Hid (w2'.heap.size≤bx∧w2'.heap.size≤bW∧w2'.heap.size≤bC):=⟨x0,x1,x2⟩
  clear O3 hCA hv g1 g2 hb3 x0 x1 x2
  go_wp2_with fail
  refine kc.mono ?_
  clear kc
  rintro ev w4 (⟨t1,rfl,hb4⟩ | ⟨t1,t2,rfl,hb4⟩ | ⟨t1,t2,rfl,hP⟩)
  ·have HM4:Hid (RepM bx 0 m w4):=HP3.out.rep.below hb4
   have HB4:Hid (Below w.heap.size w w4):=HB3.out.trans (hb4.mono HB3.out.size)
   clear hb4
   have kd:=coded_any a 1 (by decide) w4 (HE.out.below HB4.out)
   go_wp2_with fail
   refine kd.mono ?_
   clear kd
   rintro ev w5 ⟨rfl,hb5⟩
   have HB5:Hid (Below w.heap.size w w5):=HB4.out.trans (hb5.mono HB4.out.size)
   have kb:=memBack_any bx m w5 (HM4.out.below hb5) (by omega) (by omega) (by omega) (by omega) (by omega)
   clear hb5
   go_wp2_with fail
   refine kb.mono ?_
   clear kb
   rintro ev w6 ⟨bn,rfl,_,hRn,hb6⟩
   have HB6:Hid (Below w.heap.size w w6):=HB5.out.trans (hb6.mono HB5.out.size)
   have kq:=sameMemory_eq bn 0 p o m w6 hRn (HR.out.below HB6.out) (by omega) (by omega) (by omega) (by omega) (by omega)
   clear hRn hb6
   go_wp2_with fail
   refine kq.mono ?_
   clear kq
   rintro ev w7 ⟨rfl,hb7⟩
   have HB7:Hid (Below w.heap.size w w7):=HB6.out.trans (hb7.mono HB6.out.size)
   clear hb7
   go_wp2_with fail
   go_ret
   exact ⟨rfl,HB7.out⟩
  ·exact absurd t1 HTT.out

  ·exact absurd t1 HTT.out)
set_option maxHeartbeats 8000000 in
set_option maxRecDepth 100000 in
theorem minorKeeps_full (a:Nat→Addr) (p o:Nat) (m:MD) (tn:Int) (htn : -9223372036854775808≤tn∧tn<9223372036854775808) (w:World) (E:Errs a w) (h:RepM p o m w) (h64:MD64 m) (n1:m.W.length≤1000) (n2:m.R.length≤100) (n3:m.K.length≤100) (n4:m.I.length≤100) (n5:m.C.length≤1000) (vs:List Nat) (hS:m.Shape vs) (hC:m.cardsB=true) (ht:0≤tn∧tn≤15) (hroom:m.old - m.oldTop<m.top):Calls Tryz.prog 5 #[.pointer (some ⟨p,o,none⟩),.int .i64 tn] w fun ev w'=>ev = .returned (.bool true)∧Below w.heap.size w w':=by
 have HS:=toHid hS
 have HC:=toHid hC
 clear hS hC
 have hnum:=HS.out.1.nums
 unfold numsOK at hnum
 have o0:=HS.out.1.o0
 have o1:=HS.out.1.o1
 have e1:IntKind.i64.wrap (m.old - m.oldTop)=m.old - m.oldTop:=wrapI _ (by omega) (by omega)
 clear hnum o0 o1
 have t1':¬ tn<0:=by omega
 have t2':¬ 15<tn:=by omega
 have HTT:=toHid ht
 have HRM:=toHid hroom
 clear ht
 have HE:=toHid E
 have HR:=toHid h
 have H64:=toHid h64
 have ks:=still_any a w E.me
 clear E h h64
 go_enter Tryz.func5,Tryz.ntmps5
 go_wp2_with fail
 refine ks.mono ?_
 clear ks
 rintro ev w1 ⟨rfl,hb1⟩
 go_wp2_with fail
 refine (near_yes p o m w1 (HR.out.below hb1) n1 n2 n3 n4 n5).mono ?_
 rintro ev w2 ⟨rfl,hq⟩
 rw [hq]
 clear hq w2
 go_wp2_with fail
 refine (checkOf_any p o m H64.out (by omega) (by omega) (by omega) w1 (HR.out.below hb1)).mono ?_
 rintro ev w2 ⟨hb2,⟨vs',hS',hC',rfl⟩ | ⟨_,_,hC',_⟩ | ⟨hno,_⟩⟩
 rotate_left
 ·rw [HC.out] at hC';cases hC'
 ·exact absurd HS.out (hno vs)
 clear hS' hC' vs'
 have HB2:Hid (Below w.heap.size w w2):=hb1.trans (hb2.mono hb1.size)
 obtain ⟨_,_,_,_,_,_,M2,_⟩:=HR.out.below HB2.out
 have q1:=M2.c1
 have q5:=M2.c5
 have q6:=M2.c6
 clear M2 hb1 hb2
 go_wp2_with fail
 go_quiet (fail)
 obtain ⟨w2',hw2⟩:∃ w2',w2'=w2.drewN nq:=⟨_,rfl⟩
 have HB2':Hid (Below w.heap.size w w2'):=by rw [hw2];exact below_drewN HB2.out
 rw [←hw2]
 clear hw2 q1 q5 q6
 go_wp2_with fail
 refine (memOf_own p o m w2' (HR.out.below HB2'.out) (by omega) (by omega) (by omega) (by omega) (by omega)).mono ?_
 rintro ev w3 ⟨bx,rfl,O3,hb3⟩
 have HB3:Hid (Below w.heap.size w w3):=HB2'.out.trans (hb3.mono HB2'.out.size)
 have HP3:=toHid O3.repP
 obtain ⟨l1,l2,hv,g1,g2⟩:=HS.out.bare
 obtain ⟨bW,bC,cW,cC,vR,vK,vI,hCA,x0,x1,x2⟩:=colAt_of O3 (shape_pos HS.out).1 (shape_pos HS.out).2.1
 have kc:=ncollect_any a bx bW bC cW cC m vR vK vI l1 l2 tn w3 hCA (by rw [←hv];exact HS.out) HC.out H64.out g1 g2 (by omega) (by omega) (by omega) htn (fun w' h=>(HE.out.below HB2'.out).me.below (hb3.trans (h.below hb3.size (fun q hq hx=>by
  rcases hx with h | h | h <;> omega))))
 have HHV:=toHid hv
 have HB23:=toHid hb3
 have HXX:Hid (w2'.heap.size≤bx∧w2'.heap.size≤bW∧w2'.heap.size≤bC):=⟨x0,x1,x2⟩
 clear O3 hCA hv g1 g2 hb3 x0 x1 x2
 go_wp2_with fail
 refine kc.mono ?_
 clear kc
 rintro ev w4 (⟨t1,rfl,hb4⟩ | ⟨t1,t2,rfl,hb4⟩ | ⟨t1,t2,rfl,hP⟩)
 ·exact absurd HTT.out t1

 ·have HM4:Hid (RepM bx 0 m w4):=HP3.out.rep.below hb4
  have HB4:Hid (Below w.heap.size w w4):=HB3.out.trans (hb4.mono HB3.out.size)
  clear hb4
  have kd:=coded_any a 5 (by decide) w4 (HE.out.below HB4.out)
  go_wp2_with fail
  refine kd.mono ?_
  clear kd
  rintro ev w5 ⟨rfl,hb5⟩
  have HB5:Hid (Below w.heap.size w w5):=HB4.out.trans (hb5.mono HB4.out.size)
  have kb:=memBack_any bx m w5 (HM4.out.below hb5) (by omega) (by omega) (by omega) (by omega) (by omega)
  clear hb5
  go_wp2_with fail
  refine kb.mono ?_
  clear kb
  rintro ev w6 ⟨bn,rfl,_,hRn,hb6⟩
  have HB6:Hid (Below w.heap.size w w6):=HB5.out.trans (hb6.mono HB5.out.size)
  have kq:=sameMemory_eq bn 0 p o m w6 hRn (HR.out.below HB6.out) (by omega) (by omega) (by omega) (by omega) (by omega)
  clear hRn hb6
  go_wp2_with fail
  refine kq.mono ?_
  clear kq
  rintro ev w7 ⟨rfl,hb7⟩
  have HB7:Hid (Below w.heap.size w w7):=HB6.out.trans (hb7.mono HB6.out.size)
  clear hb7
  go_wp2_with fail
  go_ret
  exact ⟨rfl,HB7.out⟩
 ·have:=HRM.out;omega

set_option maxHeartbeats 8000000 in
set_option maxRecDepth 100000 in
theorem minorKeeps_ok (a:Nat→Addr) (p o:Nat) (m:MD) (tn:Int) (htn : -9223372036854775808≤tn∧tn<9223372036854775808) (w:World) (E:Errs a w) (h:RepM p o m w) (h64:MD64 m) (n1:m.W.length≤1000) (n2:m.R.length≤100) (n3:m.K.length≤100) (n4:m.I.length≤100) (n5:m.C.length≤1000) (vs:List Nat) (hS:m.Shape vs) (hC:m.cardsB=true) (ht:0≤tn∧tn≤15) (hroom:m.top≤m.old - m.oldTop):Calls Tryz.prog 5 #[.pointer (some ⟨p,o,none⟩),.int .i64 tn] w fun ev w'=>ev = .returned (.bool true)∧Below w.heap.size w w':=by
 have HS:=toHid hS
 have HC:=toHid hC
 clear hS hC
 have hnum:=HS.out.1.nums
 unfold numsOK at hnum
 have o0:=HS.out.1.o0
 have o1:=HS.out.1.o1
 have e1:IntKind.i64.wrap (m.old - m.oldTop)=m.old - m.oldTop:=wrapI _ (by omega) (by omega)
 clear hnum o0 o1
 have t1':¬ tn<0:=by omega
 have t2':¬ 15<tn:=by omega
 have hroom':¬ m.old - m.oldTop<m.top:=by omega
 have HTT:=toHid ht
 have HRM:=toHid hroom
 clear ht hroom
 have HE:=toHid E
 have HR:=toHid h
 have H64:=toHid h64
 have ks:=still_any a w E.me
 clear E h h64
 go_enter Tryz.func5,Tryz.ntmps5
 go_wp2_with fail
 refine ks.mono ?_
 clear ks
 rintro ev w1 ⟨rfl,hb1⟩
 go_wp2_with fail
 refine (near_yes p o m w1 (HR.out.below hb1) n1 n2 n3 n4 n5).mono ?_
 rintro ev w2 ⟨rfl,hq⟩
 rw [hq]
 clear hq w2
 go_wp2_with fail
 refine (checkOf_any p o m H64.out (by omega) (by omega) (by omega) w1 (HR.out.below hb1)).mono ?_
 rintro ev w2 ⟨hb2,⟨vs',hS',hC',rfl⟩ | ⟨_,_,hC',_⟩ | ⟨hno,_⟩⟩
 rotate_left
 ·rw [HC.out] at hC';cases hC'
 ·exact absurd HS.out (hno vs)
 clear hS' hC' vs'
 have HB2:Hid (Below w.heap.size w w2):=hb1.trans (hb2.mono hb1.size)
 obtain ⟨_,_,_,_,_,_,M2,_⟩:=HR.out.below HB2.out
 have q1:=M2.c1
 have q5:=M2.c5
 have q6:=M2.c6
 clear M2 hb1 hb2
 go_wp2_with fail
 go_quiet (fail)
 obtain ⟨w2',hw2⟩:∃ w2',w2'=w2.drewN nq:=⟨_,rfl⟩
 have HB2':Hid (Below w.heap.size w w2'):=by rw [hw2];exact below_drewN HB2.out
 rw [←hw2]
 clear hw2 q1 q5 q6
 go_wp2_with fail
 refine (memOf_own p o m w2' (HR.out.below HB2'.out) (by omega) (by omega) (by omega) (by omega) (by omega)).mono ?_
 rintro ev w3 ⟨bx,rfl,O3,hb3⟩
 have HB3:Hid (Below w.heap.size w w3):=HB2'.out.trans (hb3.mono HB2'.out.size)
 have HP3:=toHid O3.repP
 obtain ⟨l1,l2,hv,g1,g2⟩:=HS.out.bare
 obtain ⟨bW,bC,cW,cC,vR,vK,vI,hCA,x0,x1,x2⟩:=colAt_of O3 (shape_pos HS.out).1 (shape_pos HS.out).2.1
 have kc:=ncollect_any a bx bW bC cW cC m vR vK vI l1 l2 tn w3 hCA (by rw [←hv];exact HS.out) HC.out H64.out g1 g2 (by omega) (by omega) (by omega) htn (fun w' h=>(HE.out.below HB2'.out).me.below (hb3.trans (h.below hb3.size (fun q hq hx=>by
  rcases hx with h | h | h <;> omega))))
 have HHV:=toHid hv
 have HB23:=toHid hb3
 have HXX:Hid (w2'.heap.size≤bx∧w2'.heap.size≤bW∧w2'.heap.size≤bC):=⟨x0,x1,x2⟩
 clear O3 hCA hv g1 g2 hb3 x0 x1 x2
 go_wp2_with fail
 refine kc.mono ?_
 clear kc
 rintro ev w4 (⟨t1,rfl,hb4⟩ | ⟨t1,t2,rfl,hb4⟩ | ⟨t1,t2,rfl,hP⟩)
 ·exact absurd HTT.out t1

 ·have:=HRM.out;omega

 ·obtain ⟨e,n,us,S,ψ,vR',vK',vI',htn',hN,hCo,_,ha⟩:=hP
  have Sm:m.Shape (l1++l2):=by rw [←HHV.out];exact HS.out
  have hb4:Below w2'.heap.size w2' w4:=HB23.out.trans (ha.below HB23.out.size (fun q hq hx=>by
   obtain ⟨x0,x1,x2⟩:=HXX.out
   rcases hx with h | h | h <;> omega))
  have HB4:Hid (Below w.heap.size w w4):=HB2'.out.trans (hb4.mono HB2'.out.size)
  have K:=hCo.kept Sm H64.out
  have HW:Hid (WeakH m n vs us false):=by rw [HHV.out];exact K.weakH false (fun h=>by cases h)
  have HI:Hid (IdsH m n vs us):=by rw [HHV.out];exact K.idsH
  have HTX:Hid (n.textA us=m.textA vs):=by show _=_;rw [HHV.out];exact hCo.text Sm H64.out
  have HN64:Hid (n.Shape us∧MD64 n∧n.cardsB=true):=⟨hCo.shape,hCo.h64,hCo.cards⟩
  have lR:n.R.length≤100:=by rw [hCo.roots,List.length_map];omega
  have lK:n.K.length≤100:=by rw [hCo.klen];omega
  have lI:n.I.length≤100:=by have:=hCo.ilen;omega
  have lW:=(shape_pos hCo.shape).2.2
  have lC:=shape_c hCo.shape
  have HNU:Hid (n.used=1 - m.used∧n.half=m.half∧n.old=m.old∧n.card=m.card∧m.oldTop≤n.oldTop∧(tn=0→n.top=0)):=⟨hCo.used,hCo.half,hCo.hold,hCo.card,hCo.oldTop,fun h0=>hCo.none (fun f hf=>by rw [htn',h0];exact Int.emod_nonneg _ (by decide))⟩
  have kb:=memBack_any bx n w4 hN.repP.rep lW (by omega) (by omega) (by omega) lC
  clear hb4 hN hCo ha K Sm htn'
  go_wp2_with fail
  refine kb.mono ?_
  clear kb
  rintro ev w5 ⟨bn,rfl,_,hRn,hb5⟩
  have HB5:Hid (Below w.heap.size w w5):=HB4.out.trans (hb5.mono HB4.out.size)
  have HRn:=toHid hRn
  clear hRn hb5
  have hu0:=HS.out.1.u0
  have hu1:=HS.out.1.u1
  have eu:IntKind.i64.wrap (1 - m.used)=1 - m.used:=wrapI _ (by omega) (by omega)
  have HS5:Hid (∀ W,Below w5.heap.size w5 W→W.cell? ⟨bn,4,none⟩=some (.int .i64 (1 - m.used))∧W.cell? ⟨bn,0,none⟩=some (.int .i64 m.half)∧W.cell? ⟨bn,1,none⟩=some (.int .i64 m.old)∧W.cell? ⟨bn,2,none⟩=some (.int .i64 m.card)∧W.cell? ⟨p,o+4,none⟩=some (.int .i64 m.used)∧W.cell? ⟨p,o,none⟩=some (.int .i64 m.half)∧W.cell? ⟨p,o+1,none⟩=some (.int .i64 m.old)∧W.cell? ⟨p,o+2,none⟩=some (.int .i64 m.card)):=fun W hW=>by
   obtain ⟨_,_,_,_,_,_,Mn,_⟩:=HRn.out.below hW
   obtain ⟨_,_,_,_,_,_,Mm,_⟩:=(HR.out.below HB5.out).below hW
   obtain ⟨u1,u2,u3,u4,_⟩:=HNU.out
   have z4:=Mn.c4
   have z0:=Mn.c0
   have z1:=Mn.c1
   have z2:=Mn.c2
   rw [u1,Nat.zero_add] at z4
   rw [u2] at z0
   rw [u3,Nat.zero_add] at z1
   rw [u4,Nat.zero_add] at z2
   exact ⟨z4,z0,z1,z2,Mm.c4,Mm.c0,Mm.c1,Mm.c2⟩
  have HS50:=toHid (HS5.out w5 (Below.refl _ _))
  have HCK:Hid (∀ W,Below w5.heap.size w5 W→Calls Tryz.prog 9 #[.pointer (some ⟨bn,0,none⟩)] W fun ev w'=>ev = .returned (.int .i64 0)∧Below w5.heap.size w5 w'):=fun W hW=>by
   refine (checkOf_any bn 0 n HN64.out.2.1 (by omega) (by omega) (by omega) W (HRn.out.below hW)).mono ?_
   rintro ev w' ⟨hb,⟨_,_,_,rfl⟩ | ⟨_,_,hc,_⟩ | ⟨hno,_⟩⟩
   ·exact ⟨rfl,hW.trans (hb.mono hW.size)⟩
   ·rw [HN64.out.2.2] at hc;cases hc
   ·exact absurd HN64.out.1 (hno us)
  clear hu0 hu1
  go_upto_region 14 with fail
  go_cut [126] from 75 to 127 (fun v126 wx=>v126 = .bool false∧Hid (Below w5.heap.size w5 wx))
  case first =>
   go_region_held3 (fun W=>W.cell? ⟨bn,4,none⟩=some (.int .i64 (1 - m.used))∧W.cell? ⟨bn,0,none⟩=some (.int .i64 m.half)∧W.cell? ⟨bn,1,none⟩=some (.int .i64 m.old)∧W.cell? ⟨bn,2,none⟩=some (.int .i64 m.card)∧W.cell? ⟨p,o+4,none⟩=some (.int .i64 m.used)∧W.cell? ⟨p,o,none⟩=some (.int .i64 m.half)∧W.cell? ⟨p,o+1,none⟩=some (.int .i64 m.old)∧W.cell? ⟨p,o+2,none⟩=some (.int .i64 m.card)) (first | with_reducible exact HS50.out | with_reducible exact HS5.out _ hbC | exact HS50.out) (first | (go_at_call 9;refine (HCK.out _ (by first | exact Below.refl _ _ | exact (Below.refl _ _).drew)).mono ?_;rintro ev wC ⟨rfl,hbC⟩))
   all_goals go_wp2_with fail
   all_goals go_meet
   all_goals exact ⟨by simp,hbC⟩
  case rest =>
  obtain ⟨rfl,hb6⟩:=hcut
  obtain ⟨w6,hw6⟩:∃ w6,w6=wc:=⟨_,rfl⟩
  subst hw6
  have HB6:Hid (Below w.heap.size w w6):=HB5.out.trans (hb6.out.mono HB5.out.size)
  have HRn6:=toHid (HRn.out.below hb6.out)
  clear HS5 HS50 HCK hb6
  have kg:=graphOf_any p o m vs HS.out H64.out (by omega) (by omega) (by omega) w6 (HR.out.below HB6.out)
  go_wp2_with fail
  refine kg.mono ?_
  clear kg
  rintro ev w7 ⟨rfl,hb7⟩
  have kg:=graphOf_any bn 0 n us HN64.out.1 HN64.out.2.1 (by omega) (by omega) (by omega) w7 (HRn6.out.below hb7)
  rw [HTX.out] at kg
  have HB7:Hid (Below w.heap.size w w7):=HB6.out.trans (hb7.mono HB6.out.size)
  have HRn7:=toHid (HRn6.out.below hb7)
  clear hb7
  go_wp2_with fail
  refine kg.mono ?_
  clear kg
  rintro ev w8 ⟨rfl,hb8⟩
  have HB8:Hid (Below w.heap.size w w8):=HB7.out.trans (hb8.mono HB7.out.size)
  have HRn8:=toHid (HRn7.out.below hb8)
  clear hb8
  obtain ⟨_,_,_,_,_,_,Mn,_⟩:=HRn8.out
  obtain ⟨_,_,_,_,_,_,Mm,_⟩:=HR.out.below HB8.out
  have z5:=Mn.c5
  have z6:=Mn.c6
  have m6:=Mm.c6
  rw [Nat.zero_add] at z5 z6
  have hot:¬ n.oldTop<m.oldTop:=by have:=HNU.out.2.2.2.2.1;omega
  have hfin:Hid (∀ W,Below w8.heap.size w8 W→Calls Tryz.prog 17 #[.pointer (some ⟨p,o,none⟩),.pointer (some ⟨bn,0,none⟩),.bool false] W fun ev w'=>ev = .returned (.bool true)∧Below W.heap.size W w'):=fun W hW=>weakOK_any p o bn 0 m n vs us false HW.out (by omega) (by omega) (by omega) (by omega) (by omega) (by omega) (by omega) (by omega) (by omega) (by omega) W ((HR.out.below HB8.out).below hW) (HRn8.out.below hW)
  have hfin2:Hid (∀ W,Below w8.heap.size w8 W→Calls Tryz.prog 18 #[.pointer (some ⟨p,o,none⟩),.pointer (some ⟨bn,0,none⟩)] W fun ev w'=>ev = .returned (.bool true)∧Below W.heap.size W w'):=fun W hW=>idsOK_any p o bn 0 m n vs us HI.out (by omega) (by omega) (by omega) (by omega) (by omega) (by omega) (by omega) (by omega) (by omega) (by omega) W ((HR.out.below HB8.out).below hW) (HRn8.out.below hW)
  have HZ:Hid (tn=0→n.top=0):=HNU.out.2.2.2.2.2
  clear Mn Mm HNU
  by_cases h0:tn=0
  ·have htop:=HZ.out h0
   subst h0
   rw [htop] at z5
   clear htop
   go_wp2_with fail
   go_quiet (fail)
   obtain ⟨w9,hw9⟩:∃ w9,w9=w8.drewN nq:=⟨_,rfl⟩
   have hB9:Hid (Below w8.heap.size w8 w9):=by rw [hw9];exact below_drewN (Below.refl _ _)
   rw [←hw9]
   have kw:=hfin.out w9 hB9.out
   clear hw9 z5 z6 m6
   go_wp2_with fail
   refine kw.mono ?_
   clear kw
   rintro ev w10 ⟨rfl,hb10⟩
   have hB10:Hid (Below w8.heap.size w8 w10):=hB9.out.trans (hb10.mono hB9.out.size)
   have ki:=hfin2.out w10 hB10.out
   clear hb10
   go_wp2_with fail
   refine ki.mono ?_
   clear ki
   rintro ev w11 ⟨rfl,hb11⟩
   have hB11:Hid (Below w.heap.size w w11):=HB8.out.trans ((hB10.out.trans (hb11.mono hB10.out.size)).mono HB8.out.size)
   clear hb11
   go_wp2_with fail
   go_ret
   exact ⟨rfl,hB11.out⟩
  ·have h0b:(tn == 0)=false:=by simpa using h0
   go_wp2_with fail
   go_quiet (fail)
   obtain ⟨w9,hw9⟩:∃ w9,w9=w8.drewN nq:=⟨_,rfl⟩
   have hB9:Hid (Below w8.heap.size w8 w9):=by rw [hw9];exact below_drewN (Below.refl _ _)
   rw [←hw9]
   have kw:=hfin.out w9 hB9.out
   clear hw9 z5 z6 m6
   go_wp2_with fail
   refine kw.mono ?_
   clear kw
   rintro ev w10 ⟨rfl,hb10⟩
   have hB10:Hid (Below w8.heap.size w8 w10):=hB9.out.trans (hb10.mono hB9.out.size)
   have ki:=hfin2.out w10 hB10.out
   clear hb10
   go_wp2_with fail
   refine ki.mono ?_
   clear ki
   rintro ev w11 ⟨rfl,hb11⟩
   have hB11:Hid (Below w.heap.size w w11):=HB8.out.trans ((hB10.out.trans (hb11.mono hB10.out.size)).mono HB8.out.size)
   clear hb11
   go_wp2_with fail
   go_ret
   exact ⟨rfl,hB11.out⟩
theorem minorKeeps_any (a:Nat→Addr) (p o:Nat) (m:MD) (tn:Int) (htn : -9223372036854775808≤tn∧tn<9223372036854775808) (w:World) (E:Errs a w) (h:RepM p o m w) (h64:MD64 m):Calls Tryz.prog 5 #[.pointer (some ⟨p,o,none⟩),.int .i64 tn] w fun ev w'=>ev = .returned (.bool true)∧Below w.heap.size w w':=by
 by_cases hn:m.W.length≤1000∧m.R.length≤100∧m.K.length≤100∧m.I.length≤100∧m.C.length≤1000
 ·obtain ⟨n1,n2,n3,n4,n5⟩:=hn
  by_cases hb:(∃ vs,m.Shape vs)∧m.cardsB=true
  ·obtain ⟨⟨vs,hS⟩,hC⟩:=hb
   by_cases ht:0≤tn∧tn≤15
   ·by_cases hr:m.top≤m.old - m.oldTop
    ·exact minorKeeps_ok a p o m tn htn w E h h64 n1 n2 n3 n4 n5 vs hS hC ht hr
    ·exact minorKeeps_full a p o m tn htn w E h h64 n1 n2 n3 n4 n5 vs hS hC ht (by omega)
   ·exact minorKeeps_out a p o m tn htn w E h h64 n1 n2 n3 n4 n5 vs hS hC ht
  ·exact minorKeeps_bad a p o m tn w E h h64 n1 n2 n3 n4 n5 hb
 ·exact minorKeeps_far a p o m tn w E h hn
end Go.Proofs.YtnenggkgfhgcnaaGreatDoor
