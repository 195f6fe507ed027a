/- Package tree's writer, whatever it is handed: statements in memory ahead of the writer; line. (Written by a program of ours: wrt/line.py.) -/
import Derived.Test.YtflcohidmemfpaaGreatDoorSsW
import Derived.Test.YtflcohidmemfpaaGreatDoorSsL
set_option linter.all false
namespace Go.Proofs.YtflcohidmemfpaaGreatDoor
open Go.Proofs.Tryz
open Go.RowKit Go.Lib

def Zca (w1:World) (p:Nat) (q:ByteArray→ByteArray→Option Addr→Nat→Nat→Option Addr→Nat→Nat→Option Addr→Nat→Nat→Option Addr→Nat→Nat→Prop) (a:Option Addr) (m:Nat):Prop:=
 ∀ i,i<m → ∃ b o,a=some ⟨b,o,none⟩∧b<p ∧ ∃ kd nm pa pn pc la ln lc ba bn bc ea en ec,w1.cell? ⟨b,o+i*6,none⟩=some (.string kd)∧w1.cell? ⟨b,o+i*6+1,none⟩=some (.string nm)∧w1.cell? ⟨b,o+i*6+2,none⟩=some (.slice pa pn pc)∧w1.cell? ⟨b,o+i*6+3,none⟩=some (.slice la ln lc)∧w1.cell? ⟨b,o+i*6+4,none⟩=some (.slice ba bn bc)∧w1.cell? ⟨b,o+i*6+5,none⟩=some (.slice ea en ec)∧q kd nm pa pn pc la ln lc ba bn bc ea en ec
def sv (w1:World) (p k:Nat):Nat→ByteArray→ByteArray→Option Addr→Nat→Nat→Option Addr→Nat→Nat→Option Addr→Nat→Nat→Option Addr→Nat→Nat→Prop
 | 0,_,_,_,_,_,_,_,_,_,_,_,_,_,_=>False
 | n+1,kd,nm,pa,pn,_,la,ln,lc,ba,bn,_,ea,en,_=>kd.size≤4611686018427387904∧nm.size≤4611686018427387904∧pn≤4611686018427387904∧(∃ f,Zcn False w1 p pa pn f)∧ln≤lc∧ln≤1152921504606846976∧Z5f w1 p (tv False w1 p k) la ln∧bn≤1152921504606846976∧en≤1152921504606846976∧Zca w1 p (sv w1 p k n) ba bn∧Zca w1 p (sv w1 p k n) ea en
set_option maxHeartbeats 4000000 in
set_option maxRecDepth 100000 in
theorem Zn2 {p:Nat}{rk:Value}{w1:World}{n k:Nat} (H:RW False p rk w1 k) {nm:ByteArray}{pa:Option Addr}{pn pc:Nat}{la:Option Addr}{ln lc:Nat}{ba:Option Addr}{bn bc:Nat}{ea:Option Addr}{en ec:Nat} (ht:sv w1 p k (n+1) ⟨#[101,120,112,114]⟩ nm pa pn pc la ln lc ba bn bc ea en ec) (hl:1≤ln) (w:World) (C:WT p rk w1 w) :
  Calls prog 55 #[.pointer (some ⟨p,0,none⟩),.agg #[.string ⟨#[101,120,112,114]⟩,.string nm,.slice pa pn pc,.slice la ln lc,.slice ba bn bc,.slice ea en ec]] w fun ev w'=>ev = .returned (.tuple #[])∧WX False p rk w1 w w':=by
 obtain ⟨hks,hnm,hpn,⟨f,hN⟩,hlc,hln,hrow,_,_,_,_⟩:=ht
 obtain ⟨b,o,rfl,hb,op0,z0,s0,pa0,pn0,pc0,la0,ln0,lc0,k00,k01,k02,k03,k04,ht0⟩:=hrow.first (by omega)
 obtain ⟨wE,hE⟩:∃ wE,wE=w.alloc (.cells #[.string ⟨#[101,120,112,114]⟩,.string nm,.slice pa pn pc,.slice (some ⟨b,o,none⟩) ln lc,.slice ba bn bc,.slice ea en ec] 52):=⟨_,rfl⟩
 have hWE:WX False p rk w1 w wE:=by rw [hE];exact (WX.start C).alloc _
 have hq:wE.heap[w.heap.size]?=some (.cells #[.string ⟨#[101,120,112,114]⟩,.string nm,.slice pa pn pc,.slice (some ⟨b,o,none⟩) ln lc,.slice ba bn bc,.slice ea en ec] 52):=by rw [hE];exact heap_alloc_new _ _
 have HE:=Z03 hE
 have HS:Hid (w.heap.size+1=wE.heap.size):=by show _=_;rw [hE];simp
 have hp:=C.lt
 have HK:Hid (∀ w',WX False p rk w1 wE w'→w'.cell? ⟨w.heap.size,0,none⟩=some (.string ⟨#[101,120,112,114]⟩)∧w'.cell? ⟨w.heap.size,1,none⟩=some (.string nm)∧w'.cell? ⟨w.heap.size,2,none⟩=some (.slice pa pn pc)∧w'.cell? ⟨w.heap.size,3,none⟩=some (.slice (some ⟨b,o,none⟩) ln lc)∧w'.cell? ⟨w.heap.size,4,none⟩=some (.slice ba bn bc)∧w'.cell? ⟨w.heap.size,5,none⟩=some (.slice ea en ec)∧w'.cell? ⟨b,o,none⟩=some (.string op0)∧w'.cell? ⟨b,o+1,none⟩=some (.int .i64 z0)∧w'.cell? ⟨b,o+2,none⟩=some (.string s0)∧w'.cell? ⟨b,o+3,none⟩=some (.slice pa0 pn0 pc0)∧w'.cell? ⟨b,o+4,none⟩=some (.slice la0 ln0 lc0)):=fun w' h=>let e:=Z08 (h.block hq (by omega) (by decide));⟨e.1,e.2.1,e.2.2.1,e.2.2.2.1,e.2.2.2.2.1,e.2.2.2.2.2.1,h.wt.old (a:=⟨b,o,none⟩) hb k00,h.wt.old (a:=⟨b,o+1,none⟩) hb k01,h.wt.old (a:=⟨b,o+2,none⟩) hb k02,h.wt.old (a:=⟨b,o+3,none⟩) hb k03,h.wt.old (a:=⟨b,o+4,none⟩) hb k04⟩
 have HCA:=Z03 hWE
 have HH:=Z03 H
 have HN:=Z03 hN
 have HR:=Z03 hrow
 have HT0:=Z03 ht0
 have y00:=C.old (a:=⟨b,o,none⟩) hb k00
 have y01:=C.old (a:=⟨b,o+1,none⟩) hb k01
 have y02:=C.old (a:=⟨b,o+2,none⟩) hb k02
 have y03:=C.old (a:=⟨b,o+3,none⟩) hb k03
 have y04:=C.old (a:=⟨b,o+4,none⟩) hb k04
 have hbw:b<w.heap.size:=by omega
 have hL:(0:Int)<(ln:Int):=by omega
 have HS0:=Z03 (WX.start (P:=False) hWE.wt)
 clear C hE hWE hq H hN hrow k00 k01 k02 k03 k04 ht0
 go_enter func55,ntmps55
 go_wp2_with fail
 rw [←HE.out]
 clear y00 y01 y02 y03 y04
 refine (Z43 HH.out HT0.out _ HS0.out.wt).mono ?_
 rintro ev v0 ⟨rfl,g0⟩
 have G0:=Z03 (HS0.out.trans g0)
 clear g0
 go_wp2_with fail
 go_end0
 exact ⟨rfl,HCA.out.trans G0.out⟩
set_option maxHeartbeats 4000000 in
set_option maxRecDepth 100000 in
theorem Zrl {p:Nat}{rk:Value}{w1:World}{n k:Nat} (H:RW False p rk w1 k) {nm:ByteArray}{pa:Option Addr}{pn pc:Nat}{la:Option Addr}{ln lc:Nat}{ba:Option Addr}{bn bc:Nat}{ea:Option Addr}{en ec:Nat} (ht:sv w1 p k (n+1) ⟨#[115,101,116]⟩ nm pa pn pc la ln lc ba bn bc ea en ec) (hl:1≤ln) (w:World) (C:WT p rk w1 w) :
  Calls prog 55 #[.pointer (some ⟨p,0,none⟩),.agg #[.string ⟨#[115,101,116]⟩,.string nm,.slice pa pn pc,.slice la ln lc,.slice ba bn bc,.slice ea en ec]] w fun ev w'=>ev = .returned (.tuple #[])∧WX False p rk w1 w w':=by
 obtain ⟨hks,hnm,hpn,⟨f,hN⟩,hlc,hln,hrow,_,_,_,_⟩:=ht
 obtain ⟨b,o,rfl,hb,op0,z0,s0,pa0,pn0,pc0,la0,ln0,lc0,k00,k01,k02,k03,k04,ht0⟩:=hrow.first (by omega)
 obtain ⟨wE,hE⟩:∃ wE,wE=w.alloc (.cells #[.string ⟨#[115,101,116]⟩,.string nm,.slice pa pn pc,.slice (some ⟨b,o,none⟩) ln lc,.slice ba bn bc,.slice ea en ec] 52):=⟨_,rfl⟩
 have hWE:WX False p rk w1 w wE:=by rw [hE];exact (WX.start C).alloc _
 have hq:wE.heap[w.heap.size]?=some (.cells #[.string ⟨#[115,101,116]⟩,.string nm,.slice pa pn pc,.slice (some ⟨b,o,none⟩) ln lc,.slice ba bn bc,.slice ea en ec] 52):=by rw [hE];exact heap_alloc_new _ _
 have HE:=Z03 hE
 have HS:Hid (w.heap.size+1=wE.heap.size):=by show _=_;rw [hE];simp
 have hp:=C.lt
 have HK:Hid (∀ w',WX False p rk w1 wE w'→w'.cell? ⟨w.heap.size,0,none⟩=some (.string ⟨#[115,101,116]⟩)∧w'.cell? ⟨w.heap.size,1,none⟩=some (.string nm)∧w'.cell? ⟨w.heap.size,2,none⟩=some (.slice pa pn pc)∧w'.cell? ⟨w.heap.size,3,none⟩=some (.slice (some ⟨b,o,none⟩) ln lc)∧w'.cell? ⟨w.heap.size,4,none⟩=some (.slice ba bn bc)∧w'.cell? ⟨w.heap.size,5,none⟩=some (.slice ea en ec)∧w'.cell? ⟨b,o,none⟩=some (.string op0)∧w'.cell? ⟨b,o+1,none⟩=some (.int .i64 z0)∧w'.cell? ⟨b,o+2,none⟩=some (.string s0)∧w'.cell? ⟨b,o+3,none⟩=some (.slice pa0 pn0 pc0)∧w'.cell? ⟨b,o+4,none⟩=some (.slice la0 ln0 lc0)):=fun w' h=>let e:=Z08 (h.block hq (by omega) (by decide));⟨e.1,e.2.1,e.2.2.1,e.2.2.2.1,e.2.2.2.2.1,e.2.2.2.2.2.1,h.wt.old (a:=⟨b,o,none⟩) hb k00,h.wt.old (a:=⟨b,o+1,none⟩) hb k01,h.wt.old (a:=⟨b,o+2,none⟩) hb k02,h.wt.old (a:=⟨b,o+3,none⟩) hb k03,h.wt.old (a:=⟨b,o+4,none⟩) hb k04⟩
 have HCA:=Z03 hWE
 have HH:=Z03 H
 have HN:=Z03 hN
 have HR:=Z03 hrow
 have HT0:=Z03 ht0
 have hbw:b<w.heap.size:=by omega
 have hL:(0:Int)<(ln:Int):=by omega
 have HS0:=Z03 (WX.start (P:=False) hWE.wt)
 clear C hE hWE hq H hN hrow k00 k01 k02 k03 k04 ht0
 go_enter func55,ntmps55
 go_wp2_with fail
 rw [←HE.out,HS.out]
 refine (put2 HS0.out nm ⟨#[32,61,32]⟩ hnm (by decide)).mono ?_
 rintro ev v0 ⟨rfl,g0⟩
 have G0:=Z03 g0
 obtain ⟨x0,x1,x2,x3,x4,x5,y00,y01,y02,y03,y04⟩:=HK.out v0 G0.out
 clear g0
 go_wp2_with fail
 refine (Z43 HH.out HT0.out _ G0.out.wt).mono ?_
 rintro ev v1 ⟨rfl,g1⟩
 have G1:=Z03 (G0.out.trans g1)
 clear x0 x1 x2 x3 x4 x5 y00 y01 y02 y03 y04
 clear g1
 go_wp2_with fail
 go_end0
 exact ⟨rfl,HCA.out.trans G1.out⟩
set_option maxHeartbeats 4000000 in
set_option maxRecDepth 100000 in
theorem Zrh {p:Nat}{rk:Value}{w1:World}{n k:Nat} (H:RW False p rk w1 k) {nm:ByteArray}{pa:Option Addr}{pn pc:Nat}{la:Option Addr}{ln lc:Nat}{ba:Option Addr}{bn bc:Nat}{ea:Option Addr}{en ec:Nat} (ht:sv w1 p k (n+1) ⟨#[112,117,116]⟩ nm pa pn pc la ln lc ba bn bc ea en ec) (hl:3≤ln) (w:World) (C:WT p rk w1 w) :
  Calls prog 55 #[.pointer (some ⟨p,0,none⟩),.agg #[.string ⟨#[112,117,116]⟩,.string nm,.slice pa pn pc,.slice la ln lc,.slice ba bn bc,.slice ea en ec]] w fun ev w'=>ev = .returned (.tuple #[])∧WX False p rk w1 w w':=by
 obtain ⟨hks,hnm,hpn,⟨f,hN⟩,hlc,hln,hrow,_,_,_,_⟩:=ht
 obtain ⟨b,o,rfl,hb,op0,z0,s0,pa0,pn0,pc0,la0,ln0,lc0,k00,k01,k02,k03,k04,ht0⟩:=hrow.first (by omega)
 obtain ⟨b',o',e,_,op2,z2,s2,pa2,pn2,pc2,la2,ln2,lc2,k20,k21,k22,k23,k24,ht2⟩:=hrow 2 (by omega)
 cases e
 obtain ⟨wE,hE⟩:∃ wE,wE=w.alloc (.cells #[.string ⟨#[112,117,116]⟩,.string nm,.slice pa pn pc,.slice (some ⟨b,o,none⟩) ln lc,.slice ba bn bc,.slice ea en ec] 52):=⟨_,rfl⟩
 have hWE:WX False p rk w1 w wE:=by rw [hE];exact (WX.start C).alloc _
 have hq:wE.heap[w.heap.size]?=some (.cells #[.string ⟨#[112,117,116]⟩,.string nm,.slice pa pn pc,.slice (some ⟨b,o,none⟩) ln lc,.slice ba bn bc,.slice ea en ec] 52):=by rw [hE];exact heap_alloc_new _ _
 have HE:=Z03 hE
 have HS:Hid (w.heap.size+1=wE.heap.size):=by show _=_;rw [hE];simp
 have hp:=C.lt
 have HK:Hid (∀ w',WX False p rk w1 wE w'→w'.cell? ⟨w.heap.size,0,none⟩=some (.string ⟨#[112,117,116]⟩)∧w'.cell? ⟨w.heap.size,1,none⟩=some (.string nm)∧w'.cell? ⟨w.heap.size,2,none⟩=some (.slice pa pn pc)∧w'.cell? ⟨w.heap.size,3,none⟩=some (.slice (some ⟨b,o,none⟩) ln lc)∧w'.cell? ⟨w.heap.size,4,none⟩=some (.slice ba bn bc)∧w'.cell? ⟨w.heap.size,5,none⟩=some (.slice ea en ec)∧w'.cell? ⟨b,o+2*5,none⟩=some (.string op2)∧w'.cell? ⟨b,o+2*5+1,none⟩=some (.int .i64 z2)∧w'.cell? ⟨b,o+2*5+2,none⟩=some (.string s2)∧w'.cell? ⟨b,o+2*5+3,none⟩=some (.slice pa2 pn2 pc2)∧w'.cell? ⟨b,o+2*5+4,none⟩=some (.slice la2 ln2 lc2)):=fun w' h=>let e:=Z08 (h.block hq (by omega) (by decide));⟨e.1,e.2.1,e.2.2.1,e.2.2.2.1,e.2.2.2.2.1,e.2.2.2.2.2.1,h.wt.old (a:=⟨b,o+2*5,none⟩) hb k20,h.wt.old (a:=⟨b,o+2*5+1,none⟩) hb k21,h.wt.old (a:=⟨b,o+2*5+2,none⟩) hb k22,h.wt.old (a:=⟨b,o+2*5+3,none⟩) hb k23,h.wt.old (a:=⟨b,o+2*5+4,none⟩) hb k24⟩
 have HCA:=Z03 hWE
 have HH:=Z03 H
 have HN:=Z03 hN
 have HR:=Z03 hrow
 have HT2:=Z03 ht2
 have hbw:b<w.heap.size:=by omega
 have hL:(0:Int)<(ln:Int):=by omega
 have hL2:(2:Int)<(ln:Int):=by omega
 have HS0:=Z03 (WX.start (P:=False) hWE.wt)
 clear C hE hWE hq H hN hrow k20 k21 k22 k23 k24 ht2
 go_enter func55,ntmps55
 go_wp2_with fail
 rw [←HE.out]
 refine (Zfl HH.out _ ln lc HR.out (by omega) hlc _ HS0.out.wt).mono ?_
 rintro ev v0 ⟨rfl,g0⟩
 have G0:=Z03 (HS0.out.trans g0)
 obtain ⟨x0,x1,x2,x3,x4,x5,y20,y21,y22,y23,y24⟩:=HK.out v0 G0.out
 clear g0
 go_wp2_with fail
 refine (Zig G0.out ⟨#[32,61,32]⟩ (by decide)).mono ?_
 rintro ev v1 ⟨rfl,g1⟩
 have G1:=Z03 g1
 clear x0 x1 x2 x3 x4 x5 y20 y21 y22 y23 y24
 obtain ⟨x0,x1,x2,x3,x4,x5,y20,y21,y22,y23,y24⟩:=HK.out v1 G1.out
 clear g1
 go_wp2_with fail
 refine (Z43 HH.out HT2.out _ G1.out.wt).mono ?_
 rintro ev v2 ⟨rfl,g2⟩
 have G2:=Z03 (G1.out.trans g2)
 clear x0 x1 x2 x3 x4 x5 y20 y21 y22 y23 y24
 clear g2
 go_wp2_with fail
 go_end0
 exact ⟨rfl,HCA.out.trans G2.out⟩
set_option maxHeartbeats 4000000 in
set_option maxRecDepth 100000 in
theorem Zqu {p:Nat}{rk:Value}{w1:World}{n k:Nat} (H:RW False p rk w1 k) {nm:ByteArray}{pa:Option Addr}{pn pc:Nat}{la:Option Addr}{ln lc:Nat}{ba:Option Addr}{bn bc:Nat}{ea:Option Addr}{en ec:Nat} (ht:sv w1 p k (n+1) ⟨#[100,101,108]⟩ nm pa pn pc la ln lc ba bn bc ea en ec) (hl:2≤ln) (w:World) (C:WT p rk w1 w) :
  Calls prog 55 #[.pointer (some ⟨p,0,none⟩),.agg #[.string ⟨#[100,101,108]⟩,.string nm,.slice pa pn pc,.slice la ln lc,.slice ba bn bc,.slice ea en ec]] w fun ev w'=>ev = .returned (.tuple #[])∧WX False p rk w1 w w':=by
 obtain ⟨hks,hnm,hpn,⟨f,hN⟩,hlc,hln,hrow,_,_,_,_⟩:=ht
 obtain ⟨wE,hE⟩:∃ wE,wE=w.alloc (.cells #[.string ⟨#[100,101,108]⟩,.string nm,.slice pa pn pc,.slice la ln lc,.slice ba bn bc,.slice ea en ec] 52):=⟨_,rfl⟩
 have hWE:WX False p rk w1 w wE:=by rw [hE];exact (WX.start C).alloc _
 have hq:wE.heap[w.heap.size]?=some (.cells #[.string ⟨#[100,101,108]⟩,.string nm,.slice pa pn pc,.slice la ln lc,.slice ba bn bc,.slice ea en ec] 52):=by rw [hE];exact heap_alloc_new _ _
 have HE:=Z03 hE
 have HS:Hid (w.heap.size+1=wE.heap.size):=by show _=_;rw [hE];simp
 have hp:=C.lt
 have HK:Hid (∀ w',WX False p rk w1 wE w'→w'.cell? ⟨w.heap.size,0,none⟩=some (.string ⟨#[100,101,108]⟩)∧w'.cell? ⟨w.heap.size,1,none⟩=some (.string nm)∧w'.cell? ⟨w.heap.size,2,none⟩=some (.slice pa pn pc)∧w'.cell? ⟨w.heap.size,3,none⟩=some (.slice la ln lc)∧w'.cell? ⟨w.heap.size,4,none⟩=some (.slice ba bn bc)∧w'.cell? ⟨w.heap.size,5,none⟩=some (.slice ea en ec)):=fun w' h=>let e:=Z08 (h.block hq (by omega) (by decide));⟨e.1,e.2.1,e.2.2.1,e.2.2.2.1,e.2.2.2.2.1,e.2.2.2.2.2.1⟩
 have HCA:=Z03 hWE
 have HH:=Z03 H
 have HN:=Z03 hN
 have HR:=Z03 hrow
 have hL:(0:Int)<(ln:Int):=by omega
 have HS0:=Z03 (WX.start (P:=False) hWE.wt)
 clear C hE hWE hq H hN hrow  
 go_enter func55,ntmps55
 go_wp2_with fail
 rw [←HE.out,HS.out]
 refine (Zig HS0.out ⟨#[100,101,108,32]⟩ (by decide)).mono ?_
 rintro ev v0 ⟨rfl,g0⟩
 have G0:=Z03 g0
 obtain ⟨x0,x1,x2,x3,x4,x5⟩:=HK.out v0 G0.out
 clear g0
 go_wp2_with fail
 refine (Zfl HH.out _ ln lc HR.out (by omega) hlc _ G0.out.wt).mono ?_
 rintro ev v1 ⟨rfl,g1⟩
 have G1:=Z03 (G0.out.trans g1)
 clear x0 x1 x2 x3 x4 x5
 clear g1
 go_wp2_with fail
 go_end0
 exact ⟨rfl,HCA.out.trans G1.out⟩
set_option maxHeartbeats 4000000 in
set_option maxRecDepth 100000 in
theorem Zjc {p:Nat}{rk:Value}{w1:World}{n k:Nat} (H:RW False p rk w1 k) {nm:ByteArray}{pa:Option Addr}{pn pc:Nat}{la:Option Addr}{ln lc:Nat}{ba:Option Addr}{bn bc:Nat}{ea:Option Addr}{en ec:Nat} (ht:sv w1 p k (n+1) ⟨#[114,97,105,115,101]⟩ nm pa pn pc la ln lc ba bn bc ea en ec) (hl:1≤ln) (w:World) (C:WT p rk w1 w) :
  Calls prog 55 #[.pointer (some ⟨p,0,none⟩),.agg #[.string ⟨#[114,97,105,115,101]⟩,.string nm,.slice pa pn pc,.slice la ln lc,.slice ba bn bc,.slice ea en ec]] w fun ev w'=>ev = .returned (.tuple #[])∧WX False p rk w1 w w':=by
 obtain ⟨hks,hnm,hpn,⟨f,hN⟩,hlc,hln,hrow,_,_,_,_⟩:=ht
 obtain ⟨b,o,rfl,hb,op0,z0,s0,pa0,pn0,pc0,la0,ln0,lc0,k00,k01,k02,k03,k04,ht0⟩:=hrow.first (by omega)
 obtain ⟨wE,hE⟩:∃ wE,wE=w.alloc (.cells #[.string ⟨#[114,97,105,115,101]⟩,.string nm,.slice pa pn pc,.slice (some ⟨b,o,none⟩) ln lc,.slice ba bn bc,.slice ea en ec] 52):=⟨_,rfl⟩
 have hWE:WX False p rk w1 w wE:=by rw [hE];exact (WX.start C).alloc _
 have hq:wE.heap[w.heap.size]?=some (.cells #[.string ⟨#[114,97,105,115,101]⟩,.string nm,.slice pa pn pc,.slice (some ⟨b,o,none⟩) ln lc,.slice ba bn bc,.slice ea en ec] 52):=by rw [hE];exact heap_alloc_new _ _
 have HE:=Z03 hE
 have HS:Hid (w.heap.size+1=wE.heap.size):=by show _=_;rw [hE];simp
 have hp:=C.lt
 have HK:Hid (∀ w',WX False p rk w1 wE w'→w'.cell? ⟨w.heap.size,0,none⟩=some (.string ⟨#[114,97,105,115,101]⟩)∧w'.cell? ⟨w.heap.size,1,none⟩=some (.string nm)∧w'.cell? ⟨w.heap.size,2,none⟩=some (.slice pa pn pc)∧w'.cell? ⟨w.heap.size,3,none⟩=some (.slice (some ⟨b,o,none⟩) ln lc)∧w'.cell? ⟨w.heap.size,4,none⟩=some (.slice ba bn bc)∧w'.cell? ⟨w.heap.size,5,none⟩=some (.slice ea en ec)∧w'.cell? ⟨b,o,none⟩=some (.string op0)∧w'.cell? ⟨b,o+1,none⟩=some (.int .i64 z0)∧w'.cell? ⟨b,o+2,none⟩=some (.string s0)∧w'.cell? ⟨b,o+3,none⟩=some (.slice pa0 pn0 pc0)∧w'.cell? ⟨b,o+4,none⟩=some (.slice la0 ln0 lc0)):=fun w' h=>let e:=Z08 (h.block hq (by omega) (by decide));⟨e.1,e.2.1,e.2.2.1,e.2.2.2.1,e.2.2.2.2.1,e.2.2.2.2.2.1,h.wt.old (a:=⟨b,o,none⟩) hb k00,h.wt.old (a:=⟨b,o+1,none⟩) hb k01,h.wt.old (a:=⟨b,o+2,none⟩) hb k02,h.wt.old (a:=⟨b,o+3,none⟩) hb k03,h.wt.old (a:=⟨b,o+4,none⟩) hb k04⟩
 have HCA:=Z03 hWE
 have HH:=Z03 H
 have HN:=Z03 hN
 have HR:=Z03 hrow
 have HT0:=Z03 ht0
 have hbw:b<w.heap.size:=by omega
 have hL:(0:Int)<(ln:Int):=by omega
 have HS0:=Z03 (WX.start (P:=False) hWE.wt)
 clear C hE hWE hq H hN hrow k00 k01 k02 k03 k04 ht0
 go_enter func55,ntmps55
 go_wp2_with fail
 rw [←HE.out,HS.out]
 refine (Zig HS0.out ⟨#[114,97,105,115,101,32]⟩ (by decide)).mono ?_
 rintro ev v0 ⟨rfl,g0⟩
 have G0:=Z03 g0
 obtain ⟨x0,x1,x2,x3,x4,x5,y00,y01,y02,y03,y04⟩:=HK.out v0 G0.out
 clear g0
 go_wp2_with fail
 refine (Z43 HH.out HT0.out _ G0.out.wt).mono ?_
 rintro ev v1 ⟨rfl,g1⟩
 have G1:=Z03 (G0.out.trans g1)
 clear x0 x1 x2 x3 x4 x5 y00 y01 y02 y03 y04
 clear g1
 go_wp2_with fail
 go_end0
 exact ⟨rfl,HCA.out.trans G1.out⟩
set_option maxHeartbeats 4000000 in
set_option maxRecDepth 100000 in
theorem Zc7 {p:Nat}{rk:Value}{w1:World}{n k:Nat} (H:RW False p rk w1 k) {nm:ByteArray}{pa:Option Addr}{pn pc:Nat}{la:Option Addr}{ln lc:Nat}{ba:Option Addr}{bn bc:Nat}{ea:Option Addr}{en ec:Nat} (ht:sv w1 p k (n+1) ⟨#[114,101,116,117,114,110]⟩ nm pa pn pc la ln lc ba bn bc ea en ec) (hl:1≤ln) (w:World) (C:WT p rk w1 w) :
  Calls prog 55 #[.pointer (some ⟨p,0,none⟩),.agg #[.string ⟨#[114,101,116,117,114,110]⟩,.string nm,.slice pa pn pc,.slice la ln lc,.slice ba bn bc,.slice ea en ec]] w fun ev w'=>ev = .returned (.tuple #[])∧WX False p rk w1 w w':=by
 obtain ⟨hks,hnm,hpn,⟨f,hN⟩,hlc,hln,hrow,_,_,_,_⟩:=ht
 obtain ⟨b,o,rfl,hb,op0,z0,s0,pa0,pn0,pc0,la0,ln0,lc0,k00,k01,k02,k03,k04,ht0⟩:=hrow.first (by omega)
 obtain ⟨wE,hE⟩:∃ wE,wE=w.alloc (.cells #[.string ⟨#[114,101,116,117,114,110]⟩,.string nm,.slice pa pn pc,.slice (some ⟨b,o,none⟩) ln lc,.slice ba bn bc,.slice ea en ec] 52):=⟨_,rfl⟩
 have hWE:WX False p rk w1 w wE:=by rw [hE];exact (WX.start C).alloc _
 have hq:wE.heap[w.heap.size]?=some (.cells #[.string ⟨#[114,101,116,117,114,110]⟩,.string nm,.slice pa pn pc,.slice (some ⟨b,o,none⟩) ln lc,.slice ba bn bc,.slice ea en ec] 52):=by rw [hE];exact heap_alloc_new _ _
 have HE:=Z03 hE
 have HS:Hid (w.heap.size+1=wE.heap.size):=by show _=_;rw [hE];simp
 have hp:=C.lt
 have HK:Hid (∀ w',WX False p rk w1 wE w'→w'.cell? ⟨w.heap.size,0,none⟩=some (.string ⟨#[114,101,116,117,114,110]⟩)∧w'.cell? ⟨w.heap.size,1,none⟩=some (.string nm)∧w'.cell? ⟨w.heap.size,2,none⟩=some (.slice pa pn pc)∧w'.cell? ⟨w.heap.size,3,none⟩=some (.slice (some ⟨b,o,none⟩) ln lc)∧w'.cell? ⟨w.heap.size,4,none⟩=some (.slice ba bn bc)∧w'.cell? ⟨w.heap.size,5,none⟩=some (.slice ea en ec)∧w'.cell? ⟨b,o,none⟩=some (.string op0)∧w'.cell? ⟨b,o+1,none⟩=some (.int .i64 z0)∧w'.cell? ⟨b,o+2,none⟩=some (.string s0)∧w'.cell? ⟨b,o+3,none⟩=some (.slice pa0 pn0 pc0)∧w'.cell? ⟨b,o+4,none⟩=some (.slice la0 ln0 lc0)):=fun w' h=>let e:=Z08 (h.block hq (by omega) (by decide));⟨e.1,e.2.1,e.2.2.1,e.2.2.2.1,e.2.2.2.2.1,e.2.2.2.2.2.1,h.wt.old (a:=⟨b,o,none⟩) hb k00,h.wt.old (a:=⟨b,o+1,none⟩) hb k01,h.wt.old (a:=⟨b,o+2,none⟩) hb k02,h.wt.old (a:=⟨b,o+3,none⟩) hb k03,h.wt.old (a:=⟨b,o+4,none⟩) hb k04⟩
 have HCA:=Z03 hWE
 have HH:=Z03 H
 have HN:=Z03 hN
 have HR:=Z03 hrow
 have HT0:=Z03 ht0
 have hbw:b<w.heap.size:=by omega
 have hL:(0:Int)<(ln:Int):=by omega
 have hL:(0:Int)<(ln:Int):=by omega
 have HS0:=Z03 (WX.start (P:=False) hWE.wt)
 clear C hE hWE hq H hN hrow k00 k01 k02 k03 k04 ht0
 go_enter func55,ntmps55
 go_wp2_with fail
 rw [←HE.out,HS.out]
 refine (Zig HS0.out ⟨#[114,101,116,117,114,110]⟩ (by decide)).mono ?_
 rintro ev v0 ⟨rfl,g0⟩
 have G0:=Z03 g0
 obtain ⟨x0,x1,x2,x3,x4,x5,y00,y01,y02,y03,y04⟩:=HK.out v0 G0.out
 clear g0
 go_wp2_with fail
 refine (Zig G0.out ⟨#[32]⟩ (by decide)).mono ?_
 rintro ev v1 ⟨rfl,g1⟩
 have G1:=Z03 g1
 clear x0 x1 x2 x3 x4 x5 y00 y01 y02 y03 y04
 obtain ⟨x0,x1,x2,x3,x4,x5,y00,y01,y02,y03,y04⟩:=HK.out v1 G1.out
 clear g1
 go_wp2_with fail
 refine (Z43 HH.out HT0.out _ G1.out.wt).mono ?_
 rintro ev v2 ⟨rfl,g2⟩
 have G2:=Z03 (G1.out.trans g2)
 clear x0 x1 x2 x3 x4 x5 y00 y01 y02 y03 y04
 clear g2
 go_wp2_with fail
 go_end0
 exact ⟨rfl,HCA.out.trans G2.out⟩
set_option maxHeartbeats 4000000 in
set_option maxRecDepth 100000 in
theorem Zav {p:Nat}{rk:Value}{w1:World}{n k:Nat} (H:RW False p rk w1 k) {nm:ByteArray}{pa:Option Addr}{pn pc:Nat}{la:Option Addr}{ln lc:Nat}{ba:Option Addr}{bn bc:Nat}{ea:Option Addr}{en ec:Nat} (ht:sv w1 p k (n+1) ⟨#[114,101,116,117,114,110]⟩ nm pa pn pc la ln lc ba bn bc ea en ec) (hl0:ln=0) (w:World) (C:WT p rk w1 w) :
  Calls prog 55 #[.pointer (some ⟨p,0,none⟩),.agg #[.string ⟨#[114,101,116,117,114,110]⟩,.string nm,.slice pa pn pc,.slice la ln lc,.slice ba bn bc,.slice ea en ec]] w fun ev w'=>ev = .returned (.tuple #[])∧WX False p rk w1 w w':=by
 obtain ⟨hks,hnm,hpn,⟨f,hN⟩,hlc,hln,hrow,_,_,_,_⟩:=ht
 obtain ⟨wE,hE⟩:∃ wE,wE=w.alloc (.cells #[.string ⟨#[114,101,116,117,114,110]⟩,.string nm,.slice pa pn pc,.slice la ln lc,.slice ba bn bc,.slice ea en ec] 52):=⟨_,rfl⟩
 have hWE:WX False p rk w1 w wE:=by rw [hE];exact (WX.start C).alloc _
 have hq:wE.heap[w.heap.size]?=some (.cells #[.string ⟨#[114,101,116,117,114,110]⟩,.string nm,.slice pa pn pc,.slice la ln lc,.slice ba bn bc,.slice ea en ec] 52):=by rw [hE];exact heap_alloc_new _ _
 have HE:=Z03 hE
 have HS:Hid (w.heap.size+1=wE.heap.size):=by show _=_;rw [hE];simp
 have hp:=C.lt
 have HK:Hid (∀ w',WX False p rk w1 wE w'→w'.cell? ⟨w.heap.size,0,none⟩=some (.string ⟨#[114,101,116,117,114,110]⟩)∧w'.cell? ⟨w.heap.size,1,none⟩=some (.string nm)∧w'.cell? ⟨w.heap.size,2,none⟩=some (.slice pa pn pc)∧w'.cell? ⟨w.heap.size,3,none⟩=some (.slice la ln lc)∧w'.cell? ⟨w.heap.size,4,none⟩=some (.slice ba bn bc)∧w'.cell? ⟨w.heap.size,5,none⟩=some (.slice ea en ec)):=fun w' h=>let e:=Z08 (h.block hq (by omega) (by decide));⟨e.1,e.2.1,e.2.2.1,e.2.2.2.1,e.2.2.2.2.1,e.2.2.2.2.2.1⟩
 have HCA:=Z03 hWE
 have HH:=Z03 H
 have HN:=Z03 hN
 have HR:=Z03 hrow
 have HS0:=Z03 (WX.start (P:=False) hWE.wt)
 subst hl0
 clear C hE hWE hq H hN hrow  
 go_enter func55,ntmps55
 go_wp2_with fail
 rw [←HE.out,HS.out]
 refine (Zig HS0.out ⟨#[114,101,116,117,114,110]⟩ (by decide)).mono ?_
 rintro ev v0 ⟨rfl,g0⟩
 have G0:=Z03 g0
 obtain ⟨x0,x1,x2,x3,x4,x5⟩:=HK.out v0 G0.out
 clear g0
 go_wp2_with fail
 go_end0
 exact ⟨rfl,HCA.out.trans G0.out⟩
set_option maxHeartbeats 4000000 in
set_option maxRecDepth 100000 in
theorem Zk1 {p:Nat}{rk:Value}{w1:World}{n k:Nat} (H:RW False p rk w1 k) {nm:ByteArray}{pa:Option Addr}{pn pc:Nat}{la:Option Addr}{ln lc:Nat}{ba:Option Addr}{bn bc:Nat}{ea:Option Addr}{en ec:Nat} (ht:sv w1 p k (n+1) ⟨#[98,114,101,97,107]⟩ nm pa pn pc la ln lc ba bn bc ea en ec) (w:World) (C:WT p rk w1 w) :
  Calls prog 55 #[.pointer (some ⟨p,0,none⟩),.agg #[.string ⟨#[98,114,101,97,107]⟩,.string nm,.slice pa pn pc,.slice la ln lc,.slice ba bn bc,.slice ea en ec]] w fun ev w'=>ev = .returned (.tuple #[])∧WX False p rk w1 w w':=by
 obtain ⟨hks,hnm,hpn,⟨f,hN⟩,hlc,hln,hrow,_,_,_,_⟩:=ht
 obtain ⟨wE,hE⟩:∃ wE,wE=w.alloc (.cells #[.string ⟨#[98,114,101,97,107]⟩,.string nm,.slice pa pn pc,.slice la ln lc,.slice ba bn bc,.slice ea en ec] 52):=⟨_,rfl⟩
 have hWE:WX False p rk w1 w wE:=by rw [hE];exact (WX.start C).alloc _
 have hq:wE.heap[w.heap.size]?=some (.cells #[.string ⟨#[98,114,101,97,107]⟩,.string nm,.slice pa pn pc,.slice la ln lc,.slice ba bn bc,.slice ea en ec] 52):=by rw [hE];exact heap_alloc_new _ _
 have HE:=Z03 hE
 have HS:Hid (w.heap.size+1=wE.heap.size):=by show _=_;rw [hE];simp
 have hp:=C.lt
 have HK:Hid (∀ w',WX False p rk w1 wE w'→w'.cell? ⟨w.heap.size,0,none⟩=some (.string ⟨#[98,114,101,97,107]⟩)∧w'.cell? ⟨w.heap.size,1,none⟩=some (.string nm)∧w'.cell? ⟨w.heap.size,2,none⟩=some (.slice pa pn pc)∧w'.cell? ⟨w.heap.size,3,none⟩=some (.slice la ln lc)∧w'.cell? ⟨w.heap.size,4,none⟩=some (.slice ba bn bc)∧w'.cell? ⟨w.heap.size,5,none⟩=some (.slice ea en ec)):=fun w' h=>let e:=Z08 (h.block hq (by omega) (by decide));⟨e.1,e.2.1,e.2.2.1,e.2.2.2.1,e.2.2.2.2.1,e.2.2.2.2.2.1⟩
 have HCA:=Z03 hWE
 have HH:=Z03 H
 have HN:=Z03 hN
 have HR:=Z03 hrow
 have HS0:=Z03 (WX.start (P:=False) hWE.wt)
 clear C hE hWE hq H hN hrow  
 go_enter func55,ntmps55
 go_wp2_with fail
 rw [←HE.out,HS.out]
 refine (Zig HS0.out ⟨#[98,114,101,97,107]⟩ (by decide)).mono ?_
 rintro ev v0 ⟨rfl,g0⟩
 have G0:=Z03 g0
 clear g0
 go_wp2_with fail
 go_end0
 exact ⟨rfl,HCA.out.trans G0.out⟩
set_option maxHeartbeats 4000000 in
set_option maxRecDepth 100000 in
theorem Zdc {p:Nat}{rk:Value}{w1:World}{n k:Nat} (H:RW False p rk w1 k) {nm:ByteArray}{pa:Option Addr}{pn pc:Nat}{la:Option Addr}{ln lc:Nat}{ba:Option Addr}{bn bc:Nat}{ea:Option Addr}{en ec:Nat} (ht:sv w1 p k (n+1) ⟨#[99,111,110,116,105,110,117,101]⟩ nm pa pn pc la ln lc ba bn bc ea en ec) (w:World) (C:WT p rk w1 w) :
  Calls prog 55 #[.pointer (some ⟨p,0,none⟩),.agg #[.string ⟨#[99,111,110,116,105,110,117,101]⟩,.string nm,.slice pa pn pc,.slice la ln lc,.slice ba bn bc,.slice ea en ec]] w fun ev w'=>ev = .returned (.tuple #[])∧WX False p rk w1 w w':=by
 obtain ⟨hks,hnm,hpn,⟨f,hN⟩,hlc,hln,hrow,_,_,_,_⟩:=ht
 obtain ⟨wE,hE⟩:∃ wE,wE=w.alloc (.cells #[.string ⟨#[99,111,110,116,105,110,117,101]⟩,.string nm,.slice pa pn pc,.slice la ln lc,.slice ba bn bc,.slice ea en ec] 52):=⟨_,rfl⟩
 have hWE:WX False p rk w1 w wE:=by rw [hE];exact (WX.start C).alloc _
 have hq:wE.heap[w.heap.size]?=some (.cells #[.string ⟨#[99,111,110,116,105,110,117,101]⟩,.string nm,.slice pa pn pc,.slice la ln lc,.slice ba bn bc,.slice ea en ec] 52):=by rw [hE];exact heap_alloc_new _ _
 have HE:=Z03 hE
 have HS:Hid (w.heap.size+1=wE.heap.size):=by show _=_;rw [hE];simp
 have hp:=C.lt
 have HK:Hid (∀ w',WX False p rk w1 wE w'→w'.cell? ⟨w.heap.size,0,none⟩=some (.string ⟨#[99,111,110,116,105,110,117,101]⟩)∧w'.cell? ⟨w.heap.size,1,none⟩=some (.string nm)∧w'.cell? ⟨w.heap.size,2,none⟩=some (.slice pa pn pc)∧w'.cell? ⟨w.heap.size,3,none⟩=some (.slice la ln lc)∧w'.cell? ⟨w.heap.size,4,none⟩=some (.slice ba bn bc)∧w'.cell? ⟨w.heap.size,5,none⟩=some (.slice ea en ec)):=fun w' h=>let e:=Z08 (h.block hq (by omega) (by decide));⟨e.1,e.2.1,e.2.2.1,e.2.2.2.1,e.2.2.2.2.1,e.2.2.2.2.2.1⟩
 have HCA:=Z03 hWE
 have HH:=Z03 H
 have HN:=Z03 hN
 have HR:=Z03 hrow
 have HS0:=Z03 (WX.start (P:=False) hWE.wt)
 clear C hE hWE hq H hN hrow  
 go_enter func55,ntmps55
 go_wp2_with fail
 rw [←HE.out,HS.out]
 refine (Zig HS0.out ⟨#[99,111,110,116,105,110,117,101]⟩ (by decide)).mono ?_
 rintro ev v0 ⟨rfl,g0⟩
 have G0:=Z03 g0
 clear g0
 go_wp2_with fail
 go_end0
 exact ⟨rfl,HCA.out.trans G0.out⟩
set_option maxHeartbeats 4000000 in
set_option maxRecDepth 100000 in
theorem Zmr {p:Nat}{rk:Value}{w1:World}{n k:Nat} (H:RW False p rk w1 k) {nm:ByteArray}{pa:Option Addr}{pn pc:Nat}{la:Option Addr}{ln lc:Nat}{ba:Option Addr}{bn bc:Nat}{ea:Option Addr}{en ec:Nat} (ht:sv w1 p k (n+1) ⟨#[112,97,115,115]⟩ nm pa pn pc la ln lc ba bn bc ea en ec) (w:World) (C:WT p rk w1 w) :
  Calls prog 55 #[.pointer (some ⟨p,0,none⟩),.agg #[.string ⟨#[112,97,115,115]⟩,.string nm,.slice pa pn pc,.slice la ln lc,.slice ba bn bc,.slice ea en ec]] w fun ev w'=>ev = .returned (.tuple #[])∧WX False p rk w1 w w':=by
 obtain ⟨hks,hnm,hpn,⟨f,hN⟩,hlc,hln,hrow,_,_,_,_⟩:=ht
 obtain ⟨wE,hE⟩:∃ wE,wE=w.alloc (.cells #[.string ⟨#[112,97,115,115]⟩,.string nm,.slice pa pn pc,.slice la ln lc,.slice ba bn bc,.slice ea en ec] 52):=⟨_,rfl⟩
 have hWE:WX False p rk w1 w wE:=by rw [hE];exact (WX.start C).alloc _
 have hq:wE.heap[w.heap.size]?=some (.cells #[.string ⟨#[112,97,115,115]⟩,.string nm,.slice pa pn pc,.slice la ln lc,.slice ba bn bc,.slice ea en ec] 52):=by rw [hE];exact heap_alloc_new _ _
 have HE:=Z03 hE
 have HS:Hid (w.heap.size+1=wE.heap.size):=by show _=_;rw [hE];simp
 have hp:=C.lt
 have HK:Hid (∀ w',WX False p rk w1 wE w'→w'.cell? ⟨w.heap.size,0,none⟩=some (.string ⟨#[112,97,115,115]⟩)∧w'.cell? ⟨w.heap.size,1,none⟩=some (.string nm)∧w'.cell? ⟨w.heap.size,2,none⟩=some (.slice pa pn pc)∧w'.cell? ⟨w.heap.size,3,none⟩=some (.slice la ln lc)∧w'.cell? ⟨w.heap.size,4,none⟩=some (.slice ba bn bc)∧w'.cell? ⟨w.heap.size,5,none⟩=some (.slice ea en ec)):=fun w' h=>let e:=Z08 (h.block hq (by omega) (by decide));⟨e.1,e.2.1,e.2.2.1,e.2.2.2.1,e.2.2.2.2.1,e.2.2.2.2.2.1⟩
 have HCA:=Z03 hWE
 have HH:=Z03 H
 have HN:=Z03 hN
 have HR:=Z03 hrow
 have HS0:=Z03 (WX.start (P:=False) hWE.wt)
 clear C hE hWE hq H hN hrow  
 go_enter func55,ntmps55
 go_wp2_with fail
 rw [←HE.out,HS.out]
 refine (Zig HS0.out ⟨#[112,97,115,115]⟩ (by decide)).mono ?_
 rintro ev v0 ⟨rfl,g0⟩
 have G0:=Z03 g0
 clear g0
 go_wp2_with fail
 go_end0
 exact ⟨rfl,HCA.out.trans G0.out⟩
set_option maxHeartbeats 4000000 in
set_option maxRecDepth 100000 in
theorem Zhk {p:Nat}{rk:Value}{w1:World}{n k:Nat} (H:RW False p rk w1 k) {nm:ByteArray}{pa:Option Addr}{pn pc:Nat}{la:Option Addr}{ln lc:Nat}{ba:Option Addr}{bn bc:Nat}{ea:Option Addr}{en ec:Nat} (ht:sv w1 p k (n+1) ⟨#[103,108,111,98,97,108]⟩ nm pa pn pc la ln lc ba bn bc ea en ec) (w:World) (C:WT p rk w1 w) :
  Calls prog 55 #[.pointer (some ⟨p,0,none⟩),.agg #[.string ⟨#[103,108,111,98,97,108]⟩,.string nm,.slice pa pn pc,.slice la ln lc,.slice ba bn bc,.slice ea en ec]] w fun ev w'=>ev = .returned (.tuple #[])∧WX False p rk w1 w w':=by
 obtain ⟨hks,hnm,hpn,⟨f,hN⟩,hlc,hln,hrow,_,_,_,_⟩:=ht
 obtain ⟨wE,hE⟩:∃ wE,wE=w.alloc (.cells #[.string ⟨#[103,108,111,98,97,108]⟩,.string nm,.slice pa pn pc,.slice la ln lc,.slice ba bn bc,.slice ea en ec] 52):=⟨_,rfl⟩
 have hWE:WX False p rk w1 w wE:=by rw [hE];exact (WX.start C).alloc _
 have hq:wE.heap[w.heap.size]?=some (.cells #[.string ⟨#[103,108,111,98,97,108]⟩,.string nm,.slice pa pn pc,.slice la ln lc,.slice ba bn bc,.slice ea en ec] 52):=by rw [hE];exact heap_alloc_new _ _
 have HE:=Z03 hE
 have HS:Hid (w.heap.size+1=wE.heap.size):=by show _=_;rw [hE];simp
 have hp:=C.lt
 have HK:Hid (∀ w',WX False p rk w1 wE w'→w'.cell? ⟨w.heap.size,0,none⟩=some (.string ⟨#[103,108,111,98,97,108]⟩)∧w'.cell? ⟨w.heap.size,1,none⟩=some (.string nm)∧w'.cell? ⟨w.heap.size,2,none⟩=some (.slice pa pn pc)∧w'.cell? ⟨w.heap.size,3,none⟩=some (.slice la ln lc)∧w'.cell? ⟨w.heap.size,4,none⟩=some (.slice ba bn bc)∧w'.cell? ⟨w.heap.size,5,none⟩=some (.slice ea en ec)):=fun w' h=>let e:=Z08 (h.block hq (by omega) (by decide));⟨e.1,e.2.1,e.2.2.1,e.2.2.2.1,e.2.2.2.2.1,e.2.2.2.2.2.1⟩
 have HCA:=Z03 hWE
 have HH:=Z03 H
 have HN:=Z03 hN
 have HR:=Z03 hrow
 have HS0:=Z03 (WX.start (P:=False) hWE.wt)
 clear C hE hWE hq H hN hrow  
 go_enter func55,ntmps55
 go_wp2_with fail
 rw [←HE.out,HS.out]
 refine (put2 HS0.out ⟨#[103,108,111,98,97,108]⟩ ⟨#[32]⟩ (by decide) (by decide)).mono ?_
 rintro ev v0 ⟨rfl,g0⟩
 have G0:=Z03 g0
 obtain ⟨x0,x1,x2,x3,x4,x5⟩:=HK.out v0 G0.out
 clear g0
 go_wp2_with fail
 refine (Zax pa pn pc f HN.out hpn _ G0.out.wt).mono ?_
 rintro ev v1 ⟨rfl,g1⟩
 have G1:=Z03 (G0.out.trans g1)
 clear x0 x1 x2 x3 x4 x5
 clear g1
 go_wp2_with fail
 go_end0
 exact ⟨rfl,HCA.out.trans G1.out⟩
set_option maxHeartbeats 4000000 in
set_option maxRecDepth 100000 in
theorem Zda {p:Nat}{rk:Value}{w1:World}{n k:Nat} (H:RW False p rk w1 k) {nm:ByteArray}{pa:Option Addr}{pn pc:Nat}{la:Option Addr}{ln lc:Nat}{ba:Option Addr}{bn bc:Nat}{ea:Option Addr}{en ec:Nat} (ht:sv w1 p k (n+1) ⟨#[110,111,110,108,111,99,97,108]⟩ nm pa pn pc la ln lc ba bn bc ea en ec) (w:World) (C:WT p rk w1 w) :
  Calls prog 55 #[.pointer (some ⟨p,0,none⟩),.agg #[.string ⟨#[110,111,110,108,111,99,97,108]⟩,.string nm,.slice pa pn pc,.slice la ln lc,.slice ba bn bc,.slice ea en ec]] w fun ev w'=>ev = .returned (.tuple #[])∧WX False p rk w1 w w':=by
 obtain ⟨hks,hnm,hpn,⟨f,hN⟩,hlc,hln,hrow,_,_,_,_⟩:=ht
 obtain ⟨wE,hE⟩:∃ wE,wE=w.alloc (.cells #[.string ⟨#[110,111,110,108,111,99,97,108]⟩,.string nm,.slice pa pn pc,.slice la ln lc,.slice ba bn bc,.slice ea en ec] 52):=⟨_,rfl⟩
 have hWE:WX False p rk w1 w wE:=by rw [hE];exact (WX.start C).alloc _
 have hq:wE.heap[w.heap.size]?=some (.cells #[.string ⟨#[110,111,110,108,111,99,97,108]⟩,.string nm,.slice pa pn pc,.slice la ln lc,.slice ba bn bc,.slice ea en ec] 52):=by rw [hE];exact heap_alloc_new _ _
 have HE:=Z03 hE
 have HS:Hid (w.heap.size+1=wE.heap.size):=by show _=_;rw [hE];simp
 have hp:=C.lt
 have HK:Hid (∀ w',WX False p rk w1 wE w'→w'.cell? ⟨w.heap.size,0,none⟩=some (.string ⟨#[110,111,110,108,111,99,97,108]⟩)∧w'.cell? ⟨w.heap.size,1,none⟩=some (.string nm)∧w'.cell? ⟨w.heap.size,2,none⟩=some (.slice pa pn pc)∧w'.cell? ⟨w.heap.size,3,none⟩=some (.slice la ln lc)∧w'.cell? ⟨w.heap.size,4,none⟩=some (.slice ba bn bc)∧w'.cell? ⟨w.heap.size,5,none⟩=some (.slice ea en ec)):=fun w' h=>let e:=Z08 (h.block hq (by omega) (by decide));⟨e.1,e.2.1,e.2.2.1,e.2.2.2.1,e.2.2.2.2.1,e.2.2.2.2.2.1⟩
 have HCA:=Z03 hWE
 have HH:=Z03 H
 have HN:=Z03 hN
 have HR:=Z03 hrow
 have HS0:=Z03 (WX.start (P:=False) hWE.wt)
 clear C hE hWE hq H hN hrow  
 go_enter func55,ntmps55
 go_wp2_with fail
 rw [←HE.out,HS.out]
 refine (put2 HS0.out ⟨#[110,111,110,108,111,99,97,108]⟩ ⟨#[32]⟩ (by decide) (by decide)).mono ?_
 rintro ev v0 ⟨rfl,g0⟩
 have G0:=Z03 g0
 obtain ⟨x0,x1,x2,x3,x4,x5⟩:=HK.out v0 G0.out
 clear g0
 go_wp2_with fail
 refine (Zax pa pn pc f HN.out hpn _ G0.out.wt).mono ?_
 rintro ev v1 ⟨rfl,g1⟩
 have G1:=Z03 (G0.out.trans g1)
 clear x0 x1 x2 x3 x4 x5
 clear g1
 go_wp2_with fail
 go_end0
 exact ⟨rfl,HCA.out.trans G1.out⟩
set_option maxHeartbeats 4000000 in
set_option maxRecDepth 100000 in
theorem Zke {p:Nat}{rk:Value}{w1:World}{n k:Nat} (H:RW False p rk w1 k) {kd nm:ByteArray}{pa:Option Addr}{pn pc:Nat}{la:Option Addr}{ln lc:Nat}{ba:Option Addr}{bn bc:Nat}{ea:Option Addr}{en ec:Nat} (n0:(kd.toList == [101,120,112,114])=false) (n1:(kd.toList == [115,101,116])=false) (n2:(kd.toList == [112,117,116])=false) (n3:(kd.toList == [100,101,108])=false) (n4:(kd.toList == [114,97,105,115,101])=false) (n5:(kd.toList == [114,101,116,117,114,110])=false) (n6:(kd.toList == [98,114,101,97,107])=false) (n7:(kd.toList == [99,111,110,116,105,110,117,101])=false) (n8:(kd.toList == [112,97,115,115])=false) (n9:(kd.toList == [103,108,111,98,97,108])=false) (n10:(kd.toList == [110,111,110,108,111,99,97,108])=false) (ht:sv w1 p k (n+1) kd nm pa pn pc la ln lc ba bn bc ea en ec) (w:World) (C:WT p rk w1 w) :
  Calls prog 55 #[.pointer (some ⟨p,0,none⟩),.agg #[.string kd,.string nm,.slice pa pn pc,.slice la ln lc,.slice ba bn bc,.slice ea en ec]] w fun ev w'=>ev = .returned (.tuple #[])∧WX False p rk w1 w w':=by
 obtain ⟨hks,hnm,hpn,⟨f,hN⟩,hlc,hln,hrow,_,_,_,_⟩:=ht
 obtain ⟨wE,hE⟩:∃ wE,wE=w.alloc (.cells #[.string kd,.string nm,.slice pa pn pc,.slice la ln lc,.slice ba bn bc,.slice ea en ec] 52):=⟨_,rfl⟩
 have hWE:WX False p rk w1 w wE:=by rw [hE];exact (WX.start C).alloc _
 have hq:wE.heap[w.heap.size]?=some (.cells #[.string kd,.string nm,.slice pa pn pc,.slice la ln lc,.slice ba bn bc,.slice ea en ec] 52):=by rw [hE];exact heap_alloc_new _ _
 have HE:=Z03 hE
 have HS:Hid (w.heap.size+1=wE.heap.size):=by show _=_;rw [hE];simp
 have hp:=C.lt
 have HK:Hid (∀ w',WX False p rk w1 wE w'→w'.cell? ⟨w.heap.size,0,none⟩=some (.string kd)∧w'.cell? ⟨w.heap.size,1,none⟩=some (.string nm)∧w'.cell? ⟨w.heap.size,2,none⟩=some (.slice pa pn pc)∧w'.cell? ⟨w.heap.size,3,none⟩=some (.slice la ln lc)∧w'.cell? ⟨w.heap.size,4,none⟩=some (.slice ba bn bc)∧w'.cell? ⟨w.heap.size,5,none⟩=some (.slice ea en ec)):=fun w' h=>let e:=Z08 (h.block hq (by omega) (by decide));⟨e.1,e.2.1,e.2.2.1,e.2.2.2.1,e.2.2.2.2.1,e.2.2.2.2.2.1⟩
 have HCA:=Z03 hWE
 have HC:=Z03 C
 have HH:=Z03 H
 have HN:=Z03 hN
 have HR:=Z03 hrow
 obtain ⟨ta,tn,tc,tm,lost,_,c0,c1,c2,c3,cf⟩:=C.cells
 have f3:=cf 3
 clear cf
 have HS0:=Z03 (WX.start (P:=False) hWE.wt)
 clear C hE hWE hq H hN hrow  
 go_enter func55,ntmps55
 go_wp2_with fail
 go_end0
 exact ⟨rfl,((WX.start HC.out).lose true).alloc _⟩
end Go.Proofs.YtflcohidmemfpaaGreatDoor
