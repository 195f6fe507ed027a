/- Package tree's writer, whatever it is handed: statement, each kind. (Written by a program of ours: wrt/stmt.py.) -/
import Derived.Test.YtflcohidmemfpaaGreatDoorSsX
set_option linter.all false
namespace Go.Proofs.YtflcohidmemfpaaGreatDoor
open Go.Proofs.Tryz
open Go.RowKit Go.Lib

set_option maxHeartbeats 4000000 in
set_option maxRecDepth 100000 in
theorem Y04 {p:Nat}{rk:Value}{w1:World}{n k:Nat} (H:RW False p rk w1 k) (S:SW p rk w1 k n) (CC:CH p rk w1 k (n+1)) {nm:ByteArray}{pa:Option Addr}{pn pc:Nat}{la:Option Addr}{ln lc:Nat}{ba:Option Addr}{bn bc:Nat}{ea:Option Addr}{en ec:Nat} (ht:sv w1 p k (n+1) ⟨#[105,102]⟩ nm pa pn pc la ln lc ba bn bc ea en ec) (hl:1≤ln) (d:Int) (hd:I64 d) (w:World) (C:WT p rk w1 w) :
  Calls prog 37 #[.pointer (some ⟨p,0,none⟩),.agg #[.string ⟨#[105,102]⟩,.string nm,.slice pa pn pc,.slice la ln lc,.slice ba bn bc,.slice ea en ec],.int .i64 d] w fun ev w'=>ev = .returned (.tuple #[])∧WX False p rk w1 w w':=by
 obtain ⟨_,hnm,hpn,⟨f,hN⟩,_,hln,hrow,hbn,hen,hB,hEl⟩:=id ht
 obtain ⟨wE,hE⟩:∃ wE,wE=w.alloc (.cells #[.string ⟨#[105,102]⟩,.string nm,.slice pa pn pc,.slice la ln lc,.slice ba bn bc,.slice ea en ec] 52):=⟨_,rfl⟩
 have hWE:WX False p rk w1 w wE:=by rw [hE];exact (WX.start C).alloc _
 have hq:wE.heap[w.heap.size]?=some (.cells #[.string ⟨#[105,102]⟩,.string nm,.slice pa pn pc,.slice la ln lc,.slice ba bn bc,.slice ea en ec] 52):=by rw [hE];exact heap_alloc_new _ _
 have HE:=Z03 hE
 have hp:=C.lt
 have HK:Hid (∀ w',WX False p rk w1 wE w'→w'.cell? ⟨w.heap.size,0,none⟩=some (.string ⟨#[105,102]⟩)∧w'.cell? ⟨w.heap.size,1,none⟩=some (.string nm)∧w'.cell? ⟨w.heap.size,2,none⟩=some (.slice pa pn pc)∧w'.cell? ⟨w.heap.size,3,none⟩=some (.slice la ln lc)∧w'.cell? ⟨w.heap.size,4,none⟩=some (.slice ba bn bc)∧w'.cell? ⟨w.heap.size,5,none⟩=some (.slice ea en ec)):=fun w' h=>let e:=Z08 (h.block hq (by omega) (by decide));⟨e.1,e.2.1,e.2.2.1,e.2.2.2.1,e.2.2.2.2.1,e.2.2.2.2.2.1⟩
 have HCA:=Z03 hWE
 have HH:=Z03 H
 have HSS:=Z03 S
 have HCC:=Z03 CC
 have HT:=Z03 ht
 have HN:=Z03 hN
 have HBR:=Z03 hB
 have HER:=Z03 hEl
 have ht1:Z1b ⟨#[105,102]⟩=1:=by kernel_rfl
 have hL1:¬ (ln:Int)<1:=by omega
 clear C hE hWE hq H S CC ht hN hrow hB hEl
 go_enter func37,ntmps37
 go_wp2_with fail
 go_quiet ((go_at_call 50;exact Calls.quiet_of_same (Z2c _ _)))
 rw [←HE.out]
 obtain ⟨wD,hwD⟩:∃ wD,wD=wE.drewN nq:=⟨_,rfl⟩
 have GD:Hid (WX False p rk w1 wE wD):=by show WX _ _ _ _ _ _;rw [hwD];exact (WX.start HCA.out.wt).drewN
 rw [←hwD]
 obtain ⟨x0,x1,x2,x3,x4,x5⟩:=HK.out wD GD.out
 clear hwD
 go_wp2_with fail
 refine (HCC.out ⟨#[105,102,32]⟩ (by decide) _ _ _ _ _ _ _ _ _ _ _ _ _ _ HT.out d hd _ GD.out.wt).mono ?_
 rintro ev v0 ⟨rfl,g0⟩
 have G0:=Z03 (GD.out.trans g0)
 clear x0 x1 x2 x3 x4 x5
 clear g0
 go_wp2_with fail
 go_end0
 exact ⟨rfl,HCA.out.trans G0.out⟩
set_option maxHeartbeats 4000000 in
set_option maxRecDepth 100000 in
theorem Zp1 {p:Nat}{rk:Value}{w1:World}{n k:Nat} (H:RW False p rk w1 k) (S:SW p rk w1 k n) (CC:CH p rk w1 k (n+1)) {nm:ByteArray}{pa:Option Addr}{pn pc:Nat}{la:Option Addr}{ln lc:Nat}{ba:Option Addr}{bn bc:Nat}{ea:Option Addr}{en ec:Nat} (ht:sv w1 p k (n+1) ⟨#[119,104,105,108,101]⟩ nm pa pn pc la ln lc ba bn bc ea en ec) (hl:1≤ln) (d:Int) (hd:I64 d) (w:World) (C:WT p rk w1 w) :
  Calls prog 37 #[.pointer (some ⟨p,0,none⟩),.agg #[.string ⟨#[119,104,105,108,101]⟩,.string nm,.slice pa pn pc,.slice la ln lc,.slice ba bn bc,.slice ea en ec],.int .i64 d] w fun ev w'=>ev = .returned (.tuple #[])∧WX False p rk w1 w w':=by
 obtain ⟨_,hnm,hpn,⟨f,hN⟩,_,hln,hrow,hbn,hen,hB,hEl⟩:=id ht
 obtain ⟨b,o,rfl,hb,op0,z0,s0,pa0,pn0,pc0,la0,ln0,lc0,k0,k1,k2,k3,k4,ht0⟩:=hrow.first (by omega)
 have HT0:=Z03 ht0
 have hL:(0:Int)<(ln:Int):=by omega
 obtain ⟨wE,hE⟩:∃ wE,wE=w.alloc (.cells #[.string ⟨#[119,104,105,108,101]⟩,.string nm,.slice pa pn pc,.slice (some ⟨b,o,none⟩) ln lc,.slice ba bn bc,.slice ea en ec] 52):=⟨_,rfl⟩
 have hWE:WX False p rk w1 w wE:=by rw [hE];exact (WX.start C).alloc _
 have hq:wE.heap[w.heap.size]?=some (.cells #[.string ⟨#[119,104,105,108,101]⟩,.string nm,.slice pa pn pc,.slice (some ⟨b,o,none⟩) ln lc,.slice ba bn bc,.slice ea en ec] 52):=by rw [hE];exact heap_alloc_new _ _
 have HE:=Z03 hE
 have hp:=C.lt
 have HK:Hid (∀ w',WX False p rk w1 wE w'→w'.cell? ⟨w.heap.size,0,none⟩=some (.string ⟨#[119,104,105,108,101]⟩)∧w'.cell? ⟨w.heap.size,1,none⟩=some (.string nm)∧w'.cell? ⟨w.heap.size,2,none⟩=some (.slice pa pn pc)∧w'.cell? ⟨w.heap.size,3,none⟩=some (.slice (some ⟨b,o,none⟩) ln lc)∧w'.cell? ⟨w.heap.size,4,none⟩=some (.slice ba bn bc)∧w'.cell? ⟨w.heap.size,5,none⟩=some (.slice ea en ec)∧w'.cell? ⟨b,o,none⟩=some (.string op0)∧w'.cell? ⟨b,o+1,none⟩=some (.int .i64 z0)∧w'.cell? ⟨b,o+2,none⟩=some (.string s0)∧w'.cell? ⟨b,o+3,none⟩=some (.slice pa0 pn0 pc0)∧w'.cell? ⟨b,o+4,none⟩=some (.slice la0 ln0 lc0)):=fun w' h=>let e:=Z08 (h.block hq (by omega) (by decide));⟨e.1,e.2.1,e.2.2.1,e.2.2.2.1,e.2.2.2.2.1,e.2.2.2.2.2.1,h.wt.old (a:=⟨b,o,none⟩) hb k0,h.wt.old (a:=⟨b,o+1,none⟩) hb k1,h.wt.old (a:=⟨b,o+2,none⟩) hb k2,h.wt.old (a:=⟨b,o+3,none⟩) hb k3,h.wt.old (a:=⟨b,o+4,none⟩) hb k4⟩
 have HCA:=Z03 hWE
 have HH:=Z03 H
 have HSS:=Z03 S
 have HCC:=Z03 CC
 have HT:=Z03 ht
 have HN:=Z03 hN
 have HBR:=Z03 hB
 have HER:=Z03 hEl
 have ht1:Z1b ⟨#[119,104,105,108,101]⟩=1:=by kernel_rfl
 have hL1:¬ (ln:Int)<1:=by omega
 clear C hE hWE hq H S CC ht hN hrow hB hEl ht0 k0 k1 k2 k3 k4
 go_enter func37,ntmps37
 go_wp2_with fail
 go_quiet ((go_at_call 50;exact Calls.quiet_of_same (Z2c _ _)))
 rw [←HE.out]
 obtain ⟨wD,hwD⟩:∃ wD,wD=wE.drewN nq:=⟨_,rfl⟩
 have GD:Hid (WX False p rk w1 wE wD):=by show WX _ _ _ _ _ _;rw [hwD];exact (WX.start HCA.out.wt).drewN
 rw [←hwD]
 obtain ⟨x0,x1,x2,x3,x4,x5,y0,y1,y2,y3,y4⟩:=HK.out wD GD.out
 clear hwD
 go_wp2_with fail
 refine (Zig GD.out ⟨#[119,104,105,108,101,32]⟩ (by decide)).mono ?_
 rintro ev v0 ⟨rfl,g0⟩
 have G0:=Z03 g0
 clear x0 x1 x2 x3 x4 x5 y0 y1 y2 y3 y4
 obtain ⟨x0,x1,x2,x3,x4,x5,y0,y1,y2,y3,y4⟩:=HK.out v0 G0.out
 clear g0
 go_wp2_with fail
 refine (Z43 HH.out HT0.out _ G0.out.wt).mono ?_
 rintro ev v1 ⟨rfl,g1⟩
 have G1:=Z03 (G0.out.trans g1)
 clear x0 x1 x2 x3 x4 x5 y0 y1 y2 y3 y4
 obtain ⟨x0,x1,x2,x3,x4,x5,y0,y1,y2,y3,y4⟩:=HK.out v1 G1.out
 clear g1
 go_wp2_with fail
 refine (Z6g HSS.out ba bn bc HBR.out hbn d hd _ G1.out.wt).mono ?_
 rintro ev v2 ⟨rfl,g2⟩
 have G2:=Z03 (G1.out.trans g2)
 clear x0 x1 x2 x3 x4 x5 y0 y1 y2 y3 y4
 clear g2
 go_wp2_with fail
 go_end0
 exact ⟨rfl,HCA.out.trans G2.out⟩
set_option maxHeartbeats 4000000 in
set_option maxRecDepth 100000 in
theorem Zx5 {p:Nat}{rk:Value}{w1:World}{n k:Nat} (H:RW False p rk w1 k) (S:SW p rk w1 k n) (CC:CH p rk w1 k (n+1)) {nm:ByteArray}{pa:Option Addr}{pn pc:Nat}{la:Option Addr}{ln lc:Nat}{ba:Option Addr}{bn bc:Nat}{ea:Option Addr}{en ec:Nat} (ht:sv w1 p k (n+1) ⟨#[102,111,114]⟩ nm pa pn pc la ln lc ba bn bc ea en ec) (hl:1≤ln) (d:Int) (hd:I64 d) (w:World) (C:WT p rk w1 w) :
  Calls prog 37 #[.pointer (some ⟨p,0,none⟩),.agg #[.string ⟨#[102,111,114]⟩,.string nm,.slice pa pn pc,.slice la ln lc,.slice ba bn bc,.slice ea en ec],.int .i64 d] w fun ev w'=>ev = .returned (.tuple #[])∧WX False p rk w1 w w':=by
 obtain ⟨_,hnm,hpn,⟨f,hN⟩,_,hln,hrow,hbn,hen,hB,hEl⟩:=id ht
 obtain ⟨b,o,rfl,hb,op0,z0,s0,pa0,pn0,pc0,la0,ln0,lc0,k0,k1,k2,k3,k4,ht0⟩:=hrow.first (by omega)
 have HT0:=Z03 ht0
 have hL:(0:Int)<(ln:Int):=by omega
 obtain ⟨wE,hE⟩:∃ wE,wE=w.alloc (.cells #[.string ⟨#[102,111,114]⟩,.string nm,.slice pa pn pc,.slice (some ⟨b,o,none⟩) ln lc,.slice ba bn bc,.slice ea en ec] 52):=⟨_,rfl⟩
 have hWE:WX False p rk w1 w wE:=by rw [hE];exact (WX.start C).alloc _
 have hq:wE.heap[w.heap.size]?=some (.cells #[.string ⟨#[102,111,114]⟩,.string nm,.slice pa pn pc,.slice (some ⟨b,o,none⟩) ln lc,.slice ba bn bc,.slice ea en ec] 52):=by rw [hE];exact heap_alloc_new _ _
 have HE:=Z03 hE
 have hp:=C.lt
 have HK:Hid (∀ w',WX False p rk w1 wE w'→w'.cell? ⟨w.heap.size,0,none⟩=some (.string ⟨#[102,111,114]⟩)∧w'.cell? ⟨w.heap.size,1,none⟩=some (.string nm)∧w'.cell? ⟨w.heap.size,2,none⟩=some (.slice pa pn pc)∧w'.cell? ⟨w.heap.size,3,none⟩=some (.slice (some ⟨b,o,none⟩) ln lc)∧w'.cell? ⟨w.heap.size,4,none⟩=some (.slice ba bn bc)∧w'.cell? ⟨w.heap.size,5,none⟩=some (.slice ea en ec)∧w'.cell? ⟨b,o,none⟩=some (.string op0)∧w'.cell? ⟨b,o+1,none⟩=some (.int .i64 z0)∧w'.cell? ⟨b,o+2,none⟩=some (.string s0)∧w'.cell? ⟨b,o+3,none⟩=some (.slice pa0 pn0 pc0)∧w'.cell? ⟨b,o+4,none⟩=some (.slice la0 ln0 lc0)):=fun w' h=>let e:=Z08 (h.block hq (by omega) (by decide));⟨e.1,e.2.1,e.2.2.1,e.2.2.2.1,e.2.2.2.2.1,e.2.2.2.2.2.1,h.wt.old (a:=⟨b,o,none⟩) hb k0,h.wt.old (a:=⟨b,o+1,none⟩) hb k1,h.wt.old (a:=⟨b,o+2,none⟩) hb k2,h.wt.old (a:=⟨b,o+3,none⟩) hb k3,h.wt.old (a:=⟨b,o+4,none⟩) hb k4⟩
 have HCA:=Z03 hWE
 have HH:=Z03 H
 have HSS:=Z03 S
 have HCC:=Z03 CC
 have HT:=Z03 ht
 have HN:=Z03 hN
 have HBR:=Z03 hB
 have HER:=Z03 hEl
 have ht1:Z1b ⟨#[102,111,114]⟩=1:=by kernel_rfl
 have hL1:¬ (ln:Int)<1:=by omega
 clear C hE hWE hq H S CC ht hN hrow hB hEl ht0 k0 k1 k2 k3 k4
 go_enter func37,ntmps37
 go_wp2_with fail
 go_quiet ((go_at_call 50;exact Calls.quiet_of_same (Z2c _ _)))
 rw [←HE.out]
 obtain ⟨wD,hwD⟩:∃ wD,wD=wE.drewN nq:=⟨_,rfl⟩
 have GD:Hid (WX False p rk w1 wE wD):=by show WX _ _ _ _ _ _;rw [hwD];exact (WX.start HCA.out.wt).drewN
 rw [←hwD]
 obtain ⟨x0,x1,x2,x3,x4,x5,y0,y1,y2,y3,y4⟩:=HK.out wD GD.out
 clear hwD
 go_wp2_with fail
 refine (put3 GD.out ⟨#[102,111,114,32]⟩ nm ⟨#[32,105,110,32]⟩ (by decide) hnm (by decide)).mono ?_
 rintro ev v0 ⟨rfl,g0⟩
 have G0:=Z03 g0
 clear x0 x1 x2 x3 x4 x5 y0 y1 y2 y3 y4
 obtain ⟨x0,x1,x2,x3,x4,x5,y0,y1,y2,y3,y4⟩:=HK.out v0 G0.out
 clear g0
 go_wp2_with fail
 refine (Z43 HH.out HT0.out _ G0.out.wt).mono ?_
 rintro ev v1 ⟨rfl,g1⟩
 have G1:=Z03 (G0.out.trans g1)
 clear x0 x1 x2 x3 x4 x5 y0 y1 y2 y3 y4
 obtain ⟨x0,x1,x2,x3,x4,x5,y0,y1,y2,y3,y4⟩:=HK.out v1 G1.out
 clear g1
 go_wp2_with fail
 refine (Z6g HSS.out ba bn bc HBR.out hbn d hd _ G1.out.wt).mono ?_
 rintro ev v2 ⟨rfl,g2⟩
 have G2:=Z03 (G1.out.trans g2)
 clear x0 x1 x2 x3 x4 x5 y0 y1 y2 y3 y4
 clear g2
 go_wp2_with fail
 go_end0
 exact ⟨rfl,HCA.out.trans G2.out⟩
set_option maxHeartbeats 4000000 in
set_option maxRecDepth 100000 in
theorem Zy6 {p:Nat}{rk:Value}{w1:World}{n k:Nat} (H:RW False p rk w1 k) (S:SW p rk w1 k n) (CC:CH p rk w1 k (n+1)) {nm:ByteArray}{pa:Option Addr}{pn pc:Nat}{la:Option Addr}{ln lc:Nat}{ba:Option Addr}{bn bc:Nat}{ea:Option Addr}{en ec:Nat} (ht:sv w1 p k (n+1) ⟨#[100,101,102]⟩ nm pa pn pc la ln lc ba bn bc ea en ec) (hl:0≤ln) (d:Int) (hd:I64 d) (w:World) (C:WT p rk w1 w) :
  Calls prog 37 #[.pointer (some ⟨p,0,none⟩),.agg #[.string ⟨#[100,101,102]⟩,.string nm,.slice pa pn pc,.slice la ln lc,.slice ba bn bc,.slice ea en ec],.int .i64 d] w fun ev w'=>ev = .returned (.tuple #[])∧WX False p rk w1 w w':=by
 obtain ⟨_,hnm,hpn,⟨f,hN⟩,_,hln,hrow,hbn,hen,hB,hEl⟩:=id ht
 obtain ⟨wE,hE⟩:∃ wE,wE=w.alloc (.cells #[.string ⟨#[100,101,102]⟩,.string nm,.slice pa pn pc,.slice la ln lc,.slice ba bn bc,.slice ea en ec] 52):=⟨_,rfl⟩
 have hWE:WX False p rk w1 w wE:=by rw [hE];exact (WX.start C).alloc _
 have hq:wE.heap[w.heap.size]?=some (.cells #[.string ⟨#[100,101,102]⟩,.string nm,.slice pa pn pc,.slice la ln lc,.slice ba bn bc,.slice ea en ec] 52):=by rw [hE];exact heap_alloc_new _ _
 have HE:=Z03 hE
 have hp:=C.lt
 have HK:Hid (∀ w',WX False p rk w1 wE w'→w'.cell? ⟨w.heap.size,0,none⟩=some (.string ⟨#[100,101,102]⟩)∧w'.cell? ⟨w.heap.size,1,none⟩=some (.string nm)∧w'.cell? ⟨w.heap.size,2,none⟩=some (.slice pa pn pc)∧w'.cell? ⟨w.heap.size,3,none⟩=some (.slice la ln lc)∧w'.cell? ⟨w.heap.size,4,none⟩=some (.slice ba bn bc)∧w'.cell? ⟨w.heap.size,5,none⟩=some (.slice ea en ec)):=fun w' h=>let e:=Z08 (h.block hq (by omega) (by decide));⟨e.1,e.2.1,e.2.2.1,e.2.2.2.1,e.2.2.2.2.1,e.2.2.2.2.2.1⟩
 have HCA:=Z03 hWE
 have HH:=Z03 H
 have HSS:=Z03 S
 have HCC:=Z03 CC
 have HT:=Z03 ht
 have HN:=Z03 hN
 have HBR:=Z03 hB
 have HER:=Z03 hEl
 have ht1:Z1b ⟨#[100,101,102]⟩=0:=by kernel_rfl
 have hL1:¬ (ln:Int)<0:=by omega
 clear C hE hWE hq H S CC ht hN hrow hB hEl
 go_enter func37,ntmps37
 go_wp2_with fail
 go_quiet ((go_at_call 50;exact Calls.quiet_of_same (Z2c _ _)))
 rw [←HE.out]
 obtain ⟨wD,hwD⟩:∃ wD,wD=wE.drewN nq:=⟨_,rfl⟩
 have GD:Hid (WX False p rk w1 wE wD):=by show WX _ _ _ _ _ _;rw [hwD];exact (WX.start HCA.out.wt).drewN
 rw [←hwD]
 obtain ⟨x0,x1,x2,x3,x4,x5⟩:=HK.out wD GD.out
 clear hwD
 go_wp2_with fail
 refine (put3 GD.out ⟨#[100,101,102,32]⟩ nm ⟨#[40]⟩ (by decide) hnm (by decide)).mono ?_
 rintro ev v0 ⟨rfl,g0⟩
 have G0:=Z03 g0
 clear x0 x1 x2 x3 x4 x5
 obtain ⟨x0,x1,x2,x3,x4,x5⟩:=HK.out v0 G0.out
 clear g0
 go_wp2_with fail
 refine (Zax pa pn pc f HN.out hpn _ G0.out.wt).mono ?_
 rintro ev v1 ⟨rfl,g1⟩
 have G1:=Z03 (G0.out.trans g1)
 clear x0 x1 x2 x3 x4 x5
 obtain ⟨x0,x1,x2,x3,x4,x5⟩:=HK.out v1 G1.out
 clear g1
 go_wp2_with fail
 refine (Zig G1.out ⟨#[41]⟩ (by decide)).mono ?_
 rintro ev v2 ⟨rfl,g2⟩
 have G2:=Z03 g2
 clear x0 x1 x2 x3 x4 x5
 obtain ⟨x0,x1,x2,x3,x4,x5⟩:=HK.out v2 G2.out
 clear g2
 go_wp2_with fail
 refine (Z6g HSS.out ba bn bc HBR.out hbn d hd _ G2.out.wt).mono ?_
 rintro ev v3 ⟨rfl,g3⟩
 have G3:=Z03 (G2.out.trans g3)
 clear x0 x1 x2 x3 x4 x5
 clear g3
 go_wp2_with fail
 go_end0
 exact ⟨rfl,HCA.out.trans G3.out⟩
set_option maxHeartbeats 4000000 in
set_option maxRecDepth 100000 in
theorem Zyb {p:Nat}{rk:Value}{w1:World}{n k:Nat} (H:RW False p rk w1 k) (S:SW p rk w1 k n) (CC:CH p rk w1 k (n+1)) {nm:ByteArray}{pa:Option Addr}{pn pc:Nat}{la:Option Addr}{ln lc:Nat}{ba:Option Addr}{bn bc:Nat}{ea:Option Addr}{en ec:Nat} (ht:sv w1 p k (n+1) ⟨#[116,114,121]⟩ nm pa pn pc la ln lc ba bn bc ea en ec) (hl:0≤ln) (d:Int) (hd:I64 d) (w:World) (C:WT p rk w1 w) :
  Calls prog 37 #[.pointer (some ⟨p,0,none⟩),.agg #[.string ⟨#[116,114,121]⟩,.string nm,.slice pa pn pc,.slice la ln lc,.slice ba bn bc,.slice ea en ec],.int .i64 d] w fun ev w'=>ev = .returned (.tuple #[])∧WX False p rk w1 w w':=by
 obtain ⟨_,hnm,hpn,⟨f,hN⟩,_,hln,hrow,hbn,hen,hB,hEl⟩:=id ht
 obtain ⟨wE,hE⟩:∃ wE,wE=w.alloc (.cells #[.string ⟨#[116,114,121]⟩,.string nm,.slice pa pn pc,.slice la ln lc,.slice ba bn bc,.slice ea en ec] 52):=⟨_,rfl⟩
 have hWE:WX False p rk w1 w wE:=by rw [hE];exact (WX.start C).alloc _
 have hq:wE.heap[w.heap.size]?=some (.cells #[.string ⟨#[116,114,121]⟩,.string nm,.slice pa pn pc,.slice la ln lc,.slice ba bn bc,.slice ea en ec] 52):=by rw [hE];exact heap_alloc_new _ _
 have HE:=Z03 hE
 have hp:=C.lt
 have HK:Hid (∀ w',WX False p rk w1 wE w'→w'.cell? ⟨w.heap.size,0,none⟩=some (.string ⟨#[116,114,121]⟩)∧w'.cell? ⟨w.heap.size,1,none⟩=some (.string nm)∧w'.cell? ⟨w.heap.size,2,none⟩=some (.slice pa pn pc)∧w'.cell? ⟨w.heap.size,3,none⟩=some (.slice la ln lc)∧w'.cell? ⟨w.heap.size,4,none⟩=some (.slice ba bn bc)∧w'.cell? ⟨w.heap.size,5,none⟩=some (.slice ea en ec)):=fun w' h=>let e:=Z08 (h.block hq (by omega) (by decide));⟨e.1,e.2.1,e.2.2.1,e.2.2.2.1,e.2.2.2.2.1,e.2.2.2.2.2.1⟩
 have HCA:=Z03 hWE
 have HH:=Z03 H
 have HSS:=Z03 S
 have HCC:=Z03 CC
 have HT:=Z03 ht
 have HN:=Z03 hN
 have HBR:=Z03 hB
 have HER:=Z03 hEl
 have ht1:Z1b ⟨#[116,114,121]⟩=0:=by kernel_rfl
 have hL1:¬ (ln:Int)<0:=by omega
 clear C hE hWE hq H S CC ht hN hrow hB hEl
 go_enter func37,ntmps37
 go_wp2_with fail
 go_quiet ((go_at_call 50;exact Calls.quiet_of_same (Z2c _ _)))
 rw [←HE.out]
 obtain ⟨wD,hwD⟩:∃ wD,wD=wE.drewN nq:=⟨_,rfl⟩
 have GD:Hid (WX False p rk w1 wE wD):=by show WX _ _ _ _ _ _;rw [hwD];exact (WX.start HCA.out.wt).drewN
 rw [←hwD]
 obtain ⟨x0,x1,x2,x3,x4,x5⟩:=HK.out wD GD.out
 clear hwD
 go_wp2_with fail
 refine (Zig GD.out ⟨#[116,114,121]⟩ (by decide)).mono ?_
 rintro ev v0 ⟨rfl,g0⟩
 have G0:=Z03 g0
 clear x0 x1 x2 x3 x4 x5
 obtain ⟨x0,x1,x2,x3,x4,x5⟩:=HK.out v0 G0.out
 clear g0
 go_wp2_with fail
 refine (Z6g HSS.out ba bn bc HBR.out hbn d hd _ G0.out.wt).mono ?_
 rintro ev v1 ⟨rfl,g1⟩
 have G1:=Z03 (G0.out.trans g1)
 clear x0 x1 x2 x3 x4 x5
 obtain ⟨x0,x1,x2,x3,x4,x5⟩:=HK.out v1 G1.out
 clear g1
 go_wp2_with fail
 refine (Zd5 (P:=False) d hd _ G1.out.wt).mono ?_
 rintro ev v2 ⟨rfl,g2⟩
 have G2:=Z03 (G1.out.trans g2)
 clear x0 x1 x2 x3 x4 x5
 obtain ⟨x0,x1,x2,x3,x4,x5⟩:=HK.out v2 G2.out
 clear g2
 go_wp2_with fail
 refine (put2 G2.out ⟨#[101,120,99,101,112,116,32]⟩ nm (by decide) hnm).mono ?_
 rintro ev v3 ⟨rfl,g3⟩
 have G3:=Z03 g3
 clear x0 x1 x2 x3 x4 x5
 obtain ⟨x0,x1,x2,x3,x4,x5⟩:=HK.out v3 G3.out
 clear g3
 go_wp2_with fail
 refine (Z6g HSS.out ea en ec HER.out hen d hd _ G3.out.wt).mono ?_
 rintro ev v4 ⟨rfl,g4⟩
 have G4:=Z03 (G3.out.trans g4)
 clear x0 x1 x2 x3 x4 x5
 clear g4
 go_wp2_with fail
 go_end0
 exact ⟨rfl,HCA.out.trans G4.out⟩
set_option maxHeartbeats 4000000 in
set_option maxRecDepth 100000 in
theorem Zsm {p:Nat}{rk:Value}{w1:World}{n k:Nat} (H:RW False p rk w1 k) (S:SW p rk w1 k n) (CC:CH p rk w1 k (n+1)) {kd nm:ByteArray}{pa:Option Addr}{pn pc:Nat}{la:Option Addr}{ln lc:Nat}{ba:Option Addr}{bn bc:Nat}{ea:Option Addr}{en ec:Nat} (n0:(kd.toList == [105,102])=false) (n1:(kd.toList == [119,104,105,108,101])=false) (n2:(kd.toList == [102,111,114])=false) (n3:(kd.toList == [100,101,102])=false) (n4:(kd.toList == [116,114,121])=false) (ht:sv w1 p k (n+1) kd nm pa pn pc la ln lc ba bn bc ea en ec) (hl:Z1b kd≤ln) (d:Int) (_:I64 d) (w:World) (C:WT p rk w1 w) :
  Calls prog 37 #[.pointer (some ⟨p,0,none⟩),.agg #[.string kd,.string nm,.slice pa pn pc,.slice la ln lc,.slice ba bn bc,.slice ea en ec],.int .i64 d] w fun ev w'=>ev = .returned (.tuple #[])∧WX False p rk w1 w w':=by
 obtain ⟨_,hnm,hpn,⟨f,hN⟩,_,hln,hrow,hbn,hen,hB,hEl⟩:=id ht
 obtain ⟨wE,hE⟩:∃ wE,wE=w.alloc (.cells #[.string kd,.string nm,.slice pa pn pc,.slice la ln lc,.slice ba bn bc,.slice ea en ec] 52):=⟨_,rfl⟩
 have hWE:WX False p rk w1 w wE:=by rw [hE];exact (WX.start C).alloc _
 have hq:wE.heap[w.heap.size]?=some (.cells #[.string kd,.string nm,.slice pa pn pc,.slice la ln lc,.slice ba bn bc,.slice ea en ec] 52):=by rw [hE];exact heap_alloc_new _ _
 have HE:=Z03 hE
 have hp:=C.lt
 have HK:Hid (∀ w',WX False p rk w1 wE w'→w'.cell? ⟨w.heap.size,0,none⟩=some (.string kd)∧w'.cell? ⟨w.heap.size,1,none⟩=some (.string nm)∧w'.cell? ⟨w.heap.size,2,none⟩=some (.slice pa pn pc)∧w'.cell? ⟨w.heap.size,3,none⟩=some (.slice la ln lc)∧w'.cell? ⟨w.heap.size,4,none⟩=some (.slice ba bn bc)∧w'.cell? ⟨w.heap.size,5,none⟩=some (.slice ea en ec)):=fun w' h=>let e:=Z08 (h.block hq (by omega) (by decide));⟨e.1,e.2.1,e.2.2.1,e.2.2.2.1,e.2.2.2.2.1,e.2.2.2.2.2.1⟩
 have HCA:=Z03 hWE
 have HH:=Z03 H
 have HSS:=Z03 S
 have HCC:=Z03 CC
 have HT:=Z03 ht
 have HN:=Z03 hN
 have HBR:=Z03 hB
 have HER:=Z03 hEl
 have hL1:¬ (ln:Int)<(Z1b kd:Int):=by omega
 clear C hE hWE hq H S CC ht hN hrow hB hEl
 go_enter func37,ntmps37
 go_wp2_with fail
 go_quiet ((go_at_call 50;exact Calls.quiet_of_same (Z2c _ _)))
 rw [←HE.out]
 obtain ⟨wD,hwD⟩:∃ wD,wD=wE.drewN nq:=⟨_,rfl⟩
 have GD:Hid (WX False p rk w1 wE wD):=by show WX _ _ _ _ _ _;rw [hwD];exact (WX.start HCA.out.wt).drewN
 rw [←hwD]
 obtain ⟨x0,x1,x2,x3,x4,x5⟩:=HK.out wD GD.out
 clear hwD
 go_wp2_with fail
 refine (Zx7 HH.out HT.out hl _ GD.out.wt).mono ?_
 rintro ev v0 ⟨rfl,g0⟩
 have G0:=Z03 (GD.out.trans g0)
 clear x0 x1 x2 x3 x4 x5
 obtain ⟨x0,x1,x2,x3,x4,x5⟩:=HK.out v0 G0.out
 clear g0
 go_wp2_with fail
 refine (Zig G0.out ⟨#[10]⟩ (by decide)).mono ?_
 rintro ev v1 ⟨rfl,g1⟩
 have G1:=Z03 g1
 clear x0 x1 x2 x3 x4 x5
 clear g1
 go_wp2_with fail
 go_end0
 exact ⟨rfl,HCA.out.trans G1.out⟩
end Go.Proofs.YtflcohidmemfpaaGreatDoor
namespace Go.Proofs.YtflcohidmemfpaaGreatDoor
open Go.Proofs.Tryz
open Go.RowKit Go.Lib

set_option maxHeartbeats 4000000 in
set_option maxRecDepth 100000 in
theorem Zzn {p:Nat}{rk:Value}{w1:World}{kd nm:ByteArray}{pa:Option Addr}{pn pc:Nat}{la:Option Addr}{ln lc:Nat}{ba:Option Addr}{bn bc:Nat}{ea:Option Addr}{en ec:Nat} (hl:(ln:Int)<(Z1b kd:Int)) (d:Int) (w:World) (C:WT p rk w1 w) :
  Calls prog 37 #[.pointer (some ⟨p,0,none⟩),.agg #[.string kd,.string nm,.slice pa pn pc,.slice la ln lc,.slice ba bn bc,.slice ea en ec],.int .i64 d] w fun ev w'=>ev = .returned (.tuple #[])∧WX False p rk w1 w w':=by
 obtain ⟨wE,hE⟩:∃ wE,wE=w.alloc (.cells #[.string kd,.string nm,.slice pa pn pc,.slice la ln lc,.slice ba bn bc,.slice ea en ec] 52):=⟨_,rfl⟩
 have hWE:WX False p rk w1 w wE:=by rw [hE];exact (WX.start C).alloc _
 have HE:=Z03 hE
 have HCA:=Z03 hWE
 clear C hE hWE
 go_enter func37,ntmps37
 go_wp2_with fail
 go_quiet ((go_at_call 50;exact Calls.quiet_of_same (Z2c _ _)))
 rw [←HE.out]
 obtain ⟨wD,hwD⟩:∃ wD,wD=wE.drewN nq:=⟨_,rfl⟩
 have HD:Hid (WX False p rk w1 w wD):=by show WX _ _ _ _ _ _;rw [hwD];exact HCA.out.drewN
 rw [←hwD]
 obtain ⟨ta,tn,tc,tm,lost,_,d0,d1,d2,d3,df⟩:=HD.out.wt.cells
 have df3:=df 3
 have HL:=Z03 (HD.out.lose true)
 clear df hwD
 go_wp2_with fail
 refine bodyPost_ret (results_none rfl _ _ _) rfl ?_
 exact ⟨rfl,HL.out⟩
theorem st_wt {p:Nat}{rk:Value}{w1:World}{n k:Nat} (H:RW False p rk w1 k) (S:SW p rk w1 k n) (CC:CH p rk w1 k (n+1)) {kd nm:ByteArray}{pa:Option Addr}{pn pc:Nat}{la:Option Addr}{ln lc:Nat}{ba:Option Addr}{bn bc:Nat}{ea:Option Addr}{en ec:Nat} (ht:sv w1 p k (n+1) kd nm pa pn pc la ln lc ba bn bc ea en ec) (d:Int) (hd:I64 d) (w:World) (C:WT p rk w1 w) :
  Calls prog 37 #[.pointer (some ⟨p,0,none⟩),.agg #[.string kd,.string nm,.slice pa pn pc,.slice la ln lc,.slice ba bn bc,.slice ea en ec],.int .i64 d] w fun ev w'=>ev = .returned (.tuple #[])∧WX False p rk w1 w w':=by
 by_cases hl0:(ln:Int)<(Z1b kd:Int)
 ·exact Zzn hl0 d w C
 have hl:Z1b kd≤ln:=by omega
 by_cases n0:(kd.toList == [105,102])=true
 ·obtain rfl:=Z0x (beq_iff_eq.1 n0)
  have e:Z1b ⟨#[105,102]⟩=1:=by kernel_rfl
  exact Y04 H S CC ht (by omega) d hd w C
 rw [Bool.not_eq_true] at n0
 by_cases n1:(kd.toList == [119,104,105,108,101])=true
 ·obtain rfl:=Z0x (beq_iff_eq.1 n1)
  have e:Z1b ⟨#[119,104,105,108,101]⟩=1:=by kernel_rfl
  exact Zp1 H S CC ht (by omega) d hd w C
 rw [Bool.not_eq_true] at n1
 by_cases n2:(kd.toList == [102,111,114])=true
 ·obtain rfl:=Z0x (beq_iff_eq.1 n2)
  have e:Z1b ⟨#[102,111,114]⟩=1:=by kernel_rfl
  exact Zx5 H S CC ht (by omega) d hd w C
 rw [Bool.not_eq_true] at n2
 by_cases n3:(kd.toList == [100,101,102])=true
 ·obtain rfl:=Z0x (beq_iff_eq.1 n3)
  have e:Z1b ⟨#[100,101,102]⟩=0:=by kernel_rfl
  exact Zy6 H S CC ht (by omega) d hd w C
 rw [Bool.not_eq_true] at n3
 by_cases n4:(kd.toList == [116,114,121])=true
 ·obtain rfl:=Z0x (beq_iff_eq.1 n4)
  have e:Z1b ⟨#[116,114,121]⟩=0:=by kernel_rfl
  exact Zyb H S CC ht (by omega) d hd w C
 rw [Bool.not_eq_true] at n4
 exact Zsm H S CC n0 n1 n2 n3 n4 ht hl d hd w C
set_option maxHeartbeats 4000000 in
set_option maxRecDepth 100000 in
theorem Zt1 {p:Nat}{rk:Value}{w1:World}{n k:Nat} (H:RW False p rk w1 k) (S:SW p rk w1 k n) (CC:CH p rk w1 k (n+1)):SW p rk w1 k (n+1):=by
 intro a m c h hm d hd w C
 have HC:=Z03 C
 have HR:=Z03 h
 have HST:=Z03 (fun (kd nm:ByteArray) (pa:Option Addr) (pn pc:Nat) (la:Option Addr) (ln lc:Nat) (ba:Option Addr) (bn bc:Nat) (ea:Option Addr) (en ec:Nat) (ht:sv w1 p k (n+1) kd nm pa pn pc la ln lc ba bn bc ea en ec) (w:World) (C:WT p rk w1 w)=>st_wt H S CC ht d hd w C)
 clear C h H S CC
 go_enter func24,ntmps24
 go_wp2_with fail
 go_loopg [10] (m+1) (fun gk v10 wr => ∃ i:Nat,gk=m+1 - i∧i≤m∧v10 = .int .i64 (i:Int)∧WX False p rk w1 w wr)
 case atStart=>exact ⟨0,rfl,Nat.zero_le _,rfl,.start HC.out⟩
 case round =>
  obtain ⟨i,hgk,hi,rfl,hC⟩:=hrel
  have HG:=Z03 hgk
  have HCR:=Z03 hC
  by_cases hlt:i<m
  ·have hI:(i:Int)<(m:Int):=by omega
   have hI0:(0:Int)≤(i:Int):=by omega
   obtain ⟨b,o,rfl,hb,kd,nm,pa,pn,pc,la,ln,lc,ba,bn,bc,ea,en,ec,k0,k1,k2,k3,k4,k5,ht⟩:=HR.out i hlt
   have HT:=Z03 ht
   have y0:=hC.wt.old (a:=⟨b,o+i*6,none⟩) hb k0
   have y1:=hC.wt.old (a:=⟨b,o+i*6+1,none⟩) hb k1
   have y2:=hC.wt.old (a:=⟨b,o+i*6+2,none⟩) hb k2
   have y3:=hC.wt.old (a:=⟨b,o+i*6+3,none⟩) hb k3
   have y4:=hC.wt.old (a:=⟨b,o+i*6+4,none⟩) hb k4
   have y5:=hC.wt.old (a:=⟨b,o+i*6+5,none⟩) hb k5
   obtain ⟨ta,tn,tc,tm,lost,_,c0,c1,c2,c3,cf⟩:=hC.wt.cells
   have hbl:=Z02 y0
   have hpl:=hC.wt.lt
   obtain ⟨wE,hE⟩:∃ wE,wE=wr.alloc (.cells #[.string kd,.string nm,.slice pa pn pc,.slice la ln lc,.slice ba bn bc,.slice ea en ec] 52):=⟨_,rfl⟩
   have hWE:WX False p rk w1 w wE:=by rw [hE];exact hC.alloc _
   have hq:wE.heap[wr.heap.size]?=some (.cells #[.string kd,.string nm,.slice pa pn pc,.slice la ln lc,.slice ba bn bc,.slice ea en ec] 52):=by rw [hE];exact heap_alloc_new _ _
   have HK:Hid (∀ w',WX False p rk w1 wE w'→w'.cell? ⟨wr.heap.size,0,none⟩=some (.string kd)∧w'.cell? ⟨wr.heap.size,1,none⟩=some (.string nm)∧w'.cell? ⟨wr.heap.size,2,none⟩=some (.slice pa pn pc)∧w'.cell? ⟨wr.heap.size,3,none⟩=some (.slice la ln lc)∧w'.cell? ⟨wr.heap.size,4,none⟩=some (.slice ba bn bc)∧w'.cell? ⟨wr.heap.size,5,none⟩=some (.slice ea en ec)):=fun w' h=>let e:=Z08 (h.block hq (by omega) (by decide));⟨e.1,e.2.1,e.2.2.1,e.2.2.2.1,e.2.2.2.2.1,e.2.2.2.2.2.1⟩
   have HE:=Z03 hE
   have HWE:=Z03 hWE
   clear hgk hC cf k0 k1 k2 k3 k4 k5 ht hE hWE hq
   cases lost with
   | true =>
    go_wp2_with fail
    rw [←HE.out]
    refine bodyPost_ret (results_none rfl _ _ _) rfl ?_
    exact ⟨rfl,HWE.out⟩
   | false =>
    go_wp2_with fail
    rw [←HE.out]
    refine (Zd5 (P:=False) d hd _ HWE.out.wt).mono ?_
    rintro ev v1 ⟨rfl,g1⟩
    have G1:=Z03 g1
    clear y0 y1 y2 y3 y4 y5 c0 c1 c2 c3
    obtain ⟨x0,x1,x2,x3,x4,x5⟩:=HK.out v1 g1
    clear g1
    go_wp2_with fail
    refine (HST.out _ _ _ _ _ _ _ _ _ _ _ _ _ _ HT.out v1 G1.out.wt).mono ?_
    rintro ev v2 ⟨rfl,g2⟩
    have G2:=Z03 (HWE.out.trans (G1.out.trans g2))
    clear g2 x0 x1 x2 x3 x4 x5
    go_wp2_with fail
    go_roundg (m+1 - (i+1))
    case measure=>have:=HG.out;omega
    case rel=>exact ⟨i+1,rfl,by omega,by go_num,G2.out⟩
  ·obtain rfl:i=m:=by omega
   clear hgk hC
   go_wp2_with fail
   go_end0
   exact ⟨rfl,HCR.out⟩
set_option maxHeartbeats 4000000 in
set_option maxRecDepth 100000 in
theorem Zt7 {p:Nat}{rk:Value}{w1:World}{k:Nat} : SW p rk w1 k 0:=by
 intro a m c h _ d _ w C
 have hm:m=0:=by
  by_cases h0:0<m
  ·obtain ⟨_,_,_,_,_,_,_,_,_,_,_,_,_,_,_,_,_,_,_,_,_,_,_,_,hx⟩:=h 0 h0
   exact hx.elim
  ·omega
 subst hm
 have HC:=Z03 (WX.start (P:=False) C)
 clear C h
 go_enter func24,ntmps24
 go_wp2_with fail
 refine wp_loop_rounds 1 ?_
 rw [rounds_succ]
 go_wp2
 go_end0
 exact ⟨rfl,HC.out⟩
theorem Zs9 {p:Nat}{rk:Value}{w1:World}{k:Nat} (H:RW False p rk w1 k):∀ n,SW p rk w1 k n∧CH p rk w1 k n
 | 0=>⟨Zt7,fun _ _ _ _ _ _ _ _ _ _ _ _ _ _ _ _ ht=>ht.elim⟩
 | n+1=>have h:=Zs9 H n
  have c:=Zjx H h.1 h.2
  ⟨Zt1 H h.1 c,c⟩
end Go.Proofs.YtflcohidmemfpaaGreatDoor
