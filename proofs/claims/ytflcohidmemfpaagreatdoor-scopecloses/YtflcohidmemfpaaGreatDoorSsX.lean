/- Package tree's writer, whatever it is handed: line of every statement; block. -/
import Derived.Test.YtflcohidmemfpaaGreatDoorWrtJ
set_option linter.all false
namespace Go.Proofs.YtflcohidmemfpaaGreatDoor
open Go.Proofs.Tryz
open Go.RowKit Go.Lib

theorem Zx7 {p:Nat}{rk:Value}{w1:World}{n k:Nat} (H:RW False p rk w1 k) {kd nm:ByteArray}{pa:Option Addr}{pn pc:Nat}{la:Option Addr}{ln lc:Nat}{ba:Option Addr}{bn bc:Nat}{ea:Option Addr}{en ec:Nat} (ht:sv w1 p k (n+1) kd nm pa pn pc la ln lc ba bn bc ea en ec) (hl:Z1b kd≤ln) (w:World) (C:WT p rk w1 w) :
  Calls prog 55 #[.pointer (some ⟨p,0,none⟩),.agg #[.string kd,.string nm,.slice pa pn pc,.slice la ln lc,.slice ba bn bc,.slice ea en ec]] w fun ev w'=>ev = .returned (.tuple #[])∧WX False p rk w1 w w':=by
 by_cases n0:(kd.toList == [101,120,112,114])=true
 ·obtain rfl:=Z0x (beq_iff_eq.1 n0)
  have e:Z1b ⟨#[101,120,112,114]⟩=1:=by kernel_rfl
  exact Zn2 H ht (by rw [e] at hl;exact hl) w C
 rw [Bool.not_eq_true] at n0
 by_cases n1:(kd.toList == [115,101,116])=true
 ·obtain rfl:=Z0x (beq_iff_eq.1 n1)
  have e:Z1b ⟨#[115,101,116]⟩=1:=by kernel_rfl
  exact Zrl H ht (by rw [e] at hl;exact hl) w C
 rw [Bool.not_eq_true] at n1
 by_cases n2:(kd.toList == [112,117,116])=true
 ·obtain rfl:=Z0x (beq_iff_eq.1 n2)
  have e:Z1b ⟨#[112,117,116]⟩=3:=by kernel_rfl
  exact Zrh H ht (by rw [e] at hl;exact hl) w C
 rw [Bool.not_eq_true] at n2
 by_cases n3:(kd.toList == [100,101,108])=true
 ·obtain rfl:=Z0x (beq_iff_eq.1 n3)
  have e:Z1b ⟨#[100,101,108]⟩=2:=by kernel_rfl
  exact Zqu H ht (by rw [e] at hl;exact hl) w C
 rw [Bool.not_eq_true] at n3
 by_cases n4:(kd.toList == [114,97,105,115,101])=true
 ·obtain rfl:=Z0x (beq_iff_eq.1 n4)
  have e:Z1b ⟨#[114,97,105,115,101]⟩=1:=by kernel_rfl
  exact Zjc H ht (by rw [e] at hl;exact hl) w C
 rw [Bool.not_eq_true] at n4
 by_cases n5:(kd.toList == [114,101,116,117,114,110])=true
 ·obtain rfl:=Z0x (beq_iff_eq.1 n5)
  by_cases h0:ln=0
  ·exact Zav H ht h0 w C
  ·exact Zc7 H ht (by omega) w C
 rw [Bool.not_eq_true] at n5
 by_cases n6:(kd.toList == [98,114,101,97,107])=true
 ·obtain rfl:=Z0x (beq_iff_eq.1 n6)
  exact Zk1 H ht w C
 rw [Bool.not_eq_true] at n6
 by_cases n7:(kd.toList == [99,111,110,116,105,110,117,101])=true
 ·obtain rfl:=Z0x (beq_iff_eq.1 n7)
  exact Zdc H ht w C
 rw [Bool.not_eq_true] at n7
 by_cases n8:(kd.toList == [112,97,115,115])=true
 ·obtain rfl:=Z0x (beq_iff_eq.1 n8)
  exact Zmr H ht w C
 rw [Bool.not_eq_true] at n8
 by_cases n9:(kd.toList == [103,108,111,98,97,108])=true
 ·obtain rfl:=Z0x (beq_iff_eq.1 n9)
  exact Zhk H ht w C
 rw [Bool.not_eq_true] at n9
 by_cases n10:(kd.toList == [110,111,110,108,111,99,97,108])=true
 ·obtain rfl:=Z0x (beq_iff_eq.1 n10)
  exact Zda H ht w C
 rw [Bool.not_eq_true] at n10
 exact Zke H n0 n1 n2 n3 n4 n5 n6 n7 n8 n9 n10 ht w C
def SW (p:Nat) (rk:Value) (w1:World) (k n:Nat):Prop:=∀ (a:Option Addr) (m c:Nat),Zca w1 p (sv w1 p k n) a m→m≤1152921504606846976 → ∀ d:Int,I64 d → ∀ w,WT p rk w1 w →
 Calls prog 24 #[.pointer (some ⟨p,0,none⟩),.slice a m c,.int .i64 d] w fun ev w'=>ev = .returned (.tuple #[])∧WX False p rk w1 w w'
set_option maxHeartbeats 4000000 in
set_option maxRecDepth 100000 in
theorem Z6g {p:Nat}{rk:Value}{w1:World}{k n:Nat} (H:SW p rk w1 k n) (a:Option Addr) (m c:Nat) (h:Zca w1 p (sv w1 p k n) a m) (hm:m≤1152921504606846976) (d:Int) (_:I64 d) (w:World) (C:WT p rk w1 w) :
  Calls prog 53 #[.pointer (some ⟨p,0,none⟩),.slice a m c,.int .i64 d] w fun ev w'=>ev = .returned (.tuple #[])∧WX False p rk w1 w w':=by
 have HC:=Z03 (WX.start (P:=False) C)
 obtain ⟨d2,hd2⟩:∃ d2,IntKind.i64.wrap (d+1)=d2:=⟨_,rfl⟩
 have HH:=Z03 (H a m c h hm d2 (by rw [←hd2];exact Zjr _))
 clear H h C
 go_enter func53,ntmps53
 go_wp2_with fail
 refine (Zig HC.out ⟨#[58,10]⟩ (by decide)).mono ?_
 rintro ev w2 ⟨rfl,h2⟩
 have H2:=Z03 h2
 clear h2
 go_wp2_with fail
 refine (HH.out w2 H2.out.wt).mono ?_
 rintro ev w3 ⟨rfl,h3⟩
 have H3:=Z03 (H2.out.trans h3)
 clear h3
 go_wp2_with fail
 go_end0
 exact ⟨rfl,H3.out⟩
end Go.Proofs.YtflcohidmemfpaaGreatDoor
namespace Go.Proofs.YtflcohidmemfpaaGreatDoor
open Go.Proofs.Tryz
open Go.RowKit Go.Lib

def CH (p:Nat) (rk:Value) (w1:World) (k n:Nat):Prop:=∀ (wd:ByteArray),wd.size≤1000 → ∀ (kd nm:ByteArray) (pa:Option Addr) (pn pc:Nat) (la:Option Addr) (ln lc:Nat) (ba:Option Addr) (bn bc:Nat) (ea:Option Addr) (en ec:Nat),sv w1 p k n kd nm pa pn pc la ln lc ba bn bc ea en ec → ∀ d:Int,I64 d → ∀ w,WT p rk w1 w →
 Calls prog 51 #[.pointer (some ⟨p,0,none⟩),.string wd,.agg #[.string kd,.string nm,.slice pa pn pc,.slice la ln lc,.slice ba bn bc,.slice ea en ec],.int .i64 d] w fun ev w'=>ev = .returned (.tuple #[])∧WX False p rk w1 w w'
theorem Zi5:Z1b ⟨#[105,102]⟩=1:=by kernel_rfl
set_option maxHeartbeats 4000000 in
set_option maxRecDepth 100000 in
theorem Zm4 {p:Nat}{rk:Value}{w1:World} (wd:ByteArray) {kd nm:ByteArray}{pa:Option Addr}{pn pc:Nat}{la:Option Addr}{ln lc:Nat}{ba:Option Addr}{bn bc:Nat}{ea:Option Addr}{en ec:Nat} (hl:ln=0) (d:Int) (w:World) (C:WT p rk w1 w) :
  Calls prog 51 #[.pointer (some ⟨p,0,none⟩),.string wd,.agg #[.string kd,.string nm,.slice pa pn pc,.slice la ln lc,.slice ba bn bc,.slice ea en ec],.int .i64 d] w fun ev w'=>ev = .returned (.tuple #[])∧WX False p rk w1 w w':=by
 subst hl
 obtain ⟨wE,hE⟩:∃ wE,wE=w.alloc (.cells #[.string kd,.string nm,.slice pa pn pc,.slice la 0 lc,.slice ba bn bc,.slice ea en ec] 52):=⟨_,rfl⟩
 have hWE:WX False p rk w1 w wE:=by rw [hE];exact (WX.start C).alloc _
 have HE:=Z03 hE
 have HCA:=Z03 hWE
 have ht1:=Zi5
 clear C hE hWE
 go_enter func51,ntmps51
 go_wp2_with fail
 go_quiet ((go_at_call 50;exact Calls.quiet_of_same (Z2c _ _)))
 rw [←HE.out]
 obtain ⟨wD,hwD⟩:∃ wD,wD=wE.drewN nq:=⟨_,rfl⟩
 have HD:Hid (WX False p rk w1 w wD):=by show WX _ _ _ _ _ _;rw [hwD];exact HCA.out.drewN
 rw [←hwD]
 obtain ⟨ta,tn,tc,tm,lost,_,d0,d1,d2,d3,df⟩:=HD.out.wt.cells
 have df3:=df 3
 have HL:=Z03 (HD.out.lose true)
 clear df hwD
 go_wp2_with fail
 refine bodyPost_ret (results_none rfl _ _ _) rfl ?_
 exact ⟨rfl,HL.out⟩
set_option maxHeartbeats 4000000 in
set_option maxRecDepth 100000 in
theorem Zjx {p:Nat}{rk:Value}{w1:World}{k n:Nat} (H:RW False p rk w1 k) (S:SW p rk w1 k n) (CC:CH p rk w1 k n):CH p rk w1 k (n+1):=by
 intro wd hwd kd nm pa pn pc la ln lc ba bn bc ea en ec ht d hd w C
 obtain ⟨_,_,_,_,hlc,hln,hrow,hbn,hen,hB,hEl⟩:=ht
 by_cases hl:ln=0
 ·exact Zm4 wd hl d w C
 obtain ⟨b,o,rfl,hb,op0,z0,s0,pa0,pn0,pc0,la0,ln0,lc0,k0,k1,k2,k3,k4,ht0⟩:=hrow.first (by omega)
 obtain ⟨wE,hE⟩:∃ wE,wE=w.alloc (.cells #[.string kd,.string nm,.slice pa pn pc,.slice (some ⟨b,o,none⟩) ln lc,.slice ba bn bc,.slice ea en ec] 52):=⟨_,rfl⟩
 have hWE:WX False p rk w1 w wE:=by rw [hE];exact (WX.start C).alloc _
 have hq:wE.heap[w.heap.size]?=some (.cells #[.string kd,.string nm,.slice pa pn pc,.slice (some ⟨b,o,none⟩) ln lc,.slice ba bn bc,.slice ea en ec] 52):=by rw [hE];exact heap_alloc_new _ _
 have HE:=Z03 hE
 have hp:=C.lt
 have HK:Hid (∀ w',WX False p rk w1 wE w'→w'.cell? ⟨w.heap.size,0,none⟩=some (.string kd)∧w'.cell? ⟨w.heap.size,1,none⟩=some (.string nm)∧w'.cell? ⟨w.heap.size,2,none⟩=some (.slice pa pn pc)∧w'.cell? ⟨w.heap.size,3,none⟩=some (.slice (some ⟨b,o,none⟩) ln lc)∧w'.cell? ⟨w.heap.size,4,none⟩=some (.slice ba bn bc)∧w'.cell? ⟨w.heap.size,5,none⟩=some (.slice ea en ec)∧w'.cell? ⟨b,o,none⟩=some (.string op0)∧w'.cell? ⟨b,o+1,none⟩=some (.int .i64 z0)∧w'.cell? ⟨b,o+2,none⟩=some (.string s0)∧w'.cell? ⟨b,o+3,none⟩=some (.slice pa0 pn0 pc0)∧w'.cell? ⟨b,o+4,none⟩=some (.slice la0 ln0 lc0)):=fun w' h=>let e:=Z08 (h.block hq (by omega) (by decide));⟨e.1,e.2.1,e.2.2.1,e.2.2.2.1,e.2.2.2.2.1,e.2.2.2.2.2.1,h.wt.old (a:=⟨b,o,none⟩) hb k0,h.wt.old (a:=⟨b,o+1,none⟩) hb k1,h.wt.old (a:=⟨b,o+2,none⟩) hb k2,h.wt.old (a:=⟨b,o+3,none⟩) hb k3,h.wt.old (a:=⟨b,o+4,none⟩) hb k4⟩
 have HCA:=Z03 hWE
 have HH:=Z03 H
 have HSS:=Z03 S
 have HCC:=Z03 CC
 have HT:=Z03 ht0
 have HBR:=Z03 hB
 have HER:=Z03 hEl
 have ht1:=Zi5
 have hL:(0:Int)<(ln:Int):=by omega
 have hL1:¬ (ln:Int)<1:=by omega
 clear C hE hWE hq H S CC hrow hB hEl ht0 k0 k1 k2 k3 k4
 go_enter func51,ntmps51
 go_wp2_with fail
 go_quiet ((go_at_call 50;exact Calls.quiet_of_same (Z2c _ _)))
 rw [←HE.out]
 obtain ⟨wD,hwD⟩:∃ wD,wD=wE.drewN nq:=⟨_,rfl⟩
 have HD:Hid (WX False p rk w1 wE wD):=by show WX _ _ _ _ _ _;rw [hwD];exact (WX.start HCA.out.wt).drewN
 rw [←hwD]
 obtain ⟨x0,x1,x2,x3,x4,x5,y0,y1,y2,y3,y4⟩:=HK.out wD HD.out
 clear hwD
 go_wp2_with fail
 refine (Zig HD.out wd (by omega)).mono ?_
 rintro ev v1 ⟨rfl,g1⟩
 have G1:=Z03 g1
 clear x0 x1 x2 x3 x4 x5 y0 y1 y2 y3 y4
 obtain ⟨x0,x1,x2,x3,x4,x5,y0,y1,y2,y3,y4⟩:=HK.out v1 G1.out
 clear g1
 go_wp2_with fail
 refine (Z43 HH.out HT.out _ G1.out.wt).mono ?_
 rintro ev v2 ⟨rfl,g2⟩
 have G2:=Z03 (G1.out.trans g2)
 clear x0 x1 x2 x3 x4 x5 y0 y1 y2 y3 y4
 obtain ⟨x0,x1,x2,x3,x4,x5,y0,y1,y2,y3,y4⟩:=HK.out v2 G2.out
 clear g2
 go_wp2_with fail
 refine (Z6g HSS.out ba bn bc HBR.out hbn d hd _ G2.out.wt).mono ?_
 rintro ev v3 ⟨rfl,g3⟩
 have G3:=Z03 (G2.out.trans g3)
 clear x0 x1 x2 x3 x4 x5 y0 y1 y2 y3 y4
 obtain ⟨x0,x1,x2,x3,x4,x5,y0,y1,y2,y3,y4⟩:=HK.out v3 G3.out
 clear g3
 obtain ⟨ta,tn,tc,tm,lost,_,d0,d1,d2,d3,df⟩:=G3.out.wt.cells
 clear df
 cases lost with
 | true =>
  go_wp2_with fail
  refine bodyPost_ret (results_none rfl _ _ _) rfl ?_
  exact ⟨rfl,HCA.out.trans G3.out⟩
 | false =>
  by_cases he0:en=0
  ·subst he0
   go_wp2_with fail
   refine bodyPost_ret (results_none rfl _ _ _) rfl ?_
   exact ⟨rfl,HCA.out.trans G3.out⟩
  ·have hE0:((en:Int) == 0)=false:=by simp;omega
   obtain ⟨be,oe,rfl,hbe,kd1,nm1,pa1,pn1,pc1,la1,ln1,lc1,ba1,bn1,bc1,ea1,en1,ec1,j0,j1,j2,j3,j4,j5,hte⟩:=HER.out 0 (by omega)
   simp only [Nat.zero_mul,Nat.add_zero] at j0 j1 j2 j3 j4 j5
   go_wp2_with fail
   refine (Zd5 (P:=False) d hd _ G3.out.wt).mono ?_
   rintro ev v4 ⟨rfl,g4⟩
   have G4:=Z03 (G3.out.trans g4)
   clear x0 x1 x2 x3 x4 x5 y0 y1 y2 y3 y4 d0 d1 d2 d3
   obtain ⟨x0,x1,x2,x3,x4,x5,y0,y1,y2,y3,y4⟩:=HK.out v4 G4.out
   clear g4
   have u0:=G4.out.wt.old (a:=⟨be,oe,none⟩) hbe j0
   have u1:=G4.out.wt.old (a:=⟨be,oe+1,none⟩) hbe j1
   have u2:=G4.out.wt.old (a:=⟨be,oe+2,none⟩) hbe j2
   have u3:=G4.out.wt.old (a:=⟨be,oe+3,none⟩) hbe j3
   have u4:=G4.out.wt.old (a:=⟨be,oe+4,none⟩) hbe j4
   have u5:=G4.out.wt.old (a:=⟨be,oe+5,none⟩) hbe j5
   clear j0 j1 j2 j3 j4 j5
   have hEp:(0:Int)<(en:Int):=by omega
   by_cases hif:en=1∧(kd1.toList == [105,102])=true
   ·obtain ⟨he1,hkd⟩:=hif
    subst he1
    obtain rfl:=Z0x (beq_iff_eq.1 hkd)
    have HTE:=Z03 hte
    clear hte
    go_wp2_with fail
    refine (HCC.out ⟨#[101,108,105,102,32]⟩ (by decide) _ _ _ _ _ _ _ _ _ _ _ _ _ _ HTE.out d (by omega) _ G4.out.wt).mono ?_
    rintro ev v5 ⟨rfl,g5⟩
    have G5:=Z03 (HCA.out.trans (G4.out.trans g5))
    clear g5 x0 x1 x2 x3 x4 x5 y0 y1 y2 y3 y4 u0 u1 u2 u3 u4 u5
    go_wp2_with fail
    refine bodyPost_ret (results_none rfl _ _ _) rfl ?_
    exact ⟨rfl,G5.out⟩
   ·have hno:((en:Int) == 1)=false∨(((en:Int) == 1)=true∧(kd1.toList == [105,102])=false):=by
     by_cases h1:en=1
     ·subst h1
      refine .inr ⟨rfl,?_⟩
      rw [←Bool.not_eq_true]
      exact fun h=>hif ⟨rfl,h⟩
     ·exact .inl (by simp;omega)
    clear hif hte
    rcases hno with hno | ⟨hno,hno2⟩
    all_goals
     go_wp2_with fail
     refine (Zig G4.out ⟨#[101,108,115,101]⟩ (by decide)).mono ?_
     rintro ev v5 ⟨rfl,g5⟩
     have G5:=Z03 g5
     clear x0 x1 x2 x3 x4 x5 y0 y1 y2 y3 y4 u0 u1 u2 u3 u4 u5
     obtain ⟨x0,x1,x2,x3,x4,x5,y0,y1,y2,y3,y4⟩:=HK.out v5 G5.out
     clear g5
     go_wp2_with fail
     refine (Z6g HSS.out (some ⟨be,oe,none⟩) en ec HER.out hen d hd _ G5.out.wt).mono ?_
     rintro ev v6 ⟨rfl,g6⟩
     have G6:=Z03 (HCA.out.trans (G5.out.trans g6))
     clear g6 x0 x1 x2 x3 x4 x5 y0 y1 y2 y3 y4
     go_wp2_with fail
     go_end0
     exact ⟨rfl,G6.out⟩
end Go.Proofs.YtflcohidmemfpaaGreatDoor
