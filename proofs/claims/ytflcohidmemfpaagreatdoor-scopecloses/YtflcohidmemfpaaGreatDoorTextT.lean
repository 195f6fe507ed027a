/- Package tree: Text of any statements: what it answers is read as those statements, or it answers an error. -/
import Derived.Test.YtflcohidmemfpaaGreatDoorSsY
import Derived.Test.YtflcohidmemfpaaGreatDoorSvD
import Derived.Test.YtflcohidmemfpaaGreatDoorSsZ
set_option linter.all false
namespace Go.Proofs.YtflcohidmemfpaaGreatDoor
open Go.Proofs.Tryz
open Go.RowKit Go.Lib

structure TwEnv (B:Nat) (a0 a1 a2:Addr) (w:World):Prop where
 lenv:LEnv B a0 a1 w
 g2:w.cell? ⟨1,0,none⟩=some (.iface 214 (.pointer (some a2)))
 b2:1<B
theorem TwEnv.below {B:Nat}{a0 a1 a2:Addr}{w w':World} (E:TwEnv B a0 a1 a2 w) (hb:Below B w w'):TwEnv B a0 a1 a2 w':=⟨E.lenv.below hb,(hb.cell (p:=⟨1,0,none⟩) E.b2).trans E.g2,E.b2⟩
theorem TwEnv.up {B C:Nat}{a0 a1 a2:Addr}{w:World} (E:TwEnv B a0 a1 a2 w) (h:B≤C):TwEnv C a0 a1 a2 w:=⟨E.lenv.up h,E.g2,by have:=E.b2;omega⟩
theorem Zn7 (i:Nat) (hi:i<8):∃ t,(Z0y i)[0]?=some t:=by
 iterate 8 (rcases i with _ | i;· exact ⟨_,rfl⟩)
 omega
theorem Zzr (w:World):RKL (w.heap.size+9) (.slice (some ⟨w.heap.size+8,0,none⟩) 8 8) (Z6h w):=by
 obtain ⟨_,hs,h⟩:=Ztn w
 obtain ⟨rb,c,e,_,hx⟩:=h (w.heap.size+9) (Nat.le_refl _)
 refine ⟨rb,c,e,?_,fun i hi => ?_⟩
 ·obtain ⟨b,c',h1,_⟩:=hx 0 (by omega)
  have:=Z02 h1
  rw [hs] at this
  exact this
 ·obtain ⟨b,c',h1,_,h3⟩:=hx i hi
  obtain ⟨t,ht⟩:=Zn7 i hi
  have:=Z02 (h3 0 t ht)
  rw [hs] at this
  exact ⟨b,c',h1,this,h3⟩
theorem RKL.more {p:Nat}{rk:Value}{w w':World} (h:RKL p rk w) (hb:Below w.heap.size w w'):RKL p rk w':=by
 obtain ⟨rb,c,e,h0,hx⟩:=h
 refine ⟨rb,c,e,h0,fun i hi => ?_⟩
 obtain ⟨b,c',h1,h2,h3⟩:=hx i hi
 exact ⟨b,c',(hb.cell (p:=⟨rb,i,none⟩) (Z02 h1)).trans h1,h2,fun j t hj=>(hb.cell (p:=⟨b,0+j,none⟩) (Z02 (h3 j t hj))).trans (h3 j t hj)⟩
theorem WT.string {p:Nat}{rk:Value}{w1 w:World} (C:WT p rk w1 w):∃ (t:ByteArray) (a:Option Addr) (n c:Nat) (lost:Bool),t.size≤6000∧w.cell? ⟨p,1,none⟩=some (.slice a n c)∧w.cell? ⟨p,3,none⟩=some (.bool lost)∧(convert 75 9 (.slice a n c)).run prog w = .ok (.string t) w:=by
 obtain ⟨v,t,tm,lost,hb,ho,h6⟩:=C.blk
 obtain ⟨c0,c1,c2,c3,cf⟩:=Z7g hb
 rcases ho.2 with ⟨rfl,h0⟩ | ⟨g,cap,cur,rfl,_,hg,_,_,_,hx⟩
 ·exact ⟨⟨#[]⟩,none,0,0,lost,by decide,c1,c3,by
   have h:=run_convert_bytes_nil (P:=prog) w 75 5 underlying75 underlying5 0 0 9 underlying9
   exact h⟩
 have hs:strOfNums (t.data.toList.map fun c=>(c.toNat:Int))=t:=by
  apply ByteArray.ext
  simp [strOfNums,Function.comp_def]
 refine ⟨t,_,_,cap,lost,h6,c1,c3,?_⟩
 have h:=run_convert_bytes_arg (P:=prog) w 75 5 underlying75 underlying5 g 0 t.size cap (t.data.toList.map fun c=>(c.toNat:Int)) (by simp) (fun i hi=>by
  rw [Nat.zero_add,cell_of_row w g i cur 5 (0,0) hg,←Array.getElem?_toList]
  have e:(cur.toList.take (t.size*1))[i]?=(strCells t)[i]?:=by rw [hx]
  rw [List.getElem?_take,if_pos (by omega)] at e
  rw [e]
  have e3:t.data[i]?=some (t.data[i]'(by simpa using hi)):=by simp
  simp [strCells,e3]) 9 underlying9
 rw [hs] at h
 exact h
theorem Zzt {s:ByteArray}{m:List (ByteArray × ByteArray × Nat)} (hs:s.size≤6000) (h:Z6s s = .ok (m.length,cellsOf m)):∀ x∈m,Fs x.2.1:=by
 obtain ⟨m',hm1,_,_,_,hshort⟩:=Z92 h
 obtain rfl:=Z67 _ _ hm1
 intro x hx
 have:=hshort x hx
 unfold Fs
 omega
theorem Zu4 {s:ByteArray}{m:List (ByteArray × ByteArray × Nat)}{ss:List (DataW Unit)}{k:Nat} (hs:s.size≤6000) (h:Z6s s = .ok (m.length,cellsOf m)) (hp:Z86 m = .ok (ss,k)):BSL ss ∧ ∃ D,D≤1000000000∧ZSL D ss:=by
 have hb:=Zjf h
 exact ⟨Zzo (Zsb (by omega) hp),12*(m.length+1),by omega,Zw0 (Zzt hs h) hp⟩
set_option maxHeartbeats 8000000 in
set_option maxRecDepth 100000 in
theorem Zv6 (a0 a1 a2:Addr) (w:World) (E:TwEnv w.heap.size a0 a1 a2 w) (ht:Z9a w) (S:Nat→Prop) (ba:Option Addr) (bc D:Nat) (ss:List (DataW Unit)) (h:Z36 S w ba ss) (hk:BSL ss) (hz:ZSL D ss) :
  Calls prog 15 #[.slice ba ss.length bc] w fun ev w'=>Below w.heap.size w w'∧((∃ t m k,ev = .returned (.tuple #[.string t,.nilIface])∧t.size≤6000∧Z6s t = .ok (m.length,cellsOf m)∧Z86 m = .ok (ss,k))∨ev = .returned (.tuple #[.string ⟨#[]⟩,.iface 214 (.pointer (some a2))])):=by
 have HE:=Z01 E
 have HT:=Z01 ht
 have HR:=Z01 h
 have HK:=Z01 hk
 have HZ:=Z01 hz
 clear E ht h hk hz
 go_enter func15,ntmps15
 go_wp2_with fail
 refine (Zbr _).mono ?_
 rintro ev w1 ⟨rfl,hw1⟩
 obtain ⟨hb1,hs1,_⟩:=Ztn w
 have hkl:=Zzr w
 rw [←hw1] at hb1 hs1 hkl
 clear hw1
 obtain ⟨wA,hA⟩:∃ wA,wA=w1.alloc (.cells #[.slice (some ⟨w.heap.size+8,0,none⟩) 8 8,.slice none 0 0,.int .i64 0,.bool false] 77):=⟨_,rfl⟩
 have hblk:wA.heap[w.heap.size+9]?=some (.cells #[.slice (some ⟨w.heap.size+8,0,none⟩) 8 8,.slice none 0 0,.int .i64 0,.bool false] 77):=by
  have h:=heap_alloc_new w1 (.cells #[.slice (some ⟨w.heap.size+8,0,none⟩) 8 8,.slice none 0 0,.int .i64 0,.bool false] 77)
  rw [hs1,←hA] at h
  exact h
 have hbA1:Below w1.heap.size w1 wA:=by rw [hA];exact (Below.refl _ _).alloc (Nat.le_refl _) _
 have hbA:Below w.heap.size w wA:=hb1.trans (hbA1.mono hb1.size)
 have HWT:Hid (WT (w.heap.size+9) (.slice (some ⟨w.heap.size+8,0,none⟩) 8 8) wA wA):=⟨⟨_,⟨#[]⟩,_,_,hblk,⟨rfl,.inl ⟨rfl,rfl⟩⟩,by decide⟩,Below.refl _ _⟩
 obtain ⟨kt,hsv⟩:=Zzz (p:=w.heap.size+9) (D:=D) (HR.out.same (S':=fun b=>b<w.heap.size+9) (Z06 hbA) (fun b _ hl=>by show b<_;omega)) HK.out HZ.out
 have HSW:=Z01 ((Zs9 (Zee Zss (Zpr (p:=w.heap.size+9) HT.out hbA (by omega)) (hkl.more hbA1) kt) D).1 ba ss.length bc hsv (by have:=HK.out.1;omega) 0 ⟨by omega,by omega⟩ wA HWT.out)
 have HA:=Z01 hA
 have HBA:=Z01 hbA
 clear hblk hbA1 hbA hkl hb1 hA hsv
 go_wp2_with fail
 rw [←HA.out]
 refine HSW.out.mono ?_
 rintro ev w2 ⟨rfl,hws⟩
 obtain ⟨t,ta,tn,tc,lost,ht6,t1,t3,hcv⟩:=hws.wt.string
 have hb2:Below w.heap.size w w2:=HBA.out.trans (hws.wt.bl.mono (by omega))
 have HB2:=Z01 hb2
 have hg2:=(HE.out.below hb2).g2
 have hpl:=hws.wt.lt
 have E2:=(HE.out.below hb2).up hb2.size
 have HE2:=Z01 E2
 clear hws hb2 E2 HSW
 cases lost with
 | true =>
  clear hcv
  go_wp2_with fail
  go_quiet (fail)
  go_wp2_with fail
  go_ret2
  exact ⟨below_drewN _ HB2.out,.inr rfl⟩
 | false =>
  go_wp2_with fail
  refine (Zky t a0 a1 w2 HE2.out.lenv).mono ?_
  rintro ev w3 ⟨hb3,⟨m,ss3,k,ba3,bc3,hs6,hlx,hpr,rfl,hR3⟩ | ⟨_,T,q,rfl⟩⟩
  rotate_left
  ·have hb3w:=HB2.out.trans (hb3.mono HB2.out.size)
   have HB3:=Z01 hb3w
   have hg3:=(HE.out.below hb3w).g2
   clear hb3 hb3w hg2 t1 t3 hcv
   go_wp2_with fail
   go_quiet (fail)
   go_wp2_with fail
   go_ret2
   exact ⟨below_drewN _ HB3.out,.inr rfl⟩
  have hb3w:=HB2.out.trans (hb3.mono HB2.out.size)
  have HB3:=Z01 hb3w
  have HQ:=Z01 (Zil (lc:=bc) (kc:=bc3) (HR.out.toV.same (S':=S) (Z06 hb3w) (fun b h _=>h)) hR3.toV HK.out (Zu4 hs6 hlx hpr).1)
  have HLX:=Z01 hlx
  have HPR:=Z01 hpr
  clear hb3 hb3w hg2 t1 t3 hcv hR3 hlx hpr
  go_wp2_with fail
  refine HQ.out.mono ?_
  rintro ev w4 ⟨b,rfl,hbe,hb4⟩
  have hb4w:=HB3.out.trans (hb4.mono HB3.out.size)
  have HB4:=Z01 hb4w
  have hg4:=(HE.out.below hb4w).g2
  have HBE:=Z01 hbe
  clear hb4 hb4w hbe
  cases b with
  | false =>
   go_wp2_with fail
   go_quiet (fail)
   go_wp2_with fail
   go_ret2
   exact ⟨below_drewN _ HB4.out,.inr rfl⟩
  | true =>
   go_wp2_with fail
   go_ret2
   refine ⟨HB4.out,.inl ⟨t,m,k,rfl,ht6,HLX.out,?_⟩⟩
   rw [HBE.out (by first | rfl | trivial)]
   exact HPR.out
end Go.Proofs.YtflcohidmemfpaaGreatDoor
