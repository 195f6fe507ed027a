/- Package tree: Text of one raise: its text around the term, and how it is read again; or an error. (Written out of TextT.) -/
import Derived.Test.YtknjeecjhahbaaaGreatDoorWrtR
import Derived.Test.YtknjeecjhahbaaaGreatDoorBbF
import Derived.Test.YtknjeecjhahbaaaGreatDoorBaZ
import Derived.Test.YtknjeecjhahbaaaGreatDoorBaV
import Derived.Test.YtknjeecjhahbaaaGreatDoorBbE
import Derived.Test.YtknjeecjhahbaaaGreatDoorBaQ
set_option linter.all false
namespace Go.Proofs.YtknjeecjhahbaaaGreatDoor
open Go.RowKit Go.Lib

structure TwEnv (B:Nat) (a0 a1 a2:Addr) (w:World):Prop where
 lenv:LEnv B a0 a1 w
 g2:w.cell? ⟨0,0,none⟩=some (.iface 199 (.pointer (some a2)))
 b2:0<B
theorem TwEnv.below {B:Nat}{a0 a1 a2:Addr}{w w':World} (E:TwEnv B a0 a1 a2 w) (hb:Below B w w'):TwEnv B a0 a1 a2 w':=⟨E.lenv.below hb,(hb.cell (p:=⟨0,0,none⟩) E.b2).trans E.g2,E.b2⟩
theorem TwEnv.up {B C:Nat}{a0 a1 a2:Addr}{w:World} (E:TwEnv B a0 a1 a2 w) (h:B≤C):TwEnv C a0 a1 a2 w:=⟨E.lenv.up h,E.g2,by have:=E.b2;omega⟩
theorem rank_first (i:Nat) (hi:i<8):∃ t,(rankOps i)[0]?=some t:=by
 iterate 8 (rcases i with _ | i;· exact ⟨_,rfl⟩)
 omega
theorem rkl_of (w:World):RKL (w.heap.size+9) (.slice (some ⟨w.heap.size+8,0,none⟩) 8 8) (rkWorld w):=by
 obtain ⟨_,hs,h⟩:=rk_of w
 obtain ⟨rb,c,e,_,hx⟩:=h (w.heap.size+9) (Nat.le_refl _)
 refine ⟨rb,c,e,?_,fun i hi => ?_⟩
 ·obtain ⟨b,c',h1,_⟩:=hx 0 (by omega)
  have:=lt_of_cell h1
  rw [hs] at this
  exact this
 ·obtain ⟨b,c',h1,_,h3⟩:=hx i hi
  obtain ⟨t,ht⟩:=rank_first i hi
  have:=lt_of_cell (h3 0 t ht)
  rw [hs] at this
  exact ⟨b,c',h1,this,h3⟩
theorem RKL.more {p:Nat}{rk:Value}{w w':World} (h:RKL p rk w) (hb:Below w.heap.size w w'):RKL p rk w':=by
 obtain ⟨rb,c,e,h0,hx⟩:=h
 refine ⟨rb,c,e,h0,fun i hi => ?_⟩
 obtain ⟨b,c',h1,h2,h3⟩:=hx i hi
 exact ⟨b,c',(hb.cell (p:=⟨rb,i,none⟩) (lt_of_cell h1)).trans h1,h2,fun j t hj=>(hb.cell (p:=⟨b,0+j,none⟩) (lt_of_cell (h3 j t hj))).trans (h3 j t hj)⟩
theorem WT.string {p:Nat}{rk:Value}{w1 w:World} (C:WT p rk w1 w):∃ (t:ByteArray) (a:Option Addr) (n c:Nat) (lost:Bool),t.size≤6000∧w.cell? ⟨p,1,none⟩=some (.slice a n c)∧w.cell? ⟨p,3,none⟩=some (.bool lost)∧WAt p w t∧(lost=false → ¬ LAt p w)∧(convert 49 9 (.slice a n c)).run Tryz.prog w = .ok (.string t) w:=by
 obtain ⟨v,t,tm,lost,hb,ho,h6⟩:=C.blk
 obtain ⟨c0,c1,c2,c3,cf⟩:=four_cells hb
 have hWA:WAt p w t:=⟨rk,v,tm,lost,hb,ho⟩
 have hLA:lost=false → ¬ LAt p w:=fun e h=>by
  obtain ⟨rk2,v2,tm2,h⟩:=h
  obtain ⟨_,_,_,d3,_⟩:=four_cells h
  rw [c3,e] at d3
  cases d3
 rcases ho.2 with ⟨rfl,h0⟩ | ⟨g,cap,cur,rfl,_,hg,_,_,_,hx⟩
 ·have e0:t=⟨#[]⟩:=by
   exact ByteArray.size_eq_zero_iff.1 h0
  exact ⟨⟨#[]⟩,none,0,0,lost,by decide,c1,c3,by rw [←e0];exact hWA,hLA,by
   have h:=run_convert_bytes_nil (P:=Tryz.prog) w 49 5 Tryz.underlying49 Tryz.underlying5 0 0 9 Tryz.underlying9
   exact h⟩
 have hs:strOfNums (t.data.toList.map fun c=>(c.toNat:Int))=t:=by
  apply ByteArray.ext
  simp [strOfNums,Function.comp_def]
 refine ⟨t,_,_,cap,lost,h6,c1,c3,hWA,hLA,?_⟩
 have h:=run_convert_bytes_arg (P:=Tryz.prog) w 49 5 Tryz.underlying49 Tryz.underlying5 g 0 t.size cap (t.data.toList.map fun c=>(c.toNat:Int)) (by simp) (fun i hi=>by
  rw [Nat.zero_add,cell_of_row w g i cur 5 (0,0) hg,←Array.getElem?_toList]
  have e:(cur.toList.take (t.size*1))[i]?=(strCells t)[i]?:=by rw [hx]
  rw [List.getElem?_take,if_pos (by omega)] at e
  rw [e]
  have e3:t.data[i]?=some (t.data[i]'(by simpa using hi)):=by simp
  simp [strCells,e3]) 9 Tryz.underlying9
 rw [hs] at h
 exact h
theorem fs_of {s:ByteArray}{m:List (ByteArray × ByteArray × Nat)} (hs:s.size≤6000) (h:lexP s = .ok (m.length,cellsOf m)):∀ x∈m,Fs x.2.1:=by
 obtain ⟨m',hm1,_,_,_,hshort⟩:=lexP_fine h
 obtain rfl:=cells_inj _ _ hm1
 intro x hx
 have:=hshort x hx
 unfold Fs
 omega
theorem read_fit {s:ByteArray}{m:List (ByteArray × ByteArray × Nat)}{ss:List (DataW Unit)}{k:Nat} (hs:s.size≤6000) (h:lexP s = .ok (m.length,cellsOf m)) (hp:pRead m = .ok (ss,k)):BSL ss ∧ ∃ D,D≤1000000000∧ZSL D ss:=by
 have hb:=lexP_bd h
 exact ⟨bsl_of (read_sz (by omega) hp),12*(m.length+1),by omega,read_z (fs_of hs h) hp⟩
theorem raise_row {P:Prop}{w1:World}{p:Nat}{ba:Option Addr}{e:DataW Unit} (h:RepWSL (fun b=>b<p) w1 ba [mkS kRaise ⟨#[]⟩ [] [e] [] []]) (hk:BT e) (hz:ZT e) (hc:P→CqT e) :
  ∃ b o nm pa pn pc la ln lc ba1 bn1 bd1 ea1 en1 ec1 kt,ba=some ⟨b,o,none⟩∧b<p∧w1.cell? ⟨b,o,none⟩=some (.string ⟨#[114,97,105,115,101]⟩)∧w1.cell? ⟨b,o+1,none⟩=some (.string nm)∧w1.cell? ⟨b,o+2,none⟩=some (.slice pa pn pc)∧w1.cell? ⟨b,o+3,none⟩=some (.slice la ln lc)∧w1.cell? ⟨b,o+4,none⟩=some (.slice ba1 bn1 bd1)∧w1.cell? ⟨b,o+5,none⟩=some (.slice ea1 en1 ec1)∧TvRow w1 p (tv P w1 p kt) la ln∧1≤ln:=by
 obtain ⟨b,o,rfl,hb,hx⟩:=h (by simp)
 obtain ⟨c0,c1,c2,c3,c4,c5,x0,x1,x2,x3,x4,x5,n,hr⟩:=hx 0 _ rfl
 cases n with
 | zero=>exact hr.elim
 | succ n =>
  obtain ⟨kd,nm,pl,el,bd,es,pa,la,ba',ea,pc,lc,bc,ec,hd,hcs,h1,h2,h3,h4,h5⟩:=hr
  obtain ⟨rfl,rfl,rfl,rfl,rfl,rfl⟩:=mkS_inj hd
  simp only [List.cons.injEq,and_true] at hcs
  obtain ⟨rfl,rfl,rfl,rfl,rfl,rfl⟩:=hcs
  simp only [Nat.zero_mul,Nat.add_zero] at x0 x1 x2 x3 x4 x5
  obtain ⟨kt,ht⟩:=rowW_bound h2
  exact ⟨b,o,_,_,_,_,_,_,_,_,_,_,_,_,_,kt,rfl,hb,x0,x1,x2,x3,x4,x5,tvRow_of ht (fun x hx=>by simp at hx;subst hx;exact hk) (fun x hx=>by simp at hx;subst hx;exact hz) (fun p x hx=>by simp at hx;subst hx;exact hc p),Nat.le_refl _⟩
set_option maxHeartbeats 8000000 in
set_option maxRecDepth 100000 in
theorem text_raise (a0 a1 a2:Addr) (w:World) (E:TwEnv w.heap.size a0 a1 a2 w) (ht:Tabbed w) (S:Nat→Prop) (ba:Option Addr) (bc:Nat) (e:DataW Unit) (h:RepWSL S w ba [mkS kRaise ⟨#[]⟩ [] [e] [] []]) (hkk:BSL [mkS kRaise ⟨#[]⟩ [] [e] [] []]) (hk:BT e) (hz:ZT e) :
  Calls Tryz.prog 7 #[.slice ba 1 bc] w fun ev w'=>Below w.heap.size w w'∧((∃ t X m k,ev = .returned (.tuple #[.string t,.nilIface])∧t.data.toList=raiseC++X ++ [10]∧Neat X∧t.size≤6000∧lexP t = .ok (m.length,cellsOf m)∧pRead m = .ok ([mkS kRaise ⟨#[]⟩ [] [e] [] []],k))∨ev = .returned (.tuple #[.string ⟨#[]⟩,.iface 199 (.pointer (some a2))])):=by
 have HE:=toHid E
 have HT:=toHid ht
 have HR:=toHid h
 have HK:=toHid hk
 have HKK:=toHid hkk
 have HZ:=toHid hz
 clear E ht h hk hz hkk
 go_enter Tryz.func7,Tryz.ntmps7
 go_wp2_with fail
 refine (ranks_any _).mono ?_
 rintro ev w1 ⟨rfl,hw1⟩
 obtain ⟨hb1,hs1,_⟩:=rk_of w
 have hkl:=rkl_of w
 rw [←hw1] at hb1 hs1 hkl
 clear hw1
 obtain ⟨wA,hA⟩:∃ wA,wA=w1.alloc (.cells #[.slice (some ⟨w.heap.size+8,0,none⟩) 8 8,.slice none 0 0,.int .i64 0,.bool false] 51):=⟨_,rfl⟩
 have hblk:wA.heap[w.heap.size+9]?=some (.cells #[.slice (some ⟨w.heap.size+8,0,none⟩) 8 8,.slice none 0 0,.int .i64 0,.bool false] 51):=by
  have h:=heap_alloc_new w1 (.cells #[.slice (some ⟨w.heap.size+8,0,none⟩) 8 8,.slice none 0 0,.int .i64 0,.bool false] 51)
  rw [hs1,←hA] at h
  exact h
 have hbA1:Below w1.heap.size w1 wA:=by rw [hA];exact (Below.refl _ _).alloc (Nat.le_refl _) _
 have hbA:Below w.heap.size w wA:=hb1.trans (hbA1.mono hb1.size)
 have HWT:Hid (WT (w.heap.size+9) (.slice (some ⟨w.heap.size+8,0,none⟩) 8 8) wA wA):=⟨⟨_,⟨#[]⟩,_,_,hblk,⟨rfl,.inl ⟨rfl,rfl⟩⟩,by decide⟩,Below.refl _ _⟩
 have hWA:WAt (w.heap.size+9) wA ⟨#[]⟩:=⟨_,_,_,_,hblk,rfl,.inl ⟨rfl,rfl⟩⟩
 obtain ⟨b,o,nm,pa,pn,pc,la,ln,lc,ba1,bn1,bd1,ea1,en1,ec1,kt,rfl,hbb,k0,k1,k2,k3,k4,k5,hrow,hln⟩:=raise_row (P:=CqT e) (HR.out.same (S':=fun b=>b<w.heap.size+9) (same_below hbA) (fun b _ hl=>by show b<_;omega)) HK.out HZ.out id
 have HSW:=toHid (stsR (ranked_all quote_ok (format_ok (p:=w.heap.size+9) HT.out hbA (by omega)) (hkl.more hbA1) kt) hbb (bc:=bc) k0 k1 k2 k3 k4 k5 hrow hln wA HWT.out hWA (four_cells hblk).2.2.2.1)
 have HA:=toHid hA
 have HBA:=toHid hbA
 clear hblk hbA1 hbA hkl hb1 hA hWA k0 k1 k2 k3 k4 k5 hrow hln
 go_wp2_with fail
 rw [←HA.out]
 refine HSW.out.mono ?_
 rintro ev w2 ⟨rfl,hws,hx⟩
 obtain ⟨t,ta,tn,tc,lost,ht6,t1,t3,htA,htL,hcv⟩:=hws.string
 have HTX:Hid (lost=false → ∃ d,GN (CqT e) d∧t=raiseB++d++⟨#[10]⟩):=fun e=>by
  obtain ⟨d,gd,h | h⟩:=hx
  ·exact ⟨d,gd,htA.one h⟩
  ·exact (htL e h).elim
 have hb2:Below w.heap.size w w2:=HBA.out.trans (hws.bl.mono (by omega))
 have HB2:=toHid hb2
 have hg2:=(HE.out.below hb2).g2
 have hpl:=hws.lt
 have E2:=(HE.out.below hb2).up hb2.size
 have HE2:=toHid E2
 clear hws hb2 E2 HSW hx htA htL
 cases lost with
 | true =>
  clear hcv
  go_wp2_with fail
  go_quiet (fail)
  go_wp2_with fail
  go_ret2
  exact ⟨below_drewN _ HB2.out,.inr rfl⟩
 | false =>
  go_wp2_with fail
  refine (read_any t a0 a1 w2 HE2.out.lenv).mono ?_
  rintro ev w3 ⟨hb3,⟨m,ss3,k,ba3,bc3,hs6,hlx,hpr,rfl,hR3⟩ | ⟨_,T,q,rfl⟩⟩
  rotate_left
  ·have hb3w:=HB2.out.trans (hb3.mono HB2.out.size)
   have HB3:=toHid hb3w
   have hg3:=(HE.out.below hb3w).g2
   clear hb3 hb3w hg2 t1 t3 hcv
   go_wp2_with fail
   go_quiet (fail)
   go_wp2_with fail
   go_ret2
   exact ⟨below_drewN _ HB3.out,.inr rfl⟩
  have hb3w:=HB2.out.trans (hb3.mono HB2.out.size)
  have HB3:=toHid hb3w
  have HQ:=toHid (eqStmts_all (lc:=bc) (kc:=bc3) (HR.out.toV.same (S':=S) (same_below hb3w) (fun b h _=>h)) hR3.toV HKK.out (read_fit hs6 hlx hpr).1)
  have HLX:=toHid hlx
  have HPR:=toHid hpr
  clear hb3 hb3w hg2 t1 t3 hcv hR3 hlx hpr
  go_wp2_with fail
  refine HQ.out.mono ?_
  rintro ev w4 ⟨b,rfl,hbe,hb4⟩
  have hb4w:=HB3.out.trans (hb4.mono HB3.out.size)
  have HB4:=toHid hb4w
  have hg4:=(HE.out.below hb4w).g2
  have HBE:=toHid hbe
  clear hb4 hb4w hbe
  cases b with
  | false =>
   go_wp2_with fail
   go_quiet (fail)
   go_wp2_with fail
   go_ret2
   exact ⟨below_drewN _ HB4.out,.inr rfl⟩
  | true =>
   go_wp2_with fail
   go_ret2
   have hpr4:pRead m = .ok ([mkS kRaise ⟨#[]⟩ [] [e] [] []],k):=by
    rw [HBE.out (by first | rfl | trivial)]
    exact HPR.out
   obtain ⟨d,gd,rfl⟩:=HTX.out (by first | rfl | trivial)
   refine ⟨HB4.out,.inl ⟨_,d.data.toList,m,k,rfl,by simp [raiseB,raiseC],?_,ht6,HLX.out,hpr4⟩⟩
   refine gd ?_
   have h1:=read_cq (fun x hx hs=>neat_plain (lexP_tx HLX.out x hx hs)) hpr4
   have h2:=h1 (mkS kRaise ⟨#[]⟩ [] [e] [] []) (List.mem_singleton.2 rfl)
   obtain ⟨D,hD⟩:∃ D,12*(m.length+1)=D+1:=⟨12*m.length+11,by omega⟩
   rw [hD] at h2
   obtain ⟨kd,nm,pl,el,bd,es,hd,_,_,_,h4,_⟩:=h2
   obtain ⟨rfl,rfl,rfl,rfl,rfl,rfl⟩:=mkS_inj hd
   exact h4 e (by simp)
end Go.Proofs.YtknjeecjhahbaaaGreatDoor
