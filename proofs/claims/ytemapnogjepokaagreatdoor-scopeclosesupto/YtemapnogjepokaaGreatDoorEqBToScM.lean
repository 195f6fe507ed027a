/- Package tree: two statements of which sameStmt says so are the same; it ends. -/
import Derived.Test.YtemapnogjepokaaGreatDoorBackWToEqA
import Derived.Test.YtemapnogjepokaaGreatDoorScHToWeiA
import Derived.Test.YtemapnogjepokaaGreatDoorWrtNToWrtQ
import Derived.Test.YtemapnogjepokaaGreatDoorScJToWrtA
import Derived.Test.YtemapnogjepokaaGreatDoorScEToScO
namespace Go.Proofs.YtemapnogjepokaaGreatDoor
open Go.RowKit

def EqSt (n:Nat):Prop:=∀ (S S':Nat→Prop) (w:World) (c0 c1 c2 c3 c4 c5 d0 d1 d2 d3 d4 d5:Value) (e e':DataW Unit),repVS S w n [c0,c1,c2,c3,c4,c5] e→repVS S' w n [d0,d1,d2,d3,d4,d5] e'→OkS 2000000 e→OkS 2000000 e'→Calls Tryz.prog 27 #[.agg #[c0,c1,c2,c3,c4,c5],.agg #[d0,d1,d2,d3,d4,d5]] w fun ev w' => ∃ b,ev = .returned (.bool b)∧(b=true→e=e')∧Below w.heap.size w w'
def EqSL (n:Nat):Prop:=∀ (S S':Nat→Prop) (w:World) (la ka:Option Addr) (lc kc:Nat) (el el':List (DataW Unit)),rowS S w (repVS S w n) la el→rowS S' w (repVS S' w n) ka el'→OkSL 2000000 el→OkSL 2000000 el'→Calls Tryz.prog 26 #[.slice la el.length lc,.slice ka el'.length kc,.func (.func 27) #[] #[]] w fun ev w' => ∃ b,ev = .returned (.bool b)∧(b=true→el=el')∧Below w.heap.size w w'
theorem okS_parts {N:Nat}{kd nm:ByteArray}{pl:List ByteArray}{el bd es:List (DataW Unit)}(hk:OkS N (mkS kd nm pl el bd es)):pl.length≤N∧OkTL N el∧OkSL N bd∧OkSL N es:=by
 obtain ⟨m,hm⟩:=hk
 cases m with
 | zero=>exact hm.elim
 | succ m =>
  obtain ⟨_,_,_,_,_,_,hd2,q1,q2,q3,q4,q5,q6⟩:=hm
  obtain ⟨rfl,rfl,rfl,rfl,rfl,rfl⟩:=mkS_inj hd2
  exact ⟨q1,q2,⟨q3,fun e he=>⟨m,q5 e he⟩⟩,q4,fun e he=>⟨m,q6 e he⟩⟩
set_option maxHeartbeats 8000000 in
set_option maxRecDepth 100000 in
theorem sameStmt_two (n:Nat) (hA:EqSL n):EqSt (n+1):=by
 intro S S' w c0 c1 c2 c3 c4 c5 d0 d1 d2 d3 d4 d5 e e' h h' hk hk'
 obtain ⟨kd,nm,pl,el,bd,es,pa,la,ba,ea,pc,lc,bc,ec,rfl,hcs,h1,h2,h3,h4⟩:=h
 obtain ⟨kd',nm',pl',el',bd',es',pa',la',ba',ea',pc',lc',bc',ec',rfl,hcs',h1',h2',h3',h4'⟩:=h'
 simp only [List.cons.injEq,and_true] at hcs hcs'
 obtain ⟨rfl,rfl,rfl,rfl,rfl,rfl⟩:=hcs
 obtain ⟨rfl,rfl,rfl,rfl,rfl,rfl⟩:=hcs'
 obtain ⟨hp,hT,hB,hC⟩:=okS_parts hk
 obtain ⟨hp',hT',hB',hC'⟩:=okS_parts hk'
 clear hk hk'
 obtain ⟨wE,hE⟩:∃ wE,wE=(w.alloc (.cells #[.string kd,.string nm,.slice pa pl.length pc,.slice la el.length lc,.slice ba bd.length bc,.slice ea es.length ec] 52)).alloc (.cells #[.string kd',.string nm',.slice pa' pl'.length pc',.slice la' el'.length lc',.slice ba' bd'.length bc',.slice ea' es'.length ec'] 52):=⟨_,rfl⟩
 have hb0:Below w.heap.size w wE:=by rw [hE];exact ((Below.refl _ _).alloc (Nat.le_refl _) _).alloc (by simp) _
 have hs0:wE.heap.size=w.heap.size+2:=by rw [hE];simp
 have e0:wE.heap[w.heap.size]?=some (.cells #[.string kd,.string nm,.slice pa pl.length pc,.slice la el.length lc,.slice ba bd.length bc,.slice ea es.length ec] 52):=by rw [hE];exact (Below.heap_alloc _ _ _ (by simp)).trans (heap_alloc_new w _)
 have f0:wE.heap[w.heap.size+1]?=some (.cells #[.string kd',.string nm',.slice pa' pl'.length pc',.slice la' el'.length lc',.slice ba' bd'.length bc',.slice ea' es'.length ec'] 52):=by
  rw [hE]
  have h:=heap_alloc_new (w.alloc (.cells #[.string kd,.string nm,.slice pa pl.length pc,.slice la el.length lc,.slice ba bd.length bc,.slice ea es.length ec] 52)) (.cells #[.string kd',.string nm',.slice pa' pl'.length pc',.slice la' el'.length lc',.slice ba' bd'.length bc',.slice ea' es'.length ec'] 52)
  simpa using h
 have HT:=toHid (eqStr_two (S:=S) (S':=S') pl pl' pa pa' pc pc' hp hp' wE (h1.same (same_below hb0) (fun b h _=>h)) (h1'.same (same_below hb0) (fun b h _=>h)))
 /- the cells of the two,later on -/
 have HCE:Hid (∀ W,Below wE.heap.size wE W→W.cell? ⟨w.heap.size,3,none⟩=some (.slice la el.length lc)∧W.cell? ⟨w.heap.size+1,3,none⟩=some (.slice la' el'.length lc')∧W.cell? ⟨w.heap.size,4,none⟩=some (.slice ba bd.length bc)∧W.cell? ⟨w.heap.size+1,4,none⟩=some (.slice ba' bd'.length bc')∧W.cell? ⟨w.heap.size,5,none⟩=some (.slice ea es.length ec)∧W.cell? ⟨w.heap.size+1,5,none⟩=some (.slice ea' es'.length ec')):=fun W hW=>by
  have e1:=(hW.block w.heap.size (by omega)).trans e0
  have f1:=(hW.block (w.heap.size+1) (by omega)).trans f0
  refine ⟨?_,?_,?_,?_,?_,?_⟩
  ·rw [cell_of_row _ _ 3 _ _ _ e1];rfl
  ·rw [cell_of_row _ _ 3 _ _ _ f1];rfl
  ·rw [cell_of_row _ _ 4 _ _ _ e1];rfl
  ·rw [cell_of_row _ _ 4 _ _ _ f1];rfl
  ·rw [cell_of_row _ _ 5 _ _ _ e1];rfl
  ·rw [cell_of_row _ _ 5 _ _ _ f1];rfl
 have HQ1:=toHid (fun W (hW:Below w.heap.size w W)=>eqExprs_all (lc:=lc) (kc:=lc') (h2.same (same_below hW) (fun b h _=>h)) (h2'.same (same_below hW) (fun b h _=>h)) hT hT')
 have HQ2:=toHid (fun W (hW:Below w.heap.size w W)=>hA S S' W ba ba' bc bc' bd bd' (h3.same (same_below hW) (fun b h _=>h) (repVS_same (same_below hW) (fun b h _=>h) n)) (h3'.same (same_below hW) (fun b h _=>h) (repVS_same (same_below hW) (fun b h _=>h) n)) hB hB')
 have HQ3:=toHid (fun W (hW:Below w.heap.size w W)=>hA S S' W ea ea' ec ec' es es' (h4.same (same_below hW) (fun b h _=>h) (repVS_same (same_below hW) (fun b h _=>h) n)) (h4'.same (same_below hW) (fun b h _=>h) (repVS_same (same_below hW) (fun b h _=>h) n)) hC hC')
 have HB0:=toHid hb0
 have HE:=toHid hE
 have HS0:=toHid hs0
 clear hb0 e0 f0 hA h1 h1' h2 h2' h3 h3' h4 h4' hT hT' hB hB' hC hC' hE hs0 hp hp'
 go_enter Tryz.func27,Tryz.ntmps27
 cases hq:(kd.toList == kd'.toList) with
 | false =>
  go_wp2_with fail
  go_ret
  rw [←HE.out]
  exact ⟨false,rfl,(fun h=>by cases h),HB0.out⟩
 | true =>
  cases hq2:(nm.toList == nm'.toList) with
  | false =>
   go_wp2_with fail
   go_ret
   rw [←HE.out]
   exact ⟨false,rfl,(fun h=>by cases h),HB0.out⟩
  | true =>
   go_wp2_with fail
   rw [←HE.out]
   refine HT.out.mono ?_
   rintro ev w1 ⟨b,rfl,hbe,hb1⟩
   obtain ⟨k3,m3,_,_,_,_⟩:=HCE.out w1 hb1
   have HU1:=toHid hb1
   have HW1:Hid (Below w.heap.size w w1):=HB0.out.trans (hb1.mono HB0.out.size)
   have HBE:=toHid hbe
   clear hb1 hbe HT
   cases b with
   | false =>
    go_wp2_with fail
    go_ret
    exact ⟨false,rfl,(fun h=>by cases h),HW1.out⟩
   | true =>
    have kl:=lt_of_cell k3
    have ml:=lt_of_cell m3
    go_wp2_with fail
    refine (HQ1.out _ HW1.out).mono ?_
    rintro ev w2 ⟨b,rfl,hbe,hb2⟩
    have HU2:=toHid (HU1.out.trans (hb2.mono HU1.out.size))
    have HW2:=toHid (HW1.out.trans (hb2.mono HW1.out.size))
    obtain ⟨_,_,k4,m4,_,_⟩:=HCE.out w2 HU2.out
    have HLE:=toHid hbe
    clear hb2 hbe k3 m3 kl ml
    cases b with
    | false =>
     go_wp2_with fail
     go_ret
     exact ⟨false,rfl,(fun h=>by cases h),HW2.out⟩
    | true =>
     have kl:=lt_of_cell k4
     have ml:=lt_of_cell m4
     go_wp2_with fail
     refine (HQ2.out _ HW2.out).mono ?_
     rintro ev w3 ⟨b,rfl,hbe,hb3⟩
     have HU3:=toHid (HU2.out.trans (hb3.mono HU2.out.size))
     have HW3:=toHid (HW2.out.trans (hb3.mono HW2.out.size))
     obtain ⟨_,_,_,_,k5,m5⟩:=HCE.out w3 HU3.out
     have HME:=toHid hbe
     clear hb3 hbe k4 m4 kl ml
     cases b with
     | false =>
      go_wp2_with fail
      go_ret
      exact ⟨false,rfl,(fun h=>by cases h),HW3.out⟩
     | true =>
      have kl:=lt_of_cell k5
      have ml:=lt_of_cell m5
      go_wp2_with fail
      refine (HQ3.out _ HW3.out).mono ?_
      rintro ev w4 ⟨b,rfl,hbe,hb4⟩
      have HW4:=toHid (HW3.out.trans (hb4.mono HW3.out.size))
      have HNE:=toHid hbe
      clear hb4 hbe k5 m5 kl ml
      go_wp2_with fail
      go_ret
      refine ⟨b,rfl,fun h => ?_,HW4.out⟩
      rw [bytes_same hq,bytes_same hq2,HBE.out (by first | rfl | trivial),HLE.out (by first | rfl | trivial),HME.out (by first | rfl | trivial),HNE.out h]
set_option maxHeartbeats 8000000 in
set_option maxRecDepth 100000 in
theorem eqStmts_two (n:Nat) (hB:EqSt n):EqSL n:=by
 intro S S' w la ka lc kc el el' h h' hk hk'
 have hn:=hk.1
 by_cases hlen:el.length=el'.length
 ·rw [←hlen]
  have H:=toHid h
  have H':=toHid h'
  have HB:=toHid hB
  have HK:=toHid hk
  have HK':=toHid hk'
  have HL:=toHid hlen
  clear h h' hB hk hk' hlen
  go_enter Tryz.func26,Tryz.ntmps26
  go_wp2_with fail
  go_loopg [17] (el.length+1) (fun gk v17 wr => ∃ j:Nat,gk=el.length+1 - j∧j≤el.length∧v17 = .int .i64 (j:Int)∧Below w.heap.size w wr∧el.take j=el'.take j)
  case atStart=>exact ⟨0,rfl,Nat.zero_le _,rfl,Below.refl _ _,rfl⟩
  case round =>
   obtain ⟨j,hgk,hj,hv,hb,htk⟩:=hrel
   subst hv
   have HG:Hid (gk=el.length+1 - j):=hgk
   have HTK:=toHid htk
   clear hgk htk
   have hj0:(0:Int)≤(j:Int):=by omega
   by_cases hlt:j<el.length
   ·have hI1:(j:Int)<(el.length:Int):=by omega
    obtain ⟨b1,o1,rfl,_,t1⟩:=H.out (by omega)
    obtain ⟨b2,o2,rfl,_,t2⟩:=H'.out (by have:=HL.out;omega)
    obtain ⟨e,he⟩:∃ e,el[j]?=some e:=⟨el[j],by simp [hlt]⟩
    obtain ⟨e',he'⟩:∃ e,el'[j]?=some e:=⟨el'[j]'(by have:=HL.out;omega),by simp⟩
    obtain ⟨c0,c1,c2,c3,c4,c5,x0,x1,x2,x3,x4,x5,hr⟩:=t1 j e he
    obtain ⟨d0,d1,d2,d3,d4,d5,y0,y1,y2,y3,y4,y5,hr'⟩:=t2 j e' he'
    have hr2:=hr
    have hr2':=hr'
    cases n with
    | zero=>exact hr.elim
    | succ n =>
    obtain ⟨kdx,nmx,plx,elx,bdx,esx,pax,lax,bax,eax,pcx,lcx,bcx,ecx,_,hcs,_⟩:=hr2
    obtain ⟨kdy,nmy,ply,ely,bdy,esy,pay,lay,bay,eay,pcy,lcy,bcy,ecy,_,hcs',_⟩:=hr2'
    simp only [List.cons.injEq,and_true] at hcs hcs'
    obtain ⟨rfl,rfl,rfl,rfl,rfl,rfl⟩:=hcs
    obtain ⟨rfl,rfl,rfl,rfl,rfl,rfl⟩:=hcs'
    have hl1:=lt_of_cell x0
    have hl2:=lt_of_cell y0
    have HX:Hid (∀ o v,w.cell? ⟨b1,o,none⟩=some v→wr.cell? ⟨b1,o,none⟩=some v):=fun o v hv=>(hb.cell (p:=⟨b1,o,none⟩) hl1).trans hv
    have HY:Hid (∀ o v,w.cell? ⟨b2,o,none⟩=some v→wr.cell? ⟨b2,o,none⟩=some v):=fun o v hv=>(hb.cell (p:=⟨b2,o,none⟩) hl2).trans hv
    have x0:=HX.out _ _ x0
    have x1:=HX.out _ _ x1
    have x2:=HX.out _ _ x2
    have x3:=HX.out _ _ x3
    have x4:=HX.out _ _ x4
    have x5:=HX.out _ _ x5
    have y0:=HY.out _ _ y0
    have y1:=HY.out _ _ y1
    have y2:=HY.out _ _ y2
    have y3:=HY.out _ _ y3
    have y4:=HY.out _ _ y4
    have y5:=HY.out _ _ y5
    have hk1:=lt_of_cell x0
    have hk2:=lt_of_cell y0
    have hsz:=hb.size
    have HC:=toHid (fun W (hW:Below w.heap.size w W)=>HB.out S S' W _ _ _ _ _ _ _ _ _ _ _ _ e e' (repVS_same (same_below hW) (fun b h _=>h) _ _ _ hr) (repVS_same (same_below hW) (fun b h _=>h) _ _ _ hr') (HK.out.2 e (List.mem_of_getElem? he)) (HK'.out.2 e' (List.mem_of_getElem? he')))
    have HT:=toHid (fun x=>take_grow HTK.out he he' x)
    clear t1 t2 H H' he he' hr hr'
    go_wp2_with fail
    refine (HC.out _ (by first | exact hb | exact hb.alloc hsz _ | exact (hb.alloc hsz _).alloc (by simp;omega) _)).mono ?_
    rintro ev w1 ⟨b,rfl,hbe,hb1⟩
    have HW1:Hid (Below w.heap.size w w1):=by first | exact ((hb.alloc hsz _).alloc (by simp;omega) _).trans (hb1.mono (by simp;omega)) | exact (hb.alloc hsz _).trans (hb1.mono (by simp;omega)) | exact hb.trans (hb1.mono hsz)
    have HBE:=toHid hbe
    clear hb1 hbe
    cases b with
    | false =>
     go_wp2_with fail
     go_ret
     exact ⟨false,rfl,(fun h=>by cases h),HW1.out⟩
    | true =>
     go_wp2_with fail
     go_roundg (el.length+1 - (j+1))
     case measure=>have:=HG.out;omega
     case rel=>exact ⟨j+1,rfl,by omega,by go_num,HW1.out,HT.out (HBE.out (by first | rfl | trivial))⟩
   ·have hje:j=el.length:=by omega
    have HZ:=toHid (take_whole HTK.out hje HL.out)
    clear hje
    go_wp2_with fail
    go_ret
    exact ⟨true,rfl,fun _=>HZ.out,hb⟩
 ·have hI:¬ ((el.length:Int)=(el'.length:Int)):=by omega
  have hn':=hk'.1
  clear h h' hB hk hk' hlen
  go_enter Tryz.func26,Tryz.ntmps26
  go_wp2
  go_ret
  exact ⟨false,rfl,(fun h=>by cases h),Below.refl _ _⟩
theorem eqS_all:∀ n,EqSt n∧EqSL n
 | 0=>⟨fun _ _ _ _ _ _ _ _ _ _ _ _ _ _ _ _ _ h _ _ _=>h.elim,eqStmts_two 0 (fun _ _ _ _ _ _ _ _ _ _ _ _ _ _ _ _ _ h _ _ _=>h.elim)⟩
 | n+1=>⟨sameStmt_two n (eqS_all n).2,eqStmts_two (n+1) (sameStmt_two n (eqS_all n).2)⟩
theorem eqStmts_all {S S':Nat→Prop}{w:World}{la ka:Option Addr}{lc kc:Nat}{el el':List (DataW Unit)}(h:RepVSL S w la el) (h':RepVSL S' w ka el') (hk:OkSL 2000000 el) (hk':OkSL 2000000 el'):Calls Tryz.prog 26 #[.slice la el.length lc,.slice ka el'.length kc,.func (.func 27) #[] #[]] w fun ev w' => ∃ b,ev = .returned (.bool b)∧(b=true→el=el')∧Below w.heap.size w w':=by
 obtain ⟨n,hn⟩:=rowVS_bound h
 obtain ⟨m,hm⟩:=rowVS_bound h'
 exact (eqS_all (max n m)).2 S S' w la ka lc kc el el' (rowS.imp hn (fun cs d=>repVS_more n _ cs d (by omega))) (rowS.imp hm (fun cs d=>repVS_more m _ cs d (by omega))) hk hk'
end Go.Proofs.YtemapnogjepokaaGreatDoor

/- Package tree: Text of any statements: what it answers is read as those statements, or it answers an error. -/
namespace Go.Proofs.YtemapnogjepokaaGreatDoor
open Go.RowKit Go.Lib

structure TwEnv (B:Nat) (a0 a1 a2:Addr) (w:World):Prop where
 lenv:LEnv B a0 a1 w
 g2:w.cell? ⟨1,0,none⟩=some (.iface 214 (.pointer (some a2)))
 b2:1<B
theorem TwEnv.below {B:Nat}{a0 a1 a2:Addr}{w w':World}(E:TwEnv B a0 a1 a2 w) (hb:Below B w w'):TwEnv B a0 a1 a2 w':=⟨E.lenv.below hb,(hb.cell (p:=⟨1,0,none⟩) E.b2).trans E.g2,E.b2⟩
theorem TwEnv.up {B C:Nat}{a0 a1 a2:Addr}{w:World}(E:TwEnv B a0 a1 a2 w) (h:B≤C):TwEnv C a0 a1 a2 w:=⟨E.lenv.up h,E.g2,by have:=E.b2;omega⟩
theorem rank_first (i:Nat) (hi:i<8):∃ t,(rankOps i)[0]?=some t:=by
 iterate 8 (rcases i with _ | i;· exact ⟨_,rfl⟩)
 omega
theorem rkl_of (w:World):RKL (w.heap.size+9) (.slice (some ⟨w.heap.size+8,0,none⟩) 8 8) (rkWorld w):=by
 obtain ⟨_,hs,h⟩:=rk_of w
 obtain ⟨rb,c,e,_,hx⟩:=h (w.heap.size+9) (Nat.le_refl _)
 refine ⟨rb,c,e,?_,fun i hi => ?_⟩
 ·obtain ⟨b,c',h1,_⟩:=hx 0 (by omega)
  have:=lt_of_cell h1
  rw [hs] at this
  exact this
 ·obtain ⟨b,c',h1,_,h3⟩:=hx i hi
  obtain ⟨t,ht⟩:=rank_first i hi
  have:=lt_of_cell (h3 0 t ht)
  rw [hs] at this
  exact ⟨b,c',h1,this,h3⟩
theorem RKL.more {p:Nat}{rk:Value}{w w':World}(h:RKL p rk w) (hb:Below w.heap.size w w'):RKL p rk w':=by
 obtain ⟨rb,c,e,h0,hx⟩:=h
 refine ⟨rb,c,e,h0,fun i hi => ?_⟩
 obtain ⟨b,c',h1,h2,h3⟩:=hx i hi
 exact ⟨b,c',(hb.cell (p:=⟨rb,i,none⟩) (lt_of_cell h1)).trans h1,h2,fun j t hj=>(hb.cell (p:=⟨b,0+j,none⟩) (lt_of_cell (h3 j t hj))).trans (h3 j t hj)⟩
theorem WT.string {p:Nat}{rk:Value}{w1 w:World}(C:WT p rk w1 w):∃ (t:ByteArray) (a:Option Addr) (n c:Nat) (lost:Bool),t.size≤6000∧w.cell? ⟨p,1,none⟩=some (.slice a n c)∧w.cell? ⟨p,3,none⟩=some (.bool lost)∧(convert 75 9 (.slice a n c)).run Tryz.prog w = .ok (.string t) w:=by
 obtain ⟨v,t,tm,lost,hb,ho,h6⟩:=C.blk
 obtain ⟨c0,c1,c2,c3,cf⟩:=four_cells hb
 rcases ho.2 with ⟨rfl,h0⟩ | ⟨g,cap,cur,rfl,_,hg,_,_,_,hx⟩
 ·exact ⟨⟨#[]⟩,none,0,0,lost,by decide,c1,c3,by
   have h:=run_convert_bytes_nil (P:=Tryz.prog) w 75 5 Tryz.underlying75 Tryz.underlying5 0 0 9 Tryz.underlying9
   exact h⟩
 have hs:strOfNums (t.data.toList.map fun c=>(c.toNat:Int))=t:=by
  apply ByteArray.ext
  simp [strOfNums,Function.comp_def]
 refine ⟨t,_,_,cap,lost,h6,c1,c3,?_⟩
 have h:=run_convert_bytes_arg (P:=Tryz.prog) w 75 5 Tryz.underlying75 Tryz.underlying5 g 0 t.size cap (t.data.toList.map fun c=>(c.toNat:Int)) (by simp) (fun i hi=>by
  rw [Nat.zero_add,cell_of_row w g i cur 5 (0,0) hg,←Array.getElem?_toList]
  have e:(cur.toList.take (t.size*1))[i]?=(strCells t)[i]?:=by rw [hx]
  rw [List.getElem?_take,if_pos (by omega)] at e
  rw [e]
  have e3:t.data[i]?=some (t.data[i]'(by simpa using hi)):=by simp
  simp [strCells,e3]) 9 Tryz.underlying9
 rw [hs] at h
 exact h
theorem fs_of {s:ByteArray}{m:List (ByteArray × ByteArray × Nat)}(hs:s.size≤6000) (h:lexP s = .ok (m.length,cellsOf m)):∀ x∈m,Fs x.2.1:=by
 obtain ⟨m',hm1,_,_,_,hshort⟩:=lexP_fine h
 obtain rfl:=cells_inj _ _ hm1
 intro x hx
 have:=hshort x hx
 unfold Fs
 omega
theorem read_fit {s:ByteArray}{m:List (ByteArray × ByteArray × Nat)}{ss:List (DataW Unit)}{k:Nat}(hs:s.size≤6000) (h:lexP s = .ok (m.length,cellsOf m)) (hp:pRead m = .ok (ss,k)):OkSL 2000000 ss ∧ ∃ D,D≤1000000000∧ZSL D ss:=by
 have hb:=lexP_bd h
 exact ⟨read_sz (by omega) hp,12*(m.length+1),by omega,read_z (fs_of hs h) hp⟩
set_option maxHeartbeats 8000000 in
set_option maxRecDepth 100000 in
theorem text_two (a0 a1 a2:Addr) (w:World) (E:TwEnv w.heap.size a0 a1 a2 w) (ht:Tabbed w) (S:Nat→Prop) (ba:Option Addr) (bc D:Nat) (ss:List (DataW Unit)) (h:RepWSL S w ba ss) (hk:OkSL 2000000 ss) (hz:ZSL D ss) (hD:D≤1000000000) :
  Calls Tryz.prog 15 #[.slice ba ss.length bc] w fun ev w'=>Below w.heap.size w w'∧((∃ t m k,ev = .returned (.tuple #[.string t,.nilIface])∧t.size≤6000∧lexP t = .ok (m.length,cellsOf m)∧pRead m = .ok (ss,k))∨ev = .returned (.tuple #[.string ⟨#[]⟩,.iface 214 (.pointer (some a2))])):=by
 have HE:=toHid E
 have HT:=toHid ht
 have HR:=toHid h
 have HK:=toHid hk
 have HZ:=toHid hz
 clear E ht h hk hz
 go_enter Tryz.func15,Tryz.ntmps15
 go_wp2_with fail
 refine (ranks_any _).mono ?_
 rintro ev w1 ⟨rfl,hw1⟩
 obtain ⟨hb1,hs1,_⟩:=rk_of w
 have hkl:=rkl_of w
 rw [←hw1] at hb1 hs1 hkl
 clear hw1
 obtain ⟨wA,hA⟩:∃ wA,wA=w1.alloc (.cells #[.slice (some ⟨w.heap.size+8,0,none⟩) 8 8,.slice none 0 0,.int .i64 0,.bool false] 77):=⟨_,rfl⟩
 have hblk:wA.heap[w.heap.size+9]?=some (.cells #[.slice (some ⟨w.heap.size+8,0,none⟩) 8 8,.slice none 0 0,.int .i64 0,.bool false] 77):=by
  have h:=heap_alloc_new w1 (.cells #[.slice (some ⟨w.heap.size+8,0,none⟩) 8 8,.slice none 0 0,.int .i64 0,.bool false] 77)
  rw [hs1,←hA] at h
  exact h
 have hbA1:Below w1.heap.size w1 wA:=by rw [hA];exact (Below.refl _ _).alloc (Nat.le_refl _) _
 have hbA:Below w.heap.size w wA:=hb1.trans (hbA1.mono hb1.size)
 have HWT:Hid (WT (w.heap.size+9) (.slice (some ⟨w.heap.size+8,0,none⟩) 8 8) wA wA):=⟨⟨_,⟨#[]⟩,_,_,hblk,⟨rfl,.inl ⟨rfl,rfl⟩⟩,by decide⟩,Below.refl _ _⟩
 obtain ⟨kt,hsv⟩:=svs_of (p:=w.heap.size+9) (D:=D) (N:=2000000) (by omega) (HR.out.same (S':=fun b=>b<w.heap.size+9) (same_below hbA) (fun b _ hl=>by show b<_;omega)) HK.out HZ.out
 have HSW:=toHid ((sts_all (ranked_all quote_ok (format_ok (p:=w.heap.size+9) HT.out hbA (by omega)) (hkl.more hbA1) kt) D).1 ba ss.length bc hsv (by have:=HK.out.1;omega) 0 (by omega) wA HWT.out)
 have HA:=toHid hA
 have HBA:=toHid hbA
 clear hblk hbA1 hbA hkl hb1 hA hsv
 go_wp2_with fail
 rw [←HA.out]
 refine HSW.out.mono ?_
 rintro ev w2 ⟨rfl,hws⟩
 obtain ⟨t,ta,tn,tc,lost,ht6,t1,t3,hcv⟩:=hws.wt.string
 have hb2:Below w.heap.size w w2:=HBA.out.trans (hws.wt.bl.mono (by omega))
 have HB2:=toHid hb2
 have hg2:=(HE.out.below hb2).g2
 have hpl:=hws.wt.lt
 have E2:=(HE.out.below hb2).up hb2.size
 have HE2:=toHid E2
 clear hws hb2 E2 HSW
 cases lost with
 | true =>
  clear hcv
  go_wp2_with fail
  go_quiet (fail)
  go_wp2_with fail
  go_ret2
  exact ⟨below_drewN _ HB2.out,.inr rfl⟩
 | false =>
  go_wp2_with fail
  refine (read_any t a0 a1 w2 HE2.out.lenv).mono ?_
  rintro ev w3 ⟨hb3,⟨m,ss3,k,ba3,bc3,hs6,hlx,hpr,rfl,hR3⟩ | ⟨_,T,q,rfl⟩⟩
  rotate_left
  ·have hb3w:=HB2.out.trans (hb3.mono HB2.out.size)
   have HB3:=toHid hb3w
   have hg3:=(HE.out.below hb3w).g2
   clear hb3 hb3w hg2 t1 t3 hcv
   go_wp2_with fail
   go_quiet (fail)
   go_wp2_with fail
   go_ret2
   exact ⟨below_drewN _ HB3.out,.inr rfl⟩
  have hb3w:=HB2.out.trans (hb3.mono HB2.out.size)
  have HB3:=toHid hb3w
  have HQ:=toHid (eqStmts_all (lc:=bc) (kc:=bc3) (HR.out.toV.same (S':=S) (same_below hb3w) (fun b h _=>h)) hR3.toV HK.out (read_fit hs6 hlx hpr).1)
  have HLX:=toHid hlx
  have HPR:=toHid hpr
  clear hb3 hb3w hg2 t1 t3 hcv hR3 hlx hpr
  go_wp2_with fail
  refine HQ.out.mono ?_
  rintro ev w4 ⟨b,rfl,hbe,hb4⟩
  have hb4w:=HB3.out.trans (hb4.mono HB3.out.size)
  have HB4:=toHid hb4w
  have hg4:=(HE.out.below hb4w).g2
  have HBE:=toHid hbe
  clear hb4 hb4w hbe
  cases b with
  | false =>
   go_wp2_with fail
   go_quiet (fail)
   go_wp2_with fail
   go_ret2
   exact ⟨below_drewN _ HB4.out,.inr rfl⟩
  | true =>
   go_wp2_with fail
   go_ret2
   refine ⟨HB4.out,.inl ⟨t,m,k,rfl,ht6,HLX.out,?_⟩⟩
   rw [HBE.out (by first | rfl | trivial)]
   exact HPR.out
end Go.Proofs.YtemapnogjepokaaGreatDoor

/- Package scope: find. -/
namespace Go.Proofs.YtemapnogjepokaaGreatDoor
open Go.RowKit Go.Maps

structure Found (B:Nat) (l:List SD) (v:Value) (w:World):Prop where
 sps:SPS B l v w
 pos:0<l.length
 lo:∀ (i:Nat) (x:SD),l[i]?=some x→x.k≤2200000∧x.od.length≤2200000∧x.pn≤2200000 ∧ ∀ s n,x.mk' s n→n<16
 le:l.length≤2200000
theorem FS.start (w:World) (hw:World) (he:hw=w.alloc (.cells #[.slice none 0 0,.int .i64 0,.int .i64 (-1),.slice none 0 0] 58)):FS w.heap.size w.heap.size 0 [] hw∧Below w.heap.size w hw:=by
 have hb:hw.heap[w.heap.size]?=some (.cells #[.slice none 0 0,.int .i64 0,.int .i64 (-1),.slice none 0 0] 58):=by rw [he];exact heap_alloc_new _ _
 refine ⟨⟨⟨_,_,_,_,[],hb,⟨rfl,.inl ⟨rfl,rfl⟩⟩,⟨rfl,.inl ⟨rfl,rfl⟩⟩,by omega,by omega,by simp,fun y hy=>by simp at hy⟩,⟨fun i x hi=>by simp at hi,fun i j x y hi=>by simp at hi⟩,fun i x hi=>by simp at hi,fun i x hi=>by simp at hi,by simp,Nat.le_refl _⟩,?_⟩
 rw [he]
 exact (Below.refl _ _).alloc (Nat.le_refl _) _
set_option maxHeartbeats 8000000 in
set_option maxRecDepth 100000 in
theorem find_any (a0 a1 a2:Addr) (T3:TypeId) (q3:Option Addr) (w:World) (E:TwEnv w.heap.size a0 a1 a2 w) (ht:Tabbed w) (h3:w.cell? ⟨0,0,none⟩=some (.iface T3 (.pointer q3))) (S:Nat→Prop) (ba:Option Addr) (bc D:Nat) (ss:List (DataW Unit)) (h:RepWSL S w ba ss) (hk:OkSL 2000000 ss) (hz:ZSL D ss) (hD:D≤1000000000) (hc:2*costs ss≤2100000) :
  Calls Tryz.prog 10 #[.slice ba ss.length bc] w fun ev w'=>Below w.heap.size w w'∧((∃ B l v,ev = .returned (.tuple #[v,.nilIface])∧w.heap.size≤B∧Found B l v w') ∨ ∃ T q,ev = .returned (.tuple #[.slice none 0 0,.iface T (.pointer q)])):=by
 have HT:=toHid (text_two a0 a1 a2 w E ht S ba bc D ss h hk hz hD)
 have HR:=toHid h.toV
 have HK:=toHid hk
 have HZ:=toHid hz
 have H3:Hid (∀ W,Below w.heap.size w W→W.cell? ⟨0,0,none⟩=some (.iface T3 (.pointer q3))∧0<W.heap.size):=fun W hW=>by
  have:=(hW.cell (p:=⟨0,0,none⟩) (lt_of_cell h3)).trans h3
  exact ⟨this,lt_of_cell this⟩
 clear E ht h hk hz h3
 go_enter Tryz.func10,Tryz.ntmps10
 go_wp2_with fail
 refine HT.out.mono ?_
 clear HT
 rintro ev w1 ⟨hb1,⟨t,m,k,rfl,_,_,_⟩ | rfl⟩
 rotate_left
 ·go_wp2_with fail
  go_ret2
  exact ⟨hb1,.inr ⟨_,_,rfl⟩⟩
 obtain ⟨wF,hwF⟩:∃ wF,wF=w1.alloc (.cells #[.slice none 0 0,.int .i64 0,.int .i64 (-1),.slice none 0 0] 58):=⟨_,rfl⟩
 obtain ⟨hf0,hbF⟩:=FS.start w1 wF hwF
 have HWF:=toHid hwF
 have hs1:=hb1.size
 have hsF:=hbF.size
 have HBF:Hid (Below w.heap.size w wF):=hb1.trans (hbF.mono hs1)
 have HO:=toHid (open_any hf0 hsF ⟨#[]⟩ [] none 0 (fun h=>absurd h (by simp)) (fun x hx=>by simp at hx) (-1) ⟨fun _=>rfl,fun h=>absurd h (by simp)⟩ 0 (Nat.le_refl _) (by simp))
 clear hwF hf0 hbF hb1
 go_wp2_with fail
 rw [←HWF.out]
 refine HO.out.mono ?_
 rintro ev w2 ⟨rfl,hb2,x,hf2⟩
 have hsz2:=hb2.below.size
 have hb2w:Below w.heap.size w w2:=HBF.out.trans (hb2.below.mono hs1)
 have HS:=toHid (stS_all D w1.heap.size w1.heap.size _ _ w2 hf2 (by omega) ba bc ss (HR.out.same (same_below hb2w) (fun b _ hl=>by show b<_;omega)) HK.out HZ.out (by simp;omega) 0 false (by simp))
 have hp2:=hf2.lt
 have HB2:=toHid hb2w
 clear hb2 hf2 hb2w HO
 go_wp2_with fail
 refine HS.out.mono ?_
 rintro ev w3 ⟨rfl,hb3,l3,hl3,hf3⟩
 have hb3w:Below w.heap.size w w3:=HB2.out.trans (hb3.below.mono hs1)
 have hsz3:=hb3.below.size
 have HA:=toHid (askClaims_any hf3 (by omega) (by simp;omega))
 have HB3:=toHid hb3w
 have hp3:=hf3.lt
 clear hb3 hf3 hb3w HS
 go_wp2_with fail
 refine HA.out.mono ?_
 rintro ev w4 ⟨rfl,hb4,hf4⟩
 have hb4w:Below w.heap.size w w4:=HB3.out.trans (hb4.mono hs1)
 obtain ⟨vs,bg,wr,vc,cl,b1,_,_,_,b5,_⟩:=hf4.blk
 obtain ⟨c0,c1,c2,c3,cf⟩:=fin_cells b1
 have hp4:=hf4.lt
 obtain ⟨d3,d3l⟩:=H3.out w4 hb4w
 obtain ⟨vs',e0,hsps⟩:=hf4.sps (by simp;omega)
 obtain rfl:vs=vs':=by
  rw [c0] at e0
  simpa using e0
 have HFD:Hid (Found w1.heap.size l3 vs w4):=⟨hsps,by simp at hl3;omega,fun i x hi=>by
  obtain ⟨a,b,d,e⟩:=hf4.lo i x hi
  simp at a b d
  exact ⟨by omega,by omega,by omega,e⟩,by have:=hf4.len;simp at this;omega⟩
 have HB4:=toHid hb4w
 clear hb4 hf4 b1 cf hb4w hsps e0
 by_cases hw0:0≤wr
 ·go_upto_region 8 with fail
  go_region_held3 (fun W=>W.cell? ⟨w1.heap.size,2,none⟩=some (.int .i64 wr)∧W.cell? ⟨0,0,none⟩=some (.iface T3 (.pointer q3))) (first | go_keep) (fail)
  all_goals
   go_wp2_with fail
   go_ret2
   exact ⟨(HB4.out.alloc HB4.out.size _).drew,.inr ⟨_,_,rfl⟩⟩
 ·go_wp2_with fail
  go_ret2
  exact ⟨HB4.out,.inl ⟨w1.heap.size,l3,vs,rfl,hs1,HFD.out⟩⟩
end Go.Proofs.YtemapnogjepokaaGreatDoor
