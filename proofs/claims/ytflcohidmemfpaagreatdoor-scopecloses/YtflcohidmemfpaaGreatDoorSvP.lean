/- The law ScopeCloses by a walk. -/
import Derived.Test.YtflcohidmemfpaaGreatDoorScLawA
import Derived.Test.YtflcohidmemfpaaGreatDoorSvA
import Derived.Test.YtflcohidmemfpaaGreatDoorSvC
import Derived.Deep.QuietTactic
import Derived.BigQuiet
import Derived.Test.YtflcohidmemfpaaGreatDoorSvE
set_option linter.all false
namespace Go.Proofs.YtflcohidmemfpaaGreatDoor
open Go.Proofs.Tryz
open Go.RowKit Go.Maps

theorem Zl9 {B:Nat}{w:World}{v:Value}{xs:List ByteArray} (h:w.ownsRow B 9 1 v xs.length (xs.map Value.string)) (hx:xs.length≤5000000000000) {t:ByteArray} (ht:t∈xs):Calls prog 8 #[v,.string t] w fun ev w'=>ev = .returned (.bool true)∧w'=w:=(Zku h hx t).mono (fun ev w' ⟨e,b,h1,h2⟩=>⟨by rw [h1,h2.2 ht],e⟩)
theorem Zfa {B:Nat}{w:World}{v:Value}{xs:List ByteArray} (h:w.ownsRow B 9 1 v xs.length (xs.map Value.string)) (hx:xs.length≤5000000000000) {t:ByteArray} (ht:t ∉ xs):Calls prog 8 #[v,.string t] w fun ev w'=>ev = .returned (.bool false)∧w'=w:=(Zku h hx t).mono (fun ev w' ⟨e,b,h1,h2⟩=>⟨by
 cases b with
 | false=>exact h1
 | true=>exact absurd (h2.1 rfl) ht,e⟩)
theorem SC.six {B:Nat}{es:List ScE}{v:Value}{w:World} (h:SC B es v w) {g i:Nat}{e:ScE} (hi:es[i]?=some e) (hc:∀ k u,(scC e)[k]?=some u→w.cell? ⟨g,i*6+k,none⟩=some u):∃ b0 t0 b1 t1 b2 t2,(e.v 0 = .slice b0 (e.ls 0).length t0∧e.v 1 = .slice b1 (e.ls 1).length t1∧e.v 2 = .slice b2 (e.ls 2).length t2)∧w.cell? ⟨g,i*6,none⟩=some (.string e.x.nm)∧w.cell? ⟨g,i*6+1,none⟩=some (.int .i64 e.x.ar)∧w.cell? ⟨g,i*6+2,none⟩=some (.int .i64 (e.x.pn:Int))∧w.cell? ⟨g,i*6+3,none⟩=some (.slice b0 (e.ls 0).length t0)∧w.cell? ⟨g,i*6+4,none⟩=some (.slice b1 (e.ls 1).length t1)∧w.cell? ⟨g,i*6+5,none⟩=some (.slice b2 (e.ls 2).length t2):=by
 obtain ⟨b0,t0,h0⟩:=Z1o (h.rows i e hi 0 (by omega))
 obtain ⟨b1,t1,h1⟩:=Z1o (h.rows i e hi 1 (by omega))
 obtain ⟨b2,t2,h2⟩:=Z1o (h.rows i e hi 2 (by omega))
 refine ⟨b0,t0,b1,t1,b2,t2,⟨h0,h1,h2⟩,hc 0 _ rfl,hc 1 _ rfl,hc 2 _ rfl,?_,?_,?_⟩
 ·rw [←h0];exact hc 3 _ rfl
 ·rw [←h1];exact hc 4 _ rfl
 ·rw [←h2];exact hc 5 _ rfl
theorem Scp.up {B:Nat}{es:List ScE}{v:Value}{w:World} (h:Scp B es v w) {i:Nat}{e:ScE} (hi:es[i]?=some e) {s:ByteArray} (hs:s∈e.ls 2):0<i∧s ∉ e.ls 0∧s ∉ e.ls 1 ∧ ∃ (u:Nat) (f:ScE),e.x.ar=(u:Int)∧u<es.length∧es[u]?=some f∧(s∈f.ls 1∨s∈f.ls 2):=by
 obtain ⟨ht,_⟩:=h.told i e hi
 have har:0≤e.x.ar:=by
  rcases Int.lt_or_le e.x.ar 0 with hl | hl
  ·rw [ht.none hl 2 (by omega)] at hs
   simp at hs
  ·exact hl
 have hx:(es.map (·.x))[i]?=some e.x:=by rw [List.getElem?_map,hi];rfl
 obtain ⟨p1,p2,u,y,p3,p4,p5,p6⟩:=h.fr i e.x s hx ((ht.fre har s).1 hs)
 rw [List.getElem?_map] at p5
 cases hf:es[u]? with
 | none=>rw [hf] at p5;cases p5
 | some f =>
  rw [hf] at p5
  cases p5
  obtain ⟨tf,okf⟩:=h.told u f hf
  have haf:0≤f.x.ar:=by
   obtain ⟨u2,_,e2⟩:=(h.ar u f hf).2 p4
   omega
  refine ⟨p1,fun hm => ?_,fun hm => ?_,u,f,p3,(List.getElem?_eq_some_iff.1 hf).1,hf,?_⟩
  ·rw [ht.loc har,List.mem_filter,isL,p2] at hm
   simp at hm
  ·rw [ht.cel har,List.mem_filter,isC,p2] at hm
   simp at hm
  ·rcases p6 with p6 | ⟨p6,p7⟩ | p6
   ·exact .inr ((tf.fre haf s).2 p6)
   ·refine .inl ?_
    rw [tf.cel haf,List.mem_filter]
    refine ⟨(okf.bit s).2.2 ?_,by simp [isC,p6,p7]⟩
    unfold beB at p6
    rw [Bool.and_eq_true] at p6
    exact p6.1
   ·exact p6.elim
theorem Scp.lc {B:Nat}{es:List ScE}{v:Value}{w:World} (h:Scp B es v w) {i:Nat}{e:ScE} (hi:es[i]?=some e) {s:ByteArray} (hs:s∈e.ls 1):s ∉ e.ls 0:=by
 obtain ⟨ht,_⟩:=h.told i e hi
 have har:0≤e.x.ar:=by
  rcases Int.lt_or_le e.x.ar 0 with hl | hl
  ·rw [ht.none hl 1 (by omega)] at hs
   simp at hs
  ·exact hl
 intro hm
 rw [ht.cel har,List.mem_filter] at hs
 rw [ht.loc har,List.mem_filter] at hm
 have h1:=hs.2
 have h2:=hm.2
 unfold isC at h1
 unfold isL at h2
 simp at h1 h2
 simp_all
set_option maxHeartbeats 16000000 in
set_option maxRecDepth 100000 in
theorem scopeCloses_any (a0 a1 a2:Addr) (T3:TypeId) (q3:Option Addr) (w:World) (E:TwEnv w.heap.size a0 a1 a2 w) (ht:Z9a w) (h3:w.cell? ⟨0,0,none⟩=some (.iface T3 (.pointer q3))) (S:Nat→Prop) (ba:Option Addr) (bc:Nat) (ss:List (DataW Unit)) (h:Z31 S w ba ss) (hk:BSL ss) (D:Nat) (hz:ZSL D ss) :
  Calls prog 3 #[.slice ba ss.length bc] w fun ev w'=>ev = .returned (.bool true)∧Below w.heap.size w w':=by
 have HE:=Z01 E
 have HTB:=Z01 ht
 have HR:=Z01 h
 have HK:=Z01 hk
 have HZ:=Z01 hz
 have H3:=Z01 h3
 clear E ht h hk hz h3
 go_enter func3,ntmps3
 go_wp2_with fail
 refine (Zst a0 a1 a2 w HE.out).mono ?_
 rintro ev w1 ⟨rfl,hb1⟩
 have HB1:=Z01 hb1
 have HW:=Z01 (Zoy D S w1 ba bc ss (HR.out.same (Z06 hb1) (fun b h _=>h)) HK.out HZ.out)
 clear hb1
 go_wp2_with fail
 refine HW.out.mono ?_
 rintro ev w2 ⟨x,rfl,hb2⟩
 have HB2:=Z01 (HB1.out.trans (hb2.mono HB1.out.size))
 clear hb2 HW
 by_cases hx:1500<x
 ·go_wp2_with fail
  go_ret
  exact ⟨rfl,HB2.out⟩
 have HOF:=Z01 (Zom S w2 ba bc ss (HR.out.same (Z06 HB2.out) (fun b h _=>h)) HK.out)
 go_wp2_with fail
 refine HOF.out.mono ?_
 rintro ev w3 ⟨ba3,bc3,rfl,hR3,hb3⟩
 have HB3:=Z01 (HB2.out.trans (hb3.mono HB2.out.size))
 have c3:=(HB3.out.cell (p:=⟨0,0,none⟩) (Z02 H3.out)).trans H3.out
 have HSC:=Z01 (Zgn (fun _=>True) True w3 ba3 ss.length bc3 ((Zug a0 a1 a2 T3 q3 w3 ((HE.out.below HB3.out).up HB3.out.size) (HTB.out.below HB3.out (Nat.le_refl _)) c3 _ ba3 bc3 D ss hR3 HK.out HZ.out).mono (fun ev w' hh=>⟨hh.1,hh.2.imp (fun ⟨B,l,v,h1,h2,h3⟩=>⟨B,l,v,h1,h2,h3,trivial⟩) (fun h=>⟨trivial,h⟩)⟩)))
 clear hR3 hb3 HOF c3
 go_wp2_with fail
 refine HSC.out.mono ?_
 clear HSC
 rintro ev w4 ⟨hb4,⟨B,es,v,rfl,hsc,_⟩ | ⟨_,T,q,rfl⟩⟩
 rotate_left
 ·have HB4:=Z01 (HB3.out.trans (hb4.mono HB3.out.size))
  clear hb4
  go_wp2_with fail
  go_ret
  exact ⟨rfl,HB4.out⟩
 have HB4:=Z01 (HB3.out.trans (hb4.mono HB3.out.size))
 obtain ⟨g,cap,rfl,hg,hcl⟩:=hsc.sc.cells hsc.pos
 have HCL:=Z01 hcl
 have hlen:=hsc.len
 have HS:=Z01 hsc
 clear hb4 hsc hcl
 go_wp2_with fail
 go_loopg [6] (es.length+1) (fun gk v6 wr => ∃ i:Nat,gk=es.length+1 - i∧i≤es.length∧v6 = .int .i64 (i:Int)∧Below w4.heap.size w4 wr)
 case atStart=>exact ⟨0,rfl,Nat.zero_le _,rfl,Below.refl _ _⟩
 case round =>
  obtain ⟨i,hgk,hi,rfl,hb⟩:=hrel
  have HG:=Z01 hgk
  have hi0:(0:Int)≤(i:Int):=by omega
  have hbs:=hb.size
  have HB:=Z01 hb
  clear hgk hb
  by_cases hlt:i<es.length
  ·have hI1:(i:Int)<(es.length:Int):=by omega
   obtain ⟨e,he⟩:∃ e,es[i]?=some e:=⟨es[i],by simp [hlt]⟩
   have hsW:=HS.out.sc.below HB.out
   obtain ⟨b0,t0,b1,t1,b2,t2,hsh,y0,y1,y2,y3,y4,y5⟩:=hsW.six he (fun k u hu=>(HB.out.cell (p:=⟨g,i*6+k,none⟩) hg).trans (HCL.out i e he k u hu))
   have hgl:=Z02 y0
   have HE1:=Z01 he
   have HSH:=Z01 hsh
   obtain ⟨wi,hwi⟩:∃ wi,wi=wr:=⟨_,rfl⟩
   subst hwi
   have htold:=(HS.out.told i e he).1
   by_cases hz:i=0
   ·have hm:=(HS.out.ar i e he).1 hz
    subst hz
    have n0:=congrArg List.length (htold.none (by omega) 0 (by omega))
    have n1:=congrArg List.length (htold.none (by omega) 1 (by omega))
    have n2:=congrArg List.length (htold.none (by omega) 2 (by omega))
    rw [List.length_nil] at n0 n1 n2
    rw [n0] at y3
    rw [n1] at y4
    rw [n2] at y5
    rw [hm] at y1
    clear hsW hsh he htold n0 n1 n2 hm hI1
    go_wp2_with fail
    go_loopg [8] 1 (fun _ v8 W=>v8 = .int .i64 0∧Below wi.heap.size wi W∧W.cell? ⟨wi.heap.size,5,none⟩=some (.slice b2 0 t2)∧W.cell? ⟨wi.heap.size,4,none⟩=some (.slice b1 0 t1))
    case atStart=>exact ⟨rfl,(Below.refl _ _).alloc (Nat.le_refl _) _,by rw [cell_of_row _ _ 5 _ _ _ (heap_alloc_new _ _)];rfl,by rw [cell_of_row _ _ 4 _ _ _ (heap_alloc_new _ _)];rfl⟩
    case round =>
     obtain ⟨rfl,hbi,x5,x4⟩:=hrel
     have hl5:=Z02 x5
     have HBI:=Z01 hbi
     clear hbi
     go_wp2_with fail
     go_loopg [10] 1 (fun _ v10 W=>v10 = .int .i64 0∧Below wi.heap.size wi W∧W.cell? ⟨wi.heap.size,4,none⟩=some (.slice b1 0 t1))
     case atStart=>exact ⟨rfl,HBI.out,x4⟩
     case round =>
      obtain ⟨rfl,hbi,x4⟩:=hrel
      have hl4:=Z02 x4
      have HBJ:=Z01 hbi
      clear hbi
      go_wp2_with fail
      go_roundg (es.length+1 - (0+1))
      case measure=>have:=HG.out;omega
      case rel=>exact ⟨0+1,rfl,by omega,by go_num,HB.out.trans (HBJ.out.mono HB.out.size)⟩
   ·obtain ⟨u,hu,hau⟩:=(HS.out.ar i e he).2 (by omega)
    rw [hau] at y1
    have hz1:((i:Int) == 0)=false:=by rw [beq_eq_false_iff_ne];omega
    have hz2:(0:Int)<(i:Int):=by omega
    have hz3:¬ ((u:Int)<0):=by omega
    have hz4:¬ ((i:Int)≤(u:Int)):=by omega
    have HAU:=Z01 hau
    clear hsW hsh he htold hau
    go_wp2_with fail
    obtain ⟨xb,hxb⟩:∃ xb,xb=wi.heap.size:=⟨_,rfl⟩
    go_loopg [8] ((e.ls 2).length+1) (fun gk v8 W => ∃ k:Nat,gk=(e.ls 2).length+1 - k∧k≤(e.ls 2).length∧v8 = .int .i64 (k:Int)∧Below wi.heap.size wi W∧W.heap[wi.heap.size]?=some (.cells #[.string e.x.nm,.int .i64 (u:Int),.int .i64 (e.x.pn:Int),.slice b0 (e.ls 0).length t0,.slice b1 (e.ls 1).length t1,.slice b2 (e.ls 2).length t2] 34))
    case atStart=>exact ⟨0,rfl,Nat.zero_le _,rfl,(Below.refl _ _).alloc (Nat.le_refl _) _,heap_alloc_new _ _⟩
    case round =>
     obtain ⟨k,hgk,hk,rfl,hbi,hxk⟩:=hrel
     obtain ⟨W,hW⟩:∃ W,W=wr:=⟨_,rfl⟩
     subst hW
     have HG2:=Z01 hgk
     have hk0:(0:Int)≤(k:Int):=by omega
     have hl2:=(HS.out.told i e HE1.out).1.len 2 (by omega)
     have x1:W.cell? ⟨wi.heap.size,1,none⟩=some (.int .i64 (u:Int)):=by rw [cell_of_row _ _ 1 _ _ _ hxk];rfl
     have x3:W.cell? ⟨wi.heap.size,3,none⟩=some (.slice b0 (e.ls 0).length t0):=by rw [cell_of_row _ _ 3 _ _ _ hxk];rfl
     have x4:W.cell? ⟨wi.heap.size,4,none⟩=some (.slice b1 (e.ls 1).length t1):=by rw [cell_of_row _ _ 4 _ _ _ hxk];rfl
     have x5:W.cell? ⟨wi.heap.size,5,none⟩=some (.slice b2 (e.ls 2).length t2):=by rw [cell_of_row _ _ 5 _ _ _ hxk];rfl
     have hxl:=Z02 x1
     have HBI:=Z01 hbi
     have HXK:=Z01 hxk
     have HBW:Hid (Below w4.heap.size w4 W):=HB.out.trans (hbi.mono HB.out.size)
     clear hgk hbi hxk
     by_cases hltk:k<(e.ls 2).length
     ·have hI2:(k:Int)<((e.ls 2).length:Int):=by omega
      obtain ⟨s,hs⟩:∃ s,(e.ls 2)[k]?=some s:=⟨(e.ls 2)[k],by simp [hltk]⟩
      have hscW:=HS.out.sc.below HBW.out
      have hr2:=hscW.rows i e HE1.out 2 (by omega)
      rw [HSH.out.2.2] at hr2
      obtain ⟨g2,rfl,_,cs⟩:=Z7i hr2 rfl hs
      obtain ⟨_,hn0,hn1,u',f,hau',hul,hf,hor⟩:=HS.out.up HE1.out (List.mem_of_getElem? hs)
      obtain rfl:u=u':=by have:=HAU.out;omega
      obtain ⟨b0',t0',b1',t1',b2',t2',hsh',z0,z1,z2,z3,z4,z5⟩:=hscW.six hf (fun k u hu=>(HBW.out.cell (p:=⟨g,_*6+k,none⟩) hg).trans (HCL.out _ f hf k u hu))
      have hzl:=Z02 z0
      have HH3:Zap W (.slice b1 (e.ls 1).length t1) s false:=fun W' hW'=>by
       have:=(HS.out.sc.below (HBW.out.trans (hW'.mono HBW.out.size))).rows i e HE1.out 1 (by omega)
       rw [HSH.out.2.1] at this
       exact Zfa this ((HS.out.told i e HE1.out).1.len 1 (by omega)) hn1
      have HH4:Zap W (.slice b0 (e.ls 0).length t0) s false:=fun W' hW'=>by
       have:=(HS.out.sc.below (HBW.out.trans (hW'.mono HBW.out.size))).rows i e HE1.out 0 (by omega)
       rw [HSH.out.1] at this
       exact Zfa this ((HS.out.told i e HE1.out).1.len 0 (by omega)) hn0
      have HA:Zap W (.slice b1' (f.ls 1).length t1') s true∨Zap W (.slice b1' (f.ls 1).length t1') s false∧Zap W (.slice b2' (f.ls 2).length t2') s true:=by
       by_cases hm:s∈f.ls 1
       ·refine .inl (fun W' hW' => ?_)
        have:=(HS.out.sc.below (HBW.out.trans (hW'.mono HBW.out.size))).rows u f hf 1 (by omega)
        rw [hsh'.2.1] at this
        exact Zl9 this ((HS.out.told u f hf).1.len 1 (by omega)) hm
       ·refine .inr ⟨fun W' hW' => ?_,fun W' hW' => ?_⟩
        ·have:=(HS.out.sc.below (HBW.out.trans (hW'.mono HBW.out.size))).rows u f hf 1 (by omega)
         rw [hsh'.2.1] at this
         exact Zfa this ((HS.out.told u f hf).1.len 1 (by omega)) hm
        ·have:=(HS.out.sc.below (HBW.out.trans (hW'.mono HBW.out.size))).rows u f hf 2 (by omega)
         rw [hsh'.2.2] at this
         exact Zl9 this ((HS.out.told u f hf).1.len 2 (by omega)) (hor.resolve_left hm)
      have hp:∀ k',k=k'+1 → ∃ s',W.cell? ⟨g2,k',none⟩=some (.string s')∧s'.data.toList<s.data.toList:=by
       intro k' hkk
       obtain ⟨s',hs'⟩:∃ s',(e.ls 2)[k']?=some s':=⟨(e.ls 2)[k']'(by omega),by simp⟩
       obtain ⟨g2',hg2,_,cs'⟩:=Z7i hr2 rfl hs'
       cases hg2
       refine ⟨s',cs',?_⟩
       have h:=List.pairwise_iff_getElem.1 (HS.out.told i e HE1.out).1.ris k' k (by omega) hltk (by omega)
       rw [(List.getElem?_eq_some_iff.1 hs').2,(List.getElem?_eq_some_iff.1 hs).2] at h
       exact h
      have HARGS:=Z01 (And.intro hul (And.intro (show es.length≤5000000000000 by omega) (And.intro hltk (And.intro hl2 (And.intro x1 (And.intro x3 (And.intro x4 (And.intro x5 (And.intro z0 (And.intro z1 (And.intro z2 (And.intro z3 (And.intro z4 (And.intro z5 (And.intro cs (And.intro hp (And.intro HA (And.intro HH3 HH4))))))))))))))))))
      clear hscW hr2 hs hf hor hsh' hau' y0 y1 y2 y3 y4 y5 z0 z1 z2 z3 z4 z5 HH3 HH4 HA hp cs hn0 hn1
      go_upto_block 3 with fail
      obtain ⟨q1,q2,q3,q4,q5,q6,q7,q8,q9,q10,q11,q12,q13,q14,q15,q16,q17,q18,q19⟩:=HARGS.out
      refine sc_b3 q1 q2 q3 q4 q5 q6 q7 q8 q9 q10 q11 q12 q13 q14 q15 q16 q17 q18 q19 ?_
      clear q1 q2 q3 q4 q5 q6 q7 q8 q9 q10 q11 q12 q13 q14 q15 q16 q17 q18 q19 HARGS
      intro v79 v80 v81 v82 v83 v84 v85 v86 v87 v88 v89 v90 v91 v92 v93 v94 v95 v96 v97 v98 v99 v100 v101 v102 v103 v104 v105 v106 v107 v108 v109 v110 v111 v112 v113 v114 v115 v116 v117 v118 v119 v120 v121 v122 v123 v124 v125 v126 v127 v128 v129 v130 v131 v132 v133 v134 v135 v136 v137 v138 v139 v9 wx hwx
      have HWX:=Z01 hwx
      clear hwx x1 x3 x4 x5
      go_wp2_with fail
      go_roundg ((e.ls 2).length+1 - (k+1))
      case measure=>have:=HG2.out;omega
      case rel=>exact ⟨k+1,rfl,by omega,by go_num,HBI.out.trans (HWX.out.mono HBI.out.size),(HWX.out.block _ (Z00 HXK.out)).trans HXK.out⟩
     ·have hI3:¬ (k:Int)<((e.ls 2).length:Int):=by omega
      clear y0 y1 y2 y3 y4 y5
      go_wp2_with fail
      go_loopg [10] ((e.ls 1).length+1) (fun gk v10 V => ∃ k:Nat,gk=(e.ls 1).length+1 - k∧k≤(e.ls 1).length∧v10 = .int .i64 (k:Int)∧Below wi.heap.size wi V∧V.heap[wi.heap.size]?=some (.cells #[.string e.x.nm,.int .i64 (u:Int),.int .i64 (e.x.pn:Int),.slice b0 (e.ls 0).length t0,.slice b1 (e.ls 1).length t1,.slice b2 (e.ls 2).length t2] 34))
      case atStart=>exact ⟨0,rfl,Nat.zero_le _,rfl,HBI.out,HXK.out⟩
      case round =>
       clear x1 x3 x4 x5 hxl hk hk0 hI3 hltk HG2 HBI HXK HBW
       obtain ⟨k,hgk,hk,rfl,hbi,hxk⟩:=hrel
       obtain ⟨V,hV⟩:∃ V,V=wr:=⟨_,rfl⟩
       subst hV
       have HG2:=Z01 hgk
       have hk0:(0:Int)≤(k:Int):=by omega
       have hl1:=(HS.out.told i e HE1.out).1.len 1 (by omega)
       have x3:V.cell? ⟨wi.heap.size,3,none⟩=some (.slice b0 (e.ls 0).length t0):=by rw [cell_of_row _ _ 3 _ _ _ hxk];rfl
       have x4:V.cell? ⟨wi.heap.size,4,none⟩=some (.slice b1 (e.ls 1).length t1):=by rw [cell_of_row _ _ 4 _ _ _ hxk];rfl
       have hxl:=Z02 x3
       have HBI:=Z01 hbi
       have HXK:=Z01 hxk
       have HBW:Hid (Below w4.heap.size w4 V):=HB.out.trans (hbi.mono HB.out.size)
       clear hgk hbi hxk
       by_cases hltk:k<(e.ls 1).length
       ·have hI2:(k:Int)<((e.ls 1).length:Int):=by omega
        obtain ⟨s,hs⟩:∃ s,(e.ls 1)[k]?=some s:=⟨(e.ls 1)[k],by simp [hltk]⟩
        have hr1:=(HS.out.sc.below HBW.out).rows i e HE1.out 1 (by omega)
        rw [HSH.out.2.1] at hr1
        obtain ⟨g1,rfl,_,cs⟩:=Z7i hr1 rfl hs
        have hn0:=HS.out.lc HE1.out (List.mem_of_getElem? hs)
        have HH4:Zap V (.slice b0 (e.ls 0).length t0) s false:=fun W' hW'=>by
         have:=(HS.out.sc.below (HBW.out.trans (hW'.mono HBW.out.size))).rows i e HE1.out 0 (by omega)
         rw [HSH.out.1] at this
         exact Zfa this ((HS.out.told i e HE1.out).1.len 0 (by omega)) hn0
        have HARGS:=Z01 (And.intro hltk (And.intro hl1 (And.intro x3 (And.intro x4 (And.intro cs HH4)))))
        clear hr1 hs hn0 cs HH4
        go_upto_block 5 with fail
        obtain ⟨q1,q2,q3,q4,q5,q6⟩:=HARGS.out
        refine sc_b5 q1 q2 q3 q4 q5 q6 ?_
        clear q1 q2 q3 q4 q5 q6 HARGS
        intro v147 v148 v149 v150 v151 v152 v153 v154 wx hwx
        have HWX:=Z01 hwx
        clear hwx x3 x4
        go_wp2_with fail
        go_roundg ((e.ls 1).length+1 - (k+1))
        case measure=>have:=HG2.out;omega
        case rel=>exact ⟨k+1,rfl,by omega,by go_num,HBI.out.trans (HWX.out.mono HBI.out.size),(HWX.out.block _ (Z00 HXK.out)).trans HXK.out⟩
       ·have hI3:¬ (k:Int)<((e.ls 1).length:Int):=by omega
        go_wp2_with fail
        go_roundg (es.length+1 - (i+1))
        case measure=>have:=HG.out;omega
        case rel=>exact ⟨i+1,rfl,by omega,by go_num,HBW.out⟩
  ·obtain rfl:i=es.length:=by omega
   go_wp2_with fail
   go_ret
   exact ⟨rfl,HB4.out.trans (HB.out.mono HB4.out.size)⟩
end Go.Proofs.YtflcohidmemfpaaGreatDoor
namespace Go.Proofs.YtflcohidmemfpaaGreatDoor
open Go.Proofs.Tryz
open Go.RowKit

def Zuv : String × DataW Unit := ("nurserypy/api.ErrName", .iface "*errors.errorString" (.ptr (.agg [.lit (.string [110, 117, 114, 115, 101, 114, 121, 112, 121, 58, 32, 110, 97, 109, 101])])))
theorem Zdz : prog.globalNamed "nurserypy/api.ErrName" = some 0 := by kernel_rfl
theorem Zpj:(prog.globals[0]?).map (·.type)=some 27:=by kernel_rfl
theorem Zrz {W:World} (h:laidMet prog [Zuv] W):∃ a:Addr,W.cell? ⟨0,0,none⟩=some (.iface 214 (.pointer (some a))):=by
 obtain ⟨a,s,h1,h2,h3,_⟩:=laid_sentinel h Zdz Zpj underlying27 Zxj underlying214 underlying216 rfl rfl underlying9 Zsf Z9e
 exact ⟨a,by simpa using World.var?_cell Zdz h1 0⟩
end Go.Proofs.YtflcohidmemfpaaGreatDoor
