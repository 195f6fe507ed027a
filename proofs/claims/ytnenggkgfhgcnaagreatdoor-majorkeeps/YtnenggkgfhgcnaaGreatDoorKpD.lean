/- The law's weakOK, by a contract. -/
import Derived.Test.YtnenggkgfhgcnaaGreatDoorKpC
namespace Go.Proofs.YtnenggkgfhgcnaaGreatDoor
open Go.RowKit Go.Maps

def keptN (m n:MD):Nat→List Int
 | 0 => []
 | i+1=>keptN m n i++(if m.K.getD i 0 % 4=0∧m.K.getD i 0≠0∧n.K.getD i 0≠2 then [n.K.getD i 0] else [])
theorem keptN_len (m n:MD):∀ i,(keptN m n i).length≤i
 | 0=>Nat.le_refl _
 | i+1=>by
  unfold keptN
  rw [List.length_append]
  have:=keptN_len m n i
  split <;> simp <;> omega
structure WeakH (m n:MD) (vs us:List Nat) (all:Bool):Prop where
 Sm:m.Shape vs
 m64:MD64 m
 n64:MD64 n
 len:n.K.length=m.K.length
 nop:∀ i,i<m.K.length → ¬ (m.K.getD i 0 % 4=0∧m.K.getD i 0≠0)→n.K.getD i 0=m.K.getD i 0
 led:∀ i,i<m.K.length→n.K.getD i 0=2→(m.K.getD i 0 % 4=0∧m.K.getD i 0≠0)→ledB m vs (m.K.getD i 0)=false
 all':all=true → ∀ i,i<m.K.length→n.K.getD i 0≠2→(m.K.getD i 0 % 4=0∧m.K.getD i 0≠0)→ledB m vs (m.K.getD i 0)=true
 shM:(m.more (keptW m n m.K.length)).Shape vs
 M64:MD64 (m.more (keptW m n m.K.length))
 shN:(n.more (keptN m n m.K.length)).Shape us
 N64:MD64 (n.more (keptN m n m.K.length))
 text:(n.more (keptN m n m.K.length)).textA us=(m.more (keptW m n m.K.length)).textA vs
def WkI (Ba Bb ba bb:Nat) (m n:MD) (i:Nat) (w0 w:World):Prop:=∃ vW vR vK vI vC uW uR uK uI uC,GrR Ba ba (m.more (keptW m n i)) vW vR vK vI vC w∧GrR Bb bb (n.more (keptN m n i)) uW uR uK uI uC w∧(∀ k,kB ba vW vR vK vI vC k → ¬ kB bb uW uR uK uI uC k)∧Below w0.heap.size w0 w
theorem WkI.below {Ba Bb ba bb:Nat}{m n:MD}{i:Nat}{w0 w w':World}(h:WkI Ba Bb ba bb m n i w0 w) (hb:Below w.heap.size w w'):WkI Ba Bb ba bb m n i w0 w':=by
 obtain ⟨vW,vR,vK,vI,vC,uW,uR,uK,uI,uC,h1,h2,h3,h4⟩:=h
 exact ⟨_,_,_,_,_,_,_,_,_,_,h1.below hb,h2.below hb,h3,h4.trans (hb.mono h4.size)⟩
def WkJ (Ba Bb ba bb:Nat) (M N:MD) (w0 w:World):Prop:=∃ vW vR vK vI vC uW uR uK uI uC,GrR Ba ba M vW vR vK vI vC w∧GrR Bb bb N uW uR uK uI uC w∧(∀ k,kB ba vW vR vK vI vC k → ¬ kB bb uW uR uK uI uC k)∧Below w0.heap.size w0 w
theorem WkJ.below {Ba Bb ba bb:Nat}{M N:MD}{w0 w w':World}(h:WkJ Ba Bb ba bb M N w0 w) (hb:Below w.heap.size w w'):WkJ Ba Bb ba bb M N w0 w':=by
 obtain ⟨vW,vR,vK,vI,vC,uW,uR,uK,uI,uC,h1,h2,h3,h4⟩:=h
 exact ⟨_,_,_,_,_,_,_,_,_,_,h1.below hb,h2.below hb,h3,h4.trans (hb.mono h4.size)⟩
theorem WkJ.swap {Ba Bb ba bb:Nat}{M N:MD}{w0 w:World}(h:WkJ Ba Bb ba bb M N w0 w):WkJ Bb Ba bb ba N M w0 w:=by
 obtain ⟨vW,vR,vK,vI,vC,uW,uR,uK,uI,uC,h1,h2,h3,h4⟩:=h
 exact ⟨_,_,_,_,_,_,_,_,_,_,h2,h1,fun k hk h=>h3 k h hk,h4⟩
theorem wkj_next {Ba Bb ba bb g cap:Nat}{M N:MD}{vW vR vK vI vC uW uR uK uI uC:Value}{x:Int}{w0 w W w8:World}(z1:GrR Ba ba M vW vR vK vI vC w) (z2:GrR Bb bb N uW uR uK uI uC w) (z3:∀ k,kB ba vW vR vK vI vC k → ¬ kB bb uW uR uK uI uC k) (z4:Below w0.heap.size w0 w) (hs:w0.heap.size≤Ba)
  (hb:Below w.heap.size w W) (hg:W.grownBy w8 vR.ownBlock) (hgb:vR.ownBlock=some g∨g=W.heap.size) (ho:w8.ownsRow Ba 50 1 (.slice (some ⟨g,0,none⟩) (M.R.length+1) cap) (M.R.length+1) (wordsV M.R ++ [.int .u64 x])) :
  OB 30 ba M.half M.old M.card vW M.used M.top M.oldTop vR vK vI vC w8∧WkJ Ba Bb ba bb (M.more [x]) N w0 (w8.setCell ⟨ba,7,none⟩ (.slice (some ⟨g,0,none⟩) (M.R.length+1) cap)):=by
 obtain ⟨q1,q2,q3,q4⟩:=z1.next hb hg hgb ho
 refine ⟨q1,_,_,_,_,_,_,_,_,_,_,q2,z2.aside q3 (fun k hk h=>z3 k h hk),fun k hk h => ?_,z4.trans (q3.below z4.size (fun k hk hx=>by have:=(z1.lt k hx).1;omega))⟩
 rcases q4 k hk with h1 | h1
 ·exact z3 k h1 h
 ·have:=(z2.lt k h).2;omega
set_option maxHeartbeats 8000000 in
set_option maxRecDepth 100000 in
theorem weakOK_any (p o p' o':Nat) (m n:MD) (vs us:List Nat) (all:Bool) (H:WeakH m n vs us all) (b1:m.W.length≤300000) (b2:m.R.length≤100000) (b3:m.K.length≤100000) (b4:m.I.length≤300000) (b5:m.C.length≤300000) (c1:n.W.length≤300000) (c2:n.R.length≤100000) (c3:n.K.length≤100000) (c4:n.I.length≤300000) (c5:n.C.length≤300000) (w:World) (Rm:RepM p o m w) (Rn:RepM p' o' n w) :
  Calls Tryz.prog 17 #[.pointer (some ⟨p,o,none⟩),.pointer (some ⟨p',o',none⟩),.bool all] w fun ev w'=>ev = .returned (.bool true)∧Below w.heap.size w w':=by
 have HH:=toHid H
 have HRm:=toHid Rm
 have HRn:=toHid Rn
 have ko:=ownOf_gr p o m w Rm b1 (by omega) (by omega) b4 b5
 obtain ⟨_,_,_,_,_,_,M1,_,_,⟨aK,cK,rfl,hcK,fK⟩,_,_⟩:=Rm
 obtain ⟨_,_,_,_,_,_,M2,_,_,⟨aN,cN,rfl,hcN,fN⟩,_,_⟩:=Rn
 have e8:=M1.c8
 have e8':=M2.c8
 rw [H.len] at e8' fN hcN
 have HC0:Hid (∀ W,Below w.heap.size w W→W.cell? ⟨p,o+8,none⟩=some (.slice aK m.K.length cK)∧W.cell? ⟨p',o'+8,none⟩=some (.slice aN m.K.length cN)):=fun W hW=>⟨(hW.cell (p:=⟨p,o+8,none⟩) (lt_of_cell e8)).trans e8,(hW.cell (p:=⟨p',o'+8,none⟩) (lt_of_cell e8')).trans e8'⟩
 have HFK:=toHid fK
 have HFN:=toHid fN
 clear M1 M2 H fK fN hcK hcN
 obtain ⟨L,hL⟩:∃ L,L=m.K.length:=⟨_,rfl⟩
 rw [←hL] at e8 e8' HC0 HFK HFN
 have HL:=toHid hL
 have hLb:L≤100000:=by omega
 clear hL
 go_enter Tryz.func17,Tryz.ntmps17
 go_wp2_with fail
 go_quiet (fail)
 obtain ⟨w1,hw1⟩:∃ w1,w1=w.drewN nq:=⟨_,rfl⟩
 rw [←hw1]
 have B1:Hid (Below w.heap.size w w1):=by rw [hw1];exact below_drewN (Below.refl _ _)
 clear hw1 ko
 have ko:=ownOf_gr p o m w1 (HRm.out.below B1.out) b1 (by omega) (by omega) b4 b5
 clear e8 e8'
 go_wp2_with fail
 refine ko.mono ?_
 clear ko
 rintro ev w2 ⟨ba,vW,vR,vK,vI,vC,rfl,G1,hb2⟩
 have B2:Below w.heap.size w w2:=B1.out.trans (hb2.mono B1.out.size)
 have ko:=ownOf_gr p' o' n w2 (HRn.out.below B2) c1 (by omega) (by omega) c4 c5
 have HG1:=toHid G1
 have HB2:=toHid B2
 clear G1 hb2 B2
 go_wp2_with fail
 refine ko.mono ?_
 clear ko
 rintro ev w3 ⟨bb,uW,uR,uK,uI,uC,rfl,G2,hb3⟩
 have HI0:Hid (WkI w1.heap.size w2.heap.size ba bb m n 0 w w3):=by
  refine ⟨vW,vR,vK,vI,vC,uW,uR,uK,uI,uC,?_,?_,fun k h1 h2 => ?_,HB2.out.trans (hb3.mono HB2.out.size)⟩
  ·show GrR _ _ (m.more []) _ _ _ _ _ _
   rw [more_nil]
   exact HG1.out.below hb3
  ·show GrR _ _ (n.more []) _ _ _ _ _ _
   rw [more_nil]
   exact G2
  ·have:=(HG1.out.lt k h1).2
   have:=(G2.lt k h2).1
   omega
 have hs12:w.heap.size≤w1.heap.size:=B1.out.size
 have hs23:w.heap.size≤w2.heap.size:=HB2.out.size
 clear G2 hb3 HG1 HB2 B1
 go_wp2_with fail
 go_loopg [9] (L+1) (fun gk v9 wr => ∃ i:Nat,gk=L+1 - i∧i≤L∧v9 = .int .i64 (i:Int)∧Hid (WkI w1.heap.size w2.heap.size ba bb m n i w wr))
 case atStart=>exact ⟨0,rfl,Nat.zero_le _,rfl,HI0⟩
 case round =>
  obtain ⟨i,hgk,hi',rfl,hI⟩:=hrel
  have HGK:=toHid hgk
  clear hgk HI0
  have hi0:(0:Int)≤(i:Int):=by omega
  obtain ⟨d8,d8'⟩:=HC0.out wr (by obtain ⟨_,_,_,_,_,_,_,_,_,_,_,_,_,h⟩:=hI.out;exact h)
  by_cases hlt:i<L
  ·have hIL:(i:Int)<(L:Int):=by omega
   obtain ⟨x,hx⟩:∃ x,x=m.K.getD i 0:=⟨_,rfl⟩
   obtain ⟨y,hy⟩:∃ y,y=n.K.getD i 0:=⟨_,rfl⟩
   have hKi:m.K[i]?=some x:=by rw [hx,List.getD_eq_getElem?_getD,List.getElem?_eq_getElem (by have:=HL.out;omega)];rfl
   have hNi:n.K[i]?=some y:=by rw [hy,List.getD_eq_getElem?_getD,List.getElem?_eq_getElem (by have:=HL.out;have:=HH.out.len;omega)];rfl
   have hxr:=HH.out.m64.k x (List.mem_of_getElem? hKi)
   have hyr:=HH.out.n64.k y (List.mem_of_getElem? hNi)
   obtain ⟨gK,oK,rfl,lK,cK'⟩:=HFK.out (by omega)
   obtain ⟨gN,oN,rfl,lN,cN'⟩:=HFN.out (by omega)
   have HCX:Hid (∀ W,Below w.heap.size w W→W.cell? ⟨gK,oK+i,none⟩=some (.int .u64 x)∧W.cell? ⟨gN,oN+i,none⟩=some (.int .u64 y)):=fun W hW=>⟨(hW.cell (p:=⟨gK,oK+i,none⟩) lK).trans (cK' i _ (wordsV_at hKi)),(hW.cell (p:=⟨gN,oN+i,none⟩) lN).trans (cN' i _ (wordsV_at hNi))⟩
   have hnop:=HH.out.nop i (by have:=HL.out;omega)
   have hled:=HH.out.led i (by have:=HL.out;omega)
   have hall:=fun h=>HH.out.all' h i (by have:=HL.out;omega)
   rw [←hx,←hy] at hnop hled hall
   have hkw:keptW m n (i+1)=keptW m n i++(if x % 4=0∧x≠0∧y≠2 then [x] else []):=by rw [hx,hy];rfl
   have hkn:keptN m n (i+1)=keptN m n i++(if x % 4=0∧x≠0∧y≠2 then [y] else []):=by rw [hx,hy];rfl
   have HKW:=toHid hkw
   have HKN:=toHid hkn
   have HNOP:=toHid hnop
   have HLED:=toHid hled
   have HALL:=toHid hall
   clear hx hy hKi hNi cK' cN' hnop hled hall hkw hkn
   obtain ⟨e1,e2⟩:=HCX.out wr (by obtain ⟨_,_,_,_,_,_,_,_,_,_,_,_,_,h⟩:=hI.out;exact h)
   have HBel:Hid (∀ W,WkI w1.heap.size w2.heap.size ba bb m n i w W→Below w.heap.size w W):=fun W h=>by obtain ⟨_,_,_,_,_,_,_,_,_,_,_,_,_,h⟩:=h;exact h
   have hcase:(¬ x % 4=0)∨(x % 4=0∧x=0)∨(x % 4=0∧x≠0∧y=2)∨(x % 4=0∧x≠0∧y≠2):=by omega
   have x0:=hxr.1
   have x1:=hxr.2
   have y0:=hyr.1
   have y1:=hyr.2
   clear hxr hyr
   rcases hcase with h1 | ⟨h1,h2⟩ | ⟨h1,h2,h3⟩ | ⟨h1,h2,h3⟩
   ·have hyx:x=y:=(HNOP.out (fun h=>h1 h.1)).symm
    have hKNO:¬ (x % 4=0∧x≠0∧y≠2):=fun h=>h1 h.1
    have HNO:=toHid hKNO
    clear hKNO
    subst hyx
    go_wp2_with fail
    go_quiet ((go_at_call 37;exact Calls.quiet_of_same (constWord0 _)))
    obtain ⟨w8,hw8⟩:∃ w8,w8=wr.drewN nq:=⟨_,rfl⟩
    have hI8:Hid (WkI w1.heap.size w2.heap.size ba bb m n i w w8):=by rw [hw8];exact hI.out.below (below_drewN (Below.refl _ _))
    rw [←hw8]
    clear hw8 d8 d8' e1 e2
    obtain ⟨d8,d8'⟩:=HC0.out w8 (HBel.out w8 hI8.out)
    obtain ⟨e1,e2⟩:=HCX.out w8 (HBel.out w8 hI8.out)
    go_wp2_with fail
    go_quiet (fail)
    obtain ⟨w9,hw9⟩:∃ w9,w9=w8.drewN nq:=⟨_,rfl⟩
    have hI9:Hid (WkI w1.heap.size w2.heap.size ba bb m n i w w9):=by rw [hw9];exact hI8.out.below (below_drewN (Below.refl _ _))
    rw [←hw9]
    clear hw9 d8 d8' e1 e2
    obtain ⟨d8,d8'⟩:=HC0.out w9 (HBel.out w9 hI9.out)
    obtain ⟨e1,e2⟩:=HCX.out w9 (HBel.out w9 hI9.out)
    have kr:=reaches_any p o m vs HH.out.Sm HH.out.m64 (by omega) x x0 x1 w9 (HRm.out.below (HBel.out w9 hI9.out))
    obtain ⟨ld,hld⟩:∃ ld,ld=ledB m vs x:=⟨_,rfl⟩
    rw [←hld] at kr
    clear hld
    go_wp2_with fail
    refine kr.mono ?_
    clear kr
    rintro ev w10 ⟨rfl,hb10⟩
    have hI10:Hid (WkI w1.heap.size w2.heap.size ba bb m n i w w10):=hI9.out.below hb10
    clear hb10 d8 d8' e1 e2
    obtain ⟨d8,d8'⟩:=HC0.out w10 (HBel.out w10 hI10.out)
    obtain ⟨e1,e2⟩:=HCX.out w10 (HBel.out w10 hI10.out)
    go_wp2_with fail
    go_roundg (L+1 - (i+1))
    case measure=>have:=HGK.out;omega
    case rel =>
     refine ⟨i+1,rfl,by omega,by go_num,?_⟩
     obtain ⟨vW,vR,vK,vI,vC,uW,uR,uK,uI,uC,z1,z2,z3,z4⟩:=hI10.out
     refine ⟨vW,vR,vK,vI,vC,uW,uR,uK,uI,uC,?_,?_,z3,z4⟩
     ·rw [HKW.out,if_neg HNO.out,List.append_nil];exact z1
     ·rw [HKN.out,if_neg HNO.out,List.append_nil];exact z2
   ·have hyx:x=y:=(HNOP.out (fun h=>h.2 h2)).symm
    have hKNO:¬ (x % 4=0∧x≠0∧y≠2):=fun h=>h.2.1 h2
    have HNO:=toHid hKNO
    clear hKNO
    subst hyx
    subst h2
    go_wp2_with fail
    go_quiet ((go_at_call 37;exact Calls.quiet_of_same (constWord0 _)))
    obtain ⟨w8,hw8⟩:∃ w8,w8=wr.drewN nq:=⟨_,rfl⟩
    have hI8:Hid (WkI w1.heap.size w2.heap.size ba bb m n i w w8):=by rw [hw8];exact hI.out.below (below_drewN (Below.refl _ _))
    rw [←hw8]
    clear hw8 d8 d8' e1 e2
    obtain ⟨d8,d8'⟩:=HC0.out w8 (HBel.out w8 hI8.out)
    obtain ⟨e1,e2⟩:=HCX.out w8 (HBel.out w8 hI8.out)
    go_wp2_with fail
    go_quiet (fail)
    obtain ⟨w9,hw9⟩:∃ w9,w9=w8.drewN nq:=⟨_,rfl⟩
    have hI9:Hid (WkI w1.heap.size w2.heap.size ba bb m n i w w9):=by rw [hw9];exact hI8.out.below (below_drewN (Below.refl _ _))
    rw [←hw9]
    clear hw9 d8 d8' e1 e2
    obtain ⟨d8,d8'⟩:=HC0.out w9 (HBel.out w9 hI9.out)
    obtain ⟨e1,e2⟩:=HCX.out w9 (HBel.out w9 hI9.out)
    have kr:=reaches_any p o m vs HH.out.Sm HH.out.m64 (by omega) 0 x0 x1 w9 (HRm.out.below (HBel.out w9 hI9.out))
    obtain ⟨ld,hld⟩:∃ ld,ld=ledB m vs 0:=⟨_,rfl⟩
    rw [←hld] at kr
    clear hld
    go_wp2_with fail
    refine kr.mono ?_
    clear kr
    rintro ev w10 ⟨rfl,hb10⟩
    have hI10:Hid (WkI w1.heap.size w2.heap.size ba bb m n i w w10):=hI9.out.below hb10
    clear hb10 d8 d8' e1 e2
    obtain ⟨d8,d8'⟩:=HC0.out w10 (HBel.out w10 hI10.out)
    obtain ⟨e1,e2⟩:=HCX.out w10 (HBel.out w10 hI10.out)
    go_wp2_with fail
    go_roundg (L+1 - (i+1))
    case measure=>have:=HGK.out;omega
    case rel =>
     refine ⟨i+1,rfl,by omega,by go_num,?_⟩
     obtain ⟨vW,vR,vK,vI,vC,uW,uR,uK,uI,uC,z1,z2,z3,z4⟩:=hI10.out
     refine ⟨vW,vR,vK,vI,vC,uW,uR,uK,uI,uC,?_,?_,z3,z4⟩
     ·rw [HKW.out,if_neg HNO.out,List.append_nil];exact z1
     ·rw [HKN.out,if_neg HNO.out,List.append_nil];exact z2
   ·have hKNO:¬ (x % 4=0∧x≠0∧y≠2):=fun h=>h.2.2 h3
    have HNO:=toHid hKNO
    have hl0:=HLED.out h3 ⟨h1,h2⟩
    have HL0:=toHid hl0
    clear hKNO hl0
    subst h3
    go_wp2_with fail
    go_quiet ((go_at_call 37;exact Calls.quiet_of_same (constWord0 _)))
    obtain ⟨w8,hw8⟩:∃ w8,w8=wr.drewN nq:=⟨_,rfl⟩
    have hI8:Hid (WkI w1.heap.size w2.heap.size ba bb m n i w w8):=by rw [hw8];exact hI.out.below (below_drewN (Below.refl _ _))
    rw [←hw8]
    clear hw8 d8 d8' e1 e2
    obtain ⟨d8,d8'⟩:=HC0.out w8 (HBel.out w8 hI8.out)
    obtain ⟨e1,e2⟩:=HCX.out w8 (HBel.out w8 hI8.out)
    go_wp2_with fail
    go_quiet (fail)
    obtain ⟨w9,hw9⟩:∃ w9,w9=w8.drewN nq:=⟨_,rfl⟩
    have hI9:Hid (WkI w1.heap.size w2.heap.size ba bb m n i w w9):=by rw [hw9];exact hI8.out.below (below_drewN (Below.refl _ _))
    rw [←hw9]
    clear hw9 d8 d8' e1 e2
    obtain ⟨d8,d8'⟩:=HC0.out w9 (HBel.out w9 hI9.out)
    obtain ⟨e1,e2⟩:=HCX.out w9 (HBel.out w9 hI9.out)
    have kr:=reaches_any p o m vs HH.out.Sm HH.out.m64 (by omega) x x0 x1 w9 (HRm.out.below (HBel.out w9 hI9.out))
    obtain ⟨ld,hld⟩:∃ ld,ld=ledB m vs x:=⟨_,rfl⟩
    rw [←hld] at kr
    have hlf:ld=false:=by rw [hld];exact HL0.out
    subst hlf
    clear hld
    go_wp2_with fail
    refine kr.mono ?_
    clear kr
    rintro ev w10 ⟨rfl,hb10⟩
    have hI10:Hid (WkI w1.heap.size w2.heap.size ba bb m n i w w10):=hI9.out.below hb10
    clear hb10 d8 d8' e1 e2
    obtain ⟨d8,d8'⟩:=HC0.out w10 (HBel.out w10 hI10.out)
    obtain ⟨e1,e2⟩:=HCX.out w10 (HBel.out w10 hI10.out)
    go_wp2_with fail
    go_roundg (L+1 - (i+1))
    case measure=>have:=HGK.out;omega
    case rel =>
     refine ⟨i+1,rfl,by omega,by go_num,?_⟩
     obtain ⟨vW,vR,vK,vI,vC,uW,uR,uK,uI,uC,z1,z2,z3,z4⟩:=hI10.out
     refine ⟨vW,vR,vK,vI,vC,uW,uR,uK,uI,uC,?_,?_,z3,z4⟩
     ·rw [HKW.out,if_neg HNO.out,List.append_nil];exact z1
     ·rw [HKN.out,if_neg HNO.out,List.append_nil];exact z2
   ·have HALd:Hid (all=true→ledB m vs x=true):=fun h=>HALL.out h h3 ⟨h1,h2⟩
    have hyb:(y == 2)=false:=by simpa using h3
    have hxb:(x != 0)=true:=by simpa using h2
    obtain ⟨M,hM⟩:∃ M,M=m.more (keptW m n i):=⟨_,rfl⟩
    obtain ⟨N,hN⟩:∃ N,N=n.more (keptN m n i):=⟨_,rfl⟩
    have hMl:M.R.length≤200000:=by rw [hM];show (m.R++keptW m n i).length≤_;rw [List.length_append];have:=keptW_len m n i;omega
    have hNl:N.R.length≤200000:=by rw [hN];show (n.R++keptN m n i).length≤_;rw [List.length_append];have:=keptN_len m n i;omega
    have HMM:Hid (M.more [x]=m.more (keptW m n (i+1))∧N.more [y]=n.more (keptN m n (i+1))):=by
     rw [hM,hN,more_more,more_more,HKW.out,HKN.out,if_pos ⟨h1,h2,h3⟩,if_pos ⟨h1,h2,h3⟩]
     exact ⟨rfl,rfl⟩
    have HME:=toHid hM
    have HNE:=toHid hN
    clear hM hN
    go_wp2_with fail
    go_quiet ((go_at_call 37;exact Calls.quiet_of_same (constWord0 _)))
    obtain ⟨w8,hw8⟩:∃ w8,w8=wr.drewN nq:=⟨_,rfl⟩
    have hI8:Hid (WkI w1.heap.size w2.heap.size ba bb m n i w w8):=by rw [hw8];exact hI.out.below (below_drewN (Below.refl _ _))
    rw [←hw8]
    clear hw8 d8 d8' e1 e2
    obtain ⟨d8,d8'⟩:=HC0.out w8 (HBel.out w8 hI8.out)
    obtain ⟨e1,e2⟩:=HCX.out w8 (HBel.out w8 hI8.out)
    go_wp2_with fail
    go_quiet (fail)
    obtain ⟨w9,hw9⟩:∃ w9,w9=w8.drewN nq:=⟨_,rfl⟩
    have hI9:Hid (WkI w1.heap.size w2.heap.size ba bb m n i w w9):=by rw [hw9];exact hI8.out.below (below_drewN (Below.refl _ _))
    rw [←hw9]
    clear hw9 d8 d8' e1 e2
    obtain ⟨d8,d8'⟩:=HC0.out w9 (HBel.out w9 hI9.out)
    obtain ⟨e1,e2⟩:=HCX.out w9 (HBel.out w9 hI9.out)
    have kr:=reaches_any p o m vs HH.out.Sm HH.out.m64 (by omega) x x0 x1 w9 (HRm.out.below (HBel.out w9 hI9.out))
    obtain ⟨ld,hld⟩:∃ ld,ld=ledB m vs x:=⟨_,rfl⟩
    rw [←hld] at kr
    have HLD:Hid (all=true→ld=true):=fun h=>by rw [hld];exact HALd.out h
    clear hld HALd
    go_wp2_with fail
    refine kr.mono ?_
    clear kr
    rintro ev w10 ⟨rfl,hb10⟩
    have hI10:Hid (WkI w1.heap.size w2.heap.size ba bb m n i w w10):=hI9.out.below hb10
    clear hb10 d8 d8' e1 e2
    obtain ⟨d8,d8'⟩:=HC0.out w10 (HBel.out w10 hI10.out)
    obtain ⟨e1,e2⟩:=HCX.out w10 (HBel.out w10 hI10.out)
    go_upto_region 13 with fail
    go_cut [120] from 100 to 121 (fun v120 wx=>v120 = .bool false∧wx=w10)
    case first =>
     cases all with
     | false =>
      go_wp2_with fail
      go_meet
      exact ⟨rfl,rfl⟩
     | true =>
      have hlt1:=HLD.out rfl
      subst hlt1
      go_wp2_with fail
      go_meet
      exact ⟨rfl,rfl⟩
    case rest =>
    obtain ⟨rfl,hwc⟩:=hcut
    rw [hwc]
    clear hwc wc HLD
    go_upto_region 16 with fail
    have hJ:Hid (WkJ w1.heap.size w2.heap.size ba bb M N w w10):=by rw [HME.out,HNE.out];exact hI10.out
    obtain ⟨vW,vR,vK,vI,vC,uW,uR,uK,uI,uC,z1,z2,z3,z4⟩:=hJ.out
    have hrow:=z1.1.2.2.2.1
    obtain ⟨aR,cR,rfl⟩:=own_slice hrow
    have hob:=z1.1.2.1
    have c7:w10.cell? ⟨ba,7,none⟩=some (.slice aR M.R.length cR):=by rw [cell_of_row _ _ _ _ _ _ hob];rfl
    have lba:ba<w10.heap.size:=lt_of_heap hob
    have nba:¬ w10.heap.size=ba:=by omega
    have nba':¬ ba=w10.heap.size:=by omega
    have hBle:w1.heap.size≤w10.heap.size:=by have:=z1.1.1;omega
    have hbaB:w.heap.size≤ba:=Nat.le_trans (by omega) z1.1.1
    have ngK:¬ gK=w10.heap.size:=by have:=lt_of_cell e1;omega
    have nP:¬ p=w10.heap.size:=by have:=lt_of_cell d8;omega
    have hzB:=z4.size
    have keepB:∀ {W:World},Below w.heap.size w W→W.cell? ⟨p,o+8,none⟩=some (.slice (some ⟨gK,oK,none⟩) L cK)∧W.cell? ⟨gK,oK+i,none⟩=some (.int .u64 x):=fun h=>⟨(HC0.out _ h).1,(HCX.out _ h).1⟩
    have keepC:∀ {W:World}{v:Value},Below w.heap.size w W→(W.setCell ⟨ba,7,none⟩ v).cell? ⟨p,o+8,none⟩=some (.slice (some ⟨gK,oK,none⟩) L cK)∧(W.setCell ⟨ba,7,none⟩ v).cell? ⟨gK,oK+i,none⟩=some (.int .u64 x):=fun h=>keepB (h.setCell hbaB _)
    have keepA:∀ {ob':Obj},(w10.alloc ob').drew.cell? ⟨p,o+8,none⟩=some (.slice (some ⟨gK,oK,none⟩) L cK)∧(w10.alloc ob').drew.cell? ⟨gK,oK+i,none⟩=some (.int .u64 x):=keepB (z4.alloc z4.size _).drew
    have gBA:∀ {ob':Obj}{W8:World},((w10.alloc ob').drew).grownBy W8 (Value.slice aR M.R.length cR).ownBlock→Below w.heap.size w W8:=fun hg=>((z4.alloc z4.size _).drew).grown hg (by have:=z4.size;simp;omega) (fun k hk=>Nat.le_trans (by omega) (own_lt2 hrow k hk).1)
    have qA7:∀ {W:World},OB 30 ba M.half M.old M.card vW M.used M.top M.oldTop (.slice aR M.R.length cR) vK vI vC W→W.cell? ⟨ba,7,none⟩=some (.slice aR M.R.length cR):=fun h=>by rw [cell_of_row _ _ _ _ _ _ h];rfl
    have qAf:∀ {W:World},OB 30 ba M.half M.old M.card vW M.used M.top M.oldTop (.slice aR M.R.length cR) vK vI vC W→W.frozen? ⟨ba,7,none⟩=false:=fun h=>by simp [World.frozen?,h]
    have hJn:=fun {g cap:Nat}{W w8:World} hb hg hat ho=>wkj_next (g:=g) (cap:=cap) (x:=x) (W:=W) (w8:=w8) z1 z2 z3 z4 (by omega) hb hg hat ho
    obtain ⟨i0,hi0,hz0,hz1,hz2⟩:=infoU64
    have HZ:=toHid (⟨z1,z2,z3,z4⟩:GrR w1.heap.size ba M vW (.slice aR M.R.length cR) vK vI vC w10∧GrR w2.heap.size bb N uW uR uK uI uC w10∧(∀ k,kB ba vW (.slice aR M.R.length cR) vK vI vC k → ¬ kB bb uW uR uK uI uC k)∧Below w.heap.size w w10)
    clear z1 z2 z3 z4 hob
    go_cut [] from 126 to 142 (fun wx=>Hid (WkJ w1.heap.size w2.heap.size ba bb (M.more [x]) N w wx))
    case first =>
     refine wp_region_held_drew (S:=(fun W=>W.cell? ⟨p,o+8,none⟩=some (.slice (some ⟨gK,oK,none⟩) L cK)∧W.cell? ⟨gK,oK+i,none⟩=some (.int .u64 x))) (by kernel_rfl) ⟨d8,e1⟩ (fun hHeld => ?_)
     refine wpAnyH_take (i:=0) (oi:={ dst:=some 126,op:=_,type:=_,pos:=_,after:=_,guard:=_ }) (v:=?v0) rfl (by kernel_rfl) (by kernel_rfl) (by kernel_rfl) (fun _ _ _ h=>h) (Or.inl ⟨by rfl,?y0⟩) hHeld ?r0
     case y0=>(intro wz hSw;(try dsimp only at hSw);go_simp;try with_reducible rfl)
     case r0 =>
     try simp only [Act.put,List.setIfInBounds_toArray,List.set_cons_zero,List.set_cons_succ]
     refine wpAnyH_take (i:=1) (oi:={ dst:=some 127,op:=_,type:=_,pos:=_,after:=_,guard:=_ }) (v:=?v1) rfl (by kernel_rfl) (by kernel_rfl) (by kernel_rfl) (fun _ _ _ h=>h) (Or.inl ⟨by rfl,?y1⟩) hHeld ?r1
     case y1=>(intro wz hSw;(try dsimp only at hSw);go_simp;try with_reducible rfl)
     case r1 =>
     try simp only [Act.put,List.setIfInBounds_toArray,List.set_cons_zero,List.set_cons_succ]
     refine wpAnyH_take (i:=2) (oi:={ dst:=some 128,op:=_,type:=_,pos:=_,after:=_,guard:=_ }) (v:=?v2) rfl (by kernel_rfl) (by kernel_rfl) (by kernel_rfl) (fun _ _ _ h=>h) (Or.inl ⟨by rfl,?y2⟩) hHeld ?r2
     case y2=>(intro wz hSw;(try dsimp only at hSw);go_simp;try with_reducible rfl)
     case r2 =>
     try simp only [Act.put,List.setIfInBounds_toArray,List.set_cons_zero,List.set_cons_succ]
     refine wpAnyH_take (i:=3) (oi:={ dst:=some 129,op:=_,type:=_,pos:=_,after:=_,guard:=_ }) (v:=?v3) rfl (by kernel_rfl) (by kernel_rfl) (by kernel_rfl) (fun _ _ _ h=>h) (Or.inl ⟨by rfl,?y3⟩) hHeld ?r3
     case y3=>(intro wz hSw;(try dsimp only at hSw);go_simp;try with_reducible rfl)
     case r3 =>
     try simp only [Act.put,List.setIfInBounds_toArray,List.set_cons_zero,List.set_cons_succ]
     refine wpAnyH_take (i:=5) (oi:={ dst:=some 131,op:=_,type:=_,pos:=_,after:=_,guard:=_ }) (v:=?v4) rfl (by kernel_rfl) (by kernel_rfl) (by kernel_rfl) (fun _ _ _ h=>h) (Or.inl ⟨by rfl,?y4⟩) hHeld ?r4
     case y4=>(intro wz hSw;(try dsimp only at hSw);go_simp;try with_reducible rfl)
     case r4 =>
     try simp only [Act.put,List.setIfInBounds_toArray,List.set_cons_zero,List.set_cons_succ]
     refine wpAnyH_take (i:=6) (oi:={ dst:=some 132,op:=_,type:=_,pos:=_,after:=_,guard:=_ }) (v:=?v5) rfl (by kernel_rfl) (by kernel_rfl) (by kernel_rfl) (fun _ _ _ h=>h) (Or.inl ⟨by rfl,?y5⟩) hHeld ?r5
     case y5=>(intro wz hSw;(try dsimp only at hSw);go_simp;try with_reducible rfl)
     case r5 =>
     try simp only [Act.put,List.setIfInBounds_toArray,List.set_cons_zero,List.set_cons_succ]
     refine wpAnyH_take (i:=7) (oi:={ dst:=some 133,op:=_,type:=_,pos:=_,after:=_,guard:=_ }) (v:=?v6) rfl (by kernel_rfl) (by kernel_rfl) (by kernel_rfl) (fun _ _ _ h=>h) (Or.inl ⟨by rfl,?y6⟩) hHeld ?r6
     case y6=>(intro wz hSw;(try dsimp only at hSw);go_simp;try with_reducible rfl)
     case r6 =>
     try simp only [Act.put,List.setIfInBounds_toArray,List.set_cons_zero,List.set_cons_succ]
     refine wpAnyH_take (i:=8) (oi:={ dst:=some 134,op:=_,type:=_,pos:=_,after:=_,guard:=_ }) (v:=?v7) rfl (by kernel_rfl) (by kernel_rfl) (by kernel_rfl) (fun _ _ _ h=>h) (Or.inl ⟨by rfl,?y7⟩) hHeld ?r7
     case y7=>(intro wz hSw;(try dsimp only at hSw);go_simp;try with_reducible rfl)
     case r7 =>
     try simp only [Act.put,List.setIfInBounds_toArray,List.set_cons_zero,List.set_cons_succ]
     refine wpAnyH_take (i:=9) (oi:={ dst:=some 135,op:=_,type:=_,pos:=_,after:=_,guard:=_ }) (v:=?v8) rfl (by kernel_rfl) (by kernel_rfl) (by kernel_rfl) (fun _ _ _ h=>h) (Or.inl ⟨by rfl,?y8⟩) hHeld ?r8
     case y8=>(intro wz hSw;(try dsimp only at hSw);go_simp;try with_reducible rfl)
     case r8 =>
     try simp only [Act.put,List.setIfInBounds_toArray,List.set_cons_zero,List.set_cons_succ]
     refine wpAnyH_take (i:=10) (oi:={ dst:=some 136,op:=_,type:=_,pos:=_,after:=_,guard:=_ }) (v:=?v9) rfl (by kernel_rfl) (by kernel_rfl) (by kernel_rfl) (fun _ _ _ h=>h) (Or.inl ⟨by rfl,?y9⟩) hHeld ?r9
     case y9=>(intro wz hSw;(try dsimp only at hSw);go_simp;try with_reducible rfl)
     case r9 =>
     try simp only [Act.put,List.setIfInBounds_toArray,List.set_cons_zero,List.set_cons_succ]
     refine wpAnyH_take (i:=11) (oi:={ dst:=some 137,op:=_,type:=_,pos:=_,after:=_,guard:=_ }) (v:=?v10) rfl (by kernel_rfl) (by kernel_rfl) (by kernel_rfl) (fun _ _ _ h=>h) (Or.inl ⟨by rfl,?y10⟩) hHeld ?r10
     case y10=>(intro wz hSw;(try dsimp only at hSw);go_simp;try with_reducible rfl)
     case r10 =>
     try simp only [Act.put,List.setIfInBounds_toArray,List.set_cons_zero,List.set_cons_succ]
     refine wpAnyH_ready (rs:=[4,12]) (by kernel_rfl) (by simp) ?_
     refine AllReadyH.cons (o:={ dst:=some 130,op:=_,type:=_,pos:=_,after:=_,guard:=_ }) rfl (fun K hK => ?_) (AllReadyH.cons (o:={ dst:=some 138,op:=_,type:=_,pos:=_,after:=_,guard:=_ }) rfl (fun K hK => ?_) AllReadyH.nil)
     ·skip
      go_simp
      refine hK.out _ _ (hHeld) (fun hHeld => ?_)
      clear hK K
      try simp only [Act.put,List.setIfInBounds_toArray,List.set_cons_zero,List.set_cons_succ]
      refine wpAnyH_ready (rs:=[12]) (by kernel_rfl) (by simp) ?_
      refine AllReadyH.cons (o:={ dst:=some 138,op:=_,type:=_,pos:=_,after:=_,guard:=_ }) rfl (fun K hK => ?_) AllReadyH.nil
      go_simp
      refine hK.out _ _ (keepA) (fun hHeld => ?_)
      clear hK K
      try simp only [Act.put,List.setIfInBounds_toArray,List.set_cons_zero,List.set_cons_succ]
      refine wpAnyH_ready (rs:=[13]) (by kernel_rfl) (by simp) ?_
      refine AllReadyH.cons (o:={ dst:=some 139,op:=_,type:=_,pos:=_,after:=_,guard:=_ }) rfl (fun K hK => ?_) AllReadyH.nil
      refine step_append_lies _ (by rfl) _ _ _ (by rfl) w1.heap.size 50 i0 (.int .u64 0) 1 8 Tryz.underlying26 hi0 hz0 hz1 hz2 rfl (by decide) (.slice aR M.R.length cR) M.R.length (wordsV M.R) rfl (ownsRow_far' hrow (fun g hg=>heap_alloc_old _ _ _ (own_lt2 hrow g hg).2)) ⟨w10.heap.size,0,none⟩ 1 1 [.int .u64 x] rfl rfl (World.news_of_block (cs:=#[.int .u64 x]) (t:=50) (heap_alloc_new _ _)) (fun u hu=>by simp at hu;subst hu;rfl) (by decide) (by unfold maxLen;omega) (by omega) (by simp;omega) _ rfl ?_
      intro g' cap' wA hownA hgrowA hatA hltA
      obtain ⟨qA,sA⟩:=hJn (((Below.refl _ _).alloc (Nat.le_refl _) _).drew) hgrowA hatA hownA
      have c7A:=qA7 qA
      have f7A:=qAf qA
      have HSA:=toHid sA
      have BA:=toHid (gBA hgrowA)
      clear sA hownA hgrowA hatA hltA
      refine hK.out _ _ (keepB BA.out) (fun hHeld => ?_)
      clear hK K
      try simp only [Act.put,List.setIfInBounds_toArray,List.set_cons_zero,List.set_cons_succ]
      refine wpAnyH_take (i:=14) (oi:={ dst:=some 140,op:=_,type:=_,pos:=_,after:=_,guard:=_ }) (v:=?v11) rfl (by kernel_rfl) (by kernel_rfl) (by kernel_rfl) (fun _ _ _ h=>h) (Or.inl ⟨by rfl,?y11⟩) hHeld ?r11
      case y11=>(intro wz hSw;(try dsimp only at hSw);go_simp;try with_reducible rfl)
      case r11 =>
      try simp only [Act.put,List.setIfInBounds_toArray,List.set_cons_zero,List.set_cons_succ]
      refine wpAnyH_take (i:=15) (oi:={ dst:=some 141,op:=_,type:=_,pos:=_,after:=_,guard:=_ }) (v:=?v12) rfl (by kernel_rfl) (by kernel_rfl) (by kernel_rfl) (fun _ _ _ h=>h) (Or.inl ⟨by rfl,?y12⟩) hHeld ?r12
      case y12=>(intro wz hSw;(try dsimp only at hSw);go_simp;try with_reducible rfl)
      case r12 =>
      try simp only [Act.put,List.setIfInBounds_toArray,List.set_cons_zero,List.set_cons_succ]
      refine wpAnyH_ready (rs:=[16]) (by kernel_rfl) (by simp) ?_
      refine AllReadyH.cons (o:={ dst:=none,op:=_,type:=_,pos:=_,after:=_,guard:=_ }) rfl (fun K hK => ?_) AllReadyH.nil
      go_simp
      refine hK.out _ _ (keepC BA.out) (fun hHeld => ?_)
      clear hK K
      try simp only [Act.put,List.setIfInBounds_toArray,List.set_cons_zero,List.set_cons_succ]
      refine wpAnyH_done (by kernel_rfl) ?_ _
      go_wp2_with fail
      go_meet
      exact HSA
     ·skip
      go_simp
      refine hK.out _ _ (keepA) (fun hHeld => ?_)
      clear hK K
      try simp only [Act.put,List.setIfInBounds_toArray,List.set_cons_zero,List.set_cons_succ]
      refine wpAnyH_ready (rs:=[4]) (by kernel_rfl) (by simp) ?_
      refine AllReadyH.cons (o:={ dst:=some 130,op:=_,type:=_,pos:=_,after:=_,guard:=_ }) rfl (fun K hK => ?_) AllReadyH.nil
      go_simp
      refine hK.out _ _ (hHeld) (fun hHeld => ?_)
      clear hK K
      try simp only [Act.put,List.setIfInBounds_toArray,List.set_cons_zero,List.set_cons_succ]
      refine wpAnyH_ready (rs:=[13]) (by kernel_rfl) (by simp) ?_
      refine AllReadyH.cons (o:={ dst:=some 139,op:=_,type:=_,pos:=_,after:=_,guard:=_ }) rfl (fun K hK => ?_) AllReadyH.nil
      refine step_append_lies _ (by rfl) _ _ _ (by rfl) w1.heap.size 50 i0 (.int .u64 0) 1 8 Tryz.underlying26 hi0 hz0 hz1 hz2 rfl (by decide) (.slice aR M.R.length cR) M.R.length (wordsV M.R) rfl (ownsRow_far' hrow (fun g hg=>heap_alloc_old _ _ _ (own_lt2 hrow g hg).2)) ⟨w10.heap.size,0,none⟩ 1 1 [.int .u64 x] rfl rfl (World.news_of_block (cs:=#[.int .u64 x]) (t:=50) (heap_alloc_new _ _)) (fun u hu=>by simp at hu;subst hu;rfl) (by decide) (by unfold maxLen;omega) (by omega) (by simp;omega) _ rfl ?_
      intro g' cap' wA hownA hgrowA hatA hltA
      obtain ⟨qA,sA⟩:=hJn (((Below.refl _ _).alloc (Nat.le_refl _) _).drew) hgrowA hatA hownA
      have c7A:=qA7 qA
      have f7A:=qAf qA
      have HSA:=toHid sA
      have BA:=toHid (gBA hgrowA)
      clear sA hownA hgrowA hatA hltA
      refine hK.out _ _ (keepB BA.out) (fun hHeld => ?_)
      clear hK K
      try simp only [Act.put,List.setIfInBounds_toArray,List.set_cons_zero,List.set_cons_succ]
      refine wpAnyH_take (i:=14) (oi:={ dst:=some 140,op:=_,type:=_,pos:=_,after:=_,guard:=_ }) (v:=?v13) rfl (by kernel_rfl) (by kernel_rfl) (by kernel_rfl) (fun _ _ _ h=>h) (Or.inl ⟨by rfl,?y13⟩) hHeld ?r13
      case y13=>(intro wz hSw;(try dsimp only at hSw);go_simp;try with_reducible rfl)
      case r13 =>
      try simp only [Act.put,List.setIfInBounds_toArray,List.set_cons_zero,List.set_cons_succ]
      refine wpAnyH_take (i:=15) (oi:={ dst:=some 141,op:=_,type:=_,pos:=_,after:=_,guard:=_ }) (v:=?v14) rfl (by kernel_rfl) (by kernel_rfl) (by kernel_rfl) (fun _ _ _ h=>h) (Or.inl ⟨by rfl,?y14⟩) hHeld ?r14
      case y14=>(intro wz hSw;(try dsimp only at hSw);go_simp;try with_reducible rfl)
      case r14 =>
      try simp only [Act.put,List.setIfInBounds_toArray,List.set_cons_zero,List.set_cons_succ]
      refine wpAnyH_ready (rs:=[16]) (by kernel_rfl) (by simp) ?_
      refine AllReadyH.cons (o:={ dst:=none,op:=_,type:=_,pos:=_,after:=_,guard:=_ }) rfl (fun K hK => ?_) AllReadyH.nil
      go_simp
      refine hK.out _ _ (keepC BA.out) (fun hHeld => ?_)
      clear hK K
      try simp only [Act.put,List.setIfInBounds_toArray,List.set_cons_zero,List.set_cons_succ]
      refine wpAnyH_done (by kernel_rfl) ?_ _
      go_wp2_with fail
      go_meet
      exact HSA
    case rest =>
    obtain ⟨w11,hw11⟩:∃ w11,w11=wc:=⟨_,rfl⟩
    subst hw11
    clear HZ hJ keepA keepB keepC gBA qA7 qAf hJn c7 lba nba nba' hBle hbaB ngK nP hzB hrow d8 d8' e1 e2 hi0 hz0 hz1 hz2
    have hJ:Hid (WkJ w2.heap.size w1.heap.size bb ba N (M.more [x]) w w11):=hcut.out.swap
    have hBJ:Below w.heap.size w w11:=by obtain ⟨_,_,_,_,_,_,_,_,_,_,_,_,_,h⟩:=hJ.out;exact h
    obtain ⟨d8,d8'⟩:=HC0.out w11 hBJ
    obtain ⟨e1,e2⟩:=HCX.out w11 hBJ
    clear hcut hBJ
    go_upto_region 17 with fail
    obtain ⟨vW,vR,vK,vI,vC,uW,uR,uK,uI,uC,z1,z2,z3,z4⟩:=hJ.out
    have hrow:=z1.1.2.2.2.1
    obtain ⟨aR,cR,rfl⟩:=own_slice hrow
    have hob:=z1.1.2.1
    have c7:w11.cell? ⟨bb,7,none⟩=some (.slice aR N.R.length cR):=by rw [cell_of_row _ _ _ _ _ _ hob];rfl
    have lba:bb<w11.heap.size:=lt_of_heap hob
    have nba:¬ w11.heap.size=bb:=by omega
    have nba':¬ bb=w11.heap.size:=by omega
    have hBle:w2.heap.size≤w11.heap.size:=by have:=z1.1.1;omega
    have hbaB:w.heap.size≤bb:=Nat.le_trans (by omega) z1.1.1
    have ngK:¬ gN=w11.heap.size:=by have:=lt_of_cell e2;omega
    have nP:¬ p'=w11.heap.size:=by have:=lt_of_cell d8';omega
    have hzB:=z4.size
    have keepB:∀ {W:World},Below w.heap.size w W→W.cell? ⟨p',o'+8,none⟩=some (.slice (some ⟨gN,oN,none⟩) L cN)∧W.cell? ⟨gN,oN+i,none⟩=some (.int .u64 y):=fun h=>⟨(HC0.out _ h).2,(HCX.out _ h).2⟩
    have keepC:∀ {W:World}{v:Value},Below w.heap.size w W→(W.setCell ⟨bb,7,none⟩ v).cell? ⟨p',o'+8,none⟩=some (.slice (some ⟨gN,oN,none⟩) L cN)∧(W.setCell ⟨bb,7,none⟩ v).cell? ⟨gN,oN+i,none⟩=some (.int .u64 y):=fun h=>keepB (h.setCell hbaB _)
    have keepA:∀ {ob':Obj},(w11.alloc ob').drew.cell? ⟨p',o'+8,none⟩=some (.slice (some ⟨gN,oN,none⟩) L cN)∧(w11.alloc ob').drew.cell? ⟨gN,oN+i,none⟩=some (.int .u64 y):=keepB (z4.alloc z4.size _).drew
    have gBA:∀ {ob':Obj}{W8:World},((w11.alloc ob').drew).grownBy W8 (Value.slice aR N.R.length cR).ownBlock→Below w.heap.size w W8:=fun hg=>((z4.alloc z4.size _).drew).grown hg (by have:=z4.size;simp;omega) (fun k hk=>Nat.le_trans (by omega) (own_lt2 hrow k hk).1)
    have qA7:∀ {W:World},OB 30 bb N.half N.old N.card vW N.used N.top N.oldTop (.slice aR N.R.length cR) vK vI vC W→W.cell? ⟨bb,7,none⟩=some (.slice aR N.R.length cR):=fun h=>by rw [cell_of_row _ _ _ _ _ _ h];rfl
    have qAf:∀ {W:World},OB 30 bb N.half N.old N.card vW N.used N.top N.oldTop (.slice aR N.R.length cR) vK vI vC W→W.frozen? ⟨bb,7,none⟩=false:=fun h=>by simp [World.frozen?,h]
    have hJn:=fun {g cap:Nat}{W w8:World} hb hg hat ho=>wkj_next (g:=g) (cap:=cap) (x:=y) (W:=W) (w8:=w8) z1 z2 z3 z4 (by omega) hb hg hat ho
    obtain ⟨i0,hi0,hz0,hz1,hz2⟩:=infoU64
    have HZ:=toHid (⟨z1,z2,z3,z4⟩:GrR w2.heap.size bb N vW (.slice aR N.R.length cR) vK vI vC w11∧GrR w1.heap.size ba (M.more [x]) uW uR uK uI uC w11∧(∀ k,kB bb vW (.slice aR N.R.length cR) vK vI vC k → ¬ kB ba uW uR uK uI uC k)∧Below w.heap.size w w11)
    clear z1 z2 z3 z4 hob
    refine wp_region_held_drew (S:=(fun W=>W.cell? ⟨p',o'+8,none⟩=some (.slice (some ⟨gN,oN,none⟩) L cN)∧W.cell? ⟨gN,oN+i,none⟩=some (.int .u64 y))) (by kernel_rfl) ⟨d8',e2⟩ (fun hHeld => ?_)
    refine wpAnyH_take (i:=0) (oi:={ dst:=some 142,op:=_,type:=_,pos:=_,after:=_,guard:=_ }) (v:=?v15) rfl (by kernel_rfl) (by kernel_rfl) (by kernel_rfl) (fun _ _ _ h=>h) (Or.inl ⟨by rfl,?y15⟩) hHeld ?r15
    case y15=>(intro wz hSw;(try dsimp only at hSw);go_simp;try with_reducible rfl)
    case r15 =>
    try simp only [Act.put,List.setIfInBounds_toArray,List.set_cons_zero,List.set_cons_succ]
    refine wpAnyH_take (i:=1) (oi:={ dst:=some 143,op:=_,type:=_,pos:=_,after:=_,guard:=_ }) (v:=?v16) rfl (by kernel_rfl) (by kernel_rfl) (by kernel_rfl) (fun _ _ _ h=>h) (Or.inl ⟨by rfl,?y16⟩) hHeld ?r16
    case y16=>(intro wz hSw;(try dsimp only at hSw);go_simp;try with_reducible rfl)
    case r16 =>
    try simp only [Act.put,List.setIfInBounds_toArray,List.set_cons_zero,List.set_cons_succ]
    refine wpAnyH_take (i:=2) (oi:={ dst:=some 144,op:=_,type:=_,pos:=_,after:=_,guard:=_ }) (v:=?v17) rfl (by kernel_rfl) (by kernel_rfl) (by kernel_rfl) (fun _ _ _ h=>h) (Or.inl ⟨by rfl,?y17⟩) hHeld ?r17
    case y17=>(intro wz hSw;(try dsimp only at hSw);go_simp;try with_reducible rfl)
    case r17 =>
    try simp only [Act.put,List.setIfInBounds_toArray,List.set_cons_zero,List.set_cons_succ]
    refine wpAnyH_take (i:=3) (oi:={ dst:=some 145,op:=_,type:=_,pos:=_,after:=_,guard:=_ }) (v:=?v18) rfl (by kernel_rfl) (by kernel_rfl) (by kernel_rfl) (fun _ _ _ h=>h) (Or.inl ⟨by rfl,?y18⟩) hHeld ?r18
    case y18=>(intro wz hSw;(try dsimp only at hSw);go_simp;try with_reducible rfl)
    case r18 =>
    try simp only [Act.put,List.setIfInBounds_toArray,List.set_cons_zero,List.set_cons_succ]
    refine wpAnyH_take (i:=5) (oi:={ dst:=some 147,op:=_,type:=_,pos:=_,after:=_,guard:=_ }) (v:=?v19) rfl (by kernel_rfl) (by kernel_rfl) (by kernel_rfl) (fun _ _ _ h=>h) (Or.inl ⟨by rfl,?y19⟩) hHeld ?r19
    case y19=>(intro wz hSw;(try dsimp only at hSw);go_simp;try with_reducible rfl)
    case r19 =>
    try simp only [Act.put,List.setIfInBounds_toArray,List.set_cons_zero,List.set_cons_succ]
    refine wpAnyH_take (i:=6) (oi:={ dst:=some 148,op:=_,type:=_,pos:=_,after:=_,guard:=_ }) (v:=?v20) rfl (by kernel_rfl) (by kernel_rfl) (by kernel_rfl) (fun _ _ _ h=>h) (Or.inl ⟨by rfl,?y20⟩) hHeld ?r20
    case y20=>(intro wz hSw;(try dsimp only at hSw);go_simp;try with_reducible rfl)
    case r20 =>
    try simp only [Act.put,List.setIfInBounds_toArray,List.set_cons_zero,List.set_cons_succ]
    refine wpAnyH_take (i:=7) (oi:={ dst:=some 149,op:=_,type:=_,pos:=_,after:=_,guard:=_ }) (v:=?v21) rfl (by kernel_rfl) (by kernel_rfl) (by kernel_rfl) (fun _ _ _ h=>h) (Or.inl ⟨by rfl,?y21⟩) hHeld ?r21
    case y21=>(intro wz hSw;(try dsimp only at hSw);go_simp;try with_reducible rfl)
    case r21 =>
    try simp only [Act.put,List.setIfInBounds_toArray,List.set_cons_zero,List.set_cons_succ]
    refine wpAnyH_take (i:=8) (oi:={ dst:=some 150,op:=_,type:=_,pos:=_,after:=_,guard:=_ }) (v:=?v22) rfl (by kernel_rfl) (by kernel_rfl) (by kernel_rfl) (fun _ _ _ h=>h) (Or.inl ⟨by rfl,?y22⟩) hHeld ?r22
    case y22=>(intro wz hSw;(try dsimp only at hSw);go_simp;try with_reducible rfl)
    case r22 =>
    try simp only [Act.put,List.setIfInBounds_toArray,List.set_cons_zero,List.set_cons_succ]
    refine wpAnyH_take (i:=9) (oi:={ dst:=some 151,op:=_,type:=_,pos:=_,after:=_,guard:=_ }) (v:=?v23) rfl (by kernel_rfl) (by kernel_rfl) (by kernel_rfl) (fun _ _ _ h=>h) (Or.inl ⟨by rfl,?y23⟩) hHeld ?r23
    case y23=>(intro wz hSw;(try dsimp only at hSw);go_simp;try with_reducible rfl)
    case r23 =>
    try simp only [Act.put,List.setIfInBounds_toArray,List.set_cons_zero,List.set_cons_succ]
    refine wpAnyH_take (i:=10) (oi:={ dst:=some 152,op:=_,type:=_,pos:=_,after:=_,guard:=_ }) (v:=?v24) rfl (by kernel_rfl) (by kernel_rfl) (by kernel_rfl) (fun _ _ _ h=>h) (Or.inl ⟨by rfl,?y24⟩) hHeld ?r24
    case y24=>(intro wz hSw;(try dsimp only at hSw);go_simp;try with_reducible rfl)
    case r24 =>
    try simp only [Act.put,List.setIfInBounds_toArray,List.set_cons_zero,List.set_cons_succ]
    refine wpAnyH_take (i:=11) (oi:={ dst:=some 153,op:=_,type:=_,pos:=_,after:=_,guard:=_ }) (v:=?v25) rfl (by kernel_rfl) (by kernel_rfl) (by kernel_rfl) (fun _ _ _ h=>h) (Or.inl ⟨by rfl,?y25⟩) hHeld ?r25
    case y25=>(intro wz hSw;(try dsimp only at hSw);go_simp;try with_reducible rfl)
    case r25 =>
    try simp only [Act.put,List.setIfInBounds_toArray,List.set_cons_zero,List.set_cons_succ]
    refine wpAnyH_ready (rs:=[4,12]) (by kernel_rfl) (by simp) ?_
    refine AllReadyH.cons (o:={ dst:=some 146,op:=_,type:=_,pos:=_,after:=_,guard:=_ }) rfl (fun K hK => ?_) (AllReadyH.cons (o:={ dst:=some 154,op:=_,type:=_,pos:=_,after:=_,guard:=_ }) rfl (fun K hK => ?_) AllReadyH.nil)
    ·skip
     go_simp
     refine hK.out _ _ (hHeld) (fun hHeld => ?_)
     clear hK K
     try simp only [Act.put,List.setIfInBounds_toArray,List.set_cons_zero,List.set_cons_succ]
     refine wpAnyH_ready (rs:=[12]) (by kernel_rfl) (by simp) ?_
     refine AllReadyH.cons (o:={ dst:=some 154,op:=_,type:=_,pos:=_,after:=_,guard:=_ }) rfl (fun K hK => ?_) AllReadyH.nil
     go_simp
     refine hK.out _ _ (keepA) (fun hHeld => ?_)
     clear hK K
     try simp only [Act.put,List.setIfInBounds_toArray,List.set_cons_zero,List.set_cons_succ]
     refine wpAnyH_ready (rs:=[13]) (by kernel_rfl) (by simp) ?_
     refine AllReadyH.cons (o:={ dst:=some 155,op:=_,type:=_,pos:=_,after:=_,guard:=_ }) rfl (fun K hK => ?_) AllReadyH.nil
     refine step_append_lies _ (by rfl) _ _ _ (by rfl) w2.heap.size 50 i0 (.int .u64 0) 1 8 Tryz.underlying26 hi0 hz0 hz1 hz2 rfl (by decide) (.slice aR N.R.length cR) N.R.length (wordsV N.R) rfl (ownsRow_far' hrow (fun g hg=>heap_alloc_old _ _ _ (own_lt2 hrow g hg).2)) ⟨w11.heap.size,0,none⟩ 1 1 [.int .u64 y] rfl rfl (World.news_of_block (cs:=#[.int .u64 y]) (t:=50) (heap_alloc_new _ _)) (fun u hu=>by simp at hu;subst hu;rfl) (by decide) (by unfold maxLen;omega) (by omega) (by simp;omega) _ rfl ?_
     intro g' cap' wA hownA hgrowA hatA hltA
     obtain ⟨qA,sA⟩:=hJn (((Below.refl _ _).alloc (Nat.le_refl _) _).drew) hgrowA hatA hownA
     have c7A:=qA7 qA
     have f7A:=qAf qA
     have HSA:=toHid sA
     have BA:=toHid (gBA hgrowA)
     clear sA hownA hgrowA hatA hltA
     refine hK.out _ _ (keepB BA.out) (fun hHeld => ?_)
     clear hK K
     try simp only [Act.put,List.setIfInBounds_toArray,List.set_cons_zero,List.set_cons_succ]
     refine wpAnyH_take (i:=14) (oi:={ dst:=some 156,op:=_,type:=_,pos:=_,after:=_,guard:=_ }) (v:=?v26) rfl (by kernel_rfl) (by kernel_rfl) (by kernel_rfl) (fun _ _ _ h=>h) (Or.inl ⟨by rfl,?y26⟩) hHeld ?r26
     case y26=>(intro wz hSw;(try dsimp only at hSw);go_simp;try with_reducible rfl)
     case r26 =>
     try simp only [Act.put,List.setIfInBounds_toArray,List.set_cons_zero,List.set_cons_succ]
     refine wpAnyH_take (i:=15) (oi:={ dst:=some 157,op:=_,type:=_,pos:=_,after:=_,guard:=_ }) (v:=?v27) rfl (by kernel_rfl) (by kernel_rfl) (by kernel_rfl) (fun _ _ _ h=>h) (Or.inl ⟨by rfl,?y27⟩) hHeld ?r27
     case y27=>(intro wz hSw;(try dsimp only at hSw);go_simp;try with_reducible rfl)
     case r27 =>
     try simp only [Act.put,List.setIfInBounds_toArray,List.set_cons_zero,List.set_cons_succ]
     refine wpAnyH_ready (rs:=[16]) (by kernel_rfl) (by simp) ?_
     refine AllReadyH.cons (o:={ dst:=none,op:=_,type:=_,pos:=_,after:=_,guard:=_ }) rfl (fun K hK => ?_) AllReadyH.nil
     go_simp
     refine hK.out _ _ (keepC BA.out) (fun hHeld => ?_)
     clear hK K
     try simp only [Act.put,List.setIfInBounds_toArray,List.set_cons_zero,List.set_cons_succ]
     refine wpAnyH_done (by kernel_rfl) ?_ _
     have hE:Hid (WkI w1.heap.size w2.heap.size ba bb m n (i+1) w _):=(by
      have h:=HSA.out.swap
      rw [HMM.out.1,HMM.out.2] at h
      exact h)
     go_wp2_with fail
     go_roundg (L+1 - (i+1))
     case measure=>have:=HGK.out;omega
     case rel=>exact ⟨i+1,rfl,by omega,by go_num,hE⟩
    ·skip
     go_simp
     refine hK.out _ _ (keepA) (fun hHeld => ?_)
     clear hK K
     try simp only [Act.put,List.setIfInBounds_toArray,List.set_cons_zero,List.set_cons_succ]
     refine wpAnyH_ready (rs:=[4]) (by kernel_rfl) (by simp) ?_
     refine AllReadyH.cons (o:={ dst:=some 146,op:=_,type:=_,pos:=_,after:=_,guard:=_ }) rfl (fun K hK => ?_) AllReadyH.nil
     go_simp
     refine hK.out _ _ (hHeld) (fun hHeld => ?_)
     clear hK K
     try simp only [Act.put,List.setIfInBounds_toArray,List.set_cons_zero,List.set_cons_succ]
     refine wpAnyH_ready (rs:=[13]) (by kernel_rfl) (by simp) ?_
     refine AllReadyH.cons (o:={ dst:=some 155,op:=_,type:=_,pos:=_,after:=_,guard:=_ }) rfl (fun K hK => ?_) AllReadyH.nil
     refine step_append_lies _ (by rfl) _ _ _ (by rfl) w2.heap.size 50 i0 (.int .u64 0) 1 8 Tryz.underlying26 hi0 hz0 hz1 hz2 rfl (by decide) (.slice aR N.R.length cR) N.R.length (wordsV N.R) rfl (ownsRow_far' hrow (fun g hg=>heap_alloc_old _ _ _ (own_lt2 hrow g hg).2)) ⟨w11.heap.size,0,none⟩ 1 1 [.int .u64 y] rfl rfl (World.news_of_block (cs:=#[.int .u64 y]) (t:=50) (heap_alloc_new _ _)) (fun u hu=>by simp at hu;subst hu;rfl) (by decide) (by unfold maxLen;omega) (by omega) (by simp;omega) _ rfl ?_
     intro g' cap' wA hownA hgrowA hatA hltA
     obtain ⟨qA,sA⟩:=hJn (((Below.refl _ _).alloc (Nat.le_refl _) _).drew) hgrowA hatA hownA
     have c7A:=qA7 qA
     have f7A:=qAf qA
     have HSA:=toHid sA
     have BA:=toHid (gBA hgrowA)
     clear sA hownA hgrowA hatA hltA
     refine hK.out _ _ (keepB BA.out) (fun hHeld => ?_)
     clear hK K
     try simp only [Act.put,List.setIfInBounds_toArray,List.set_cons_zero,List.set_cons_succ]
     refine wpAnyH_take (i:=14) (oi:={ dst:=some 156,op:=_,type:=_,pos:=_,after:=_,guard:=_ }) (v:=?v28) rfl (by kernel_rfl) (by kernel_rfl) (by kernel_rfl) (fun _ _ _ h=>h) (Or.inl ⟨by rfl,?y28⟩) hHeld ?r28
     case y28=>(intro wz hSw;(try dsimp only at hSw);go_simp;try with_reducible rfl)
     case r28 =>
     try simp only [Act.put,List.setIfInBounds_toArray,List.set_cons_zero,List.set_cons_succ]
     refine wpAnyH_take (i:=15) (oi:={ dst:=some 157,op:=_,type:=_,pos:=_,after:=_,guard:=_ }) (v:=?v29) rfl (by kernel_rfl) (by kernel_rfl) (by kernel_rfl) (fun _ _ _ h=>h) (Or.inl ⟨by rfl,?y29⟩) hHeld ?r29
     case y29=>(intro wz hSw;(try dsimp only at hSw);go_simp;try with_reducible rfl)
     case r29 =>
     try simp only [Act.put,List.setIfInBounds_toArray,List.set_cons_zero,List.set_cons_succ]
     refine wpAnyH_ready (rs:=[16]) (by kernel_rfl) (by simp) ?_
     refine AllReadyH.cons (o:={ dst:=none,op:=_,type:=_,pos:=_,after:=_,guard:=_ }) rfl (fun K hK => ?_) AllReadyH.nil
     go_simp
     refine hK.out _ _ (keepC BA.out) (fun hHeld => ?_)
     clear hK K
     try simp only [Act.put,List.setIfInBounds_toArray,List.set_cons_zero,List.set_cons_succ]
     refine wpAnyH_done (by kernel_rfl) ?_ _
     have hE:Hid (WkI w1.heap.size w2.heap.size ba bb m n (i+1) w _):=(by
      have h:=HSA.out.swap
      rw [HMM.out.1,HMM.out.2] at h
      exact h)
     go_wp2_with fail
     go_roundg (L+1 - (i+1))
     case measure=>have:=HGK.out;omega
     case rel=>exact ⟨i+1,rfl,by omega,by go_num,hE⟩
  ·have hIL:¬ (i:Int)<(L:Int):=by omega
   obtain rfl:i=L:=by omega
   obtain ⟨vW,vR,vK,vI,vC,uW,uR,uK,uI,uC,z1,z2,z3,z4⟩:=hI.out
   have hlW:=keptW_len m n i
   have hlN:=keptN_len m n i
   have kg:=graphOf_any ba 0 (m.more (keptW m n i)) vs (by have:=HH.out.shM;rw [←HL.out] at this;exact this) (by have:=HH.out.M64;rw [←HL.out] at this;exact this) (by show (m.R++keptW m n i).length≤_;rw [List.length_append];omega) (by show m.K.length≤_;omega) b4 wr z1.1.rep
   have HN2:=toHid z2.1.rep
   have HT:Hid ((n.more (keptN m n i)).textA us=(m.more (keptW m n i)).textA vs):=by have:=HH.out.text;rw [←HL.out] at this;exact this
   have HB4:=toHid z4
   have kg2:=fun w' hb=>graphOf_any bb 0 (n.more (keptN m n i)) us (by have:=HH.out.shN;rw [←HL.out] at this;exact this) (by have:=HH.out.N64;rw [←HL.out] at this;exact this) (by show (n.R++keptN m n i).length≤_;rw [List.length_append];omega) (by show n.K.length≤_;omega) c4 w' (HN2.out.below hb)
   have HK2:=toHid kg2
   clear z1 z2 z3 z4 kg2 hlW hlN
   go_wp2_with fail
   refine kg.mono ?_
   clear kg
   rintro ev w8 ⟨rfl,hb8⟩
   have kg2:=HK2.out w8 hb8
   rw [HT.out] at kg2
   have HB8:Hid (Below w.heap.size w w8):=HB4.out.trans (hb8.mono HB4.out.size)
   clear hb8
   go_wp2_with fail
   refine kg2.mono ?_
   clear kg2
   rintro ev w9 ⟨rfl,hb9⟩
   have HB9:Hid (Below w.heap.size w w9):=HB8.out.trans (hb9.mono HB8.out.size)
   clear hb9
   go_wp2_with fail
   go_ret
   exact ⟨by simp,HB9.out⟩
end Go.Proofs.YtnenggkgfhgcnaaGreatDoor
