/- The law's idsOK, by a contract. -/
import Derived.Test.YtnenggkgfhgcnaaGreatDoorKpD
namespace Go.Proofs.YtnenggkgfhgcnaaGreatDoor
open Go.RowKit Go.Maps

def fkN (I:List (Int × Int)) (s:Int):Nat→Int
 | 0 => -1
 | j+1=>if (I.getD j (0,0)).2=s then (j:Int) else fkN I s j
theorem fkN_lt (I:List (Int × Int)) (s:Int):∀ j,-1≤fkN I s j∧fkN I s j<(j:Int)
 | 0=>⟨by unfold fkN;omega,by unfold fkN;omega⟩
 | j+1=>by
  have:=fkN_lt I s j
  unfold fkN
  split <;> omega
def keptI (m n:MD):Nat→List Int
 | 0 => []
 | i+1=>keptI m n i++(if 0≤fkN n.I (m.I.getD i (0,0)).2 n.I.length then [(m.I.getD i (0,0)).1] else [])
def keptJ (m n:MD):Nat→List Int
 | 0 => []
 | i+1=>keptJ m n i++(if 0≤fkN n.I (m.I.getD i (0,0)).2 n.I.length then [(n.I.getD (fkN n.I (m.I.getD i (0,0)).2 n.I.length).toNat (0,0)).1] else [])
theorem keptI_len (m n:MD):∀ i,(keptI m n i).length≤i
 | 0=>Nat.le_refl _
 | i+1=>by
  unfold keptI
  rw [List.length_append]
  have:=keptI_len m n i
  split <;> simp <;> omega
theorem keptJ_len (m n:MD):∀ i,(keptJ m n i).length≤i
 | 0=>Nat.le_refl _
 | i+1=>by
  unfold keptJ
  rw [List.length_append]
  have:=keptJ_len m n i
  split <;> simp <;> omega
structure IdsH (m n:MD) (vs us:List Nat):Prop where
 Sm:m.Shape vs
 m64:MD64 m
 n64:MD64 n
 len:n.I.length≤m.I.length
 led:∀ i,i<m.I.length→ledB m vs (m.I.getD i (0,0)).1=true→0≤fkN n.I (m.I.getD i (0,0)).2 n.I.length
 shM:(m.more (keptI m n m.I.length)).Shape vs
 M64:MD64 (m.more (keptI m n m.I.length))
 shN:(n.more (keptJ m n m.I.length)).Shape us
 N64:MD64 (n.more (keptJ m n m.I.length))
 text:(n.more (keptJ m n m.I.length)).textA us=(m.more (keptI m n m.I.length)).textA vs
set_option maxHeartbeats 8000000 in
set_option maxRecDepth 100000 in
theorem idsOK_any (p o p' o':Nat) (m n:MD) (vs us:List Nat) (H:IdsH m n vs us) (b1:m.W.length≤300000) (b2:m.R.length≤100000) (b3:m.K.length≤300000) (b4:m.I.length≤100000) (b5:m.C.length≤300000) (c1:n.W.length≤300000) (c2:n.R.length≤100000) (c3:n.K.length≤300000) (c4:n.I.length≤100000) (c5:n.C.length≤300000) (w:World) (Rm:RepM p o m w) (Rn:RepM p' o' n w) :
  Calls Tryz.prog 18 #[.pointer (some ⟨p,o,none⟩),.pointer (some ⟨p',o',none⟩)] w fun ev w'=>ev = .returned (.bool true)∧Below w.heap.size w w':=by
 have HH:=toHid H
 have HRm:=toHid Rm
 have HRn:=toHid Rn
 have ko:=ownOf_gr p o m w Rm b1 (by omega) (by omega) (by omega) b5
 obtain ⟨_,_,_,_,_,_,M1,_,_,_,⟨aK,cK,rfl,hcK,fK⟩,_⟩:=Rm
 obtain ⟨_,_,_,_,_,_,M2,_,_,_,⟨aN,cN,rfl,hcN,fN⟩,_⟩:=Rn
 have e8:=M1.c9
 have e8':=M2.c9
 have HC0:Hid (∀ W,Below w.heap.size w W→W.cell? ⟨p,o+9,none⟩=some (.slice aK m.I.length cK)∧W.cell? ⟨p',o'+9,none⟩=some (.slice aN n.I.length cN)):=fun W hW=>⟨(hW.cell (p:=⟨p,o+9,none⟩) (lt_of_cell e8)).trans e8,(hW.cell (p:=⟨p',o'+9,none⟩) (lt_of_cell e8')).trans e8'⟩
 have HFK:=toHid fK
 have HFN:=toHid fN
 clear M1 M2 fK fN hcK hcN e8 e8'
 have hle:=H.len
 clear H
 obtain ⟨L,hL⟩:∃ L,L=m.I.length:=⟨_,rfl⟩
 obtain ⟨L',hL'⟩:∃ L',L'=n.I.length:=⟨_,rfl⟩
 rw [←hL] at HC0 HFK hle
 rw [←hL'] at HC0 HFN hle
 have HL:=toHid hL
 have HL':=toHid hL'
 have hLb:L≤100000:=by omega
 have hLb':L'≤100000:=by omega
 clear hL hL'
 go_enter Tryz.func18,Tryz.ntmps18
 go_wp2_with fail
 refine ko.mono ?_
 clear ko
 rintro ev w2 ⟨ba,vW,vR,vK,vI,vC,rfl,G1,hb2⟩
 have ko:=ownOf_gr p' o' n w2 (HRn.out.below hb2) c1 (by omega) (by omega) (by omega) c5
 have HG1:=toHid G1
 have HB2:=toHid hb2
 clear G1 hb2
 go_wp2_with fail
 refine ko.mono ?_
 clear ko
 rintro ev w3 ⟨bb,uW,uR,uK,uI,uC,rfl,G2,hb3⟩
 have HI0:Hid (WkJ w.heap.size w2.heap.size ba bb (m.more (keptI m n 0)) (n.more (keptJ m n 0)) w w3):=by
  refine ⟨vW,vR,vK,vI,vC,uW,uR,uK,uI,uC,?_,?_,fun k h1 h2 => ?_,HB2.out.trans (hb3.mono HB2.out.size)⟩
  ·show GrR _ _ (m.more []) _ _ _ _ _ _
   rw [more_nil]
   exact HG1.out.below hb3
  ·show GrR _ _ (n.more []) _ _ _ _ _ _
   rw [more_nil]
   exact G2
  ·have:=(HG1.out.lt k h1).2
   have:=(G2.lt k h2).1
   omega
 have hs23:w.heap.size≤w2.heap.size:=HB2.out.size
 clear G2 hb3 HG1 HB2
 have HBel:Hid (∀ {M N:MD}{W:World},WkJ w.heap.size w2.heap.size ba bb M N w W→Below w.heap.size w W):=fun h=>by obtain ⟨_,_,_,_,_,_,_,_,_,_,_,_,_,h⟩:=h;exact h
 go_wp2_with fail
 go_loopg [7] (L+1) (fun gk v7 wr => ∃ i:Nat,gk=L+1 - i∧i≤L∧v7 = .int .i64 (i:Int)∧Hid (WkJ w.heap.size w2.heap.size ba bb (m.more (keptI m n i)) (n.more (keptJ m n i)) w wr))
 case atStart=>exact ⟨0,rfl,Nat.zero_le _,rfl,HI0⟩
 case round =>
  obtain ⟨i,hgk,hi',rfl,hI⟩:=hrel
  have HGK:=toHid hgk
  clear hgk HI0
  have hi0:(0:Int)≤(i:Int):=by omega
  obtain ⟨d8,d8'⟩:=HC0.out wr (HBel.out hI.out)
  by_cases hlt:i<L
  ·have hIL:(i:Int)<(L:Int):=by omega
   obtain ⟨x,sx,hx⟩:∃ x sx,m.I[i]?=some (x,sx):=⟨_,_,List.getElem?_eq_getElem (by have:=HL.out;omega)⟩
   have hxd:m.I.getD i (0,0)=(x,sx):=by rw [List.getD_eq_getElem?_getD,hx];rfl
   have hxr:=HH.out.m64.i (x,sx) (List.mem_of_getElem? hx)
   obtain ⟨gK,oK,rfl,lK,cK'⟩:=HFK.out (by omega)
   have HCX:Hid (∀ W,Below w.heap.size w W→W.cell? ⟨gK,oK+i*2,none⟩=some (.int .u64 x)∧W.cell? ⟨gK,oK+i*2+1,none⟩=some (.int .i64 sx)):=fun W hW=>⟨(hW.cell (p:=⟨gK,oK+i*2,none⟩) lK).trans (cK' (i*2) _ (ids_at hx).1),(hW.cell (p:=⟨gK,oK+i*2+1,none⟩) lK).trans (cK' (i*2+1) _ (ids_at hx).2)⟩
   obtain ⟨fk,hfk⟩:∃ fk,fk=fkN n.I sx n.I.length:=⟨_,rfl⟩
   have hfb:=fkN_lt n.I sx n.I.length
   have hled:=HH.out.led i (by have:=HL.out;omega)
   have hkw:keptI m n (i+1)=keptI m n i++(if 0≤fk then [x] else []):=by rw [hfk];show keptI m n i++_=_;rw [hxd]
   have hkn:keptJ m n (i+1)=keptJ m n i++(if 0≤fk then [(n.I.getD fk.toNat (0,0)).1] else []):=by rw [hfk];show keptJ m n i++_=_;rw [hxd]
   rw [hxd] at hled
   have hled:ledB m vs x=true→0≤fkN n.I sx n.I.length:=hled
   rw [←hfk] at hled hfb
   have HKW:=toHid hkw
   have HKN:=toHid hkn
   have HLED:=toHid hled
   have HFK':=toHid hfk
   have x0:=hxr.1.1
   have x1:=hxr.1.2
   obtain ⟨e1,e2⟩:=HCX.out wr (HBel.out hI.out)
   have hs1:=hxr.2
   clear hxd hxr cK' hled hkw hkn hfk hx
   go_wp2_with fail
   go_loopg [8,9] (L'+1) (fun gk v8 v9 wr2 => ∃ j:Nat,gk=L'+1 - j∧j≤L'∧v9 = .int .i64 (j:Int)∧v8 = .int .i64 (fkN n.I sx j)∧Hid (WkJ w.heap.size w2.heap.size ba bb (m.more (keptI m n i)) (n.more (keptJ m n i)) w wr2))
   case atStart=>exact ⟨0,rfl,Nat.zero_le _,rfl,rfl,hI⟩
   case round =>
    obtain ⟨j,hgk,hj',rfl,rfl,hI2⟩:=hrel
    have HGK2:=toHid hgk
    clear hgk d8 d8' e1 e2
    have hj0:(0:Int)≤(j:Int):=by omega
    obtain ⟨d8,d8'⟩:=HC0.out wr (HBel.out hI2.out)
    obtain ⟨e1,e2⟩:=HCX.out wr (HBel.out hI2.out)
    by_cases hltj:j<L'
    ·have hJL:(j:Int)<(L':Int):=by omega
     obtain ⟨y,sy,hy⟩:∃ y sy,n.I[j]?=some (y,sy):=⟨_,_,List.getElem?_eq_getElem (by have:=HL'.out;omega)⟩
     have hyd:n.I.getD j (0,0)=(y,sy):=by rw [List.getD_eq_getElem?_getD,hy];rfl
     obtain ⟨_,_,rfl,lN,cN'⟩:=HFN.out (by omega)
     rename_i gN oN
     have g2:wr.cell? ⟨gN,oN+j*2+1,none⟩=some (.int .i64 sy):=((HBel.out hI2.out).cell (p:=⟨gN,oN+j*2+1,none⟩) lN).trans (cN' (j*2+1) _ (ids_at hy).2)
     have HNX:Hid (fkN n.I sx (j+1)=if sy=sx then (j:Int) else fkN n.I sx j):=by show _=_;rw [show fkN n.I sx (j+1)=if (n.I.getD j (0,0)).2=sx then (j:Int) else fkN n.I sx j from rfl,hyd]
     generalize fkN n.I sx j=kk at HNX ⊢
     clear hyd cN' hy
     by_cases hss:sy=sx
     ·subst hss
      go_wp2_with fail
      go_quiet (fail)
      obtain ⟨w8,hw8⟩:∃ w8,w8=wr.drewN nq:=⟨_,rfl⟩
      have hI8:Hid (WkJ w.heap.size w2.heap.size ba bb (m.more (keptI m n i)) (n.more (keptJ m n i)) w w8):=by rw [hw8];exact hI2.out.below (below_drewN (Below.refl _ _))
      rw [←hw8]
      clear hw8 d8 d8' e1 e2 g2
      go_wp2_with fail
      go_roundg (L'+1 - (j+1))
      case measure=>have:=HGK2.out;omega
      case rel=>exact ⟨j+1,rfl,by omega,by go_num,by rw [HNX.out];simp,hI8⟩
     ·have hsb:(sy == sx)=false:=by simpa using hss
      go_wp2_with fail
      go_quiet (fail)
      obtain ⟨w8,hw8⟩:∃ w8,w8=wr.drewN nq:=⟨_,rfl⟩
      have hI8:Hid (WkJ w.heap.size w2.heap.size ba bb (m.more (keptI m n i)) (n.more (keptJ m n i)) w w8):=by rw [hw8];exact hI2.out.below (below_drewN (Below.refl _ _))
      rw [←hw8]
      clear hw8 d8 d8' e1 e2 g2
      go_wp2_with fail
      go_roundg (L'+1 - (j+1))
      case measure=>have:=HGK2.out;omega
      case rel=>exact ⟨j+1,rfl,by omega,by go_num,by rw [HNX.out,if_neg hss],hI8⟩
    ·have hJL:¬ (j:Int)<(L':Int):=by omega
     obtain rfl:j=L':=by omega
     have hkk:fkN n.I sx j=fk:=by rw [HFK'.out,HL'.out]
     rw [hkk]
     clear hkk
     have kr:=reaches_any p o m vs HH.out.Sm HH.out.m64 (by omega) x x0 x1 wr (HRm.out.below (HBel.out hI2.out))
     obtain ⟨ld,hld⟩:∃ ld,ld=ledB m vs x:=⟨_,rfl⟩
     rw [←hld] at kr
     have HLD:Hid (ld=true→0≤fk):=fun h=>HLED.out (by rw [←hld];exact h)
     clear hld
     go_wp2_with fail
     refine kr.mono ?_
     clear kr
     rintro ev w10 ⟨rfl,hb10⟩
     have hI10:Hid (WkJ w.heap.size w2.heap.size ba bb (m.more (keptI m n i)) (n.more (keptJ m n i)) w w10):=hI2.out.below hb10
     clear hb10 d8 d8' e1 e2
     obtain ⟨d8,d8'⟩:=HC0.out w10 (HBel.out hI10.out)
     obtain ⟨e1,e2⟩:=HCX.out w10 (HBel.out hI10.out)
     by_cases hk0:0≤fk
     ·obtain ⟨kk,hkk⟩:∃ kk:Nat,fk=(kk:Int):=⟨fk.toNat,by omega⟩
      subst hkk
      have hkl:kk<j:=by have:=HL'.out;have:=hfb.2;omega
      have hkn0:¬ (kk:Int)<0:=by omega
      obtain ⟨y,sy,hy⟩:∃ y sy,n.I[kk]?=some (y,sy):=⟨_,_,List.getElem?_eq_getElem (by have:=HL'.out;omega)⟩
      have hyd:n.I.getD kk (0,0)=(y,sy):=by rw [List.getD_eq_getElem?_getD,hy];rfl
      obtain ⟨gN,oN,rfl,lN,cN'⟩:=HFN.out (by omega)
      have HCY:Hid (∀ W,Below w.heap.size w W→W.cell? ⟨gN,oN+kk*2,none⟩=some (.int .u64 y)):=fun W hW=>(hW.cell (p:=⟨gN,oN+kk*2,none⟩) lN).trans (cN' (kk*2) _ (ids_at hy).1)
      obtain ⟨M,hM⟩:∃ M,M=m.more (keptI m n i):=⟨_,rfl⟩
      obtain ⟨N,hN⟩:∃ N,N=n.more (keptJ m n i):=⟨_,rfl⟩
      have hMl:M.R.length≤200000:=by rw [hM];show (m.R++keptI m n i).length≤_;rw [List.length_append];have:=keptI_len m n i;omega
      have hNl:N.R.length≤200000:=by rw [hN];show (n.R++keptJ m n i).length≤_;rw [List.length_append];have:=keptJ_len m n i;omega
      have HMM:Hid (M.more [x]=m.more (keptI m n (i+1))∧N.more [y]=n.more (keptJ m n (i+1))):=by
       rw [hM,hN,more_more,more_more,HKW.out,HKN.out,if_pos hk0,if_pos hk0,Int.toNat_natCast,hyd]
       exact ⟨rfl,rfl⟩
      have HME:=toHid hM
      have HNE:=toHid hN
      have hki:(0:Int)≤(kk:Int):=by omega
      have hkj:(kk:Int)<(j:Int):=by omega
      clear hM hN hyd cN' hy hk0
      go_upto_region 13 with fail
      go_cut [69] from 65 to 70 (fun v69 wx=>v69 = .bool false∧wx=w10)
      case first =>
       cases ld with
       | false =>
        go_wp2_with fail
        go_meet
        exact ⟨rfl,rfl⟩
       | true =>
        go_wp2_with fail
        go_meet
        exact ⟨rfl,rfl⟩
      case rest =>
      obtain ⟨rfl,hwc⟩:=hcut
      rw [hwc]
      clear hwc wc
      go_upto_region 16 with fail
      have hJ:Hid (WkJ w.heap.size w2.heap.size ba bb M N w w10):=by rw [HME.out,HNE.out];exact hI10.out
      obtain ⟨vW,vR,vK,vI,vC,uW,uR,uK,uI,uC,z1,z2,z3,z4⟩:=hJ.out
      have hrow:=z1.1.2.2.2.1
      obtain ⟨aR,cR,rfl⟩:=own_slice hrow
      have hob:=z1.1.2.1
      have c7:w10.cell? ⟨ba,7,none⟩=some (.slice aR M.R.length cR):=by rw [cell_of_row _ _ _ _ _ _ hob];rfl
      have lba:ba<w10.heap.size:=lt_of_heap hob
      have nba:¬ w10.heap.size=ba:=by omega
      have nba':¬ ba=w10.heap.size:=by omega
      have hBle:w.heap.size≤w10.heap.size:=by have:=z1.1.1;omega
      have hbaB:w.heap.size≤ba:=Nat.le_trans (by omega) z1.1.1
      have ngK:¬ gK=w10.heap.size:=by have:=lt_of_cell e1;omega
      have nP:¬ p=w10.heap.size:=by have:=lt_of_cell d8;omega
      have keepB:∀ {W:World},Below w.heap.size w W→W.cell? ⟨p,o+9,none⟩=some (.slice (some ⟨gK,oK,none⟩) L cK)∧W.cell? ⟨gK,oK+i*2,none⟩=some (.int .u64 x):=fun h=>⟨(HC0.out _ h).1,(HCX.out _ h).1⟩
      have keepC:∀ {W:World}{v:Value},Below w.heap.size w W→(W.setCell ⟨ba,7,none⟩ v).cell? ⟨p,o+9,none⟩=some (.slice (some ⟨gK,oK,none⟩) L cK)∧(W.setCell ⟨ba,7,none⟩ v).cell? ⟨gK,oK+i*2,none⟩=some (.int .u64 x):=fun h=>keepB (h.setCell hbaB _)
      have keepA:∀ {ob':Obj},(w10.alloc ob').drew.cell? ⟨p,o+9,none⟩=some (.slice (some ⟨gK,oK,none⟩) L cK)∧(w10.alloc ob').drew.cell? ⟨gK,oK+i*2,none⟩=some (.int .u64 x):=keepB (z4.alloc z4.size _).drew
      have gBA:∀ {ob':Obj}{W8:World},((w10.alloc ob').drew).grownBy W8 (Value.slice aR M.R.length cR).ownBlock→Below w.heap.size w W8:=fun hg=>((z4.alloc z4.size _).drew).grown hg (by have:=z4.size;simp;omega) (fun k hk=>Nat.le_trans (by omega) (own_lt2 hrow k hk).1)
      have qA7:∀ {W:World},OB 30 ba M.half M.old M.card vW M.used M.top M.oldTop (.slice aR M.R.length cR) vK vI vC W→W.cell? ⟨ba,7,none⟩=some (.slice aR M.R.length cR):=fun h=>by rw [cell_of_row _ _ _ _ _ _ h];rfl
      have qAf:∀ {W:World},OB 30 ba M.half M.old M.card vW M.used M.top M.oldTop (.slice aR M.R.length cR) vK vI vC W→W.frozen? ⟨ba,7,none⟩=false:=fun h=>by simp [World.frozen?,h]
      have hJn:=fun {g cap:Nat}{W w8:World} hb hg hat ho=>wkj_next (g:=g) (cap:=cap) (x:=x) (W:=W) (w8:=w8) z1 z2 z3 z4 (by omega) hb hg hat ho
      obtain ⟨i0,hi0,hz0,hz1,hz2⟩:=infoU64
      have HZ:=toHid (⟨z1,z2,z3,z4⟩:GrR w.heap.size ba M vW (.slice aR M.R.length cR) vK vI vC w10∧GrR w2.heap.size bb N uW uR uK uI uC w10∧(∀ k,kB ba vW (.slice aR M.R.length cR) vK vI vC k → ¬ kB bb uW uR uK uI uC k)∧Below w.heap.size w w10)
      clear z1 z2 z3 z4 hob
      go_cut [] from 72 to 89 (fun wx=>Hid (WkJ w.heap.size w2.heap.size ba bb (M.more [x]) N w wx))
      case first =>
       refine wp_region_held_drew (S:=(fun W=>W.cell? ⟨p,o+9,none⟩=some (.slice (some ⟨gK,oK,none⟩) L cK)∧W.cell? ⟨gK,oK+i*2,none⟩=some (.int .u64 x))) (by kernel_rfl) ⟨d8,e1⟩ (fun hHeld => ?_)
       refine wpAnyH_take (i:=0) (oi:={ dst:=some 72,op:=_,type:=_,pos:=_,after:=_,guard:=_ }) (v:=?v0) rfl (by kernel_rfl) (by kernel_rfl) (by kernel_rfl) (fun _ _ _ h=>h) (Or.inl ⟨by rfl,?y0⟩) hHeld ?r0
       case y0=>(intro wz hSw;(try dsimp only at hSw);go_simp;try with_reducible rfl)
       case r0 =>
       try simp only [Act.put,List.setIfInBounds_toArray,List.set_cons_zero,List.set_cons_succ]
       refine wpAnyH_take (i:=1) (oi:={ dst:=some 73,op:=_,type:=_,pos:=_,after:=_,guard:=_ }) (v:=?v1) rfl (by kernel_rfl) (by kernel_rfl) (by kernel_rfl) (fun _ _ _ h=>h) (Or.inl ⟨by rfl,?y1⟩) hHeld ?r1
       case y1=>(intro wz hSw;(try dsimp only at hSw);go_simp;try with_reducible rfl)
       case r1 =>
       try simp only [Act.put,List.setIfInBounds_toArray,List.set_cons_zero,List.set_cons_succ]
       refine wpAnyH_take (i:=2) (oi:={ dst:=some 74,op:=_,type:=_,pos:=_,after:=_,guard:=_ }) (v:=?v2) rfl (by kernel_rfl) (by kernel_rfl) (by kernel_rfl) (fun _ _ _ h=>h) (Or.inl ⟨by rfl,?y2⟩) hHeld ?r2
       case y2=>(intro wz hSw;(try dsimp only at hSw);go_simp;try with_reducible rfl)
       case r2 =>
       try simp only [Act.put,List.setIfInBounds_toArray,List.set_cons_zero,List.set_cons_succ]
       refine wpAnyH_take (i:=3) (oi:={ dst:=some 75,op:=_,type:=_,pos:=_,after:=_,guard:=_ }) (v:=?v3) rfl (by kernel_rfl) (by kernel_rfl) (by kernel_rfl) (fun _ _ _ h=>h) (Or.inl ⟨by rfl,?y3⟩) hHeld ?r3
       case y3=>(intro wz hSw;(try dsimp only at hSw);go_simp;try with_reducible rfl)
       case r3 =>
       try simp only [Act.put,List.setIfInBounds_toArray,List.set_cons_zero,List.set_cons_succ]
       refine wpAnyH_take (i:=5) (oi:={ dst:=some 77,op:=_,type:=_,pos:=_,after:=_,guard:=_ }) (v:=?v4) rfl (by kernel_rfl) (by kernel_rfl) (by kernel_rfl) (fun _ _ _ h=>h) (Or.inl ⟨by rfl,?y4⟩) hHeld ?r4
       case y4=>(intro wz hSw;(try dsimp only at hSw);go_simp;try with_reducible rfl)
       case r4 =>
       try simp only [Act.put,List.setIfInBounds_toArray,List.set_cons_zero,List.set_cons_succ]
       refine wpAnyH_take (i:=6) (oi:={ dst:=some 78,op:=_,type:=_,pos:=_,after:=_,guard:=_ }) (v:=?v5) rfl (by kernel_rfl) (by kernel_rfl) (by kernel_rfl) (fun _ _ _ h=>h) (Or.inl ⟨by rfl,?y5⟩) hHeld ?r5
       case y5=>(intro wz hSw;(try dsimp only at hSw);go_simp;try with_reducible rfl)
       case r5 =>
       try simp only [Act.put,List.setIfInBounds_toArray,List.set_cons_zero,List.set_cons_succ]
       refine wpAnyH_take (i:=7) (oi:={ dst:=some 79,op:=_,type:=_,pos:=_,after:=_,guard:=_ }) (v:=?v6) rfl (by kernel_rfl) (by kernel_rfl) (by kernel_rfl) (fun _ _ _ h=>h) (Or.inl ⟨by rfl,?y6⟩) hHeld ?r6
       case y6=>(intro wz hSw;(try dsimp only at hSw);go_simp;try with_reducible rfl)
       case r6 =>
       try simp only [Act.put,List.setIfInBounds_toArray,List.set_cons_zero,List.set_cons_succ]
       refine wpAnyH_take (i:=8) (oi:={ dst:=some 80,op:=_,type:=_,pos:=_,after:=_,guard:=_ }) (v:=?v7) rfl (by kernel_rfl) (by kernel_rfl) (by kernel_rfl) (fun _ _ _ h=>h) (Or.inl ⟨by rfl,?y7⟩) hHeld ?r7
       case y7=>(intro wz hSw;(try dsimp only at hSw);go_simp;try with_reducible rfl)
       case r7 =>
       try simp only [Act.put,List.setIfInBounds_toArray,List.set_cons_zero,List.set_cons_succ]
       refine wpAnyH_take (i:=9) (oi:={ dst:=some 81,op:=_,type:=_,pos:=_,after:=_,guard:=_ }) (v:=?v8) rfl (by kernel_rfl) (by kernel_rfl) (by kernel_rfl) (fun _ _ _ h=>h) (Or.inl ⟨by rfl,?y8⟩) hHeld ?r8
       case y8=>(intro wz hSw;(try dsimp only at hSw);go_simp;try with_reducible rfl)
       case r8 =>
       try simp only [Act.put,List.setIfInBounds_toArray,List.set_cons_zero,List.set_cons_succ]
       refine wpAnyH_take (i:=10) (oi:={ dst:=some 82,op:=_,type:=_,pos:=_,after:=_,guard:=_ }) (v:=?v9) rfl (by kernel_rfl) (by kernel_rfl) (by kernel_rfl) (fun _ _ _ h=>h) (Or.inl ⟨by rfl,?y9⟩) hHeld ?r9
       case y9=>(intro wz hSw;(try dsimp only at hSw);go_simp;try with_reducible rfl)
       case r9 =>
       try simp only [Act.put,List.setIfInBounds_toArray,List.set_cons_zero,List.set_cons_succ]
       refine wpAnyH_take (i:=11) (oi:={ dst:=some 83,op:=_,type:=_,pos:=_,after:=_,guard:=_ }) (v:=?v10) rfl (by kernel_rfl) (by kernel_rfl) (by kernel_rfl) (fun _ _ _ h=>h) (Or.inl ⟨by rfl,?y10⟩) hHeld ?r10
       case y10=>(intro wz hSw;(try dsimp only at hSw);go_simp;try with_reducible rfl)
       case r10 =>
       try simp only [Act.put,List.setIfInBounds_toArray,List.set_cons_zero,List.set_cons_succ]
       refine wpAnyH_take (i:=12) (oi:={ dst:=some 84,op:=_,type:=_,pos:=_,after:=_,guard:=_ }) (v:=?v11) rfl (by kernel_rfl) (by kernel_rfl) (by kernel_rfl) (fun _ _ _ h=>h) (Or.inl ⟨by rfl,?y11⟩) hHeld ?r11
       case y11=>(intro wz hSw;(try dsimp only at hSw);go_simp;try with_reducible rfl)
       case r11 =>
       try simp only [Act.put,List.setIfInBounds_toArray,List.set_cons_zero,List.set_cons_succ]
       refine wpAnyH_ready (rs:=[4,13]) (by kernel_rfl) (by simp) ?_
       refine AllReadyH.cons (o:={ dst:=some 76,op:=_,type:=_,pos:=_,after:=_,guard:=_ }) rfl (fun K hK => ?_) (AllReadyH.cons (o:={ dst:=some 85,op:=_,type:=_,pos:=_,after:=_,guard:=_ }) rfl (fun K hK => ?_) AllReadyH.nil)
       ·skip
        go_simp
        refine hK.out _ _ (hHeld) (fun hHeld => ?_)
        clear hK K
        try simp only [Act.put,List.setIfInBounds_toArray,List.set_cons_zero,List.set_cons_succ]
        refine wpAnyH_ready (rs:=[13]) (by kernel_rfl) (by simp) ?_
        refine AllReadyH.cons (o:={ dst:=some 85,op:=_,type:=_,pos:=_,after:=_,guard:=_ }) rfl (fun K hK => ?_) AllReadyH.nil
        go_simp
        refine hK.out _ _ (keepA) (fun hHeld => ?_)
        clear hK K
        try simp only [Act.put,List.setIfInBounds_toArray,List.set_cons_zero,List.set_cons_succ]
        refine wpAnyH_ready (rs:=[14]) (by kernel_rfl) (by simp) ?_
        refine AllReadyH.cons (o:={ dst:=some 86,op:=_,type:=_,pos:=_,after:=_,guard:=_ }) rfl (fun K hK => ?_) AllReadyH.nil
        refine step_append_lies _ (by rfl) _ _ _ (by rfl) w.heap.size 50 i0 (.int .u64 0) 1 8 Tryz.underlying26 hi0 hz0 hz1 hz2 rfl (by decide) (.slice aR M.R.length cR) M.R.length (wordsV M.R) rfl (ownsRow_far' hrow (fun g hg=>heap_alloc_old _ _ _ (own_lt2 hrow g hg).2)) ⟨w10.heap.size,0,none⟩ 1 1 [.int .u64 x] rfl rfl (World.news_of_block (cs:=#[.int .u64 x]) (t:=50) (heap_alloc_new _ _)) (fun u hu=>by simp at hu;subst hu;rfl) (by decide) (by unfold maxLen;omega) (by omega) (by simp;omega) _ rfl ?_
        intro g' cap' wA hownA hgrowA hatA hltA
        obtain ⟨qA,sA⟩:=hJn (((Below.refl _ _).alloc (Nat.le_refl _) _).drew) hgrowA hatA hownA
        have c7A:=qA7 qA
        have f7A:=qAf qA
        have HSA:=toHid sA
        have BA:=toHid (gBA hgrowA)
        clear sA hownA hgrowA hatA hltA
        refine hK.out _ _ (keepB BA.out) (fun hHeld => ?_)
        clear hK K
        try simp only [Act.put,List.setIfInBounds_toArray,List.set_cons_zero,List.set_cons_succ]
        refine wpAnyH_take (i:=15) (oi:={ dst:=some 87,op:=_,type:=_,pos:=_,after:=_,guard:=_ }) (v:=?v12) rfl (by kernel_rfl) (by kernel_rfl) (by kernel_rfl) (fun _ _ _ h=>h) (Or.inl ⟨by rfl,?y12⟩) hHeld ?r12
        case y12=>(intro wz hSw;(try dsimp only at hSw);go_simp;try with_reducible rfl)
        case r12 =>
        try simp only [Act.put,List.setIfInBounds_toArray,List.set_cons_zero,List.set_cons_succ]
        refine wpAnyH_take (i:=16) (oi:={ dst:=some 88,op:=_,type:=_,pos:=_,after:=_,guard:=_ }) (v:=?v13) rfl (by kernel_rfl) (by kernel_rfl) (by kernel_rfl) (fun _ _ _ h=>h) (Or.inl ⟨by rfl,?y13⟩) hHeld ?r13
        case y13=>(intro wz hSw;(try dsimp only at hSw);go_simp;try with_reducible rfl)
        case r13 =>
        try simp only [Act.put,List.setIfInBounds_toArray,List.set_cons_zero,List.set_cons_succ]
        refine wpAnyH_ready (rs:=[17]) (by kernel_rfl) (by simp) ?_
        refine AllReadyH.cons (o:={ dst:=none,op:=_,type:=_,pos:=_,after:=_,guard:=_ }) rfl (fun K hK => ?_) AllReadyH.nil
        go_simp
        refine hK.out _ _ (keepC BA.out) (fun hHeld => ?_)
        clear hK K
        try simp only [Act.put,List.setIfInBounds_toArray,List.set_cons_zero,List.set_cons_succ]
        refine wpAnyH_done (by kernel_rfl) ?_ _
        go_wp2_with fail
        go_meet
        exact HSA
       ·skip
        go_simp
        refine hK.out _ _ (keepA) (fun hHeld => ?_)
        clear hK K
        try simp only [Act.put,List.setIfInBounds_toArray,List.set_cons_zero,List.set_cons_succ]
        refine wpAnyH_ready (rs:=[4]) (by kernel_rfl) (by simp) ?_
        refine AllReadyH.cons (o:={ dst:=some 76,op:=_,type:=_,pos:=_,after:=_,guard:=_ }) rfl (fun K hK => ?_) AllReadyH.nil
        go_simp
        refine hK.out _ _ (hHeld) (fun hHeld => ?_)
        clear hK K
        try simp only [Act.put,List.setIfInBounds_toArray,List.set_cons_zero,List.set_cons_succ]
        refine wpAnyH_ready (rs:=[14]) (by kernel_rfl) (by simp) ?_
        refine AllReadyH.cons (o:={ dst:=some 86,op:=_,type:=_,pos:=_,after:=_,guard:=_ }) rfl (fun K hK => ?_) AllReadyH.nil
        refine step_append_lies _ (by rfl) _ _ _ (by rfl) w.heap.size 50 i0 (.int .u64 0) 1 8 Tryz.underlying26 hi0 hz0 hz1 hz2 rfl (by decide) (.slice aR M.R.length cR) M.R.length (wordsV M.R) rfl (ownsRow_far' hrow (fun g hg=>heap_alloc_old _ _ _ (own_lt2 hrow g hg).2)) ⟨w10.heap.size,0,none⟩ 1 1 [.int .u64 x] rfl rfl (World.news_of_block (cs:=#[.int .u64 x]) (t:=50) (heap_alloc_new _ _)) (fun u hu=>by simp at hu;subst hu;rfl) (by decide) (by unfold maxLen;omega) (by omega) (by simp;omega) _ rfl ?_
        intro g' cap' wA hownA hgrowA hatA hltA
        obtain ⟨qA,sA⟩:=hJn (((Below.refl _ _).alloc (Nat.le_refl _) _).drew) hgrowA hatA hownA
        have c7A:=qA7 qA
        have f7A:=qAf qA
        have HSA:=toHid sA
        have BA:=toHid (gBA hgrowA)
        clear sA hownA hgrowA hatA hltA
        refine hK.out _ _ (keepB BA.out) (fun hHeld => ?_)
        clear hK K
        try simp only [Act.put,List.setIfInBounds_toArray,List.set_cons_zero,List.set_cons_succ]
        refine wpAnyH_take (i:=15) (oi:={ dst:=some 87,op:=_,type:=_,pos:=_,after:=_,guard:=_ }) (v:=?v14) rfl (by kernel_rfl) (by kernel_rfl) (by kernel_rfl) (fun _ _ _ h=>h) (Or.inl ⟨by rfl,?y14⟩) hHeld ?r14
        case y14=>(intro wz hSw;(try dsimp only at hSw);go_simp;try with_reducible rfl)
        case r14 =>
        try simp only [Act.put,List.setIfInBounds_toArray,List.set_cons_zero,List.set_cons_succ]
        refine wpAnyH_take (i:=16) (oi:={ dst:=some 88,op:=_,type:=_,pos:=_,after:=_,guard:=_ }) (v:=?v15) rfl (by kernel_rfl) (by kernel_rfl) (by kernel_rfl) (fun _ _ _ h=>h) (Or.inl ⟨by rfl,?y15⟩) hHeld ?r15
        case y15=>(intro wz hSw;(try dsimp only at hSw);go_simp;try with_reducible rfl)
        case r15 =>
        try simp only [Act.put,List.setIfInBounds_toArray,List.set_cons_zero,List.set_cons_succ]
        refine wpAnyH_ready (rs:=[17]) (by kernel_rfl) (by simp) ?_
        refine AllReadyH.cons (o:={ dst:=none,op:=_,type:=_,pos:=_,after:=_,guard:=_ }) rfl (fun K hK => ?_) AllReadyH.nil
        go_simp
        refine hK.out _ _ (keepC BA.out) (fun hHeld => ?_)
        clear hK K
        try simp only [Act.put,List.setIfInBounds_toArray,List.set_cons_zero,List.set_cons_succ]
        refine wpAnyH_done (by kernel_rfl) ?_ _
        go_wp2_with fail
        go_meet
        exact HSA
      case rest =>
      obtain ⟨w11,hw11⟩:∃ w11,w11=wc:=⟨_,rfl⟩
      subst hw11
      clear HZ hJ keepA keepB keepC gBA qA7 qAf hJn c7 lba nba nba' hBle hbaB ngK nP hrow d8 d8' e1 e2 hi0 hz0 hz1 hz2
      have hJ:Hid (WkJ w2.heap.size w.heap.size bb ba N (M.more [x]) w w11):=hcut.out.swap
      have hBJ:Below w.heap.size w w11:=by obtain ⟨_,_,_,_,_,_,_,_,_,_,_,_,_,h⟩:=hJ.out;exact h
      obtain ⟨d8,d8'⟩:=HC0.out w11 hBJ
      have e1:=HCY.out w11 hBJ
      clear hcut hBJ
      go_upto_region 17 with fail
      obtain ⟨vW,vR,vK,vI,vC,uW,uR,uK,uI,uC,z1,z2,z3,z4⟩:=hJ.out
      have hrow:=z1.1.2.2.2.1
      obtain ⟨aR,cR,rfl⟩:=own_slice hrow
      have hob:=z1.1.2.1
      have c7:w11.cell? ⟨bb,7,none⟩=some (.slice aR N.R.length cR):=by rw [cell_of_row _ _ _ _ _ _ hob];rfl
      have lba:bb<w11.heap.size:=lt_of_heap hob
      have nba:¬ w11.heap.size=bb:=by omega
      have nba':¬ bb=w11.heap.size:=by omega
      have hBle:w2.heap.size≤w11.heap.size:=by have:=z1.1.1;omega
      have hbaB:w.heap.size≤bb:=Nat.le_trans (by omega) z1.1.1
      have ngK:¬ gN=w11.heap.size:=by have:=lt_of_cell e1;omega
      have nP:¬ p'=w11.heap.size:=by have:=lt_of_cell d8';omega
      have keepB:∀ {W:World},Below w.heap.size w W→W.cell? ⟨p',o'+9,none⟩=some (.slice (some ⟨gN,oN,none⟩) j cN)∧W.cell? ⟨gN,oN+kk*2,none⟩=some (.int .u64 y):=fun h=>⟨(HC0.out _ h).2,HCY.out _ h⟩
      have keepC:∀ {W:World}{v:Value},Below w.heap.size w W→(W.setCell ⟨bb,7,none⟩ v).cell? ⟨p',o'+9,none⟩=some (.slice (some ⟨gN,oN,none⟩) j cN)∧(W.setCell ⟨bb,7,none⟩ v).cell? ⟨gN,oN+kk*2,none⟩=some (.int .u64 y):=fun h=>keepB (h.setCell hbaB _)
      have keepA:∀ {ob':Obj},(w11.alloc ob').drew.cell? ⟨p',o'+9,none⟩=some (.slice (some ⟨gN,oN,none⟩) j cN)∧(w11.alloc ob').drew.cell? ⟨gN,oN+kk*2,none⟩=some (.int .u64 y):=keepB (z4.alloc z4.size _).drew
      have gBA:∀ {ob':Obj}{W8:World},((w11.alloc ob').drew).grownBy W8 (Value.slice aR N.R.length cR).ownBlock→Below w.heap.size w W8:=fun hg=>((z4.alloc z4.size _).drew).grown hg (by have:=z4.size;simp;omega) (fun k hk=>Nat.le_trans (by omega) (own_lt2 hrow k hk).1)
      have qA7:∀ {W:World},OB 30 bb N.half N.old N.card vW N.used N.top N.oldTop (.slice aR N.R.length cR) vK vI vC W→W.cell? ⟨bb,7,none⟩=some (.slice aR N.R.length cR):=fun h=>by rw [cell_of_row _ _ _ _ _ _ h];rfl
      have qAf:∀ {W:World},OB 30 bb N.half N.old N.card vW N.used N.top N.oldTop (.slice aR N.R.length cR) vK vI vC W→W.frozen? ⟨bb,7,none⟩=false:=fun h=>by simp [World.frozen?,h]
      have hJn:=fun {g cap:Nat}{W w8:World} hb hg hat ho=>wkj_next (g:=g) (cap:=cap) (x:=y) (W:=W) (w8:=w8) z1 z2 z3 z4 (by omega) hb hg hat ho
      obtain ⟨i0,hi0,hz0,hz1,hz2⟩:=infoU64
      have HZ:=toHid (⟨z1,z2,z3,z4⟩:GrR w2.heap.size bb N vW (.slice aR N.R.length cR) vK vI vC w11∧GrR w.heap.size ba (M.more [x]) uW uR uK uI uC w11∧(∀ k,kB bb vW (.slice aR N.R.length cR) vK vI vC k → ¬ kB ba uW uR uK uI uC k)∧Below w.heap.size w w11)
      clear z1 z2 z3 z4 hob
      refine wp_region_held_drew (S:=(fun W=>W.cell? ⟨p',o'+9,none⟩=some (.slice (some ⟨gN,oN,none⟩) j cN)∧W.cell? ⟨gN,oN+kk*2,none⟩=some (.int .u64 y))) (by kernel_rfl) ⟨d8',e1⟩ (fun hHeld => ?_)
      refine wpAnyH_take (i:=0) (oi:={ dst:=some 89,op:=_,type:=_,pos:=_,after:=_,guard:=_ }) (v:=?v16) rfl (by kernel_rfl) (by kernel_rfl) (by kernel_rfl) (fun _ _ _ h=>h) (Or.inl ⟨by rfl,?y16⟩) hHeld ?r16
      case y16=>(intro wz hSw;(try dsimp only at hSw);go_simp;try with_reducible rfl)
      case r16 =>
      try simp only [Act.put,List.setIfInBounds_toArray,List.set_cons_zero,List.set_cons_succ]
      refine wpAnyH_take (i:=1) (oi:={ dst:=some 90,op:=_,type:=_,pos:=_,after:=_,guard:=_ }) (v:=?v17) rfl (by kernel_rfl) (by kernel_rfl) (by kernel_rfl) (fun _ _ _ h=>h) (Or.inl ⟨by rfl,?y17⟩) hHeld ?r17
      case y17=>(intro wz hSw;(try dsimp only at hSw);go_simp;try with_reducible rfl)
      case r17 =>
      try simp only [Act.put,List.setIfInBounds_toArray,List.set_cons_zero,List.set_cons_succ]
      refine wpAnyH_take (i:=2) (oi:={ dst:=some 91,op:=_,type:=_,pos:=_,after:=_,guard:=_ }) (v:=?v18) rfl (by kernel_rfl) (by kernel_rfl) (by kernel_rfl) (fun _ _ _ h=>h) (Or.inl ⟨by rfl,?y18⟩) hHeld ?r18
      case y18=>(intro wz hSw;(try dsimp only at hSw);go_simp;try with_reducible rfl)
      case r18 =>
      try simp only [Act.put,List.setIfInBounds_toArray,List.set_cons_zero,List.set_cons_succ]
      refine wpAnyH_take (i:=3) (oi:={ dst:=some 92,op:=_,type:=_,pos:=_,after:=_,guard:=_ }) (v:=?v19) rfl (by kernel_rfl) (by kernel_rfl) (by kernel_rfl) (fun _ _ _ h=>h) (Or.inl ⟨by rfl,?y19⟩) hHeld ?r19
      case y19=>(intro wz hSw;(try dsimp only at hSw);go_simp;try with_reducible rfl)
      case r19 =>
      try simp only [Act.put,List.setIfInBounds_toArray,List.set_cons_zero,List.set_cons_succ]
      refine wpAnyH_take (i:=5) (oi:={ dst:=some 94,op:=_,type:=_,pos:=_,after:=_,guard:=_ }) (v:=?v20) rfl (by kernel_rfl) (by kernel_rfl) (by kernel_rfl) (fun _ _ _ h=>h) (Or.inl ⟨by rfl,?y20⟩) hHeld ?r20
      case y20=>(intro wz hSw;(try dsimp only at hSw);go_simp;try with_reducible rfl)
      case r20 =>
      try simp only [Act.put,List.setIfInBounds_toArray,List.set_cons_zero,List.set_cons_succ]
      refine wpAnyH_take (i:=6) (oi:={ dst:=some 95,op:=_,type:=_,pos:=_,after:=_,guard:=_ }) (v:=?v21) rfl (by kernel_rfl) (by kernel_rfl) (by kernel_rfl) (fun _ _ _ h=>h) (Or.inl ⟨by rfl,?y21⟩) hHeld ?r21
      case y21=>(intro wz hSw;(try dsimp only at hSw);go_simp;try with_reducible rfl)
      case r21 =>
      try simp only [Act.put,List.setIfInBounds_toArray,List.set_cons_zero,List.set_cons_succ]
      refine wpAnyH_take (i:=7) (oi:={ dst:=some 96,op:=_,type:=_,pos:=_,after:=_,guard:=_ }) (v:=?v22) rfl (by kernel_rfl) (by kernel_rfl) (by kernel_rfl) (fun _ _ _ h=>h) (Or.inl ⟨by rfl,?y22⟩) hHeld ?r22
      case y22=>(intro wz hSw;(try dsimp only at hSw);go_simp;try with_reducible rfl)
      case r22 =>
      try simp only [Act.put,List.setIfInBounds_toArray,List.set_cons_zero,List.set_cons_succ]
      refine wpAnyH_take (i:=8) (oi:={ dst:=some 97,op:=_,type:=_,pos:=_,after:=_,guard:=_ }) (v:=?v23) rfl (by kernel_rfl) (by kernel_rfl) (by kernel_rfl) (fun _ _ _ h=>h) (Or.inl ⟨by rfl,?y23⟩) hHeld ?r23
      case y23=>(intro wz hSw;(try dsimp only at hSw);go_simp;try with_reducible rfl)
      case r23 =>
      try simp only [Act.put,List.setIfInBounds_toArray,List.set_cons_zero,List.set_cons_succ]
      refine wpAnyH_take (i:=9) (oi:={ dst:=some 98,op:=_,type:=_,pos:=_,after:=_,guard:=_ }) (v:=?v24) rfl (by kernel_rfl) (by kernel_rfl) (by kernel_rfl) (fun _ _ _ h=>h) (Or.inl ⟨by rfl,?y24⟩) hHeld ?r24
      case y24=>(intro wz hSw;(try dsimp only at hSw);go_simp;try with_reducible rfl)
      case r24 =>
      try simp only [Act.put,List.setIfInBounds_toArray,List.set_cons_zero,List.set_cons_succ]
      refine wpAnyH_take (i:=10) (oi:={ dst:=some 99,op:=_,type:=_,pos:=_,after:=_,guard:=_ }) (v:=?v25) rfl (by kernel_rfl) (by kernel_rfl) (by kernel_rfl) (fun _ _ _ h=>h) (Or.inl ⟨by rfl,?y25⟩) hHeld ?r25
      case y25=>(intro wz hSw;(try dsimp only at hSw);go_simp;try with_reducible rfl)
      case r25 =>
      try simp only [Act.put,List.setIfInBounds_toArray,List.set_cons_zero,List.set_cons_succ]
      refine wpAnyH_take (i:=11) (oi:={ dst:=some 100,op:=_,type:=_,pos:=_,after:=_,guard:=_ }) (v:=?v26) rfl (by kernel_rfl) (by kernel_rfl) (by kernel_rfl) (fun _ _ _ h=>h) (Or.inl ⟨by rfl,?y26⟩) hHeld ?r26
      case y26=>(intro wz hSw;(try dsimp only at hSw);go_simp;try with_reducible rfl)
      case r26 =>
      try simp only [Act.put,List.setIfInBounds_toArray,List.set_cons_zero,List.set_cons_succ]
      refine wpAnyH_take (i:=12) (oi:={ dst:=some 101,op:=_,type:=_,pos:=_,after:=_,guard:=_ }) (v:=?v27) rfl (by kernel_rfl) (by kernel_rfl) (by kernel_rfl) (fun _ _ _ h=>h) (Or.inl ⟨by rfl,?y27⟩) hHeld ?r27
      case y27=>(intro wz hSw;(try dsimp only at hSw);go_simp;try with_reducible rfl)
      case r27 =>
      try simp only [Act.put,List.setIfInBounds_toArray,List.set_cons_zero,List.set_cons_succ]
      refine wpAnyH_ready (rs:=[4,13]) (by kernel_rfl) (by simp) ?_
      refine AllReadyH.cons (o:={ dst:=some 93,op:=_,type:=_,pos:=_,after:=_,guard:=_ }) rfl (fun K hK => ?_) (AllReadyH.cons (o:={ dst:=some 102,op:=_,type:=_,pos:=_,after:=_,guard:=_ }) rfl (fun K hK => ?_) AllReadyH.nil)
      ·skip
       go_simp
       refine hK.out _ _ (hHeld) (fun hHeld => ?_)
       clear hK K
       try simp only [Act.put,List.setIfInBounds_toArray,List.set_cons_zero,List.set_cons_succ]
       refine wpAnyH_ready (rs:=[13]) (by kernel_rfl) (by simp) ?_
       refine AllReadyH.cons (o:={ dst:=some 102,op:=_,type:=_,pos:=_,after:=_,guard:=_ }) rfl (fun K hK => ?_) AllReadyH.nil
       go_simp
       refine hK.out _ _ (keepA) (fun hHeld => ?_)
       clear hK K
       try simp only [Act.put,List.setIfInBounds_toArray,List.set_cons_zero,List.set_cons_succ]
       refine wpAnyH_ready (rs:=[14]) (by kernel_rfl) (by simp) ?_
       refine AllReadyH.cons (o:={ dst:=some 103,op:=_,type:=_,pos:=_,after:=_,guard:=_ }) rfl (fun K hK => ?_) AllReadyH.nil
       refine step_append_lies _ (by rfl) _ _ _ (by rfl) w2.heap.size 50 i0 (.int .u64 0) 1 8 Tryz.underlying26 hi0 hz0 hz1 hz2 rfl (by decide) (.slice aR N.R.length cR) N.R.length (wordsV N.R) rfl (ownsRow_far' hrow (fun g hg=>heap_alloc_old _ _ _ (own_lt2 hrow g hg).2)) ⟨w11.heap.size,0,none⟩ 1 1 [.int .u64 y] rfl rfl (World.news_of_block (cs:=#[.int .u64 y]) (t:=50) (heap_alloc_new _ _)) (fun u hu=>by simp at hu;subst hu;rfl) (by decide) (by unfold maxLen;omega) (by omega) (by simp;omega) _ rfl ?_
       intro g' cap' wA hownA hgrowA hatA hltA
       obtain ⟨qA,sA⟩:=hJn (((Below.refl _ _).alloc (Nat.le_refl _) _).drew) hgrowA hatA hownA
       have c7A:=qA7 qA
       have f7A:=qAf qA
       have HSA:=toHid sA
       have BA:=toHid (gBA hgrowA)
       clear sA hownA hgrowA hatA hltA
       refine hK.out _ _ (keepB BA.out) (fun hHeld => ?_)
       clear hK K
       try simp only [Act.put,List.setIfInBounds_toArray,List.set_cons_zero,List.set_cons_succ]
       refine wpAnyH_take (i:=15) (oi:={ dst:=some 104,op:=_,type:=_,pos:=_,after:=_,guard:=_ }) (v:=?v28) rfl (by kernel_rfl) (by kernel_rfl) (by kernel_rfl) (fun _ _ _ h=>h) (Or.inl ⟨by rfl,?y28⟩) hHeld ?r28
       case y28=>(intro wz hSw;(try dsimp only at hSw);go_simp;try with_reducible rfl)
       case r28 =>
       try simp only [Act.put,List.setIfInBounds_toArray,List.set_cons_zero,List.set_cons_succ]
       refine wpAnyH_take (i:=16) (oi:={ dst:=some 105,op:=_,type:=_,pos:=_,after:=_,guard:=_ }) (v:=?v29) rfl (by kernel_rfl) (by kernel_rfl) (by kernel_rfl) (fun _ _ _ h=>h) (Or.inl ⟨by rfl,?y29⟩) hHeld ?r29
       case y29=>(intro wz hSw;(try dsimp only at hSw);go_simp;try with_reducible rfl)
       case r29 =>
       try simp only [Act.put,List.setIfInBounds_toArray,List.set_cons_zero,List.set_cons_succ]
       refine wpAnyH_ready (rs:=[17]) (by kernel_rfl) (by simp) ?_
       refine AllReadyH.cons (o:={ dst:=none,op:=_,type:=_,pos:=_,after:=_,guard:=_ }) rfl (fun K hK => ?_) AllReadyH.nil
       go_simp
       refine hK.out _ _ (keepC BA.out) (fun hHeld => ?_)
       clear hK K
       try simp only [Act.put,List.setIfInBounds_toArray,List.set_cons_zero,List.set_cons_succ]
       refine wpAnyH_done (by kernel_rfl) ?_ _
       have hE:Hid (WkJ w.heap.size w2.heap.size ba bb (m.more (keptI m n (i+1))) (n.more (keptJ m n (i+1))) w _):=(by
        have h:=HSA.out.swap
        rw [HMM.out.1,HMM.out.2] at h
        exact h)
       go_wp2_with fail
       go_roundg (L+1 - (i+1))
       case measure=>have:=HGK.out;omega
       case rel=>exact ⟨i+1,rfl,by omega,by go_num,hE⟩
      ·skip
       go_simp
       refine hK.out _ _ (keepA) (fun hHeld => ?_)
       clear hK K
       try simp only [Act.put,List.setIfInBounds_toArray,List.set_cons_zero,List.set_cons_succ]
       refine wpAnyH_ready (rs:=[4]) (by kernel_rfl) (by simp) ?_
       refine AllReadyH.cons (o:={ dst:=some 93,op:=_,type:=_,pos:=_,after:=_,guard:=_ }) rfl (fun K hK => ?_) AllReadyH.nil
       go_simp
       refine hK.out _ _ (hHeld) (fun hHeld => ?_)
       clear hK K
       try simp only [Act.put,List.setIfInBounds_toArray,List.set_cons_zero,List.set_cons_succ]
       refine wpAnyH_ready (rs:=[14]) (by kernel_rfl) (by simp) ?_
       refine AllReadyH.cons (o:={ dst:=some 103,op:=_,type:=_,pos:=_,after:=_,guard:=_ }) rfl (fun K hK => ?_) AllReadyH.nil
       refine step_append_lies _ (by rfl) _ _ _ (by rfl) w2.heap.size 50 i0 (.int .u64 0) 1 8 Tryz.underlying26 hi0 hz0 hz1 hz2 rfl (by decide) (.slice aR N.R.length cR) N.R.length (wordsV N.R) rfl (ownsRow_far' hrow (fun g hg=>heap_alloc_old _ _ _ (own_lt2 hrow g hg).2)) ⟨w11.heap.size,0,none⟩ 1 1 [.int .u64 y] rfl rfl (World.news_of_block (cs:=#[.int .u64 y]) (t:=50) (heap_alloc_new _ _)) (fun u hu=>by simp at hu;subst hu;rfl) (by decide) (by unfold maxLen;omega) (by omega) (by simp;omega) _ rfl ?_
       intro g' cap' wA hownA hgrowA hatA hltA
       obtain ⟨qA,sA⟩:=hJn (((Below.refl _ _).alloc (Nat.le_refl _) _).drew) hgrowA hatA hownA
       have c7A:=qA7 qA
       have f7A:=qAf qA
       have HSA:=toHid sA
       have BA:=toHid (gBA hgrowA)
       clear sA hownA hgrowA hatA hltA
       refine hK.out _ _ (keepB BA.out) (fun hHeld => ?_)
       clear hK K
       try simp only [Act.put,List.setIfInBounds_toArray,List.set_cons_zero,List.set_cons_succ]
       refine wpAnyH_take (i:=15) (oi:={ dst:=some 104,op:=_,type:=_,pos:=_,after:=_,guard:=_ }) (v:=?v30) rfl (by kernel_rfl) (by kernel_rfl) (by kernel_rfl) (fun _ _ _ h=>h) (Or.inl ⟨by rfl,?y30⟩) hHeld ?r30
       case y30=>(intro wz hSw;(try dsimp only at hSw);go_simp;try with_reducible rfl)
       case r30 =>
       try simp only [Act.put,List.setIfInBounds_toArray,List.set_cons_zero,List.set_cons_succ]
       refine wpAnyH_take (i:=16) (oi:={ dst:=some 105,op:=_,type:=_,pos:=_,after:=_,guard:=_ }) (v:=?v31) rfl (by kernel_rfl) (by kernel_rfl) (by kernel_rfl) (fun _ _ _ h=>h) (Or.inl ⟨by rfl,?y31⟩) hHeld ?r31
       case y31=>(intro wz hSw;(try dsimp only at hSw);go_simp;try with_reducible rfl)
       case r31 =>
       try simp only [Act.put,List.setIfInBounds_toArray,List.set_cons_zero,List.set_cons_succ]
       refine wpAnyH_ready (rs:=[17]) (by kernel_rfl) (by simp) ?_
       refine AllReadyH.cons (o:={ dst:=none,op:=_,type:=_,pos:=_,after:=_,guard:=_ }) rfl (fun K hK => ?_) AllReadyH.nil
       go_simp
       refine hK.out _ _ (keepC BA.out) (fun hHeld => ?_)
       clear hK K
       try simp only [Act.put,List.setIfInBounds_toArray,List.set_cons_zero,List.set_cons_succ]
       refine wpAnyH_done (by kernel_rfl) ?_ _
       have hE:Hid (WkJ w.heap.size w2.heap.size ba bb (m.more (keptI m n (i+1))) (n.more (keptJ m n (i+1))) w _):=(by
        have h:=HSA.out.swap
        rw [HMM.out.1,HMM.out.2] at h
        exact h)
       go_wp2_with fail
       go_roundg (L+1 - (i+1))
       case measure=>have:=HGK.out;omega
       case rel=>exact ⟨i+1,rfl,by omega,by go_num,hE⟩
     ·have hkneg:fk<0:=by omega
      have hldf:ld=false:=by
       cases ld with
       | false=>rfl
       | true=>exact absurd (HLD.out rfl) hk0
      subst hldf
      have hE:Hid (WkJ w.heap.size w2.heap.size ba bb (m.more (keptI m n (i+1))) (n.more (keptJ m n (i+1))) w w10):=by
       show WkJ _ _ _ _ _ _ _ _
       rw [HKW.out,HKN.out,if_neg hk0,if_neg hk0,List.append_nil,List.append_nil]
       exact hI10.out
      clear HLD
      go_wp2_with fail
      go_roundg (L+1 - (i+1))
      case measure=>have:=HGK.out;omega
      case rel=>exact ⟨i+1,rfl,by omega,by go_num,hE⟩
  ·have hIL:¬ (i:Int)<(L:Int):=by omega
   obtain rfl:i=L:=by omega
   obtain ⟨vW,vR,vK,vI,vC,uW,uR,uK,uI,uC,z1,z2,z3,z4⟩:=hI.out
   have hlW:=keptI_len m n i
   have hlN:=keptJ_len m n i
   have kg:=graphOf_any ba 0 (m.more (keptI m n i)) vs (by have:=HH.out.shM;rw [←HL.out] at this;exact this) (by have:=HH.out.M64;rw [←HL.out] at this;exact this) (by show (m.R++keptI m n i).length≤_;rw [List.length_append];omega) b3 (by show m.I.length≤_;omega) wr z1.1.rep
   have HN2:=toHid z2.1.rep
   have HT:Hid ((n.more (keptJ m n i)).textA us=(m.more (keptI m n i)).textA vs):=by have:=HH.out.text;rw [←HL.out] at this;exact this
   have HB4:=toHid z4
   have kg2:=fun w' hb=>graphOf_any bb 0 (n.more (keptJ m n i)) us (by have:=HH.out.shN;rw [←HL.out] at this;exact this) (by have:=HH.out.N64;rw [←HL.out] at this;exact this) (by show (n.R++keptJ m n i).length≤_;rw [List.length_append];omega) c3 (by show n.I.length≤_;omega) w' (HN2.out.below hb)
   have HK2:=toHid kg2
   clear z1 z2 z3 z4 kg2 hlW hlN
   go_wp2_with fail
   refine kg.mono ?_
   clear kg d8 d8'
   rintro ev w8 ⟨rfl,hb8⟩
   have kg2:=HK2.out w8 hb8
   rw [HT.out] at kg2
   have HB8:Hid (Below w.heap.size w w8):=HB4.out.trans (hb8.mono HB4.out.size)
   clear hb8
   go_wp2_with fail
   refine kg2.mono ?_
   clear kg2
   rintro ev w9 ⟨rfl,hb9⟩
   have HB9:Hid (Below w.heap.size w w9):=HB8.out.trans (hb9.mono HB8.out.size)
   obtain ⟨d8,d8'⟩:=HC0.out w9 HB9.out
   clear hb9
   have hle2:(L':Int)≤(i:Int):=by omega
   go_wp2_with fail
   go_quiet (fail)
   go_wp2_with fail
   go_ret
   exact ⟨by simp,below_drewN HB9.out⟩
end Go.Proofs.YtnenggkgfhgcnaaGreatDoor
