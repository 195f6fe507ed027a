/- Package scope: told. -/
import Derived.Test.YtflcohidmemfpaaGreatDoorSvL
import Derived.Test.YtflcohidmemfpaaGreatDoorScM
set_option linter.all false
namespace Go.Proofs.YtflcohidmemfpaaGreatDoor
open Go.Proofs.Tryz
open Go.RowKit Go.Maps

theorem oth {w:World}{b o p:Nat}{u:Value} (h:w.cell? ⟨b,o,none⟩=some u) (hne:o≠p) (v:Value):(w.setCell ⟨b,p,none⟩ v).cell? ⟨b,o,none⟩=some u:=(World.cell?_setCell_other w _ _ v (fun e=>hne (by simp only [Addr.mk.injEq] at e;exact e.2.1.symm))).trans h
theorem six {w:World}{b:Nat}{u0 u1 u2 u3 u4 u5:Value} (r0:w.cell? ⟨b,0,none⟩=some u0) (r1:w.cell? ⟨b,1,none⟩=some u1) (r2:w.cell? ⟨b,2,none⟩=some u2) (r3:w.cell? ⟨b,3,none⟩=some u3) (r4:w.cell? ⟨b,4,none⟩=some u4) (r5:w.cell? ⟨b,5,none⟩=some u5) (a0 a1 a2 a3 a4 a5:Value) :
  (w.setCell ⟨b,0,none⟩ a0).cell? ⟨b,0,none⟩=some a0∧((w.setCell ⟨b,0,none⟩ a0).setCell ⟨b,1,none⟩ a1).cell? ⟨b,1,none⟩=some a1∧(((w.setCell ⟨b,0,none⟩ a0).setCell ⟨b,1,none⟩ a1).setCell ⟨b,2,none⟩ a2).cell? ⟨b,2,none⟩=some a2∧((((w.setCell ⟨b,0,none⟩ a0).setCell ⟨b,1,none⟩ a1).setCell ⟨b,2,none⟩ a2).setCell ⟨b,3,none⟩ a3).cell? ⟨b,3,none⟩=some a3∧(((((w.setCell ⟨b,0,none⟩ a0).setCell ⟨b,1,none⟩ a1).setCell ⟨b,2,none⟩ a2).setCell ⟨b,3,none⟩ a3).setCell ⟨b,4,none⟩ a4).cell? ⟨b,4,none⟩=some a4∧((((((w.setCell ⟨b,0,none⟩ a0).setCell ⟨b,1,none⟩ a1).setCell ⟨b,2,none⟩ a2).setCell ⟨b,3,none⟩ a3).setCell ⟨b,4,none⟩ a4).setCell ⟨b,5,none⟩ a5).cell? ⟨b,5,none⟩=some a5:=
 ⟨World.cell?_setCell_same _ _ _ r0,World.cell?_setCell_same _ _ _ (oth r1 (by decide) a0),World.cell?_setCell_same _ _ _ (oth (oth r2 (by decide) a0) (by decide) a1),World.cell?_setCell_same _ _ _ (oth (oth (oth r3 (by decide) a0) (by decide) a1) (by decide) a2),World.cell?_setCell_same _ _ _ (oth (oth (oth (oth r4 (by decide) a0) (by decide) a1) (by decide) a2) (by decide) a3),World.cell?_setCell_same _ _ _ (oth (oth (oth (oth (oth r5 (by decide) a0) (by decide) a1) (by decide) a2) (by decide) a3) (by decide) a4)⟩
set_option maxHeartbeats 16000000 in
set_option maxRecDepth 100000 in
theorem Ztt {B:Nat}{w:World}{x:SD} (h:SpAt B w x) (hk:x.k≤5000000000000) (hod:x.od.length≤1000000000):Calls prog 12 #[.pointer (some ⟨x.b,0,none⟩)] w fun ev w'=>Below w.heap.size w w' ∧ ∃ (v:Nat→Value) (ls:Nat→List ByteArray),ev = .returned (.agg #[.string x.nm,.int .i64 x.ar,.int .i64 (x.pn:Int),v 0,v 1,v 2])∧(∀ i,i<3→w'.ownsRow (w.heap.size+2) 9 1 (v i) (ls i).length ((ls i).map Value.string))∧ToldS x ls:=by
 obtain ⟨d0,d1,d2,_,_,_⟩:=Z2t h
 have hbl:=Z02 d0
 obtain ⟨va,vcap,hv⟩:=Z1o h.row
 obtain ⟨i0,hi0,hz0,hz1,hz2⟩:=info_parts Zl7
 have H:=Z01 h
 clear h
 go_enter func12,ntmps12
 go_upto_region 1 with fail
 go_region_held3 (fun W=>W.cell? ⟨x.b,0,none⟩=some (.string x.nm)∧W.cell? ⟨x.b,1,none⟩=some (.int .i64 x.ar)∧W.cell? ⟨x.b,2,none⟩=some (.int .i64 (x.pn:Int))) (first | go_keep) (fail)
 obtain ⟨wO,hwO⟩:∃ wO,wO=((w.alloc (.cells #[.string ⟨#[]⟩,.int .i64 0,.int .i64 0,.slice none 0 0,.slice none 0 0,.slice none 0 0] 34)).alloc (.cells #[.string x.nm,.int .i64 x.ar,.int .i64 (x.pn:Int),.slice none 0 0,.slice none 0 0,.slice none 0 0] 34)).drew:=⟨_,rfl⟩
 rw [←hwO]
 have hT:=TO.start hwO
 clear hwO d0 d1 d2
 have hx:=H.out.below hT.bl
 obtain ⟨o0,o1,o2,o3,o4,o5,of⟩:=hT.cells
 obtain ⟨d0,d1,d2,c6,c7,_⟩:=Z2t hx
 have hO:=Z02 o0
 have hB:=Z02 d0
 have HT:=Z01 hT
 clear hT hx
 by_cases har:x.ar<0
 ·obtain ⟨r0,r1,r2,r3,r4,r5,f0,f1,f2,f3,f4,f5⟩:=HT.out.rcells
  go_wp2_with fail
  obtain ⟨g0,g1,g2,g3,g4,g5⟩:=six r0 r1 r2 r3 r4 r5 (.string x.nm) (.int .i64 x.ar) (.int .i64 (x.pn:Int)) (.slice none 0 0) (.slice none 0 0) (.slice none 0 0)
  ((try simp only [Exit.inBlock,Exit.then]);refine bodyPost_ret (by simp [results,Tryz.results12,go_sem,g0,g1,g2,g3,g4,g5];try rfl) rfl ?_)
  obtain ⟨e1,e2⟩:=HT.out.done (.string x.nm) (.int .i64 x.ar) (.int .i64 (x.pn:Int)) (.slice none 0 0) (.slice none 0 0) (.slice none 0 0)
  exact ⟨e1,fun _=>.slice none 0 0,rfl,fun _ => [],e2,fun _ _ _=>rfl,fun h=>absurd har (by omega),fun h=>absurd har (by omega),fun h=>absurd har (by omega),List.Pairwise.nil,fun _ _=>Nat.zero_le _⟩
 ·rw [hv] at c7
  go_wp2_with fail
  go_loopg [36] (x.od.length+1) (fun gk v36 wr => ∃ (j:Nat) (v:Nat→Value) (ls:Nat→List ByteArray),gk=x.od.length+1 - j∧j≤x.od.length∧v36 = .int .i64 (j:Int)∧TO w x v ls wr∧ls 0=(x.od.take j).filter (isL x)∧ls 1=(x.od.take j).filter (isC x)∧ls 2 = [])
  case atStart=>exact ⟨0,_,_,rfl,Nat.zero_le _,rfl,HT.out,by simp,by simp,rfl⟩
  case round =>
   clear d0 d1 d2 c6 c7 o0 o1 o2 o3 o4 o5 of hO hB HT
   obtain ⟨j,v,ls,hgk,hj,rfl,hto,hL,hC,hF⟩:=hrel
   have HG:=Z01 hgk
   have hj0:(0:Int)≤(j:Int):=by omega
   clear hgk
   have hx:=H.out.below hto.bl
   obtain ⟨o0,o1,o2,o3,o4,o5,of⟩:=hto.cells
   have hO:=Z02 o0
   have hs2:=hto.size
   have hl0:(ls 0).length≤x.od.length:=by rw [hL];exact Zb7 _ _ _
   have hl1:(ls 1).length≤x.od.length:=by rw [hC];exact Zb7 _ _ _
   have HTO:=Z01 hto
   have HL:=Z01 hL
   have HC:=Z01 hC
   have HF:=Z01 hF
   clear hto hL hC hF
   by_cases hlt:j<x.od.length
   ·have hI1:(j:Int)<(x.od.length:Int):=by omega
    obtain ⟨s,hs⟩:∃ s,x.od[j]?=some s:=⟨x.od[j],by simp [hlt]⟩
    obtain ⟨g,rfl,_,cs⟩:=Z7i (by rw [←hv];exact hx.row) rfl hs
    have hgl:=Z02 cs
    have hsz:=hx.ok.ods s (List.mem_of_getElem? hs)
    obtain ⟨hmk,h64,_⟩:=hx.ok.bit s
    have HBE:=Z01 (Z85 hx s hsz hmk h64)
    have HSH:=Z01 (is_sh hx s hsz hmk h64)
    have HS:=Z01 hs
    clear hx hmk h64 hs
    go_wp2_with fail
    refine HBE.out.mono ?_
    rintro ev w1 ⟨rfl,rfl⟩
    cases hbe:beB (x.bits s) with
    | false =>
     go_wp2_with fail
     go_roundg (x.od.length+1 - (j+1))
     case measure=>have:=HG.out;omega
     case rel=>exact ⟨j+1,v,ls,rfl,by omega,by go_num,HTO.out,by rw [Z2p HS.out,if_neg (by simp [isL,hbe])];exact HL.out,by rw [Z2p HS.out,if_neg (by simp [isC,hbe])];exact HC.out,HF.out⟩
    | true =>
     go_wp2_with fail
     refine HSH.out.mono ?_
     rintro ev w2 ⟨rfl,rfl⟩
     cases hsh:shB (x.bits s) with
     | true =>
      go_wp2_with (first
       | (at_builtin;refine wpList_append_lies _ rfl _ _ _ rfl (w.heap.size+2) 9 i0 (.string ⟨#[]⟩) 1 16 underlying32 hi0 hz0 hz1 hz2 rfl (by decide) _ (ls 1).length ((ls 1).map Value.string) rfl ((HTO.out.row 1 (by omega)).alloc _) ⟨w2.heap.size,0,none⟩ 1 1 [.string s] rfl rfl (World.news_of_block (cs:=#[.string s]) (t:=9) (heap_alloc_new _ _)) (Zfs s) (by decide) (by unfold maxLen;omega) (by omega) (by simp;omega) _ rfl ?_;intro gn capn w3 hown3 hgrow hat hlt2;obtain ⟨e3,hP3⟩:=TO.push (i:=1) (by omega) HTO.out hgrow hat hown3;have q1:=(World.cell?_of_block (a:=⟨w.heap.size+1,4,none⟩) e3).trans o4;have qf:=(World.frozen?_of_block (a:=⟨w.heap.size+1,4,none⟩) e3).trans (of 4);have ql:=Z02 q1;have HP3:=Z01 hP3;clear hown3 hgrow hat e3 hP3 o0 o1 o2 o3 o4 o5))
      go_roundg (x.od.length+1 - (j+1))
      case measure=>have:=HG.out;omega
      case rel=>exact ⟨j+1,_,_,rfl,by omega,by go_num,HP3.out,by rw [Z1q _ _ (by decide),Z2p HS.out,if_neg (by simp [isL,hsh])];exact HL.out,by rw [Z3o,Z2p HS.out,if_pos (by simp [isC,hbe,hsh]),HC.out],by rw [Z1q _ _ (by decide)];exact HF.out⟩
     | false =>
      go_wp2_with (first
       | (at_builtin;refine wpList_append_lies _ rfl _ _ _ rfl (w.heap.size+2) 9 i0 (.string ⟨#[]⟩) 1 16 underlying32 hi0 hz0 hz1 hz2 rfl (by decide) _ (ls 0).length ((ls 0).map Value.string) rfl ((HTO.out.row 0 (by omega)).alloc _) ⟨w2.heap.size,0,none⟩ 1 1 [.string s] rfl rfl (World.news_of_block (cs:=#[.string s]) (t:=9) (heap_alloc_new _ _)) (Zfs s) (by decide) (by unfold maxLen;omega) (by omega) (by simp;omega) _ rfl ?_;intro gn capn w3 hown3 hgrow hat hlt2;obtain ⟨e3,hP3⟩:=TO.push (i:=0) (by omega) HTO.out hgrow hat hown3;have q1:=(World.cell?_of_block (a:=⟨w.heap.size+1,3,none⟩) e3).trans o3;have qf:=(World.frozen?_of_block (a:=⟨w.heap.size+1,3,none⟩) e3).trans (of 3);have ql:=Z02 q1;have HP3:=Z01 hP3;clear hown3 hgrow hat e3 hP3 o0 o1 o2 o3 o4 o5))
      go_roundg (x.od.length+1 - (j+1))
      case measure=>have:=HG.out;omega
      case rel=>exact ⟨j+1,_,_,rfl,by omega,by go_num,HP3.out,by rw [Z3o,Z2p HS.out,if_pos (by simp [isL,hbe,hsh]),HL.out],by rw [Z1q _ _ (by decide),Z2p HS.out,if_neg (by simp [isC,hsh])];exact HC.out,by rw [Z1q _ _ (by decide)];exact HF.out⟩
   ·obtain rfl:j=x.od.length:=by omega
    have HNM:=Z01 (Zhn hx hk)
    have hL:=HL.out
    have hC:=HC.out
    rw [List.take_length] at hL hC
    have HL:=Z01 hL
    have HC:=Z01 hC
    clear hL hC hx o0 o1 o2 o3 o4 o5 of
    go_wp2_with fail
    refine HNM.out.mono ?_
    rintro ev w1 ⟨hb1,kv,ks,rfl,hrow,hnz,hks,hris,hkl⟩
    have HT1:=Z01 (HTO.out.names hb1 hrow)
    obtain ⟨ka,kc,rfl⟩:=Z1o hrow
    have HNZ:=Z01 hnz
    have HKS:=Z01 hks
    have HRI:=Z01 hris
    clear hb1 hrow hnz hks hris HNM
    go_wp2_with fail
    go_loopg [65] (ks.length+1) (fun gk v65 wr => ∃ (q:Nat) (v:Nat→Value) (ls:Nat→List ByteArray),gk=ks.length+1 - q∧q≤ks.length∧v65 = .int .i64 (q:Int)∧TO w x v ls wr∧ls 0=x.od.filter (isL x)∧ls 1=x.od.filter (isC x)∧ls 2=(ks.take q).filter (isF x)∧ls 3=ks∧v 3 = .slice ka ks.length kc)
    case atStart=>exact ⟨0,_,_,rfl,Nat.zero_le _,rfl,HT1.out,HL.out,HC.out,HF.out,rfl,rfl⟩
    case round =>
     clear HT1 HTO HL HC HF hl0 hl1 hO hs2
     obtain ⟨q,v,ls,hgk,hq,rfl,hto,hL,hC,hF,h3,hv3⟩:=hrel
     have HG2:=Z01 hgk
     have hq0:(0:Int)≤(q:Int):=by omega
     clear hgk
     have hx:=H.out.below hto.bl
     obtain ⟨o0,o1,o2,o3,o4,o5,of⟩:=hto.cells
     have hO:=Z02 o0
     have hs2:=hto.size
     have hl2:(ls 2).length≤ks.length:=by rw [hF];exact Zb7 _ _ _
     have HTO:=Z01 hto
     have HL:=Z01 hL
     have HC:=Z01 hC
     have HF:=Z01 hF
     have H3:=Z01 h3
     have HV3:=Z01 hv3
     clear hto hL hC hF h3 hv3
     by_cases hlt:q<ks.length
     ·have hI1:(q:Int)<(ks.length:Int):=by omega
      obtain ⟨s,hs⟩:∃ s,ks[q]?=some s:=⟨ks[q],by simp [hlt]⟩
      obtain ⟨g,rfl,_,cs⟩:=Z7i (by have:=HTO.out.row 3 (by omega);rw [H3.out,HV3.out] at this;exact this) rfl hs
      have hgl:=Z02 cs
      have hsz:=(HKS.out s (List.mem_of_getElem? hs)).1
      obtain ⟨hmk,h64,_⟩:=hx.ok.bit s
      have HFR:=Z01 (is_fr hx s hsz hmk h64)
      have HS:=Z01 hs
      clear hx hmk h64 hs
      go_wp2_with fail
      refine HFR.out.mono ?_
      rintro ev w2 ⟨rfl,rfl⟩
      cases hfr:frB (x.bits s) with
      | false =>
       go_wp2_with fail
       go_roundg (ks.length+1 - (q+1))
       case measure=>have:=HG2.out;omega
       case rel=>exact ⟨q+1,v,ls,rfl,by omega,by go_num,HTO.out,HL.out,HC.out,by rw [Z2p HS.out,if_neg (by simp [isF,hfr])];exact HF.out,H3.out,HV3.out⟩
      | true =>
       go_wp2_with (first
       | (at_builtin;refine wpList_append_lies _ rfl _ _ _ rfl (w.heap.size+2) 9 i0 (.string ⟨#[]⟩) 1 16 underlying32 hi0 hz0 hz1 hz2 rfl (by decide) _ (ls 2).length ((ls 2).map Value.string) rfl ((HTO.out.row 2 (by omega)).alloc _) ⟨w2.heap.size,0,none⟩ 1 1 [.string s] rfl rfl (World.news_of_block (cs:=#[.string s]) (t:=9) (heap_alloc_new _ _)) (Zfs s) (by decide) (by unfold maxLen;omega) (by omega) (by simp;omega) _ rfl ?_;intro gn capn w3 hown3 hgrow hat hlt2;obtain ⟨e3,hP3⟩:=TO.push (i:=2) (by omega) HTO.out hgrow hat hown3;have q1:=(World.cell?_of_block (a:=⟨w.heap.size+1,5,none⟩) e3).trans o5;have qf:=(World.frozen?_of_block (a:=⟨w.heap.size+1,5,none⟩) e3).trans (of 5);have ql:=Z02 q1;have HP3:=Z01 hP3;clear hown3 hgrow hat e3 hP3 o0 o1 o2 o3 o4 o5))
       go_roundg (ks.length+1 - (q+1))
       case measure=>have:=HG2.out;omega
       case rel=>exact ⟨q+1,_,_,rfl,by omega,by go_num,HP3.out,by rw [Z1q _ _ (by decide)];exact HL.out,by rw [Z1q _ _ (by decide)];exact HC.out,by rw [Z3o,Z2p HS.out,if_pos (by simp [isF,hfr]),HF.out],by rw [Z1q _ _ (by decide)];exact H3.out,by rw [Z1q _ _ (by decide)];exact HV3.out⟩
     ·obtain rfl:q=ks.length:=by omega
      obtain ⟨r0,r1,r2,r3,r4,r5,f0,f1,f2,f3,f4,f5⟩:=HTO.out.rcells
      obtain ⟨b0,t0,hv0⟩:=Z1o (HTO.out.row 0 (by omega))
      obtain ⟨b1,t1,hv1⟩:=Z1o (HTO.out.row 1 (by omega))
      obtain ⟨b2,t2,hv2⟩:=Z1o (HTO.out.row 2 (by omega))
      rw [hv0] at o3
      rw [hv1] at o4
      rw [hv2] at o5
      have HV0:=Z01 hv0
      have HV1:=Z01 hv1
      have HV2:=Z01 hv2
      clear hx hv0 hv1 hv2
      go_wp2_with fail
      obtain ⟨g0,g1,g2,g3,g4,g5⟩:=six r0 r1 r2 r3 r4 r5 (.string x.nm) (.int .i64 x.ar) (.int .i64 (x.pn:Int)) (.slice b0 (ls 0).length t0) (.slice b1 (ls 1).length t1) (.slice b2 (ls 2).length t2)
      ((try simp only [Exit.inBlock,Exit.then]);refine bodyPost_ret (by simp [results,Tryz.results12,go_sem,g0,g1,g2,g3,g4,g5];try rfl) rfl ?_)
      obtain ⟨e1,e2⟩:=HTO.out.done (.string x.nm) (.int .i64 x.ar) (.int .i64 (x.pn:Int)) (.slice b0 (ls 0).length t0) (.slice b1 (ls 1).length t1) (.slice b2 (ls 2).length t2)
      have hF:=HF.out
      rw [List.take_length] at hF
      refine ⟨e1,v,by rw [HV0.out,HV1.out,HV2.out],ls,e2,fun h=>by omega,fun _=>HL.out,fun _=>HC.out,fun _ s => ?_,?_,fun i hi => ?_⟩
      ·rw [hF,List.mem_filter]
       refine ⟨fun h=>h.2,fun h=>⟨HNZ.out s (fun e => ?_),h⟩⟩
       rw [isF,e] at h
       exact absurd h (by decide)
      ·rw [hF]
       exact List.Pairwise.filter _ HRI.out
      ·have h0:(ls 0).length≤x.od.length:=by rw [HL.out];exact List.length_filter_le _ _
       have h1:(ls 1).length≤x.od.length:=by rw [HC.out];exact List.length_filter_le _ _
       have:i=0∨i=1∨i=2:=by omega
       rcases this with rfl | rfl | rfl
       ·omega
       ·omega
       ·omega
end Go.Proofs.YtflcohidmemfpaaGreatDoor
namespace Go.Proofs.YtflcohidmemfpaaGreatDoor
open Go.Proofs.Tryz
open Go.RowKit Go.Maps

def SD.to (x:SD) (K:Nat):SD:=⟨x.b,x.m,K,x.nm,x.ar,x.pn,x.D,x.v,x.od⟩
def Z7v (l:List SD):List (List UInt8):=(l.map fun x=>strKeys x.D).flatten
theorem Zit {l:List SD}{x:SD} (hx:x∈l) {b:List UInt8} (hb:b∈strKeys x.D):b∈Z7v l:=List.mem_flatten.2 ⟨strKeys x.D,List.mem_map.2 ⟨x,hx,rfl⟩,hb⟩
theorem Zc9 (n:Nat):∀ l:List SD,(∀ x∈l,(strKeys x.D).length≤n)→(Z7v l).length≤l.length*n
 | [],_=>by simp [Z7v]
 | x::l,h=>by
  have h1:=h x List.mem_cons_self
  have h2:=Zc9 n l (fun y hy=>h y (List.mem_cons_of_mem _ hy))
  have e:Z7v (x::l)=strKeys x.D++Z7v l:=by simp [Z7v]
  rw [e,List.length_append,List.length_cons,Nat.add_mul]
  omega
theorem no_fr:∀ n:Fin 16,frB n.val=false:=by decide
theorem SE.start {B:Nat}{l:List SD}{v:Value}{w:World} (h:Found B l v w):∃ K U l',K≤5000000000000∧SE B K U l' v (fun _ _=>False) w∧l'.length=l.length ∧ ∀ (i:Nat) (x:SD),l'[i]?=some x→x.od.length≤2200000:=by
 obtain ⟨U,hU⟩:∃ U,U=Z7v l:=⟨_,rfl⟩
 have hsz:∀ x∈l,(strKeys x.D).length≤2200000:=fun x hx=>by
  obtain ⟨i,hi⟩:=List.mem_iff_getElem?.1 hx
  have hX:=h.sps.sp.all i x hi
  have:=(h.lo i x hi).1
  have h2:=hX.own.size_le
  obtain ⟨es,hes⟩:=hX.ok.map
  have:(strKeys x.D).length=Maps.size x.D:=by rw [hes];simp [strKeys,Maps.size]
  omega
 have hUl:U.length≤5000000000000:=by
  rw [hU]
  have h1:=Zc9 2200000 l hsz
  have h2:=h.le
  have:=Nat.mul_le_mul_right 2200000 h2
  omega
 have hkey:∀ x∈l,Zjp U x:=fun x hx b hb=>by
  obtain ⟨i,hi⟩:=List.mem_iff_getElem?.1 hx
  rw [hU]
  exact Zit hx (Zkl (h.sps.sp.all i x hi).ok.map hb)
 have hget:∀ (i:Nat) (y:SD),(l.map (·.to U.length))[i]?=some y → ∃ x,l[i]?=some x∧y=x.to U.length:=fun i y hy=>by
  rw [List.getElem?_map] at hy
  cases hx:l[i]? with
  | none=>rw [hx] at hy;cases hy
  | some x =>
   rw [hx] at hy
   cases hy
   exact ⟨x,rfl,rfl⟩
 have hlen:(l.map (·.to U.length)).length=l.length:=List.length_map _
 have hat:∀ (i:Nat) (x:SD),l[i]?=some x→SpAt B w (x.to U.length):=fun i x hi=>by
  have hX:=h.sps.sp.all i x hi
  exact ⟨hX.blk,Zl3 hX.own (Zp5 (x:=x) hX (hkey x (List.mem_of_getElem? hi))),hX.row,hX.hb,hX.hm,⟨hX.ok.map,hX.ok.all,hX.ok.ods⟩⟩
 refine ⟨U.length,U,l.map (·.to U.length),hUl,⟨⟨?_,⟨fun i y hi => ?_,fun i j y z hi hj hij => ?_⟩,fun i y hi => ?_,by rw [hlen];exact h.sps.len⟩,fun i y hi => ?_,rfl,fun i y t hi hf => ?_⟩,hlen,fun i y hi => ?_⟩
 ·have e:(l.map (·.to U.length)).map Z4m=l.map Z4m:=by
   rw [List.map_map]
   rfl
  rw [hlen,e]
  exact h.sps.row
 ·obtain ⟨x,hx,rfl⟩:=hget i y hi
  exact hat i x hx
 ·obtain ⟨x,hx,rfl⟩:=hget i y hi
  obtain ⟨x',hx',rfl⟩:=hget j z hj
  exact h.sps.sp.two i j x x' hx hx' hij
 ·obtain ⟨x,hx,rfl⟩:=hget i y hi
  exact h.sps.ar i x hx
 ·obtain ⟨x,hx,rfl⟩:=hget i y hi
  exact ⟨rfl,hkey x (List.mem_of_getElem? hx)⟩
 ·obtain ⟨x,hx,rfl⟩:=hget i y hi
  have h16:=(h.lo i x hx).2.2.2 t _ ((h.sps.sp.all i x hx).ok.bit t).1
  have e:(x.to U.length).bits t=x.bits t:=rfl
  rw [e,no_fr ⟨x.bits t,h16⟩] at hf
  cases hf
 ·obtain ⟨x,hx,rfl⟩:=hget i y hi
  exact (h.lo i x hx).2.1
structure ScE where
 x:SD
 v:Nat→Value
 ls:Nat→List ByteArray
def scC (e:ScE):List Value:=[.string e.x.nm,.int .i64 e.x.ar,.int .i64 (e.x.pn:Int),e.v 0,e.v 1,e.v 2]
structure SC (B:Nat) (es:List ScE) (v:Value) (w:World):Prop where
 row:w.ownsRow B 34 6 v es.length (es.flatMap scC)
 rows:∀ (i:Nat) (e:ScE),es[i]?=some e → ∀ k,k<3→w.ownsRow B 9 1 (e.v k) (e.ls k).length ((e.ls k).map Value.string)
theorem SC.below {B:Nat}{es:List ScE}{v:Value}{w w':World} (h:SC B es v w) (hb:Below w.heap.size w w'):SC B es v w':=
 ⟨Z1a h.row (fun g hg=>by obtain ⟨_,cur,e⟩:=Z0d h.row hg;exact hb.block g (Z00 e)),fun i e hi k hk=>Z1a (h.rows i e hi k hk) (fun g hg=>by obtain ⟨_,cur,e⟩:=Z0d (h.rows i e hi k hk) hg;exact hb.block g (Z00 e))⟩
theorem SPS.aside {B:Nat}{l:List SD}{v:Value}{w w':World} (h:SPS B l v w) (he:Ex (fun q => ∃ cs fr,w.heap[q]?=some (.cells cs 34 fr)) w w'):SPS B l v w':=by
 refine ⟨Z1a h.row (fun g hg => ?_),h.sp.ex he (fun i x hi q hq => ?_),h.ar,h.len⟩
 ·obtain ⟨_,cur,e⟩:=Z0d h.row hg
  refine he.block g (Z00 e) ?_
  rintro ⟨cs,fr,e2⟩
  rw [e] at e2
  simp at e2
 ·rintro ⟨cs,fr,e2⟩
  exact Z1r (h.sp.all i x hi) e2 (by decide) (by decide) hq
theorem SC.push {B:Nat}{es:List ScE}{v:Value}{w w2:World}{o:Obj}{gn capn:Nat}{e:ScE} (h:SC B es v w) (hBw:B≤w.heap.size) (hg:(w.alloc o).grownBy w2 v.ownBlock) (hown:w2.ownsRow B 34 6 (.slice (some ⟨gn,0,none⟩) (es.length+1) capn) (es.length+1) (es.flatMap scC++scC e)) (hr:∀ k,k<3→w.ownsRow B 9 1 (e.v k) (e.ls k).length ((e.ls k).map Value.string)) :
  SC B (es ++ [e]) (.slice (some ⟨gn,0,none⟩) (es.length+1) capn) w2∧Ex (fun q => ∃ cs fr,w.heap[q]?=some (.cells cs 34 fr)) w w2∧Below B w w2:=by
 have hsz:(w.alloc o).heap.size=w.heap.size+1:=by simp
 have he:Ex (fun q => ∃ cs fr,w.heap[q]?=some (.cells cs 34 fr)) w w2:=⟨hg.os,hg.tape,hg.output,by have:=hg.size;omega,fun q hq hs=>(hg.block q (by omega) (fun eq=>hs (by
  obtain ⟨_,cur,e⟩:=Z0d h.row eq.symm
  exact ⟨_,_,e⟩))).trans (Below.heap_alloc _ _ _ hq)⟩
 have hbl:Below B w w2:=⟨hg.os,hg.tape,hg.output,by have:=hg.size;omega,fun q hq=>(hg.block q (by omega) (fun eq=>by
  have:=(Z0d h.row eq.symm).1
  omega)).trans (Below.heap_alloc _ _ _ (by omega))⟩
 have keep:∀ (u:Value) (n:Nat) (xs:List Value),w.ownsRow B 9 1 u n xs→w2.ownsRow B 9 1 u n xs:=fun u n xs hu=>Z1a hu (fun g hg'=>by
  obtain ⟨_,cur,e⟩:=Z0d hu hg'
  refine he.block g (Z00 e) ?_
  rintro ⟨cs,fr,e2⟩
  rw [e] at e2
  simp at e2)
 refine ⟨⟨?_,fun i y hi k hk => ?_⟩,he,hbl⟩
 ·have e:(es ++ [e]).flatMap scC=es.flatMap scC++scC e:=by simp
  rw [e,List.length_append]
  exact hown
 ·rcases Nat.lt_or_ge i es.length with hl | hl
  ·rw [List.getElem?_append_left hl] at hi
   exact keep _ _ _ (h.rows i y hi k hk)
  ·rw [List.getElem?_append_right hl] at hi
   obtain ⟨_,rfl⟩:=List.getElem?_eq_some_iff.1 hi
   simp only [List.getElem_singleton]
   exact keep _ _ _ (hr k hk)
structure Scp (B:Nat) (es:List ScE) (v:Value) (w:World):Prop where
 sc:SC B es v w
 told:∀ (i:Nat) (e:ScE),es[i]?=some e→ToldS e.x e.ls∧SpOK e.x
 ar:∀ (i:Nat) (e:ScE),es[i]?=some e→(i=0→e.x.ar = -1)∧(0<i → ∃ u:Nat,u<i∧e.x.ar=u)
 fr:Zo8 (es.map (·.x)) (fun _ _=>False)
 len:es.length≤1000000000
 pos:0<es.length
theorem Zoz:(prog.info? 34).map (fun i=>(i.zero,i.size,i.bytes))=some (some (.agg #[.string ⟨#[]⟩,.int .i64 0,.int .i64 0,.slice none 0 0,.slice none 0 0,.slice none 0 0]),6,104):=by kernel_rfl
end Go.Proofs.YtflcohidmemfpaaGreatDoor
