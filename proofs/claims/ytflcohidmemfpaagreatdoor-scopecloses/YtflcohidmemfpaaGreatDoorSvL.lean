/- Package scope: settle. -/
import Derived.Test.YtflcohidmemfpaaGreatDoorSvK
set_option linter.all false
namespace Go.Proofs.YtflcohidmemfpaaGreatDoor
open Go.Proofs.Tryz
open Go.RowKit Go.Maps

def Zar (l:List SD) (Z:Nat):Prop:=∀ (i:Nat) (x:SD),l[i]?=some x → ∀ q,x.has q→q<Z
theorem Zar.mark {l:List SD}{Z i:Nat}{x:SD} (h:Zar l Z) (hi:l[i]?=some x) (s:ByteArray) (a:Nat):Zar (l.set i (x.mark s a)) Z:=fun j y hj q hq=>by
 by_cases e:i=j
 ·subst e
  rw [List.getElem?_set_self (List.getElem?_eq_some_iff.1 hi).1] at hj
  cases hj
  exact h i x hi q hq
 ·rw [List.getElem?_set_ne e] at hj
  exact h j y hj q hq
abbrev Rng (B Z:Nat):Nat→Prop:=fun b=>B≤b∧b<Z
theorem SE.imp {B K:Nat}{U:List (List UInt8)}{l:List SD}{v:Value}{P Q:ByteArray→Nat→Prop}{w:World} (h:SE B K U l v P w) (hp:∀ t u,P t u→Q t u):SE B K U l v Q w:=⟨h.sps,h.lo,h.hK,h.fr.imp hp⟩
theorem SE.below {B K:Nat}{U:List (List UInt8)}{l:List SD}{v:Value}{P:ByteArray→Nat→Prop}{w w':World} (h:SE B K U l v P w) (hb:Below w.heap.size w w'):SE B K U l v P w':=⟨h.sps.below hb,h.lo,h.hK,h.fr⟩
theorem SE.put {B K:Nat}{U:List (List UInt8)}{l:List SD}{v:Value}{P Q:ByteArray→Nat→Prop}{w w':World}{i:Nat}{x:SD}{s:ByteArray}{a:Nat} (h:SE B K U l v P w) (hi:l[i]?=some x) (hsp:SpAt B w' (x.mark s a)) (he:Ex x.has w w') (hU:Zjp U (x.mark s a)) (hf:Zo8 (l.set i (x.mark s a)) Q):SE B K U (l.set i (x.mark s a)) v Q w':=by
 refine ⟨h.sps.turn hi hsp rfl rfl rfl rfl he,fun j y hj => ?_,h.hK,hf⟩
 by_cases e:i=j
 ·subst e
  rw [List.getElem?_set_self (List.getElem?_eq_some_iff.1 hi).1] at hj
  cases hj
  exact ⟨(h.lo i x hi).1,hU⟩
 ·rw [List.getElem?_set_ne e] at hj
  exact h.lo j y hj
theorem Y00 {B:Nat}{l:List SD}{v:Value}{w:World} (h:SPS B l v w) (a:Nat) (ha:0<a):arN l a<a:=by
 unfold arN
 cases hx:l[a]? with
 | none=>exact ha
 | some x =>
  obtain ⟨u,hu,e⟩:=(h.ar a x hx).2 ha
  simp only
  omega
theorem Zva:∀ n:Fin 64,bits .or .i64 (n.val:Int) 16=((n.val ||| 16:Nat):Int)∧bits .or .i64 (n.val:Int) 32=((n.val ||| 32:Nat):Int)∧(n.val ||| 16)<64∧(n.val ||| 32)<64:=by decide
theorem SPS.cell {B i g n cp:Nat}{l:List SD}{w:World}{x:SD} (h:SPS B l (.slice (some ⟨g,0,none⟩) n cp) w) (hx:l[i]?=some x):w.cell? ⟨g,i,none⟩=some (.pointer (some ⟨x.b,0,none⟩)):=by
 obtain ⟨g2,cp2,y,e,hy,_,q⟩:=h.at (List.getElem?_eq_some_iff.1 hx).1
 simp only [Value.slice.injEq,Option.some.injEq,Addr.mk.injEq,and_true] at e
 obtain ⟨rfl,_,_⟩:=e
 rw [hx] at hy
 cases hy
 exact q
theorem Zqy {B K Z m:Nat}{U:List (List UInt8)}{l:List SD}{v:Value}{P:ByteArray→Nat→Prop}{w w1 w':World}{y:SD}{s:ByteArray} (h:SE B K U l v P w) (hy:l[m]?=some y) (hsU:s.data.toList∈U) (he:Ex (Rng B Z) w1 w) (hu:Zar l Z) (ho:w'.ownsMap prog 9 (plainElem prog 3) y.m (y.k+1) (y.D.put (.string s.data.toList) (.lit (.int .i64 ((y.bits s ||| 16:Nat):Int))))) (hg:w.grownBy w' (some y.m)):SE B K U (l.set m (y.mark s 16)) v P w'∧Ex (Rng B Z) w1 w'∧Zar (l.set m (y.mark s 16)) Z∧Kin l (l.set m (y.mark s 16))∧shB (Z30 (l.set m (y.mark s 16)) s m)=true:=by
 have hya:=h.sps.sp.all m y hy
 obtain ⟨p1,p2,p3⟩:=Zql hya (h.lo m y hy).1 h.hK (h.lo m y hy).2 hsU (.inl rfl) ho hg
 refine ⟨h.put hy p1 p2 p3 (Ztq h.fr h.sps.sp hy s),he.trans (p2.mono fun q hq=>⟨(hya.lt hq).2,hu m y hy q hq⟩),hu.mark hy s 16,Zle hy hya.ok s (.inl rfl),?_⟩
 unfold Z30
 rw [List.getElem?_set_self (List.getElem?_eq_some_iff.1 hy).1]
 simp only
 rw [Z9d hya.ok,if_pos rfl]
 exact (Zna ⟨y.bits s,(hya.ok.bit s).2.1⟩).2.1
theorem Zu9 {B K Z n m u:Nat}{U:List (List UInt8)}{l:List SD}{v:Value}{w w1 w':World}{y:SD}{s:ByteArray} (h:SE B K U l v (fun t u=>t=s∧u=n) w) (hy:l[n]?=some y) (hn:0<n) (hbe:beB (Z30 l s n)=false) (hnm:n≠m) (har:y.ar=(u:Int)) (hu0:0<u) (hul:u<l.length) (hsU:s.data.toList∈U) (he:Ex (Rng B Z) w1 w) (hu:Zar l Z) (ho:w'.ownsMap prog 9 (plainElem prog 3) y.m (y.k+1) (y.D.put (.string s.data.toList) (.lit (.int .i64 ((y.bits s ||| 32:Nat):Int))))) (hg:w.grownBy w' (some y.m)):SE B K U (l.set n (y.mark s 32)) v (fun t u'=>t=s∧u'=u) w'∧Ex (Rng B Z) w1 w'∧Zar (l.set n (y.mark s 32)) Z∧Kin l (l.set n (y.mark s 32))∧shB (Z30 (l.set n (y.mark s 32)) s m)=shB (Z30 l s m):=by
 have hya:=h.sps.sp.all n y hy
 have hbe:beB (y.bits s)=false:=by
  unfold Z30 at hbe
  rw [hy] at hbe
  exact hbe
 obtain ⟨p1,p2,p3⟩:=Zql hya (h.lo n y hy).1 h.hK (h.lo n y hy).2 hsU (.inr rfl) ho hg
 refine ⟨h.put hy p1 p2 p3 (Zxe h.fr h.sps.sp hy hn hbe har hu0 hul),he.trans (p2.mono fun q hq=>⟨(hya.lt hq).2,hu n y hy q hq⟩),hu.mark hy s 32,Zle hy hya.ok s (.inr rfl),?_⟩
 unfold Z30
 rw [List.getElem?_set_ne hnm]
set_option maxHeartbeats 32000000 in
set_option maxRecDepth 100000 in
theorem Zie {B K:Nat}{U:List (List UInt8)}{l:List SD}{v:Value}{w:World} (h:SE B K U l v (fun _ _=>False) w) (hBw:B≤w.heap.size) (hK:K≤5000000000000) (hl0:0<l.length) :
  Calls prog 11 #[v] w fun ev w'=>ev = .returned (.tuple #[])∧Below B w w' ∧ ∃ l',Kin l l'∧SE B K U l' v (fun _ _=>False) w':=by
 obtain ⟨g0,cp,_,rfl,_,_,_⟩:=h.sps.at hl0
 have hlen:=h.sps.len
 have H:=Z01 h
 clear h
 go_enter func11,ntmps11
 go_wp2_with fail
 go_loopg [10] (l.length+1) (fun gk v10 wr => ∃ (j:Nat) (lj:List SD),gk=l.length+1 - j∧j≤l.length∧v10 = .int .i64 (j:Int)∧Kin l lj∧SE B K U lj (.slice (some ⟨g0,0,none⟩) l.length cp) (fun _ _=>False) wr∧Below B w wr)
 case atStart=>exact ⟨0,l,rfl,Nat.zero_le _,rfl,Kin.refl l,H.out,Below.refl _ _⟩
 case round =>
  obtain ⟨j,lj,hgk,hj,rfl,hkj,hs,hb⟩:=hrel
  have HG:=Z01 hgk
  have hj0:(0:Int)≤(j:Int):=by omega
  have hsz:=hb.size
  have hll:=hkj.len
  have HKJ:=Z01 hkj
  clear hgk hkj
  by_cases hlt:j<l.length
  ·have hI1:(j:Int)<(l.length:Int):=by omega
   have hjl:j<lj.length:=by omega
   obtain ⟨g1,cp1,x,e1,hx,hxa,q1⟩:=hs.sps.at hjl
   simp only [Value.slice.injEq,Option.some.injEq,Addr.mk.injEq,and_true] at e1
   obtain ⟨rfl,hdr,rfl⟩:=e1
   clear hdr
   have hgl:=Z02 q1
   obtain ⟨hxk,hxU⟩:=hs.lo j x hx
   have hxK:x.k≤5000000000000:=by omega
   have HNM:=Z01 (Zhn hxa (by omega))
   obtain ⟨Z,hZe⟩:∃ Z,Z=wr.heap.size:=⟨_,rfl⟩
   have hZ:Zar lj Z:=fun i y hi q hq=>by
    rw [hZe]
    exact ((hs.sps.sp.all i y hi).lt hq).1
   have HS:=Z01 hs
   have HB:=Z01 hb
   have HZ:=Z01 hZ
   have HXU:=Z01 hxU
   clear hxa hs hb hZ hx hxU hxk
   go_wp2_with fail
   refine HNM.out.mono ?_
   rintro ev w1 ⟨hb1,vk,ks,rfl,hrow,_,hks,_,hkl⟩
   have hs1:=hb1.size
   rw [←hZe] at hrow hs1
   have HS1:=Z01 (HS.out.below hb1)
   have HB1:Hid (Below B w w1):=HB.out.trans (hb1.mono (by omega))
   have hZB:B≤Z:=by omega
   have HZE:=Z01 hZe
   have HKS:=Z01 hks
   have HRW:=Z01 hrow
   have hB1:B≤w1.heap.size:=by omega
   obtain ⟨ka,kc,rfl⟩:=Z1o hrow
   have q1:=(hb1.cell (p:=⟨g0,j,none⟩) hgl).trans q1
   clear hb1 hrow hks HNM hZe
   go_wp2_with fail
   go_loopg [18] (ks.length+1) (fun gk v18 W => ∃ (q:Nat) (lq:List SD),gk=ks.length+1 - q∧q≤ks.length∧v18 = .int .i64 (q:Int)∧Kin lj lq∧SE B K U lq (.slice (some ⟨g0,0,none⟩) l.length cp) (fun _ _=>False) W∧Ex (Rng B Z) w1 W∧Zar lq Z)
   case atStart=>exact ⟨0,lj,rfl,Nat.zero_le _,rfl,Kin.refl _,HS1.out,Ex.refl _ _,HZ.out⟩
   case round =>
    obtain ⟨q,lq,hgk2,hq,rfl,hkq,hsq,heq,huq⟩:=hrel
    have HG2:=Z01 hgk2
    have hq0:(0:Int)≤(q:Int):=by omega
    have hllq:=hkq.len
    have HKQ:=Z01 hkq
    have hsW:=heq.size
    clear hgk2 hkq q1
    by_cases hltq:q<ks.length
    ·have hI2:(q:Int)<(ks.length:Int):=by omega
     obtain ⟨s,hss⟩:∃ s,ks[q]?=some s:=⟨ks[q],by simp [hltq]⟩
     obtain ⟨gr,kq,hka,hgr,hkr⟩:∃ gr kq,ka=some ⟨gr,0,none⟩∧Z≤gr∧w1.cell? ⟨gr,q,none⟩=some (.string s)∧kq=q:=by
      rcases HRW.out.2 with ⟨_,h0⟩ | ⟨g,cap,cur,e,hge,hg,_,_,_,htk⟩
      ·omega
      ·simp only [Value.slice.injEq,true_and] at e
       refine ⟨g,q,e.1,hge,?_,rfl⟩
       rw [cell_of_row w1 g q cur _ _ hg,←Array.getElem?_toList]
       have e2:(cur.toList.take (ks.length*1))[q]?=(ks.map Value.string)[q]?:=by rw [htk]
       rw [List.getElem?_take,if_pos (by omega)] at e2
       rw [e2,List.getElem?_map,hss]
       rfl
     subst hka
     have hcs:=hkr.1
     have hcs:=(World.cell?_of_block (a:=⟨gr,q,none⟩) (heq.block gr (Z02 hcs) (fun h=>by omega))).trans hcs
     have hgrl:=Z02 hcs
     obtain ⟨hsm,hsh⟩:=HKS.out s (List.mem_of_getElem? hss)
     have hsU:=HXU.out _ hsh
     have HOW:=Z01 (Zq2 hsq.sps j (by omega) s hsm)
     have HSQ:=Z01 hsq
     have HEQ:=Z01 heq
     have HUQ:=Z01 huq
     have HSU:=Z01 hsU
     clear hss hsh hsq heq huq hsU hkr
     go_wp2_with fail
     refine HOW.out.mono ?_
     rintro ev W1 ⟨hbW,m,rfl,hor⟩
     have hsW1:=hbW.size
     have HS2:=Z01 (HSQ.out.below hbW)
     have HE2:Hid (Ex (Rng B Z) w1 W1):=HEQ.out.of_below hbW
     have HOR:=Z01 hor
     clear hbW hor hcs HOW
     by_cases hm0:m=0
     ·have hm1:((m:Int) == 0)=true:=by rw [beq_iff_eq];omega
      clear hm0
      go_wp2_with fail
      go_roundg (ks.length+1 - (q+1))
      case measure=>have:=HG2.out;omega
      case rel=>exact ⟨q+1,lq,rfl,by omega,by go_num,HKQ.out,HS2.out,HE2.out,HUQ.out⟩
     ·have hm1:((m:Int) == 0)=false:=by rw [beq_eq_false_iff_ne];omega
      by_cases hmj:m=j
      ·have hm2:((m:Int) == (j:Int))=true:=by rw [beq_iff_eq];omega
       clear hmj
       go_wp2_with fail
       go_roundg (ks.length+1 - (q+1))
       case measure=>have:=HG2.out;omega
       case rel=>exact ⟨q+1,lq,rfl,by omega,by go_num,HKQ.out,HS2.out,HE2.out,HUQ.out⟩
      ·have hm2:((m:Int) == (j:Int))=false:=by rw [beq_eq_false_iff_ne];omega
       obtain ⟨hmp,hml,hmb,k,hch⟩:=HOR.out.resolve_left hm0
       obtain ⟨y,hy⟩:∃ y,lq[m]?=some y:=⟨lq[m],by simp [hml]⟩
       have cy:=HS2.out.sps.cell hy
       have hya:=HS2.out.sps.sp.all m y hy
       obtain ⟨_,_,_,y6,_,_⟩:=Z2t hya
       have hyl:=Z02 y6
       have hcl:=Z02 cy
       obtain ⟨hn,h64,_⟩:=hya.ok.bit s
       have ho16:=(Zva ⟨y.bits s,h64⟩).1
       have hl16:=(Zva ⟨y.bits s,h64⟩).2.2.1
       simp only at ho16 hl16
       have hyk:y.k≤5000000000000:=by have:=(HS2.out.lo m y hy).1;omega
       have HNN:=Z01 hn
       have HKY:=Z01 (Z9h s hsm)
       have HP:=Z01 (plainElem_int (H:=Unit) (P:=prog) underlying3 (Z91 hl16))
       have HO:=Z01 hya.own
       have HY:=Z01 hy
       have hmj0:m<l.length:=by omega
       have HCH:=Z01 hch
       have HMB:=Z01 hmb
       have hm3:(m:Int)<(l.length:Int):=by omega
       have hm4:(0:Int)≤(m:Int):=by omega
       clear hya hn h64 hy hch hmb hml
       go_wp2_with (first
        | (at_lookup;refine wpList_lookup_own_int _ rfl _ _ 66 rfl 9 3 .i64 Zff underlying66 underlying3 (Z5j _) y.m y.k _ rfl HO.out _ _ rfl HKY.out ?_;intro c hat hwc;obtain rfl:=Z5g HNN.out hat;clear hat hwc)
        | (at_mapUpdate;refine wpList_mapUpdate_own _ rfl _ _ _ 66 rfl 9 3 Zff underlying66 _ y.m y.k _ rfl HO.out (by unfold maxLen;omega) _ _ _ rfl rfl HKY.out _ [] HP.out ?_;intro W2 hown1 hgrow1;obtain ⟨k1,k2,k3,k4,k5⟩:=Zqy HS2.out HY.out HSU.out HE2.out HUQ.out hown1 hgrow1;have HK1:=Z01 k1;have HK2:=Z01 k2;have HK3:=Z01 k3;have HK4:=Z01 k4;have HK5:=Z01 k5;clear hown1 hgrow1 k1 k2 k3 k4 k5))
       go_loopg [7] (j+1) (fun gk v7 W => ∃ (n:Nat) (lk:List SD),gk=n+1∧n<l.length∧v7 = .int .i64 (n:Int)∧Kin lq lk∧SE B K U lk (.slice (some ⟨g0,0,none⟩) l.length cp) (fun t u=>t=s∧u=n) W∧Ex (Rng B Z) w1 W∧Zar lk Z∧shB (Z30 lk s m)=true ∧ ∃ k,Zfb (arN lq) (Zuo lq s) k n m)
       case atStart=>exact ⟨j,_,rfl,hlt,rfl,HK4.out,HK1.out.imp (fun _ _ h=>h.elim),HK2.out,HK3.out,HK5.out,k,HCH.out⟩
       case round =>
        obtain ⟨n,lk,hgk3,hnl,rfl,hkk,hsk,hek,huk,hshk,k3,hchk⟩:=hrel
        have HG3:=Z01 hgk3
        have hllk:=hkk.len
        have hnn0:(0:Int)≤(n:Int):=by omega
        have hnn1:(n:Int)<(l.length:Int):=by omega
        have hszk:=hek.size
        clear hgk3 HK1 HK2 HK3 HK4 HK5 cy y6 hyl hcl HCH
        by_cases hnm:n=m
        ·have hnm1:((n:Int) != (m:Int))=false:=by rw [bne_eq_false_iff_eq];omega
         subst hnm
         obtain ⟨z,hz⟩:∃ z,lk[n]?=some z:=⟨lk[n]'(by omega),by simp⟩
         have hzb:beB (z.bits s)=true:=by
          have:=(hkk.be s n).trans HMB.out
          unfold Z30 at this
          rw [hz] at this
          exact this
         have hzs:shB (z.bits s)=true:=by
          unfold Z30 at hshk
          rw [hz] at hshk
          exact hshk
         have HF:Hid (Kin lj lk∧SE B K U lk (.slice (some ⟨g0,0,none⟩) l.length cp) (fun _ _=>False) wr∧Ex (Rng B Z) w1 wr∧Zar lk Z):=⟨HKQ.out.trans hkk,⟨hsk.sps,hsk.lo,hsk.hK,Zyh hsk.fr hz hzb hzs⟩,hek,huk⟩
         clear hkk hsk hek huk hshk hchk hzb hzs hz
         go_wp2_with fail
         go_roundg (ks.length+1 - (q+1))
         case measure=>have:=HG2.out;omega
         case rel=>exact ⟨q+1,lk,rfl,by omega,by go_num,HF.out.1,HF.out.2.1,HF.out.2.2.1,HF.out.2.2.2⟩
        ·have hnm1:((n:Int) != (m:Int))=true:=by rw [bne_iff_ne];omega
         obtain ⟨k',hn00,hg00,hch'⟩:∃ k',0<n∧Zuo lq s n=false∧Zfb (arN lq) (Zuo lq s) k' (arN lq n) m:=by
          cases k3 with
          | zero=>exact absurd hchk hnm
          | succ k=>exact ⟨k,hchk⟩
         have hbe:beB (Z30 lk s n)=false:=by
          rw [hkk.be]
          unfold Zuo at hg00
          rw [Bool.or_eq_false_iff] at hg00
          exact hg00.1
         obtain ⟨z,hz⟩:∃ z,lk[n]?=some z:=⟨lk[n]'(by omega),by simp⟩
         obtain ⟨u,hun,har⟩:=(hsk.sps.ar n z hz).2 hn00
         have hau:arN lq n=u:=by
          rw [←hkk.ar]
          unfold arN
          rw [hz]
          simp only [har,Int.toNat_natCast]
         rw [hau] at hch'
         have hmu:=Zld (fun a ha=>Y00 HSQ.out.sps a ha) k' u m hch'
         have cz:=hsk.sps.cell hz
         have hza:=hsk.sps.sp.all n z hz
         obtain ⟨_,_,_,z6,_,_⟩:=Z2t hza
         have hzl:=Z02 z6
         have hczl:=Z02 cz
         obtain ⟨hn,h64,_⟩:=hza.ok.bit s
         have ho32:=(Zva ⟨z.bits s,h64⟩).2.1
         have hl32:=(Zva ⟨z.bits s,h64⟩).2.2.2
         simp only at ho32 hl32
         have hzk:z.k≤5000000000000:=by have:=(hsk.lo n z hz).1;omega
         have HNZ:=Z01 hn
         have HPZ:=Z01 (plainElem_int (H:=Unit) (P:=prog) underlying3 (Z91 hl32))
         have HOZ:=Z01 hza.own
         have HFIN:Hid (∀ W3:World,W3.ownsMap prog 9 (plainElem prog 3) z.m (z.k+1) (z.D.put (.string s.data.toList) (.lit (.int .i64 ((z.bits s ||| 32:Nat):Int))))→wr.grownBy W3 (some z.m)→(SE B K U (lk.set n (z.mark s 32)) (.slice (some ⟨g0,0,none⟩) l.length cp) (fun t u'=>t=s∧u'=u) W3∧Ex (Rng B Z) w1 W3∧Zar (lk.set n (z.mark s 32)) Z∧Kin lq (lk.set n (z.mark s 32))∧shB (Z30 (lk.set n (z.mark s 32)) s m)=true)∧W3.cell? ⟨g0,n,none⟩=some (.pointer (some ⟨z.b,0,none⟩))∧W3.cell? ⟨z.b,1,none⟩=some (.int .i64 (u:Int))):=fun W3 ho hg=>by
          obtain ⟨k1,k2,k3,k4,k5⟩:=Zu9 hsk hz hn00 hbe hnm har (by omega) (by omega) HSU.out hek huk ho hg
          have hset:(lk.set n (z.mark s 32))[n]?=some (z.mark s 32):=List.getElem?_set_self (List.getElem?_eq_some_iff.1 hz).1
          refine ⟨⟨k1,k2,k3,hkk.trans k4,k5.trans hshk⟩,k1.sps.cell (x:=z.mark s 32) hset,?_⟩
          rw [←har]
          exact (Z2t (k1.sps.sp.all n _ hset)).2.1
         have HC3:=Z01 hch'
         clear hkk hsk hek huk hshk hchk hch' hbe hza hn h64 hg00 hz har hau
         go_wp2_with (first
          | (at_lookup;refine wpList_lookup_own_int _ rfl _ _ 66 rfl 9 3 .i64 Zff underlying66 underlying3 (Z5j _) z.m z.k _ rfl HOZ.out _ _ rfl HKY.out ?_;intro c hat hwc;obtain rfl:=Z5g HNZ.out hat;clear hat hwc)
          | (at_mapUpdate;refine wpList_mapUpdate_own _ rfl _ _ _ 66 rfl 9 3 Zff underlying66 _ z.m z.k _ rfl HOZ.out (by unfold maxLen;omega) _ _ _ rfl rfl HKY.out _ [] HPZ.out ?_;intro W3 hown1 hgrow1;obtain ⟨k1,c0,c1⟩:=HFIN.out W3 hown1 hgrow1;have HK1:=Z01 k1;have hc0l:=Z02 c0;have hc1l:=Z02 c1;clear hown1 hgrow1 k1))
         go_roundg (u+1)
         case measure=>have:=HG3.out;omega
         case rel=>exact ⟨u,_,rfl,by omega,rfl,HK1.out.2.2.2.1,HK1.out.1,HK1.out.2.1,HK1.out.2.2.1,HK1.out.2.2.2.2,k',HC3.out⟩
    ·obtain rfl:q=ks.length:=by omega
     have HF:Hid (Kin l lq∧SE B K U lq (.slice (some ⟨g0,0,none⟩) l.length cp) (fun _ _=>False) wr∧Below B w wr):=⟨HKJ.out.trans HKQ.out,hsq,HB1.out.trans (heq.below (fun _ h=>h.1) hB1)⟩
     clear hsq heq huq
     go_wp2_with fail
     go_roundg (l.length+1 - (j+1))
     case measure=>have:=HG.out;omega
     case rel=>exact ⟨j+1,lq,rfl,by omega,by go_num,HF.out.1,HF.out.2.1,HF.out.2.2⟩
  ·obtain rfl:j=l.length:=by omega
   have HS:=Z01 hs
   have HB:=Z01 hb
   clear hs hb
   go_wp2_with fail
   go_end0
   exact ⟨rfl,HB.out,lj,HKJ.out,HS.out⟩
end Go.Proofs.YtflcohidmemfpaaGreatDoor
namespace Go.Proofs.YtflcohidmemfpaaGreatDoor
open Go.Proofs.Tryz
open Go.RowKit Go.Maps

theorem SpAt.below {B:Nat}{w w':World}{x:SD} (h:SpAt B w x) (hb:Below w.heap.size w w'):SpAt B w' x:=h.kept (hb.block _ (h.lt (.inl rfl)).1) (hb.block _ (h.lt (.inr (.inl rfl))).1) (fun g hg=>hb.block g (h.lt (.inr (.inr hg))).1)
def upd {α:Type} (f:Nat→α) (i:Nat) (a:α) (j:Nat):α:=if j=i then a else f j
theorem Z3o {α:Type} (f:Nat→α) (i:Nat) (a:α):upd f i a i=a:=by simp [upd]
theorem Z1q {α:Type} (f:Nat→α) {i j:Nat} (a:α) (h:j≠i):upd f i a j=f j:=by simp [upd,h]
structure TO (w:World) (x:SD) (v:Nat→Value) (ls:Nat→List ByteArray) (wr:World):Prop where
 bl:Below w.heap.size w wr
 res:wr.heap[w.heap.size]?=some (.cells #[.string ⟨#[]⟩,.int .i64 0,.int .i64 0,.slice none 0 0,.slice none 0 0,.slice none 0 0] 34)
 out:wr.heap[w.heap.size+1]?=some (.cells #[.string x.nm,.int .i64 x.ar,.int .i64 (x.pn:Int),v 0,v 1,v 2] 34)
 row:∀ i,i<4→wr.ownsRow (w.heap.size+2) 9 1 (v i) (ls i).length ((ls i).map Value.string)
 ap:∀ i j,i<4→j<4→i≠j → ∀ g,(v i).ownBlock=some g→(v j).ownBlock≠some g
theorem TO.start {w:World}{x:SD}{wr:World} (hw:wr=((w.alloc (.cells #[.string ⟨#[]⟩,.int .i64 0,.int .i64 0,.slice none 0 0,.slice none 0 0,.slice none 0 0] 34)).alloc (.cells #[.string x.nm,.int .i64 x.ar,.int .i64 (x.pn:Int),.slice none 0 0,.slice none 0 0,.slice none 0 0] 34)).drew):TO w x (fun _=>.slice none 0 0) (fun _ => []) wr:=by
 refine ⟨?_,?_,?_,fun i _=>⟨rfl,.inl ⟨rfl,rfl⟩⟩,fun i j _ _ _ g hg=>by simp [Value.ownBlock] at hg⟩
 ·rw [hw]
  exact (((Below.refl _ _).alloc (Nat.le_refl _) _).alloc (by simp) _).drew
 ·rw [hw]
  show ((w.alloc _).alloc _).heap[w.heap.size]?=_
  rw [Below.heap_alloc _ _ _ (by simp)]
  exact heap_alloc_new _ _
 ·rw [hw]
  have h:=heap_alloc_new (w.alloc (.cells #[.string ⟨#[]⟩,.int .i64 0,.int .i64 0,.slice none 0 0,.slice none 0 0,.slice none 0 0] 34)) (.cells #[.string x.nm,.int .i64 x.ar,.int .i64 (x.pn:Int),.slice none 0 0,.slice none 0 0,.slice none 0 0] 34)
  have e:(w.alloc (.cells #[.string ⟨#[]⟩,.int .i64 0,.int .i64 0,.slice none 0 0,.slice none 0 0,.slice none 0 0] 34)).heap.size=w.heap.size+1:=by simp
  rw [e] at h
  exact h
theorem TO.size {w:World}{x:SD}{v:Nat→Value}{ls:Nat→List ByteArray}{wr:World} (h:TO w x v ls wr):w.heap.size+2≤wr.heap.size:=by
 have:=Z00 h.out
 omega
theorem TO.cells {w:World}{x:SD}{v:Nat→Value}{ls:Nat→List ByteArray}{wr:World} (h:TO w x v ls wr):wr.cell? ⟨w.heap.size+1,0,none⟩=some (.string x.nm)∧wr.cell? ⟨w.heap.size+1,1,none⟩=some (.int .i64 x.ar)∧wr.cell? ⟨w.heap.size+1,2,none⟩=some (.int .i64 (x.pn:Int))∧wr.cell? ⟨w.heap.size+1,3,none⟩=some (v 0)∧wr.cell? ⟨w.heap.size+1,4,none⟩=some (v 1)∧wr.cell? ⟨w.heap.size+1,5,none⟩=some (v 2) ∧ ∀ o,wr.frozen? ⟨w.heap.size+1,o,none⟩=false:=by
 have hb:=h.out
 refine ⟨?_,?_,?_,?_,?_,?_,fun o=>by simp [World.frozen?,hb]⟩
 ·rw [cell_of_row wr _ 0 _ _ _ hb];rfl
 ·rw [cell_of_row wr _ 1 _ _ _ hb];rfl
 ·rw [cell_of_row wr _ 2 _ _ _ hb];rfl
 ·rw [cell_of_row wr _ 3 _ _ _ hb];rfl
 ·rw [cell_of_row wr _ 4 _ _ _ hb];rfl
 ·rw [cell_of_row wr _ 5 _ _ _ hb];rfl
theorem TO.rcells {w:World}{x:SD}{v:Nat→Value}{ls:Nat→List ByteArray}{wr:World} (h:TO w x v ls wr):wr.cell? ⟨w.heap.size,0,none⟩=some (.string ⟨#[]⟩)∧wr.cell? ⟨w.heap.size,1,none⟩=some (.int .i64 0)∧wr.cell? ⟨w.heap.size,2,none⟩=some (.int .i64 0)∧wr.cell? ⟨w.heap.size,3,none⟩=some (.slice none 0 0)∧wr.cell? ⟨w.heap.size,4,none⟩=some (.slice none 0 0)∧wr.cell? ⟨w.heap.size,5,none⟩=some (.slice none 0 0)∧wr.frozen? ⟨w.heap.size,0,none⟩=false∧wr.frozen? ⟨w.heap.size,1,none⟩=false∧wr.frozen? ⟨w.heap.size,2,none⟩=false∧wr.frozen? ⟨w.heap.size,3,none⟩=false∧wr.frozen? ⟨w.heap.size,4,none⟩=false∧wr.frozen? ⟨w.heap.size,5,none⟩=false:=by
 have hb:=h.res
 have hf:∀ o,wr.frozen? ⟨w.heap.size,o,none⟩=false:=fun o=>by simp [World.frozen?,hb]
 refine ⟨?_,?_,?_,?_,?_,?_,hf 0,hf 1,hf 2,hf 3,hf 4,hf 5⟩
 ·rw [cell_of_row wr _ 0 _ _ _ hb];rfl
 ·rw [cell_of_row wr _ 1 _ _ _ hb];rfl
 ·rw [cell_of_row wr _ 2 _ _ _ hb];rfl
 ·rw [cell_of_row wr _ 3 _ _ _ hb];rfl
 ·rw [cell_of_row wr _ 4 _ _ _ hb];rfl
 ·rw [cell_of_row wr _ 5 _ _ _ hb];rfl
theorem TO.done {w:World}{x:SD}{v:Nat→Value}{ls:Nat→List ByteArray}{wr:World} (h:TO w x v ls wr) (a0 a1 a2 a3 a4 a5:Value):Below w.heap.size w ((((((wr.setCell ⟨w.heap.size,0,none⟩ a0).setCell ⟨w.heap.size,1,none⟩ a1).setCell ⟨w.heap.size,2,none⟩ a2).setCell ⟨w.heap.size,3,none⟩ a3).setCell ⟨w.heap.size,4,none⟩ a4).setCell ⟨w.heap.size,5,none⟩ a5) ∧ ∀ i,i<3→((((((wr.setCell ⟨w.heap.size,0,none⟩ a0).setCell ⟨w.heap.size,1,none⟩ a1).setCell ⟨w.heap.size,2,none⟩ a2).setCell ⟨w.heap.size,3,none⟩ a3).setCell ⟨w.heap.size,4,none⟩ a4).setCell ⟨w.heap.size,5,none⟩ a5).ownsRow (w.heap.size+2) 9 1 (v i) (ls i).length ((ls i).map Value.string):=by
 have he:Ex (fun q=>q=w.heap.size) wr ((((((wr.setCell ⟨w.heap.size,0,none⟩ a0).setCell ⟨w.heap.size,1,none⟩ a1).setCell ⟨w.heap.size,2,none⟩ a2).setCell ⟨w.heap.size,3,none⟩ a3).setCell ⟨w.heap.size,4,none⟩ a4).setCell ⟨w.heap.size,5,none⟩ a5):=((((((Ex.refl (fun q=>q=w.heap.size) wr).set rfl a0).set rfl a1).set rfl a2).set rfl a3).set rfl a4).set rfl a5
 refine ⟨h.bl.trans (he.below (fun q e=>Nat.le_of_eq e.symm) h.bl.size),fun i hi=>Z1a (h.row i (by omega)) (fun g hg => ?_)⟩
 obtain ⟨h1,cur,e⟩:=Z0d (h.row i (by omega)) hg
 exact he.block g (Z00 e) (by omega)
theorem TO.kept {w:World}{x:SD}{v:Nat→Value}{ls:Nat→List ByteArray}{wr w':World} (h:TO w x v ls wr) (hb:Below wr.heap.size wr w'):TO w x v ls w':=by
 have hs:=h.size
 refine ⟨h.bl.trans (hb.mono (by omega)),(hb.block _ (by omega)).trans h.res,(hb.block _ (by omega)).trans h.out,fun i hi=>Z1a (h.row i hi) (fun g hg => ?_),h.ap⟩
 obtain ⟨_,cur,e⟩:=Z0d (h.row i hi) hg
 exact hb.block g (Z00 e)
theorem TO.names {w:World}{x:SD}{v:Nat→Value}{ls:Nat→List ByteArray}{wr w':World}{kv:Value}{ks:List ByteArray} (h:TO w x v ls wr) (hb:Below wr.heap.size wr w') (hr:w'.ownsRow wr.heap.size 9 1 kv ks.length (ks.map Value.string)):TO w x (upd v 3 kv) (upd ls 3 ks) w':=by
 have hs:=h.size
 have h2:=h.kept hb
 refine ⟨h2.bl,h2.res,h2.out,fun i hi => ?_,fun i j hi hj hij g hg => ?_⟩
 ·by_cases e:i=3
  ·subst e
   rw [Z3o,Z3o]
   refine ⟨hr.1,hr.2.imp id ?_⟩
   rintro ⟨g,cap,cur,q1,q2,q3⟩
   exact ⟨g,cap,cur,q1,by omega,q3⟩
  ·rw [Z1q _ _ e,Z1q _ _ e]
   exact h2.row i hi
 ·by_cases e:i=3
  ·subst e
   rw [Z3o] at hg
   rw [Z1q _ _ (Ne.symm hij)]
   intro hg2
   obtain ⟨_,cur,e2⟩:=Z0d (h.row j hj) hg2
   have:=(Z0d hr hg).1
   have:=Z00 e2
   omega
  ·rw [Z1q _ _ e] at hg
   by_cases e2:j=3
   ·subst e2
    rw [Z3o]
    intro hg2
    obtain ⟨_,cur,e2⟩:=Z0d (h.row i hi) hg
    have:=(Z0d hr hg2).1
    have:=Z00 e2
    omega
   ·rw [Z1q _ _ e2]
    exact h.ap i j hi hj hij g hg
theorem TO.push {w:World}{x:SD}{v:Nat→Value}{ls:Nat→List ByteArray}{wr w2:World}{i:Nat} (hi:i<3) {s:ByteArray}{gn capn:Nat}{o:Obj} (h:TO w x v ls wr) (hg:(wr.alloc o).grownBy w2 (v i).ownBlock) (hat:(v i).ownBlock=some gn∨gn=(wr.alloc o).heap.size) (hown:w2.ownsRow (w.heap.size+2) 9 1 (.slice (some ⟨gn,0,none⟩) ((ls i).length+1) capn) ((ls i).length+1) ((ls i).map Value.string ++ [.string s])) :
  w2.heap[w.heap.size+1]?=wr.heap[w.heap.size+1]?∧TO w x (upd v i (.slice (some ⟨gn,0,none⟩) ((ls i).length+1) capn)) (upd ls i (ls i ++ [s])) (w2.setCell ⟨w.heap.size+1,3+i,none⟩ (.slice (some ⟨gn,0,none⟩) ((ls i).length+1) capn)):=by
 have hs:=h.size
 have hsz:(wr.alloc o).heap.size=wr.heap.size+1:=by simp
 have key:∀ q,q<wr.heap.size→(v i).ownBlock≠some q→w2.heap[q]?=wr.heap[q]?:=fun q hq hn=>(hg.block q (by omega) (fun e=>hn e.symm)).trans (Below.heap_alloc _ _ _ hq)
 have low:∀ q,q<w.heap.size+2→(v i).ownBlock≠some q:=fun q hq e=>by
  have:=(Z0d (h.row i (by omega)) e).1
  omega
 have hO:=key (w.heap.size+1) (by omega) (low _ (by omega))
 have gnb:w.heap.size+2≤gn:=(Z0d hown (g:=gn) rfl).1
 refine ⟨hO,⟨?_,?_,?_,fun j hj => ?_,fun a b ha hb hab g hga => ?_⟩⟩
 ·refine ⟨hg.os.trans h.bl.os,hg.tape.trans h.bl.tape,hg.output.trans h.bl.output,?_,fun q hq => ?_⟩
  ·have:=hg.size
   simp [World.setCell]
   omega
  ·rw [Z07 _ _ _ _ _ (by omega),key q (by omega) (low q (by omega))]
   exact h.bl.block q hq
 ·rw [Z07 _ _ _ _ _ (by omega),key _ (by omega) (low _ (by omega))]
  exact h.res
 ·rw [Z0a (hO.trans h.out)]
  have:i=0∨i=1∨i=2:=by omega
  rcases this with rfl | rfl | rfl <;> rfl
 ·have keep:∀ (u:Value) (n:Nat) (xs:List Value),w2.ownsRow (w.heap.size+2) 9 1 u n xs→(w2.setCell ⟨w.heap.size+1,3+i,none⟩ (.slice (some ⟨gn,0,none⟩) ((ls i).length+1) capn)).ownsRow (w.heap.size+2) 9 1 u n xs:=fun u n xs hu=>Z1a hu (fun g hg'=>by
   have:=(Z0d hu hg').1
   exact Z07 _ _ _ _ _ (by omega))
  by_cases e:j=i
  ·subst e
   rw [Z3o,Z3o,List.length_append,List.map_append]
   exact keep _ _ _ hown
  ·rw [Z1q _ _ e,Z1q _ _ e]
   refine keep _ _ _ (Z1a (h.row j hj) (fun g hg' => ?_))
   obtain ⟨_,cur,e2⟩:=Z0d (h.row j hj) hg'
   exact key g (Z00 e2) (fun hx=>h.ap i j (by omega) hj (Ne.symm e) g hx hg')
 ·have fresh:∀ j g,j<4→j≠i→(v j).ownBlock=some g→gn≠g:=fun j g hj hji hg' e=>by
   subst e
   obtain ⟨_,cur,e2⟩:=Z0d (h.row j hj) hg'
   have:=Z00 e2
   rcases hat with hat | hat
   ·exact h.ap i j (by omega) hj (Ne.symm hji) _ hat hg'
   ·omega
  by_cases e:a=i
  ·subst e
   rw [Z3o] at hga
   simp only [Value.ownBlock,Option.some.injEq] at hga
   rw [Z1q _ _ (Ne.symm hab)]
   intro hgb
   exact fresh b g hb (Ne.symm hab) hgb (by simpa using hga)
  ·rw [Z1q _ _ e] at hga
   by_cases e2:b=i
   ·subst e2
    rw [Z3o]
    intro hgb
    simp only [Value.ownBlock,Option.some.injEq] at hgb
    exact fresh a g ha hab hga (by simpa using hgb)
   ·rw [Z1q _ _ e2]
    exact h.ap a b ha hb hab g hga
def isL (x:SD) (s:ByteArray):Bool:=beB (x.bits s) && !shB (x.bits s)
def isC (x:SD) (s:ByteArray):Bool:=beB (x.bits s) && shB (x.bits s)
def isF (x:SD) (s:ByteArray):Bool:=frB (x.bits s)
structure ToldS (x:SD) (ls:Nat→List ByteArray):Prop where
 none:x.ar<0 → ∀ i,i<3→ls i = []
 loc:0≤x.ar→ls 0=x.od.filter (isL x)
 cel:0≤x.ar→ls 1=x.od.filter (isC x)
 fre:0≤x.ar → ∀ s,s∈ls 2 ↔ isF x s=true
 ris:Zll (ls 2)
 len:∀ i,i<3→(ls i).length≤5000000000000
theorem Z2p {p:ByteArray→Bool}{l:List ByteArray}{j:Nat}{s:ByteArray} (h:l[j]?=some s):(l.take (j+1)).filter p=if p s then (l.take j).filter p ++ [s] else (l.take j).filter p:=by
 rw [List.take_add_one,h,List.filter_append]
 cases hp:p s <;> simp [hp]
theorem Zb7 (p:ByteArray→Bool) (l:List ByteArray) (j:Nat):((l.take j).filter p).length≤l.length:=Nat.le_trans (List.length_filter_le _ _) (List.length_take_le' _ _)
theorem Z7i {w:World}{B j n cap:Nat}{va:Option Addr}{xs:List ByteArray}{s:ByteArray} (h:w.ownsRow B 9 1 (.slice va n cap) n (xs.map Value.string)) (hn:n=xs.length) (hs:xs[j]?=some s):∃ g,va=some ⟨g,0,none⟩∧B≤g∧w.cell? ⟨g,j,none⟩=some (.string s):=by
 have hj:=(List.getElem?_eq_some_iff.1 hs).1
 rcases h.2 with ⟨_,h0⟩ | ⟨g,cap,cur,e,hge,hg,_,_,_,htk⟩
 ·omega
 ·simp only [Value.slice.injEq,true_and] at e
  refine ⟨g,e.1,hge,?_⟩
  rw [cell_of_row w g j cur _ _ hg,←Array.getElem?_toList]
  have e2:(cur.toList.take (n*1))[j]?=(xs.map Value.string)[j]?:=by rw [htk]
  rw [List.getElem?_take,if_pos (by omega)] at e2
  rw [e2,List.getElem?_map,hs]
  rfl
end Go.Proofs.YtflcohidmemfpaaGreatDoor
