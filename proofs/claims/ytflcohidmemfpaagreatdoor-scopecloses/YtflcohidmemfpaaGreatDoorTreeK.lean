/- Package tree: sides (written by tools/tree/sides.py). -/
import Derived.Test.YtflcohidmemfpaaGreatDoorSsG
set_option linter.all false
namespace Go.Proofs.YtflcohidmemfpaaGreatDoor
open Go.Proofs.Tryz
open Go.RowKit

structure SidesAt (p g cap:Nat) (rk:Value) (l:List (ByteArray × ByteArray × Nat)) (bl dp:Nat) (w:World) (B:Nat) (e:DataW Unit) (k2:Nat) (op:ByteArray) (z:Int) (sx:ByteArray) (pa:Option Addr) (pn pc:Nat) (la:Option Addr) (ln lc:Nat) (wx:World):Prop where
 rd:RD wx p g cap rk l k2 bl dp
 ks:Keeps p w wx
 b4:wx.heap[w.heap.size]?=some (.cells #[.string ⟨#[]⟩,.int .i64 0,.string ⟨#[]⟩,.slice none 0 0,.slice none 0 0] 72)
 b5:wx.heap[B]?=some (.cells #[.string op,.int .i64 z,.string sx,.slice pa pn pc,.slice la ln lc] 72)
 rep:Z2l (fun b=>w.heap.size<b∧b≠B) wx [.string op,.int .i64 z,.string sx,.slice pa pn pc,.slice la ln lc] e
 wB:w.heap.size<B
 kl:k2<l.length
theorem Z4y {p g cap:Nat}{rk:Value}{l:List (ByteArray × ByteArray × Nat)}{k2 bl dp:Nat}{w w1:World}{e:DataW Unit}{op:ByteArray}{z:Int}{sx:ByteArray}{pa:Option Addr}{pn pc:Nat}{la:Option Addr}{ln lc:Nat} (hpl:p<w.heap.size)
  (hrep:Z2l (fun b=>w.heap.size+1≤b) w1 [.string op,.int .i64 z,.string sx,.slice pa pn pc,.slice la ln lc] e) (R1:RD w1 p g cap rk l k2 bl dp) (K1:Keeps p (w.alloc (.cells #[.string ⟨#[]⟩,.int .i64 0,.string ⟨#[]⟩,.slice none 0 0,.slice none 0 0] 72)) w1) (hk:k2<l.length) :
  SidesAt p g cap rk l bl dp w w1.heap.size e k2 op z sx pa pn pc la ln lc (w1.alloc (.cells #[.string op,.int .i64 z,.string sx,.slice pa pn pc,.slice la ln lc] 72)):=by
 have hb0:Below w.heap.size w (w.alloc (.cells #[.string ⟨#[]⟩,.int .i64 0,.string ⟨#[]⟩,.slice none 0 0,.slice none 0 0] 72)):=(Below.refl _ _).alloc (Nat.le_refl _) _
 have K0:Keeps p w (w.alloc (.cells #[.string ⟨#[]⟩,.int .i64 0,.string ⟨#[]⟩,.slice none 0 0,.slice none 0 0] 72)):=Keeps.of hb0 (by omega)
 have hba:Below w1.heap.size w1 (w1.alloc (.cells #[.string op,.int .i64 z,.string sx,.slice pa pn pc,.slice la ln lc] 72)):=(Below.refl _ _).alloc (Nat.le_refl _) _
 have hs:=K1.below.size
 have hs0:(w.alloc (.cells #[.string ⟨#[]⟩,.int .i64 0,.string ⟨#[]⟩,.slice none 0 0,.slice none 0 0] 72)).heap.size=w.heap.size+1:=by simp
 have hB0:=heap_alloc_new w (.cells #[.string ⟨#[]⟩,.int .i64 0,.string ⟨#[]⟩,.slice none 0 0,.slice none 0 0] 72)
 refine ⟨R1.more hba,(K0.trans K1).trans (Keeps.of hba (by omega)),(hba.block _ (by omega)).trans ((K1.block _ (by omega) (by omega)).trans hB0),heap_alloc_new _ _,hrep.same (Z06 hba) (fun b hb hl => ?_),by omega,hk⟩
 constructor <;> omega
theorem SidesAt.more {p g cap:Nat}{rk:Value}{l:List (ByteArray × ByteArray × Nat)}{k2 bl dp B:Nat}{w wx w':World}{e:DataW Unit}{op:ByteArray}{z:Int}{sx:ByteArray}{pa:Option Addr}{pn pc:Nat}{la:Option Addr}{ln lc:Nat} (A:SidesAt p g cap rk l bl dp w B e k2 op z sx pa pn pc la ln lc wx) (hpl:p<w.heap.size) (hb:Below wx.heap.size wx w'):SidesAt p g cap rk l bl dp w B e k2 op z sx pa pn pc la ln lc w':=
 ⟨A.rd.more hb,A.ks.trans (Keeps.of hb (by have:=Z00 A.b4;omega)),(hb.block _ (Z00 A.b4)).trans A.b4,(hb.block _ (Z00 A.b5)).trans A.b5,A.rep.same (Z06 hb) (fun _ h _=>h),A.wB,A.kl⟩
theorem Z60 {p g cap:Nat}{rk:Value}{l:List (ByteArray × ByteArray × Nat)}{k2 k3 bl dp B:Nat}{w wx w4 w5:World}{e e2:DataW Unit}{op:ByteArray}{z:Int}{sx:ByteArray}{pa:Option Addr}{pn pc:Nat}{la:Option Addr}{ln lc:Nat}{op2:ByteArray}{z2:Int}{sx2:ByteArray}{pa2:Option Addr}{pn2 pc2:Nat}{la2:Option Addr}{ln2 lc2:Nat}
  (hpl:p<w.heap.size) (hgl:g<w.heap.size) (A:SidesAt p g cap rk l bl dp w B e k2 op z sx pa pn pc la ln lc wx) (K4:Keeps p wx w4) (K5:Keeps p w4 w5) (R5:RD w5 p g cap rk l k3 bl dp) (hrep:Z2l (fun b=>w4.heap.size≤b) w5 [.string op2,.int .i64 z2,.string sx2,.slice pa2 pn2 pc2,.slice la2 ln2 lc2] e2) (hk:k3<l.length) (tx:ByteArray) (w6:World)
  (hw:w6=(set5 w5 B (.string tx) (.int .i64 0) (.string ⟨#[]⟩) (.slice none 0 0) (.slice (some ⟨w5.heap.size,0,none⟩) 2 2)).alloc (.cells #[.string op,.int .i64 z,.string sx,.slice pa pn pc,.slice la ln lc,.string op2,.int .i64 z2,.string sx2,.slice pa2 pn2 pc2,.slice la2 ln2 lc2] 72)) :
  SidesAt p g cap rk l bl dp w B (mkE tx 0 ⟨#[]⟩ [] [e,e2]) k3 tx 0 ⟨#[]⟩ none 0 0 (some ⟨w5.heap.size,0,none⟩) 2 2 w6:=by
 have hBx:=Z00 A.b5
 have hwB:=A.wB
 have hs4:=K4.below.size
 have hs5:=K5.below.size
 have K45:=K4.trans K5
 have hB5:=(K45.block B (by omega) hBx).trans A.b5
 have r1:=A.rep.same (K45.same (fun h=>by omega)) (fun b hb _=>hb)
 have r2:=hrep.same (S':=fun b=>w.heap.size<b∧b≠B) (fun _ _ _=>rfl) (fun b hb _=>⟨by omega,by omega⟩)
 obtain ⟨f1,f2,f3,f4⟩:=Z65 r1 R5 (A.ks.trans K45) hB5 (fun h=>h.2 rfl) (by omega) (by omega) (by omega) (.string tx) (.int .i64 0) (.string ⟨#[]⟩) (.slice none 0 0) (.slice (some ⟨w5.heap.size,0,none⟩) 2 2)
 obtain ⟨g1,_,_,_⟩:=Z65 r2 R5 (A.ks.trans K45) hB5 (fun h=>h.2 rfl) (by omega) (by omega) (by omega) (.string tx) (.int .i64 0) (.string ⟨#[]⟩) (.slice none 0 0) (.slice (some ⟨w5.heap.size,0,none⟩) 2 2)
 have hz:=Z7a w5 B (.string tx) (.int .i64 0) (.string ⟨#[]⟩) (.slice none 0 0) (.slice (some ⟨w5.heap.size,0,none⟩) 2 2)
 have hb4:(set5 w5 B (.string tx) (.int .i64 0) (.string ⟨#[]⟩) (.slice none 0 0) (.slice (some ⟨w5.heap.size,0,none⟩) 2 2)).heap[w.heap.size]?=some (.cells #[.string ⟨#[]⟩,.int .i64 0,.string ⟨#[]⟩,.slice none 0 0,.slice none 0 0] 72):=(Z5n (by omega) _ _ _ _ _).trans ((K45.block _ (by omega) (Z00 A.b4)).trans A.b4)
 have hr:=Zq9 (op:=tx) (S':=fun b=>w.heap.size<b∧b≠B) f1 g1 (fun b hb=>hb) (by rw [hz];constructor <;> omega)
 rw [hz] at hr
 have hba:Below (set5 w5 B (.string tx) (.int .i64 0) (.string ⟨#[]⟩) (.slice none 0 0) (.slice (some ⟨w5.heap.size,0,none⟩) 2 2)).heap.size (set5 w5 B (.string tx) (.int .i64 0) (.string ⟨#[]⟩) (.slice none 0 0) (.slice (some ⟨w5.heap.size,0,none⟩) 2 2)) w6:=by
  rw [hw]
  exact (Below.refl _ _).alloc (Nat.le_refl _) _
 rw [←hw] at hr
 exact ⟨f2.more hba,f3.trans (Keeps.of hba (by rw [hz];omega)),(hba.block _ (by rw [hz];omega)).trans hb4,(hba.block _ (by rw [hz];omega)).trans f4,hr,hwB,hk⟩
theorem Z4n {p g cap:Nat}{rk:Value}{l:List (ByteArray × ByteArray × Nat)}{k2 bl dp B:Nat}{w wx:World}{e:DataW Unit}{op:ByteArray}{z:Int}{sx:ByteArray}{pa:Option Addr}{pn pc:Nat}{la:Option Addr}{ln lc:Nat} (hpl:p<w.heap.size) (hgl:g<w.heap.size) (A:SidesAt p g cap rk l bl dp w B e k2 op z sx pa pn pc la ln lc wx) :
  (set5 wx w.heap.size (.string op) (.int .i64 z) (.string sx) (.slice pa pn pc) (.slice la ln lc)).heap[w.heap.size]?=some (.cells #[.string op,.int .i64 z,.string sx,.slice pa pn pc,.slice la ln lc] 72)∧Z2l (fun b=>w.heap.size≤b) (set5 wx w.heap.size (.string op) (.int .i64 z) (.string sx) (.slice pa pn pc) (.slice la ln lc)) [.string op,.int .i64 z,.string sx,.slice pa pn pc,.slice la ln lc] e∧RD (set5 wx w.heap.size (.string op) (.int .i64 z) (.string sx) (.slice pa pn pc) (.slice la ln lc)) p g cap rk l k2 bl dp∧Keeps p w (set5 wx w.heap.size (.string op) (.int .i64 z) (.string sx) (.slice pa pn pc) (.slice la ln lc)):=by
 obtain ⟨f1,f2,f3,f4⟩:=Z65 A.rep A.rd A.ks A.b4 (fun h=>by omega) (by omega) (by omega) (by omega) (.string op) (.int .i64 z) (.string sx) (.slice pa pn pc) (.slice la ln lc)
 exact ⟨f4,f1.same (fun _ _ _=>rfl) (fun b h _=>by omega),f2,f3⟩

set_option maxHeartbeats 4000000 in
set_option maxRecDepth 100000 in
theorem Znn {p g cap:Nat}{rk:Value}{l:List (ByteArray × ByteArray × Nat)}{k bl dp:Nat}{a0 a1:Addr} (hl:l.length≤100000) (hen:Z57 l) (hk:k<l.length) (sub:Nat→Out (DataW Unit))
  (h:∀ k1,k≤k1→k1<l.length→Z0w 141 #[.pointer (some ⟨p,0,none⟩),.int .i64 2] p g cap rk l k1 bl dp a0 a1 (sub k1)):Z0w 156 #[.pointer (some ⟨p,0,none⟩),.int .i64 1] p g cap rk l k bl dp a0 a1 (Z3l l 1 sub k):=by
 intro w R E X
 have hpl:=Z00 R.blk
 have hgl:=R.gl
 have hb0:Below w.heap.size w (w.alloc (.cells #[.string ⟨#[]⟩,.int .i64 0,.string ⟨#[]⟩,.slice none 0 0,.slice none 0 0] 72)):=(Below.refl _ _).alloc (Nat.le_refl _) _
 have K0:Keeps p w (w.alloc (.cells #[.string ⟨#[]⟩,.int .i64 0,.string ⟨#[]⟩,.slice none 0 0,.slice none 0 0] 72)):=Keeps.of hb0 (by omega)
 have hsz:(w.alloc (.cells #[.string ⟨#[]⟩,.int .i64 0,.string ⟨#[]⟩,.slice none 0 0,.slice none 0 0] 72)).heap.size=w.heap.size+1:=by simp
 have HC:=Z01 (h k (Nat.le_refl _) hk _ (R.more hb0) (E.keeps K0) (X.keeps K0))
 have HH:=Z01 h
 have HE:=Z01 E
 have HX:=Z01 X
 clear R E X h
 unfold Z3l
 cases ho:sub k with
 | error y =>
  show Calls _ _ _ _ fun ev w'=>Z0p _ p g cap rk l k bl dp a0 a1 w (.error y) ev w'
  rw [ho] at HC
  clear ho HH HE HX
  go_enter func156,ntmps156
  go_wp2_with fail
  refine HC.out.mono ?_
  intro ev w1 hP
  unfold Z0p at hP
  obtain ⟨t,g1,b,rfl,g2⟩:=hP
  have HF:Hid (Z04 l p a0 a1 w y (.panicked [{ v:=.iface 61 (.pointer (some ⟨b,0,none⟩)),recovered:=false }]) w1):=Z04.after K0.below ⟨t,g1,b,rfl,g2⟩
  clear g1 g2 K0 HC
  go_wp2_with fail
  exact ⟨rfl,HF.out⟩
 | ok y =>
  obtain ⟨e,k1⟩:=y
  simp only
  rw [ho] at HC
  obtain ⟨o,hoo⟩:∃ o,Z0s l 1 sub (l.length+1) e k1=o:=⟨_,rfl⟩
  rw [hoo]
  have HOO:=Z01 hoo
  have HPE:Hid (∀ y ev w',o = .error y→Z04 l p a0 a1 w y ev w'→Z0p (fun b=>w.heap.size≤b) p g cap rk l k bl dp a0 a1 w o ev w'):=by
   rintro y ev w' rfl h
   exact h
  clear ho hoo
  go_enter func156,ntmps156
  go_wp2_with fail
  refine HC.out.mono ?_
  intro ev w1 hP
  rw [hsz] at hP
  rcases hP.parts with ⟨e',k',op,z,sx,pa,pn,pc,la,ln,lc,q,rfl,hrep,R1,K1,hk1,hk1l⟩ | ⟨y,b,q,_⟩
  rotate_left
  ·cases q
  cases q
  have HA:=Z01 (Z4y hpl hrep R1 K1 hk1l)
  clear hP hrep R1 K1 HC
  go_wp2_with fail
  go_loopg [] (l.length+1) (fun gk wx => ∃ (e2:DataW Unit) (k2:Nat) (op:ByteArray) (z:Int) (sx:ByteArray) (pa:Option Addr) (pn pc:Nat) (la:Option Addr) (ln lc:Nat),SidesAt p g cap rk l bl dp w w1.heap.size e2 k2 op z sx pa pn pc la ln lc wx∧k<k2∧l.length - k2<gk∧Z0s l 1 sub gk e2 k2=o)
  case atStart=>exact ⟨_,_,_,_,_,_,_,_,_,_,_,HA.out,by omega,by omega,HOO.out⟩
  case round =>
   obtain ⟨e2,k2,op,z,sx,pa,pn,pc,la,ln,lc,A,hk2,hgk,hpm⟩:=hrel
   have hk2l:=A.kl
   obtain ⟨x,hx⟩:∃ x,l[k2]?=some x:=⟨l[k2],by simp [hk2l]⟩
   obtain ⟨gj,hgj⟩:∃ gj,gk=gj+1:=⟨gk - 1,by omega⟩
   have HGJ:=Z01 hgj
   rw [hgj] at hpm
   have HPM:=Z01 hpm
   have HXX:=Z01 hx
   obtain ⟨m,hm⟩:∃ m,Z0i x (Z0y 1)=m:=⟨_,rfl⟩
   have HM:=Z01 hm
   obtain ⟨rb,c,hrk,hn,hx8⟩:=HX.out.keeps A.ks
   obtain ⟨mb,mc,hmc,_,hts⟩:=hx8 1 (by omega)
   have R2:=A.rd
   obtain ⟨_,_,p2,_,_⟩:=R2.cells
   rw [hrk] at p2
   have HR:=Z01 hrk
   have hwB:=A.wB
   have HAA:=Z01 A
   have HK:=Z01 HA
   clear hpm hgj hm hx8 hrk A HA
   go_wp2_with fail
   refine (Z10 R2 hx (Z0y 1) mb 0 mc (by decide) hts).mono ?_
   rintro ev w3 ⟨rfl,hb3⟩
   rw [HM.out]
   have A3:=HAA.out.more hpl hb3
   have F1:=Z4v (.string x.1) (.string x.2.1) (.int .i64 (x.2.2:Int))
   clear R2 p2 hmc hts hb3
   cases m
   ·have ho2:o = .ok (e2,k2):=by rw [←HPM.out];exact Z5o HXX.out HM.out
    subst ho2
    obtain ⟨t0,t1,t2,t3,t4,_⟩:=Z05 A3.b5
    obtain ⟨u0,u1,u2,u3,u4,uf⟩:=Z05 A3.b4
    have uf0:=uf 0
    have uf1:=uf 1
    have uf2:=uf 2
    have uf3:=uf 3
    have uf4:=uf 4
    have HZ:=Z01 (Z4n hpl hgl A3)
    clear A3 uf hx HPM HPE
    go_wp2_with fail
    obtain ⟨z1,z2,z3,z4⟩:=HZ.out
    refine bodyPost_ret (Z0b _ 4 rfl _ _ w.heap.size _ _ _ _ _ rfl z1) rfl ?_
    exact ⟨_,_,_,_,_,rfl,z2,z3,z4,hk2,hk2l⟩
   ·have hk3:k2+1<l.length:=hen.next HXX.out HM.out
    have H3:=Z01 A3
    have R3:=A3.rd
    clear A3
    go_wp2_with fail
    refine (Z23 R3 hx hl).mono ?_
    rintro ev w4 ⟨rfl,R4,K4⟩
    have hbd:Below w4.heap.size w4 w4.drew:=(Below.refl _ _).drew
    have hp4:=Z00 R4.blk
    have Kd:Keeps p w4 w4.drew:=Keeps.of hbd (by omega)
    have Kw:Keeps p w w4.drew:=(H3.out.ks.trans K4).trans Kd
    have HN:=Z01 (HH.out (k2+1) (by omega) hk3 w4.drew (R4.more hbd) (HE.out.keeps Kw) (HX.out.keeps Kw))
    have hB4:=(K4.block _ (by omega) (Z00 H3.out.b5)).trans H3.out.b5
    obtain ⟨t0,t1,t2,t3,t4,tf⟩:=Z05 hB4
    have tl:=Z00 hB4
    have HK4:=Z01 (K4.trans Kd)
    have HKW:=Z01 Kw
    have HBB:=Z01 hB4
    clear R3 R4 K4 Kw Kd hx tf hB4 hbd
    go_wp2_with fail
    go_region_law (first
     | (go_simp;go_at_call 141;refine HN.out.mono ?_;intro ev w5 hP;rcases hP.parts with ⟨e5,k5,op5,z5,sx5,pa5,pn5,pc5,la5,ln5,lc5,q5,rfl,hrep5,R5,K5,hk5,hk5l⟩ | ⟨y,b,q5,rfl,hf⟩;rotate_left;exact ⟨rfl,HPE.out y _ _ (HPM.out.symm.trans (Z7d HXX.out HM.out q5)) (Z04.after HKW.out.below hf)⟩;obtain ⟨s0,s1,s2,s3,s4,sf⟩:=Z05 ((K5.block _ (by omega) (Z00 HBB.out)).trans HBB.out);have sf0:=sf 0;have sf1:=sf 1;have sf2:=sf 2;have sf3:=sf 3;have sf4:=sf 4;have sl:=Z02 s0;have HQ5:=Z01 q5;have HS:=Z01 (fun tx=>Z60 (tx:=tx) hpl hgl H3.out HK4.out K5 R5 hrep5 hk5l);clear hP q5 hrep5 R5 K5 sf))
    all_goals
     have A6:=HS.out x.2.1 _ rfl
     have HG6:Hid (o=bif 1 == 4 then .ok (mkE x.2.1 0 ⟨#[]⟩ [] [e2,e5],k5) else Z0s l 1 sub gj (mkE x.2.1 0 ⟨#[]⟩ [] [e2,e5]) k5):=HPM.out.symm.trans (Z96 HXX.out HM.out HQ5.out)
     have HA6:=Z01 A6
     clear A6 HS
     go_wp2_with fail
     go_roundg gj
     case measure=>have:=HGJ.out;omega
     case rel=>exact ⟨_,_,_,_,_,_,_,_,_,_,_,HA6.out,by omega,by have:=HGJ.out;omega,HG6.out.symm⟩

set_option maxHeartbeats 4000000 in
set_option maxRecDepth 100000 in
theorem Zmt {p g cap:Nat}{rk:Value}{l:List (ByteArray × ByteArray × Nat)}{k bl dp:Nat}{a0 a1:Addr} (hl:l.length≤100000) (hen:Z57 l) (hk:k<l.length) (sub:Nat→Out (DataW Unit))
  (h:∀ k1,k≤k1→k1<l.length→Z0w 141 #[.pointer (some ⟨p,0,none⟩),.int .i64 3] p g cap rk l k1 bl dp a0 a1 (sub k1)):Z0w 156 #[.pointer (some ⟨p,0,none⟩),.int .i64 2] p g cap rk l k bl dp a0 a1 (Z3l l 2 sub k):=by
 intro w R E X
 have hpl:=Z00 R.blk
 have hgl:=R.gl
 have hb0:Below w.heap.size w (w.alloc (.cells #[.string ⟨#[]⟩,.int .i64 0,.string ⟨#[]⟩,.slice none 0 0,.slice none 0 0] 72)):=(Below.refl _ _).alloc (Nat.le_refl _) _
 have K0:Keeps p w (w.alloc (.cells #[.string ⟨#[]⟩,.int .i64 0,.string ⟨#[]⟩,.slice none 0 0,.slice none 0 0] 72)):=Keeps.of hb0 (by omega)
 have hsz:(w.alloc (.cells #[.string ⟨#[]⟩,.int .i64 0,.string ⟨#[]⟩,.slice none 0 0,.slice none 0 0] 72)).heap.size=w.heap.size+1:=by simp
 have HC:=Z01 (h k (Nat.le_refl _) hk _ (R.more hb0) (E.keeps K0) (X.keeps K0))
 have HH:=Z01 h
 have HE:=Z01 E
 have HX:=Z01 X
 clear R E X h
 unfold Z3l
 cases ho:sub k with
 | error y =>
  show Calls _ _ _ _ fun ev w'=>Z0p _ p g cap rk l k bl dp a0 a1 w (.error y) ev w'
  rw [ho] at HC
  clear ho HH HE HX
  go_enter func156,ntmps156
  go_wp2_with fail
  refine HC.out.mono ?_
  intro ev w1 hP
  unfold Z0p at hP
  obtain ⟨t,g1,b,rfl,g2⟩:=hP
  have HF:Hid (Z04 l p a0 a1 w y (.panicked [{ v:=.iface 61 (.pointer (some ⟨b,0,none⟩)),recovered:=false }]) w1):=Z04.after K0.below ⟨t,g1,b,rfl,g2⟩
  clear g1 g2 K0 HC
  go_wp2_with fail
  exact ⟨rfl,HF.out⟩
 | ok y =>
  obtain ⟨e,k1⟩:=y
  simp only
  rw [ho] at HC
  obtain ⟨o,hoo⟩:∃ o,Z0s l 2 sub (l.length+1) e k1=o:=⟨_,rfl⟩
  rw [hoo]
  have HOO:=Z01 hoo
  have HPE:Hid (∀ y ev w',o = .error y→Z04 l p a0 a1 w y ev w'→Z0p (fun b=>w.heap.size≤b) p g cap rk l k bl dp a0 a1 w o ev w'):=by
   rintro y ev w' rfl h
   exact h
  clear ho hoo
  go_enter func156,ntmps156
  go_wp2_with fail
  refine HC.out.mono ?_
  intro ev w1 hP
  rw [hsz] at hP
  rcases hP.parts with ⟨e',k',op,z,sx,pa,pn,pc,la,ln,lc,q,rfl,hrep,R1,K1,hk1,hk1l⟩ | ⟨y,b,q,_⟩
  rotate_left
  ·cases q
  cases q
  have HA:=Z01 (Z4y hpl hrep R1 K1 hk1l)
  clear hP hrep R1 K1 HC
  go_wp2_with fail
  go_loopg [] (l.length+1) (fun gk wx => ∃ (e2:DataW Unit) (k2:Nat) (op:ByteArray) (z:Int) (sx:ByteArray) (pa:Option Addr) (pn pc:Nat) (la:Option Addr) (ln lc:Nat),SidesAt p g cap rk l bl dp w w1.heap.size e2 k2 op z sx pa pn pc la ln lc wx∧k<k2∧l.length - k2<gk∧Z0s l 2 sub gk e2 k2=o)
  case atStart=>exact ⟨_,_,_,_,_,_,_,_,_,_,_,HA.out,by omega,by omega,HOO.out⟩
  case round =>
   obtain ⟨e2,k2,op,z,sx,pa,pn,pc,la,ln,lc,A,hk2,hgk,hpm⟩:=hrel
   have hk2l:=A.kl
   obtain ⟨x,hx⟩:∃ x,l[k2]?=some x:=⟨l[k2],by simp [hk2l]⟩
   obtain ⟨gj,hgj⟩:∃ gj,gk=gj+1:=⟨gk - 1,by omega⟩
   have HGJ:=Z01 hgj
   rw [hgj] at hpm
   have HPM:=Z01 hpm
   have HXX:=Z01 hx
   obtain ⟨m,hm⟩:∃ m,Z0i x (Z0y 2)=m:=⟨_,rfl⟩
   have HM:=Z01 hm
   obtain ⟨rb,c,hrk,hn,hx8⟩:=HX.out.keeps A.ks
   obtain ⟨mb,mc,hmc,_,hts⟩:=hx8 2 (by omega)
   have R2:=A.rd
   obtain ⟨_,_,p2,_,_⟩:=R2.cells
   rw [hrk] at p2
   have HR:=Z01 hrk
   have hwB:=A.wB
   have HAA:=Z01 A
   have HK:=Z01 HA
   clear hpm hgj hm hx8 hrk A HA
   go_wp2_with fail
   refine (Z10 R2 hx (Z0y 2) mb 0 mc (by decide) hts).mono ?_
   rintro ev w3 ⟨rfl,hb3⟩
   rw [HM.out]
   have A3:=HAA.out.more hpl hb3
   have F1:=Z4v (.string x.1) (.string x.2.1) (.int .i64 (x.2.2:Int))
   clear R2 p2 hmc hts hb3
   cases m
   ·have ho2:o = .ok (e2,k2):=by rw [←HPM.out];exact Z5o HXX.out HM.out
    subst ho2
    obtain ⟨t0,t1,t2,t3,t4,_⟩:=Z05 A3.b5
    obtain ⟨u0,u1,u2,u3,u4,uf⟩:=Z05 A3.b4
    have uf0:=uf 0
    have uf1:=uf 1
    have uf2:=uf 2
    have uf3:=uf 3
    have uf4:=uf 4
    have HZ:=Z01 (Z4n hpl hgl A3)
    clear A3 uf hx HPM HPE
    go_wp2_with fail
    obtain ⟨z1,z2,z3,z4⟩:=HZ.out
    refine bodyPost_ret (Z0b _ 4 rfl _ _ w.heap.size _ _ _ _ _ rfl z1) rfl ?_
    exact ⟨_,_,_,_,_,rfl,z2,z3,z4,hk2,hk2l⟩
   ·have hk3:k2+1<l.length:=hen.next HXX.out HM.out
    have H3:=Z01 A3
    have R3:=A3.rd
    clear A3
    go_wp2_with fail
    refine (Z23 R3 hx hl).mono ?_
    rintro ev w4 ⟨rfl,R4,K4⟩
    have hbd:Below w4.heap.size w4 w4.drew:=(Below.refl _ _).drew
    have hp4:=Z00 R4.blk
    have Kd:Keeps p w4 w4.drew:=Keeps.of hbd (by omega)
    have Kw:Keeps p w w4.drew:=(H3.out.ks.trans K4).trans Kd
    have HN:=Z01 (HH.out (k2+1) (by omega) hk3 w4.drew (R4.more hbd) (HE.out.keeps Kw) (HX.out.keeps Kw))
    have hB4:=(K4.block _ (by omega) (Z00 H3.out.b5)).trans H3.out.b5
    obtain ⟨t0,t1,t2,t3,t4,tf⟩:=Z05 hB4
    have tl:=Z00 hB4
    have HK4:=Z01 (K4.trans Kd)
    have HKW:=Z01 Kw
    have HBB:=Z01 hB4
    clear R3 R4 K4 Kw Kd hx tf hB4 hbd
    go_wp2_with fail
    go_region_law (first
     | (go_simp;go_at_call 141;refine HN.out.mono ?_;intro ev w5 hP;rcases hP.parts with ⟨e5,k5,op5,z5,sx5,pa5,pn5,pc5,la5,ln5,lc5,q5,rfl,hrep5,R5,K5,hk5,hk5l⟩ | ⟨y,b,q5,rfl,hf⟩;rotate_left;exact ⟨rfl,HPE.out y _ _ (HPM.out.symm.trans (Z7d HXX.out HM.out q5)) (Z04.after HKW.out.below hf)⟩;obtain ⟨s0,s1,s2,s3,s4,sf⟩:=Z05 ((K5.block _ (by omega) (Z00 HBB.out)).trans HBB.out);have sf0:=sf 0;have sf1:=sf 1;have sf2:=sf 2;have sf3:=sf 3;have sf4:=sf 4;have sl:=Z02 s0;have HQ5:=Z01 q5;have HS:=Z01 (fun tx=>Z60 (tx:=tx) hpl hgl H3.out HK4.out K5 R5 hrep5 hk5l);clear hP q5 hrep5 R5 K5 sf))
    all_goals
     have A6:=HS.out x.2.1 _ rfl
     have HG6:Hid (o=bif 2 == 4 then .ok (mkE x.2.1 0 ⟨#[]⟩ [] [e2,e5],k5) else Z0s l 2 sub gj (mkE x.2.1 0 ⟨#[]⟩ [] [e2,e5]) k5):=HPM.out.symm.trans (Z96 HXX.out HM.out HQ5.out)
     have HA6:=Z01 A6
     clear A6 HS
     go_wp2_with fail
     go_roundg gj
     case measure=>have:=HGJ.out;omega
     case rel=>exact ⟨_,_,_,_,_,_,_,_,_,_,_,HA6.out,by omega,by have:=HGJ.out;omega,HG6.out.symm⟩

set_option maxHeartbeats 4000000 in
set_option maxRecDepth 100000 in
theorem Zmh {p g cap:Nat}{rk:Value}{l:List (ByteArray × ByteArray × Nat)}{k bl dp:Nat}{a0 a1:Addr} (hl:l.length≤100000) (hen:Z57 l) (hk:k<l.length) (sub:Nat→Out (DataW Unit))
  (h:∀ k1,k≤k1→k1<l.length→Z0w 141 #[.pointer (some ⟨p,0,none⟩),.int .i64 5] p g cap rk l k1 bl dp a0 a1 (sub k1)):Z0w 156 #[.pointer (some ⟨p,0,none⟩),.int .i64 4] p g cap rk l k bl dp a0 a1 (Z3l l 4 sub k):=by
 intro w R E X
 have hpl:=Z00 R.blk
 have hgl:=R.gl
 have hb0:Below w.heap.size w (w.alloc (.cells #[.string ⟨#[]⟩,.int .i64 0,.string ⟨#[]⟩,.slice none 0 0,.slice none 0 0] 72)):=(Below.refl _ _).alloc (Nat.le_refl _) _
 have K0:Keeps p w (w.alloc (.cells #[.string ⟨#[]⟩,.int .i64 0,.string ⟨#[]⟩,.slice none 0 0,.slice none 0 0] 72)):=Keeps.of hb0 (by omega)
 have hsz:(w.alloc (.cells #[.string ⟨#[]⟩,.int .i64 0,.string ⟨#[]⟩,.slice none 0 0,.slice none 0 0] 72)).heap.size=w.heap.size+1:=by simp
 have HC:=Z01 (h k (Nat.le_refl _) hk _ (R.more hb0) (E.keeps K0) (X.keeps K0))
 have HH:=Z01 h
 have HE:=Z01 E
 have HX:=Z01 X
 clear R E X h
 unfold Z3l
 cases ho:sub k with
 | error y =>
  show Calls _ _ _ _ fun ev w'=>Z0p _ p g cap rk l k bl dp a0 a1 w (.error y) ev w'
  rw [ho] at HC
  clear ho HH HE HX
  go_enter func156,ntmps156
  go_wp2_with fail
  refine HC.out.mono ?_
  intro ev w1 hP
  unfold Z0p at hP
  obtain ⟨t,g1,b,rfl,g2⟩:=hP
  have HF:Hid (Z04 l p a0 a1 w y (.panicked [{ v:=.iface 61 (.pointer (some ⟨b,0,none⟩)),recovered:=false }]) w1):=Z04.after K0.below ⟨t,g1,b,rfl,g2⟩
  clear g1 g2 K0 HC
  go_wp2_with fail
  exact ⟨rfl,HF.out⟩
 | ok y =>
  obtain ⟨e,k1⟩:=y
  simp only
  rw [ho] at HC
  obtain ⟨o,hoo⟩:∃ o,Z0s l 4 sub (l.length+1) e k1=o:=⟨_,rfl⟩
  rw [hoo]
  have HOO:=Z01 hoo
  have HPE:Hid (∀ y ev w',o = .error y→Z04 l p a0 a1 w y ev w'→Z0p (fun b=>w.heap.size≤b) p g cap rk l k bl dp a0 a1 w o ev w'):=by
   rintro y ev w' rfl h
   exact h
  clear ho hoo
  go_enter func156,ntmps156
  go_wp2_with fail
  refine HC.out.mono ?_
  intro ev w1 hP
  rw [hsz] at hP
  rcases hP.parts with ⟨e',k',op,z,sx,pa,pn,pc,la,ln,lc,q,rfl,hrep,R1,K1,hk1,hk1l⟩ | ⟨y,b,q,_⟩
  rotate_left
  ·cases q
  cases q
  have HA:=Z01 (Z4y hpl hrep R1 K1 hk1l)
  clear hP hrep R1 K1 HC
  go_wp2_with fail
  go_loopg [] (l.length+1) (fun gk wx => ∃ (e2:DataW Unit) (k2:Nat) (op:ByteArray) (z:Int) (sx:ByteArray) (pa:Option Addr) (pn pc:Nat) (la:Option Addr) (ln lc:Nat),SidesAt p g cap rk l bl dp w w1.heap.size e2 k2 op z sx pa pn pc la ln lc wx∧k<k2∧l.length - k2<gk∧Z0s l 4 sub gk e2 k2=o)
  case atStart=>exact ⟨_,_,_,_,_,_,_,_,_,_,_,HA.out,by omega,by omega,HOO.out⟩
  case round =>
   obtain ⟨e2,k2,op,z,sx,pa,pn,pc,la,ln,lc,A,hk2,hgk,hpm⟩:=hrel
   have hk2l:=A.kl
   obtain ⟨x,hx⟩:∃ x,l[k2]?=some x:=⟨l[k2],by simp [hk2l]⟩
   obtain ⟨gj,hgj⟩:∃ gj,gk=gj+1:=⟨gk - 1,by omega⟩
   have HGJ:=Z01 hgj
   rw [hgj] at hpm
   have HPM:=Z01 hpm
   have HXX:=Z01 hx
   obtain ⟨m,hm⟩:∃ m,Z0i x (Z0y 4)=m:=⟨_,rfl⟩
   have HM:=Z01 hm
   obtain ⟨rb,c,hrk,hn,hx8⟩:=HX.out.keeps A.ks
   obtain ⟨mb,mc,hmc,_,hts⟩:=hx8 4 (by omega)
   have R2:=A.rd
   obtain ⟨_,_,p2,_,_⟩:=R2.cells
   rw [hrk] at p2
   have HR:=Z01 hrk
   have hwB:=A.wB
   have HAA:=Z01 A
   have HK:=Z01 HA
   clear hpm hgj hm hx8 hrk A HA
   go_wp2_with fail
   refine (Z10 R2 hx (Z0y 4) mb 0 mc (by decide) hts).mono ?_
   rintro ev w3 ⟨rfl,hb3⟩
   rw [HM.out]
   have A3:=HAA.out.more hpl hb3
   have F1:=Z4v (.string x.1) (.string x.2.1) (.int .i64 (x.2.2:Int))
   clear R2 p2 hmc hts hb3
   cases m
   ·have ho2:o = .ok (e2,k2):=by rw [←HPM.out];exact Z5o HXX.out HM.out
    subst ho2
    obtain ⟨t0,t1,t2,t3,t4,_⟩:=Z05 A3.b5
    obtain ⟨u0,u1,u2,u3,u4,uf⟩:=Z05 A3.b4
    have uf0:=uf 0
    have uf1:=uf 1
    have uf2:=uf 2
    have uf3:=uf 3
    have uf4:=uf 4
    have HZ:=Z01 (Z4n hpl hgl A3)
    clear A3 uf hx HPM HPE
    go_wp2_with fail
    obtain ⟨z1,z2,z3,z4⟩:=HZ.out
    refine bodyPost_ret (Z0b _ 4 rfl _ _ w.heap.size _ _ _ _ _ rfl z1) rfl ?_
    exact ⟨_,_,_,_,_,rfl,z2,z3,z4,hk2,hk2l⟩
   ·have hk3:k2+1<l.length:=hen.next HXX.out HM.out
    have H3:=Z01 A3
    have R3:=A3.rd
    clear A3
    go_wp2_with fail
    refine (Z23 R3 hx hl).mono ?_
    rintro ev w4 ⟨rfl,R4,K4⟩
    have hbd:Below w4.heap.size w4 w4.drew:=(Below.refl _ _).drew
    have hp4:=Z00 R4.blk
    have Kd:Keeps p w4 w4.drew:=Keeps.of hbd (by omega)
    have Kw:Keeps p w w4.drew:=(H3.out.ks.trans K4).trans Kd
    have HN:=Z01 (HH.out (k2+1) (by omega) hk3 w4.drew (R4.more hbd) (HE.out.keeps Kw) (HX.out.keeps Kw))
    have hB4:=(K4.block _ (by omega) (Z00 H3.out.b5)).trans H3.out.b5
    obtain ⟨t0,t1,t2,t3,t4,tf⟩:=Z05 hB4
    have tl:=Z00 hB4
    have HK4:=Z01 (K4.trans Kd)
    have HKW:=Z01 Kw
    have HBB:=Z01 hB4
    clear R3 R4 K4 Kw Kd hx tf hB4 hbd
    go_wp2_with fail
    go_region_law (first
     | (go_simp;go_at_call 141;refine HN.out.mono ?_;intro ev w5 hP;rcases hP.parts with ⟨e5,k5,op5,z5,sx5,pa5,pn5,pc5,la5,ln5,lc5,q5,rfl,hrep5,R5,K5,hk5,hk5l⟩ | ⟨y,b,q5,rfl,hf⟩;rotate_left;exact ⟨rfl,HPE.out y _ _ (HPM.out.symm.trans (Z7d HXX.out HM.out q5)) (Z04.after HKW.out.below hf)⟩;obtain ⟨s0,s1,s2,s3,s4,sf⟩:=Z05 ((K5.block _ (by omega) (Z00 HBB.out)).trans HBB.out);have sf0:=sf 0;have sf1:=sf 1;have sf2:=sf 2;have sf3:=sf 3;have sf4:=sf 4;have sl:=Z02 s0;have HQ5:=Z01 q5;have HS:=Z01 (fun tx=>Z60 (tx:=tx) hpl hgl H3.out HK4.out K5 R5 hrep5 hk5l);clear hP q5 hrep5 R5 K5 sf))
    all_goals
     have A6:=HS.out x.2.1 _ rfl
     have HG6:Hid (o=bif 4 == 4 then .ok (mkE x.2.1 0 ⟨#[]⟩ [] [e2,e5],k5) else Z0s l 4 sub gj (mkE x.2.1 0 ⟨#[]⟩ [] [e2,e5]) k5):=HPM.out.symm.trans (Z96 HXX.out HM.out HQ5.out)
     have ho6:o = .ok (mkE x.2.1 0 ⟨#[]⟩ [] [e2,e5],k5):=HG6.out
     subst ho6
     unfold set5 at A6
     generalize World.alloc _ _=W6 at A6 ⊢
     obtain ⟨v0,v1,v2,v3,v4,_⟩:=Z05 A6.b5
     obtain ⟨u0,u1,u2,u3,u4,uf⟩:=Z05 A6.b4
     have uf0:=uf 0
     have uf1:=uf 1
     have uf2:=uf 2
     have uf3:=uf 3
     have uf4:=uf 4
     have HZ:=Z01 (Z4n hpl hgl A6)
     clear A6 HS uf HPM HPE HG6 HN HH HE HX HKW HK4 HBB H3 t0 t1 t2 t3 t4 s0 s1 s2 s3 s4 sf0 sf1 sf2 sf3 sf4
     go_wp2_with fail
     obtain ⟨z1,z2,z3,z4⟩:=HZ.out
     refine bodyPost_ret (Z0b _ 4 rfl _ _ w.heap.size _ _ _ _ _ rfl z1) rfl ?_
     exact ⟨_,_,_,_,_,rfl,z2,z3,z4,by omega,hk5l⟩

set_option maxHeartbeats 4000000 in
set_option maxRecDepth 100000 in
theorem Zo2 {p g cap:Nat}{rk:Value}{l:List (ByteArray × ByteArray × Nat)}{k bl dp:Nat}{a0 a1:Addr} (hl:l.length≤100000) (hen:Z57 l) (hk:k<l.length) (sub:Nat→Out (DataW Unit))
  (h:∀ k1,k≤k1→k1<l.length→Z0w 141 #[.pointer (some ⟨p,0,none⟩),.int .i64 6] p g cap rk l k1 bl dp a0 a1 (sub k1)):Z0w 156 #[.pointer (some ⟨p,0,none⟩),.int .i64 5] p g cap rk l k bl dp a0 a1 (Z3l l 5 sub k):=by
 intro w R E X
 have hpl:=Z00 R.blk
 have hgl:=R.gl
 have hb0:Below w.heap.size w (w.alloc (.cells #[.string ⟨#[]⟩,.int .i64 0,.string ⟨#[]⟩,.slice none 0 0,.slice none 0 0] 72)):=(Below.refl _ _).alloc (Nat.le_refl _) _
 have K0:Keeps p w (w.alloc (.cells #[.string ⟨#[]⟩,.int .i64 0,.string ⟨#[]⟩,.slice none 0 0,.slice none 0 0] 72)):=Keeps.of hb0 (by omega)
 have hsz:(w.alloc (.cells #[.string ⟨#[]⟩,.int .i64 0,.string ⟨#[]⟩,.slice none 0 0,.slice none 0 0] 72)).heap.size=w.heap.size+1:=by simp
 have HC:=Z01 (h k (Nat.le_refl _) hk _ (R.more hb0) (E.keeps K0) (X.keeps K0))
 have HH:=Z01 h
 have HE:=Z01 E
 have HX:=Z01 X
 clear R E X h
 unfold Z3l
 cases ho:sub k with
 | error y =>
  show Calls _ _ _ _ fun ev w'=>Z0p _ p g cap rk l k bl dp a0 a1 w (.error y) ev w'
  rw [ho] at HC
  clear ho HH HE HX
  go_enter func156,ntmps156
  go_wp2_with fail
  refine HC.out.mono ?_
  intro ev w1 hP
  unfold Z0p at hP
  obtain ⟨t,g1,b,rfl,g2⟩:=hP
  have HF:Hid (Z04 l p a0 a1 w y (.panicked [{ v:=.iface 61 (.pointer (some ⟨b,0,none⟩)),recovered:=false }]) w1):=Z04.after K0.below ⟨t,g1,b,rfl,g2⟩
  clear g1 g2 K0 HC
  go_wp2_with fail
  exact ⟨rfl,HF.out⟩
 | ok y =>
  obtain ⟨e,k1⟩:=y
  simp only
  rw [ho] at HC
  obtain ⟨o,hoo⟩:∃ o,Z0s l 5 sub (l.length+1) e k1=o:=⟨_,rfl⟩
  rw [hoo]
  have HOO:=Z01 hoo
  have HPE:Hid (∀ y ev w',o = .error y→Z04 l p a0 a1 w y ev w'→Z0p (fun b=>w.heap.size≤b) p g cap rk l k bl dp a0 a1 w o ev w'):=by
   rintro y ev w' rfl h
   exact h
  clear ho hoo
  go_enter func156,ntmps156
  go_wp2_with fail
  refine HC.out.mono ?_
  intro ev w1 hP
  rw [hsz] at hP
  rcases hP.parts with ⟨e',k',op,z,sx,pa,pn,pc,la,ln,lc,q,rfl,hrep,R1,K1,hk1,hk1l⟩ | ⟨y,b,q,_⟩
  rotate_left
  ·cases q
  cases q
  have HA:=Z01 (Z4y hpl hrep R1 K1 hk1l)
  clear hP hrep R1 K1 HC
  go_wp2_with fail
  go_loopg [] (l.length+1) (fun gk wx => ∃ (e2:DataW Unit) (k2:Nat) (op:ByteArray) (z:Int) (sx:ByteArray) (pa:Option Addr) (pn pc:Nat) (la:Option Addr) (ln lc:Nat),SidesAt p g cap rk l bl dp w w1.heap.size e2 k2 op z sx pa pn pc la ln lc wx∧k<k2∧l.length - k2<gk∧Z0s l 5 sub gk e2 k2=o)
  case atStart=>exact ⟨_,_,_,_,_,_,_,_,_,_,_,HA.out,by omega,by omega,HOO.out⟩
  case round =>
   obtain ⟨e2,k2,op,z,sx,pa,pn,pc,la,ln,lc,A,hk2,hgk,hpm⟩:=hrel
   have hk2l:=A.kl
   obtain ⟨x,hx⟩:∃ x,l[k2]?=some x:=⟨l[k2],by simp [hk2l]⟩
   obtain ⟨gj,hgj⟩:∃ gj,gk=gj+1:=⟨gk - 1,by omega⟩
   have HGJ:=Z01 hgj
   rw [hgj] at hpm
   have HPM:=Z01 hpm
   have HXX:=Z01 hx
   obtain ⟨m,hm⟩:∃ m,Z0i x (Z0y 5)=m:=⟨_,rfl⟩
   have HM:=Z01 hm
   obtain ⟨rb,c,hrk,hn,hx8⟩:=HX.out.keeps A.ks
   obtain ⟨mb,mc,hmc,_,hts⟩:=hx8 5 (by omega)
   have R2:=A.rd
   obtain ⟨_,_,p2,_,_⟩:=R2.cells
   rw [hrk] at p2
   have HR:=Z01 hrk
   have hwB:=A.wB
   have HAA:=Z01 A
   have HK:=Z01 HA
   clear hpm hgj hm hx8 hrk A HA
   go_wp2_with fail
   refine (Z10 R2 hx (Z0y 5) mb 0 mc (by decide) hts).mono ?_
   rintro ev w3 ⟨rfl,hb3⟩
   rw [HM.out]
   have A3:=HAA.out.more hpl hb3
   have F1:=Z4v (.string x.1) (.string x.2.1) (.int .i64 (x.2.2:Int))
   clear R2 p2 hmc hts hb3
   cases m
   ·have ho2:o = .ok (e2,k2):=by rw [←HPM.out];exact Z5o HXX.out HM.out
    subst ho2
    obtain ⟨t0,t1,t2,t3,t4,_⟩:=Z05 A3.b5
    obtain ⟨u0,u1,u2,u3,u4,uf⟩:=Z05 A3.b4
    have uf0:=uf 0
    have uf1:=uf 1
    have uf2:=uf 2
    have uf3:=uf 3
    have uf4:=uf 4
    have HZ:=Z01 (Z4n hpl hgl A3)
    clear A3 uf hx HPM HPE
    go_wp2_with fail
    obtain ⟨z1,z2,z3,z4⟩:=HZ.out
    refine bodyPost_ret (Z0b _ 4 rfl _ _ w.heap.size _ _ _ _ _ rfl z1) rfl ?_
    exact ⟨_,_,_,_,_,rfl,z2,z3,z4,hk2,hk2l⟩
   ·have hk3:k2+1<l.length:=hen.next HXX.out HM.out
    have H3:=Z01 A3
    have R3:=A3.rd
    clear A3
    go_wp2_with fail
    refine (Z23 R3 hx hl).mono ?_
    rintro ev w4 ⟨rfl,R4,K4⟩
    have hbd:Below w4.heap.size w4 w4.drew:=(Below.refl _ _).drew
    have hp4:=Z00 R4.blk
    have Kd:Keeps p w4 w4.drew:=Keeps.of hbd (by omega)
    have Kw:Keeps p w w4.drew:=(H3.out.ks.trans K4).trans Kd
    have HN:=Z01 (HH.out (k2+1) (by omega) hk3 w4.drew (R4.more hbd) (HE.out.keeps Kw) (HX.out.keeps Kw))
    have hB4:=(K4.block _ (by omega) (Z00 H3.out.b5)).trans H3.out.b5
    obtain ⟨t0,t1,t2,t3,t4,tf⟩:=Z05 hB4
    have tl:=Z00 hB4
    have HK4:=Z01 (K4.trans Kd)
    have HKW:=Z01 Kw
    have HBB:=Z01 hB4
    clear R3 R4 K4 Kw Kd hx tf hB4 hbd
    go_wp2_with fail
    go_region_law (first
     | (go_simp;go_at_call 141;refine HN.out.mono ?_;intro ev w5 hP;rcases hP.parts with ⟨e5,k5,op5,z5,sx5,pa5,pn5,pc5,la5,ln5,lc5,q5,rfl,hrep5,R5,K5,hk5,hk5l⟩ | ⟨y,b,q5,rfl,hf⟩;rotate_left;exact ⟨rfl,HPE.out y _ _ (HPM.out.symm.trans (Z7d HXX.out HM.out q5)) (Z04.after HKW.out.below hf)⟩;obtain ⟨s0,s1,s2,s3,s4,sf⟩:=Z05 ((K5.block _ (by omega) (Z00 HBB.out)).trans HBB.out);have sf0:=sf 0;have sf1:=sf 1;have sf2:=sf 2;have sf3:=sf 3;have sf4:=sf 4;have sl:=Z02 s0;have HQ5:=Z01 q5;have HS:=Z01 (fun tx=>Z60 (tx:=tx) hpl hgl H3.out HK4.out K5 R5 hrep5 hk5l);clear hP q5 hrep5 R5 K5 sf))
    all_goals
     have A6:=HS.out x.2.1 _ rfl
     have HG6:Hid (o=bif 5 == 4 then .ok (mkE x.2.1 0 ⟨#[]⟩ [] [e2,e5],k5) else Z0s l 5 sub gj (mkE x.2.1 0 ⟨#[]⟩ [] [e2,e5]) k5):=HPM.out.symm.trans (Z96 HXX.out HM.out HQ5.out)
     have HA6:=Z01 A6
     clear A6 HS
     go_wp2_with fail
     go_roundg gj
     case measure=>have:=HGJ.out;omega
     case rel=>exact ⟨_,_,_,_,_,_,_,_,_,_,_,HA6.out,by omega,by have:=HGJ.out;omega,HG6.out.symm⟩

set_option maxHeartbeats 4000000 in
set_option maxRecDepth 100000 in
theorem Zmk {p g cap:Nat}{rk:Value}{l:List (ByteArray × ByteArray × Nat)}{k bl dp:Nat}{a0 a1:Addr} (hl:l.length≤100000) (hen:Z57 l) (hk:k<l.length) (sub:Nat→Out (DataW Unit))
  (h:∀ k1,k≤k1→k1<l.length→Z0w 141 #[.pointer (some ⟨p,0,none⟩),.int .i64 7] p g cap rk l k1 bl dp a0 a1 (sub k1)):Z0w 156 #[.pointer (some ⟨p,0,none⟩),.int .i64 6] p g cap rk l k bl dp a0 a1 (Z3l l 6 sub k):=by
 intro w R E X
 have hpl:=Z00 R.blk
 have hgl:=R.gl
 have hb0:Below w.heap.size w (w.alloc (.cells #[.string ⟨#[]⟩,.int .i64 0,.string ⟨#[]⟩,.slice none 0 0,.slice none 0 0] 72)):=(Below.refl _ _).alloc (Nat.le_refl _) _
 have K0:Keeps p w (w.alloc (.cells #[.string ⟨#[]⟩,.int .i64 0,.string ⟨#[]⟩,.slice none 0 0,.slice none 0 0] 72)):=Keeps.of hb0 (by omega)
 have hsz:(w.alloc (.cells #[.string ⟨#[]⟩,.int .i64 0,.string ⟨#[]⟩,.slice none 0 0,.slice none 0 0] 72)).heap.size=w.heap.size+1:=by simp
 have HC:=Z01 (h k (Nat.le_refl _) hk _ (R.more hb0) (E.keeps K0) (X.keeps K0))
 have HH:=Z01 h
 have HE:=Z01 E
 have HX:=Z01 X
 clear R E X h
 unfold Z3l
 cases ho:sub k with
 | error y =>
  show Calls _ _ _ _ fun ev w'=>Z0p _ p g cap rk l k bl dp a0 a1 w (.error y) ev w'
  rw [ho] at HC
  clear ho HH HE HX
  go_enter func156,ntmps156
  go_wp2_with fail
  refine HC.out.mono ?_
  intro ev w1 hP
  unfold Z0p at hP
  obtain ⟨t,g1,b,rfl,g2⟩:=hP
  have HF:Hid (Z04 l p a0 a1 w y (.panicked [{ v:=.iface 61 (.pointer (some ⟨b,0,none⟩)),recovered:=false }]) w1):=Z04.after K0.below ⟨t,g1,b,rfl,g2⟩
  clear g1 g2 K0 HC
  go_wp2_with fail
  exact ⟨rfl,HF.out⟩
 | ok y =>
  obtain ⟨e,k1⟩:=y
  simp only
  rw [ho] at HC
  obtain ⟨o,hoo⟩:∃ o,Z0s l 6 sub (l.length+1) e k1=o:=⟨_,rfl⟩
  rw [hoo]
  have HOO:=Z01 hoo
  have HPE:Hid (∀ y ev w',o = .error y→Z04 l p a0 a1 w y ev w'→Z0p (fun b=>w.heap.size≤b) p g cap rk l k bl dp a0 a1 w o ev w'):=by
   rintro y ev w' rfl h
   exact h
  clear ho hoo
  go_enter func156,ntmps156
  go_wp2_with fail
  refine HC.out.mono ?_
  intro ev w1 hP
  rw [hsz] at hP
  rcases hP.parts with ⟨e',k',op,z,sx,pa,pn,pc,la,ln,lc,q,rfl,hrep,R1,K1,hk1,hk1l⟩ | ⟨y,b,q,_⟩
  rotate_left
  ·cases q
  cases q
  have HA:=Z01 (Z4y hpl hrep R1 K1 hk1l)
  clear hP hrep R1 K1 HC
  go_wp2_with fail
  go_loopg [] (l.length+1) (fun gk wx => ∃ (e2:DataW Unit) (k2:Nat) (op:ByteArray) (z:Int) (sx:ByteArray) (pa:Option Addr) (pn pc:Nat) (la:Option Addr) (ln lc:Nat),SidesAt p g cap rk l bl dp w w1.heap.size e2 k2 op z sx pa pn pc la ln lc wx∧k<k2∧l.length - k2<gk∧Z0s l 6 sub gk e2 k2=o)
  case atStart=>exact ⟨_,_,_,_,_,_,_,_,_,_,_,HA.out,by omega,by omega,HOO.out⟩
  case round =>
   obtain ⟨e2,k2,op,z,sx,pa,pn,pc,la,ln,lc,A,hk2,hgk,hpm⟩:=hrel
   have hk2l:=A.kl
   obtain ⟨x,hx⟩:∃ x,l[k2]?=some x:=⟨l[k2],by simp [hk2l]⟩
   obtain ⟨gj,hgj⟩:∃ gj,gk=gj+1:=⟨gk - 1,by omega⟩
   have HGJ:=Z01 hgj
   rw [hgj] at hpm
   have HPM:=Z01 hpm
   have HXX:=Z01 hx
   obtain ⟨m,hm⟩:∃ m,Z0i x (Z0y 6)=m:=⟨_,rfl⟩
   have HM:=Z01 hm
   obtain ⟨rb,c,hrk,hn,hx8⟩:=HX.out.keeps A.ks
   obtain ⟨mb,mc,hmc,_,hts⟩:=hx8 6 (by omega)
   have R2:=A.rd
   obtain ⟨_,_,p2,_,_⟩:=R2.cells
   rw [hrk] at p2
   have HR:=Z01 hrk
   have hwB:=A.wB
   have HAA:=Z01 A
   have HK:=Z01 HA
   clear hpm hgj hm hx8 hrk A HA
   go_wp2_with fail
   refine (Z10 R2 hx (Z0y 6) mb 0 mc (by decide) hts).mono ?_
   rintro ev w3 ⟨rfl,hb3⟩
   rw [HM.out]
   have A3:=HAA.out.more hpl hb3
   have F1:=Z4v (.string x.1) (.string x.2.1) (.int .i64 (x.2.2:Int))
   clear R2 p2 hmc hts hb3
   cases m
   ·have ho2:o = .ok (e2,k2):=by rw [←HPM.out];exact Z5o HXX.out HM.out
    subst ho2
    obtain ⟨t0,t1,t2,t3,t4,_⟩:=Z05 A3.b5
    obtain ⟨u0,u1,u2,u3,u4,uf⟩:=Z05 A3.b4
    have uf0:=uf 0
    have uf1:=uf 1
    have uf2:=uf 2
    have uf3:=uf 3
    have uf4:=uf 4
    have HZ:=Z01 (Z4n hpl hgl A3)
    clear A3 uf hx HPM HPE
    go_wp2_with fail
    obtain ⟨z1,z2,z3,z4⟩:=HZ.out
    refine bodyPost_ret (Z0b _ 4 rfl _ _ w.heap.size _ _ _ _ _ rfl z1) rfl ?_
    exact ⟨_,_,_,_,_,rfl,z2,z3,z4,hk2,hk2l⟩
   ·have hk3:k2+1<l.length:=hen.next HXX.out HM.out
    have H3:=Z01 A3
    have R3:=A3.rd
    clear A3
    go_wp2_with fail
    refine (Z23 R3 hx hl).mono ?_
    rintro ev w4 ⟨rfl,R4,K4⟩
    have hbd:Below w4.heap.size w4 w4.drew:=(Below.refl _ _).drew
    have hp4:=Z00 R4.blk
    have Kd:Keeps p w4 w4.drew:=Keeps.of hbd (by omega)
    have Kw:Keeps p w w4.drew:=(H3.out.ks.trans K4).trans Kd
    have HN:=Z01 (HH.out (k2+1) (by omega) hk3 w4.drew (R4.more hbd) (HE.out.keeps Kw) (HX.out.keeps Kw))
    have hB4:=(K4.block _ (by omega) (Z00 H3.out.b5)).trans H3.out.b5
    obtain ⟨t0,t1,t2,t3,t4,tf⟩:=Z05 hB4
    have tl:=Z00 hB4
    have HK4:=Z01 (K4.trans Kd)
    have HKW:=Z01 Kw
    have HBB:=Z01 hB4
    clear R3 R4 K4 Kw Kd hx tf hB4 hbd
    go_wp2_with fail
    go_region_law (first
     | (go_simp;go_at_call 141;refine HN.out.mono ?_;intro ev w5 hP;rcases hP.parts with ⟨e5,k5,op5,z5,sx5,pa5,pn5,pc5,la5,ln5,lc5,q5,rfl,hrep5,R5,K5,hk5,hk5l⟩ | ⟨y,b,q5,rfl,hf⟩;rotate_left;exact ⟨rfl,HPE.out y _ _ (HPM.out.symm.trans (Z7d HXX.out HM.out q5)) (Z04.after HKW.out.below hf)⟩;obtain ⟨s0,s1,s2,s3,s4,sf⟩:=Z05 ((K5.block _ (by omega) (Z00 HBB.out)).trans HBB.out);have sf0:=sf 0;have sf1:=sf 1;have sf2:=sf 2;have sf3:=sf 3;have sf4:=sf 4;have sl:=Z02 s0;have HQ5:=Z01 q5;have HS:=Z01 (fun tx=>Z60 (tx:=tx) hpl hgl H3.out HK4.out K5 R5 hrep5 hk5l);clear hP q5 hrep5 R5 K5 sf))
    all_goals
     have A6:=HS.out x.2.1 _ rfl
     have HG6:Hid (o=bif 6 == 4 then .ok (mkE x.2.1 0 ⟨#[]⟩ [] [e2,e5],k5) else Z0s l 6 sub gj (mkE x.2.1 0 ⟨#[]⟩ [] [e2,e5]) k5):=HPM.out.symm.trans (Z96 HXX.out HM.out HQ5.out)
     have HA6:=Z01 A6
     clear A6 HS
     go_wp2_with fail
     go_roundg gj
     case measure=>have:=HGJ.out;omega
     case rel=>exact ⟨_,_,_,_,_,_,_,_,_,_,_,HA6.out,by omega,by have:=HGJ.out;omega,HG6.out.symm⟩
end Go.Proofs.YtflcohidmemfpaaGreatDoor
