/- Package tree: post's closure that reads an index. -/
import Derived.Test.YtflcohidmemfpaaGreatDoorTreeK
set_option linter.all false
namespace Go.Proofs.YtflcohidmemfpaaGreatDoor
open Go.Proofs.Tryz
open Go.RowKit

def Z3t (e:DataW Unit) (o:Out (DataW Unit)):Out (DataW Unit):=match o with
 | .error x=>.error x
 | .ok (e2,k')=>.ok (mkE kIndex 0 ⟨#[]⟩ [] [e,e2],k')

theorem Zm5 {S:Nat→Prop}{p g cap:Nat}{rk:Value}{l:List (ByteArray × ByteArray × Nat)}{k3 bl dp:Nat}{w w5:World}{e e2:DataW Unit}{op:ByteArray}{z:Int}{sx:ByteArray}{pa:Option Addr}{pn pc:Nat}{la:Option Addr}{ln lc:Nat}{op2:ByteArray}{z2:Int}{sx2:ByteArray}{pa2:Option Addr}{pn2 pc2:Nat}{la2:Option Addr}{ln2 lc2:Nat}
  (hpl:p<w.heap.size) (hgl:g<w.heap.size) (hSp:∀ b,S b→b≠p∧b<w.heap.size) (hrep0:Z2l S w [.string op,.int .i64 z,.string sx,.slice pa pn pc,.slice la ln lc] e) (K5d:Keeps p (w.alloc (.cells #[.string ⟨#[]⟩,.int .i64 0,.string ⟨#[]⟩,.slice none 0 0,.slice none 0 0] 72)).drew w5) (R5:RD w5 p g cap rk l k3 bl dp) (hrep:Z2l (fun b=>w.heap.size+1≤b) w5 [.string op2,.int .i64 z2,.string sx2,.slice pa2 pn2 pc2,.slice la2 ln2 lc2] e2) (w6:World)
  (hw:w6=(set5 w5 w.heap.size (.string kIndex) (.int .i64 0) (.string ⟨#[]⟩) (.slice none 0 0) (.slice (some ⟨w5.heap.size,0,none⟩) 2 2)).alloc (.cells #[.string op,.int .i64 z,.string sx,.slice pa pn pc,.slice la ln lc,.string op2,.int .i64 z2,.string sx2,.slice pa2 pn2 pc2,.slice la2 ln2 lc2] 72)) :
  w6.heap[w.heap.size]?=some (.cells #[.string kIndex,.int .i64 0,.string ⟨#[]⟩,.slice none 0 0,.slice (some ⟨w5.heap.size,0,none⟩) 2 2] 72)∧Z2l (fun b=>S b∨w.heap.size≤b) w6 [.string kIndex,.int .i64 0,.string ⟨#[]⟩,.slice none 0 0,.slice (some ⟨w5.heap.size,0,none⟩) 2 2] (mkE kIndex 0 ⟨#[]⟩ [] [e,e2])∧RD w6 p g cap rk l k3 bl dp∧Keeps p w w6:=by
 have hb0:Below w.heap.size w (w.alloc (.cells #[.string ⟨#[]⟩,.int .i64 0,.string ⟨#[]⟩,.slice none 0 0,.slice none 0 0] 72)):=(Below.refl _ _).alloc (Nat.le_refl _) _
 have K0:Keeps p w (w.alloc (.cells #[.string ⟨#[]⟩,.int .i64 0,.string ⟨#[]⟩,.slice none 0 0,.slice none 0 0] 72)):=Keeps.of hb0 (by omega)
 have hs0:(w.alloc (.cells #[.string ⟨#[]⟩,.int .i64 0,.string ⟨#[]⟩,.slice none 0 0,.slice none 0 0] 72)).heap.size=w.heap.size+1:=by simp
 have K5:Keeps p (w.alloc (.cells #[.string ⟨#[]⟩,.int .i64 0,.string ⟨#[]⟩,.slice none 0 0,.slice none 0 0] 72)) w5:=(Keeps.of ((Below.refl _ _).drew) (by omega)).trans K5d
 have hs5:=K5.below.size
 have hB5:=(K5.block w.heap.size (by omega) (by omega)).trans (heap_alloc_new w (.cells #[.string ⟨#[]⟩,.int .i64 0,.string ⟨#[]⟩,.slice none 0 0,.slice none 0 0] 72))
 have K:=K0.trans K5
 have r1:=hrep0.same (S':=fun b=>(S b∨w.heap.size<b)) (K.same (fun h=>(hSp p h).1 rfl)) (fun b hb _=>.inl hb)
 have r2:=hrep.same (S':=fun b=>(S b∨w.heap.size<b)) (fun _ _ _=>rfl) (fun b hb _=>.inr (by omega))
 have hnS:¬ (S w.heap.size∨w.heap.size<w.heap.size):=by
  rintro (h | h)
  ·have:=(hSp _ h).2
   omega
  ·omega
 obtain ⟨f1,f2,f3,f4⟩:=Z65 r1 R5 K hB5 hnS (by omega) (by omega) (by omega) (.string kIndex) (.int .i64 0) (.string ⟨#[]⟩) (.slice none 0 0) (.slice (some ⟨w5.heap.size,0,none⟩) 2 2)
 obtain ⟨g1,_,_,_⟩:=Z65 r2 R5 K hB5 hnS (by omega) (by omega) (by omega) (.string kIndex) (.int .i64 0) (.string ⟨#[]⟩) (.slice none 0 0) (.slice (some ⟨w5.heap.size,0,none⟩) 2 2)
 have hz:=Z7a w5 w.heap.size (.string kIndex) (.int .i64 0) (.string ⟨#[]⟩) (.slice none 0 0) (.slice (some ⟨w5.heap.size,0,none⟩) 2 2)
 have hr:=Zq9 (op:=kIndex) (S':=fun b=>S b∨w.heap.size≤b) f1 g1 (fun b hb=>hb.imp id (fun h=>by omega)) (.inr (by rw [hz];omega))
 rw [hz] at hr
 have hba:Below (set5 w5 w.heap.size (.string kIndex) (.int .i64 0) (.string ⟨#[]⟩) (.slice none 0 0) (.slice (some ⟨w5.heap.size,0,none⟩) 2 2)).heap.size (set5 w5 w.heap.size (.string kIndex) (.int .i64 0) (.string ⟨#[]⟩) (.slice none 0 0) (.slice (some ⟨w5.heap.size,0,none⟩) 2 2)) w6:=by
  rw [hw]
  exact (Below.refl _ _).alloc (Nat.le_refl _) _
 rw [←hw] at hr
 exact ⟨(hba.block _ (by rw [hz];omega)).trans f4,hr,f2.more hba,f3.trans (Keeps.of hba (by rw [hz];omega))⟩

set_option maxHeartbeats 2000000 in
set_option maxRecDepth 100000 in
theorem Zfo {S:Nat→Prop}{p g cap:Nat}{rk:Value}{l:List (ByteArray × ByteArray × Nat)}{k bl dp:Nat}{a0 a1:Addr}{o:Out (DataW Unit)}{e:DataW Unit}{op:ByteArray}{z:Int}{sx:ByteArray}{pa:Option Addr}{pn pc:Nat}{la:Option Addr}{ln lc:Nat} (ce cr:Nat)
  (h:Z0w 176 #[.pointer (some ⟨p,0,none⟩),.string ⟨#[93]⟩] p g cap rk l k bl dp a0 a1 o) (w:World) (R:RD w p g cap rk l k bl dp) (E:TErr p a0 a1 w) (X:RK p rk w) (hSp:∀ b,S b→b≠p∧b<w.heap.size) (hrep0:Z2l S w [.string op,.int .i64 z,.string sx,.slice pa pn pc,.slice la ln lc] e)
  (hce:w.heap[ce]?=some (.cells #[.string op,.int .i64 z,.string sx,.slice pa pn pc,.slice la ln lc] 72)) (hcp:ce≠p) (hcr:w.cell? ⟨cr,0,none⟩=some (.pointer (some ⟨p,0,none⟩))) :
  Calls prog 175 #[.pointer (some ⟨ce,0,none⟩),.pointer (some ⟨cr,0,none⟩)] w fun ev w'=>Z0p (fun b=>S b∨w.heap.size≤b) p g cap rk l k bl dp a0 a1 w (Z3t e o) ev w':=by
 have hpl:=Z00 R.blk
 have hgl:=R.gl
 have hcl:=Z00 hce
 have hrl:=Z02 hcr
 have hb0:Below w.heap.size w (w.alloc (.cells #[.string ⟨#[]⟩,.int .i64 0,.string ⟨#[]⟩,.slice none 0 0,.slice none 0 0] 72)).drew:=((Below.refl _ _).alloc (Nat.le_refl _) _).drew
 have K0:Keeps p w (w.alloc (.cells #[.string ⟨#[]⟩,.int .i64 0,.string ⟨#[]⟩,.slice none 0 0,.slice none 0 0] 72)).drew:=Keeps.of hb0 (by omega)
 have hs0:(w.alloc (.cells #[.string ⟨#[]⟩,.int .i64 0,.string ⟨#[]⟩,.slice none 0 0,.slice none 0 0] 72)).drew.heap.size=w.heap.size+1:=by simp
 have HN:=Z01 (h _ (R.more hb0) (E.keeps K0) (X.keeps K0))
 have hE0:=(K0.block ce hcp hcl).trans hce
 have hB0:(w.alloc (.cells #[.string ⟨#[]⟩,.int .i64 0,.string ⟨#[]⟩,.slice none 0 0,.slice none 0 0] 72)).drew.heap[w.heap.size]?=some (.cells #[.string ⟨#[]⟩,.int .i64 0,.string ⟨#[]⟩,.slice none 0 0,.slice none 0 0] 72):=heap_alloc_new w (.cells #[.string ⟨#[]⟩,.int .i64 0,.string ⟨#[]⟩,.slice none 0 0,.slice none 0 0] 72)
 obtain ⟨t0,t1,t2,t3,t4,_⟩:=Z05 hce
 have HPE:Hid (∀ y ev w',o = .error y→Z04 l p a0 a1 w y ev w'→Z0p (fun b=>S b∨w.heap.size≤b) p g cap rk l k bl dp a0 a1 w (Z3t e o) ev w'):=by
  rintro y ev w' rfl h
  exact h
 have HE0:=Z01 hE0
 have HB0:=Z01 hB0
 have HK0:=Z01 K0
 have HR0:=Z01 hrep0
 have HSP:=Z01 hSp
 clear h R E X hE0 hB0 K0 hb0 hrep0 hSp hce
 go_enter func175,ntmps175
 go_wp2_with fail
 go_region_law (first
  | (go_simp;go_at_call 176;refine HN.out.mono ?_;intro ev w5 hP;rw [hs0] at hP;rcases hP.parts with ⟨e5,k5,op5,z5,sx5,pa5,pn5,pc5,la5,ln5,lc5,q5,rfl,hrep5,R5,K5,hk5,hk5l⟩ | ⟨y,b,q5,rfl,hf⟩;rotate_left;exact ⟨rfl,HPE.out y _ _ q5 (Z04.after HK0.out.below hf)⟩;obtain ⟨s0,s1,s2,s3,s4,sf⟩:=Z05 ((K5.block _ (by omega) (Z00 HE0.out)).trans HE0.out);have hB5:=(K5.block w.heap.size (by omega) (by omega)).trans HB0.out;obtain ⟨u0,u1,u2,u3,u4,uf⟩:=Z05 hB5;have uf0:=uf 0;have uf1:=uf 1;have uf2:=uf 2;have uf3:=uf 3;have uf4:=uf 4;have ul:=Z00 hB5;have sl:=Z02 s0;have HQ5:=Z01 q5;have HS:=Z01 (Zm5 hpl hgl HSP.out HR0.out K5 R5 hrep5);clear hP q5 hrep5 R5 K5 sf uf hB5))
 all_goals
  have ho5:=HQ5.out
  subst ho5
  have HZ:=Z01 (HS.out _ rfl)
  clear HS HPE HN
  go_wp2_with fail
  obtain ⟨z1,z2,z3,z4⟩:=HZ.out
  refine bodyPost_ret (Z0b _ 2 rfl _ _ w.heap.size _ _ _ _ _ rfl z1) rfl ?_
  exact ⟨_,_,_,_,_,rfl,z2,z3,z4,by omega,hk5l⟩
end Go.Proofs.YtflcohidmemfpaaGreatDoor
namespace Go.Proofs.YtflcohidmemfpaaGreatDoor
open Go.Proofs.Tryz
open Go.RowKit

def Zv7:ByteArray:=⟨#[108,105,115,116]⟩
def Zv8:ByteArray:=⟨#[100,105,99,116]⟩
def Z4u (op:ByteArray) (o:Out (List (DataW Unit))):Out (DataW Unit):=match o with
 | .error x=>.error x
 | .ok (el,k')=>.ok (mkE op 0 ⟨#[]⟩ [] el,k')
theorem Zic {p g cap:Nat}{rk:Value}{l:List (ByteArray × ByteArray × Nat)}{k3 bl dp:Nat}{w w3:World}{el:List (DataW Unit)}{la:Option Addr}{lc:Nat} (op:ByteArray) (hop:op≠kIndex) (hpl:p<w.heap.size) (hgl:g<w.heap.size) (K3:Keeps p (w.alloc (.cells #[.string ⟨#[]⟩,.int .i64 0,.string ⟨#[]⟩,.slice none 0 0,.slice none 0 0] 72)) w3) (R3:RD w3 p g cap rk l k3 bl dp) (hL:Z89 (fun b=>w.heap.size+1≤b) w3 la el) (hcap:el.length≤lc) :
  (set5 w3 w.heap.size (.string op) (.int .i64 0) (.string ⟨#[]⟩) (.slice none 0 0) (.slice la el.length lc)).heap[w.heap.size]?=some (.cells #[.string op,.int .i64 0,.string ⟨#[]⟩,.slice none 0 0,.slice la el.length lc] 72)∧Z2l (fun b=>w.heap.size≤b) (set5 w3 w.heap.size (.string op) (.int .i64 0) (.string ⟨#[]⟩) (.slice none 0 0) (.slice la el.length lc)) [.string op,.int .i64 0,.string ⟨#[]⟩,.slice none 0 0,.slice la el.length lc] (mkE op 0 ⟨#[]⟩ [] el)∧RD (set5 w3 w.heap.size (.string op) (.int .i64 0) (.string ⟨#[]⟩) (.slice none 0 0) (.slice la el.length lc)) p g cap rk l k3 bl dp∧Keeps p w (set5 w3 w.heap.size (.string op) (.int .i64 0) (.string ⟨#[]⟩) (.slice none 0 0) (.slice la el.length lc)):=by
 have hb0:Below w.heap.size w (w.alloc (.cells #[.string ⟨#[]⟩,.int .i64 0,.string ⟨#[]⟩,.slice none 0 0,.slice none 0 0] 72)):=(Below.refl _ _).alloc (Nat.le_refl _) _
 have K0:Keeps p w (w.alloc (.cells #[.string ⟨#[]⟩,.int .i64 0,.string ⟨#[]⟩,.slice none 0 0,.slice none 0 0] 72)):=Keeps.of hb0 (by omega)
 have hs0:(w.alloc (.cells #[.string ⟨#[]⟩,.int .i64 0,.string ⟨#[]⟩,.slice none 0 0,.slice none 0 0] 72)).heap.size=w.heap.size+1:=by simp
 have hB:=(K3.block w.heap.size (by omega) (by omega)).trans (heap_alloc_new w (.cells #[.string ⟨#[]⟩,.int .i64 0,.string ⟨#[]⟩,.slice none 0 0,.slice none 0 0] 72))
 have hsame:Z5i (fun b=>w.heap.size+1≤b) w3 (set5 w3 w.heap.size (.string op) (.int .i64 0) (.string ⟨#[]⟩) (.slice none 0 0) (.slice la el.length lc)):=Zcp (by show ¬ (w.heap.size+1≤w.heap.size);omega) _ _ _ _ _
 have r:Z89 (fun b=>w.heap.size≤b) (set5 w3 w.heap.size (.string op) (.int .i64 0) (.string ⟨#[]⟩) (.slice none 0 0) (.slice la el.length lc)) la el:=hL.same hsame (fun b hb _=>by omega)
 exact ⟨Z63 hB _ _ _ _ _,Zne (pl:=[]) (by simp) r (fun _ h=>absurd h hop),R3.set5 (by omega) (by omega) _ _ _ _ _,(K0.trans K3).set5 (by omega) (by omega) _ _ _ _ _⟩

set_option maxHeartbeats 2000000 in
set_option maxRecDepth 100000 in
theorem Zgw {p g cap:Nat}{rk:Value}{l:List (ByteArray × ByteArray × Nat)}{k bl dp:Nat}{a0 a1:Addr}{o:Out (List (DataW Unit))} (cr:Nat) (h:Z4r 174 #[.pointer (some ⟨p,0,none⟩),.string ⟨#[93]⟩,.slice none 0 0] p g cap rk l k bl dp a0 a1 o) (w:World) (R:RD w p g cap rk l k bl dp) (E:TErr p a0 a1 w) (X:RK p rk w) (hcr:w.cell? ⟨cr,0,none⟩=some (.pointer (some ⟨p,0,none⟩))) :
  Calls prog 189 #[.pointer (some ⟨cr,0,none⟩)] w fun ev w'=>Z0p (fun b=>w.heap.size≤b) p g cap rk l k bl dp a0 a1 w (Z4u Zv7 o) ev w':=by
 have hpl:=Z00 R.blk
 have hgl:=R.gl
 have hrl:=Z02 hcr
 have hb0:Below w.heap.size w (w.alloc (.cells #[.string ⟨#[]⟩,.int .i64 0,.string ⟨#[]⟩,.slice none 0 0,.slice none 0 0] 72)):=(Below.refl _ _).alloc (Nat.le_refl _) _
 have K0:Keeps p w (w.alloc (.cells #[.string ⟨#[]⟩,.int .i64 0,.string ⟨#[]⟩,.slice none 0 0,.slice none 0 0] 72)):=Keeps.of hb0 (by omega)
 have hs0:(w.alloc (.cells #[.string ⟨#[]⟩,.int .i64 0,.string ⟨#[]⟩,.slice none 0 0,.slice none 0 0] 72)).heap.size=w.heap.size+1:=by simp
 have HC:=Z01 (h _ (R.more hb0) (E.keeps K0) (X.keeps K0))
 have HB0:=Z01 (heap_alloc_new w (.cells #[.string ⟨#[]⟩,.int .i64 0,.string ⟨#[]⟩,.slice none 0 0,.slice none 0 0] 72))
 clear h R E X
 go_enter func189,ntmps189
 go_wp2_with fail
 refine HC.out.mono ?_
 intro ev w3 hP
 unfold Z9t at hP
 cases o with
 | error y =>
  obtain ⟨t,g1,b,rfl,g2⟩:=hP
  have HF:Hid (Z04 l p a0 a1 w y (.panicked [{ v:=.iface 61 (.pointer (some ⟨b,0,none⟩)),recovered:=false }]) w3):=Z04.after K0.below ⟨t,g1,b,rfl,g2⟩
  clear g1 g2 K0 HC
  go_wp2_with fail
  exact ⟨rfl,HF.out⟩
 | ok y =>
  obtain ⟨el,k'⟩:=y
  rw [hs0] at hP
  obtain ⟨la,lc,rfl,hL,R3,K3,hk3,hk3l,hcap⟩:=hP
  have hB3:=(K3.block w.heap.size (by omega) (by omega)).trans HB0.out
  obtain ⟨u0,u1,u2,u3,u4,uf⟩:=Z05 hB3
  have uf0:=uf 0
  have uf1:=uf 1
  have uf2:=uf 2
  have uf3:=uf 3
  have uf4:=uf 4
  have ul:=Z00 hB3
  have HZ:=Z01 (Zic (lc:=lc) Zv7 (by decide) hpl hgl K3 R3 hL hcap)
  clear hL R3 K3 K0 hB3 uf HC
  go_wp2_with fail
  obtain ⟨z1,z2,z3,z4⟩:=HZ.out
  refine bodyPost_ret (Z0b _ 1 rfl _ _ w.heap.size _ _ _ _ _ rfl z1) rfl ?_
  exact ⟨_,_,_,_,_,rfl,z2,z3,z4,by omega,hk3l⟩

set_option maxHeartbeats 2000000 in
set_option maxRecDepth 100000 in
theorem Zgl {p g cap:Nat}{rk:Value}{l:List (ByteArray × ByteArray × Nat)}{k bl dp:Nat}{a0 a1:Addr}{o:Out (List (DataW Unit))} (cr:Nat) (h:Z4r 191 #[.pointer (some ⟨p,0,none⟩)] p g cap rk l k bl dp a0 a1 o) (w:World) (R:RD w p g cap rk l k bl dp) (E:TErr p a0 a1 w) (X:RK p rk w) (hcr:w.cell? ⟨cr,0,none⟩=some (.pointer (some ⟨p,0,none⟩))) :
  Calls prog 190 #[.pointer (some ⟨cr,0,none⟩)] w fun ev w'=>Z0p (fun b=>w.heap.size≤b) p g cap rk l k bl dp a0 a1 w (Z4u Zv8 o) ev w':=by
 have hpl:=Z00 R.blk
 have hgl:=R.gl
 have hrl:=Z02 hcr
 have hb0:Below w.heap.size w (w.alloc (.cells #[.string ⟨#[]⟩,.int .i64 0,.string ⟨#[]⟩,.slice none 0 0,.slice none 0 0] 72)):=(Below.refl _ _).alloc (Nat.le_refl _) _
 have K0:Keeps p w (w.alloc (.cells #[.string ⟨#[]⟩,.int .i64 0,.string ⟨#[]⟩,.slice none 0 0,.slice none 0 0] 72)):=Keeps.of hb0 (by omega)
 have hs0:(w.alloc (.cells #[.string ⟨#[]⟩,.int .i64 0,.string ⟨#[]⟩,.slice none 0 0,.slice none 0 0] 72)).heap.size=w.heap.size+1:=by simp
 have HC:=Z01 (h _ (R.more hb0) (E.keeps K0) (X.keeps K0))
 have HB0:=Z01 (heap_alloc_new w (.cells #[.string ⟨#[]⟩,.int .i64 0,.string ⟨#[]⟩,.slice none 0 0,.slice none 0 0] 72))
 clear h R E X
 go_enter func190,ntmps190
 go_wp2_with fail
 refine HC.out.mono ?_
 intro ev w3 hP
 unfold Z9t at hP
 cases o with
 | error y =>
  obtain ⟨t,g1,b,rfl,g2⟩:=hP
  have HF:Hid (Z04 l p a0 a1 w y (.panicked [{ v:=.iface 61 (.pointer (some ⟨b,0,none⟩)),recovered:=false }]) w3):=Z04.after K0.below ⟨t,g1,b,rfl,g2⟩
  clear g1 g2 K0 HC
  go_wp2_with fail
  exact ⟨rfl,HF.out⟩
 | ok y =>
  obtain ⟨el,k'⟩:=y
  rw [hs0] at hP
  obtain ⟨la,lc,rfl,hL,R3,K3,hk3,hk3l,hcap⟩:=hP
  have hB3:=(K3.block w.heap.size (by omega) (by omega)).trans HB0.out
  obtain ⟨u0,u1,u2,u3,u4,uf⟩:=Z05 hB3
  have uf0:=uf 0
  have uf1:=uf 1
  have uf2:=uf 2
  have uf3:=uf 3
  have uf4:=uf 4
  have ul:=Z00 hB3
  have HZ:=Z01 (Zic (lc:=lc) Zv8 (by decide) hpl hgl K3 R3 hL hcap)
  clear hL R3 K3 K0 hB3 uf HC
  go_wp2_with fail
  obtain ⟨z1,z2,z3,z4⟩:=HZ.out
  refine bodyPost_ret (Z0b _ 1 rfl _ _ w.heap.size _ _ _ _ _ rfl z1) rfl ?_
  exact ⟨_,_,_,_,_,rfl,z2,z3,z4,by omega,hk3l⟩

set_option maxHeartbeats 2000000 in
set_option maxRecDepth 100000 in
theorem Zdf {p g cap:Nat}{rk:Value}{l:List (ByteArray × ByteArray × Nat)}{k bl dp:Nat}{a0 a1:Addr}{o:Out (DataW Unit)} (cr:Nat) (h:Z0w 176 #[.pointer (some ⟨p,0,none⟩),.string ⟨#[41]⟩] p g cap rk l k bl dp a0 a1 o) (w:World) (R:RD w p g cap rk l k bl dp) (E:TErr p a0 a1 w) (X:RK p rk w) (hcr:w.cell? ⟨cr,0,none⟩=some (.pointer (some ⟨p,0,none⟩))) :
  Calls prog 188 #[.pointer (some ⟨cr,0,none⟩)] w fun ev w'=>Z0p (fun b=>w.heap.size≤b) p g cap rk l k bl dp a0 a1 w o ev w':=by
 have hpl:=Z00 R.blk
 have hgl:=R.gl
 have hrl:=Z02 hcr
 have hb0:Below w.heap.size w (w.alloc (.cells #[.string ⟨#[]⟩,.int .i64 0,.string ⟨#[]⟩,.slice none 0 0,.slice none 0 0] 72)):=(Below.refl _ _).alloc (Nat.le_refl _) _
 have K0:Keeps p w (w.alloc (.cells #[.string ⟨#[]⟩,.int .i64 0,.string ⟨#[]⟩,.slice none 0 0,.slice none 0 0] 72)):=Keeps.of hb0 (by omega)
 have hs0:(w.alloc (.cells #[.string ⟨#[]⟩,.int .i64 0,.string ⟨#[]⟩,.slice none 0 0,.slice none 0 0] 72)).heap.size=w.heap.size+1:=by simp
 have HC:=Z01 (h _ (R.more hb0) (E.keeps K0) (X.keeps K0))
 have HB0:=Z01 (heap_alloc_new w (.cells #[.string ⟨#[]⟩,.int .i64 0,.string ⟨#[]⟩,.slice none 0 0,.slice none 0 0] 72))
 clear h R E X
 go_enter func188,ntmps188
 go_wp2_with fail
 refine HC.out.mono ?_
 intro ev w3 hP
 rw [hs0] at hP
 rcases hP.parts with ⟨e5,k5,op5,z5,sx5,pa5,pn5,pc5,la5,ln5,lc5,rfl,rfl,hrep5,R5,K5,hk5,hk5l⟩ | ⟨y,b,rfl,rfl,hf⟩
 ·have hB3:=(K5.block w.heap.size (by omega) (by omega)).trans HB0.out
  obtain ⟨u0,u1,u2,u3,u4,uf⟩:=Z05 hB3
  have uf0:=uf 0
  have uf1:=uf 1
  have uf2:=uf 2
  have uf3:=uf 3
  have uf4:=uf 4
  have ul:=Z00 hB3
  have HZ:=Z01 (Z65 hrep5 R5 (K0.trans K5) hB3 (by omega) (by omega) (by omega) (by omega) (.string op5) (.int .i64 z5) (.string sx5) (.slice pa5 pn5 pc5) (.slice la5 ln5 lc5))
  clear hP hrep5 R5 K5 K0 hB3 uf HC
  go_wp2_with fail
  obtain ⟨f1,f2,f3,f4⟩:=HZ.out
  refine bodyPost_ret (Z0b _ 1 rfl _ _ w.heap.size _ _ _ _ _ rfl f4) rfl ?_
  exact ⟨_,_,_,_,_,rfl,f1.same (fun _ _ _=>rfl) (fun b h _=>by omega),f2,f3,by omega,hk5l⟩
 ·have HF:=Z01 (Z04.after K0.below hf)
  clear hP hf K0 HC
  go_wp2_with fail
  exact ⟨rfl,HF.out⟩
end Go.Proofs.YtflcohidmemfpaaGreatDoor
namespace Go.Proofs.YtflcohidmemfpaaGreatDoor
open Go.Proofs.Tryz
open Go.RowKit

structure Old (p:Nat) (w0 w:World):Prop where
 size:w0.heap.size≤w.heap.size
 block:∀ k,k≠p→k<w0.heap.size→w.heap[k]?=w0.heap[k]?
theorem Old.refl (p:Nat) (w:World):Old p w w:=⟨Nat.le_refl _,fun _ _ _=>rfl⟩
theorem Old.cell {p:Nat}{w0 w:World} (O:Old p w0 w) {b o:Nat} (hb:b≠p) {v:Value} (hc:w0.cell? ⟨b,o,none⟩=some v):w.cell? ⟨b,o,none⟩=some v:=
 (World.cell?_of_block (a:=⟨b,o,none⟩) (O.block b hb (Z02 hc))).trans hc
theorem Old.keeps {p:Nat}{w0 w w':World} (O:Old p w0 w) (K:Keeps p w w'):Old p w0 w':=
 ⟨Nat.le_trans O.size K.below.size,fun k hk hl=>(K.block k hk (Nat.lt_of_lt_of_le hl O.size)).trans (O.block k hk hl)⟩
theorem Old.below {p:Nat}{w0 w w':World} (O:Old p w0 w) (hb:Below w.heap.size w w'):Old p w0 w':=
 ⟨Nat.le_trans O.size hb.size,fun k hk hl=>(hb.block k (Nat.lt_of_lt_of_le hl O.size)).trans (O.block k hk hl)⟩
theorem Old.grown {p:Nat}{w0 w w':World}{row:Option Nat} (O:Old p w0 w) (hg:w.grownBy w' row) (hr:∀ k,row=some k→w0.heap.size≤k):Old p w0 w':=
 ⟨Nat.le_trans O.size hg.size,fun k hk hl=>(hg.block k (Nat.lt_of_lt_of_le hl O.size) (fun e=>by have:=hr k e.symm;omega)).trans (O.block k hk hl)⟩
theorem Old.set {p b o:Nat}{w0 w:World}{v:Value} (O:Old p w0 w) (hb:w0.heap.size≤b):Old p w0 (w.setCell ⟨b,o,none⟩ v):=
 ⟨by rw [Z1x];exact O.size,fun k hk hl=>(Z07 _ _ _ _ _ (by omega)).trans (O.block k hk hl)⟩
theorem Old.ts {p b o:Nat}{w0 w:World}{ts:List ByteArray} (h:TS w0 b o ts) (O:Old p w0 w) (hb:b≠p):TS w b o ts:=fun j t hj=>O.cell hb (h j t hj)
theorem Old.rk {p:Nat}{rk:Value}{w0 w:World} (h:RK p rk w0) (O:Old p w0 w):RK p rk w:=by
 obtain ⟨rb,c,e,hn,hx⟩:=h
 refine ⟨rb,c,e,hn,fun i hi => ?_⟩
 obtain ⟨b,c',h1,h2,h3⟩:=hx i hi
 exact ⟨b,c',O.cell hn h1,h2,O.ts h3 h2⟩
theorem Old.terr {p:Nat}{a0 a1:Addr}{w0 w:World} (E:TErr p a0 a1 w0) (O:Old p w0 w):TErr p a0 a1 w:=⟨O.cell (by have:=E.b0;omega) E.g0,O.cell (by have:=E.b1;omega) E.g1,E.b0,E.b1⟩
theorem RD.moved {w w':World}{p g cap:Nat}{rk:Value}{l:List (ByteArray × ByteArray × Nat)}{k bl dp:Nat} (R:RD w p g cap rk l k bl dp) (hp:w'.heap[p]?=w.heap[p]?) (hg:w'.heap[g]?=w.heap[g]?) (hs:w.heap.size≤w'.heap.size):RD w' p g cap rk l k bl dp:=
 ⟨hp.trans R.blk,fun j v hj=>(World.cell?_of_block (a:=⟨g,j,none⟩) hg).trans (R.toks j v hj),R.gp,Nat.lt_of_lt_of_le R.gl hs⟩
theorem RD.grown {w w':World}{p g cap:Nat}{rk:Value}{l:List (ByteArray × ByteArray × Nat)}{k bl dp:Nat}{row:Option Nat} (R:RD w p g cap rk l k bl dp) (hg:w.grownBy w' row) (hp:row≠some p) (hr:row≠some g):RD w' p g cap rk l k bl dp:=
 R.moved (hg.block p (Z00 R.blk) (fun e=>hp e.symm)) (hg.block g R.gl (fun e=>hr e.symm)) hg.size

def Z2j (S:Nat→Prop) (w:World) (cs:List Value) (es:List (DataW Unit)):Prop:=
 cs.length=es.length*5 ∧ ∀ (i:Nat) (e:DataW Unit),es[i]?=some e → ∃ c0 c1 c2 c3 c4,cs[i*5]?=some c0∧cs[i*5+1]?=some c1∧cs[i*5+2]?=some c2∧cs[i*5+3]?=some c3∧cs[i*5+4]?=some c4∧Z2l S w [c0,c1,c2,c3,c4] e
theorem Z2j.nil (S:Nat→Prop) (w:World):Z2j S w [] []:=⟨rfl,fun i e h=>by simp at h⟩
theorem Z2j.same {S S':Nat→Prop}{w w':World}{cs:List Value}{es:List (DataW Unit)} (h:Z2j S w cs es) (K:Z5i S w w') (hS:∀ b,S b→b<w.heap.size→S' b):Z2j S' w' cs es:=
 ⟨h.1,fun i e hi=>by
  obtain ⟨c0,c1,c2,c3,c4,h0,h1,h2,h3,h4,hr⟩:=h.2 i e hi
  exact ⟨c0,c1,c2,c3,c4,h0,h1,h2,h3,h4,hr.same K hS⟩⟩
theorem Z2j.snoc {S:Nat→Prop}{w:World}{cs:List Value}{es:List (DataW Unit)}{c0 c1 c2 c3 c4:Value}{e:DataW Unit} (h:Z2j S w cs es) (he:Z2l S w [c0,c1,c2,c3,c4] e):Z2j S w (cs ++ [c0,c1,c2,c3,c4]) (es ++ [e]):=by
 refine ⟨by simp [h.1];omega,fun i x hi => ?_⟩
 have hlen:=h.1
 rcases Nat.lt_or_ge i es.length with hl | hl
 ·rw [List.getElem?_append_left hl] at hi
  obtain ⟨d0,d1,d2,d3,d4,h0,h1,h2,h3,h4,hr⟩:=h.2 i x hi
  refine ⟨d0,d1,d2,d3,d4,?_,?_,?_,?_,?_,hr⟩ <;> rw [List.getElem?_append_left (by omega)] <;> assumption
 ·have hie:i=es.length:=by
   rcases Nat.lt_or_ge es.length i with h1 | h1
   ·rw [List.getElem?_eq_none (by simp;omega)] at hi
    cases hi
   ·omega
  subst hie
  simp at hi
  subst hi
  refine ⟨c0,c1,c2,c3,c4,?_,?_,?_,?_,?_,he⟩
  ·rw [List.getElem?_append_right (by omega),show es.length*5 - cs.length=0 by omega];rfl
  ·rw [List.getElem?_append_right (by omega),show es.length*5+1 - cs.length=1 by omega];rfl
  ·rw [List.getElem?_append_right (by omega),show es.length*5+2 - cs.length=2 by omega];rfl
  ·rw [List.getElem?_append_right (by omega),show es.length*5+3 - cs.length=3 by omega];rfl
  ·rw [List.getElem?_append_right (by omega),show es.length*5+4 - cs.length=4 by omega];rfl
end Go.Proofs.YtflcohidmemfpaaGreatDoor
namespace Go.Proofs.YtflcohidmemfpaaGreatDoor
open Go.Proofs.Tryz
open Go.RowKit

structure TermC (S0:Nat→Prop) (p g cl cr:Nat) (rk:Value) (a0 a1:Addr) (w0:World) (es:List (DataW Unit)) (w:World):Prop where
 l:∃ v cs,w.heap[cl]?=some (.cells #[v] 49)∧w.ownsRow w0.heap.size 72 5 v es.length cs∧Z2j (fun b=>S0 b∨(w0.heap.size≤b∧b≠cl∧b≠cr∧v.ownBlock≠some b)) w cs es∧v.ownBlock≠some cl∧v.ownBlock≠some cr
 r:w.heap[cr]?=some (.cells #[.pointer (some ⟨p,0,none⟩)] 119)
 old:Old p w0 w
 err:TErr p a0 a1 w0
 ranks:RK p rk w0
 hp:p<w0.heap.size
 hg:g<w0.heap.size
 hc:w0.heap.size≤cl
 hr:w0.heap.size≤cr
 ne:cl≠cr
 s0:∀ b,S0 b→b<w0.heap.size∧b≠p
theorem own_lt {w:World}{base e size n:Nat}{v:Value}{xs:List Value} (h:w.ownsRow base e size v n xs):∀ k,v.ownBlock=some k→k<w.heap.size:=fun k hk=>(h.lt k hk).2

theorem TermC.keeps {S0:Nat→Prop}{p g cl cr:Nat}{rk:Value}{a0 a1:Addr}{w0:World}{es:List (DataW Unit)}{w w':World} (C:TermC S0 p g cl cr rk a0 a1 w0 es w) (K:Keeps p w w'):TermC S0 p g cl cr rk a0 a1 w0 es w':=by
 obtain ⟨v,cs,h1,h2,h3,h4,h5⟩:=C.l
 have hp:=C.hp
 have hc:=C.hc
 have hr:=C.hr
 refine ⟨⟨v,cs,(K.block cl (by omega) (Z00 h1)).trans h1,Z0j h2 (fun k hk=>K.block k (by have:=Z20 h2 k hk;omega) (own_lt h2 k hk)),h3.same (K.same ?_) (fun b hb _=>hb),h4,h5⟩,(K.block cr (by omega) (Z00 C.r)).trans C.r,C.old.keeps K,C.err,C.ranks,C.hp,C.hg,C.hc,C.hr,C.ne,C.s0⟩
 rintro (h | h)
 ·exact (C.s0 p h).2 rfl
 ·omega

theorem Z50 {w:World}{base e size g cap n:Nat}{xs:List Value} (h:w.ownsRow base e size (.slice (some ⟨g,0,none⟩) n cap) n xs) (i:Nat) (v:Value):(w.setCell ⟨g,i,none⟩ v).ownsRow base e size (.slice (some ⟨g,0,none⟩) n cap) n (xs.set i v):=by
 obtain ⟨hl,⟨e1,_⟩ | ⟨g',cap',cur,e1,hb,hg,h1,h2,h3,h4⟩⟩:=h
 ·simp at e1
 ·simp at e1
  obtain ⟨rfl,rfl⟩:=e1
  refine ⟨by simp [hl],.inr ⟨g,cap,cur.setIfInBounds i v,rfl,hb,Z0a hg,h1,h2,by simp [h3],?_⟩⟩
  rw [Array.toList_setIfInBounds,←h4,List.take_set]
theorem Zob (cs:List Value) (z0 z1 z2 z3 z4 c0 c1 c2 c3 c4:Value):(((((cs ++ [z0,z1,z2,z3,z4]).set cs.length c0).set (cs.length+1) c1).set (cs.length+2) c2).set (cs.length+3) c3).set (cs.length+4) c4=cs ++ [c0,c1,c2,c3,c4]:=by
 simp
def Zaa (w:World) (b o:Nat) (v0 v1 v2 v3 v4:Value):World:=((((w.setCell ⟨b,o,none⟩ v0).setCell ⟨b,o+1,none⟩ v1).setCell ⟨b,o+2,none⟩ v2).setCell ⟨b,o+3,none⟩ v3).setCell ⟨b,o+4,none⟩ v4
theorem Z59 {w:World}{b o k:Nat} (h:k≠b) (v0 v1 v2 v3 v4:Value):(Zaa w b o v0 v1 v2 v3 v4).heap[k]?=w.heap[k]?:=by
 unfold Zaa
 rw [Z07 _ _ _ _ _ h,Z07 _ _ _ _ _ h,Z07 _ _ _ _ _ h,Z07 _ _ _ _ _ h,Z07 _ _ _ _ _ h]
theorem Zac {p:Nat} (w:World) (b o:Nat) (hb:p≤b) (v0 v1 v2 v3 v4:Value):Below p w (Zaa w b o v0 v1 v2 v3 v4):=
 (((((Below.refl _ _).setCell hb _).setCell hb _).setCell hb _).setCell hb _).setCell hb _
theorem Zlo {w:World}{base e g cap n:Nat}{cs:List Value}{z0 z1 z2 z3 z4:Value} (h:w.ownsRow base e 5 (.slice (some ⟨g,0,none⟩) (n+1) cap) (n+1) (cs ++ [z0,z1,z2,z3,z4])) (c0 c1 c2 c3 c4:Value):(Zaa w g (n*5) c0 c1 c2 c3 c4).ownsRow base e 5 (.slice (some ⟨g,0,none⟩) (n+1) cap) (n+1) (cs ++ [c0,c1,c2,c3,c4]):=by
 have hl:cs.length=n*5:=by have:=h.1;simp at this;omega
 have:=Z50 (Z50 (Z50 (Z50 (Z50 h (n*5) c0) (n*5+1) c1) (n*5+2) c2) (n*5+3) c3) (n*5+4) c4
 rw [←hl] at this
 rw [Zob,hl] at this
 exact this
theorem Zc3 {w:World}{base e g cap n:Nat}{cs:List Value}{z0 z1 z2 z3 z4:Value} (h:w.ownsRow base e 5 (.slice (some ⟨g,0,none⟩) (n+1) cap) (n+1) (cs ++ [z0,z1,z2,z3,z4])) :
  w.cell? ⟨g,n*5,none⟩=some z0∧w.cell? ⟨g,n*5+1,none⟩=some z1∧w.cell? ⟨g,n*5+2,none⟩=some z2∧w.cell? ⟨g,n*5+3,none⟩=some z3∧w.cell? ⟨g,n*5+4,none⟩=some z4∧(∀ o,w.frozen? ⟨g,o,none⟩=false)∧g<w.heap.size:=by
 have hl:cs.length=n*5:=by have:=h.1;simp at this;omega
 obtain ⟨_,⟨e1,_⟩ | ⟨g',cap',cur,e1,hb,hg,h1,h2,h3,h4⟩⟩:=h
 ·simp at e1
 ·simp at e1
  obtain ⟨rfl,rfl⟩:=e1
  have hc:∀ j v,[z0,z1,z2,z3,z4][j]?=some v→cur[n*5+j]?=some v:=fun j v hj=>by
   have hj5:j<5:=by
    rcases Nat.lt_or_ge j 5 with h | h
    ·exact h
    ·rw [List.getElem?_eq_none (by simpa using h)] at hj
     cases hj
   have:(cur.toList.take ((n+1)*5))[n*5+j]?=some v:=by
    rw [h4,List.getElem?_append_right (by omega),show n*5+j - cs.length=j by omega]
    exact hj
   rw [List.getElem?_take_of_lt (by omega)] at this
   simpa using this
  refine ⟨?_,?_,?_,?_,?_,fun o=>by simp [World.frozen?,hg],Z00 hg⟩
  ·rw [cell_of_row w g _ _ _ _ hg];exact hc 0 z0 rfl
  ·rw [cell_of_row w g _ _ _ _ hg];exact hc 1 z1 rfl
  ·rw [cell_of_row w g _ _ _ _ hg];exact hc 2 z2 rfl
  ·rw [cell_of_row w g _ _ _ _ hg];exact hc 3 z3 rfl
  ·rw [cell_of_row w g _ _ _ _ hg];exact hc 4 z4 rfl

theorem Zn3 {S0:Nat→Prop}{p g cap:Nat}{rk:Value}{l:List (ByteArray × ByteArray × Nat)}{k5 bl dp cl cr:Nat}{a0 a1:Addr}{w0 w w5 wb w2 w6:World}{es:List (DataW Unit)}{e:DataW Unit}{v:Value}{cs:List Value}{c0 c1 c2 c3 c4:Value}{gn capn:Nat}
  (C:TermC S0 p g cl cr rk a0 a1 w0 es w) (hV:w.heap[cl]?=some (.cells #[v] 49)) (hO:w.ownsRow w0.heap.size 72 5 v es.length cs) (hCE:Z2j (fun b=>S0 b∨(w0.heap.size≤b∧b≠cl∧b≠cr∧v.ownBlock≠some b)) w cs es) (hn1:v.ownBlock≠some cl) (hn2:v.ownBlock≠some cr)
  (R5:RD w5 p g cap rk l k5 bl dp) (K5:Keeps p w w5) (hrep:Z2l (fun b=>w.heap.size≤b) w5 [c0,c1,c2,c3,c4] e) (hb5:Below w5.heap.size w5 wb)
  (hgrow:wb.grownBy w2 v.ownBlock) (hat:v.ownBlock=some gn∨gn=wb.heap.size) (hB6:Below p w2 w6) (hfar:∀ j,j≠gn→j≠cl→w6.heap[j]?=w2.heap[j]?)
  (hcl:w6.heap[cl]?=some (.cells #[.slice (some ⟨gn,0,none⟩) (es.length+1) capn] 49)) (hown6:w6.ownsRow w0.heap.size 72 5 (.slice (some ⟨gn,0,none⟩) (es.length+1) capn) (es.length+1) (cs ++ [c0,c1,c2,c3,c4])) :
  RD w6 p g cap rk l k5 bl dp∧TermC S0 p g cl cr rk a0 a1 w0 (es ++ [e]) w6∧Below p w w6:=by
 have hp:=C.hp
 have hg:=C.hg
 have hc:=C.hc
 have hr:=C.hr
 have hne:=C.ne
 have hsz:=C.old.size
 have hs5:=K5.below.size
 have hsb:=hb5.size
 have hs2:=hgrow.size
 have hs6:=hB6.size
 have hlc:=Z00 hV
 have hlr:=Z00 C.r
 have hgn0:w0.heap.size≤gn:=Z20 hown6 gn rfl
 have hgnO:∀ j,j<w.heap.size→v.ownBlock≠some j→j≠gn:=fun j hj hn h=>by
  rcases hat with h1 | h1
  ·exact hn (h ▸ h1)
  ·omega
 have hgnN:∀ j,w.heap.size≤j→j<w5.heap.size→j≠gn:=fun j hj hj5 h=>by
  rcases hat with h1 | h1
  ·have:=own_lt hO gn h1
   omega
  ·omega
 have hgcl:cl≠gn:=hgnO cl hlc hn1
 have hgcr:cr≠gn:=hgnO cr hlr hn2
 have hold:∀ j,j<w0.heap.size→v.ownBlock≠some j:=fun j hj h=>by have:=Z20 hO j h;omega
 have f2:∀ j,j<w5.heap.size→v.ownBlock≠some j→w2.heap[j]?=w5.heap[j]?:=fun j hj hn=>(hgrow.block j (by omega) (fun h=>hn h.symm)).trans (hb5.block j hj)
 have f6:∀ j,j≠p→j<w.heap.size→v.ownBlock≠some j→j≠cl→w6.heap[j]?=w.heap[j]?:=fun j hj hl hn hcl'=>(hfar j (hgnO j hl hn) hcl').trans ((f2 j (by omega) hn).trans (K5.block j hj hl))
 refine ⟨R5.moved ((hfar p (by omega) (by omega)).trans (f2 p (by omega) (hold p hp))) ((hfar g (by omega) (by omega)).trans (f2 g (by omega) (hold g hg))) (by omega),⟨⟨_,_,hcl,by rw [List.length_append];exact hown6,?_,fun h=>hgcl (by simp [Value.ownBlock] at h;omega),fun h=>hgcr (by simp [Value.ownBlock] at h;omega)⟩,(f6 cr (by omega) hlr hn2 hne.symm).trans C.r,⟨by omega,fun j hj hl=>(f6 j hj (by omega) (hold j hl) (by omega)).trans (C.old.block j hj hl)⟩,C.err,C.ranks,hp,hg,hc,hr,hne,C.s0⟩,(Below.grown (K5.below.trans (hb5.mono (by omega))) hgrow (by omega) (fun j hj=>by have:=Z20 hO j hj;omega)).trans hB6⟩
 refine Z2j.snoc (hCE.same (fun b hb hl => ?_) (fun b hb hl => ?_)) (hrep.same (fun b hb hl => ?_) (fun b hb hl => ?_))
 ·rcases hb with h | ⟨h1,h2,h3,h4⟩
  ·obtain ⟨h5,h6⟩:=C.s0 b h
   exact f6 b h6 hl (hold b h5) (by omega)
  ·exact f6 b (by omega) hl h4 h2
 ·rcases hb with h | ⟨h1,h2,h3,h4⟩
  ·exact .inl h
  ·refine .inr ⟨h1,h2,h3,fun h=>hgnO b hl h4 ?_⟩
   simp [Value.ownBlock] at h
   omega
 ·have hn:v.ownBlock≠some b:=fun h=>by have:=own_lt hO b h;omega
  exact (hfar b (hgnN b hb hl) (by omega)).trans (f2 b hl hn)
 ·refine .inr ⟨by omega,by omega,by omega,fun h=>hgnN b hb hl ?_⟩
  simp [Value.ownBlock] at h
  omega
theorem Zox {wb w2:World}{v u:Value}{cl:Nat}{t:TypeId} (hB:wb.heap[cl]?=some (.cells #[u] t)) (hgrow:wb.grownBy w2 v.ownBlock) (hn:v.ownBlock≠some cl) :
  w2.heap[cl]?=some (.cells #[u] t)∧w2.cell? ⟨cl,0,none⟩=some u∧w2.frozen? ⟨cl,0,none⟩=false∧cl<w2.heap.size:=by
 have h:=(hgrow.block cl (Z00 hB) (fun e=>hn e.symm)).trans hB
 exact ⟨h,by rw [cell_of_row _ _ 0 _ _ _ h];rfl,by simp [World.frozen?,h],Z00 h⟩
theorem Zti {p cl gn capn base n:Nat}{w2 w6:World}{u:Value}{cs:List Value}{z0 z1 z2 z3 z4 c0 c1 c2 c3 c4:Value} (hV2:w2.heap[cl]?=some (.cells #[u] 49)) (hne:cl≠gn) (hown2:w2.ownsRow base 72 5 (.slice (some ⟨gn,0,none⟩) (n+1) capn) (n+1) (cs ++ [z0,z1,z2,z3,z4])) (hpc:p≤cl) (hpg:p≤gn)
  (hw:w6=(Zaa w2 gn (n*5) c0 c1 c2 c3 c4).setCell ⟨cl,0,none⟩ (.slice (some ⟨gn,0,none⟩) (n+1) capn)∨w6=Zaa (w2.setCell ⟨cl,0,none⟩ (.slice (some ⟨gn,0,none⟩) (n+1) capn)) gn (n*5) c0 c1 c2 c3 c4) :
  Below p w2 w6∧(∀ j,j≠gn→j≠cl→w6.heap[j]?=w2.heap[j]?)∧w6.heap[cl]?=some (.cells #[.slice (some ⟨gn,0,none⟩) (n+1) capn] 49)∧w6.ownsRow base 72 5 (.slice (some ⟨gn,0,none⟩) (n+1) capn) (n+1) (cs ++ [c0,c1,c2,c3,c4]):=by
 rcases hw with rfl | rfl
 ·refine ⟨(Zac w2 gn (n*5) hpg _ _ _ _ _).setCell hpc _,fun j h1 h2=>(Z07 _ _ _ _ _ h2).trans (Z59 h1 _ _ _ _ _),?_,?_⟩
  ·rw [Z0a ((Z59 hne _ _ _ _ _).trans hV2)];rfl
  ·exact Z0j (Zlo hown2 c0 c1 c2 c3 c4) (fun j hj=>Z07 _ _ _ _ _ (by simp [Value.ownBlock] at hj;omega))
 ·refine ⟨((Below.refl _ _).setCell hpc _).trans (Zac _ gn (n*5) hpg _ _ _ _ _),fun j h1 h2=>(Z59 h1 _ _ _ _ _).trans (Z07 _ _ _ _ _ h2),?_,?_⟩
  ·rw [Z59 hne,Z0a hV2];rfl
  ·exact Zlo (Z0j hown2 (fun j hj=>Z07 _ _ _ _ _ (by simp [Value.ownBlock] at hj;omega))) c0 c1 c2 c3 c4
theorem Zcx {cl gn:Nat}{w5 wb w2:World}{v u:Value}{t:TypeId} (hgrow:wb.grownBy w2 v.ownBlock) (hat:v.ownBlock=some gn∨gn=wb.heap.size) (hb:Below w5.heap.size w5 wb) (hB5:w5.heap[cl]?=some (.cells #[u] t)) (hn:v.ownBlock≠some cl) :
  (∃ wb,Below w5.heap.size w5 wb∧wb.grownBy w2 v.ownBlock∧(v.ownBlock=some gn∨gn=wb.heap.size))∧w2.heap[cl]?=some (.cells #[u] t)∧w2.cell? ⟨cl,0,none⟩=some u∧w2.frozen? ⟨cl,0,none⟩=false∧cl<w2.heap.size∧cl≠gn:=by
 have hl:=Z00 hB5
 have hbs:=hb.size
 obtain ⟨h1,h2,h3,h4⟩:=Zox ((hb.block cl hl).trans hB5) hgrow hn
 refine ⟨⟨wb,hb,hgrow,hat⟩,h1,h2,h3,h4,fun e => ?_⟩
 rcases hat with h | h
 ·exact hn (e ▸ h)
 ·omega
theorem Zdk {S0:Nat→Prop}{p g cap:Nat}{rk:Value}{l:List (ByteArray × ByteArray × Nat)}{k5 bl dp cl cr:Nat}{a0 a1:Addr}{w0 w w5 w2:World}{es:List (DataW Unit)}{e:DataW Unit}{v:Value}{cs:List Value}{c0 c1 c2 c3 c4 z0 z1 z2 z3 z4:Value}{gn capn:Nat}
  (C:TermC S0 p g cl cr rk a0 a1 w0 es w) (hV:w.heap[cl]?=some (.cells #[v] 49)) (hO:w.ownsRow w0.heap.size 72 5 v es.length cs) (hCE:Z2j (fun b=>S0 b∨(w0.heap.size≤b∧b≠cl∧b≠cr∧v.ownBlock≠some b)) w cs es) (hn1:v.ownBlock≠some cl) (hn2:v.ownBlock≠some cr)
  (R5:RD w5 p g cap rk l k5 bl dp) (K5:Keeps p w w5) (hrep:Z2l (fun b=>w.heap.size≤b) w5 [c0,c1,c2,c3,c4] e) (hz:∃ wb,Below w5.heap.size w5 wb∧wb.grownBy w2 v.ownBlock∧(v.ownBlock=some gn∨gn=wb.heap.size)) (hV2:w2.heap[cl]?=some (.cells #[v] 49)) (hcg:cl≠gn)
  (hown2:w2.ownsRow w0.heap.size 72 5 (.slice (some ⟨gn,0,none⟩) (es.length+1) capn) (es.length+1) (cs ++ [z0,z1,z2,z3,z4])) (w6:World) (hw:w6=(Zaa w2 gn (es.length*5) c0 c1 c2 c3 c4).setCell ⟨cl,0,none⟩ (.slice (some ⟨gn,0,none⟩) (es.length+1) capn)∨w6=Zaa (w2.setCell ⟨cl,0,none⟩ (.slice (some ⟨gn,0,none⟩) (es.length+1) capn)) gn (es.length*5) c0 c1 c2 c3 c4) :
  RD w6 p g cap rk l k5 bl dp∧TermC S0 p g cl cr rk a0 a1 w0 (es ++ [e]) w6∧Below p w w6:=by
 obtain ⟨wb,hb5,hgrow,hat⟩:=hz
 have hp:=C.hp
 have hc:=C.hc
 have hgn:=Z20 hown2 gn rfl
 obtain ⟨f1,f2,f3,f4⟩:=Zti (p:=p) hV2 hcg hown2 (by omega) (by omega) hw
 exact Zn3 C hV hO hCE hn1 hn2 R5 K5 hrep hb5 hgrow hat f1 f2 f3 f4
theorem Z82 {S0:Nat→Prop}{p g cap:Nat}{rk:Value}{l:List (ByteArray × ByteArray × Nat)}{k5 bl dp cl cr:Nat}{a0 a1:Addr}{w0 w w5 w2:World}{es:List (DataW Unit)}{e:DataW Unit}{v:Value}{cs:List Value}{c0 c1 c2 c3 c4 z0 z1 z2 z3 z4:Value}{gn capn:Nat}
  (C:TermC S0 p g cl cr rk a0 a1 w0 es w) (hV:w.heap[cl]?=some (.cells #[v] 49)) (hO:w.ownsRow w0.heap.size 72 5 v es.length cs) (hCE:Z2j (fun b=>S0 b∨(w0.heap.size≤b∧b≠cl∧b≠cr∧v.ownBlock≠some b)) w cs es) (hn1:v.ownBlock≠some cl) (hn2:v.ownBlock≠some cr)
  (R5:RD w5 p g cap rk l k5 bl dp) (K5:Keeps p w w5) (hrep:Z2l (fun b=>w.heap.size≤b) w5 [c0,c1,c2,c3,c4] e) (hz:∃ wb,Below w5.heap.size w5 wb∧wb.grownBy w2 v.ownBlock∧(v.ownBlock=some gn∨gn=wb.heap.size)) (hV2:w2.heap[cl]?=some (.cells #[v] 49)) (hcg:cl≠gn)
  (hown2:w2.ownsRow w0.heap.size 72 5 (.slice (some ⟨gn,0,none⟩) (es.length+1) capn) (es.length+1) (cs ++ [z0,z1,z2,z3,z4])) :
  RD ((((((w2.setCell ⟨gn,es.length*5,none⟩ c0).setCell ⟨gn,es.length*5+1,none⟩ c1).setCell ⟨gn,es.length*5+2,none⟩ c2).setCell ⟨gn,es.length*5+3,none⟩ c3).setCell ⟨gn,es.length*5+4,none⟩ c4).setCell ⟨cl,0,none⟩ (.slice (some ⟨gn,0,none⟩) (es.length+1) capn)) p g cap rk l k5 bl dp∧TermC S0 p g cl cr rk a0 a1 w0 (es ++ [e]) ((((((w2.setCell ⟨gn,es.length*5,none⟩ c0).setCell ⟨gn,es.length*5+1,none⟩ c1).setCell ⟨gn,es.length*5+2,none⟩ c2).setCell ⟨gn,es.length*5+3,none⟩ c3).setCell ⟨gn,es.length*5+4,none⟩ c4).setCell ⟨cl,0,none⟩ (.slice (some ⟨gn,0,none⟩) (es.length+1) capn))∧Below p w ((((((w2.setCell ⟨gn,es.length*5,none⟩ c0).setCell ⟨gn,es.length*5+1,none⟩ c1).setCell ⟨gn,es.length*5+2,none⟩ c2).setCell ⟨gn,es.length*5+3,none⟩ c3).setCell ⟨gn,es.length*5+4,none⟩ c4).setCell ⟨cl,0,none⟩ (.slice (some ⟨gn,0,none⟩) (es.length+1) capn)):=
 Zdk C hV hO hCE hn1 hn2 R5 K5 hrep hz hV2 hcg hown2 _ (.inl rfl)
theorem Z88 {S0:Nat→Prop}{p g cap:Nat}{rk:Value}{l:List (ByteArray × ByteArray × Nat)}{k5 bl dp cl cr:Nat}{a0 a1:Addr}{w0 w w5 w2:World}{es:List (DataW Unit)}{e:DataW Unit}{v:Value}{cs:List Value}{c0 c1 c2 c3 c4 z0 z1 z2 z3 z4:Value}{gn capn:Nat}
  (C:TermC S0 p g cl cr rk a0 a1 w0 es w) (hV:w.heap[cl]?=some (.cells #[v] 49)) (hO:w.ownsRow w0.heap.size 72 5 v es.length cs) (hCE:Z2j (fun b=>S0 b∨(w0.heap.size≤b∧b≠cl∧b≠cr∧v.ownBlock≠some b)) w cs es) (hn1:v.ownBlock≠some cl) (hn2:v.ownBlock≠some cr)
  (R5:RD w5 p g cap rk l k5 bl dp) (K5:Keeps p w w5) (hrep:Z2l (fun b=>w.heap.size≤b) w5 [c0,c1,c2,c3,c4] e) (hz:∃ wb,Below w5.heap.size w5 wb∧wb.grownBy w2 v.ownBlock∧(v.ownBlock=some gn∨gn=wb.heap.size)) (hV2:w2.heap[cl]?=some (.cells #[v] 49)) (hcg:cl≠gn)
  (hown2:w2.ownsRow w0.heap.size 72 5 (.slice (some ⟨gn,0,none⟩) (es.length+1) capn) (es.length+1) (cs ++ [z0,z1,z2,z3,z4])) :
  RD ((((((w2.setCell ⟨cl,0,none⟩ (.slice (some ⟨gn,0,none⟩) (es.length+1) capn)).setCell ⟨gn,es.length*5,none⟩ c0).setCell ⟨gn,es.length*5+1,none⟩ c1).setCell ⟨gn,es.length*5+2,none⟩ c2).setCell ⟨gn,es.length*5+3,none⟩ c3).setCell ⟨gn,es.length*5+4,none⟩ c4) p g cap rk l k5 bl dp∧TermC S0 p g cl cr rk a0 a1 w0 (es ++ [e]) ((((((w2.setCell ⟨cl,0,none⟩ (.slice (some ⟨gn,0,none⟩) (es.length+1) capn)).setCell ⟨gn,es.length*5,none⟩ c0).setCell ⟨gn,es.length*5+1,none⟩ c1).setCell ⟨gn,es.length*5+2,none⟩ c2).setCell ⟨gn,es.length*5+3,none⟩ c3).setCell ⟨gn,es.length*5+4,none⟩ c4)∧Below p w ((((((w2.setCell ⟨cl,0,none⟩ (.slice (some ⟨gn,0,none⟩) (es.length+1) capn)).setCell ⟨gn,es.length*5,none⟩ c0).setCell ⟨gn,es.length*5+1,none⟩ c1).setCell ⟨gn,es.length*5+2,none⟩ c2).setCell ⟨gn,es.length*5+3,none⟩ c3).setCell ⟨gn,es.length*5+4,none⟩ c4):=
 Zdk C hV hO hCE hn1 hn2 R5 K5 hrep hz hV2 hcg hown2 _ (.inr rfl)
end Go.Proofs.YtflcohidmemfpaaGreatDoor
