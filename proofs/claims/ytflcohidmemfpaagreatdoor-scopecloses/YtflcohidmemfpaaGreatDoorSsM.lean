/- Package tree: choice (written by tools/tree/choice.py). -/
import Derived.Test.YtflcohidmemfpaaGreatDoorSsL
set_option linter.all false
namespace Go.Proofs.YtflcohidmemfpaaGreatDoor
open Go.Proofs.Tryz
open Go.RowKit

def kIf:ByteArray:=⟨#[105,102]⟩
def Zix:ByteArray:=⟨#[101,108,105,102]⟩
def Ziv:ByteArray:=⟨#[101,108,115,101]⟩
def Z1y (l:List (ByteArray × ByteArray × Nat)) (one blk:Nat→Out (List (DataW Unit))):Nat→Nat→Out (DataW Unit)
 | 0,k=>.error (k,false)
 | f+1,k=>match one k with
  | .error y=>.error y
  | .ok (el,k1)=>match blk k1 with
   | .error y=>.error y
   | .ok (ss,k2)=>bif Z09 l k2 [Zix] then (match Z1y l one blk f (k2+1) with
     | .error y=>.error y
     | .ok (s,k3)=>.ok (mkS kIf ⟨#[]⟩ [] el ss [s],k3)) else bif Z09 l k2 [Ziv] then (match blk (k2+1) with
     | .error y=>.error y
     | .ok (es,k3)=>.ok (mkS kIf ⟨#[]⟩ [] el ss es,k3)) else .ok (mkS kIf ⟨#[]⟩ [] el ss [],k2)
theorem Zrw {S:Nat→Prop}{w:World}{b:Nat}{c0 c1 c2 c3 c4 c5:Value}{s:DataW Unit} (hB:w.heap[b]?=some (.cells #[c0,c1,c2,c3,c4,c5] 52)) (hb:S b) (h:Zih S w [c0,c1,c2,c3,c4,c5] s):Z1h S w (some ⟨b,0,none⟩) [s]:=by
 intro _
 obtain ⟨u0,u1,u2,u3,u4,u5,_⟩:=Z08 hB
 refine ⟨b,0,rfl,hb,fun i x hi => ?_⟩
 cases i with
 | zero =>
  simp at hi
  subst hi
  exact ⟨c0,c1,c2,c3,c4,c5,u0,u1,u2,u3,u4,u5,h⟩
 | succ i=>simp at hi

set_option maxHeartbeats 4000000 in
set_option maxRecDepth 100000 in
theorem Zed {p g cap:Nat}{rk:Value}{l:List (ByteArray × ByteArray × Nat)}{lo bl dp:Nat}{a0 a1:Addr} (T:TokS l) (one blk:Nat→Out (List (DataW Unit)))
  (h1:∀ k',lo≤k'→k'<l.length→Z4r 78 #[.pointer (some ⟨p,0,none⟩)] p g cap rk l k' bl dp a0 a1 (one k'))
  (h2:∀ k',lo≤k'→k'<l.length→Z41 79 #[.pointer (some ⟨p,0,none⟩)] p g cap rk l k' bl dp a0 a1 (blk k')) (f:Nat):∀ k,lo≤k→k<l.length→l.length - k≤f→Z4g 77 #[.pointer (some ⟨p,0,none⟩)] p g cap rk l k bl dp a0 a1 (Z1y l one blk f k):=by
 induction f with
 | zero =>
 intro k _ hk hf
 omega
 | succ f IH =>
 intro k hlo hk hfu
 intro w R E X
 have hl:=T.ok.hl
 have A0:=Z8j R
 have HE:=Z01 E
 have HX:=Z01 X
 obtain ⟨o,ho⟩:∃ o,Z1y l one blk (f+1) k=o:=⟨_,rfl⟩
 rw [ho]
 have HO:=Z01 ho
 have HPE:Hid (∀ y ev w',o = .error y→Z04 l p a0 a1 w y ev w'→Zby (fun b=>w.heap.size≤b) p g cap rk l k bl dp a0 a1 w o ev w'):=by
  rintro y ev w' rfl h
  exact h
 have hpl:=A0.pl
 have hgl:=A0.gl
 have HC0:=Z01 (h1 k hlo hk _ A0.rd (HE.out.keeps A0.ks) (HX.out.keeps A0.ks))
 have HA0:=Z01 A0
 have HH2:=Z01 h2
 have HIH:=Z01 IH
 have hs0:(w.alloc (.cells #[.string ⟨#[]⟩,.string ⟨#[]⟩,.slice none 0 0,.slice none 0 0,.slice none 0 0,.slice none 0 0] 52)).heap.size=w.heap.size+1:=by simp
 clear R E X A0 ho h1 h2 IH
 go_enter func77,ntmps77
 go_wp2_with fail
 refine HC0.out.mono ?_
 intro ev w1 hP
 rw [hs0] at hP
 rcases hP.parts with ⟨el,k1,la,lc,q1,rfl,hL1,R1,K1,hk1,hk1l,hcap⟩ | ⟨y,b,q1,rfl,hf⟩
 rotate_left
 ·have ho2:o = .error y:=by
   rw [←HO.out,Z1y]
   simp only [q1]
  have HF:=Z01 (HPE.out _ _ _ ho2 (Z04.after HA0.out.ks.below hf))
  clear hP HC0 hf
  go_wp2_with fail
  exact ⟨rfl,HF.out⟩
 have A1:=HA0.out.go R1 K1
 have hs1:=K1.below.size
 rw [hs0] at hs1
 have HC1:=Z01 (HH2.out k1 (by omega) hk1l _ A1.rd (HE.out.keeps A1.ks) (HX.out.keeps A1.ks))
 have HA1:=Z01 A1
 have HL1:=Z01 hL1
 have HQ1:=Z01 q1
 clear hP HC0 R1 K1 A1 hL1 q1
 go_wp2_with fail
 refine HC1.out.mono ?_
 intro ev w2 hP
 rcases hP.parts with ⟨ss,k2,ba,bc,q2,rfl,hS1,R2,K2,hk2,hk2l⟩ | ⟨y,b,q2,rfl,hf⟩
 rotate_left
 ·have ho2:o = .error y:=by
   rw [←HO.out,Z1y]
   simp only [HQ1.out,q2]
  have HF:=Z01 (HPE.out _ _ _ ho2 (Z04.after HA1.out.ks.below hf))
  clear hP HC1 hf
  go_wp2_with fail
  exact ⟨rfl,HF.out⟩
 have hba:Below w2.heap.size w2 (w2.alloc (.cells #[.string kIf,.string ⟨#[]⟩,.slice none 0 0,.slice la el.length lc,.slice ba ss.length bc,.slice none 0 0] 52)):=(Below.refl _ _).alloc (Nat.le_refl _) _
 have A2:=(HA1.out.go R2 K2).more hba
 have hB2:(w2.alloc (.cells #[.string kIf,.string ⟨#[]⟩,.slice none 0 0,.slice la el.length lc,.slice ba ss.length bc,.slice none 0 0] 52)).heap[w2.heap.size]?=some (.cells #[.string kIf,.string ⟨#[]⟩,.slice none 0 0,.slice la el.length lc,.slice ba ss.length bc,.slice none 0 0] 52):=heap_alloc_new w2 _
 have hs2:=K2.below.size
 have hL2:Z89 (fun b=>w.heap.size<b∧b≠w2.heap.size) (w2.alloc (.cells #[.string kIf,.string ⟨#[]⟩,.slice none 0 0,.slice la el.length lc,.slice ba ss.length bc,.slice none 0 0] 52)) la el:=(HL1.out.same (S':=fun b=>w.heap.size+1≤b) (K2.same (by show ¬ (_≤p);omega)) (fun b h _=>h)).same (Z06 hba) (fun b h hl=>⟨by omega,by omega⟩)
 have hS2:Z1h (fun b=>w.heap.size<b∧b≠w2.heap.size) (w2.alloc (.cells #[.string kIf,.string ⟨#[]⟩,.slice none 0 0,.slice la el.length lc,.slice ba ss.length bc,.slice none 0 0] 52)) ba ss:=hS1.same (Z06 hba) (fun b hb hl=>⟨by omega,by omega⟩)
 obtain ⟨x2,hx2⟩:∃ x,l[k2]?=some x:=⟨l[k2],by simp [hk2l]⟩
 have HC2:=Z01 (Z0u A2.rd hx2 hl Zix)
 have HA2:=Z01 A2
 have HB2:=Z01 hB2
 have HL2:=Z01 hL2
 have HS2:=Z01 hS2
 have HQ2:=Z01 q2
 clear hP HC1 R2 K2 A2 hB2 hba hL2 hS2 hS1 q2
 go_wp2_with fail
 refine HC2.out.mono ?_
 rintro ev w3 ⟨rfl,R3,K3⟩
 have hB3:=(K3.block w2.heap.size (by omega) (Z00 HB2.out)).trans HB2.out
 have hL3:=HL2.out.same (S':=(fun b=>w.heap.size<b∧b≠w2.heap.size)) (K3.same (fun h=>by have:=h.1;omega)) (fun b hb _=>hb)
 have hS3:=HS2.out.same (S':=(fun b=>w.heap.size<b∧b≠w2.heap.size)) (K3.same (fun h=>by have:=h.1;omega)) (fun b hb _=>hb)
 have HB3:=Z01 hB3
 have HL3:=Z01 hL3
 have HS3:=Z01 hS3
 have hlt3:=Z00 hB3
 clear hB3 hL3 hS3 HC2
 cases hm:Z0i x2 [Zix] with
 | true =>
 rw [hm,if_pos rfl] at R3
 have hk3:=T.ok.hen.next hx2 hm
 have A3:=HA2.out.go R3 K3
 have HC3:=Z01 (HIH.out (k2+1) (by omega) hk3 (by omega) _ A3.rd (HE.out.keeps A3.ks) (HX.out.keeps A3.ks))
 have HA3:=Z01 A3
 clear R3 K3 A3
 go_wp2_with fail
 refine HC3.out.mono ?_
 intro ev w4 hP
 rcases hP.parts with ⟨s4,k4,kd4,nm4,pa4,pn4,pc4,la4,ln4,lc4,ba4,bn4,bc4,ea4,en4,ec4,q4,rfl,hrep4,R4,K4,hk4,hk4l⟩ | ⟨y,b,q4,rfl,hf⟩
 rotate_left
 ·have ho2:o = .error y:=by
   rw [←HO.out,Z1y]
   simp only [HQ1.out,HQ2.out,Z0r hx2,hm,cond_true,q4]
  have HF:=Z01 (HPE.out _ _ _ ho2 (Z04.after HA3.out.ks.below hf))
  clear hP HC3 hf
  go_wp2_with fail
  exact ⟨rfl,HF.out⟩
 have hba4:Below w4.heap.size w4 (w4.alloc (.cells #[.string kd4,.string nm4,.slice pa4 pn4 pc4,.slice la4 ln4 lc4,.slice ba4 bn4 bc4,.slice ea4 en4 ec4] 52)):=(Below.refl _ _).alloc (Nat.le_refl _) _
 have A4:=(HA3.out.go R4 K4).more hba4
 have hN4:(w4.alloc (.cells #[.string kd4,.string nm4,.slice pa4 pn4 pc4,.slice la4 ln4 lc4,.slice ba4 bn4 bc4,.slice ea4 en4 ec4] 52)).heap[w4.heap.size]?=some (.cells #[.string kd4,.string nm4,.slice pa4 pn4 pc4,.slice la4 ln4 lc4,.slice ba4 bn4 bc4,.slice ea4 en4 ec4] 52):=heap_alloc_new w4 _
 have hs4:=K4.below.size
 have hB4:=(hba4.block w2.heap.size (by omega)).trans ((K4.block w2.heap.size (by omega) hlt3).trans HB3.out)
 have hL4:=(HL3.out.same (S':=(fun b=>w.heap.size<b∧b≠w2.heap.size)) (K4.same (fun h=>by have:=h.1;omega)) (fun b hb _=>hb)).same (S':=(fun b=>w.heap.size<b∧b≠w2.heap.size)) (Z06 hba4) (fun b hb _=>hb)
 have hS4:=(HS3.out.same (S':=(fun b=>w.heap.size<b∧b≠w2.heap.size)) (K4.same (fun h=>by have:=h.1;omega)) (fun b hb _=>hb)).same (S':=(fun b=>w.heap.size<b∧b≠w2.heap.size)) (Z06 hba4) (fun b hb _=>hb)
 have hE4:Z1h (fun b=>w.heap.size<b∧b≠w2.heap.size) (w4.alloc (.cells #[.string kd4,.string nm4,.slice pa4 pn4 pc4,.slice la4 ln4 lc4,.slice ba4 bn4 bc4,.slice ea4 en4 ec4] 52)) (some ⟨w4.heap.size,0,none⟩) [s4]:=Zrw hN4 ⟨by omega,by omega⟩ (hrep4.same (Z06 hba4) (fun b hb _=>⟨by omega,by omega⟩))
 obtain ⟨s0,s1,s2,s3,s4',s5,sf⟩:=Z08 hB4
 have sf5:=sf 5
 have sl:=Z00 hB4
 have A6:=A4.put (b:=w2.heap.size) (o:=5) (v:=.slice (some ⟨w4.heap.size,0,none⟩) 1 1) (by omega)
 have hB6:=Z4b (o:=5) (v:=.slice (some ⟨w4.heap.size,0,none⟩) 1 1) hB4 #[.string kIf,.string ⟨#[]⟩,.slice none 0 0,.slice la el.length lc,.slice ba ss.length bc,.slice (some ⟨w4.heap.size,0,none⟩) 1 1] rfl
 have hL6:=hL4.same (S':=(fun b=>w.heap.size<b∧b≠w2.heap.size)) (Z1z (b:=w2.heap.size) (o:=5) (v:=.slice (some ⟨w4.heap.size,0,none⟩) 1 1) (fun h=>h.2 rfl)) (fun b hb _=>hb)
 have hS6:=hS4.same (S':=(fun b=>w.heap.size<b∧b≠w2.heap.size)) (Z1z (b:=w2.heap.size) (o:=5) (v:=.slice (some ⟨w4.heap.size,0,none⟩) 1 1) (fun h=>h.2 rfl)) (fun b hb _=>hb)
 have hE6:=hE4.same (S':=(fun b=>w.heap.size<b∧b≠w2.heap.size)) (Z1z (b:=w2.heap.size) (o:=5) (v:=.slice (some ⟨w4.heap.size,0,none⟩) 1 1) (fun h=>h.2 rfl)) (fun b hb _=>hb)
 have ho6:o = .ok (mkS kIf ⟨#[]⟩ [] el ss [s4],k4):=by
  rw [←HO.out,Z1y]
  simp only [HQ1.out,HQ2.out,Z0r hx2,hm,cond_true,q4]
 have hZ:=(Z1l (c0:=.string kIf) (c1:=.string ⟨#[]⟩) (c2:=.slice none 0 0) (c3:=.slice la el.length lc) (c4:=.slice ba ss.length bc) (c5:=.slice (some ⟨w4.heap.size,0,none⟩) 1 1) A6 (Z2z (kd:=kIf) (nm:=⟨#[]⟩) (pl:=[]) (pc:=0) (lc:=lc) (bc:=bc) (ec:=1) (Z54.nil _ _ none) hL6 hS6 hE6) (fun b hb=>hb.1))
 have HZ:=Z01 hZ
 obtain ⟨u0,u1,u2,u3,u4,u5,uf⟩:=Z08 A6.b4
 have uf0:=uf 0
 have uf1:=uf 1
 have uf2:=uf 2
 have uf3:=uf 3
 have uf4:=uf 4
 have uf5:=uf 5
 have ul:=Z00 A6.b4
 obtain ⟨v0,v1,v2,v3,v4,v5,_⟩:=Z08 hB6
 have HO6:=Z01 ho6
 clear hP HC3 hba4 A4 hN4 hB4 hL4 hS4 hE4 sf A6 hB6 hL6 hS6 hE6 hrep4 R4 K4 q4 uf ho6 hZ
 go_wp2_with fail
 obtain ⟨z1,z2,z3,z4⟩:=HZ.out
 refine bodyPost_ret (Z0e _ 2 rfl _ _ w.heap.size _ _ _ _ _ _ rfl z1) rfl ?_
 rw [HO6.out]
 exact ⟨_,_,_,_,_,_,rfl,z2,z3,z4,by omega,hk4l⟩
 | false =>
 rw [hm,if_neg (by decide)] at R3
 have A3:=HA2.out.go R3 K3
 have HC3:=Z01 (Z0u A3.rd hx2 hl Ziv)
 have HA3:=Z01 A3
 clear R3 K3 A3
 go_wp2_with fail
 refine HC3.out.mono ?_
 rintro ev w4 ⟨rfl,R4,K4⟩
 have hs4:=K4.below.size
 have hB4:=(K4.block w2.heap.size (by omega) hlt3).trans HB3.out
 have hL4:=HL3.out.same (S':=(fun b=>w.heap.size<b∧b≠w2.heap.size)) (K4.same (fun h=>by have:=h.1;omega)) (fun b hb _=>hb)
 have hS4:=HS3.out.same (S':=(fun b=>w.heap.size<b∧b≠w2.heap.size)) (K4.same (fun h=>by have:=h.1;omega)) (fun b hb _=>hb)
 have hlt4:=Z00 hB4
 cases hm2:Z0i x2 [Ziv] with
 | true =>
 rw [hm2,if_pos rfl] at R4
 have hk3:=T.ok.hen.next hx2 hm2
 have A4:=HA3.out.go R4 K4
 have HC4:=Z01 (HH2.out (k2+1) (by omega) hk3 _ A4.rd (HE.out.keeps A4.ks) (HX.out.keeps A4.ks))
 have HA4:=Z01 A4
 have HB4:=Z01 hB4
 have HL4:=Z01 hL4
 have HS4:=Z01 hS4
 clear R4 K4 A4 hB4 hL4 hS4 HC3
 go_wp2_with fail
 refine HC4.out.mono ?_
 intro ev w5 hP
 rcases hP.parts with ⟨es,k5,ea,ec,q5,rfl,hE5,R5,K5,hk5,hk5l⟩ | ⟨y,b,q5,rfl,hf⟩
 rotate_left
 ·have ho2:o = .error y:=by
   rw [←HO.out,Z1y]
   simp only [HQ1.out,HQ2.out,Z0r hx2,hm,hm2,cond_true,cond_false,q5]
  have HF:=Z01 (HPE.out _ _ _ ho2 (Z04.after HA4.out.ks.below hf))
  clear hP HC4 hf
  go_wp2_with fail
  exact ⟨rfl,HF.out⟩
 have A5:=HA4.out.go R5 K5
 have hs5:=K5.below.size
 have hB5:=(K5.block w2.heap.size (by omega) hlt4).trans HB4.out
 have hL5:=HL4.out.same (S':=(fun b=>w.heap.size<b∧b≠w2.heap.size)) (K5.same (fun h=>by have:=h.1;omega)) (fun b hb _=>hb)
 have hS5:=HS4.out.same (S':=(fun b=>w.heap.size<b∧b≠w2.heap.size)) (K5.same (fun h=>by have:=h.1;omega)) (fun b hb _=>hb)
 obtain ⟨s0,s1,s2,s3,s4',s5,sf⟩:=Z08 hB5
 have sf5:=sf 5
 have sl:=Z00 hB5
 have A6:=A5.put (b:=w2.heap.size) (o:=5) (v:=.slice ea es.length ec) (by omega)
 have hB6:=Z4b (o:=5) (v:=.slice ea es.length ec) hB5 #[.string kIf,.string ⟨#[]⟩,.slice none 0 0,.slice la el.length lc,.slice ba ss.length bc,.slice ea es.length ec] rfl
 have hL6:=hL5.same (S':=(fun b=>w.heap.size<b∧b≠w2.heap.size)) (Z1z (b:=w2.heap.size) (o:=5) (v:=.slice ea es.length ec) (fun h=>h.2 rfl)) (fun b hb _=>hb)
 have hS6:=hS5.same (S':=(fun b=>w.heap.size<b∧b≠w2.heap.size)) (Z1z (b:=w2.heap.size) (o:=5) (v:=.slice ea es.length ec) (fun h=>h.2 rfl)) (fun b hb _=>hb)
 have hE6:Z1h (fun b=>w.heap.size<b∧b≠w2.heap.size) (w5.setCell ⟨w2.heap.size,5,none⟩ (.slice ea es.length ec)) ea es:=hE5.same (Z1z (by show ¬ (_≤w2.heap.size);omega)) (fun b hb _=>⟨by omega,by omega⟩)
 have ho6:o = .ok (mkS kIf ⟨#[]⟩ [] el ss es,k5):=by
  rw [←HO.out,Z1y]
  simp only [HQ1.out,HQ2.out,Z0r hx2,hm,hm2,cond_true,cond_false,q5]
 have hZ:=(Z1l (c0:=.string kIf) (c1:=.string ⟨#[]⟩) (c2:=.slice none 0 0) (c3:=.slice la el.length lc) (c4:=.slice ba ss.length bc) (c5:=.slice ea es.length ec) A6 (Z2z (kd:=kIf) (nm:=⟨#[]⟩) (pl:=[]) (pc:=0) (lc:=lc) (bc:=bc) (ec:=ec) (Z54.nil _ _ none) hL6 hS6 hE6) (fun b hb=>hb.1))
 have HZ:=Z01 hZ
 obtain ⟨u0,u1,u2,u3,u4,u5,uf⟩:=Z08 A6.b4
 have uf0:=uf 0
 have uf1:=uf 1
 have uf2:=uf 2
 have uf3:=uf 3
 have uf4:=uf 4
 have uf5:=uf 5
 have ul:=Z00 A6.b4
 obtain ⟨v0,v1,v2,v3,v4,v5,_⟩:=Z08 hB6
 have HO6:=Z01 ho6
 clear hP HC4 A5 hB5 hL5 hS5 hE5 sf A6 hB6 hL6 hS6 hE6 R5 K5 q5 uf ho6 hZ
 go_wp2_with fail
 obtain ⟨z1,z2,z3,z4⟩:=HZ.out
 refine bodyPost_ret (Z0e _ 2 rfl _ _ w.heap.size _ _ _ _ _ _ rfl z1) rfl ?_
 rw [HO6.out]
 exact ⟨_,_,_,_,_,_,rfl,z2,z3,z4,by omega,hk5l⟩
 | false =>
 rw [hm2,if_neg (by decide)] at R4
 have A6:=HA3.out.go R4 K4
 have ho6:o = .ok (mkS kIf ⟨#[]⟩ [] el ss [],k2):=by
  rw [←HO.out,Z1y]
  simp only [HQ1.out,HQ2.out,Z0r hx2,hm,hm2,cond_false]
 have hZ:=(Z1l (c0:=.string kIf) (c1:=.string ⟨#[]⟩) (c2:=.slice none 0 0) (c3:=.slice la el.length lc) (c4:=.slice ba ss.length bc) (c5:=.slice none 0 0) A6 (Z2z (kd:=kIf) (nm:=⟨#[]⟩) (pl:=[]) (pc:=0) (lc:=lc) (bc:=bc) (es:=[]) (ec:=0) (Z54.nil _ _ none) hL4 hS4 (Z1h.nil _ _ none)) (fun b hb=>hb.1))
 have HZ:=Z01 hZ
 obtain ⟨u0,u1,u2,u3,u4,u5,uf⟩:=Z08 A6.b4
 have uf0:=uf 0
 have uf1:=uf 1
 have uf2:=uf 2
 have uf3:=uf 3
 have uf4:=uf 4
 have uf5:=uf 5
 have ul:=Z00 A6.b4
 obtain ⟨v0,v1,v2,v3,v4,v5,_⟩:=Z08 hB4
 have HO6:=Z01 ho6
 clear HC3 A6 hB4 hL4 hS4 R4 K4 uf ho6 hZ
 go_wp2_with fail
 obtain ⟨z1,z2,z3,z4⟩:=HZ.out
 refine bodyPost_ret (Z0e _ 2 rfl _ _ w.heap.size _ _ _ _ _ _ rfl z1) rfl ?_
 rw [HO6.out]
 exact ⟨_,_,_,_,_,_,rfl,z2,z3,z4,by omega,hk2l⟩
end Go.Proofs.YtflcohidmemfpaaGreatDoor
namespace Go.Proofs.YtflcohidmemfpaaGreatDoor
open Go.Proofs.Tryz
open Go.RowKit

def kDef:ByteArray:=⟨#[100,101,102]⟩
structure FunC (kd nm:ByteArray) (p g ce cr:Nat) (w0:World) (names:List ByteArray) (w:World):Prop where
 e:∃ va,w.heap[ce]?=some (.cells #[.string kd,.string nm,va,.slice none 0 0,.slice none 0 0,.slice none 0 0] 52)∧w.ownsRow w0.heap.size 9 1 va names.length (names.map Value.string)
 r:w.cell? ⟨cr,0,none⟩=some (.pointer (some ⟨p,0,none⟩))
 pe:p<ce
 pr:p<cr
 nec:ce≠cr
 neg:ce≠g
 le:ce<w0.heap.size
 lr:cr<w0.heap.size
 lg:g<w0.heap.size
 sz:w0.heap.size≤w.heap.size
 keep:∀ k,k≠p→k≠ce→k<w0.heap.size→w.heap[k]?=w0.heap[k]?
theorem FunC.keeps {kd nm:ByteArray}{p g ce cr:Nat}{w0:World} (s:List ByteArray) (w w':World) (h:FunC kd nm p g ce cr w0 s w) (K:Keeps p w w'):FunC kd nm p g ce cr w0 s w':=by
 have hpe:=h.pe
 have hpr:=h.pr
 have hle:=h.le
 obtain ⟨va,h1,h2⟩:=h.e
 refine ⟨⟨va,(K.block ce (by omega) (Z00 h1)).trans h1,Z0j h2 (fun k hk=>K.block k (by have:=Z20 h2 k hk;omega) ?_)⟩,K.cell (by omega) h.r,h.pe,h.pr,h.nec,h.neg,h.le,h.lr,h.lg,Nat.le_trans h.sz K.below.size,fun k h3 h4 h5=>(K.block k h3 (Nat.lt_of_lt_of_le h5 h.sz)).trans (h.keep k h3 h4 h5)⟩
 rcases h2.2 with ⟨e,_⟩ | ⟨g,c,cur,e,_,hg,_⟩
 ·rw [e] at hk
  simp [Value.ownBlock] at hk
 ·rw [e] at hk
  simp [Value.ownBlock] at hk
  subst hk
  exact Z00 hg

theorem Zh3 {kd nm:ByteArray}{p g cap:Nat}{rk:Value}{l:List (ByteArray × ByteArray × Nat)}{bl dp ce cr:Nat}{w0 w w1 w2:World}{s:List ByteArray}{k:Nat}{x:ByteArray}{va:Value}{gn capn:Nat}
  (C:FunC kd nm p g ce cr w0 s w) (h1:w.heap[ce]?=some (.cells #[.string kd,.string nm,va,.slice none 0 0,.slice none 0 0,.slice none 0 0] 52)) (h2:w.ownsRow w0.heap.size 9 1 va s.length (s.map Value.string))
  (R1:RD w1 p g cap rk l k bl dp) (K1:Keeps p w w1)
  (hown:w2.ownsRow w0.heap.size 9 1 (.slice (some ⟨gn,0,none⟩) (s.length+1) capn) (s.length+1) (s.map Value.string ++ [.string x]))
  (hgrow:(w1.alloc (.cells #[.string x] 9)).grownBy w2 va.ownBlock) :
  RD (w2.setCell ⟨ce,2,none⟩ (.slice (some ⟨gn,0,none⟩) (s.length+1) capn)) p g cap rk l k bl dp∧FunC kd nm p g ce cr w0 (s ++ [x]) (w2.setCell ⟨ce,2,none⟩ (.slice (some ⟨gn,0,none⟩) (s.length+1) capn))∧Below p w (w2.setCell ⟨ce,2,none⟩ (.slice (some ⟨gn,0,none⟩) (s.length+1) capn)):=by
 have hpe:=C.pe
 have hpr:=C.pr
 have hle:=C.le
 have hlr:=C.lr
 have hlg:=C.lg
 have hsz:=C.sz
 have hs1:=K1.below.size
 have hs2:w1.heap.size+1≤w2.heap.size:=by have:=hgrow.size;simpa using this
 have hold:∀ j,j<w0.heap.size→w2.heap[j]?=w1.heap[j]?:=fun j hj =>
  (hgrow.block j (by simp;omega) (fun e=>by have h3:=Z20 h2 j e.symm;omega)).trans (Below.heap_alloc _ _ _ (by omega))
 have hfar:∀ j,j<w0.heap.size→j≠ce→(w2.setCell ⟨ce,2,none⟩ (.slice (some ⟨gn,0,none⟩) (s.length+1) capn)).heap[j]?=w1.heap[j]?:=fun j hj hne=>(Z07 _ _ _ _ _ hne).trans (hold j hj)
 have hB:w2.heap[ce]?=some (.cells #[.string kd,.string nm,va,.slice none 0 0,.slice none 0 0,.slice none 0 0] 52):=(hold ce hle).trans ((K1.block ce (by omega) (Z00 h1)).trans h1)
 have hgn:w0.heap.size≤gn:=Z20 hown gn rfl
 refine ⟨⟨(hfar p (by omega) (by omega)).trans R1.blk,fun j v hj=>(World.cell?_of_block (hfar g hlg (fun e=>C.neg e.symm))).trans (R1.toks j v hj),R1.gp,by rw [Z1x];have:=R1.gl;omega⟩,⟨⟨.slice (some ⟨gn,0,none⟩) (s.length+1) capn,?_,?_⟩,(World.cell?_of_block (hfar cr hlr (fun e=>C.nec e.symm))).trans (K1.cell (by omega) C.r),C.pe,C.pr,C.nec,C.neg,C.le,C.lr,C.lg,by rw [Z1x];omega,fun j h3 h4 h5=>(hfar j h5 h4).trans ((K1.block j h3 (by omega)).trans (C.keep j h3 h4 h5))⟩,?_⟩
 ·exact Z4b hB _ rfl
 ·rw [List.map_append,List.length_append]
  exact Z0j hown (fun j hj=>Z07 _ _ _ _ _ (by have:=Z20 hown j hj;omega))
 ·exact (Below.grown (K1.below.alloc (by have:=Z00 R1.blk;omega) _) hgrow (by simp;have:=Z00 R1.blk;omega) (fun j hj=>by have:=Z20 h2 j hj;omega)).setCell (by simp only;omega) _

theorem Zjl {kd nm:ByteArray}{p g ce cr:Nat}{w0 w w1:World}{s:List ByteArray}{va:Value} (C:FunC kd nm p g ce cr w0 s w) (h1:w.heap[ce]?=some (.cells #[.string kd,.string nm,va,.slice none 0 0,.slice none 0 0,.slice none 0 0] 52)) (K1:Keeps p w w1) :
  w1.cell? ⟨ce,2,none⟩=some va∧ce<w1.heap.size∧w1.frozen? ⟨ce,2,none⟩=false:=by
 have hpe:=C.pe
 have h1':=(K1.block ce (by omega) (Z00 h1)).trans h1
 obtain ⟨_,_,q3,_,_,_,qf⟩:=Z08 h1'
 exact ⟨q3,Z00 h1',qf 2⟩
theorem Zrt {kd nm:ByteArray}{p g ce cr:Nat}{w0 w w1 w2:World}{s:List ByteArray}{va:Value}{B:Obj} (C:FunC kd nm p g ce cr w0 s w) (h1:w.heap[ce]?=some (.cells #[.string kd,.string nm,va,.slice none 0 0,.slice none 0 0,.slice none 0 0] 52)) (h2:w.ownsRow w0.heap.size 9 1 va s.length (s.map Value.string)) (K1:Keeps p w w1)
  (hgrow:(w1.alloc B).grownBy w2 va.ownBlock):w2.cell? ⟨ce,2,none⟩=some va∧w2.frozen? ⟨ce,2,none⟩=false:=by
 obtain ⟨q1,q2,q3⟩:=Zjl C h1 K1
 have hne:some ce≠va.ownBlock:=fun e=>by have h3:=Z20 h2 ce e.symm;have h4:=C.le;omega
 exact ⟨(hgrow.cell_far ⟨ce,2,none⟩ (by simp;omega) hne).trans ((World.cell?_alloc_past _ _ _ q2).trans q1),(hgrow.frozen_far ⟨ce,2,none⟩ (by simp;omega) hne).trans ((World.frozen?_alloc_past _ _ _ q2).trans q3)⟩

theorem Zqw {kd nm:ByteArray}{p g ce cr:Nat}{w0 w w1:World}{s:List ByteArray}{va:Value}{B:Obj} (h2:w.ownsRow w0.heap.size 9 1 va s.length (s.map Value.string)) (C:FunC kd nm p g ce cr w0 s w) (K:Keeps p w w1):(w1.alloc B).ownsRow w0.heap.size 9 1 va s.length (s.map Value.string):=by
 refine World.ownsRow.alloc (Z0j h2 (fun k hk=>K.block k (by have:=Z20 h2 k hk;have:=C.le;have:=C.pe;omega) ?_)) _
 rcases h2.2 with ⟨e,_⟩ | ⟨g,c,cur,e,_,hg,_⟩
 ·rw [e] at hk
  simp [Value.ownBlock] at hk
 ·rw [e] at hk
  simp [Value.ownBlock] at hk
  subst hk
  exact Z00 hg
set_option maxHeartbeats 2000000 in
set_option maxRecDepth 100000 in
theorem Zkh {kd nm:ByteArray}{p g cap:Nat}{rk:Value}{l:List (ByteArray × ByteArray × Nat)}{bl dp:Nat}{a0 a1:Addr} (ce cr:Nat) (w0:World) (hl:l.length≤100000) (hen:∀ (k:Nat) (x:ByteArray × ByteArray × Nat),l[k]?=some x→Z19 x=true→k+1<l.length) (s:List ByteArray) (k:Nat) (hk:k<l.length) :
  Zjb 117 #[.pointer (some ⟨ce,0,none⟩),.pointer (some ⟨cr,0,none⟩)] p g cap rk l bl dp a0 a1 (fun s k w=>FunC kd nm p g ce cr w0 s w∧s.length≤k) s k (Z2k l s k):=by
 rintro w R ⟨C,hsk⟩ E
 have hsl:s.length≤100000:=by omega
 obtain ⟨x,hx⟩:∃ x,l[k]?=some x:=⟨l[k],by simp [hk]⟩
 unfold Z2k
 rw [hx]
 simp only
 refine Calls.mono (R:=fun ev w'=>(Z19 x=true∧ev = .returned (.tuple #[])∧RD w' p g cap rk l (k+1) bl dp∧FunC kd nm p g ce cr w0 (s ++ [x.2.1]) w'∧Below p w w')∨(Z19 x=false∧Z04 l p a0 a1 w (k,false) ev w')) ?_ ?_
 case refine_2 =>
  rintro ev w' (⟨hm,rfl,q1,q2,q3⟩ | ⟨hm,q⟩)
  ·rw [hm]
   exact ⟨rfl,q1,⟨q2,by simp;omega⟩,q3,Nat.lt_succ_self _,hen k x hx hm⟩
  ·rw [hm]
   exact q
 obtain ⟨va,h1,h2⟩:=C.e
 obtain ⟨_,_,q3,_,_,_,qf⟩:=Z08 h1
 have qf3:=qf 2
 have hr:=C.r
 have hlr:=Z02 hr
 have hle:=Z00 h1
 have hpe:=C.pe
 have hpr:=C.pr
 have hbd:Below w.heap.size w w.drew:=(Below.refl _ _).drew
 have hpl:=Z00 R.blk
 have hbp:Below p w w.drew:=hbd.mono (by omega)
 have HN:=Z01 (Z66 (R.more hbd) (E.below hbp) hx hl)
 have HC:=Z01 C
 have HO:=Z01 h2
 have HB:=Z01 h1
 obtain ⟨i0,hi,hz0,hz1,hz2⟩:=info_parts Zbo
 have Hi:=Z01 hi
 have hsz:=C.sz
 clear R E h2 h1 hx C hen qf hi
 go_enter func117,ntmps117
 go_wp2_with fail
 have q3d:w.drew.cell? ⟨ce,2,none⟩=some va:=q3
 have hKd:Keeps p w w.drew:=Keeps.of hbd (by omega)
 go_region_law (first
  | (refine step_append_lies _ (by rfl) _ _ _ (by rfl) w0.heap.size 9 i0 _ 1 16 underlying32 Hi.out hz0 hz1 hz2 rfl (by decide) va s.length (s.map Value.string) (by rfl) (Zqw HO.out HC.out (hKd.trans HK1.out)) _ 1 1 [.string x.2.1] (by rfl) rfl (Zjv _ _ _) (Zfr _) (by decide) (by unfold maxLen;omega) (by omega) (by have:=(hKd.trans HK1.out).below.size;simp;omega) _ rfl ?_;intro gn capn w2 hown2 hgrow hat hlt;obtain ⟨u4,u5⟩:=Zrt HC.out HB.out HO.out (hKd.trans HK1.out) hgrow;have HG:=Z01 hgrow;have HW:=Z01 hown2;clear hgrow hown2 hat)
  | (go_simp;go_at_call 115;refine HN.out.mono ?_;rintro ev w1 (⟨hm,rfl,R1,K1⟩ | ⟨hm,t,g1,b,rfl,g2⟩);rotate_left;exact ⟨rfl,Or.inr ⟨hm,Z04.after hbp ⟨t,g1,b,rfl,g2⟩⟩⟩;obtain ⟨u1,u2,u3⟩:=Zjl HC.out HB.out (hKd.trans K1);have HR1:=Z01 R1;have HK1:=Z01 K1;clear R1 K1))
 all_goals (go_end0;exact Or.inl ⟨hm,rfl,Zh3 HC.out HB.out HO.out HR1.out (hKd.trans HK1.out) HW.out HG.out⟩)
set_option maxHeartbeats 2000000 in
set_option maxRecDepth 100000 in
theorem Zgu {kd nm:ByteArray}{p g cap:Nat}{rk:Value}{l:List (ByteArray × ByteArray × Nat)}{bl dp:Nat}{a0 a1:Addr} (ce cr:Nat) (w0:World) (hl:l.length≤100000) (hen:∀ (k:Nat) (x:ByteArray × ByteArray × Nat),l[k]?=some x→Z19 x=true→k+1<l.length) (s:List ByteArray) (k:Nat) (hk:k<l.length) :
  Zjb 119 #[.pointer (some ⟨ce,0,none⟩),.pointer (some ⟨cr,0,none⟩)] p g cap rk l bl dp a0 a1 (fun s k w=>FunC kd nm p g ce cr w0 s w∧s.length≤k) s k (Z2k l s k):=by
 rintro w R ⟨C,hsk⟩ E
 have hsl:s.length≤100000:=by omega
 obtain ⟨x,hx⟩:∃ x,l[k]?=some x:=⟨l[k],by simp [hk]⟩
 unfold Z2k
 rw [hx]
 simp only
 refine Calls.mono (R:=fun ev w'=>(Z19 x=true∧ev = .returned (.tuple #[])∧RD w' p g cap rk l (k+1) bl dp∧FunC kd nm p g ce cr w0 (s ++ [x.2.1]) w'∧Below p w w')∨(Z19 x=false∧Z04 l p a0 a1 w (k,false) ev w')) ?_ ?_
 case refine_2 =>
  rintro ev w' (⟨hm,rfl,q1,q2,q3⟩ | ⟨hm,q⟩)
  ·rw [hm]
   exact ⟨rfl,q1,⟨q2,by simp;omega⟩,q3,Nat.lt_succ_self _,hen k x hx hm⟩
  ·rw [hm]
   exact q
 obtain ⟨va,h1,h2⟩:=C.e
 obtain ⟨_,_,q3,_,_,_,qf⟩:=Z08 h1
 have qf3:=qf 2
 have hr:=C.r
 have hlr:=Z02 hr
 have hle:=Z00 h1
 have hpe:=C.pe
 have hpr:=C.pr
 have hbd:Below w.heap.size w w.drew:=(Below.refl _ _).drew
 have hpl:=Z00 R.blk
 have hbp:Below p w w.drew:=hbd.mono (by omega)
 have HN:=Z01 (Z66 (R.more hbd) (E.below hbp) hx hl)
 have HC:=Z01 C
 have HO:=Z01 h2
 have HB:=Z01 h1
 obtain ⟨i0,hi,hz0,hz1,hz2⟩:=info_parts Zbo
 have Hi:=Z01 hi
 have hsz:=C.sz
 clear R E h2 h1 hx C hen qf hi
 go_enter func119,ntmps119
 go_wp2_with fail
 have q3d:w.drew.cell? ⟨ce,2,none⟩=some va:=q3
 have hKd:Keeps p w w.drew:=Keeps.of hbd (by omega)
 go_region_law (first
  | (refine step_append_lies _ (by rfl) _ _ _ (by rfl) w0.heap.size 9 i0 _ 1 16 underlying32 Hi.out hz0 hz1 hz2 rfl (by decide) va s.length (s.map Value.string) (by rfl) (Zqw HO.out HC.out (hKd.trans HK1.out)) _ 1 1 [.string x.2.1] (by rfl) rfl (Zjv _ _ _) (Zfr _) (by decide) (by unfold maxLen;omega) (by omega) (by have:=(hKd.trans HK1.out).below.size;simp;omega) _ rfl ?_;intro gn capn w2 hown2 hgrow hat hlt;obtain ⟨u4,u5⟩:=Zrt HC.out HB.out HO.out (hKd.trans HK1.out) hgrow;have HG:=Z01 hgrow;have HW:=Z01 hown2;clear hgrow hown2 hat)
  | (go_simp;go_at_call 115;refine HN.out.mono ?_;rintro ev w1 (⟨hm,rfl,R1,K1⟩ | ⟨hm,t,g1,b,rfl,g2⟩);rotate_left;exact ⟨rfl,Or.inr ⟨hm,Z04.after hbp ⟨t,g1,b,rfl,g2⟩⟩⟩;obtain ⟨u1,u2,u3⟩:=Zjl HC.out HB.out (hKd.trans K1);have HR1:=Z01 R1;have HK1:=Z01 K1;clear R1 K1))
 all_goals (go_end0;exact Or.inl ⟨hm,rfl,Zh3 HC.out HB.out HO.out HR1.out (hKd.trans HK1.out) HW.out HG.out⟩)
end Go.Proofs.YtflcohidmemfpaaGreatDoor
namespace Go.Proofs.YtflcohidmemfpaaGreatDoor
open Go.Proofs.Tryz
open Go.RowKit

def Zii (d:DataW Unit):List UInt8:=match d with
 | .agg (.lit (.string b)::_)=>b
 | _ => []
def partsOf (d:DataW Unit):List (DataW Unit):=match d with
 | .agg [_,_,_,_,.slice el _]=>el
 | _ => []
theorem Zxx (op:ByteArray) (z:Int) (s:ByteArray) (pl:List ByteArray) (el:List (DataW Unit)):Zii (mkE op z s pl el)=op.data.toList:=rfl
theorem Zno (op:ByteArray) (z:Int) (s:ByteArray) (pl:List ByteArray) (el:List (DataW Unit)):partsOf (mkE op z s pl el)=el:=rfl
def IxP (e:DataW Unit):Prop:=Zii e = [105,110,100,101,120]→(partsOf e).length=2
theorem Zb8 (op:ByteArray) (z:Int) (s:ByteArray) (pl:List ByteArray) (el:List (DataW Unit)) (h:op.data.toList ≠ [105,110,100,101,120]):IxP (mkE op z s pl el):=fun h1=>absurd h1 h
theorem Ziw (op:ByteArray) (z:Int) (s:ByteArray) (pl:List ByteArray) (e e2:DataW Unit):IxP (mkE op z s pl [e,e2]):=fun _=>rfl
def IxO (o:Out (DataW Unit)):Prop:=∀ e k',o = .ok (e,k')→IxP e
theorem IxO.err (x:Nat × Bool):IxO (.error x):=fun _ _ h=>by cases h
theorem IxO.ok {e:DataW Unit}{k:Nat} (h:IxP e):IxO (.ok (e,k)):=fun _ _ h1=>by
 cases h1
 exact h
theorem Z7f {dp k:Nat}{o:Out (DataW Unit)} (h:IxO o):IxO (Z2n dp k o):=by
 unfold Z2n
 split
 ·exact IxO.err _
 ·exact h
theorem Zmn {l:List (ByteArray × ByteArray × Nat)}{c:ByteArray}{o:Out (DataW Unit)} (h:IxO o):IxO (Z1c l c o):=by
 unfold Z1c
 cases o with
 | error y=>exact IxO.err _
 | ok y =>
  obtain ⟨e,k'⟩:=y
  simp only
  cases hm:Z09 l k' [c] with
  | true =>
   simp only [cond_true]
   exact IxO.ok (h e k' rfl)
  | false =>
   simp only [cond_false]
   exact IxO.err _
theorem Zfm {op:ByteArray} (hop:op.data.toList ≠ [105,110,100,101,120]) (o:Out (List (DataW Unit))):IxO (Z4u op o):=by
 unfold Z4u
 cases o with
 | error y=>exact IxO.err _
 | ok y=>exact IxO.ok (Zb8 _ _ _ _ _ hop)
theorem Zrs {op:ByteArray} (hop:op.data.toList ≠ [105,110,100,101,120]) (o:Out (DataW Unit)):IxO (pOp op o):=by
 unfold pOp
 cases o with
 | error y=>exact IxO.err _
 | ok y=>exact IxO.ok (Zb8 _ _ _ _ _ hop)
theorem Zrc (e:DataW Unit) (o:Out (DataW Unit)):IxO (Z3t e o):=by
 unfold Z3t
 cases o with
 | error y=>exact IxO.err _
 | ok y=>exact IxO.ok (Ziw _ _ _ _ _ _)
theorem Z9p {l:List (ByteArray × ByteArray × Nat)}{dp:Nat}{term:Nat→Out (DataW Unit)} : ∀ (f:Nat) (e:DataW Unit) (k:Nat),IxP e→IxO (Z22 l dp term f e k)
 | 0,e,k,_=>IxO.err _
 | f+1,e,k,h=>by
  unfold Z22
  cases hm:Z09 l k [Z7n] with
  | true =>
   simp only [cond_true]
   have H:=Z7f (dp:=dp) (k:=k) (Zfm (op:=Z8w) (by decide) (Z1g l (Z0n term) Za7 l.length [e] (k+1)))
   revert H
   generalize Z2n dp k (Z4u Z8w (Z1g l (Z0n term) Za7 l.length [e] (k+1)))=o
   intro H
   cases o with
   | error y=>exact IxO.err _
   | ok y=>exact Z9p f _ _ (H _ _ rfl)
  | false =>
   simp only [cond_false]
   cases hm2:Z09 l k [Zaj] with
   | true =>
    simp only [cond_true]
    have H:=Z7f (dp:=dp) (k:=k) (Zrc e (Z1c l Zc1 (term (k+1))))
    revert H
    generalize Z2n dp k (Z3t e (Z1c l Zc1 (term (k+1))))=o
    intro H
    cases o with
    | error y=>exact IxO.err _
    | ok y=>exact Z9p f _ _ (H _ _ rfl)
   | false =>
    simp only [cond_false]
    exact IxO.ok h
theorem Zcw {l:List (ByteArray × ByteArray × Nat)}{rank:Nat}{sub:Nat→Out (DataW Unit)} : ∀ (f:Nat) (e:DataW Unit) (k:Nat),IxP e→IxO (Z0s l rank sub f e k)
 | 0,e,k,h=>IxO.ok h
 | f+1,e,k,h=>by
  unfold Z0s
  cases hx:l[k]? with
  | none=>exact IxO.ok h
  | some x =>
   simp only
   cases hm:Z0i x (Z0y rank) with
   | true =>
    simp only [cond_true]
    cases ho:sub (k+1) with
    | error y=>exact IxO.err _
    | ok y =>
     obtain ⟨e2,k2⟩:=y
     simp only
     cases hr:rank == 4 with
     | true =>
      simp only [cond_true]
      exact IxO.ok (Ziw _ _ _ _ _ _)
     | false =>
      simp only [cond_false]
      exact Zcw f _ _ (Ziw _ _ _ _ _ _)
   | false =>
    simp only [cond_false]
    exact IxO.ok h
theorem Z8p {a:ByteArray}{x y:List UInt8} (h:(a.toList == x)=true) (hne:x≠y):a.data.toList≠y:=by
 rw [Z0g] at h
 have:a.data.toList=x:=by simpa using h
 rw [this]
 exact hne
theorem Zt5 {l:List (ByteArray × ByteArray × Nat)}{dp:Nat}{term:Nat→Out (DataW Unit)}{terms pairs:Nat→Out (List (DataW Unit))}{k:Nat} (h:IxO (term (k+1))):IxO (Z79 l dp term terms pairs k):=by
 unfold Z79
 cases hx:l[k]? with
 | none=>exact IxO.err _
 | some x =>
  simp only
  cases h1:Z6o x with
  | true =>
   simp only [cond_true]
   exact IxO.ok (Zb8 _ _ _ _ _ (by decide))
  | false =>
   simp only [cond_false]
   cases h2:Z4h x with
   | true =>
    simp only [Bool.true_or,cond_true]
    exact IxO.ok (Zb8 _ _ _ _ _ (Z8p h2 (by decide)))
   | false =>
    cases h3:Z19 x with
    | true =>
     simp only [Bool.or_true,cond_true]
     exact IxO.ok (Zb8 _ _ _ _ _ (Z8p h3 (by decide)))
    | false =>
     simp only [Bool.or_false,cond_false]
     cases h4:Z0i x [Z6v,Z78,Z48] with
     | true =>
      simp only [cond_true]
      refine IxO.ok (Zb8 _ _ _ _ _ ?_)
      have h5:Zin [Z6v,Z78,Z48] x.2.1=true:=by
       unfold Z0i at h4
       simp only [Bool.and_eq_true] at h4
       exact h4.2
      simp only [Zin,List.any_cons,List.any_nil,Bool.or_false,Bool.or_eq_true] at h5
      rcases h5 with h5 | h5 | h5
      ·exact Z8p h5 (by rw [Z0g];decide)
      ·exact Z8p h5 (by rw [Z0g];decide)
      ·exact Z8p h5 (by rw [Z0g];decide)
     | false =>
      simp only [cond_false]
      cases h5:Z0i x [Z7n] with
      | true =>
       simp only [cond_true]
       exact Z7f (Zmn h)
      | false =>
       simp only [cond_false]
       cases h6:Z0i x [Zaj] with
       | true =>
        simp only [cond_true]
        exact Z7f (Zfm (by decide) _)
       | false =>
        simp only [cond_false]
        cases h7:Z0i x [Zsr] with
        | true =>
         simp only [cond_true]
         exact Z7f (Zfm (by decide) _)
        | false=>exact IxO.err _
theorem Zcs {l:List (ByteArray × ByteArray × Nat)}{m:ByteArray}{k dp:Nat}{o1 o2:Out (DataW Unit)} (h1:IxO o1) (h2:IxO o2):IxO (Z3u l m k dp o1 o2):=by
 unfold Z3u
 cases hm:Z09 l k [m] with
 | true =>
  simp only [cond_true]
  first | exact Z7f h2 | (split <;> first | exact IxO.err _ | exact h2)
 | false =>
  simp only [cond_false]
  exact h1
theorem Znk {l:List (ByteArray × ByteArray × Nat)}{one:Nat→Out (List (DataW Unit))}{k:Nat} : IxO (Z3f l one k):=by
 unfold Z3f
 cases Z1g l (Z2k l) Z4a l.length [] k with
 | error y=>exact IxO.err _
 | ok y =>
  obtain ⟨names,k1⟩:=y
  simp only
  cases one k1 with
  | error y=>exact IxO.err _
  | ok y=>exact IxO.ok (Zb8 _ _ _ _ _ (by decide))
theorem Z5l {l:List (ByteArray × ByteArray × Nat)} : ∀ (f dp rank k:Nat),IxO (Z0k l f dp rank k)
 | 0,dp,rank,k=>IxO.err _
 | f+1,dp,rank,k=>by
  unfold Z0k
  split
  ·exact Zcs (Z5l f dp 1 k) Znk
  ·split
   ·exact Zcs (Z5l f dp 4 k) (Zrs (by decide) _)
   ·split
    ·exact Zcs (Z5l f dp 8 k) (Zrs (by decide) _)
    ·split
     ·unfold Zde
      have H:=Zt5 (l:=l) (dp:=dp) (term:=Z0k l f (dp+1) 0) (terms:=fun k1=>Z1g l (Z0n (Z0k l f (dp+1) 0)) Zc1 l.length [] k1) (pairs:=fun k1=>Z1g l (Z13 l (Z0k l f (dp+1) 0)) Zo7 l.length [] k1) (k:=k) (Z5l f (dp+1) 0 (k+1))
      revert H
      generalize Z79 l dp (Z0k l f (dp+1) 0) (fun k1=>Z1g l (Z0n (Z0k l f (dp+1) 0)) Zc1 l.length [] k1) (fun k1=>Z1g l (Z13 l (Z0k l f (dp+1) 0)) Zo7 l.length [] k1) k=o
      intro H
      cases o with
      | error y=>exact IxO.err _
      | ok y=>exact Z9p _ _ _ (H _ _ rfl)
     ·unfold Z3l
      have H:=Z5l (l:=l) f dp (rank+1) k
      revert H
      generalize Z0k l f dp (rank+1) k=o
      intro H
      cases o with
      | error y=>exact IxO.err _
      | ok y=>exact Zcw _ _ _ (H _ _ rfl)
theorem Zk7 (l:List (ByteArray × ByteArray × Nat)) (k:Nat):IxO (Zau l k):=Z5l _ _ _ _
theorem Z2l.op {S:Nat→Prop}{w:World}{op:ByteArray}{c1 c2 c3 c4:Value}{d:DataW Unit} (h:Z2l S w [.string op,c1,c2,c3,c4] d):Zii d=op.data.toList:=by
 obtain ⟨n,hn⟩:=h
 cases n with
 | zero=>exact hn.elim
 | succ n =>
  obtain ⟨op',s,z,pl,el,pa,la,pc,lc,hd,hcs,_⟩:=hn
  simp only [List.cons.injEq,Value.string.injEq] at hcs
  rw [hd,hcs.1]
  rfl
theorem Z2l.els {S:Nat→Prop}{w:World}{c0 c1 c2 c3:Value}{la:Option Addr}{ln lc:Nat}{d:DataW Unit} (h:Z2l S w [c0,c1,c2,c3,.slice la ln lc] d):ln=(partsOf d).length∧Z89 S w la (partsOf d):=by
 obtain ⟨n,hn⟩:=h
 cases n with
 | zero=>exact hn.elim
 | succ n =>
  obtain ⟨op',s,z,pl,el,pa,la',pc,lc',hd,hcs,_,hl1,_⟩:=hn
  simp only [List.cons.injEq,Value.slice.injEq,and_true] at hcs
  obtain ⟨_,_,_,_,e1,e2,e3⟩:=hcs
  rw [hd]
  refine ⟨e2,fun h0 => ?_⟩
  obtain ⟨b,o,q1,q2,q3⟩:=hl1 h0
  refine ⟨b,o,e1.trans q1,q2,fun i x hi => ?_⟩
  obtain ⟨d0,d1,d2,d3,d4,r0,r1,r2,r3,r4,r5⟩:=q3 i x hi
  exact ⟨d0,d1,d2,d3,d4,r0,r1,r2,r3,r4,n,r5⟩
theorem Z2l.caps {S:Nat→Prop}{w:World}{c0 c1 c2 c3:Value}{la:Option Addr}{ln lc:Nat}{d:DataW Unit} (h:Z2l S w [c0,c1,c2,c3,.slice la ln lc] d):ln≤lc:=by
 obtain ⟨n,hn⟩:=h
 cases n with
 | zero=>exact hn.elim
 | succ n =>
  obtain ⟨op',s,z,pl,el,pa,la',pc,lc',hd,hcs,_,_,_,hc⟩:=hn
  simp only [List.cons.injEq,Value.slice.injEq,and_true] at hcs
  omega
end Go.Proofs.YtflcohidmemfpaaGreatDoor
namespace Go.Proofs.YtflcohidmemfpaaGreatDoor
open Go.Proofs.Tryz
open Go.RowKit

def Z61 (S:Nat→Prop) (w:World) (cs:List Value) (es:List (DataW Unit)):Prop:=
 cs.length=es.length*6 ∧ ∀ (i:Nat) (e:DataW Unit),es[i]?=some e → ∃ c0 c1 c2 c3 c4 c5,cs[i*6]?=some c0∧cs[i*6+1]?=some c1∧cs[i*6+2]?=some c2∧cs[i*6+3]?=some c3∧cs[i*6+4]?=some c4∧cs[i*6+5]?=some c5∧Zih S w [c0,c1,c2,c3,c4,c5] e
theorem Z61.nil (S:Nat→Prop) (w:World):Z61 S w [] []:=⟨rfl,fun i e h=>by simp at h⟩
theorem Z61.same {S S':Nat→Prop}{w w':World}{cs:List Value}{es:List (DataW Unit)} (h:Z61 S w cs es) (K:Z5i S w w') (hS:∀ b,S b→b<w.heap.size→S' b):Z61 S' w' cs es:=
 ⟨h.1,fun i e hi=>by
  obtain ⟨c0,c1,c2,c3,c4,c5,h0,h1,h2,h3,h4,h5,hr⟩:=h.2 i e hi
  exact ⟨c0,c1,c2,c3,c4,c5,h0,h1,h2,h3,h4,h5,hr.same K hS⟩⟩
theorem Z61.snoc {S:Nat→Prop}{w:World}{cs:List Value}{es:List (DataW Unit)}{c0 c1 c2 c3 c4 c5:Value}{e:DataW Unit} (h:Z61 S w cs es) (he:Zih S w [c0,c1,c2,c3,c4,c5] e):Z61 S w (cs ++ [c0,c1,c2,c3,c4,c5]) (es ++ [e]):=by
 refine ⟨by simp [h.1];omega,fun i x hi => ?_⟩
 have hlen:=h.1
 rcases Nat.lt_or_ge i es.length with hl | hl
 ·rw [List.getElem?_append_left hl] at hi
  obtain ⟨d0,d1,d2,d3,d4,d5,h0,h1,h2,h3,h4,h5,hr⟩:=h.2 i x hi
  refine ⟨d0,d1,d2,d3,d4,d5,?_,?_,?_,?_,?_,?_,hr⟩ <;> rw [List.getElem?_append_left (by omega)] <;> assumption
 ·have hie:i=es.length:=by
   rcases Nat.lt_or_ge es.length i with h1 | h1
   ·rw [List.getElem?_eq_none (by simp;omega)] at hi
    cases hi
   ·omega
  subst hie
  simp at hi
  subst hi
  refine ⟨c0,c1,c2,c3,c4,c5,?_,?_,?_,?_,?_,?_,he⟩
  ·rw [List.getElem?_append_right (by omega),show es.length*6 - cs.length=0 by omega];rfl
  ·rw [List.getElem?_append_right (by omega),show es.length*6+1 - cs.length=1 by omega];rfl
  ·rw [List.getElem?_append_right (by omega),show es.length*6+2 - cs.length=2 by omega];rfl
  ·rw [List.getElem?_append_right (by omega),show es.length*6+3 - cs.length=3 by omega];rfl
  ·rw [List.getElem?_append_right (by omega),show es.length*6+4 - cs.length=4 by omega];rfl
  ·rw [List.getElem?_append_right (by omega),show es.length*6+5 - cs.length=5 by omega];rfl
structure StmC (p g:Nat) (rk:Value) (a0 a1:Addr) (w0:World) (ss:List (DataW Unit)) (v:Value) (w:World):Prop where
 l:∃ cs,w.ownsRow w0.heap.size 52 6 v ss.length cs∧Z61 (fun b=>w0.heap.size≤b∧v.ownBlock≠some b) w cs ss
 ks:Keeps p w0 w
 err:TErr p a0 a1 w0
 ranks:RK p rk w0
 hp:p<w0.heap.size
 hg:g<w0.heap.size
theorem StmC.go {p g:Nat}{rk:Value}{a0 a1:Addr}{w0 w w':World}{ss:List (DataW Unit)}{v:Value} (C:StmC p g rk a0 a1 w0 ss v w) (K:Keeps p w w'):StmC p g rk a0 a1 w0 ss v w':=by
 obtain ⟨cs,h2,h3⟩:=C.l
 have hp:=C.hp
 exact ⟨⟨cs,Z0j h2 (fun k hk=>K.block k (by have:=Z20 h2 k hk;omega) (own_lt h2 k hk)),h3.same (K.same (fun h=>by have:=h.1;omega)) (fun b hb _=>hb)⟩,C.ks.trans K,C.err,C.ranks,C.hp,C.hg⟩
theorem Zq8 {p g cap:Nat}{rk:Value}{l:List (ByteArray × ByteArray × Nat)}{k5 bl dp:Nat}{a0 a1:Addr}{w0 w w5 w2:World}{ss:List (DataW Unit)}{e:DataW Unit}{v:Value}{cs:List Value}{c0 c1 c2 c3 c4 c5:Value}{gn capn:Nat}
  (C:StmC p g rk a0 a1 w0 ss v w) (hO:w.ownsRow w0.heap.size 52 6 v ss.length cs) (hCE:Z61 (fun b=>w0.heap.size≤b∧v.ownBlock≠some b) w cs ss)
  (R5:RD w5 p g cap rk l k5 bl dp) (K5:Keeps p w w5) (hrep:Zih (fun b=>w.heap.size≤b) w5 [c0,c1,c2,c3,c4,c5] e) (hz:∃ wb,Below w5.heap.size w5 wb∧wb.grownBy w2 v.ownBlock∧(v.ownBlock=some gn∨gn=wb.heap.size))
  (hown2:w2.ownsRow w0.heap.size 52 6 (.slice (some ⟨gn,0,none⟩) (ss.length+1) capn) (ss.length+1) (cs ++ [c0,c1,c2,c3,c4,c5])) :
  RD w2 p g cap rk l k5 bl dp∧StmC p g rk a0 a1 w0 (ss ++ [e]) (.slice (some ⟨gn,0,none⟩) (ss.length+1) capn) w2:=by
 obtain ⟨wb,hb5,hgrow,hat⟩:=hz
 have hp:=C.hp
 have hg:=C.hg
 have hsz:=C.ks.below.size
 have hs5:=K5.below.size
 have hsb:=hb5.size
 have hs2:=hgrow.size
 have hgn0:w0.heap.size≤gn:=Z20 hown2 gn rfl
 have hgnO:∀ j,j<w.heap.size→v.ownBlock≠some j→j≠gn:=fun j hj hn h=>by
  rcases hat with h1 | h1
  ·exact hn (h ▸ h1)
  ·omega
 have hgnN:∀ j,w.heap.size≤j→j<w5.heap.size→j≠gn:=fun j hj hj5 h=>by
  rcases hat with h1 | h1
  ·have:=own_lt hO gn h1
   omega
  ·omega
 have hold:∀ j,j<w0.heap.size→v.ownBlock≠some j:=fun j hj h=>by have:=Z20 hO j h;omega
 have f2:∀ j,j<w5.heap.size→v.ownBlock≠some j→w2.heap[j]?=w5.heap[j]?:=fun j hj hn=>(hgrow.block j (by omega) (fun h=>hn h.symm)).trans (hb5.block j hj)
 have f6:∀ j,j≠p→j<w.heap.size→v.ownBlock≠some j→w2.heap[j]?=w.heap[j]?:=fun j hj hl hn=>(f2 j (by omega) hn).trans (K5.block j hj hl)
 have hBA:Below p w w2:=Below.grown (K5.below.trans (hb5.mono (by omega))) hgrow (by omega) (fun j hj=>by have:=Z20 hO j hj;omega)
 refine ⟨R5.moved (f2 p (by omega) (hold p hp)) (f2 g (by omega) (hold g hg)) (by omega),⟨⟨_,by rw [List.length_append];exact hown2,?_⟩,⟨C.ks.below.trans hBA,fun j hj hl=>(f6 j hj (by omega) (hold j hl)).trans (C.ks.block j hj hl)⟩,C.err,C.ranks,hp,hg⟩⟩
 refine Z61.snoc (hCE.same (fun b hb hl => ?_) (fun b hb hl => ?_)) (hrep.same (fun b hb hl => ?_) (fun b hb hl => ?_))
 ·obtain ⟨h1,h4⟩:=hb
  exact f6 b (by omega) hl h4
 ·obtain ⟨h1,h4⟩:=hb
  refine ⟨h1,fun h=>hgnO b hl h4 ?_⟩
  simp [Value.ownBlock] at h
  omega
 ·have hn:v.ownBlock≠some b:=fun h=>by have:=own_lt hO b h;omega
  exact f2 b hl hn
 ·refine ⟨by omega,fun h=>hgnN b hb hl ?_⟩
  simp [Value.ownBlock] at h
  omega
theorem Zq1 (w:World) (c0 c1 c2 c3 c4 c5:Value) (t:TypeId):∀ j u,[c0,c1,c2,c3,c4,c5][j]?=some u→(w.alloc (.cells #[c0,c1,c2,c3,c4,c5] t)).cell? ((⟨w.heap.size,0,none⟩:Addr).add j)=some u:=
 World.news_of_block (cs:=#[c0,c1,c2,c3,c4,c5]) (t:=t) (heap_alloc_new w _)
theorem Zsc {kd nm:ByteArray}{pa la ba ea:Option Addr}{pn pc ln lc bn bc en ec:Nat} : ∀ u ∈ [Value.string kd,.string nm,.slice pa pn pc,.slice la ln lc,.slice ba bn bc,.slice ea en ec],u.oneCell'=true:=by
 intro u hu
 simp at hu
 rcases hu with rfl | rfl | rfl | rfl | rfl | rfl <;> rfl
theorem Zu0:(prog.info? 52).map (fun i=>(i.zero,i.size,i.bytes))=some (some (.agg #[.string ⟨#[]⟩,.string ⟨#[]⟩,.slice none 0 0,.slice none 0 0,.slice none 0 0,.slice none 0 0]),6,128):=by kernel_rfl
theorem Zpm {S S':Nat→Prop}{w:World}{base:Nat}{la:Option Addr}{lc:Nat}{cs:List Value}{es:List (DataW Unit)} (hO:w.ownsRow base 52 6 (.slice la es.length lc) es.length cs) (hCE:Z61 S w cs es) (hS:∀ b,S b→S' b) (hB:∀ b,base≤b→S' b):Z1h S' w la es:=by
 intro h0
 obtain ⟨hl,⟨e1,e2⟩ | ⟨g',cap',cur,e1,hb,hg,h1,h2,h3,h4⟩⟩:=hO
 ·omega
 ·simp at e1
  obtain ⟨rfl,rfl⟩:=e1
  refine ⟨g',0,rfl,hB _ hb,fun i e hi => ?_⟩
  obtain ⟨c0,c1,c2,c3,c4,c5,q0,q1,q2,q3,q4,q5,hr⟩:=hCE.2 i e hi
  have hi':=(List.getElem?_eq_some_iff.1 hi).1
  have hc:∀ j v,cs[j]?=some v→j<es.length*6→w.cell? ⟨g',j,none⟩=some v:=fun j v hj hlt=>by
   rw [cell_of_row w g' _ _ _ _ hg]
   rw [←h4,List.getElem?_take_of_lt hlt] at hj
   simpa using hj
  refine ⟨c0,c1,c2,c3,c4,c5,?_,?_,?_,?_,?_,?_,hr.same (fun _ _ _=>rfl) (fun b h _=>hS b h)⟩ <;> rw [Nat.zero_add] <;> exact hc _ _ (by assumption) (by omega)
end Go.Proofs.YtflcohidmemfpaaGreatDoor
namespace Go.Proofs.YtflcohidmemfpaaGreatDoor
open Go.Proofs.Tryz
open Go.RowKit

def Z25 (l:List (ByteArray × ByteArray × Nat)) (cb:List UInt8) (stmt:Nat→Out (DataW Unit)):Nat→List (DataW Unit)→Nat→Out (List (DataW Unit))
 | 0,_,k=>.error (k,false)
 | f+1,ss,k=>bif Z0m l k cb then .ok (ss,k) else (match stmt k with
  | .error y=>.error y
  | .ok (s,k')=>Z25 l cb stmt f (ss ++ [s]) k')
theorem Zj3 {l:List (ByteArray × ByteArray × Nat)}{cb:List UInt8}{stmt:Nat→Out (DataW Unit)}{f k:Nat}{ss:List (DataW Unit)} (h:Z0m l k cb=true):Z25 l cb stmt (f+1) ss k = .ok (ss,k):=by
 unfold Z25
 rw [h]
 rfl
theorem Zmo {l:List (ByteArray × ByteArray × Nat)}{cb:List UInt8}{stmt:Nat→Out (DataW Unit)}{f k:Nat}{ss:List (DataW Unit)}{y:Nat × Bool} (h:Z0m l k cb=false) (hs:stmt k = .error y):Z25 l cb stmt (f+1) ss k = .error y:=by
 unfold Z25
 rw [h,hs]
 rfl
theorem Zoc {l:List (ByteArray × ByteArray × Nat)}{cb:List UInt8}{stmt:Nat→Out (DataW Unit)}{f k k':Nat}{ss:List (DataW Unit)}{s:DataW Unit} (h:Z0m l k cb=false) (hs:stmt k = .ok (s,k')):Z25 l cb stmt (f+1) ss k=Z25 l cb stmt f (ss ++ [s]) k':=by
 conv=>lhs;unfold Z25
 rw [h,hs]
 rfl
theorem Zpc {p g cap:Nat}{rk:Value}{l:List (ByteArray × ByteArray × Nat)}{k bl dp:Nat}{a0 a1:Addr}{w0 w:World}{ss:List (DataW Unit)}{v:Value}{o:Out (DataW Unit)} (h:Z4g 61 #[.pointer (some ⟨p,0,none⟩)] p g cap rk l k bl dp a0 a1 o) (C:StmC p g rk a0 a1 w0 ss v w) (R:RD w p g cap rk l k bl dp) (W:World) (hb:Below w.heap.size w W) :
  Calls prog 61 #[.pointer (some ⟨p,0,none⟩)] W fun ev w5=>(∃ s k5 kd nm pa pn pc la ln lc ba bn bc ea en ec,o = .ok (s,k5)∧ev = .returned (.agg #[.string kd,.string nm,.slice pa pn pc,.slice la ln lc,.slice ba bn bc,.slice ea en ec])∧Zih (fun b=>w.heap.size≤b) w5 [.string kd,.string nm,.slice pa pn pc,.slice la ln lc,.slice ba bn bc,.slice ea en ec] s∧RD w5 p g cap rk l k5 bl dp∧Keeps p w w5∧Keeps p W w5∧k<k5∧k5<l.length) ∨
   (∃ y b,o = .error y∧ev = .panicked [{ v:=.iface 61 (.pointer (some ⟨b,0,none⟩)),recovered:=false }]∧Z04 l p a0 a1 w0 y ev w5):=by
 have hp:=Z00 R.blk
 have hK:=Keeps.of hb (p:=p) (by omega)
 have hKK:=C.ks.trans hK
 refine (h W (R.more hb) (C.err.keeps hKK) (C.ranks.keeps hKK)).mono ?_
 intro ev w5 hP
 rcases hP.parts with ⟨s,k5,kd,nm,pa,pn,pc,la,ln,lc,ba,bn,bc,ea,en,ec,q5,rfl,hrep5,R5,K5,hk5,hk5l⟩ | ⟨y,b,q5,rfl,hf⟩
 ·exact .inl ⟨s,k5,kd,nm,pa,pn,pc,la,ln,lc,ba,bn,bc,ea,en,ec,q5,rfl,hrep5.same (fun _ _ _=>rfl) (fun b h _=>Nat.le_trans hb.size h),R5,hK.trans K5,K5,hk5,hk5l⟩
 ·exact .inr ⟨y,b,q5,rfl,Z04.after hKK.below hf⟩

set_option maxHeartbeats 16000000 in
set_option maxRecDepth 100000 in
theorem Z7p {p g cap:Nat}{rk:Value}{l:List (ByteArray × ByteArray × Nat)}{k bl dp:Nat}{a0 a1:Addr} (cl:ByteArray) (T:TokS l) (hk:k<l.length) (stmt:Nat→Out (DataW Unit))
  (h:∀ k',k≤k'→k'<l.length→Z4g 61 #[.pointer (some ⟨p,0,none⟩)] p g cap rk l k' bl dp a0 a1 (stmt k')):Z41 40 #[.pointer (some ⟨p,0,none⟩),.string cl] p g cap rk l k bl dp a0 a1 (Z25 l cl.toList stmt (l.length+1) [] k):=by
 intro w R E X
 have hl:=T.ok.hl
 have HH:=Z01 h
 have hpl:=Z00 R.blk
 have C0:StmC p g rk a0 a1 w [] (.slice none 0 0) w:=⟨⟨[],⟨rfl,.inl ⟨rfl,rfl⟩⟩,Z61.nil _ _⟩,Keeps.refl _ _,E,X,hpl,R.gl⟩
 obtain ⟨o,ho⟩:∃ o,Z25 l cl.toList stmt (l.length+1) [] k=o:=⟨_,rfl⟩
 rw [ho]
 have H0:Hid (RD w p g cap rk l k bl dp∧StmC p g rk a0 a1 w [] (.slice none 0 0) w∧Z25 l cl.toList stmt (l.length+1) [] k=o):=⟨R,C0,ho⟩
 have HPE:Hid (∀ y ev w',o = .error y→Z04 l p a0 a1 w y ev w'→Zal (fun b=>w.heap.size≤b) p g cap rk l k bl dp a0 a1 w o ev w'):=by
  rintro y ev w' rfl h
  exact h
 obtain ⟨i0,hi,hz0,hz1,hz2⟩:=info_parts Zu0
 have Hi:=Z01 hi
 clear h R E X C0 ho hi
 go_enter func40,ntmps40
 go_wp2_with fail
 go_loopg [5] (l.length+1) (fun gk vl wx => ∃ (ss:List (DataW Unit)) (k2:Nat) (pa:Option Addr) (pc:Nat),vl = .slice pa ss.length pc∧RD wx p g cap rk l k2 bl dp∧StmC p g rk a0 a1 w ss (.slice pa ss.length pc) wx∧k≤k2∧k2<l.length∧ss.length≤k2∧l.length - k2<gk∧Z25 l cl.toList stmt gk ss k2=o)
 case atStart =>
  obtain ⟨h1,h2,h3⟩:=H0.out
  exact ⟨[],k,none,0,rfl,h1,h2,Nat.le_refl _,hk,by simp,by omega,h3⟩
 case round =>
  obtain ⟨ss,k2,pa,pc,rfl,R2,C2,hk2,hk2l,hss,hgk,hpm⟩:=hrel
  obtain ⟨x,hx⟩:∃ x,l[k2]?=some x:=⟨l[k2],by simp [hk2l]⟩
  have hkd:=Z1t hx cl.toList
  have F0:=Z5s (.string x.1) (.string x.2.1) (.int .i64 (x.2.2:Int))
  obtain ⟨gj,hgj⟩:∃ gj,gk=gj+1:=⟨gk - 1,by omega⟩
  have HPM:=Z01 hpm
  have HGJ:=Z01 hgj
  have HKD:=Z01 hkd
  have hC2:=Z01 C2
  have HNX:=Z01 (Z1k R2 hx)
  have HR2:=Z01 R2
  have hlp:=Z00 R2.blk
  obtain ⟨m,hm⟩:∃ m,(x.1.toList == cl.toList)=m:=⟨_,rfl⟩
  have HM:=Z01 hm
  clear hpm hgj hkd R2 C2 H0 hm hx
  go_wp2_with fail
  refine HNX.out.mono ?_
  rintro ev w3 ⟨rfl,hb3⟩
  have hK3:Keeps p wr w3:=Keeps.of hb3 (by omega)
  have C3:=hC2.out.go hK3
  have R3:=HR2.out.more hb3
  cases m with
  | true =>
   have hme:x.1.toList=cl.toList:=by simpa using HM.out
   have hmm:(x.1.toList == cl.toList)=true:=HM.out
   have ho2:o = .ok (ss,k2):=by rw [←HPM.out,HGJ.out];exact Zj3 (by rw [HKD.out];exact HM.out)
   obtain ⟨cs,hO,hCE⟩:=C3.l
   have HF:Hid (Z1h (fun b=>w.heap.size≤b) w3 pa ss∧RD w3 p g cap rk l k2 bl dp∧Keeps p w w3):=⟨Zpm hO hCE (fun b h=>h.1) (fun b h=>h),R3,C3.ks⟩
   have HO2:=Z01 ho2
   clear hb3 hK3 C3 R3 hO hCE HNX ho2 hme
   go_wp2_with fail
   go_ret
   rw [HO2.out]
   exact ⟨_,_,rfl,HF.out.1,HF.out.2.1,HF.out.2.2,hk2,hk2l⟩
  | false =>
   have hmm:(x.1.toList == cl.toList)=false:=HM.out
   have hkf:Hid (Z0m l k2 cl.toList=false):=by show _=_;rw [HKD.out];exact HM.out
   have HN:=Z01 (Zpc (HH.out k2 hk2 hk2l) C3 R3)
   obtain ⟨cs,hO,hCE⟩:=C3.l
   have hsl:ss.length≤100000:=by omega
   have hp3:=Z00 R3.blk
   have hw3:=C3.ks.below.size
   have HC:=Z01 C3
   have HO:=Z01 hO
   have HCE:=Z01 hCE
   have HO5:Hid (∀ w5,Keeps p w3 w5→w5.ownsRow w.heap.size 52 6 (.slice pa ss.length pc) ss.length cs):=fun w5 K=>Z0j HO.out (fun k hk=>K.block k (by have:=Z20 HO.out k hk;omega) (own_lt HO.out k hk))
   clear hb3 hK3 C3 R3 hO hCE HNX hC2 HR2
   go_wp2_with fail
   refine (HN.out _ (Below.refl _ _)).mono ?_
   rintro ev w5 (⟨s5,k5,kd5,nm5,pa5,pn5,pc5,la5,ln5,lc5,ba5,bn5,bc5,ea5,en5,ec5,q5,rfl,hrep5,R5,K5,KW,hk5,hk5l⟩ | ⟨y,b,q5,rfl,hf⟩)
   rotate_left
   ·have HF:=Z01 (HPE.out y _ _ (by rw [←HPM.out,HGJ.out];exact Zmo hkf.out q5) hf)
    clear q5 hf HN
    go_wp2_with fail
    exact ⟨rfl,HF.out⟩
   have s5z:=K5.below.size
   have hown5:=HO5.out w5 K5
   have HP4:Hid (Z25 l cl.toList stmt gj (ss ++ [s5]) k5=o):=by show _=_;rw [←HPM.out,HGJ.out];exact (Zoc hkf.out q5).symm
   have HRP:=Z01 hrep5
   have HR:=Z01 R5
   have HK:=Z01 K5
   have HOW:=Z01 hown5
   clear q5 hrep5 R5 K5 KW hown5 HN
   go_wp2_with (first | (at_builtin;refine wpList_append_lies _ rfl _ _ _ rfl w.heap.size 52 i0 (.agg #[.string ⟨#[]⟩,.string ⟨#[]⟩,.slice none 0 0,.slice none 0 0,.slice none 0 0,.slice none 0 0]) 6 128 underlying30 Hi.out hz0 hz1 hz2 rfl (by decide) _ ss.length cs rfl (HOW.out.alloc _) ⟨w5.heap.size,0,none⟩ 1 1 [.string kd5,.string nm5,.slice pa5 pn5 pc5,.slice la5 ln5 lc5,.slice ba5 bn5 bc5,.slice ea5 en5 ec5] rfl rfl (Zq1 _ _ _ _ _ _ _ _) Zsc (by decide) (by unfold maxLen;omega) (by omega) (by simp;omega) _ rfl ?_;intro gn capn w2 hown2 hgrow hat hlt;have HW2:=Z01 hown2;have HZ:Hid (∃ wb,Below w5.heap.size w5 wb∧wb.grownBy w2 (Value.slice pa ss.length pc).ownBlock∧((Value.slice pa ss.length pc).ownBlock=some gn∨gn=wb.heap.size)):=⟨_,(Below.refl _ _).alloc (Nat.le_refl _) _,hgrow,hat⟩;clear hown2 hgrow hat))
   have HWA:=Z01 (Zq8 HC.out HO.out HCE.out HR.out HK.out HRP.out HZ.out HW2.out)
   go_roundg gj
   case measure=>have:=HGJ.out;omega
   case rel =>
    obtain ⟨h1,h2⟩:=HWA.out
    exact ⟨ss ++ [s5],k5,some ⟨gn,0,none⟩,capn,by simp,h1,by simpa using h2,by omega,hk5l,by simp;omega,by have:=HGJ.out;omega,HP4.out⟩
end Go.Proofs.YtflcohidmemfpaaGreatDoor
namespace Go.Proofs.YtflcohidmemfpaaGreatDoor
open Go.Proofs.Tryz
open Go.RowKit

def Zeb (w:World) (p:Nat):World:=(w.alloc (.cells #[.pointer (some ⟨p,0,none⟩)] 119)).alloc (.cells #[.string ⟨#[]⟩,.string ⟨#[]⟩,.slice none 0 0,.slice none 0 0,.slice none 0 0,.slice none 0 0] 52)
theorem Zcg (w:World) (p:Nat):(Zeb w p).heap.size=w.heap.size+2:=by simp [Zeb]
theorem Zib (w:World) (p:Nat):Below w.heap.size w (Zeb w p):=((Below.refl _ _).alloc (Nat.le_refl _) _).alloc (by simp) _
theorem Ze6 (w:World) (p:Nat):(Zeb w p).heap[w.heap.size]?=some (.cells #[.pointer (some ⟨p,0,none⟩)] 119):=(Below.heap_alloc _ _ _ (by simp)).trans (heap_alloc_new w _)
theorem Zi4 {p g cap:Nat}{rk:Value}{l:List (ByteArray × ByteArray × Nat)}{k bl dp:Nat}{w:World} (R:RD w p g cap rk l k bl dp):StAt p g cap rk l bl dp w (w.heap.size+1) k (Zeb w p):=by
 have hpl:=Z00 R.blk
 have hb0:=Zib w p
 refine ⟨R.more hb0,Keeps.of hb0 (by omega),?_,hpl,R.gl,by omega⟩
 have:=heap_alloc_new (w.alloc (.cells #[.pointer (some ⟨p,0,none⟩)] 119)) (.cells #[.string ⟨#[]⟩,.string ⟨#[]⟩,.slice none 0 0,.slice none 0 0,.slice none 0 0,.slice none 0 0] 52)
 simpa [Zeb] using this
theorem Z95 {p b:Nat}{w w':World}{v:Value} (h:w.heap[b]?=some (.cells #[v] 119)) (K:Keeps p w w') (hp:p<b):w'.heap[b]?=some (.cells #[v] 119):=(K.block b (by omega) (Z00 h)).trans h
theorem Z38 {b:Nat}{w:World}{v:Value} (h:w.heap[b]?=some (.cells #[v] 119)):w.cell? ⟨b,0,none⟩=some v:=by rw [cell_of_row _ _ 0 _ _ _ h];rfl
theorem FunC.step {kd nm:ByteArray}{p g ce cr:Nat}{w0:World} (s:List ByteArray) (k k':Nat) (w w':World) (hk:k≤k') (h:FunC kd nm p g ce cr w0 s w∧s.length≤k) (K:Keeps p w w'):FunC kd nm p g ce cr w0 s w'∧s.length≤k':=⟨h.1.keeps s w w' K,by omega⟩
theorem Zwa {p g cap:Nat}{rk:Value}{l:List (ByteArray × ByteArray × Nat)}{k2 k3 bl dp B ce cr:Nat}{w w2 w3:World}{kd nm:ByteArray}{names:List ByteArray} (A:StAt p g cap rk l bl dp w B k2 w2) (C:FunC kd nm p g ce cr w2 names w3) (hb:Below p w2 w3) (R:RD w3 p g cap rk l k3 bl dp) (hB:B<ce):StAt p g cap rk l bl dp w B k3 w3:=by
 have hp:=A.pl
 have hwB:=A.wB
 have hs:=A.ks.below.size
 exact ⟨R,⟨A.ks.below.trans hb,fun k hk hl=>(C.keep k hk (by omega) (by omega)).trans (A.ks.block k hk hl)⟩,(C.keep B (by omega) (by omega) (Z00 A.b4)).trans A.b4,A.pl,A.gl,A.wB⟩

def Z6y (l:List (ByteArray × ByteArray × Nat)) (blk:Nat→Out (List (DataW Unit))) (k:Nat):Out (DataW Unit):=
 bif Z0m l k [110,97,109,101] then (bif Z09 l (k+1) [Z7n] then (match Z1g l (Z2k l) Za7 l.length [] (k+2) with
  | .error y=>.error y
  | .ok (names,k1)=>match blk k1 with
   | .error y=>.error y
   | .ok (ss,k2)=>.ok (mkS kDef (Z56 l k) names [] ss [],k2)) else .error (k+1,false)) else .error (k,false)

set_option maxHeartbeats 4000000 in
set_option maxRecDepth 100000 in
theorem Zah {p g cap:Nat}{rk:Value}{l:List (ByteArray × ByteArray × Nat)}{k bl dp:Nat}{a0 a1:Addr} (T:TokS l) (hk:k<l.length) (blk:Nat→Out (List (DataW Unit)))
  (h2:∀ k',k<k'→k'<l.length→Z41 79 #[.pointer (some ⟨p,0,none⟩)] p g cap rk l k' bl dp a0 a1 (blk k')):Z4g 81 #[.pointer (some ⟨p,0,none⟩)] p g cap rk l k bl dp a0 a1 (Z6y l blk k):=by
 intro w R E X
 have hl:=T.ok.hl
 have A0:=Zi4 R
 have HE:=Z01 E
 have HX:=Z01 X
 obtain ⟨o,ho⟩:∃ o,Z6y l blk k=o:=⟨_,rfl⟩
 rw [ho]
 have HO:=Z01 ho
 have HPE:Hid (∀ y ev w',o = .error y→Z04 l p a0 a1 w y ev w'→Zby (fun b=>w.heap.size≤b) p g cap rk l k bl dp a0 a1 w o ev w'):=by
  rintro y ev w' rfl h
  exact h
 have hpl:=A0.pl
 have hgl:=A0.gl
 have hX0:=Ze6 w p
 have hs0:=Zcg w p
 obtain ⟨x,hx⟩:∃ x,l[k]?=some x:=⟨l[k],by simp [hk]⟩
 have HN:=Z01 (Z66 A0.rd (HE.out.keeps A0.ks) hx hl)
 have HA0:=Z01 A0
 have HX0:=Z01 hX0
 have HH2:=Z01 h2
 clear R E X A0 ho h2 hX0
 go_enter func81,ntmps81
 go_wp2_with fail
 refine HN.out.mono ?_
 rintro ev w1 (⟨hm,rfl,R1,K1⟩ | ⟨hm,t,g1,b,rfl,g2⟩)
 rotate_left
 ·have ho2:o = .error (k,false):=by
   rw [←HO.out,Z6y,Z1t hx,show (x.1.toList == [110,97,109,101])=false from hm]
   rfl
  have HF:=Z01 (HPE.out _ _ _ ho2 (Z04.after HA0.out.ks.below ⟨t,g1,b,rfl,g2⟩))
  clear g1 g2 HN
  go_wp2_with fail
  exact ⟨rfl,HF.out⟩
 have hkn:Z0m l k [110,97,109,101]=true:=(Z1t hx _).trans hm
 have hk1:=T.next hkn (by decide)
 obtain ⟨x1,hx1⟩:∃ x,l[k+1]?=some x:=⟨l[k+1],by simp [hk1]⟩
 have hba:Below w1.heap.size w1 (w1.alloc (.cells #[.string kDef,.string x.2.1,.slice none 0 0,.slice none 0 0,.slice none 0 0,.slice none 0 0] 52)):=(Below.refl _ _).alloc (Nat.le_refl _) _
 have A1:=(HA0.out.go R1 K1).more hba
 have hB1:(w1.alloc (.cells #[.string kDef,.string x.2.1,.slice none 0 0,.slice none 0 0,.slice none 0 0,.slice none 0 0] 52)).heap[w1.heap.size]?=some (.cells #[.string kDef,.string x.2.1,.slice none 0 0,.slice none 0 0,.slice none 0 0,.slice none 0 0] 52):=heap_alloc_new w1 _
 have hsz:=K1.below.size
 rw [hs0] at hsz
 have hX1:=(hba.block w.heap.size (by omega)).trans (Z95 HX0.out K1 hpl)
 have c1:=Z38 (Z95 HX0.out K1 hpl)
 have l1:=Z02 c1
 have HA1:=Z01 A1
 have HB1:=Z01 hB1
 have HX1:=Z01 hX1
 have HC1:=Z01 (Z2q A1.rd (HE.out.keeps A1.ks) hx1 hl Z7n)
 clear R1 K1 A1 hB1 hba HN hX1
 go_wp2_with fail
 refine HC1.out.mono ?_
 intro ev w2 hT
 cases hm1:Z0i x1 [Z7n] with
 | false =>
 rw [hm1,if_neg (by decide)] at hT
 obtain ⟨t,g1,b,rfl,g2⟩:=hT
 have ho2:o = .error (k+1,false):=by
  rw [←HO.out,Z6y,hkn,Z0r hx1,hm1]
  rfl
 have HF:=Z01 (HPE.out _ _ _ ho2 (Z04.after HA1.out.ks.below ⟨t,g1,b,rfl,g2⟩))
 clear g1 g2 HC1 c1
 go_wp2_with fail
 exact ⟨rfl,HF.out⟩
 | true =>
 rw [hm1,if_pos rfl] at hT
 obtain ⟨rfl,R2,K2⟩:=hT
 have hk2:=T.ok.hen.next hx1 hm1
 have A2:=HA1.out.go R2 K2
 have hB2:=(K2.block w1.heap.size (by omega) (Z00 HB1.out)).trans HB1.out
 have hX2:=Z95 HX1.out K2 hpl
 have c2:=Z38 hX2
 have l2:=Z02 c2
 have hlt2:=Z00 hB2
 have C2:FunC kDef x.2.1 p g w1.heap.size w.heap.size w2 [] w2:=⟨⟨.slice none 0 0,hB2,rfl,.inl ⟨rfl,rfl⟩⟩,c2,by omega,by omega,by omega,by omega,hlt2,l2,by omega,Nat.le_refl _,fun _ _ _ _=>rfl⟩
 have HU:=Z01 (Zay 117 #[.pointer (some ⟨w1.heap.size,0,none⟩),.pointer (some ⟨w.heap.size,0,none⟩)] (fun _ _=>rfl) (fun s k w'=>FunC kDef x.2.1 p g w1.heap.size w.heap.size w2 s w'∧s.length≤k) (fun s k k' w1 w2 h1 h2 h3=>FunC.step s k k' w1 w2 h1 h2 h3) (Z2k l) 0 (fun s k _ hk=>Zkh _ _ _ hl (fun k x hx hn=>T.ok.last k x hx (by rw [hn];simp)) s k hk) hl T.ok.hen Za7 [] (k+2) l.length (Nat.zero_le _) hk2 (by omega) w2 A2.rd ⟨C2,by simp⟩ (HE.out.keeps A2.ks))
 have HA2:=Z01 A2
 clear HC1 R2 K2 A2 hB2 hX2 C2 c1 l1
 go_wp2_with fail
 refine HU.out.mono ?_
 intro ev w3 hP
 obtain ⟨o3,q3⟩:∃ o3,Z1g l (Z2k l) Za7 l.length [] (k+2)=o3:=⟨_,rfl⟩
 rw [q3] at hP
 cases o3 with
 | error y =>
 obtain ⟨t,g1,b,rfl,g2⟩:=hP
 ·have ho2:o = .error y:=by
   rw [←HO.out,Z6y,hkn,Z0r hx1,hm1]
   simp only [cond_true,q3]
  have HF:=Z01 (HPE.out _ _ _ ho2 (Z04.after HA2.out.ks.below ⟨t,g1,b,rfl,g2⟩))
  clear HU g1 g2 c2
  go_wp2_with fail
  exact ⟨rfl,HF.out⟩
 | ok y =>
 obtain ⟨names,k3⟩:=y
 obtain ⟨rfl,R3,⟨C3,hn3⟩,hb3,hk3,hk3l⟩:=hP
 have A3:=Zwa HA2.out C3 hb3 R3 (by omega)
 have c3:=C3.r
 have l3:=Z02 c3
 have hs3:=hb3.size
 obtain ⟨va,hV,hO⟩:=C3.e
 obtain ⟨pa,pc,rfl,hN⟩:=Zfx hO
 have hNN:Z54 (fun b=>w.heap.size+1<b∧b≠w1.heap.size) w3 pa names:=fun h0=>by
  obtain ⟨b,e,hb,ht⟩:=hN h0
  exact ⟨b,0,e,⟨by omega,by omega⟩,ht⟩
 have HC3:=Z01 (HH2.out k3 (by omega) hk3l _ A3.rd (HE.out.keeps A3.ks) (HX.out.keeps A3.ks))
 have HA3:=Z01 A3
 have HB3:=Z01 hV
 have HN3:=Z01 hNN
 have HQ3:=Z01 q3
 have hlt3:=Z00 hV
 clear HU R3 C3 hb3 A3 hV hO hN hNN q3 c2
 go_wp2_with fail
 refine HC3.out.mono ?_
 intro ev w4 hP
 rcases hP.parts with ⟨ss,k4,ba,bc,q4,rfl,hS4,R4,K4,hk4,hk4l⟩ | ⟨y,b,q4,rfl,hf⟩
 rotate_left
 ·have ho2:o = .error y:=by
   rw [←HO.out,Z6y,hkn,Z0r hx1,hm1]
   simp only [cond_true,HQ3.out,q4]
  have HF:=Z01 (HPE.out _ _ _ ho2 (Z04.after HA3.out.ks.below hf))
  clear hP HC3 hf c3
  go_wp2_with fail
  exact ⟨rfl,HF.out⟩
 have A4:=HA3.out.go R4 K4
 have hs4:=K4.below.size
 have hB4:=(K4.block w1.heap.size (by omega) hlt3).trans HB3.out
 obtain ⟨s0,s1,s2,s3,s4,s5,sf⟩:=Z08 hB4
 have sf4:=sf 4
 have sl:=Z00 hB4
 have A6:=A4.put (b:=w1.heap.size) (o:=4) (v:=.slice ba ss.length bc) (by omega)
 have hB6:=Z4b (o:=4) (v:=.slice ba ss.length bc) hB4 #[.string kDef,.string x.2.1,.slice pa names.length pc,.slice none 0 0,.slice ba ss.length bc,.slice none 0 0] rfl
 have hN6:=(HN3.out.same (S':=(fun b=>w.heap.size+1<b∧b≠w1.heap.size)) (K4.same (fun h=>by have:=h.1;omega)) (fun b hb _=>hb)).same (S':=(fun b=>w.heap.size+1<b∧b≠w1.heap.size)) (Z1z (b:=w1.heap.size) (o:=4) (v:=.slice ba ss.length bc) (fun h=>h.2 rfl)) (fun b hb _=>hb)
 have hS6:Z1h (fun b=>w.heap.size+1<b∧b≠w1.heap.size) (w4.setCell ⟨w1.heap.size,4,none⟩ (.slice ba ss.length bc)) ba ss:=hS4.same (Z1z (by show ¬ (_≤w1.heap.size);omega)) (fun b hb _=>⟨by omega,by omega⟩)
 obtain ⟨v0,v1,v2,v3,v4,v5,_⟩:=Z08 hB6
 have ho6:o = .ok (mkS kDef x.2.1 names [] ss [],k4):=by
  rw [←HO.out,Z6y,hkn,Z0r hx1,hm1]
  simp only [cond_true,HQ3.out,q4,Z8l hx]
 have hZ:=Z1l (c0:=.string kDef) (c1:=.string x.2.1) (c2:=.slice pa names.length pc) (c3:=.slice none 0 0) (c4:=.slice ba ss.length bc) (c5:=.slice none 0 0) A6 (Z2z (kd:=kDef) (nm:=x.2.1) (el:=[]) (es:=[]) (pc:=pc) (lc:=0) (bc:=bc) (ec:=0) hN6 (Z89.nil _ _ none) hS6 (Z1h.nil _ _ none)) (fun b hb=>hb.1)
 have HZ:=Z01 hZ
 obtain ⟨u0,u1,u2,u3,u4,u5,uf⟩:=Z08 A6.b4
 have uf0:=uf 0
 have uf1:=uf 1
 have uf2:=uf 2
 have uf3:=uf 3
 have uf4:=uf 4
 have uf5:=uf 5
 have ul:=Z00 A6.b4
 have HO6:=Z01 ho6
 clear hP HC3 A4 hB4 hS4 R4 K4 q4 sf A6 hB6 hN6 hS6 c3 uf ho6 hZ
 go_wp2_with fail
 obtain ⟨z1,z2,z3,z4⟩:=HZ.out
 refine bodyPost_ret (Z0e _ 2 rfl _ _ (w.heap.size+1) _ _ _ _ _ _ rfl z1) rfl ?_
 rw [HO6.out]
 exact ⟨_,_,_,_,_,_,rfl,z2,z3,z4,by omega,hk4l⟩
end Go.Proofs.YtflcohidmemfpaaGreatDoor
