/- Package tree: choice (written by tools/tree/choice.py). -/
import Derived.Test.YtemapnogjepokaaGreatDoorStmtCToStmtM
import Derived.Test.YtemapnogjepokaaGreatDoorStmtGToStmtI
import Derived.Test.YtemapnogjepokaaGreatDoorStmtO
import Derived.Test.YtemapnogjepokaaGreatDoorStmtP
import Derived.Test.YtemapnogjepokaaGreatDoorLineLToTreeA
namespace Go.Proofs.YtemapnogjepokaaGreatDoor
open Go.RowKit

def kIf:ByteArray:=⟨#[105,102]⟩
def kElif:ByteArray:=⟨#[101,108,105,102]⟩
def kElse:ByteArray:=⟨#[101,108,115,101]⟩
def pChoice (l:List (ByteArray × ByteArray × Nat)) (one blk:Nat→Out (List (DataW Unit))):Nat→Nat→Out (DataW Unit)
 | 0,k=>.error (k,false)
 | f+1,k=>match one k with
  | .error y=>.error y
  | .ok (el,k1)=>match blk k1 with
   | .error y=>.error y
   | .ok (ss,k2)=>bif markAt l k2 [kElif] then (match pChoice l one blk f (k2+1) with
     | .error y=>.error y
     | .ok (s,k3)=>.ok (mkS kIf ⟨#[]⟩ [] el ss [s],k3)) else bif markAt l k2 [kElse] then (match blk (k2+1) with
     | .error y=>.error y
     | .ok (es,k3)=>.ok (mkS kIf ⟨#[]⟩ [] el ss es,k3)) else .ok (mkS kIf ⟨#[]⟩ [] el ss [],k2)
theorem repSL_one {S:Nat→Prop}{w:World}{b:Nat}{c0 c1 c2 c3 c4 c5:Value}{s:DataW Unit}(hB:w.heap[b]?=some (.cells #[c0,c1,c2,c3,c4,c5] 52)) (hb:S b) (h:RepS S w [c0,c1,c2,c3,c4,c5] s):RepSL S w (some ⟨b,0,none⟩) [s]:=by
 intro _
 obtain ⟨u0,u1,u2,u3,u4,u5,_⟩:=stmt_block hB
 refine ⟨b,0,rfl,hb,fun i x hi => ?_⟩
 cases i with
 | zero =>
  simp at hi
  subst hi
  exact ⟨c0,c1,c2,c3,c4,c5,u0,u1,u2,u3,u4,u5,h⟩
 | succ i=>simp at hi

set_option maxHeartbeats 4000000 in
set_option maxRecDepth 100000 in
theorem choice_any {p g cap:Nat}{rk:Value}{l:List (ByteArray × ByteArray × Nat)}{lo bl dp:Nat}{a0 a1:Addr}(T:TokS l) (one blk:Nat→Out (List (DataW Unit)))
  (h1:∀ k',lo≤k'→k'<l.length→ReadsL 78 #[.pointer (some ⟨p,0,none⟩)] p g cap rk l k' bl dp a0 a1 (one k'))
  (h2:∀ k',lo≤k'→k'<l.length→ReadsSL 79 #[.pointer (some ⟨p,0,none⟩)] p g cap rk l k' bl dp a0 a1 (blk k')) (f:Nat):∀ k,lo≤k→k<l.length→l.length - k≤f→ReadsS 77 #[.pointer (some ⟨p,0,none⟩)] p g cap rk l k bl dp a0 a1 (pChoice l one blk f k):=by
 induction f with
 | zero =>
 intro k _ hk hf
 omega
 | succ f IH =>
 intro k hlo hk hfu
 intro w R E X
 have hl:=T.ok.hl
 have A0:=st_start R
 have HE:=toHid E
 have HX:=toHid X
 obtain ⟨o,ho⟩:∃ o,pChoice l one blk (f+1) k=o:=⟨_,rfl⟩
 rw [ho]
 have HO:=toHid ho
 have HPE:Hid (∀ y ev w',o = .error y→faultAt l p a0 a1 w y ev w'→PostS (fun b=>w.heap.size≤b) p g cap rk l k bl dp a0 a1 w o ev w'):=by
  rintro y ev w' rfl h
  exact h
 have hpl:=A0.pl
 have hgl:=A0.gl
 have HC0:=toHid (h1 k hlo hk _ A0.rd (HE.out.keeps A0.ks) (HX.out.keeps A0.ks))
 have HA0:=toHid A0
 have HH2:=toHid h2
 have HIH:=toHid IH
 have hs0:(w.alloc (.cells #[.string ⟨#[]⟩,.string ⟨#[]⟩,.slice none 0 0,.slice none 0 0,.slice none 0 0,.slice none 0 0] 52)).heap.size=w.heap.size+1:=by simp
 clear R E X A0 ho h1 h2 IH
 go_enter Tryz.func77,Tryz.ntmps77
 go_wp2_with fail
 refine HC0.out.mono ?_
 intro ev w1 hP
 rw [hs0] at hP
 rcases hP.parts with ⟨el,k1,la,lc,q1,rfl,hL1,R1,K1,hk1,hk1l,hcap⟩ | ⟨y,b,q1,rfl,hf⟩
 rotate_left
 ·have ho2:o = .error y:=by
   rw [←HO.out,pChoice]
   simp only [q1]
  have HF:=toHid (HPE.out _ _ _ ho2 (faultAt.after HA0.out.ks.below hf))
  clear hP HC0 hf
  go_wp2_with fail
  exact ⟨rfl,HF.out⟩
 have A1:=HA0.out.go R1 K1
 have hs1:=K1.below.size
 rw [hs0] at hs1
 have HC1:=toHid (HH2.out k1 (by omega) hk1l _ A1.rd (HE.out.keeps A1.ks) (HX.out.keeps A1.ks))
 have HA1:=toHid A1
 have HL1:=toHid hL1
 have HQ1:=toHid q1
 clear hP HC0 R1 K1 A1 hL1 q1
 go_wp2_with fail
 refine HC1.out.mono ?_
 intro ev w2 hP
 rcases hP.parts with ⟨ss,k2,ba,bc,q2,rfl,hS1,R2,K2,hk2,hk2l⟩ | ⟨y,b,q2,rfl,hf⟩
 rotate_left
 ·have ho2:o = .error y:=by
   rw [←HO.out,pChoice]
   simp only [HQ1.out,q2]
  have HF:=toHid (HPE.out _ _ _ ho2 (faultAt.after HA1.out.ks.below hf))
  clear hP HC1 hf
  go_wp2_with fail
  exact ⟨rfl,HF.out⟩
 have hba:Below w2.heap.size w2 (w2.alloc (.cells #[.string kIf,.string ⟨#[]⟩,.slice none 0 0,.slice la el.length lc,.slice ba ss.length bc,.slice none 0 0] 52)):=(Below.refl _ _).alloc (Nat.le_refl _) _
 have A2:=(HA1.out.go R2 K2).more hba
 have hB2:(w2.alloc (.cells #[.string kIf,.string ⟨#[]⟩,.slice none 0 0,.slice la el.length lc,.slice ba ss.length bc,.slice none 0 0] 52)).heap[w2.heap.size]?=some (.cells #[.string kIf,.string ⟨#[]⟩,.slice none 0 0,.slice la el.length lc,.slice ba ss.length bc,.slice none 0 0] 52):=heap_alloc_new w2 _
 have hs2:=K2.below.size
 have hL2:RepL (fun b=>w.heap.size<b∧b≠w2.heap.size) (w2.alloc (.cells #[.string kIf,.string ⟨#[]⟩,.slice none 0 0,.slice la el.length lc,.slice ba ss.length bc,.slice none 0 0] 52)) la el:=(HL1.out.same (S':=fun b=>w.heap.size+1≤b) (K2.same (by show ¬ (_≤p);omega)) (fun b h _=>h)).same (same_below hba) (fun b h hl=>⟨by omega,by omega⟩)
 have hS2:RepSL (fun b=>w.heap.size<b∧b≠w2.heap.size) (w2.alloc (.cells #[.string kIf,.string ⟨#[]⟩,.slice none 0 0,.slice la el.length lc,.slice ba ss.length bc,.slice none 0 0] 52)) ba ss:=hS1.same (same_below hba) (fun b hb hl=>⟨by omega,by omega⟩)
 obtain ⟨x2,hx2⟩:∃ x,l[k2]?=some x:=⟨l[k2],by simp [hk2l]⟩
 have HC2:=toHid (passMark_any A2.rd hx2 hl kElif)
 have HA2:=toHid A2
 have HB2:=toHid hB2
 have HL2:=toHid hL2
 have HS2:=toHid hS2
 have HQ2:=toHid q2
 clear hP HC1 R2 K2 A2 hB2 hba hL2 hS2 hS1 q2
 go_wp2_with fail
 refine HC2.out.mono ?_
 rintro ev w3 ⟨rfl,R3,K3⟩
 have hB3:=(K3.block w2.heap.size (by omega) (lt_of_heap HB2.out)).trans HB2.out
 have hL3:=HL2.out.same (S':=(fun b=>w.heap.size<b∧b≠w2.heap.size)) (K3.same (fun h=>by have:=h.1;omega)) (fun b hb _=>hb)
 have hS3:=HS2.out.same (S':=(fun b=>w.heap.size<b∧b≠w2.heap.size)) (K3.same (fun h=>by have:=h.1;omega)) (fun b hb _=>hb)
 have HB3:=toHid hB3
 have HL3:=toHid hL3
 have HS3:=toHid hS3
 have hlt3:=lt_of_heap hB3
 clear hB3 hL3 hS3 HC2
 cases hm:markB x2 [kElif] with
 | true =>
 rw [hm,if_pos rfl] at R3
 have hk3:=T.ok.hen.next hx2 hm
 have A3:=HA2.out.go R3 K3
 have HC3:=toHid (HIH.out (k2+1) (by omega) hk3 (by omega) _ A3.rd (HE.out.keeps A3.ks) (HX.out.keeps A3.ks))
 have HA3:=toHid A3
 clear R3 K3 A3
 go_wp2_with fail
 refine HC3.out.mono ?_
 intro ev w4 hP
 rcases hP.parts with ⟨s4,k4,kd4,nm4,pa4,pn4,pc4,la4,ln4,lc4,ba4,bn4,bc4,ea4,en4,ec4,q4,rfl,hrep4,R4,K4,hk4,hk4l⟩ | ⟨y,b,q4,rfl,hf⟩
 rotate_left
 ·have ho2:o = .error y:=by
   rw [←HO.out,pChoice]
   simp only [HQ1.out,HQ2.out,markAt_of hx2,hm,cond_true,q4]
  have HF:=toHid (HPE.out _ _ _ ho2 (faultAt.after HA3.out.ks.below hf))
  clear hP HC3 hf
  go_wp2_with fail
  exact ⟨rfl,HF.out⟩
 have hba4:Below w4.heap.size w4 (w4.alloc (.cells #[.string kd4,.string nm4,.slice pa4 pn4 pc4,.slice la4 ln4 lc4,.slice ba4 bn4 bc4,.slice ea4 en4 ec4] 52)):=(Below.refl _ _).alloc (Nat.le_refl _) _
 have A4:=(HA3.out.go R4 K4).more hba4
 have hN4:(w4.alloc (.cells #[.string kd4,.string nm4,.slice pa4 pn4 pc4,.slice la4 ln4 lc4,.slice ba4 bn4 bc4,.slice ea4 en4 ec4] 52)).heap[w4.heap.size]?=some (.cells #[.string kd4,.string nm4,.slice pa4 pn4 pc4,.slice la4 ln4 lc4,.slice ba4 bn4 bc4,.slice ea4 en4 ec4] 52):=heap_alloc_new w4 _
 have hs4:=K4.below.size
 have hB4:=(hba4.block w2.heap.size (by omega)).trans ((K4.block w2.heap.size (by omega) hlt3).trans HB3.out)
 have hL4:=(HL3.out.same (S':=(fun b=>w.heap.size<b∧b≠w2.heap.size)) (K4.same (fun h=>by have:=h.1;omega)) (fun b hb _=>hb)).same (S':=(fun b=>w.heap.size<b∧b≠w2.heap.size)) (same_below hba4) (fun b hb _=>hb)
 have hS4:=(HS3.out.same (S':=(fun b=>w.heap.size<b∧b≠w2.heap.size)) (K4.same (fun h=>by have:=h.1;omega)) (fun b hb _=>hb)).same (S':=(fun b=>w.heap.size<b∧b≠w2.heap.size)) (same_below hba4) (fun b hb _=>hb)
 have hE4:RepSL (fun b=>w.heap.size<b∧b≠w2.heap.size) (w4.alloc (.cells #[.string kd4,.string nm4,.slice pa4 pn4 pc4,.slice la4 ln4 lc4,.slice ba4 bn4 bc4,.slice ea4 en4 ec4] 52)) (some ⟨w4.heap.size,0,none⟩) [s4]:=repSL_one hN4 ⟨by omega,by omega⟩ (hrep4.same (same_below hba4) (fun b hb _=>⟨by omega,by omega⟩))
 obtain ⟨s0,s1,s2,s3,s4',s5,sf⟩:=stmt_block hB4
 have sf5:=sf 5
 have sl:=lt_of_heap hB4
 have A6:=A4.put (b:=w2.heap.size) (o:=5) (v:=.slice (some ⟨w4.heap.size,0,none⟩) 1 1) (by omega)
 have hB6:=put_block (o:=5) (v:=.slice (some ⟨w4.heap.size,0,none⟩) 1 1) hB4 #[.string kIf,.string ⟨#[]⟩,.slice none 0 0,.slice la el.length lc,.slice ba ss.length bc,.slice (some ⟨w4.heap.size,0,none⟩) 1 1] rfl
 have hL6:=hL4.same (S':=(fun b=>w.heap.size<b∧b≠w2.heap.size)) (same_set (b:=w2.heap.size) (o:=5) (v:=.slice (some ⟨w4.heap.size,0,none⟩) 1 1) (fun h=>h.2 rfl)) (fun b hb _=>hb)
 have hS6:=hS4.same (S':=(fun b=>w.heap.size<b∧b≠w2.heap.size)) (same_set (b:=w2.heap.size) (o:=5) (v:=.slice (some ⟨w4.heap.size,0,none⟩) 1 1) (fun h=>h.2 rfl)) (fun b hb _=>hb)
 have hE6:=hE4.same (S':=(fun b=>w.heap.size<b∧b≠w2.heap.size)) (same_set (b:=w2.heap.size) (o:=5) (v:=.slice (some ⟨w4.heap.size,0,none⟩) 1 1) (fun h=>h.2 rfl)) (fun b hb _=>hb)
 have ho6:o = .ok (mkS kIf ⟨#[]⟩ [] el ss [s4],k4):=by
  rw [←HO.out,pChoice]
  simp only [HQ1.out,HQ2.out,markAt_of hx2,hm,cond_true,q4]
 have hZ:=(st_done (c0:=.string kIf) (c1:=.string ⟨#[]⟩) (c2:=.slice none 0 0) (c3:=.slice la el.length lc) (c4:=.slice ba ss.length bc) (c5:=.slice (some ⟨w4.heap.size,0,none⟩) 1 1) A6 (mkRepS (kd:=kIf) (nm:=⟨#[]⟩) (pl:=[]) (pc:=0) (lc:=lc) (bc:=bc) (ec:=1) (RepN.nil _ _ none) hL6 hS6 hE6) (fun b hb=>hb.1))
 have HZ:=toHid hZ
 obtain ⟨u0,u1,u2,u3,u4,u5,uf⟩:=stmt_block A6.b4
 have uf0:=uf 0
 have uf1:=uf 1
 have uf2:=uf 2
 have uf3:=uf 3
 have uf4:=uf 4
 have uf5:=uf 5
 have ul:=lt_of_heap A6.b4
 obtain ⟨v0,v1,v2,v3,v4,v5,_⟩:=stmt_block hB6
 have HO6:=toHid ho6
 clear hP HC3 hba4 A4 hN4 hB4 hL4 hS4 hE4 sf A6 hB6 hL6 hS6 hE6 hrep4 R4 K4 q4 uf ho6 hZ
 go_wp2_with fail
 obtain ⟨z1,z2,z3,z4⟩:=HZ.out
 refine bodyPost_ret (results_stmt _ 2 rfl _ _ w.heap.size _ _ _ _ _ _ rfl z1) rfl ?_
 rw [HO6.out]
 exact ⟨_,_,_,_,_,_,rfl,z2,z3,z4,by omega,hk4l⟩
 | false =>
 rw [hm,if_neg (by decide)] at R3
 have A3:=HA2.out.go R3 K3
 have HC3:=toHid (passMark_any A3.rd hx2 hl kElse)
 have HA3:=toHid A3
 clear R3 K3 A3
 go_wp2_with fail
 refine HC3.out.mono ?_
 rintro ev w4 ⟨rfl,R4,K4⟩
 have hs4:=K4.below.size
 have hB4:=(K4.block w2.heap.size (by omega) hlt3).trans HB3.out
 have hL4:=HL3.out.same (S':=(fun b=>w.heap.size<b∧b≠w2.heap.size)) (K4.same (fun h=>by have:=h.1;omega)) (fun b hb _=>hb)
 have hS4:=HS3.out.same (S':=(fun b=>w.heap.size<b∧b≠w2.heap.size)) (K4.same (fun h=>by have:=h.1;omega)) (fun b hb _=>hb)
 have hlt4:=lt_of_heap hB4
 cases hm2:markB x2 [kElse] with
 | true =>
 rw [hm2,if_pos rfl] at R4
 have hk3:=T.ok.hen.next hx2 hm2
 have A4:=HA3.out.go R4 K4
 have HC4:=toHid (HH2.out (k2+1) (by omega) hk3 _ A4.rd (HE.out.keeps A4.ks) (HX.out.keeps A4.ks))
 have HA4:=toHid A4
 have HB4:=toHid hB4
 have HL4:=toHid hL4
 have HS4:=toHid hS4
 clear R4 K4 A4 hB4 hL4 hS4 HC3
 go_wp2_with fail
 refine HC4.out.mono ?_
 intro ev w5 hP
 rcases hP.parts with ⟨es,k5,ea,ec,q5,rfl,hE5,R5,K5,hk5,hk5l⟩ | ⟨y,b,q5,rfl,hf⟩
 rotate_left
 ·have ho2:o = .error y:=by
   rw [←HO.out,pChoice]
   simp only [HQ1.out,HQ2.out,markAt_of hx2,hm,hm2,cond_true,cond_false,q5]
  have HF:=toHid (HPE.out _ _ _ ho2 (faultAt.after HA4.out.ks.below hf))
  clear hP HC4 hf
  go_wp2_with fail
  exact ⟨rfl,HF.out⟩
 have A5:=HA4.out.go R5 K5
 have hs5:=K5.below.size
 have hB5:=(K5.block w2.heap.size (by omega) hlt4).trans HB4.out
 have hL5:=HL4.out.same (S':=(fun b=>w.heap.size<b∧b≠w2.heap.size)) (K5.same (fun h=>by have:=h.1;omega)) (fun b hb _=>hb)
 have hS5:=HS4.out.same (S':=(fun b=>w.heap.size<b∧b≠w2.heap.size)) (K5.same (fun h=>by have:=h.1;omega)) (fun b hb _=>hb)
 obtain ⟨s0,s1,s2,s3,s4',s5,sf⟩:=stmt_block hB5
 have sf5:=sf 5
 have sl:=lt_of_heap hB5
 have A6:=A5.put (b:=w2.heap.size) (o:=5) (v:=.slice ea es.length ec) (by omega)
 have hB6:=put_block (o:=5) (v:=.slice ea es.length ec) hB5 #[.string kIf,.string ⟨#[]⟩,.slice none 0 0,.slice la el.length lc,.slice ba ss.length bc,.slice ea es.length ec] rfl
 have hL6:=hL5.same (S':=(fun b=>w.heap.size<b∧b≠w2.heap.size)) (same_set (b:=w2.heap.size) (o:=5) (v:=.slice ea es.length ec) (fun h=>h.2 rfl)) (fun b hb _=>hb)
 have hS6:=hS5.same (S':=(fun b=>w.heap.size<b∧b≠w2.heap.size)) (same_set (b:=w2.heap.size) (o:=5) (v:=.slice ea es.length ec) (fun h=>h.2 rfl)) (fun b hb _=>hb)
 have hE6:RepSL (fun b=>w.heap.size<b∧b≠w2.heap.size) (w5.setCell ⟨w2.heap.size,5,none⟩ (.slice ea es.length ec)) ea es:=hE5.same (same_set (by show ¬ (_≤w2.heap.size);omega)) (fun b hb _=>⟨by omega,by omega⟩)
 have ho6:o = .ok (mkS kIf ⟨#[]⟩ [] el ss es,k5):=by
  rw [←HO.out,pChoice]
  simp only [HQ1.out,HQ2.out,markAt_of hx2,hm,hm2,cond_true,cond_false,q5]
 have hZ:=(st_done (c0:=.string kIf) (c1:=.string ⟨#[]⟩) (c2:=.slice none 0 0) (c3:=.slice la el.length lc) (c4:=.slice ba ss.length bc) (c5:=.slice ea es.length ec) A6 (mkRepS (kd:=kIf) (nm:=⟨#[]⟩) (pl:=[]) (pc:=0) (lc:=lc) (bc:=bc) (ec:=ec) (RepN.nil _ _ none) hL6 hS6 hE6) (fun b hb=>hb.1))
 have HZ:=toHid hZ
 obtain ⟨u0,u1,u2,u3,u4,u5,uf⟩:=stmt_block A6.b4
 have uf0:=uf 0
 have uf1:=uf 1
 have uf2:=uf 2
 have uf3:=uf 3
 have uf4:=uf 4
 have uf5:=uf 5
 have ul:=lt_of_heap A6.b4
 obtain ⟨v0,v1,v2,v3,v4,v5,_⟩:=stmt_block hB6
 have HO6:=toHid ho6
 clear hP HC4 A5 hB5 hL5 hS5 hE5 sf A6 hB6 hL6 hS6 hE6 R5 K5 q5 uf ho6 hZ
 go_wp2_with fail
 obtain ⟨z1,z2,z3,z4⟩:=HZ.out
 refine bodyPost_ret (results_stmt _ 2 rfl _ _ w.heap.size _ _ _ _ _ _ rfl z1) rfl ?_
 rw [HO6.out]
 exact ⟨_,_,_,_,_,_,rfl,z2,z3,z4,by omega,hk5l⟩
 | false =>
 rw [hm2,if_neg (by decide)] at R4
 have A6:=HA3.out.go R4 K4
 have ho6:o = .ok (mkS kIf ⟨#[]⟩ [] el ss [],k2):=by
  rw [←HO.out,pChoice]
  simp only [HQ1.out,HQ2.out,markAt_of hx2,hm,hm2,cond_false]
 have hZ:=(st_done (c0:=.string kIf) (c1:=.string ⟨#[]⟩) (c2:=.slice none 0 0) (c3:=.slice la el.length lc) (c4:=.slice ba ss.length bc) (c5:=.slice none 0 0) A6 (mkRepS (kd:=kIf) (nm:=⟨#[]⟩) (pl:=[]) (pc:=0) (lc:=lc) (bc:=bc) (es:=[]) (ec:=0) (RepN.nil _ _ none) hL4 hS4 (RepSL.nil _ _ none)) (fun b hb=>hb.1))
 have HZ:=toHid hZ
 obtain ⟨u0,u1,u2,u3,u4,u5,uf⟩:=stmt_block A6.b4
 have uf0:=uf 0
 have uf1:=uf 1
 have uf2:=uf 2
 have uf3:=uf 3
 have uf4:=uf 4
 have uf5:=uf 5
 have ul:=lt_of_heap A6.b4
 obtain ⟨v0,v1,v2,v3,v4,v5,_⟩:=stmt_block hB4
 have HO6:=toHid ho6
 clear HC3 A6 hB4 hL4 hS4 R4 K4 uf ho6 hZ
 go_wp2_with fail
 obtain ⟨z1,z2,z3,z4⟩:=HZ.out
 refine bodyPost_ret (results_stmt _ 2 rfl _ _ w.heap.size _ _ _ _ _ _ rfl z1) rfl ?_
 rw [HO6.out]
 exact ⟨_,_,_,_,_,_,rfl,z2,z3,z4,by omega,hk2l⟩
end Go.Proofs.YtemapnogjepokaaGreatDoor

/- Package tree: statement (written by tools/tree/stmt.py). -/
namespace Go.Proofs.YtemapnogjepokaaGreatDoor
open Go.RowKit

def kWhile:ByteArray:=⟨#[119,104,105,108,101]⟩
def pWhile (one blk:Nat→Out (List (DataW Unit))) (k:Nat):Out (DataW Unit):=match one k with
 | .error y=>.error y
 | .ok (el,k1)=>match blk k1 with
  | .error y=>.error y
  | .ok (ss,k2)=>.ok (mkS kWhile ⟨#[]⟩ [] el ss [],k2)
def pStatement (l:List (ByteArray × ByteArray × Nat)) (choice whil each func att line:Nat→Out (DataW Unit)) (k:Nat):Out (DataW Unit):=
 bif markAt l k [kIf] then choice (k+1) else bif markAt l k [kWhile] then whil (k+1) else bif markAt l k [kFor] then each (k+1) else bif markAt l k [kDef] then func (k+1) else bif markAt l k [kTry] then att (k+1) else (match line k with
  | .error y=>.error y
  | .ok (s,k1)=>bif isKind l k1 [110,101,119,108,105,110,101] then .ok (s,k1+1) else .error (k1,false))

set_option maxHeartbeats 8000000 in
set_option maxRecDepth 100000 in
theorem statement_any {p g cap:Nat}{rk:Value}{l:List (ByteArray × ByteArray × Nat)}{k bl dp:Nat}{a0 a1:Addr}(T:TokS l) (hk:k<l.length) (one blk:Nat→Out (List (DataW Unit))) (choice each func att line:Nat→Out (DataW Unit))
  (h1:∀ k',k<k'→k'<l.length→ReadsL 78 #[.pointer (some ⟨p,0,none⟩)] p g cap rk l k' bl dp a0 a1 (one k'))
  (h2:∀ k',k<k'→k'<l.length→ReadsSL 79 #[.pointer (some ⟨p,0,none⟩)] p g cap rk l k' bl dp a0 a1 (blk k'))
  (hC:∀ k',k<k'→k'<l.length→ReadsS 77 #[.pointer (some ⟨p,0,none⟩)] p g cap rk l k' bl dp a0 a1 (choice k'))
  (hE:∀ k',k<k'→k'<l.length→ReadsS 80 #[.pointer (some ⟨p,0,none⟩)] p g cap rk l k' bl dp a0 a1 (each k'))
  (hF:∀ k',k<k'→k'<l.length→ReadsS 81 #[.pointer (some ⟨p,0,none⟩)] p g cap rk l k' bl dp a0 a1 (func k'))
  (hA:∀ k',k<k'→k'<l.length→ReadsS 82 #[.pointer (some ⟨p,0,none⟩)] p g cap rk l k' bl dp a0 a1 (att k'))
  (hL:ReadsS 83 #[.pointer (some ⟨p,0,none⟩)] p g cap rk l k bl dp a0 a1 (line k)):ReadsS 61 #[.pointer (some ⟨p,0,none⟩)] p g cap rk l k bl dp a0 a1 (pStatement l choice (pWhile one blk) each func att line k):=by
 intro w R E X
 have hl:=T.ok.hl
 have A0:=st_start R
 have HE:=toHid E
 have HX:=toHid X
 obtain ⟨o,ho⟩:∃ o,pStatement l choice (pWhile one blk) each func att line k=o:=⟨_,rfl⟩
 rw [ho]
 have HO:=toHid ho
 have HPE:Hid (∀ y ev w',o = .error y→faultAt l p a0 a1 w y ev w'→PostS (fun b=>w.heap.size≤b) p g cap rk l k bl dp a0 a1 w o ev w'):=by
  rintro y ev w' rfl h
  exact h
 have hpl:=A0.pl
 have hgl:=A0.gl
 obtain ⟨x,hx⟩:∃ x,l[k]?=some x:=⟨l[k],by simp [hk]⟩
 have hs0:(w.alloc (.cells #[.string ⟨#[]⟩,.string ⟨#[]⟩,.slice none 0 0,.slice none 0 0,.slice none 0 0,.slice none 0 0] 52)).heap.size=w.heap.size+1:=by simp
 have HA0:=toHid A0
 have HP0:=toHid (passMark_any A0.rd hx hl kIf)
 have HH1:=toHid h1
 have HH2:=toHid h2
 have HHC:=toHid hC
 have HHE:=toHid hE
 have HHF:=toHid hF
 have HHA:=toHid hA
 have HHL:=toHid hL
 have HMX:=toHid (fun t=>markAt_of hx [t])
 have HKK:Hid (∀ ts,markB x ts=true→k+1<l.length):=fun ts h=>T.ok.hen.next hx h
 have HHX:=toHid hx
 clear R E X A0 ho h1 h2 hC hE hF hA hL hx
 go_enter Tryz.func61,Tryz.ntmps61
 go_wp2_with fail
 refine HP0.out.mono ?_
 rintro ev w1 ⟨rfl,R0,K0⟩
 have hz0:=K0.below.size
 rw [hs0] at hz0
 cases hm0:markB x [kIf] with
 | true =>
 rw [hm0,if_pos rfl] at R0
 have hk1:=HKK.out _ hm0
 have A':=HA0.out.go R0 K0
 have HA':=toHid A'
 have HC:=toHid (HHC.out (k+1) (by omega) hk1 _ A'.rd (HE.out.keeps A'.ks) (HX.out.keeps A'.ks))
 clear R0 K0 A' HP0
 go_wp2_with fail
 refine HC.out.mono ?_
 intro ev w9 hP
 rcases hP.parts with ⟨s4,k4,kd4,nm4,pa4,pn4,pc4,la4,ln4,lc4,ba4,bn4,bc4,ea4,en4,ec4,q4,rfl,hrep4,R4,K4,hk4,hk4l⟩ | ⟨y,b,q4,rfl,hf⟩
 rotate_left
 ·have ho2:o = .error y:=by
   rw [←HO.out,pStatement]
   rw [HMX.out,hm0,cond_true,q4]
  have HF:=toHid (HPE.out _ _ _ ho2 (faultAt.after HA'.out.ks.below hf))
  clear hP HC hf
  go_wp2_with fail
  exact ⟨rfl,HF.out⟩
 have A9:=HA'.out.go R4 K4
 have ho6:o = .ok (s4,k4):=by
  rw [←HO.out,pStatement]
  rw [HMX.out,hm0,cond_true,q4]
 have hZ:=st_done (c0:=.string kd4) (c1:=.string nm4) (c2:=.slice pa4 pn4 pc4) (c3:=.slice la4 ln4 lc4) (c4:=.slice ba4 bn4 bc4) (c5:=.slice ea4 en4 ec4) A9 (hrep4) (fun b hb=>by omega)
 have HZ:=toHid hZ
 obtain ⟨u0,u1,u2,u3,u4,u5,uf⟩:=stmt_block A9.b4
 have uf0:=uf 0
 have uf1:=uf 1
 have uf2:=uf 2
 have uf3:=uf 3
 have uf4:=uf 4
 have uf5:=uf 5
 have ul:=lt_of_heap A9.b4
 have HO6:=toHid ho6
 clear hP HC A9 hrep4 R4 K4 q4 uf ho6 hZ
 go_wp2_with fail
 obtain ⟨z1,z2,z3,z4⟩:=HZ.out
 refine bodyPost_ret (results_stmt _ 2 rfl _ _ w.heap.size _ _ _ _ _ _ rfl z1) rfl ?_
 rw [HO6.out]
 exact ⟨_,_,_,_,_,_,rfl,z2,z3,z4,by omega,hk4l⟩
 | false =>
 rw [hm0,if_neg (by decide)] at R0
 have A1:=HA0.out.go R0 K0
 have HA1:=toHid A1
 have HP1:=toHid (passMark_any A1.rd HHX.out hl kWhile)
 clear R0 K0 A1 HP0
 go_wp2_with fail
 refine HP1.out.mono ?_
 rintro ev w2 ⟨rfl,R1,K1⟩
 have hz1:=K1.below.size
 cases hm1:markB x [kWhile] with
 | true =>
 rw [hm1,if_pos rfl] at R1
 have hk1:=HKK.out _ hm1
 have A':=HA1.out.go R1 K1
 have HA':=toHid A'
 have HC:=toHid (HH1.out (k+1) (by omega) hk1 _ A'.rd (HE.out.keeps A'.ks) (HX.out.keeps A'.ks))
 clear R1 K1 A' HP1
 go_wp2_with fail
 refine HC.out.mono ?_
 intro ev w8 hP
 rcases hP.parts with ⟨el,k3,la,lc,q3,rfl,hL3,R3,K3,hk3,hk3l,hcap⟩ | ⟨y,b,q3,rfl,hf⟩
 rotate_left
 ·have ho2:o = .error y:=by
   rw [←HO.out,pStatement]
   rw [HMX.out,hm0,cond_false,HMX.out,hm1,cond_true,pWhile,q3]
  have HF:=toHid (HPE.out _ _ _ ho2 (faultAt.after HA'.out.ks.below hf))
  clear hP HC hf
  go_wp2_with fail
  exact ⟨rfl,HF.out⟩
 have A8:=HA'.out.go R3 K3
 have hs8:=K3.below.size
 have HC8:=toHid (HH2.out k3 (by omega) hk3l _ A8.rd (HE.out.keeps A8.ks) (HX.out.keeps A8.ks))
 have HA8:=toHid A8
 have HL3:=toHid hL3
 have HQ3:=toHid q3
 clear hP HC R3 K3 A8 hL3 q3
 go_wp2_with fail
 refine HC8.out.mono ?_
 intro ev w9 hP
 rcases hP.parts with ⟨ss,k4,ba,bc,q4,rfl,hS4,R4,K4,hk4,hk4l⟩ | ⟨y,b,q4,rfl,hf⟩
 rotate_left
 ·have ho2:o = .error y:=by
   rw [←HO.out,pStatement]
   rw [HMX.out,hm0,cond_false,HMX.out,hm1,cond_true,pWhile,HQ3.out]
   simp only [q4]
  have HF:=toHid (HPE.out _ _ _ ho2 (faultAt.after HA8.out.ks.below hf))
  clear hP HC8 hf
  go_wp2_with fail
  exact ⟨rfl,HF.out⟩
 have A9:=HA8.out.go R4 K4
 have hL9:RepL (fun b=>w.heap.size<b) w9 la el:=HL3.out.same (K4.same (by show ¬ (_≤p);omega)) (fun b hb _=>by show w.heap.size<b;omega)
 have hS9:RepSL (fun b=>w.heap.size<b) w9 ba ss:=hS4.same (fun _ _ _=>rfl) (fun b hb _=>by show w.heap.size<b;omega)
 have ho6:o = .ok (mkS kWhile ⟨#[]⟩ [] el ss [],k4):=by
  rw [←HO.out,pStatement]
  rw [HMX.out,hm0,cond_false,HMX.out,hm1,cond_true,pWhile,HQ3.out]
  simp only [q4]
 have hZ:=st_done (c0:=.string kWhile) (c1:=.string ⟨#[]⟩) (c2:=.slice none 0 0) (c3:=.slice la el.length lc) (c4:=.slice ba ss.length bc) (c5:=.slice none 0 0) A9 (mkRepS (kd:=kWhile) (nm:=⟨#[]⟩) (pl:=[]) (es:=[]) (pc:=0) (lc:=lc) (bc:=bc) (ec:=0) (RepN.nil _ _ none) hL9 hS9 (RepSL.nil _ _ none)) (fun b hb=>hb)
 have HZ:=toHid hZ
 obtain ⟨u0,u1,u2,u3,u4,u5,uf⟩:=stmt_block A9.b4
 have uf0:=uf 0
 have uf1:=uf 1
 have uf2:=uf 2
 have uf3:=uf 3
 have uf4:=uf 4
 have uf5:=uf 5
 have ul:=lt_of_heap A9.b4
 have HO6:=toHid ho6
 clear hP HC8 A9 hL9 hS9 hS4 R4 K4 q4 uf ho6 hZ
 go_wp2_with fail
 obtain ⟨z1,z2,z3,z4⟩:=HZ.out
 refine bodyPost_ret (results_stmt _ 2 rfl _ _ w.heap.size _ _ _ _ _ _ rfl z1) rfl ?_
 rw [HO6.out]
 exact ⟨_,_,_,_,_,_,rfl,z2,z3,z4,by omega,hk4l⟩
 | false =>
 rw [hm1,if_neg (by decide)] at R1
 have A2:=HA1.out.go R1 K1
 have HA2:=toHid A2
 have HP2:=toHid (passMark_any A2.rd HHX.out hl kFor)
 clear R1 K1 A2 HP1
 go_wp2_with fail
 refine HP2.out.mono ?_
 rintro ev w3 ⟨rfl,R2,K2⟩
 have hz2:=K2.below.size
 cases hm2:markB x [kFor] with
 | true =>
 rw [hm2,if_pos rfl] at R2
 have hk1:=HKK.out _ hm2
 have A':=HA2.out.go R2 K2
 have HA':=toHid A'
 have HC:=toHid (HHE.out (k+1) (by omega) hk1 _ A'.rd (HE.out.keeps A'.ks) (HX.out.keeps A'.ks))
 clear R2 K2 A' HP2
 go_wp2_with fail
 refine HC.out.mono ?_
 intro ev w9 hP
 rcases hP.parts with ⟨s4,k4,kd4,nm4,pa4,pn4,pc4,la4,ln4,lc4,ba4,bn4,bc4,ea4,en4,ec4,q4,rfl,hrep4,R4,K4,hk4,hk4l⟩ | ⟨y,b,q4,rfl,hf⟩
 rotate_left
 ·have ho2:o = .error y:=by
   rw [←HO.out,pStatement]
   rw [HMX.out,hm0,cond_false,HMX.out,hm1,cond_false,HMX.out,hm2,cond_true,q4]
  have HF:=toHid (HPE.out _ _ _ ho2 (faultAt.after HA'.out.ks.below hf))
  clear hP HC hf
  go_wp2_with fail
  exact ⟨rfl,HF.out⟩
 have A9:=HA'.out.go R4 K4
 have ho6:o = .ok (s4,k4):=by
  rw [←HO.out,pStatement]
  rw [HMX.out,hm0,cond_false,HMX.out,hm1,cond_false,HMX.out,hm2,cond_true,q4]
 have hZ:=st_done (c0:=.string kd4) (c1:=.string nm4) (c2:=.slice pa4 pn4 pc4) (c3:=.slice la4 ln4 lc4) (c4:=.slice ba4 bn4 bc4) (c5:=.slice ea4 en4 ec4) A9 (hrep4) (fun b hb=>by omega)
 have HZ:=toHid hZ
 obtain ⟨u0,u1,u2,u3,u4,u5,uf⟩:=stmt_block A9.b4
 have uf0:=uf 0
 have uf1:=uf 1
 have uf2:=uf 2
 have uf3:=uf 3
 have uf4:=uf 4
 have uf5:=uf 5
 have ul:=lt_of_heap A9.b4
 have HO6:=toHid ho6
 clear hP HC A9 hrep4 R4 K4 q4 uf ho6 hZ
 go_wp2_with fail
 obtain ⟨z1,z2,z3,z4⟩:=HZ.out
 refine bodyPost_ret (results_stmt _ 2 rfl _ _ w.heap.size _ _ _ _ _ _ rfl z1) rfl ?_
 rw [HO6.out]
 exact ⟨_,_,_,_,_,_,rfl,z2,z3,z4,by omega,hk4l⟩
 | false =>
 rw [hm2,if_neg (by decide)] at R2
 have A3:=HA2.out.go R2 K2
 have HA3:=toHid A3
 have HP3:=toHid (passMark_any A3.rd HHX.out hl kDef)
 clear R2 K2 A3 HP2
 go_wp2_with fail
 refine HP3.out.mono ?_
 rintro ev w4 ⟨rfl,R3,K3⟩
 have hz3:=K3.below.size
 cases hm3:markB x [kDef] with
 | true =>
 rw [hm3,if_pos rfl] at R3
 have hk1:=HKK.out _ hm3
 have A':=HA3.out.go R3 K3
 have HA':=toHid A'
 have HC:=toHid (HHF.out (k+1) (by omega) hk1 _ A'.rd (HE.out.keeps A'.ks) (HX.out.keeps A'.ks))
 clear R3 K3 A' HP3
 go_wp2_with fail
 refine HC.out.mono ?_
 intro ev w9 hP
 rcases hP.parts with ⟨s4,k4,kd4,nm4,pa4,pn4,pc4,la4,ln4,lc4,ba4,bn4,bc4,ea4,en4,ec4,q4,rfl,hrep4,R4,K4,hk4,hk4l⟩ | ⟨y,b,q4,rfl,hf⟩
 rotate_left
 ·have ho2:o = .error y:=by
   rw [←HO.out,pStatement]
   rw [HMX.out,hm0,cond_false,HMX.out,hm1,cond_false,HMX.out,hm2,cond_false,HMX.out,hm3,cond_true,q4]
  have HF:=toHid (HPE.out _ _ _ ho2 (faultAt.after HA'.out.ks.below hf))
  clear hP HC hf
  go_wp2_with fail
  exact ⟨rfl,HF.out⟩
 have A9:=HA'.out.go R4 K4
 have ho6:o = .ok (s4,k4):=by
  rw [←HO.out,pStatement]
  rw [HMX.out,hm0,cond_false,HMX.out,hm1,cond_false,HMX.out,hm2,cond_false,HMX.out,hm3,cond_true,q4]
 have hZ:=st_done (c0:=.string kd4) (c1:=.string nm4) (c2:=.slice pa4 pn4 pc4) (c3:=.slice la4 ln4 lc4) (c4:=.slice ba4 bn4 bc4) (c5:=.slice ea4 en4 ec4) A9 (hrep4) (fun b hb=>by omega)
 have HZ:=toHid hZ
 obtain ⟨u0,u1,u2,u3,u4,u5,uf⟩:=stmt_block A9.b4
 have uf0:=uf 0
 have uf1:=uf 1
 have uf2:=uf 2
 have uf3:=uf 3
 have uf4:=uf 4
 have uf5:=uf 5
 have ul:=lt_of_heap A9.b4
 have HO6:=toHid ho6
 clear hP HC A9 hrep4 R4 K4 q4 uf ho6 hZ
 go_wp2_with fail
 obtain ⟨z1,z2,z3,z4⟩:=HZ.out
 refine bodyPost_ret (results_stmt _ 2 rfl _ _ w.heap.size _ _ _ _ _ _ rfl z1) rfl ?_
 rw [HO6.out]
 exact ⟨_,_,_,_,_,_,rfl,z2,z3,z4,by omega,hk4l⟩
 | false =>
 rw [hm3,if_neg (by decide)] at R3
 have A4:=HA3.out.go R3 K3
 have HA4:=toHid A4
 have HP4:=toHid (passMark_any A4.rd HHX.out hl kTry)
 clear R3 K3 A4 HP3
 go_wp2_with fail
 refine HP4.out.mono ?_
 rintro ev w5 ⟨rfl,R4,K4⟩
 have hz4:=K4.below.size
 cases hm4:markB x [kTry] with
 | true =>
 rw [hm4,if_pos rfl] at R4
 have hk1:=HKK.out _ hm4
 have A':=HA4.out.go R4 K4
 have HA':=toHid A'
 have HC:=toHid (HHA.out (k+1) (by omega) hk1 _ A'.rd (HE.out.keeps A'.ks) (HX.out.keeps A'.ks))
 clear R4 K4 A' HP4
 go_wp2_with fail
 refine HC.out.mono ?_
 intro ev w9 hP
 rcases hP.parts with ⟨s4,k4,kd4,nm4,pa4,pn4,pc4,la4,ln4,lc4,ba4,bn4,bc4,ea4,en4,ec4,q4,rfl,hrep4,R4,K4,hk4,hk4l⟩ | ⟨y,b,q4,rfl,hf⟩
 rotate_left
 ·have ho2:o = .error y:=by
   rw [←HO.out,pStatement]
   rw [HMX.out,hm0,cond_false,HMX.out,hm1,cond_false,HMX.out,hm2,cond_false,HMX.out,hm3,cond_false,HMX.out,hm4,cond_true,q4]
  have HF:=toHid (HPE.out _ _ _ ho2 (faultAt.after HA'.out.ks.below hf))
  clear hP HC hf
  go_wp2_with fail
  exact ⟨rfl,HF.out⟩
 have A9:=HA'.out.go R4 K4
 have ho6:o = .ok (s4,k4):=by
  rw [←HO.out,pStatement]
  rw [HMX.out,hm0,cond_false,HMX.out,hm1,cond_false,HMX.out,hm2,cond_false,HMX.out,hm3,cond_false,HMX.out,hm4,cond_true,q4]
 have hZ:=st_done (c0:=.string kd4) (c1:=.string nm4) (c2:=.slice pa4 pn4 pc4) (c3:=.slice la4 ln4 lc4) (c4:=.slice ba4 bn4 bc4) (c5:=.slice ea4 en4 ec4) A9 (hrep4) (fun b hb=>by omega)
 have HZ:=toHid hZ
 obtain ⟨u0,u1,u2,u3,u4,u5,uf⟩:=stmt_block A9.b4
 have uf0:=uf 0
 have uf1:=uf 1
 have uf2:=uf 2
 have uf3:=uf 3
 have uf4:=uf 4
 have uf5:=uf 5
 have ul:=lt_of_heap A9.b4
 have HO6:=toHid ho6
 clear hP HC A9 hrep4 R4 K4 q4 uf ho6 hZ
 go_wp2_with fail
 obtain ⟨z1,z2,z3,z4⟩:=HZ.out
 refine bodyPost_ret (results_stmt _ 2 rfl _ _ w.heap.size _ _ _ _ _ _ rfl z1) rfl ?_
 rw [HO6.out]
 exact ⟨_,_,_,_,_,_,rfl,z2,z3,z4,by omega,hk4l⟩
 | false =>
 rw [hm4,if_neg (by decide)] at R4
 have A5:=HA4.out.go R4 K4
 have HA5:=toHid A5
 have HC:=toHid (HHL.out _ A5.rd (HE.out.keeps A5.ks) (HX.out.keeps A5.ks))
 clear R4 K4 A5 HP4
 go_wp2_with fail
 refine HC.out.mono ?_
 intro ev w8 hP
 rcases hP.parts with ⟨s4,k4,kd4,nm4,pa4,pn4,pc4,la4,ln4,lc4,ba4,bn4,bc4,ea4,en4,ec4,q4,rfl,hrep4,R4,K4,hk4,hk4l⟩ | ⟨y,b,q4,rfl,hf⟩
 rotate_left
 ·have ho2:o = .error y:=by
   rw [←HO.out,pStatement]
   rw [HMX.out,hm0,cond_false,HMX.out,hm1,cond_false,HMX.out,hm2,cond_false,HMX.out,hm3,cond_false,HMX.out,hm4,cond_false,q4]
  have HF:=toHid (HPE.out _ _ _ ho2 (faultAt.after HA5.out.ks.below hf))
  clear hP HC hf
  go_wp2_with fail
  exact ⟨rfl,HF.out⟩
 obtain ⟨x4,hx4⟩:∃ x,l[k4]?=some x:=⟨l[k4],by simp [hk4l]⟩
 have hba8:Below w8.heap.size w8 (w8.alloc (.cells #[.string kd4,.string nm4,.slice pa4 pn4 pc4,.slice la4 ln4 lc4,.slice ba4 bn4 bc4,.slice ea4 en4 ec4] 52)):=(Below.refl _ _).alloc (Nat.le_refl _) _
 have hs8:=K4.below.size
 have A8:=(HA5.out.go R4 K4).more hba8
 have hB8:(w8.alloc (.cells #[.string kd4,.string nm4,.slice pa4 pn4 pc4,.slice la4 ln4 lc4,.slice ba4 bn4 bc4,.slice ea4 en4 ec4] 52)).heap[w8.heap.size]?=some (.cells #[.string kd4,.string nm4,.slice pa4 pn4 pc4,.slice la4 ln4 lc4,.slice ba4 bn4 bc4,.slice ea4 en4 ec4] 52):=heap_alloc_new w8 _
 have hrep8:=hrep4.same (S':=fun b=>w.heap.size<b) (same_below hba8) (fun b hb _=>by show w.heap.size<b;omega)
 have HA8:=toHid A8
 have HB8:=toHid hB8
 have HRP:=toHid hrep8
 have HQ4:=toHid q4
 cases hn:isKind l k4 [110,101,119,108,105,110,101] with
 | false =>
 have hn':=(isKind_of hx4 [110,101,119,108,105,110,101]).symm.trans hn
 have HC8:=toHid (need_fail A8.rd (HE.out.keeps A8.ks) hx4 ⟨#[110,101,119,108,105,110,101]⟩ (by rw [bytesNL];exact hn'))
 clear hP HC R4 K4 A8 hrep4 q4 hba8 hB8 hrep8
 go_wp2_with fail
 refine HC8.out.mono ?_
 rintro ev w9 ⟨t,g1,b,rfl,g2⟩
 have ho2:o = .error (k4,false):=by
  rw [←HO.out,pStatement]
  rw [HMX.out,hm0,cond_false,HMX.out,hm1,cond_false,HMX.out,hm2,cond_false,HMX.out,hm3,cond_false,HMX.out,hm4,cond_false,HQ4.out]
  simp only [hn,cond_false]
 have HF:=toHid (HPE.out _ _ _ ho2 (faultAt.after HA8.out.ks.below ⟨t,g1,b,rfl,g2⟩))
 clear g1 g2 HC8
 go_wp2_with fail
 exact ⟨rfl,HF.out⟩
 | true =>
 have hn':=(isKind_of hx4 [110,101,119,108,105,110,101]).symm.trans hn
 have hk5:=T.next hn (by decide)
 have HC8:=toHid (need_any A8.rd hx4 hl ⟨#[110,101,119,108,105,110,101]⟩ (by rw [bytesNL];exact hn'))
 clear hP HC R4 K4 A8 hrep4 q4 hba8 hB8 hrep8
 go_wp2_with fail
 refine HC8.out.mono ?_
 rintro ev w9 ⟨rfl,R9,K9⟩
 have A9:=HA8.out.go R9 K9
 have hrep9:=HRP.out.same (S':=fun b=>w.heap.size<b) (K9.same (by show ¬ (_<p);omega)) (fun b hb _=>hb)
 have hB9:=(K9.block w8.heap.size (by omega) (lt_of_heap HB8.out)).trans HB8.out
 obtain ⟨v0,v1,v2,v3,v4,v5,_⟩:=stmt_block hB9
 have vl:=lt_of_heap hB9
 have ho6:o = .ok (s4,k4+1):=by
  rw [←HO.out,pStatement]
  rw [HMX.out,hm0,cond_false,HMX.out,hm1,cond_false,HMX.out,hm2,cond_false,HMX.out,hm3,cond_false,HMX.out,hm4,cond_false,HQ4.out]
  simp only [hn,cond_true]
 have hZ:=st_done (c0:=.string kd4) (c1:=.string nm4) (c2:=.slice pa4 pn4 pc4) (c3:=.slice la4 ln4 lc4) (c4:=.slice ba4 bn4 bc4) (c5:=.slice ea4 en4 ec4) A9 (hrep9) (fun b hb=>hb)
 have HZ:=toHid hZ
 obtain ⟨u0,u1,u2,u3,u4,u5,uf⟩:=stmt_block A9.b4
 have uf0:=uf 0
 have uf1:=uf 1
 have uf2:=uf 2
 have uf3:=uf 3
 have uf4:=uf 4
 have uf5:=uf 5
 have ul:=lt_of_heap A9.b4
 have HO6:=toHid ho6
 clear HC8 A9 hrep9 R9 K9 hB9 uf ho6 hZ
 go_wp2_with fail
 obtain ⟨z1,z2,z3,z4⟩:=HZ.out
 refine bodyPost_ret (results_stmt _ 2 rfl _ _ w.heap.size _ _ _ _ _ _ rfl z1) rfl ?_
 rw [HO6.out]
 exact ⟨_,_,_,_,_,_,rfl,z2,z3,z4,by omega,hk5⟩
end Go.Proofs.YtemapnogjepokaaGreatDoor

/- Package tree: every statement. -/
namespace Go.Proofs.YtemapnogjepokaaGreatDoor
open Go.RowKit

def dedentB:ByteArray:=⟨#[100,101,100,101,110,116]⟩
def endB:ByteArray:=⟨#[101,110,100]⟩
def pOneAt (l:List (ByteArray × ByteArray × Nat)) (k:Nat):Out (List (DataW Unit)):=pOne (pTerm l k)
def pStmtIn (l:List (ByteArray × ByteArray × Nat)) (blk:Nat→Out (List (DataW Unit))) (k:Nat):Out (DataW Unit):=
 pStatement l (fun k=>pChoice l (pOneAt l) blk l.length k) (pWhile (pOneAt l) blk) (pEach l (pOneAt l) blk) (pFunc l blk) (pAttempt l blk) (pLine l (pTerm l) (pOneAt l) (pTermSet l (pTerm l))) k
def pStmtAt (l:List (ByteArray × ByteArray × Nat)):Nat→Nat→Out (DataW Unit)
 | 0,k=>.error (k,false)
 | d+1,k=>pStmtIn l (pBlockOf l (12 - d) (fun k'=>pStmts l dedentB.toList (pStmtAt l d) (l.length+1) [] k')) k
theorem statementAt {p g cap:Nat}{rk:Value}{l:List (ByteArray × ByteArray × Nat)}{a0 a1:Addr}(T:TokS l):∀ (d bl k:Nat),bl+d=12→k<l.length→ReadsS 61 #[.pointer (some ⟨p,0,none⟩)] p g cap rk l k bl 0 a0 a1 (pStmtAt l (d+1) k):=by
 intro d
 induction d with
 | zero =>
  intro bl k hbl hk
  have hb:bl=12 - 0:=by omega
  unfold pStmtAt pStmtIn
  have H1:∀ k',k<k'→k'<l.length→ReadsL 78 #[.pointer (some ⟨p,0,none⟩)] p g cap rk l k' bl 0 a0 a1 (pOneAt l k'):=fun k' _ h=>oneAt T.ok h
  have H2:∀ k',k<k'→k'<l.length→ReadsSL 79 #[.pointer (some ⟨p,0,none⟩)] p g cap rk l k' bl 0 a0 a1 (pBlockOf l (12 - 0) (fun k'=>pStmts l dedentB.toList (pStmtAt l 0) (l.length+1) [] k') k'):=fun k' _ h=>by
   rw [←hb]
   exact blockOf_any T h (by omega) _ (fun k'' _ _ h3=>by omega)
  exact statement_any T hk _ _ _ _ _ _ _ H1 H2 (fun k' h1 h2=>choice_any (lo:=k+1) T _ _ (fun k' h=>H1 k' h) (fun k' h=>H2 k' h) l.length k' h1 h2 (by omega)) (fun k' h1 h2=>each_any T h2 _ _ (fun k2 h=>H1 k2 (by omega)) (fun k2 h=>H2 k2 (by omega))) (fun k' h1 h2=>function_any T h2 _ (fun k2 h=>H2 k2 (by omega))) (fun k' h1 h2=>attempt_any T h2 _ (fun k2 h=>H2 k2 (by omega))) (tline_any T hk _ _ _ (fun k' _ h=>termAt T.ok h) H1 (termOrSet_any T hk _ (term_ix l) (fun k' _ h=>termAt T.ok h)))
 | succ d IH =>
  intro bl k hbl hk
  have hb:bl=12 - (d+1):=by omega
  unfold pStmtAt pStmtIn
  have H1:∀ k',k<k'→k'<l.length→ReadsL 78 #[.pointer (some ⟨p,0,none⟩)] p g cap rk l k' bl 0 a0 a1 (pOneAt l k'):=fun k' _ h=>oneAt T.ok h
  have H2:∀ k',k<k'→k'<l.length→ReadsSL 79 #[.pointer (some ⟨p,0,none⟩)] p g cap rk l k' bl 0 a0 a1 (pBlockOf l (12 - (d+1)) (fun k'=>pStmts l dedentB.toList (pStmtAt l (d+1)) (l.length+1) [] k') k'):=fun k' _ h=>by
   rw [←hb]
   exact blockOf_any T h (by omega) _ (fun k'' _ h2 _=>statements_any dedentB T h2 _ (fun k3 _ h4=>IH (bl+1) k3 (by omega) h4))
  exact statement_any T hk _ _ _ _ _ _ _ H1 H2 (fun k' h1 h2=>choice_any (lo:=k+1) T _ _ (fun k' h=>H1 k' h) (fun k' h=>H2 k' h) l.length k' h1 h2 (by omega)) (fun k' h1 h2=>each_any T h2 _ _ (fun k2 h=>H1 k2 (by omega)) (fun k2 h=>H2 k2 (by omega))) (fun k' h1 h2=>function_any T h2 _ (fun k2 h=>H2 k2 (by omega))) (fun k' h1 h2=>attempt_any T h2 _ (fun k2 h=>H2 k2 (by omega))) (tline_any T hk _ _ _ (fun k' _ h=>termAt T.ok h) H1 (termOrSet_any T hk _ (term_ix l) (fun k' _ h=>termAt T.ok h)))
def pRead (l:List (ByteArray × ByteArray × Nat)):Out (List (DataW Unit)):=pStmts l endB.toList (pStmtAt l 12) (l.length+1) [] 0
theorem programAt {p g cap:Nat}{rk:Value}{l:List (ByteArray × ByteArray × Nat)}{a0 a1:Addr}(T:TokS l) (hl:0<l.length):ReadsSL 40 #[.pointer (some ⟨p,0,none⟩),.string endB] p g cap rk l 0 1 0 a0 a1 (pRead l):=
 statements_any endB T hl _ (fun k _ h=>statementAt T 11 1 k rfl h)
end Go.Proofs.YtemapnogjepokaaGreatDoor

/- Package lex: kinds of what Lex comes to; what package tree's reader asks of its tokens. -/
namespace Go.Proofs.YtemapnogjepokaaGreatDoor
open Go.RowKit

theorem cells_inj:∀ l m:List (ByteArray × ByteArray × Nat),cellsOf l=cellsOf m→l=m
 | [],[],_=>rfl
 | [],y::m,h=>by simp [cellsOf,tokCells] at h
 | x::l,[],h=>by simp [cellsOf,tokCells] at h
 | (k,t,o)::l,(k',t',o')::m,h=>by
  have h2:tokCells k t o++cellsOf l=tokCells k' t' o'++cellsOf m:=h
  simp [tokCells] at h2
  obtain ⟨rfl,rfl,h3,h4⟩:=h2
  have:o=o':=by omega
  subst this
  rw [cells_inj l m h4]
def isEndB (k:ByteArray):Bool:=k.toList == [101,110,100]
def KTok (x:ByteArray × ByteArray × Nat):Prop:=isEndB x.1=false∧(isIntB x=true → ∃ v,Lib.parseIntB 64 x.2.1.data.toList = .ok v)
theorem ktok_plain {k:ByteArray}(h1:isEndB k=false) (h2:(k.toList == [105,110,116])=false) (t:ByteArray) (o:Nat):KTok (k,t,o):=⟨h1,fun h=>by
 have h3:(k.toList == [105,110,116])=true:=h
 rw [h2] at h3
 cases h3⟩
theorem tokL_kt {L:List UInt8}{k t:ByteArray}{m:Nat}(h:tokL L=some (k,t,m)) (o:Nat):KTok (k,t,o):=by
 cases L with
 | nil=>simp [tokL] at h
 | cons c L =>
  have hr:tokL (c::L)=if smallB (c.toNat:Int) || capitalB (c.toNat:Int) then (nameL c L).map fun x=>(if x.1 then kWord else kName,x.2.1,x.2.2)
   else if digitB (c.toNat:Int) then (intL c L).map fun x=>(kInt,x.1,x.2)
   else if (c.toNat:Int) == 34 then (strL (L.length+1) L []).map fun x=>(kStr,strOfNums x.1,x.2+1)
   else (opL (c::L) 21 0).map fun x=>(kOp,x.1,x.2):=rfl
  rw [hr] at h
  split at h
  ·simp only [Option.map_eq_some_iff] at h
   obtain ⟨z,hz,he⟩:=h
   simp only [Prod.mk.injEq] at he
   rw [←he.1]
   split
   ·exact ktok_plain (by kernel_rfl) (by kernel_rfl) _ _
   ·exact ktok_plain (by kernel_rfl) (by kernel_rfl) _ _
  ·split at h
   ·simp only [Option.map_eq_some_iff,Prod.mk.injEq] at h
    obtain ⟨z,hz,he,ht,_⟩:=h
    refine ⟨by rw [←he];kernel_rfl,fun _ => ?_⟩
    unfold intL at hz
    simp only at hz
    split at hz
    ·cases hz
    ·split at hz
     next v hv =>
      simp only [Option.some.injEq] at hz
      rw [←hz] at ht
      simp only at ht
      rw [←ht]
      exact ⟨v,hv⟩
     next=>cases hz
   ·split at h
    ·simp only [Option.map_eq_some_iff,Prod.mk.injEq] at h
     obtain ⟨z,hz,he,_⟩:=h
     rw [←he]
     exact ktok_plain (by kernel_rfl) (by kernel_rfl) _ _
    ·simp only [Option.map_eq_some_iff,Prod.mk.injEq] at h
     obtain ⟨z,hz,he,_⟩:=h
     rw [←he]
     exact ktok_plain (by kernel_rfl) (by kernel_rfl) _ _
theorem restL_kt:∀ (f:Nat) (L:List UInt8) (o:Nat) (l:List (ByteArray × ByteArray × Nat)),restL f L o = .ok l → ∀ x∈l,KTok x
 | 0,_,_,_,h=>by cases h
 | f+1,L,o,l,h=>by
  unfold restL at h
  split at h
  ·simp only [Except.ok.injEq] at h
   subst h
   intro x hx
   simp at hx
  ·cases hk:tokL (L.drop (skipL L)) with
   | none=>rw [hk] at h;cases h
   | some y =>
    obtain ⟨k,t,m⟩:=y
    rw [hk] at h
    simp only at h
    cases hr:restL f (L.drop (skipL L+m)) (o+(skipL L+m)) with
    | error e=>rw [hr] at h;cases h
    | ok l' =>
     rw [hr] at h
     simp only [Except.ok.injEq] at h
     subst h
     intro x hx
     simp at hx
     rcases hx with rfl | hx
     ·exact tokL_kt hk _
     ·exact restL_kt f _ _ l' hr x hx
theorem settle_kt {st st':List Int}{ind:Int}{i n n':Nat}{tk tk':List Value}(h:settleP st ind i n tk=some (st',n',tk')):∃ m,tk'=tk++cellsOf m∧n'=n+m.length ∧ ∀ x∈m,KTok x:=by
 unfold settleP at h
 cases st with
 | nil=>cases h
 | cons x xs =>
  simp only at h
  split at h
  ·simp only [Option.some.injEq,Prod.mk.injEq] at h
   obtain ⟨rfl,rfl,rfl⟩:=h
   refine ⟨[(kIndent,⟨#[]⟩,i)],by simp [cellsOf],rfl,fun x hx => ?_⟩
   simp at hx
   rw [hx]
   exact ktok_plain (by kernel_rfl) (by kernel_rfl) _ _
  ·split at h
   ·simp only [Option.some.injEq,Prod.mk.injEq] at h
    obtain ⟨rfl,rfl,rfl⟩:=h
    refine ⟨dedentsL i (popTo ind (x::xs)).1,by rw [dedents_cells],by simp [dedentsL],fun y hy => ?_⟩
    simp [dedentsL] at hy
    rw [hy.2]
    exact ktok_plain (by kernel_rfl) (by kernel_rfl) _ _
   ·cases h
def KSt (σ:LexSt):Prop:=∃ l,σ.tk=cellsOf l∧σ.n=l.length ∧ ∀ x∈l,KTok x
theorem line_kt (s:ByteArray) (S L pre:List UInt8) (hS:lineEnd S) (hL:noEnd L) (h:s.data.toList=pre++(L++S)) {st:List Int}{n:Nat}{tk:List Value}(hF:KSt ⟨pre.length,st,n,tk⟩) {σ:LexSt}(hs:lineStep s ⟨pre.length,st,n,tk⟩ = .ok σ):KSt σ∧σ.at_=(pre++L++S.take 1).length:=by
 have e1:=after_list s S (pre++L) hS (by simpa using h)
 rw [@List.length_append _ pre] at e1
 rw [lineStep_list s S L pre hS hL h] at hs
 obtain ⟨l,h1,h2,h3⟩:=hF
 simp only at h1 h2 h3
 split at hs
 ·simp only [Except.ok.injEq] at hs
  subst hs
  exact ⟨⟨l,h1,h2,h3⟩,e1⟩
 ·cases hst:settleP st (blanksL L:Nat) (pre.length+skipL L) n tk with
  | none=>rw [hst] at hs;cases hs
  | some x =>
   obtain ⟨st',n',tk'⟩:=x
   rw [hst] at hs
   simp only at hs
   obtain ⟨m,rfl,rfl,g4⟩:=settle_kt hst
   cases hr:restL (L.length+1) L pre.length with
   | error e=>rw [hr] at hs;cases hs
   | ok r =>
    rw [hr] at hs
    simp only [Except.ok.injEq] at hs
    subst hs
    have i1:=restL_kt _ _ _ r hr
    refine ⟨⟨l++m++r ++ [(kNewline,⟨#[]⟩,pre.length+L.length)],?_,?_,?_⟩,e1⟩
    ·simp only [h1,cells_append]
     simp [cellsOf]
    ·simp only [h2]
     simp
     omega
    ·intro x hx
     simp only [List.mem_append,List.mem_singleton] at hx
     rcases hx with ((hx | hx) | hx) | hx
     ·exact h3 x hx
     ·exact g4 x hx
     ·exact i1 x hx
     ·rw [hx]
      exact ktok_plain (by kernel_rfl) (by kernel_rfl) _ _
theorem run_kt (s:ByteArray):∀ (N:Nat) (R pre:List UInt8) (st:List Int) (n:Nat) (tk:List Value),R.length≤N→s.data.toList=pre++R→Inv s ⟨pre.length,st,n,tk⟩→KSt ⟨pre.length,st,n,tk⟩ → ∀ σ,runLines s (s.size - pre.length) ⟨pre.length,st,n,tk⟩ = .ok σ→KSt σ
 | N,[],pre,st,n,tk,_,h,I,hF,σ,hr=>by
  have hz:=data_size h
  rw [run_end s _ _ _ _ (by simp at hz ⊢;omega)] at hr
  simp only [Except.ok.injEq] at hr
  subst hr
  exact hF
 | 0,c::R,_,_,_,_,hN,_,_,_,_,_=>by simp at hN
 | N+1,c::R,pre,st,n,tk,hN,h,I,hF,σ,hr=>by
  have hz:=data_size h
  simp at hz
  obtain ⟨L,S,e,hL,hS⟩:=split_line (c::R)
  have h1:s.data.toList=pre++(L++S):=by rw [h,e]
  have hlt:pre.length<s.size:=by omega
  cases hs:lineStep s ⟨pre.length,st,n,tk⟩ with
  | error x=>rw [runLines_err hlt hs] at hr;cases hr
  | ok τ =>
   rw [runLines_go I hlt hs] at hr
   have I1:=(lineStep_inv I hlt hs).1
   obtain ⟨hF1,hat⟩:=line_kt s S L pre hS hL h1 hF hs
   have hlen:=congrArg List.length e
   simp at hlen
   obtain ⟨at1,st1,n1,tk1⟩:=τ
   simp only at hat
   subst hat
   refine run_kt s N (S.drop 1) _ st1 n1 tk1 ?_ ?_ I1 hF1 σ hr
   ·simp at hN ⊢
    cases S with
    | nil=>simp
    | cons d S=>simp at hlen ⊢;omega
   ·rw [h1]
    simp only [List.append_assoc,List.take_append_drop]
theorem lexP_kinds {s:ByteArray}{n:Nat}{tk:List Value}(h:lexP s = .ok (n,tk)):∃ l a,tk=cellsOf (l ++ [(kEnd,⟨#[]⟩,a)])∧n=(l ++ [(kEnd,(⟨#[]⟩:ByteArray),a)]).length ∧ ∀ x∈l,KTok x:=by
 unfold lexP at h
 cases hr:runLines s s.size ⟨0,[0],0,[]⟩ with
 | error e=>rw [hr] at h;cases h
 | ok σ =>
  rw [hr] at h
  simp only at h
  have hr':runLines s (s.size - ([]:List UInt8).length) ⟨([]:List UInt8).length,[0],0,[]⟩ = .ok σ:=by simpa using hr
  obtain ⟨l,h1,h2,h3⟩:=run_kt s s.size s.data.toList [] [0] 0 [] (by simp) (by simp) (inv0 s) ⟨[],rfl,rfl,fun x hx=>by simp at hx⟩ σ hr'
  cases hst:settleP σ.st 0 σ.at_ σ.n σ.tk with
  | none=>rw [hst] at h;cases h
  | some x =>
   obtain ⟨st',n',tk'⟩:=x
   rw [hst] at h
   simp only [Except.ok.injEq,Prod.mk.injEq] at h
   obtain ⟨m,rfl,rfl,g4⟩:=settle_kt hst
   refine ⟨l++m,σ.at_,?_,?_,?_⟩
   ·rw [←h.2,h1]
    simp [cellsOf]
   ·rw [←h.1,h2]
    simp
    omega
   ·intro x hx
    simp only [List.mem_append] at hx
    rcases hx with hx | hx
    ·exact h3 x hx
    ·exact g4 x hx
theorem end_end:isEndB kEnd=true:=by kernel_rfl
theorem lexP_tokS {s:ByteArray}{m:List (ByteArray × ByteArray × Nat)}(h:lexP s = .ok (m.length,cellsOf m)) (hm:m.length≤100000) (hs:s.size≤6000):TokS m:=by
 obtain ⟨l,a,e1,_,hk⟩:=lexP_kinds h
 obtain ⟨l',e2,_,_,_,hz⟩:=lexP_fine h
 have e3:=cells_inj _ _ e2
 subst e3
 have e4:=cells_inj _ _ e1
 subst e4
 have hget:∀ (k:Nat) (x:ByteArray × ByteArray × Nat),(l ++ [(kEnd,(⟨#[]⟩:ByteArray),a)])[k]?=some x→(k<l.length∧KTok x)∨(k=l.length∧x=(kEnd,⟨#[]⟩,a)):=fun k x hx=>by
  rcases Nat.lt_or_ge k l.length with h1 | h1
  ·rw [List.getElem?_append_left h1] at hx
   exact .inl ⟨h1,hk x (List.mem_of_getElem? hx)⟩
  ·have hlt:=(List.getElem?_eq_some_iff.1 hx).1
   simp at hlt
   have hke:k=l.length:=by omega
   subst hke
   simp at hx
   exact .inr ⟨rfl,hx.symm⟩
 have hfin:∀ (k:Nat) (x:ByteArray × ByteArray × Nat),(l ++ [(kEnd,(⟨#[]⟩:ByteArray),a)])[k]?=some x→(x.1.toList == [101,110,100])=false→k+1<(l ++ [(kEnd,(⟨#[]⟩:ByteArray),a)]).length:=fun k x hx hn=>by
  rcases hget k x hx with ⟨h1,_⟩ | ⟨_,rfl⟩
  ·simp
   omega
  ·have h2:isEndB kEnd=false:=hn
   rw [end_end] at h2
   cases h2
 refine ⟨⟨hm,⟨(kEnd,⟨#[]⟩,a),by simp,fun ts => ?_⟩,fun k x hx hb => ?_,fun k x hx hi => ?_⟩,hfin⟩
 ·unfold markB
  have h1:(kEnd.toList == [111,112])=false:=by kernel_rfl
  have h2:(kEnd.toList == [119,111,114,100])=false:=by kernel_rfl
  simp only [h1,h2,Bool.or_self,Bool.false_and]
 ·refine hfin k x hx ?_
  rcases hget k x hx with ⟨_,h1⟩ | ⟨_,rfl⟩
  ·exact h1.1
  ·exfalso
   have h1:isIntB (kEnd,(⟨#[]⟩:ByteArray),a)=false:=by kernel_rfl
   have h2:isStrB (kEnd,(⟨#[]⟩:ByteArray),a)=false:=by kernel_rfl
   have h3:isNameB (kEnd,(⟨#[]⟩:ByteArray),a)=false:=by kernel_rfl
   rw [h1,h2,h3] at hb
   cases hb
 ·rcases hget k x hx with ⟨_,h1⟩ | ⟨_,rfl⟩
  ·exact ⟨by have:=hz x (List.mem_of_getElem? hx);omega,h1.2 hi⟩
  ·exfalso
   have h1:isIntB (kEnd,(⟨#[]⟩:ByteArray),a)=false:=by kernel_rfl
   rw [h1] at hi
   cases hi
end Go.Proofs.YtemapnogjepokaaGreatDoor

/- Package tree: what is read hangs on the tokens' kinds and texts alone. -/
namespace Go.Proofs.YtemapnogjepokaaGreatDoor
open Go.RowKit

structure Al (l m:List (ByteArray × ByteArray × Nat)):Prop where
 len:l.length=m.length
 get:∀ k:Nat,(l[k]?=none∧m[k]?=none) ∨ ∃ (kd tx:ByteArray) (a b:Nat),l[k]?=some (kd,tx,a)∧m[k]?=some (kd,tx,b)
theorem bytes_inj {a b:ByteArray}(h:a.toList=b.toList):a=b:=by
 rw [toList_data,toList_data] at h
 have h4:a.data=b.data:=Array.toList_inj.1 h
 cases a
 cases b
 exact congrArg ByteArray.mk h4
variable {l m:List (ByteArray × ByteArray × Nat)}
theorem Al.mark (h:Al l m):markAt l=markAt m:=by
 funext k ts
 unfold markAt
 rcases h.get k with ⟨h1,h2⟩ | ⟨kd,tx,a,b,h1,h2⟩ <;> rw [h1,h2] <;> rfl
theorem Al.kind (h:Al l m):isKind l=isKind m:=by
 funext k kd
 unfold isKind
 rcases h.get k with ⟨h1,h2⟩ | ⟨kd,tx,a,b,h1,h2⟩ <;> rw [h1,h2]
theorem Al.txt (h:Al l m):txtAt l=txtAt m:=by
 funext k
 unfold txtAt
 rcases h.get k with ⟨h1,h2⟩ | ⟨kd,tx,a,b,h1,h2⟩ <;> rw [h1,h2]
theorem Al.name (h:Al l m):pName l=pName m:=by
 funext s k
 unfold pName
 rcases h.get k with ⟨h1,h2⟩ | ⟨kd,tx,a,b,h1,h2⟩ <;> rw [h1,h2] <;> rfl
theorem Al.more (h:Al l m) {σ:Type}(step:σ→Nat→Out σ):∀ (f:Nat) (s:σ) (k:Nat),pMore l step f s k=pMore m step f s k
 | 0,s,k=>rfl
 | f+1,s,k=>by
  unfold pMore
  rw [h.mark]
  cases hm:markAt m k [comma] with
  | false=>rfl
  | true =>
   simp only [cond_true]
   cases step s (k+1) with
   | error y=>rfl
   | ok y=>exact h.more step f y.1 y.2
theorem Al.several (h:Al l m) {σ:Type}(step:σ→Nat→Out σ):pSeveral l step=pSeveral m step:=by
 funext f s k
 unfold pSeveral
 cases step s k with
 | error y=>rfl
 | ok y=>exact h.more step f y.1 y.2
theorem Al.upTo (h:Al l m) {σ:Type}(step:σ→Nat→Out σ):pUpTo l step=pUpTo m step:=by
 funext c f s k
 unfold pUpTo
 rw [h.mark,h.several]
theorem Al.closed (h:Al l m):pClosed l=pClosed m:=by
 funext c o
 unfold pClosed
 rw [h.mark]
theorem Al.ahead (h:Al l m):pAhead l=pAhead m:=by
 funext c k dp o1 o2
 unfold pAhead
 rw [h.mark]
theorem Al.sidesOn (h:Al l m) (rank:Nat) (sub:Nat→Out (DataW Unit)):∀ (f:Nat) (e:DataW Unit) (k:Nat),pSidesOn l rank sub f e k=pSidesOn m rank sub f e k
 | 0,e,k=>rfl
 | f+1,e,k=>by
  unfold pSidesOn
  rcases h.get k with ⟨h1,h2⟩ | ⟨kd,tx,a,b,h1,h2⟩
  ·rw [h1,h2]
  ·rw [h1,h2]
   simp only
   have e1:markB (kd,tx,a) (rankOps rank)=markB (kd,tx,b) (rankOps rank):=rfl
   rw [e1]
   cases markB (kd,tx,b) (rankOps rank) with
   | false=>rfl
   | true =>
    simp only [cond_true]
    cases sub (k+1) with
    | error y=>rfl
    | ok y =>
     obtain ⟨e2,k2⟩:=y
     simp only
     rw [h.sidesOn rank sub f]
theorem Al.sides (h:Al l m) (rank:Nat):pSides l rank=pSides m rank:=by
 funext sub k
 unfold pSides
 cases sub k with
 | error y=>rfl
 | ok y =>
  obtain ⟨e,k1⟩:=y
  simp only
  rw [h.sidesOn,h.len]
theorem Al.postOn (h:Al l m) (dp:Nat) (term:Nat→Out (DataW Unit)):∀ (f:Nat) (e:DataW Unit) (k:Nat),pPostOn l dp term f e k=pPostOn m dp term f e k
 | 0,e,k=>rfl
 | f+1,e,k=>by
  unfold pPostOn
  rw [h.mark,h.upTo,h.closed,h.len]
  cases markAt m k [lpar] with
  | true =>
   simp only [cond_true]
   cases pDeep dp k (pList kCall (pUpTo m (pTermStep term) rpar m.length [e] (k+1))) with
   | error y=>rfl
   | ok y=>exact h.postOn dp term f y.1 y.2
  | false =>
   simp only [cond_false]
   cases markAt m k [lbrk] with
   | false=>rfl
   | true =>
    simp only [cond_true]
    cases pDeep dp k (pIndex e (pClosed m rbrk (term (k+1)))) with
    | error y=>rfl
    | ok y=>exact h.postOn dp term f y.1 y.2
theorem Al.post (h:Al l m) (dp:Nat):pPost l dp=pPost m dp:=by
 funext term o
 unfold pPost
 cases o with
 | error y=>rfl
 | ok y =>
  obtain ⟨e,k1⟩:=y
  simp only
  rw [h.postOn,h.len]
theorem Al.atom (h:Al l m):pAtom l=pAtom m:=by
 funext dp term terms pairs k
 unfold pAtom
 rcases h.get k with ⟨h1,h2⟩ | ⟨kd,tx,a,b,h1,h2⟩
 ·rw [h1,h2]
 ·rw [h1,h2,h.closed]
  rfl
theorem Al.pairStep (h:Al l m):pPairStep l=pPairStep m:=by
 funext term es k
 unfold pPairStep
 rw [h.closed]
theorem Al.lambda (h:Al l m):pLambda l=pLambda m:=by
 funext one k
 unfold pLambda
 rw [h.name,h.upTo,h.len]
theorem Al.ranked (h:Al l m):∀ (f dp rank k:Nat),pRanked l f dp rank k=pRanked m f dp rank k
 | 0,_,_,_=>rfl
 | f+1,dp,rank,k=>by
  have ih:pRanked l f=pRanked m f:=by
   funext dp rank k
   exact h.ranked f dp rank k
  unfold pRanked
  rw [ih,h.ahead,h.lambda,h.post,h.atom,h.upTo,h.pairStep,h.upTo,h.sides,h.len]
theorem Al.term (h:Al l m):pTerm l=pTerm m:=by
 funext k
 unfold pTerm fuelE
 rw [h.ranked,h.len]
theorem Al.block (h:Al l m):pBlock l=pBlock m:=by
 funext bl inner k
 unfold pBlock
 rw [h.kind]
theorem Al.blockOf (h:Al l m):pBlockOf l=pBlockOf m:=by
 funext bl inner k
 unfold pBlockOf
 rw [h.mark,h.block]
theorem Al.each (h:Al l m):pEach l=pEach m:=by
 funext one blk k
 unfold pEach
 rw [h.kind,h.mark,h.txt]
theorem Al.attempt (h:Al l m):pAttempt l=pAttempt m:=by
 funext blk k
 unfold pAttempt
 rw [h.kind,h.mark,h.txt]
theorem Al.choice (h:Al l m) (one blk:Nat→Out (List (DataW Unit))):∀ (f k:Nat),pChoice l one blk f k=pChoice m one blk f k
 | 0,k=>rfl
 | f+1,k=>by
  have ih:pChoice l one blk f=pChoice m one blk f:=by
   funext k
   exact h.choice one blk f k
  unfold pChoice
  rw [h.mark,ih]
theorem Al.func (h:Al l m):pFunc l=pFunc m:=by
 funext blk k
 unfold pFunc
 rw [h.kind,h.mark,h.txt,h.name,h.upTo,h.len]
theorem Al.line (h:Al l m):pLine l=pLine m:=by
 funext term one tset k
 unfold pLine
 rw [h.kind,h.mark,h.txt,h.name,h.several,h.len]
theorem Al.statement (h:Al l m):pStatement l=pStatement m:=by
 funext a b c d e f k
 unfold pStatement
 rw [h.kind,h.mark]
theorem Al.stmts (h:Al l m) (cb:List UInt8) (stmt:Nat→Out (DataW Unit)):∀ (f:Nat) (ss:List (DataW Unit)) (k:Nat),pStmts l cb stmt f ss k=pStmts m cb stmt f ss k
 | 0,_,_=>rfl
 | f+1,ss,k=>by
  unfold pStmts
  rw [h.kind]
  cases isKind m k cb with
  | true=>rfl
  | false =>
   simp only [cond_false]
   cases stmt k with
   | error y=>rfl
   | ok y=>exact h.stmts cb stmt f _ _
end Go.Proofs.YtemapnogjepokaaGreatDoor
