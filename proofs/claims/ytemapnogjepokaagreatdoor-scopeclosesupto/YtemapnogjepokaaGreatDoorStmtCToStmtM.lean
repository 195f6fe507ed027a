/- Package tree: blocks of six cells (written by tools/tree/six.py). -/
import Derived.Test.YtemapnogjepokaaGreatDoorTreeWToStmtB
namespace Go.Proofs.YtemapnogjepokaaGreatDoor
open Go.RowKit

theorem stmt_block {w:World}{b:Nat}{u0 u1 u2 u3 u4 u5:Value}(h:w.heap[b]?=some (.cells #[u0,u1,u2,u3,u4,u5] 52)) :
  w.cell? ⟨b,0,none⟩=some u0∧w.cell? ⟨b,1,none⟩=some u1∧w.cell? ⟨b,2,none⟩=some u2∧w.cell? ⟨b,3,none⟩=some u3∧w.cell? ⟨b,4,none⟩=some u4∧w.cell? ⟨b,5,none⟩=some u5 ∧ ∀ o,w.frozen? ⟨b,o,none⟩=false:=by
 refine ⟨?_,?_,?_,?_,?_,?_,fun o=>by simp [World.frozen?,h]⟩
 ·rw [cell_of_row w b 0 _ _ _ h];rfl
 ·rw [cell_of_row w b 1 _ _ _ h];rfl
 ·rw [cell_of_row w b 2 _ _ _ h];rfl
 ·rw [cell_of_row w b 3 _ _ _ h];rfl
 ·rw [cell_of_row w b 4 _ _ _ h];rfl
 ·rw [cell_of_row w b 5 _ _ _ h];rfl
def set6 (w:World) (b:Nat) (v0 v1 v2 v3 v4 v5:Value):World:=((((((w.setCell ⟨b,0,none⟩ v0).setCell ⟨b,1,none⟩ v1).setCell ⟨b,2,none⟩ v2).setCell ⟨b,3,none⟩ v3).setCell ⟨b,4,none⟩ v4).setCell ⟨b,5,none⟩ v5)
theorem set6_block {w:World}{b:Nat}{u0 u1 u2 u3 u4 u5:Value}{fr:Nat × Nat}(h:w.heap[b]?=some (.cells #[u0,u1,u2,u3,u4,u5] 52 fr)) (v0 v1 v2 v3 v4 v5:Value):(set6 w b v0 v1 v2 v3 v4 v5).heap[b]?=some (.cells #[v0,v1,v2,v3,v4,v5] 52 fr):=by
 unfold set6
 rw [heap_set_same (heap_set_same (heap_set_same (heap_set_same (heap_set_same (heap_set_same h)))))]
 rfl
theorem set6_other {w:World}{b k:Nat}(h:k≠b) (v0 v1 v2 v3 v4 v5:Value):(set6 w b v0 v1 v2 v3 v4 v5).heap[k]?=w.heap[k]?:=by
 unfold set6
 rw [heap_set _ _ _ _ _ h,heap_set _ _ _ _ _ h,heap_set _ _ _ _ _ h,heap_set _ _ _ _ _ h,heap_set _ _ _ _ _ h,heap_set _ _ _ _ _ h]
theorem RD.set6 {w:World}{p g cap:Nat}{rk:Value}{l:List (ByteArray × ByteArray × Nat)}{k bl dp b:Nat}(R:RD w p g cap rk l k bl dp) (hp:p≠b) (hg:g≠b) (v0 v1 v2 v3 v4 v5:Value):RD (Go.Proofs.YtemapnogjepokaaGreatDoor.set6 w b v0 v1 v2 v3 v4 v5) p g cap rk l k bl dp:=
 (((((R.other hp hg).other hp hg).other hp hg).other hp hg).other hp hg).other hp hg
theorem Keeps.set6 {p b:Nat}{w w':World}(h:Keeps p w w') (hp:p≤b) (hb:w.heap.size≤b) (v0 v1 v2 v3 v4 v5:Value):Keeps p w (Go.Proofs.YtemapnogjepokaaGreatDoor.set6 w' b v0 v1 v2 v3 v4 v5):=
 (((((h.other hp hb).other hp hb).other hp hb).other hp hb).other hp hb).other hp hb
theorem same_set6 {S:Nat→Prop}{w:World}{b:Nat}(h:¬ S b) (v0 v1 v2 v3 v4 v5:Value):Same S w (set6 w b v0 v1 v2 v3 v4 v5):=fun k hk _=>set6_other (b:=b) (k:=k) (fun e=>h (by rw [←e];exact hk)) _ _ _ _ _ _ 
theorem results_stmt (f:Func) (r:Nat) (hr:f.results = #[.cell r 52]) (tmps:Array Value) (W:World) (b:Nat) (v0 v1 v2 v3 v4 v5:Value) (h2:tmps[r]?.getD undef = .pointer (some ⟨b,0,none⟩)) (hb:W.heap[b]?=some (.cells #[v0,v1,v2,v3,v4,v5] 52)) :
  (results f tmps).run Tryz.prog W = .ok (.agg #[v0,v1,v2,v3,v4,v5]) W:=by
 obtain ⟨c0,c1,c2,c3,c4,c5,_⟩:=stmt_block hb
 simp [results,hr,go_sem,h2,c0,c1,c2,c3,c4,c5]

structure StAt (p g cap:Nat) (rk:Value) (l:List (ByteArray × ByteArray × Nat)) (bl dp:Nat) (w:World) (B k2:Nat) (wx:World):Prop where
 rd:RD wx p g cap rk l k2 bl dp
 ks:Keeps p w wx
 b4:wx.heap[B]?=some (.cells #[.string ⟨#[]⟩,.string ⟨#[]⟩,.slice none 0 0,.slice none 0 0,.slice none 0 0,.slice none 0 0] 52)
 pl:p<w.heap.size
 gl:g<w.heap.size
 wB:w.heap.size≤B
theorem StAt.more {p g cap:Nat}{rk:Value}{l:List (ByteArray × ByteArray × Nat)}{k2 bl dp B:Nat}{w wx w':World}(A:StAt p g cap rk l bl dp w B k2 wx) (hb:Below wx.heap.size wx w'):StAt p g cap rk l bl dp w B k2 w':=by
 have hs:=A.ks.below.size
 have hp:=A.pl
 exact ⟨A.rd.more hb,A.ks.trans (Keeps.of hb (by omega)),(hb.block _ (lt_of_heap A.b4)).trans A.b4,A.pl,A.gl,A.wB⟩
theorem StAt.go {p g cap:Nat}{rk:Value}{l:List (ByteArray × ByteArray × Nat)}{k2 k3 bl dp B:Nat}{w wx w':World}(A:StAt p g cap rk l bl dp w B k2 wx) (R:RD w' p g cap rk l k3 bl dp) (K:Keeps p wx w'):StAt p g cap rk l bl dp w B k3 w':=by
 have hp:=A.pl
 have hB:=A.wB
 exact ⟨R,A.ks.trans K,(K.block _ (by omega) (lt_of_heap A.b4)).trans A.b4,A.pl,A.gl,A.wB⟩
theorem st_start {p g cap:Nat}{rk:Value}{l:List (ByteArray × ByteArray × Nat)}{k bl dp:Nat}{w:World}(R:RD w p g cap rk l k bl dp):StAt p g cap rk l bl dp w w.heap.size k (w.alloc (.cells #[.string ⟨#[]⟩,.string ⟨#[]⟩,.slice none 0 0,.slice none 0 0,.slice none 0 0,.slice none 0 0] 52)):=by
 have hpl:=lt_of_heap R.blk
 have hb0:Below w.heap.size w (w.alloc (.cells #[.string ⟨#[]⟩,.string ⟨#[]⟩,.slice none 0 0,.slice none 0 0,.slice none 0 0,.slice none 0 0] 52)):=(Below.refl _ _).alloc (Nat.le_refl _) _
 exact ⟨R.more hb0,Keeps.of hb0 (by omega),heap_alloc_new w _,hpl,R.gl,Nat.le_refl _⟩
theorem st_done {S:Nat→Prop}{p g cap:Nat}{rk:Value}{l:List (ByteArray × ByteArray × Nat)}{k2 bl dp B:Nat}{w wx:World}{s:DataW Unit}{c0 c1 c2 c3 c4 c5:Value}(A:StAt p g cap rk l bl dp w B k2 wx) (hrep:RepS S wx [c0,c1,c2,c3,c4,c5] s) (hS:∀ b,S b→B<b) :
  (set6 wx B c0 c1 c2 c3 c4 c5).heap[B]?=some (.cells #[c0,c1,c2,c3,c4,c5] 52)∧RepS (fun b=>w.heap.size≤b) (set6 wx B c0 c1 c2 c3 c4 c5) [c0,c1,c2,c3,c4,c5] s∧RD (set6 wx B c0 c1 c2 c3 c4 c5) p g cap rk l k2 bl dp∧Keeps p w (set6 wx B c0 c1 c2 c3 c4 c5):=by
 have hp:=A.pl
 have hg:=A.gl
 have hB:=A.wB
 exact ⟨set6_block A.b4 _ _ _ _ _ _ ,hrep.same (same_set6 (fun h=>by have:=hS B h;omega) _ _ _ _ _ _ ) (fun b h _=>by have:=hS b h;omega),A.rd.set6 (by omega) (by omega) _ _ _ _ _ _ ,A.ks.set6 (by omega) hB _ _ _ _ _ _ ⟩
end Go.Proofs.YtemapnogjepokaaGreatDoor

/- Package tree: each, attempt (written by tools/tree/each.py). -/
namespace Go.Proofs.YtemapnogjepokaaGreatDoor
open Go.RowKit

def kFor:ByteArray:=⟨#[102,111,114]⟩
def kIn:ByteArray:=⟨#[105,110]⟩
def kTry:ByteArray:=⟨#[116,114,121]⟩
def kExcept:ByteArray:=⟨#[101,120,99,101,112,116]⟩
def txtAt (l:List (ByteArray × ByteArray × Nat)) (k:Nat):ByteArray:=match l[k]? with
 | some x=>x.2.1
 | none=>⟨#[]⟩
theorem txtAt_of {l:List (ByteArray × ByteArray × Nat)}{k:Nat}{x:ByteArray × ByteArray × Nat}(hx:l[k]?=some x):txtAt l k=x.2.1:=by
 unfold txtAt
 rw [hx]
def pEach (l:List (ByteArray × ByteArray × Nat)) (one blk:Nat→Out (List (DataW Unit))) (k:Nat):Out (DataW Unit):=
 bif isKind l k [110,97,109,101] then (bif markAt l (k+1) [kIn] then (match one (k+2) with
  | .error y=>.error y
  | .ok (el,k1)=>match blk k1 with
   | .error y=>.error y
   | .ok (ss,k2)=>.ok (mkS kFor (txtAt l k) [] el ss [],k2)) else .error (k+1,false)) else .error (k,false)
def pAttempt (l:List (ByteArray × ByteArray × Nat)) (blk:Nat→Out (List (DataW Unit))) (k:Nat):Out (DataW Unit):=match blk k with
 | .error y=>.error y
 | .ok (ss,k1)=>bif markAt l k1 [kExcept] then (bif isKind l (k1+1) [110,97,109,101] then (match blk (k1+2) with
   | .error y=>.error y
   | .ok (es,k2)=>.ok (mkS kTry (txtAt l (k1+1)) [] [] ss es,k2)) else .error (k1+1,false)) else .error (k1,false)
theorem StAt.put {p g cap:Nat}{rk:Value}{l:List (ByteArray × ByteArray × Nat)}{k2 bl dp B b o:Nat}{w wx:World}{v:Value}(A:StAt p g cap rk l bl dp w B k2 wx) (hb:B<b):StAt p g cap rk l bl dp w B k2 (wx.setCell ⟨b,o,none⟩ v):=by
 have hp:=A.pl
 have hg:=A.gl
 have hB:=A.wB
 exact ⟨A.rd.other (by omega) (by omega),A.ks.other (by omega) (by omega),(heap_set _ _ _ _ _ (by omega)).trans A.b4,A.pl,A.gl,A.wB⟩
theorem put_block {w:World}{b o:Nat}{cs:Array Value}{v:Value}(h:w.heap[b]?=some (.cells cs 52)) (cs':Array Value) (e:cs.setIfInBounds o v=cs'):(w.setCell ⟨b,o,none⟩ v).heap[b]?=some (.cells cs' 52):=by
 rw [heap_set_same h,e]

set_option maxHeartbeats 4000000 in
set_option maxRecDepth 100000 in
theorem each_any {p g cap:Nat}{rk:Value}{l:List (ByteArray × ByteArray × Nat)}{k bl dp:Nat}{a0 a1:Addr}(T:TokS l) (hk:k<l.length) (one blk:Nat→Out (List (DataW Unit)))
  (h1:∀ k',k<k'→k'<l.length→ReadsL 78 #[.pointer (some ⟨p,0,none⟩)] p g cap rk l k' bl dp a0 a1 (one k'))
  (h2:∀ k',k<k'→k'<l.length→ReadsSL 79 #[.pointer (some ⟨p,0,none⟩)] p g cap rk l k' bl dp a0 a1 (blk k')):ReadsS 80 #[.pointer (some ⟨p,0,none⟩)] p g cap rk l k bl dp a0 a1 (pEach l one blk k):=by
 intro w R E X
 have hl:=T.ok.hl
 have A0:=st_start R
 have HE:=toHid E
 have HX:=toHid X
 obtain ⟨o,ho⟩:∃ o,pEach l one blk k=o:=⟨_,rfl⟩
 rw [ho]
 have HO:=toHid ho
 have HPE:Hid (∀ y ev w',o = .error y→faultAt l p a0 a1 w y ev w'→PostS (fun b=>w.heap.size≤b) p g cap rk l k bl dp a0 a1 w o ev w'):=by
  rintro y ev w' rfl h
  exact h
 have hpl:=A0.pl
 have hgl:=A0.gl
 obtain ⟨x,hx⟩:∃ x,l[k]?=some x:=⟨l[k],by simp [hk]⟩
 have HN:=toHid (rname_any A0.rd (HE.out.keeps A0.ks) hx hl)
 have HA0:=toHid A0
 have HH1:=toHid h1
 have HH2:=toHid h2
 clear R E X A0 ho h1 h2
 go_enter Tryz.func80,Tryz.ntmps80
 go_wp2_with fail
 refine HN.out.mono ?_
 rintro ev w1 (⟨hm,rfl,R1,K1⟩ | ⟨hm,t,g1,b,rfl,g2⟩)
 rotate_left
 ·have ho2:o = .error (k,false):=by
   rw [←HO.out,pEach,isKind_of hx,show (x.1.toList == [110,97,109,101])=false from hm]
   rfl
  have HF:=toHid (HPE.out _ _ _ ho2 (faultAt.after HA0.out.ks.below ⟨t,g1,b,rfl,g2⟩))
  clear g1 g2 HN
  go_wp2_with fail
  exact ⟨rfl,HF.out⟩
 have hkn:isKind l k [110,97,109,101]=true:=(isKind_of hx _).trans hm
 have hk1:=T.next hkn (by decide)
 obtain ⟨x1,hx1⟩:∃ x,l[k+1]?=some x:=⟨l[k+1],by simp [hk1]⟩
 have hba:Below w1.heap.size w1 (w1.alloc (.cells #[.string kFor,.string x.2.1,.slice none 0 0,.slice none 0 0,.slice none 0 0,.slice none 0 0] 52)):=(Below.refl _ _).alloc (Nat.le_refl _) _
 have A1:=(HA0.out.go R1 K1).more hba
 have hB1:(w1.alloc (.cells #[.string kFor,.string x.2.1,.slice none 0 0,.slice none 0 0,.slice none 0 0,.slice none 0 0] 52)).heap[w1.heap.size]?=some (.cells #[.string kFor,.string x.2.1,.slice none 0 0,.slice none 0 0,.slice none 0 0,.slice none 0 0] 52):=heap_alloc_new w1 _
 have hsz:w.heap.size<w1.heap.size:=by
  have h3:=K1.below.size
  simp at h3
  omega
 have HA1:=toHid A1
 have HB1:=toHid hB1
 have HC1:=toHid (needMark_any A1.rd (HE.out.keeps A1.ks) hx1 hl kIn)
 clear R1 K1 A1 hB1 hba HN
 go_wp2_with fail
 refine HC1.out.mono ?_
 intro ev w2 hT
 cases hm1:markB x1 [kIn] with
 | false =>
 rw [hm1] at hT
 rw [if_neg (by decide)] at hT
 obtain ⟨t,g1,b,rfl,g2⟩:=hT
 have ho2:o = .error (k+1,false):=by
  rw [←HO.out,pEach,hkn,markAt_of hx1,hm1]
  rfl
 have HF:=toHid (HPE.out _ _ _ ho2 (faultAt.after HA1.out.ks.below ⟨t,g1,b,rfl,g2⟩))
 clear g1 g2 HC1
 go_wp2_with fail
 exact ⟨rfl,HF.out⟩
 | true =>
 rw [hm1] at hT
 rw [if_pos rfl] at hT
 obtain ⟨rfl,R2,K2⟩:=hT
 have hk2:=T.ok.hen.next hx1 hm1
 have A2:=HA1.out.go R2 K2
 have hB2:=(K2.block w1.heap.size (by omega) (lt_of_heap HB1.out)).trans HB1.out
 have HC2:=toHid (HH1.out (k+2) (by omega) hk2 w2 A2.rd (HE.out.keeps A2.ks) (HX.out.keeps A2.ks))
 have HA2:=toHid A2
 have HB2:=toHid hB2
 have hlt2:=lt_of_heap hB2
 clear HC1 R2 K2 A2 hB2
 go_wp2_with fail
 refine HC2.out.mono ?_
 intro ev w3 hP
 rcases hP.parts with ⟨el,k3,la,lc,q3,rfl,hL,R3,K3,hk3,hk3l,hcap⟩ | ⟨y,b,q3,rfl,hf⟩
 rotate_left
 ·have ho2:o = .error y:=by
   rw [←HO.out,pEach,hkn,markAt_of hx1,hm1]
   simp only [cond_true,q3]
  have HF:=toHid (HPE.out _ _ _ ho2 (faultAt.after HA2.out.ks.below hf))
  clear hP HC2 hf
  go_wp2_with fail
  exact ⟨rfl,HF.out⟩
 have A3:=HA2.out.go R3 K3
 have hB3:=(K3.block w1.heap.size (by omega) hlt2).trans HB2.out
 obtain ⟨t0,t1,t2,t3,t4,t5,tf⟩:=stmt_block hB3
 have tf3:=tf 3
 have tl:=lt_of_heap hB3
 have A4:=A3.put (b:=w1.heap.size) (o:=3) (v:=.slice la el.length lc) hsz
 have hB4:=put_block (o:=3) (v:=.slice la el.length lc) hB3 #[.string kFor,.string x.2.1,.slice none 0 0,.slice la el.length lc,.slice none 0 0,.slice none 0 0] rfl
 have hL4:RepL (fun b=>w1.heap.size<b) (w3.setCell ⟨w1.heap.size,3,none⟩ (.slice la el.length lc)) la el:=hL.same (same_set (by show ¬ (w2.heap.size≤w1.heap.size);omega)) (fun b hb _=>by show w1.heap.size<b;omega)
 have HC4:=toHid (HH2.out k3 (by omega) hk3l _ A4.rd (HE.out.keeps A4.ks) (HX.out.keeps A4.ks))
 have HA4:=toHid A4
 have HB4:=toHid hB4
 have HL4:=toHid hL4
 have HQ3:=toHid q3
 have hlt4:=lt_of_heap hB4
 clear hP HC2 R3 K3 A3 hB3 tf A4 hB4 hL hL4 q3
 go_wp2_with fail
 refine HC4.out.mono ?_
 intro ev w5 hP
 rcases hP.parts with ⟨ss,k5,ba,bc,q5,rfl,hS5,R5,K5,hk5,hk5l⟩ | ⟨y,b,q5,rfl,hf⟩
 rotate_left
 ·have ho2:o = .error y:=by
   rw [←HO.out,pEach,hkn,markAt_of hx1,hm1]
   simp only [cond_true,HQ3.out,q5]
  have HF:=toHid (HPE.out _ _ _ ho2 (faultAt.after HA4.out.ks.below hf))
  clear hP HC4 hf
  go_wp2_with fail
  exact ⟨rfl,HF.out⟩
 have A5:=HA4.out.go R5 K5
 have hB5:=(K5.block w1.heap.size (by omega) hlt4).trans HB4.out
 obtain ⟨s0,s1,s2,s3,s4,s5,sf⟩:=stmt_block hB5
 have sf4:=sf 4
 have sl:=lt_of_heap hB5
 have A6:=A5.put (b:=w1.heap.size) (o:=4) (v:=.slice ba ss.length bc) hsz
 have hB6:=put_block (o:=4) (v:=.slice ba ss.length bc) hB5 #[.string kFor,.string x.2.1,.slice none 0 0,.slice la el.length lc,.slice ba ss.length bc,.slice none 0 0] rfl
 have hsx:(w3.setCell ⟨w1.heap.size,3,none⟩ (.slice la el.length lc)).heap.size=w3.heap.size:=size_set _ _ _
 have hs3:w1.heap.size<w3.heap.size:=tl
 have hL6:RepL (fun b=>w1.heap.size<b) (w5.setCell ⟨w1.heap.size,4,none⟩ (.slice ba ss.length bc)) la el:=(HL4.out.same (K5.same (by show ¬ (w1.heap.size<p);omega)) (fun b hb _=>hb)).same (same_set (by show ¬ (w1.heap.size<w1.heap.size);omega)) (fun b hb _=>hb)
 have hS6:RepSL (fun b=>w1.heap.size<b) (w5.setCell ⟨w1.heap.size,4,none⟩ (.slice ba ss.length bc)) ba ss:=hS5.same (same_set (by show ¬ (_≤w1.heap.size);rw [hsx];omega)) (fun b hb _=>by rw [hsx] at hb;show w1.heap.size<b;omega)
 have ho6:o = .ok (mkS kFor x.2.1 [] el ss [],k5):=by
  rw [←HO.out,pEach,hkn,markAt_of hx1,hm1]
  simp only [cond_true,HQ3.out,q5,txtAt_of hx]
 have HZ:=toHid (st_done (c0:=.string kFor) (c1:=.string x.2.1) (c2:=.slice none 0 0) (c3:=.slice la el.length lc) (c4:=.slice ba ss.length bc) (c5:=.slice none 0 0) A6 (mkRepS (kd:=kFor) (nm:=x.2.1) (pl:=[]) (es:=[]) (pc:=0) (lc:=lc) (bc:=bc) (ec:=0) (RepN.nil _ _ none) hL6 hS6 (RepSL.nil _ _ none)) (fun b (hb:w1.heap.size<b)=>by omega))
 obtain ⟨u0,u1,u2,u3,u4,u5,uf⟩:=stmt_block A6.b4
 have uf0:=uf 0
 have uf1:=uf 1
 have uf2:=uf 2
 have uf3:=uf 3
 have uf4:=uf 4
 have uf5:=uf 5
 have ul:=lt_of_heap A6.b4
 obtain ⟨q0,q1,q2,qq3,q4,qq5,_⟩:=stmt_block hB6
 have HO6:=toHid ho6
 clear hP HC4 A5 hB5 sf A6 hB6 hL6 hS6 uf hS5 R5 K5 ho6 q5
 go_wp2_with fail
 obtain ⟨z1,z2,z3,z4⟩:=HZ.out
 refine bodyPost_ret (results_stmt _ 2 rfl _ _ w.heap.size _ _ _ _ _ _ rfl z1) rfl ?_
 rw [HO6.out]
 exact ⟨_,_,_,_,_,_,rfl,z2,z3,z4,by omega,hk5l⟩
end Go.Proofs.YtemapnogjepokaaGreatDoor

/- Package tree: attempt (written by tools/tree/each.py). -/
namespace Go.Proofs.YtemapnogjepokaaGreatDoor
open Go.RowKit

set_option maxHeartbeats 4000000 in
set_option maxRecDepth 100000 in
theorem attempt_any {p g cap:Nat}{rk:Value}{l:List (ByteArray × ByteArray × Nat)}{k bl dp:Nat}{a0 a1:Addr}(T:TokS l) (hk:k<l.length) (blk:Nat→Out (List (DataW Unit)))
  (h2:∀ k',k≤k'→k'<l.length→ReadsSL 79 #[.pointer (some ⟨p,0,none⟩)] p g cap rk l k' bl dp a0 a1 (blk k')):ReadsS 82 #[.pointer (some ⟨p,0,none⟩)] p g cap rk l k bl dp a0 a1 (pAttempt l blk k):=by
 intro w R E X
 have hl:=T.ok.hl
 have A0:=st_start R
 have HE:=toHid E
 have HX:=toHid X
 obtain ⟨o,ho⟩:∃ o,pAttempt l blk k=o:=⟨_,rfl⟩
 rw [ho]
 have HO:=toHid ho
 have HPE:Hid (∀ y ev w',o = .error y→faultAt l p a0 a1 w y ev w'→PostS (fun b=>w.heap.size≤b) p g cap rk l k bl dp a0 a1 w o ev w'):=by
  rintro y ev w' rfl h
  exact h
 have hpl:=A0.pl
 have hgl:=A0.gl
 have HC0:=toHid (h2 k (Nat.le_refl _) hk _ A0.rd (HE.out.keeps A0.ks) (HX.out.keeps A0.ks))
 have HA0:=toHid A0
 have HH2:=toHid h2
 have hs0:(w.alloc (.cells #[.string ⟨#[]⟩,.string ⟨#[]⟩,.slice none 0 0,.slice none 0 0,.slice none 0 0,.slice none 0 0] 52)).heap.size=w.heap.size+1:=by simp
 clear R E X A0 ho h2
 go_enter Tryz.func82,Tryz.ntmps82
 go_wp2_with fail
 refine HC0.out.mono ?_
 intro ev w1 hP
 rw [hs0] at hP
 rcases hP.parts with ⟨ss,k1,ba,bc,q1,rfl,hS1,R1,K1,hk1,hk1l⟩ | ⟨y,b,q1,rfl,hf⟩
 rotate_left
 ·have ho2:o = .error y:=by
   rw [←HO.out,pAttempt]
   simp only [q1]
  have HF:=toHid (HPE.out _ _ _ ho2 (faultAt.after HA0.out.ks.below hf))
  clear hP HC0 hf
  go_wp2_with fail
  exact ⟨rfl,HF.out⟩
 have hba:Below w1.heap.size w1 (w1.alloc (.cells #[.string kTry,.string ⟨#[]⟩,.slice none 0 0,.slice none 0 0,.slice ba ss.length bc,.slice none 0 0] 52)):=(Below.refl _ _).alloc (Nat.le_refl _) _
 have A1:=(HA0.out.go R1 K1).more hba
 have hB1:(w1.alloc (.cells #[.string kTry,.string ⟨#[]⟩,.slice none 0 0,.slice none 0 0,.slice ba ss.length bc,.slice none 0 0] 52)).heap[w1.heap.size]?=some (.cells #[.string kTry,.string ⟨#[]⟩,.slice none 0 0,.slice none 0 0,.slice ba ss.length bc,.slice none 0 0] 52):=heap_alloc_new w1 _
 have hsz:w.heap.size<w1.heap.size:=by
  have h3:=K1.below.size
  omega
 have hS2:RepSL (fun b=>w.heap.size<b∧b≠w1.heap.size) (w1.alloc (.cells #[.string kTry,.string ⟨#[]⟩,.slice none 0 0,.slice none 0 0,.slice ba ss.length bc,.slice none 0 0] 52)) ba ss:=hS1.same (same_below hba) (fun b hb hlt=>⟨by omega,by omega⟩)
 obtain ⟨x1,hx1⟩:∃ x,l[k1]?=some x:=⟨l[k1],by simp [hk1l]⟩
 have HA1:=toHid A1
 have HB1:=toHid hB1
 have HS2:=toHid hS2
 have HQ1:=toHid q1
 have HC1:=toHid (needMark_any A1.rd (HE.out.keeps A1.ks) hx1 hl kExcept)
 clear hP R1 K1 A1 hB1 hba HC0 hS1 hS2 q1
 go_wp2_with fail
 refine HC1.out.mono ?_
 intro ev w2 hT
 cases hm1:markB x1 [kExcept] with
 | false =>
 rw [hm1,if_neg (by decide)] at hT
 obtain ⟨t,g1,b,rfl,g2⟩:=hT
 have ho2:o = .error (k1,false):=by
  rw [←HO.out,pAttempt]
  simp only [HQ1.out,markAt_of hx1,hm1,cond_false]
 have HF:=toHid (HPE.out _ _ _ ho2 (faultAt.after HA1.out.ks.below ⟨t,g1,b,rfl,g2⟩))
 clear g1 g2 HC1
 go_wp2_with fail
 exact ⟨rfl,HF.out⟩
 | true =>
 rw [hm1,if_pos rfl] at hT
 obtain ⟨rfl,R2,K2⟩:=hT
 have hk2:=T.ok.hen.next hx1 hm1
 obtain ⟨x,hx⟩:∃ x,l[k1+1]?=some x:=⟨l[k1+1],by simp [hk2]⟩
 have A2:=HA1.out.go R2 K2
 have hB2:=(K2.block w1.heap.size (by omega) (lt_of_heap HB1.out)).trans HB1.out
 have hS3:=HS2.out.same (S':=(fun b=>w.heap.size<b∧b≠w1.heap.size)) (K2.same (fun h=>by have:=h.1;omega)) (fun b hb _=>hb)
 have HN:=toHid (rname_any A2.rd (HE.out.keeps A2.ks) hx hl)
 have HA2:=toHid A2
 have HB2:=toHid hB2
 have HS3:=toHid hS3
 have hlt2:=lt_of_heap hB2
 clear HC1 R2 K2 A2 hB2 hS3
 go_wp2_with fail
 refine HN.out.mono ?_
 rintro ev w3 (⟨hm,rfl,R3,K3⟩ | ⟨hm,t,g1,b,rfl,g2⟩)
 rotate_left
 ·have ho2:o = .error (k1+1,false):=by
   rw [←HO.out,pAttempt]
   simp only [HQ1.out,markAt_of hx1,hm1,cond_true,isKind_of hx,show (x.1.toList == [110,97,109,101])=false from hm,cond_false]
  have HF:=toHid (HPE.out _ _ _ ho2 (faultAt.after HA2.out.ks.below ⟨t,g1,b,rfl,g2⟩))
  clear g1 g2 HN
  go_wp2_with fail
  exact ⟨rfl,HF.out⟩
 have hkn:isKind l (k1+1) [110,97,109,101]=true:=(isKind_of hx _).trans hm
 have hk3:=T.next hkn (by decide)
 have A3:=HA2.out.go R3 K3
 have hB3:=(K3.block w1.heap.size (by omega) hlt2).trans HB2.out
 have hS4:=HS3.out.same (S':=(fun b=>w.heap.size<b∧b≠w1.heap.size)) (K3.same (fun h=>by have:=h.1;omega)) (fun b hb _=>hb)
 obtain ⟨t0,t1,t2,t3,t4,t5,tf⟩:=stmt_block hB3
 have tf1:=tf 1
 have tl:=lt_of_heap hB3
 have A4:=A3.put (b:=w1.heap.size) (o:=1) (v:=.string x.2.1) hsz
 have hB4:=put_block (o:=1) (v:=.string x.2.1) hB3 #[.string kTry,.string x.2.1,.slice none 0 0,.slice none 0 0,.slice ba ss.length bc,.slice none 0 0] rfl
 have hS5:=hS4.same (S':=(fun b=>w.heap.size<b∧b≠w1.heap.size)) (w':=w3.setCell ⟨w1.heap.size,1,none⟩ (.string x.2.1)) (same_set (fun h=>h.2 rfl)) (fun b hb _=>hb)
 have HC4:=toHid (HH2.out (k1+1+1) (by omega) hk3 _ A4.rd (HE.out.keeps A4.ks) (HX.out.keeps A4.ks))
 have HA4:=toHid A4
 have HB4:=toHid hB4
 have HS5:=toHid hS5
 have hlt4:=lt_of_heap hB4
 clear HN R3 K3 A3 hB3 tf A4 hB4 hS4 hS5
 go_wp2_with fail
 refine HC4.out.mono ?_
 intro ev w5 hP
 rcases hP.parts with ⟨es,k5,ea,ec,q5,rfl,hE5,R5,K5,hk5,hk5l⟩ | ⟨y,b,q5,rfl,hf⟩
 rotate_left
 ·have ho2:o = .error y:=by
   rw [←HO.out,pAttempt]
   simp only [HQ1.out,markAt_of hx1,hm1,cond_true,hkn,q5]
  have HF:=toHid (HPE.out _ _ _ ho2 (faultAt.after HA4.out.ks.below hf))
  clear hP HC4 hf
  go_wp2_with fail
  exact ⟨rfl,HF.out⟩
 have A5:=HA4.out.go R5 K5
 have hB5:=(K5.block w1.heap.size (by omega) hlt4).trans HB4.out
 have hS6:=HS5.out.same (S':=(fun b=>w.heap.size<b∧b≠w1.heap.size)) (K5.same (fun h=>by have:=h.1;omega)) (fun b hb _=>hb)
 obtain ⟨s0,s1,s2,s3,s4,s5,sf⟩:=stmt_block hB5
 have sf5:=sf 5
 have sl:=lt_of_heap hB5
 have A6:=A5.put (b:=w1.heap.size) (o:=5) (v:=.slice ea es.length ec) hsz
 have hB6:=put_block (o:=5) (v:=.slice ea es.length ec) hB5 #[.string kTry,.string x.2.1,.slice none 0 0,.slice none 0 0,.slice ba ss.length bc,.slice ea es.length ec] rfl
 have hsx:(w3.setCell ⟨w1.heap.size,1,none⟩ (.string x.2.1)).heap.size=w3.heap.size:=size_set _ _ _
 have hS7:=hS6.same (S':=(fun b=>w.heap.size<b∧b≠w1.heap.size)) (w':=w5.setCell ⟨w1.heap.size,5,none⟩ (.slice ea es.length ec)) (same_set (fun h=>h.2 rfl)) (fun b hb _=>hb)
 have hE6:RepSL (fun b=>w.heap.size<b∧b≠w1.heap.size) (w5.setCell ⟨w1.heap.size,5,none⟩ (.slice ea es.length ec)) ea es:=hE5.same (same_set (by show ¬ (_≤w1.heap.size);rw [hsx];omega)) (fun b hb _=>by rw [hsx] at hb;exact ⟨by omega,by omega⟩)
 have ho6:o = .ok (mkS kTry x.2.1 [] [] ss es,k5):=by
  rw [←HO.out,pAttempt]
  simp only [HQ1.out,markAt_of hx1,hm1,cond_true,hkn,q5,txtAt_of hx]
 have HZ:=toHid (st_done (c0:=.string kTry) (c1:=.string x.2.1) (c2:=.slice none 0 0) (c3:=.slice none 0 0) (c4:=.slice ba ss.length bc) (c5:=.slice ea es.length ec) A6 (mkRepS (kd:=kTry) (nm:=x.2.1) (pl:=[]) (el:=[]) (pc:=0) (lc:=0) (bc:=bc) (ec:=ec) (RepN.nil _ _ none) (RepL.nil _ _ none) hS7 hE6) (fun b hb=>hb.1))
 obtain ⟨u0,u1,u2,u3,u4,u5,uf⟩:=stmt_block A6.b4
 have uf0:=uf 0
 have uf1:=uf 1
 have uf2:=uf 2
 have uf3:=uf 3
 have uf4:=uf 4
 have uf5:=uf 5
 have ul:=lt_of_heap A6.b4
 obtain ⟨q0,qq1,q2,qq3,q4,qq5,_⟩:=stmt_block hB6
 have HO6:=toHid ho6
 clear hP HC4 A5 hB5 sf A6 hB6 hS6 hS7 hE5 hE6 uf R5 K5 ho6 q5
 go_wp2_with fail
 obtain ⟨z1,z2,z3,z4⟩:=HZ.out
 refine bodyPost_ret (results_stmt _ 2 rfl _ _ w.heap.size _ _ _ _ _ _ rfl z1) rfl ?_
 rw [HO6.out]
 exact ⟨_,_,_,_,_,_,rfl,z2,z3,z4,by omega,hk5l⟩
end Go.Proofs.YtemapnogjepokaaGreatDoor

/- Package tree: rows of statements (written by tools/tree/rows.py). -/
namespace Go.Proofs.YtemapnogjepokaaGreatDoor
open Go.RowKit

def CellsS (S:Nat→Prop) (w:World) (cs:List Value) (es:List (DataW Unit)):Prop:=
 cs.length=es.length*6 ∧ ∀ (i:Nat) (e:DataW Unit),es[i]?=some e → ∃ c0 c1 c2 c3 c4 c5,cs[i*6]?=some c0∧cs[i*6+1]?=some c1∧cs[i*6+2]?=some c2∧cs[i*6+3]?=some c3∧cs[i*6+4]?=some c4∧cs[i*6+5]?=some c5∧RepS S w [c0,c1,c2,c3,c4,c5] e
theorem CellsS.nil (S:Nat→Prop) (w:World):CellsS S w [] []:=⟨rfl,fun i e h=>by simp at h⟩
theorem CellsS.same {S S':Nat→Prop}{w w':World}{cs:List Value}{es:List (DataW Unit)}(h:CellsS S w cs es) (K:Same S w w') (hS:∀ b,S b→b<w.heap.size→S' b):CellsS S' w' cs es:=
 ⟨h.1,fun i e hi=>by
  obtain ⟨c0,c1,c2,c3,c4,c5,h0,h1,h2,h3,h4,h5,hr⟩:=h.2 i e hi
  exact ⟨c0,c1,c2,c3,c4,c5,h0,h1,h2,h3,h4,h5,hr.same K hS⟩⟩
theorem CellsS.snoc {S:Nat→Prop}{w:World}{cs:List Value}{es:List (DataW Unit)}{c0 c1 c2 c3 c4 c5:Value}{e:DataW Unit}(h:CellsS S w cs es) (he:RepS S w [c0,c1,c2,c3,c4,c5] e):CellsS S w (cs ++ [c0,c1,c2,c3,c4,c5]) (es ++ [e]):=by
 refine ⟨by simp [h.1];omega,fun i x hi => ?_⟩
 have hlen:=h.1
 rcases Nat.lt_or_ge i es.length with hl | hl
 ·rw [List.getElem?_append_left hl] at hi
  obtain ⟨d0,d1,d2,d3,d4,d5,h0,h1,h2,h3,h4,h5,hr⟩:=h.2 i x hi
  refine ⟨d0,d1,d2,d3,d4,d5,?_,?_,?_,?_,?_,?_,hr⟩ <;> rw [List.getElem?_append_left (by omega)] <;> assumption
 ·have hie:i=es.length:=by
   rcases Nat.lt_or_ge es.length i with h1 | h1
   ·rw [List.getElem?_eq_none (by simp;omega)] at hi
    cases hi
   ·omega
  subst hie
  simp at hi
  subst hi
  refine ⟨c0,c1,c2,c3,c4,c5,?_,?_,?_,?_,?_,?_,he⟩
  ·rw [List.getElem?_append_right (by omega),show es.length*6 - cs.length=0 by omega];rfl
  ·rw [List.getElem?_append_right (by omega),show es.length*6+1 - cs.length=1 by omega];rfl
  ·rw [List.getElem?_append_right (by omega),show es.length*6+2 - cs.length=2 by omega];rfl
  ·rw [List.getElem?_append_right (by omega),show es.length*6+3 - cs.length=3 by omega];rfl
  ·rw [List.getElem?_append_right (by omega),show es.length*6+4 - cs.length=4 by omega];rfl
  ·rw [List.getElem?_append_right (by omega),show es.length*6+5 - cs.length=5 by omega];rfl
structure StmC (p g:Nat) (rk:Value) (a0 a1:Addr) (w0:World) (ss:List (DataW Unit)) (v:Value) (w:World):Prop where
 l:∃ cs,w.ownsRow w0.heap.size 52 6 v ss.length cs∧CellsS (fun b=>w0.heap.size≤b∧v.ownBlock≠some b) w cs ss
 ks:Keeps p w0 w
 err:TErr p a0 a1 w0
 ranks:RK p rk w0
 hp:p<w0.heap.size
 hg:g<w0.heap.size
theorem StmC.go {p g:Nat}{rk:Value}{a0 a1:Addr}{w0 w w':World}{ss:List (DataW Unit)}{v:Value}(C:StmC p g rk a0 a1 w0 ss v w) (K:Keeps p w w'):StmC p g rk a0 a1 w0 ss v w':=by
 obtain ⟨cs,h2,h3⟩:=C.l
 have hp:=C.hp
 exact ⟨⟨cs,ownsRow_far' h2 (fun k hk=>K.block k (by have:=own_ge h2 k hk;omega) (own_lt h2 k hk)),h3.same (K.same (fun h=>by have:=h.1;omega)) (fun b hb _=>hb)⟩,C.ks.trans K,C.err,C.ranks,C.hp,C.hg⟩
theorem stm_after {p g cap:Nat}{rk:Value}{l:List (ByteArray × ByteArray × Nat)}{k5 bl dp:Nat}{a0 a1:Addr}{w0 w w5 w2:World}{ss:List (DataW Unit)}{e:DataW Unit}{v:Value}{cs:List Value}{c0 c1 c2 c3 c4 c5:Value}{gn capn:Nat}
  (C:StmC p g rk a0 a1 w0 ss v w) (hO:w.ownsRow w0.heap.size 52 6 v ss.length cs) (hCE:CellsS (fun b=>w0.heap.size≤b∧v.ownBlock≠some b) w cs ss)
  (R5:RD w5 p g cap rk l k5 bl dp) (K5:Keeps p w w5) (hrep:RepS (fun b=>w.heap.size≤b) w5 [c0,c1,c2,c3,c4,c5] e) (hz:∃ wb,Below w5.heap.size w5 wb∧wb.grownBy w2 v.ownBlock∧(v.ownBlock=some gn∨gn=wb.heap.size))
  (hown2:w2.ownsRow w0.heap.size 52 6 (.slice (some ⟨gn,0,none⟩) (ss.length+1) capn) (ss.length+1) (cs ++ [c0,c1,c2,c3,c4,c5])) :
  RD w2 p g cap rk l k5 bl dp∧StmC p g rk a0 a1 w0 (ss ++ [e]) (.slice (some ⟨gn,0,none⟩) (ss.length+1) capn) w2:=by
 obtain ⟨wb,hb5,hgrow,hat⟩:=hz
 have hp:=C.hp
 have hg:=C.hg
 have hsz:=C.ks.below.size
 have hs5:=K5.below.size
 have hsb:=hb5.size
 have hs2:=hgrow.size
 have hgn0:w0.heap.size≤gn:=own_ge hown2 gn rfl
 have hgnO:∀ j,j<w.heap.size→v.ownBlock≠some j→j≠gn:=fun j hj hn h=>by
  rcases hat with h1 | h1
  ·exact hn (h ▸ h1)
  ·omega
 have hgnN:∀ j,w.heap.size≤j→j<w5.heap.size→j≠gn:=fun j hj hj5 h=>by
  rcases hat with h1 | h1
  ·have:=own_lt hO gn h1
   omega
  ·omega
 have hold:∀ j,j<w0.heap.size→v.ownBlock≠some j:=fun j hj h=>by have:=own_ge hO j h;omega
 have f2:∀ j,j<w5.heap.size→v.ownBlock≠some j→w2.heap[j]?=w5.heap[j]?:=fun j hj hn=>(hgrow.block j (by omega) (fun h=>hn h.symm)).trans (hb5.block j hj)
 have f6:∀ j,j≠p→j<w.heap.size→v.ownBlock≠some j→w2.heap[j]?=w.heap[j]?:=fun j hj hl hn=>(f2 j (by omega) hn).trans (K5.block j hj hl)
 have hBA:Below p w w2:=Below.grown (K5.below.trans (hb5.mono (by omega))) hgrow (by omega) (fun j hj=>by have:=own_ge hO j hj;omega)
 refine ⟨R5.moved (f2 p (by omega) (hold p hp)) (f2 g (by omega) (hold g hg)) (by omega),⟨⟨_,by rw [List.length_append];exact hown2,?_⟩,⟨C.ks.below.trans hBA,fun j hj hl=>(f6 j hj (by omega) (hold j hl)).trans (C.ks.block j hj hl)⟩,C.err,C.ranks,hp,hg⟩⟩
 refine CellsS.snoc (hCE.same (fun b hb hl => ?_) (fun b hb hl => ?_)) (hrep.same (fun b hb hl => ?_) (fun b hb hl => ?_))
 ·obtain ⟨h1,h4⟩:=hb
  exact f6 b (by omega) hl h4
 ·obtain ⟨h1,h4⟩:=hb
  refine ⟨h1,fun h=>hgnO b hl h4 ?_⟩
  simp [Value.ownBlock] at h
  omega
 ·have hn:v.ownBlock≠some b:=fun h=>by have:=own_lt hO b h;omega
  exact f2 b hl hn
 ·refine ⟨by omega,fun h=>hgnN b hb hl ?_⟩
  simp [Value.ownBlock] at h
  omega
theorem six_new (w:World) (c0 c1 c2 c3 c4 c5:Value) (t:TypeId):∀ j u,[c0,c1,c2,c3,c4,c5][j]?=some u→(w.alloc (.cells #[c0,c1,c2,c3,c4,c5] t)).cell? ((⟨w.heap.size,0,none⟩:Addr).add j)=some u:=
 World.news_of_block (cs:=#[c0,c1,c2,c3,c4,c5]) (t:=t) (heap_alloc_new w _)
theorem six_one {kd nm:ByteArray}{pa la ba ea:Option Addr}{pn pc ln lc bn bc en ec:Nat} : ∀ u ∈ [Value.string kd,.string nm,.slice pa pn pc,.slice la ln lc,.slice ba bn bc,.slice ea en ec],u.oneCell'=true:=by
 intro u hu
 simp at hu
 rcases hu with rfl | rfl | rfl | rfl | rfl | rfl <;> rfl
theorem infoStmt:(Tryz.prog.info? 52).map (fun i=>(i.zero,i.size,i.bytes))=some (some (.agg #[.string ⟨#[]⟩,.string ⟨#[]⟩,.slice none 0 0,.slice none 0 0,.slice none 0 0,.slice none 0 0]),6,128):=by kernel_rfl
theorem repSL_row {S S':Nat→Prop}{w:World}{base:Nat}{la:Option Addr}{lc:Nat}{cs:List Value}{es:List (DataW Unit)}(hO:w.ownsRow base 52 6 (.slice la es.length lc) es.length cs) (hCE:CellsS S w cs es) (hS:∀ b,S b→S' b) (hB:∀ b,base≤b→S' b):RepSL S' w la es:=by
 intro h0
 obtain ⟨hl,⟨e1,e2⟩ | ⟨g',cap',cur,e1,hb,hg,h1,h2,h3,h4⟩⟩:=hO
 ·omega
 ·simp at e1
  obtain ⟨rfl,rfl⟩:=e1
  refine ⟨g',0,rfl,hB _ hb,fun i e hi => ?_⟩
  obtain ⟨c0,c1,c2,c3,c4,c5,q0,q1,q2,q3,q4,q5,hr⟩:=hCE.2 i e hi
  have hi':=(List.getElem?_eq_some_iff.1 hi).1
  have hc:∀ j v,cs[j]?=some v→j<es.length*6→w.cell? ⟨g',j,none⟩=some v:=fun j v hj hlt=>by
   rw [cell_of_row w g' _ _ _ _ hg]
   rw [←h4,List.getElem?_take_of_lt hlt] at hj
   simpa using hj
  refine ⟨c0,c1,c2,c3,c4,c5,?_,?_,?_,?_,?_,?_,hr.same (fun _ _ _=>rfl) (fun b h _=>hS b h)⟩ <;> rw [Nat.zero_add] <;> exact hc _ _ (by assumption) (by omega)
end Go.Proofs.YtemapnogjepokaaGreatDoor

/- Package tree: statements (written by tools/tree/stmts.py). -/
namespace Go.Proofs.YtemapnogjepokaaGreatDoor
open Go.RowKit

def pStmts (l:List (ByteArray × ByteArray × Nat)) (cb:List UInt8) (stmt:Nat→Out (DataW Unit)):Nat→List (DataW Unit)→Nat→Out (List (DataW Unit))
 | 0,_,k=>.error (k,false)
 | f+1,ss,k=>bif isKind l k cb then .ok (ss,k) else (match stmt k with
  | .error y=>.error y
  | .ok (s,k')=>pStmts l cb stmt f (ss ++ [s]) k')
theorem pStmts_stop {l:List (ByteArray × ByteArray × Nat)}{cb:List UInt8}{stmt:Nat→Out (DataW Unit)}{f k:Nat}{ss:List (DataW Unit)}(h:isKind l k cb=true):pStmts l cb stmt (f+1) ss k = .ok (ss,k):=by
 unfold pStmts
 rw [h]
 rfl
theorem pStmts_err {l:List (ByteArray × ByteArray × Nat)}{cb:List UInt8}{stmt:Nat→Out (DataW Unit)}{f k:Nat}{ss:List (DataW Unit)}{y:Nat × Bool}(h:isKind l k cb=false) (hs:stmt k = .error y):pStmts l cb stmt (f+1) ss k = .error y:=by
 unfold pStmts
 rw [h,hs]
 rfl
theorem pStmts_go {l:List (ByteArray × ByteArray × Nat)}{cb:List UInt8}{stmt:Nat→Out (DataW Unit)}{f k k':Nat}{ss:List (DataW Unit)}{s:DataW Unit}(h:isKind l k cb=false) (hs:stmt k = .ok (s,k')):pStmts l cb stmt (f+1) ss k=pStmts l cb stmt f (ss ++ [s]) k':=by
 conv=>lhs;unfold pStmts
 rw [h,hs]
 rfl
theorem stmt_call {p g cap:Nat}{rk:Value}{l:List (ByteArray × ByteArray × Nat)}{k bl dp:Nat}{a0 a1:Addr}{w0 w:World}{ss:List (DataW Unit)}{v:Value}{o:Out (DataW Unit)}(h:ReadsS 61 #[.pointer (some ⟨p,0,none⟩)] p g cap rk l k bl dp a0 a1 o) (C:StmC p g rk a0 a1 w0 ss v w) (R:RD w p g cap rk l k bl dp) (W:World) (hb:Below w.heap.size w W) :
  Calls Tryz.prog 61 #[.pointer (some ⟨p,0,none⟩)] W fun ev w5=>(∃ s k5 kd nm pa pn pc la ln lc ba bn bc ea en ec,o = .ok (s,k5)∧ev = .returned (.agg #[.string kd,.string nm,.slice pa pn pc,.slice la ln lc,.slice ba bn bc,.slice ea en ec])∧RepS (fun b=>w.heap.size≤b) w5 [.string kd,.string nm,.slice pa pn pc,.slice la ln lc,.slice ba bn bc,.slice ea en ec] s∧RD w5 p g cap rk l k5 bl dp∧Keeps p w w5∧Keeps p W w5∧k<k5∧k5<l.length) ∨
   (∃ y b,o = .error y∧ev = .panicked [{ v:=.iface 61 (.pointer (some ⟨b,0,none⟩)),recovered:=false }]∧faultAt l p a0 a1 w0 y ev w5):=by
 have hp:=lt_of_heap R.blk
 have hK:=Keeps.of hb (p:=p) (by omega)
 have hKK:=C.ks.trans hK
 refine (h W (R.more hb) (C.err.keeps hKK) (C.ranks.keeps hKK)).mono ?_
 intro ev w5 hP
 rcases hP.parts with ⟨s,k5,kd,nm,pa,pn,pc,la,ln,lc,ba,bn,bc,ea,en,ec,q5,rfl,hrep5,R5,K5,hk5,hk5l⟩ | ⟨y,b,q5,rfl,hf⟩
 ·exact .inl ⟨s,k5,kd,nm,pa,pn,pc,la,ln,lc,ba,bn,bc,ea,en,ec,q5,rfl,hrep5.same (fun _ _ _=>rfl) (fun b h _=>Nat.le_trans hb.size h),R5,hK.trans K5,K5,hk5,hk5l⟩
 ·exact .inr ⟨y,b,q5,rfl,faultAt.after hKK.below hf⟩

set_option maxHeartbeats 16000000 in
set_option maxRecDepth 100000 in
theorem statements_any {p g cap:Nat}{rk:Value}{l:List (ByteArray × ByteArray × Nat)}{k bl dp:Nat}{a0 a1:Addr}(cl:ByteArray) (T:TokS l) (hk:k<l.length) (stmt:Nat→Out (DataW Unit))
  (h:∀ k',k≤k'→k'<l.length→ReadsS 61 #[.pointer (some ⟨p,0,none⟩)] p g cap rk l k' bl dp a0 a1 (stmt k')):ReadsSL 40 #[.pointer (some ⟨p,0,none⟩),.string cl] p g cap rk l k bl dp a0 a1 (pStmts l cl.toList stmt (l.length+1) [] k):=by
 intro w R E X
 have hl:=T.ok.hl
 have HH:=toHid h
 have hpl:=lt_of_heap R.blk
 have C0:StmC p g rk a0 a1 w [] (.slice none 0 0) w:=⟨⟨[],⟨rfl,.inl ⟨rfl,rfl⟩⟩,CellsS.nil _ _⟩,Keeps.refl _ _,E,X,hpl,R.gl⟩
 obtain ⟨o,ho⟩:∃ o,pStmts l cl.toList stmt (l.length+1) [] k=o:=⟨_,rfl⟩
 rw [ho]
 have H0:Hid (RD w p g cap rk l k bl dp∧StmC p g rk a0 a1 w [] (.slice none 0 0) w∧pStmts l cl.toList stmt (l.length+1) [] k=o):=⟨R,C0,ho⟩
 have HPE:Hid (∀ y ev w',o = .error y→faultAt l p a0 a1 w y ev w'→PostSL (fun b=>w.heap.size≤b) p g cap rk l k bl dp a0 a1 w o ev w'):=by
  rintro y ev w' rfl h
  exact h
 obtain ⟨i0,hi,hz0,hz1,hz2⟩:=info_parts infoStmt
 have Hi:=toHid hi
 clear h R E X C0 ho hi
 go_enter Tryz.func40,Tryz.ntmps40
 go_wp2_with fail
 go_loopg [5] (l.length+1) (fun gk vl wx => ∃ (ss:List (DataW Unit)) (k2:Nat) (pa:Option Addr) (pc:Nat),vl = .slice pa ss.length pc∧RD wx p g cap rk l k2 bl dp∧StmC p g rk a0 a1 w ss (.slice pa ss.length pc) wx∧k≤k2∧k2<l.length∧ss.length≤k2∧l.length - k2<gk∧pStmts l cl.toList stmt gk ss k2=o)
 case atStart =>
  obtain ⟨h1,h2,h3⟩:=H0.out
  exact ⟨[],k,none,0,rfl,h1,h2,Nat.le_refl _,hk,by simp,by omega,h3⟩
 case round =>
  obtain ⟨ss,k2,pa,pc,rfl,R2,C2,hk2,hk2l,hss,hgk,hpm⟩:=hrel
  obtain ⟨x,hx⟩:∃ x,l[k2]?=some x:=⟨l[k2],by simp [hk2l]⟩
  have hkd:=isKind_of hx cl.toList
  have F0:=field0 (.string x.1) (.string x.2.1) (.int .i64 (x.2.2:Int))
  obtain ⟨gj,hgj⟩:∃ gj,gk=gj+1:=⟨gk - 1,by omega⟩
  have HPM:=toHid hpm
  have HGJ:=toHid hgj
  have HKD:=toHid hkd
  have hC2:=toHid C2
  have HNX:=toHid (tnext_any R2 hx)
  have HR2:=toHid R2
  have hlp:=lt_of_heap R2.blk
  obtain ⟨m,hm⟩:∃ m,(x.1.toList == cl.toList)=m:=⟨_,rfl⟩
  have HM:=toHid hm
  clear hpm hgj hkd R2 C2 H0 hm hx
  go_wp2_with fail
  refine HNX.out.mono ?_
  rintro ev w3 ⟨rfl,hb3⟩
  have hK3:Keeps p wr w3:=Keeps.of hb3 (by omega)
  have C3:=hC2.out.go hK3
  have R3:=HR2.out.more hb3
  cases m with
  | true =>
   have hme:x.1.toList=cl.toList:=by simpa using HM.out
   have hmm:(x.1.toList == cl.toList)=true:=HM.out
   have ho2:o = .ok (ss,k2):=by rw [←HPM.out,HGJ.out];exact pStmts_stop (by rw [HKD.out];exact HM.out)
   obtain ⟨cs,hO,hCE⟩:=C3.l
   have HF:Hid (RepSL (fun b=>w.heap.size≤b) w3 pa ss∧RD w3 p g cap rk l k2 bl dp∧Keeps p w w3):=⟨repSL_row hO hCE (fun b h=>h.1) (fun b h=>h),R3,C3.ks⟩
   have HO2:=toHid ho2
   clear hb3 hK3 C3 R3 hO hCE HNX ho2 hme
   go_wp2_with fail
   go_ret
   rw [HO2.out]
   exact ⟨_,_,rfl,HF.out.1,HF.out.2.1,HF.out.2.2,hk2,hk2l⟩
  | false =>
   have hmm:(x.1.toList == cl.toList)=false:=HM.out
   have hkf:Hid (isKind l k2 cl.toList=false):=by show _=_;rw [HKD.out];exact HM.out
   have HN:=toHid (stmt_call (HH.out k2 hk2 hk2l) C3 R3)
   obtain ⟨cs,hO,hCE⟩:=C3.l
   have hsl:ss.length≤100000:=by omega
   have hp3:=lt_of_heap R3.blk
   have hw3:=C3.ks.below.size
   have HC:=toHid C3
   have HO:=toHid hO
   have HCE:=toHid hCE
   have HO5:Hid (∀ w5,Keeps p w3 w5→w5.ownsRow w.heap.size 52 6 (.slice pa ss.length pc) ss.length cs):=fun w5 K=>ownsRow_far' HO.out (fun k hk=>K.block k (by have:=own_ge HO.out k hk;omega) (own_lt HO.out k hk))
   clear hb3 hK3 C3 R3 hO hCE HNX hC2 HR2
   go_wp2_with fail
   refine (HN.out _ (Below.refl _ _)).mono ?_
   rintro ev w5 (⟨s5,k5,kd5,nm5,pa5,pn5,pc5,la5,ln5,lc5,ba5,bn5,bc5,ea5,en5,ec5,q5,rfl,hrep5,R5,K5,KW,hk5,hk5l⟩ | ⟨y,b,q5,rfl,hf⟩)
   rotate_left
   ·have HF:=toHid (HPE.out y _ _ (by rw [←HPM.out,HGJ.out];exact pStmts_err hkf.out q5) hf)
    clear q5 hf HN
    go_wp2_with fail
    exact ⟨rfl,HF.out⟩
   have s5z:=K5.below.size
   have hown5:=HO5.out w5 K5
   have HP4:Hid (pStmts l cl.toList stmt gj (ss ++ [s5]) k5=o):=by show _=_;rw [←HPM.out,HGJ.out];exact (pStmts_go hkf.out q5).symm
   have HRP:=toHid hrep5
   have HR:=toHid R5
   have HK:=toHid K5
   have HOW:=toHid hown5
   clear q5 hrep5 R5 K5 KW hown5 HN
   go_wp2_with (first | (at_builtin;refine wpList_append_lies _ rfl _ _ _ rfl w.heap.size 52 i0 (.agg #[.string ⟨#[]⟩,.string ⟨#[]⟩,.slice none 0 0,.slice none 0 0,.slice none 0 0,.slice none 0 0]) 6 128 Tryz.underlying30 Hi.out hz0 hz1 hz2 rfl (by decide) _ ss.length cs rfl (HOW.out.alloc _) ⟨w5.heap.size,0,none⟩ 1 1 [.string kd5,.string nm5,.slice pa5 pn5 pc5,.slice la5 ln5 lc5,.slice ba5 bn5 bc5,.slice ea5 en5 ec5] rfl rfl (six_new _ _ _ _ _ _ _ _) six_one (by decide) (by unfold maxLen;omega) (by omega) (by simp;omega) _ rfl ?_;intro gn capn w2 hown2 hgrow hat hlt;have HW2:=toHid hown2;have HZ:Hid (∃ wb,Below w5.heap.size w5 wb∧wb.grownBy w2 (Value.slice pa ss.length pc).ownBlock∧((Value.slice pa ss.length pc).ownBlock=some gn∨gn=wb.heap.size)):=⟨_,(Below.refl _ _).alloc (Nat.le_refl _) _,hgrow,hat⟩;clear hown2 hgrow hat))
   have HWA:=toHid (stm_after HC.out HO.out HCE.out HR.out HK.out HRP.out HZ.out HW2.out)
   go_roundg gj
   case measure=>have:=HGJ.out;omega
   case rel =>
    obtain ⟨h1,h2⟩:=HWA.out
    exact ⟨ss ++ [s5],k5,some ⟨gn,0,none⟩,capn,by simp,h1,by simpa using h2,by omega,hk5l,by simp;omega,by have:=HGJ.out;omega,HP4.out⟩
end Go.Proofs.YtemapnogjepokaaGreatDoor
