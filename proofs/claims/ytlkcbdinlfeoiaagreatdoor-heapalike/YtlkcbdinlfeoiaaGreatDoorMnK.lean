/- Package minor: collect, by a contract. -/
import Derived.Test.YtlkcbdinlfeoiaaGreatDoorKnAN
namespace Go.Proofs.YtlkcbdinlfeoiaaGreatDoor
open Go.Proofs.Tryz Go.RowKit
set_option maxHeartbeats 8000000
set_option maxRecDepth 100000
section
open Go.Maps
structure ColAt (p bW bC cW cC:Nat) (m:MD) (vR vK vI:Value) (w:World):Prop where
 mb:MB p m.half m.old m.card m.used m.top m.oldTop (.slice (some ⟨bW,0,none⟩) m.W.length cW) vR vK vI (.slice (some ⟨bC,0,none⟩) m.C.length cC) w
 hW:Blk bW 81 (Z05 m.W) w
 hC:Blk bC 4 (Z0s m.C) w
 cap:m.W.length<=cW
 capC:m.C.length<=cC
 R:Z4g w vR m.R.length (Z05 m.R)
 K:Z4g w vK m.K.length (Z05 m.K)
 I:Z20 123 2 vI m.I.length (Z2e m.I) w
theorem ColAt.below {p bW bC cW cC:Nat}{m:MD}{vR vK vI:Value}{w w':World} (h:ColAt p bW bC cW cC m vR vK vI w) (hb:Below w.heap.size w w'):ColAt p bW bC cW cC m vR vK vI w':=
 ⟨(hb.block _ (Z01 h.mb)).trans h.mb,h.hW.below hb,h.hC.below hb,h.cap,h.capC,h.R.below hb,h.K.below hb,h.I.below hb⟩
structure ColR (p:Nat) (m:MD) (vW vI vC:Value) (w3:World) (vR vK:Value) (w:World):Prop where
 mb:MB p m.half m.old m.card m.used m.top m.oldTop vW vR vK vI vC w
 R:Z20 81 1 vR m.R.length (Z05 m.R) w
 K:Z20 81 1 vK m.K.length (Z05 m.K) w
 Rn:∀ g,Z1n vR g->w3.heap.size<=g
 Kn:∀ g,Z1n vK g->w3.heap.size<=g
 ne:∀ g,Z1n vR g -> ¬ Z1n vK g
 aside:Aside (· = p) w3 w
 oK:w.ownsRow w3.heap.size 81 1 vK m.K.length (Z05 m.K)
 rk:∀ g,Z1n vR g->vK.ownBlock≠some g
theorem ColR.below {p:Nat}{m:MD}{vW vI vC:Value}{w3:World}{vR vK:Value}{w w':World} (h:ColR p m vW vI vC w3 vR vK w) (hb:Below w.heap.size w w'):ColR p m vW vI vC w3 vR vK w':=
 ⟨(hb.block _ (Z01 h.mb)).trans h.mb,h.R.below hb,h.K.below hb,h.Rn,h.Kn,h.ne,h.aside.trans (Aside.of_below hb),Z04 h.oK (fun k hk=>hb.block k (Z08 h.oK k hk).2),h.rk⟩
theorem Zbo {p:Nat}{m:MD}{vW vR0 vK0 vI vC vR vK:Value}{w3 wR wK:World} (h:MB p m.half m.old m.card m.used m.top m.oldTop vW vR0 vK0 vI vC w3) (bR:Below w3.heap.size w3 wR) (bK:Below wR.heap.size wR wK)
  (oR:wR.ownsRow w3.heap.size 81 1 vR m.R.length (Z05 m.R)) (oK:wK.ownsRow wR.heap.size 81 1 vK m.K.length (Z05 m.K)):ColR p m vW vI vC w3 vR vK ((wK.setCell ⟨p,7,none⟩ vR).setCell ⟨p,8,none⟩ vK):=by
 have hp:=Z01 h
 have b3:Below w3.heap.size w3 wK:=bR.trans (bK.mono bR.size)
 have hK:=(b3.block _ hp).trans h
 have a3:Aside (· = p) w3 ((wK.setCell ⟨p,7,none⟩ vR).setCell ⟨p,8,none⟩ vK):=(Aside.setCell (g:=p) (Aside.setCell (X:=fun k=>k=p) (g:=p) (Aside.of_below b3) rfl _) rfl _)
 have aK:Aside (· = p) wK ((wK.setCell ⟨p,7,none⟩ vR).setCell ⟨p,8,none⟩ vK):=(Aside.setCell (g:=p) (Aside.setCell (X:=fun k=>k=p) (g:=p) (Aside.refl _ _) rfl _) rfl _)
 obtain ⟨r1,r2⟩:=Z20.of_own oR
 obtain ⟨k1,k2⟩:=Z20.of_own oK
 have hlt:∀ g,Z1n vR g->g<wR.heap.size:=fun g hg=>by
  obtain ⟨ao,cap,e1,_,_,e4⟩:=r1
  obtain ⟨o,n,c,h0,e5⟩:=hg
  rw [e1] at e5
  cases e5
  obtain ⟨g',e6,hb⟩:=e4 h0
  cases e6
  exact hb.lt
 refine ⟨?_,(r1.below bK).aside aK (fun g hg e => ?_),k1.aside aK (fun g hg e => ?_),r2,fun g hg=>U0n bR.size (k2 g hg),fun g hg hk => ?_,a3,?_,fun g hg hk => ?_⟩
 ·unfold MB
  rw [Z06 (Z06 hK)]
  rfl
 ·have:=r2 g hg;have e:g=p:=e;omega
 ·have:=k2 g hg;have e:g=p:=e;have:=bR.size;omega
 ·have:=hlt g hg;have:=k2 g hk;omega
 ·have ho:wK.ownsRow w3.heap.size 81 1 vK m.K.length (Z05 m.K):=⟨oK.1,by rcases oK.2 with h | ⟨g,cap,cur,e1,e2,e3⟩;exact .inl h;exact .inr ⟨g,cap,cur,e1,U0n bR.size e2,e3⟩⟩
  refine Z04 ho (fun k hk => ?_)
  have h1:=(Z08 ho k hk).1
  rw [Z0a _ _ _ _ _ (by omega),Z0a _ _ _ _ _ (by omega)]
 ·have:=hlt g hg;have:=(Z08 oK g hk).1;omega
theorem Z78 {t:TypeId}{v:Value}{n:Nat}{xs:List Value}{w:World} (h:Z20 t 1 v n xs w):Z4g w v n xs:=by
 obtain ⟨ao,cap,e,hc,_,hf⟩:=h
 refine ⟨ao,cap,e,hc,fun h0 => ?_⟩
 obtain ⟨g,e2,hb⟩:=hf h0
 exact ⟨g,0,e2,hb.lt,fun j u hj=>by rw [U1p];exact hb.cell hj⟩
theorem Z8d {p bW bC cW cC:Nat}{m:MD}{vR vK vI:Value}{w:World} (h:ColAt p bW bC cW cC m vR vK vI w):∀ g,Z1n vI g->g<w.heap.size/\g≠p/\g≠bW/\g≠bC:=fun g hg=>by
 obtain ⟨ao,cap,e1,_,_,e4⟩:=h.I
 obtain ⟨o,n,c,h0,e5⟩:=hg
 rw [e1] at e5
 cases e5
 obtain ⟨g',e6,r,hb⟩:=e4 h0
 cases e6
 obtain ⟨r1,hW⟩:=h.hW
 obtain ⟨r2,hC⟩:=h.hC
 have hp:=h.mb
 unfold MB at hp
 refine ⟨Z01 hb,?_,?_,?_⟩ <;> intro e1
 ·rw [e1] at hb;have:=hb.symm.trans hp;simp at this
 ·rw [e1] at hb;have:=hb.symm.trans hW;simp at this
 ·rw [e1] at hb;have:=hb.symm.trans hC;simp at this
def Z7g (p bW bC:Nat) (k:Nat):Prop:=k=p\/k=bW\/k=bC
theorem Aside.join {X Y:Nat->Prop}{w w1 w2:World} (h:Aside X w w1) (h':Aside Y w1 w2) (hy:∀ k,k<w.heap.size->Y k->X k):Aside X w w2:=
 ⟨h'.os.trans h.os,h'.tape.trans h.tape,h'.output.trans h.output,U0n h.size h'.size,fun k hk hx=>(h'.block k (U0r hk h.size) (fun hyk=>hx (hy k hk hyk))).trans (h.block k hk hx)⟩
structure RowsN (B:Nat) (m:MD) (vR vK vI:Value) (w:World):Prop where
 R:Z20 81 1 vR m.R.length (Z05 m.R) w
 Rn:∀ g,Z1n vR g->B<=g
 K:w.ownsRow B 81 1 vK m.K.length (Z05 m.K)
 I:w.ownsRow B 123 2 vI m.I.length (Z2e m.I)
 rk:∀ g,Z1n vR g->vK.ownBlock≠some g
theorem RowsN.base {B B':Nat}{m:MD}{vR vK vI:Value}{w:World} (h:RowsN B m vR vK vI w) (hB:B'<=B):RowsN B' m vR vK vI w:=
 ⟨h.R,fun g hg=>U0n hB (h.Rn g hg),⟨h.K.1,by rcases h.K.2 with h | ⟨g,cap,cur,e1,e2,e3⟩;exact .inl h;exact .inr ⟨g,cap,cur,e1,U0n hB e2,e3⟩⟩,⟨h.I.1,by rcases h.I.2 with h | ⟨g,cap,cur,e1,e2,e3⟩;exact .inl h;exact .inr ⟨g,cap,cur,e1,U0n hB e2,e3⟩⟩,h.rk⟩
theorem RowsN.below {B:Nat}{m:MD}{vR vK vI:Value}{w w':World} (h:RowsN B m vR vK vI w) (hb:Below w.heap.size w w'):RowsN B m vR vK vI w':=
 ⟨h.R.below hb,h.Rn,Z04 h.K (fun k hk=>hb.block k (Z08 h.K k hk).2),Z04 h.I (fun k hk=>hb.block k (Z08 h.I k hk).2),h.rk⟩
def Z1j (p bW bC cW cC:Nat) (m:MD) (l1 l2:List Nat) (tn:Int) (w w':World):Prop:=∃ (e:CE) (n:MD) (us:List Nat) (S:Nat->Prop) (ψ:Nat->Nat) (vR vK vI:Value),e.tn=tn/\ColAt p bW bC cW cC n vR vK vI w'/\Coll e m n l1 l2 us S ψ/\(m.R = []->l2 = []->n.top=0)/\Aside (Z7g p bW bC) w w'/\RowsN w.heap.size n vR vK vI w'
theorem Z1j.below {p bW bC cW cC:Nat}{m:MD}{l1 l2:List Nat}{tn:Int}{w w' w'':World} (h:Z1j p bW bC cW cC m l1 l2 tn w w') (hb:Below w'.heap.size w' w''):Z1j p bW bC cW cC m l1 l2 tn w w'':=by
 obtain ⟨e,n,us,S,ψ,vR,vK,vI,h1,h2,h3,h5,h4,h6⟩:=h
 exact ⟨e,n,us,S,ψ,vR,vK,vI,h1,h2.below hb,h3,h5,h4.trans (Aside.of_below hb),h6.below hb⟩
theorem Z1j.drew {p bW bC cW cC:Nat}{m:MD}{l1 l2:List Nat}{tn:Int}{w w':World} (h:Z1j p bW bC cW cC m l1 l2 tn w w'):Z1j p bW bC cW cC m l1 l2 tn w w'.drew:=h.below (U01 _ _).drew
theorem Ztj (m:MD) (f:Nat):mkL m.F m.Cf m.half m.card f=mkF m f:=by
 have h:∀ l:List Nat,l.flatMap (fun k=>mkB m.Cf m.half m.card (f+1+k))=(l.map fun k=>f+1+k).filter fun y=>m.Cf (Z35 m.half m.card y):=fun l=>by
  induction l with
  | nil=>rfl
  | cons k l ih =>
   rw [U4j,ih,U1f,U5g]
   unfold mkB
   cases m.Cf (Z35 m.half m.card (f+1+k)) <;> simp
 unfold mkL mkF
 rw [h]
theorem Zsf (m:MD) (l2:List Nat):Zen m.F m.Cf m.half m.card l2=Z2j m l2:=by
 unfold Zen Z2j
 congr 1
 funext f
 exact Ztj m f
theorem Zpr {m:MD}{l2:List Nat} (h:∀ y∈Z2j m l2,y<300000) (hn:(Z2j m l2).Nodup):(Z2j m l2).length<=300000:=by
 have:=Z55 (Z2j m l2) (List.range 300000) hn (fun y hy=>U0u.2 (h y hy))
 simpa using this
theorem SI.le {e:CE}{m:MD}{l1 l2:List Nat}{o0:Nat}{s:CS} (h:SI e m l1 l2 o0 s):o0<=s.yd/\m.m1<=s.gd:=by
 obtain ⟨_,_,_,_,_,_,t1,t2,_⟩:=h
 exact ⟨t1.le,t2.le⟩
def CS.begin (m:MD) (o0:Nat):CS:=⟨m.W,m.C,fun _=>none,o0,o0,m.m1,m.m1⟩
theorem Zk4 {p bW bC cW cC q bm n0 hi o0 m1:Nat}{m:MD}{vR vK vI vR' vK':Value}{tn:Int}{w w3 w5:World} (hn0:n0=m.n0) (hm1:m1=m.m1) (H:ColAt p bW bC cW cC m vR vK vI w) (B3:Below w.heap.size w w3)
  (G3:w3.heap[q]?=some (.cells #[.pointer (some ⟨p,0,none⟩),.int .i64 (n0:Int),.int .i64 (hi:Int),.map (some bm),.int .i64 tn,.int .i64 (o0:Int),.int .i64 (o0:Int),.int .i64 (m1:Int),.int .i64 (m1:Int)] 281)) (M3:w3.ownsMap prog 3 (plainElem prog 3) bm 0 ((.map []):DataW Unit)) (hlq:w.heap.size<=q) (hlb:w.heap.size<=bm)
  (C:ColR p m (.slice (some ⟨bW,0,none⟩) m.W.length cW) vI (.slice (some ⟨bC,0,none⟩) m.C.length cC) w3 vR' vK' w5) :
  CopAt ⟨q,p,bm,bW,bC,cW,cC,m.n0,hi,tn,m.half,m.old,m.card,m.used,m.top,m.oldTop,m.W.length,m.C.length,vR',vK',vI⟩ (CS.begin m o0) w5:=by
 have hp:=Z01 H.mb
 have hpW:bW≠p:=fun e=>by
  obtain ⟨r,h⟩:=H.hW
  have:=H.mb
  unfold MB at this
  rw [e] at h
  have:=this.symm.trans h
  simp at this
 have hpC:bC≠p:=fun e=>by
  obtain ⟨r,h⟩:=H.hC
  have:=H.mb
  unfold MB at this
  rw [e] at h
  have:=this.symm.trans h
  simp at this
 refine ⟨?_,C.mb,(H.hW.below B3).aside C.aside hpW,(H.hC.below B3).aside C.aside hpC,0,.map [],U0x _,Z0f M3 C.aside (fun e=>by have e:bm=p:=e;omega),Zhq⟩
 rw [C.aside.block q (Z01 G3) (fun e=>by have e:q=p:=e;omega),G3,hn0,hm1]
 rfl
theorem Zgd (a:Nat->Addr) (p bW bC cW cC:Nat) (m:MD) (vR vK vI:Value) (l1 l2:List Nat) (tn:Int) (o0 hi:Nat) (w:World) (H:ColAt p bW bC cW cC m vR vK vI w) (hX:∀ e:CE,e.lo=m.n0->e.hi=hi->e.tn=tn->e.half=m.half->e.card=m.card->e.nW=m.W.length->e.nC=m.C.length->e.cW=cW->CX e m l1 l2 o0)
  (hlR:m.R.length<=300000) (hlK:m.K.length<=300000) (hlI:m.I.length<=300000) (E:∀ w',Aside (Z7g p bW bC) w w'->WErr a w')
  (e1:IntKind.i64.wrap (m.used*m.half)=(m.n0:Int)) (e2:IntKind.i64.wrap (1 - m.used)=1 - m.used) (e3:IntKind.i64.wrap ((1 - m.used)*m.half)=(o0:Int)) (e4:IntKind.i64.wrap (2*m.half)=(m.m0:Int)) (e5:IntKind.i64.wrap ((m.n0:Int)+m.half)=(hi:Int)) (e6:IntKind.i64.wrap ((m.m0:Int)+m.oldTop)=(m.m1:Int)) :
  Calls prog 165 #[.pointer (some ⟨p,0,none⟩),.int .i64 tn] w fun ev w'=>ev = .returned (.tuple #[])/\Z1j p bW bC cW cC m l1 l2 tn w w':=by
 obtain ⟨n0,hn0⟩:∃ n0,n0=m.n0:=⟨_,rfl⟩
 obtain ⟨m0,hm0⟩:∃ m0,m0=m.m0:=⟨_,rfl⟩
 obtain ⟨m1,hm1⟩:∃ m1,m1=m.m1:=⟨_,rfl⟩
 rw [<-hn0] at e1 e5
 rw [<-hm0] at e4 e6
 rw [<-hm1] at e6
 have HN0:=Z00 hn0
 have HM0:=Z00 hm0
 have HM1:=Z00 hm1
 have HX:=Z00 hX
 have HE:=Z00 E
 clear hn0 hm0 hm1 hX E
 have hmb:=H.mb
 unfold MB at hmb
 have c0:w.cell? ⟨p,0,none⟩=some (.int .i64 m.half):=by rw [U06 _ _ _ _ _ _ hmb];rfl
 have c4:w.cell? ⟨p,4,none⟩=some (.int .i64 m.used):=by rw [U06 _ _ _ _ _ _ hmb];rfl
 have c6:w.cell? ⟨p,6,none⟩=some (.int .i64 m.oldTop):=by rw [U06 _ _ _ _ _ _ hmb];rfl
 have c7:w.cell? ⟨p,7,none⟩=some vR:=by rw [U06 _ _ _ _ _ _ hmb];rfl
 have c8:w.cell? ⟨p,8,none⟩=some vK:=by rw [U06 _ _ _ _ _ _ hmb];rfl
 have hp:=Z01 hmb
 have HMB:=Z00 hmb
 have HH:=Z00 H
 obtain ⟨aR,cR,eR,hcR,fR⟩:=id H.R
 obtain ⟨aK,cK,eK,hcK,fK⟩:=id H.K
 rw [eR] at c7
 rw [eK] at c8
 have HER:=Z00 eR
 have HEK:=Z00 eK
 have HCR:Hid (∀ W,Below w.heap.size w W->Calls prog 96 #[.slice aR m.R.length cR] W fun ev w' => ∃ ao' c',ev = .returned (.slice ao' m.R.length c')/\w'.ownsRow W.heap.size 81 1 (.slice ao' m.R.length c') m.R.length (Z05 m.R)/\Below W.heap.size W w'):=fun W hW=>Z5j aR m.R.length cR W (Z05 m.R) (by rw [Z3y];omega) ((by have h:=H.R.below hW;rw [eR] at h;exact h.src)) (Z3g _) hlR
 have HCK:Hid (∀ W,Below w.heap.size w W->Calls prog 96 #[.slice aK m.K.length cK] W fun ev w' => ∃ ao' c',ev = .returned (.slice ao' m.K.length c')/\w'.ownsRow W.heap.size 81 1 (.slice ao' m.K.length c') m.K.length (Z05 m.K)/\Below W.heap.size W w'):=fun W hW=>Z5j aK m.K.length cK W (Z05 m.K) (by rw [Z3y];omega) ((by have h:=H.K.below hW;rw [eK] at h;exact h.src)) (Z3g _) hlK
 have H7:=Z00 c7
 have H8:=Z00 c8
 clear hmb H eR eK hcR hcK fR fK
 go_enter func165,ntmps165
 go_wp2_with fail
 go_quiet (fail)
 obtain ⟨w1,hw1⟩:∃ w1,w1=w.drewN nq:=⟨_,rfl⟩
 have b1:Below w.heap.size w w1:=by rw [hw1];exact Z03 (U01 _ _)
 rw [<-hw1]
 have HB1:=Z00 b1
 have HS:Hid (∀ W,Below w1.heap.size w1 W->W.cell? ⟨p,0,none⟩=some (.int .i64 m.half)/\W.cell? ⟨p,6,none⟩=some (.int .i64 m.oldTop)):=fun W hW=>by
  have hb:=b1.trans (hW.mono b1.size)
  exact ⟨(hb.cell (p:=⟨p,0,none⟩) (Z02 c0)).trans c0,(hb.cell (p:=⟨p,6,none⟩) (Z02 c6)).trans c6⟩
 have HS1:=Z00 (HS.out w1 (U01 _ _))
 have HO:Hid (∀ W,Below w1.heap.size w1 W->Calls prog 199 #[.int .i64 (n0:Int),.int .i64 (hi:Int)] W fun ev w' => ∃ bm,ev = .returned (.agg #[.int .i64 (n0:Int),.int .i64 (hi:Int),.map (some bm)])/\w'.ownsMap prog 3 (plainElem prog 3) bm 0 ((.map []):DataW Unit)/\w1.heap.size<=bm/\Below w1.heap.size w1 w'):=fun W hW=>by
  refine (Zkb _ _ W).mono ?_
  rintro ev w' ⟨bm,rfl,h1,h2,h3⟩
  exact ⟨bm,rfl,h1,U0n hW.size h2,hW.trans (h3.mono hW.size)⟩
 clear hw1 b1 c0 c4 c6 c7 c8
 go_upto_region 1 with fail
 go_cut [7] from 35 to 62 (fun v7 wx => ∃ q bm,v7 = .pointer (some ⟨q,0,none⟩)/\Hid (wx.heap[q]?=some (.cells #[.pointer (some ⟨p,0,none⟩),.int .i64 (n0:Int),.int .i64 (hi:Int),.map (some bm),.int .i64 tn,.int .i64 (o0:Int),.int .i64 (o0:Int),.int .i64 (m1:Int),.int .i64 (m1:Int)] 281))/\Hid (wx.ownsMap prog 3 (plainElem prog 3) bm 0 ((.map []):DataW Unit))/\w.heap.size<=q/\w.heap.size<=bm/\Hid (Below w.heap.size w wx))
 case first =>
  go_region_held3 (fun W=>W.cell? ⟨p,0,none⟩=some (.int .i64 m.half)/\W.cell? ⟨p,6,none⟩=some (.int .i64 m.oldTop)) (first | with_reducible exact HS1.out | with_reducible exact HS.out _ (U01 _ _).drew | with_reducible exact HS.out _ hbO | with_reducible exact HS.out _ hbO.drew | with_reducible exact HS.out _ (hbO.alloc hbO.size _)) (first
   | (go_at_call 199;refine (HO.out _ (by first | exact U01 _ _ | exact (U01 _ _).drew)).mono ?_;rintro ev w2 ⟨bm,rfl,hom,hlm,hbO⟩))
  go_wp2_with fail
  go_meet
  refine ⟨_,bm,rfl,U0b _ _,hom.alloc _,U0n HB1.out.size hbO.size,U0n HB1.out.size hlm,HB1.out.trans ((hbO.alloc hbO.size _).mono HB1.out.size)⟩
 case rest =>
 obtain ⟨q,bm,rfl,HG3,HM3,hlq,hlb,HB3⟩:=hcut
 obtain ⟨w3,hw3⟩:∃ w3,w3=wc:=⟨_,rfl⟩
 subst hw3
 clear HS HS1 HO HB1
 have k7:w3.cell? ⟨p,7,none⟩=some (.slice aR m.R.length cR):=(HB3.out.cell (p:=⟨p,7,none⟩) hp).trans H7.out
 have k8:w3.cell? ⟨p,8,none⟩=some (.slice aK m.K.length cK):=(HB3.out.cell (p:=⟨p,8,none⟩) hp).trans H8.out
 have hp3:p<w3.heap.size:=U0r hp HB3.out.size
 have hfz:Hid (∀ W,Below w3.heap.size w3 W->W.cell? ⟨p,7,none⟩=some (.slice aR m.R.length cR)/\W.cell? ⟨p,8,none⟩=some (.slice aK m.K.length cK)/\W.frozen? ⟨p,7,none⟩=false/\W.frozen? ⟨p,8,none⟩=false):=fun W hW=>by
  have hb:=HB3.out.trans (hW.mono HB3.out.size)
  have hm:=(hb.block _ hp).trans HMB.out
  exact ⟨(hW.cell (p:=⟨p,7,none⟩) hp3).trans k7,(hW.cell (p:=⟨p,8,none⟩) hp3).trans k8,by simp [World.frozen?,hm],by simp [World.frozen?,hm]⟩
 have HCR3:Hid (∀ W,Below w3.heap.size w3 W->Calls prog 96 #[.slice aR m.R.length cR] W fun ev w' => ∃ ao' c',ev = .returned (.slice ao' m.R.length c')/\w'.ownsRow w3.heap.size 81 1 (.slice ao' m.R.length c') m.R.length (Z05 m.R)/\Below w3.heap.size w3 w'):=fun W hW=>by
  refine (HCR.out W (HB3.out.trans (hW.mono HB3.out.size))).mono ?_
  rintro ev w' ⟨ao',c',rfl,h1,h2⟩
  exact ⟨ao',c',rfl,⟨h1.1,by rcases h1.2 with h | ⟨g,cap,cur,e1,e2,e3⟩;exact .inl h;exact .inr ⟨g,cap,cur,e1,U0n hW.size e2,e3⟩⟩,hW.trans (h2.mono hW.size)⟩
 have HCK3:Hid (∀ W,Below w3.heap.size w3 W->Calls prog 96 #[.slice aK m.K.length cK] W fun ev w' => ∃ ao' c',ev = .returned (.slice ao' m.K.length c')/\w'.ownsRow W.heap.size 81 1 (.slice ao' m.K.length c') m.K.length (Z05 m.K)/\Below W.heap.size W w'):=fun W hW=>HCK.out W (HB3.out.trans (hW.mono HB3.out.size))
 have HMB3:Hid (MB p m.half m.old m.card m.used m.top m.oldTop (.slice (some ⟨bW,0,none⟩) m.W.length cW) vR vK vI (.slice (some ⟨bC,0,none⟩) m.C.length cC) w3):=(HB3.out.block _ hp).trans HMB.out
 obtain ⟨f7,f8⟩:=(hfz.out w3 (U01 _ _)).2.2
 go_upto_region 2 with fail
 go_cut [] from 63 to 78 (fun wx => ∃ aR' cR' aK' cK',ColR p m (.slice (some ⟨bW,0,none⟩) m.W.length cW) vI (.slice (some ⟨bC,0,none⟩) m.C.length cC) w3 (.slice aR' m.R.length cR') (.slice aK' m.K.length cK') wx)
 case first =>
  go_region_law (first
   | (go_simp;go_at_call 96;refine (HCR3.out _ (by first | exact U01 _ _ | exact (U01 _ _).drew)).mono ?_;rintro ev wR ⟨aR',cR',rfl,oR,bR⟩;obtain ⟨r7,r8,rf7,rf8⟩:=hfz.out wR bR)
   | (go_simp;go_at_call 96;refine (HCK3.out _ bR).mono ?_;rintro ev wK ⟨aK',cK',rfl,oK,bK⟩;obtain ⟨s7,s8,sf7,sf8⟩:=hfz.out wK (bR.trans (bK.mono bR.size))))
  all_goals go_wp2_with fail
  all_goals go_meet
  all_goals exact ⟨_,_,_,_,Zbo HMB3.out bR bK oR oK⟩
 case rest =>
  obtain ⟨aR',cR',aK',cK',hCR⟩:=hcut
  obtain ⟨w5,hw5⟩:∃ w5,w5=wc:=⟨_,rfl⟩
  subst hw5
  have HCC:=Z00 hCR
  clear hCR k7 k8 f7 f8 hfz HCR3 HCK3 HMB3 HCR HCK H7 H8
  have HCop:=Z00 (Zk4 HN0.out HM1.out HH.out HB3.out HG3.out HM3.out hlq hlb HCC.out)
  obtain ⟨e,he⟩:∃ e:CE,e=⟨q,p,bm,bW,bC,cW,cC,m.n0,hi,tn,m.half,m.old,m.card,m.used,m.top,m.oldTop,m.W.length,m.C.length,.slice aR' m.R.length cR',.slice aK' m.K.length cK',vI⟩:=⟨_,rfl⟩
  rw [<-he] at HCop
  have X:CX e m l1 l2 o0:=HX.out e (by rw [he]) (by rw [he]) (by rw [he]) (by rw [he]) (by rw [he]) (by rw [he]) (by rw [he]) (by rw [he])
  have hF:m.FitsM:=X.S.1
  have A5:Aside (Z7g p bW bC) w w5:=(Aside.of_below HB3.out).join HCC.out.aside (fun k _ hk=>Or.inl hk)
  have hen:e.q=q/\e.p=p/\e.bm=bm/\e.bW=bW/\e.bC=bC/\e.lo=m.n0/\e.hi=hi/\e.cC=cC/\e.nW=m.W.length/\e.nC=m.C.length/\e.cW=cW:=by rw [he];exact ⟨rfl,rfl,rfl,rfl,rfl,rfl,rfl,rfl,rfl,rfl,rfl⟩
  obtain ⟨hq,hpp,hbm,hbW,hbC,hlo,hhi,hcC,hnW,hnC,hcW⟩:=hen
  have hown:∀ k,k<w.heap.size->e.own k->Z7g p bW bC k:=fun k hk h=>by
   rcases h with h | h | h | h
   ·omega
   ·omega
   ·exact Or.inr (Or.inl (by rw [h,hbW]))
   ·exact Or.inr (Or.inr (by rw [h,hbC]))
  have M5:MemAt p m.half m.old m.card (.slice (some ⟨bW,0,none⟩) m.W.length cW) m.used m.top m.oldTop (.slice aR' m.R.length cR') (.slice aK' m.K.length cK') vI (.slice (some ⟨bC,0,none⟩) m.C.length cC) w5:=by
   have h:=HCop.out.mem
   rw [he] at h
   exact h
  have kM:=Zi4 a w5 p bW bC m.W.length m.C.length cW cC m.half m.old m.card m.used m.top m.oldTop _ _ _ m.F m.Cf m.n0 m.n1 m.m0 m.m1 l2 (MD.parts hF) (Ze0 hF X.h64 M5 HH.out.cap (fun j u hj=>by have:=HCop.out.hW.cell (j:=j) (v:=u) hj;rw [hbW] at this;exact this) (fun j u hj=>by have:=HCop.out.hC.cell (j:=j) (v:=u) hj;rw [hbC] at this;exact this)) (HE.out _ A5) (Z0h.1 X.w2).1
  rw [Zsf] at kM
  obtain ⟨ms,hms⟩:∃ ms,ms=Z2j m l2:=⟨_,rfl⟩
  rw [<-hms] at kM
  have HMS:=Z00 hms
  have HHE:=Z00 he
  have HXX:=Z00 X
  have HA5:=Z00 A5
  have HOW:=Z00 hown
  have HEN:Hid (e.q=q/\e.p=p/\e.bm=bm/\e.bW=bW/\e.bC=bC/\e.lo=m.n0/\e.hi=hi/\e.cC=cC/\e.nW=m.W.length/\e.nC=m.C.length/\e.cW=cW):=⟨hq,hpp,hbm,hbW,hbC,hlo,hhi,hcC,hnW,hnC,hcW⟩
  have HFM:=Z00 hF
  clear hms he X A5 hown hq hpp hbm hbW hbC hlo hhi hcC hnW hnC hcW hF M5
  go_upto_region 3 with fail
  go_wp2_with fail
  refine kM.mono ?_
  clear kM
  rintro ev w6 ⟨aF,cF,rfl,oF,b6⟩
  have H6:=HCop.out.below b6
  have hC0:0<m.C.length:=by
   have h1:=HFM.out.c
   have h2:=HFM.out.nums
   unfold Z0c at h2
   have h3:(1:Int)<=(m.old+m.card - 1) / m.card:=U4r (by omega) (by omega)
   omega
  obtain ⟨w7,hcl,hC7,a7⟩:=Zco (cC:=cC) (by have:=H6.hC;rw [HEN.out.2.2.2.2.1] at this;exact this:Blk bC 4 (Z0s m.C) w6) hC0
  have d10:w6.cell? ⟨p,10,none⟩=some (.slice (some ⟨bC,0,none⟩) m.C.length cC):=by
   have h:=H6.mem.c10
   rw [HHE.out] at h
   exact h
  have H7:Hid (CopAt e (CS.start m o0) w7):=by
   have h:=H6.cards (w':=w7) (C:=List.replicate m.C.length false) (by rw [HEN.out.2.2.2.2.1];exact a7) (by rw [HEN.out.2.2.2.2.1];exact hC7)
   exact h
  have A7:Hid (Aside (Z7g p bW bC) w w7):=(HA5.out.join (Aside.of_below (X:=fun _=>False) b6) (fun _ _ h=>h.elim)).join a7 (fun k _ hk=>Or.inr (Or.inr hk))
  have hsz5:w.heap.size<=w5.heap.size:=HA5.out.size
  obtain ⟨RF6,hF6⟩:=Z20.of_own oF
  have hnbC:bC<w5.heap.size:=by have:=HCop.out.hC.lt;rw [HEN.out.2.2.2.2.1] at this;exact this
  have RF7:Hid (Z20 3 1 (.slice aF ms.length cF) ms.length (mkV ms) w7):=RF6.aside a7 (fun g hg e1=>by have:=hF6 g hg;have e1:g=bC:=e1;omega)
  have R7:Hid (Z20 81 1 (.slice aR' m.R.length cR') m.R.length (Z05 m.R) w7):=(HCC.out.R.below b6).aside a7 (fun g hg e1=>by have:=HCC.out.Rn g hg;have e1:g=bC:=e1;have:=HB3.out.size;have hb:bC<w.heap.size:=HH.out.hC.lt;omega)
  have K7:Hid (Z20 81 1 (.slice aK' m.K.length cK') m.K.length (Z05 m.K) w7):=(HCC.out.K.below b6).aside a7 (fun g hg e1=>by have:=HCC.out.Kn g hg;have e1:g=bC:=e1;have:=HB3.out.size;have hb:bC<w.heap.size:=HH.out.hC.lt;omega)
  have HBO:Hid (∀ g,(Value.slice aK' m.K.length cK').ownBlock=some g->w3.heap.size<=g/\g<w5.heap.size):=fun g hg=>Z08 HCC.out.oK g hg
  have OK7:Hid (w7.ownsRow w3.heap.size 81 1 (.slice aK' m.K.length cK') m.K.length (Z05 m.K)):=Z04 HCC.out.oK (fun k hk=>by
   have h1:=HBO.out k hk
   have hb:bC<w.heap.size:=HH.out.hC.lt
   have hs:=HB3.out.size
   exact (a7.block k (U0r h1.2 b6.size) (fun e1=>by have e1:k=bC:=e1;omega)).trans (b6.block k h1.2))
  have HFR:=Z00 hF6
  have d7:w7.cell? ⟨p,7,none⟩=some (.slice aR' m.R.length cR'):=by
   have h:=H7.out.mem.c7
   rw [HHE.out] at h
   exact h
  clear H6 hC7 a7 RF6 hF6 oF hC0
  go_upto_region 4 with fail
  go_wp2_with fail
  -- roots follow
  have X:=HXX.out
  have I0:=X.start
  obtain ⟨rR,rK,rI⟩:=X.S.rest'
  have hne:∀ g,Z1n (.slice aR' m.R.length cR') g->w.heap.size<=g/\g<w7.heap.size:=fun g hg=>by
   refine ⟨U0n HB3.out.size (HCC.out.Rn g hg),?_⟩
   obtain ⟨ao,cap,e7,_,_,e8⟩:=R7.out
   obtain ⟨o,n,c,h0,e9⟩:=hg
   rw [e7] at e9
   cases e9
   obtain ⟨g',e10,hb⟩:=e8 h0
   cases e10
   exact hb.lt
  have hq7:q≠p/\bm≠p:=⟨by omega,by omega⟩
  have hg7:∀ g,Z1n (.slice aR' m.R.length cR') g -> ¬ (g=e.q\/g=e.p\/g=e.bm\/g=e.bW\/g=e.bC):=fun g hg h=>by
   obtain ⟨x1,x2,x3,x4,x5,_⟩:=HEN.out
   have r1:=HCC.out.Rn g hg
   have q3:=Z01 HG3.out
   have b3:=HM3.out.lt
   have s3:=HB3.out.size
   have l1:bW<w.heap.size:=HH.out.hW.lt
   have l2:bC<w.heap.size:=HH.out.hC.lt
   rcases h with h | h | h | h | h <;> omega
  have kA:=Zc1 a e (CS.start m o0) m.R (.slice aR' m.R.length cR') w7 H7.out X.h64.r hlR R7.out hg7 (fun w' h=>HE.out w' (A7.out.join h (fun k hk hk2=>by
   rcases hk2 with hk2 | hk2
   ·exact HOW.out k hk hk2
   ·have:=(hne k hk2).1;omega))) (fun i hi=>(I0.followOK X rR i hi).1) (fun i hi=>(I0.followOK X rR i hi).2)
  obtain ⟨Y1,G1,I1,S1,hok1,hrow1⟩:=I0.followN X rR m.R.length (U02 _)
  have HI1:=Z00 I1
  have HS1':=Z00 S1
  have HOK1:=Z00 hok1
  have HROW1:=Z00 hrow1
  obtain ⟨s1,hs1⟩:∃ s1,s1=(CS.start m o0).followN e m.R m.R.length:=⟨_,rfl⟩
  obtain ⟨R1,hR1⟩:∃ R1,R1=(CS.start m o0).rowN e m.R m.R.length:=⟨_,rfl⟩
  rw [<-hs1] at HI1 HS1' HOK1 HROW1 kA
  rw [<-hR1] at HROW1 kA
  have HRA:=Z00 hR1
  have HS1e:=Z00 hs1
  rw [HEN.out.1] at kA
  have HNE:=Z00 hne
  clear X I0 rR rK rI hne hg7 I1 S1 hok1 hrow1 hs1 hR1 d7 d10 hcl
  refine kA.mono ?_
  clear kA
  rintro ev w8 ⟨rfl,H8,R8,a8⟩
  have HH8:=Z00 H8
  have HR8:=Z00 R8
  have HA8:Hid (Aside (Z7g p bW bC) w w8):=A7.out.join a8 (fun k hk hk2=>by
   rcases hk2 with hk2 | hk2
   ·exact HOW.out k hk hk2
   ·have:=(HNE.out k hk2).1;omega)
  have hnown:∀ g,w5.heap.size<=g -> ¬ e.own g:=fun g hg h=>by
   obtain ⟨x1,x2,x3,x4,x5,_⟩:=HEN.out
   have l0:=Z01 HCop.out.hq
   have l3:=HCop.out.hW.lt
   have l4:=HCop.out.hC.lt
   obtain ⟨_,_,_,hm,_⟩:=HCop.out.hm
   have l5:=hm.lt
   rcases h with h | h | h | h <;> omega
  have hRlt:∀ g,Z1n (.slice aR' m.R.length cR') g->g<w5.heap.size:=fun g hg=>by
   obtain ⟨ao,cap,e7,_,_,e8⟩:=HCC.out.R
   obtain ⟨o,n,c,h0,e9⟩:=hg
   rw [e7] at e9
   cases e9
   obtain ⟨g',e10,hb⟩:=e8 h0
   cases e10
   exact hb.lt
  have hKlt:∀ g,Z1n (.slice aK' m.K.length cK') g->g<w5.heap.size:=fun g hg=>by
   obtain ⟨ao,cap,e7,_,_,e8⟩:=HCC.out.K
   obtain ⟨o,n,c,h0,e9⟩:=hg
   rw [e7] at e9
   cases e9
   obtain ⟨g',e10,hb⟩:=e8 h0
   cases e10
   exact hb.lt
  have hKown:∀ g,Z1n (.slice aK' m.K.length cK') g -> ¬ e.own g:=fun g hg h=>by
   obtain ⟨x1,x2,x3,x4,x5,_⟩:=HEN.out
   have r1:=HCC.out.Kn g hg
   have q3:=Z01 HG3.out
   have b3:=HM3.out.lt
   have s3:=HB3.out.size
   have l1:bW<w.heap.size:=HH.out.hW.lt
   have l2:bC<w.heap.size:=HH.out.hC.lt
   rcases h with h | h | h | h <;> omega
  have hRown:∀ g,Z1n (.slice aR' m.R.length cR') g -> ¬ e.own g:=fun g hg h=>by
   obtain ⟨x1,x2,x3,x4,x5,_⟩:=HEN.out
   have r1:=HCC.out.Rn g hg
   have q3:=Z01 HG3.out
   have b3:=HM3.out.lt
   have s3:=HB3.out.size
   have l1:bW<w.heap.size:=HH.out.hW.lt
   have l2:bC<w.heap.size:=HH.out.hC.lt
   rcases h with h | h | h | h <;> omega
  have HF8:Hid (Z20 3 1 (.slice aF ms.length cF) ms.length (mkV ms) w8):=RF7.out.aside a8 (fun g hg h=>by
   have h5:=HFR.out g hg
   rcases h with h | h
   ·exact hnown g h5 h
   ·have:=hRlt g h;omega)
  have HK8:Hid (Z20 81 1 (.slice aK' m.K.length cK') m.K.length (Z05 m.K) w8):=K7.out.aside a8 (fun g hg h=>by
   rcases h with h | h
   ·exact hKown g hg h
   ·exact HCC.out.ne g h hg)
  have OK8:Hid (w8.ownsRow w3.heap.size 81 1 (.slice aK' m.K.length cK') m.K.length (Z05 m.K)):=Z04 OK7.out (fun k hk=>a8.block k (Z08 OK7.out k hk).2 (fun h=>by
   have r1:=(HBO.out k hk).1
   rcases h with h | h
   ·obtain ⟨x1,x2,x3,x4,x5,_⟩:=HEN.out
    have q3:=Z01 HG3.out
    have b3:=HM3.out.lt
    have s3:=HB3.out.size
    have l1:bW<w.heap.size:=HH.out.hW.lt
    have l2:bC<w.heap.size:=HH.out.hC.lt
    rcases h with h | h | h | h <;> omega
   ·exact HCC.out.rk k h hk))
  have HNO:=Z00 hnown
  have HKO:=Z00 hKown
  have HRO:=Z00 hRown
  have HKL:=Z00 hKlt
  clear H8 R8 a8 hnown hRlt hKlt hKown hRown R7 K7 RF7 H7 A7
  -- fields of marked cards follow
  have X:=HXX.out
  obtain ⟨mk1,mk2,mk3⟩:=X.marked
  rw [<-HMS.out] at mk1 mk2 mk3
  have hfl:=fun i hi=>HI1.out.fieldL X mk1 mk2 i hi
  have HFL:=Z00 hfl
  have hlms:ms.length<=300000:=by
   rw [HMS.out]
   refine Zpr (fun y hy => ?_) (by rw [<-HMS.out];exact mk1)
   obtain ⟨h,N⟩:=X.num
   have:=X.dOld y (Or.inr hy)
   have:=N.room
   have:=N.few
   omega
  have HMK3:=Z00 mk3
  clear X mk1 mk2 mk3 hfl
  go_wp2_with fail
  go_loopg [93] (ms.length+1) (fun gk v93 wr => ∃ i:Nat,gk=ms.length+1 - i/\i<=ms.length/\v93 = .int .i64 (i:Int)/\Hid (CopAt e (s1.fieldL e ms i) wr)/\Hid (Aside e.own w8 wr))
  case atStart=>exact ⟨0,rfl,U0x _,rfl,HH8,Aside.refl _ _⟩
  case round =>
   obtain ⟨i,hgk,hi',rfl,hHi,hAi⟩:=hrel
   have HGK:=Z00 hgk
   clear hgk
   have hi0:(0:Int)<=(i:Int):=by omega
   by_cases hlt:i<ms.length
   ·have hI:(i:Int)<(ms.length:Int):=by omega
    obtain ⟨y,hye⟩:∃ y,y=ms.getD i 0:=⟨_,rfl⟩
    have hy:ms[i]?=some y:=by rw [hye,U07,U03 hlt];rfl
    have RFi:Z20 3 1 (.slice aF ms.length cF) ms.length (mkV ms) wr:=HF8.out.aside hAi.out (fun g hg=>HNO.out g (HFR.out g hg))
    obtain ⟨_,_,e7,_,_,f7⟩:=RFi
    cases e7
    obtain ⟨gF,rfl,hbF⟩:=f7 (by omega)
    have cy:wr.cell? ⟨gF,i,none⟩=some (.int .i64 (y:Int)):=hbF.cell (by unfold mkV;rw [U0g,hy];rfl)
    obtain ⟨Yi,Gi,Ii,Si,hFO⟩:=HFL.out i hi'
    have hfo:=hFO hlt
    rw [<-hye] at hfo
    have kf:=Z6z a e (s1.fieldL e ms i) y wr hHi.out hfo.ok (by rw [HHE.out];exact HFM.out) hfo.lt (fun w' h=>HE.out w' (HA8.out.join (hAi.out.trans h) (fun k hk hk2=>HOW.out k hk hk2))) hfo.can hfo.ok' hfo.cards
    rw [HEN.out.1] at kf
    have HST:Hid (s1.fieldL e ms (i+1)=(s1.fieldL e ms i).field e y):=by
     show (s1.fieldL e ms i).field e (ms.getD i 0)=_
     rw [<-hye]
    clear f7 hbF hye hy Ii Si hFO hfo
    go_wp2_with fail
    refine kf.mono ?_
    clear kf
    rintro ev w9 ⟨rfl,h9,a9⟩
    have H9:Hid (CopAt e (s1.fieldL e ms (i+1)) w9):=by rw [HST.out];exact h9
    have A9:Hid (Aside e.own w8 w9):=hAi.out.trans a9
    clear h9 a9 cy
    go_wp2_with fail
    go_roundg (ms.length+1 - (i+1))
    case measure=>have:=HGK.out;omega
    case rel=>exact ⟨i+1,rfl,by omega,by go_num,H9,A9⟩
   ·have hI:¬ (i:Int)<(ms.length:Int):=by omega
    obtain rfl:i=ms.length:=by omega
    obtain ⟨Y2,G2,I2,S2,_⟩:=HFL.out ms.length (U02 _)
    obtain ⟨s2,hs2⟩:∃ s2,s2=s1.fieldL e ms ms.length:=⟨_,rfl⟩
    rw [<-hs2] at hHi I2 S2
    have X:=HXX.out
    have eD:(fun z=>D0 m l2 z\/z∈ms.take ms.length)=(fun z=>D0 m l2 z\/z∈ms):=by rw [U3y]
    rw [eD] at I2
    have hSI:SI e m l1 l2 o0 s2:=I2.scan X (fun z hz=>X.dOld z (by rw [<-HMS.out];exact hz)) HMK3.out (S2.yd.trans HS1'.out.yd) (S2.gd.trans HS1'.out.gd)
    obtain ⟨h,N⟩:=X.num
    have hz2:m.R = []->l2 = []->s2.yt=o0/\s2.gt=m.m1:=fun z1 z2=>by
     have q1:s1=CS.start m o0:=by rw [HS1e.out,z1];rfl
     have q2:ms = []:=by rw [HMS.out,z2];rfl
     have q3:s2=CS.start m o0:=by rw [hs2,q2,q1];rfl
     rw [q3]
     exact ⟨rfl,rfl⟩
    have kS:=Zpc a e s2 wr hHi.out (by rw [HHE.out];exact HFM.out) (fun w' hw'=>HE.out w' (HA8.out.join (hAi.out.trans hw') (fun k hk hk2=>HOW.out k hk hk2))) (fun s=>SI e m l1 l2 o0 s/\(∀ f t,s2.φ f=some t->s.φ f=some t)/\(m.R = []->l2 = []->s.yt=o0/\s.gt=m.m1)) (Zg6 e o0 h) ⟨hSI,fun _ _ h=>h,hz2⟩ (fun s hs=>by
     obtain ⟨b1,b2,b3⟩:=hs.1.scanY X N
     refine ⟨b1,b2,fun hlt => ?_⟩
     obtain ⟨c1,c2,c3,c4⟩:=b3 hlt
     exact ⟨c1,⟨c2,fun f t hft=>c3 f t (hs.2.1 f t hft),fun z1 z2=>by have:=hs.2.2 z1 z2;have:=hs.1.le;omega⟩,c4⟩) (fun s hs=>by
     obtain ⟨b1,b2,b3⟩:=hs.1.scanG X N
     refine ⟨b1,b2,fun hlt => ?_⟩
     obtain ⟨c1,c2,c3,c4⟩:=b3 hlt
     exact ⟨c1,⟨c2,fun f t hft=>c3 f t (hs.2.1 f t hft),fun z1 z2=>by have:=hs.2.2 z1 z2;have:=hs.1.le;omega⟩,c4⟩)
    rw [HEN.out.1] at kS
    have HS2:=Z00 S2
    clear X I2 S2 hSI N hs2 hz2 eD hHi hI hlt hi' HGK
    go_wp2_with fail
    refine kS.mono ?_
    clear kS
    rintro ev w10 ⟨rfl,s3,⟨hSI3,hφ3,hz3⟩,hny,hng,hH10,a10⟩
    obtain ⟨Y,G,D,I,hA,hO⟩:=hSI3.fin hny hng
    have HA10:Hid (Aside (Z7g p bW bC) w w10):=HA8.out.join (hAi.out.trans a10) (fun k hk hk2=>HOW.out k hk hk2)
    have hA8:Aside e.own w8 w10:=hAi.out.trans a10
    have HR10:Hid (Z20 81 1 (.slice aR' m.R.length cR') m.R.length (Z05 R1) w10):=HR8.out.aside hA8 (fun g hg=>HRO.out g hg)
    have HK10:Hid (Z20 81 1 (.slice aK' m.K.length cK') m.K.length (Z05 m.K) w10):=HK8.out.aside hA8 (fun g hg=>HKO.out g hg)
    have OK10:Hid (w10.ownsRow w3.heap.size 81 1 (.slice aK' m.K.length cK') m.K.length (Z05 m.K)):=Z04 OK8.out (fun k hk=>hA8.block k (Z08 OK8.out k hk).2 (fun h=>by
     have r1:=(HBO.out k hk).1
     obtain ⟨x1,x2,x3,x4,x5,_⟩:=HEN.out
     have q3:=Z01 HG3.out
     have b3:=HM3.out.lt
     have s3:=HB3.out.size
     have l1:bW<w.heap.size:=HH.out.hW.lt
     have l2:bC<w.heap.size:=HH.out.hC.lt
     rcases h with h | h | h | h <;> omega))
    have X:=HXX.out
    have OK:=CSOK.of I X
    obtain ⟨nm,Dm,hnm,hm10,hw10⟩:=hH10.hm
    obtain ⟨x1,x2,x3,x4,x5,x6,x7,x8,x9,x10,x11⟩:=HEN.out
    rw [x3] at hm10
    have hKbm:¬ Z1n (.slice aK' m.K.length cK') bm:=fun h=>by have:=HCC.out.Kn bm h;have:=HM3.out.lt;omega
    have hKp:¬ Z1n (.slice aK' m.K.length cK') p:=fun h=>by have:=HCC.out.Kn p h;have:=HB3.out.size;omega
    have hKq:¬ Z1n (.slice aK' m.K.length cK') q:=fun h=>by have:=HCC.out.Kn q h;have:=Z01 HG3.out;omega
    have hvI:∀ g,Z1n vI g -> ¬ Z1n (.slice aK' m.K.length cK') g/\g≠p:=fun g hg=>by
     have h1:=Z8d HH.out g hg
     exact ⟨fun h=>by have:=HCC.out.Kn g h;have:=HB3.out.size;omega,h1.2.1⟩
    have RI10:Z20 123 2 vI m.I.length (Z2e m.I) w10:=HH.out.I.aside HA10.out (fun g hg h=>by
     have h1:=Z8d HH.out g hg
     rcases h with h | h | h
     ·exact h1.2.1 h
     ·exact h1.2.2.1 h
     ·exact h1.2.2.2 h)
    have mb10:MB p m.half m.old m.card m.used m.top m.oldTop (.slice (some ⟨bW,0,none⟩) m.W.length cW) (.slice aR' m.R.length cR') (.slice aK' m.K.length cK') vI (.slice (some ⟨bC,0,none⟩) m.C.length cC) w10:=by
     have h:=hH10.hp
     rw [HHE.out] at h
     exact h
    have hhi3:hi<=300000:=by have:=OK.hi;omega
    have kW:=Zas a m.n0 hi bm nm p m.half m.old m.card m.used m.top m.oldTop _ _ _ vI _ Dm s3.φ m.K m.I w10 hhi3 OK.φ hlK X.h64.k hlI X.h64.i hm10 hw10 hKbm hvI hKp (fun w' h=>HE.out w' (HA10.out.join h (fun k hk hk2=>by
     rcases hk2 with hk2 | hk2
     ·exact Or.inl hk2
     ·have:=HCC.out.Kn k hk2;have:=HB3.out.size;omega))) mb10 HK10.out RI10
    obtain ⟨u0,u1,u2,u3,u4,u5,u6,u7,u8,um⟩:=hH10.cells
    rw [x1,x6] at u1
    rw [x1,x7] at u2
    rw [x1,x3] at u3
    rw [x1] at u6 u8
    have hq11:w10.heap[q]?=some (.cells (e.copier s3) 281):=by have:=hH10.hq;rw [x1] at this;exact this
    have hqp:q≠p:=by omega
    obtain ⟨h,N⟩:=X.num
    obtain ⟨pl1,pl2,pl3,pl4⟩:=I.place X N
    have sep:=N.sep
    have fw:=N.few
    have hm0e:=HM0.out
    have hm0n:=N.m0
    have hm1n:=N.m1
    have hroom:=N.room
    have g1:IntKind.i64.wrap ((s3.yt:Int) - (o0:Int))=(s3.yt:Int) - (o0:Int):=Z18 _ (by omega) (by omega)
    have g2:IntKind.i64.wrap ((s3.gt:Int) - (m0:Int))=(s3.gt:Int) - (m0:Int):=Z18 _ (by omega) (by omega)
    have hnow:∀ x∈m.R,(Z0g e.lo e.hi s3.φ x).2=true/\Z0g e.lo e.hi s3.φ x=Z0g e.lo e.hi s1.φ x:=fun x hx=>by
     obtain ⟨j,hj⟩:=U21.1 hx
     have hjl:j<m.R.length:=(U0e.1 hj).1
     have hgx:m.R.getD j 0=x:=by rw [U07,hj];rfl
     have h1:=HOK1.out j hjl
     rw [hgx] at h1
     have h2:=Z9c (lo:=e.lo) (hi:=e.hi) (φ:=s1.φ) (φ':=s3.φ) (fun f t hft=>hφ3 f t (HS2.out.φ f t hft)) h1
     exact ⟨by rw [h2];exact h1,h2⟩
    have hRn:R1=m.R.map (fun x=>(Z0g e.lo e.hi s3.φ x).1):=by
     have h1:=Zpq (s:=CS.start m o0) (e:=e) (R:=m.R) (φ:=s1.φ) (by rw [<-HRA.out];exact HROW1.out)
     rw [HRA.out,h1]
     exact U15 fun x hx=>by rw [(hnow x hx).2]
    have HFin:Hid (∀ (w11:World) (v':Value),MB p m.half m.old m.card m.used m.top m.oldTop (.slice (some ⟨bW,0,none⟩) m.W.length cW) (.slice aR' m.R.length cR') (.slice aK' m.K.length cK') v' (.slice (some ⟨bC,0,none⟩) m.C.length cC) w11->Z20 81 1 (.slice aK' m.K.length cK') m.K.length (Z05 (m.K.map fun x=>(Z0g m.n0 hi s3.φ x).1)) w11->Z20 123 2 v' (Z32 (Z0g m.n0 hi s3.φ) m.I).length (Z2e (Z32 (Z0g m.n0 hi s3.φ) m.I)) w11->(∀ g,Z1n v' g->w10.heap.size<=g)->Aside (fun k=>k=p\/Z1n (.slice aK' m.K.length cK') k) w10 w11->w11.ownsRow w3.heap.size 81 1 (.slice aK' m.K.length cK') m.K.length (Z05 (m.K.map fun x=>(Z0g m.n0 hi s3.φ x).1))->w11.ownsRow w10.heap.size 123 2 v' (Z32 (Z0g m.n0 hi s3.φ) m.I).length (Z2e (Z32 (Z0g m.n0 hi s3.φ) m.I)) ->
      Z1j p bW bC cW cC m l1 l2 tn w (((w11.setCell ⟨p,4,none⟩ (.int .i64 (1 - m.used))).setCell ⟨p,5,none⟩ (.int .i64 ((s3.yt:Int) - (o0:Int)))).setCell ⟨p,6,none⟩ (.int .i64 ((s3.gt:Int) - (m0:Int))))):=fun w11 v' hmb hrk hri hvn ha hok hoi=>by
     obtain ⟨w12,hw12⟩:∃ w12,w12=(((w11.setCell ⟨p,4,none⟩ (.int .i64 (1 - m.used))).setCell ⟨p,5,none⟩ (.int .i64 ((s3.yt:Int) - (o0:Int)))).setCell ⟨p,6,none⟩ (.int .i64 ((s3.gt:Int) - (m0:Int)))):=⟨_,rfl⟩
     have a12:Aside (fun k=>k=p) w11 w12:=by
      rw [hw12]
      exact Aside.setCell (g:=p) (Aside.setCell (g:=p) (Aside.setCell (X:=fun k=>k=p) (g:=p) (Aside.refl _ _) rfl _) rfl _) rfl _
     have hsz:w.heap.size<=w10.heap.size:=HA10.out.size
     have hp10:p<w10.heap.size:=Z01 mb10
     have hWp:bW≠p:=by have:=hH10.ne;have:=this.2.2.2.2.2.1;omega
     have hCp:bC≠p:=by have:=hH10.ne;have:=this.2.2.2.2.2.2.1;omega
     have hl1:bW<w.heap.size:=HH.out.hW.lt
     have hl2:bC<w.heap.size:=HH.out.hC.lt
     have hs3:=HB3.out.size
     rw [<-hw12]
     refine ⟨e,s3.mem e m o0,_,_,_,.slice aR' m.R.length cR',.slice aK' m.K.length cK',v',by rw [HHE.out],⟨?_,?_,?_,?_,?_,?_,?_,?_⟩,I.coll X hA hO (fun x hx=>(hnow x hx).1),fun z1 z2=>by show (s3.yt:Int) - (o0:Int)=0;have:=hz3 z1 z2;omega,?_,?_,?_,?_,?_,?_⟩
     ·unfold MB at hmb ⊢
      rw [hw12,Z06 (Z06 (Z06 hmb))]
      show some (Obj.cells _ _ _)=some (Obj.cells _ _ _)
      have q1:(s3.mem e m o0).W.length=m.W.length:=by show s3.W.length=_;rw [I.len,x9]
      have q2:(s3.mem e m o0).C.length=m.C.length:=by show s3.C.length=_;rw [I.clen,x10]
      rw [q1,q2,hm0e]
      rfl
     ·have h1:=hH10.hW
      rw [x4] at h1
      exact (h1.aside ha (fun h=>by
       rcases h with h | h
       ·exact hWp h
       ·have:=HCC.out.Kn _ h;omega)).aside a12 hWp
     ·have h1:=hH10.hC
      rw [x5] at h1
      exact (h1.aside ha (fun h=>by
       rcases h with h | h
       ·exact hCp h
       ·have:=HCC.out.Kn _ h;omega)).aside a12 hCp
     ·show s3.W.length<=cW
      rw [I.len,x9];exact HH.out.cap
     ·show s3.C.length<=cC
      rw [I.clen,x10];exact HH.out.capC
     ·show Z4g w12 _ (m.R.map _).length (Z05 (m.R.map _))
      rw [U0v,<-hRn]
      refine Z78 ((HR10.out.aside ha (fun g hg h => ?_)).aside a12 (fun g hg h => ?_))
      ·rcases h with h | h
       ·have:=HCC.out.Rn g hg;omega
       ·exact HCC.out.ne g hg h
      ·have:=HCC.out.Rn g hg;have h:g=p:=h;omega
     ·show Z4g w12 _ (m.K.map _).length (Z05 (m.K.map _))
      rw [U0v]
      have h1:=hrk
      rw [<-x6,<-x7] at h1
      refine Z78 (h1.aside a12 (fun g hg h => ?_))
      have:=HCC.out.Kn g hg;have h:g=p:=h;omega
     ·have h1:=hri
      rw [<-x6,<-x7] at h1
      exact h1.aside a12 (fun g hg h=>by have:=hvn g hg;have h:g=p:=h;omega)
     ·refine (HA10.out.join ha (fun k hk hk2 => ?_)).join a12 (fun k _ hk=>Or.inl hk)
      rcases hk2 with hk2 | hk2
      ·exact Or.inl hk2
      ·have:=HCC.out.Kn k hk2;omega
     ·show Z20 81 1 _ (m.R.map _).length (Z05 (m.R.map _)) w12
      rw [U0v,<-hRn]
      refine (HR10.out.aside ha (fun g hg h => ?_)).aside a12 (fun g hg h => ?_)
      ·rcases h with h | h
       ·have:=HCC.out.Rn g hg;omega
       ·exact HCC.out.ne g hg h
      ·have:=HCC.out.Rn g hg;have h:g=p:=h;omega
     ·exact fun g hg=>U0n hs3 (HCC.out.Rn g hg)
     ·show w12.ownsRow w.heap.size 81 1 _ (m.K.map _).length (Z05 (m.K.map _))
      rw [U0v]
      have h1:=hok
      rw [<-x6,<-x7] at h1
      refine ⟨h1.1,?_⟩
      have h2:=Z04 (w':=w12) h1 (fun k hk=>a12.block k (Z08 h1 k hk).2 (fun e1=>by have e1:k=p:=e1;have:=(Z08 h1 k hk).1;omega))
      rcases h2.2 with h | ⟨g,cap,cur,y1,y2,y3⟩
      ·exact .inl h
      ·exact .inr ⟨g,cap,cur,y1,U0n hs3 y2,y3⟩
     ·have h1:=hoi
      rw [<-x6,<-x7] at h1
      have h2:=Z04 (w':=w12) h1 (fun k hk=>a12.block k (Z08 h1 k hk).2 (fun e1=>by have e1:k=p:=e1;have:=(Z08 h1 k hk).1;omega))
      refine ⟨h2.1,?_⟩
      rcases h2.2 with h | ⟨g,cap,cur,y1,y2,y3⟩
      ·exact .inl h
      ·exact .inr ⟨g,cap,cur,y1,U0n hsz y2,y3⟩
     ·exact HCC.out.rk
    have HQ:Hid (∀ w11,Aside (fun k=>k=p\/Z1n (.slice aK' m.K.length cK') k) w10 w11->w11.cell? ⟨q,6,none⟩=some (.int .i64 (s3.yt:Int))/\w11.cell? ⟨q,8,none⟩=some (.int .i64 (s3.gt:Int))):=fun w11 ha=>by
     have hx:¬ (q=p\/Z1n (.slice aK' m.K.length cK') q):=fun h=>by
      rcases h with h | h
      ·exact hqp h
      ·exact hKq h
     exact ⟨ha.cell u6 hx,ha.cell u8 hx⟩
    clear X OK hnm hm10 hw10 hKbm hKp hKq hvI RI10 mb10 hhi3 u0 u4 u5 u6 u7 u8 um hq11 pl1 pl2 pl3 pl4 sep fw hm0e hm0n hm1n hroom hnow hRn N I hA hO hH10 a10 hA8 hSI3 hφ3 hz3 hny hng x1 x2 x3 x4 x5 x6 x7 x8 x9 x10 x11
    go_wp2_with fail
    refine kW.mono ?_
    clear kW
    rintro ev w11 ⟨rfl,v',mb11,rk11,ri11,vn11,a11,z11,oi11⟩
    have hFin:=HFin.out w11 v' mb11 rk11 ri11 vn11 a11 (Zgt OK10.out z11 rk11) oi11
    obtain ⟨q6,q8⟩:=HQ.out w11 a11
    have HFN:=Z00 hFin
    unfold MB at mb11
    have p4:w11.cell? ⟨p,4,none⟩=some (.int .i64 m.used):=by rw [U06 _ _ _ _ _ _ mb11];rfl
    have p5:w11.cell? ⟨p,5,none⟩=some (.int .i64 m.top):=by rw [U06 _ _ _ _ _ _ mb11];rfl
    have p6:w11.cell? ⟨p,6,none⟩=some (.int .i64 m.oldTop):=by rw [U06 _ _ _ _ _ _ mb11];rfl
    have pf4:w11.frozen? ⟨p,4,none⟩=false:=by simp [World.frozen?,mb11]
    have pf5:w11.frozen? ⟨p,5,none⟩=false:=by simp [World.frozen?,mb11]
    have pf6:w11.frozen? ⟨p,6,none⟩=false:=by simp [World.frozen?,mb11]
    clear hFin mb11 rk11 ri11 vn11 a11 z11 oi11 u1 u2 u3
    go_upto_region 13 with fail
    go_region_law (fail)
    all_goals go_wp2_with fail
    all_goals go_end0
    all_goals first | exact ⟨rfl,HFN.out⟩ | exact ⟨rfl,HFN.out.drew⟩
end
end Go.Proofs.YtlkcbdinlfeoiaaGreatDoor
