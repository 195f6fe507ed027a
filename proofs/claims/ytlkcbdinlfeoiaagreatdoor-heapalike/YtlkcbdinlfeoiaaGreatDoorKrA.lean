/- Package heap by contracts: a heap in memory, block by block, whatever its memory holds. -/
import Derived.Test.YtlkcbdinlfeoiaaGreatDoorKnAP
import Derived.Test.YtlkcbdinlfeoiaaGreatDoorKnBC
namespace Go.Proofs.YtlkcbdinlfeoiaaGreatDoor
open Go.Proofs.Tryz Go.RowKit
set_option maxHeartbeats 8000000
set_option maxRecDepth 100000
set_option linter.unusedSimpArgs false
section
open Go.Maps
structure HP where
 q:Nat
 p:Nat
 bW:Nat
 bC:Nat
 cW:Nat
 cC:Nat
 tn:Int
 vR:Value
 vK:Value
 vI:Value
structure HAt (h:HP) (sr:Int) (m:MD) (w:World):Prop where
 hq:w.heap[h.q]?=some (.cells #[.pointer (some ⟨h.p,0,none⟩),.int .i64 h.tn,.int .i64 sr] 88)
 mb:MB h.p m.half m.old m.card m.used m.top m.oldTop (.slice (some ⟨h.bW,0,none⟩) m.W.length h.cW) h.vR h.vK h.vI (.slice (some ⟨h.bC,0,none⟩) m.C.length h.cC) w
 hW:Blk h.bW 81 (Z05 m.W) w
 hC:Blk h.bC 4 (Z0s m.C) w
 cap:m.W.length<=h.cW
 capC:m.C.length<=h.cC
 R:Z20 81 1 h.vR m.R.length (Z05 m.R) w
 K:w.ownsRow 0 81 1 h.vK m.K.length (Z05 m.K)
 I:w.ownsRow 0 123 2 h.vI m.I.length (Z2e m.I)
 rk:∀ g,Z1n h.vR g->h.vK.ownBlock≠some g
 rb:∀ g,Z1n h.vR g->g≠h.bW
 kb:h.vK.ownBlock≠some h.bW
def HP.own (h:HP) (k:Nat):Prop:=k=h.q\/k=h.p\/k=h.bW\/k=h.bC\/Z1n h.vR k\/h.vK.ownBlock=some k\/h.vI.ownBlock=some k
def Ty (w:World) (k:Nat) (t:TypeId):Prop:=∃ c:Array Value,w.heap[k]?=some (.cells c t)
theorem Ty.ne {w:World}{k k':Nat}{t t':TypeId} (h:Ty w k t) (h':Ty w k' t') (ht:t≠t'):k≠k':=by
 rintro rfl
 obtain ⟨c,e⟩:=h
 obtain ⟨c',e'⟩:=h'
 rw [e] at e'
 injection e' with e'
 injection e' with _ e2 _
 exact ht e2
theorem Ty.lt {w:World}{k:Nat}{t:TypeId} (h:Ty w k t):k<w.heap.size:=by obtain ⟨c,e⟩:=h;exact Z01 e
theorem Z4i {t:TypeId}{j n:Nat}{v:Value}{xs:List Value}{w:World} (h:Z20 t j v n xs w) {g:Nat} (hg:Z1n v g):Ty w g t:=by
 obtain ⟨ao,cap,e1,_,_,e4⟩:=h
 obtain ⟨o,n',c,h0,e5⟩:=hg
 rw [e1] at e5
 cases e5
 obtain ⟨g',e6,r,hb⟩:=e4 h0
 cases e6
 exact ⟨_,hb⟩
theorem Z25 {B:Nat}{t:TypeId}{j n:Nat}{v:Value}{xs:List Value}{w:World} (h:w.ownsRow B t j v n xs) {g:Nat} (hg:v.ownBlock=some g):Ty w g t:=by
 obtain ⟨_,⟨rfl,_⟩ | ⟨g',cap,cur,rfl,_,hb,_⟩⟩:=h
 ·cases hg
 ·cases hg;exact ⟨_,hb⟩
variable {h:HP}{sr:Int}{m:MD}{w w':World}
theorem HAt.tq (H:HAt h sr m w):Ty w h.q 88:=⟨_,H.hq⟩
theorem HAt.tp (H:HAt h sr m w):Ty w h.p 84:=⟨_,H.mb⟩
theorem HAt.tW (H:HAt h sr m w):Ty w h.bW 81:=by obtain ⟨r,hb⟩:=H.hW;exact ⟨_,hb⟩
theorem HAt.tC (H:HAt h sr m w):Ty w h.bC 4:=by obtain ⟨r,hb⟩:=H.hC;exact ⟨_,hb⟩
theorem HAt.lt (H:HAt h sr m w) {k:Nat} (hk:h.own k):k<w.heap.size:=by
 rcases hk with rfl | rfl | rfl | rfl | hk | hk | hk
 ·exact H.tq.lt
 ·exact H.tp.lt
 ·exact H.tW.lt
 ·exact H.tC.lt
 ·exact (Z4i H.R hk).lt
 ·exact (Z25 H.K hk).lt
 ·exact (Z25 H.I hk).lt
theorem HAt.col (H:HAt h sr m w):ColAt h.p h.bW h.bC h.cW h.cC m h.vR h.vK h.vI w:=
 ⟨H.mb,H.hW,H.hC,H.cap,H.capC,Z78 H.R,Z78 (Z20.of_own H.K).1,(Z20.of_own H.I).1⟩
theorem HAt.aside {X:Nat->Prop} (H:HAt h sr m w) (ha:Aside X w w') (hx:∀ k,h.own k -> ¬ X k):HAt h sr m w':=
 ⟨(ha.block _ H.tq.lt (hx _ (.inl rfl))).trans H.hq,(ha.block _ H.tp.lt (hx _ (.inr (.inl rfl)))).trans H.mb,H.hW.aside ha (hx _ (.inr (.inr (.inl rfl)))),H.hC.aside ha (hx _ (.inr (.inr (.inr (.inl rfl))))),H.cap,H.capC,
  H.R.aside ha (fun g hg=>hx g (.inr (.inr (.inr (.inr (.inl hg)))))),Z04 H.K (fun k hk=>ha.block k (Z08 H.K k hk).2 (hx k (.inr (.inr (.inr (.inr (.inr (.inl hk)))))))),Z04 H.I (fun k hk=>ha.block k (Z08 H.I k hk).2 (hx k (.inr (.inr (.inr (.inr (.inr (.inr hk)))))))),H.rk,H.rb,H.kb⟩
theorem HAt.below (H:HAt h sr m w) (hb:Below w.heap.size w w'):HAt h sr m w':=H.aside (X:=fun _=>False) (Aside.of_below hb) (fun _ _ h=>h)
structure Nxt (h h':HP) (w w':World):Prop where
 q:h'.q=h.q
 tn:h'.tn=h.tn
 own:∀ k,h'.own k->h.own k\/w.heap.size<=k
 aside:Aside h.own w w'
theorem Nxt.refl (h:HP) (w:World):Nxt h h w w:=⟨rfl,rfl,fun _ hk=>.inl hk,Aside.refl _ _⟩
theorem Nxt.of_below (h:HP) {w w':World} (hb:Below w.heap.size w w'):Nxt h h w w':=⟨rfl,rfl,fun _ hk=>.inl hk,Aside.of_below hb⟩
theorem Nxt.trans {h h' h'':HP}{w w' w'':World} (a:Nxt h h' w w') (b:Nxt h' h'' w' w''):Nxt h h'' w w'' where
 q:=b.q.trans a.q
 tn:=b.tn.trans a.tn
 own k hk:=by
  rcases b.own k hk with hk | hk
  ·exact a.own k hk
  ·exact .inr (U0n a.aside.size hk)
 aside:=a.aside.join b.aside (fun k hk hx=>(a.own k hx).resolve_right (by omega))
theorem Nxt.set {h h':HP}{w w':World} (a:Nxt h h' w w') {b o:Nat}{v:Value} (hb:h.own b\/w.heap.size<=b):Nxt h h' w (w'.setCell ⟨b,o,none⟩ v) where
 q:=a.q
 tn:=a.tn
 own:=a.own
 aside:=by
  rcases hb with hb | hb
  ·exact a.aside.setCell hb v
  ·exact ⟨a.aside.os,a.aside.tape,a.aside.output,by simp [World.setCell];exact a.aside.size,fun k hk hx=>(Z0a _ _ _ _ _ (by omega)).trans (a.aside.block k hk hx)⟩
theorem Nxt.below {h h':HP}{w w' w'':World} (a:Nxt h h' w w') (hb:Below w'.heap.size w' w''):Nxt h h' w w'':=a.trans (Nxt.of_below h' hb)
theorem HAt.root (H:HAt h sr m w) {r:Nat} (hr:r<m.R.length):∃ b cap,h.vR = .slice (some ⟨b,0,none⟩) m.R.length cap/\Z1n h.vR b/\m.R.length<=cap/\w.cell? ⟨b,r,none⟩=some (.int .u64 (m.R.getD r 0))/\w.frozen? ⟨b,r,none⟩=false /\
  ∀ x:Int,HAt h sr { m with R:=m.R.set r x } (w.setCell ⟨b,r,none⟩ (.int .u64 x)):=by
 obtain ⟨ao,cap,e,hc,hl,hf⟩:=H.R
 obtain ⟨b,rfl,hb⟩:=hf (by omega)
 have hi:Z1n h.vR b:=⟨0,_,_,by omega,e⟩
 have hrv:(Z05 m.R)[r]?=some (.int .u64 (m.R.getD r 0)):=by
  unfold Z05
  rw [U0g,U03 hr,U07,U03 hr]
  rfl
 have tb:=Z4i H.R hi
 refine ⟨b,cap,e,hi,hc,hb.cell hrv,hb.frozen r,fun x => ?_⟩
 have hs:=hb.set (j:=r) (by rw [Z3y];exact hr) (.int .u64 x)
 have hq:=H.tq.ne tb (by decide)
 have hp:=H.tp.ne tb (by decide)
 have hC:=H.tC.ne tb (by decide)
 refine ⟨(Z0a _ _ _ _ _ hq).trans H.hq,?_,H.hW.same (Z0a _ _ _ _ _ (fun e=>H.rb b hi e.symm)),H.hC.same (Z0a _ _ _ _ _ hC),H.cap,H.capC,?_,?_,?_,H.rk,H.rb,H.kb⟩
 ·exact (Z0a _ _ _ _ _ hp).trans H.mb
 ·show Z20 _ _ _ (m.R.set r x).length (Z05 (m.R.set r x)) _
  rw [U0t,<-Z23]
  exact ⟨_,cap,e,hc,by rw [U0t];exact hl,fun _=>⟨b,rfl,hs⟩⟩
 ·exact Z04 H.K (fun k hk=>Z0a _ _ _ _ _ (fun e=>H.rk b hi (by rw [hk,e])))
 ·exact Z04 H.I (fun k hk=>Z0a _ _ _ _ _ ((Z25 H.I hk).ne tb (by decide)))
theorem HAt.mem (H:HAt h sr m w) {o:Nat}{v:Value}{h':HP}{n:MD} (e1:h'.q=h.q/\h'.p=h.p/\h'.bW=h.bW/\h'.bC=h.bC/\h'.cW=h.cW/\h'.cC=h.cC/\h'.tn=h.tn) (eR:h'.vR=h.vR) (eW:n.W=m.W) (eC:n.C=m.C) (eN:n.R=m.R)
  (hm:MB h.p n.half n.old n.card n.used n.top n.oldTop (.slice (some ⟨h.bW,0,none⟩) m.W.length h.cW) h.vR h'.vK h'.vI (.slice (some ⟨h.bC,0,none⟩) m.C.length h.cC) (w.setCell ⟨h.p,o,none⟩ v))
  (hK:w.ownsRow 0 81 1 h'.vK n.K.length (Z05 n.K)) (hI:w.ownsRow 0 123 2 h'.vI n.I.length (Z2e n.I)) (rk:∀ g,Z1n h.vR g->h'.vK.ownBlock≠some g) (kb:h'.vK.ownBlock≠some h.bW):HAt h' sr n (w.setCell ⟨h.p,o,none⟩ v):=by
 obtain ⟨q1,q2,q3,q4,q5,q6,q7⟩:=e1
 have hp:=H.tp
 refine ⟨?_,?_,?_,?_,?_,?_,?_,?_,?_,?_,?_,?_⟩
 ·rw [q1,q2,q7];exact (Z0a _ _ _ _ _ (H.tq.ne hp (by decide))).trans H.hq
 ·rw [q2,q3,q4,q5,q6,eR,eW,eC];exact hm
 ·rw [q3,eW];exact H.hW.same (Z0a _ _ _ _ _ (H.tW.ne hp (by decide)))
 ·rw [q4,eC];exact H.hC.same (Z0a _ _ _ _ _ (H.tC.ne hp (by decide)))
 ·rw [eW,q5];exact H.cap
 ·rw [eC,q6];exact H.capC
 ·rw [eR,eN]
  exact H.R.aside ((Aside.refl (fun k=>k=h.p) w).setCell (g:=h.p) rfl v) (fun g hg e=>(Z4i H.R hg).ne hp (by decide) e)
 ·exact Z04 hK (fun k hk=>Z0a _ _ _ _ _ ((Z25 hK hk).ne hp (by decide)))
 ·exact Z04 hI (fun k hk=>Z0a _ _ _ _ _ ((Z25 hI hk).ne hp (by decide)))
 ·rw [eR];exact rk
 ·rw [eR,q3];exact H.rb
 ·rw [q3];exact kb
theorem HAt.setTop (H:HAt h sr m w) (x:Int):HAt h sr { m with top:=x } (w.setCell ⟨h.p,5,none⟩ (.int .i64 x)):=
 H.mem (h':=h) (n:={ m with top:=x }) ⟨rfl,rfl,rfl,rfl,rfl,rfl,rfl⟩ rfl rfl rfl rfl (Z06 H.mb) H.K H.I H.rk H.kb
theorem HAt.setOld (H:HAt h sr m w) (x:Int):HAt h sr { m with oldTop:=x } (w.setCell ⟨h.p,6,none⟩ (.int .i64 x)):=
 H.mem (h':=h) (n:={ m with oldTop:=x }) ⟨rfl,rfl,rfl,rfl,rfl,rfl,rfl⟩ rfl rfl rfl rfl (Z06 H.mb) H.K H.I H.rk H.kb
theorem HAt.words (H:HAt h sr m w) {W':List Int} (hl:W'.length=m.W.length) (ha:Aside (· = h.bW) w w') (hb:Blk h.bW 81 (Z05 W') w'):HAt h sr { m with W:=W' } w':=by
 have tW:=H.tW
 refine ⟨(ha.block _ H.tq.lt (H.tq.ne tW (by decide))).trans H.hq,?_,hb,H.hC.aside ha (H.tC.ne tW (by decide)),by show W'.length<=_;rw [hl];exact H.cap,H.capC,H.R.aside ha (fun g hg=>H.rb g hg),?_,?_,H.rk,H.rb,H.kb⟩
 ·show MB _ _ _ _ _ _ _ (.slice _ W'.length _) _ _ _ _ _
  rw [hl];exact (ha.block _ H.tp.lt (H.tp.ne tW (by decide))).trans H.mb
 ·exact Z04 H.K (fun k hk=>ha.block k (Z08 H.K k hk).2 (fun e=>H.kb (by rw [hk,show k=h.bW from e])))
 ·exact Z04 H.I (fun k hk=>ha.block k (Z08 H.I k hk).2 ((Z25 H.I hk).ne tW (by decide)))
theorem HAt.setSerial (H:HAt h sr m w) (x:Int):HAt h x m (w.setCell ⟨h.q,2,none⟩ (.int .i64 x)):=by
 have tq:=H.tq
 have ha:Aside (fun k=>k=h.q) w (w.setCell ⟨h.q,2,none⟩ (.int .i64 x)):=(Aside.refl (fun k=>k=h.q) w).setCell (g:=h.q) rfl _
 exact ⟨Z06 H.hq,(ha.block _ H.tp.lt (H.tp.ne tq (by decide))).trans H.mb,H.hW.aside ha (H.tW.ne tq (by decide)),H.hC.aside ha (H.tC.ne tq (by decide)),H.cap,H.capC,H.R.aside ha (fun g hg=>(Z4i H.R hg).ne tq (by decide)),
  Z04 H.K (fun k hk=>ha.block k (Z08 H.K k hk).2 ((Z25 H.K hk).ne tq (by decide))),Z04 H.I (fun k hk=>ha.block k (Z08 H.I k hk).2 ((Z25 H.I hk).ne tq (by decide))),H.rk,H.rb,H.kb⟩
theorem HAt.collected {n:MD}{vR vK vI:Value} (H:HAt h sr m w) (C:ColAt h.p h.bW h.bC h.cW h.cC n vR vK vI w') (hN:RowsN w.heap.size n vR vK vI w') (ha:Aside (Z7g h.p h.bW h.bC) w w'):HAt { h with vR:=vR,vK:=vK,vI:=vI } sr n w'/\Nxt h { h with vR:=vR,vK:=vK,vI:=vI } w w':=by
 have lW:=H.tW.lt
 have own0:∀ {t:TypeId}{j k:Nat}{v:Value}{xs:List Value},w'.ownsRow w.heap.size t j v k xs->w'.ownsRow 0 t j v k xs:=fun h=>⟨h.1,by rcases h.2 with h | ⟨g,cap,cur,e1,e2,e3⟩;exact .inl h;exact .inr ⟨g,cap,cur,e1,U0x _,e3⟩⟩
 refine ⟨⟨(ha.block _ H.tq.lt (fun e => ?_)).trans H.hq,C.mb,C.hW,C.hC,C.cap,C.capC,hN.R,own0 hN.K,own0 hN.I,hN.rk,fun g hg e => ?_,fun e => ?_⟩,rfl,rfl,fun k hk => ?_,ha.mono (fun k hk => ?_)⟩
 ·rcases e with e | e | e
  ·exact H.tq.ne H.tp (by decide) e
  ·exact H.tq.ne H.tW (by decide) e
  ·exact H.tq.ne H.tC (by decide) e
 ·have:=hN.Rn g hg
  have e:g=h.bW:=e
  omega
 ·have:=(Z08 hN.K _ e).1
  have lW:h.bW<w.heap.size:=lW
  have this:w.heap.size<=h.bW:=this
  omega
 ·rcases hk with hk | hk | hk | hk | hk | hk | hk
  ·exact .inl (.inl hk)
  ·exact .inl (.inr (.inl hk))
  ·exact .inl (.inr (.inr (.inl hk)))
  ·exact .inl (.inr (.inr (.inr (.inl hk))))
  ·exact .inr (hN.Rn k hk)
  ·exact .inr (Z08 hN.K k hk).1
  ·exact .inr (Z08 hN.I k hk).1
 ·rcases hk with hk | hk | hk
  ·exact .inr (.inl hk)
  ·exact .inr (.inr (.inl hk))
  ·exact .inr (.inr (.inr (.inl hk)))
structure Dim (m n:MD):Prop where
 half:n.half=m.half
 old:n.old=m.old
 card:n.card=m.card
theorem Dim.refl (m:MD):Dim m m:=⟨rfl,rfl,rfl⟩
theorem Dim.trans {m n k:MD} (a:Dim m n) (b:Dim n k):Dim m k:=⟨b.half.trans a.half,b.old.trans a.old,b.card.trans a.card⟩
structure HS (a:Nat->Addr) (w0:World) (h:HP) (sr:Int) (m:MD) (M:MO) (X:MXtra) (w:World):Prop where
 at':HAt h sr m w
 hm:HM m sr M X
 env:HEnv a w0
 base:Below w0.heap.size w0 w
 own:∀ k,h.own k->w0.heap.size<=k
 t0:0<=h.tn
 t1:h.tn<=15
 kl:X.K.length<=5000
 rl:M.R.length<=5000
variable {a:Nat->Addr}{w0:World}{M:MO}{X:MXtra}
theorem HS.benv (s:HS a w0 h sr m M X w):HEnv a w:=s.env.below s.base
theorem HS.ab (s:HS a w0 h sr m M X w) {w':World} (ha:Aside h.own w w'):Below w0.heap.size w0 w':=s.base.trans (ha.below s.base.size (fun k hk hx=>by have:=s.own k hx;omega))
theorem HS.aenv (s:HS a w0 h sr m M X w) {w':World} (ha:Aside h.own w w'):HEnv a w':=s.env.below (s.ab ha)
theorem HS.next (s:HS a w0 h sr m M X w) {h':HP}{sr':Int}{n:MD}{M':MO}{X':MXtra} (N:Nxt h h' w w') (H:HAt h' sr' n w') (hm:HM n sr' M' X') (kl:X'.K.length<=5000) (rl:M'.R.length<=5000):HS a w0 h' sr' n M' X' w':=
 ⟨H,hm,s.env,s.ab N.aside,fun k hk=>by
  rcases N.own k hk with h1 | h1
  ·exact s.own k h1
  ·exact U0n s.base.size h1,by rw [N.tn];exact s.t0,by rw [N.tn];exact s.t1,kl,rl⟩
theorem HS.below (s:HS a w0 h sr m M X w) (hb:Below w.heap.size w w'):HS a w0 h sr m M X w':=s.next (Nxt.of_below h hb) (s.at'.below hb) s.hm s.kl s.rl
def Stp (a:Nat->Addr) (w0:World) (h:HP) (m:MD) (M:MO) (X:MXtra) (w w':World):Prop:=∃ h' sr' n,Nxt h h' w w'/\Dim m n/\HS a w0 h' sr' n M X w'
end
section
open Go.Maps
variable {h:HP}{sr:Int}{m:MD}{w w':World}{a:Nat->Addr}{w0:World}{M:MO}{X:MXtra}
theorem Zez {vs:List Nat} (S:m.Shape vs):m.I.length<=300000:=by
 have hI:=(S.rest').2.2
 have hn:(m.I.map fun x=>(x.1 / 4 - 1).toNat).Nodup:=by
  unfold List.Nodup
  rw [U3s,U1y]
  intro i j hi hj hij he
  have p1:=Z8r hI m.I[i] (U1w hi)
  have p2:=Z8r hI m.I[j] (U1w hj)
  unfold Z2y at p1 p2
  rw [U0i] at p1 p2
  have q1:=U0j p1.1
  have q2:=U0j p2.1
  have e:m.I[i].1=m.I[j].1:=by omega
  have hg:=hI
  unfold Z6j at hg
  rw [U0m] at hg
  have g:=hg j (U0u.2 hj)
  unfold idB at g
  rw [U03 hj] at g
  simp only [U0i,U1x] at g
  have h3:=g.2.2.1
  rw [U1g,U03 hj,U1b,U23] at h3
  have h4:m.I[j].1∈(m.I.take j).map (·.1):=by
   rw [<-e]
   exact U0l.2 ⟨m.I[i],U0a (i:=i) (by rw [U1j,U09 hij,U03 hi]),rfl⟩
  have h5:=U4c.2 h4
  have h6:(List.map (fun x:Int × Int=>x.1) (some m.I[j]).toList).count m.I[j].1=1:=by simp
  omega
 have hl:=Z55 _ vs hn (fun f hf=>by
  obtain ⟨x,hx,rfl⟩:=U0l.1 hf
  have p:=Z8r hI x hx
  unfold Z2y at p
  rw [U0i,U0i] at p
  exact U0j p.2.2)
 rw [U0v] at hl
 exact U0n hl S.few
structure Right (m:MD) (l1 l2:List Nat):Prop where
 S:m.Shape (l1++l2)
 C:m.cardsB=true
 h64:MD64 m
 w1:Z09 m.F (G0 m.F) (m.n1 - m.n0) m.n0 m.n1=some l1
 w2:Z09 m.F (G0 m.F) (m.m1 - m.m0) m.m0 m.m1=some l2
theorem HM.right (hm:HM m sr M X):∃ l1 l2,Right m l1 l2:=by
 obtain ⟨vs,S,C,h64⟩:=hm.shape
 obtain ⟨l1,l2,rfl,w1,w2⟩:=S.bare
 exact ⟨l1,l2,S,C,h64,w1,w2⟩
theorem HM.weaks (hm:HM m sr M X):m.K.length=X.K.length:=by
 obtain ⟨vs,S,φ,hr,hw⟩:=hm
 exact hw.klen
theorem HM.serials (hm:HM m sr M X):sr=X.next/\0<=X.next:=by
 obtain ⟨vs,S,φ,hr,hw⟩:=hm
 exact ⟨hw.next,hw.n0⟩
theorem HM.majorW {n:MD}{us l1 l2:List Nat}{S':Nat->Prop}{ψ:Nat->Nat} (hm:HM m sr M X) (Sm:m.Shape (l1++l2)) (D:JDone m n l1 l2 us S' ψ) {j i:Nat} (hj:X.K[j]?=some i) (hi:i ∉ M.all):n.K.getD j 0=2:=by
 obtain ⟨vs,S,φ,hr,hw⟩:=hm
 obtain rfl:=Sm.one hr.shape
 have hjl:j<m.K.length:=by rw [hw.klen];exact (U0e.1 hj).1
 have K:=D.C.weak j hjl
 rcases hw.weak j i hj with ⟨hs,e⟩ | ⟨_,e⟩
 ·have hp:=Za0 (φ:=φ) (hr.rel.few _ hs)
  rcases K with ⟨k1,_⟩ | ⟨_,_,k2⟩
  ·exfalso
   have h0:=k1 (by rw [e];omega)
   rw [e,hp] at h0
   have h1:=(D.led _).1 h0
   rw [show ((φ i:Nat):Int).toNat=φ i by omega] at h1
   exact hi (hr.mem hs h1)
  ·exact k2
 ·rcases K with ⟨_,k2⟩ | ⟨k1,_,_⟩
  ·rw [k2,e];rfl
  ·rw [e] at k1
   exact absurd k1 (by decide)
theorem HEnv.five {a:Nat->Addr}{w:World} (h:HEnv a w):MErr a w:=⟨h.errs.c1,h.errs.c2,h.errs.c4,h.errs.c5⟩
theorem Zh2 (ha:Aside (Z7g h.p h.bW h.bC) w w'):Aside h.own w w':=ha.mono (fun k hk=>by
 rcases hk with hk | hk | hk
 ·exact .inr (.inl hk)
 ·exact .inr (.inr (.inl hk))
 ·exact .inr (.inr (.inr (.inl hk))))
theorem Zbe (s:HS a w0 h sr m M X w):Calls prog 116 #[.pointer (some ⟨h.p,0,none⟩),.int .i64 h.tn] w fun ev w' =>
  (ev = .returned (Z0p a 5)/\Below w.heap.size w w')\/(ev = .returned .nilIface/\Stp a w0 h m M X w w'/\Aside (Z7g h.p h.bW h.bC) w w'):=by
 obtain ⟨l1,l2,rt⟩:=s.hm.right
 have hR:=s.hm.roots
 have hK:=s.hm.weaks
 have hrl:=s.rl
 have hkl:=s.kl
 have t0:=s.t0
 have t1:=s.t1
 refine (Zd4 a h.p h.bW h.bC h.cW h.cC m h.vR h.vK h.vI l1 l2 h.tn w s.at'.col rt.S rt.C rt.h64 rt.w1 rt.w2 (by omega) (by omega) (Zez rt.S) (by omega) (fun w' ha=>(s.aenv (Zh2 ha)).five)).mono ?_
 rintro ev w' (⟨hn,_⟩ | ⟨_,_,rfl,hb⟩ | ⟨_,_,rfl,e,n,us,S,ψ,vR,vK,vI,_,hC,hc,_,ha,hN⟩)
 ·exact absurd ⟨t0,t1⟩ hn
 ·exact .inl ⟨rfl,hb⟩
 ·refine .inr ⟨rfl,?_,ha⟩
  obtain ⟨H',N'⟩:=s.at'.collected hC hN ha
  exact ⟨_,sr,n,N',⟨hc.half,hc.hold,hc.card⟩,s.next N' H' (s.hm.minor rt.S hc) s.kl s.rl⟩
theorem Zjm (s:HS a w0 h sr m M X w):Calls prog 117 #[.pointer (some ⟨h.p,0,none⟩)] w fun ev w' =>
  (ev = .returned (Z0p a 5)/\Below w.heap.size w w'/\m.old<(M.words:Int))\/(ev = .returned .nilIface /\ ∃ h' sr' n,Nxt h h' w w'/\Dim m n/\HS a w0 h' sr' n M X w'/\n.top=0/\n.oldTop=(M.words:Int) /\ ∀ j i,X.K[j]?=some i->i ∉ M.all->n.K.getD j 0=2):=by
 obtain ⟨l1,l2,rt⟩:=s.hm.right
 have hR:=s.hm.roots
 have hK:=s.hm.weaks
 have hrl:=s.rl
 have hkl:=s.kl
 have hl:=s.hm.live rt.S
 refine (Zdn a h.p h.bW h.bC h.cW h.cC m h.vR h.vK h.vI l1 l2 w s.at'.col rt.S rt.C rt.h64 rt.w1 rt.w2 (by omega) (by omega) (Zez rt.S) (fun w' ha=>(s.aenv (Zh2 ha)).five)).mono ?_
 rintro ev w' (⟨hn,rfl,hb⟩ | ⟨_,rfl,P,φ,hX,hP,vR,vK,vI,hC,ha,hN⟩)
 ·refine .inl ⟨rfl,hb,?_⟩
  have hw:=rt.S.1.w
  have hm0:=(MD.parts rt.S.1).m0
  rw [hl] at hn
  omega
 ·refine .inr ⟨rfl,?_⟩
  obtain ⟨H',N'⟩:=s.at'.collected hC hN ha
  have D:=Zpf rt.S rt.h64 hX hP
  obtain ⟨g1,g2,g3⟩:=s.hm.major rt.S D
  exact ⟨_,sr,_,N',⟨D.C.half,D.C.hold,D.C.card⟩,s.next N' H' g1 s.kl s.rl,g2,g3,fun j i hj hi=>s.hm.majorW rt.S D hj hi⟩
end
section
open Go.Maps
def lyW (W:List Int) (t:Nat) (hd:Int) (fs:List Int):List Int:=W.take t++(hd::fs)++W.drop (t+1+fs.length)
theorem Zlw {W:List Int}{t:Nat}{hd:Int}{fs:List Int} (h:t+1+fs.length<=W.length):(lyW W t hd fs).length=W.length:=by
 unfold lyW
 simp only [U0f,U1k,U1e,U29]
 omega
theorem Zsc {W:List Int}{t:Nat}{hd:Int}{fs:List Int} (h:t+1+fs.length<=W.length) (i:Nat):(lyW W t hd fs)[i]?=if i<t then W[i]? else if i=t then some hd else if i<t+1+fs.length then fs[i - t - 1]? else W[i]?:=by
 unfold lyW
 have l1:(W.take t).length=t:=by rw [U1k];omega
 by_cases c1:i<t
 ·rw [U09 c1,U0y,U10 (by omega),U1j,U09 c1]
 ·rw [U08 c1,U0y,U12 (by omega),l1]
  by_cases c2:i=t
  ·rw [U09 c2,c2,U28]
   rfl
  ·rw [U08 c2]
   obtain ⟨j,rfl⟩:∃ j,i=t+1+j:=⟨i - t - 1,by omega⟩
   have e1:t+1+j - t=j+1:=by omega
   have e2:t+1+j - t - 1=j:=by omega
   rw [e2,e1,U5f,List.getElem?_cons_succ]
   by_cases c3:j<fs.length
   ·rw [U09 (by omega),U10 c3]
   ·rw [U08 (by omega),U12 (by omega),U2o]
    congr 1
    omega
def hdN (kd:Int) (s:Nat):Int:=(s:Int)*65536+kd*4+3
theorem Zjv {kd:Int}{s:Nat} (k0:0<=kd) (k1:kd<=255) (hs:s<=4096):hdN kd s % 4=3/\hdN kd s / 4 % 256=kd/\hdN kd s / 1024 % 16=0/\hdN kd s / 16384 % 2=0/\hdN kd s / 32768 % 2=0/\hdN kd s / 65536=(s:Int)/\0<=hdN kd s/\hdN kd s<18446744073709551616:=by
 unfold hdN
 omega
def Zqn (k:MD) (y:Bool) (n:Nat):MD:={ k with top:=if y then k.top+(n:Int) else k.top,oldTop:=if y then k.oldTop else k.oldTop+(n:Int) }
variable {m:MD}{l1 l2:List Nat}
theorem Zs4 (rt:Right m l1 l2) {kd:Int}{fs:List Int} (y:Bool) (k0:0<=kd) (k1:kd<=255) (hs:fs.length<=4096) (hu:U64 fs) (hf:¬ kd<8 -> ∀ x∈fs,Z0b m.W.length (fun _=>false) x=true)
  (hr:if y then m.top+((1+fs.length:Nat):Int)<=m.half else m.oldTop+((1+fs.length:Nat):Int)<=m.old) :
  ∃ t n,t=(if y then m.n1 else m.m1)/\t+1+fs.length<=m.W.length/\n = { Zqn m y (1+fs.length) with W:=lyW m.W t (hdN kd fs.length) fs } /\
   Laid m n t fs.length y/\MD64 n/\n.F t / 4 % 256=kd/\Z07 n.F t=fs:=by
 obtain ⟨h1,h2,h3,h4,h5,h6,h7,h8⟩:=Zjv k0 k1 hs
 have P:=MD.parts rt.S.1
 have hn:=rt.S.1.nums
 unfold Z0c at hn
 have hu0:=rt.S.1.u0
 have hu1:=rt.S.1.u1
 have ht0:=rt.S.1.t0
 have ht1:=rt.S.1.t1
 have ho0:=rt.S.1.o0
 have ho1:=rt.S.1.o1
 have hw:=rt.S.1.w
 have p0:=P.n0
 have p1:=P.n1
 have p2:=P.m0
 have p3:=P.m1
 obtain ⟨t,ht⟩:∃ t,t=(if y then m.n1 else m.m1):=⟨_,rfl⟩
 have hfit:t+1+fs.length<=m.W.length:=by
  have hus:m.used=0\/m.used=1:=by omega
  cases y with
  | true =>
   simp only [if_true] at ht hr
   rcases hus with e | e <;> (rw [e] at p1;omega)
  | false =>
   simp only [U36,if_false] at ht hr
   omega
 obtain ⟨n,hnn⟩:∃ n:MD,n = { Zqn m y (1+fs.length) with W:=lyW m.W t (hdN kd fs.length) fs }:=⟨_,rfl⟩
 have hF:∀ i,n.F i=if i<t then m.F i else if i=t then hdN kd fs.length else if i<t+1+fs.length then fs.getD (i - t - 1) 0 else m.F i:=fun i=>by
  unfold MD.F
  rw [hnn]
  show (lyW m.W t (hdN kd fs.length) fs).getD i 0=_
  rw [U07,Zsc hfit]
  simp only [U07]
  split
  ·rfl
  ·split
   ·rfl
   ·split <;> rfl
 have hFt:n.F t=hdN kd fs.length:=by rw [hF,U08 (by omega),U09 rfl]
 have hFk:∀ k,k<fs.length->n.F (t+1+k)=fs.getD k 0:=fun k hk=>by
  rw [hF,U08 (by omega),U08 (by omega),U09 (by omega),show t+1+k - t - 1=k by omega]
 have hsz:szN (n.F t)=fs.length:=by
  unfold szN
  rw [hFt,h6]
  omega
 have hfl:Z07 n.F t=fs:=by
  unfold Z07
  rw [hsz]
  apply U24
  intro i
  rw [U0g]
  by_cases hi:i<fs.length
  ·rw [U1u hi,U48,hFk i hi,U07,U03 hi]
   rfl
  ·rw [U14 (by simpa using hi),U14 (by simpa using hi)]
   rfl
 have e1:m.top+((1+fs.length:Nat):Int)=m.top+1+(fs.length:Int):=by omega
 have e2:m.oldTop+((1+fs.length:Nat):Int)=m.oldTop+1+(fs.length:Int):=by omega
 refine ⟨t,n,ht,hfit,hnn,?_,?_,by rw [hFt];exact h2,hfl⟩
 ·refine ⟨by rw [hnn];rfl,by rw [hnn];rfl,by rw [hnn];rfl,by rw [hnn];rfl,by rw [hnn];rfl,by rw [hnn];rfl,by rw [hnn];rfl,by rw [hnn];rfl,?_,by rw [hnn,<-e1];rfl,by rw [hnn,<-e2];rfl,ht,by rw [<-e1,<-e2];exact hr,fun i hi => ?_,?_,hsz,by rw [hFt];exact h4,by rw [hFt];exact h3,fun hk k hkl => ?_⟩
  ·rw [hnn];exact Zlw hfit
  ·rw [hF]
   rcases hi with hi | hi
   ·rw [U09 hi]
   ·rw [U08 (by omega),U08 (by omega),U08 (by omega)]
  ·unfold Z0t
   rw [hFt,h6]
   exact U0d ⟨h1,h5,by omega⟩
  ·rw [hFt,h2] at hk
   rw [hFk k hkl,U07,U03 hkl]
   exact hf hk _ (U1w hkl)
 ·obtain ⟨a1,a2,a3,a4⟩:=rt.h64
  refine ⟨fun x hx => ?_,by rw [hnn];exact a2,by rw [hnn];exact a3,by rw [hnn];exact a4⟩
  rw [hnn] at hx
  have hx:x∈lyW m.W t (hdN kd fs.length) fs:=hx
  unfold lyW at hx
  rcases U0c.1 hx with hx | hx
  ·rcases U0c.1 hx with hx | hx
   ·exact a1 x (U4v hx)
   ·rcases U19.1 hx with rfl | hx
    ·exact ⟨h7,h8⟩
    ·exact hu x hx
  ·exact a1 x (U4w hx)
end
section
open Go.Maps
variable {h:HP}{sr:Int}{m n:MD}{w w':World}{a:Nat->Addr}{w0:World}{M:MO}{X:MXtra}
theorem Zep (g:Nat->Nat):∀ (l l':List Nat),l.Nodup->(∀ x∈l,x∈l')->(l.map g).sum<=(l'.map g).sum
 | [],l',_,_=>by simp
 | x::l,l',hn,hs=>by
  have hx:=hs x (by simp)
  have hp:=List.perm_cons_erase hx
  obtain ⟨h1,h2⟩:=U2r.1 hn
  have ih:=Zep g l (l'.erase x) h2 (fun y hy=>(U4u (fun e=>h1 (by rw [<-e];exact hy))).2 (hs y (by simp [hy])))
  have hsum:=(hp.map g).sum_nat
  rw [hsum,U1f,U1f,U32,U32]
  omega
def ndW (d:ND):Nat:=1+(if d.kind<8 then d.raw.length else d.f.length)
def MO.total (M:MO):Nat:=(M.N.map ndW).sum
theorem HM.all (hm:HM m sr M X):M.all.Nodup/\(∀ i∈M.all,i<M.N.length)/\(∀ c∈M.R,c.kind=4->c.ref∈M.all) /\ ∀ i∈M.all,∀ d,M.N[i]?=some d -> ¬ d.kind<8 -> ∀ c∈d.f,c.kind=4->c.ref∈M.all:=by
 obtain ⟨vs,S,φ,hr,hw⟩:=hm
 obtain ⟨e,s,hn⟩:=hr.all
 obtain ⟨k1,k2⟩:=hr.closed
 exact ⟨hn,fun i hi=>hr.inN i (s i hi),k1,k2⟩
theorem Zca (M:MO):M.words=(M.all.map fun i=>match M.N[i]? with
 | some d=>ndW d
 | none=>0).sum:=rfl
theorem HM.few (hm:HM m sr M X):M.words<=M.total:=by
 obtain ⟨h1,h2,_⟩:=hm.all
 have hs:=Zep (fun i=>match M.N[i]? with | some d=>ndW d | none=>0) M.all (List.range M.N.length) h1 (fun i hi=>U0u.2 (h2 i hi))
 rw [Zca]
 refine U0n hs (U31 ?_)
 unfold MO.total
 congr 1
 apply U24
 intro i
 rw [U0g,U0g]
 by_cases hi:i<M.N.length
 ·rw [U1u hi,U03 hi]
  show some (match M.N[i]? with | some d=>ndW d | none=>0)=_
  rw [U03 hi]
  rfl
 ·rw [U14 (by simpa using hi),U14 (by simpa using hi)]
  rfl
theorem Zkk (h:∀ c∈M.R,c.kind≠4):M.all = []:=by
 have hm:∀ l:List CL,(∀ c∈l,c.kind≠4)->Z2q [] l = []:=fun l hl=>by
  induction l with
  | nil=>rfl
  | cons c l ih =>
   show Z2q (Z7t [] c) l = []
   have e:Z7t [] c = []:=by unfold Z7t;rw [U08 (fun q=>hl c (by simp) q.1)]
   rw [e]
   exact ih (fun y hy=>hl y (by simp [hy]))
 unfold MO.all MO.reach
 rw [hm M.R h]
 exact Zba (U02 _) _
theorem Zja (h:∀ c∈M.R,c.kind≠4):M.words=0:=by rw [Zca,Zkk h];rfl
theorem HM.whole (hm:HM m sr M X) (h:∀ i,i<M.N.length->i∈M.all):M.words=M.total:=by
 refine Nat.le_antisymm hm.few ?_
 have hs:=Zep (fun i=>match M.N[i]? with | some d=>ndW d | none=>0) (List.range M.N.length) M.all List.nodup_range (fun i hi=>h i (U0u.1 hi))
 rw [Zca]
 refine U0n (U31 ?_) hs
 unfold MO.total
 congr 1
 apply U24
 intro i
 rw [U0g,U0g]
 by_cases hi:i<M.N.length
 ·rw [U1u hi,U03 hi]
  show _=some (match M.N[i]? with | some d=>ndW d | none=>0)
  rw [U03 hi]
  rfl
 ·rw [U14 (by simpa using hi),U14 (by simpa using hi)]
  rfl
def MO.new (k:Nat):MO:=⟨List.replicate k ⟨0,0,0⟩,[]⟩
def MXtra.new:MXtra:=⟨[],fun _=>0,0⟩
theorem newHM {half old card:Int}{nW nC k:Nat} (hn:Z0c half old card) (hW:(nW:Int)=2*half+old) (hC:(nC:Int)=(old+card - 1) / card):HM (Z9j half old card nW nC k) 0 (MO.new k) MXtra.new:=
 ⟨[],_,_,HRel.new (Zih (n:=k) hn hW hC) (Zi1 half old card nW nC k) (Zrr half old card nW nC k) rfl,WRel.new rfl rfl⟩
end
section
open Go.Maps
variable {h:HP}{sr:Int}{m:MD}{w w':World}{a:Nat->Addr}{w0:World}{M:MO}{X:MXtra}
theorem HAt.c0 (H:HAt h sr m w):w.cell? ⟨h.q,0,none⟩=some (.pointer (some ⟨h.p,0,none⟩)):=by rw [U06 _ _ _ _ _ _ H.hq];rfl
theorem HAt.c1 (H:HAt h sr m w):w.cell? ⟨h.q,1,none⟩=some (.int .i64 h.tn):=by rw [U06 _ _ _ _ _ _ H.hq];rfl
theorem HAt.c2 (H:HAt h sr m w):w.cell? ⟨h.q,2,none⟩=some (.int .i64 sr):=by rw [U06 _ _ _ _ _ _ H.hq];rfl
theorem HAt.cm (H:HAt h sr m w):MemAt h.p m.half m.old m.card (.slice (some ⟨h.bW,0,none⟩) m.W.length h.cW) m.used m.top m.oldTop h.vR h.vK h.vI (.slice (some ⟨h.bC,0,none⟩) m.C.length h.cC) w:=H.col.mem
theorem HAt.rows (H:HAt h sr m w):(∃ ao cap,h.vR = .slice ao m.R.length cap)/\(∃ ao cap,h.vK = .slice ao m.K.length cap) /\ ∃ ao cap,h.vI = .slice ao m.I.length cap:=by
 obtain ⟨ao,cap,e,_⟩:=H.R
 obtain ⟨a1,c1,e1,_⟩:=(Z20.of_own H.K).1
 obtain ⟨a2,c2,e2,_⟩:=(Z20.of_own H.I).1
 exact ⟨⟨_,_,e⟩,⟨_,_,e1⟩,⟨_,_,e2⟩⟩
theorem HS.nums (s:HS a w0 h sr m M X w):1<=m.half/\m.half<=65536/\1<=m.old/\m.old<=65536/\(m.used=0\/m.used=1)/\0<=m.top/\m.top<=m.half/\0<=m.oldTop/\m.oldTop<=m.old/\(m.W.length:Int)=2*m.half+m.old/\(m.n1:Int)=m.used*m.half+m.top/\(m.m1:Int)=2*m.half+m.oldTop:=by
 obtain ⟨l1,l2,rt⟩:=s.hm.right
 have hn:=rt.S.1.nums
 unfold Z0c at hn
 have P:=MD.parts rt.S.1
 have:=rt.S.1.u0
 have:=rt.S.1.u1
 exact ⟨by omega,by omega,by omega,by omega,by omega,rt.S.1.t0,rt.S.1.t1,rt.S.1.o0,rt.S.1.o1,rt.S.1.w,P.n1,P.m1⟩
theorem HS.rlen (s:HS a w0 h sr m M X w):m.R.length=M.R.length/\m.R.length<=5000:=⟨s.hm.roots,by have:=s.rl;have:=s.hm.roots;omega⟩
theorem Zq3 (q p b n cap r:Nat) (x:Int) (hr:r<n) (w:World) (c0:w.cell? ⟨q,0,none⟩=some (.pointer (some ⟨p,0,none⟩))) (c7:w.cell? ⟨p,7,none⟩=some (.slice (some ⟨b,0,none⟩) n cap)) (cr:w.cell? ⟨b,r,none⟩=some (.int .u64 x)) (hn:n<=5000) :
  Calls prog 73 #[.pointer (some ⟨q,0,none⟩),.int .i64 (r:Int)] w fun ev w'=>ev = .returned (.tuple #[.int .u64 x,.nilIface])/\w'=w:=by
 have k:=Z0z r 0 ((n:Int) - 1) w
 rw [show (decide (0<=(r:Int)) && decide ((r:Int)<=(n:Int) - 1))=true by simp;omega] at k
 have hI:(r:Int)<(n:Int):=by omega
 have hI0:(0:Int)<=(r:Int):=by omega
 go_enter func73,ntmps73
 go_wp2_with fail
 refine k.mono ?_
 clear k
 rintro ev w1 ⟨rfl,rfl⟩
 go_wp2_with fail
 go_ret2
 exact ⟨rfl,rfl⟩
theorem Zpn (a:Nat->Addr) (q p n cap:Nat) (ao:Option Addr) (r:Int) (hr:¬ (0<=r/\r<(n:Int))) (w:World) (c0:w.cell? ⟨q,0,none⟩=some (.pointer (some ⟨p,0,none⟩))) (c7:w.cell? ⟨p,7,none⟩=some (.slice ao n cap)) (hn:n<=5000) (E:MErr a w) :
  Calls prog 73 #[.pointer (some ⟨q,0,none⟩),.int .i64 r] w fun ev w'=>ev = .returned (.tuple #[.int .u64 0,Z0p a 4])/\Below w.heap.size w w':=by
 have k:=Z0z r 0 ((n:Int) - 1) w
 rw [show (decide (0<=r) && decide (r<=(n:Int) - 1))=false by rw [U1m,U0p,U0p];omega] at k
 have k4:=E.c4
 clear E hr
 go_enter func73,ntmps73
 go_wp2_with fail
 refine k.mono ?_
 clear k
 rintro ev w1 ⟨rfl,rfl⟩
 go_wp2_with fail
 go_quiet (fail)
 go_wp2_with fail
 go_ret2
 exact ⟨rfl,Z03 (U01 _ _)⟩
theorem HS.rootOk (s:HS a w0 h sr m M X w) {r:Nat} (hr:r<m.R.length):Calls prog 73 #[.pointer (some ⟨h.q,0,none⟩),.int .i64 (r:Int)] w fun ev w'=>ev = .returned (.tuple #[.int .u64 (m.R.getD r 0),.nilIface])/\w'=w:=by
 obtain ⟨b,cap,e,_,_,cr,_⟩:=s.at'.root hr
 refine Zq3 h.q h.p b m.R.length cap r _ hr w s.at'.c0 ?_ cr s.rlen.2
 rw [s.at'.cm.c7,e]
theorem HS.rootNo (s:HS a w0 h sr m M X w) {r:Int} (hr:¬ (0<=r/\r<(m.R.length:Int))):Calls prog 73 #[.pointer (some ⟨h.q,0,none⟩),.int .i64 r] w fun ev w'=>ev = .returned (.tuple #[.int .u64 0,Z0p a 4])/\Below w.heap.size w w':=by
 obtain ⟨⟨ao,cap,e⟩,_⟩:=s.at'.rows
 refine Zpn a h.q h.p m.R.length cap ao r hr w s.at'.c0 ?_ s.rlen.2 s.benv.five
 rw [s.at'.cm.c7,e]
def Made (a:Nat->Addr) (q r:Nat) (G:Int->HP->Int->MD->World->Prop) (B:Nat->World->Prop) (ev:Ending) (w1:World):Prop:=
 (∃ y h' sr' n,ev = .returned (.tuple #[.int .u64 y,.nilIface])/\HAt h' sr' n w1/\h'.q=q/\r<n.R.length/\G y h' sr' n w1) \/ ∃ k,ev = .returned (.tuple #[.int .u64 0,Z0p a k])/\B k w1
theorem Z1a (s:HS a w0 h sr m M X w) (K:FuncId) (caps:Array Value) (hE:∀ args w,(callFunc K args).run prog w = .ok (.enter K args) w) {r:Nat} (hr:r<m.R.length) (G:Int->HP->Int->MD->World->Prop) (B:Nat->World->Prop)
  (hK:Calls prog K caps w (Made a h.q r G B)) :
  Calls prog 69 #[.pointer (some ⟨h.q,0,none⟩),.int .i64 (r:Int),.func (.func K) #[] caps] w fun ev w' =>
   (∃ y h' sr' n w1,ev = .returned .nilIface/\G y h' sr' n w1/\HAt h' sr' { n with R:=n.R.set r y } w'/\Nxt h' h' w1 w') \/ ∃ k,ev = .returned (Z0p a k)/\B k w':=by
 have k:=s.rootOk hr
 have hI0:(0:Int)<=(r:Int):=by omega
 obtain ⟨q,hq⟩:∃ q,q=h.q:=⟨_,rfl⟩
 rw [<-hq] at hK k ⊢
 obtain ⟨x,hx⟩:∃ x,x=m.R.getD r 0:=⟨_,rfl⟩
 rw [<-hx] at k
 clear s hx hr hq
 go_enter func69,ntmps69
 go_wp2_with fail
 refine k.mono ?_
 clear k
 rintro ev w1 ⟨rfl,rfl⟩
 go_wp2_with fail
 refine hK.mono ?_
 clear hK
 rintro ev w2 (⟨y,h',sr',n,rfl,H,hq,hr,hG⟩ | ⟨k,rfl,hB⟩)
 ·have d0:=H.c0
  rw [hq] at d0
  obtain ⟨b,cap,e,hi,_,cr,fz,hset⟩:=H.root hr
  have d7:=H.cm.c7
  rw [e] at d7
  have hI:(r:Int)<(n.R.length:Int):=by omega
  have HN:Hid (Nxt h' h' w2 (w2.setCell ⟨b,r,none⟩ (.int .u64 y))):=(Nxt.refl h' w2).set (.inl (.inr (.inr (.inr (.inr (.inl hi))))))
  have HS':=Z00 (hset y)
  have HG:=Z00 hG
  clear hset hG H hi e hq hr
  go_wp2_with fail
  go_ret
  exact .inl ⟨y,h',sr',n,w2,rfl,HG.out,HS'.out,HN.out⟩
 ·have HB:=Z00 hB
  clear hB
  unfold Z0p
  go_wp2_with fail
  go_ret
  exact .inr ⟨k,rfl,HB.out⟩
theorem Z3a (s:HS a w0 h sr m M X w) (f:Value) {r:Int} (hr:¬ (0<=r/\r<(m.R.length:Int))) :
  Calls prog 69 #[.pointer (some ⟨h.q,0,none⟩),.int .i64 r,f] w fun ev w'=>ev = .returned (Z0p a 4)/\Below w.heap.size w w':=by
 have k:=s.rootNo hr
 clear s hr
 go_enter func69,ntmps69
 go_wp2_with fail
 refine k.mono ?_
 clear k
 rintro ev w1 ⟨rfl,hb⟩
 have HB:=Z00 hb
 clear hb
 unfold Z0p
 go_wp2_with fail
 go_ret
 exact ⟨rfl,HB.out⟩
theorem Stp.back {w1:World} (hb:Below w.heap.size w w1) (t:Stp a w0 h m M X w1 w'):Stp a w0 h m M X w w':=by
 obtain ⟨h',sr',n,N,D,s⟩:=t
 exact ⟨h',sr',n,(Nxt.of_below h hb).trans N,D,s⟩
def Zsk (a:Nat->Addr) (w0:World) (h:HP) (m:MD) (M:MO) (X:MXtra) (w w':World):Prop:=∃ h' sr' n,Nxt h h' w w'/\Dim m n/\HS a w0 h' sr' n M X w'/\n.top=0/\n.oldTop=(M.words:Int) /\ ∀ j i,X.K[j]?=some i->i ∉ M.all->n.K.getD j 0=2
theorem Zsk.stp {w w':World} (t:Zsk a w0 h m M X w w'):Stp a w0 h m M X w w':=by
 obtain ⟨h',sr',n,a1,a2,a3,_⟩:=t
 exact ⟨h',sr',n,a1,a2,a3⟩
theorem HS.same (s:HS a w0 h sr m M X w) {w':World} (hb:Below w.heap.size w w'):Stp a w0 h m M X w w':=⟨h,sr,m,Nxt.of_below h hb,Dim.refl m,s.below hb⟩
theorem Z5k (s:HS a w0 h sr m M X w):Calls prog 68 #[.pointer (some ⟨h.q,0,none⟩)] w fun ev w'=>(ev = .returned (Z0p a 5)/\Below w.heap.size w w'/\m.old<(M.words:Int))\/(ev = .returned .nilIface/\Zsk a w0 h m M X w w'):=by
 have k:=Zjm s
 have c0:=s.at'.c0
 obtain ⟨q,hq⟩:∃ q,q=h.q:=⟨_,rfl⟩
 obtain ⟨p,hp⟩:∃ p,p=h.p:=⟨_,rfl⟩
 rw [<-hq,<-hp] at c0
 rw [<-hp] at k
 rw [<-hq]
 clear s hq hp
 go_enter func68,ntmps68
 go_wp2_with fail
 refine k.mono ?_
 clear k
 rintro ev w1 (⟨rfl,hP⟩ | ⟨rfl,hP⟩)
 ·have HP':=Z00 hP
  clear hP
  go_wp2_with fail
  first | go_ret | skip
  exact .inl ⟨rfl,HP'.out⟩
 ·have HP':=Z00 hP
  clear hP
  go_wp2_with fail
  first | go_ret | skip
  exact .inr ⟨rfl,HP'.out⟩
theorem Zrg:(prog.info? 338).map (·.comparable)=some true:=by kernel_rfl
theorem Ztb:(prog.info? 356).map (·.size)=some 1:=by kernel_rfl
theorem Ztk (x:Addr) (w:World):(binOp .eql 27 (.iface 338 (.pointer (some x))) (.iface 338 (.pointer (some x)))).run prog w = .ok (.bool true) w:=by
 obtain ⟨i,hi,hcmp⟩:=U1i.1 Zrg
 obtain ⟨j,hj,_⟩:=U1i.1 Ztb
 exact run_eql_iface_ptr_same (P:=prog) w x underlying27 underlying338 hi hcmp hj
theorem Ztc (x:Addr) (w:World):(binOp .eql 27 .nilIface (.iface 338 (.pointer (some x)))).run prog w = .ok (.bool false) w:=run_eql_iface_nil_left (P:=prog) w 338 _ underlying27
theorem Ziq (s:HS a w0 h sr m M X w):Calls prog 67 #[.pointer (some ⟨h.q,0,none⟩)] w fun ev w'=>(ev = .returned (Z0p a 5)/\Below w.heap.size w w'/\m.old<(M.words:Int))\/(ev = .returned .nilIface/\Stp a w0 h m M X w w'):=by
 have k:∀ W,Below w.heap.size w W->Calls prog 116 #[.pointer (some ⟨h.p,0,none⟩),.int .i64 h.tn] W fun ev w'=>(ev = .returned (Z0p a 5)/\Below W.heap.size W w')\/(ev = .returned .nilIface/\Stp a w0 h m M X W w'/\Aside (Z7g h.p h.bW h.bC) W w'):=fun W hW=>Zbe (s.below hW)
 have c0:=s.at'.c0
 have c1:=s.at'.c1
 have HS':=Z00 s
 obtain ⟨q,hq⟩:∃ q,q=h.q:=⟨_,rfl⟩
 obtain ⟨p,hp⟩:∃ p,p=h.p:=⟨_,rfl⟩
 obtain ⟨t,ht⟩:∃ t,t=h.tn:=⟨_,rfl⟩
 rw [<-hq,<-hp] at c0
 rw [<-hq,<-ht] at c1
 rw [<-hp,<-ht] at k
 have HM5:Hid (∀ w1,Below w.heap.size w w1->w1.cell? ⟨5,0,none⟩=some (.iface 338 (.pointer (some (a 5))))):=fun w1 hb=>(s.benv.five.below hb).c5
 have HJ:Hid (∀ w1,Below w.heap.size w w1->Calls prog 68 #[.pointer (some ⟨q,0,none⟩)] w1 fun ev w'=>(ev = .returned (Z0p a 5)/\Below w1.heap.size w1 w'/\m.old<(M.words:Int))\/(ev = .returned .nilIface/\Zsk a w0 h m M X w1 w')):=fun w1 hb=>by
  rw [hq];exact Z5k (s.below hb)
 have HG:Hid (∀ w1,Stp a w0 h m M X w w1->w1.cell? ⟨5,0,none⟩=some (.iface 338 (.pointer (some (a 5))))):=fun w1 st=>by
  obtain ⟨h',sr',n,_,_,s'⟩:=st
  exact s'.benv.five.c5
 have HS0:Hid (∀ w1,Aside (Z7g p h.bW h.bC) w w1->w1.cell? ⟨q,0,none⟩=some (.pointer (some ⟨p,0,none⟩))/\w1.cell? ⟨q,1,none⟩=some (.int .i64 t)):=fun w1 ha=>by
  have hn:¬ Z7g p h.bW h.bC q:=fun e=>by
   rw [hq,hp] at e
   rcases e with e | e | e
   ·exact s.at'.tq.ne s.at'.tp (by decide) e
   ·exact s.at'.tq.ne s.at'.tW (by decide) e
   ·exact s.at'.tq.ne s.at'.tC (by decide) e
  exact ⟨ha.cell c0 hn,ha.cell c1 hn⟩
 have HS1:=Z00 (HS0.out w (Aside.refl _ _))
 rw [<-hq]
 have KC:Hid (∀ W,Below w.heap.size w W->Calls prog 116 #[.pointer (some ⟨p,0,none⟩),.int .i64 t] W fun ev w' => ∃ e,ev = .returned e/\Hid ((e=Z0p a 5/\Below w.heap.size w w')\/(e = .nilIface/\Stp a w0 h m M X w w'))/\Aside (Z7g p h.bW h.bC) w w'):=fun W hW=>(k W hW).mono (by
  rintro ev w1 (⟨rfl,hb⟩ | ⟨rfl,hP,ha⟩)
  ·exact ⟨_,rfl,.inl ⟨rfl,hW.trans (hb.mono hW.size)⟩,Aside.of_below (hW.trans (hb.mono hW.size))⟩
  ·exact ⟨_,rfl,.inr ⟨rfl,hP.back hW⟩,(Aside.of_below hW).trans ha⟩)
 have q1:=Ztk (a 5)
 have q2:=Ztc (a 5)
 clear s hq hp ht k c0 c1
 go_enter func67,ntmps67
 go_upto_region 1 with fail
 go_region_held3 (fun W=>W.cell? ⟨q,0,none⟩=some (.pointer (some ⟨p,0,none⟩))/\W.cell? ⟨q,1,none⟩=some (.int .i64 t)) (first | with_reducible exact HS1.out | with_reducible exact HS0.out _ ha | exact HS1.out) (first | (go_at_call 116;refine (KC.out _ (by first | exact U01 _ _ | exact (U01 _ _).drew)).mono ?_;rintro ev w1 ⟨e,rfl,hPP,ha⟩))
 have hPP1:=hPP.out
 clear hPP
 rcases hPP1 with ⟨rfl,hb⟩ | ⟨rfl,hP⟩
 ·skip
  have g5:=HM5.out w1 hb
  have kj:=HJ.out w1 hb
  have HB:=Z00 hb
  clear hb ha
  unfold Z0p
  go_wp2_with fail
  refine kj.mono ?_
  clear kj
  rintro ev w2 (⟨rfl,hb2,hl⟩ | ⟨rfl,hP⟩)
  ·have HE:Hid (Below w.heap.size w w2/\m.old<(M.words:Int)):=⟨HB.out.trans (hb2.mono HB.out.size),hl⟩
   clear hb2 hl
   go_wp2_with fail
   first | go_ret | skip
   exact .inl ⟨rfl,HE.out⟩
  ·have HE:Hid (Stp a w0 h m M X w w2):=by
    obtain ⟨h',sr',n,N,D,s',_⟩:=hP
    exact ⟨h',sr',n,(Nxt.of_below h HB.out).trans N,D,s'⟩
   clear hP
   go_wp2_with fail
   first | go_ret | skip
   exact .inr ⟨rfl,HE.out⟩
 ·have g5:=HG.out w1 hP
  have HE:=Z00 hP
  clear hP ha
  go_wp2_with fail
  first | go_ret | skip
  exact .inr ⟨rfl,HE.out⟩
end
section
open Go.Maps
variable {h:HP}{sr:Int}{m:MD}{w w':World}{a:Nat->Addr}{w0:World}{M:MO}{X:MXtra}
def Zr4 (a:Nat->Addr) (w0:World) (h:HP) (m:MD) (M:MO) (X:MXtra) (n:Nat) (w w':World):Prop:=∃ h' sr' k,Nxt h h' w w'/\Dim m k/\HS a w0 h' sr' k M X w'/\((n:Int)<=k.half - k.top\/(k.top=0/\k.oldTop=(M.words:Int))\/k.old<(M.words:Int))
theorem HS.leftOk (s:HS a w0 h sr m M X w):Calls prog 168 #[.pointer (some ⟨h.q,0,none⟩)] w fun ev w'=>ev = .returned (.int .i64 (m.half - m.top)) /\ ∃ k,w'=w.drewN k:=by
 obtain ⟨_,n1,_,_,_,n2,n3,_⟩:=s.nums
 exact Zsg h.q h.p m.half m.top n2 n3 n1 w s.at'.c0 s.at'.cm.c0 s.at'.cm.c5
theorem Z97 (s:HS a w0 h sr m M X w) (n:Nat):Calls prog 169 #[.pointer (some ⟨h.q,0,none⟩),.int .i64 (n:Int)] w fun ev w'=>ev = .returned (.tuple #[])/\Zr4 a w0 h m M X n w w':=by
 have k:∀ W,Below w.heap.size w W->Calls prog 116 #[.pointer (some ⟨h.p,0,none⟩),.int .i64 h.tn] W fun ev w'=>(ev = .returned (Z0p a 5)/\Below W.heap.size W w')\/(ev = .returned .nilIface/\Stp a w0 h m M X W w'/\Aside (Z7g h.p h.bW h.bC) W w'):=fun W hW=>Zbe (s.below hW)
 have c0:=s.at'.c0
 have c1:=s.at'.c1
 have HSS:=Z00 s
 obtain ⟨q,hq⟩:∃ q,q=h.q:=⟨_,rfl⟩
 obtain ⟨p,hp⟩:∃ p,p=h.p:=⟨_,rfl⟩
 obtain ⟨t,ht⟩:∃ t,t=h.tn:=⟨_,rfl⟩
 rw [<-hq,<-hp] at c0
 rw [<-hq,<-ht] at c1
 rw [<-hp,<-ht] at k
 have HS0:Hid (∀ w1,Aside (Z7g p h.bW h.bC) w w1->w1.cell? ⟨q,0,none⟩=some (.pointer (some ⟨p,0,none⟩))/\w1.cell? ⟨q,1,none⟩=some (.int .i64 t)):=fun w1 ha=>by
  have hn:¬ Z7g p h.bW h.bC q:=fun e=>by
   rw [hq,hp] at e
   rcases e with e | e | e
   ·exact s.at'.tq.ne s.at'.tp (by decide) e
   ·exact s.at'.tq.ne s.at'.tW (by decide) e
   ·exact s.at'.tq.ne s.at'.tC (by decide) e
  exact ⟨ha.cell c0 hn,ha.cell c1 hn⟩
 have HS1:=Z00 (HS0.out w (Aside.refl _ _))
 have HQ:=Z00 hq
 rw [<-hq]
 have KC:Hid (∀ W,Below w.heap.size w W->Calls prog 116 #[.pointer (some ⟨p,0,none⟩),.int .i64 t] W fun ev w' => ∃ e,ev = .returned e/\Hid ((e=Z0p a 5/\Below w.heap.size w w')\/(e = .nilIface/\Stp a w0 h m M X w w'))/\Aside (Z7g p h.bW h.bC) w w'):=fun W hW=>(k W hW).mono (by
  rintro ev w1 (⟨rfl,hb⟩ | ⟨rfl,hP,ha⟩)
  ·exact ⟨_,rfl,.inl ⟨rfl,hW.trans (hb.mono hW.size)⟩,Aside.of_below (hW.trans (hb.mono hW.size))⟩
  ·exact ⟨_,rfl,.inr ⟨rfl,hP.back hW⟩,(Aside.of_below hW).trans ha⟩)
 clear s hq hp ht k c0 c1
 go_enter func169,ntmps169
 go_upto_region 0 with fail
 go_region_held3 (fun W=>W.cell? ⟨q,0,none⟩=some (.pointer (some ⟨p,0,none⟩))/\W.cell? ⟨q,1,none⟩=some (.int .i64 t)) (first | with_reducible exact HS1.out | with_reducible exact HS0.out _ ha | exact HS1.out) (first | (go_at_call 116;refine (KC.out _ (by first | exact U01 _ _ | exact (U01 _ _).drew)).mono ?_;rintro ev w1 ⟨e,rfl,hPP,ha⟩))
 have hPP1:=hPP.out
 clear hPP
 rcases hPP1 with ⟨rfl,hb⟩ | ⟨rfl,hP⟩
 ·skip
  have kj:=Z5k (HSS.out.below hb)
  rw [<-HQ.out] at kj
  have HB:=Z00 hb
  clear hb ha
  unfold Z0p
  go_wp2_with fail
  refine kj.mono ?_
  clear kj
  rintro ev w2 (⟨rfl,hb2,hl⟩ | ⟨rfl,hP⟩)
  ·have HE:Hid (Zr4 a w0 h m M X n w w2):=by
    have hbb:=HB.out.trans (hb2.mono HB.out.size)
    exact ⟨h,sr,m,Nxt.of_below h hbb,Dim.refl m,HSS.out.below hbb,.inr (.inr hl)⟩
   clear hb2 hl
   go_wp2_with fail
   first | go_end0 | skip
   exact ⟨rfl,HE.out⟩
  ·have HE:Hid (Zr4 a w0 h m M X n w w2):=by
    obtain ⟨h',sr',k,N,D,s',e1,e2,_⟩:=hP
    exact ⟨h',sr',k,(Nxt.of_below h HB.out).trans N,D,s',.inr (.inl ⟨e1,e2⟩)⟩
   clear hP
   go_wp2_with fail
   first | go_end0 | skip
   exact ⟨rfl,HE.out⟩
 ·obtain ⟨h1,sr1,m1,N1,D1,s1⟩:=hP
  have kl:=s1.leftOk
  rw [N1.q,<-HQ.out] at kl
  have kj:∀ k,Calls prog 68 #[.pointer (some ⟨q,0,none⟩)] (w1.drewN k) fun ev w'=>(ev = .returned (Z0p a 5)/\Below (w1.drewN k).heap.size (w1.drewN k) w'/\m1.old<(M.words:Int))\/(ev = .returned .nilIface/\Zsk a w0 h1 m1 M X (w1.drewN k) w'):=fun k=>by
   have h:=Z5k (s1.below (w':=w1.drewN k) (Z03 (U01 _ _)))
   rw [N1.q,<-HQ.out] at h
   exact h
  have HKJ:=Z00 kj
  have H1:Hid (Nxt h h1 w w1/\Dim m m1/\HS a w0 h1 sr1 m1 M X w1):=⟨N1,D1,s1⟩
  clear N1 D1 s1 ha kj
  by_cases hroom:(n:Int)<=m1.half - m1.top
  ·have t1:¬ m1.half - m1.top<(n:Int):=by omega
   have HR:=Z00 hroom
   clear hroom
   go_wp2_with fail
   refine kl.mono ?_
   clear kl
   rintro ev w2 ⟨rfl,kk,rfl⟩
   have HE:Hid (Zr4 a w0 h m M X n w (w1.drewN kk)):=by
    obtain ⟨N1,D1,s1⟩:=H1.out
    have b:=Z03 (q:=kk) (U01 w1.heap.size w1)
    exact ⟨h1,sr1,m1,N1.below b,D1,s1.below b,.inl HR.out⟩
   go_wp2_with fail
   first | go_end0 | skip
   exact ⟨rfl,HE.out⟩
  ·have t1:m1.half - m1.top<(n:Int):=by omega
   clear hroom
   go_wp2_with fail
   refine kl.mono ?_
   clear kl
   rintro ev w2 ⟨rfl,kk,rfl⟩
   go_wp2_with fail
   refine (HKJ.out kk).mono ?_
   rintro ev w3 (⟨rfl,hb2,hl⟩ | ⟨rfl,hP⟩)
   ·have HE:Hid (Zr4 a w0 h m M X n w w3):=by
     obtain ⟨N1,D1,s1⟩:=H1.out
     have b:=Z03 (q:=kk) (U01 w1.heap.size w1)
     have bb:=b.trans (hb2.mono b.size)
     exact ⟨h1,sr1,m1,N1.below bb,D1,s1.below bb,.inr (.inr hl)⟩
    clear hb2 hl
    go_wp2_with fail
    first | go_end0 | skip
    exact ⟨rfl,HE.out⟩
   ·have HE:Hid (Zr4 a w0 h m M X n w w3):=by
     obtain ⟨N1,D1,s1⟩:=H1.out
     obtain ⟨h',sr',k,N,D,s',e1,e2,_⟩:=hP
     have b:=Z03 (q:=kk) (U01 w1.heap.size w1)
     exact ⟨h',sr',k,(N1.below b).trans N,D1.trans D,s',.inr (.inl ⟨e1,e2⟩)⟩
    clear hP
    go_wp2_with fail
    first | go_end0 | skip
    exact ⟨rfl,HE.out⟩
def Z85 (a:Nat->Addr) (w0:World) (h:HP) (m:MD) (M:MO) (X:MXtra) (n:Nat) (w:World) (ev:Ending) (w':World):Prop:=
 (∃ h' sr' k y,Nxt h h' w w'/\Dim m k/\HM k sr' M X/\ev = .returned (.tuple #[.int .i64 ((if y then k.n1 else k.m1:Nat):Int),.nilIface])/\(if y then k.top+(n:Int)<=k.half else k.oldTop+(n:Int)<=k.old)/\HAt h' sr' (Zqn k y n) w') \/
 (ev = .returned (.tuple #[.int .i64 0,Z0p a 5])/\Stp a w0 h m M X w w'/\m.old<(M.words:Int)+n)
theorem Zkm (s:HS a w0 h sr m M X w) (n:Nat) (hn:n<=70000):Calls prog 119 #[.pointer (some ⟨h.q,0,none⟩),.int .i64 (n:Int)] w (Z85 a w0 h m M X n w):=by
 have kl:=s.leftOk
 have kc:∀ k,Calls prog 169 #[.pointer (some ⟨h.q,0,none⟩),.int .i64 (n:Int)] (w.drewN k) fun ev w'=>ev = .returned (.tuple #[])/\Zr4 a w0 h m M X n (w.drewN k) w':=fun k=>Z97 (s.below (w':=w.drewN k) (Z03 (U01 _ _))) n
 have HSS:=Z00 s
 obtain ⟨q,hq⟩:∃ q,q=h.q:=⟨_,rfl⟩
 rw [<-hq] at kl kc ⊢
 have HQ:=Z00 hq
 have HKC:=Z00 kc
 clear s hq kc
 go_enter func119,ntmps119
 go_upto_region 1 with fail
 go_cut [9] from 6 to 10 (fun v9 wx => ∃ b:Bool,v9 = .bool b/\Hid (b=decide (m.half - m.top<(n:Int))) /\ ∃ kk,wx=w.drewN kk)
 case first =>
  go_wp2_with fail
  refine kl.mono ?_
  clear kl
  rintro ev w2 ⟨rfl,kk,rfl⟩
  go_wp2_with fail
  go_meet
  exact ⟨_,rfl,rfl,kk,rfl⟩
 case rest =>
 obtain ⟨b9,rfl,HB9,kk,hkk⟩:=hcut
 subst hkk
 clear kl
 go_upto_if 9 with fail
 go_cut [] from 10 to 13 (fun wx => ∃ h1 sr1 m1,Hid (Nxt h h1 w wx)/\Hid (Dim m m1)/\Hid (HS a w0 h1 sr1 m1 M X wx)/\Hid ((n:Int)<=m1.half - m1.top\/(m1.top=0/\m1.oldTop=(M.words:Int))\/m1.old<(M.words:Int)))
 case first =>
  cases b9 with
  | false =>
   have HR:Hid ((n:Int)<=m.half - m.top):=by have h9:=of_decide_eq_false HB9.out.symm;show _<=_;omega
   clear HB9
   go_wp2_with fail
   go_meet
   have b:=Z03 (q:=kk) (U01 w.heap.size w)
   exact ⟨h,sr,m,Nxt.of_below h b,Dim.refl m,HSS.out.below b,.inl HR.out⟩
  | true =>
   clear HB9
   go_wp2_with fail
   refine (HKC.out kk).mono ?_
   rintro ev w3 ⟨rfl,h1,sr1,m1,N1,D1,s1,e1⟩
   have HE:Hid (Nxt h h1 w w3/\Dim m m1/\HS a w0 h1 sr1 m1 M X w3/\((n:Int)<=m1.half - m1.top\/(m1.top=0/\m1.oldTop=(M.words:Int))\/m1.old<(M.words:Int))):=
    ⟨(Nxt.of_below h (Z03 (q:=kk) (U01 w.heap.size w))).trans N1,D1,s1,e1⟩
   clear N1 D1 s1 e1
   go_wp2_with fail
   go_meet
   exact ⟨h1,sr1,m1,HE.out.1,HE.out.2.1,HE.out.2.2.1,HE.out.2.2.2⟩
 case rest =>
  obtain ⟨h1,sr1,m1,HN1,HD1,HS1,HC1⟩:=hcut
  obtain ⟨w1,hw1⟩:∃ w1,w1=wc:=⟨_,rfl⟩
  subst hw1
  obtain ⟨a1,a2,a3,a4,a5,a6,a7,a8,a9,a10,a11,a12⟩:=HS1.out.nums
  have kl:=HS1.out.leftOk
  rw [HN1.out.q,<-HQ.out] at kl
  have d0:=HS1.out.at'.c0
  rw [HN1.out.q,<-HQ.out] at d0
  have M1:=HS1.out.at'.cm
  have e0:=M1.c0
  have e1:=M1.c1
  have e4:=M1.c4
  have e5:=M1.c5
  have e6:=M1.c6
  have g5:=HS1.out.benv.five.c5
  have hmb:=HS1.out.at'.mb
  unfold MB at hmb
  have f5:w1.frozen? ⟨h1.p,5,none⟩=false:=by simp [World.frozen?,hmb]
  have f6:w1.frozen? ⟨h1.p,6,none⟩=false:=by simp [World.frozen?,hmb]
  have HT5:Hid (∀ k,HAt h1 sr1 { m1 with top:=m1.top+(n:Int) } ((w1.drewN k).setCell ⟨h1.p,5,none⟩ (.int .i64 (m1.top+(n:Int))))):=fun k=>(HS1.out.at'.below (Z03 (q:=k) (U01 _ _))).setTop _
  have HT6:Hid (∀ k,HAt h1 sr1 { m1 with oldTop:=m1.oldTop+(n:Int) } ((w1.drewN k).setCell ⟨h1.p,6,none⟩ (.int .i64 (m1.oldTop+(n:Int))))):=fun k=>(HS1.out.at'.below (Z03 (q:=k) (U01 _ _))).setOld _
  have HX5:Hid (∀ k,Nxt h h1 w ((w1.drewN k).setCell ⟨h1.p,5,none⟩ (.int .i64 (m1.top+(n:Int))))):=fun k=>HN1.out.trans (Nxt.set (Nxt.of_below h1 (Z03 (q:=k) (U01 _ _))) (.inl (.inr (.inl rfl))))
  have HX6:Hid (∀ k,Nxt h h1 w ((w1.drewN k).setCell ⟨h1.p,6,none⟩ (.int .i64 (m1.oldTop+(n:Int))))):=fun k=>HN1.out.trans (Nxt.set (Nxt.of_below h1 (Z03 (q:=k) (U01 _ _))) (.inl (.inr (.inl rfl))))
  have HF:Hid (∀ k,m.old<(M.words:Int)+n->Z85 a w0 h m M X n w (.returned (.tuple #[.int .i64 0,Z0p a 5])) (w1.drewN k)):=fun k hf=>.inr ⟨rfl,⟨h1,sr1,m1,HN1.out.below (Z03 (q:=k) (U01 _ _)),HD1.out,HS1.out.below (Z03 (q:=k) (U01 _ _))⟩,hf⟩
  have HO:=HD1.out.old
  have x1:IntKind.i64.wrap (m1.used*m1.half)=m1.used*m1.half:=by rw [U1d];rcases a5 with e | e <;> rw [e] <;> omega
  have x2:IntKind.i64.wrap (m1.used*m1.half+m1.top)=m1.used*m1.half+m1.top:=by rw [U1d];rcases a5 with e | e <;> rw [e] <;> omega
  have x3:IntKind.i64.wrap (m1.top+(n:Int))=m1.top+(n:Int):=by rw [U1d];omega
  have x4:IntKind.i64.wrap (m1.old - m1.oldTop)=m1.old - m1.oldTop:=by rw [U1d];omega
  have x5:IntKind.i64.wrap (2*m1.half)=2*m1.half:=by rw [U1d];omega
  have x6:IntKind.i64.wrap (2*m1.half+m1.oldTop)=2*m1.half+m1.oldTop:=by rw [U1d];omega
  have x7:IntKind.i64.wrap (m1.oldTop+(n:Int))=m1.oldTop+(n:Int):=by rw [U1d];omega
  have HY:Hid (m1.used*m1.half+m1.top=(m1.n1:Int)/\2*m1.half+m1.oldTop=(m1.m1:Int)/\m1.oldTop<=m1.old/\m1.old=m.old):=⟨a11.symm,a12.symm,a9,HO⟩
  clear a1 a2 a3 a4 a5 a6 a7 a8 a9 a10 a11 a12 M1 hmb HO
  by_cases hroom:(n:Int)<=m1.half - m1.top
  ·have HR:=Z00 hroom
   go_wp2_with fail
   refine kl.mono ?_
   clear kl
   rintro ev w2 ⟨rfl,k1,rfl⟩
   go_wp2_with fail
   go_quiet (fail)
   go_wp2_with fail
   go_ret2
   refine .inl ⟨h1,sr1,m1,true,HX5.out _,HD1.out,HS1.out.hm,?_,?_,HT5.out _⟩
   ·rw [U09 rfl,<-HY.out.1];rfl
   ·rw [U09 rfl];have:=HR.out;omega
  ·have hr1:¬ (n:Int)<=m1.half - m1.top:=hroom
   have HR:=Z00 hroom
   clear hroom
   by_cases hold:(n:Int)<=m1.old - m1.oldTop
   ·have HR2:=Z00 hold
    go_wp2_with fail
    refine kl.mono ?_
    clear kl
    rintro ev w2 ⟨rfl,k1,rfl⟩
    go_wp2_with fail
    go_quiet (fail)
    go_wp2_with fail
    go_quiet (fail)
    go_wp2_with fail
    go_ret2
    refine .inl ⟨h1,sr1,m1,false,?_,HD1.out,HS1.out.hm,?_,?_,?_⟩
    ·exact HX6.out _
    ·rw [U08 (by decide),<-HY.out.2.1];rfl
    ·rw [U08 (by decide)];have:=HR2.out;omega
    ·exact HT6.out _
   ·have HR2:=Z00 hold
    go_wp2_with fail
    refine kl.mono ?_
    clear kl
    rintro ev w2 ⟨rfl,k1,rfl⟩
    go_wp2_with fail
    go_quiet (fail)
    go_wp2_with fail
    go_quiet (fail)
    go_wp2_with fail
    go_ret2
    show Z85 a w0 h m M X n w (.returned (.tuple #[.int .i64 0,Z0p a 5])) _
    simp only [World.drewN_drewN]
    refine HF.out _ ?_
    have:=HR.out
    have:=HR2.out
    obtain ⟨_,_,y3,y4⟩:=HY.out
    rcases HC1.out with hc | ⟨hc1,hc2⟩ | hc <;> omega
end
end Go.Proofs.YtlkcbdinlfeoiaaGreatDoor
