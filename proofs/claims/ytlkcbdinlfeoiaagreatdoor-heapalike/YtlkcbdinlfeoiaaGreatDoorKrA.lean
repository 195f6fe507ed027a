/- Package heap by contracts: a heap in memory, block by block, whatever its memory holds. -/
import Derived.Test.YtlkcbdinlfeoiaaGreatDoorKnAP
import Derived.Test.YtlkcbdinlfeoiaaGreatDoorKnBC
import Derived.Test.YtlkcbdinlfeoiaaGreatDoorKnAT
namespace Go.Proofs.YtlkcbdinlfeoiaaGreatDoor
open Go.Proofs.Tryz Go.RowKit
set_option maxHeartbeats 8000000
set_option maxRecDepth 100000
set_option linter.unusedSimpArgs false
section
open Go.Maps
structure HP where
 q:Nat
 p:Nat
 bW:Nat
 bC:Nat
 cW:Nat
 cC:Nat
 tn:Int
 vR:Value
 vK:Value
 vI:Value
structure HAt (h:HP) (sr:Int) (m:MD) (w:World):Prop where
 hq:w.heap[h.q]?=some (.cells #[.pointer (some ⟨h.p,0,none⟩),.int .i64 h.tn,.int .i64 sr] 88)
 mb:MB h.p m.half m.old m.card m.used m.top m.oldTop (.slice (some ⟨h.bW,0,none⟩) m.W.length h.cW) h.vR h.vK h.vI (.slice (some ⟨h.bC,0,none⟩) m.C.length h.cC) w
 hW:Blk h.bW 81 (Z05 m.W) w
 hC:Blk h.bC 4 (Z0s m.C) w
 cap:m.W.length<=h.cW
 capC:m.C.length<=h.cC
 R:Z20 81 1 h.vR m.R.length (Z05 m.R) w
 K:w.ownsRow 0 81 1 h.vK m.K.length (Z05 m.K)
 I:w.ownsRow 0 123 2 h.vI m.I.length (Z2e m.I)
 rk:∀ g,Z1n h.vR g->h.vK.ownBlock≠some g
 rb:∀ g,Z1n h.vR g->g≠h.bW
 kb:h.vK.ownBlock≠some h.bW
def HP.own (h:HP) (k:Nat):Prop:=k=h.q\/k=h.p\/k=h.bW\/k=h.bC\/Z1n h.vR k\/h.vK.ownBlock=some k\/h.vI.ownBlock=some k
def Ty (w:World) (k:Nat) (t:TypeId):Prop:=∃ c:Array Value,w.heap[k]?=some (.cells c t)
theorem Ty.ne {w:World}{k k':Nat}{t t':TypeId} (h:Ty w k t) (h':Ty w k' t') (ht:t≠t'):k≠k':=by
 rintro rfl
 obtain ⟨c,e⟩:=h
 obtain ⟨c',e'⟩:=h'
 rw [e] at e'
 injection e' with e'
 injection e' with _ e2 _
 exact ht e2
theorem Ty.lt {w:World}{k:Nat}{t:TypeId} (h:Ty w k t):k<w.heap.size:=by obtain ⟨c,e⟩:=h;exact Z01 e
theorem Z4i {t:TypeId}{j n:Nat}{v:Value}{xs:List Value}{w:World} (h:Z20 t j v n xs w) {g:Nat} (hg:Z1n v g):Ty w g t:=by
 obtain ⟨ao,cap,e1,_,_,e4⟩:=h
 obtain ⟨o,n',c,h0,e5⟩:=hg
 rw [e1] at e5
 cases e5
 obtain ⟨g',e6,r,hb⟩:=e4 h0
 cases e6
 exact ⟨_,hb⟩
theorem Z25 {B:Nat}{t:TypeId}{j n:Nat}{v:Value}{xs:List Value}{w:World} (h:w.ownsRow B t j v n xs) {g:Nat} (hg:v.ownBlock=some g):Ty w g t:=by
 obtain ⟨_,⟨rfl,_⟩ | ⟨g',cap,cur,rfl,_,hb,_⟩⟩:=h
 ·cases hg
 ·cases hg;exact ⟨_,hb⟩
variable {h:HP}{sr:Int}{m:MD}{w w':World}
theorem HAt.tq (H:HAt h sr m w):Ty w h.q 88:=⟨_,H.hq⟩
theorem HAt.tp (H:HAt h sr m w):Ty w h.p 84:=⟨_,H.mb⟩
theorem HAt.tW (H:HAt h sr m w):Ty w h.bW 81:=by obtain ⟨r,hb⟩:=H.hW;exact ⟨_,hb⟩
theorem HAt.tC (H:HAt h sr m w):Ty w h.bC 4:=by obtain ⟨r,hb⟩:=H.hC;exact ⟨_,hb⟩
theorem HAt.lt (H:HAt h sr m w) {k:Nat} (hk:h.own k):k<w.heap.size:=by
 rcases hk with rfl | rfl | rfl | rfl | hk | hk | hk
 ·exact H.tq.lt
 ·exact H.tp.lt
 ·exact H.tW.lt
 ·exact H.tC.lt
 ·exact (Z4i H.R hk).lt
 ·exact (Z25 H.K hk).lt
 ·exact (Z25 H.I hk).lt
theorem HAt.col (H:HAt h sr m w):ColAt h.p h.bW h.bC h.cW h.cC m h.vR h.vK h.vI w:=
 ⟨H.mb,H.hW,H.hC,H.cap,H.capC,Z78 H.R,Z78 (Z20.of_own H.K).1,(Z20.of_own H.I).1⟩
theorem HAt.aside {X:Nat->Prop} (H:HAt h sr m w) (ha:Aside X w w') (hx:∀ k,h.own k -> ¬ X k):HAt h sr m w':=
 ⟨(ha.block _ H.tq.lt (hx _ (.inl rfl))).trans H.hq,(ha.block _ H.tp.lt (hx _ (.inr (.inl rfl)))).trans H.mb,H.hW.aside ha (hx _ (.inr (.inr (.inl rfl)))),H.hC.aside ha (hx _ (.inr (.inr (.inr (.inl rfl))))),H.cap,H.capC,
  H.R.aside ha (fun g hg=>hx g (.inr (.inr (.inr (.inr (.inl hg)))))),Z04 H.K (fun k hk=>ha.block k (Z08 H.K k hk).2 (hx k (.inr (.inr (.inr (.inr (.inr (.inl hk)))))))),Z04 H.I (fun k hk=>ha.block k (Z08 H.I k hk).2 (hx k (.inr (.inr (.inr (.inr (.inr (.inr hk)))))))),H.rk,H.rb,H.kb⟩
theorem HAt.below (H:HAt h sr m w) (hb:Below w.heap.size w w'):HAt h sr m w':=H.aside (X:=fun _=>False) (Aside.of_below hb) (fun _ _ h=>h)
structure Nxt (h h':HP) (w w':World):Prop where
 q:h'.q=h.q
 tn:h'.tn=h.tn
 own:∀ k,h'.own k->h.own k\/w.heap.size<=k
 aside:Aside h.own w w'
theorem Nxt.refl (h:HP) (w:World):Nxt h h w w:=⟨rfl,rfl,fun _ hk=>.inl hk,Aside.refl _ _⟩
theorem Nxt.of_below (h:HP) {w w':World} (hb:Below w.heap.size w w'):Nxt h h w w':=⟨rfl,rfl,fun _ hk=>.inl hk,Aside.of_below hb⟩
theorem Nxt.trans {h h' h'':HP}{w w' w'':World} (a:Nxt h h' w w') (b:Nxt h' h'' w' w''):Nxt h h'' w w'' where
 q:=b.q.trans a.q
 tn:=b.tn.trans a.tn
 own k hk:=by
  rcases b.own k hk with hk | hk
  ·exact a.own k hk
  ·exact .inr (U0n a.aside.size hk)
 aside:=a.aside.join b.aside (fun k hk hx=>(a.own k hx).resolve_right (by omega))
theorem Nxt.set {h h':HP}{w w':World} (a:Nxt h h' w w') {b o:Nat}{v:Value} (hb:h.own b\/w.heap.size<=b):Nxt h h' w (w'.setCell ⟨b,o,none⟩ v) where
 q:=a.q
 tn:=a.tn
 own:=a.own
 aside:=by
  rcases hb with hb | hb
  ·exact a.aside.setCell hb v
  ·exact ⟨a.aside.os,a.aside.tape,a.aside.output,by simp [World.setCell];exact a.aside.size,fun k hk hx=>(Z0a _ _ _ _ _ (by omega)).trans (a.aside.block k hk hx)⟩
theorem Nxt.below {h h':HP}{w w' w'':World} (a:Nxt h h' w w') (hb:Below w'.heap.size w' w''):Nxt h h' w w'':=a.trans (Nxt.of_below h' hb)
theorem HAt.root (H:HAt h sr m w) {r:Nat} (hr:r<m.R.length):∃ b cap,h.vR = .slice (some ⟨b,0,none⟩) m.R.length cap/\Z1n h.vR b/\m.R.length<=cap/\w.cell? ⟨b,r,none⟩=some (.int .u64 (m.R.getD r 0))/\w.frozen? ⟨b,r,none⟩=false /\
  ∀ x:Int,HAt h sr { m with R:=m.R.set r x } (w.setCell ⟨b,r,none⟩ (.int .u64 x)):=by
 obtain ⟨ao,cap,e,hc,hl,hf⟩:=H.R
 obtain ⟨b,rfl,hb⟩:=hf (by omega)
 have hi:Z1n h.vR b:=⟨0,_,_,by omega,e⟩
 have hrv:(Z05 m.R)[r]?=some (.int .u64 (m.R.getD r 0)):=by
  unfold Z05
  rw [U0g,U03 hr,U07,U03 hr]
  rfl
 have tb:=Z4i H.R hi
 refine ⟨b,cap,e,hi,hc,hb.cell hrv,hb.frozen r,fun x => ?_⟩
 have hs:=hb.set (j:=r) (by rw [Z3y];exact hr) (.int .u64 x)
 have hq:=H.tq.ne tb (by decide)
 have hp:=H.tp.ne tb (by decide)
 have hC:=H.tC.ne tb (by decide)
 refine ⟨(Z0a _ _ _ _ _ hq).trans H.hq,?_,H.hW.same (Z0a _ _ _ _ _ (fun e=>H.rb b hi e.symm)),H.hC.same (Z0a _ _ _ _ _ hC),H.cap,H.capC,?_,?_,?_,H.rk,H.rb,H.kb⟩
 ·exact (Z0a _ _ _ _ _ hp).trans H.mb
 ·show Z20 _ _ _ (m.R.set r x).length (Z05 (m.R.set r x)) _
  rw [U0t,<-Z23]
  exact ⟨_,cap,e,hc,by rw [U0t];exact hl,fun _=>⟨b,rfl,hs⟩⟩
 ·exact Z04 H.K (fun k hk=>Z0a _ _ _ _ _ (fun e=>H.rk b hi (by rw [hk,e])))
 ·exact Z04 H.I (fun k hk=>Z0a _ _ _ _ _ ((Z25 H.I hk).ne tb (by decide)))
theorem HAt.mem (H:HAt h sr m w) {o:Nat}{v:Value}{h':HP}{n:MD} (e1:h'.q=h.q/\h'.p=h.p/\h'.bW=h.bW/\h'.bC=h.bC/\h'.cW=h.cW/\h'.cC=h.cC/\h'.tn=h.tn) (eR:h'.vR=h.vR) (eW:n.W=m.W) (eC:n.C=m.C) (eN:n.R=m.R)
  (hm:MB h.p n.half n.old n.card n.used n.top n.oldTop (.slice (some ⟨h.bW,0,none⟩) m.W.length h.cW) h.vR h'.vK h'.vI (.slice (some ⟨h.bC,0,none⟩) m.C.length h.cC) (w.setCell ⟨h.p,o,none⟩ v))
  (hK:w.ownsRow 0 81 1 h'.vK n.K.length (Z05 n.K)) (hI:w.ownsRow 0 123 2 h'.vI n.I.length (Z2e n.I)) (rk:∀ g,Z1n h.vR g->h'.vK.ownBlock≠some g) (kb:h'.vK.ownBlock≠some h.bW):HAt h' sr n (w.setCell ⟨h.p,o,none⟩ v):=by
 obtain ⟨q1,q2,q3,q4,q5,q6,q7⟩:=e1
 have hp:=H.tp
 refine ⟨?_,?_,?_,?_,?_,?_,?_,?_,?_,?_,?_,?_⟩
 ·rw [q1,q2,q7];exact (Z0a _ _ _ _ _ (H.tq.ne hp (by decide))).trans H.hq
 ·rw [q2,q3,q4,q5,q6,eR,eW,eC];exact hm
 ·rw [q3,eW];exact H.hW.same (Z0a _ _ _ _ _ (H.tW.ne hp (by decide)))
 ·rw [q4,eC];exact H.hC.same (Z0a _ _ _ _ _ (H.tC.ne hp (by decide)))
 ·rw [eW,q5];exact H.cap
 ·rw [eC,q6];exact H.capC
 ·rw [eR,eN]
  exact H.R.aside ((Aside.refl (fun k=>k=h.p) w).setCell (g:=h.p) rfl v) (fun g hg e=>(Z4i H.R hg).ne hp (by decide) e)
 ·exact Z04 hK (fun k hk=>Z0a _ _ _ _ _ ((Z25 hK hk).ne hp (by decide)))
 ·exact Z04 hI (fun k hk=>Z0a _ _ _ _ _ ((Z25 hI hk).ne hp (by decide)))
 ·rw [eR];exact rk
 ·rw [eR,q3];exact H.rb
 ·rw [q3];exact kb
theorem HAt.setTop (H:HAt h sr m w) (x:Int):HAt h sr { m with top:=x } (w.setCell ⟨h.p,5,none⟩ (.int .i64 x)):=
 H.mem (h':=h) (n:={ m with top:=x }) ⟨rfl,rfl,rfl,rfl,rfl,rfl,rfl⟩ rfl rfl rfl rfl (Z06 H.mb) H.K H.I H.rk H.kb
theorem HAt.setOld (H:HAt h sr m w) (x:Int):HAt h sr { m with oldTop:=x } (w.setCell ⟨h.p,6,none⟩ (.int .i64 x)):=
 H.mem (h':=h) (n:={ m with oldTop:=x }) ⟨rfl,rfl,rfl,rfl,rfl,rfl,rfl⟩ rfl rfl rfl rfl (Z06 H.mb) H.K H.I H.rk H.kb
theorem HAt.words (H:HAt h sr m w) {W':List Int} (hl:W'.length=m.W.length) (ha:Aside (· = h.bW) w w') (hb:Blk h.bW 81 (Z05 W') w'):HAt h sr { m with W:=W' } w':=by
 have tW:=H.tW
 refine ⟨(ha.block _ H.tq.lt (H.tq.ne tW (by decide))).trans H.hq,?_,hb,H.hC.aside ha (H.tC.ne tW (by decide)),by show W'.length<=_;rw [hl];exact H.cap,H.capC,H.R.aside ha (fun g hg=>H.rb g hg),?_,?_,H.rk,H.rb,H.kb⟩
 ·show MB _ _ _ _ _ _ _ (.slice _ W'.length _) _ _ _ _ _
  rw [hl];exact (ha.block _ H.tp.lt (H.tp.ne tW (by decide))).trans H.mb
 ·exact Z04 H.K (fun k hk=>ha.block k (Z08 H.K k hk).2 (fun e=>H.kb (by rw [hk,show k=h.bW from e])))
 ·exact Z04 H.I (fun k hk=>ha.block k (Z08 H.I k hk).2 ((Z25 H.I hk).ne tW (by decide)))
theorem HAt.setSerial (H:HAt h sr m w) (x:Int):HAt h x m (w.setCell ⟨h.q,2,none⟩ (.int .i64 x)):=by
 have tq:=H.tq
 have ha:Aside (fun k=>k=h.q) w (w.setCell ⟨h.q,2,none⟩ (.int .i64 x)):=(Aside.refl (fun k=>k=h.q) w).setCell (g:=h.q) rfl _
 exact ⟨Z06 H.hq,(ha.block _ H.tp.lt (H.tp.ne tq (by decide))).trans H.mb,H.hW.aside ha (H.tW.ne tq (by decide)),H.hC.aside ha (H.tC.ne tq (by decide)),H.cap,H.capC,H.R.aside ha (fun g hg=>(Z4i H.R hg).ne tq (by decide)),
  Z04 H.K (fun k hk=>ha.block k (Z08 H.K k hk).2 ((Z25 H.K hk).ne tq (by decide))),Z04 H.I (fun k hk=>ha.block k (Z08 H.I k hk).2 ((Z25 H.I hk).ne tq (by decide))),H.rk,H.rb,H.kb⟩
theorem HAt.collected {n:MD}{vR vK vI:Value} (H:HAt h sr m w) (C:ColAt h.p h.bW h.bC h.cW h.cC n vR vK vI w') (hN:RowsN w.heap.size n vR vK vI w') (ha:Aside (Z7g h.p h.bW h.bC) w w'):HAt { h with vR:=vR,vK:=vK,vI:=vI } sr n w'/\Nxt h { h with vR:=vR,vK:=vK,vI:=vI } w w':=by
 have lW:=H.tW.lt
 have own0:∀ {t:TypeId}{j k:Nat}{v:Value}{xs:List Value},w'.ownsRow w.heap.size t j v k xs->w'.ownsRow 0 t j v k xs:=fun h=>⟨h.1,by rcases h.2 with h | ⟨g,cap,cur,e1,e2,e3⟩;exact .inl h;exact .inr ⟨g,cap,cur,e1,U0x _,e3⟩⟩
 refine ⟨⟨(ha.block _ H.tq.lt (fun e => ?_)).trans H.hq,C.mb,C.hW,C.hC,C.cap,C.capC,hN.R,own0 hN.K,own0 hN.I,hN.rk,fun g hg e => ?_,fun e => ?_⟩,rfl,rfl,fun k hk => ?_,ha.mono (fun k hk => ?_)⟩
 ·rcases e with e | e | e
  ·exact H.tq.ne H.tp (by decide) e
  ·exact H.tq.ne H.tW (by decide) e
  ·exact H.tq.ne H.tC (by decide) e
 ·have:=hN.Rn g hg
  have e:g=h.bW:=e
  omega
 ·have:=(Z08 hN.K _ e).1
  have lW:h.bW<w.heap.size:=lW
  have this:w.heap.size<=h.bW:=this
  omega
 ·rcases hk with hk | hk | hk | hk | hk | hk | hk
  ·exact .inl (.inl hk)
  ·exact .inl (.inr (.inl hk))
  ·exact .inl (.inr (.inr (.inl hk)))
  ·exact .inl (.inr (.inr (.inr (.inl hk))))
  ·exact .inr (hN.Rn k hk)
  ·exact .inr (Z08 hN.K k hk).1
  ·exact .inr (Z08 hN.I k hk).1
 ·rcases hk with hk | hk | hk
  ·exact .inr (.inl hk)
  ·exact .inr (.inr (.inl hk))
  ·exact .inr (.inr (.inr (.inl hk)))
structure Dim (m n:MD):Prop where
 half:n.half=m.half
 old:n.old=m.old
 card:n.card=m.card
theorem Dim.refl (m:MD):Dim m m:=⟨rfl,rfl,rfl⟩
theorem Dim.trans {m n k:MD} (a:Dim m n) (b:Dim n k):Dim m k:=⟨b.half.trans a.half,b.old.trans a.old,b.card.trans a.card⟩
structure HS (a:Nat->Addr) (w0:World) (h:HP) (sr:Int) (m:MD) (M:MO) (X:MXtra) (w:World):Prop where
 at':HAt h sr m w
 hm:HM m sr M X
 env:HEnv a w0
 base:Below w0.heap.size w0 w
 own:∀ k,h.own k->w0.heap.size<=k
 t0:0<=h.tn
 t1:h.tn<=15
 kl:X.K.length<=5000
 rl:M.R.length<=5000
variable {a:Nat->Addr}{w0:World}{M:MO}{X:MXtra}
theorem HS.benv (s:HS a w0 h sr m M X w):HEnv a w:=s.env.below s.base
theorem HS.ab (s:HS a w0 h sr m M X w) {w':World} (ha:Aside h.own w w'):Below w0.heap.size w0 w':=s.base.trans (ha.below s.base.size (fun k hk hx=>by have:=s.own k hx;omega))
theorem HS.aenv (s:HS a w0 h sr m M X w) {w':World} (ha:Aside h.own w w'):HEnv a w':=s.env.below (s.ab ha)
theorem HS.next (s:HS a w0 h sr m M X w) {h':HP}{sr':Int}{n:MD}{M':MO}{X':MXtra} (N:Nxt h h' w w') (H:HAt h' sr' n w') (hm:HM n sr' M' X') (kl:X'.K.length<=5000) (rl:M'.R.length<=5000):HS a w0 h' sr' n M' X' w':=
 ⟨H,hm,s.env,s.ab N.aside,fun k hk=>by
  rcases N.own k hk with h1 | h1
  ·exact s.own k h1
  ·exact U0n s.base.size h1,by rw [N.tn];exact s.t0,by rw [N.tn];exact s.t1,kl,rl⟩
theorem HS.below (s:HS a w0 h sr m M X w) (hb:Below w.heap.size w w'):HS a w0 h sr m M X w':=s.next (Nxt.of_below h hb) (s.at'.below hb) s.hm s.kl s.rl
def Stp (a:Nat->Addr) (w0:World) (h:HP) (m:MD) (M:MO) (X:MXtra) (w w':World):Prop:=∃ h' sr' n,Nxt h h' w w'/\Dim m n/\HS a w0 h' sr' n M X w'
end
section
open Go.Maps
variable {h:HP}{sr:Int}{m:MD}{w w':World}{a:Nat->Addr}{w0:World}{M:MO}{X:MXtra}
theorem Zez {vs:List Nat} (S:m.Shape vs):m.I.length<=300000:=by
 have hI:=(S.rest').2.2
 have hn:(m.I.map fun x=>(x.1 / 4 - 1).toNat).Nodup:=by
  unfold List.Nodup
  rw [U3s,U1y]
  intro i j hi hj hij he
  have p1:=Z8r hI m.I[i] (U1w hi)
  have p2:=Z8r hI m.I[j] (U1w hj)
  unfold Z2y at p1 p2
  rw [U0i] at p1 p2
  have q1:=U0j p1.1
  have q2:=U0j p2.1
  have e:m.I[i].1=m.I[j].1:=by omega
  have hg:=hI
  unfold Z6j at hg
  rw [U0m] at hg
  have g:=hg j (U0u.2 hj)
  unfold idB at g
  rw [U03 hj] at g
  simp only [U0i,U1x] at g
  have h3:=g.2.2.1
  rw [U1g,U03 hj,U1b,U23] at h3
  have h4:m.I[j].1∈(m.I.take j).map (·.1):=by
   rw [<-e]
   exact U0l.2 ⟨m.I[i],U0a (i:=i) (by rw [U1j,U09 hij,U03 hi]),rfl⟩
  have h5:=U4c.2 h4
  have h6:(List.map (fun x:Int × Int=>x.1) (some m.I[j]).toList).count m.I[j].1=1:=by simp
  omega
 have hl:=Z55 _ vs hn (fun f hf=>by
  obtain ⟨x,hx,rfl⟩:=U0l.1 hf
  have p:=Z8r hI x hx
  unfold Z2y at p
  rw [U0i,U0i] at p
  exact U0j p.2.2)
 rw [U0v] at hl
 exact U0n hl S.few
structure Right (m:MD) (l1 l2:List Nat):Prop where
 S:m.Shape (l1++l2)
 C:m.cardsB=true
 h64:MD64 m
 w1:Z09 m.F (G0 m.F) (m.n1 - m.n0) m.n0 m.n1=some l1
 w2:Z09 m.F (G0 m.F) (m.m1 - m.m0) m.m0 m.m1=some l2
theorem HM.right (hm:HM m sr M X):∃ l1 l2,Right m l1 l2:=by
 obtain ⟨vs,S,C,h64⟩:=hm.shape
 obtain ⟨l1,l2,rfl,w1,w2⟩:=S.bare
 exact ⟨l1,l2,S,C,h64,w1,w2⟩
theorem HM.weaks (hm:HM m sr M X):m.K.length=X.K.length:=by
 obtain ⟨vs,S,φ,hr,hw⟩:=hm
 exact hw.klen
theorem HM.serials (hm:HM m sr M X):sr=X.next/\0<=X.next:=by
 obtain ⟨vs,S,φ,hr,hw⟩:=hm
 exact ⟨hw.next,hw.n0⟩
theorem HM.majorW {n:MD}{us l1 l2:List Nat}{S':Nat->Prop}{ψ:Nat->Nat} (hm:HM m sr M X) (Sm:m.Shape (l1++l2)) (D:JDone m n l1 l2 us S' ψ) {j i:Nat} (hj:X.K[j]?=some i) (hi:i ∉ M.all):n.K.getD j 0=2:=by
 obtain ⟨vs,S,φ,hr,hw⟩:=hm
 obtain rfl:=Sm.one hr.shape
 have hjl:j<m.K.length:=by rw [hw.klen];exact (U0e.1 hj).1
 have K:=D.C.weak j hjl
 rcases hw.weak j i hj with ⟨hs,e⟩ | ⟨_,e⟩
 ·have hp:=Za0 (φ:=φ) (hr.rel.few _ hs)
  rcases K with ⟨k1,_⟩ | ⟨_,_,k2⟩
  ·exfalso
   have h0:=k1 (by rw [e];omega)
   rw [e,hp] at h0
   have h1:=(D.led _).1 h0
   rw [show ((φ i:Nat):Int).toNat=φ i by omega] at h1
   exact hi (hr.mem hs h1)
  ·exact k2
 ·rcases K with ⟨_,k2⟩ | ⟨k1,_,_⟩
  ·rw [k2,e];rfl
  ·rw [e] at k1
   exact absurd k1 (by decide)
theorem HEnv.five {a:Nat->Addr}{w:World} (h:HEnv a w):MErr a w:=⟨h.errs.c1,h.errs.c2,h.errs.c4,h.errs.c5⟩
theorem Zh2 (ha:Aside (Z7g h.p h.bW h.bC) w w'):Aside h.own w w':=ha.mono (fun k hk=>by
 rcases hk with hk | hk | hk
 ·exact .inr (.inl hk)
 ·exact .inr (.inr (.inl hk))
 ·exact .inr (.inr (.inr (.inl hk))))
theorem Zbe (s:HS a w0 h sr m M X w):Calls prog 116 #[.pointer (some ⟨h.p,0,none⟩),.int .i64 h.tn] w fun ev w' =>
  (ev = .returned (Z0p a 5)/\Below w.heap.size w w')\/(ev = .returned .nilIface/\Stp a w0 h m M X w w'/\Aside (Z7g h.p h.bW h.bC) w w'):=by
 obtain ⟨l1,l2,rt⟩:=s.hm.right
 have hR:=s.hm.roots
 have hK:=s.hm.weaks
 have hrl:=s.rl
 have hkl:=s.kl
 have t0:=s.t0
 have t1:=s.t1
 refine (Zd4 a h.p h.bW h.bC h.cW h.cC m h.vR h.vK h.vI l1 l2 h.tn w s.at'.col rt.S rt.C rt.h64 rt.w1 rt.w2 (by omega) (by omega) (Zez rt.S) (by omega) (fun w' ha=>(s.aenv (Zh2 ha)).five)).mono ?_
 rintro ev w' (⟨hn,_⟩ | ⟨_,_,rfl,hb⟩ | ⟨_,_,rfl,e,n,us,S,ψ,vR,vK,vI,_,hC,hc,_,ha,hN⟩)
 ·exact absurd ⟨t0,t1⟩ hn
 ·exact .inl ⟨rfl,hb⟩
 ·refine .inr ⟨rfl,?_,ha⟩
  obtain ⟨H',N'⟩:=s.at'.collected hC hN ha
  exact ⟨_,sr,n,N',⟨hc.half,hc.hold,hc.card⟩,s.next N' H' (s.hm.minor rt.S hc) s.kl s.rl⟩
theorem Zjm (s:HS a w0 h sr m M X w):Calls prog 117 #[.pointer (some ⟨h.p,0,none⟩)] w fun ev w' =>
  (ev = .returned (Z0p a 5)/\Below w.heap.size w w'/\m.old<(M.words:Int))\/(ev = .returned .nilIface /\ ∃ h' sr' n,Nxt h h' w w'/\Dim m n/\HS a w0 h' sr' n M X w'/\n.top=0/\n.oldTop=(M.words:Int) /\ ∀ j i,X.K[j]?=some i->i ∉ M.all->n.K.getD j 0=2):=by
 obtain ⟨l1,l2,rt⟩:=s.hm.right
 have hR:=s.hm.roots
 have hK:=s.hm.weaks
 have hrl:=s.rl
 have hkl:=s.kl
 have hl:=s.hm.live rt.S
 refine (Zdn a h.p h.bW h.bC h.cW h.cC m h.vR h.vK h.vI l1 l2 w s.at'.col rt.S rt.C rt.h64 rt.w1 rt.w2 (by omega) (by omega) (Zez rt.S) (fun w' ha=>(s.aenv (Zh2 ha)).five)).mono ?_
 rintro ev w' (⟨hn,rfl,hb⟩ | ⟨_,rfl,P,φ,hX,hP,vR,vK,vI,hC,ha,hN⟩)
 ·refine .inl ⟨rfl,hb,?_⟩
  have hw:=rt.S.1.w
  have hm0:=(MD.parts rt.S.1).m0
  rw [hl] at hn
  omega
 ·refine .inr ⟨rfl,?_⟩
  obtain ⟨H',N'⟩:=s.at'.collected hC hN ha
  have D:=Zpf rt.S rt.h64 hX hP
  obtain ⟨g1,g2,g3⟩:=s.hm.major rt.S D
  exact ⟨_,sr,_,N',⟨D.C.half,D.C.hold,D.C.card⟩,s.next N' H' g1 s.kl s.rl,g2,g3,fun j i hj hi=>s.hm.majorW rt.S D hj hi⟩
end
section
open Go.Maps
def lyW (W:List Int) (t:Nat) (hd:Int) (fs:List Int):List Int:=W.take t++(hd::fs)++W.drop (t+1+fs.length)
theorem Zlw {W:List Int}{t:Nat}{hd:Int}{fs:List Int} (h:t+1+fs.length<=W.length):(lyW W t hd fs).length=W.length:=by
 unfold lyW
 simp only [U0f,U1k,U1e,U29]
 omega
theorem Zsc {W:List Int}{t:Nat}{hd:Int}{fs:List Int} (h:t+1+fs.length<=W.length) (i:Nat):(lyW W t hd fs)[i]?=if i<t then W[i]? else if i=t then some hd else if i<t+1+fs.length then fs[i - t - 1]? else W[i]?:=by
 unfold lyW
 have l1:(W.take t).length=t:=by rw [U1k];omega
 by_cases c1:i<t
 ·rw [U09 c1,U0y,U10 (by omega),U1j,U09 c1]
 ·rw [U08 c1,U0y,U12 (by omega),l1]
  by_cases c2:i=t
  ·rw [U09 c2,c2,U28]
   rfl
  ·rw [U08 c2]
   obtain ⟨j,rfl⟩:∃ j,i=t+1+j:=⟨i - t - 1,by omega⟩
   have e1:t+1+j - t=j+1:=by omega
   have e2:t+1+j - t - 1=j:=by omega
   rw [e2,e1,U5f,List.getElem?_cons_succ]
   by_cases c3:j<fs.length
   ·rw [U09 (by omega),U10 c3]
   ·rw [U08 (by omega),U12 (by omega),U2o]
    congr 1
    omega
def hdN (kd:Int) (s:Nat):Int:=(s:Int)*65536+kd*4+3
theorem Zjv {kd:Int}{s:Nat} (k0:0<=kd) (k1:kd<=255) (hs:s<=4096):hdN kd s % 4=3/\hdN kd s / 4 % 256=kd/\hdN kd s / 1024 % 16=0/\hdN kd s / 16384 % 2=0/\hdN kd s / 32768 % 2=0/\hdN kd s / 65536=(s:Int)/\0<=hdN kd s/\hdN kd s<18446744073709551616:=by
 unfold hdN
 omega
def Zqn (k:MD) (y:Bool) (n:Nat):MD:={ k with top:=if y then k.top+(n:Int) else k.top,oldTop:=if y then k.oldTop else k.oldTop+(n:Int) }
variable {m:MD}{l1 l2:List Nat}
theorem Zs4 (rt:Right m l1 l2) {kd:Int}{fs:List Int} (y:Bool) (k0:0<=kd) (k1:kd<=255) (hs:fs.length<=4096) (hu:U64 fs) (hf:¬ kd<8 -> ∀ x∈fs,Z0b m.W.length (fun _=>false) x=true)
  (hr:if y then m.top+((1+fs.length:Nat):Int)<=m.half else m.oldTop+((1+fs.length:Nat):Int)<=m.old) :
  ∃ t n,t=(if y then m.n1 else m.m1)/\t+1+fs.length<=m.W.length/\n = { Zqn m y (1+fs.length) with W:=lyW m.W t (hdN kd fs.length) fs } /\
   Laid m n t fs.length y/\MD64 n/\n.F t / 4 % 256=kd/\Z07 n.F t=fs:=by
 obtain ⟨h1,h2,h3,h4,h5,h6,h7,h8⟩:=Zjv k0 k1 hs
 have P:=MD.parts rt.S.1
 have hn:=rt.S.1.nums
 unfold Z0c at hn
 have hu0:=rt.S.1.u0
 have hu1:=rt.S.1.u1
 have ht0:=rt.S.1.t0
 have ht1:=rt.S.1.t1
 have ho0:=rt.S.1.o0
 have ho1:=rt.S.1.o1
 have hw:=rt.S.1.w
 have p0:=P.n0
 have p1:=P.n1
 have p2:=P.m0
 have p3:=P.m1
 obtain ⟨t,ht⟩:∃ t,t=(if y then m.n1 else m.m1):=⟨_,rfl⟩
 have hfit:t+1+fs.length<=m.W.length:=by
  have hus:m.used=0\/m.used=1:=by omega
  cases y with
  | true =>
   simp only [if_true] at ht hr
   rcases hus with e | e <;> (rw [e] at p1;omega)
  | false =>
   simp only [U36,if_false] at ht hr
   omega
 obtain ⟨n,hnn⟩:∃ n:MD,n = { Zqn m y (1+fs.length) with W:=lyW m.W t (hdN kd fs.length) fs }:=⟨_,rfl⟩
 have hF:∀ i,n.F i=if i<t then m.F i else if i=t then hdN kd fs.length else if i<t+1+fs.length then fs.getD (i - t - 1) 0 else m.F i:=fun i=>by
  unfold MD.F
  rw [hnn]
  show (lyW m.W t (hdN kd fs.length) fs).getD i 0=_
  rw [U07,Zsc hfit]
  simp only [U07]
  split
  ·rfl
  ·split
   ·rfl
   ·split <;> rfl
 have hFt:n.F t=hdN kd fs.length:=by rw [hF,U08 (by omega),U09 rfl]
 have hFk:∀ k,k<fs.length->n.F (t+1+k)=fs.getD k 0:=fun k hk=>by
  rw [hF,U08 (by omega),U08 (by omega),U09 (by omega),show t+1+k - t - 1=k by omega]
 have hsz:szN (n.F t)=fs.length:=by
  unfold szN
  rw [hFt,h6]
  omega
 have hfl:Z07 n.F t=fs:=by
  unfold Z07
  rw [hsz]
  apply U24
  intro i
  rw [U0g]
  by_cases hi:i<fs.length
  ·rw [U1u hi,U48,hFk i hi,U07,U03 hi]
   rfl
  ·rw [U14 (by simpa using hi),U14 (by simpa using hi)]
   rfl
 have e1:m.top+((1+fs.length:Nat):Int)=m.top+1+(fs.length:Int):=by omega
 have e2:m.oldTop+((1+fs.length:Nat):Int)=m.oldTop+1+(fs.length:Int):=by omega
 refine ⟨t,n,ht,hfit,hnn,?_,?_,by rw [hFt];exact h2,hfl⟩
 ·refine ⟨by rw [hnn];rfl,by rw [hnn];rfl,by rw [hnn];rfl,by rw [hnn];rfl,by rw [hnn];rfl,by rw [hnn];rfl,by rw [hnn];rfl,by rw [hnn];rfl,?_,by rw [hnn,<-e1];rfl,by rw [hnn,<-e2];rfl,ht,by rw [<-e1,<-e2];exact hr,fun i hi => ?_,?_,hsz,by rw [hFt];exact h4,by rw [hFt];exact h3,fun hk k hkl => ?_⟩
  ·rw [hnn];exact Zlw hfit
  ·rw [hF]
   rcases hi with hi | hi
   ·rw [U09 hi]
   ·rw [U08 (by omega),U08 (by omega),U08 (by omega)]
  ·unfold Z0t
   rw [hFt,h6]
   exact U0d ⟨h1,h5,by omega⟩
  ·rw [hFt,h2] at hk
   rw [hFk k hkl,U07,U03 hkl]
   exact hf hk _ (U1w hkl)
 ·obtain ⟨a1,a2,a3,a4⟩:=rt.h64
  refine ⟨fun x hx => ?_,by rw [hnn];exact a2,by rw [hnn];exact a3,by rw [hnn];exact a4⟩
  rw [hnn] at hx
  have hx:x∈lyW m.W t (hdN kd fs.length) fs:=hx
  unfold lyW at hx
  rcases U0c.1 hx with hx | hx
  ·rcases U0c.1 hx with hx | hx
   ·exact a1 x (U4v hx)
   ·rcases U19.1 hx with rfl | hx
    ·exact ⟨h7,h8⟩
    ·exact hu x hx
  ·exact a1 x (U4w hx)
end
section
open Go.Maps
variable {h:HP}{sr:Int}{m n:MD}{w w':World}{a:Nat->Addr}{w0:World}{M:MO}{X:MXtra}
theorem Zep (g:Nat->Nat):∀ (l l':List Nat),l.Nodup->(∀ x∈l,x∈l')->(l.map g).sum<=(l'.map g).sum
 | [],l',_,_=>by simp
 | x::l,l',hn,hs=>by
  have hx:=hs x (by simp)
  have hp:=List.perm_cons_erase hx
  obtain ⟨h1,h2⟩:=U2r.1 hn
  have ih:=Zep g l (l'.erase x) h2 (fun y hy=>(U4u (fun e=>h1 (by rw [<-e];exact hy))).2 (hs y (by simp [hy])))
  have hsum:=(hp.map g).sum_nat
  rw [hsum,U1f,U1f,U32,U32]
  omega
def ndW (d:ND):Nat:=1+(if d.kind<8 then d.raw.length else d.f.length)
def MO.total (M:MO):Nat:=(M.N.map ndW).sum
theorem HM.all (hm:HM m sr M X):M.all.Nodup/\(∀ i∈M.all,i<M.N.length)/\(∀ c∈M.R,c.kind=4->c.ref∈M.all) /\ ∀ i∈M.all,∀ d,M.N[i]?=some d -> ¬ d.kind<8 -> ∀ c∈d.f,c.kind=4->c.ref∈M.all:=by
 obtain ⟨vs,S,φ,hr,hw⟩:=hm
 obtain ⟨e,s,hn⟩:=hr.all
 obtain ⟨k1,k2⟩:=hr.closed
 exact ⟨hn,fun i hi=>hr.inN i (s i hi),k1,k2⟩
theorem Zca (M:MO):M.words=(M.all.map fun i=>match M.N[i]? with
 | some d=>ndW d
 | none=>0).sum:=rfl
theorem HM.few (hm:HM m sr M X):M.words<=M.total:=by
 obtain ⟨h1,h2,_⟩:=hm.all
 have hs:=Zep (fun i=>match M.N[i]? with | some d=>ndW d | none=>0) M.all (List.range M.N.length) h1 (fun i hi=>U0u.2 (h2 i hi))
 rw [Zca]
 refine U0n hs (U31 ?_)
 unfold MO.total
 congr 1
 apply U24
 intro i
 rw [U0g,U0g]
 by_cases hi:i<M.N.length
 ·rw [U1u hi,U03 hi]
  show some (match M.N[i]? with | some d=>ndW d | none=>0)=_
  rw [U03 hi]
  rfl
 ·rw [U14 (by simpa using hi),U14 (by simpa using hi)]
  rfl
theorem Zkk (h:∀ c∈M.R,c.kind≠4):M.all = []:=by
 have hm:∀ l:List CL,(∀ c∈l,c.kind≠4)->Z2q [] l = []:=fun l hl=>by
  induction l with
  | nil=>rfl
  | cons c l ih =>
   show Z2q (Z7t [] c) l = []
   have e:Z7t [] c = []:=by unfold Z7t;rw [U08 (fun q=>hl c (by simp) q.1)]
   rw [e]
   exact ih (fun y hy=>hl y (by simp [hy]))
 unfold MO.all MO.reach
 rw [hm M.R h]
 exact Zba (U02 _) _
theorem Zja (h:∀ c∈M.R,c.kind≠4):M.words=0:=by rw [Zca,Zkk h];rfl
theorem HM.whole (hm:HM m sr M X) (h:∀ i,i<M.N.length->i∈M.all):M.words=M.total:=by
 refine Nat.le_antisymm hm.few ?_
 have hs:=Zep (fun i=>match M.N[i]? with | some d=>ndW d | none=>0) (List.range M.N.length) M.all List.nodup_range (fun i hi=>h i (U0u.1 hi))
 rw [Zca]
 refine U0n (U31 ?_) hs
 unfold MO.total
 congr 1
 apply U24
 intro i
 rw [U0g,U0g]
 by_cases hi:i<M.N.length
 ·rw [U1u hi,U03 hi]
  show _=some (match M.N[i]? with | some d=>ndW d | none=>0)
  rw [U03 hi]
  rfl
 ·rw [U14 (by simpa using hi),U14 (by simpa using hi)]
  rfl
def MO.new (k:Nat):MO:=⟨List.replicate k ⟨0,0,0⟩,[]⟩
def MXtra.new:MXtra:=⟨[],fun _=>0,0⟩
theorem newHM {half old card:Int}{nW nC k:Nat} (hn:Z0c half old card) (hW:(nW:Int)=2*half+old) (hC:(nC:Int)=(old+card - 1) / card):HM (Z9j half old card nW nC k) 0 (MO.new k) MXtra.new:=
 ⟨[],_,_,HRel.new (Zih (n:=k) hn hW hC) (Zi1 half old card nW nC k) (Zrr half old card nW nC k) rfl,WRel.new rfl rfl⟩
end
section
open Go.Maps
variable {h:HP}{sr:Int}{m:MD}{w w':World}{a:Nat->Addr}{w0:World}{M:MO}{X:MXtra}
theorem HAt.c0 (H:HAt h sr m w):w.cell? ⟨h.q,0,none⟩=some (.pointer (some ⟨h.p,0,none⟩)):=by rw [U06 _ _ _ _ _ _ H.hq];rfl
theorem HAt.c1 (H:HAt h sr m w):w.cell? ⟨h.q,1,none⟩=some (.int .i64 h.tn):=by rw [U06 _ _ _ _ _ _ H.hq];rfl
theorem HAt.c2 (H:HAt h sr m w):w.cell? ⟨h.q,2,none⟩=some (.int .i64 sr):=by rw [U06 _ _ _ _ _ _ H.hq];rfl
theorem HAt.cm (H:HAt h sr m w):MemAt h.p m.half m.old m.card (.slice (some ⟨h.bW,0,none⟩) m.W.length h.cW) m.used m.top m.oldTop h.vR h.vK h.vI (.slice (some ⟨h.bC,0,none⟩) m.C.length h.cC) w:=H.col.mem
theorem HAt.rows (H:HAt h sr m w):(∃ ao cap,h.vR = .slice ao m.R.length cap)/\(∃ ao cap,h.vK = .slice ao m.K.length cap) /\ ∃ ao cap,h.vI = .slice ao m.I.length cap:=by
 obtain ⟨ao,cap,e,_⟩:=H.R
 obtain ⟨a1,c1,e1,_⟩:=(Z20.of_own H.K).1
 obtain ⟨a2,c2,e2,_⟩:=(Z20.of_own H.I).1
 exact ⟨⟨_,_,e⟩,⟨_,_,e1⟩,⟨_,_,e2⟩⟩
theorem HS.nums (s:HS a w0 h sr m M X w):1<=m.half/\m.half<=65536/\1<=m.old/\m.old<=65536/\(m.used=0\/m.used=1)/\0<=m.top/\m.top<=m.half/\0<=m.oldTop/\m.oldTop<=m.old/\(m.W.length:Int)=2*m.half+m.old/\(m.n1:Int)=m.used*m.half+m.top/\(m.m1:Int)=2*m.half+m.oldTop:=by
 obtain ⟨l1,l2,rt⟩:=s.hm.right
 have hn:=rt.S.1.nums
 unfold Z0c at hn
 have P:=MD.parts rt.S.1
 have:=rt.S.1.u0
 have:=rt.S.1.u1
 exact ⟨by omega,by omega,by omega,by omega,by omega,rt.S.1.t0,rt.S.1.t1,rt.S.1.o0,rt.S.1.o1,rt.S.1.w,P.n1,P.m1⟩
theorem HS.rlen (s:HS a w0 h sr m M X w):m.R.length=M.R.length/\m.R.length<=5000:=⟨s.hm.roots,by have:=s.rl;have:=s.hm.roots;omega⟩
theorem Zq3 (q p b n cap r:Nat) (x:Int) (hr:r<n) (w:World) (c0:w.cell? ⟨q,0,none⟩=some (.pointer (some ⟨p,0,none⟩))) (c7:w.cell? ⟨p,7,none⟩=some (.slice (some ⟨b,0,none⟩) n cap)) (cr:w.cell? ⟨b,r,none⟩=some (.int .u64 x)) (hn:n<=5000) :
  Calls prog 73 #[.pointer (some ⟨q,0,none⟩),.int .i64 (r:Int)] w fun ev w'=>ev = .returned (.tuple #[.int .u64 x,.nilIface])/\w'=w:=by
 have k:=Z0z r 0 ((n:Int) - 1) w
 rw [show (decide (0<=(r:Int)) && decide ((r:Int)<=(n:Int) - 1))=true by simp;omega] at k
 have hI:(r:Int)<(n:Int):=by omega
 have hI0:(0:Int)<=(r:Int):=by omega
 go_enter func73,ntmps73
 go_wp2_with fail
 refine k.mono ?_
 clear k
 rintro ev w1 ⟨rfl,rfl⟩
 go_wp2_with fail
 go_ret2
 exact ⟨rfl,rfl⟩
theorem Zpn (a:Nat->Addr) (q p n cap:Nat) (ao:Option Addr) (r:Int) (hr:¬ (0<=r/\r<(n:Int))) (w:World) (c0:w.cell? ⟨q,0,none⟩=some (.pointer (some ⟨p,0,none⟩))) (c7:w.cell? ⟨p,7,none⟩=some (.slice ao n cap)) (hn:n<=5000) (E:MErr a w) :
  Calls prog 73 #[.pointer (some ⟨q,0,none⟩),.int .i64 r] w fun ev w'=>ev = .returned (.tuple #[.int .u64 0,Z0p a 4])/\Below w.heap.size w w':=by
 have k:=Z0z r 0 ((n:Int) - 1) w
 rw [show (decide (0<=r) && decide (r<=(n:Int) - 1))=false by rw [U1m,U0p,U0p];omega] at k
 have k4:=E.c4
 clear E hr
 go_enter func73,ntmps73
 go_wp2_with fail
 refine k.mono ?_
 clear k
 rintro ev w1 ⟨rfl,rfl⟩
 go_wp2_with fail
 go_quiet (fail)
 go_wp2_with fail
 go_ret2
 exact ⟨rfl,Z03 (U01 _ _)⟩
theorem HS.rootOk (s:HS a w0 h sr m M X w) {r:Nat} (hr:r<m.R.length):Calls prog 73 #[.pointer (some ⟨h.q,0,none⟩),.int .i64 (r:Int)] w fun ev w'=>ev = .returned (.tuple #[.int .u64 (m.R.getD r 0),.nilIface])/\w'=w:=by
 obtain ⟨b,cap,e,_,_,cr,_⟩:=s.at'.root hr
 refine Zq3 h.q h.p b m.R.length cap r _ hr w s.at'.c0 ?_ cr s.rlen.2
 rw [s.at'.cm.c7,e]
theorem HS.rootNo (s:HS a w0 h sr m M X w) {r:Int} (hr:¬ (0<=r/\r<(m.R.length:Int))):Calls prog 73 #[.pointer (some ⟨h.q,0,none⟩),.int .i64 r] w fun ev w'=>ev = .returned (.tuple #[.int .u64 0,Z0p a 4])/\Below w.heap.size w w':=by
 obtain ⟨⟨ao,cap,e⟩,_⟩:=s.at'.rows
 refine Zpn a h.q h.p m.R.length cap ao r hr w s.at'.c0 ?_ s.rlen.2 s.benv.five
 rw [s.at'.cm.c7,e]
def Made (a:Nat->Addr) (q r:Nat) (G:Int->HP->Int->MD->World->Prop) (B:Nat->World->Prop) (ev:Ending) (w1:World):Prop:=
 (∃ y h' sr' n,ev = .returned (.tuple #[.int .u64 y,.nilIface])/\HAt h' sr' n w1/\h'.q=q/\r<n.R.length/\G y h' sr' n w1) \/ ∃ k,ev = .returned (.tuple #[.int .u64 0,Z0p a k])/\B k w1
theorem Z1a (s:HS a w0 h sr m M X w) (K:FuncId) (caps:Array Value) (hE:∀ args w,(callFunc K args).run prog w = .ok (.enter K args) w) {r:Nat} (hr:r<m.R.length) (G:Int->HP->Int->MD->World->Prop) (B:Nat->World->Prop)
  (hK:Calls prog K caps w (Made a h.q r G B)) :
  Calls prog 69 #[.pointer (some ⟨h.q,0,none⟩),.int .i64 (r:Int),.func (.func K) #[] caps] w fun ev w' =>
   (∃ y h' sr' n w1,ev = .returned .nilIface/\G y h' sr' n w1/\HAt h' sr' { n with R:=n.R.set r y } w'/\Nxt h' h' w1 w') \/ ∃ k,ev = .returned (Z0p a k)/\B k w':=by
 have k:=s.rootOk hr
 have hI0:(0:Int)<=(r:Int):=by omega
 obtain ⟨q,hq⟩:∃ q,q=h.q:=⟨_,rfl⟩
 rw [<-hq] at hK k ⊢
 obtain ⟨x,hx⟩:∃ x,x=m.R.getD r 0:=⟨_,rfl⟩
 rw [<-hx] at k
 clear s hx hr hq
 go_enter func69,ntmps69
 go_wp2_with fail
 refine k.mono ?_
 clear k
 rintro ev w1 ⟨rfl,rfl⟩
 go_wp2_with fail
 refine hK.mono ?_
 clear hK
 rintro ev w2 (⟨y,h',sr',n,rfl,H,hq,hr,hG⟩ | ⟨k,rfl,hB⟩)
 ·have d0:=H.c0
  rw [hq] at d0
  obtain ⟨b,cap,e,hi,_,cr,fz,hset⟩:=H.root hr
  have d7:=H.cm.c7
  rw [e] at d7
  have hI:(r:Int)<(n.R.length:Int):=by omega
  have HN:Hid (Nxt h' h' w2 (w2.setCell ⟨b,r,none⟩ (.int .u64 y))):=(Nxt.refl h' w2).set (.inl (.inr (.inr (.inr (.inr (.inl hi))))))
  have HS':=Z00 (hset y)
  have HG:=Z00 hG
  clear hset hG H hi e hq hr
  go_wp2_with fail
  go_ret
  exact .inl ⟨y,h',sr',n,w2,rfl,HG.out,HS'.out,HN.out⟩
 ·have HB:=Z00 hB
  clear hB
  unfold Z0p
  go_wp2_with fail
  go_ret
  exact .inr ⟨k,rfl,HB.out⟩
theorem Z3a (s:HS a w0 h sr m M X w) (f:Value) {r:Int} (hr:¬ (0<=r/\r<(m.R.length:Int))) :
  Calls prog 69 #[.pointer (some ⟨h.q,0,none⟩),.int .i64 r,f] w fun ev w'=>ev = .returned (Z0p a 4)/\Below w.heap.size w w':=by
 have k:=s.rootNo hr
 clear s hr
 go_enter func69,ntmps69
 go_wp2_with fail
 refine k.mono ?_
 clear k
 rintro ev w1 ⟨rfl,hb⟩
 have HB:=Z00 hb
 clear hb
 unfold Z0p
 go_wp2_with fail
 go_ret
 exact ⟨rfl,HB.out⟩
theorem Stp.back {w1:World} (hb:Below w.heap.size w w1) (t:Stp a w0 h m M X w1 w'):Stp a w0 h m M X w w':=by
 obtain ⟨h',sr',n,N,D,s⟩:=t
 exact ⟨h',sr',n,(Nxt.of_below h hb).trans N,D,s⟩
def Zsk (a:Nat->Addr) (w0:World) (h:HP) (m:MD) (M:MO) (X:MXtra) (w w':World):Prop:=∃ h' sr' n,Nxt h h' w w'/\Dim m n/\HS a w0 h' sr' n M X w'/\n.top=0/\n.oldTop=(M.words:Int) /\ ∀ j i,X.K[j]?=some i->i ∉ M.all->n.K.getD j 0=2
theorem Zsk.stp {w w':World} (t:Zsk a w0 h m M X w w'):Stp a w0 h m M X w w':=by
 obtain ⟨h',sr',n,a1,a2,a3,_⟩:=t
 exact ⟨h',sr',n,a1,a2,a3⟩
theorem HS.same (s:HS a w0 h sr m M X w) {w':World} (hb:Below w.heap.size w w'):Stp a w0 h m M X w w':=⟨h,sr,m,Nxt.of_below h hb,Dim.refl m,s.below hb⟩
theorem Z5k (s:HS a w0 h sr m M X w):Calls prog 68 #[.pointer (some ⟨h.q,0,none⟩)] w fun ev w'=>(ev = .returned (Z0p a 5)/\Below w.heap.size w w'/\m.old<(M.words:Int))\/(ev = .returned .nilIface/\Zsk a w0 h m M X w w'):=by
 have k:=Zjm s
 have c0:=s.at'.c0
 obtain ⟨q,hq⟩:∃ q,q=h.q:=⟨_,rfl⟩
 obtain ⟨p,hp⟩:∃ p,p=h.p:=⟨_,rfl⟩
 rw [<-hq,<-hp] at c0
 rw [<-hp] at k
 rw [<-hq]
 clear s hq hp
 go_enter func68,ntmps68
 go_wp2_with fail
 refine k.mono ?_
 clear k
 rintro ev w1 (⟨rfl,hP⟩ | ⟨rfl,hP⟩)
 ·have HP':=Z00 hP
  clear hP
  go_wp2_with fail
  first | go_ret | skip
  exact .inl ⟨rfl,HP'.out⟩
 ·have HP':=Z00 hP
  clear hP
  go_wp2_with fail
  first | go_ret | skip
  exact .inr ⟨rfl,HP'.out⟩
theorem Zrg:(prog.info? 338).map (·.comparable)=some true:=by kernel_rfl
theorem Ztb:(prog.info? 356).map (·.size)=some 1:=by kernel_rfl
theorem Ztk (x:Addr) (w:World):(binOp .eql 27 (.iface 338 (.pointer (some x))) (.iface 338 (.pointer (some x)))).run prog w = .ok (.bool true) w:=by
 obtain ⟨i,hi,hcmp⟩:=U1i.1 Zrg
 obtain ⟨j,hj,_⟩:=U1i.1 Ztb
 exact run_eql_iface_ptr_same (P:=prog) w x underlying27 underlying338 hi hcmp hj
theorem Ztc (x:Addr) (w:World):(binOp .eql 27 .nilIface (.iface 338 (.pointer (some x)))).run prog w = .ok (.bool false) w:=run_eql_iface_nil_left (P:=prog) w 338 _ underlying27
theorem Ziq (s:HS a w0 h sr m M X w):Calls prog 67 #[.pointer (some ⟨h.q,0,none⟩)] w fun ev w'=>(ev = .returned (Z0p a 5)/\Below w.heap.size w w'/\m.old<(M.words:Int))\/(ev = .returned .nilIface/\Stp a w0 h m M X w w'):=by
 have k:∀ W,Below w.heap.size w W->Calls prog 116 #[.pointer (some ⟨h.p,0,none⟩),.int .i64 h.tn] W fun ev w'=>(ev = .returned (Z0p a 5)/\Below W.heap.size W w')\/(ev = .returned .nilIface/\Stp a w0 h m M X W w'/\Aside (Z7g h.p h.bW h.bC) W w'):=fun W hW=>Zbe (s.below hW)
 have c0:=s.at'.c0
 have c1:=s.at'.c1
 have HS':=Z00 s
 obtain ⟨q,hq⟩:∃ q,q=h.q:=⟨_,rfl⟩
 obtain ⟨p,hp⟩:∃ p,p=h.p:=⟨_,rfl⟩
 obtain ⟨t,ht⟩:∃ t,t=h.tn:=⟨_,rfl⟩
 rw [<-hq,<-hp] at c0
 rw [<-hq,<-ht] at c1
 rw [<-hp,<-ht] at k
 have HM5:Hid (∀ w1,Below w.heap.size w w1->w1.cell? ⟨5,0,none⟩=some (.iface 338 (.pointer (some (a 5))))):=fun w1 hb=>(s.benv.five.below hb).c5
 have HJ:Hid (∀ w1,Below w.heap.size w w1->Calls prog 68 #[.pointer (some ⟨q,0,none⟩)] w1 fun ev w'=>(ev = .returned (Z0p a 5)/\Below w1.heap.size w1 w'/\m.old<(M.words:Int))\/(ev = .returned .nilIface/\Zsk a w0 h m M X w1 w')):=fun w1 hb=>by
  rw [hq];exact Z5k (s.below hb)
 have HG:Hid (∀ w1,Stp a w0 h m M X w w1->w1.cell? ⟨5,0,none⟩=some (.iface 338 (.pointer (some (a 5))))):=fun w1 st=>by
  obtain ⟨h',sr',n,_,_,s'⟩:=st
  exact s'.benv.five.c5
 have HS0:Hid (∀ w1,Aside (Z7g p h.bW h.bC) w w1->w1.cell? ⟨q,0,none⟩=some (.pointer (some ⟨p,0,none⟩))/\w1.cell? ⟨q,1,none⟩=some (.int .i64 t)):=fun w1 ha=>by
  have hn:¬ Z7g p h.bW h.bC q:=fun e=>by
   rw [hq,hp] at e
   rcases e with e | e | e
   ·exact s.at'.tq.ne s.at'.tp (by decide) e
   ·exact s.at'.tq.ne s.at'.tW (by decide) e
   ·exact s.at'.tq.ne s.at'.tC (by decide) e
  exact ⟨ha.cell c0 hn,ha.cell c1 hn⟩
 have HS1:=Z00 (HS0.out w (Aside.refl _ _))
 rw [<-hq]
 have KC:Hid (∀ W,Below w.heap.size w W->Calls prog 116 #[.pointer (some ⟨p,0,none⟩),.int .i64 t] W fun ev w' => ∃ e,ev = .returned e/\Hid ((e=Z0p a 5/\Below w.heap.size w w')\/(e = .nilIface/\Stp a w0 h m M X w w'))/\Aside (Z7g p h.bW h.bC) w w'):=fun W hW=>(k W hW).mono (by
  rintro ev w1 (⟨rfl,hb⟩ | ⟨rfl,hP,ha⟩)
  ·exact ⟨_,rfl,.inl ⟨rfl,hW.trans (hb.mono hW.size)⟩,Aside.of_below (hW.trans (hb.mono hW.size))⟩
  ·exact ⟨_,rfl,.inr ⟨rfl,hP.back hW⟩,(Aside.of_below hW).trans ha⟩)
 have q1:=Ztk (a 5)
 have q2:=Ztc (a 5)
 clear s hq hp ht k c0 c1
 go_enter func67,ntmps67
 go_upto_region 1 with fail
 go_region_held3 (fun W=>W.cell? ⟨q,0,none⟩=some (.pointer (some ⟨p,0,none⟩))/\W.cell? ⟨q,1,none⟩=some (.int .i64 t)) (first | with_reducible exact HS1.out | with_reducible exact HS0.out _ ha | exact HS1.out) (first | (go_at_call 116;refine (KC.out _ (by first | exact U01 _ _ | exact (U01 _ _).drew)).mono ?_;rintro ev w1 ⟨e,rfl,hPP,ha⟩))
 have hPP1:=hPP.out
 clear hPP
 rcases hPP1 with ⟨rfl,hb⟩ | ⟨rfl,hP⟩
 ·skip
  have g5:=HM5.out w1 hb
  have kj:=HJ.out w1 hb
  have HB:=Z00 hb
  clear hb ha
  unfold Z0p
  go_wp2_with fail
  refine kj.mono ?_
  clear kj
  rintro ev w2 (⟨rfl,hb2,hl⟩ | ⟨rfl,hP⟩)
  ·have HE:Hid (Below w.heap.size w w2/\m.old<(M.words:Int)):=⟨HB.out.trans (hb2.mono HB.out.size),hl⟩
   clear hb2 hl
   go_wp2_with fail
   first | go_ret | skip
   exact .inl ⟨rfl,HE.out⟩
  ·have HE:Hid (Stp a w0 h m M X w w2):=by
    obtain ⟨h',sr',n,N,D,s',_⟩:=hP
    exact ⟨h',sr',n,(Nxt.of_below h HB.out).trans N,D,s'⟩
   clear hP
   go_wp2_with fail
   first | go_ret | skip
   exact .inr ⟨rfl,HE.out⟩
 ·have g5:=HG.out w1 hP
  have HE:=Z00 hP
  clear hP ha
  go_wp2_with fail
  first | go_ret | skip
  exact .inr ⟨rfl,HE.out⟩
end
section
open Go.Maps
variable {h:HP}{sr:Int}{m:MD}{w w':World}{a:Nat->Addr}{w0:World}{M:MO}{X:MXtra}
def Zr4 (a:Nat->Addr) (w0:World) (h:HP) (m:MD) (M:MO) (X:MXtra) (n:Nat) (w w':World):Prop:=∃ h' sr' k,Nxt h h' w w'/\Dim m k/\HS a w0 h' sr' k M X w'/\((n:Int)<=k.half - k.top\/(k.top=0/\k.oldTop=(M.words:Int))\/k.old<(M.words:Int))
theorem HS.leftOk (s:HS a w0 h sr m M X w):Calls prog 168 #[.pointer (some ⟨h.q,0,none⟩)] w fun ev w'=>ev = .returned (.int .i64 (m.half - m.top)) /\ ∃ k,w'=w.drewN k:=by
 obtain ⟨_,n1,_,_,_,n2,n3,_⟩:=s.nums
 exact Zsg h.q h.p m.half m.top n2 n3 n1 w s.at'.c0 s.at'.cm.c0 s.at'.cm.c5
theorem Z97 (s:HS a w0 h sr m M X w) (n:Nat):Calls prog 169 #[.pointer (some ⟨h.q,0,none⟩),.int .i64 (n:Int)] w fun ev w'=>ev = .returned (.tuple #[])/\Zr4 a w0 h m M X n w w':=by
 have k:∀ W,Below w.heap.size w W->Calls prog 116 #[.pointer (some ⟨h.p,0,none⟩),.int .i64 h.tn] W fun ev w'=>(ev = .returned (Z0p a 5)/\Below W.heap.size W w')\/(ev = .returned .nilIface/\Stp a w0 h m M X W w'/\Aside (Z7g h.p h.bW h.bC) W w'):=fun W hW=>Zbe (s.below hW)
 have c0:=s.at'.c0
 have c1:=s.at'.c1
 have HSS:=Z00 s
 obtain ⟨q,hq⟩:∃ q,q=h.q:=⟨_,rfl⟩
 obtain ⟨p,hp⟩:∃ p,p=h.p:=⟨_,rfl⟩
 obtain ⟨t,ht⟩:∃ t,t=h.tn:=⟨_,rfl⟩
 rw [<-hq,<-hp] at c0
 rw [<-hq,<-ht] at c1
 rw [<-hp,<-ht] at k
 have HS0:Hid (∀ w1,Aside (Z7g p h.bW h.bC) w w1->w1.cell? ⟨q,0,none⟩=some (.pointer (some ⟨p,0,none⟩))/\w1.cell? ⟨q,1,none⟩=some (.int .i64 t)):=fun w1 ha=>by
  have hn:¬ Z7g p h.bW h.bC q:=fun e=>by
   rw [hq,hp] at e
   rcases e with e | e | e
   ·exact s.at'.tq.ne s.at'.tp (by decide) e
   ·exact s.at'.tq.ne s.at'.tW (by decide) e
   ·exact s.at'.tq.ne s.at'.tC (by decide) e
  exact ⟨ha.cell c0 hn,ha.cell c1 hn⟩
 have HS1:=Z00 (HS0.out w (Aside.refl _ _))
 have HQ:=Z00 hq
 rw [<-hq]
 have KC:Hid (∀ W,Below w.heap.size w W->Calls prog 116 #[.pointer (some ⟨p,0,none⟩),.int .i64 t] W fun ev w' => ∃ e,ev = .returned e/\Hid ((e=Z0p a 5/\Below w.heap.size w w')\/(e = .nilIface/\Stp a w0 h m M X w w'))/\Aside (Z7g p h.bW h.bC) w w'):=fun W hW=>(k W hW).mono (by
  rintro ev w1 (⟨rfl,hb⟩ | ⟨rfl,hP,ha⟩)
  ·exact ⟨_,rfl,.inl ⟨rfl,hW.trans (hb.mono hW.size)⟩,Aside.of_below (hW.trans (hb.mono hW.size))⟩
  ·exact ⟨_,rfl,.inr ⟨rfl,hP.back hW⟩,(Aside.of_below hW).trans ha⟩)
 clear s hq hp ht k c0 c1
 go_enter func169,ntmps169
 go_upto_region 0 with fail
 go_region_held3 (fun W=>W.cell? ⟨q,0,none⟩=some (.pointer (some ⟨p,0,none⟩))/\W.cell? ⟨q,1,none⟩=some (.int .i64 t)) (first | with_reducible exact HS1.out | with_reducible exact HS0.out _ ha | exact HS1.out) (first | (go_at_call 116;refine (KC.out _ (by first | exact U01 _ _ | exact (U01 _ _).drew)).mono ?_;rintro ev w1 ⟨e,rfl,hPP,ha⟩))
 have hPP1:=hPP.out
 clear hPP
 rcases hPP1 with ⟨rfl,hb⟩ | ⟨rfl,hP⟩
 ·skip
  have kj:=Z5k (HSS.out.below hb)
  rw [<-HQ.out] at kj
  have HB:=Z00 hb
  clear hb ha
  unfold Z0p
  go_wp2_with fail
  refine kj.mono ?_
  clear kj
  rintro ev w2 (⟨rfl,hb2,hl⟩ | ⟨rfl,hP⟩)
  ·have HE:Hid (Zr4 a w0 h m M X n w w2):=by
    have hbb:=HB.out.trans (hb2.mono HB.out.size)
    exact ⟨h,sr,m,Nxt.of_below h hbb,Dim.refl m,HSS.out.below hbb,.inr (.inr hl)⟩
   clear hb2 hl
   go_wp2_with fail
   first | go_end0 | skip
   exact ⟨rfl,HE.out⟩
  ·have HE:Hid (Zr4 a w0 h m M X n w w2):=by
    obtain ⟨h',sr',k,N,D,s',e1,e2,_⟩:=hP
    exact ⟨h',sr',k,(Nxt.of_below h HB.out).trans N,D,s',.inr (.inl ⟨e1,e2⟩)⟩
   clear hP
   go_wp2_with fail
   first | go_end0 | skip
   exact ⟨rfl,HE.out⟩
 ·obtain ⟨h1,sr1,m1,N1,D1,s1⟩:=hP
  have kl:=s1.leftOk
  rw [N1.q,<-HQ.out] at kl
  have kj:∀ k,Calls prog 68 #[.pointer (some ⟨q,0,none⟩)] (w1.drewN k) fun ev w'=>(ev = .returned (Z0p a 5)/\Below (w1.drewN k).heap.size (w1.drewN k) w'/\m1.old<(M.words:Int))\/(ev = .returned .nilIface/\Zsk a w0 h1 m1 M X (w1.drewN k) w'):=fun k=>by
   have h:=Z5k (s1.below (w':=w1.drewN k) (Z03 (U01 _ _)))
   rw [N1.q,<-HQ.out] at h
   exact h
  have HKJ:=Z00 kj
  have H1:Hid (Nxt h h1 w w1/\Dim m m1/\HS a w0 h1 sr1 m1 M X w1):=⟨N1,D1,s1⟩
  clear N1 D1 s1 ha kj
  by_cases hroom:(n:Int)<=m1.half - m1.top
  ·have t1:¬ m1.half - m1.top<(n:Int):=by omega
   have HR:=Z00 hroom
   clear hroom
   go_wp2_with fail
   refine kl.mono ?_
   clear kl
   rintro ev w2 ⟨rfl,kk,rfl⟩
   have HE:Hid (Zr4 a w0 h m M X n w (w1.drewN kk)):=by
    obtain ⟨N1,D1,s1⟩:=H1.out
    have b:=Z03 (q:=kk) (U01 w1.heap.size w1)
    exact ⟨h1,sr1,m1,N1.below b,D1,s1.below b,.inl HR.out⟩
   go_wp2_with fail
   first | go_end0 | skip
   exact ⟨rfl,HE.out⟩
  ·have t1:m1.half - m1.top<(n:Int):=by omega
   clear hroom
   go_wp2_with fail
   refine kl.mono ?_
   clear kl
   rintro ev w2 ⟨rfl,kk,rfl⟩
   go_wp2_with fail
   refine (HKJ.out kk).mono ?_
   rintro ev w3 (⟨rfl,hb2,hl⟩ | ⟨rfl,hP⟩)
   ·have HE:Hid (Zr4 a w0 h m M X n w w3):=by
     obtain ⟨N1,D1,s1⟩:=H1.out
     have b:=Z03 (q:=kk) (U01 w1.heap.size w1)
     have bb:=b.trans (hb2.mono b.size)
     exact ⟨h1,sr1,m1,N1.below bb,D1,s1.below bb,.inr (.inr hl)⟩
    clear hb2 hl
    go_wp2_with fail
    first | go_end0 | skip
    exact ⟨rfl,HE.out⟩
   ·have HE:Hid (Zr4 a w0 h m M X n w w3):=by
     obtain ⟨N1,D1,s1⟩:=H1.out
     obtain ⟨h',sr',k,N,D,s',e1,e2,_⟩:=hP
     have b:=Z03 (q:=kk) (U01 w1.heap.size w1)
     exact ⟨h',sr',k,(N1.below b).trans N,D1.trans D,s',.inr (.inl ⟨e1,e2⟩)⟩
    clear hP
    go_wp2_with fail
    first | go_end0 | skip
    exact ⟨rfl,HE.out⟩
def Z85 (a:Nat->Addr) (w0:World) (h:HP) (m:MD) (M:MO) (X:MXtra) (n:Nat) (w:World) (ev:Ending) (w':World):Prop:=
 (∃ h' sr' k y,Nxt h h' w w'/\Dim m k/\HM k sr' M X/\ev = .returned (.tuple #[.int .i64 ((if y then k.n1 else k.m1:Nat):Int),.nilIface])/\(if y then k.top+(n:Int)<=k.half else k.oldTop+(n:Int)<=k.old)/\HAt h' sr' (Zqn k y n) w') \/
 (ev = .returned (.tuple #[.int .i64 0,Z0p a 5])/\Stp a w0 h m M X w w'/\m.old<(M.words:Int)+n)
theorem Zkm (s:HS a w0 h sr m M X w) (n:Nat) (hn:n<=70000):Calls prog 119 #[.pointer (some ⟨h.q,0,none⟩),.int .i64 (n:Int)] w (Z85 a w0 h m M X n w):=by
 have kl:=s.leftOk
 have kc:∀ k,Calls prog 169 #[.pointer (some ⟨h.q,0,none⟩),.int .i64 (n:Int)] (w.drewN k) fun ev w'=>ev = .returned (.tuple #[])/\Zr4 a w0 h m M X n (w.drewN k) w':=fun k=>Z97 (s.below (w':=w.drewN k) (Z03 (U01 _ _))) n
 have HSS:=Z00 s
 obtain ⟨q,hq⟩:∃ q,q=h.q:=⟨_,rfl⟩
 rw [<-hq] at kl kc ⊢
 have HQ:=Z00 hq
 have HKC:=Z00 kc
 clear s hq kc
 go_enter func119,ntmps119
 go_upto_region 1 with fail
 go_cut [9] from 6 to 10 (fun v9 wx => ∃ b:Bool,v9 = .bool b/\Hid (b=decide (m.half - m.top<(n:Int))) /\ ∃ kk,wx=w.drewN kk)
 case first =>
  go_wp2_with fail
  refine kl.mono ?_
  clear kl
  rintro ev w2 ⟨rfl,kk,rfl⟩
  go_wp2_with fail
  go_meet
  exact ⟨_,rfl,rfl,kk,rfl⟩
 case rest =>
 obtain ⟨b9,rfl,HB9,kk,hkk⟩:=hcut
 subst hkk
 clear kl
 go_upto_if 9 with fail
 go_cut [] from 10 to 13 (fun wx => ∃ h1 sr1 m1,Hid (Nxt h h1 w wx)/\Hid (Dim m m1)/\Hid (HS a w0 h1 sr1 m1 M X wx)/\Hid ((n:Int)<=m1.half - m1.top\/(m1.top=0/\m1.oldTop=(M.words:Int))\/m1.old<(M.words:Int)))
 case first =>
  cases b9 with
  | false =>
   have HR:Hid ((n:Int)<=m.half - m.top):=by have h9:=of_decide_eq_false HB9.out.symm;show _<=_;omega
   clear HB9
   go_wp2_with fail
   go_meet
   have b:=Z03 (q:=kk) (U01 w.heap.size w)
   exact ⟨h,sr,m,Nxt.of_below h b,Dim.refl m,HSS.out.below b,.inl HR.out⟩
  | true =>
   clear HB9
   go_wp2_with fail
   refine (HKC.out kk).mono ?_
   rintro ev w3 ⟨rfl,h1,sr1,m1,N1,D1,s1,e1⟩
   have HE:Hid (Nxt h h1 w w3/\Dim m m1/\HS a w0 h1 sr1 m1 M X w3/\((n:Int)<=m1.half - m1.top\/(m1.top=0/\m1.oldTop=(M.words:Int))\/m1.old<(M.words:Int))):=
    ⟨(Nxt.of_below h (Z03 (q:=kk) (U01 w.heap.size w))).trans N1,D1,s1,e1⟩
   clear N1 D1 s1 e1
   go_wp2_with fail
   go_meet
   exact ⟨h1,sr1,m1,HE.out.1,HE.out.2.1,HE.out.2.2.1,HE.out.2.2.2⟩
 case rest =>
  obtain ⟨h1,sr1,m1,HN1,HD1,HS1,HC1⟩:=hcut
  obtain ⟨w1,hw1⟩:∃ w1,w1=wc:=⟨_,rfl⟩
  subst hw1
  obtain ⟨a1,a2,a3,a4,a5,a6,a7,a8,a9,a10,a11,a12⟩:=HS1.out.nums
  have kl:=HS1.out.leftOk
  rw [HN1.out.q,<-HQ.out] at kl
  have d0:=HS1.out.at'.c0
  rw [HN1.out.q,<-HQ.out] at d0
  have M1:=HS1.out.at'.cm
  have e0:=M1.c0
  have e1:=M1.c1
  have e4:=M1.c4
  have e5:=M1.c5
  have e6:=M1.c6
  have g5:=HS1.out.benv.five.c5
  have hmb:=HS1.out.at'.mb
  unfold MB at hmb
  have f5:w1.frozen? ⟨h1.p,5,none⟩=false:=by simp [World.frozen?,hmb]
  have f6:w1.frozen? ⟨h1.p,6,none⟩=false:=by simp [World.frozen?,hmb]
  have HT5:Hid (∀ k,HAt h1 sr1 { m1 with top:=m1.top+(n:Int) } ((w1.drewN k).setCell ⟨h1.p,5,none⟩ (.int .i64 (m1.top+(n:Int))))):=fun k=>(HS1.out.at'.below (Z03 (q:=k) (U01 _ _))).setTop _
  have HT6:Hid (∀ k,HAt h1 sr1 { m1 with oldTop:=m1.oldTop+(n:Int) } ((w1.drewN k).setCell ⟨h1.p,6,none⟩ (.int .i64 (m1.oldTop+(n:Int))))):=fun k=>(HS1.out.at'.below (Z03 (q:=k) (U01 _ _))).setOld _
  have HX5:Hid (∀ k,Nxt h h1 w ((w1.drewN k).setCell ⟨h1.p,5,none⟩ (.int .i64 (m1.top+(n:Int))))):=fun k=>HN1.out.trans (Nxt.set (Nxt.of_below h1 (Z03 (q:=k) (U01 _ _))) (.inl (.inr (.inl rfl))))
  have HX6:Hid (∀ k,Nxt h h1 w ((w1.drewN k).setCell ⟨h1.p,6,none⟩ (.int .i64 (m1.oldTop+(n:Int))))):=fun k=>HN1.out.trans (Nxt.set (Nxt.of_below h1 (Z03 (q:=k) (U01 _ _))) (.inl (.inr (.inl rfl))))
  have HF:Hid (∀ k,m.old<(M.words:Int)+n->Z85 a w0 h m M X n w (.returned (.tuple #[.int .i64 0,Z0p a 5])) (w1.drewN k)):=fun k hf=>.inr ⟨rfl,⟨h1,sr1,m1,HN1.out.below (Z03 (q:=k) (U01 _ _)),HD1.out,HS1.out.below (Z03 (q:=k) (U01 _ _))⟩,hf⟩
  have HO:=HD1.out.old
  have x1:IntKind.i64.wrap (m1.used*m1.half)=m1.used*m1.half:=by rw [U1d];rcases a5 with e | e <;> rw [e] <;> omega
  have x2:IntKind.i64.wrap (m1.used*m1.half+m1.top)=m1.used*m1.half+m1.top:=by rw [U1d];rcases a5 with e | e <;> rw [e] <;> omega
  have x3:IntKind.i64.wrap (m1.top+(n:Int))=m1.top+(n:Int):=by rw [U1d];omega
  have x4:IntKind.i64.wrap (m1.old - m1.oldTop)=m1.old - m1.oldTop:=by rw [U1d];omega
  have x5:IntKind.i64.wrap (2*m1.half)=2*m1.half:=by rw [U1d];omega
  have x6:IntKind.i64.wrap (2*m1.half+m1.oldTop)=2*m1.half+m1.oldTop:=by rw [U1d];omega
  have x7:IntKind.i64.wrap (m1.oldTop+(n:Int))=m1.oldTop+(n:Int):=by rw [U1d];omega
  have HY:Hid (m1.used*m1.half+m1.top=(m1.n1:Int)/\2*m1.half+m1.oldTop=(m1.m1:Int)/\m1.oldTop<=m1.old/\m1.old=m.old):=⟨a11.symm,a12.symm,a9,HO⟩
  clear a1 a2 a3 a4 a5 a6 a7 a8 a9 a10 a11 a12 M1 hmb HO
  by_cases hroom:(n:Int)<=m1.half - m1.top
  ·have HR:=Z00 hroom
   go_wp2_with fail
   refine kl.mono ?_
   clear kl
   rintro ev w2 ⟨rfl,k1,rfl⟩
   go_wp2_with fail
   go_quiet (fail)
   go_wp2_with fail
   go_ret2
   refine .inl ⟨h1,sr1,m1,true,HX5.out _,HD1.out,HS1.out.hm,?_,?_,HT5.out _⟩
   ·rw [U09 rfl,<-HY.out.1];rfl
   ·rw [U09 rfl];have:=HR.out;omega
  ·have hr1:¬ (n:Int)<=m1.half - m1.top:=hroom
   have HR:=Z00 hroom
   clear hroom
   by_cases hold:(n:Int)<=m1.old - m1.oldTop
   ·have HR2:=Z00 hold
    go_wp2_with fail
    refine kl.mono ?_
    clear kl
    rintro ev w2 ⟨rfl,k1,rfl⟩
    go_wp2_with fail
    go_quiet (fail)
    go_wp2_with fail
    go_quiet (fail)
    go_wp2_with fail
    go_ret2
    refine .inl ⟨h1,sr1,m1,false,?_,HD1.out,HS1.out.hm,?_,?_,?_⟩
    ·exact HX6.out _
    ·rw [U08 (by decide),<-HY.out.2.1];rfl
    ·rw [U08 (by decide)];have:=HR2.out;omega
    ·exact HT6.out _
   ·have HR2:=Z00 hold
    go_wp2_with fail
    refine kl.mono ?_
    clear kl
    rintro ev w2 ⟨rfl,k1,rfl⟩
    go_wp2_with fail
    go_quiet (fail)
    go_wp2_with fail
    go_quiet (fail)
    go_wp2_with fail
    go_ret2
    show Z85 a w0 h m M X n w (.returned (.tuple #[.int .i64 0,Z0p a 5])) _
    simp only [World.drewN_drewN]
    refine HF.out _ ?_
    have:=HR.out
    have:=HR2.out
    obtain ⟨_,_,y3,y4⟩:=HY.out
    rcases HC1.out with hc | ⟨hc1,hc2⟩ | hc <;> omega
end
end Go.Proofs.YtlkcbdinlfeoiaaGreatDoor
namespace Go.Proofs.YtlkcbdinlfeoiaaGreatDoor
open Go.Proofs.Tryz Go.RowKit
set_option maxHeartbeats 8000000
set_option maxRecDepth 100000
set_option linter.unusedSimpArgs false
section
open Go.Maps
variable {h:HP}{sr:Int}{m:MD}{w w':World}{a:Nat->Addr}{w0:World}{M:MO}{X:MXtra}
theorem Zio (W:List Int) (rest:List Value) (t:Nat) (hd:Int) (fs:List Int) (h:t+1+fs.length<=W.length):splice (((Z05 W++rest).toArray.setIfInBounds t (.int .u64 hd)).toList) (t+1) (Z05 fs)=Z05 (lyW W t hd fs)++rest:=by
 have hl:(Z05 W).length=W.length:=Z3y W
 have hf:(Z05 fs).length=fs.length:=Z3y fs
 have e1:((Z05 W++rest).toArray.setIfInBounds t (.int .u64 hd)).toList=(Z05 W).set t (.int .u64 hd)++rest:=by
  rw [U00,List.set_append_left _ _ (by omega)]
 rw [e1]
 unfold splice lyW
 have e2:((Z05 W).set t (.int .u64 hd)++rest).take (t+1)=Z05 (W.take t) ++ [.int .u64 hd]:=by
  rw [U2b (by rw [U0t];omega)]
  unfold Z05
  rw [U4p (by rw [U0t,U0v];omega),List.getElem_set_self,List.take_set_of_le (U02 _),U2y]
 have e3:((Z05 W).set t (.int .u64 hd)++rest).drop (t+1+(Z05 fs).length)=Z05 (W.drop (t+1+fs.length))++rest:=by
  rw [U3q (by rw [U0t];omega),hf]
  unfold Z05
  rw [List.drop_set_of_lt (by omega),List.map_drop]
 rw [e2,e3]
 unfold Z05
 simp
def Z1t (a:Nat->Addr) (w0:World) (h:HP) (m:MD) (M:MO) (X:MXtra) (kd:Int) (fs:List Int) (w:World) (ev:Ending) (w':World):Prop:=
 (∃ h' sr' k n t y,Nxt h h' w w'/\Dim m k/\HM k sr' M X/\HAt h' sr' n w'/\Laid k n t fs.length y/\MD64 n/\n.F t / 4 % 256=kd/\Z07 n.F t=fs/\ev = .returned (.tuple #[.int .u64 (((t:Int)+1)*4),.nilIface])) \/
 (ev = .returned (.tuple #[.int .u64 0,Z0p a 5])/\Stp a w0 h m M X w w'/\m.old<(M.words:Int)+(1+(fs.length:Int)))
theorem Zbr (s:HS a w0 h sr m M X w) (kd:Int) (fs:List Int) (g cap:Nat) (hg:Blk g 81 (Z05 fs) w) (hgo:¬ h.own g) (k0:0<=kd) (k1:kd<=255) (hf:fs.length<=4096) (hu:U64 fs) (hfl:¬ kd<8 -> ∀ x∈fs,∀ nW,Z0b nW (fun _=>false) x=true) :
  Calls prog 71 #[.pointer (some ⟨h.q,0,none⟩),.int .i64 kd,.slice (some ⟨g,0,none⟩) fs.length cap] w (Z1t a w0 h m M X kd fs w):=by
 have hsum:((fs.length:Int)*65536+0*16384+0*1024+kd*4+3)=hdN kd fs.length:=by unfold hdN;omega
 have ko:=fun w=>Z59 kd 0 0 (fs.length:Int) k0 k1 (by omega) (by omega) (by omega) (by omega) (by omega) (by omega) w
 rw [hsum] at ko
 have KT:Hid (∀ w1,Below w.heap.size w w1->Calls prog 119 #[.pointer (some ⟨h.q,0,none⟩),.int .i64 ((1+fs.length:Nat):Int)] w1 (Z85 a w0 h m M X (1+fs.length) w1)):=fun w1 hb=>Zkm (s.below hb) (1+fs.length) (by omega)
 obtain ⟨hd,hhd⟩:∃ hd,hd=hdN kd fs.length:=⟨_,rfl⟩
 rw [<-hhd] at ko
 obtain ⟨q,hq⟩:∃ q,q=h.q:=⟨_,rfl⟩
 rw [<-hq] at KT ⊢
 obtain ⟨nf,hnf⟩:∃ n,n=fs.length:=⟨_,rfl⟩
 have HSS:=Z00 s
 have HQ:=Z00 hq
 have HHD:=Z00 hhd
 have HG:=Z00 hg
 have HGO:=Z00 hgo
 have HFL:=Z00 hfl
 have HNF:=Z00 hnf
 have HU:=Z00 hu
 have HK:Hid (0<=kd/\kd<=255):=⟨k0,k1⟩
 rw [<-hnf] at ko KT hf ⊢
 have HNN:Hid ((1:Int)+(nf:Int)=((1+nf:Nat):Int)):=by show _=_;omega
 have hfi:(nf:Int)<=4096:=by omega
 have hfi0:(0:Int)<=(nf:Int):=by omega
 have ew:IntKind.i64.wrap (1+(nf:Int))=1+(nf:Int):=Z18 _ (by omega) (by omega)
 clear s hq hhd hg hgo hfl hnf hu hsum k0 k1
 go_enter func71,ntmps71
 go_wp2_with fail
 refine (ko w).mono ?_
 clear ko
 rintro ev w1 ⟨rfl,b1⟩
 have kt:=KT.out w1 b1
 rw [<-HNN.out] at kt
 have HB1:=Z00 b1
 clear b1
 go_wp2_with fail
 refine kt.mono ?_
 clear kt
 rintro ev w2 (⟨h1,sr1,k,y,N,D,hm,rfl,hroom,H⟩ | ⟨rfl,hS,hl⟩)
 ·obtain ⟨l1,l2,rt⟩:=hm.right
  obtain ⟨t,n,ht,hfit,hn,L,h64,hkd,hfs⟩:=Zs4 (kd:=kd) (fs:=fs) rt y HK.out.1 HK.out.2 (by rw [<-HNF.out];exact hf) HU.out (fun hk x hx=>HFL.out (by omega) x hx _) (by rw [<-HNF.out];exact hroom)
  rw [<-ht]
  have hNw:Nxt h h1 w w2:=(Nxt.of_below h HB1.out).trans N
  have hgb:Blk g 81 (Z05 fs) w2:=HG.out.aside hNw.aside HGO.out
  have hgn:¬ h1.own g:=fun e=>by
   rcases hNw.own g e with e | e
   ·exact HGO.out e
   ·have:=HG.out.lt;omega
  have hlen:(Zqn k y (1+nf)).W.length=k.W.length:=rfl
  have c0:=H.c0
  have hq1:h1.q=q:=hNw.q.trans HQ.out.symm
  rw [hq1] at c0
  have c3:=H.cm.c3
  rw [hlen] at c3
  obtain ⟨rest,hbW⟩:=H.hW
  have hcapW:k.W.length<=h1.cW:=H.cap
  have hwl:=rt.S.1.w
  have hnum:=rt.S.1.nums
  unfold Z0c at hnum
  have hW3:k.W.length<=200000:=by omega
  have fz:w2.frozen? ⟨h1.bW,t,none⟩=false:=Zk3 hbW
  have hfit':t+1+nf<=k.W.length:=by rw [HNF.out];exact hfit
  have cx:∃ u,w2.cell? ⟨h1.bW,t,none⟩=some u:=by
   rw [U06 _ _ _ _ _ _ hbW]
   have e:(Z05 (Zqn k y (1+nf)).W).length=k.W.length:=Z3y _
   exact ⟨_,U2a (by simp only [U2i,U0f];omega)⟩
  obtain ⟨u,cx⟩:=cx
  have ka:=fun w=>Z94 (t:Int) (by omega) (by omega) w
  have xi:(t:Int)<(k.W.length:Int):=by omega
  have xi0:(0:Int)<=(t:Int):=by omega
  have ea:IntKind.i64.wrap ((t:Int)+1)=(t:Int)+1:=Z18 _ (by omega) (by omega)
  have s3:(t:Int)+1<=(k.W.length:Int):=by omega
  obtain ⟨nW,hnW⟩:∃ nW,nW=k.W.length:=⟨_,rfl⟩
  obtain ⟨cW,hcW⟩:∃ cW,cW=h1.cW:=⟨_,rfl⟩
  rw [<-hnW] at c3 xi s3 hcapW hW3 hfit'
  rw [<-hcW] at c3 hcapW
  have HFT:Hid (t+1+nf<=nW/\nW<=cW/\nW<=200000):=⟨hfit',hcapW,hW3⟩
  have HH:=Z00 H
  have HNW:=Z00 hnW
  have HLA:Hid (Nxt h h1 w w2/\Dim m k/\HM k sr1 M X/\Laid k n t fs.length y/\MD64 n/\n.F t / 4 % 256=kd/\Z07 n.F t=fs/\n = { Zqn k y (1+fs.length) with W:=lyW k.W t (hdN kd fs.length) fs } /\ t+1+fs.length<=k.W.length):=⟨hNw,D,hm,L,h64,hkd,hfs,hn,hfit⟩
  have HGB:=Z00 hgb
  have HGN:Hid (g≠h1.bW):=fun e=>hgn (.inr (.inr (.inl e)))
  have HBW:=Z00 hbW
  have hcases:(cW=t+1/\nf=0) \/ ¬ cW=t+1:=by omega
  clear hNw D hm L h64 hkd hfs hn hfit hgb hgn hlen hq1 hcapW hwl hnum hW3 hfit' hnW hcW rt hroom ht N H hbW
  go_upto_region 8 with fail
  obtain ⟨w3,hw3⟩:∃ w3,w3=w2.setCell ⟨h1.bW,t,none⟩ (.int .u64 hd):=⟨_,rfl⟩
  rw [<-hw3]
  obtain ⟨cur,hcur⟩:∃ cur:List Value,cur=((Z05 (Zqn k y (1+nf)).W++rest).toArray.setIfInBounds t (.int .u64 hd)).toList:=⟨_,rfl⟩
  have HCU:=Z00 hcur
  have HCUR:Hid (w3.heap[h1.bW]?=some (.cells cur.toArray 81 (0,0))):=by
   show _=_
   rw [hw3,HCU.out,Z06 HBW.out]
  have a3:Aside (· = h1.bW) w2 w3:=by rw [hw3];exact (Aside.refl (fun k=>k=h1.bW) w2).setCell (g:=h1.bW) rfl _
  have c0':w3.cell? ⟨q,0,none⟩=some (.pointer (some ⟨h1.p,0,none⟩)):=a3.cell c0 (fun e=>by
   have:=HH.out.tq.ne HH.out.tW (by decide)
   rw [HLA.out.1.q] at this
   exact this (by rw [<-HQ.out];exact e))
  have c3':w3.cell? ⟨h1.p,3,none⟩=some (.slice (some ⟨h1.bW,0,none⟩) nW cW):=a3.cell c3 (HH.out.tp.ne HH.out.tW (by decide))
  have G3:=Z00 (HGB.out.aside a3 HGN.out)
  have HA3:=Z00 a3
  have HCL:Hid (t+1+(Z05 fs).length<=cur.length):=by
   show _<=_
   rw [HCU.out,Z3y,<-HNF.out,U2c,U3l,U2i,U0f]
   have e:(Z05 (Zqn k y (1+nf)).W).length=nW:=by rw [HNW.out];exact Z3y _
   have:=HFT.out
   omega
  have HMIN:Hid ((Z05 fs).length=Nat.min nf (nW - (t+1))):=by
   show _=_
   rw [Z3y,<-HNF.out]
   have:=HFT.out
   exact (U3a (by omega)).symm
  have HPOS:Hid (0<(Z05 fs).length -> ∃ ad,some (⟨g,0,none⟩:Addr)=some ad /\ ∀ j v,(Z05 fs)[j]?=some v->w3.cell? (ad.add j)=some v):=fun _=>⟨_,rfl,fun j v hj=>by
   have e:(⟨g,0,none⟩:Addr).add j=⟨g,j,none⟩:=by unfold Addr.add;split <;> simp_all
   rw [e]
   exact G3.out.cell hj⟩
  have HONE:Hid (∀ v∈Z05 fs,v.oneCell'=true):=fun v hv=>by
   unfold Z05 at hv
   obtain ⟨x,_,rfl⟩:=U0l.1 hv
   rfl
  have HFLn:Hid ((Z05 fs).length=nf):=by show _=_;rw [Z3y];exact HNF.out.symm
  have HEND:Hid (∀ w5,(∃ w4,w4.heap[h1.bW]?=some (.cells (splice cur (t+1) (Z05 fs)).toArray 81 (0,0))/\Apart h1.bW w3 w4/\Below w4.heap.size w4 w5)->Z1t a w0 h m M X kd fs w (.returned (.tuple #[.int .u64 (((t:Int)+1)*4),.nilIface])) w5):=fun w5 hw=>by
   obtain ⟨w4,hg4,ha4,b5⟩:=hw
   obtain ⟨e1,e2,e3,e4,e5,e6,e7,e8,e9⟩:=HLA.out
   have a4:Aside (· = h1.bW) w2 w4:=HA3.out.trans ⟨ha4.os,ha4.tape,ha4.output,by rw [ha4.size];exact U02 _,fun k _ hk=>ha4.block k hk⟩
   have hb4:Blk h1.bW 81 (Z05 (lyW k.W t (hdN kd fs.length) fs)) w4:=⟨rest,by
    rw [hg4,HCU.out,HHD.out]
    exact congrArg (fun l=>some (Obj.cells (List.toArray l) 81 (0,0))) (Zio k.W rest t _ fs e9)⟩
   have H4:HAt h1 sr1 n w4:=by
    rw [e8,<-HNF.out]
    have hx:=HH.out.words (W':=lyW k.W t (hdN kd fs.length) fs) (by rw [Zlw e9];rfl) a4 hb4
    rw [<-HNF.out] at hx
    exact hx
   refine .inl ⟨h1,sr1,k,n,t,y,(e1.trans (Nxt.below ?_ b5)),e2,e3,H4.below b5,e4,e5,e6,e7,rfl⟩
   exact ⟨rfl,rfl,fun _ hk=>.inl hk,a4.mono (fun k hk=>.inr (.inr (.inl hk)))⟩
  clear hw3 a3 c0 c3 fz cx hcur
  rcases hcases with ⟨hc,hz⟩ | hc
  ·have hc1:cW=t+1:=hc
   have HP0:Hid (∀ x:Option Addr,0<(Z05 fs).length->x=some ⟨h1.bW,t+1,none⟩ /\ ∃ ad,some (⟨g,0,none⟩:Addr)=some ad /\ ∀ j v,(Z05 fs)[j]?=some v->w3.cell? (ad.add j)=some v):=fun x hx=>absurd hx (by rw [HFLn.out];omega)
   have HZ:=Z00 hz
   clear hz
   go_wp2_with (refine Z40 rfl _ _ _ _ rfl 81 underlying79 Z9a _ _ _ _ _ _ rfl rfl h1.bW (t+1) cur 81 HCUR.out (Z05 fs) HMIN.out (HP0.out _) HCL.out HONE.out ?_;intro w4 hg4 ha4)
   refine (ka w4).mono ?_
   clear ka
   rintro ev w5 ⟨rfl,b5⟩
   have hE:=Z00 (HEND.out w5 ⟨w4,hg4.out,ha4.out,b5⟩)
   clear hg4 ha4 b5
   go_wp2_with fail
   first | go_ret2 | skip
   exact hE.out
  ·have hc1:¬ cW=t+1:=hc
   have hc2:¬ t+1=cW:=fun e=>hc e.symm
   have hc3:¬ cW - (t+1)=0:=by have:=HFT.out;omega
   go_wp2_with (refine Z40 rfl _ _ _ _ rfl 81 underlying79 Z9a _ _ _ _ _ _ rfl rfl h1.bW (t+1) cur 81 HCUR.out (Z05 fs) HMIN.out (fun h=>⟨rfl,HPOS.out h⟩) HCL.out HONE.out ?_;intro w4 hg4 ha4)
   refine (ka w4).mono ?_
   clear ka
   rintro ev w5 ⟨rfl,b5⟩
   have hE:=Z00 (HEND.out w5 ⟨w4,hg4.out,ha4.out,b5⟩)
   clear hg4 ha4 b5
   go_wp2_with fail
   first | go_ret2 | skip
   exact hE.out
 ·have HE:Hid (Z1t a w0 h m M X kd fs w (.returned (.tuple #[.int .u64 0,Z0p a 5])) w2):=by
   obtain ⟨h1,sr1,k,N,D,s1⟩:=hS
   refine .inr ⟨rfl,⟨h1,sr1,k,(Nxt.of_below h HB1.out).trans N,D,s1⟩,?_⟩
   rw [<-HNF.out];omega
  clear hS hl
  unfold Z0p
  go_wp2_with fail
  first | go_ret2 | skip
  exact HE.out
end
section
open Go.Maps
variable {h:HP}{sr:Int}{m:MD}{w w':World}{a:Nat->Addr}{w0:World}{M:MO}{X:MXtra}
def Zjg (a:Nat->Addr) (w0:World) (h:HP) (m:MD) (M:MO) (X:MXtra) (M':MO) (X':MXtra) (need:Int) (w:World) (ev:Ending) (w':World):Prop:=
 (ev = .returned .nilIface/\Stp a w0 h m M' X' w w')\/(ev = .returned (Z0p a 5)/\Stp a w0 h m M X w w'/\m.old<(M.words:Int)+need)
theorem Stp.drew (t:Stp a w0 h m M X w w') (k:Nat):Stp a w0 h m M X w (w'.drewN k):=by
 obtain ⟨h',sr',n,N,D,s⟩:=t
 have b:=Z03 (q:=k) (U01 w'.heap.size w')
 exact ⟨h',sr',n,N.below b,D,s.below b⟩
theorem Zjg.back {M':MO}{X':MXtra}{need:Int}{w1:World}{ev:Ending} (hb:Below w.heap.size w w1) (t:Zjg a w0 h m M X M' X' need w1 ev w'):Zjg a w0 h m M X M' X' need w ev w':=by
 rcases t with ⟨e,t⟩ | ⟨e,t,f⟩
 ·exact .inl ⟨e,t.back hb⟩
 ·exact .inr ⟨e,t.back hb,f⟩
def Ztv (h:HP) (m:MD) (M:MO) (X:MXtra) (kd:Int) (fs:List Int) (w:World) (y:Int) (h':HP) (sr':Int) (n:MD) (w1:World):Prop:=∃ k t yy,Nxt h h' w w1/\Dim m k/\HM k sr' M X/\Laid k n t fs.length yy/\MD64 n/\n.F t / 4 % 256=kd/\Z07 n.F t=fs/\y=((t:Int)+1)*4
def Zt0 (a:Nat->Addr) (w0:World) (h:HP) (m:MD) (M:MO) (X:MXtra) (fs:List Int) (w:World) (k:Nat) (w1:World):Prop:=k=5/\Stp a w0 h m M X w w1/\m.old<(M.words:Int)+(1+(fs.length:Int))
theorem Zbj (s:HS a w0 h sr m M X w) {kd:Int}{fs:List Int}{r:Nat} (hr:r<m.R.length) {ev:Ending}{w1:World} (t:Z1t a w0 h m M X kd fs w ev w1):Made a h.q r (Ztv h m M X kd fs w) (Zt0 a w0 h m M X fs w) ev w1:=by
 rcases t with ⟨h',sr',k,n,t,y,N,D,hm,H,L,h6,hk,hf,rfl⟩ | ⟨rfl,t,f⟩
 ·refine .inl ⟨_,h',sr',n,rfl,H,N.q,?_,k,t,y,N,D,hm,L,h6,hk,hf,rfl⟩
  rw [L.R,hm.roots,<-s.hm.roots];exact hr
 ·exact .inr ⟨5,rfl,rfl,t,f⟩
theorem Z9b (s:HS a w0 h sr m M X w) {kd:Int}{fs:List Int}{r:Nat}{d:ND} (hk:d.kind=kd) (hf:wdN (fun i=>i) d=fs) (hd:¬ d.kind<8 -> ∀ c∈d.f,c.kind≠4/\CLok c) {ev:Ending}
  (t:(∃ y h' sr' n w1,ev = .returned .nilIface/\Ztv h m M X kd fs w y h' sr' n w1/\HAt h' sr' { n with R:=n.R.set r y } w'/\Nxt h' h' w1 w') \/ ∃ k,ev = .returned (Z0p a k)/\Zt0 a w0 h m M X fs w k w') :
  Zjg a w0 h m M X ⟨M.R.set r ⟨4,0,M.N.length⟩,M.N ++ [d]⟩ X (1+(fs.length:Int)) w ev w':=by
 rcases t with ⟨y,h',sr',n,w1,rfl,⟨k,t,yy,N,D,hm,L,h6,ek,ef,rfl⟩,H,N'⟩ | ⟨k,rfl,rfl,t,f⟩
 ·refine .inl ⟨rfl,h',sr',{ n with R:=n.R.set r (((t:Int)+1)*4) },N.trans N',⟨L.half.trans D.half,L.old.trans D.old,L.card.trans D.card⟩,s.next (N.trans N') H (hm.make L h6 r (ek.trans hk.symm) (ef.trans hf.symm) hd) s.kl ?_⟩
  show (M.R.set r _).length<=5000
  rw [U0t];exact s.rl
 ·exact .inr ⟨rfl,t,f⟩
theorem HAt.fresh (H:HAt h sr m w) {b:Nat} (hb:w.heap.size<=b):¬ h.own b:=fun e=>by have:=H.lt e;omega
theorem Nxt.cell {h h':HP} (N:Nxt h h' w w') {b o:Nat}{v:Value} (hc:w.cell? ⟨b,o,none⟩=some v) (hx:¬ h.own b):w'.cell? ⟨b,o,none⟩=some v:=N.aside.cell hc hx
theorem Z1t.cell {kd:Int}{fs:List Int}{ev:Ending} (t:Z1t a w0 h m M X kd fs w ev w') {b o:Nat}{v:Value} (hc:w.cell? ⟨b,o,none⟩=some v) (hx:¬ h.own b):w'.cell? ⟨b,o,none⟩=some v:=by
 rcases t with ⟨h',_,_,_,_,_,N,_⟩ | ⟨_,⟨h',_,_,N,_⟩,_⟩
 ·exact N.cell hc hx
 ·exact N.cell hc hx
theorem Z1t.back {kd:Int}{fs:List Int}{ev:Ending}{w1:World} (hb:Below w.heap.size w w1) (t:Z1t a w0 h m M X kd fs w1 ev w'):Z1t a w0 h m M X kd fs w ev w':=by
 rcases t with ⟨h',sr',k,n,t,y,N,r⟩ | ⟨e,t,f⟩
 ·exact .inl ⟨h',sr',k,n,t,y,(Nxt.of_below h hb).trans N,r⟩
 ·exact .inr ⟨e,t.back hb,f⟩
theorem Z1t.forms {kd:Int}{fs:List Int}{ev:Ending} (t:Z1t a w0 h m M X kd fs w ev w'):∃ y e,ev = .returned (.tuple #[.int .u64 y,e]):=by
 rcases t with ⟨h',sr',k,n,t,y,N,_,_,_,_,_,_,_,e⟩ | ⟨e,t,f⟩
 ·exact ⟨_,_,e⟩
 ·exact ⟨_,_,e⟩
theorem Zob (s:HS a w0 h sr m M X w) (kd:Int) (n bk bs bh:Nat) (ck:w.cell? ⟨bk,0,none⟩=some (.int .i64 kd)) (cs:w.cell? ⟨bs,0,none⟩=some (.int .i64 (n:Int))) (ch:w.cell? ⟨bh,0,none⟩=some (.pointer (some ⟨h.q,0,none⟩)))
  (ok:¬ h.own bk) (os:¬ h.own bs) (oh:¬ h.own bh) (k0:8<=kd) (k1:kd<=255) (hf:n<=4096) :
  Calls prog 70 #[.pointer (some ⟨bk,0,none⟩),.pointer (some ⟨bs,0,none⟩),.pointer (some ⟨bh,0,none⟩)] w (Z1t a w0 h m M X kd (List.replicate n 2) w):=by
 have kw1:=fun w=>Z0z kd 8 255 w
 have kw2:=fun w=>Z0z (n:Int) 0 4096 w
 rw [show (decide (8<=kd) && decide (kd<=255))=true by simp;omega] at kw1
 rw [show (decide (0<=(n:Int)) && decide ((n:Int)<=4096))=true by simp;omega] at kw2
 have hbk:bk<w.heap.size:=Z02 ck
 have hbs:bs<w.heap.size:=Z02 cs
 have hbh:bh<w.heap.size:=Z02 ch
 have hlen:(List.replicate n (2:Int)).length=n:=U17
 obtain ⟨q,hq⟩:∃ q,q=h.q:=⟨_,rfl⟩
 have HL:Hid (∀ g w1,Below w.heap.size w w1->w1.heap[g]?=some (.cells (Array.replicate n (.int .u64 2)) 81)->w.heap.size<=g->Calls prog 71 #[.pointer (some ⟨q,0,none⟩),.int .i64 kd,.slice (some ⟨g,0,none⟩) n n] w1 fun ev w'=>Z1t a w0 h m M X kd (List.replicate n 2) w ev w'/\(w'.cell? ⟨bk,0,none⟩=some (.int .i64 kd)/\w'.cell? ⟨bs,0,none⟩=some (.int .i64 (n:Int))/\w'.cell? ⟨bh,0,none⟩=some (.pointer (some ⟨q,0,none⟩)))):=fun g w1 b1 hg hgs=>by
  have hx:=Zbr (s.below b1) kd (List.replicate n 2) g n ⟨[],by rw [hg];simp [Z05]⟩ (s.at'.fresh hgs) (by omega) k1 (by omega) (fun x hx=>by rw [(U39.1 hx).2];decide) (fun _ x hx nW=>by rw [(U39.1 hx).2];rfl)
  rw [hlen,<-hq] at hx
  refine hx.mono ?_
  intro ev w' t
  have c1:=t.cell ((b1.cell (p:=⟨bk,0,none⟩) hbk).trans ck) ok
  have c2:=t.cell ((b1.cell (p:=⟨bs,0,none⟩) hbs).trans cs) os
  have c3:=t.cell ((b1.cell (p:=⟨bh,0,none⟩) hbh).trans ch) oh
  rw [<-hq] at c3
  exact ⟨t.back b1,c1,c2,c3⟩
 rw [<-hq] at ch
 have HR:Hid (∀ qx w1,Below w.heap.size w w1->w1.heap[qx]?=some (.cells #[.int .u64 2] 81)->Calls prog 41 #[.slice (some ⟨qx,0,none⟩) 1 1,.int .i64 (n:Int)] w1 fun ev w' => ∃ g,ev = .returned (.slice (some ⟨g,0,none⟩) n n)/\w.heap.size<=g/\w'.heap[g]?=some (.cells (Array.replicate n (.int .u64 2)) 81)/\Below w.heap.size w w'):=fun qx w1 b1 hq=>by
  refine (Zax 2 n (by omega) qx 0 w1 (by rw [U06 _ _ _ _ _ _ hq];rfl)).mono ?_
  rintro ev w' ⟨g,rfl,hg,hr,hb⟩
  exact ⟨g,rfl,U0n b1.size hg,hr,b1.trans (hb.mono b1.size)⟩
 have HA:Hid (∀ W,Below w.heap.size w W->W.cell? ⟨bk,0,none⟩=some (.int .i64 kd)/\W.cell? ⟨bs,0,none⟩=some (.int .i64 (n:Int))/\W.cell? ⟨bh,0,none⟩=some (.pointer (some ⟨q,0,none⟩))):=fun W b=>⟨(b.cell (p:=⟨bk,0,none⟩) hbk).trans ck,(b.cell (p:=⟨bs,0,none⟩) hbs).trans cs,(b.cell (p:=⟨bh,0,none⟩) hbh).trans ch⟩
 have HRA:=Z00 (HR.out w.heap.size (w.alloc (.cells #[.int .u64 2] 81)).drew (((U01 _ _).alloc (U02 _) _).drew) (U0b _ _))
 have HAA:=Z00 (HA.out (w.alloc (.cells #[.int .u64 2] 81)).drew (((U01 _ _).alloc (U02 _) _).drew))
 have HA0:=Z00 (HA.out w.drew (U01 _ _).drew)
 clear s hq HR ok os oh hlen k0 k1
 go_enter func70,ntmps70
 go_wp2_with fail
 refine (kw1 _).mono ?_
 rintro ev w1 ⟨rfl,e1⟩
 rw [e1]
 clear e1 w1
 go_wp2_with fail
 refine (kw2 _).mono ?_
 rintro ev w1 ⟨rfl,e1⟩
 rw [e1]
 clear e1 w1
 clear kw1 kw2
 go_upto_region 3 with fail
 go_region_held3 (fun W=>W.cell? ⟨bk,0,none⟩=some (.int .i64 kd)/\W.cell? ⟨bs,0,none⟩=some (.int .i64 (n:Int))/\W.cell? ⟨bh,0,none⟩=some (.pointer (some ⟨q,0,none⟩))) (first | with_reducible exact hS | with_reducible exact HA.out _ hb | with_reducible exact HA0.out | with_reducible exact HAA.out) (first | (go_at_call 41;refine HRA.out.mono ?_;rintro ev w2 ⟨g,rfl,hg,hr,hb⟩) | (go_at_call 71;refine (HL.out _ _ hb hr hg).mono ?_;rintro ev w3 ⟨hP,hS⟩;have HP3:=Z00 hP;obtain ⟨y,e,rfl⟩:=hP.forms;clear hP))
 all_goals go_wp2_with fail
 all_goals go_ret2
 all_goals exact HP3.out
theorem Zs5 (a:Nat->Addr) (kd n:Int) (bk bs bh:Nat) (w:World) (ck:w.cell? ⟨bk,0,none⟩=some (.int .i64 kd)) (cs:w.cell? ⟨bs,0,none⟩=some (.int .i64 n)) (E:MErr a w) (hno:¬ (8<=kd/\kd<=255/\0<=n/\n<=4096)) :
  Calls prog 70 #[.pointer (some ⟨bk,0,none⟩),.pointer (some ⟨bs,0,none⟩),.pointer (some ⟨bh,0,none⟩)] w fun ev w'=>ev = .returned (.tuple #[.int .u64 0,Z0p a 1])/\Below w.heap.size w w':=by
 have kw1:=fun w=>Z0z kd 8 255 w
 have kw2:=fun w=>Z0z n 0 4096 w
 have g1:=E.c1
 clear E
 by_cases c:8<=kd/\kd<=255
 ·rw [show (decide (8<=kd) && decide (kd<=255))=true by simp;omega] at kw1
  rw [show (decide (0<=n) && decide (n<=4096))=false by rw [U1m,U0p,U0p];omega] at kw2
  clear c hno
  go_enter func70,ntmps70
  go_wp2_with fail
  refine (kw1 _).mono ?_
  rintro ev w1 ⟨rfl,e1⟩
  rw [e1]
  clear e1 w1
  go_wp2_with fail
  refine (kw2 _).mono ?_
  rintro ev w1 ⟨rfl,e1⟩
  rw [e1]
  clear e1 w1
  clear kw1 kw2
  go_wp2_with fail
  go_quiet (fail)
  go_wp2_with fail
  go_ret2
  exact ⟨rfl,Z03 (U01 _ _)⟩
 ·rw [show (decide (8<=kd) && decide (kd<=255))=false by rw [U1m,U0p,U0p];omega] at kw1
  clear c hno kw2
  go_enter func70,ntmps70
  go_wp2_with fail
  refine (kw1 _).mono ?_
  rintro ev w1 ⟨rfl,e1⟩
  rw [e1]
  clear e1 w1
  clear kw1
  go_wp2_with fail
  go_quiet (fail)
  go_wp2_with fail
  go_ret2
  exact ⟨rfl,Z03 (U01 _ _)⟩
end
section
open Go.Maps
variable {h:HP}{sr:Int}{m:MD}{w w':World}{a:Nat->Addr}{w0:World}{M:MO}{X:MXtra}
theorem Z9d (args:Array Value) (w:World):(callFunc 77 args).run prog w = .ok (.enter 77 args) w:=by kernel_rfl
theorem Z9z (args:Array Value) (w:World):(callFunc 76 args).run prog w = .ok (.enter 76 args) w:=by kernel_rfl
def Z3s (a:Nat->Addr) (w:World) (k:Nat) (ev:Ending) (w':World):Prop:=ev = .returned (Z0p a k)/\Below w.heap.size w w'
def cl0:CL:=⟨0,0,0⟩
theorem Ztq (φ:Nat->Nat) (n:Nat):(List.replicate n cl0).map (wdC φ)=List.replicate n 2:=by rw [List.map_replicate];rfl
def mkN (kd:Int) (n:Nat):ND:=⟨kd,[],List.replicate n cl0⟩
def MO.made (M:MO) (r:Nat) (d:ND):MO:=⟨M.R.set r ⟨4,0,M.N.length⟩,M.N ++ [d]⟩
theorem Z6s (w:World) (x y z:Obj):∃ w1,w1=((w.alloc x).alloc y).alloc z/\Below w.heap.size w w1/\w1.heap[w.heap.size]?=some x/\w1.heap[w.heap.size+1]?=some y/\w1.heap[w.heap.size+1+1]?=some z:=by
 refine ⟨_,rfl,(((U01 _ _).alloc (U02 _) _).alloc (by simp) _).alloc (by simp;omega) _,?_,?_,?_⟩
 ·obtain ⟨n1,n2⟩:=Z3i w x y
  have b2:Below (w.heap.size+2) ((w.alloc x).alloc y) (((w.alloc x).alloc y).alloc z):=(U01 _ _).alloc (by simp) _
  exact (b2.block _ (by omega)).trans n1
 ·obtain ⟨n1,n2⟩:=Z3i w x y
  have b2:Below (w.heap.size+2) ((w.alloc x).alloc y) (((w.alloc x).alloc y).alloc z):=(U01 _ _).alloc (by simp) _
  exact (b2.block _ (by omega)).trans n2
 ·have h:=U0b ((w.alloc x).alloc y) z
  simpa using h
theorem Zlu (s:HS a w0 h sr m M X w) (r n:Nat) (kd:Int) (hr:r<m.R.length) (k0:8<=kd) (k1:kd<=255) (hn:n<=4096) :
  Calls prog 28 #[.pointer (some ⟨h.q,0,none⟩),.int .i64 (r:Int),.int .i64 kd,.int .i64 (n:Int)] w (Zjg a w0 h m M X (M.made r (mkN kd n)) X (1+(n:Int)) w):=by
 obtain ⟨w1,hw1,b1,n1,n2,n3⟩:=Z6s w (.cells #[.pointer (some ⟨h.q,0,none⟩)] 25) (.cells #[.int .i64 kd] 3) (.cells #[.int .i64 (n:Int)] 3)
 have s1:=s.below b1
 have ch:w1.cell? ⟨w.heap.size,0,none⟩=some (.pointer (some ⟨h.q,0,none⟩)):=by rw [U06 _ _ _ _ _ _ n1];rfl
 have ck:w1.cell? ⟨w.heap.size+1,0,none⟩=some (.int .i64 kd):=by rw [U06 _ _ _ _ _ _ n2];rfl
 have cs:w1.cell? ⟨w.heap.size+1+1,0,none⟩=some (.int .i64 (n:Int)):=by rw [U06 _ _ _ _ _ _ n3];rfl
 have km:=Zob s1 kd n (w.heap.size+1) (w.heap.size+1+1) w.heap.size ck cs ch (s.at'.fresh (by omega)) (s.at'.fresh (by omega)) (s.at'.fresh (by omega)) k0 k1 hn
 have hlen:(List.replicate n (2:Int)).length=n:=U17
 have kb:=(Z1a s1 70 _ Zbd hr (Ztv h m M X kd (List.replicate n 2) w1) (Zt0 a w0 h m M X (List.replicate n 2) w1) (km.mono fun ev w' t=>Zbj s1 hr t)).mono (fun ev w' t=>Zjg.back b1 (Z9b s1 (d:=mkN kd n) rfl (by
  show (if kd<8 then [] else (List.replicate n cl0).map _)=_
  rw [U08 (by omega),Ztq]) (fun _ c hc=>by
  have hc:c∈List.replicate n cl0:=hc
  rw [(U39.1 hc).2]
  exact ⟨by decide,⟨by decide,by decide,by decide⟩⟩) t))
 rw [hlen] at kb
 rw [hw1] at kb
 have HW1:=Z00 hw1
 clear hw1 b1 n1 n2 n3 s1 ch ck cs km hlen s
 go_enter func28,ntmps28
 go_wp2_with fail
 refine kb.mono ?_
 clear kb
 rintro ev w2 (⟨rfl,hP⟩ | ⟨rfl,hP⟩)
 ·have HP':=Z00 hP
  clear hP
  go_wp2_with fail
  go_ret
  exact .inl ⟨rfl,HP'.out⟩
 ·have HP':=Z00 hP
  clear hP
  go_wp2_with fail
  go_ret
  exact .inr ⟨rfl,HP'.out⟩
theorem Zex (s:HS a w0 h sr m M X w) (r kd n:Int) (hr:¬ (0<=r/\r<(m.R.length:Int))) :
  Calls prog 28 #[.pointer (some ⟨h.q,0,none⟩),.int .i64 r,.int .i64 kd,.int .i64 n] w (Z3s a w 4):=by
 obtain ⟨w1,hw1,b1,n1,n2,n3⟩:=Z6s w (.cells #[.pointer (some ⟨h.q,0,none⟩)] 25) (.cells #[.int .i64 kd] 3) (.cells #[.int .i64 n] 3)
 have kb:=fun f=>Z3a (s.below b1) f hr
 rw [hw1] at kb
 have HB:Hid (Below w.heap.size w (((w.alloc (.cells #[.pointer (some ⟨h.q,0,none⟩)] 25)).alloc (.cells #[.int .i64 kd] 3)).alloc (.cells #[.int .i64 n] 3))):=by rw [<-hw1];exact b1
 have HW1:=Z00 hw1
 clear hw1 b1 n1 n2 n3 s
 go_enter func28,ntmps28
 go_wp2_with fail
 refine (kb _).mono ?_
 clear kb
 rintro ev w2 ⟨rfl,e⟩
 have HB2:=Z00 (HB.out.trans (e.mono HB.out.size))
 clear e
 go_wp2_with fail
 go_ret
 exact ⟨rfl,HB2.out⟩
theorem Zge (s:HS a w0 h sr m M X w) (r:Nat) (kd n:Int) (hr:r<m.R.length) (hno:¬ (8<=kd/\kd<=255/\0<=n/\n<=4096)) :
  Calls prog 28 #[.pointer (some ⟨h.q,0,none⟩),.int .i64 (r:Int),.int .i64 kd,.int .i64 n] w (Z3s a w 1):=by
 obtain ⟨w1,hw1,b1,n1,n2,n3⟩:=Z6s w (.cells #[.pointer (some ⟨h.q,0,none⟩)] 25) (.cells #[.int .i64 kd] 3) (.cells #[.int .i64 n] 3)
 have s1:=s.below b1
 have ck:w1.cell? ⟨w.heap.size+1,0,none⟩=some (.int .i64 kd):=by rw [U06 _ _ _ _ _ _ n2];rfl
 have cs:w1.cell? ⟨w.heap.size+1+1,0,none⟩=some (.int .i64 n):=by rw [U06 _ _ _ _ _ _ n3];rfl
 have km:=Zs5 a kd n (w.heap.size+1) (w.heap.size+1+1) w.heap.size w1 ck cs s1.benv.five hno
 have kb:=(Z1a s1 70 _ Zbd hr (fun _ _ _ _ _=>False) (fun k w'=>k=1/\Below w1.heap.size w1 w') (km.mono fun ev w' t=>.inr ⟨1,t.1,rfl,t.2⟩)).mono (R':=Z3s a w 1) (by
  rintro ev w' (⟨_,_,_,_,_,_,hf,_⟩ | ⟨k,rfl,rfl,hb⟩)
  ·exact hf.elim
  ·exact ⟨rfl,b1.trans (hb.mono b1.size)⟩)
 rw [hw1] at kb
 have HW1:=Z00 hw1
 clear hw1 b1 n1 n2 n3 s1 ck cs km s
 go_enter func28,ntmps28
 go_wp2_with fail
 refine kb.mono ?_
 clear kb
 rintro ev w2 ⟨rfl,hP⟩
 have HP':=Z00 hP
 clear hP
 go_wp2_with fail
 go_ret
 exact ⟨rfl,HP'.out⟩
end
section
open Go.Maps
variable {h:HP}{sr:Int}{m:MD}{w w':World}{a:Nat->Addr}{w0:World}{M:MO}{X:MXtra}
def MO.set (M:MO) (r:Nat) (c:CL):MO:={ M with R:=M.R.set r c }
theorem Zc5 {h':HP}{sr':Int}{n:MD}{w1:World}{y:Int}{r:Nat}{c:CL} (s:HS a w0 h sr m M X w) (N:Nxt h h' w w1) (N':Nxt h' h' w1 w') (D:Dim m n) (H:HAt h' sr' { n with R:=n.R.set r y } w') (hm:HM { n with R:=n.R.set r y } sr' (M.set r c) X):Stp a w0 h m (M.set r c) X w w':=
 ⟨h',sr',{ n with R:=n.R.set r y },N.trans N',⟨D.half,D.old,D.card⟩,s.next (N.trans N') H hm s.kl (by show (M.R.set r c).length<=5000;rw [U0t];exact s.rl)⟩
def clK (n:Nat):CL:=⟨n,0,0⟩
theorem Zsy (φ:Nat->Nat) {n:Nat} (hn:n<=2):wdC φ (clK n)=(n:Int)*4+2:=by
 unfold wdC clK
 rw [U08 (by show ¬ n=4;omega),U08 (by show ¬ n=3;omega)]
theorem Zsb (n:Nat) (hn:n<=2) (w:World) (bn:Nat) (hc:w.cell? ⟨bn,0,none⟩=some (.int .i64 (n:Int))) :
  Calls prog 77 #[.pointer (some ⟨bn,0,none⟩)] w fun ev w'=>ev = .returned (.tuple #[.int .u64 ((n:Int)*4+2),.nilIface])/\Below w.heap.size w w':=by
 have k:=Zb8 (n:Int) (by omega) (by omega) w
 go_enter func77,ntmps77
 go_wp2_with fail
 refine k.mono ?_
 clear k
 rintro ev w1 ⟨rfl,b1⟩
 go_wp2_with fail
 go_ret2
 exact ⟨rfl,b1⟩
theorem Zi2 (a:Nat->Addr) (n:Int) (hn:n<0\/2<n) (w:World) (E:WErr a w) (bn:Nat) (hc:w.cell? ⟨bn,0,none⟩=some (.int .i64 n)) :
  Calls prog 77 #[.pointer (some ⟨bn,0,none⟩)] w fun ev w'=>ev = .returned (.tuple #[.int .u64 0,Z0p a 1])/\Below w.heap.size w w':=by
 have k:=Za4 a n hn w E
 clear E
 go_enter func77,ntmps77
 go_wp2_with fail
 refine k.mono ?_
 clear k
 rintro ev w1 ⟨rfl,b1⟩
 go_wp2_with fail
 go_ret2
 exact ⟨rfl,b1⟩
theorem Zj0 (s:HS a w0 h sr m M X w) (r n:Nat) (hr:r<m.R.length) (hn:n<=2) :
  Calls prog 32 #[.pointer (some ⟨h.q,0,none⟩),.int .i64 (r:Int),.int .i64 (n:Int)] w fun ev w'=>ev = .returned .nilIface/\Stp a w0 h m (M.set r (clK n)) X w w':=by
 obtain ⟨w1,hw1⟩:∃ w1,w1=w.alloc (.cells #[.int .i64 (n:Int)] 3):=⟨_,rfl⟩
 have b1:Below w.heap.size w w1:=by rw [hw1];exact (U01 _ _).alloc (U02 _) _
 have n1:w1.heap[w.heap.size]?=some (.cells #[.int .i64 (n:Int)] 3):=by rw [hw1];exact U0b _ _
 have s1:=s.below b1
 have cn:w1.cell? ⟨w.heap.size,0,none⟩=some (.int .i64 (n:Int)):=by rw [U06 _ _ _ _ _ _ n1];rfl
 have kb:=(Z1a s1 77 _ Z9d hr (fun y h' sr' n' w'=>y=(n:Int)*4+2/\h'=h/\sr'=sr/\n'=m/\Below w1.heap.size w1 w') (fun _ _=>False) ((Zsb n hn w1 w.heap.size cn).mono fun ev w' t=>.inl ⟨_,h,sr,m,t.1,s1.at'.below t.2,rfl,hr,rfl,rfl,rfl,rfl,t.2⟩)).mono (R':=fun ev w'=>ev = .returned .nilIface/\Stp a w0 h m (M.set r (clK n)) X w w') (by
  rintro ev w' (⟨y,h',sr',n',w2,rfl,⟨rfl,rfl,rfl,rfl,hb⟩,H,N'⟩ | ⟨k,rfl,hf⟩)
  ·have hm:=s.hm.plain r (c:=clK n) (by show ¬ n=4;omega) ⟨by show n<=4;omega,fun e=>by have e:n=3:=e;omega,fun e=>by have e:n=3:=e;omega⟩
   rw [Zsy _ hn] at hm
   exact ⟨rfl,Zc5 s (Nxt.of_below _ (b1.trans (hb.mono b1.size))) N' (Dim.refl _) H hm⟩
  ·exact hf.elim)
 rw [hw1] at kb
 clear hw1 b1 n1 s1 cn s
 go_enter func32,ntmps32
 go_wp2_with fail
 refine kb.mono ?_
 clear kb
 rintro ev w2 ⟨rfl,hP⟩
 have HP':=Z00 hP
 clear hP
 go_wp2_with fail
 go_ret
 exact ⟨rfl,HP'.out⟩
theorem Zss (s:HS a w0 h sr m M X w) (j bh bf:Nat) (hj:j<m.R.length) (ch:w.cell? ⟨bh,0,none⟩=some (.pointer (some ⟨h.q,0,none⟩))) (cf:w.cell? ⟨bf,0,none⟩=some (.int .i64 (j:Int))) :
  Calls prog 76 #[.pointer (some ⟨bh,0,none⟩),.pointer (some ⟨bf,0,none⟩)] w fun ev w'=>ev = .returned (.tuple #[.int .u64 (m.R.getD j 0),.nilIface])/\Below w.heap.size w w':=by
 have kr:Hid (∀ k,Calls prog 73 #[.pointer (some ⟨h.q,0,none⟩),.int .i64 (j:Int)] (w.drewN k) fun ev w'=>ev = .returned (.tuple #[.int .u64 (m.R.getD j 0),.nilIface])/\w'=w.drewN k):=fun k=>(s.below (w':=w.drewN k) (Z03 (U01 _ _))).rootOk hj
 obtain ⟨q,hq⟩:∃ q,q=h.q:=⟨_,rfl⟩
 rw [<-hq] at kr ch
 obtain ⟨x,hx⟩:∃ x,x=m.R.getD j 0:=⟨_,rfl⟩
 rw [<-hx] at kr ⊢
 clear s hq hx
 go_enter func76,ntmps76
 go_upto_region 1 with fail
 go_quiet (first | (go_at_call 73;exact U0q (kr.out _)))
 go_wp2_with fail
 go_ret2
 exact ⟨rfl,Z03 (U01 _ _)⟩
theorem Zlm (s:HS a w0 h sr m M X w) (r j:Nat) (c:CL) (hr:r<m.R.length) (hj:M.R[j]?=some c) :
  Calls prog 31 #[.pointer (some ⟨h.q,0,none⟩),.int .i64 (r:Int),.int .i64 (j:Int)] w fun ev w'=>ev = .returned .nilIface/\Stp a w0 h m (M.set r c) X w w':=by
 obtain ⟨w1,hw1⟩:∃ w1,w1=(w.alloc (.cells #[.pointer (some ⟨h.q,0,none⟩)] 25)).alloc (.cells #[.int .i64 (j:Int)] 3):=⟨_,rfl⟩
 obtain ⟨n1,n2⟩:=Z3i w (.cells #[.pointer (some ⟨h.q,0,none⟩)] 25) (.cells #[.int .i64 (j:Int)] 3)
 rw [<-hw1] at n1 n2
 have b1:Below w.heap.size w w1:=by rw [hw1];exact ((U01 _ _).alloc (U02 _) _).alloc (by simp) _
 have s1:=s.below b1
 have ch:w1.cell? ⟨w.heap.size,0,none⟩=some (.pointer (some ⟨h.q,0,none⟩)):=by rw [U06 _ _ _ _ _ _ n1];rfl
 have cf:w1.cell? ⟨w.heap.size+1,0,none⟩=some (.int .i64 (j:Int)):=by rw [U06 _ _ _ _ _ _ n2];rfl
 have hjl:j<m.R.length:=by rw [s.hm.roots];exact (U0e.1 hj).1
 obtain ⟨x,hx,hm⟩:=s.hm.copy r hj
 have ex:m.R.getD j 0=x:=by rw [U07,hx];rfl
 have k1:=Zss s1 j _ _ hjl ch cf
 rw [ex] at k1
 have kb:=(Z1a s1 76 _ Z9z hr (fun y h' sr' n' w'=>y=x/\h'=h/\sr'=sr/\n'=m/\Below w1.heap.size w1 w') (fun _ _=>False) (k1.mono fun ev w' t=>.inl ⟨_,h,sr,m,t.1,s1.at'.below t.2,rfl,hr,rfl,rfl,rfl,rfl,t.2⟩)).mono (R':=fun ev w'=>ev = .returned .nilIface/\Stp a w0 h m (M.set r c) X w w') (by
  rintro ev w' (⟨y,h',sr',n',w2,rfl,⟨rfl,rfl,rfl,rfl,hb⟩,H,N'⟩ | ⟨k,rfl,hf⟩)
  ·exact ⟨rfl,Zc5 s (Nxt.of_below _ (b1.trans (hb.mono b1.size))) N' (Dim.refl _) H hm⟩
  ·exact hf.elim)
 rw [hw1] at kb
 clear hw1 b1 n1 n2 s1 ch cf k1 s
 go_enter func31,ntmps31
 go_wp2_with fail
 refine kb.mono ?_
 clear kb
 rintro ev w2 ⟨rfl,hP⟩
 have HP':=Z00 hP
 clear hP
 go_wp2_with fail
 go_ret
 exact ⟨rfl,HP'.out⟩
end
section
open Go.Maps
variable {h:HP}{sr:Int}{m:MD}{w w':World}{a:Nat->Addr}{w0:World}{M:MO}{X:MXtra}
theorem Z4v (tmps:Array Value) (W:World) (b:Nat) (v0 v1 v2 v3:Value) (h2:tmps[5]?.getD undef = .pointer (some ⟨b,0,none⟩)) (c0:W.cell? ⟨b,0,none⟩=some v0) (c1:W.cell? ⟨b,1,none⟩=some v1) (c2:W.cell? ⟨b,2,none⟩=some v2) (c3:W.cell? ⟨b,3,none⟩=some v3) :
  (results f121 tmps).run prog W = .ok (.tuple #[tmps[4]?.getD undef,.agg #[v0,v1,v2,v3],tmps[6]?.getD undef]) W:=by
 simp [results,Tryz.results121,go_sem,h2,c0,c1,c2,c3]
theorem Zhx (q p b nW cW f:Nat) (y:Int) (hf:f<nW) (hW:nW<=300000) (h0:0<=y) (h1:y<18446744073709551616) (hh:Z0t y=true) (w:World) (c0:w.cell? ⟨q,0,none⟩=some (.pointer (some ⟨p,0,none⟩))) (c3:w.cell? ⟨p,3,none⟩=some (.slice (some ⟨b,0,none⟩) nW cW)) (cf:w.cell? ⟨b,f,none⟩=some (.int .u64 y)) :
  Calls prog 121 #[.pointer (some ⟨q,0,none⟩),.int .u64 (((f:Int)+1)*4)] w fun ev w'=>ev = .returned (.tuple #[.int .i64 (f:Int),Z1o y,.bool true])/\Below w.heap.size w w':=by
 have ht:=Z3h (((f:Int)+1)*4) (by omega) (by omega) (by omega) (w.alloc (.cells #[.int .i64 0,.int .i64 0,.int .i64 0,.int .i64 0] 172))
 have hfx:((f:Int)+1)*4 / 4 - 1=(f:Int):=by omega
 rw [hfx] at ht
 unfold Z0t at hh
 have hh':=U0j hh
 have hI:(f:Int)<(nW:Int):=by omega
 have hI0:(0:Int)<=(f:Int):=by omega
 obtain ⟨x,hx⟩:∃ x,x=((f:Int)+1)*4:=⟨_,rfl⟩
 rw [<-hx] at ht ⊢
 have hba:Below w.heap.size w (w.alloc (.cells #[.int .i64 0,.int .i64 0,.int .i64 0,.int .i64 0] 172)):=(U01 _ _).alloc (U02 _) _
 have hna:=U0b w (.cells #[.int .i64 0,.int .i64 0,.int .i64 0,.int .i64 0] 172)
 have kh:Hid (∀ w,Calls prog 105 #[.int .u64 y] w fun ev w'=>ev = .returned (.tuple #[Z1o y,.nilIface])/\Below w.heap.size w w'):=fun w=>Z2c y h0 h1 hh'.1 hh'.2.1 hh'.2.2 w
 have HC:Hid (∀ W,Below w.heap.size w W->W.cell? ⟨q,0,none⟩=some (.pointer (some ⟨p,0,none⟩))/\W.cell? ⟨p,3,none⟩=some (.slice (some ⟨b,0,none⟩) nW cW)/\W.cell? ⟨b,f,none⟩=some (.int .u64 y)):=fun W hW =>
  ⟨(hW.cell (p:=⟨q,0,none⟩) (Z02 c0)).trans c0,(hW.cell (p:=⟨p,3,none⟩) (Z02 c3)).trans c3,(hW.cell (p:=⟨b,f,none⟩) (Z02 cf)).trans cf⟩
 clear hfx hh hx hh' h0 h1 c0 c3 cf
 unfold Z1o at kh ⊢
 generalize y / 4 % 256=kd at kh ⊢
 generalize y / 1024 % 16=ag at kh ⊢
 generalize y / 16384 % 2=mk at kh ⊢
 generalize y / 65536=sz at kh ⊢
 go_enter func121,ntmps121
 go_wp2_with fail
 generalize w.alloc (.cells #[.int .i64 0,.int .i64 0,.int .i64 0,.int .i64 0] 172)=wa at *
 obtain ⟨o,ho⟩:∃ o,o=w.heap.size:=⟨_,rfl⟩
 rw [<-ho] at hna ⊢
 have HQL:Hid (w.heap.size<=o):=U31 ho.symm
 clear ho
 refine ht.mono ?_
 rintro ev w1 ⟨rfl,hw1a⟩
 have hw1:=hba.trans (hw1a.mono hba.size)
 have hn1:=(hw1a.block o (Z01 hna)).trans hna
 have HN1:=Z00 hn1
 obtain ⟨d0,d3,df⟩:=HC.out w1 hw1
 clear ht hn1 hw1a hba hna
 go_wp2_with fail
 refine (kh.out w1).mono ?_
 rintro ev w2 ⟨rfl,hw2⟩
 clear kh
 have hn2:=(hw2.block o (Z01 HN1.out)).trans HN1.out
 obtain ⟨r0,r1,r2,r3,rf⟩:=Z0e hn2
 have rf0:=rf 0
 have rf1:=rf 1
 have rf2:=rf 2
 have rf3:=rf 3
 have hn3:=Zal hn2 (.int .i64 kd) (.int .i64 ag) (.int .i64 mk) (.int .i64 sz)
 have hw3:=Z1w (hw1.trans (hw2.mono hw1.size)) HQL.out (.int .i64 kd) (.int .i64 ag) (.int .i64 mk) (.int .i64 sz)
 unfold Zjq at hn3 hw3
 clear hn2 rf
 go_upto_region 5 with fail
 generalize (((w2.setCell ⟨o,0,none⟩ (.int .i64 kd)).setCell ⟨o,1,none⟩ (.int .i64 ag)).setCell ⟨o,2,none⟩ (.int .i64 mk)).setCell ⟨o,3,none⟩ (.int .i64 sz)=w3 at *
 have HN3:=Z00 hn3
 obtain ⟨s0,s1,s2,s3,sf⟩:=Z0e hn3
 have sf0:=sf 0
 have sf1:=sf 1
 have sf2:=sf 2
 have sf3:=sf 3
 clear r0 r1 r2 r3 rf0 rf1 rf2 rf3 hn3 sf d0 d3 df
 go_region
 all_goals go_wp2_with fail
 all_goals obtain ⟨t0,t1,t2,t3⟩:=Z26 s0 s1 s2 s3 (.int .i64 kd) (.int .i64 ag) (.int .i64 mk) (.int .i64 sz)
 all_goals refine U2n (Z4v _ _ o _ _ _ _ rfl t0 t1 t2 t3) rfl ?_
 all_goals exact ⟨rfl,(Z1w hw3 HQL.out _ _ _ _).drew⟩
theorem Zix (a:Nat->Addr) (q:Nat) (x:Int) (h0:0<=x) (h1:x<18446744073709551616) (hc:¬ (x % 4=0/\4<=x/\x / 4 - 1<=1099511627776)) (w:World) (E:WErr a w) :
  Calls prog 121 #[.pointer (some ⟨q,0,none⟩),.int .u64 x] w fun ev w'=>ev = .returned (.tuple #[.int .i64 0,Z1o 0,.bool false])/\Below w.heap.size w w':=by
 unfold Z1o
 have hba:Below w.heap.size w (w.alloc (.cells #[.int .i64 0,.int .i64 0,.int .i64 0,.int .i64 0] 172)):=(U01 _ _).alloc (U02 _) _
 have hna:=U0b w (.cells #[.int .i64 0,.int .i64 0,.int .i64 0,.int .i64 0] 172)
 have ht:=Z67 a x h0 h1 hc (w.alloc (.cells #[.int .i64 0,.int .i64 0,.int .i64 0,.int .i64 0] 172)) (E.below hba)
 unfold Z0p at ht
 clear hc h0 h1 E
 go_enter func121,ntmps121
 go_wp2_with fail
 generalize w.alloc (.cells #[.int .i64 0,.int .i64 0,.int .i64 0,.int .i64 0] 172)=wa at *
 obtain ⟨o,ho⟩:∃ o,o=w.heap.size:=⟨_,rfl⟩
 rw [<-ho] at hna ⊢
 have HQL:Hid (w.heap.size<=o):=U31 ho.symm
 clear ho
 refine ht.mono ?_
 rintro ev w1 ⟨rfl,hw1a⟩
 have hw1:=hba.trans (hw1a.mono hba.size)
 have hn1:=(hw1a.block o (Z01 hna)).trans hna
 obtain ⟨r0,r1,r2,r3,rf⟩:=Z0e hn1
 have rf0:=rf 0
 have rf1:=rf 1
 have rf2:=rf 2
 have rf3:=rf 3
 clear rf hn1 hna ht hw1a hba
 go_wp2_with fail
 obtain ⟨t0,t1,t2,t3⟩:=Z26 r0 r1 r2 r3 (.int .i64 0) (.int .i64 0) (.int .i64 0) (.int .i64 0)
 refine U2n (Z4v _ _ o _ _ _ _ rfl t0 t1 t2 t3) rfl ?_
 exact ⟨rfl,Z1w hw1 HQL.out _ _ _ _⟩
end
end Go.Proofs.YtlkcbdinlfeoiaaGreatDoor
