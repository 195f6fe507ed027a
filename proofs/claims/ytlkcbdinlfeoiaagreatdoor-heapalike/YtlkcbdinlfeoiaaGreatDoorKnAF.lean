/- A memory of one's own that is written into; Alloc of an object without fields, by contracts. -/
import Derived.Test.YtlkcbdinlfeoiaaGreatDoorKnAE
import Derived.Laws.CopyOwn
namespace Go.Proofs.YtlkcbdinlfeoiaaGreatDoor
open Go.Proofs.Tryz Go.RowKit
set_option maxHeartbeats 8000000
set_option maxRecDepth 100000
set_option linter.unusedSimpArgs false
theorem Za9 {w:World}{base e n g cap j:Nat}{xs:List Value}{u:Value} (h:w.ownsRow base e 1 (.slice (some ⟨g,0,none⟩) n cap) n xs):∃ xs',(w.setCell ⟨g,j,none⟩ u).ownsRow base e 1 (.slice (some ⟨g,0,none⟩) n cap) n xs':=by
 obtain ⟨h1,h2⟩:=h
 rcases h2 with ⟨h2,_⟩ | ⟨g',cap',cur,e1,hb,hg,hc,hm,hs,ht⟩
 ·cases h2
 ·cases e1
  refine ⟨(cur.setIfInBounds j u).toList.take (n*1),⟨?_,.inr ⟨g,cap,_,rfl,hb,Z06 hg,hc,hm,by simp [hs],rfl⟩⟩⟩
  rw [U1k]
  simp [hs]
  omega
structure YS (w0:World) (bx:Nat) (vW vR vK vI vC:Value) (nW nC:Nat) (w:World):Prop where
 below:Below w0.heap.size w0 w
 lo:w0.heap.size<=bx
 ob:∃ h ol c u t ot,OB 84 bx h ol c vW u t ot vR vK vI vC w
 wr:∃ xs,w.ownsRow (bx+1) 81 1 vW nW xs
 cr:∃ xs,w.ownsRow (bx+1) 4 1 vC nC xs
 rr:∃ n xs,n<=300000/\w.ownsRow (bx+1) 81 1 vR n xs
 wc:∀ g,vW.ownBlock=some g->vC.ownBlock≠some g
 wR:∀ g,vW.ownBlock=some g->vR.ownBlock≠some g
 cR:∀ g,vC.ownBlock=some g->vR.ownBlock≠some g
theorem YS.keep {w0:World}{bx:Nat}{vW vR vK vI vC:Value}{nW nC:Nat}{w w':World} (Y:YS w0 bx vW vR vK vI vC nW nC w) (hb:Below w.heap.size w w'):YS w0 bx vW vR vK vI vC nW nC w':=by
 obtain ⟨h1,h2,⟨h,ol,c,u,t,ot,h3⟩,⟨xW,h4⟩,⟨xC,h5⟩,⟨n,xR,h6,h7⟩,h8,h9,h10⟩:=Y
 have f:∀ k,k<w.heap.size->w'.heap[k]?=w.heap[k]?:=hb.block
 exact ⟨h1.trans (hb.mono h1.size),h2,⟨h,ol,c,u,t,ot,(f bx (Z01 h3)).trans h3⟩,⟨xW,Z04 h4 (fun k hk=>f k (Z08 h4 k hk).2)⟩,⟨xC,Z04 h5 (fun k hk=>f k (Z08 h5 k hk).2)⟩,⟨n,xR,h6,Z04 h7 (fun k hk=>f k (Z08 h7 k hk).2)⟩,h8,h9,h10⟩
theorem YS.setW {w0:World}{bx g cap j:Nat}{vR vK vI vC u:Value}{nW nC:Nat}{w:World} (Y:YS w0 bx (.slice (some ⟨g,0,none⟩) nW cap) vR vK vI vC nW nC w):YS w0 bx (.slice (some ⟨g,0,none⟩) nW cap) vR vK vI vC nW nC (w.setCell ⟨g,j,none⟩ u):=by
 obtain ⟨h1,h2,⟨h,ol,c,u',t,ot,h3⟩,⟨xW,h4⟩,⟨xC,h5⟩,⟨n,xR,h6,h7⟩,h8,h9,h10⟩:=Y
 have hg:=Z08 h4 g rfl
 refine ⟨h1.setCell (show w0.heap.size<=g by omega) _,h2,⟨h,ol,c,u',t,ot,(Z0a _ _ _ _ _ (by omega)).trans h3⟩,Za9 h4,⟨xC,Z04 h5 (fun k hk=>Z0a _ _ _ _ _ (fun e=>h8 g rfl (by rw [hk,e])))⟩,⟨n,xR,h6,Z04 h7 (fun k hk=>Z0a _ _ _ _ _ (fun e=>h9 g rfl (by rw [hk,e])))⟩,h8,h9,h10⟩
theorem YS.setC {w0:World}{bx g cap j:Nat}{vR vK vI vW u:Value}{nW nC:Nat}{w:World} (Y:YS w0 bx vW vR vK vI (.slice (some ⟨g,0,none⟩) nC cap) nW nC w):YS w0 bx vW vR vK vI (.slice (some ⟨g,0,none⟩) nC cap) nW nC (w.setCell ⟨g,j,none⟩ u):=by
 obtain ⟨h1,h2,⟨h,ol,c,u',t,ot,h3⟩,⟨xW,h4⟩,⟨xC,h5⟩,⟨n,xR,h6,h7⟩,h8,h9,h10⟩:=Y
 have hg:=Z08 h5 g rfl
 refine ⟨h1.setCell (show w0.heap.size<=g by omega) _,h2,⟨h,ol,c,u',t,ot,(Z0a _ _ _ _ _ (by omega)).trans h3⟩,⟨xW,Z04 h4 (fun k hk=>Z0a _ _ _ _ _ (fun e=>h8 k hk (by rw [e];rfl)))⟩,Za9 h5,⟨n,xR,h6,Z04 h7 (fun k hk=>Z0a _ _ _ _ _ (fun e=>h10 g rfl (by rw [hk,e])))⟩,h8,h9,h10⟩
theorem Zbk {w w2:World}{lo hi lo2 hi2 e s e2 s2 n n2:Nat}{v v2:Value}{xs xs2:List Value} (h:Zrn w lo hi e s v n xs) (h2:Zrn w2 lo2 hi2 e2 s2 v2 n2 xs2) (hle:hi<=lo2):∀ g,v.ownBlock=some g->v2.ownBlock≠some g:=fun g hg hg2=>by
 have a:=h.2 g hg
 have b:=(Z08 h2.1 g hg2).1
 omega
theorem Zb3 {w:World}{lo lo' e s n:Nat}{v:Value}{xs:List Value} (h:w.ownsRow lo e s v n xs) (hle:lo'<=lo):w.ownsRow lo' e s v n xs:=⟨h.1,h.2.imp id fun ⟨g,cap,cur,a,b,r⟩=>⟨g,cap,cur,a,U0n hle b,r⟩⟩
theorem Zqp.ys {w0:World}{bx:Nat}{h ol c u t ot:Int}{vW vR vK vI vC:Value}{nW nR nK nI nC:Nat}{xW xR xK xI xC:List Value}{w:World} (hR:nR<=300000) (S:Zqp 84 w0 bx h ol c vW u t ot vR vK vI vC [(81,1,vW,nW,xW),(81,1,vR,nR,xR),(81,1,vK,nK,xK),(123,2,vI,nI,xI),(4,1,vC,nC,xC)] w):YS w0 bx vW vR vK vI vC nW nC w:=by
 obtain ⟨h1,h2,h3,t1,q1,r1,t2,q2,r2,t3,q3,r3,t4,q4,r4,t5,q5,r5,_⟩:=S
 exact ⟨h1,h2,⟨h,ol,c,u,t,ot,h3⟩,⟨xW,r1.1⟩,⟨xC,Zb3 r5.1 (by omega)⟩,⟨nR,xR,hR,Zb3 r2.1 (by omega)⟩,Zbk r1 r5 (by omega),Zbk r1 r2 (by omega),fun g hg hg2=>Zbk r2 r5 (by omega) g hg2 hg⟩
theorem Zqp.repP {w0:World}{bx:Nat}{m:MD}{vW vR vK vI vC:Value}{w:World} (S:Zqp 84 w0 bx m.half m.old m.card vW m.used m.top m.oldTop vR vK vI vC [(81,1,vW,m.W.length,Z05 m.W),(81,1,vR,m.R.length,Z05 m.R),(81,1,vK,m.K.length,Z05 m.K),(123,2,vI,m.I.length,Z2e m.I),(4,1,vC,m.C.length,Z0s m.C)] w):Z86 bx m w:=by
 obtain ⟨h1,h2,h3,t1,q1,r1,t2,q2,r2,t3,q3,r3,t4,q4,r4,t5,q5,r5,_⟩:=S
 exact ⟨vW,vR,vK,vI,vC,Z01 h3,OB.mem h3 |>.1,Z6m r1.1,Z2p r2.1,Z2p r3.1,Z2p r4.1,Z6m r5.1⟩
def Zqm (B bx:Nat) (m:MD) (w:World):Prop:=∃ vW vR vK vI vC,B<=bx/\OB 84 bx m.half m.old m.card vW m.used m.top m.oldTop vR vK vI vC w/\w.ownsRow B 81 1 vW m.W.length (Z05 m.W)/\w.ownsRow B 81 1 vR m.R.length (Z05 m.R)/\w.ownsRow B 81 1 vK m.K.length (Z05 m.K)/\w.ownsRow B 123 2 vI m.I.length (Z2e m.I)/\w.ownsRow B 4 1 vC m.C.length (Z0s m.C) /\
 (∀ v ∈ [vW,vR,vK,vI,vC],v.ownBlock≠some bx)/\(∀ v ∈ [vR,vK,vI,vC],∀ g,vW.ownBlock=some g->v.ownBlock≠some g)/\(∀ v ∈ [vW,vR,vK,vI],∀ g,vC.ownBlock=some g->v.ownBlock≠some g)
theorem Zqm.repP {B bx:Nat}{m:MD}{w:World} (h:Zqm B bx m w):Z86 bx m w:=by
 obtain ⟨vW,vR,vK,vI,vC,_,hO,r1,r2,r3,r4,r5,_⟩:=h
 exact ⟨vW,vR,vK,vI,vC,Z01 hO,(OB.mem hO).1,Z6m r1,Z2p r2,Z2p r3,Z2p r4,Z6m r5⟩
theorem Zho {w:World}{base e n g cap j:Nat}{xs:List Value}{u:Value} (h:w.ownsRow base e 1 (.slice (some ⟨g,0,none⟩) n cap) n xs):(w.setCell ⟨g,j,none⟩ u).ownsRow base e 1 (.slice (some ⟨g,0,none⟩) n cap) n (xs.set j u):=by
 obtain ⟨h1,h2⟩:=h
 rcases h2 with ⟨h2,_⟩ | ⟨g',cap',cur,e1,hb,hg,hc,hm,hs,ht⟩
 ·cases h2
 ·cases e1
  refine ⟨by rw [U0t];exact h1,.inr ⟨g,cap,_,rfl,hb,Z06 hg,hc,hm,by simp [hs],?_⟩⟩
  rw [U42,List.take_set,ht]
theorem Zqm.below {B bx:Nat}{m:MD}{w w':World} (h:Zqm B bx m w) (hb:Below w.heap.size w w'):Zqm B bx m w':=by
 obtain ⟨vW,vR,vK,vI,vC,h0,hO,r1,r2,r3,r4,r5,hr⟩:=h
 have f:∀ k,k<w.heap.size->w'.heap[k]?=w.heap[k]?:=hb.block
 exact ⟨vW,vR,vK,vI,vC,h0,(f bx (Z01 hO)).trans hO,Z04 r1 (fun k hk=>f k (Z08 r1 k hk).2),Z04 r2 (fun k hk=>f k (Z08 r2 k hk).2),Z04 r3 (fun k hk=>f k (Z08 r3 k hk).2),Z04 r4 (fun k hk=>f k (Z08 r4 k hk).2),Z04 r5 (fun k hk=>f k (Z08 r5 k hk).2),hr⟩
def Zcg (B bx:Nat) (m:MD) (vW vR vK vI vC:Value) (w:World):Prop:=B<=bx/\OB 84 bx m.half m.old m.card vW m.used m.top m.oldTop vR vK vI vC w/\w.ownsRow B 81 1 vW m.W.length (Z05 m.W)/\w.ownsRow B 81 1 vR m.R.length (Z05 m.R)/\w.ownsRow B 81 1 vK m.K.length (Z05 m.K)/\w.ownsRow B 123 2 vI m.I.length (Z2e m.I)/\w.ownsRow B 4 1 vC m.C.length (Z0s m.C) /\
 (∀ v ∈ [vW,vR,vK,vI,vC],v.ownBlock≠some bx)/\(∀ v ∈ [vR,vK,vI,vC],∀ g,vW.ownBlock=some g->v.ownBlock≠some g)/\(∀ v ∈ [vW,vR,vK,vI],∀ g,vC.ownBlock=some g->v.ownBlock≠some g)
theorem Zqm.named {B bx:Nat}{m:MD}{w:World} (h:Zqm B bx m w):∃ vW vR vK vI vC,Zcg B bx m vW vR vK vI vC w:=h
theorem Zcg.own {B bx:Nat}{m:MD}{vW vR vK vI vC:Value}{w:World} (h:Zcg B bx m vW vR vK vI vC w):Zqm B bx m w:=⟨vW,vR,vK,vI,vC,h⟩
theorem Zcg.below {B bx:Nat}{m:MD}{vW vR vK vI vC:Value}{w w':World} (h:Zcg B bx m vW vR vK vI vC w) (hb:Below w.heap.size w w'):Zcg B bx m vW vR vK vI vC w':=by
 obtain ⟨h0,hO,r1,r2,r3,r4,r5,hr⟩:=h
 have f:∀ k,k<w.heap.size->w'.heap[k]?=w.heap[k]?:=hb.block
 exact ⟨h0,(f bx (Z01 hO)).trans hO,Z04 r1 (fun k hk=>f k (Z08 r1 k hk).2),Z04 r2 (fun k hk=>f k (Z08 r2 k hk).2),Z04 r3 (fun k hk=>f k (Z08 r3 k hk).2),Z04 r4 (fun k hk=>f k (Z08 r4 k hk).2),Z04 r5 (fun k hk=>f k (Z08 r5 k hk).2),hr⟩
theorem Zcg.mem {B bx:Nat}{m:MD}{vW vR vK vI vC:Value}{w:World} (h:Zcg B bx m vW vR vK vI vC w):MemAt bx m.half m.old m.card vW m.used m.top m.oldTop vR vK vI vC w:=(OB.mem h.2.1).1
def MD.setW (m:MD) (j:Nat) (x:Int):MD:={ m with W:=m.W.set j x }
def MD.setC (m:MD) (j:Nat) (c:Bool):MD:={ m with C:=m.C.set j c }
theorem Zks (l:List Int) (j:Nat) (x:Int):Z05 (l.set j x)=(Z05 l).set j (.int .u64 x):=by simp [Z05,U35]
theorem Zm2 (l:List Bool) (j:Nat) (x:Bool):Z0s (l.set j x)=(Z0s l).set j (.bool x):=by simp [Z0s,U35]
theorem Zcg.setW {B bx g cap n:Nat}{m:MD}{vR vK vI vC:Value}{w:World} (h:Zcg B bx m (.slice (some ⟨g,0,none⟩) n cap) vR vK vI vC w) (j:Nat) (x:Int):Zcg B bx (m.setW j x) (.slice (some ⟨g,0,none⟩) n cap) vR vK vI vC (w.setCell ⟨g,j,none⟩ (.int .u64 x)):=by
 obtain ⟨h0,hO,r1,r2,r3,r4,r5,d1,d2,d3⟩:=h
 obtain rfl:n=m.W.length:=by
  rcases r1.2 with ⟨e,_⟩ | ⟨_,_,_,e,_⟩
  ·cases e
  ·cases e;rfl
 have hne:∀ v ∈ [vR,vK,vI,vC],∀ k,v.ownBlock=some k->(w.setCell ⟨g,j,none⟩ (.int .u64 x)).heap[k]?=w.heap[k]?:=fun v hv k hk=>Z0a _ _ _ _ _ (fun e=>d2 v hv g rfl (by rw [hk,e]))
 refine ⟨h0,(Z0a _ _ _ _ _ (fun e=>d1 (.slice (some ⟨g,0,none⟩) m.W.length cap) (by simp) (by rw [e];rfl))).trans hO,?_,Z04 r2 (hne vR (by simp)),Z04 r3 (hne vK (by simp)),Z04 r4 (hne vI (by simp)),Z04 r5 (hne vC (by simp)),d1,d2,d3⟩
 show (w.setCell ⟨g,j,none⟩ (.int .u64 x)).ownsRow B 81 1 _ (m.W.set j x).length (Z05 (m.W.set j x))
 rw [U0t,Zks]
 exact Zho r1
theorem Zcg.setC {B bx g cap n:Nat}{m:MD}{vR vK vI vW:Value}{w:World} (h:Zcg B bx m vW vR vK vI (.slice (some ⟨g,0,none⟩) n cap) w) (j:Nat) (x:Bool):Zcg B bx (m.setC j x) vW vR vK vI (.slice (some ⟨g,0,none⟩) n cap) (w.setCell ⟨g,j,none⟩ (.bool x)):=by
 obtain ⟨h0,hO,r1,r2,r3,r4,r5,d1,d2,d3⟩:=h
 obtain rfl:n=m.C.length:=by
  rcases r5.2 with ⟨e,_⟩ | ⟨_,_,_,e,_⟩
  ·cases e
  ·cases e;rfl
 have hne:∀ v ∈ [vW,vR,vK,vI],∀ k,v.ownBlock=some k->(w.setCell ⟨g,j,none⟩ (.bool x)).heap[k]?=w.heap[k]?:=fun v hv k hk=>Z0a _ _ _ _ _ (fun e=>d3 v hv g rfl (by rw [hk,e]))
 refine ⟨h0,(Z0a _ _ _ _ _ (fun e=>d1 (.slice (some ⟨g,0,none⟩) m.C.length cap) (by simp) (by rw [e];rfl))).trans hO,Z04 r1 (hne vW (by simp)),Z04 r2 (hne vR (by simp)),Z04 r3 (hne vK (by simp)),Z04 r4 (hne vI (by simp)),?_,d1,d2,d3⟩
 show (w.setCell ⟨g,j,none⟩ (.bool x)).ownsRow B 4 1 _ (m.C.set j x).length (Z0s (m.C.set j x))
 rw [U0t,Zm2]
 exact Zho r5
structure Seen (p b bh nW cW:Nat) (F:Nat->Int) (hb:Nat->Bool) (w:World):Prop where
 hn:nW<=300000
 hc:nW<=cW
 hp:p<w.heap.size
 hbb:b<w.heap.size
 hbh:bh<w.heap.size
 heads:Z2m w bh nW hb
 c3:w.cell? ⟨p,3,none⟩=some (.slice (some ⟨b,0,none⟩) nW cW)
 words:∀ i,i<nW->w.cell? ⟨b,i,none⟩=some (.int .u64 (F i))
 range:∀ i,i<nW->0<=F i/\F i<18446744073709551616
 fine:∀ f,f<nW->hb f=true->Z0t (F f)=true/\f+1+szN (F f)<=nW
theorem Seen.below {p b bh nW cW:Nat}{F:Nat->Int}{hb:Nat->Bool}{w w':World} (S:Seen p b bh nW cW F hb w) (h:Below w.heap.size w w'):Seen p b bh nW cW F hb w' where
 hn:=S.hn
 hc:=S.hc
 hp:=U0r S.hp h.size
 hbb:=U0r S.hbb h.size
 hbh:=U0r S.hbh h.size
 heads:=S.heads.below h S.hbh
 c3:=(h.cell (p:=⟨p,3,none⟩) S.hp).trans S.c3
 words i hi:=(h.cell (p:=⟨b,i,none⟩) S.hbb).trans (S.words i hi)
 range:=S.range
 fine:=S.fine
theorem Z3r (tmps:Array Value) (W:World) (b:Nat) (v0 v1 v2 v3:Value) (h2:tmps[7]?.getD undef = .pointer (some ⟨b,0,none⟩)) (c0:W.cell? ⟨b,0,none⟩=some v0) (c1:W.cell? ⟨b,1,none⟩=some v1) (c2:W.cell? ⟨b,2,none⟩=some v2) (c3:W.cell? ⟨b,3,none⟩=some v3) :
  (results f134 tmps).run prog W = .ok (.tuple #[tmps[6]?.getD undef,.agg #[v0,v1,v2,v3],tmps[8]?.getD undef]) W:=by
 simp [results,Tryz.results134,go_sem,h2,c0,c1,c2,c3]
theorem Zal {w:World}{b:Nat}{u0 u1 u2 u3:Value} (h:w.heap[b]?=some (.cells #[u0,u1,u2,u3] 172)) (v0 v1 v2 v3:Value):(Zjq w b v0 v1 v2 v3).heap[b]?=some (.cells #[v0,v1,v2,v3] 172):=by
 unfold Zjq
 exact (Z06 ((Z06 ((Z06 ((Z06 h).trans rfl)).trans rfl)).trans rfl)).trans rfl
theorem Zne (p b bh nW cW f:Nat) (F:Nat->Int) (hb:Nat->Bool) (hf:f<nW) (hbf:hb f=true) (w:World) (S:Seen p b bh nW cW F hb w) :
  Calls prog 134 #[.pointer (some ⟨p,0,none⟩),.slice (some ⟨bh,0,none⟩) nW nW,.int .u64 (((f:Int)+1)*4)] w fun ev w'=>ev = .returned (.tuple #[.int .i64 (f:Int),Z1o (F f),.bool true])/\Below w.heap.size w w':=by
 have hn:=S.hn
 have ht:=Z3h (((f:Int)+1)*4) (by omega) (by omega) (by omega) (w.alloc (.cells #[.int .i64 0,.int .i64 0,.int .i64 0,.int .i64 0] 172))
 have hfx:((f:Int)+1)*4 / 4 - 1=(f:Int):=by omega
 rw [hfx] at ht
 have hh:=(S.fine f hf hbf).1
 unfold Z0t at hh
 have hh':=U0j hh
 have hr:=S.range f hf
 have hI:(f:Int)<(nW:Int):=by omega
 have hI0:(0:Int)<=(f:Int):=by omega
 have HS:=Z00 S
 obtain ⟨x,hx⟩:∃ x,x=((f:Int)+1)*4:=⟨_,rfl⟩
 rw [<-hx] at ht ⊢
 have hba:Below w.heap.size w (w.alloc (.cells #[.int .i64 0,.int .i64 0,.int .i64 0,.int .i64 0] 172)):=(U01 _ _).alloc (U02 _) _
 have hna:=U0b w (.cells #[.int .i64 0,.int .i64 0,.int .i64 0,.int .i64 0] 172)
 have kh:Hid (∀ w,Calls prog 105 #[.int .u64 (F f)] w fun ev w'=>ev = .returned (.tuple #[Z1o (F f),.nilIface])/\Below w.heap.size w w'):=fun w=>Z2c (F f) hr.1 hr.2 hh'.1 hh'.2.1 hh'.2.2 w
 clear hfx hh S hx hh' hr
 unfold Z1o at kh ⊢
 generalize F f / 4 % 256=kd at kh ⊢
 generalize F f / 1024 % 16=ag at kh ⊢
 generalize F f / 16384 % 2=mk at kh ⊢
 generalize F f / 65536=sz at kh ⊢
 go_enter func134,ntmps134
 go_wp2_with fail
 generalize w.alloc (.cells #[.int .i64 0,.int .i64 0,.int .i64 0,.int .i64 0] 172)=wa at *
 obtain ⟨q,hq⟩:∃ q,q=w.heap.size:=⟨_,rfl⟩
 rw [<-hq] at hna ⊢
 have HQL:Hid (w.heap.size<=q):=U31 hq.symm
 clear hq
 refine ht.mono ?_
 rintro ev w1 ⟨rfl,hw1a⟩
 have hw1:=hba.trans (hw1a.mono hba.size)
 have hn1:=(hw1a.block q (Z01 hna)).trans hna
 have HN1:=Z00 hn1
 have S1:=HS.out.below hw1
 have kb:=Z70 bh nW hb f w1 S1.heads
 rw [U0d hf,hbf] at kb
 have d3:=S1.c3
 have df:=S1.words f hf
 clear ht S1
 go_wp2_with fail
 refine kb.mono ?_
 rintro ev w2 ⟨rfl,hq⟩
 rw [hq]
 clear hq w2 kb
 go_wp2_with fail
 refine (kh.out w1).mono ?_
 rintro ev w2 ⟨rfl,hw2⟩
 clear kh
 have hn2:=(hw2.block q (Z01 HN1.out)).trans HN1.out
 obtain ⟨r0,r1,r2,r3,rf⟩:=Z0e hn2
 have rf0:=rf 0
 have rf1:=rf 1
 have rf2:=rf 2
 have rf3:=rf 3
 have hn3:=Zal hn2 (.int .i64 kd) (.int .i64 ag) (.int .i64 mk) (.int .i64 sz)
 have hw3:=Z1w (hw1.trans (hw2.mono hw1.size)) HQL.out (.int .i64 kd) (.int .i64 ag) (.int .i64 mk) (.int .i64 sz)
 unfold Zjq at hn3 hw3
 clear hn2 rf
 go_upto_region 5 with fail
 generalize (((w2.setCell ⟨q,0,none⟩ (.int .i64 kd)).setCell ⟨q,1,none⟩ (.int .i64 ag)).setCell ⟨q,2,none⟩ (.int .i64 mk)).setCell ⟨q,3,none⟩ (.int .i64 sz)=w3 at *
 have HN3:=Z00 hn3
 obtain ⟨s0,s1,s2,s3,sf⟩:=Z0e hn3
 have sf0:=sf 0
 have sf1:=sf 1
 have sf2:=sf 2
 have sf3:=sf 3
 clear r0 r1 r2 r3 rf0 rf1 rf2 rf3 hn3 sf d3 df
 go_region
 all_goals go_wp2_with fail
 all_goals obtain ⟨t0,t1,t2,t3⟩:=Z26 s0 s1 s2 s3 (.int .i64 kd) (.int .i64 ag) (.int .i64 mk) (.int .i64 sz)
 all_goals refine U2n (Z3r _ _ q _ _ _ _ rfl t0 t1 t2 t3) rfl ?_
 all_goals exact ⟨rfl,(Z1w hw3 HQL.out _ _ _ _).drew⟩
theorem Znk (a:Nat->Addr) (p b bh nW cW:Nat) (F:Nat->Int) (hb:Nat->Bool) (x:Int) (h0:0<=x) (h1:x<18446744073709551616) (hx:Z2y nW hb x=false) (w:World) (E:WErr a w) (S:Seen p b bh nW cW F hb w) :
  Calls prog 134 #[.pointer (some ⟨p,0,none⟩),.slice (some ⟨bh,0,none⟩) nW nW,.int .u64 x] w fun ev w'=>ev = .returned (.tuple #[.int .i64 0,Z1o 0,.bool false])/\Below w.heap.size w w':=by
 unfold Z1o
 have HS:=Z00 S
 have hba:Below w.heap.size w (w.alloc (.cells #[.int .i64 0,.int .i64 0,.int .i64 0,.int .i64 0] 172)):=(U01 _ _).alloc (U02 _) _
 have hna:=U0b w (.cells #[.int .i64 0,.int .i64 0,.int .i64 0,.int .i64 0] 172)
 clear S
 by_cases hc:x % 4=0/\4<=x/\x / 4 - 1<=1099511627776
 ·have ht:=Z3h x hc.1 hc.2.1 hc.2.2 (w.alloc (.cells #[.int .i64 0,.int .i64 0,.int .i64 0,.int .i64 0] 172))
  obtain ⟨n,hnn⟩:∃ n:Nat,(n:Int)=x / 4 - 1:=⟨(x / 4 - 1).toNat,by omega⟩
  have hno:(decide (n<nW) && hb n)=false:=by
   unfold Z2y at hx
   rw [U0d (And.intro hc.1 hc.2.1),U1v,<-hnn] at hx
   exact hx
  rw [<-hnn] at ht
  clear hnn hc hx
  go_enter func134,ntmps134
  go_wp2_with fail
  generalize w.alloc (.cells #[.int .i64 0,.int .i64 0,.int .i64 0,.int .i64 0] 172)=wa at *
  obtain ⟨q,hq⟩:∃ q,q=w.heap.size:=⟨_,rfl⟩
  rw [<-hq] at hna ⊢
  have HQL:Hid (w.heap.size<=q):=U31 hq.symm
  clear hq
  refine ht.mono ?_
  rintro ev w1 ⟨rfl,hw1a⟩
  have hw1:=hba.trans (hw1a.mono hba.size)
  have hn1:=(hw1a.block q (Z01 hna)).trans hna
  obtain ⟨r0,r1,r2,r3,rf⟩:=Z0e hn1
  have rf0:=rf 0
  have rf1:=rf 1
  have rf2:=rf 2
  have rf3:=rf 3
  clear rf hn1 hna
  have kb:=Z70 bh nW hb n w1 (HS.out.below hw1).heads
  rw [hno] at kb
  clear ht hno
  go_wp2_with fail
  refine kb.mono ?_
  rintro ev w2 ⟨rfl,hq⟩
  rw [hq]
  clear hq w2 kb
  go_wp2_with fail
  obtain ⟨t0,t1,t2,t3⟩:=Z26 r0 r1 r2 r3 (.int .i64 0) (.int .i64 0) (.int .i64 0) (.int .i64 0)
  refine U2n (Z3r _ _ q _ _ _ _ rfl t0 t1 t2 t3) rfl ?_
  exact ⟨rfl,Z1w hw1 HQL.out _ _ _ _⟩
 ·have ht:=Z67 a x h0 h1 hc (w.alloc (.cells #[.int .i64 0,.int .i64 0,.int .i64 0,.int .i64 0] 172)) (E.below hba)
  unfold Z0p at ht
  clear hc hx
  go_enter func134,ntmps134
  go_wp2_with fail
  generalize w.alloc (.cells #[.int .i64 0,.int .i64 0,.int .i64 0,.int .i64 0] 172)=wa at *
  obtain ⟨q,hq⟩:∃ q,q=w.heap.size:=⟨_,rfl⟩
  rw [<-hq] at hna ⊢
  have HQL:Hid (w.heap.size<=q):=U31 hq.symm
  clear hq
  refine ht.mono ?_
  rintro ev w1 ⟨rfl,hw1a⟩
  have hw1:=hba.trans (hw1a.mono hba.size)
  have hn1:=(hw1a.block q (Z01 hna)).trans hna
  obtain ⟨r0,r1,r2,r3,rf⟩:=Z0e hn1
  have rf0:=rf 0
  have rf1:=rf 1
  have rf2:=rf 2
  have rf3:=rf 3
  clear rf hn1 hna
  clear ht
  go_wp2_with fail
  obtain ⟨t0,t1,t2,t3⟩:=Z26 r0 r1 r2 r3 (.int .i64 0) (.int .i64 0) (.int .i64 0) (.int .i64 0)
  refine U2n (Z3r _ _ q _ _ _ _ rfl t0 t1 t2 t3) rfl ?_
  exact ⟨rfl,Z1w hw1 HQL.out _ _ _ _⟩
structure MErr3 (a:Nat->Addr) (w:World):Prop where
 c1:w.cell? ⟨0,0,none⟩=some (.iface 338 (.pointer (some (a 1))))
 c2:w.cell? ⟨3,0,none⟩=some (.iface 338 (.pointer (some (a 2))))
 c4:w.cell? ⟨1,0,none⟩=some (.iface 338 (.pointer (some (a 4))))
theorem MErr3.below {a:Nat->Addr}{w w':World} (E:MErr3 a w) (hb:Below w.heap.size w w'):MErr3 a w' where
 c1:=(hb.cell (p:=⟨0,0,none⟩) (Z02 E.c1)).trans E.c1
 c2:=(hb.cell (p:=⟨3,0,none⟩) (Z02 E.c2)).trans E.c2
 c4:=(hb.cell (p:=⟨1,0,none⟩) (Z02 E.c4)).trans E.c4
theorem MErr3.we {a:Nat->Addr}{w:World} (E:MErr3 a w):WErr a w:=⟨E.c1,E.c2⟩
theorem MErr.three {a:Nat->Addr}{w:World} (E:MErr a w):MErr3 a w:=⟨E.c1,E.c2,E.c4⟩
theorem Zbx (a:Nat->Addr) (p:Nat) (m:MD) (hF:¬ m.FitsM) (w:World) (E:MErr3 a w) (R:Z86 p m w) :
  Calls prog 80 #[.pointer (some ⟨p,0,none⟩)] w fun ev w'=>ev = .returned (.tuple #[.slice none 0 0,Z0p a 2])/\Below w.heap.size w w':=by
 obtain ⟨_,vR,vK,vI,_,hp,M,⟨aW,cW,rfl,_⟩,_,_,_,⟨aC,cC,rfl,_⟩⟩:=R
 have km:=Zfd p m.half m.old m.card m.W.length m.C.length cW cC aW aC m.used m.top m.oldTop vR vK vI hF w M
 go_enter func80,ntmps80
 go_wp2_with fail
 refine km.mono ?_
 rintro ev w1 ⟨rfl,q,hq⟩
 have hb1:Below w.heap.size w w1:=by rw [hq];exact Z03 (U01 _ _)
 have k2:=(E.below hb1).c2
 clear hq M km
 go_wp2_with fail
 go_quiet (fail)
 go_wp2
 go_ret2
 exact ⟨rfl,Z03 hb1⟩
theorem Zgf (a:Nat->Addr) (p:Nat) (m:MD) (hF:m.FitsM) (h64:MD64 m) (bR:m.R.length<=300000) (bK:m.K.length<=300000) (bI:m.I.length<=300000) (w:World) (E:MErr3 a w) (R:Z86 p m w) :
  Calls prog 80 #[.pointer (some ⟨p,0,none⟩)] w fun ev w'=>Zb1 a m w ev w':=by
 obtain ⟨_,_,_,_,_,hp,M,⟨aW,cW,rfl,hcW,fW⟩,⟨aR,cR,rfl,fR⟩,⟨aK,cK,rfl,fK⟩,⟨aI,cI,rfl,fI⟩,⟨aC,cC,rfl,hcC,fC⟩⟩:=R
 have hnum:=hF.nums
 have hwl:=hF.w
 have hcl:=hF.c
 unfold Z0c at hnum
 have hn:m.W.length<=300000:=by omega
 have hcp:0<m.C.length:=by
  have:1<=(m.old+m.card - 1) / m.card:=(U4l (by omega)).2 (by omega)
  omega
 obtain ⟨b,rfl,lb,gW⟩:=fW (by omega)
 obtain ⟨bc,rfl,lbc,gC⟩:=fC hcp
 have L:=Ze0 hF h64 M hcW gW gC
 have HL:=Z00 L
 have HRr:Hid (Z4g w (.slice aR m.R.length cR) m.R.length (Z05 m.R)):=⟨_,_,rfl,fR⟩
 have HRk:Hid (Z4g w (.slice aK m.K.length cK) m.K.length (Z05 m.K)):=⟨_,_,rfl,fK⟩
 have HRi:Hid (Z4g w (.slice aI m.I.length cI) m.I.length (Z2e m.I)):=⟨_,_,rfl,fI⟩
 have HM:=Z00 M
 have HE:=Z00 E
 have HP:=Z00 (MD.parts hF)
 have H64:=Z00 h64
 have HF:=Z00 hF
 have hmk:=Zhu m.W.length (by omega) (m.W.length:Int) rfl
 have km:=Z3d p m.half m.old m.card m.W.length m.C.length cW cC _ _ m.used m.top m.oldTop _ _ _ hF w M
 clear fR fK fI gW gC hnum hwl hcl L M hF h64 fW fC
 go_enter func80,ntmps80
 go_wp2_with fail
 refine km.mono ?_
 rintro ev w1 ⟨rfl,q,hq⟩
 have hb1:Below w.heap.size w w1:=by rw [hq];exact Z03 (U01 _ _)
 clear hq km
 have d3:=(HM.out.below hb1 hp).c3
 go_wp2_with fail
 have hb2:Below w.heap.size w (w1.alloc (.cells (Array.replicate m.W.length (.bool false)) 4)):=hb1.alloc hb1.size _
 have hlo:=hb1.size
 have kf:=Zcc a w _ p b bc w1.heap.size m.W.length m.C.length cW cC m.half m.old m.card m.used m.top m.oldTop _ _ _ m.F m.Cf m.n0 m.n1 m.m0 m.m1 HP.out HL.out HE.out.we hb2 (Zli w1 m.W.length) hlo
 clear d3 hb2
 cases ho:m.objs with
 | none =>
  rw [Zlq ho] at kf
  have HS:Hid (∀ vs,¬ m.Shape vs):=fun vs h=>by have:=h.2.1;rw [ho] at this;cases this
  refine kf.mono ?_
  rintro ev w2 ⟨rfl,vs,hb3,_,_⟩
  have k2:=(HE.out.below hb3).c2
  clear kf ho
  go_wp2_with fail
  go_quiet (fail)
  go_wp2
  go_ret2
  exact ⟨Z03 hb3,.inr (.inr ⟨HS.out,rfl⟩)⟩
 | some vs =>
  obtain ⟨l1,l2,e1,e2,e3⟩:=Zkd ho
  rw [e1,e2] at kf
  have HO:=Z00 ho
  refine kf.mono ?_
  rintro ev w2 ⟨rfl,vs',hb3,hm3,hvs⟩
  obtain rfl:vs'=vs:=(hvs l1 l2 rfl rfl).trans e3.symm
  clear kf ho e1 e2 e3 hvs
  have kh:=Z9q a w w2 p b bc w1.heap.size m.W.length m.C.length cW cC m.half m.old m.card m.used m.top m.oldTop _ _ _ m.F m.Cf m.n0 m.n1 m.m0 m.m1 HP.out HL.out HE.out.we vs' hb3 hm3 hlo
  have eh:((Z09 m.F (G2 m.F m.W.length (fun i=>decide (i∈vs'))) (m.n1 - m.n0) m.n0 m.n1).isSome && (Z09 m.F (G2 m.F m.W.length (fun i=>decide (i∈vs'))) (m.m1 - m.m0) m.m0 m.m1).isSome)=m.holdB vs':=rfl
  rw [eh] at kh
  clear eh hb3 hm3
  go_wp2_with fail
  refine kh.mono ?_
  rintro ev w3 ⟨rfl,hb4,hm4⟩
  clear kh
  cases hh:m.holdB vs' with
  | false =>
   have HS:Hid (∀ vs,¬ m.Shape vs):=fun vs h=>by
    have e:=h.2.1
    rw [HO.out] at e
    cases e
    have e:=h.2.2.1
    rw [hh] at e
    cases e
   have k2:=(HE.out.below hb4).c2
   clear HO
   go_wp2_with fail
   go_quiet (fail)
   go_wp2
   go_ret2
   exact ⟨Z03 hb4,.inr (.inr ⟨HS.out,rfl⟩)⟩
  | true =>
   have HH:=Z00 hh
   clear hh
   have d7:=(HM.out.below hb4 hp).c7
   have kr:=Z5t a w1.heap.size m.W.length (fun i=>decide (i∈vs')) hn m.R bR H64.out.r aR cR w3 (HE.out.below hb4).we hm4.heads hm4.lt (HRr.out.below hb4)
   go_wp2_with fail
   refine kr.mono ?_
   rintro ev w4 ⟨rfl,hb5⟩
   have hb6:=hb4.trans (hb5.mono hb4.size)
   have hm6:=hm4.below hb5
   clear kr hb4 hb5 hm4 d7
   cases hr:m.R.all (Z0b m.W.length (fun i=>decide (i∈vs'))) with
   | false =>
    have HS:Hid (∀ vs,¬ m.Shape vs):=fun vs h=>by
     have e:=h.2.1
     rw [HO.out] at e
     cases e
     have e:=h.2.2.2
     unfold MD.restB at e
     rw [hr] at e
     cases e
    have k2:=(HE.out.below hb6).c2
    clear HO
    go_wp2_with fail
    go_quiet (fail)
    go_wp2
    go_ret2
    exact ⟨Z03 hb6,.inr (.inr ⟨HS.out,rfl⟩)⟩
   | true =>
    have HR:=Z00 hr
    clear hr
    have d8:=(HM.out.below hb6 hp).c8
    have kr:=Z5t a w1.heap.size m.W.length (fun i=>decide (i∈vs')) hn m.K bK H64.out.k aK cK w4 (HE.out.below hb6).we hm6.heads hm6.lt (HRk.out.below hb6)
    go_wp2_with fail
    refine kr.mono ?_
    rintro ev w5 ⟨rfl,hb7⟩
    have hb8:=hb6.trans (hb7.mono hb6.size)
    have hm8:=hm6.below hb7
    clear kr hb6 hb7 hm6 d8
    cases hk:m.K.all (Z0b m.W.length (fun i=>decide (i∈vs'))) with
    | false =>
     have HS:Hid (∀ vs,¬ m.Shape vs):=fun vs h=>by
      have e:=h.2.1
      rw [HO.out] at e
      cases e
      have e:=h.2.2.2
      unfold MD.restB at e
      rw [HR.out,hk] at e
      cases e
     have k2:=(HE.out.below hb8).c2
     clear HO
     go_wp2_with fail
     go_quiet (fail)
     go_wp2
     go_ret2
     exact ⟨Z03 hb8,.inr (.inr ⟨HS.out,rfl⟩)⟩
    | true =>
     have HK:=Z00 hk
     clear hk
     have d9:=(HM.out.below hb8 hp).c9
     have kr:=Zg0 a w1.heap.size m.W.length (fun i=>decide (i∈vs')) hn m.I bI H64.out.i aI cI w5 (HE.out.below hb8).we hm8.heads hm8.lt (HRi.out.below hb8)
     go_wp2_with fail
     refine kr.mono ?_
     rintro ev w6 ⟨rfl,hb9⟩
     have hb10:=hb8.trans (hb9.mono hb8.size)
     have hm10:=hm8.below hb9
     clear kr hb8 hb9 hm8 d9
     cases hi:Z6j m.W.length (fun i=>decide (i∈vs')) m.I with
     | false =>
      have HS:Hid (∀ vs,¬ m.Shape vs):=fun vs h=>by
       have e:=h.2.1
       rw [HO.out] at e
       cases e
       have e:=h.2.2.2
       unfold MD.restB at e
       rw [HR.out,HK.out,hi] at e
       cases e
      have k2:=(HE.out.below hb10).c2
      clear HO
      go_wp2_with fail
      go_quiet (fail)
      go_wp2
      go_ret2
      exact ⟨Z03 hb10,.inr (.inr ⟨HS.out,rfl⟩)⟩
     | true =>
      have HSh:Hid (m.Shape vs'):=⟨HF.out,HO.out,HH.out,by unfold MD.restB;rw [HR.out,HK.out,hi];rfl⟩
      clear hi HR HK HH HO
      have kc:=Ziy a w6 w6 p b bc m.W.length m.C.length cW cC m.half m.old m.card m.used m.top m.oldTop _ _ _ m.F m.Cf m.n0 m.n1 m.m0 m.m1 HP.out (HL.out.below hb10) (HE.out.below hb10).we (U01 _ _)
      have ec:(Z09 m.F (G3 m.F m.Cf m.half m.card) (m.m1 - m.m0) m.m0 m.m1).isSome=m.cardsB:=rfl
      rw [ec] at kc
      clear ec
      go_wp2_with fail
      refine kc.mono ?_
      rintro ev w7 ⟨rfl,hb11⟩
      have hb12:=hb10.trans (hb11.mono hb10.size)
      have hm12:=hm10.below hb11
      clear kc hb10 hb11 hm10
      cases hc:m.cardsB with
      | true =>
       have HC:=Z00 hc
       clear hc
       go_wp2_with fail
       go_ret2
       exact ⟨hb12,.inl ⟨vs',_,HSh.out,HC.out,rfl,hm12,hlo⟩⟩
      | false =>
       have HC:=Z00 hc
       have k4:=(HE.out.below hb12).c4
       clear hc
       go_wp2_with fail
       go_quiet (fail)
       go_wp2
       go_ret2
       exact ⟨Z03 hb12,.inr (.inl ⟨vs',HSh.out,HC.out,rfl⟩)⟩
theorem Z5z (a:Nat->Addr) (p:Nat) (m:MD) (h64:MD64 m) (bR:m.R.length<=300000) (bK:m.K.length<=300000) (bI:m.I.length<=300000) (w:World) (E:MErr3 a w) (R:Z86 p m w) :
  Calls prog 80 #[.pointer (some ⟨p,0,none⟩)] w fun ev w'=>Zb1 a m w ev w':=by
 by_cases hF:m.FitsM
 ·exact Zgf a p m hF h64 bR bK bI w E R
 ·refine (Zbx a p m hF w E R).mono ?_
  rintro ev w1 ⟨rfl,hb⟩
  exact ⟨hb,.inr (.inr ⟨fun vs h=>hF h.1,rfl⟩)⟩
theorem Zdr (a:Nat->Addr) (p:Nat) (m:MD) (vs:List Nat) (hS:m.Shape vs) (hC:m.cardsB=true) (h64:MD64 m) (bR:m.R.length<=300000) (bK:m.K.length<=300000) (bI:m.I.length<=300000) (w:World) (E:MErr3 a w) (R:Z86 p m w) :
  Calls prog 80 #[.pointer (some ⟨p,0,none⟩)] w fun ev w' => ∃ bh,ev = .returned (.tuple #[.slice (some ⟨bh,0,none⟩) m.W.length m.W.length,.nilIface])/\Z2m w' bh m.W.length (fun i=>decide (i∈vs))/\bh<w'.heap.size/\Below w.heap.size w w':=by
 refine (Z5z a p m h64 bR bK bI w E R).mono ?_
 rintro ev w' ⟨hb,⟨us,bh,hs,_,he,hm,_⟩ | ⟨us,_,hc,_⟩ | ⟨hno,_⟩⟩
 ·have hu:=hS.one hs
  subst hu
  obtain ⟨cur,h1,_⟩:=id hm
  exact ⟨bh,he,hm.heads,Z01 h1,hb⟩
 ·rw [hC] at hc;cases hc
 ·exact absurd hS (hno vs)
theorem MD.range {m:MD} (h64:MD64 m):∀ i,i<m.W.length->0<=m.F i/\m.F i<18446744073709551616:=fun i hi=>by
 unfold MD.F
 rw [U07,U03 hi]
 exact h64.w _ (U1w hi)
theorem MD.Shape.len {m:MD}{vs:List Nat} (S:m.Shape vs):0<m.W.length/\m.W.length<=300000/\0<m.C.length:=by
 have hnum:=S.1.nums
 have hw:=S.1.w
 have hc:=S.1.c
 unfold Z0c at hnum
 have:1<=(m.old+m.card - 1) / m.card:=(U4l (by omega)).2 (by omega)
 omega
theorem Zcg.rowW {B bx:Nat}{m:MD}{vW vR vK vI vC:Value}{w:World} (h:Zcg B bx m vW vR vK vI vC w) (hl:0<m.W.length):∃ g cap,vW = .slice (some ⟨g,0,none⟩) m.W.length cap/\m.W.length<=cap/\B<=g/\g<w.heap.size/\g≠bx/\(∀ i,i<m.W.length->w.cell? ⟨g,i,none⟩=some (.int .u64 (m.F i)))/\(∀ i,w.frozen? ⟨g,i,none⟩=false) /\ ∃ cur t,w.heap[g]?=some (.cells cur t):=by
 obtain ⟨_,_,r1,_,_,_,_,d1,_,_⟩:=h
 have hr:=Z6m r1
 rcases r1.2 with ⟨_,h0⟩ | ⟨g,cap,cur,rfl,hb,hg,hc,_,_,_⟩
 ·omega
 ·obtain ⟨_,_,e,_,hr⟩:=hr
  cases e
  obtain ⟨b,e,_,hw⟩:=hr hl
  cases e
  refine ⟨g,cap,rfl,hc,hb,Z01 hg,fun e=>d1 (.slice (some ⟨g,0,none⟩) m.W.length cap) (by simp) (by rw [<-e];rfl),fun i hi=>hw i _ (Z2d (by unfold MD.F;rw [U07,U03 hi];rfl)),fun i=>by simp [World.frozen?,hg],_,_,hg⟩
theorem Zcg.seen {B bx bh g cap:Nat}{m:MD}{vs:List Nat}{vR vK vI vC:Value}{w:World} (h:Zcg B bx m (.slice (some ⟨g,0,none⟩) m.W.length cap) vR vK vI vC w) (S:m.Shape vs) (h64:MD64 m) (hH:Z2m w bh m.W.length (fun i=>decide (i∈vs))) (hbh:bh<w.heap.size):Seen bx g bh m.W.length cap m.F (fun i=>decide (i∈vs)) w:=by
 obtain ⟨g',cap',e,hc,_,hg,_,hw,_,_⟩:=h.rowW S.len.1
 cases e
 exact ⟨S.len.2.1,hc,Z02 h.mem.c0,hg,hbh,hH,h.mem.c3,hw,MD.range h64,fun f _ hf=>S.fine f (U0j hf)⟩
def MD.put (m:MD) (y:Nat) (x:Int):MD:=if 2*m.half<=(y:Int)/\Z14 m.half x=true then (m.setW y x).setC (Z35 m.half m.card y) true else m.setW y x
def MD.mark (m:MD) (y:Nat):MD:=if 2*m.half<=(y:Int)/\Z14 m.half (m.F y)=true then m.setC (Z35 m.half m.card y) true else m
end Go.Proofs.YtlkcbdinlfeoiaaGreatDoor
