/- Package minor: a copier in memory; its parts' room, a header, by contracts. -/
import Derived.Test.YtlkcbdinlfeoiaaGreatDoorKnAH
namespace Go.Proofs.YtlkcbdinlfeoiaaGreatDoor
open Go.Proofs.Tryz Go.RowKit
set_option maxHeartbeats 8000000
set_option maxRecDepth 100000
section
open Go.Maps
structure CS where
 W:List Int
 C:List Bool
 φ:Nat->Option Nat
 yd:Nat
 yt:Nat
 gd:Nat
 gt:Nat
structure CE where
 q:Nat
 p:Nat
 bm:Nat
 bW:Nat
 bC:Nat
 cW:Nat
 cC:Nat
 lo:Nat
 hi:Nat
 tn:Int
 half:Int
 old:Int
 card:Int
 used:Int
 top:Int
 oldTop:Int
 nW:Nat
 nC:Nat
 vR:Value
 vK:Value
 vI:Value
def CE.copier (e:CE) (s:CS):Array Value:=#[.pointer (some ⟨e.p,0,none⟩),.int .i64 (e.lo:Int),.int .i64 (e.hi:Int),.map (some e.bm),.int .i64 e.tn,.int .i64 (s.yd:Int),.int .i64 (s.yt:Int),.int .i64 (s.gd:Int),.int .i64 (s.gt:Int)]
structure CopAt (e:CE) (s:CS) (w:World):Prop where
 hq:w.heap[e.q]?=some (.cells (e.copier s) 281)
 hp:MB e.p e.half e.old e.card e.used e.top e.oldTop (.slice (some ⟨e.bW,0,none⟩) e.nW e.cW) e.vR e.vK e.vI (.slice (some ⟨e.bC,0,none⟩) e.nC e.cC) w
 hW:Blk e.bW 81 (Z05 s.W) w
 hC:Blk e.bC 4 (Z0s s.C) w
 hm:∃ n D,n<=s.yt+s.gt/\w.ownsMap prog 3 (plainElem prog 3) e.bm n D/\Went D s.φ
def CE.own (e:CE) (k:Nat):Prop:=k=e.q\/k=e.bm\/k=e.bW\/k=e.bC
theorem CopAt.below {e:CE}{s:CS}{w w':World} (h:CopAt e s w) (hb:Below w.heap.size w w'):CopAt e s w':=by
 obtain ⟨n,D,hn,hm,hW⟩:=h.hm
 exact ⟨(hb.block _ (Z01 h.hq)).trans h.hq,(hb.block _ (Z01 h.hp)).trans h.hp,h.hW.below hb,h.hC.below hb,n,D,hn,hm.kept (Z11 hb) (by simp),hW⟩
theorem CopAt.cells {e:CE}{s:CS}{w:World} (h:CopAt e s w):w.cell? ⟨e.q,0,none⟩=some (.pointer (some ⟨e.p,0,none⟩))/\w.cell? ⟨e.q,1,none⟩=some (.int .i64 (e.lo:Int))/\w.cell? ⟨e.q,2,none⟩=some (.int .i64 (e.hi:Int))/\w.cell? ⟨e.q,3,none⟩=some (.map (some e.bm))/\w.cell? ⟨e.q,4,none⟩=some (.int .i64 e.tn)/\w.cell? ⟨e.q,5,none⟩=some (.int .i64 (s.yd:Int))/\w.cell? ⟨e.q,6,none⟩=some (.int .i64 (s.yt:Int))/\w.cell? ⟨e.q,7,none⟩=some (.int .i64 (s.gd:Int))/\w.cell? ⟨e.q,8,none⟩=some (.int .i64 (s.gt:Int))/\w.cell? ⟨e.p,3,none⟩=some (.slice (some ⟨e.bW,0,none⟩) e.nW e.cW):=by
 refine ⟨?_,?_,?_,?_,?_,?_,?_,?_,?_,?_⟩
 iterate 9 (rw [U06 _ _ _ _ _ _ h.hq];rfl)
 rw [U06 _ _ _ _ _ _ h.hp];rfl
theorem Zec (q j:Nat) (top n:Int) (h0:0<=top) (h1:top<=300000) (n0:0<=n) (n1:n<=300000) (w:World) (c:w.cell? ⟨q,j+1,none⟩=some (.int .i64 top)) (fz:w.frozen? ⟨q,j+1,none⟩=false) :
  Calls prog 262 #[.pointer (some ⟨q,j,none⟩),.int .i64 n] w fun ev w'=>ev = .returned (.int .i64 top)/\w'=w.setCell ⟨q,j+1,none⟩ (.int .i64 (top+n)):=by
 go_enter func262,ntmps262
 go_wp2_with fail
 go_ret
 exact ⟨rfl,rfl⟩
theorem Zcd (tmps:Array Value) (W:World) (b:Nat) (v0 v1 v2 v3:Value) (h2:tmps[4]?.getD undef = .pointer (some ⟨b,0,none⟩)) (c0:W.cell? ⟨b,0,none⟩=some v0) (c1:W.cell? ⟨b,1,none⟩=some v1) (c2:W.cell? ⟨b,2,none⟩=some v2) (c3:W.cell? ⟨b,3,none⟩=some v3) :
  (results f256 tmps).run prog W = .ok (.agg #[v0,v1,v2,v3]) W:=by
 simp [results,Tryz.results256,go_sem,h2,c0,c1,c2,c3]
theorem Z6c (e:CE) (s:CS) (f:Nat) (x:Int) (w:World) (H:CopAt e s w) (hx:s.W[f]?=some x) (hf:f<e.nW) (h0:0<=x) (h1:x<18446744073709551616) (hh:Z0t x=true) :
  Calls prog 256 #[.pointer (some ⟨e.q,0,none⟩),.int .i64 (f:Int)] w fun ev w'=>ev = .returned (Z1o x)/\Below w.heap.size w w':=by
 obtain ⟨e1,e2,e3⟩:=U0j hh
 have kt:=fun w=>Z2c x h0 h1 e1 e2 e3 w
 obtain ⟨w1,hw1⟩:∃ w1,w1=w.alloc (.cells #[.int .i64 0,.int .i64 0,.int .i64 0,.int .i64 0] 172):=⟨_,rfl⟩
 have b1:Below w.heap.size w w1:=by rw [hw1];exact (U01 _ _).alloc (U02 _) _
 have n1:w1.heap[w.heap.size]?=some (.cells #[.int .i64 0,.int .i64 0,.int .i64 0,.int .i64 0] 172):=by rw [hw1];exact U0b _ _
 have H1:=H.below b1
 obtain ⟨c0,_,_,_,_,_,_,_,_,c3⟩:=H1.cells
 have cx:w1.cell? ⟨e.bW,f,none⟩=some (.int .u64 x):=H1.hW.cell (Z4x hx)
 have hI:(f:Int)<(e.nW:Int):=by omega
 have hI0:(0:Int)<=(f:Int):=by omega
 unfold Z1o
 obtain ⟨q,hq⟩:∃ q,q=e.q:=⟨_,rfl⟩
 obtain ⟨p,hp⟩:∃ p,p=e.p:=⟨_,rfl⟩
 obtain ⟨bW,hbW⟩:∃ bW,bW=e.bW:=⟨_,rfl⟩
 obtain ⟨nW,hnW⟩:∃ nW,nW=e.nW:=⟨_,rfl⟩
 obtain ⟨cW,hcW⟩:∃ cW,cW=e.cW:=⟨_,rfl⟩
 rw [<-hq] at c0 ⊢
 rw [<-hp] at c0 c3
 rw [<-hbW] at c3 cx
 rw [<-hnW] at c3 hI
 rw [<-hcW] at c3
 have HW1:=Z00 hw1
 have HB1:=Z00 b1
 have HN1:=Z00 n1
 obtain ⟨k,hk⟩:∃ k,k=x / 4 % 256:=⟨_,rfl⟩
 obtain ⟨ag,hag⟩:∃ ag,ag=x / 1024 % 16:=⟨_,rfl⟩
 obtain ⟨mk,hmk⟩:∃ mk,mk=x / 16384 % 2:=⟨_,rfl⟩
 obtain ⟨sz,hsz⟩:∃ sz,sz=x / 65536:=⟨_,rfl⟩
 simp only [<-hk,<-hag,<-hmk,<-hsz] at kt ⊢
 clear hq hp hbW hnW hcW H hx e1 e2 e3 hh hf H1 hw1 b1 n1 hk hag hmk hsz
 go_enter func256,ntmps256
 go_upto_region 1 with fail
 rw [<-HW1.out]
 obtain ⟨r,hr⟩:∃ r,r=w.heap.size:=⟨_,rfl⟩
 rw [<-hr] at HN1 HB1 ⊢
 have HR:=Z00 hr
 clear hr
 go_wp2_with fail
 refine (kt _).mono ?_
 clear kt
 rintro ev w2 ⟨rfl,b2⟩
 clear c0 c3 cx
 go_upto_region 2 with fail
 obtain ⟨w3,hw3⟩:∃ w3,w3=w2.alloc (.cells #[.int .i64 k,.int .i64 ag,.int .i64 mk,.int .i64 sz] 172):=⟨_,rfl⟩
 have b3:Below w1.heap.size w1 w3:=by rw [hw3];exact b2.alloc b2.size _
 have n3:w3.heap[w2.heap.size]?=some (.cells #[.int .i64 k,.int .i64 ag,.int .i64 mk,.int .i64 sz] 172):=by rw [hw3];exact U0b _ _
 have n1:=(b3.block _ (Z01 HN1.out)).trans HN1.out
 have hrs:r<=w1.heap.size:=by have:=HB1.out.size;have:=HR.out;omega
 have HB3:=Z00 (HB1.out.trans (b3.mono hrs))
 obtain ⟨r0,r1,r2,r3,rf⟩:=Z0e n1
 obtain ⟨s0,s1,s2,s3,_⟩:=Z0e n3
 have rf0:=rf 0
 have rf1:=rf 1
 have rf2:=rf 2
 have rf3:=rf 3
 rw [<-hw3]
 clear hw3 b3 n3 n1 rf hrs b2 HN1
 go_wp2_with fail
 obtain ⟨t0,t1,t2,t3⟩:=Z26 r0 r1 r2 r3 (.int .i64 k) (.int .i64 ag) (.int .i64 mk) (.int .i64 sz)
 refine U2n (Zcd _ _ r _ _ _ _ rfl t0 t1 t2 t3) rfl ?_
 have h:=HB3.out
 have e:=HR.out
 rw [<-e]
 exact ⟨rfl,Z1w h (U02 _) _ _ _ _⟩
end
section
open Go.Maps
def hdW (x g:Int):Int:=x / 65536*65536+x / 16384 % 2*16384+g*1024+x / 4 % 256*4+3
def Zc8 (W:List Int) (f at':Nat) (x g:Int):List Int:=(splice W at' ((W.drop f).take (1+szN x))).set at' (hdW x g)
def CS.young (s:CS) (f:Nat) (x:Int):CS:={ s with W:=Zc8 s.W f s.yt x (x / 1024 % 16+1),φ:=upd s.φ f s.yt,yt:=s.yt+(1+szN x) }
def CS.grown (s:CS) (f:Nat) (x:Int):CS:={ s with W:=Zc8 s.W f s.gt x 0,φ:=upd s.φ f s.gt,gt:=s.gt+(1+szN x) }
theorem Z3k {P:Program}{ops:Array Oper}{o:Oper}{a:Act}{w:World}{K:Act->World->Prop}{Q:Exit->Act->World->Prop}{E:Prop} (hgd:o.guard=none) (d s:Operand) (dT sT:TypeId)
  (ho:o.op = .call { callee:=.builtin .copy,args:=#[d,s],argTypes:=#[dT,sT] }) (elem:TypeId) (hu:P.underlying dT=some (.slice elem)) (hsz:(P.info? elem).map (·.size)=some 1)
  (ad:Addr) (dLen dCap sLen sCap:Nat) (g off:Nat) (hd:a.eval d = .slice (some ⟨g,off,none⟩) dLen dCap) (hs:a.eval s = .slice (some ad) sLen sCap)
  (cur:List Value) (t:TypeId) (hg:Blk g t cur w) (cs:List Value) (hn:cs.length=Nat.min sLen dLen)
  (hsrc:∀ j v,cs[j]?=some v->w.cell? (ad.add j)=some v)
  (hfit:off+cs.length<=cur.length) (h1:∀ v∈cs,v.oneCell'=true)
  (h:∀ w',Hid (Blk g t (splice cur off cs) w')->Hid (Aside (· = g) w w')->K (a.put o.dst (goInt cs.length)) w') :
  if Region.wanted o (yielded ops a.tmps)=true then Oper.wp P o a w K Q else E:=by
 have hw:Region.wanted o (yielded ops a.tmps)=true:=by simp [Region.wanted,hgd]
 rw [U09 hw]
 obtain ⟨rest,hg⟩:=hg
 have e:splice (cur++rest) off cs=splice cur off cs++rest:=by
  unfold splice
  rw [U2b (by omega),U3q hfit,U0y,U0y]
 have hrun:=run_copy_row (P:=P) w dT sT o.type elem g off dLen dCap ad sLen sCap (cur++rest).toArray t cs hu hsz hg hn hsrc (by simp;omega) h1
 unfold Oper.wp
 simp [execOp,ho,resolve,invoke,builtin,hd,hs,hrun,Result.andThen]
 refine h _ ⟨rest,?_⟩ ⟨rfl,rfl,rfl,by simp [World.setRow],fun k _ hk=>setRow_other w g k _ hk⟩
 rw [<-e]
 simpa [splice] using setRow_heap w g _ _ t _ hg
theorem Z4k (L cs:List Int) (off:Nat):splice (Z05 L) off (Z05 cs)=Z05 (splice L off cs):=by
 unfold splice Z05
 rw [U1b,U1b,U2y,List.map_drop,U0v]
theorem CopAt.ne {e:CE}{s:CS}{w:World} (h:CopAt e s w):e.q≠e.p/\e.q≠e.bm/\e.q≠e.bW/\e.q≠e.bC/\e.p≠e.bm/\e.p≠e.bW/\e.p≠e.bC/\e.bm≠e.bW/\e.bm≠e.bC/\e.bW≠e.bC:=by
 obtain ⟨n,D,_,⟨es,clock,hb,_⟩,_⟩:=h.hm
 obtain ⟨r1,hW⟩:=h.hW
 obtain ⟨r2,hC⟩:=h.hC
 have hp:=h.hp
 unfold MB at hp
 refine ⟨?_,?_,?_,?_,?_,?_,?_,?_,?_,?_⟩ <;> intro e1
 ·rw [<-e1] at hp;have:=h.hq.symm.trans hp;simp at this
 ·rw [<-e1] at hb;have:=h.hq.symm.trans hb;simp at this
 ·rw [<-e1] at hW;have:=h.hq.symm.trans hW;simp at this
 ·rw [<-e1] at hC;have:=h.hq.symm.trans hC;simp at this
 ·rw [<-e1] at hb;have:=hp.symm.trans hb;simp at this
 ·rw [<-e1] at hW;have:=hp.symm.trans hW;simp at this
 ·rw [<-e1] at hC;have:=hp.symm.trans hC;simp at this
 ·rw [<-e1] at hW;have:=hb.symm.trans hW;simp at this
 ·rw [<-e1] at hC;have:=hb.symm.trans hC;simp at this
 ·rw [<-e1] at hC;have:=hW.symm.trans hC;simp at this
theorem CopAt.aside {X:Nat->Prop}{e:CE}{s:CS}{w w':World} (h:CopAt e s w) (ha:Aside X w w') (hx:∀ k,(k=e.q\/k=e.p\/k=e.bm\/k=e.bW\/k=e.bC) -> ¬ X k):CopAt e s w':=by
 obtain ⟨n,D,hn,hm,hW⟩:=h.hm
 exact ⟨(ha.block _ (Z01 h.hq) (hx _ (by simp))).trans h.hq,(ha.block _ (Z01 h.hp) (hx _ (by simp))).trans h.hp,h.hW.aside ha (hx _ (by simp)),h.hC.aside ha (hx _ (by simp)),n,D,hn,Z0f hm ha (hx _ (by simp)),hW⟩
theorem CopAt.setYt {e:CE}{s:CS}{w:World} (h:CopAt e s w) (n:Nat):CopAt e { s with yt:=s.yt+n } (w.setCell ⟨e.q,6,none⟩ (.int .i64 ((s.yt:Int)+(n:Int)))):=by
 obtain ⟨n1,n2,n3,n4,n5,n6,n7,n8,n9,n10⟩:=h.ne
 obtain ⟨k,D,hn,hm,hW⟩:=h.hm
 have ha:Aside (· = e.q) w (w.setCell ⟨e.q,6,none⟩ (.int .i64 ((s.yt:Int)+(n:Int)))):=(Aside.refl (fun k=>k=e.q) w).setCell (g:=e.q) rfl _
 refine ⟨?_,(ha.block _ (Z01 h.hp) n1.symm).trans h.hp,h.hW.aside ha n3.symm,h.hC.aside ha n4.symm,k,D,?_,Z0f hm ha n2.symm,hW⟩
 ·rw [Z06 h.hq]
  show some (Obj.cells _ _ _)=some (Obj.cells _ _ _)
  unfold CE.copier
  simp
 ·show k<=s.yt+n+s.gt
  omega
theorem CopAt.setGt {e:CE}{s:CS}{w:World} (h:CopAt e s w) (n:Nat):CopAt e { s with gt:=s.gt+n } (w.setCell ⟨e.q,8,none⟩ (.int .i64 ((s.gt:Int)+(n:Int)))):=by
 obtain ⟨n1,n2,n3,n4,n5,n6,n7,n8,n9,n10⟩:=h.ne
 obtain ⟨k,D,hn,hm,hW⟩:=h.hm
 have ha:Aside (· = e.q) w (w.setCell ⟨e.q,8,none⟩ (.int .i64 ((s.gt:Int)+(n:Int)))):=(Aside.refl (fun k=>k=e.q) w).setCell (g:=e.q) rfl _
 refine ⟨?_,(ha.block _ (Z01 h.hp) n1.symm).trans h.hp,h.hW.aside ha n3.symm,h.hC.aside ha n4.symm,k,D,?_,Z0f hm ha n2.symm,hW⟩
 ·rw [Z06 h.hq]
  show some (Obj.cells _ _ _)=some (Obj.cells _ _ _)
  unfold CE.copier
  simp
 ·show k<=s.yt+(s.gt+n)
  omega
theorem CopAt.words {e:CE}{s:CS}{w w':World} (h:CopAt e s w) (ha:Aside (· = e.bW) w w') (W:List Int) (hW:Blk e.bW 81 (Z05 W) w'):CopAt e { s with W:=W } w':=by
 obtain ⟨n1,n2,n3,n4,n5,n6,n7,n8,n9,n10⟩:=h.ne
 obtain ⟨k,D,hn,hm,hw⟩:=h.hm
 exact ⟨(ha.block _ (Z01 h.hq) n3).trans h.hq,(ha.block _ (Z01 h.hp) n6).trans h.hp,hW,h.hC.aside ha n10.symm,k,D,hn,Z0f hm ha n8,hw⟩
end
end Go.Proofs.YtlkcbdinlfeoiaaGreatDoor
