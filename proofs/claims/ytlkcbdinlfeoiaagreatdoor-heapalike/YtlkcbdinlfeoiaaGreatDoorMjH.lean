/- Where objects go (plan), by a contract. -/
import Derived.Test.YtlkcbdinlfeoiaaGreatDoorKnAN
namespace Go.Proofs.YtlkcbdinlfeoiaaGreatDoor
open Go.Proofs.Tryz Go.RowKit
set_option maxHeartbeats 8000000
set_option maxRecDepth 100000
set_option linter.unusedSimpArgs false
section
open Go.Maps
theorem Zmy (lo hi:Int) (bm n f t B:Nat) (D:DataW Unit) (w:World) (hf:f<=300000) (ht:t<=1000000) (hn:n<=1000000) (M:w.ownsMap prog 3 (plainElem prog 3) bm n D) (hBs:B<=w.heap.size) (hBm:B<=bm) :
  Calls prog 207 #[.agg #[.int .i64 lo,.int .i64 hi,.map (some bm)],.int .i64 (f:Int),.int .i64 (t:Int)] w fun ev w'=>ev = .returned (.tuple #[])/\(∃ n',n'<=n+1/\w'.ownsMap prog 3 (plainElem prog 3) bm n' (D.put (.int .i64 (f:Int)) (.lit (.int .i64 (t:Int)))))/\Below B w w' /\ ∀ k,k<w.heap.size->k≠bm->w'.heap[k]?=w.heap[k]?:=by
 have hkx:Hid (keyOf prog 3 (.int .i64 (f:Int))=some (.int .i64 (f:Int))):=U3h underlying3 (Zp9 (by omega) (by omega))
 have HM:=Z00 (M.alloc (.cells #[.int .i64 lo,.int .i64 hi,.map (some bm)] 238))
 have bl:=M.lt
 have hbm:¬ w.heap.size=bm:=by omega
 clear M
 go_enter func207,ntmps207
 go_wp2_with (first | (at_mapUpdate;refine U3e _ rfl _ _ _ 236 rfl 3 3 Zrj underlying236 _ bm n _ rfl HM.out (by unfold maxLen;omega) _ _ _ rfl rfl hkx.out _ [] (U4m underlying3 (Zp9 (by omega) (by omega))) ?_;intro w3 hown3 hgrow3))
 go_end0
 refine ⟨rfl,⟨n+1,U02 _,hown3⟩,?_,fun k hk hkm => ?_⟩
 ·exact ((U01 B w).alloc hBs _).grown hgrow3 (by simp;omega) (fun j hj=>by cases hj;exact hBm)
 ·exact (hgrow3.block k (by simp;omega) (by simpa using hkm)).trans (((U01 w.heap.size w).alloc (U02 _) _).block k hk)
theorem Zel (F:Nat->Int):∀ (l:List Nat) (a f:Nat),Z2n F a (l ++ [f])=Z2n F a l ++ [(f,a+Z0i F l)]
 | [],a,f=>rfl
 | x::l,a,f=>by
  show (x,a)::Z2n F (a+1+szN (F x)) (l ++ [f])=(x,a)::(Z2n F (a+1+szN (F x)) l ++ [(f,a+Z0i F (x::l))])
  rw [Zel F l]
  have e:Z0i F (x::l)=1+szN (F x)+Z0i F l:=rfl
  rw [e]
  congr 4
  omega
theorem Zgb (F:Nat->Int) (l:List Nat) (f:Nat):Z0i F (l ++ [f])=Z0i F l+(1+szN (F f)):=by
 unfold Z0i
 rw [U1b,U4x]
 rfl
theorem Zn9 (P:List (Nat × Nat)) (f t:Nat) (h:f ∉ P.map Prod.fst):Z7s (P ++ [(f,t)])=upd (Z7s P) f t:=by
 funext g
 unfold Z7s upd
 rw [List.find?_append]
 by_cases e:g=f
 ·subst e
  have z:P.find? (fun p=>p.1 == g)=none:=List.find?_eq_none.2 fun p hp hb=>h (U0l.2 ⟨p,hp,by simpa using hb⟩)
  rw [z,U09 rfl]
  simp
 ·rw [U08 e]
  show _=(P.find? (fun p=>p.1 == g)).map Prod.snd
  cases P.find? (fun p=>p.1 == g) with
  | some y=>rfl
  | none =>
   have hb:(f == g)=false:=by rw [U0w];exact fun h=>e h.symm
   simp [List.find?,hb]
def Zbg (F:Nat->Int) (x:Nat × Nat):List Value:=[.int .i64 (x.1:Int),.int .i64 (x.2:Int),.int .i64 (F x.1 / 4 % 256),.int .i64 (F x.1 / 1024 % 16),.int .i64 (F x.1 / 16384 % 2),.int .i64 (F x.1 / 65536)]
def Z6d (F:Nat->Int) (P:List (Nat × Nat)):List Value:=P.flatMap (Zbg F)
theorem Zoy:∃ i0,prog.info? 289=some i0/\i0.zero=some (.agg #[.int .i64 0,.int .i64 0,.int .i64 0,.int .i64 0,.int .i64 0,.int .i64 0])/\i0.size=6/\i0.bytes=48:=U3g (by kernel_rfl)
structure SlAt (p q bm nW B top:Nat) (F:Nat->Int) (P:List (Nat × Nat)) (n:Nat) (D:DataW Unit) (vM:Value) (w:World):Prop where
 blk:w.heap[q]?=some (.cells #[.pointer (some ⟨p,0,none⟩),.int .i64 0,.int .i64 (nW:Int),.map (some bm),vM,.int .i64 (top:Int)] 241)
 map:w.ownsMap prog 3 (plainElem prog 3) bm n D
 row:w.ownsRow B 289 6 vM P.length (Z6d F P)
theorem SlAt.below {p q bm nW B top n:Nat}{F:Nat->Int}{P:List (Nat × Nat)}{D:DataW Unit}{vM:Value}{w w':World} (h:SlAt p q bm nW B top F P n D vM w) (hb:Below w.heap.size w w'):SlAt p q bm nW B top F P n D vM w':=
 ⟨(hb.block q (Z01 h.blk)).trans h.blk,h.map.kept (Z11 hb) (by simp),Z04 h.row fun k hk=>hb.block k (Z08 h.row k hk).2⟩
theorem SlAt.cells {p q bm nW B top n:Nat}{F:Nat->Int}{P:List (Nat × Nat)}{D:DataW Unit}{vM:Value}{w:World} (h:SlAt p q bm nW B top F P n D vM w) :
  w.cell? ⟨q,0,none⟩=some (.pointer (some ⟨p,0,none⟩))/\w.cell? ⟨q,1,none⟩=some (.int .i64 0)/\w.cell? ⟨q,2,none⟩=some (.int .i64 (nW:Int))/\w.cell? ⟨q,3,none⟩=some (.map (some bm))/\w.cell? ⟨q,4,none⟩=some vM/\w.cell? ⟨q,5,none⟩=some (.int .i64 (top:Int)):=by
 refine ⟨?_,?_,?_,?_,?_,?_⟩ <;> (rw [U06 _ _ _ _ _ _ h.blk];rfl)
theorem Z50 (p m0:Nat) (hf:Int) (hm0:(m0:Int)=2*hf) (hm1:m0<=300000) (w:World) (vH:w.cell? ⟨p,0,none⟩=some (.int .i64 hf)) :
  Calls prog 205 #[.pointer (some ⟨p,0,none⟩)] w fun ev w'=>ev = .returned (.int .i64 (m0:Int))/\w'=w:=by
 have e0:IntKind.i64.wrap (2*hf)=(m0:Int):=by rw [Z18 _ (by omega) (by omega)];omega
 clear hm0 hm1
 go_enter func205,ntmps205
 go_wp2_with fail
 go_ret
 exact ⟨rfl,rfl⟩
theorem SlAt.aside {X:Nat->Prop}{p q bm nW B top n:Nat}{F:Nat->Int}{P:List (Nat × Nat)}{D:DataW Unit}{vM:Value}{w w':World} (h:SlAt p q bm nW B top F P n D vM w) (ha:Aside X w w') (h1:¬ X q) (h2:¬ X bm) (h3:∀ k,B<=k -> ¬ X k):SlAt p q bm nW B top F P n D vM w':=
 ⟨(ha.block q (Z01 h.blk) h1).trans h.blk,Z0f h.map ha h2,Z04 h.row fun k hk=>ha.block k (Z08 h.row k hk).2 (h3 k (Z08 h.row k hk).1)⟩
theorem SlAt.base {p q bm nW B B' top n:Nat}{F:Nat->Int}{P:List (Nat × Nat)}{D:DataW Unit}{vM:Value}{w:World} (h:SlAt p q bm nW B top F P n D vM w) (hB:B'<=B):SlAt p q bm nW B' top F P n D vM w:=⟨h.blk,h.map,h.row.mono hB⟩
theorem SlAt.next {p q bm nW B T n f g' cap':Nat}{F:Nat->Int}{P:List (Nat × Nat)}{D:DataW Unit}{vM:Value}{w7 W w8:World} (h:SlAt p q bm nW B T F P n D vM w7) (hb:Below w7.heap.size w7 W) (hg:W.grownBy w8 vM.ownBlock) (ho:w8.ownsRow B 289 6 (.slice (some ⟨g',0,none⟩) (P.length+1) cap') (P.length+1) (Z6d F P++Zbg F (f,T))) (hq:q<B) (hm:bm<B) (hqm:bm<q) :
  w8.heap[q]?=some (.cells #[.pointer (some ⟨p,0,none⟩),.int .i64 0,.int .i64 (nW:Int),.map (some bm),vM,.int .i64 (T:Int)] 241)/\SlAt p q bm nW B T F (P ++ [(f,T)]) n D (.slice (some ⟨g',0,none⟩) (P.length+1) cap') (w8.setCell ⟨q,4,none⟩ (.slice (some ⟨g',0,none⟩) (P.length+1) cap')):=by
 have h7:=h.below hb
 have hne:∀ k,k<B->vM.ownBlock≠some k:=fun k hk e=>by have:=(Z08 h.row k e).1;omega
 have e1:w8.heap[q]?=some (.cells #[.pointer (some ⟨p,0,none⟩),.int .i64 0,.int .i64 (nW:Int),.map (some bm),vM,.int .i64 (T:Int)] 241):=(hg.block q (Z01 h7.blk) (fun e=>hne q hq e.symm)).trans h7.blk
 refine ⟨e1,⟨?_,?_,?_⟩⟩
 ·exact Z06 e1
 ·have m8:=h7.map.kept hg (fun e=>hne bm hm e.symm)
  exact Z0f m8 (X:=fun k=>k=q) ((Aside.refl (fun k=>k=q) w8).setCell rfl _) (by omega)
 ·have e:Z6d F (P ++ [(f,T)])=Z6d F P++Zbg F (f,T):=by
   unfold Z6d
   rw [U44]
   simp
  rw [e,U0f]
  refine Z04 ho fun k hk=>U3p _ _ _ _ ?_
  have:=(Z08 ho k hk).1
  show k≠q
  omega
theorem SlAt.setTop {p q bm nW B T n:Nat}{F:Nat->Int}{P:List (Nat × Nat)}{D:DataW Unit}{vM:Value}{w:World} (h:SlAt p q bm nW B T F P n D vM w) (hq:q<B) (hqm:bm<q) (T':Nat):SlAt p q bm nW B T' F P n D vM (w.drew.setCell ⟨q,5,none⟩ (.int .i64 (T':Int))):=by
 have h':=h.below (w':=w.drew) (U01 _ _).drew
 refine ⟨Z06 h'.blk,Z0f h'.map (X:=fun k=>k=q) ((Aside.refl (fun k=>k=q) w.drew).setCell rfl _) (by omega),Z04 h'.row fun k hk=>U3p _ _ _ _ ?_⟩
 have:=(Z08 h'.row k hk).1
 show k≠q
 omega
theorem Zmu {X:Nat->Prop}{w w':World}{q o:Nat} (h:Aside X w w') (hq:X q) (v:Value):Aside X w (w'.drew.setCell ⟨q,o,none⟩ v):=Aside.setCell (w':=w'.drew) (h.trans (Aside.of_below (U01 _ _).drew)) hq _
theorem SlAt.ice {p q bm nW B T n:Nat}{F:Nat->Int}{P:List (Nat × Nat)}{D:DataW Unit}{vM:Value}{w:World} (h:SlAt p q bm nW B T F P n D vM w):w.frozen? ⟨q,5,none⟩=false:=by simp [World.frozen?,h.blk]
theorem Zkr {w:World}{ob t:Nat}{a b c d:Value} (h:w.heap[ob]?=some (.cells #[a,b,c,d] t)):w.cell? ⟨ob,3,none⟩=some d:=by rw [U06 _ _ _ _ _ _ h];rfl
theorem Zpl {l:List Nat} (h:l.Nodup) {i f:Nat} (hf:l[i]?=some f):f ∉ l.take i:=fun hm=>by
 have h1:(l.take (i+1)).Nodup:=h.sublist (List.take_sublist _ _)
 rw [U1g,hf] at h1
 exact (U3r.1 h1).2.2 f hm f (by simp) rfl
def Zbi (p B nW m0:Nat) (F:Nat->Int) (l:List Nat) (w:World) (ev:Ending) (w':World):Prop:=∃ q bm n D vM,ev = .returned (.pointer (some ⟨q,0,none⟩))/\SlAt p q bm nW w.heap.size (m0+Z0i F l) F (Z2n F m0 l) n D vM w'/\Went D (Z7s (Z2n F m0 l))/\w.heap.size<=q/\w.heap.size<=bm/\Below B w w'
theorem Zpm (p B bW cW nW m0:Nat) (hf:Int) (F:Nat->Int) (rr l:List Nat) (ao:Option Addr) (cap:Nat) (w:World) (hl:rr.length<=300000) (hm0:(m0:Int)=2*hf) (hm1:m0<=300000) (hB:B<=w.heap.size) (own:w.ownsRow B 3 1 (.slice ao rr.length cap) rr.length (ivN rr)) (hn:nW<=300000) (hl2:oldF m0 (Z4e rr)=l) (hnd:l.Nodup) (hll:l.length<=300000)
  (hrr:∀ f∈l,f<nW/\0<=F f/\F f<18446744073709551616/\F f % 4=3/\F f / 32768 % 2=0/\F f / 65536<=4096) (he:m0+Z0i F l<=1000000)
  (hp:p<B) (hbW:bW<B) (vH:w.cell? ⟨p,0,none⟩=some (.int .i64 hf)) (vW:w.cell? ⟨p,3,none⟩=some (.slice (some ⟨bW,0,none⟩) nW cW)) (hF:∀ i,i<nW->w.cell? ⟨bW,i,none⟩=some (.int .u64 (F i))) :
  Calls prog 166 #[.pointer (some ⟨p,0,none⟩),.slice ao rr.length cap] w (Zbi p B nW m0 F l w):=by
 have ko:=Zkb 0 nW w
 have HW:=Z00 hF
 have HR:=Z00 hrr
 have HO:=Z00 own
 have lp:p<w.heap.size:=by omega
 have lbW:bW<w.heap.size:=by omega
 have hX:∀ k,ao.map Addr.block=some k->B<=k/\k<w.heap.size:=fun k hk=>by
  rcases Zfy own with ⟨rfl,_⟩ | ⟨g,rfl,h1,h2,_⟩
  ·cases hk
  ·cases hk;exact ⟨h1,h2⟩
 have HX:=Z00 hX
 clear hX
 have H0:=Z00 hm0
 have HWc:=Z00 vW
 clear hF hrr own hm0
 go_enter func166,ntmps166
 go_wp2_with fail
 refine ko.mono ?_
 clear ko
 rintro ev w1 ⟨bm,rfl,hM,hbm,b1⟩
 have vH1:=(b1.cell (p:=⟨p,0,none⟩) lp).trans vH
 have HM:=Z00 hM
 have HB1:=Z00 b1
 clear hM b1
 have kf:=Z50 p m0 hf H0.out hm1 w1 vH1
 go_wp2_with fail
 refine kf.mono ?_
 clear kf
 rintro ev wz ⟨rfl,e⟩
 rw [e]
 clear e wz
 obtain ⟨w2,hw2⟩:∃ w2,w2=w1.alloc (.cells #[.pointer (some ⟨p,0,none⟩),.int .i64 0,.int .i64 (nW:Int),.map (some bm),.slice none 0 0,.int .i64 (m0:Int)] 241):=⟨_,rfl⟩
 have b2:Below w1.heap.size w1 w2:=by rw [hw2];exact (U01 _ _).alloc (U02 _) _
 have hS:SlAt p w1.heap.size bm nW w.heap.size m0 F [] 0 (.map []) (.slice none 0 0) w2:=⟨by rw [hw2];exact U0b _ _,by rw [hw2];exact HM.out.alloc _,U3t _ _ _ _⟩
 obtain ⟨q,hq⟩:∃ q,q=w1.heap.size:=⟨_,rfl⟩
 have b02:Below w.heap.size w w2:=HB1.out.trans (b2.mono HB1.out.size)
 have hqw:w.heap.size<=q:=by rw [hq];exact HB1.out.size
 have hbq:bm<q:=by rw [hq];exact HM.out.lt
 have vH2:=(b02.cell (p:=⟨p,0,none⟩) lp).trans vH
 have kf:=Z50 p m0 hf H0.out hm1 w2 vH2
 have ka:=Zcj rr m0 B ao cap w2 hl (Z04 HO.out fun k hk=>b02.block k (Z08 HO.out k hk).2)
 rw [hl2] at ka
 rw [<-hq] at hS
 have HS:=Z00 hS
 have HB2:=Z00 b02
 clear hS b02 b2 HM HB1 vH1 vH2
 go_wp2_with fail
 rw [<-hw2,<-hq]
 clear hw2 hq w1
 refine kf.mono ?_
 clear kf
 rintro ev wz ⟨rfl,e⟩
 rw [e]
 clear e wz
 go_wp2_with fail
 refine ka.mono ?_
 clear ka
 rintro ev w3 ⟨vL,rfl,ownL,a3⟩
 have hq2:=Z01 HS.out.blk
 have hq3:=U0r (Z01 HS.out.blk) a3.size
 have hS3:SlAt p q bm nW w3.heap.size m0 F [] 0 (.map []) (.slice none 0 0) w3:=by
  have h:=HS.out.aside a3 (fun h=>by have:=HX.out _ h;omega) (fun h=>by have:=HX.out _ h;omega) (fun k hk h=>by have:=HX.out _ h;omega)
  exact ⟨h.blk,h.map,U3t _ _ _ _⟩
 have B3:Below B w w3:=(HB2.out.mono hB).trans (a3.below (U0n hB HB2.out.size) (fun k hk h=>by have:=HX.out _ h;omega))
 have HS3:=Z00 hS3
 have HA3:=Z00 B3
 have HL:=Z00 ownL
 have hwz:w.heap.size<=w2.heap.size:=HB2.out.size
 have hwy:w2.heap.size<=w3.heap.size:=a3.size
 obtain ⟨aL,cL,rfl⟩:=Z2w ownL
 have HC:=Z00 (Zfy ownL)
 clear hS3 B3 ownL HS a3
 go_wp2_with fail
 go_loopg [26] (l.length+1) (fun gk v26 wr => ∃ i:Nat,gk=l.length+1 - i/\i<=l.length/\v26 = .int .i64 (i:Int) /\ ∃ n D vM,n<=i/\Hid (SlAt p q bm nW w3.heap.size (m0+Z0i F (l.take i)) F (Z2n F m0 (l.take i)) n D vM wr)/\Hid (Went D (Z7s (Z2n F m0 (l.take i))))/\Hid (Aside (fun k=>k=q\/k=bm) w3 wr))
 case atStart=>exact ⟨0,rfl,U0x _,rfl,0,_,_,U02 _,HS3,Zhq,Aside.refl _ _⟩
 case round =>
  obtain ⟨i,hgk,hi',rfl,n,D,vM,hni,hS,hW,hA⟩:=hrel
  have HG:=Z00 hgk
  clear hgk
  have hi0:(0:Int)<=(i:Int):=by omega
  by_cases hlt:i<l.length
  ·have hI:(i:Int)<(l.length:Int):=by omega
   obtain ⟨f,hf'⟩:∃ f,l[i]?=some f:=⟨_,U03 hlt⟩
   obtain ⟨f1,f2,f3,f4,f5,f6⟩:=HR.out f (U0a hf')
   rcases HC.out with ⟨_,e,_⟩ | ⟨g,rfl,g1,g2,_,_,gc⟩
   ·rw [e] at hlt;cases hlt
   have cL:=hA.out.cell (gc i (.int .i64 (f:Int)) (by unfold ivN;rw [U0g,hf'];rfl)) (by omega)
   have cW:=hA.out.cell ((HA3.out.cell (p:=⟨p,3,none⟩) hp).trans HWc.out) (by omega)
   have cF:=hA.out.cell ((HA3.out.cell (p:=⟨bW,f,none⟩) hbW).trans (HW.out f f1)) (by omega)
   have hfi:(f:Int)<(nW:Int):=by omega
   have hf0:(0:Int)<=(f:Int):=by omega
   obtain ⟨x,hx⟩:∃ x,x=F f:=⟨_,rfl⟩
   have kt:=Z2c x (by rw [hx];exact f2) (by rw [hx];exact f3) (by rw [hx];exact f4) (by rw [hx];exact f5) (by rw [hx];exact f6) wr
   rw [<-hx] at cF
   have HF':=Z00 hf'
   have Hx:=Z00 hx
   have hsz:x / 65536<=4096:=by rw [hx];exact f6
   have hsz0:0<=x / 65536:=by rw [hx];omega
   clear gc hf' hx f2 f3 f4 f5 f6
   go_wp2_with fail
   refine kt.mono ?_
   clear kt
   rintro ev w4 ⟨rfl,b4⟩
   go_upto_region 6 with fail
   obtain ⟨w5,hw5⟩:∃ w5,w5=w4.alloc (.cells #[.int .i64 (x / 4 % 256),.int .i64 (x / 1024 % 16),.int .i64 (x / 16384 % 2),.int .i64 (x / 65536)] 172):=⟨_,rfl⟩
   obtain ⟨ob,hob⟩:∃ ob,ob=w4.heap.size:=⟨_,rfl⟩
   have n5:w5.heap[ob]?=some (.cells #[.int .i64 (x / 4 % 256),.int .i64 (x / 1024 % 16),.int .i64 (x / 16384 % 2),.int .i64 (x / 65536)] 172):=by rw [hw5,hob];exact U0b _ _
   have b5:Below w4.heap.size w4 w5:=by rw [hw5];exact (U01 _ _).alloc (U02 _) _
   rw [<-hw5,<-hob]
   have hob3:w3.heap.size<=ob:=by rw [hob];exact U0n hA.out.size b4.size
   have b45:Below wr.heap.size wr w5:=b4.trans (b5.mono b4.size)
   have HOb:Hid (∀ k,vM.ownBlock=some k->k<ob):=fun k hk=>by rw [hob];exact U0r (Z08 hS.out.row k hk).2 b4.size
   have hS4:=hS.out.below b45
   have hA4:=hA.out.trans (Aside.of_below b45)
   clear b5 b4 b45 hw5 hob w4
   have hl4:=hS4.cells
   obtain ⟨T,hT⟩:∃ T,T=m0+Z0i F (l.take i):=⟨_,rfl⟩
   obtain ⟨Pl,hPl⟩:∃ Pl,Pl=Z2n F m0 (l.take i):=⟨_,rfl⟩
   have hTb:T<=1000000:=by
    have:Z0i F (l.take i)<=Z0i F l:=by
     have e:Z0i F (l.take i++l.drop i)=Z0i F (l.take i)+Z0i F (l.drop i):=by
      unfold Z0i
      rw [U1b,U4x]
     rw [U3v] at e
     omega
    omega
   rw [<-hT,<-hPl] at hS4
   have hle3:w3.heap.size<=w5.heap.size:=hA4.size
   have kn:Hid (∀ W,Below w5.heap.size w5 W->Calls prog 207 #[.agg #[.int .i64 0,.int .i64 (nW:Int),.map (some bm)],.int .i64 (f:Int),.int .i64 (T:Int)] W fun ev w'=>ev = .returned (.tuple #[]) /\ ∃ n',n'<=n+1/\SlAt p q bm nW w3.heap.size T F Pl n' (D.put (.int .i64 (f:Int)) (.lit (.int .i64 (T:Int)))) vM w'/\Aside (fun k=>k=q\/k=bm) w3 w'/\w'.heap[ob]?=some (.cells #[.int .i64 (x / 4 % 256),.int .i64 (x / 1024 % 16),.int .i64 (x / 16384 % 2),.int .i64 (x / 65536)] 172)):=fun W hW=>by
    have S5:=hS4.below hW
    refine (Zmy 0 nW bm n f T 0 D W (by omega) hTb (by omega) S5.map (U0x _) (U0x _)).mono ?_
    rintro ev w' ⟨rfl,⟨n',h1,h2⟩,h3,h4⟩
    refine ⟨rfl,n',h1,⟨(h4 q (Z01 S5.blk) (by omega)).trans S5.blk,h2,Z04 S5.row fun k hk=>h4 k (Z08 S5.row k hk).2 (by have:=(Z08 S5.row k hk).1;omega)⟩,?_⟩
    refine ⟨(hA4.trans (Aside.of_below hW)).trans ⟨h3.os,h3.tape,h3.output,h3.size,fun k hk hx=>h4 k hk fun e=>hx (.inr e)⟩,?_⟩
    have nW:=(hW.block ob (Z01 n5)).trans n5
    exact (h4 ob (Z01 nW) (by omega)).trans nW
   have HSc:=Z00 hS4.cells.2
   have HS4:=Z00 hS4
   have HT:=Z00 hT
   have HPl:=Z00 hPl
   have HA4:=Z00 hA4
   clear hS4 hS hA hA4 hl4 cL cW cF hT hPl
   go_region_held3 (fun W=>W.cell? ⟨q,1,none⟩=some (.int .i64 0)/\W.cell? ⟨q,2,none⟩=some (.int .i64 (nW:Int))/\W.cell? ⟨q,3,none⟩=some (.map (some bm))/\W.cell? ⟨q,4,none⟩=some vM/\W.cell? ⟨q,5,none⟩=some (.int .i64 (T:Int))) (first | with_reducible exact HSc.out | with_reducible exact s7c | exact HSc.out) (first | (go_at_call 207;refine (kn.out _ (by first | exact (U01 _ _).drew | exact U01 _ _)).mono ?_;rintro ev w7 ⟨rfl,n',hn',s7,a7,n7⟩;have s7c:=s7.cells.2;have N7:=Z00 n7;clear n7;have HS7:=Z00 s7;have HA7:=Z00 a7;clear s7 a7))
   have HS7c:=Z00 s7c
   clear s7c kn HS4 HA4 HSc
   obtain ⟨i0,hi0,hz0,hz1,hz2⟩:=Zoy
   have hOW:=HS7.out.row
   obtain ⟨aM,cM,rfl⟩:=Z2w hOW
   have hPn:Pl.length=i:=by
    have:=congrArg List.length (Z1m F (l.take i) m0)
    rw [U0v,<-HPl.out,U1k] at this
    omega
   have HPn:=Z00 hPn
   clear hOW hPn
   have HC7:=Z00 (SlAt.cells HS7.out)
   obtain ⟨c0,c1,c2,c3,c4,c5⟩:=SlAt.cells HS7.out
   have fz:w7.frozen? ⟨q,4,none⟩=false:=by simp [World.frozen?,HS7.out.blk]
   have o0:w7.cell? ⟨ob,0,none⟩=some (.int .i64 (x / 4 % 256)):=by rw [U06 _ _ _ _ _ _ N7.out];rfl
   have o1:w7.cell? ⟨ob,1,none⟩=some (.int .i64 (x / 1024 % 16)):=by rw [U06 _ _ _ _ _ _ N7.out];rfl
   have o2:w7.cell? ⟨ob,2,none⟩=some (.int .i64 (x / 16384 % 2)):=by rw [U06 _ _ _ _ _ _ N7.out];rfl
   have o3:w7.cell? ⟨ob,3,none⟩=some (.int .i64 (x / 65536)):=by rw [U06 _ _ _ _ _ _ N7.out];rfl
   have hw37:w3.heap.size<=w7.heap.size:=HA7.out.size
   have hq7:q<w7.heap.size:=by omega
   have ho7:ob<w7.heap.size:=Z01 N7.out
   have hq7':¬ w7.heap.size=q:=by omega
   have ho7':¬ w7.heap.size=ob:=by omega
   go_upto_region 7 with fail
   have hxm:Hid (Zbg F (f,T) = [.int .i64 (f:Int),.int .i64 (T:Int),.int .i64 (x / 4 % 256),.int .i64 (x / 1024 % 16),.int .i64 (x / 16384 % 2),.int .i64 (x / 65536)]):=by
    have e:=Hx.out
    subst e
    rfl
   go_cut [] from 51 to 67 (fun wx => ∃ vN,Hid (SlAt p q bm nW w3.heap.size T F (Pl ++ [(f,T)]) n' (D.put (.int .i64 (f:Int)) (.lit (.int .i64 (T:Int)))) vN wx)/\Hid (Aside (fun k=>k=q\/k=bm) w3 wx)/\Hid (wx.heap[ob]?=some (.cells #[.int .i64 (x / 4 % 256),.int .i64 (x / 1024 % 16),.int .i64 (x / 16384 % 2),.int .i64 (x / 65536)] 172)))
   case first =>
    go_region_law (first | (refine U3m _ (by rfl) _ _ _ (by rfl) w3.heap.size 289 i0 (.agg #[.int .i64 0,.int .i64 0,.int .i64 0,.int .i64 0,.int .i64 0,.int .i64 0]) 6 48 underlying239 hi0 hz0 hz1 hz2 rfl (by decide) (.slice aM Pl.length cM) Pl.length (Z6d F Pl) rfl (by first | exact Z04 HS7.out.row (fun g hg=>Z0u _ _ _ (Z08 HS7.out.row g hg).2)) ⟨w7.heap.size,0,none⟩ 1 1 [.int .i64 (f:Int),.int .i64 (T:Int),.int .i64 (x / 4 % 256),.int .i64 (x / 1024 % 16),.int .i64 (x / 16384 % 2),.int .i64 (x / 65536)] rfl rfl (U2j (cs:=#[.int .i64 (f:Int),.int .i64 (T:Int),.int .i64 (x / 4 % 256),.int .i64 (x / 1024 % 16),.int .i64 (x / 16384 % 2),.int .i64 (x / 65536)]) (t:=289) (U0b _ _)) (by intro u hu;simp at hu;rcases hu with rfl | rfl | rfl | rfl | rfl | rfl <;> rfl) (by decide) (by have:=HPn.out;unfold maxLen;omega) (by have:=HPn.out;omega) (by simp;omega) _ rfl ?_;intro g' cap' w8 hown8 hgrow8 hat8 hlt8;rw [<-hxm.out] at hown8;obtain ⟨q8,s8⟩:=SlAt.next HS7.out (((U01 _ _).alloc (U02 _) _).drew) hgrow8 hown8 hq3 (by omega) hbq;have a8:=(HA7.out.trans (Aside.of_below (((U01 _ _).alloc (U02 _) _).drew))).grown hgrow8 (fun k hk=>(Z08 HS7.out.row k hk).1);have n8:=(hgrow8.block ob (U0r (Z01 N7.out) (by simp)) (fun e=>by have:=HOb.out ob e.symm;omega)).trans ((Z0u _ _ _ (Z01 N7.out)).trans N7.out);have N8:=Z00 n8;have HA8:=Z00 a8;clear n8 a8;have c48:w8.cell? ⟨q,4,none⟩=some (.slice aM Pl.length cM):=(by rw [U06 _ _ _ _ _ _ q8];rfl);have f48:w8.frozen? ⟨q,4,none⟩=false:=(by simp [World.frozen?,q8]);have HS8:=Z00 s8;clear s8 hown8 hgrow8 hat8 hlt8))
    all_goals go_wp2_with fail
    all_goals go_meet
    all_goals exact ⟨_,HS8,HA8.out.setCell (Or.inl rfl) _,(U3p _ _ _ _ (show ob≠q by omega)).trans N8.out⟩
   case rest =>
    obtain ⟨vN,hS9,hA9,hN9⟩:=hcut
    have c59:=hS9.out.cells.2.2.2.2.2
    have o39:=Zkr hN9.out
    have f59:=hS9.out.ice
    obtain ⟨T',hT'⟩:∃ T',T'=T+(1+szN x):=⟨_,rfl⟩
    have e1:IntKind.i64.wrap (1+x / 65536)=1+x / 65536:=Z18 _ (by omega) (by omega)
    have e2:IntKind.i64.wrap ((T:Int)+(1+x / 65536))=(T':Int):=by
     rw [Z18 _ (by omega) (by omega),hT']
     unfold szN
     omega
    have etk:l.take (i+1)=l.take i ++ [f]:=by rw [U1g,HF'.out];rfl
    have HT10:Hid (T'=m0+Z0i F (l.take (i+1))):=by
     show T'=_
     rw [etk,Zgb,hT',HT.out,Hx.out]
     omega
    have HP10:Hid (Pl ++ [(f,T)]=Z2n F m0 (l.take (i+1))):=by
     show _=_
     rw [etk,Zel,HPl.out,HT.out]
    have HW10:Hid (Went (D.put (.int .i64 (f:Int)) (.lit (.int .i64 (T:Int)))) (Z7s (Z2n F m0 (l.take (i+1))))):=by
     show Went _ _
     rw [<-HP10.out,Zn9]
     ·rw [HPl.out]
      exact Zc0 hW.out f T
     ·rw [HPl.out,Z1m]
      exact Zpl hnd HF'.out
    have HS10:=Z00 (hS9.out.setTop hq3 hbq T')
    have HA10:=Z00 (Zmu (o:=5) hA9.out (Or.inl rfl) (.int .i64 (T':Int)))
    have hS10:=HS10.out
    rw [HP10.out] at hS10
    have HS11:Hid (SlAt p q bm nW w3.heap.size (m0+Z0i F (l.take (i+1))) F (Z2n F m0 (l.take (i+1))) n' (D.put (.int .i64 (f:Int)) (.lit (.int .i64 (T:Int)))) vN _):=(congrArg (fun t=>SlAt p q bm nW w3.heap.size t F (Z2n F m0 (l.take (i+1))) n' (D.put (.int .i64 (f:Int)) (.lit (.int .i64 (T:Int)))) vN _) HT10.out).mp hS10
    clear hS10
    clear etk hT' hS9 hA9 hN9
    go_wp2_with fail
    go_region_law fail
    all_goals
     go_wp2_with fail
     go_roundg (l.length+1 - (i+1))
     case measure=>have:=HG.out;omega
     case rel=>exact ⟨i+1,rfl,by omega,by go_num,n',_,vN,by omega,HS11,HW10,HA10⟩
  ·obtain rfl:i=l.length:=by omega
   have hI:¬ (l.length:Int)<(l.length:Int):=by omega
   rw [U13 (U02 _)] at hS hW
   have HE:Hid (Zbi p B nW m0 F l w (.returned (.pointer (some ⟨q,0,none⟩))) wr):=⟨q,bm,n,D,vM,rfl,hS.out.base (by omega),hW.out,hqw,hbm,HA3.out.trans (hA.out.below (by omega) (fun k hk h=>by omega))⟩
   go_wp2_with fail
   first | exact HE.out | (go_ret;exact HE.out) | (go_ret2;exact HE.out)
end
end Go.Proofs.YtlkcbdinlfeoiaaGreatDoor
