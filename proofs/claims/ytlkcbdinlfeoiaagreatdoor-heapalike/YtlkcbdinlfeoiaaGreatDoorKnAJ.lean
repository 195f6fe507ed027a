/- Package minor: a word follows, its object copied out if it was not (follow), by a contract. -/
import Derived.Test.YtlkcbdinlfeoiaaGreatDoorMnC
namespace Go.Proofs.YtlkcbdinlfeoiaaGreatDoor
open Go.Proofs.Tryz Go.RowKit
set_option maxHeartbeats 8000000
set_option maxRecDepth 100000
section
open Go.Maps
def CS.copy (e:CE) (s:CS) (f:Nat):CS:=if e.tn<=s.W.getD f 0 / 1024 % 16 then s.grown f (s.W.getD f 0) else s.young f (s.W.getD f 0)
def CS.follow (e:CE) (s:CS) (x:Int):CS:=if (Z0g e.lo e.hi s.φ x).2 then s else s.copy e (ptI x).toNat
def CS.word (e:CE) (s:CS) (x:Int):Int:=(Z0g e.lo e.hi (s.follow e x).φ x).1
structure CanCopy (e:CE) (s:CS) (f:Nat):Prop where
 head:Z0t (s.W.getD f 0)=true
 fit:f+(1+szN (s.W.getD f 0))<=e.nW
 grown:e.tn<=s.W.getD f 0 / 1024 % 16->s.gt+(1+szN (s.W.getD f 0))<=e.nW
 young:s.W.getD f 0 / 1024 % 16<e.tn->s.yt+(1+szN (s.W.getD f 0))<=e.nW
structure CSOK (e:CE) (s:CS):Prop where
 len:s.W.length=e.nW
 few:e.nW<=300000
 cap:e.nW<=e.cW
 hi:e.hi<=300000
 u64:U64 s.W
 yt:s.yt<=300000
 gt:s.gt<=300000
 tn:e.tn<=15
 φ:∀ f t,s.φ f=some t->t<=300000
theorem Zfm (e:CE) (s:CS) (f:Nat) (w:World) (H:CopAt e s w) (O:CSOK e s) (hc:CanCopy e s f) :
  Calls prog 255 #[.pointer (some ⟨e.q,0,none⟩),.int .u64 (((f:Int)+1)*4)] w fun ev w'=>ev = .returned (.tuple #[])/\CopAt e (s.copy e f) w'/\Aside e.own w w':=by
 have hf:f<s.W.length:=by have:=hc.fit;have:=O.len;omega
 have hx:s.W[f]?=some (s.W.getD f 0):=by rw [U07,U03 hf];rfl
 unfold CS.copy
 by_cases h:e.tn<=s.W.getD f 0 / 1024 % 16
 ·rw [U09 h]
  exact Zbq e s f _ w H hx O.len O.few O.cap O.u64 hc.head hc.fit (hc.grown h) O.yt O.gt h
 ·rw [U08 h]
  exact Zce e s f _ w H hx O.len O.few O.cap O.u64 hc.head hc.fit (hc.young (by omega)) O.yt O.gt O.tn (by omega)
theorem Zjb {lo hi:Nat}{φ:Nat->Option Nat}{x:Int} (h:(Z0g lo hi φ x).2=false):0<=ptI x/\x=(((ptI x).toNat:Int)+1)*4:=by
 unfold Z0g at h
 split at h
 ·rename_i hc
  refine ⟨hc.1,?_⟩
  have h1:=hc.1
  unfold ptI at h1 ⊢
  split at h1
  ·rename_i h2
   rw [U09 h2]
   omega
  ·omega
 ·cases h
theorem Z8n (a:Nat->Addr) (e:CE) (s:CS) (x:Int) (w:World) (H:CopAt e s w) (O:CSOK e s) (h0:0<=x) (h1:x<18446744073709551616) (E:∀ w',Aside e.own w w'->WErr a w') (hc:(Z0g e.lo e.hi s.φ x).2=false->CanCopy e s (ptI x).toNat /\ ∀ f t,(s.copy e (ptI x).toNat).φ f=some t->t<=300000) :
  Calls prog 237 #[.pointer (some ⟨e.q,0,none⟩),.int .u64 x] w fun ev w'=>ev = .returned (.int .u64 (s.word e x))/\CopAt e (s.follow e x) w'/\Aside e.own w w':=by
 obtain ⟨n,D,_,hM,hWe⟩:=H.hm
 have kn:=Zbu a e.lo e.hi e.bm n x D s.φ w O.hi h0 h1 O.φ hM hWe (E w (Aside.refl _ _))
 obtain ⟨d0,d1,d2,d3,_⟩:=H.cells
 cases hp:(Z0g e.lo e.hi s.φ x).2 with
 | true =>
  have hf:s.follow e x=s:=by unfold CS.follow;rw [hp];rfl
  unfold CS.word
  rw [hf]
  rw [hp] at kn
  have HH:=Z00 H
  obtain ⟨y,hy⟩:∃ y,y=(Z0g e.lo e.hi s.φ x).1:=⟨_,rfl⟩
  rw [<-hy] at kn ⊢
  clear hy hf H hM hWe E hc O hp
  go_enter func237,ntmps237
  go_wp2_with fail
  refine kn.mono ?_
  clear kn
  rintro ev w1 ⟨rfl,b1⟩
  go_wp2_with fail
  go_ret
  exact ⟨rfl,HH.out.below b1,Aside.of_below b1⟩
 | false =>
  obtain ⟨hcc,hφ'⟩:=hc hp
  obtain ⟨hp0,hxe⟩:=Zjb hp
  have hf:s.follow e x=s.copy e (ptI x).toNat:=by unfold CS.follow;rw [hp];rfl
  unfold CS.word
  rw [hf]
  rw [hp] at kn
  have HK:Hid (∀ w1,Below w.heap.size w w1->Calls prog 255 #[.pointer (some ⟨e.q,0,none⟩),.int .u64 x] w1 fun ev w'=>ev = .returned (.tuple #[])/\CopAt e (s.copy e (ptI x).toNat) w'/\Aside e.own w w'):=fun w1 b1=>by
   have h:=Zfm e s (ptI x).toNat w1 (H.below b1) O hcc
   rw [<-hxe] at h
   refine h.mono ?_
   rintro ev w' ⟨rfl,h2,h3⟩
   exact ⟨rfl,h2,(Aside.of_below b1).trans h3⟩
  have HN:Hid (∀ w2,CopAt e (s.copy e (ptI x).toNat) w2->Aside e.own w w2->Calls prog 239 #[.agg #[.int .i64 (e.lo:Int),.int .i64 (e.hi:Int),.map (some e.bm)],.int .u64 x] w2 fun ev w'=>ev = .returned (.tuple #[.int .u64 (Z0g e.lo e.hi (s.copy e (ptI x).toNat).φ x).1,.bool (Z0g e.lo e.hi (s.copy e (ptI x).toNat).φ x).2])/\Below w2.heap.size w2 w'):=fun w2 h2 a2=>by
   obtain ⟨n2,D2,_,hM2,hW2⟩:=h2.hm
   exact Zbu a e.lo e.hi e.bm n2 x D2 _ w2 O.hi h0 h1 hφ' hM2 hW2 (E w2 a2)
  have hc0:Hid (∀ w2,CopAt e (s.copy e (ptI x).toNat) w2->w2.cell? ⟨e.q,1,none⟩=some (.int .i64 (e.lo:Int))/\w2.cell? ⟨e.q,2,none⟩=some (.int .i64 (e.hi:Int))/\w2.cell? ⟨e.q,3,none⟩=some (.map (some e.bm))):=fun w2 h2=>by
   obtain ⟨_,c1,c2,c3,_⟩:=h2.cells
   exact ⟨c1,c2,c3⟩
  obtain ⟨y,hy⟩:∃ y,y=(Z0g e.lo e.hi (s.copy e (ptI x).toNat).φ x).1:=⟨_,rfl⟩
  obtain ⟨z,hz⟩:∃ z,z=(Z0g e.lo e.hi (s.copy e (ptI x).toNat).φ x).2:=⟨_,rfl⟩
  obtain ⟨y0,hy0⟩:∃ y0,y0=(Z0g e.lo e.hi s.φ x).1:=⟨_,rfl⟩
  obtain ⟨s',hs'⟩:∃ s',s'=s.copy e (ptI x).toNat:=⟨_,rfl⟩
  rw [<-hy,<-hz] at HN
  rw [<-hy0] at kn
  rw [<-hy]
  rw [<-hs'] at HK HN hc0 ⊢
  clear hy hz hy0 hs' hf H hM hWe E hc O hp hcc hφ' hxe hp0
  go_enter func237,ntmps237
  go_wp2_with fail
  refine kn.mono ?_
  clear kn
  rintro ev w1 ⟨rfl,b1⟩
  have kk:=HK.out w1 b1
  clear b1 HK d0 d1 d2 d3
  go_wp2_with fail
  refine kk.mono ?_
  clear kk
  rintro ev w2 ⟨rfl,H2,A2⟩
  obtain ⟨c1,c2,c3⟩:=hc0.out w2 H2
  have k2:=HN.out w2 H2 A2
  have HH2:=Z00 H2
  have HA2:=Z00 A2
  clear H2 A2 hc0 HN
  go_wp2_with fail
  refine k2.mono ?_
  clear k2
  rintro ev w3 ⟨rfl,b3⟩
  go_wp2_with fail
  go_ret
  exact ⟨rfl,HH2.out.below b3,HA2.out.trans (Aside.of_below b3)⟩
end
section
open Go.Maps
def CS.mark (e:CE) (s:CS) (y:Nat):CS:=if 2*e.half<=(y:Int)/\Z14 e.half (s.W.getD y 0)=true then { s with C:=s.C.set (Z35 e.half e.card y) true } else s
theorem CopAt.mem {e:CE}{s:CS}{w:World} (h:CopAt e s w):MemAt e.p e.half e.old e.card (.slice (some ⟨e.bW,0,none⟩) e.nW e.cW) e.used e.top e.oldTop e.vR e.vK e.vI (.slice (some ⟨e.bC,0,none⟩) e.nC e.cC) w:=by
 have hp:=h.hp
 unfold MB at hp
 constructor <;> (rw [U06 _ _ _ _ _ _ hp];rfl)
theorem CopAt.cards {e:CE}{s:CS}{w w':World} (h:CopAt e s w) (ha:Aside (· = e.bC) w w') (C:List Bool) (hC:Blk e.bC 4 (Z0s C) w'):CopAt e { s with C:=C } w':=by
 obtain ⟨n1,n2,n3,n4,n5,n6,n7,n8,n9,n10⟩:=h.ne
 obtain ⟨k,D,hn,hm,hw⟩:=h.hm
 exact ⟨(ha.block _ (Z01 h.hq) n4).trans h.hq,(ha.block _ (Z01 h.hp) n7).trans h.hp,h.hW.aside ha n10,hC,k,D,hn,Z0f hm ha n9,hw⟩
theorem Zb7 (C:List Bool) (j:Nat) (b:Bool):(Z0s C).set j (.bool b)=Z0s (C.set j b):=by unfold Z0s;rw [U35]
theorem Zmm (a:Nat->Addr) (e:CE) (s:CS) (y:Nat) (x:Int) (w:World) (H:CopAt e s w) (F:Fits e.half e.old e.card e.nW e.nC e.used e.top e.oldTop) (hlW:s.W.length=e.nW) (hlC:s.C.length=e.nC) (hx:s.W[y]?=some x) (x0:0<=x) (x1:x<18446744073709551616) (E:WErr a w) :
  Calls prog 75 #[.pointer (some ⟨e.p,0,none⟩),.int .i64 (y:Int)] w fun ev w'=>ev = .returned (.tuple #[])/\CopAt e (s.mark e y) w'/\Aside e.own w w':=by
 have hnum:=F.nums
 unfold Z0c at hnum
 have hw:=F.w
 have hyl:y<e.nW:=by rw [<-hlW];exact (U0e.1 hx).1
 have hy3:y<=300000:=by omega
 have dy:w.cell? ⟨e.bW,y,none⟩=some (.int .u64 x):=H.hW.cell (Z4x hx)
 have hgx:s.W.getD y 0=x:=by rw [U07,hx];rfl
 have M:=H.mem
 have c0:w.cell? ⟨e.p,0,none⟩=some (.int .i64 e.half):=M.c0
 have c3:=M.c3
 have km:Hid (∀ q,Calls prog 123 #[.pointer (some ⟨e.p,0,none⟩)] (w.drewN q) fun ev w'=>ev = .returned (.bool true) /\ ∃ n,w'=(w.drewN q).drewN n):=fun q=>Z3d e.p e.half e.old e.card e.nW e.nC e.cW e.cC _ _ e.used e.top e.oldTop _ _ _ F (w.drewN q) (M.below (Z03 (U01 _ _)) (Z02 c0))
 have ko:Hid (∀ q,Calls prog 85 #[.pointer (some ⟨e.p,0,none⟩)] (w.drewN q) fun ev w'=>ev = .returned (.int .i64 (2*e.half))/\w'=w.drewN q):=fun q=>Z0v e.p e.half (by omega) (by omega) (w.drewN q) c0
 have ky:Hid (∀ q,Calls prog 125 #[.pointer (some ⟨e.p,0,none⟩),.int .u64 x] (w.drewN q) fun ev w'=>ev = .returned (.bool (Z14 e.half x)) /\ ∃ n,w'=(w.drewN q).drewN n):=fun q=>Z8y a e.p e.half x (by omega) (by omega) x0 x1 (w.drewN q) (E.below (Z03 (U01 _ _))) c0
 have kw:Hid (∀ W,Calls prog 124 #[.int .i64 (y:Int),.int .i64 (2*e.half),.int .i64 ((e.nW:Int) - 1)] W fun ev w'=>ev = .returned (.bool (decide (2*e.half<=(y:Int))))/\w'=W):=fun W=>by
  have h:=Z3j (y:Int) (2*e.half) ((e.nW:Int) - 1) W
  rw [U0d (show (y:Int)<=(e.nW:Int) - 1 by omega),Bool.and_true] at h
  exact h
 have e1:IntKind.i64.wrap ((e.nW:Int) - 1)=(e.nW:Int) - 1:=Z18 _ (by omega) (by omega)
 have hI:(y:Int)<(e.nW:Int):=by omega
 have hI0:(0:Int)<=(y:Int):=by omega
 have HH:=Z00 H
 have HX:=Z00 hgx
 have d2:=M.c2
 have d10:=M.c10
 have HLC:=Z00 hlC
 have hFM:Hid ((⟨e.half,e.old,e.card,e.used,e.top,e.oldTop,s.W,[],[],[],s.C⟩:MD).FitsM):=by
  show Fits e.half e.old e.card s.W.length s.C.length e.used e.top e.oldTop
  rw [hlW,hlC];exact F
 have HLW:=Z00 hlW
 clear H M E hx hw hgx hlC hlW F
 by_cases hold:2*e.half<=(y:Int)
 ·rw [U0d hold] at kw
  cases hyo:Z14 e.half x with
  | true =>
   rw [hyo] at ky
   have HPU:Hid (s.mark e y = { s with C:=s.C.set (Z35 e.half e.card y) true }):=by show _=_;unfold CS.mark;rw [U09 ⟨hold,by rw [HX.out];exact hyo⟩]
   clear hyo
   obtain ⟨d,j,hd,hj,hjl,hcn⟩:=Zc4 hFM.out hold (by show y<s.W.length;rw [HLW.out];exact hyl)
   have hd:(y:Int) - 2*e.half=(d:Int):=hd
   have hj:(d:Int) / e.card=(j:Int):=hj
   have hjl:j<s.C.length:=hjl
   have hcn:Z35 e.half e.card y=j:=hcn
   have hJ:(j:Int)<(e.nC:Int):=by rw [<-HLC.out];omega
   have hJ0:(0:Int)<=(j:Int):=by omega
   have kc:Hid (∀ W,Below w.heap.size w W->Calls prog 126 #[.pointer (some ⟨e.p,0,none⟩),.int .i64 (y:Int)] W fun ev w'=>ev = .returned (.int .i64 (j:Int)) /\ ∃ n,w'=W.drewN n):=fun W hW=>Z5h e.p e.half e.card y d j (by omega) (by omega) (by omega) hy3 hd hj W ((hW.cell (p:=⟨e.p,0,none⟩) (Z02 c0)).trans c0) ((hW.cell (p:=⟨e.p,2,none⟩) (Z02 d2)).trans d2)
   have HJL:=Z00 hjl
   have HCN:=Z00 hcn
   clear hd hj hcn hjl
   go_enter func75,ntmps75
   go_wp2_with fail
   go_quiet (first | (go_at_call 123;exact U1a (km.out _)) | (go_at_call 85;exact U0q (ko.out _)) | (go_at_call 124;exact U0q (kw.out _)) | (go_at_call 125;exact U1a (ky.out _)))
   go_upto_region 1 with fail
   obtain ⟨w5,hw5⟩:∃ w5,w5=w.drewN nq:=⟨_,rfl⟩
   rw [<-hw5]
   have hb5:Below w.heap.size w w5:=by rw [hw5];exact Z03 (U01 _ _)
   have H5:=HH.out.below hb5
   have d10:w5.cell? ⟨e.p,10,none⟩=some (.slice (some ⟨e.bC,0,none⟩) e.nC e.cC):=H5.mem.c10
   have dj5:∃ u,w5.cell? ⟨e.bC,j,none⟩=some u:=⟨_,H5.hC.cell (U03 (by simpa [Z0s] using HJL.out))⟩
   obtain ⟨u5,dj5⟩:=dj5
   have df5:=H5.hC.frozen j
   have ldj:=Z02 dj5
   have ld10:=Z02 d10
   have kc:Hid (∀ W,Below w5.heap.size w5 W->Calls prog 126 #[.pointer (some ⟨e.p,0,none⟩),.int .i64 (y:Int)] W fun ev w'=>ev = .returned (.int .i64 (j:Int))/\Below w5.heap.size w5 w'):=fun W hW=>by
    refine (kc.out W (hb5.trans (hW.mono hb5.size))).mono ?_
    rintro ev w9 ⟨rfl,n,hq⟩
    exact ⟨rfl,by rw [hq];exact Z03 hW⟩
   have HB5:=Z00 hb5
   have HH5:=Z00 H5
   clear hw5 hb5 H5 c0 c3 dy d2
   go_region_with ((go_at_call 126;refine (kc.out _ (by first | exact (U01 _ _).drew | exact U01 _ _)).mono ?_;rintro ev w7 ⟨rfl,hb7⟩;have t10:=(hb7.cell (p:=⟨e.p,10,none⟩) ld10).trans d10;have tj:=(hb7.cell (p:=⟨e.bC,j,none⟩) ldj).trans dj5;have tf:=(hb7.frozen (p:=⟨e.bC,j,none⟩) ldj).trans df5))
   all_goals go_wp2_with fail
   all_goals go_end0
   all_goals (
    have H7:=HH5.out.below hb7
    have hB7:Blk e.bC 4 (Z0s (s.C.set j true)) (w7.setCell ⟨e.bC,j,none⟩ (.bool true)):=by
     rw [<-Zb7]
     exact H7.hC.set (by simpa [Z0s] using HJL.out) _
    have A7:Aside (· = e.bC) w7 (w7.setCell ⟨e.bC,j,none⟩ (.bool true)):=(Aside.refl (fun k=>k=e.bC) w7).setCell (g:=e.bC) rfl _
    have H8:=H7.cards A7 _ hB7
    have A8:Aside e.own w (w7.setCell ⟨e.bC,j,none⟩ (.bool true)):=(Aside.of_below (HB5.out.trans (hb7.mono HB5.out.size))).trans (A7.mono (fun k hk=>Or.inr (Or.inr (Or.inr hk))))
    refine ⟨rfl,?_,?_⟩
    ·rw [HPU.out,HCN.out];first | exact H8 | exact H8.below (U01 _ _).drew
    ·first | exact A8 | exact A8.trans (Aside.of_below (U01 _ _).drew))
  | false =>
   rw [hyo] at ky
   have HPU:Hid (s.mark e y=s):=by show _=_;unfold CS.mark;rw [U08 (fun h=>by rw [HX.out,hyo] at h;cases h.2)]
   clear hyo
   go_enter func75,ntmps75
   go_wp2_with fail
   go_quiet (first | (go_at_call 123;exact U1a (km.out _)) | (go_at_call 85;exact U0q (ko.out _)) | (go_at_call 124;exact U0q (kw.out _)) | (go_at_call 125;exact U1a (ky.out _)))
   go_wp2_with fail
   go_end0
   have hb5:Below w.heap.size w (w.drewN nq):=Z03 (U01 _ _)
   exact ⟨rfl,by rw [HPU.out];exact HH.out.below hb5,Aside.of_below hb5⟩
 ·rw [U0k hold] at kw
  have HPU:Hid (s.mark e y=s):=by show _=_;unfold CS.mark;rw [U08 (fun h=>hold h.1)]
  go_enter func75,ntmps75
  go_wp2_with fail
  go_quiet (first | (go_at_call 123;exact U1a (km.out _)) | (go_at_call 85;exact U0q (ko.out _)) | (go_at_call 124;exact U0q (kw.out _)) | (go_at_call 125;exact U1a (ky.out _)))
  go_wp2_with fail
  go_end0
  have hb5:Below w.heap.size w (w.drewN nq):=Z03 (U01 _ _)
  exact ⟨rfl,by rw [HPU.out];exact HH.out.below hb5,Aside.of_below hb5⟩
end
section
open Go.Maps
def Zfn (g o:Nat) (W:World):Value:=(W.cell? ⟨g,o,none⟩).getD undef
theorem Zgy {g o:Nat}{W:World}{v:Value} (h:W.cell? ⟨g,o,none⟩=some v):Zfn g o W=v:=by unfold Zfn;rw [h];rfl
theorem Z7c {g o:Nat}{W:World} (h:∃ v,W.cell? ⟨g,o,none⟩=some v):W.cell? ⟨g,o,none⟩=some (Zfn g o W):=by obtain ⟨v,h⟩:=h;rw [Zgy h];exact h
def CS.put (e:CE) (s:CS) (y:Nat):CS:={ s.follow e (s.W.getD y 0) with W:=(s.follow e (s.W.getD y 0)).W.set y (s.word e (s.W.getD y 0)) }
def CS.field (e:CE) (s:CS) (y:Nat):CS:=(s.put e y).mark e y
theorem Z6z (a:Nat->Addr) (e:CE) (s:CS) (y:Nat) (w:World) (H:CopAt e s w) (O:CSOK e s) (F:Fits e.half e.old e.card e.nW e.nC e.used e.top e.oldTop) (hy:y<e.nW) (E:∀ w',Aside e.own w w'->WErr a w')
  (hc:(Z0g e.lo e.hi s.φ (s.W.getD y 0)).2=false->CanCopy e s (ptI (s.W.getD y 0)).toNat /\ ∀ f t,(s.copy e (ptI (s.W.getD y 0)).toNat).φ f=some t->t<=300000)
  (O':CSOK e (s.follow e (s.W.getD y 0))) (hlC':(s.follow e (s.W.getD y 0)).C.length=e.nC) :
  Calls prog 202 #[.pointer (some ⟨e.q,0,none⟩),.int .i64 (y:Int)] w fun ev w'=>ev = .returned (.tuple #[])/\CopAt e (s.field e y) w'/\Aside e.own w w':=by
 obtain ⟨x,hxe⟩:∃ x,x=s.W.getD y 0:=⟨_,rfl⟩
 have hyl:y<s.W.length:=by rw [O.len];exact hy
 have hx:s.W[y]?=some x:=by rw [hxe,U07,U03 hyl];rfl
 obtain ⟨x0,x1⟩:=O.u64 x (U0a hx)
 rw [<-hxe] at hc O' hlC'
 have HFI:Hid (s.field e y=CS.mark e { s.follow e x with W:=(s.follow e x).W.set y (s.word e x) } y):=by show _=_;unfold CS.field CS.put;rw [<-hxe]
 have kf:=Z8n a e s x w.drew (H.below (U01 _ _).drew) O x0 x1 (fun w' h=>E w' ((Aside.of_below (U01 _ _).drew).trans h)) hc
 obtain ⟨s',hs'⟩:∃ s',s'=s.follow e x:=⟨_,rfl⟩
 obtain ⟨z,hz⟩:∃ z,z=s.word e x:=⟨_,rfl⟩
 have hz01:0<=z/\z<18446744073709551616:=by rw [hz];exact Z49 O'.φ x0 x1
 rw [<-hs',<-hz] at kf HFI
 rw [<-hs'] at O' hlC'
 have hyl':y<s'.W.length:=by rw [O'.len];exact hy
 obtain ⟨hq1,hq2,hq3,hq4,hq5,hq6,hq7,hq8,hq9,hq10⟩:=H.ne
 obtain ⟨d0,_,_,_,_,_,_,_,_,dm⟩:=H.cells
 have cx:w.cell? ⟨e.bW,y,none⟩=some (.int .u64 x):=H.hW.cell (Z4x hx)
 have HV:Hid (Zfn e.bW y w.drew = .int .u64 x):=Zgy cx
 have HS0:Hid (w.drew.cell? ⟨e.q,0,none⟩=some (.pointer (some ⟨e.p,0,none⟩))/\w.drew.cell? ⟨e.p,3,none⟩=some (.slice (some ⟨e.bW,0,none⟩) e.nW e.cW)/\w.drew.cell? ⟨e.bW,y,none⟩=some (Zfn e.bW y w.drew)):=⟨d0,dm,Z7c ⟨_,cx⟩⟩
 have HS1:Hid (∀ w1,CopAt e s' w1->w1.cell? ⟨e.q,0,none⟩=some (.pointer (some ⟨e.p,0,none⟩))/\w1.cell? ⟨e.p,3,none⟩=some (.slice (some ⟨e.bW,0,none⟩) e.nW e.cW)/\w1.cell? ⟨e.bW,y,none⟩=some (Zfn e.bW y w1)):=fun w1 h1=>by
  obtain ⟨d0,_,_,_,_,_,_,_,_,dm⟩:=h1.cells
  exact ⟨d0,dm,Z7c ⟨_,h1.hW.cell (U03 (by rw [Z3y];exact hyl'))⟩⟩
 have HS2:Hid (∀ w1,CopAt e s' w1->CopAt e { s' with W:=s'.W.set y z } (w1.setCell ⟨e.bW,y,none⟩ (.int .u64 z))):=fun w1 h1=>by
  refine h1.words ((Aside.refl (fun k=>k=e.bW) w1).setCell (g:=e.bW) rfl _) _ ?_
  rw [<-Z23]
  exact h1.hW.set (by rw [Z3y];exact hyl') _
 have HS3:Hid (∀ w1,CopAt e { s' with W:=s'.W.set y z } w1->w1.cell? ⟨e.q,0,none⟩=some (.pointer (some ⟨e.p,0,none⟩))/\w1.cell? ⟨e.p,3,none⟩=some (.slice (some ⟨e.bW,0,none⟩) e.nW e.cW)/\w1.cell? ⟨e.bW,y,none⟩=some (Zfn e.bW y w1)):=fun w1 h1=>by
  obtain ⟨d0,_,_,_,_,_,_,_,_,dm⟩:=h1.cells
  exact ⟨d0,dm,Z7c ⟨_,h1.hW.cell (U03 (by rw [Z3y,U0t];exact hyl'))⟩⟩
 have HKM:Hid (∀ w1,CopAt e { s' with W:=s'.W.set y z } w1->Aside e.own w w1->Calls prog 75 #[.pointer (some ⟨e.p,0,none⟩),.int .i64 (y:Int)] w1 fun ev w'=>ev = .returned (.tuple #[])/\CopAt e (CS.mark e { s' with W:=s'.W.set y z } y) w'/\Aside e.own w w'):=fun w1 h1 a1=>by
  refine (Zmm a e _ y z w1 h1 F (by show (s'.W.set y z).length=e.nW;rw [U0t];exact O'.len) hlC' (by show (s'.W.set y z)[y]?=some z;rw [U18 hyl']) hz01.1 hz01.2 (E w1 a1)).mono ?_
  rintro ev w' ⟨rfl,h2,a2⟩
  exact ⟨rfl,h2,a1.trans a2⟩
 have hI:(y:Int)<(e.nW:Int):=by omega
 have hI0:(0:Int)<=(y:Int):=by omega
 have HKF:=Z00 kf
 have HFZ:Hid (∀ w1,CopAt e s' w1->w1.frozen? ⟨e.bW,y,none⟩=false):=fun w1 h1=>h1.hW.frozen y
 have HA0:Hid (∀ w1,Aside e.own w.drew w1->Aside e.own w w1):=fun w1 h=>(Aside.of_below (U01 _ _).drew).trans h
 have HOW:Hid (e.own e.bW):=Or.inr (Or.inr (Or.inl rfl))
 clear H O O' hs' hz hc E hx hxe kf d0 dm cx hlC'
 go_enter func202,ntmps202
 go_upto_region 0 with fail
 have d0:=HS0.out.1
 have dm:=HS0.out.2.1
 have cx:w.drew.cell? ⟨e.bW,y,none⟩=some (.int .u64 x):=by rw [HS0.out.2.2,HV.out]
 go_region_law (first | (go_simp;go_at_call 237;refine HKF.out.mono ?_;rintro ev w1 ⟨rfl,h1,a1⟩;have H1:=Z00 h1;have A1:=Z00 a1;have f1:=HFZ.out w1 h1;obtain ⟨k0,km,kx⟩:=HS1.out w1 h1;clear h1 a1))
 all_goals (
  have h2:=HS2.out _ H1.out
  have a2:Aside e.own w (w1.setCell ⟨e.bW,y,none⟩ (.int .u64 z)):=(HA0.out _ A1.out).setCell HOW.out _
  have km2:=HKM.out _ h2 a2
  obtain ⟨k02,_,_⟩:=HS3.out _ h2
  clear k0 km kx f1 d0 dm cx h2 a2
  generalize w1.setCell ⟨e.bW,y,none⟩ (.int .u64 z)=w2 at *
  go_wp2_with fail
  refine km2.mono ?_
  clear km2
  rintro ev w3 ⟨rfl,h3,a3⟩
  have H3:=Z00 h3
  have A3:=Z00 a3
  clear h3 a3
  go_wp2_with fail
  go_end0
  exact ⟨rfl,by rw [HFI.out];exact H3.out,A3.out⟩)
end
section
open Go.Maps
def CS.followN (e:CE) (s:CS) (R:List Int):Nat->CS
 | 0=>s
 | i+1=>(s.followN e R i).follow e (R.getD i 0)
def CS.rowN (e:CE) (s:CS) (R:List Int):Nat->List Int
 | 0=>R
 | i+1=>(s.rowN e R i).set i ((s.followN e R i).word e (R.getD i 0))
theorem Z69 (e:CE) (s:CS) (R:List Int):∀ i,(s.rowN e R i).length=R.length
 | 0=>rfl
 | i+1=>by unfold CS.rowN;rw [U0t];exact Z69 e s R i
theorem Zmr (e:CE) (s:CS) (R:List Int):∀ i j:Nat,i<=j->(s.rowN e R i)[j]?=R[j]?
 | 0,_,_=>rfl
 | i+1,j,h=>by unfold CS.rowN;rw [U1c (by omega)];exact Zmr e s R i j (by omega)
theorem Zbn (a:Nat->Addr) (e:CE) (s:CS) (R:List Int) (g cap:Nat) (w:World) (H:CopAt e s w) (hU:U64 R) (hR:R.length<=300000) (B:Blk g 81 (Z05 R) w) (hg:¬ (g=e.q\/g=e.p\/g=e.bm\/g=e.bW\/g=e.bC)) (E:∀ w',Aside (fun k=>e.own k\/k=g) w w'->WErr a w')
  (hO:∀ i,i<R.length->CSOK e (s.followN e R i))
  (hc:∀ i,i<R.length->(Z0g e.lo e.hi (s.followN e R i).φ (R.getD i 0)).2=false->CanCopy e (s.followN e R i) (ptI (R.getD i 0)).toNat /\ ∀ f t,((s.followN e R i).copy e (ptI (R.getD i 0)).toNat).φ f=some t->t<=300000) :
  Calls prog 201 #[.pointer (some ⟨e.q,0,none⟩),.slice (some ⟨g,0,none⟩) R.length cap] w fun ev w'=>ev = .returned (.tuple #[])/\CopAt e (s.followN e R R.length) w'/\Blk g 81 (Z05 (s.rowN e R R.length)) w'/\Aside (fun k=>e.own k\/k=g) w w':=by
 have HE:=Z00 E
 have HO:=Z00 hO
 have HC:=Z00 hc
 have HU:=Z00 hU
 have HG:=Z00 hg
 have H0:=Z00 H
 have HB0:=Z00 B
 clear E hO hc hU hg H B
 go_enter func201,ntmps201
 go_wp2_with fail
 go_loopg [8] (R.length+1) (fun gk v8 wr => ∃ i:Nat,gk=R.length+1 - i/\i<=R.length/\v8 = .int .i64 (i:Int)/\Hid (CopAt e (s.followN e R i) wr)/\Hid (Blk g 81 (Z05 (s.rowN e R i)) wr)/\Hid (Aside (fun k=>e.own k\/k=g) w wr))
 case atStart=>exact ⟨0,rfl,U0x _,rfl,H0,HB0,Aside.refl _ _⟩
 case round =>
  obtain ⟨i,hgk,hi',rfl,hH,hB,hA⟩:=hrel
  have HGK:=Z00 hgk
  clear hgk
  have hi0:(0:Int)<=(i:Int):=by omega
  by_cases hlt:i<R.length
  ·have hI:(i:Int)<(R.length:Int):=by omega
   obtain ⟨x,hxe⟩:∃ x,x=R.getD i 0:=⟨_,rfl⟩
   have hx:R[i]?=some x:=by rw [hxe,U07,U03 hlt];rfl
   have hm:=(Zmr e s R i i (U02 _)).trans hx
   have cx:=hB.out.cell (Z4x hm)
   have hux:=HU.out x (U0a hx)
   have hci:=HC.out i hlt
   rw [<-hxe] at hci
   have kf:=Z8n a e (s.followN e R i) x wr hH.out (HO.out i hlt) hux.1 hux.2 (fun w' h=>HE.out w' (hA.out.trans (h.mono (fun k hk=>Or.inl hk)))) hci
   have HST:Hid (s.followN e R (i+1)=(s.followN e R i).follow e x/\s.rowN e R (i+1)=(s.rowN e R i).set i ((s.followN e R i).word e x)):=by
    refine ⟨?_,?_⟩
    ·show (s.followN e R i).follow e (R.getD i 0)=_;rw [<-hxe]
    ·show (s.rowN e R i).set i ((s.followN e R i).word e (R.getD i 0))=_;rw [<-hxe]
   obtain ⟨z,hz⟩:∃ z,z=(s.followN e R i).word e x:=⟨_,rfl⟩
   obtain ⟨s1,hs1⟩:∃ s1,s1=(s.followN e R i).follow e x:=⟨_,rfl⟩
   rw [<-hz,<-hs1] at kf HST
   clear hm hx hux hxe hci hz hs1
   go_wp2_with fail
   refine kf.mono ?_
   clear kf
   rintro ev w1 ⟨rfl,h1,a1⟩
   have hng:¬ e.own g:=fun h=>HG.out (by rcases h with h | h | h | h <;> simp [h])
   have B1:=hB.out.aside a1 hng
   have hl1:i<(Z05 (s.rowN e R i)).length:=by rw [Z3y,Z69];exact hlt
   obtain ⟨u1,cu1⟩:∃ u,w1.cell? ⟨g,i,none⟩=some u:=⟨_,B1.cell (U03 hl1)⟩
   have fz:=B1.frozen i
   have B2:=Z00 (B1.set hl1 (.int .u64 z))
   have aS:Aside (· = g) w1 (w1.setCell ⟨g,i,none⟩ (.int .u64 z)):=(Aside.refl (fun k=>k=g) w1).setCell (g:=g) rfl _
   have H2:=Z00 (h1.aside aS (fun k hk e1=>HG.out (by rw [<-(show k=g from e1)];exact hk)))
   have A2:Hid (Aside (fun k=>e.own k\/k=g) w (w1.setCell ⟨g,i,none⟩ (.int .u64 z))):=(hA.out.trans (a1.mono (fun k hk=>Or.inl hk))).trans (aS.mono (fun k hk=>Or.inr hk))
   clear h1 a1 B1 hl1 aS cx hA hB hH hng
   go_wp2_with fail
   go_roundg (R.length+1 - (i+1))
   case measure=>have:=HGK.out;omega
   case rel=>exact ⟨i+1,rfl,by omega,by go_num,by rw [HST.out.1];exact H2,by rw [HST.out.2,<-Z23];exact B2,A2⟩
  ·have hI:¬ (i:Int)<(R.length:Int):=by omega
   obtain rfl:i=R.length:=by omega
   go_wp2_with fail
   go_end0
   exact ⟨rfl,hH.out,hB.out,hA.out⟩
end
end Go.Proofs.YtlkcbdinlfeoiaaGreatDoor
