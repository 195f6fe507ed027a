/- An object is carried (carry), by a contract. -/
import Derived.Test.YtlkcbdinlfeoiaaGreatDoorMjH
namespace Go.Proofs.YtlkcbdinlfeoiaaGreatDoor
open Go.Proofs.Tryz Go.RowKit
set_option maxHeartbeats 8000000
set_option maxRecDepth 100000
section
open Go.Maps
structure CarAt (p q bm nW bW cW:Nat) (W:List Int) (w:World):Prop where
 c0:w.cell? ⟨q,0,none⟩=some (.pointer (some ⟨p,0,none⟩))
 c1:w.cell? ⟨q,1,none⟩=some (.int .i64 0)
 c2:w.cell? ⟨q,2,none⟩=some (.int .i64 (nW:Int))
 c3:w.cell? ⟨q,3,none⟩=some (.map (some bm))
 p3:w.cell? ⟨p,3,none⟩=some (.slice (some ⟨bW,0,none⟩) nW cW)
 row:Blk bW 81 (Z05 W) w
theorem CarAt.aside {X:Nat->Prop}{p q bm nW bW cW:Nat}{W:List Int}{w w':World} (h:CarAt p q bm nW bW cW W w) (ha:Aside X w w') (h1:¬ X q) (h2:¬ X p) (h3:¬ X bW):CarAt p q bm nW bW cW W w':=
 ⟨ha.cell h.c0 h1,ha.cell h.c1 h1,ha.cell h.c2 h1,ha.cell h.c3 h1,ha.cell h.p3 h2,h.row.aside ha h3⟩
theorem Aside.joinI {X Y:Nat->Prop}{w w1 w2:World} (h:Aside X w w1) (h':Aside Y w1 w2) (hy:∀ k,k<w.heap.size->Y k->X k):Aside X w w2:=
 ⟨h'.os.trans h.os,h'.tape.trans h.tape,h'.output.trans h.output,U0n h.size h'.size,fun k hk hx=>(h'.block k (U0r hk h.size) (fun hyk=>hx (hy k hk hyk))).trans (h.block k hk hx)⟩
theorem Zqv {W:List Int}{f t:Nat}{x:Int} (hU:U64 W) (hh:Z0t x=true) (x0:0<=x) (ht:t+(1+szN x)<=W.length) (hf:f+(1+szN x)<=W.length):U64 (Zc8 W f t x 0):=fun y hy=>by
 have hd:=Z2s hh x0 (g:=0) (by omega) (by omega)
 have hWr:∀ j,0<=W.getD j 0/\W.getD j 0<18446744073709551616:=fun j=>by
  rw [U07]
  cases hj:W[j]? with
  | none=>exact ⟨by decide,by decide⟩
  | some x=>exact hU x (U0a hj)
 obtain ⟨i,hi,rfl⟩:=U27.1 hy
 have hg:(Zc8 W f t x 0)[i]=(Zc8 W f t x 0).getD i 0:=by rw [U07,U03 hi];rfl
 rw [hg,Zfa W f t i x 0 ht hf]
 split
 ·exact ⟨hd.2.2.2.2.2.1,hd.2.2.2.2.2.2⟩
 ·split
  ·exact hWr _
  ·exact hWr _
theorem Zkf (a:Nat->Addr) (p q bm nW bW cW f t s nm:Nat) (x:Int) (W:List Int) (D:DataW Unit) (φ:Nat->Option Nat) (w:World) (H:CarAt p q bm nW bW cW W w) (hl:W.length=nW) (hn:nW<=300000) (hcw:nW<=cW) (hU:U64 W) (hh:Z0t x=true) (x0:0<=x) (hs:(s:Int)=x / 65536) (hf:f+(1+s)<=nW) (ht:t+(1+s)<=nW) (lq:q<w.heap.size) (lb:bW<w.heap.size) (hqb:¬ q=bW) (hpb:¬ p=bW) (hmb:bm≠bW)
  (hφ:∀ f t,φ f=some t->t<=300000) (M:w.ownsMap prog 3 (plainElem prog 3) bm nm D) (We:Went D φ) (E:∀ w',Aside (· = bW) w w'->WErr a w') :
  Calls prog 209 #[.pointer (some ⟨q,0,none⟩),.agg #[.int .i64 (f:Int),.int .i64 (t:Int),.int .i64 (x / 4 % 256),.int .i64 (x / 1024 % 16),.int .i64 (x / 16384 % 2),.int .i64 (s:Int)]] w fun ev w'=>ev = .returned (.tuple #[])/\Blk bW 81 (Z05 (Z2g nW φ W f t x)) w'/\Aside (· = bW) w w':=by
 have hsz:szN x=s:=by unfold szN;omega
 obtain ⟨E1,E2,E3⟩:=U0j hh
 obtain ⟨k,hk⟩:∃ k,k=x / 4 % 256:=⟨_,rfl⟩
 obtain ⟨ag,hag⟩:∃ ag,ag=x / 1024 % 16:=⟨_,rfl⟩
 obtain ⟨mk,hmk⟩:∃ mk,mk=x / 16384 % 2:=⟨_,rfl⟩
 have gk0:0<=k/\k<=255:=by omega
 have gm0:0<=mk/\mk<=1:=by omega
 have gs0:(0:Int)<=(s:Int)/\(s:Int)<=4096:=by omega
 have ko:=fun w=>Z59 k 0 mk (s:Int) gk0.1 gk0.2 (by omega) (by omega) gm0.1 gm0.2 gs0.1 gs0.2 w
 obtain ⟨hw,hhw⟩:∃ hw,hw=(s:Int)*65536+mk*16384+0*1024+k*4+3:=⟨_,rfl⟩
 rw [<-hhw] at ko
 obtain ⟨LW,hLW⟩:∃ LW,LW=Zc8 W f t x 0:=⟨_,rfl⟩
 have HLW:Hid (LW=(splice W t ((W.drop f).take (1+s))).set t hw):=by
  show _=_
  rw [hLW]
  unfold Zc8 hdW
  rw [hsz,hhw,hk,hmk,hs]
 have HLl:Hid (LW.length=nW):=by show _=_;rw [hLW,Z6l _ _ _ _ _ (by rw [hl,hsz];exact ht) (by rw [hl,hsz];exact hf)];exact hl
 have HL64:Hid (U64 LW):=by rw [hLW];exact Zqv hU hh x0 (by rw [hl,hsz];exact ht) (by rw [hl,hsz];exact hf)
 have HCW:Hid (Z2g nW φ W f t x=if k<8 then LW else Z4p (t+1) s (fun y=>(Z0g 0 nW φ y).1) LW):=by show _=_;unfold Z2g;rw [hsz,hLW,hk]
 rw [<-hk,<-hag,<-hmk]
 obtain ⟨CW,hCW⟩:∃ CW,CW=Z2g nW φ W f t x:=⟨_,rfl⟩
 rw [<-hCW] at HCW ⊢
 clear hCW hLW hhw hk hag hmk E1 E2 E3 hh x0 hs hsz
 have HM:=Z00 M
 have HWe:=Z00 We
 have HEE:=Z00 E
 have HPH:=Z00 hφ
 clear M We E hφ
 obtain ⟨t1,ht1⟩:∃ t1,t1=t+1:=⟨_,rfl⟩
 obtain ⟨te,hte⟩:∃ te,te=t+1+s:=⟨_,rfl⟩
 have k1:IntKind.i64.wrap ((t:Int)+1)=(t1:Int):=by rw [Z18 _ (by omega) (by omega)];omega
 have k2:IntKind.i64.wrap ((t1:Int)+(s:Int))=(te:Int):=by rw [Z18 _ (by omega) (by omega)];omega
 have i0:(0:Int)<=(t:Int):=by omega
 have i1:(t:Int)<=(te:Int):=by omega
 have i2:(te:Int)<=(nW:Int):=by omega
 have i3:(te:Int)<=(cW:Int):=by omega
 have i4:(0:Int)<=(f:Int):=by omega
 have i5:(f:Int)<=(nW:Int):=by omega
 have i6:(f:Int)<=(cW:Int):=by omega
 have i7:(nW:Int)<=(cW:Int):=by omega
 have j1:¬ cW=t:=by omega
 have j2:¬ cW=f:=by omega
 have HT1:=Z00 ht1
 have HTE:=Z00 hte
 clear ht1 hte
 obtain ⟨w1,hw1⟩:∃ w1,w1=w.alloc (.cells #[.int .i64 (f:Int),.int .i64 (t:Int),.int .i64 k,.int .i64 ag,.int .i64 mk,.int .i64 (s:Int)] 289):=⟨_,rfl⟩
 obtain ⟨bv,hbv⟩:∃ bv,bv=w.heap.size:=⟨_,rfl⟩
 have n1:w1.heap[bv]?=some (.cells #[.int .i64 (f:Int),.int .i64 (t:Int),.int .i64 k,.int .i64 ag,.int .i64 mk,.int .i64 (s:Int)] 289):=by rw [hw1,hbv];exact U0b _ _
 have b1:Below w.heap.size w w1:=by rw [hw1];exact (U01 _ _).alloc (U02 _) _
 have H1:=H.aside (X:=fun _=>False) (Aside.of_below b1) id id id
 have HH:=Z00 H1
 have HN:=Z00 n1
 have HW1:=Z00 hw1
 have HBV:=Z00 hbv
 have HAW1:Hid (Aside (· = bW) w w1):=Aside.of_below b1
 clear H b1 n1 hw1 hbv
 go_enter func209,ntmps209
 go_upto_region 1 with fail
 rw [<-HW1.out,<-HBV.out]
 clear HW1
 have v0:w1.cell? ⟨bv,0,none⟩=some (.int .i64 (f:Int)):=by rw [U06 _ _ _ _ _ _ HN.out];rfl
 have v1:w1.cell? ⟨bv,1,none⟩=some (.int .i64 (t:Int)):=by rw [U06 _ _ _ _ _ _ HN.out];rfl
 have v5:w1.cell? ⟨bv,5,none⟩=some (.int .i64 (s:Int)):=by rw [U06 _ _ _ _ _ _ HN.out];rfl
 have HS1:Hid (w1.cell? ⟨q,0,none⟩=some (.pointer (some ⟨p,0,none⟩))/\w1.cell? ⟨p,3,none⟩=some (.slice (some ⟨bW,0,none⟩) nW cW)/\w1.cell? ⟨bv,0,none⟩=some (.int .i64 (f:Int))/\w1.cell? ⟨bv,1,none⟩=some (.int .i64 (t:Int))/\w1.cell? ⟨bv,5,none⟩=some (.int .i64 (s:Int))):=⟨HH.out.c0,HH.out.p3,v0,v1,v5⟩
 clear v0 v1 v5
 go_region_held3 (fun W=>W.cell? ⟨q,0,none⟩=some (.pointer (some ⟨p,0,none⟩))/\W.cell? ⟨p,3,none⟩=some (.slice (some ⟨bW,0,none⟩) nW cW)/\W.cell? ⟨bv,0,none⟩=some (.int .i64 (f:Int))/\W.cell? ⟨bv,1,none⟩=some (.int .i64 (t:Int))/\W.cell? ⟨bv,5,none⟩=some (.int .i64 (s:Int))) (first | with_reducible exact HS1.out | exact HS1.out) (fail)
 have hbb:¬ bv=bW:=by have:=HBV.out;omega
 have HB:=Z00 HH.out.row
 have HS2:Hid (w1.cell? ⟨q,0,none⟩=some (.pointer (some ⟨p,0,none⟩))/\w1.cell? ⟨p,3,none⟩=some (.slice (some ⟨bW,0,none⟩) nW cW)/\w1.cell? ⟨bv,0,none⟩=some (.int .i64 (f:Int))):=⟨HS1.out.1,HS1.out.2.1,HS1.out.2.2.1⟩
 have HSK:Hid (∀ W,Aside (· = bW) w1 W->W.cell? ⟨q,0,none⟩=some (.pointer (some ⟨p,0,none⟩))/\W.cell? ⟨p,3,none⟩=some (.slice (some ⟨bW,0,none⟩) nW cW)/\W.cell? ⟨bv,0,none⟩=some (.int .i64 (f:Int))):=fun W ha=>⟨ha.cell HS2.out.1 hqb,ha.cell HS2.out.2.1 hpb,ha.cell HS2.out.2.2 hbb⟩
 have hlen:((W.drop f).take (1+s)).length=1+s:=by rw [U1k,U29];omega
 have HMIN:Hid ((Z05 ((W.drop f).take (1+s))).length=Nat.min (nW - f) (te - t)):=by
  show _=_
  have:=HTE.out
  rw [Z3y,hlen]
  simp only [Nat.min_def]
  split <;> omega
 have HFIT:Hid (t+(Z05 ((W.drop f).take (1+s))).length<=(Z05 W).length):=by
  show _<=_
  rw [Z3y,Z3y,hlen]
  omega
 have HSRC:Hid (∀ j v,(Z05 ((W.drop f).take (1+s)))[j]?=some v->w1.cell? ((⟨bW,f,none⟩:Addr).add j)=some v):=fun j v hj=>by
  have hjn:j<1+s:=by
   have:=(U0e.1 hj).1
   rw [Z3y,hlen] at this
   exact this
  have e1:(⟨bW,f,none⟩:Addr).add j=⟨bW,f+j,none⟩:=by unfold Addr.add;split <;> simp_all
  rw [e1]
  refine HB.out.cell ?_
  unfold Z05 at hj ⊢
  rw [U0g,U1j,U09 hjn,U2o] at hj
  rw [U0g]
  exact hj
 clear hlen
 go_upto_region 2 with fail
 go_region_held3 (fun W=>W.cell? ⟨q,0,none⟩=some (.pointer (some ⟨p,0,none⟩))/\W.cell? ⟨p,3,none⟩=some (.slice (some ⟨bW,0,none⟩) nW cW)/\W.cell? ⟨bv,0,none⟩=some (.int .i64 (f:Int))) (first | with_reducible exact HSK.out _ hA6.out | with_reducible exact HS2.out | exact HS2.out | exact HSK.out _ ⟨hA6.out.os,hA6.out.tape,hA6.out.output,hA6.out.size,hA6.out.block⟩) (first | (refine Z3k (by rfl) _ _ _ _ (by rfl) 81 underlying79 Zbf ⟨bW,f,none⟩ (te - t) (cW - t) (nW - f) (cW - f) bW t (by rfl) (by rfl) (Z05 W) 81 HB.out (Z05 ((W.drop f).take (1+s))) HMIN.out HSRC.out HFIT.out (Z3g _) ?_;intro w6 hB6 hA6))
 have a16:Aside (· = bW) w1 w6:=⟨hA6.out.os,hA6.out.tape,hA6.out.output,hA6.out.size,hA6.out.block⟩
 have hB6':Blk bW 81 (Z05 (splice W t ((W.drop f).take (1+s)))) w6:=by have h:=hB6.out;rw [Z4k] at h;exact h
 have n6:=(a16.block bv (Z01 HN.out) hbb).trans HN.out
 have c63:w6.cell? ⟨bv,3,none⟩=some (.int .i64 ag):=by rw [U06 _ _ _ _ _ _ n6];rfl
 have f63:w6.frozen? ⟨bv,3,none⟩=false:=by simp [World.frozen?,n6]
 obtain ⟨w7,hw7⟩:∃ w7,w7=w6.setCell ⟨bv,3,none⟩ (.int .i64 0):=⟨_,rfl⟩
 have n7:w7.heap[bv]?=some (.cells #[.int .i64 (f:Int),.int .i64 (t:Int),.int .i64 k,.int .i64 0,.int .i64 mk,.int .i64 (s:Int)] 289):=by rw [hw7];exact Z06 n6
 have a67:Aside (· = bv) w6 w7:=by rw [hw7];exact (Aside.refl (fun k=>k=bv) w6).setCell (g:=bv) rfl _
 have A7:Aside (· = bW) w w7:=(HAW1.out.trans a16).joinI a67 (fun k hk h=>by have:=HBV.out;have h:k=bv:=h;omega)
 have hB7:Blk bW 81 (Z05 (splice W t ((W.drop f).take (1+s)))) w7:=hB6'.aside a67 (fun h=>hbb h.symm)
 have HB7:=Z00 hB7
 have HA7:=Z00 A7
 have HN7:=Z00 n7
 have HW7:=Z00 hw7
 have HQ7:Hid (w7.cell? ⟨q,0,none⟩=some (.pointer (some ⟨p,0,none⟩))/\w7.cell? ⟨q,1,none⟩=some (.int .i64 0)/\w7.cell? ⟨q,2,none⟩=some (.int .i64 (nW:Int))/\w7.cell? ⟨q,3,none⟩=some (.map (some bm))):=by
  have hqv:¬ q=bv:=by have:=HBV.out;omega
  exact ⟨a67.cell (a16.cell HH.out.c0 hqb) hqv,a67.cell (a16.cell HH.out.c1 hqb) hqv,a67.cell (a16.cell HH.out.c2 hqb) hqv,a67.cell (a16.cell HH.out.c3 hqb) hqv⟩
 clear hB6 hA6 a16 hB6' n6 n7 a67 A7 hB7 hw7 HB HS1 HS2 HSK HMIN HFIT HSRC HAW1
 go_upto_region 4 with fail
 rw [<-HW7.out]
 clear HW7 c63 f63
 have d2:w7.cell? ⟨bv,2,none⟩=some (.int .i64 k):=by rw [U06 _ _ _ _ _ _ HN7.out];rfl
 have d3:w7.cell? ⟨bv,3,none⟩=some (.int .i64 0):=by rw [U06 _ _ _ _ _ _ HN7.out];rfl
 have d4:w7.cell? ⟨bv,4,none⟩=some (.int .i64 mk):=by rw [U06 _ _ _ _ _ _ HN7.out];rfl
 have d5:w7.cell? ⟨bv,5,none⟩=some (.int .i64 (s:Int)):=by rw [U06 _ _ _ _ _ _ HN7.out];rfl
 have kh:=ko w7
 go_wp2_with fail
 refine kh.mono ?_
 clear kh ko d2 d3 d4 d5
 rintro ev w8 ⟨rfl,b8⟩
 have hB8:=HB7.out.below b8
 have A8:Aside (· = bW) w w8:=HA7.out.trans (Aside.of_below b8)
 have hlt8:t<(Z05 (splice W t ((W.drop f).take (1+s)))).length:=by
  have h1:=HLl.out
  rw [HLW.out,U0t] at h1
  rw [Z3y]
  omega
 have c8:w8.cell? ⟨bW,t,none⟩=some (Z05 (splice W t ((W.drop f).take (1+s))))[t]:=hB8.cell (U03 hlt8)
 obtain ⟨u8,hu8⟩:∃ u8,u8=(Z05 (splice W t ((W.drop f).take (1+s))))[t]:=⟨_,rfl⟩
 rw [<-hu8] at c8
 clear hu8
 have f8:=hB8.frozen t
 obtain ⟨w9,hw9⟩:∃ w9,w9=w8.setCell ⟨bW,t,none⟩ (.int .u64 hw):=⟨_,rfl⟩
 have a89:Aside (· = bW) w8 w9:=by rw [hw9];exact (Aside.refl (fun k=>k=bW) w8).setCell (g:=bW) rfl _
 have hB9:Blk bW 81 (Z05 LW) w9:=by
  rw [hw9,HLW.out,<-Z23]
  exact hB8.set hlt8 _
 have n9:w9.heap[bv]?=some (.cells #[.int .i64 (f:Int),.int .i64 (t:Int),.int .i64 k,.int .i64 0,.int .i64 mk,.int .i64 (s:Int)] 289):=(a89.block bv (U0r (Z01 HN7.out) b8.size) hbb).trans ((b8.block bv (Z01 HN7.out)).trans HN7.out)
 have HQ9:Hid (w9.cell? ⟨q,0,none⟩=some (.pointer (some ⟨p,0,none⟩))/\w9.cell? ⟨q,1,none⟩=some (.int .i64 0)/\w9.cell? ⟨q,2,none⟩=some (.int .i64 (nW:Int))/\w9.cell? ⟨q,3,none⟩=some (.map (some bm))):=by
  obtain ⟨q0,q1,q2,q3⟩:=HQ7.out
  have a79:Aside (· = bW) w7 w9:=(Aside.of_below (X:=fun k=>k=bW) b8).trans a89
  exact ⟨a79.cell q0 hqb,a79.cell q1 hqb,a79.cell q2 hqb,a79.cell q3 hqb⟩
 have HA9:Hid (Aside (· = bW) w w9):=A8.trans a89
 have HB9:=Z00 hB9
 have HN9:=Z00 n9
 have HW9:=Z00 hw9
 have hti:(0:Int)<(te:Int) - (t:Int):=by have:=HTE.out;omega
 clear hB8 A8 hlt8 a89 hB9 n9 hw9 b8 HQ7 HB7 HA7 HN7
 go_upto_region 5 with fail
 rw [<-HW9.out]
 clear HW9 c8 f8
 have d2:w9.cell? ⟨bv,2,none⟩=some (.int .i64 k):=by rw [U06 _ _ _ _ _ _ HN9.out];rfl
 have kr:=Z21 k gk0.1 w9
 go_wp2_with fail
 refine kr.mono ?_
 clear kr
 rintro ev wz ⟨rfl,e⟩
 rw [e]
 clear e wz
 by_cases hk8:k<8
 ·have hd:decide (k<8)=true:=U0d hk8
  rw [hd]
  have HE:Hid (Blk bW 81 (Z05 CW) w9):=by show Blk _ _ _ _;rw [HCW.out,U09 hk8];exact HB9.out
  go_wp2_with fail
  go_end0
  exact ⟨rfl,HE.out,HA9.out⟩
 ·have hd:decide (k<8)=false:=U0k hk8
  rw [hd]
  obtain ⟨q0,q1,q2,q3⟩:=HQ9.out
  have i8:(1:Int)<=((te - t:Nat):Int):=by have:=HTE.out;omega
  have i9:(1:Int)<=((cW - t:Nat):Int):=by have:=HTE.out;omega
  have i10:((te - t:Nat):Int)<=((cW - t:Nat):Int):=by omega
  have HM9:Hid (∀ W,Below w9.heap.size w9 W->W.ownsMap prog 3 (plainElem prog 3) bm nm D):=fun W hW=>Z0f HM.out (HA9.out.trans (Aside.of_below hW)) hmb
  have HS9:Hid (∀ W,Aside (· = bW) w9 W->W.cell? ⟨q,1,none⟩=some (.int .i64 0)/\W.cell? ⟨q,2,none⟩=some (.int .i64 (nW:Int))/\W.cell? ⟨q,3,none⟩=some (.map (some bm))):=fun W ha=>⟨ha.cell q1 hqb,ha.cell q2 hqb,ha.cell q3 hqb⟩
  have HS90:=Z00 (HS9.out w9 (Aside.refl _ _))
  obtain ⟨t2,ht2⟩:∃ t2,t2=if cW - t=1 then t else t+1:=⟨_,rfl⟩
  have HT2:=Z00 ht2
  have hN:t2+(te - t - 1)<=LW.length:=by
   have h1:=HLl.out
   have h2:=HTE.out
   rw [h1,ht2]
   split <;> omega
  have HKF:Hid (∀ cap W,Below w9.heap.size w9 W->Calls prog 208 #[.agg #[.int .i64 0,.int .i64 (nW:Int),.map (some bm)],.slice (some ⟨bW,t2,none⟩) (te - t - 1) cap] W fun ev w'=>ev = .returned (.tuple #[])/\Blk bW 81 (Z05 (Z4p t2 (te - t - 1) (fun x=>(Z0g 0 nW φ x).1) LW)) w'/\Aside (· = bW) W w'):=fun cap W hW=>(Za5 a 0 nW bm nm D φ bW t2 (te - t - 1) cap LW W hn HPH.out hN (by have:=HLl.out;omega) HL64.out (HM9.out W hW) HWe.out (fun e=>hmb e.symm) (fun w' ha=>HEE.out w' ((HA9.out.trans (Aside.of_below hW)).trans ha)) (HB9.out.below hW)).mono (fun _ _ h=>⟨h.1,h.2.1,h.2.2.1⟩)
  have HMP:Hid (Z4p t2 (te - t - 1) (fun x=>(Z0g 0 nW φ x).1) LW=CW):=by
   show _=_
   have h2:=HTE.out
   rw [HCW.out,U08 hk8,show te - t - 1=s by omega,ht2]
   split
   ·rw [show s=0 by omega,Z76,Z76]
   ·rfl
  have HA9':=Z00 HA9.out
  clear d2 q0 q1 q2 q3 ht2 hN
  by_cases hc:cW - t=1
  ·have e2:t2=t:=by rw [HT2.out,U09 hc]
   subst e2
   go_upto_region 6 with fail
   go_region_held3 (fun W=>W.cell? ⟨q,1,none⟩=some (.int .i64 0)/\W.cell? ⟨q,2,none⟩=some (.int .i64 (nW:Int))/\W.cell? ⟨q,3,none⟩=some (.map (some bm))) (first | with_reducible exact HS90.out | with_reducible exact HS9.out _ hA10.out | exact HS90.out | exact HS9.out _ hA10.out) (first | (go_at_call 208;refine (HKF.out _ _ (by first | exact U01 _ _ | exact (U01 _ _).drew)).mono ?_;rintro ev w10 ⟨rfl,hB10,hA10'⟩;have hA10:Hid (Aside (· = bW) w9 w10):=⟨hA10'.os,hA10'.tape,hA10'.output,hA10'.size,hA10'.block⟩))
   all_goals
    have HE:Hid (Blk bW 81 (Z05 CW) w10):=by rw [<-HMP.out];exact hB10
    have HEA:Hid (Aside (· = bW) w w10):=HA9'.out.trans hA10.out
    go_wp2_with fail
    go_end0
    exact ⟨rfl,HE.out,HEA.out⟩
  ·have e2:t2=t+1:=by rw [HT2.out,U08 hc]
   subst e2
   go_upto_region 6 with fail
   go_region_held3 (fun W=>W.cell? ⟨q,1,none⟩=some (.int .i64 0)/\W.cell? ⟨q,2,none⟩=some (.int .i64 (nW:Int))/\W.cell? ⟨q,3,none⟩=some (.map (some bm))) (first | with_reducible exact HS90.out | with_reducible exact HS9.out _ hA10.out | exact HS90.out | exact HS9.out _ hA10.out) (first | (go_at_call 208;refine (HKF.out _ _ (by first | exact U01 _ _ | exact (U01 _ _).drew)).mono ?_;rintro ev w10 ⟨rfl,hB10,hA10'⟩;have hA10:Hid (Aside (· = bW) w9 w10):=⟨hA10'.os,hA10'.tape,hA10'.output,hA10'.size,hA10'.block⟩))
   all_goals
    have HE:Hid (Blk bW 81 (Z05 CW) w10):=by rw [<-HMP.out];exact hB10
    have HEA:Hid (Aside (· = bW) w w10):=HA9'.out.trans hA10.out
    go_wp2_with fail
    go_end0
    exact ⟨rfl,HE.out,HEA.out⟩
end
end Go.Proofs.YtlkcbdinlfeoiaaGreatDoor
