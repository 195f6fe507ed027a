/- Package mem: cards; objects of the nursery and of the old space, by contracts. -/
import Derived.Test.YtlkcbdinlfeoiaaGreatDoorKnAC
namespace Go.Proofs.YtlkcbdinlfeoiaaGreatDoor
open Go.Proofs.Tryz Go.RowKit
set_option maxHeartbeats 8000000
set_option maxRecDepth 100000
def Z14 (h x:Int):Bool:=decide (x % 4=0/\4<=x/\x / 4 - 1<2*h)
theorem Zi7 (a:Nat->Addr) (n:Int) (h0 : -9223372036854775808<=n) (h1:n<9223372036854775808) (hn:n<0\/1099511627776<n) (w:World) (E:WErr a w) :
  Calls prog 120 #[.int .i64 n] w fun ev w'=>ev = .returned (.tuple #[.int .u64 0,Z0p a 1]) /\ ∃ q,w'=w.drewN q:=by
 have k1:=E.c1
 rcases hn with c | c
 ·go_enter func120,ntmps120
  go_wp2
  go_quiet (fail)
  go_wp2
  go_ret2
  exact ⟨rfl,_,rfl⟩
 ·have c1:¬ n<0:=by omega
  have e:=Z3p n h0 h1
  go_enter func120,ntmps120
  go_wp2
  go_quiet (fail)
  go_wp2
  go_ret2
  exact ⟨rfl,_,rfl⟩
theorem Zie (n:Int) (c1:0<=n) (c2:n<=1099511627776) (w:World) :
  Calls prog 120 #[.int .i64 n] w fun ev w'=>ev = .returned (.tuple #[.int .u64 ((n+1)*4),.nilIface]) /\ ∃ q,w'=w.drewN q:=by
 have e:=Zgv ((n+1)*4) 0 (by omega) (by omega) (by omega) (by omega) (by omega)
 rw [Int.add_zero] at e
 go_enter func120,ntmps120
 go_wp2
 go_ret2
 rw [<-e]
 exact ⟨rfl,0,rfl⟩
theorem Zb4 (n x:Int) (c1:0<=n) (c2:n<=1099511627776) (w:World) :
  Calls prog 183 #[.int .i64 n,.int .u64 x,.func (.func 120) #[] #[]] w fun ev w'=>ev = .returned (.bool ((n+1)*4 == x)) /\ ∃ q,w'=w.drewN q:=by
 have h:=Zie n c1 c2 w
 go_enter func183,ntmps183
 go_wp2_with fail
 refine h.mono ?_
 rintro ev w1 ⟨rfl,q,hq⟩
 have HQ:=Z00 hq
 clear hq
 go_wp2
 go_ret
 exact ⟨rfl,q,HQ.out⟩
theorem Zjk (a:Nat->Addr) (n x:Int) (h0 : -9223372036854775808<=n) (h1:n<9223372036854775808) (hn:n<0\/1099511627776<n) (w:World) (E:WErr a w) :
  Calls prog 183 #[.int .i64 n,.int .u64 x,.func (.func 120) #[] #[]] w fun ev w'=>ev = .returned (.bool false) /\ ∃ q,w'=w.drewN q:=by
 have h:=Zi7 a n h0 h1 hn w E
 go_enter func183,ntmps183
 go_wp2_with fail
 refine h.mono ?_
 rintro ev w1 ⟨rfl,q,hq⟩
 have HQ:=Z00 hq
 clear hq
 unfold Z0p
 go_wp2
 go_ret
 exact ⟨rfl,q,HQ.out⟩
theorem Zjd (x:Int) (hx:x % 4=0) (h4:4<=x) (h5:x / 4 - 1<=1099511627776) (w:World) :
  Calls prog 170 #[.int .u64 x] w fun ev w'=>ev = .returned (.tuple #[.int .i64 (x / 4 - 1),.nilIface]) /\ ∃ q,w'=w.drewN q:=by
 have h:=Zb4 (x / 4 - 1) x (by omega) (by omega) w
 have hm:((x / 4 - 1+1)*4 == x)=true:=by
  rw [U3d]
  omega
 rw [hm] at h
 clear hm
 go_enter func170,ntmps170
 go_wp2_with fail
 refine h.mono ?_
 rintro ev w1 ⟨rfl,q,hq⟩
 have HQ:=Z00 hq
 clear hq
 go_wp2
 go_ret2
 exact ⟨rfl,q,HQ.out⟩
theorem Zid (a:Nat->Addr) (x:Int) (h0:0<=x) (h1:x<18446744073709551616) (hx:¬ (x % 4=0/\4<=x/\x / 4 - 1<=1099511627776)) (w:World) (E:WErr a w) :
  Calls prog 170 #[.int .u64 x] w fun ev w'=>ev = .returned (.tuple #[.int .i64 0,Z0p a 2]) /\ ∃ q,w'=w.drewN q:=by
 have h:Calls prog 183 #[.int .i64 (x / 4 - 1),.int .u64 x,.func (.func 120) #[] #[]] w fun ev w'=>ev = .returned (.bool false) /\ ∃ q,w'=w.drewN q:=by
  by_cases c:x / 4 - 1<0\/1099511627776<x / 4 - 1
  ·exact Zjk a (x / 4 - 1) x (by omega) (by omega) c w E
  ·have h:=Zb4 (x / 4 - 1) x (by omega) (by omega) w
   have hm:((x / 4 - 1+1)*4 == x)=false:=by
    rw [U0w]
    omega
   rw [hm] at h
   exact h
 clear hx
 go_enter func170,ntmps170
 go_wp2_with fail
 refine h.mono ?_
 rintro ev w1 ⟨rfl,q,hq⟩
 have k2:w1.cell? ⟨3,0,none⟩=some (.iface 338 (.pointer (some (a 2)))):=by rw [hq];exact E.c2
 have HQ:=Z00 hq
 clear hq
 go_wp2
 go_quiet (fail)
 go_wp2
 go_ret2
 exact ⟨rfl,by rw [HQ.out];exact Zq1⟩
theorem Z8y (a:Nat->Addr) (p:Nat) (h x:Int) (h0:0<=h) (h1:h<=65536) (x0:0<=x) (x1:x<18446744073709551616) (w:World) (E:WErr a w) (c0:w.cell? ⟨p,0,none⟩=some (.int .i64 h)) :
  Calls prog 125 #[.pointer (some ⟨p,0,none⟩),.int .u64 x] w fun ev w'=>ev = .returned (.bool (Z14 h x)) /\ ∃ q,w'=w.drewN q:=by
 by_cases hx:x % 4=0/\4<=x/\x / 4 - 1<=1099511627776
 ·have ht:=Zjd x hx.1 hx.2.1 hx.2.2 w
  have e:Z14 h x=decide (x / 4 - 1<2*h):=by
   unfold Z14
   by_cases hy:x / 4 - 1<2*h
   ·rw [U0d hy,U0d ⟨hx.1,hx.2.1,hy⟩]
   ·rw [U0k hy,U0k (fun h=>hy h.2.2)]
  rw [e]
  clear hx e
  go_enter func125,ntmps125
  go_wp2_with fail
  refine ht.mono ?_
  rintro ev w1 ⟨rfl,q,hq⟩
  have c1:w1.cell? ⟨p,0,none⟩=some (.int .i64 h):=by rw [hq];exact c0
  have HQ:=Z00 hq
  clear hq
  go_wp2_with fail
  refine (Z0v p h h0 h1 w1 c1).mono ?_
  rintro ev w2 ⟨rfl,hq⟩
  rw [hq]
  clear hq w2
  go_wp2_with fail
  go_ret
  exact ⟨rfl,q,HQ.out⟩
 ·have ht:=Zid a x x0 x1 hx w E
  unfold Z0p at ht
  have e:Z14 h x=false:=by
   unfold Z14
   rw [U0p]
   omega
  rw [e]
  clear hx e
  go_enter func125,ntmps125
  go_wp2_with fail
  refine ht.mono ?_
  rintro ev w1 ⟨rfl,q,hq⟩
  have HQ:=Z00 hq
  clear hq
  go_wp2_with fail
  go_ret
  exact ⟨rfl,q,HQ.out⟩
theorem Z5h (p:Nat) (h c:Int) (i d j:Nat) (h0:0<=h) (h1:h<=65536) (k0:1<=c) (hi:i<=300000) (hd:(i:Int) - 2*h=(d:Int)) (hj:(d:Int) / c=(j:Int)) (w:World) (c0:w.cell? ⟨p,0,none⟩=some (.int .i64 h)) (c2:w.cell? ⟨p,2,none⟩=some (.int .i64 c)) :
  Calls prog 126 #[.pointer (some ⟨p,0,none⟩),.int .i64 (i:Int)] w fun ev w'=>ev = .returned (.int .i64 (j:Int)) /\ ∃ q,w'=w.drewN q:=by
 have ko:Hid (∀ q,Calls prog 85 #[.pointer (some ⟨p,0,none⟩)] (w.drewN q) fun ev w'=>ev = .returned (.int .i64 (2*h))/\w'=w.drewN q):=fun q=>Z0v p h h0 h1 (w.drewN q) c0
 have e1:IntKind.i64.wrap ((i:Int) - 2*h)=(d:Int):=by rw [Z18 _ (by omega) (by omega)];exact hd
 have e2:wrap64 ((d:Int) / c)=(j:Int):=by
  have:(d:Int) / c<=d:=U4n _ (by omega)
  rw [hj]
  exact Z3p _ (by omega) (by omega)
 have e3:(c == 0)=false:=by rw [U0w];omega
 clear hd hj c0
 go_enter func126,ntmps126
 go_wp2_with fail
 go_quiet ((go_at_call 85;exact U0q (ko.out _)))
 go_wp2_with fail
 go_ret
 rw [e2]
 exact ⟨rfl,_,rfl⟩
structure CH (w0:World) (p q2:Nat) (w:World):Prop where
 below:Below w0.heap.size w0 w
 c2:w.cell? ⟨q2,0,none⟩=some (.pointer (some ⟨p,0,none⟩))
theorem CH.keep {w0:World}{p q2:Nat}{w w':World} (H:CH w0 p q2 w) (hb:Below w.heap.size w w'):CH w0 p q2 w':=
 ⟨H.below.trans (hb.mono H.below.size),(hb.cell (p:=⟨q2,0,none⟩) (Z02 H.c2)).trans H.c2⟩
def Z35 (h c:Int) (i:Nat):Nat:=(((i:Int) - 2*h) / c).toNat
def Z5m (F:Nat->Int) (C:Nat->Bool) (h c:Int) (i:Nat):Bool:=!(Z14 h (F i) && !C (Z35 h c i))
def G3 (F:Nat->Int) (C:Nat->Bool) (h c:Int) (f:Nat):Bool:=decide (F f / 4 % 256<8) || (List.range (szN (F f))).all fun j=>Z5m F C h c (f+1+j)
theorem Z5s {g:Nat->Bool}{k:Nat} (h:(List.range k).all g=true) (hg:g k=true):(List.range (k+1)).all g=true:=by
 rw [U4y,U2s,h]
 simp [hg]
theorem Z2t {g:Nat->Bool}{k s:Nat} (hk:k<s) (hg:g k=false):(List.range s).all g=false:=by
 rw [U5b]
 exact ⟨k,U0u.2 hk,by rw [hg];decide⟩
theorem Looked.card {p b bc nW nC cW cC:Nat}{h ol c u t ot:Int}{vR vK vI:Value}{F:Nat->Int}{C:Nat->Bool}{w:World} (L:Looked p b bc nW nC cW cC h ol c u t ot vR vK vI F C w) (i:Nat) (h1:2*h<=(i:Int)) (h2:i<nW):∃ d j:Nat,(i:Int) - 2*h=(d:Int)/\(d:Int) / c=(j:Int)/\j<nC/\Z35 h c i=j:=by
 have hw:=L.fits.w
 have hc:=L.fits.c
 have hnum:=L.fits.nums
 unfold Z0c at hnum
 have g0:0<=((i:Int) - 2*h) / c:=U45 (by omega) (by omega)
 refine ⟨((i:Int) - 2*h).toNat,(((i:Int) - 2*h) / c).toNat,by omega,?_,?_,rfl⟩
 ·rw [show ((((i:Int) - 2*h).toNat:Nat):Int)=(i:Int) - 2*h by omega]
  omega
 ·have:((i:Int) - 2*h) / c<(ol+c - 1) / c:=by
   have e:(ol+c - 1)=(ol - 1)+1*c:=by omega
   rw [e,Int.add_mul_ediv_right _ _ (by omega)]
   have:=Int.ediv_le_ediv (c:=c) (by omega) (show (i:Int) - 2*h<=ol - 1 by omega)
   omega
  omega
theorem Zn8 (a:Nat->Addr) (w0:World) (p b bc q2 nW nC cW cC i:Nat) (h ol c u t ot:Int) (vR vK vI:Value) (F:Nat->Int) (C:Nat->Bool) (L:Looked p b bc nW nC cW cC h ol c u t ot vR vK vI F C w0) (E:WErr a w0) (hlo:2*h<=(i:Int)) (hi:i<nW) (w:World) (H:CH w0 p q2 w) :
  Calls prog 177 #[.int .i64 (i:Int),.pointer (some ⟨q2,0,none⟩)] w fun ev w'=>ev = .returned (.bool (Z5m F C h c i))/\Below w.heap.size w w':=by
 have L4:=L.below H.below
 have E4:=E.below H.below
 obtain ⟨d,j,hd,hj,hjn,hcn⟩:=L4.card i hlo hi
 have hnum:=L4.fits.nums
 unfold Z0c at hnum
 have hw:=L4.fits.w
 have hn:nW<=300000:=by omega
 obtain ⟨x,hxe⟩:∃ x,x=F i:=⟨_,rfl⟩
 have r1:w.cell? ⟨b,i,none⟩=some (.int .u64 x):=by rw [hxe];exact L4.words i hi
 have hxr:0<=x/\x<18446744073709551616:=by rw [hxe];exact L4.range i hi
 have r2:=L4.cards j hjn
 obtain ⟨cv,hcv⟩:∃ cv,cv=C j:=⟨_,rfl⟩
 rw [<-hcv] at r2
 have HCB:Hid (Z5m F C h c i = !(Z14 h x && !cv)):=by show _=_;unfold Z5m;rw [<-hxe,hcn,<-hcv]
 have y2:=H.c2
 have z3:=L4.mem.c3
 have z10:=L4.mem.c10
 have hj0:(0:Int)<=(j:Int):=by omega
 have hj1:(j:Int)<(nC:Int):=by omega
 have hi0:(0:Int)<=(i:Int):=by omega
 have hi1:(i:Int)<(nW:Int):=by omega
 have ky:Hid (∀ q,Calls prog 125 #[.pointer (some ⟨p,0,none⟩),.int .u64 x] (w.drewN q) fun ev w'=>ev = .returned (.bool (Z14 h x)) /\ ∃ n,w'=(w.drewN q).drewN n):=fun q=>Z8y a p h x (by omega) (by omega) hxr.1 hxr.2 (w.drewN q) (E4.below (Z03 (U01 _ _))) L4.mem.c0
 have kc:Hid (∀ q,Calls prog 126 #[.pointer (some ⟨p,0,none⟩),.int .i64 (i:Int)] (w.drewN q) fun ev w'=>ev = .returned (.int .i64 (j:Int)) /\ ∃ n,w'=(w.drewN q).drewN n):=fun q=>Z5h p h c i d j (by omega) (by omega) (by omega) (by omega) hd hj (w.drewN q) L4.mem.c0 L4.mem.c2
 rw [HCB.out]
 clear hxe hd hj hcn hcv hxr HCB L4 E4 L E H hw hnum hlo hjn hi hn
 generalize Z14 h x=yb at *
 cases yb with
 | false =>
  go_enter func177,ntmps177
  go_wp2_with fail
  go_quiet (first | (go_at_call 125;exact U1a (ky.out _)) | (go_at_call 126;exact U1a (kc.out _)))
  go_wp2_with fail
  go_ret
  exact ⟨rfl,Z03 (U01 _ _)⟩
 | true =>
  cases cv with
  | false =>
   go_enter func177,ntmps177
   go_wp2_with fail
   go_quiet (first | (go_at_call 125;exact U1a (ky.out _)) | (go_at_call 126;exact U1a (kc.out _)))
   go_wp2_with fail
   go_ret
   exact ⟨rfl,Z03 (U01 _ _)⟩
  | true =>
   go_enter func177,ntmps177
   go_wp2_with fail
   go_quiet (first | (go_at_call 125;exact U1a (ky.out _)) | (go_at_call 126;exact U1a (kc.out _)))
   go_wp2_with fail
   go_ret
   exact ⟨rfl,Z03 (U01 _ _)⟩
structure CF (w0:World) (p q2 q3:Nat) (w:World):Prop where
 ch:CH w0 p q2 w
 c3:w.cell? ⟨q3,0,none⟩=some (.func (.func 177) #[] #[.pointer (some ⟨q2,0,none⟩)])
theorem CF.keep {w0:World}{p q2 q3:Nat}{w w':World} (H:CF w0 p q2 q3 w) (hb:Below w.heap.size w w'):CF w0 p q2 q3 w':=
 ⟨H.ch.keep hb,(hb.cell (p:=⟨q3,0,none⟩) (Z02 H.c3)).trans H.c3⟩
theorem Z7w (a:Nat->Addr) (w0:World) (p b bc q2 q3 nW nC cW cC f:Nat) (h ol c u t ot:Int) (vR vK vI:Value) (F:Nat->Int) (C:Nat->Bool) (L:Looked p b bc nW nC cW cC h ol c u t ot vR vK vI F C w0) (E:WErr a w0) (hh:Z0t (F f)=true) (hlo:2*h<=(f:Int)) (hf:f+1+szN (F f)<=nW) (w:World) (H:CF w0 p q2 q3 w) :
  Calls prog 213 (#[.int .i64 (f:Int),Z1o (F f)] ++ #[.pointer (some ⟨q3,0,none⟩)]) w fun ev w'=>ev = .returned (.bool (G3 F C h c f))/\CF w0 p q2 q3 w':=by
 have hnum:=L.fits.nums
 unfold Z0c at hnum
 have hn:nW<=300000:=by have:=L.fits.w;omega
 have hd2:F f / 65536<=4096:=by unfold Z0t at hh;have:=U0j hh;exact this.2.2
 have hx:=L.range f (by omega)
 obtain ⟨s,hs⟩:∃ s:Nat,(s:Int)=F f / 65536:=⟨(F f / 65536).toNat,by omega⟩
 have HS:Hid (szN (F f)=s):=by show _=_;unfold szN;omega
 show Calls prog 213 #[.int .i64 (f:Int),.agg #[.int .i64 (F f / 4 % 256),.int .i64 (F f / 1024 % 16),.int .i64 (F f / 16384 % 2),.int .i64 (F f / 65536)],.pointer (some ⟨q3,0,none⟩)] w _
 rw [<-hs]
 have hG:G3 F C h c f=(decide (F f / 4 % 256<8) || (List.range s).all fun j=>Z5m F C h c (f+1+j)):=by unfold G3;rw [HS.out]
 rw [hG]
 clear hG
 have hs1:s<=4096:=by omega
 have hfs:f+1+s<=nW:=by rw [<-HS.out];exact hf
 clear hs hd2 hx
 generalize F f / 1024 % 16=ag
 generalize F f / 16384 % 2=mk
 generalize hgk:F f / 4 % 256=kd
 have hkd0:0<=kd:=by rw [<-hgk];exact U3o _ (by decide)
 clear hgk
 have k3:=H.c3
 have l3:=Z02 k3
 have HH:=Z00 H
 have HL:=Z00 L
 have HE:=Z00 E
 clear hf hh H L E
 by_cases hr:kd<8
 ·rw [U0d hr,U2g]
  have kr:=Z21 kd hkd0 (w.alloc (.cells #[.int .i64 kd,.int .i64 ag,.int .i64 mk,.int .i64 (s:Int)] 172))
  rw [U0d hr] at kr
  go_enter func213,ntmps213
  go_wp2_with fail
  refine kr.mono ?_
  rintro ev w1 ⟨rfl,hq⟩
  rw [hq]
  clear hq w1
  go_wp2_with fail
  go_ret
  exact ⟨rfl,HH.out.keep ((U01 _ _).alloc (U02 _) _)⟩
 ·rw [U0k hr,U1n]
  have kr:=Z21 kd hkd0 (w.alloc (.cells #[.int .i64 kd,.int .i64 ag,.int .i64 mk,.int .i64 (s:Int)] 172))
  rw [U0k hr] at kr
  go_enter func213,ntmps213
  go_wp2_with fail
  refine kr.mono ?_
  rintro ev w1 ⟨rfl,hq⟩
  have hb1:Below w.heap.size w w1:=by rw [hq];exact (U01 _ _).alloc (U02 _) _
  obtain ⟨r0,r1,r2,r3,_⟩:=Z0e (w:=w1) (b:=w.heap.size) (by rw [hq];exact U0b w _)
  clear hq kr
  go_wp2_with fail
  clear r0 r1 r2 r3
  go_loopg [12] (s+1) (fun gk v12 wr => ∃ k:Nat,gk=s+1 - k/\k<=s/\v12 = .int .i64 (k:Int)/\Below w.heap.size w wr/\Hid ((List.range k).all (fun j=>Z5m F C h c (f+1+j))=true))
  case atStart=>exact ⟨0,rfl,U0x _,rfl,hb1,rfl⟩
  case round =>
   obtain ⟨k,hgk,hk,hv12,hb4,hal⟩:=hrel
   subst hv12
   have HG:=Z00 hgk
   clear hgk
   have H4:=HH.out.keep hb4
   have y3:=H4.c3
   by_cases hlt:k<s
   ·have hI:(k:Int)<(s:Int):=by omega
    have hI0:(0:Int)<=(k:Int):=by omega
    have e1:IntKind.i64.wrap ((f:Int)+1)=(f:Int)+1:=Z18 _ (by omega) (by omega)
    have e2:IntKind.i64.wrap ((f:Int)+1+(k:Int))=(((f+1+k:Nat)):Int):=by rw [Z18 _ (by omega) (by omega)];omega
    have ko:=Zn8 a w0 p b bc q2 nW nC cW cC (f+1+k) h ol c u t ot vR vK vI F C HL.out HE.out (by omega) (by omega) wr H4.ch
    clear H4
    cases hcb:Z5m F C h c (f+1+k) with
    | true =>
     rw [hcb] at ko
     have HT:=Z00 (Z5s (g:=fun j=>Z5m F C h c (f+1+j)) hal.out hcb)
     clear hcb hal
     go_wp2_with fail
     refine ko.mono ?_
     rintro ev w5 ⟨rfl,hb5⟩
     go_wp2_with fail
     go_roundg (s+1 - (k+1))
     case measure=>have:=HG.out;omega
     case rel=>exact ⟨k+1,rfl,by omega,by go_num,hb4.trans (hb5.mono hb4.size),HT⟩
    | false =>
     rw [hcb] at ko
     have HT:=Z00 (Z2t (g:=fun j=>Z5m F C h c (f+1+j)) hlt hcb)
     clear hcb hal
     go_wp2_with fail
     refine ko.mono ?_
     rintro ev w5 ⟨rfl,hb5⟩
     go_wp2_with fail
     go_ret
     rw [HT.out]
     exact ⟨rfl,HH.out.keep (hb4.trans (hb5.mono hb4.size))⟩
   ·obtain rfl:k=s:=by omega
    clear H4
    go_wp2_with fail
    go_ret
    rw [hal.out]
    exact ⟨rfl,HH.out.keep hb4⟩
theorem Zbz (a:Nat->Addr) (K:FuncId) (caps:Array Value) (hE:∀ args w,(callFunc K args).run prog w = .ok (.enter K args) w) (G:Nat->Bool) (Inv:List Nat->World->Prop) (p b bc nW nC cW cC:Nat) (h ol c u t ot:Int) (vR vK vI:Value) (F:Nat->Int) (C:Nat->Bool) (n0 n1:Nat) (e0:(n0:Int)=u*h) (e1:(n1:Int)=u*h+t)
  (hL:∀ vs w,Inv vs w->Looked p b bc nW nC cW cC h ol c u t ot vR vK vI F C w/\WErr a w) (hkeep:∀ vs w w',Inv vs w->Below w.heap.size w w'->Inv vs w')
  (hK:∀ vs f w,Inv vs w->n0<=f->f<n1->Z0t (F f)=true->f+1+szN (F f)<=n1->Calls prog K (#[.int .i64 (f:Int),Z1o (F f)]++caps) w fun ev w'=>ev = .returned (.bool (G f))/\Inv (vs ++ [f]) w')
  (vs0:List Nat) (w:World) (h0:Inv vs0 w) :
  Calls prog 210 #[.pointer (some ⟨p,0,none⟩),.func (.func K) #[] caps] w fun ev w'=>ev = .returned (.bool (Z09 F G (n1 - n0) n0 n1).isSome) /\ ∃ vs,Inv vs w' /\ ∀ l,Z09 F G (n1 - n0) n0 n1=some l->vs=vs0++l:=by
 obtain ⟨L,E⟩:=hL _ _ h0
 have hnum:=L.fits.nums
 have hw:=L.fits.w
 have t0:=L.fits.t0
 have t1:=L.fits.t1
 have o0:=L.fits.o0
 have o1:=L.fits.o1
 have u0:=L.fits.u0
 have u1:=L.fits.u1
 unfold Z0c at hnum
 have hcap:=L.cap
 have hu:(n0:Int)<=h/\(n1:Int)<=2*h:=by
  obtain rfl | rfl:u=0\/u=1:=by omega
  ·rw [U2x] at e0 e1;omega
  ·rw [U2z] at e0 e1;omega
 have s0:(0:Int)<=(n1:Int):=by omega
 have s1:(n1:Int)<=(cW:Int):=by omega
 have ew:IntKind.i64.wrap ((n0:Int)+t)=(n1:Int):=by rw [Z18 _ (by omega) (by omega)];omega
 have kn:Hid (∀ W,Below w.heap.size w W->Calls prog 244 #[.pointer (some ⟨p,0,none⟩)] W fun ev w'=>ev = .returned (.int .i64 (n0:Int))/\Below w.heap.size w w'):=fun W hW=>by
  have L1:=(hL _ _ (hkeep _ _ _ h0 hW)).1
  have k:=Zfz p h u (by omega) (by omega) u0 u1 W L1.mem.c0 L1.mem.c4
  rw [<-e0] at k
  refine k.mono ?_
  rintro ev w1 ⟨rfl,q,rfl⟩
  exact ⟨rfl,Z03 hW⟩
 have ke:Hid (∀ W,Below w.heap.size w W->Calls prog 243 #[.slice (some ⟨b,0,none⟩) n1 cW,.int .i64 (n0:Int),.func (.func K) #[] caps] W fun ev w'=>ev = .returned (.bool (Z09 F G (n1 - n0) n0 n1).isSome) /\ ∃ vs,Inv vs w' /\ ∀ l,Z09 F G (n1 - n0) n0 n1=some l->vs=vs0++l):=fun W hW=>Zad a K caps hE F G Inv b n1 cW (by omega) (fun i hi=>L.range i (by omega)) (fun vs w hv=>⟨(hL vs w hv).2,fun i hi=>(hL vs w hv).1.words i (by omega)⟩) hkeep n0 hK vs0 W (hkeep _ _ _ h0 hW)
 have HF:Hid (∀ W,Below w.heap.size w W->W.cell? ⟨p,3,none⟩=some (.slice (some ⟨b,0,none⟩) nW cW)/\W.cell? ⟨p,5,none⟩=some (.int .i64 t)):=fun W hW=>by
  have L1:=(hL _ _ (hkeep _ _ _ h0 hW)).1
  exact ⟨L1.mem.c3,L1.mem.c5⟩
 have HI:Hid (∀ vs W,Inv vs W->W.cell? ⟨p,3,none⟩=some (.slice (some ⟨b,0,none⟩) nW cW)/\W.cell? ⟨p,5,none⟩=some (.int .i64 t)):=fun vs W hW=>⟨(hL _ _ hW).1.mem.c3,(hL _ _ hW).1.mem.c5⟩
 have c3:=L.mem.c3
 have cf:=L.mem.c5
 have lp:=Z02 c3
 generalize (Z09 F G (n1 - n0) n0 n1)=res at *
 clear hL hkeep hK h0 L E hnum hw t0 t1 o0 o1 u0 u1 e0 e1 hcap
 go_enter func210,ntmps210
 go_wp2_with fail
 go_region_held3 (fun W=>W.cell? ⟨p,3,none⟩=some (.slice (some ⟨b,0,none⟩) nW cW)/\W.cell? ⟨p,5,none⟩=some (.int .i64 t)) (first | go_keep | with_reducible exact hSE | with_reducible exact HF.out _ (by assumption)) (first
  | (go_at_call 244;refine (kn.out _ (by first | assumption | exact (U01 _ _).drew)).mono ?_;rintro ev w1 ⟨rfl,hbN⟩)
  | (go_at_call 243;refine (ke.out _ (by first | assumption | exact (U01 _ _).drew)).mono ?_;rintro ev w1 ⟨rfl,vsE,hIE,hlE⟩;have hSE:=HI.out _ _ hIE))
 all_goals go_wp2_with fail
 all_goals go_ret
 all_goals exact ⟨rfl,vsE,hIE,hlE⟩
theorem Z9e (a:Nat->Addr) (K:FuncId) (caps:Array Value) (hE:∀ args w,(callFunc K args).run prog w = .ok (.enter K args) w) (G:Nat->Bool) (Inv:List Nat->World->Prop) (p b bc nW nC cW cC:Nat) (h ol c u t ot:Int) (vR vK vI:Value) (F:Nat->Int) (C:Nat->Bool) (n0 n1:Nat) (e0:(n0:Int)=2*h) (e1:(n1:Int)=2*h+ot)
  (hL:∀ vs w,Inv vs w->Looked p b bc nW nC cW cC h ol c u t ot vR vK vI F C w/\WErr a w) (hkeep:∀ vs w w',Inv vs w->Below w.heap.size w w'->Inv vs w')
  (hK:∀ vs f w,Inv vs w->n0<=f->f<n1->Z0t (F f)=true->f+1+szN (F f)<=n1->Calls prog K (#[.int .i64 (f:Int),Z1o (F f)]++caps) w fun ev w'=>ev = .returned (.bool (G f))/\Inv (vs ++ [f]) w')
  (vs0:List Nat) (w:World) (h0:Inv vs0 w) :
  Calls prog 211 #[.pointer (some ⟨p,0,none⟩),.func (.func K) #[] caps] w fun ev w'=>ev = .returned (.bool (Z09 F G (n1 - n0) n0 n1).isSome) /\ ∃ vs,Inv vs w' /\ ∀ l,Z09 F G (n1 - n0) n0 n1=some l->vs=vs0++l:=by
 obtain ⟨L,E⟩:=hL _ _ h0
 have hnum:=L.fits.nums
 have hw:=L.fits.w
 have t0:=L.fits.t0
 have t1:=L.fits.t1
 have o0:=L.fits.o0
 have o1:=L.fits.o1
 have u0:=L.fits.u0
 have u1:=L.fits.u1
 unfold Z0c at hnum
 have hcap:=L.cap
 have s0:(0:Int)<=(n1:Int):=by omega
 have s1:(n1:Int)<=(cW:Int):=by omega
 have ew:IntKind.i64.wrap ((n0:Int)+ot)=(n1:Int):=by rw [Z18 _ (by omega) (by omega)];omega
 have kn:Hid (∀ W,Below w.heap.size w W->Calls prog 85 #[.pointer (some ⟨p,0,none⟩)] W fun ev w'=>ev = .returned (.int .i64 (n0:Int))/\Below w.heap.size w w'):=fun W hW=>by
  have L1:=(hL _ _ (hkeep _ _ _ h0 hW)).1
  have k:=Z0v p h (by omega) (by omega) W L1.mem.c0
  rw [<-e0] at k
  refine k.mono ?_
  rintro ev w1 ⟨rfl,rfl⟩
  exact ⟨rfl,hW⟩
 have ke:Hid (∀ W,Below w.heap.size w W->Calls prog 243 #[.slice (some ⟨b,0,none⟩) n1 cW,.int .i64 (n0:Int),.func (.func K) #[] caps] W fun ev w'=>ev = .returned (.bool (Z09 F G (n1 - n0) n0 n1).isSome) /\ ∃ vs,Inv vs w' /\ ∀ l,Z09 F G (n1 - n0) n0 n1=some l->vs=vs0++l):=fun W hW=>Zad a K caps hE F G Inv b n1 cW (by omega) (fun i hi=>L.range i (by omega)) (fun vs w hv=>⟨(hL vs w hv).2,fun i hi=>(hL vs w hv).1.words i (by omega)⟩) hkeep n0 hK vs0 W (hkeep _ _ _ h0 hW)
 have HF:Hid (∀ W,Below w.heap.size w W->W.cell? ⟨p,3,none⟩=some (.slice (some ⟨b,0,none⟩) nW cW)/\W.cell? ⟨p,6,none⟩=some (.int .i64 ot)):=fun W hW=>by
  have L1:=(hL _ _ (hkeep _ _ _ h0 hW)).1
  exact ⟨L1.mem.c3,L1.mem.c6⟩
 have HI:Hid (∀ vs W,Inv vs W->W.cell? ⟨p,3,none⟩=some (.slice (some ⟨b,0,none⟩) nW cW)/\W.cell? ⟨p,6,none⟩=some (.int .i64 ot)):=fun vs W hW=>⟨(hL _ _ hW).1.mem.c3,(hL _ _ hW).1.mem.c6⟩
 have c3:=L.mem.c3
 have cf:=L.mem.c6
 have lp:=Z02 c3
 generalize (Z09 F G (n1 - n0) n0 n1)=res at *
 clear hL hkeep hK h0 L E hnum hw t0 t1 o0 o1 u0 u1 e0 e1 hcap
 go_enter func211,ntmps211
 go_wp2_with fail
 go_region_held3 (fun W=>W.cell? ⟨p,3,none⟩=some (.slice (some ⟨b,0,none⟩) nW cW)/\W.cell? ⟨p,6,none⟩=some (.int .i64 ot)) (first | go_keep | with_reducible exact hSE | with_reducible exact HF.out _ (by assumption)) (first
  | (go_at_call 85;refine (kn.out _ (by first | assumption | exact (U01 _ _).drew)).mono ?_;rintro ev w1 ⟨rfl,hbN⟩)
  | (go_at_call 243;refine (ke.out _ (by first | assumption | exact (U01 _ _).drew)).mono ?_;rintro ev w1 ⟨rfl,vsE,hIE,hlE⟩;have hSE:=HI.out _ _ hIE))
 all_goals go_wp2_with fail
 all_goals go_ret
 all_goals exact ⟨rfl,vsE,hIE,hlE⟩
structure Parts (h u t ot:Int) (n0 n1 m0 m1:Nat):Prop where
 n0:(n0:Int)=u*h
 n1:(n1:Int)=u*h+t
 m0:(m0:Int)=2*h
 m1:(m1:Int)=2*h+ot
theorem Parts.le {h u t ot ol c:Int}{n0 n1 m0 m1 nW nC:Nat} (P:Parts h u t ot n0 n1 m0 m1) (Ft:Fits h ol c nW nC u t ot):n1<=nW/\m1<=nW:=by
 obtain ⟨⟨a0,a1,a2,a3,a4,a5⟩,hw,_,u0,u1,t0,t1,o0,o1⟩:=Ft
 obtain ⟨b0,b1,b2,b3⟩:=P
 have:(n1:Int)<=2*h:=by
  obtain rfl | rfl:u=0\/u=1:=by omega
  ·rw [U2x] at b0 b1;omega
  ·rw [U2z] at b0 b1;omega
 omega
theorem Zgq (a:Nat->Addr) (K:FuncId) (caps:Array Value) (hE:∀ args w,(callFunc K args).run prog w = .ok (.enter K args) w) (G:Nat->Bool) (Inv:List Nat->World->Prop) (p b bc nW nC cW cC:Nat) (h ol c u t ot:Int) (vR vK vI:Value) (F:Nat->Int) (C:Nat->Bool) (n0 n1 m0 m1:Nat) (P:Parts h u t ot n0 n1 m0 m1)
  (hL:∀ vs w,Inv vs w->Looked p b bc nW nC cW cC h ol c u t ot vR vK vI F C w/\WErr a w) (hkeep:∀ vs w w',Inv vs w->Below w.heap.size w w'->Inv vs w')
  (hK:∀ vs f w,Inv vs w->f<nW->Z0t (F f)=true->f+1+szN (F f)<=nW->Calls prog K (#[.int .i64 (f:Int),Z1o (F f)]++caps) w fun ev w'=>ev = .returned (.bool (G f))/\Inv (vs ++ [f]) w')
  (vs0:List Nat) (w:World) (h0:Inv vs0 w) :
  Calls prog 171 #[.pointer (some ⟨p,0,none⟩),.func (.func K) #[] caps] w fun ev w'=>ev = .returned (.bool ((Z09 F G (n1 - n0) n0 n1).isSome && (Z09 F G (m1 - m0) m0 m1).isSome)) /\ ∃ vs,Inv vs w' /\ ∀ l1 l2,Z09 F G (n1 - n0) n0 n1=some l1->Z09 F G (m1 - m0) m0 m1=some l2->vs=vs0++l1++l2:=by
 obtain ⟨le1,le2⟩:=P.le (hL _ _ h0).1.fits
 have ky:=Zbz a K caps hE G Inv p b bc nW nC cW cC h ol c u t ot vR vK vI F C n0 n1 P.n0 P.n1 hL hkeep (fun vs f w hi _ hf hh hs=>hK vs f w hi (by omega) hh (by omega)) vs0 w h0
 have HO:Hid (∀ vs1 W,Inv vs1 W->Calls prog 211 #[.pointer (some ⟨p,0,none⟩),.func (.func K) #[] caps] W fun ev w'=>ev = .returned (.bool (Z09 F G (m1 - m0) m0 m1).isSome) /\ ∃ vs,Inv vs w' /\ ∀ l,Z09 F G (m1 - m0) m0 m1=some l->vs=vs1++l):=fun vs1 W hW=>Z9e a K caps hE G Inv p b bc nW nC cW cC h ol c u t ot vR vK vI F C m0 m1 P.m0 P.m1 hL hkeep (fun vs f w hi _ hf hh hs=>hK vs f w hi (by omega) hh (by omega)) vs1 W hW
 clear hL hkeep hK h0
 generalize (Z09 F G (n1 - n0) n0 n1)=r1 at *
 generalize (Z09 F G (m1 - m0) m0 m1)=r2 at *
 cases r1 with
 | none =>
  go_enter func171,ntmps171
  go_wp2_with fail
  refine ky.mono ?_
  rintro ev w1 ⟨rfl,vs,hI,_⟩
  go_wp2_with fail
  go_ret
  exact ⟨rfl,vs,hI,fun _ _ h=>by cases h⟩
 | some l1 =>
  go_enter func171,ntmps171
  go_wp2_with fail
  refine ky.mono ?_
  rintro ev w1 ⟨rfl,vs,hI,hl⟩
  have e:=hl l1 rfl
  clear hl ky
  go_wp2_with fail
  refine (HO.out vs w1 hI).mono ?_
  rintro ev w2 ⟨rfl,vs2,hI2,hl2⟩
  go_wp2_with fail
  go_ret
  exact ⟨rfl,vs2,hI2,fun a1 a2 h1 h2=>by cases h1;rw [hl2 a2 h2,e]⟩
theorem Zsa (args:Array Value) (w:World):(callFunc 172 args).run prog w = .ok (.enter 172 args) w:=by kernel_rfl
theorem Zs6 (args:Array Value) (w:World):(callFunc 173 args).run prog w = .ok (.enter 173 args) w:=by kernel_rfl
theorem Znl (args:Array Value) (w:World):(callFunc 213 args).run prog w = .ok (.enter 213 args) w:=by kernel_rfl
theorem Zgk {w0 w:World}{p bh nW:Nat}{vs:List Nat}{T1 T2:TypeId} (hb:Below w0.heap.size w0 w) (hm:Z1l w bh nW vs) (hlo:w0.heap.size<=bh):FH w0 p bh (w.heap.size+1) w.heap.size nW vs ((w.alloc (.cells #[.pointer (some ⟨p,0,none⟩)] T1)).alloc (.cells #[.slice (some ⟨bh,0,none⟩) nW nW] T2)):=by
 have hlt:=hm.lt
 obtain ⟨e1,e2⟩:=Z3i w (.cells #[.pointer (some ⟨p,0,none⟩)] T1) (.cells #[.slice (some ⟨bh,0,none⟩) nW nW] T2)
 refine ⟨hb.trans ((Z6q w _ _).mono hb.size),hm.below (Z6q w _ _),hlo,?_,?_,by omega,by omega⟩
 ·rw [U06 _ _ _ _ _ _ e2];rfl
 ·rw [U06 _ _ _ _ _ _ e1];rfl
theorem Zcc (a:Nat->Addr) (w0 w:World) (p b bc bh nW nC cW cC:Nat) (h ol c u t ot:Int) (vR vK vI:Value) (F:Nat->Int) (C:Nat->Bool) (n0 n1 m0 m1:Nat) (P:Parts h u t ot n0 n1 m0 m1) (L:Looked p b bc nW nC cW cC h ol c u t ot vR vK vI F C w0) (E:WErr a w0) (hb:Below w0.heap.size w0 w) (hm:Z1l w bh nW []) (hlo:w0.heap.size<=bh) :
  Calls prog 128 #[.pointer (some ⟨p,0,none⟩),.slice (some ⟨bh,0,none⟩) nW nW] w fun ev w'=>ev = .returned (.bool ((Z09 F (G1 F h) (n1 - n0) n0 n1).isSome && (Z09 F (G1 F h) (m1 - m0) m0 m1).isSome)) /\ ∃ vs,Below w0.heap.size w0 w'/\Z1l w' bh nW vs /\ ∀ l1 l2,Z09 F (G1 F h) (n1 - n0) n0 n1=some l1->Z09 F (G1 F h) (m1 - m0) m0 m1=some l2->vs=l1++l2:=by
 have hnum:=L.fits.nums
 unfold Z0c at hnum
 have ke:=Zgq a 172 #[.pointer (some ⟨w.heap.size+1,0,none⟩),.pointer (some ⟨w.heap.size,0,none⟩)] Zsa (G1 F h) (fun vs W=>FH w0 p bh (w.heap.size+1) w.heap.size nW vs W) p b bc nW nC cW cC h ol c u t ot vR vK vI F C n0 n1 m0 m1 P (fun vs W H=>⟨L.below H.below,E.below H.below⟩) (fun vs W W' H hb=>H.keep hb) (fun vs f W H hf _ _=>Zby w0 p bh (w.heap.size+1) w.heap.size nW f h (by omega) (by omega) (Z02 L.mem.c0) L.mem.c0 vs F hf W H) [] _ (Zgk (T1:=44) (T2:=132) hb hm hlo)
 clear hnum
 go_enter func128,ntmps128
 go_wp2_with fail
 refine ke.mono ?_
 rintro ev w1 ⟨rfl,vs,H,hl⟩
 clear ke
 go_wp2_with fail
 go_ret
 exact ⟨rfl,vs,H.below,H.marks,fun l1 l2 h1 h2=>by rw [hl l1 l2 h1 h2];rfl⟩
theorem Z9q (a:Nat->Addr) (w0 w:World) (p b bc bh nW nC cW cC:Nat) (h ol c u t ot:Int) (vR vK vI:Value) (F:Nat->Int) (C:Nat->Bool) (n0 n1 m0 m1:Nat) (P:Parts h u t ot n0 n1 m0 m1) (L:Looked p b bc nW nC cW cC h ol c u t ot vR vK vI F C w0) (E:WErr a w0) (vs:List Nat) (hb:Below w0.heap.size w0 w) (hm:Z1l w bh nW vs) (hlo:w0.heap.size<=bh) :
  Calls prog 129 #[.pointer (some ⟨p,0,none⟩),.slice (some ⟨bh,0,none⟩) nW nW] w fun ev w'=>ev = .returned (.bool ((Z09 F (G2 F nW (fun i=>decide (i∈vs))) (n1 - n0) n0 n1).isSome && (Z09 F (G2 F nW (fun i=>decide (i∈vs))) (m1 - m0) m0 m1).isSome))/\Below w0.heap.size w0 w'/\Z1l w' bh nW vs:=by
 have ke:=Zgq a 173 #[.pointer (some ⟨w.heap.size+1,0,none⟩),.pointer (some ⟨w.heap.size,0,none⟩)] Zs6 (G2 F nW (fun i=>decide (i∈vs))) (fun _ W=>FH w0 p bh (w.heap.size+1) w.heap.size nW vs W) p b bc nW nC cW cC h ol c u t ot vR vK vI F C n0 n1 m0 m1 P (fun _ W H=>⟨L.below H.below,E.below H.below⟩) (fun _ W W' H hb=>H.keep hb) (fun _ f W H _ hh hs=>Z9p a w0 p b bc bh (w.heap.size+1) w.heap.size nW nC cW cC f h ol c u t ot vR vK vI F C L E vs hh hs W H) [] _ (Zgk (T1:=44) (T2:=132) hb hm hlo)
 go_enter func129,ntmps129
 go_wp2_with fail
 refine ke.mono ?_
 rintro ev w1 ⟨rfl,_,H,_⟩
 clear ke
 go_wp2_with fail
 go_ret
 exact ⟨rfl,H.below,H.marks⟩
theorem Z7u (a:Nat->Addr) (w0 w:World) (p b bc q2 nW nC cW cC:Nat) (h ol c u t ot:Int) (vR vK vI:Value) (F:Nat->Int) (C:Nat->Bool) (n0 n1 m0 m1:Nat) (P:Parts h u t ot n0 n1 m0 m1) (L:Looked p b bc nW nC cW cC h ol c u t ot vR vK vI F C w0) (E:WErr a w0) (H:CH w0 p q2 w) :
  Calls prog 176 #[.pointer (some ⟨p,0,none⟩),.func (.func 177) #[] #[.pointer (some ⟨q2,0,none⟩)]] w fun ev w'=>ev = .returned (.bool (Z09 F (G3 F C h c) (m1 - m0) m0 m1).isSome)/\Below w0.heap.size w0 w':=by
 have hle:=(P.le L.fits).2
 have hm0:=P.m0
 have ke:=fun T=>Z9e a 213 #[.pointer (some ⟨w.heap.size,0,none⟩)] Znl (G3 F C h c) (fun _ W=>CF w0 p q2 w.heap.size W) p b bc nW nC cW cC h ol c u t ot vR vK vI F C m0 m1 P.m0 P.m1 (fun _ W H=>⟨L.below H.ch.below,E.below H.ch.below⟩) (fun _ W W' H hb=>H.keep hb) (fun _ f W H hf _ hh hs=>Z7w a w0 p b bc q2 w.heap.size nW nC cW cC f h ol c u t ot vR vK vI F C L E hh (by omega) (by omega) W H) [] (w.alloc (.cells #[.func (.func 177) #[] #[.pointer (some ⟨q2,0,none⟩)]] T)) ⟨H.keep ((U01 _ _).alloc (U02 _) _),by rw [U06 _ _ _ _ _ _ (U0b w _)];rfl⟩
 clear hle hm0
 go_enter func176,ntmps176
 go_wp2_with fail
 refine (ke _).mono ?_
 rintro ev w1 ⟨rfl,_,H1,_⟩
 clear ke
 go_wp2_with fail
 go_ret
 exact ⟨rfl,H1.ch.below⟩
theorem Ziy (a:Nat->Addr) (w0 w:World) (p b bc nW nC cW cC:Nat) (h ol c u t ot:Int) (vR vK vI:Value) (F:Nat->Int) (C:Nat->Bool) (n0 n1 m0 m1:Nat) (P:Parts h u t ot n0 n1 m0 m1) (L:Looked p b bc nW nC cW cC h ol c u t ot vR vK vI F C w0) (E:WErr a w0) (hb:Below w0.heap.size w0 w) :
  Calls prog 132 #[.pointer (some ⟨p,0,none⟩)] w fun ev w'=>ev = .returned (.bool (Z09 F (G3 F C h c) (m1 - m0) m0 m1).isSome)/\Below w0.heap.size w0 w':=by
 have ke:=Z7u a w0 (w.alloc (.cells #[.pointer (some ⟨p,0,none⟩)] 44)) p b bc w.heap.size nW nC cW cC h ol c u t ot vR vK vI F C n0 n1 m0 m1 P L E ⟨hb.alloc hb.size _,by rw [U06 _ _ _ _ _ _ (U0b w _)];rfl⟩
 go_enter func132,ntmps132
 go_wp2_with fail
 refine ke.mono ?_
 rintro ev w1 ⟨rfl,hb1⟩
 clear ke
 go_wp2_with fail
 go_ret
 exact ⟨rfl,hb1⟩
end Go.Proofs.YtlkcbdinlfeoiaaGreatDoor
