/- Package mem: words that point to objects, by contracts. -/
import Derived.Test.YtlkcbdinlfeoiaaGreatDoorKnAB
namespace Go.Proofs.YtlkcbdinlfeoiaaGreatDoor
open Go.Proofs.Tryz Go.RowKit
set_option maxHeartbeats 8000000
set_option maxRecDepth 100000
theorem Z21 (k:Int) (h0:0<=k) (w:World):Calls prog 149 #[.int .i64 k] w fun ev w'=>ev = .returned (.bool (decide (k<8)))/\w'=w:=by
 have hm:=Z3j k 0 7 w
 have e:(decide (0<=k) && decide (k<=7))=decide (k<8):=by
  rw [U0d h0,U1v]
  exact decide_eq_decide.2 (by omega)
 rw [e] at hm
 generalize decide (k<8)=b at *
 clear e
 go_enter func149,ntmps149
 go_wp2_with fail
 refine hm.mono ?_
 rintro ev w1 ⟨rfl,hq⟩
 rw [hq]
 go_wp2_with fail
 go_ret
 exact ⟨rfl,rfl⟩
theorem Z5b (k g m s:Int) (h0:0<=s) (h1:s<=4096) (w:World):Calls prog 179 #[.agg #[.int .i64 k,.int .i64 g,.int .i64 m,.int .i64 s]] w fun ev w'=>ev = .returned (.int .i64 (1+s))/\Below w.heap.size w w':=by
 go_enter func179,ntmps179
 go_wp2
 go_ret
 exact ⟨rfl,(U01 _ _).alloc (U02 _) _⟩
def Z2m (w:World) (bh nH:Nat) (hb:Nat->Bool):Prop:=∀ i,i<nH->w.cell? ⟨bh,i,none⟩=some (.bool (hb i))
theorem Z2m.below {w w':World}{bh nH B:Nat}{hb:Nat->Bool} (h:Z2m w bh nH hb) (hw:Below B w w') (hB:bh<B):Z2m w' bh nH hb:=fun i hi=>(hw.cell (p:=⟨bh,i,none⟩) hB).trans (h i hi)
theorem Z70 (bh nH:Nat) (hb:Nat->Bool) (n:Nat) (w:World) (H:Z2m w bh nH hb) :
  Calls prog 178 #[.slice (some ⟨bh,0,none⟩) nH nH,.int .i64 (n:Int)] w fun ev w'=>ev = .returned (.bool (decide (n<nH) && hb n))/\w'=w:=by
 by_cases hn:n<nH
 ·have c:=H n hn
  have hI:(n:Int)<(nH:Int):=by omega
  have hI0:(0:Int)<=(n:Int):=by omega
  rw [U0d hn,U1v]
  generalize hb n=b at *
  go_enter func178,ntmps178
  go_wp2
  go_ret
  exact ⟨rfl,rfl⟩
 ·have hI:¬ (n:Int)<(nH:Int):=by omega
  rw [U0k hn,U1s]
  go_enter func178,ntmps178
  go_wp2
  go_ret
  exact ⟨rfl,rfl⟩
theorem Zct (n x:Int) (c1:0<=n) (c2:n<=2) (w:World) :
  Calls prog 183 #[.int .i64 n,.int .u64 x,.func (.func 78) #[] #[]] w fun ev w'=>ev = .returned (.bool (n*4+2 == x))/\Below w.heap.size w w':=by
 have h:=Zb8 n c1 c2 w
 go_enter func183,ntmps183
 go_wp2_with fail
 refine h.mono ?_
 rintro ev w1 ⟨rfl,hb⟩
 go_wp2
 go_ret
 exact ⟨rfl,hb⟩
theorem Zlk (a:Nat->Addr) (n x:Int) (hn:n<0\/2<n) (w:World) (E:WErr a w) :
  Calls prog 183 #[.int .i64 n,.int .u64 x,.func (.func 78) #[] #[]] w fun ev w'=>ev = .returned (.bool false)/\Below w.heap.size w w':=by
 have h:=Za4 a n hn w E
 go_enter func183,ntmps183
 go_wp2_with fail
 refine h.mono ?_
 rintro ev w1 ⟨rfl,hb⟩
 unfold Z0p
 go_wp2
 go_ret
 exact ⟨rfl,hb⟩
theorem Zam (x:Int) (hx:x % 4=2) (h0:0<=x) (h1:x / 4<=2) (w:World) :
  Calls prog 148 #[.int .u64 x] w fun ev w'=>ev = .returned (.tuple #[.int .i64 (x / 4),.nilIface])/\Below w.heap.size w w':=by
 have h:=Zct (x / 4) x (by omega) h1 w
 have hm:(x / 4*4+2 == x)=true:=by
  rw [U3d]
  omega
 rw [hm] at h
 clear hm
 go_enter func148,ntmps148
 go_wp2_with fail
 refine h.mono ?_
 rintro ev w1 ⟨rfl,hb⟩
 go_wp2
 go_ret2
 exact ⟨rfl,hb⟩
theorem Zat (a:Nat->Addr) (x:Int) (h0:0<=x) (h1:x<18446744073709551616) (h2:2<x / 4) (w:World) (E:WErr a w) :
  Calls prog 148 #[.int .u64 x] w fun ev w'=>ev = .returned (.tuple #[.int .i64 0,Z0p a 2])/\Below w.heap.size w w':=by
 have h:=Zlk a (x / 4) x (.inr h2) w E
 go_enter func148,ntmps148
 go_wp2_with fail
 refine h.mono ?_
 rintro ev w1 ⟨rfl,hb⟩
 have k2:=(E.below hb).c2
 go_wp2
 go_quiet (fail)
 go_wp2
 go_ret2
 exact ⟨rfl,Z03 hb⟩
def Z2y (nH:Nat) (hb:Nat->Bool) (x:Int):Bool:=decide (x % 4=0/\4<=x) && (decide ((x / 4 - 1).toNat<nH) && hb (x / 4 - 1).toNat)
theorem Z89 (a:Nat->Addr) (bh nH:Nat) (hb:Nat->Bool) (hn:nH<=300000) (x:Int) (h0:0<=x) (h1:x<18446744073709551616) (w:World) (E:WErr a w) (H:Z2m w bh nH hb) (hbl:bh<w.heap.size) :
  Calls prog 175 #[.slice (some ⟨bh,0,none⟩) nH nH,.int .u64 x] w fun ev w'=>ev = .returned (.bool (Z2y nH hb x))/\Below w.heap.size w w':=by
 by_cases hx:x % 4=0/\4<=x/\x / 4 - 1<=1099511627776
 ·obtain ⟨d0,d1,d2⟩:=hx
  obtain ⟨n,hnn⟩:∃ n:Nat,(n:Int)=x / 4 - 1:=⟨(x / 4 - 1).toNat,by omega⟩
  have e:Z2y nH hb x=(decide (n<nH) && hb n):=by
   unfold Z2y
   rw [U0d (And.intro d0 d1),U1v,<-hnn]
   rfl
  rw [e]
  have ht:=Z3h x d0 d1 d2 w
  rw [<-hnn] at ht
  clear hnn d0 d1 d2 e
  go_enter func175,ntmps175
  go_wp2_with fail
  refine ht.mono ?_
  rintro ev w1 ⟨rfl,hw1⟩
  go_wp2_with fail
  refine (Z70 bh nH hb n w1 (H.below hw1 hbl)).mono ?_
  rintro ev w2 ⟨rfl,hq⟩
  rw [hq]
  clear hq w2
  go_wp2_with fail
  go_ret
  exact ⟨rfl,hw1⟩
 ·have e:Z2y nH hb x=false:=by
   unfold Z2y
   rw [U1m,U1m,U0p,U0p]
   omega
  rw [e]
  have ht:=Z67 a x h0 h1 hx w E
  unfold Z0p at ht
  go_enter func175,ntmps175
  go_wp2_with fail
  refine ht.mono ?_
  rintro ev w1 ⟨rfl,hw1⟩
  go_wp2_with fail
  go_ret
  exact ⟨rfl,hw1⟩
def Z0b (nH:Nat) (hb:Nat->Bool) (x:Int):Bool:=if x % 4=1 then true else if x % 4=2 then decide (x / 4<=2) else (x == 0) || Z2y nH hb x
theorem Zmp (a:Nat->Addr) (bh nH:Nat) (hb:Nat->Bool) (hn:nH<=300000) (x:Int) (h0:0<=x) (h1:x<18446744073709551616) (w:World) (E:WErr a w) (H:Z2m w bh nH hb) (hbl:bh<w.heap.size) :
  Calls prog 174 #[.slice (some ⟨bh,0,none⟩) nH nH,.int .u64 x] w fun ev w'=>ev = .returned (.bool (Z0b nH hb x))/\Below w.heap.size w w':=by
 have kk:=Zol x h0 h1 w
 by_cases x1:x % 4=1
 ·have e:Z0b nH hb x=true:=by unfold Z0b;rw [U09 x1]
  rw [e]
  go_enter func174,ntmps174
  go_wp2_with fail
  refine kk.mono ?_
  rintro ev w1 ⟨rfl,hq⟩
  rw [hq,x1]
  clear hq w1
  go_wp2_with fail
  go_ret
  exact ⟨rfl,U01 _ _⟩
 ·by_cases x2:x % 4=2
  ·by_cases x3:x / 4<=2
   ·have e:Z0b nH hb x=true:=by unfold Z0b;rw [U08 x1,U09 x2,U0d x3]
    rw [e]
    have kt:=Zam x x2 h0 x3 w
    go_enter func174,ntmps174
    go_wp2_with fail
    refine kk.mono ?_
    rintro ev w1 ⟨rfl,hq⟩
    rw [hq,x2]
    clear hq w1
    go_wp2_with fail
    refine kt.mono ?_
    rintro ev w1 ⟨rfl,hb1⟩
    go_wp2_with fail
    go_ret
    exact ⟨rfl,hb1⟩
   ·have e:Z0b nH hb x=false:=by unfold Z0b;rw [U08 x1,U09 x2,U0k x3]
    rw [e]
    have kt:=Zat a x h0 h1 (by omega) w E
    unfold Z0p at kt
    go_enter func174,ntmps174
    go_wp2_with fail
    refine kk.mono ?_
    rintro ev w1 ⟨rfl,hq⟩
    rw [hq,x2]
    clear hq w1
    go_wp2_with fail
    refine kt.mono ?_
    rintro ev w1 ⟨rfl,hb1⟩
    go_wp2_with fail
    go_ret
    exact ⟨rfl,hb1⟩
  ·have e:Z0b nH hb x=((x == 0) || Z2y nH hb x):=by unfold Z0b;rw [U08 x1,U08 x2]
   rw [e]
   by_cases x3:x=0
   ·subst x3
    go_enter func174,ntmps174
    go_wp2_with fail
    refine kk.mono ?_
    rintro ev w1 ⟨rfl,hq⟩
    rw [hq]
    clear hq w1
    go_wp2_with fail
    go_ret
    exact ⟨rfl,U01 _ _⟩
   ·have hz:(x == 0)=false:=by rw [U0w];exact x3
    have kp:=Z89 a bh nH hb hn x h0 h1 w E H hbl
    have z1:(x % 4 == 1)=false:=by rw [U0w];exact x1
    have z2:(x % 4 == 2)=false:=by rw [U0w];exact x2
    rw [hz,U1n]
    generalize Z2y nH hb x=pb at *
    go_enter func174,ntmps174
    go_wp2_with fail
    refine kk.mono ?_
    rintro ev w1 ⟨rfl,hq⟩
    rw [hq]
    clear hq w1
    go_wp2_with fail
    refine kp.mono ?_
    rintro ev w1 ⟨rfl,hb1⟩
    go_wp2_with fail
    go_ret
    exact ⟨rfl,hb1⟩
def U64 (l:List Int):Prop:=∀ x∈l,0<=x/\x<18446744073709551616
theorem Z5t (a:Nat->Addr) (bh nH:Nat) (hb:Nat->Bool) (hn:nH<=300000) (l:List Int) (hl:l.length<=300000) (hu:U64 l) (ao:Option Addr) (cap:Nat) (w:World) (E:WErr a w) (H:Z2m w bh nH hb) (hbl:bh<w.heap.size) (hR:Z4g w (.slice ao l.length cap) l.length (Z05 l)) :
  Calls prog 130 #[.slice (some ⟨bh,0,none⟩) nH nH,.slice ao l.length cap] w fun ev w'=>ev = .returned (.bool (l.all (Z0b nH hb)))/\Below w.heap.size w w':=by
 have HR:=Z00 hR
 have HU:=Z00 hu
 have HH:=Z00 H
 have HE:=Z00 E
 clear hR hu H E
 go_enter func130,ntmps130
 go_wp2_with fail
 go_loopg [9] (l.length+1) (fun gk v9 wr => ∃ k:Nat,gk=l.length+1 - k/\k<=l.length/\v9 = .int .i64 (k:Int)/\Below w.heap.size w wr/\Hid ((l.take k).all (Z0b nH hb)=true))
 case atStart=>exact ⟨0,rfl,U0x _,rfl,U01 _ _,rfl⟩
 case round =>
  obtain ⟨k,hgk,hk,hv9,hb1,hal⟩:=hrel
  subst hv9
  have HG:=Z00 hgk
  clear hgk
  by_cases hlt:k<l.length
  ·have hI:(k:Int)<(l.length:Int):=by omega
   have hI0:(0:Int)<=(k:Int):=by omega
   obtain ⟨x,hx⟩:∃ x,l[k]?=some x:=⟨_,U03 hlt⟩
   obtain ⟨_,_,e,_,f1⟩:=HR.out
   cases e
   obtain ⟨p1,o1,rfl,l1,g1⟩:=f1 (by omega)
   have r1:wr.cell? ⟨p1,o1+k,none⟩=some (.int .u64 x):=(hb1.cell (p:=⟨p1,o1+k,none⟩) l1).trans (g1 k _ (Z2d hx))
   have hxu:=HU.out x (U0a hx)
   have kh:=Zmp a bh nH hb hn x hxu.1 hxu.2 wr (HE.out.below hb1) (HH.out.below hb1 hbl) (U0r hbl hb1.size)
   have HT:Hid ((l.take (k+1)).all (Z0b nH hb)=Z0b nH hb x):=by
    show _=_
    rw [U1g,hx,U2s,hal.out,U1v]
    simp
   have HF:Hid (Z0b nH hb x=false->l.all (Z0b nH hb)=false):=fun hf=>by
    rw [U5b]
    exact ⟨x,U0a hx,by rw [hf];decide⟩
   clear f1 g1 hx hxu hal
   cases hfb:Z0b nH hb x with
   | true =>
    rw [hfb] at kh
    have HT2:Hid ((l.take (k+1)).all (Z0b nH hb)=true):=HT.out.trans hfb
    clear HT HF hfb
    go_wp2_with fail
    refine kh.mono ?_
    rintro ev w1 ⟨rfl,hb2⟩
    go_wp2_with fail
    go_roundg (l.length+1 - (k+1))
    case measure=>have:=HG.out;omega
    case rel=>exact ⟨k+1,rfl,by omega,by go_num,hb1.trans (hb2.mono hb1.size),HT2⟩
   | false =>
    rw [hfb] at kh
    have HF2:=HF.out hfb
    clear HT HF hfb
    go_wp2_with fail
    refine kh.mono ?_
    rintro ev w1 ⟨rfl,hb2⟩
    go_wp2_with fail
    go_ret
    rw [HF2]
    exact ⟨rfl,hb1.trans (hb2.mono hb1.size)⟩
  ·obtain rfl:k=l.length:=by omega
   go_wp2_with fail
   go_ret
   rw [U3y] at hal
   rw [hal.out]
   exact ⟨rfl,hb1⟩
end Go.Proofs.YtlkcbdinlfeoiaaGreatDoor
