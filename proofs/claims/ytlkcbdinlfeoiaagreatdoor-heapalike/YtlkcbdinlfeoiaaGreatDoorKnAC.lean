/- Package mem: objects one by one (eachOf), by a contract. -/
import Derived.Test.YtlkcbdinlfeoiaaGreatDoorMemK
namespace Go.Proofs.YtlkcbdinlfeoiaaGreatDoor
open Go.Proofs.Tryz Go.RowKit
set_option maxHeartbeats 8000000
set_option maxRecDepth 100000
def Z0t (x:Int):Bool:=decide (x % 4=3/\x / 32768 % 2=0/\x / 65536<=4096)
def szN (x:Int):Nat:=(x / 65536).toNat
def Z1o (x:Int):Value:=.agg #[.int .i64 (x / 4 % 256),.int .i64 (x / 1024 % 16),.int .i64 (x / 16384 % 2),.int .i64 (x / 65536)]
def Z09 (F:Nat->Int) (G:Nat->Bool):Nat->Nat->Nat->Option (List Nat)
 | 0,_,_=>some []
 | n+1,f,t=>if f<t then (if Z0t (F f) && (decide (f+1+szN (F f)<=t) && G f) then (Z09 F G n (f+1+szN (F f)) t).map (f :: ·) else none) else some []
theorem Z3b {F:Nat->Int}{G:Nat->Bool}{n f t:Nat} (h:¬ f<t):Z09 F G n f t=some []:=by
 cases n with
 | zero=>rfl
 | succ n=>unfold Z09;rw [U08 h]
theorem Z37 {F:Nat->Int}{G:Nat->Bool}{n f t:Nat} (hn:t - f<=n) (h:f<t) (hb:(Z0t (F f) && (decide (f+1+szN (F f)<=t) && G f))=false):Z09 F G n f t=none:=by
 cases n with
 | zero=>omega
 | succ n=>unfold Z09;rw [U09 h,hb];rfl
theorem Z74 {F:Nat->Int}{G:Nat->Bool}{n f t:Nat} (hn:t - f<=n) (h:f<t) (hb:(Z0t (F f) && (decide (f+1+szN (F f)<=t) && G f))=true):∃ n',t - (f+1+szN (F f))<=n'/\Z09 F G n f t=(Z09 F G n' (f+1+szN (F f)) t).map (f :: ·):=by
 cases n with
 | zero=>omega
 | succ n=>refine ⟨n,by omega,?_⟩;rw [Z09,U09 h,hb];rfl
theorem Zad (a:Nat->Addr) (K:FuncId) (caps:Array Value) (hE:∀ args w,(callFunc K args).run prog w = .ok (.enter K args) w) (F:Nat->Int) (G:Nat->Bool) (Inv:List Nat->World->Prop) (b t cap:Nat) (ht:t<=300000) (hF:∀ i,i<t->0<=F i/\F i<18446744073709551616)
  (hcell:∀ vs w,Inv vs w->WErr a w /\ ∀ i,i<t->w.cell? ⟨b,i,none⟩=some (.int .u64 (F i))) (hkeep:∀ vs w w',Inv vs w->Below w.heap.size w w'->Inv vs w')
  (f0:Nat) (hK:∀ vs f w,Inv vs w->f0<=f->f<t->Z0t (F f)=true->f+1+szN (F f)<=t->Calls prog K (#[.int .i64 (f:Int),Z1o (F f)]++caps) w fun ev w'=>ev = .returned (.bool (G f))/\Inv (vs ++ [f]) w')
  (vs0:List Nat) (w:World) (h0:Inv vs0 w) :
  Calls prog 243 #[.slice (some ⟨b,0,none⟩) t cap,.int .i64 (f0:Int),.func (.func K) #[] caps] w fun ev w'=>ev = .returned (.bool (Z09 F G (t - f0) f0 t).isSome) /\ ∃ vs,Inv vs w' /\ ∀ l,Z09 F G (t - f0) f0 t=some l->vs=vs0++l:=by
 have HK:=Z00 hK
 have HC:=Z00 hcell
 have HP:=Z00 hkeep
 have HF:=Z00 hF
 have H0:=Z00 h0
 clear hK hcell hkeep hF h0
 go_enter func243,ntmps243
 go_wp2_with fail
 go_loopg [1] (t+1) (fun gk v1 wr => ∃ (f n:Nat) (vs:List Nat),gk=t+f0+1 - f/\v1 = .int .i64 (f:Int)/\(f=f0\/f<=t)/\Hid (f0<=f)/\Hid (t - f<=n)/\Hid (Inv (vs0++vs) wr)/\Hid (Z09 F G (t - f0) f0 t=(Z09 F G n f t).map (vs ++ ·)))
 case atStart=>exact ⟨f0,t - f0,[],by omega,rfl,.inl rfl,U02 _,U02 _,by rw [U16];exact H0,by show _=_;simp⟩
 case round =>
  obtain ⟨f,n,vs,hgk,hv1,hft,hfl,hn,hI,hW⟩:=hrel
  subst hv1
  have HG:=Z00 hgk
  clear hgk
  by_cases hlt:f<t
  ·have hI1:(f:Int)<(t:Int):=by omega
   have hI0:(0:Int)<=(f:Int):=by omega
   obtain ⟨E,hc⟩:=HC.out _ _ hI.out
   obtain ⟨x,hxe⟩:∃ x,x=F f:=⟨_,rfl⟩
   have c0:=hc f hlt
   have hx:=HF.out f hlt
   rw [<-hxe] at c0 hx
   have HX:=Z00 hxe
   clear hc hxe
   cases hh:Z0t x with
   | false =>
    have HN:Hid (Z09 F G (t - f0) f0 t=none):=by show _=_;rw [hW.out,Z37 hn.out hlt (by rw [<-HX.out,hh];rfl)];rfl
    have kt:=Zdm a x hx.1 hx.2 (by unfold Z0t at hh;simpa using hh) wr E
    unfold Z0p at kt
    clear hh
    go_wp2_with fail
    refine kt.mono ?_
    rintro ev w1 ⟨rfl,hb1⟩
    go_wp2_with fail
    refine (Z5b 0 0 0 0 (by omega) (by omega) _).mono ?_
    rintro ev w2 ⟨rfl,hb2⟩
    have hb3:Below wr.heap.size wr w2:=(hb1.alloc hb1.size _).trans (hb2.mono (by have:=hb1.size;simp;omega))
    clear hb1 hb2
    go_wp2_with fail
    go_ret
    exact ⟨by rw [HN.out];rfl,vs0++vs,HP.out _ _ _ hI.out hb3,fun l hl=>by rw [HN.out] at hl;cases hl⟩
   | true =>
    obtain ⟨hd0,hd1,hd2⟩:x % 4=3/\x / 32768 % 2=0/\x / 65536<=4096:=by unfold Z0t at hh;simpa using hh
    have kt:=Z2c x hx.1 hx.2 hd0 hd1 hd2 wr
    obtain ⟨s,hs⟩:∃ s:Nat,(s:Int)=x / 65536:=⟨(x / 65536).toNat,by omega⟩
    have HS:Hid (szN (F f)=s):=by show _=_;rw [<-HX.out];unfold szN;omega
    have HV:Hid (Z1o (F f) = .agg #[.int .i64 (x / 4 % 256),.int .i64 (x / 1024 % 16),.int .i64 (x / 16384 % 2),.int .i64 (s:Int)]):=by show _=_;rw [<-HX.out,hs];rfl
    rw [<-hs] at kt
    have hs1:s<=4096:=by omega
    have HH:Hid (Z0t (F f)=true):=by show _=_;rw [<-HX.out];exact hh
    clear hs hd0 hd1 hd2 hh
    generalize x / 4 % 256=k1 at *
    generalize x / 1024 % 16=k2 at *
    generalize x / 16384 % 2=k3 at *
    go_wp2_with fail
    refine kt.mono ?_
    rintro ev w1 ⟨rfl,hb1⟩
    go_wp2_with fail
    have hb1':Below wr.heap.size wr (w1.alloc (.cells #[.int .i64 k1,.int .i64 k2,.int .i64 k3,.int .i64 (s:Int)] 172)):=hb1.alloc hb1.size _
    refine (Z5b k1 k2 k3 (s:Int) (by omega) (by omega) _).mono ?_
    rintro ev w2 ⟨rfl,hb2⟩
    obtain ⟨r0,r1,r2,r3,_⟩:=Z0e ((hb2.block w1.heap.size (by simp)).trans (U0b w1 _))
    have hb3:Below wr.heap.size wr w2:=hb1'.trans (hb2.mono (by have:=hb1.size;simp;omega))
    clear hb1 hb1' hb2 kt
    by_cases hend:f+1+s<=t
    ·have hend1:¬ (f:Int)+(1+(s:Int)) > (t:Int):=by omega
     have kk:=HK.out (vs0++vs) f w2 (HP.out _ _ _ hI.out hb3) hfl.out hlt HH.out (by rw [HS.out];exact hend)
     rw [HV.out] at kk
     cases hg:G f with
     | true =>
      rw [hg] at kk
      obtain ⟨n',hn',hw'⟩:=Z74 (G:=G) hn.out hlt (by rw [HH.out,HS.out,U0d hend,hg];rfl)
      rw [HS.out] at hn' hw'
      have HN':=Z00 hn'
      have HW':Hid (Z09 F G (t - f0) f0 t=(Z09 F G n' (f+1+s) t).map ((vs ++ [f]) ++ ·)):=by
       show _=_
       rw [hW.out,hw',Option.map_map]
       congr 1
       funext l
       simp
      clear hg hn' hw'
      go_wp2_with fail
      refine kk.mono ?_
      rintro ev w3 ⟨rfl,hI3⟩
      have HI3:=Z00 hI3
      clear hI3
      go_wp2_with fail
      go_roundg (t+f0+1 - (f+1+s))
      case measure=>have:=HG.out;omega
      case rel=>exact ⟨f+1+s,n',vs ++ [f],rfl,by go_num,.inr hend,U0n hfl.out (by omega),HN'.out,by rw [<-U0y];exact HI3,HW'⟩
     | false =>
      rw [hg] at kk
      have HN:Hid (Z09 F G (t - f0) f0 t=none):=by show _=_;rw [hW.out,Z37 hn.out hlt (by rw [hg,U20,U20])];rfl
      clear hg
      go_wp2_with fail
      refine kk.mono ?_
      rintro ev w3 ⟨rfl,hI3⟩
      go_wp2_with fail
      go_ret
      exact ⟨by rw [HN.out];rfl,_,hI3,fun l hl=>by rw [HN.out] at hl;cases hl⟩
    ·have hend1:(f:Int)+(1+(s:Int)) > (t:Int):=by omega
     have HN:Hid (Z09 F G (t - f0) f0 t=none):=by show _=_;rw [hW.out,Z37 hn.out hlt (by rw [HS.out,U0k hend,U1s,U20])];rfl
     go_wp2_with fail
     go_ret
     exact ⟨by rw [HN.out];rfl,vs0++vs,HP.out _ _ _ hI.out hb3,fun l hl=>by rw [HN.out] at hl;cases hl⟩
  ·have hI1:¬ (f:Int)<(t:Int):=by omega
   have HN:Hid (Z09 F G (t - f0) f0 t=some vs):=by show _=_;rw [hW.out,Z3b hlt];simp
   go_wp2_with fail
   go_ret
   exact ⟨by rw [HN.out];rfl,vs0++vs,hI.out,fun l hl=>by rw [HN.out] at hl;cases hl;rfl⟩
structure Looked (p b bc nW nC cW cC:Nat) (h ol c u t ot:Int) (vR vK vI:Value) (F:Nat->Int) (C:Nat->Bool) (w:World):Prop where
 mem:MemAt p h ol c (.slice (some ⟨b,0,none⟩) nW cW) u t ot vR vK vI (.slice (some ⟨bc,0,none⟩) nC cC) w
 fits:Fits h ol c nW nC u t ot
 cap:nW<=cW
 words:∀ i,i<nW->w.cell? ⟨b,i,none⟩=some (.int .u64 (F i))
 cards:∀ i,i<nC->w.cell? ⟨bc,i,none⟩=some (.bool (C i))
 range:∀ i,i<nW->0<=F i/\F i<18446744073709551616
theorem Looked.below {p b bc nW nC cW cC:Nat}{h ol c u t ot:Int}{vR vK vI:Value}{F:Nat->Int}{C:Nat->Bool}{w w':World} (L:Looked p b bc nW nC cW cC h ol c u t ot vR vK vI F C w) (hb:Below w.heap.size w w'):Looked p b bc nW nC cW cC h ol c u t ot vR vK vI F C w' where
 mem:=L.mem.below hb (Z02 L.mem.c0)
 fits:=L.fits
 cap:=L.cap
 words i hi:=(hb.cell (p:=⟨b,i,none⟩) (Z02 (L.words i hi))).trans (L.words i hi)
 cards i hi:=(hb.cell (p:=⟨bc,i,none⟩) (Z02 (L.cards i hi))).trans (L.cards i hi)
 range:=L.range
def Z1l (w:World) (bh nH:Nat) (vs:List Nat):Prop:=∃ cur:Array Value,w.heap[bh]?=some (.cells cur 4)/\cur.size=nH /\ ∀ i,i<nH->cur[i]?=some (.bool (decide (i∈vs)))
theorem Z1l.heads {w:World}{bh nH:Nat}{vs:List Nat} (h:Z1l w bh nH vs):Z2m w bh nH (fun i=>decide (i∈vs)):=fun i hi=>by
 obtain ⟨cur,h1,_,h3⟩:=h
 rw [U06 _ _ _ _ _ _ h1]
 exact h3 i hi
theorem Z1l.below {w w':World}{bh nH:Nat}{vs:List Nat} (h:Z1l w bh nH vs) (hb:Below w.heap.size w w'):Z1l w' bh nH vs:=by
 obtain ⟨cur,h1,h2⟩:=h
 exact ⟨cur,(hb.block bh (Z01 h1)).trans h1,h2⟩
theorem Z1l.lt {w:World}{bh nH:Nat}{vs:List Nat} (h:Z1l w bh nH vs):bh<w.heap.size:=by
 obtain ⟨cur,h1,_⟩:=h
 exact Z01 h1
theorem Z1l.set {w:World}{bh nH f:Nat}{vs:List Nat} (h:Z1l w bh nH vs) (hf:f<nH):Z1l (w.setCell ⟨bh,f,none⟩ (.bool true)) bh nH (vs ++ [f]):=by
 obtain ⟨cur,h1,h2,h3⟩:=h
 refine ⟨_,Z06 h1,by simp [h2],fun i hi => ?_⟩
 rw [Array.getElem?_setIfInBounds]
 by_cases e:f=i
 ·subst e
  simp [h2,hf]
 ·rw [U08 e,h3 i hi]
  congr 2
  simp
  intro e'
  exact absurd e'.symm e
structure FH (w0:World) (p bh q1 q2 nW:Nat) (vs:List Nat) (w:World):Prop where
 below:Below w0.heap.size w0 w
 marks:Z1l w bh nW vs
 lo:w0.heap.size<=bh
 c1:w.cell? ⟨q1,0,none⟩=some (.slice (some ⟨bh,0,none⟩) nW nW)
 c2:w.cell? ⟨q2,0,none⟩=some (.pointer (some ⟨p,0,none⟩))
 n1:q1≠bh
 n2:q2≠bh
theorem FH.keep {w0:World}{p bh q1 q2 nW:Nat}{vs:List Nat}{w w':World} (H:FH w0 p bh q1 q2 nW vs w) (hb:Below w.heap.size w w'):FH w0 p bh q1 q2 nW vs w':=
 ⟨H.below.trans (hb.mono H.below.size),H.marks.below hb,H.lo,(hb.cell (p:=⟨q1,0,none⟩) (Z02 H.c1)).trans H.c1,(hb.cell (p:=⟨q2,0,none⟩) (Z02 H.c2)).trans H.c2,H.n1,H.n2⟩
theorem FH.set {w0:World}{p bh q1 q2 nW f:Nat}{vs:List Nat}{w:World} (H:FH w0 p bh q1 q2 nW vs w) (hf:f<nW):FH w0 p bh q1 q2 nW (vs ++ [f]) (w.setCell ⟨bh,f,none⟩ (.bool true)):=
 ⟨H.below.setCell H.lo _,H.marks.set hf,H.lo,(U25 (a:=⟨q1,0,none⟩) (Z0a _ _ _ _ _ H.n1)).trans H.c1,(U25 (a:=⟨q2,0,none⟩) (Z0a _ _ _ _ _ H.n2)).trans H.c2,H.n1,H.n2⟩
def G1 (F:Nat->Int) (h:Int) (f:Nat):Bool:=decide (F f / 16384 % 2=0) && (decide ((f:Int)<2*h) || decide (F f / 1024 % 16=0))
theorem Zby (w0:World) (p bh q1 q2 nW f:Nat) (h:Int) (h0:0<=h) (h1:h<=65536) (hp:p<w0.heap.size) (ch:w0.cell? ⟨p,0,none⟩=some (.int .i64 h)) (vs:List Nat) (F:Nat->Int) (hf:f<nW) (w:World) (H:FH w0 p bh q1 q2 nW vs w) :
  Calls prog 172 (#[.int .i64 (f:Int),Z1o (F f)] ++ #[.pointer (some ⟨q1,0,none⟩),.pointer (some ⟨q2,0,none⟩)]) w fun ev w'=>ev = .returned (.bool (G1 F h f))/\FH w0 p bh q1 q2 nW (vs ++ [f]) w':=by
 show Calls prog 172 #[.int .i64 (f:Int),.agg #[.int .i64 (F f / 4 % 256),.int .i64 (F f / 1024 % 16),.int .i64 (F f / 16384 % 2),.int .i64 (F f / 65536)],.pointer (some ⟨q1,0,none⟩),.pointer (some ⟨q2,0,none⟩)] w _
 unfold G1
 generalize F f / 1024 % 16=ag
 generalize F f / 16384 % 2=mk
 generalize hgk:F f / 4 % 256=kd
 have hkd0:0<=kd:=by rw [<-hgk];exact U3o _ (by decide)
 clear hgk
 generalize F f / 65536=sz
 have hI0:(0:Int)<=(f:Int):=by omega
 have hI1:(f:Int)<(nW:Int):=by omega
 have HH:=Z00 H
 obtain ⟨cur,m1,m2,m3⟩:=H.marks
 have k0:=(U06 _ _ f _ _ _ m1).trans (m3 f hf)
 have kf:w.frozen? ⟨bh,f,none⟩=false:=by simp [World.frozen?,m1]
 have k1:=H.c1
 have k2:=H.c2
 have n1:=H.n1
 have n2:=H.n2
 have n1':bh≠q1:=fun e=>n1 e.symm
 have n2':bh≠q2:=fun e=>n2 e.symm
 have l1:=Z02 k1
 have l2:=Z02 k2
 have l3:=Z01 m1
 have HB:=Z00 H.below
 have hlo:=H.lo
 clear m1 m2 m3 H cur
 have fh:∀ T:TypeId,FH w0 p bh q1 q2 nW (vs ++ [f]) ((w.setCell ⟨bh,f,none⟩ (.bool true)).alloc (.cells #[.int .i64 kd,.int .i64 ag,.int .i64 mk,.int .i64 sz] T)):=fun T=>(HH.out.set hf).keep ((U01 _ _).alloc (U02 _) _)
 have HFH:=Z00 fh
 clear fh
 by_cases hm:mk=0
 ·subst hm
  have ko:=Z0v p h h0 h1 _ (((HFH.out 172).below.cell (p:=⟨p,0,none⟩) hp).trans ch)
  by_cases hy:(f:Int)<2*h
  ·rw [U0d hy]
   go_enter func172,ntmps172
   go_wp2_with fail
   refine ko.mono ?_
   rintro ev w1 ⟨rfl,hq⟩
   rw [hq]
   clear hq w1
   go_wp2_with fail
   go_ret
   exact ⟨rfl,HFH.out _⟩
  ·rw [U0k hy,U1n]
   by_cases ha:ag=0
   ·subst ha
    go_enter func172,ntmps172
    go_wp2_with fail
    refine ko.mono ?_
    rintro ev w1 ⟨rfl,hq⟩
    rw [hq]
    clear hq w1
    go_wp2_with fail
    go_ret
    exact ⟨rfl,HFH.out _⟩
   ·have hz:(ag == 0)=false:=by rw [U0w];exact ha
    rw [U0k ha]
    go_enter func172,ntmps172
    go_wp2_with fail
    refine ko.mono ?_
    rintro ev w1 ⟨rfl,hq⟩
    rw [hq]
    clear hq w1
    go_wp2_with fail
    go_ret
    exact ⟨by rw [show decide ((f:Int)<2*h)=false from U0k (by omega)];rfl,HFH.out _⟩
 ·have hz:(mk == 0)=false:=by rw [U0w];exact hm
  rw [U0k hm,U1s]
  go_enter func172,ntmps172
  go_wp2_with fail
  go_ret
  exact ⟨rfl,HFH.out _⟩
def Z07 (F:Nat->Int) (f:Nat):List Int:=(List.range (szN (F f))).map fun j=>F (f+1+j)
theorem Zb2 (p b nW cW f s:Nat) (kd ag mk:Int) (h ol c u t ot:Int) (vR vK vI vC:Value) (hs:s<=4096) (hn:nW<=300000) (hf:f+1+s<=nW) (hc:nW<=cW) (w:World) (M:MemAt p h ol c (.slice (some ⟨b,0,none⟩) nW cW) u t ot vR vK vI vC w) :
  Calls prog 135 #[.pointer (some ⟨p,0,none⟩),.int .i64 (f:Int),.agg #[.int .i64 kd,.int .i64 ag,.int .i64 mk,.int .i64 (s:Int)]] w fun ev w' => ∃ ao cap,ev = .returned (.slice ao s cap)/\s<=cap/\(0<s->ao=some ⟨b,f+1,none⟩)/\Below w.heap.size w w':=by
 have c3:=M.c3
 have lp:=Z02 c3
 have e5:((f:Int)+(1+(s:Int))).toNat - (f+1)=s:=by omega
 have s0:(0:Int)<=(f:Int)+1:=by omega
 have s1:(f:Int)+1<=(f:Int)+(1+(s:Int)):=by omega
 have s2:(f:Int)+(1+(s:Int))<=(cW:Int):=by omega
 have e1:IntKind.i64.wrap ((f:Int)+1)=(f:Int)+1:=Z18 _ (by omega) (by omega)
 have e2:IntKind.i64.wrap ((f:Int)+(1+(s:Int)))=(f:Int)+(1+(s:Int)):=Z18 _ (by omega) (by omega)
 have kw:Hid (∀ w,Calls prog 179 #[.agg #[.int .i64 kd,.int .i64 ag,.int .i64 mk,.int .i64 (s:Int)]] w fun ev w'=>ev = .returned (.int .i64 (1+(s:Int)))/\Below w.heap.size w w'):=fun w=>Z5b kd ag mk s (by omega) (by omega) w
 clear M
 go_enter func135,ntmps135
 go_wp2_with fail
 obtain ⟨w1,hw1⟩:∃ w1,w1=w.alloc (.cells #[.int .i64 kd,.int .i64 ag,.int .i64 mk,.int .i64 (s:Int)] 172):=⟨_,rfl⟩
 rw [<-hw1]
 have hb1:Below w.heap.size w w1:=by rw [hw1];exact (U01 _ _).alloc (U02 _) _
 have x3:=(hb1.cell (p:=⟨p,3,none⟩) lp).trans c3
 obtain ⟨r0,r1,r2,r3,_⟩:=Z0e (w:=w1) (b:=w.heap.size) (by rw [hw1];exact U0b w _)
 have l1:w.heap.size<w1.heap.size:=Z02 r0
 clear hw1 c3
 have HF:Hid (∀ W,Below w1.heap.size w1 W->W.cell? ⟨p,3,none⟩=some (.slice (some ⟨b,0,none⟩) nW cW)/\W.cell? ⟨w.heap.size,0,none⟩=some (.int .i64 kd)/\W.cell? ⟨w.heap.size,1,none⟩=some (.int .i64 ag)/\W.cell? ⟨w.heap.size,2,none⟩=some (.int .i64 mk)/\W.cell? ⟨w.heap.size,3,none⟩=some (.int .i64 (s:Int))):=fun W hW=>⟨(hW.cell (p:=⟨p,3,none⟩) (Z02 x3)).trans x3,(hW.cell (p:=⟨w.heap.size,0,none⟩) l1).trans r0,(hW.cell (p:=⟨w.heap.size,1,none⟩) l1).trans r1,(hW.cell (p:=⟨w.heap.size,2,none⟩) l1).trans r2,(hW.cell (p:=⟨w.heap.size,3,none⟩) l1).trans r3⟩
 go_region_held3 (fun W=>W.cell? ⟨p,3,none⟩=some (.slice (some ⟨b,0,none⟩) nW cW)/\W.cell? ⟨w.heap.size,0,none⟩=some (.int .i64 kd)/\W.cell? ⟨w.heap.size,1,none⟩=some (.int .i64 ag)/\W.cell? ⟨w.heap.size,2,none⟩=some (.int .i64 mk)/\W.cell? ⟨w.heap.size,3,none⟩=some (.int .i64 (s:Int))) (first | go_keep | with_reducible exact HF.out _ hb3) ((go_at_call 179;refine (kw.out _).mono ?_;rintro ev w2 ⟨rfl,hb2⟩;have hb3:Below w1.heap.size w1 w2:=((U01 _ _).drew).trans (hb2.mono (by simp))))
 all_goals go_wp2_with fail
 all_goals go_ret
 ·exact ⟨_,_,rfl,by omega,fun h=>by omega,hb1.trans (hb3.mono hb1.size)⟩
 ·exact ⟨_,_,rfl,by omega,fun _=>rfl,hb1.trans (hb3.mono hb1.size)⟩
theorem Z44 {F:Nat->Int}{f j:Nat} (h:j<szN (F f)):(Z07 F f)[j]?=some (F (f+1+j)):=by simp [Z07,h]
theorem Z13 (F:Nat->Int) (f:Nat):(Z07 F f).length=szN (F f):=by simp [Z07]
theorem Z8c {F:Nat->Int}{f b nW:Nat}{ao:Option Addr}{cap:Nat}{w:World} (hf:f+1+szN (F f)<=nW) (hw:∀ i,i<nW->w.cell? ⟨b,i,none⟩=some (.int .u64 (F i))) (hc:szN (F f)<=cap) (ha:0<szN (F f)->ao=some ⟨b,f+1,none⟩):Z4g w (.slice ao (Z07 F f).length cap) (Z07 F f).length (Z05 (Z07 F f)):=by
 rw [Z13]
 refine ⟨ao,cap,rfl,hc,fun h=>⟨b,f+1,ha h,Z02 (hw f (by omega)),fun j u hj => ?_⟩⟩
 have hl:j<szN (F f):=by
  have:=(U0e.1 hj).1
  rw [Z3y,Z13] at this
  exact this
 have e:(Z05 (Z07 F f))[j]?=some (.int .u64 (F (f+1+j))):=Z2d (Z44 hl)
 rw [e] at hj
 cases hj
 exact hw _ (by omega)
theorem Z8z {F:Nat->Int}{f nW:Nat} (hf:f+1+szN (F f)<=nW) (hr:∀ i,i<nW->0<=F i/\F i<18446744073709551616):U64 (Z07 F f):=fun x hx=>by
 obtain ⟨j,hj⟩:=U21.1 hx
 have hl:j<szN (F f):=by
  have:=(U0e.1 hj).1
  rw [Z13] at this
  exact this
 rw [Z44 hl] at hj
 cases hj
 exact hr _ (by omega)
def G2 (F:Nat->Int) (nW:Nat) (hb:Nat->Bool) (f:Nat):Bool:=decide (F f / 4 % 256<8) || (Z07 F f).all (Z0b nW hb)
theorem Z9p (a:Nat->Addr) (w0:World) (p b bc bh q1 q2 nW nC cW cC f:Nat) (h ol c u t ot:Int) (vR vK vI:Value) (F:Nat->Int) (C:Nat->Bool) (L:Looked p b bc nW nC cW cC h ol c u t ot vR vK vI F C w0) (E:WErr a w0) (vs:List Nat) (hh:Z0t (F f)=true) (hf:f+1+szN (F f)<=nW) (w:World) (H:FH w0 p bh q1 q2 nW vs w) :
  Calls prog 173 (#[.int .i64 (f:Int),Z1o (F f)] ++ #[.pointer (some ⟨q1,0,none⟩),.pointer (some ⟨q2,0,none⟩)]) w fun ev w'=>ev = .returned (.bool (G2 F nW (fun i=>decide (i∈vs)) f))/\FH w0 p bh q1 q2 nW vs w':=by
 have hn:nW<=300000:=by have:=L.fits.w;have:=L.fits.nums;unfold Z0c at this;omega
 have hd2:F f / 65536<=4096:=by unfold Z0t at hh;have:=U0j hh;exact this.2.2
 have hx:=L.range f (by omega)
 obtain ⟨s,hs⟩:∃ s:Nat,(s:Int)=F f / 65536:=⟨(F f / 65536).toNat,by omega⟩
 have HS:Hid (szN (F f)=s):=by show _=_;unfold szN;omega
 show Calls prog 173 #[.int .i64 (f:Int),.agg #[.int .i64 (F f / 4 % 256),.int .i64 (F f / 1024 % 16),.int .i64 (F f / 16384 % 2),.int .i64 (F f / 65536)],.pointer (some ⟨q1,0,none⟩),.pointer (some ⟨q2,0,none⟩)] w _
 rw [<-hs]
 have hG:G2 F nW (fun i=>decide (i∈vs)) f=(decide (F f / 4 % 256<8) || (Z07 F f).all (Z0b nW (fun i=>decide (i∈vs)))):=rfl
 rw [hG]
 clear hG
 have hs1:s<=4096:=by omega
 clear hs hd2 hx
 generalize F f / 1024 % 16=ag
 generalize F f / 16384 % 2=mk
 generalize hgk:F f / 4 % 256=kd
 have hkd0:0<=kd:=by rw [<-hgk];exact U3o _ (by decide)
 clear hgk
 have k1:=H.c1
 have k2:=H.c2
 have l1:=Z02 k1
 have l2:=Z02 k2
 have HH:=Z00 H
 have HL:=Z00 L
 have HE:=Z00 E
 by_cases hr:kd<8
 ·rw [U0d hr,U2g]
  have kr:∀ w,Calls prog 149 #[.int .i64 kd] w fun ev w'=>ev = .returned (.bool true)/\w'=w:=fun w=>by
   have h:=Z21 kd hkd0 w
   rw [U0d hr] at h
   exact h
  have HR:=Z00 kr
  clear kr H L E
  go_enter func173,ntmps173
  go_wp2_with fail
  go_quiet ((go_at_call 149;exact U0q (HR.out _)))
  go_wp2_with fail
  go_ret
  exact ⟨rfl,HH.out.keep (Z03 ((U01 _ _).alloc (U02 _) _))⟩
 ·rw [U0k hr,U1n]
  have kr:∀ w,Calls prog 149 #[.int .i64 kd] w fun ev w'=>ev = .returned (.bool false)/\w'=w:=fun w=>by
   have h:=Z21 kd hkd0 w
   rw [U0k hr] at h
   exact h
  have HR:=Z00 kr
  have kf:Hid (∀ W,Below w.heap.size w W->Calls prog 135 #[.pointer (some ⟨p,0,none⟩),.int .i64 (f:Int),.agg #[.int .i64 kd,.int .i64 ag,.int .i64 mk,.int .i64 (s:Int)]] W fun ev w' => ∃ ao cap,ev = .returned (.slice ao s cap)/\s<=cap/\(0<s->ao=some ⟨b,f+1,none⟩)/\Below W.heap.size W w'):=fun W hW=>Zb2 p b nW cW f s kd ag mk h ol c u t ot vR vK vI _ (by omega) hn (by rw [<-HS.out];exact hf) HL.out.cap W (HL.out.mem.below (HH.out.keep hW).below (Z02 HL.out.mem.c0))
  have ka:Hid (∀ W ao cap,Below w.heap.size w W->s<=cap->(0<s->ao=some ⟨b,f+1,none⟩)->Calls prog 130 #[.slice (some ⟨bh,0,none⟩) nW nW,.slice ao s cap] W fun ev w'=>ev = .returned (.bool ((Z07 F f).all (Z0b nW (fun i=>decide (i∈vs)))))/\Below W.heap.size W w'):=fun W ao cap hW hc ha=>by
   have hk:=HH.out.keep hW
   have e:=Z5t a bh nW (fun i=>decide (i∈vs)) hn (Z07 F f) (by rw [Z13,HS.out];omega) (Z8z hf HL.out.range) ao cap W (HE.out.below hk.below) hk.marks.heads hk.marks.lt (Z8c hf (HL.out.below hk.below).words (by rw [HS.out];exact hc) (by rw [HS.out];exact ha))
   rw [Z13,HS.out] at e
   exact e
  generalize (Z07 F f).all (Z0b nW (fun i=>decide (i∈vs)))=res at *
  clear kr H L E
  go_enter func173,ntmps173
  go_wp2_with fail
  obtain ⟨w1,hw1⟩:∃ w1,w1=w.alloc (.cells #[.int .i64 kd,.int .i64 ag,.int .i64 mk,.int .i64 (s:Int)] 172):=⟨_,rfl⟩
  rw [<-hw1]
  have hb1:Below w.heap.size w w1:=by rw [hw1];exact (U01 _ _).alloc (U02 _) _
  obtain ⟨r0,r1,r2,r3,_⟩:=Z0e (w:=w1) (b:=w.heap.size) (by rw [hw1];exact U0b w _)
  have l4:w.heap.size<w1.heap.size:=Z02 r0
  have x1:=(hb1.cell (p:=⟨q1,0,none⟩) l1).trans k1
  have x2:=(hb1.cell (p:=⟨q2,0,none⟩) l2).trans k2
  clear hw1 k1 k2
  have HF:Hid (∀ W,Below w1.heap.size w1 W->W.cell? ⟨q1,0,none⟩=some (.slice (some ⟨bh,0,none⟩) nW nW)/\W.cell? ⟨q2,0,none⟩=some (.pointer (some ⟨p,0,none⟩))/\W.cell? ⟨w.heap.size,0,none⟩=some (.int .i64 kd)/\W.cell? ⟨w.heap.size,1,none⟩=some (.int .i64 ag)/\W.cell? ⟨w.heap.size,2,none⟩=some (.int .i64 mk)/\W.cell? ⟨w.heap.size,3,none⟩=some (.int .i64 (s:Int))):=fun W hW=>⟨(hW.cell (p:=⟨q1,0,none⟩) (Z02 x1)).trans x1,(hW.cell (p:=⟨q2,0,none⟩) (Z02 x2)).trans x2,(hW.cell (p:=⟨w.heap.size,0,none⟩) l4).trans r0,(hW.cell (p:=⟨w.heap.size,1,none⟩) l4).trans r1,(hW.cell (p:=⟨w.heap.size,2,none⟩) l4).trans r2,(hW.cell (p:=⟨w.heap.size,3,none⟩) l4).trans r3⟩
  go_region_held3 (fun W=>W.cell? ⟨q1,0,none⟩=some (.slice (some ⟨bh,0,none⟩) nW nW)/\W.cell? ⟨q2,0,none⟩=some (.pointer (some ⟨p,0,none⟩))/\W.cell? ⟨w.heap.size,0,none⟩=some (.int .i64 kd)/\W.cell? ⟨w.heap.size,1,none⟩=some (.int .i64 ag)/\W.cell? ⟨w.heap.size,2,none⟩=some (.int .i64 mk)/\W.cell? ⟨w.heap.size,3,none⟩=some (.int .i64 (s:Int))) (first | go_keep | with_reducible exact HF.out _ hb4 | with_reducible exact HF.out _ hb3) (first
   | (go_at_call 149;refine (HR.out _).mono ?_;rintro ev w' ⟨rfl,hq⟩;rw [hq];clear hq w')
   | (go_at_call 135;refine (kf.out _ (hb1.drew)).mono ?_;rintro ev w2 ⟨ao,cap,rfl,hcap,hao,hb2⟩;have hb3:Below w1.heap.size w1 w2:=((U01 _ _).drew).trans (hb2.mono (by simp)))
   | (go_at_call 130;refine (ka.out _ _ _ (hb1.trans (hb3.mono hb1.size)) hcap hao).mono ?_;rintro ev w4 ⟨rfl,hb5⟩;have hb4:Below w1.heap.size w1 w4:=hb3.trans (hb5.mono hb3.size)))
  all_goals go_wp2_with fail
  all_goals go_ret
  all_goals exact ⟨rfl,HH.out.keep (hb1.trans (hb4.mono hb1.size))⟩
end Go.Proofs.YtlkcbdinlfeoiaaGreatDoor
