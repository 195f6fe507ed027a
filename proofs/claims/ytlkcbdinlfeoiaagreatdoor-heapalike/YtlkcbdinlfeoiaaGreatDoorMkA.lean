/- Package mem: fields of marked cards (Marked), by a contract. -/
import Derived.Test.YtlkcbdinlfeoiaaGreatDoorKnAH
namespace Go.Proofs.YtlkcbdinlfeoiaaGreatDoor
open Go.Proofs.Tryz Go.RowKit
set_option maxHeartbeats 8000000
set_option maxRecDepth 100000
set_option linter.unusedSimpArgs false
theorem Zk7 (a:Nat->Addr) (K:FuncId) (caps:Array Value) (hE:∀ args w,(callFunc K args).run prog w = .ok (.enter K args) w) (F:Nat->Int) (G:Nat->Bool) (Inv:List Nat->World->Prop) (Ok:List Nat->Nat->Prop) (b t cap:Nat) (ht:t<=300000) (hF:∀ i,i<t->0<=F i/\F i<18446744073709551616)
  (hcell:∀ vs w,Inv vs w->WErr a w /\ ∀ i,i<t->w.cell? ⟨b,i,none⟩=some (.int .u64 (F i))) (hkeep:∀ vs w w',Inv vs w->Below w.heap.size w w'->Inv vs w')
  (f0:Nat) (hO:∀ vs f,Ok vs f->f+1+szN (F f)<=t->Ok (vs ++ [f]) (f+1+szN (F f))) (hK:∀ vs f w,Inv vs w->Ok vs f->f0<=f->f<t->Z0t (F f)=true->f+1+szN (F f)<=t->Calls prog K (#[.int .i64 (f:Int),Z1o (F f)]++caps) w fun ev w'=>ev = .returned (.bool (G f))/\Inv (vs ++ [f]) w')
  (vs0:List Nat) (w:World) (h0:Inv vs0 w) (hO0:Ok vs0 f0) :
  Calls prog 243 #[.slice (some ⟨b,0,none⟩) t cap,.int .i64 (f0:Int),.func (.func K) #[] caps] w fun ev w'=>ev = .returned (.bool (Z09 F G (t - f0) f0 t).isSome) /\ ∃ vs,Inv vs w' /\ ∀ l,Z09 F G (t - f0) f0 t=some l->vs=vs0++l:=by
 have HK:=Z00 hK
 have HC:=Z00 hcell
 have HP:=Z00 hkeep
 have HF:=Z00 hF
 have H0:=Z00 h0
 have HO:=Z00 hO
 have HO0:=Z00 hO0
 clear hK hcell hkeep hF h0 hO hO0
 go_enter func243,ntmps243
 go_wp2_with fail
 go_loopg [1] (t+1) (fun gk v1 wr => ∃ (f n:Nat) (vs:List Nat),gk=t+f0+1 - f/\v1 = .int .i64 (f:Int)/\(f=f0\/f<=t)/\Hid (f0<=f)/\Hid (t - f<=n)/\Hid (Inv (vs0++vs) wr)/\Hid (Ok (vs0++vs) f)/\Hid (Z09 F G (t - f0) f0 t=(Z09 F G n f t).map (vs ++ ·)))
 case atStart=>exact ⟨f0,t - f0,[],by omega,rfl,.inl rfl,U02 _,U02 _,by rw [U16];exact H0,by rw [U16];exact HO0,by show _=_;simp⟩
 case round =>
  obtain ⟨f,n,vs,hgk,hv1,hft,hfl,hn,hI,hok,hW⟩:=hrel
  subst hv1
  have HG:=Z00 hgk
  clear hgk
  by_cases hlt:f<t
  ·have hI1:(f:Int)<(t:Int):=by omega
   have hI0:(0:Int)<=(f:Int):=by omega
   obtain ⟨E,hc⟩:=HC.out _ _ hI.out
   obtain ⟨x,hxe⟩:∃ x,x=F f:=⟨_,rfl⟩
   have c0:=hc f hlt
   have hx:=HF.out f hlt
   rw [<-hxe] at c0 hx
   have HX:=Z00 hxe
   clear hc hxe
   cases hh:Z0t x with
   | false =>
    have HN:Hid (Z09 F G (t - f0) f0 t=none):=by show _=_;rw [hW.out,Z37 hn.out hlt (by rw [<-HX.out,hh];rfl)];rfl
    have kt:=Zdm a x hx.1 hx.2 (by unfold Z0t at hh;simpa using hh) wr E
    unfold Z0p at kt
    clear hh
    go_wp2_with fail
    refine kt.mono ?_
    rintro ev w1 ⟨rfl,hb1⟩
    go_wp2_with fail
    refine (Z5b 0 0 0 0 (by omega) (by omega) _).mono ?_
    rintro ev w2 ⟨rfl,hb2⟩
    have hb3:Below wr.heap.size wr w2:=(hb1.alloc hb1.size _).trans (hb2.mono (by have:=hb1.size;simp;omega))
    clear hb1 hb2
    go_wp2_with fail
    go_ret
    exact ⟨by rw [HN.out];rfl,vs0++vs,HP.out _ _ _ hI.out hb3,fun l hl=>by rw [HN.out] at hl;cases hl⟩
   | true =>
    obtain ⟨hd0,hd1,hd2⟩:x % 4=3/\x / 32768 % 2=0/\x / 65536<=4096:=by unfold Z0t at hh;simpa using hh
    have kt:=Z2c x hx.1 hx.2 hd0 hd1 hd2 wr
    obtain ⟨s,hs⟩:∃ s:Nat,(s:Int)=x / 65536:=⟨(x / 65536).toNat,by omega⟩
    have HS:Hid (szN (F f)=s):=by show _=_;rw [<-HX.out];unfold szN;omega
    have HV:Hid (Z1o (F f) = .agg #[.int .i64 (x / 4 % 256),.int .i64 (x / 1024 % 16),.int .i64 (x / 16384 % 2),.int .i64 (s:Int)]):=by show _=_;rw [<-HX.out,hs];rfl
    rw [<-hs] at kt
    have hs1:s<=4096:=by omega
    have HH:Hid (Z0t (F f)=true):=by show _=_;rw [<-HX.out];exact hh
    clear hs hd0 hd1 hd2 hh
    generalize x / 4 % 256=k1 at *
    generalize x / 1024 % 16=k2 at *
    generalize x / 16384 % 2=k3 at *
    go_wp2_with fail
    refine kt.mono ?_
    rintro ev w1 ⟨rfl,hb1⟩
    go_wp2_with fail
    have hb1':Below wr.heap.size wr (w1.alloc (.cells #[.int .i64 k1,.int .i64 k2,.int .i64 k3,.int .i64 (s:Int)] 172)):=hb1.alloc hb1.size _
    refine (Z5b k1 k2 k3 (s:Int) (by omega) (by omega) _).mono ?_
    rintro ev w2 ⟨rfl,hb2⟩
    obtain ⟨r0,r1,r2,r3,_⟩:=Z0e ((hb2.block w1.heap.size (by simp)).trans (U0b w1 _))
    have hb3:Below wr.heap.size wr w2:=hb1'.trans (hb2.mono (by have:=hb1.size;simp;omega))
    clear hb1 hb1' hb2 kt
    by_cases hend:f+1+s<=t
    ·have hend1:¬ (f:Int)+(1+(s:Int)) > (t:Int):=by omega
     have kk:=HK.out (vs0++vs) f w2 (HP.out _ _ _ hI.out hb3) hok.out hfl.out hlt HH.out (by rw [HS.out];exact hend)
     rw [HV.out] at kk
     cases hg:G f with
     | true =>
      rw [hg] at kk
      obtain ⟨n',hn',hw'⟩:=Z74 (G:=G) hn.out hlt (by rw [HH.out,HS.out,U0d hend,hg];rfl)
      rw [HS.out] at hn' hw'
      have HN':=Z00 hn'
      have HW':Hid (Z09 F G (t - f0) f0 t=(Z09 F G n' (f+1+s) t).map ((vs ++ [f]) ++ ·)):=by
       show _=_
       rw [hW.out,hw',Option.map_map]
       congr 1
       funext l
       simp
      clear hg hn' hw'
      go_wp2_with fail
      refine kk.mono ?_
      rintro ev w3 ⟨rfl,hI3⟩
      have HI3:=Z00 hI3
      clear hI3
      go_wp2_with fail
      go_roundg (t+f0+1 - (f+1+s))
      case measure=>have:=HG.out;omega
      case rel=>exact ⟨f+1+s,n',vs ++ [f],rfl,by go_num,.inr hend,U0n hfl.out (by omega),HN'.out,by rw [<-U0y];exact HI3,by rw [<-U0y,<-HS.out];exact HO.out _ _ hok.out (by rw [HS.out];exact hend),HW'⟩
     | false =>
      rw [hg] at kk
      have HN:Hid (Z09 F G (t - f0) f0 t=none):=by show _=_;rw [hW.out,Z37 hn.out hlt (by rw [hg,U20,U20])];rfl
      clear hg
      go_wp2_with fail
      refine kk.mono ?_
      rintro ev w3 ⟨rfl,hI3⟩
      go_wp2_with fail
      go_ret
      exact ⟨by rw [HN.out];rfl,_,hI3,fun l hl=>by rw [HN.out] at hl;cases hl⟩
    ·have hend1:(f:Int)+(1+(s:Int)) > (t:Int):=by omega
     have HN:Hid (Z09 F G (t - f0) f0 t=none):=by show _=_;rw [hW.out,Z37 hn.out hlt (by rw [HS.out,U0k hend,U1s,U20])];rfl
     go_wp2_with fail
     go_ret
     exact ⟨by rw [HN.out];rfl,vs0++vs,HP.out _ _ _ hI.out hb3,fun l hl=>by rw [HN.out] at hl;cases hl⟩
  ·have hI1:¬ (f:Int)<(t:Int):=by omega
   have HN:Hid (Z09 F G (t - f0) f0 t=some vs):=by show _=_;rw [hW.out,Z3b hlt];simp
   go_wp2_with fail
   go_ret
   exact ⟨by rw [HN.out];rfl,vs0++vs,hI.out,fun l hl=>by rw [HN.out] at hl;cases hl;rfl⟩
theorem Zi6 (a:Nat->Addr) (K:FuncId) (caps:Array Value) (hE:∀ args w,(callFunc K args).run prog w = .ok (.enter K args) w) (G:Nat->Bool) (Inv:List Nat->World->Prop) (Ok:List Nat->Nat->Prop) (p b bc nW nC cW cC:Nat) (h ol c u t ot:Int) (vR vK vI:Value) (F:Nat->Int) (C:Nat->Bool) (n0 n1:Nat) (e0:(n0:Int)=2*h) (e1:(n1:Int)=2*h+ot)
  (hL:∀ vs w,Inv vs w->Looked p b bc nW nC cW cC h ol c u t ot vR vK vI F C w/\WErr a w) (hkeep:∀ vs w w',Inv vs w->Below w.heap.size w w'->Inv vs w')
  (hO:∀ vs f,Ok vs f->f+1+szN (F f)<=n1->Ok (vs ++ [f]) (f+1+szN (F f))) (hK:∀ vs f w,Inv vs w->Ok vs f->n0<=f->f<n1->Z0t (F f)=true->f+1+szN (F f)<=n1->Calls prog K (#[.int .i64 (f:Int),Z1o (F f)]++caps) w fun ev w'=>ev = .returned (.bool (G f))/\Inv (vs ++ [f]) w')
  (vs0:List Nat) (w:World) (h0:Inv vs0 w) (hO0:Ok vs0 n0) :
  Calls prog 211 #[.pointer (some ⟨p,0,none⟩),.func (.func K) #[] caps] w fun ev w'=>ev = .returned (.bool (Z09 F G (n1 - n0) n0 n1).isSome) /\ ∃ vs,Inv vs w' /\ ∀ l,Z09 F G (n1 - n0) n0 n1=some l->vs=vs0++l:=by
 obtain ⟨L,E⟩:=hL _ _ h0
 have hnum:=L.fits.nums
 have hw:=L.fits.w
 have t0:=L.fits.t0
 have t1:=L.fits.t1
 have o0:=L.fits.o0
 have o1:=L.fits.o1
 have u0:=L.fits.u0
 have u1:=L.fits.u1
 unfold Z0c at hnum
 have hcap:=L.cap
 have s0:(0:Int)<=(n1:Int):=by omega
 have s1:(n1:Int)<=(cW:Int):=by omega
 have ew:IntKind.i64.wrap ((n0:Int)+ot)=(n1:Int):=by rw [Z18 _ (by omega) (by omega)];omega
 have kn:Hid (∀ W,Below w.heap.size w W->Calls prog 85 #[.pointer (some ⟨p,0,none⟩)] W fun ev w'=>ev = .returned (.int .i64 (n0:Int))/\Below w.heap.size w w'):=fun W hW=>by
  have L1:=(hL _ _ (hkeep _ _ _ h0 hW)).1
  have k:=Z0v p h (by omega) (by omega) W L1.mem.c0
  rw [<-e0] at k
  refine k.mono ?_
  rintro ev w1 ⟨rfl,rfl⟩
  exact ⟨rfl,hW⟩
 have ke:Hid (∀ W,Below w.heap.size w W->Calls prog 243 #[.slice (some ⟨b,0,none⟩) n1 cW,.int .i64 (n0:Int),.func (.func K) #[] caps] W fun ev w'=>ev = .returned (.bool (Z09 F G (n1 - n0) n0 n1).isSome) /\ ∃ vs,Inv vs w' /\ ∀ l,Z09 F G (n1 - n0) n0 n1=some l->vs=vs0++l):=fun W hW=>Zk7 a K caps hE F G Inv Ok b n1 cW (by omega) (fun i hi=>L.range i (by omega)) (fun vs w hv=>⟨(hL vs w hv).2,fun i hi=>(hL vs w hv).1.words i (by omega)⟩) hkeep n0 hO hK vs0 W (hkeep _ _ _ h0 hW) hO0
 have HF:Hid (∀ W,Below w.heap.size w W->W.cell? ⟨p,3,none⟩=some (.slice (some ⟨b,0,none⟩) nW cW)/\W.cell? ⟨p,6,none⟩=some (.int .i64 ot)):=fun W hW=>by
  have L1:=(hL _ _ (hkeep _ _ _ h0 hW)).1
  exact ⟨L1.mem.c3,L1.mem.c6⟩
 have HI:Hid (∀ vs W,Inv vs W->W.cell? ⟨p,3,none⟩=some (.slice (some ⟨b,0,none⟩) nW cW)/\W.cell? ⟨p,6,none⟩=some (.int .i64 ot)):=fun vs W hW=>⟨(hL _ _ hW).1.mem.c3,(hL _ _ hW).1.mem.c6⟩
 have c3:=L.mem.c3
 have cf:=L.mem.c6
 have lp:=Z02 c3
 generalize (Z09 F G (n1 - n0) n0 n1)=res at *
 clear hL hkeep hK h0 hO hO0 L E hnum hw t0 t1 o0 o1 u0 u1 e0 e1 hcap
 go_enter func211,ntmps211
 go_wp2_with fail
 go_region_held3 (fun W=>W.cell? ⟨p,3,none⟩=some (.slice (some ⟨b,0,none⟩) nW cW)/\W.cell? ⟨p,6,none⟩=some (.int .i64 ot)) (first | go_keep | with_reducible exact hSE | with_reducible exact HF.out _ (by assumption)) (first
  | (go_at_call 85;refine (kn.out _ (by first | assumption | exact (U01 _ _).drew)).mono ?_;rintro ev w1 ⟨rfl,hbN⟩)
  | (go_at_call 243;refine (ke.out _ (by first | assumption | exact (U01 _ _).drew)).mono ?_;rintro ev w1 ⟨rfl,vsE,hIE,hlE⟩;have hSE:=HI.out _ _ hIE))
 all_goals go_wp2_with fail
 all_goals go_ret
 all_goals exact ⟨rfl,vsE,hIE,hlE⟩
def mkV (xs:List Nat):List Value:=xs.map fun i:Nat=>Value.int .i64 (i:Int)
theorem Zo4 (xs:List Nat) (i:Nat):mkV (xs ++ [i])=mkV xs ++ [.int .i64 (i:Int)]:=by simp [mkV]
theorem infoI:∃ i0,prog.info? 3=some i0/\i0.zero=some (.int .i64 0)/\i0.size=1/\i0.bytes=8:=U3g (by kernel_rfl)
theorem rowK {w w':World}{B t c n:Nat}{v:Value}{xs:List Value} (h:w.ownsRow B t c v n xs) (hw:∀ g,B<=g->g<w.heap.size->w'.heap[g]?=w.heap[g]?):w'.ownsRow B t c v n xs:=by
 refine ⟨h.1,?_⟩
 rcases h.2 with h | ⟨g,cap,cur,rfl,e2,e3,e4⟩
 ·exact .inl h
 ·exact .inr ⟨g,cap,cur,rfl,e2,(hw g e2 (Z01 e3)).trans e3,e4⟩
theorem Zt3 (w:World) (v:Value) (t:TypeId):∀ (j:Nat) (u:Value),[v][j]?=some u->(w.alloc (.cells #[v] t)).cell? ((⟨w.heap.size,0,none⟩:Addr).add j)=some u:=fun j u hj=>by
 match j with
 | 0=>cases hj;show (w.alloc (.cells #[v] t)).cell? ⟨w.heap.size,0+0,none⟩=_;rw [U06 _ _ _ _ _ _ (U0b w _)];rfl
 | j+1=>simp at hj
theorem Zq6 {w:World}{B t c n:Nat}{v:Value}{xs:List Value} (h:w.ownsRow B t c v n xs):∃ ao cap,v = .slice ao n cap:=by
 rcases h.2 with ⟨rfl,rfl⟩ | ⟨g,cap,cur,rfl,_⟩
 ·exact ⟨_,_,rfl⟩
 ·exact ⟨_,_,rfl⟩
theorem ownGe {w:World}{B t c n k:Nat}{v:Value}{xs:List Value} (h:w.ownsRow B t c v n xs) (e:some k=v.ownBlock):B<=k:=by
 rcases h.2 with ⟨rfl,_⟩ | ⟨g,cap,cur,rfl,e2,_⟩
 ·simp [Value.ownBlock] at e
 ·simp [Value.ownBlock] at e;omega
structure MK (w1:World) (q4:Nat) (xs:List Nat) (w:World):Prop where
 aside:Aside (· = q4) w1 w
 lt:q4<w1.heap.size
 out:∃ ao cap,w.heap[q4]?=some (.cells #[.slice ao xs.length cap] 100)/\w.ownsRow w1.heap.size 3 1 (.slice ao xs.length cap) xs.length (mkV xs)
theorem MK.keep {w1:World}{q4:Nat}{xs:List Nat}{w w':World} (H:MK w1 q4 xs w) (hb:Below w.heap.size w w'):MK w1 q4 xs w':=by
 obtain ⟨ao,cap,h1,h2⟩:=H.out
 exact ⟨H.aside.trans (Aside.of_below hb),H.lt,ao,cap,(hb.block _ (Z01 h1)).trans h1,rowK h2 (fun g _ hg=>hb.block g hg)⟩
structure MW (w0 w1:World) (p q2 q4:Nat):Prop where
 below:Below w0.heap.size w0 w1
 c2:w1.cell? ⟨q2,0,none⟩=some (.pointer (some ⟨p,0,none⟩))
 h4:w0.heap.size<=q4
 ne:q2≠q4
def mkB (C:Nat->Bool) (h c:Int) (i:Nat):List Nat:=if C (Z35 h c i) then [i] else []
theorem Zm8 (w0 w1:World) (p b bc q2 q4 nW nC cW cC i:Nat) (h ol c u t ot:Int) (vR vK vI:Value) (F:Nat->Int) (C:Nat->Bool) (L:Looked p b bc nW nC cW cC h ol c u t ot vR vK vI F C w0) (M:MW w0 w1 p q2 q4) (hlo:2*h<=(i:Int)) (hi:i<nW) (xs:List Nat) (hxs:xs.length<=300000) (w:World) (H:MK w1 q4 xs w) :
  Calls prog 236 #[.int .i64 (i:Int),.pointer (some ⟨q2,0,none⟩),.pointer (some ⟨q4,0,none⟩)] w fun ev w'=>ev = .returned (.bool true)/\MK w1 q4 (xs++mkB C h c i) w':=by
 have hb0:Below w0.heap.size w0 w:=M.below.trans (H.aside.below M.below.size (fun k hk e=>by have:=M.h4;omega))
 have L4:=L.below hb0
 obtain ⟨d,j,hd,hj,hjn,hcn⟩:=L4.card i hlo hi
 have hnum:=L4.fits.nums
 unfold Z0c at hnum
 have hw:=L4.fits.w
 have r2:=L4.cards j hjn
 have y2:=H.aside.cell M.c2 M.ne
 have z10:=L4.mem.c10
 have hj0:(0:Int)<=(j:Int):=by omega
 have hj1:(j:Int)<(nC:Int):=by omega
 have kc:Hid (∀ q,Calls prog 126 #[.pointer (some ⟨p,0,none⟩),.int .i64 (i:Int)] (w.drewN q) fun ev w'=>ev = .returned (.int .i64 (j:Int)) /\ ∃ n,w'=(w.drewN q).drewN n):=fun q=>Z5h p h c i d j (by omega) (by omega) (by omega) (by omega) hd hj (w.drewN q) L4.mem.c0 L4.mem.c2
 unfold mkB
 rw [hcn]
 obtain ⟨ao,cap,hq4,hown⟩:=H.out
 have HH:=Z00 H
 have HO:=Z00 hown
 have hlt4:=H.lt
 clear hd hj hcn L4 L H hw hnum hlo hjn hi hown hb0 M
 cases hcv:C j with
 | false =>
  rw [hcv] at r2
  clear hcv hq4
  go_enter func236,ntmps236
  go_wp2_with fail
  go_quiet ((go_at_call 126;exact U1a (kc.out _)))
  go_wp2_with fail
  go_ret
  exact ⟨rfl,HH.out.keep (Z03 (U01 _ _))⟩
 | true =>
  rw [hcv] at r2
  clear hcv
  have HQ4:=Z00 hq4
  clear hq4
  go_enter func236,ntmps236
  go_wp2_with fail
  go_quiet ((go_at_call 126;exact U1a (kc.out _)))
  obtain ⟨wq,hwq⟩:∃ wq,wq=w.drewN nq:=⟨_,rfl⟩
  rw [<-hwq]
  have b1:Below w.heap.size w wq:=by rw [hwq];exact Z03 (U01 _ _)
  have H1:=HH.out.keep b1
  have g4:wq.heap[q4]?=some (.cells #[.slice ao xs.length cap] 100):=(b1.block _ (Z01 HQ4.out)).trans HQ4.out
  have d4:wq.cell? ⟨q4,0,none⟩=some (.slice ao xs.length cap):=by rw [U06 _ _ _ _ _ _ g4];rfl
  have f4:wq.frozen? ⟨q4,0,none⟩=false:=by simp [World.frozen?,g4]
  have O1:=rowK HO.out (fun g _ hg=>b1.block g hg)
  have hB:w1.heap.size<=wq.heap.size:=H1.aside.size
  have HH1:=Z00 H1
  have HG4:=Z00 g4
  obtain ⟨i0,hi0,hz0,hz1,hz2⟩:=infoI
  clear hwq r2 y2 z10 hj0 hj1 kc H1 g4
  go_wp2_with (at_builtin;refine U4h _ rfl _ _ 100 rfl w1.heap.size 3 i0 (.int .i64 0) 1 8 underlying100 hi0 hz0 hz1 hz2 rfl (by decide) _ _ _ rfl (O1.alloc _) ⟨wq.heap.size,0,none⟩ 1 1 [.int .i64 (i:Int)] rfl rfl (fun j u hj=>Zt3 _ _ _ j u hj) (fun y hy=>by simp at hy;subst hy;rfl) (by unfold maxLen;omega) (by omega) (by simp;omega) ?_)
  intro v' w3 O3 g3 _
  have hgr:∀ k,k<w1.heap.size->w3.heap[k]?=wq.heap[k]?:=fun k h1=>by
   refine (g3.block k (by simp;omega) (fun e => ?_)).trans (Z0u _ _ _ (by omega))
   have:=ownGe O1 e
   omega
  have hs3:wq.heap.size<=w3.heap.size:=U0n (by simp) g3.size
  obtain ⟨ao',cap',rfl⟩:=Zq6 O3
  have e4:w3.heap[q4]?=some (.cells #[.slice ao xs.length cap] 100):=(hgr _ hlt4).trans HG4.out
  have d4':w3.cell? ⟨q4,0,none⟩=some (.slice ao xs.length cap):=by rw [U06 _ _ _ _ _ _ e4];rfl
  have f4':w3.frozen? ⟨q4,0,none⟩=false:=by simp [World.frozen?,e4]
  have a3:Aside (· = q4) w1 w3:=⟨g3.os.trans HH1.out.aside.os,g3.tape.trans HH1.out.aside.tape,g3.output.trans HH1.out.aside.output,U0n hB hs3,fun k hk hx=>(hgr k hk).trans (HH1.out.aside.block k hk hx)⟩
  have HF:Hid (MK w1 q4 (xs ++ [i]) (w3.setCell ⟨q4,0,none⟩ (.slice ao' (xs.length+1) cap'))):=by
   refine ⟨a3.setCell rfl _,hlt4,ao',cap',?_,?_⟩
   ·rw [Z06 e4,U0f];rfl
   ·rw [U0f,Zo4]
    exact rowK O3 (fun g hg _=>U3p _ _ _ _ (fun e=>by have e:g=q4:=e;omega))
  clear d4 f4 O1 O3 g3 hgr e4 a3
  go_wp2_with fail
  go_ret
  exact ⟨rfl,HF.out⟩
def mkL (F:Nat->Int) (C:Nat->Bool) (h c:Int) (f:Nat):List Nat:=if F f / 4 % 256<8 then [] else (List.range (szN (F f))).flatMap fun k=>mkB C h c (f+1+k)
theorem Zly (C:Nat->Bool) (h c:Int) (i:Nat):(mkB C h c i).length<=1:=by unfold mkB;split <;> simp
theorem Zaj (g:Nat->List Nat) (k:Nat):(List.range (k+1)).flatMap g=(List.range k).flatMap g++g k:=by rw [U4y,U44];simp
theorem Z3v (g:Nat->List Nat) (hg:∀ i,(g i).length<=1):∀ k,((List.range k).flatMap g).length<=k
 | 0=>by simp
 | k+1=>by rw [Zaj,U0f];have:=Z3v g hg k;have:=hg k;omega
theorem Zrf (F:Nat->Int) (C:Nat->Bool) (h c:Int) (f:Nat):(mkL F C h c f).length<=szN (F f):=by
 unfold mkL
 split
 ·simp
 ·exact Z3v _ (fun _=>Zly _ _ _ _) _
theorem Zf8 (w0 w1:World) (p b bc q2 q3 q4 nW nC cW cC f:Nat) (h ol c u t ot:Int) (vR vK vI:Value) (F:Nat->Int) (C:Nat->Bool) (L:Looked p b bc nW nC cW cC h ol c u t ot vR vK vI F C w0) (M:MW w0 w1 p q2 q4) (c3:w1.cell? ⟨q3,0,none⟩=some (.func (.func 236) #[] #[.pointer (some ⟨q2,0,none⟩),.pointer (some ⟨q4,0,none⟩)])) (ne3:q3≠q4) (hh:Z0t (F f)=true) (hlo:2*h<=(f:Int)) (hf:f+1+szN (F f)<=nW) (xs:List Nat) (hxs:xs.length<=f) (w:World) (H:MK w1 q4 xs w) :
  Calls prog 213 (#[.int .i64 (f:Int),Z1o (F f)] ++ #[.pointer (some ⟨q3,0,none⟩)]) w fun ev w'=>ev = .returned (.bool true)/\MK w1 q4 (xs++mkL F C h c f) w':=by
 have hnum:=L.fits.nums
 unfold Z0c at hnum
 have hn:nW<=300000:=by have:=L.fits.w;omega
 have hd2:F f / 65536<=4096:=by unfold Z0t at hh;have:=U0j hh;exact this.2.2
 have hx:=L.range f (by omega)
 obtain ⟨s,hs⟩:∃ s:Nat,(s:Int)=F f / 65536:=⟨(F f / 65536).toNat,by omega⟩
 have HS:Hid (szN (F f)=s):=by show _=_;unfold szN;omega
 show Calls prog 213 #[.int .i64 (f:Int),.agg #[.int .i64 (F f / 4 % 256),.int .i64 (F f / 1024 % 16),.int .i64 (F f / 16384 % 2),.int .i64 (F f / 65536)],.pointer (some ⟨q3,0,none⟩)] w _
 rw [<-hs]
 unfold mkL
 rw [HS.out]
 have hs1:s<=4096:=by omega
 have hfs:f+1+s<=nW:=by rw [<-HS.out];exact hf
 clear hs hd2 hx
 generalize F f / 1024 % 16=ag
 generalize F f / 16384 % 2=mk
 generalize hgk:F f / 4 % 256=kd
 have hkd0:0<=kd:=by rw [<-hgk];exact U3o _ (by decide)
 clear hgk
 have HC3:Hid (∀ W,MK w1 q4 xs W\/(∃ ys,MK w1 q4 ys W)->W.cell? ⟨q3,0,none⟩=some (.func (.func 236) #[] #[.pointer (some ⟨q2,0,none⟩),.pointer (some ⟨q4,0,none⟩)])):=fun W hW=>by
  rcases hW with hW | ⟨ys,hW⟩
  ·exact hW.aside.cell c3 ne3
  ·exact hW.aside.cell c3 ne3
 have k3:=HC3.out w (.inl H)
 have l3:=Z02 k3
 have HH:=Z00 H
 have HL:=Z00 L
 have HM:=Z00 M
 clear hf hh H L M c3 ne3
 by_cases hr:kd<8
 ·have HP:Hid ((if kd<8 then ([]:List Nat) else (List.range s).flatMap fun k=>mkB C h c (f+1+k)) = []):=by show _=_;rw [U09 hr]
  rw [HP.out,U16]
  have kr:=Z21 kd hkd0 (w.alloc (.cells #[.int .i64 kd,.int .i64 ag,.int .i64 mk,.int .i64 (s:Int)] 172))
  rw [U0d hr] at kr
  go_enter func213,ntmps213
  go_wp2_with fail
  refine kr.mono ?_
  rintro ev w2 ⟨rfl,hq⟩
  rw [hq]
  clear hq w2
  go_wp2_with fail
  go_ret
  exact ⟨rfl,HH.out.keep ((U01 _ _).alloc (U02 _) _)⟩
 ·have HP:Hid ((if kd<8 then ([]:List Nat) else (List.range s).flatMap fun k=>mkB C h c (f+1+k))=(List.range s).flatMap fun k=>mkB C h c (f+1+k)):=by show _=_;rw [U08 hr]
  rw [HP.out]
  have kr:=Z21 kd hkd0 (w.alloc (.cells #[.int .i64 kd,.int .i64 ag,.int .i64 mk,.int .i64 (s:Int)] 172))
  rw [U0k hr] at kr
  obtain ⟨ys,hys⟩:∃ ys:Nat->List Nat,ys=fun k=>xs++(List.range k).flatMap fun j=>mkB C h c (f+1+j):=⟨_,rfl⟩
  have HY0:Hid (ys 0=xs):=by show _=_;rw [hys];simp
  have HYs:Hid (∀ k,ys (k+1)=ys k++mkB C h c (f+1+k)):=fun k=>by rw [hys];show xs++(List.range (k+1)).flatMap _=_;rw [Zaj,<-U0y]
  have HYl:Hid (∀ k,(ys k).length<=f+k):=fun k=>by
   rw [hys]
   show (xs++(List.range k).flatMap fun j=>mkB C h c (f+1+j)).length<=f+k
   rw [U0f]
   have:=Z3v (fun j=>mkB C h c (f+1+j)) (fun _=>Zly _ _ _ _) k
   omega
  have HYe:Hid (ys s=xs++(List.range s).flatMap fun j=>mkB C h c (f+1+j)):=by show _=_;rw [hys]
  rw [<-HYe.out]
  clear hys
  go_enter func213,ntmps213
  go_wp2_with fail
  refine kr.mono ?_
  rintro ev w2 ⟨rfl,hq⟩
  have hb2:Below w.heap.size w w2:=by rw [hq];exact (U01 _ _).alloc (U02 _) _
  obtain ⟨r0,r1,r2,r3,_⟩:=Z0e (w:=w2) (b:=w.heap.size) (by rw [hq];exact U0b w _)
  have H2:=Z00 (HH.out.keep hb2)
  clear hq kr hb2
  go_wp2_with fail
  clear r0 r1 r2 r3 k3
  go_loopg [12] (s+1) (fun gk v12 wr => ∃ k:Nat,gk=s+1 - k/\k<=s/\v12 = .int .i64 (k:Int)/\Hid (MK w1 q4 (ys k) wr))
  case atStart=>exact ⟨0,rfl,U0x _,rfl,by rw [HY0.out];exact H2⟩
  case round =>
   obtain ⟨k,hgk,hk,hv12,hMK⟩:=hrel
   subst hv12
   have HG:=Z00 hgk
   clear hgk
   have y3:=HC3.out wr (.inr ⟨_,hMK.out⟩)
   by_cases hlt:k<s
   ·have hI:(k:Int)<(s:Int):=by omega
    have hI0:(0:Int)<=(k:Int):=by omega
    have e1:IntKind.i64.wrap ((f:Int)+1)=(f:Int)+1:=Z18 _ (by omega) (by omega)
    have e2:IntKind.i64.wrap ((f:Int)+1+(k:Int))=(((f+1+k:Nat)):Int):=by rw [Z18 _ (by omega) (by omega)];omega
    have ko:=Zm8 w0 w1 p b bc q2 q4 nW nC cW cC (f+1+k) h ol c u t ot vR vK vI F C HL.out HM.out (by omega) (by omega) (ys k) (by have:=HYl.out k;omega) wr hMK.out
    rw [<-HYs.out k] at ko
    go_wp2_with fail
    refine ko.mono ?_
    clear ko
    rintro ev w5 ⟨rfl,hM5⟩
    have HM5:=Z00 hM5
    clear hM5 y3
    go_wp2_with fail
    go_roundg (s+1 - (k+1))
    case measure=>have:=HG.out;omega
    case rel=>exact ⟨k+1,rfl,by omega,by go_num,HM5⟩
   ·have hI:¬ (k:Int)<(s:Int):=by omega
    have hks:k=s:=by omega
    have HR:Hid (MK w1 q4 (ys s) wr):=by rw [<-hks];exact hMK
    clear hks
    go_wp2_with fail
    go_ret
    exact ⟨rfl,HR.out⟩
def Zen (F:Nat->Int) (C:Nat->Bool) (h c:Int) (vs:List Nat):List Nat:=vs.flatMap (mkL F C h c)
theorem Zev (a:Nat->Addr) (w0 w:World) (p b bc q2 q4 nW nC cW cC:Nat) (h ol c u t ot:Int) (vR vK vI:Value) (F:Nat->Int) (C:Nat->Bool) (n0 n1 m0 m1:Nat) (l2:List Nat) (P:Parts h u t ot n0 n1 m0 m1) (L:Looked p b bc nW nC cW cC h ol c u t ot vR vK vI F C w0) (E:WErr a w0) (M:MW w0 w p q2 q4) (h4:w.heap[q4]?=some (.cells #[.slice none 0 0] 100)) (hl:Z09 F (fun _=>true) (m1 - m0) m0 m1=some l2) :
  Calls prog 176 #[.pointer (some ⟨p,0,none⟩),.func (.func 236) #[] #[.pointer (some ⟨q2,0,none⟩),.pointer (some ⟨q4,0,none⟩)]] w fun ev w'=>ev = .returned (.bool true) /\ ∃ w1,Below w.heap.size w w1/\MK w1 q4 (Zen F C h c l2) w':=by
 have hle:=(P.le L.fits).2
 have hm0:=P.m0
 have ke:∀ T,Hid (Calls prog 211 #[.pointer (some ⟨p,0,none⟩),.func (.func 213) #[] #[.pointer (some ⟨w.heap.size,0,none⟩)]] (w.alloc (.cells #[.func (.func 236) #[] #[.pointer (some ⟨q2,0,none⟩),.pointer (some ⟨q4,0,none⟩)]] T)) fun ev w'=>ev = .returned (.bool true) /\ ∃ w1,Below w.heap.size w w1/\MK w1 q4 (Zen F C h c l2) w'):=fun T=>by
  obtain ⟨w1,hw1⟩:∃ w1,w1=w.alloc (.cells #[.func (.func 236) #[] #[.pointer (some ⟨q2,0,none⟩),.pointer (some ⟨q4,0,none⟩)]] T):=⟨_,rfl⟩
  have hb1:Below w.heap.size w w1:=by rw [hw1];exact (U01 _ _).alloc (U02 _) _
  have hq4:=Z01 h4
  have hb0:Below w0.heap.size w0 w1:=M.below.trans (hb1.mono M.below.size)
  have M1:MW w0 w1 p q2 q4:=⟨hb0,(hb1.cell (p:=⟨q2,0,none⟩) (Z02 M.c2)).trans M.c2,M.h4,M.ne⟩
  have c3:w1.cell? ⟨w.heap.size,0,none⟩=some (.func (.func 236) #[] #[.pointer (some ⟨q2,0,none⟩),.pointer (some ⟨q4,0,none⟩)]):=by rw [hw1,U06 _ _ _ _ _ _ (U0b w _)];rfl
  have H0:MK w1 q4 (Zen F C h c []) w1:=⟨Aside.refl _ _,U0r hq4 hb1.size,none,0,(hb1.block _ hq4).trans h4,rfl,.inl ⟨rfl,rfl⟩⟩
  have hbl:∀ xs W,MK w1 q4 xs W->Below w0.heap.size w0 W:=fun xs W H=>hb0.trans (H.aside.below hb0.size (fun k hk e=>by have:=M.h4;omega))
  rw [<-hw1]
  refine (Zi6 a 213 #[.pointer (some ⟨w.heap.size,0,none⟩)] Znl (fun _=>true) (fun vs W=>MK w1 q4 (Zen F C h c vs) W) (fun vs f=>(Zen F C h c vs).length<=f) p b bc nW nC cW cC h ol c u t ot vR vK vI F C m0 m1 P.m0 P.m1 (fun vs W H=>⟨L.below (hbl _ _ H),E.below (hbl _ _ H)⟩) (fun vs W W' H hb=>H.keep hb) (fun vs f hv _ => ?_) (fun vs f W H hv hf _ hh hs => ?_) [] w1 H0 (U0x _)).mono ?_
  ·show (Zen F C h c (vs ++ [f])).length<=_
   unfold Zen at hv ⊢
   rw [U44,U0f]
   have:=Zrf F C h c f
   simp only [U4j,List.flatMap_nil,U16]
   omega
  ·have k:=Zf8 w0 w1 p b bc q2 w.heap.size q4 nW nC cW cC f h ol c u t ot vR vK vI F C L M1 c3 (by omega) hh (by omega) (by omega) _ hv W H
   refine k.mono ?_
   rintro ev w' ⟨rfl,H'⟩
   refine ⟨rfl,?_⟩
   show MK w1 q4 (Zen F C h c (vs ++ [f])) w'
   unfold Zen at H' ⊢
   rw [U44]
   simpa using H'
  ·rintro ev w' ⟨rfl,vs,H',hvs⟩
   have e:=hvs _ hl
   rw [List.nil_append] at e
   rw [e] at H'
   exact ⟨by rw [hl];rfl,w1,hb1,H'⟩
 clear hle hm0 L E M P h4 hl
 go_enter func176,ntmps176
 go_wp2_with fail
 refine ((ke _).out).mono ?_
 rintro ev w1 ⟨rfl,wx,hb,H1⟩
 clear ke
 go_wp2_with fail
 go_ret
 exact ⟨rfl,wx,hb,H1⟩
theorem Zi4 (a:Nat->Addr) (w:World) (p b bc nW nC cW cC:Nat) (h ol c u t ot:Int) (vR vK vI:Value) (F:Nat->Int) (C:Nat->Bool) (n0 n1 m0 m1:Nat) (l2:List Nat) (P:Parts h u t ot n0 n1 m0 m1) (L:Looked p b bc nW nC cW cC h ol c u t ot vR vK vI F C w) (E:WErr a w) (hl:Z09 F (fun _=>true) (m1 - m0) m0 m1=some l2) :
  Calls prog 200 #[.pointer (some ⟨p,0,none⟩)] w fun ev w' => ∃ ao cap,ev = .returned (.slice ao (Zen F C h c l2).length cap)/\w'.ownsRow w.heap.size 3 1 (.slice ao (Zen F C h c l2).length cap) (Zen F C h c l2).length (mkV (Zen F C h c l2))/\Below w.heap.size w w':=by
 have km:∀ W,Below w.heap.size w W->Calls prog 123 #[.pointer (some ⟨p,0,none⟩)] W fun ev w'=>ev = .returned (.bool true)/\Below w.heap.size w w':=fun W hW=>by
  refine (Z3d p h ol c nW nC cW cC _ _ u t ot _ _ _ L.fits W (L.mem.below hW (Z02 L.mem.c0))).mono ?_
  rintro ev w1 ⟨rfl,n,hq⟩
  exact ⟨rfl,by rw [hq];exact Z03 hW⟩
 obtain ⟨ms,hms⟩:∃ ms,ms=Zen F C h c l2:=⟨_,rfl⟩
 rw [<-hms]
 have HMS:=Z00 hms
 clear hms
 go_enter func200,ntmps200
 go_upto_region 2 with fail
 obtain ⟨w1,hw1⟩:∃ w1,w1=(w.alloc (.cells #[.pointer (some ⟨p,0,none⟩)] 44)).alloc (.cells #[.slice none 0 0] 100):=⟨_,rfl⟩
 have hb1:Below w.heap.size w w1:=by rw [hw1];exact ((U01 _ _).alloc (U02 _) _).alloc (by simp) _
 have g4:w1.heap[w.heap.size+1]?=some (.cells #[.slice none 0 0] 100):=by
  have:=U0b (w.alloc (.cells #[.pointer (some ⟨p,0,none⟩)] 44)) (.cells #[.slice none 0 0] 100)
  rw [hw1];simpa using this
 have g2:w1.heap[w.heap.size]?=some (.cells #[.pointer (some ⟨p,0,none⟩)] 44):=by
  rw [hw1,Z0u _ _ _ (by simp)];exact U0b w _
 have c2:w1.cell? ⟨w.heap.size,0,none⟩=some (.pointer (some ⟨p,0,none⟩)):=by rw [U06 _ _ _ _ _ _ g2];rfl
 rw [<-hw1]
 clear hw1
 obtain ⟨q2,hq2⟩:∃ q2,q2=w.heap.size:=⟨_,rfl⟩
 obtain ⟨q4,hq4⟩:∃ q4,q4=w.heap.size+1:=⟨_,rfl⟩
 rw [<-hq4,<-hq2]
 rw [<-hq4] at g4
 rw [<-hq2] at g2 c2
 have h24:q2≠q4:=by omega
 have h40:w.heap.size<=q4:=by omega
 have h20:w.heap.size<=q2:=by omega
 clear hq2 hq4
 have k1:=km w1 hb1
 have HG4:=Z00 g4
 have HG2:=Z00 g2
 have HB1:=Z00 hb1
 have HKM:Hid (∀ W,Below w1.heap.size w1 W->Calls prog 123 #[.pointer (some ⟨p,0,none⟩)] W fun ev w'=>ev = .returned (.bool true)/\Below w1.heap.size w1 w'):=fun W hW=>by
  have hbW:Below w.heap.size w W:=hb1.trans (hW.mono hb1.size)
  refine (Z3d p h ol c nW nC cW cC _ _ u t ot _ _ _ L.fits W (L.mem.below hbW (Z02 L.mem.c0))).mono ?_
  rintro ev w1 ⟨rfl,n,hq⟩
  exact ⟨rfl,by rw [hq];exact Z03 hW⟩
 have ke:Hid (∀ W,Below w1.heap.size w1 W->Calls prog 176 #[.pointer (some ⟨p,0,none⟩),.func (.func 236) #[] #[.pointer (some ⟨q2,0,none⟩),.pointer (some ⟨q4,0,none⟩)]] W fun ev w'=>ev = .returned (.bool true) /\ ∃ w1,Below W.heap.size W w1/\MK w1 q4 ms w'):=fun W hW=>by
  have hbW:Below w.heap.size w W:=hb1.trans (hW.mono hb1.size)
  rw [HMS.out]
  exact Zev a w W p b bc q2 q4 nW nC cW cC h ol c u t ot vR vK vI F C n0 n1 m0 m1 l2 P L E ⟨hbW,(hW.cell (p:=⟨q2,0,none⟩) (Z02 c2)).trans c2,h40,h24⟩ ((hW.block _ (Z01 g4)).trans g4) hl
 have k1:=HKM.out w1 (U01 _ _)
 clear km L E P hl hb1 g4 g2
 go_wp2_with fail
 refine k1.mono ?_
 clear k1
 rintro ev w2 ⟨rfl,hb2⟩
 have c22:w2.cell? ⟨q2,0,none⟩=some (.pointer (some ⟨p,0,none⟩)):=(hb2.cell (p:=⟨q2,0,none⟩) (Z02 c2)).trans c2
 have k2:=ke.out w2 hb2
 have HB2:=Z00 hb2
 clear hb2 c2 ke HKM
 go_wp2_with fail
 refine k2.mono ?_
 clear k2
 rintro ev w3 ⟨rfl,wx,hbx,hM⟩
 obtain ⟨ao,cap,e4,o4⟩:=hM.out
 have d4:w3.cell? ⟨q4,0,none⟩=some (.slice ao ms.length cap):=by rw [U06 _ _ _ _ _ _ e4];rfl
 have hb12:Below w.heap.size w w2:=HB1.out.trans (HB2.out.mono HB1.out.size)
 have hbwx:Below w.heap.size w wx:=hb12.trans (hbx.mono hb12.size)
 have HB3:Hid (Below w.heap.size w w3):=hbwx.trans (hM.aside.below hbwx.size (fun k hk e=>by have e:k=q4:=e;omega))
 have HO:Hid (w3.ownsRow w.heap.size 3 1 (.slice ao ms.length cap) ms.length (mkV ms)):=by
  refine ⟨o4.1,?_⟩
  rcases o4.2 with h | ⟨g,cap,cur,e1,e2,e3⟩
  ·exact .inl h
  ·exact .inr ⟨g,cap,cur,e1,U0n hbwx.size e2,e3⟩
 clear hM e4 o4 hb12 hbwx hbx c22
 go_wp2_with fail
 go_ret
 exact ⟨ao,cap,rfl,HO.out,HB3.out⟩
end Go.Proofs.YtlkcbdinlfeoiaaGreatDoor
