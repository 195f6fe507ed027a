/- The law HeapAlike: two heaps with one model; acts on both. -/
import Derived.Test.YtlkcbdinlfeoiaaGreatDoorKwJ
namespace Go.Proofs.YtlkcbdinlfeoiaaGreatDoor
open Go.Proofs.Tryz Go.RowKit
set_option maxHeartbeats 8000000
set_option maxRecDepth 100000
section
open Go.Maps
variable {h h':HP}{sr:Int}{m:MD}{w w':World}{a:Nat->Addr}{w0 v0:World}{M M':MO}{X X':MXtra}
theorem HS.rebase (s:HS a w0 h sr m M X w) (hb:Below v0.heap.size v0 w0) (E:HEnv a v0):HS a v0 h sr m M X w:=
 ⟨s.at',s.hm,E,hb.trans (s.base.mono hb.size),fun k hk=>U0n hb.size (s.own k hk),s.t0,s.t1,s.kl,s.rl⟩
theorem HS.other {g:HP}{sg:Int}{mg:MD}{Mg:MO}{Xg:MXtra} (s:HS a w0 h sr m M X w) (t:HS a w0 g sg mg Mg Xg w) (hd:∀ k,h.own k -> ¬ g.own k) (N:Nxt h h' w w'):HS a w0 g sg mg Mg Xg w' /\ ∀ k,h'.own k -> ¬ g.own k:=
 ⟨⟨t.at'.aside N.aside (fun k hk hx=>hd k hx hk),t.hm,t.env,s.ab N.aside,t.own,t.t0,t.t1,t.kl,t.rl⟩,fun k hk hg=>by
  rcases N.own k hk with h1 | h1
  ·exact hd k h1 hg
  ·have:=t.at'.lt hg
   omega⟩
def Z8j (a:Nat->Addr) (w0:World) (qa qb:Nat) (i:Nat) (w:World):Prop:=∃ h1 s1 m1 h2 s2 m2 M X,HS a w0 h1 s1 m1 M X w/\HS a w0 h2 s2 m2 M X w/\(∀ k,h1.own k -> ¬ h2.own k)/\h1.q=qa/\h2.q=qb/\m2.old=60000/\Ztt M/\M.total<=301*i/\X.next<=(i:Int)/\X.K.length<=i
variable {qa qb i:Nat}
theorem Z8j.base (T:Z8j a w0 qa qb i w):Below w0.heap.size w0 w:=by obtain ⟨_,_,_,_,_,_,_,_,s,_⟩:=T;exact s.base
theorem Z8j.below (T:Z8j a w0 qa qb i w) (hb:Below w.heap.size w w'):Z8j a w0 qa qb i w':=by
 obtain ⟨h1,s1,m1,h2,s2,m2,M,X,A,B,r⟩:=T
 exact ⟨h1,s1,m1,h2,s2,m2,M,X,A.below hb,B.below hb,r⟩
theorem Zo1 (T:Z8j a w0 qa qb i w) (hi:i<=120) (x:ActD) (hl:x.nm.toList ≠ [108,111,111,107]) (hb:x.nm.toList = [109,97,107,101] -> ¬ (300<x.c/\x.c<=4096)) :
  Calls prog 15 #[.pointer (some ⟨qa,0,none⟩),Z60 x.nm x.a x.b x.c x.n x.s] w fun ev w' => ∃ n v,ev = .returned (.tuple #[.int .i64 n,.bool false,v])/\Below w0.heap.size w0 w' /\
   (v=Z0p a 5\/(∃ e,e<7/\e≠5/\v=Z0p a e /\ ∀ W,Below w'.heap.size w' W->Calls prog 15 #[.pointer (some ⟨qb,0,none⟩),Z60 x.nm x.a x.b x.c x.n x.s] W fun ev w2=>ev = .returned (.tuple #[.int .i64 n,.bool false,Z0p a e])/\Z8j a w0 qa qb (i+1) w2) \/
    (v = .nilIface /\ ∀ W,Below w'.heap.size w' W->Calls prog 15 #[.pointer (some ⟨qb,0,none⟩),Z60 x.nm x.a x.b x.c x.n x.s] W fun ev w2=>ev = .returned (.tuple #[.int .i64 n,.bool false,.nilIface])/\Z8j a w0 qa qb (i+1) w2)):=by
 obtain ⟨h1,s1,m1,h2,s2,m2,M,X,A,B,hd,rfl,rfl,ho,hM,ht,hn,hk⟩:=T
 obtain ⟨g1,g2,g3⟩:=Ziw M X x.nm.toList x.a x.b x.c x.n x.s
 obtain ⟨f1,f2,f3,f4⟩:=Zj7 M X x.nm.toList x.a x.b x.c x.n x.s hb
 refine (Zmb A (by omega) (by omega) hl).mono fun ev w' ⟨n,v,ev',p⟩=>⟨n,v,ev',?_⟩
 -- the other heap's act
 have kb:∀ h1' s1' m1' M1 X1 W,HS a w0 h1' s1' m1' M1 X1 W->HS a w0 h2 s2 m2 M X W->(∀ k,h1'.own k -> ¬ h2.own k)->h1'.q=h1.q->Calls prog 15 #[.pointer (some ⟨h2.q,0,none⟩),Z60 x.nm x.a x.b x.c x.n x.s] W fun ev w2 => ∃ n v,ev = .returned (.tuple #[.int .i64 n,.bool false,v]) /\
   (((Zjo M X x.nm.toList x.a x.b x.c x.n x.s).e≠0/\n=0/\v=Z0p a (Zjo M X x.nm.toList x.a x.b x.c x.n x.s).e/\((M1=M/\X1=X)->Z8j a w0 h1.q h2.q (i+1) w2))\/((Zjo M X x.nm.toList x.a x.b x.c x.n x.s).e=0/\n=(Zjo M X x.nm.toList x.a x.b x.c x.n x.s).num/\v = .nilIface/\((M1=(Zjo M X x.nm.toList x.a x.b x.c x.n x.s).M/\X1=(Zjo M X x.nm.toList x.a x.b x.c x.n x.s).X)->Z8j a w0 h1.q h2.q (i+1) w2))):=by
  intro h1' s1' m1' M1 X1 W A' B' hd' hq'
  refine (Zmb B' (by omega) (by omega) hl).mono fun ev w2 ⟨n,v,ev',p⟩=>⟨n,v,ev',?_⟩
  have hfew:=B'.hm.few
  rcases p with ⟨he,hx,hv,h2',s2',m2',N,D,B2⟩ | ⟨he,hx,hv,t,hf⟩ | ⟨he,hx,hv,h2',s2',m2',N,D,B2⟩
  ·refine .inl ⟨he,hx,hv,?_⟩
   rintro ⟨rfl,rfl⟩
   obtain ⟨A2,hd2⟩:=B'.other A' (fun k hk hk'=>hd' k hk' hk) N
   exact ⟨h1',s1',m1',h2',s2',m2',_,_,A2,B2,fun k hk hk'=>hd2 k hk' hk,hq',N.q,D.old.trans ho,hM,by omega,by omega,by omega⟩
  ·omega
  ·refine .inr ⟨he,hx,hv,?_⟩
   rintro ⟨rfl,rfl⟩
   obtain ⟨A2,hd2⟩:=B'.other A' (fun k hk hk'=>hd' k hk' hk) N
   exact ⟨h1',s1',m1',h2',s2',m2',_,_,A2,B2,fun k hk hk'=>hd2 k hk' hk,hq',N.q,D.old.trans ho,f3 hM,by omega,by omega,by omega⟩
 rcases p with ⟨he,hx,hv,h1',s1',m1',N,D,A1⟩ | ⟨he,hx,hv,t,hf⟩ | ⟨he,hx,hv,h1',s1',m1',N,D,A1⟩
 ·obtain ⟨B1,hd1⟩:=A.other B hd N
  refine ⟨A1.base,.inr (.inl ⟨_,by omega,by omega,hv,fun W hW=>(kb h1' s1' m1' M X W (A1.below hW) (B1.below hW) hd1 N.q).mono fun ev w2 ⟨n2,v2,e2,q⟩ => ?_⟩)⟩
  rcases q with ⟨_,hx2,hv2,T⟩ | ⟨he2,_⟩
  ·rw [e2,hx,hx2,hv2]
   exact ⟨rfl,T ⟨rfl,rfl⟩⟩
  ·exact absurd he2 he
 ·obtain ⟨_,_,_,_,_,A1⟩:=t
  exact ⟨A1.base,.inl hv⟩
 ·obtain ⟨B1,hd1⟩:=A.other B hd N
  refine ⟨A1.base,.inr (.inr ⟨hv,fun W hW=>(kb h1' s1' m1' _ _ W (A1.below hW) (B1.below hW) hd1 N.q).mono fun ev w2 ⟨n2,v2,e2,q⟩ => ?_⟩)⟩
  rcases q with ⟨he2,_⟩ | ⟨_,hx2,hv2,T⟩
  ·exact absurd he he2
  ·rw [e2,hx,hx2,hv2]
   exact ⟨rfl,T ⟨rfl,rfl⟩⟩
theorem Zdi (T:Z8j a w0 qa qb i w) {K:FuncId} (hK:∀ h sr m M X,HS a w0 h sr m M X w->Calls prog K #[.pointer (some ⟨h.q,0,none⟩)] w fun ev w'=>(ev = .returned (Z0p a 5)/\Below w.heap.size w w'/\m.old<(M.words:Int))\/(ev = .returned .nilIface/\Stp a w0 h m M X w w')) :
  Calls prog K #[.pointer (some ⟨qa,0,none⟩)] w fun ev w'=>(ev = .returned (Z0p a 5)/\Below w0.heap.size w0 w')\/(ev = .returned .nilIface/\Z8j a w0 qa qb i w'):=by
 obtain ⟨h1,s1,m1,h2,s2,m2,M,X,A,B,hd,rfl,rfl,r⟩:=T
 refine (hK h1 s1 m1 M X A).mono fun ev w' p => ?_
 rcases p with ⟨e,hb,_⟩ | ⟨e,h1',s1',m1',N,D,A1⟩
 ·exact .inl ⟨e,A.base.trans (hb.mono A.base.size)⟩
 ·obtain ⟨B1,hd1⟩:=A.other B hd N
  exact .inr ⟨e,h1',s1',m1',h2,s2,m2,M,X,A1,B1,hd1,N.q,rfl,r⟩
theorem Zsj (T:Z8j a w0 qa qb i w):Calls prog 26 #[.pointer (some ⟨qa,0,none⟩)] w fun ev w'=>(ev = .returned (Z0p a 5)/\Below w0.heap.size w0 w')\/(ev = .returned .nilIface/\Z8j a w0 qa qb i w'):=
 Zdi T fun _ _ _ _ _ s=>Zaa s
theorem Zsl (T:Z8j a w0 qa qb i w):Calls prog 27 #[.pointer (some ⟨qa,0,none⟩)] w fun ev w'=>(ev = .returned (Z0p a 5)/\Below w0.heap.size w0 w')\/(ev = .returned .nilIface/\Z8j a w0 qa qb i w'):=
 Zdi T fun _ _ _ _ _ s=>(Zan s).mono fun _ _ p=>p.imp id fun q=>⟨q.1,q.2.stp⟩
theorem Zte (T:Z8j a w0 qa qb i w):∃ t:ByteArray,(∀ W,Below w.heap.size w W->Calls prog 22 #[.pointer (some ⟨qa,0,none⟩)] W fun ev w'=>ev = .returned (.string t)/\Below W.heap.size W w') /\ ∀ W,Below w.heap.size w W->Calls prog 22 #[.pointer (some ⟨qb,0,none⟩)] W fun ev w'=>ev = .returned (.string t)/\Below W.heap.size W w':=by
 obtain ⟨h1,s1,m1,h2,s2,m2,M,X,A,B,hd,rfl,rfl,ho,hM,_⟩:=T
 exact ⟨_,fun W hW=>Ze6 (A.below hW) hM,fun W hW=>Ze6 (B.below hW) hM⟩
theorem Zle (w:World) (E:Errs a w):Calls prog 16 #[Z0p a 5,.int .i64 6] w fun ev w'=>ev = .returned (.bool true)/\Below w.heap.size w w':=by
 have h:=Ze3 a 5 (by decide) w E
 go_enter func16,ntmps16
 unfold Z0p
 go_wp2_with fail
 refine h.mono ?_
 rintro ev w1 ⟨rfl,hb⟩
 go_wp2
 go_ret
 exact ⟨rfl,hb⟩
theorem Zq4 {e:Nat} (he:e<7) (h5:e≠5) (w:World) (E:Errs a w):Calls prog 16 #[Z0p a e,.int .i64 6] w fun ev w'=>ev = .returned (.bool false)/\Below w.heap.size w w':=by
 have h:=Ze3 a e he w E
 have c1:(((e:Nat):Int)+1 == 6)=false:=by rw [U0w];omega
 have c2:¬ ((e:Nat):Int)+1=6:=by omega
 clear he h5 E
 go_enter func16,ntmps16
 unfold Z0p
 go_wp2_with fail
 refine h.mono ?_
 rintro ev w1 ⟨rfl,hb⟩
 go_wp2
 go_ret
 exact ⟨rfl,hb⟩
theorem Zsr (w:World):Calls prog 16 #[.nilIface,.int .i64 6] w fun ev w'=>ev = .returned (.bool false)/\Below w.heap.size w w':=by
 have h:=Zpj w
 go_enter func16,ntmps16
 go_wp2_with fail
 refine h.mono ?_
 rintro ev w1 ⟨rfl,hq⟩
 rw [hq]
 clear hq w1
 go_wp2
 go_ret
 exact ⟨rfl,U01 _ _⟩
end
section
open Go.Maps
def holdG:MO:=((MO.new 2).set 0 (clI 7)).made 1 (mkN 8 1)
theorem Zu8:holdG.text Tx=⟨#[114,111,111,116,32,55,10,114,111,111,116,32,64,48,10,48,32,56,32,110,111,110,101,10]⟩:=by kernel_rfl
theorem Zuf:Ztt holdG:=fun d hd=>by
 have hd:d ∈ [mkN 8 1]:=hd
 rw [U2p.1 hd]
 exact fun h=>absurd h (by decide)
theorem Zu7 (a:Nat->Addr) (w:World) (E:HEnv a w):Calls prog 9 #[] w fun ev w'=>ev = .returned (.bool true)/\Below w.heap.size w w':=by
 have kn:=Zfr a 8 16 4 1 2 w E ⟨⟨by decide,by decide,by decide,by decide,by decide,by decide⟩,by decide,by decide,by decide,by decide⟩
 have e2:((2:Nat):Int)=2:=rfl
 rw [e2] at kn
 go_enter func9,ntmps9
 go_wp2_with fail
 refine kn.mono ?_
 clear kn
 rintro ev w1 ⟨h,m,rfl,s,_,ho,_⟩
 obtain ⟨q,hq⟩:∃ q,q=h.q:=⟨_,rfl⟩
 have k1:=Zrd s 0 7 (by rw [s.hm.roots];decide) (by decide) (by decide)
 rw [<-hq] at k1 ⊢
 have HQ:=Z00 hq
 have HO:=Z00 ho
 clear s hq ho
 go_wp2_with fail
 refine k1.mono ?_
 clear k1
 rintro ev w2 ⟨rfl,h2,sr2,m2,N2,D2,s2⟩
 have k2:=Zlu s2 1 1 8 (by rw [s2.hm.roots];decide) (by decide) (by decide) (by decide)
 rw [N2.q,<-HQ.out] at k2
 have hw:=s2.hm.few
 have ht:(((MO.new 2).set 0 (clI 7)).total)=0:=by decide
 have ho2:m2.old=16:=D2.old.trans HO.out
 have HN2:Hid (h2.q=q):=N2.q.trans HQ.out.symm
 clear s2 N2 D2
 go_wp2_with fail
 refine k2.mono ?_
 clear k2
 rintro ev w3 (⟨rfl,h3,sr3,m3,N3,D3,s3⟩ | ⟨rfl,_,hf⟩)
 rotate_left
 ·omega
 have k3:=Ze6 s3 Zuf
 rw [show ((((MO.new 2).set 0 (clI 7)).made 1 (mkN 8 1)).text Tx)=_ from Zu8,N3.q,HN2.out] at k3
 have HB3:=Z00 s3.base
 clear s3 N3 D3 hw ht ho2
 go_wp2_with fail
 refine k3.mono ?_
 clear k3
 rintro ev w4 ⟨rfl,b4⟩
 go_wp2_with fail
 go_ret
 exact ⟨rfl,HB3.out.trans (b4.mono HB3.out.size)⟩
end
section
open Go.Maps
variable {a:Nat->Addr}{w0 w w':World}{qa qb i:Nat}
theorem Z8j.more (T:Z8j a w0 qa qb i w):Z8j a w0 qa qb (i+1) w:=by
 obtain ⟨h1,s1,m1,h2,s2,m2,M,X,A,B,hd,q1,q2,ho,hM,ht,hn,hk⟩:=T
 exact ⟨h1,s1,m1,h2,s2,m2,M,X,A,B,hd,q1,q2,ho,hM,by omega,by omega,by omega⟩
theorem Zog {h1 h2:HP}{s1 s2:Int}{m1 m2:MD}{w3 w4:World} (A:HS a w0 h1 s1 m1 (MO.new 5) MXtra.new w3) (B:HS a w3 h2 s2 m2 (MO.new 5) MXtra.new w4) (ho:m2.old=60000):Z8j a w0 h1.q h2.q 0 w4:=
 ⟨h1,s1,m1,h2,s2,m2,_,_,A.below B.base,B.rebase A.base A.env,fun k hk hk'=>by have:=A.at'.lt hk;have:=B.own k hk';omega,rfl,rfl,ho,(show Ztt (MO.new 5) from fun d hd=>by cases hd),U02 _,Int.le_refl _,U02 _⟩
theorem Zuh (z:Int) : -2<Int.tmod z 2/\Int.tmod z 2<2:=by
 have a:=Int.tmod_lt_of_pos z (b:=2) (by omega)
 have b:=Int.tmod_lt_of_pos (-z) (b:=2) (by omega)
 rw [Int.neg_tmod] at b
 omega
theorem Zuc (z:Int) : -3<Int.tmod z 3/\Int.tmod z 3<3:=by
 have a:=Int.tmod_lt_of_pos z (b:=3) (by omega)
 have b:=Int.tmod_lt_of_pos (-z) (b:=3) (by omega)
 rw [Int.neg_tmod] at b
 omega
theorem heapAlike_skip (xa:Option Addr) (cap:Nat) (l:List ActD) (half old card tn force:Int) (w:World) (kh:Calls prog 9 #[] w fun ev w'=>ev = .returned (.bool true)/\Below w.heap.size w w')
  (kb:∀ W,Below w.heap.size w W->Calls prog 10 #[.slice xa l.length cap] W fun ev w'=>(ev = .returned (.bool true)/\Zn6 l/\w'=W)\/(ev = .returned (.bool false)/\w'=W))
  (hc:2000<half\/(¬ 2000<half/\2000<old)) :
  Calls prog 4 #[.int .i64 half,.int .i64 old,.int .i64 card,.int .i64 tn,.slice xa l.length cap,.int .i64 force] w fun ev w'=>ev = .returned (.bool true)/\Below w.heap.size w w':=by
 rcases hc with c1 | ⟨c1,c2⟩
 all_goals (
  go_enter func4,ntmps4
  go_wp2_with fail
  refine kh.mono ?_
  clear kh
  rintro ev w1 ⟨rfl,b1⟩
  have k1:=kb w1 b1
  have HB:=Z00 b1
  clear b1 kb
  go_wp2_with fail
  refine k1.mono ?_
  clear k1
  rintro ev w2 (⟨rfl,_,rfl⟩ | ⟨rfl,rfl⟩)
  all_goals (
   go_wp2_with fail
   go_ret
   exact ⟨rfl,HB.out⟩))
theorem heapAlike_bad (a:Nat->Addr) (xa:Option Addr) (cap:Nat) (l:List ActD) (half old card tn force:Int) (w:World) (E:HEnv a w) (kh:Calls prog 9 #[] w fun ev w'=>ev = .returned (.bool true)/\Below w.heap.size w w')
  (kb:∀ W,Below w.heap.size w W->Calls prog 10 #[.slice xa l.length cap] W fun ev w'=>(ev = .returned (.bool true)/\Zn6 l/\w'=W)\/(ev = .returned (.bool false)/\w'=W))
  (c1:¬ 2000<half) (c2:¬ 2000<old) (H:¬ Zdf half old card tn 5) :
  Calls prog 4 #[.int .i64 half,.int .i64 old,.int .i64 card,.int .i64 tn,.slice xa l.length cap,.int .i64 force] w fun ev w'=>ev = .returned (.bool true)/\Below w.heap.size w w':=by
 have HE:=Z00 E
 have HH:=Z00 H
 clear E H
 go_enter func4,ntmps4
 go_wp2_with fail
 refine kh.mono ?_
 clear kh
 rintro ev w1 ⟨rfl,b1⟩
 have k1:=kb w1 b1
 have HB:=Z00 b1
 clear b1 kb
 go_wp2_with fail
 refine k1.mono ?_
 clear k1
 rintro ev w2 (⟨rfl,_,rfl⟩ | ⟨rfl,rfl⟩)
 rotate_left
 ·go_wp2_with fail
  go_ret
  exact ⟨rfl,HB.out⟩
 have kn:=Zr2 a half old card tn 5 HH.out w2 (HE.out.below HB.out).we
 unfold Z0p at kn
 go_wp2_with fail
 refine kn.mono ?_
 clear kn
 rintro ev w3 ⟨rfl,b3⟩
 have HB3:Hid (Below w.heap.size w w3):=HB.out.trans (b3.mono HB.out.size)
 have kn:=Zfr a 4000 60000 16 2 5 w3 (HE.out.below HB3.out) ⟨⟨by decide,by decide,by decide,by decide,by decide,by decide⟩,by decide,by decide,by decide,by decide⟩
 have e5:((5:Nat):Int)=5:=rfl
 rw [e5] at kn
 clear b3 HE HH
 go_wp2_with fail
 refine kn.mono ?_
 clear kn
 rintro ev w4 ⟨h,m,rfl,s,_⟩
 have HB4:Hid (Below w.heap.size w w4):=HB3.out.trans (s.base.mono HB3.out.size)
 clear s
 go_wp2_with fail
 go_ret
 exact ⟨rfl,HB4.out⟩
theorem heapAlike_good (a:Nat->Addr) (xa:Option Addr) (xb xo cap:Nat) (l:List ActD) (half old card tn force:Int) (w:World) (E:HEnv a w) (EE:Errs a w) (kh:Calls prog 9 #[] w fun ev w'=>ev = .returned (.bool true)/\Below w.heap.size w w')
  (kb:∀ W,Below w.heap.size w W->Calls prog 10 #[.slice xa l.length cap] W fun ev w'=>(ev = .returned (.bool true)/\Zn6 l/\w'=W)\/(ev = .returned (.bool false)/\w'=W))
  (hxa:0<l.length->xa=some ⟨xb,xo,none⟩) (hin:Zcx w xb xo l)
  (c1:¬ 2000<half) (c2:¬ 2000<old) (H:Zdf half old card tn 5) :
  Calls prog 4 #[.int .i64 half,.int .i64 old,.int .i64 card,.int .i64 tn,.slice xa l.length cap,.int .i64 force] w fun ev w'=>ev = .returned (.bool true)/\Below w.heap.size w w':=by
 obtain ⟨r2,hr2⟩:∃ r,Int.tmod force 2=r:=⟨_,rfl⟩
 obtain ⟨r3,hr3⟩:∃ r,Int.tmod force 3=r:=⟨_,rfl⟩
 obtain ⟨t1,t2⟩:=Zuh force
 obtain ⟨t3,t4⟩:=Zuc force
 rw [hr2] at t1 t2
 rw [hr3] at t3 t4
 have hr2':IntKind.i64.wrap (Int.tmod force 2)=r2:=by rw [hr2,U1d];omega
 have hr3':IntKind.i64.wrap (Int.tmod force 3)=r3:=by rw [hr3,U1d];omega
 clear t1 t2 t3 t4
 have HE:=Z00 E
 have HEE:=Z00 EE
 have HH:=Z00 H
 have HIN:=Z00 hin
 have HXA:=Z00 hxa
 clear E EE H hin hxa
 go_enter func4,ntmps4
 go_wp2_with fail
 refine kh.mono ?_
 clear kh
 rintro ev w1 ⟨rfl,b1⟩
 have k1:=kb w1 b1
 have HB:=Z00 b1
 clear b1 kb
 go_wp2_with fail
 refine k1.mono ?_
 clear k1
 rintro ev w2 (⟨rfl,hBP,rfl⟩ | ⟨rfl,rfl⟩)
 rotate_left
 ·go_wp2_with fail
  go_ret
  exact ⟨rfl,HB.out⟩
 have HBP:=Z00 hBP
 clear hBP
 have e5:((5:Nat):Int)=5:=rfl
 have kn:=Zfr a half old card tn 5 w2 (HE.out.below HB.out) (by rw [e5];exact HH.out)
 rw [e5] at kn
 clear HH
 go_wp2_with fail
 refine kn.mono ?_
 clear kn
 rintro ev w3 ⟨h1,m1,rfl,A,_⟩
 have kn:=Zfr a 4000 60000 16 2 5 w3 A.benv ⟨⟨by decide,by decide,by decide,by decide,by decide,by decide⟩,by decide,by decide,by decide,by decide⟩
 rw [e5] at kn
 have HAA:=Z00 A
 obtain ⟨qa,hqa⟩:∃ q,q=h1.q:=⟨_,rfl⟩
 have HQA:=Z00 hqa
 rw [<-hqa]
 clear A hqa
 go_wp2_with fail
 refine kn.mono ?_
 clear kn
 rintro ev w4 ⟨h2,m2,rfl,B,_,ho,_⟩
 obtain ⟨qb,hqb⟩:∃ q,q=h2.q:=⟨_,rfl⟩
 have HT:Hid (Z8j a w2 qa qb 0 w4):=by rw [hqb,HQA.out];exact Zog HAA.out B ho
 rw [<-hqb]
 clear B ho hqb HAA HQA HE e5
 go_wp2_with fail
 go_loopg [18] (l.length+1) (fun gk v18 wr => ∃ k:Nat,gk=l.length+1 - k/\k<=l.length/\v18 = .int .i64 (k:Int)/\Hid (Z8j a w2 qa qb k wr))
 case atStart=>exact ⟨0,rfl,U0x _,rfl,HT⟩
 case round =>
  obtain ⟨k,hgk,hk,rfl,HTr⟩:=hrel
  have HG:=Z00 hgk
  clear hgk HT
  have hl120:=HBP.out.1
  by_cases hlt:k<l.length
  ·obtain ⟨x,hx⟩:∃ x,l[k]?=some x:=⟨_,U03 hlt⟩
   have HWr:Hid (Below w.heap.size w wr):=HB.out.trans (HTr.out.base.mono HB.out.size)
   obtain ⟨d0,d1,d2,d3,d4,d5⟩:=(HIN.out.below HWr.out) k x hx
   have hX:=HXA.out (by omega)
   subst hX
   have hmk:=HBP.out.2 x (U0a hx)
   have HX:=Z00 hx
   clear hx
   have hI:(k:Int)<(l.length:Int):=by omega
   have hI0:(0:Int)<=(k:Int):=by omega
   by_cases n1:x.nm.toList = [108,111,111,107]
   ·have e1:(x.nm.toList == [108,111,111,107])=true:=by rw [n1];rfl
    have HT2:=Z00 HTr.out.more
    clear hmk
    go_wp2_with fail
    go_roundg (l.length+1 - (k+1))
    case measure=>have:=HG.out;omega
    case rel=>exact ⟨k+1,rfl,by omega,by go_num,HT2⟩
   have e1:(x.nm.toList == [108,111,111,107])=false:=by rw [U0w];exact n1
   by_cases n2:x.nm.toList = [119,101,97,107]
   ·have e2:(x.nm.toList == [119,101,97,107])=true:=by rw [n2];rfl
    have HT2:=Z00 HTr.out.more
    clear hmk
    go_wp2_with fail
    go_roundg (l.length+1 - (k+1))
    case measure=>have:=HG.out;omega
    case rel=>exact ⟨k+1,rfl,by omega,by go_num,HT2⟩
   have e2:(x.nm.toList == [119,101,97,107])=false:=by rw [U0w];exact n2
   have ka:=Zo1 HTr.out (by omega) x n1 hmk
   unfold Z60 at ka
   have HKA:=Z00 ka
   clear ka hmk n1 n2
   go_wp2_with fail
   refine HKA.out.mono ?_
   clear HKA
   rintro ev w5 ⟨n5,v5,rfl,b5,hP⟩
   have HB5:=Z00 (HB.out.trans (b5.mono HB.out.size))
   clear b5
   rcases hP with rfl | ⟨e,he7,he5,rfl,ky⟩ | ⟨rfl,ky⟩
   ·have kc:=Zle w5 (HEE.out.below HB5.out)
    unfold Z0p at kc ⊢
    go_wp2_with fail
    refine kc.mono ?_
    clear kc
    rintro ev w6 ⟨rfl,b6⟩
    have HB6:=Z00 (HB5.out.trans (b6.mono HB5.out.size))
    clear b6
    go_wp2_with fail
    go_ret
    exact ⟨rfl,HB6.out⟩
   ·have kc:=Zq4 he7 he5 w5 (HEE.out.below HB5.out)
    have HKY:=Z00 ky
    clear he7 he5 ky
    unfold Z0p at kc HKY ⊢
    go_wp2_with fail
    refine kc.mono ?_
    clear kc
    rintro ev w6 ⟨rfl,b6⟩
    have ky:=HKY.out w6 b6
    have HB6:=Z00 (HB5.out.trans (b6.mono HB5.out.size))
    obtain ⟨f0,f1,f2,f3,f4,f5⟩:=(HIN.out.below HB6.out) k x HX.out
    clear b6 HKY d0 d1 d2 d3 d4 d5
    go_wp2_with fail
    refine ky.mono ?_
    clear ky
    rintro ev w7 ⟨rfl,T7⟩
    clear f0 f1 f2 f3 f4 f5 HB6 HB5
    have HT7:Hid (Z8j a w2 qa qb (k+1) w7.drew):=T7.below (U01 _ _).drew
    clear T7
    by_cases g2:r2=1
    ·have g2':(r2 == 1)=true:=by rw [g2];rfl
     have kj:=Zsj HT7.out
     go_upto_region 16 with fail
     go_region
     all_goals (
      go_wp2_with fail
      refine kj.mono ?_
      clear kj
      rintro ev w8 (⟨rfl,b8⟩ | ⟨rfl,T8⟩)
      ·have HB8:Hid (Below w.heap.size w w8):=HB.out.trans (b8.mono HB.out.size)
       clear b8
       unfold Z0p
       go_wp2_with fail
       go_ret
       exact ⟨rfl,HB8.out⟩
      ·have HT8:=Z00 T8
       clear T8
       by_cases g3:r3=1
       ·have g3':(r3 == 1)=true:=by rw [g3];rfl
        have kj:=Zsl HT8.out
        go_wp2_with fail
        refine kj.mono ?_
        clear kj
        rintro ev w9 (⟨rfl,b9⟩ | ⟨rfl,T9⟩)
        ·have HB9:Hid (Below w.heap.size w w9):=HB.out.trans (b9.mono HB.out.size)
         clear b9
         unfold Z0p
         go_wp2_with fail
         go_ret
         exact ⟨rfl,HB9.out⟩
        ·have HT9:=Z00 T9
         clear T9
         go_wp2_with fail
         go_roundg (l.length+1 - (k+1))
         case measure=>have:=HG.out;omega
         case rel=>exact ⟨k+1,rfl,by omega,by go_num,HT9⟩
       ·have g3':(r3 == 1)=false:=by rw [U0w];exact g3
        go_wp2_with fail
        go_roundg (l.length+1 - (k+1))
        case measure=>have:=HG.out;omega
        case rel=>exact ⟨k+1,rfl,by omega,by go_num,HT8⟩)
    ·have g2':(r2 == 1)=false:=by rw [U0w];exact g2
     go_upto_region 16 with fail
     go_region
     all_goals (
      by_cases g3:r3=1
      ·have g3':(r3 == 1)=true:=by rw [g3];rfl
       have kj:=Zsl HT7.out
       go_wp2_with fail
       refine kj.mono ?_
       clear kj
       rintro ev w9 (⟨rfl,b9⟩ | ⟨rfl,T9⟩)
       ·have HB9:Hid (Below w.heap.size w w9):=HB.out.trans (b9.mono HB.out.size)
        clear b9
        unfold Z0p
        go_wp2_with fail
        go_ret
        exact ⟨rfl,HB9.out⟩
       ·have HT9:=Z00 T9
        clear T9
        go_wp2_with fail
        go_roundg (l.length+1 - (k+1))
        case measure=>have:=HG.out;omega
        case rel=>exact ⟨k+1,rfl,by omega,by go_num,HT9⟩
      ·have g3':(r3 == 1)=false:=by rw [U0w];exact g3
       go_wp2_with fail
       go_roundg (l.length+1 - (k+1))
       case measure=>have:=HG.out;omega
       case rel=>exact ⟨k+1,rfl,by omega,by go_num,HT7⟩)
   ·have kc:=Zsr w5
    have HKY:=Z00 ky
    clear ky
    go_wp2_with fail
    refine kc.mono ?_
    clear kc
    rintro ev w6 ⟨rfl,b6⟩
    have ky:=HKY.out w6 b6
    unfold Z60 at ky
    have HB6:=Z00 (HB5.out.trans (b6.mono HB5.out.size))
    obtain ⟨f0,f1,f2,f3,f4,f5⟩:=(HIN.out.below HB6.out) k x HX.out
    clear b6 HKY d0 d1 d2 d3 d4 d5
    go_wp2_with fail
    refine ky.mono ?_
    clear ky
    rintro ev w7 ⟨rfl,T7⟩
    clear f0 f1 f2 f3 f4 f5 HB6 HB5
    have HT7:Hid (Z8j a w2 qa qb (k+1) w7.drew):=T7.below (U01 _ _).drew
    clear T7
    by_cases g2:r2=1
    ·have g2':(r2 == 1)=true:=by rw [g2];rfl
     have kj:=Zsj HT7.out
     go_upto_region 16 with fail
     go_region
     all_goals (
      go_wp2_with fail
      refine kj.mono ?_
      clear kj
      rintro ev w8 (⟨rfl,b8⟩ | ⟨rfl,T8⟩)
      ·have HB8:Hid (Below w.heap.size w w8):=HB.out.trans (b8.mono HB.out.size)
       clear b8
       unfold Z0p
       go_wp2_with fail
       go_ret
       exact ⟨rfl,HB8.out⟩
      ·have HT8:=Z00 T8
       clear T8
       by_cases g3:r3=1
       ·have g3':(r3 == 1)=true:=by rw [g3];rfl
        have kj:=Zsl HT8.out
        go_wp2_with fail
        refine kj.mono ?_
        clear kj
        rintro ev w9 (⟨rfl,b9⟩ | ⟨rfl,T9⟩)
        ·have HB9:Hid (Below w.heap.size w w9):=HB.out.trans (b9.mono HB.out.size)
         clear b9
         unfold Z0p
         go_wp2_with fail
         go_ret
         exact ⟨rfl,HB9.out⟩
        ·have HT9:=Z00 T9
         clear T9
         go_wp2_with fail
         go_roundg (l.length+1 - (k+1))
         case measure=>have:=HG.out;omega
         case rel=>exact ⟨k+1,rfl,by omega,by go_num,HT9⟩
       ·have g3':(r3 == 1)=false:=by rw [U0w];exact g3
        go_wp2_with fail
        go_roundg (l.length+1 - (k+1))
        case measure=>have:=HG.out;omega
        case rel=>exact ⟨k+1,rfl,by omega,by go_num,HT8⟩)
    ·have g2':(r2 == 1)=false:=by rw [U0w];exact g2
     go_upto_region 16 with fail
     go_region
     all_goals (
      by_cases g3:r3=1
      ·have g3':(r3 == 1)=true:=by rw [g3];rfl
       have kj:=Zsl HT7.out
       go_wp2_with fail
       refine kj.mono ?_
       clear kj
       rintro ev w9 (⟨rfl,b9⟩ | ⟨rfl,T9⟩)
       ·have HB9:Hid (Below w.heap.size w w9):=HB.out.trans (b9.mono HB.out.size)
        clear b9
        unfold Z0p
        go_wp2_with fail
        go_ret
        exact ⟨rfl,HB9.out⟩
       ·have HT9:=Z00 T9
        clear T9
        go_wp2_with fail
        go_roundg (l.length+1 - (k+1))
        case measure=>have:=HG.out;omega
        case rel=>exact ⟨k+1,rfl,by omega,by go_num,HT9⟩
      ·have g3':(r3 == 1)=false:=by rw [U0w];exact g3
       go_wp2_with fail
       go_roundg (l.length+1 - (k+1))
       case measure=>have:=HG.out;omega
       case rel=>exact ⟨k+1,rfl,by omega,by go_num,HT7⟩)
  ·obtain rfl:k=l.length:=by omega
   have hI:¬ (l.length:Int)<(l.length:Int):=by omega
   obtain ⟨t,ka,kb⟩:=Zte HTr.out
   have HKB:=Z00 kb
   have ka:=ka wr (U01 _ _)
   have HWr:Hid (Below w.heap.size w wr):=HB.out.trans (HTr.out.base.mono HB.out.size)
   clear kb HTr
   go_wp2_with fail
   refine ka.mono ?_
   clear ka
   rintro ev w5 ⟨rfl,b5⟩
   have kb:=HKB.out w5 b5
   have HB5:Hid (Below w.heap.size w w5):=HWr.out.trans (b5.mono HWr.out.size)
   clear b5 HKB
   go_wp2_with fail
   refine kb.mono ?_
   clear kb
   rintro ev w6 ⟨rfl,b6⟩
   have HB6:Hid (Below w.heap.size w w6):=HB5.out.trans (b6.mono HB5.out.size)
   clear b6
   go_wp2_with fail
   go_ret
   exact ⟨by simp,HB6.out⟩
theorem heapAlike_any (a:Nat->Addr) (half old card tn force:Int) (xa:Option Addr) (xb xo cap:Nat) (l:List ActD) (w:World) (E:HEnv a w) (EE:Errs a w) (_ : -9223372036854775808<=force/\force<9223372036854775808) (hl:l.length*64<=140737488351232) (hxa:0<l.length->xa=some ⟨xb,xo,none⟩) (hin:Zcx w xb xo l) :
  Calls prog 4 #[.int .i64 half,.int .i64 old,.int .i64 card,.int .i64 tn,.slice xa l.length cap,.int .i64 force] w fun ev w'=>ev = .returned (.bool true)/\Below w.heap.size w w':=by
 have kh:=Zu7 a w E
 have kb:∀ W,Below w.heap.size w W->Calls prog 10 #[.slice xa l.length cap] W fun ev w'=>(ev = .returned (.bool true)/\Zn6 l/\w'=W)\/(ev = .returned (.bool false)/\w'=W):=fun W hW=>Zud xa xb xo cap l W hl hxa (hin.below hW)
 by_cases c1:2000<half
 ·exact heapAlike_skip xa cap l half old card tn force w kh kb (.inl c1)
 by_cases c2:2000<old
 ·exact heapAlike_skip xa cap l half old card tn force w kh kb (.inr ⟨c1,c2⟩)
 by_cases H:Zdf half old card tn 5
 ·exact heapAlike_good a xa xb xo cap l half old card tn force w E EE kh kb hxa hin c1 c2 H
 ·exact heapAlike_bad a xa cap l half old card tn force w E kh kb c1 c2 H
end
end Go.Proofs.YtlkcbdinlfeoiaaGreatDoor
