/- Package heap by contracts: acts at a root that is none. -/
import Derived.Test.YtlkcbdinlfeoiaaGreatDoorKrC
namespace Go.Proofs.YtlkcbdinlfeoiaaGreatDoor
open Go.Proofs.Tryz Go.RowKit
set_option maxHeartbeats 8000000
set_option maxRecDepth 100000
section
open Go.Maps
variable {h:HP}{sr:Int}{m:MD}{w w':World}{a:Nat->Addr}{w0:World}{M:MO}{X:MXtra}
theorem Zii (s:HS a w0 h sr m M X w) (r n:Int) (hr:¬ (0<=r/\r<(m.R.length:Int))) :
  Calls prog 38 #[.pointer (some ⟨h.q,0,none⟩),.int .i64 r,.int .i64 n] w (Z3s a w 4):=by
 have kb:∀ W,Below w.heap.size w W -> ∀ f,_:=fun W hW f=>Z3a (s.below hW) f hr
 have HB:Hid (Below w.heap.size w ((w.alloc (.cells #[.pointer (some ⟨h.q,0,none⟩)] 25)).alloc (.cells #[.int .i64 n] 2))):=((U01 _ _).alloc (U02 _) _).alloc (by simp) _
 have kb:=kb ((w.alloc (.cells #[.pointer (some ⟨h.q,0,none⟩)] 25)).alloc (.cells #[.int .i64 n] 2)) HB.out
 clear s hr
 go_enter func38,ntmps38
 go_wp2_with fail
 refine (kb _).mono ?_
 clear kb
 rintro ev w2 ⟨rfl,e⟩
 have HB2:=Z00 (HB.out.trans (e.mono HB.out.size))
 clear e
 go_wp2_with fail
 go_ret
 exact ⟨rfl,HB2.out⟩
theorem Zcv (s:HS a w0 h sr m M X w) (r n:Int) (hr:¬ (0<=r/\r<(m.R.length:Int))) :
  Calls prog 32 #[.pointer (some ⟨h.q,0,none⟩),.int .i64 r,.int .i64 n] w (Z3s a w 4):=by
 have kb:∀ W,Below w.heap.size w W -> ∀ f,_:=fun W hW f=>Z3a (s.below hW) f hr
 have HB:Hid (Below w.heap.size w (w.alloc (.cells #[.int .i64 n] 3))):=(U01 _ _).alloc (U02 _) _
 have kb:=kb (w.alloc (.cells #[.int .i64 n] 3)) HB.out
 clear s hr
 go_enter func32,ntmps32
 go_wp2_with fail
 refine (kb _).mono ?_
 clear kb
 rintro ev w2 ⟨rfl,e⟩
 have HB2:=Z00 (HB.out.trans (e.mono HB.out.size))
 clear e
 go_wp2_with fail
 go_ret
 exact ⟨rfl,HB2.out⟩
theorem Zf1 (s:HS a w0 h sr m M X w) (r n:Int) (hr:¬ (0<=r/\r<(m.R.length:Int))) :
  Calls prog 31 #[.pointer (some ⟨h.q,0,none⟩),.int .i64 r,.int .i64 n] w (Z3s a w 4):=by
 have kb:∀ W,Below w.heap.size w W -> ∀ f,_:=fun W hW f=>Z3a (s.below hW) f hr
 have HB:Hid (Below w.heap.size w ((w.alloc (.cells #[.pointer (some ⟨h.q,0,none⟩)] 25)).alloc (.cells #[.int .i64 n] 3))):=((U01 _ _).alloc (U02 _) _).alloc (by simp) _
 have kb:=kb ((w.alloc (.cells #[.pointer (some ⟨h.q,0,none⟩)] 25)).alloc (.cells #[.int .i64 n] 3)) HB.out
 clear s hr
 go_enter func31,ntmps31
 go_wp2_with fail
 refine (kb _).mono ?_
 clear kb
 rintro ev w2 ⟨rfl,e⟩
 have HB2:=Z00 (HB.out.trans (e.mono HB.out.size))
 clear e
 go_wp2_with fail
 go_ret
 exact ⟨rfl,HB2.out⟩
theorem Zfu (s:HS a w0 h sr m M X w) (r:Int) (t:ByteArray) (hr:¬ (0<=r/\r<(m.R.length:Int))) :
  Calls prog 44 #[.pointer (some ⟨h.q,0,none⟩),.int .i64 r,.string t] w (Z3s a w 4):=by
 have kb:∀ W,Below w.heap.size w W -> ∀ f,_:=fun W hW f=>Z3a (s.below hW) f hr
 have HB:Hid (Below w.heap.size w ((w.alloc (.cells #[.pointer (some ⟨h.q,0,none⟩)] 25)).alloc (.cells #[.string t] 9))):=((U01 _ _).alloc (U02 _) _).alloc (by simp) _
 have kb:=kb ((w.alloc (.cells #[.pointer (some ⟨h.q,0,none⟩)] 25)).alloc (.cells #[.string t] 9)) HB.out
 clear s hr
 go_enter func44,ntmps44
 go_wp2_with fail
 refine (kb _).mono ?_
 clear kb
 rintro ev w2 ⟨rfl,e⟩
 have HB2:=Z00 (HB.out.trans (e.mono HB.out.size))
 clear e
 go_wp2_with fail
 go_ret
 exact ⟨rfl,HB2.out⟩
theorem Zj1 (s:HS a w0 h sr m M X w) (r k t:Int) (hr:¬ (0<=t/\t<(m.R.length:Int))) :
  Calls prog 45 #[.pointer (some ⟨h.q,0,none⟩),.int .i64 r,.int .i64 k,.int .i64 t] w (Z3s a w 4):=by
 have kb:∀ W,Below w.heap.size w W -> ∀ f,_:=fun W hW f=>Z3a (s.below hW) f hr
 have HB:Hid (Below w.heap.size w (((w.alloc (.cells #[.pointer (some ⟨h.q,0,none⟩)] 25)).alloc (.cells #[.int .i64 r] 3)).alloc (.cells #[.int .i64 k] 3))):=(((U01 _ _).alloc (U02 _) _).alloc (by simp) _).alloc (by simp;omega) _
 have kb:=kb (((w.alloc (.cells #[.pointer (some ⟨h.q,0,none⟩)] 25)).alloc (.cells #[.int .i64 r] 3)).alloc (.cells #[.int .i64 k] 3)) HB.out
 clear s hr
 go_enter func45,ntmps45
 go_wp2_with fail
 refine (kb _).mono ?_
 clear kb
 rintro ev w2 ⟨rfl,e⟩
 have HB2:=Z00 (HB.out.trans (e.mono HB.out.size))
 clear e
 go_wp2_with fail
 go_ret
 exact ⟨rfl,HB2.out⟩
end
section
open Go.Maps
variable {h:HP}{sr:Int}{m:MD}{w w':World}{a:Nat->Addr}{w0:World}{M:MO}{X:MXtra}
theorem Zfh (s:HS a w0 h sr m M X w) {r:Int} (hr:¬ (0<=r/\r<(m.R.length:Int))) :
  Calls prog 122 #[.pointer (some ⟨h.q,0,none⟩),.int .i64 r] w fun ev w'=>ev = .returned (.tuple #[.int .i64 0,.int .i64 0,Z0p a 4])/\Below w.heap.size w w':=by
 have kr:=s.rootNo hr
 clear s hr
 unfold Z0p at kr ⊢
 go_enter func122,ntmps122
 go_wp2_with fail
 refine kr.mono ?_
 clear kr
 rintro ev w1 ⟨rfl,b1⟩
 have HB:=Z00 b1
 clear b1
 go_wp2_with fail
 go_ret3
 exact ⟨rfl,HB.out⟩
theorem Z9w (s:HS a w0 h sr m M X w) {r:Int} (hr:¬ (0<=r/\r<(m.R.length:Int))) :
  Calls prog 72 #[.pointer (some ⟨h.q,0,none⟩),.int .i64 r] w fun ev w'=>ev = .returned (.tuple #[.int .u64 0,Z0p a 4])/\Below w.heap.size w w':=by
 have kr:=s.rootNo hr
 clear s hr
 unfold Z0p at kr ⊢
 go_enter func72,ntmps72
 go_wp2_with fail
 refine kr.mono ?_
 clear kr
 rintro ev w1 ⟨rfl,b1⟩
 have HB:=Z00 b1
 clear b1
 go_wp2_with fail
 go_ret2
 exact ⟨rfl,HB.out⟩
theorem HS.objectNo (s:HS a w0 h sr m M X w) {x:Int} (h0:0<=x) (h1:x<18446744073709551616) (hx:x % 4≠0) (W:World) (hW:Below w.heap.size w W):Calls prog 121 #[.pointer (some ⟨h.q,0,none⟩),.int .u64 x] W fun ev w'=>ev = .returned (.tuple #[.int .i64 0,Z1o 0,.bool false])/\Below W.heap.size W w':=
 Zix a h.q x h0 h1 (fun q=>hx q.1) W (s.benv.we.below hW)
theorem Z9m (s:HS a w0 h sr m M X w) {r:Nat}{c:CL} (hj:M.R[r]?=some c) (h4:c.kind≠4) :
  Calls prog 72 #[.pointer (some ⟨h.q,0,none⟩),.int .i64 (r:Int)] w fun ev w'=>ev = .returned (.tuple #[.int .u64 0,Z0p a 2])/\Below w.heap.size w w':=by
 rcases s.hm.rootIs hj with ⟨_,x,hx,h0,h1,hm⟩ | ⟨f,d,o⟩
 rotate_left
 ·exact absurd o.four h4
 obtain ⟨e1,hr⟩:=Z41 hx
 have kr:=s.rootOk hr
 rw [e1] at kr
 have ko:=s.objectNo h0 h1 hm w (U01 _ _)
 have HE:Hid (∀ W,Below w.heap.size w W->W.cell? ⟨3,0,none⟩=some (.iface 338 (.pointer (some (a 2))))):=fun W hW=>(s.benv.we.below hW).c2
 obtain ⟨q,hq⟩:∃ q,q=h.q:=⟨_,rfl⟩
 rw [<-hq] at kr ko ⊢
 unfold Z1o at ko
 unfold Z0p
 clear s hq hr h0 h1 hm hx
 go_enter func72,ntmps72
 go_wp2_with fail
 refine kr.mono ?_
 clear kr
 rintro ev w1 ⟨rfl,rfl⟩
 go_wp2_with fail
 refine ko.mono ?_
 clear ko
 rintro ev w2 ⟨rfl,b2⟩
 obtain ⟨w3,hw3⟩:∃ w3,w3=w2.alloc (.cells #[.int .i64 0,.int .i64 0,.int .i64 0,.int .i64 0] 172):=⟨_,rfl⟩
 have b3:Below w1.heap.size w1 w3:=by rw [hw3];exact b2.alloc b2.size _
 have HB3:=Z00 b3
 have g2:=HE.out w3 b3
 rw [hw3] at g2
 go_wp2_with fail
 go_quiet (fail)
 go_wp2_with fail
 go_ret2
 rw [<-hw3]
 exact ⟨rfl,Z03 HB3.out⟩
end
section
open Go.Maps
variable {h:HP}{sr:Int}{m:MD}{w w':World}{a:Nat->Addr}{w0:World}{M:MO}{X:MXtra}
theorem Zje (s:HS a w0 h sr m M X w) {r:Nat}{c:CL} (hj:M.R[r]?=some c) (h4:c.kind≠4) :
  Calls prog 122 #[.pointer (some ⟨h.q,0,none⟩),.int .i64 (r:Int)] w fun ev w'=>ev = .returned (.tuple #[.int .i64 0,.int .i64 0,Z0p a 2])/\Below w.heap.size w w':=by
 rcases s.hm.rootIs hj with ⟨_,x,hx,h0,h1,hm⟩ | ⟨f,d,o⟩
 rotate_left
 ·exact absurd o.four h4
 obtain ⟨e1,hr⟩:=Z41 hx
 have kr:=s.rootOk hr
 rw [e1] at kr
 have ko:=s.objectNo h0 h1 hm w (U01 _ _)
 have HE:Hid (∀ W,Below w.heap.size w W->W.cell? ⟨3,0,none⟩=some (.iface 338 (.pointer (some (a 2))))):=fun W hW=>(s.benv.we.below hW).c2
 obtain ⟨q,hq⟩:∃ q,q=h.q:=⟨_,rfl⟩
 rw [<-hq] at kr ko ⊢
 unfold Z1o at ko
 unfold Z0p
 clear s hq hr h0 h1 hm hx
 go_enter func122,ntmps122
 go_wp2_with fail
 refine kr.mono ?_
 clear kr
 rintro ev w1 ⟨rfl,rfl⟩
 go_wp2_with fail
 refine ko.mono ?_
 clear ko
 rintro ev w2 ⟨rfl,b2⟩
 obtain ⟨w3,hw3⟩:∃ w3,w3=w2.alloc (.cells #[.int .i64 0,.int .i64 0,.int .i64 0,.int .i64 0] 172):=⟨_,rfl⟩
 have b3:Below w1.heap.size w1 w3:=by rw [hw3];exact b2.alloc b2.size _
 have HB3:=Z00 b3
 have g2:=HE.out w3 b3
 rw [hw3] at g2
 go_wp2_with fail
 go_quiet (fail)
 go_wp2_with fail
 go_ret3
 rw [<-hw3]
 exact ⟨rfl,Z03 HB3.out⟩
theorem Zk1 (s:HS a w0 h sr m M X w) {r f:Nat}{c:CL}{d:ND} (o:ObjAt m M r c f d) (h8:d.kind<8) :
  Calls prog 122 #[.pointer (some ⟨h.q,0,none⟩),.int .i64 (r:Int)] w fun ev w'=>ev = .returned (.tuple #[.int .i64 0,.int .i64 0,Z0p a 2])/\Below w.heap.size w w':=by
 obtain ⟨e1,hr⟩:=Z41 o.root
 have kr:=s.rootOk hr
 rw [e1] at kr
 have ko:=s.objectOk o
 unfold Z1o at ko
 rw [o.kind] at ko
 have kd0:0<=d.kind:=by have:=o.kind;omega
 have kraw:=fun w=>Z21 d.kind kd0 w
 rw [U0d h8] at kraw
 have HE:Hid (∀ W,Below w.heap.size w W->W.cell? ⟨3,0,none⟩=some (.iface 338 (.pointer (some (a 2))))):=fun W hW=>(s.benv.we.below hW).c2
 obtain ⟨q,hq⟩:∃ q,q=h.q:=⟨_,rfl⟩
 rw [<-hq] at kr ko ⊢
 obtain ⟨x,hx⟩:∃ x,x=((f:Int)+1)*4:=⟨_,rfl⟩
 rw [<-hx] at kr ko
 generalize m.F f / 1024 % 16=g1 at ko
 generalize m.F f / 16384 % 2=g3 at ko
 generalize m.F f / 65536=g4 at ko
 generalize d.kind=kd at *
 unfold Z0p
 clear s o hx hq hr h8 kd0
 go_enter func122,ntmps122
 go_wp2_with fail
 refine kr.mono ?_
 clear kr
 rintro ev w1 ⟨rfl,rfl⟩
 go_wp2_with fail
 refine ko.mono ?_
 clear ko
 rintro ev w2 ⟨rfl,b2⟩
 have HB2:=Z00 b2
 obtain ⟨w3,hw3⟩:∃ w3,w3=w2.alloc (.cells #[.int .i64 kd,.int .i64 g1,.int .i64 g3,.int .i64 g4] 172):=⟨_,rfl⟩
 have n3:w3.heap[w2.heap.size]?=some (.cells #[.int .i64 kd,.int .i64 g1,.int .i64 g3,.int .i64 g4] 172):=by rw [hw3];exact U0b _ _
 have HB3:Hid (Below w1.heap.size w1 w3):=by rw [hw3];exact HB2.out.alloc HB2.out.size _
 obtain ⟨r0,r1,r2,r3,rf⟩:=Z0e n3
 have HW3:=Z00 hw3
 have g2:=HE.out w3 HB3.out
 clear b2 hw3 n3 rf
 go_upto_region 5 with fail
 rw [<-HW3.out]
 go_wp2_with fail
 refine (kraw _).mono ?_
 rintro ev w4 ⟨rfl,e4⟩
 rw [e4]
 clear e4 w4 kraw
 go_wp2_with fail
 go_quiet (fail)
 go_wp2_with fail
 go_ret3
 exact ⟨rfl,Z03 HB3.out⟩
theorem Z7a {q:Nat}{r:Int}{e:Nat} (k:Int) (km:Calls prog 122 #[.pointer (some ⟨q,0,none⟩),.int .i64 r] w fun ev w'=>ev = .returned (.tuple #[.int .i64 0,.int .i64 0,Z0p a e])/\Below w.heap.size w w') :
  Calls prog 74 #[.pointer (some ⟨q,0,none⟩),.int .i64 r,.int .i64 k] w fun ev w'=>ev = .returned (.tuple #[.int .i64 0,Z0p a e])/\Below w.heap.size w w':=by
 unfold Z0p at km ⊢
 go_enter func74,ntmps74
 go_wp2_with fail
 refine km.mono ?_
 clear km
 rintro ev w1 ⟨rfl,b1⟩
 have HB1:=Z00 b1
 clear b1
 go_wp2_with fail
 go_ret2
 exact ⟨rfl,HB1.out⟩
theorem Zcy (s:HS a w0 h sr m M X w) {r f:Nat}{k:Int}{c:CL}{d:ND} (o:ObjAt m M r c f d) (h8:¬ d.kind<8) (hk:¬ (0<=k/\k<(d.f.length:Int))) :
  Calls prog 74 #[.pointer (some ⟨h.q,0,none⟩),.int .i64 (r:Int),.int .i64 k] w fun ev w'=>ev = .returned (.tuple #[.int .i64 0,Z0p a 1])/\Below w.heap.size w w':=by
 have km:=Zhg s o h8
 have hsz:szN (m.F f)=d.f.length:=by rw [o.size,U08 h8]
 have hwl:=s.wlen
 have hfl:=o.fits
 rw [hsz] at km hfl
 have kw:=fun w=>Z0z k 0 ((d.f.length:Int) - 1) w
 rw [show (decide (0<=k) && decide (k<=(d.f.length:Int) - 1))=false by
  rcases Decidable.em (0<=k) with q | q
  ·rw [U0d q,U0k (by omega)];rfl
  ·rw [U0k q];rfl] at kw
 have e1:IntKind.i64.wrap ((d.f.length:Int) - 1)=(d.f.length:Int) - 1:=Z18 _ (by omega) (by omega)
 have HE:Hid (∀ W,Below w.heap.size w W->W.cell? ⟨0,0,none⟩=some (.iface 338 (.pointer (some (a 1))))):=fun W hW=>(s.benv.we.below hW).c1
 obtain ⟨q,hq⟩:∃ q,q=h.q:=⟨_,rfl⟩
 rw [<-hq] at km ⊢
 generalize d.f.length=L at *
 unfold Z0p
 clear s o hq h8 hsz hfl hk
 go_enter func74,ntmps74
 go_wp2_with fail
 refine km.mono ?_
 clear km
 rintro ev w1 ⟨rfl,b1⟩
 have HB1:=Z00 b1
 have g1:=HE.out w1 b1
 clear b1
 go_wp2_with fail
 refine (kw _).mono ?_
 rintro ev w4 ⟨rfl,e4⟩
 rw [e4]
 clear e4 w4 kw
 go_wp2_with fail
 go_quiet (fail)
 go_wp2_with fail
 go_ret2
 exact ⟨rfl,Z03 HB1.out⟩
end
section
open Go.Maps
variable {h:HP}{sr:Int}{m:MD}{w w':World}{a:Nat->Addr}{w0:World}{M:MO}{X:MXtra}
theorem Zcr (s:HS a w0 h sr m M X w) (r:Nat) (n:Int) (hr:r<m.R.length) (hn:n<0\/2<n) :
  Calls prog 32 #[.pointer (some ⟨h.q,0,none⟩),.int .i64 (r:Int),.int .i64 n] w (Z3s a w 1):=by
 obtain ⟨w1,hw1⟩:∃ w1,w1=w.alloc (.cells #[.int .i64 n] 3):=⟨_,rfl⟩
 have b1:Below w.heap.size w w1:=by rw [hw1];exact (U01 _ _).alloc (U02 _) _
 have n1:w1.heap[w.heap.size]?=some (.cells #[.int .i64 n] 3):=by rw [hw1];exact U0b _ _
 have s1:=s.below b1
 have cn:w1.cell? ⟨w.heap.size,0,none⟩=some (.int .i64 n):=by rw [U06 _ _ _ _ _ _ n1];rfl
 have km:=Zi2 a n hn w1 s1.benv.we w.heap.size cn
 have kb:=(Z1a s1 77 _ Z9d hr (fun _ _ _ _ _=>False) (fun k w'=>k=1/\Below w1.heap.size w1 w') (km.mono fun ev w' t=>.inr ⟨1,t.1,rfl,t.2⟩)).mono (R':=Z3s a w 1) (by
  rintro ev w' (⟨_,_,_,_,_,_,hf,_⟩ | ⟨k,rfl,rfl,hb⟩)
  ·exact hf.elim
  ·exact ⟨rfl,b1.trans (hb.mono b1.size)⟩)
 rw [hw1] at kb
 clear hw1 b1 n1 s1 cn km s
 go_enter func32,ntmps32
 go_wp2_with fail
 refine kb.mono ?_
 clear kb
 rintro ev w2 ⟨rfl,hP⟩
 have HP':=Z00 hP
 clear hP
 go_wp2_with fail
 go_ret
 exact ⟨rfl,HP'.out⟩
theorem Zij (a:Nat->Addr) (q p n cap:Nat) (ao:Option Addr) (r:Int) (hr:¬ (0<=r/\r<(n:Int))) (w:World) (c0:w.cell? ⟨q,0,none⟩=some (.pointer (some ⟨p,0,none⟩))) (c7:w.cell? ⟨p,7,none⟩=some (.slice ao n cap)) (hn:n<=5000) (E:MErr a w) :
  Calls prog 73 #[.pointer (some ⟨q,0,none⟩),.int .i64 r] w fun ev w'=>ev = .returned (.tuple #[.int .u64 0,Z0p a 4]) /\ ∃ k,w'=w.drewN k:=by
 have k:=Z0z r 0 ((n:Int) - 1) w
 rw [show (decide (0<=r) && decide (r<=(n:Int) - 1))=false by rw [U1m,U0p,U0p];omega] at k
 have k4:=E.c4
 clear E hr
 go_enter func73,ntmps73
 go_wp2_with fail
 refine k.mono ?_
 clear k
 rintro ev w1 ⟨rfl,rfl⟩
 go_wp2_with fail
 go_quiet (fail)
 go_wp2_with fail
 go_ret2
 exact ⟨rfl,_,rfl⟩
theorem HS.rootDrew (s:HS a w0 h sr m M X w) {r:Int} (hr:¬ (0<=r/\r<(m.R.length:Int))):Calls prog 73 #[.pointer (some ⟨h.q,0,none⟩),.int .i64 r] w fun ev w'=>ev = .returned (.tuple #[.int .u64 0,Z0p a 4]) /\ ∃ k,w'=w.drewN k:=by
 obtain ⟨⟨ao,cap,e⟩,_⟩:=s.at'.rows
 refine Zij a h.q h.p m.R.length cap ao r hr w s.at'.c0 ?_ s.rlen.2 s.benv.five
 rw [s.at'.cm.c7,e]
theorem Zkn (s:HS a w0 h sr m M X w) (j:Int) (bh bf:Nat) (hj:¬ (0<=j/\j<(m.R.length:Int))) (ch:w.cell? ⟨bh,0,none⟩=some (.pointer (some ⟨h.q,0,none⟩))) (cf:w.cell? ⟨bf,0,none⟩=some (.int .i64 j)) :
  Calls prog 76 #[.pointer (some ⟨bh,0,none⟩),.pointer (some ⟨bf,0,none⟩)] w fun ev w'=>ev = .returned (.tuple #[.int .u64 0,Z0p a 4])/\Below w.heap.size w w':=by
 have kr:Hid (∀ k,Calls prog 73 #[.pointer (some ⟨h.q,0,none⟩),.int .i64 j] (w.drewN k) fun ev w'=>ev = .returned (.tuple #[.int .u64 0,Z0p a 4]) /\ ∃ m,w'=(w.drewN k).drewN m):=fun k=>(s.below (w':=w.drewN k) (Z03 (U01 _ _))).rootDrew hj
 obtain ⟨q,hq⟩:∃ q,q=h.q:=⟨_,rfl⟩
 rw [<-hq] at kr ch
 unfold Z0p at kr ⊢
 clear s hq hj
 go_enter func76,ntmps76
 go_upto_region 1 with fail
 go_quiet (first | (go_at_call 73;exact U1a (kr.out _)))
 go_wp2_with fail
 go_ret2
 exact ⟨rfl,Z03 (U01 _ _)⟩
theorem Zoc (s:HS a w0 h sr m M X w) (r:Nat) (j:Int) (hr:r<m.R.length) (hj:¬ (0<=j/\j<(m.R.length:Int))) :
  Calls prog 31 #[.pointer (some ⟨h.q,0,none⟩),.int .i64 (r:Int),.int .i64 j] w (Z3s a w 4):=by
 obtain ⟨w1,hw1⟩:∃ w1,w1=(w.alloc (.cells #[.pointer (some ⟨h.q,0,none⟩)] 25)).alloc (.cells #[.int .i64 j] 3):=⟨_,rfl⟩
 obtain ⟨n1,n2⟩:=Z3i w (.cells #[.pointer (some ⟨h.q,0,none⟩)] 25) (.cells #[.int .i64 j] 3)
 rw [<-hw1] at n1 n2
 have b1:Below w.heap.size w w1:=by rw [hw1];exact ((U01 _ _).alloc (U02 _) _).alloc (by simp) _
 have s1:=s.below b1
 have ch:w1.cell? ⟨w.heap.size,0,none⟩=some (.pointer (some ⟨h.q,0,none⟩)):=by rw [U06 _ _ _ _ _ _ n1];rfl
 have cf:w1.cell? ⟨w.heap.size+1,0,none⟩=some (.int .i64 j):=by rw [U06 _ _ _ _ _ _ n2];rfl
 have km:=Zkn s1 j _ _ hj ch cf
 have kb:=(Z1a s1 76 _ Z9z hr (fun _ _ _ _ _=>False) (fun k w'=>k=4/\Below w1.heap.size w1 w') (km.mono fun ev w' t=>.inr ⟨4,t.1,rfl,t.2⟩)).mono (R':=Z3s a w 4) (by
  rintro ev w' (⟨_,_,_,_,_,_,hf,_⟩ | ⟨k,rfl,rfl,hb⟩)
  ·exact hf.elim
  ·exact ⟨rfl,b1.trans (hb.mono b1.size)⟩)
 rw [hw1] at kb
 clear hw1 b1 n1 n2 s1 ch cf km s
 go_enter func31,ntmps31
 go_wp2_with fail
 refine kb.mono ?_
 clear kb
 rintro ev w2 ⟨rfl,hP⟩
 have HP':=Z00 hP
 clear hP
 go_wp2_with fail
 go_ret
 exact ⟨rfl,HP'.out⟩
theorem Zig (s:HS a w0 h sr m M X w) (r k j:Int) (hj:¬ (0<=j/\j<(m.R.length:Int))) :
  Calls prog 30 #[.pointer (some ⟨h.q,0,none⟩),.int .i64 r,.int .i64 k,.int .i64 j] w (Z3s a w 4):=by
 have kr:=s.rootNo hj
 clear s hj
 unfold Z0p at kr
 unfold Z3s Z0p
 go_enter func30,ntmps30
 go_wp2_with fail
 refine kr.mono ?_
 clear kr
 rintro ev w1 ⟨rfl,b1⟩
 have HB:=Z00 b1
 clear b1
 go_wp2_with fail
 go_ret
 exact ⟨rfl,HB.out⟩
theorem Znz (s:HS a w0 h sr m M X w) (r k:Int) {j e:Nat} (hj:j<m.R.length)
  (kf:Calls prog 74 #[.pointer (some ⟨h.q,0,none⟩),.int .i64 r,.int .i64 k] w fun ev w'=>ev = .returned (.tuple #[.int .i64 0,Z0p a e])/\Below w.heap.size w w') :
  Calls prog 30 #[.pointer (some ⟨h.q,0,none⟩),.int .i64 r,.int .i64 k,.int .i64 (j:Int)] w (Z3s a w e):=by
 have kr:=s.rootOk hj
 generalize m.R.getD j 0=x at kr
 clear s hj
 unfold Z0p at kf
 unfold Z3s Z0p
 go_enter func30,ntmps30
 go_wp2_with fail
 refine kr.mono ?_
 clear kr
 rintro ev w1 ⟨rfl,rfl⟩
 go_wp2_with fail
 refine kf.mono ?_
 clear kf
 rintro ev w1 ⟨rfl,b1⟩
 have HB:=Z00 b1
 clear b1
 go_wp2_with fail
 go_ret
 exact ⟨rfl,HB.out⟩
theorem Zfb {q e:Nat}{r:Int} (kp:Calls prog 72 #[.pointer (some ⟨q,0,none⟩),.int .i64 r] w fun ev w'=>ev = .returned (.tuple #[.int .u64 0,Z0p a e])/\Below w.heap.size w w') :
  Calls prog 46 #[.pointer (some ⟨q,0,none⟩),.int .i64 r] w fun ev w'=>ev = .returned (.tuple #[.int .i64 0,Z0p a e])/\Below w.heap.size w w':=by
 unfold Z0p at kp ⊢
 go_enter func46,ntmps46
 go_wp2_with fail
 refine kp.mono ?_
 clear kp
 rintro ev w1 ⟨rfl,b1⟩
 have HB:=Z00 b1
 clear b1
 go_wp2_with fail
 go_ret2
 exact ⟨rfl,HB.out⟩
theorem Zlz {q e:Nat}{r:Int} (kp:Calls prog 72 #[.pointer (some ⟨q,0,none⟩),.int .i64 r] w fun ev w'=>ev = .returned (.tuple #[.int .u64 0,Z0p a e])/\Below w.heap.size w w') :
  Calls prog 29 #[.pointer (some ⟨q,0,none⟩),.int .i64 r] w fun ev w'=>ev = .returned (.tuple #[.int .i64 0,Z0p a e])/\Below w.heap.size w w':=by
 unfold Z0p at kp ⊢
 go_enter func29,ntmps29
 go_wp2_with fail
 refine kp.mono ?_
 clear kp
 rintro ev w1 ⟨rfl,b1⟩
 have HB:=Z00 b1
 clear b1
 go_wp2_with fail
 go_ret2
 exact ⟨rfl,HB.out⟩
end
section
open Go.Maps
variable {h:HP}{sr:Int}{m:MD}{w w':World}{a:Nat->Addr}{w0:World}{M:MO}{X:MXtra}
theorem Ze4 (args:Array Value) (w:World):(callFunc 91 args).run prog w = .ok (.enter 91 args) w:=by kernel_rfl
theorem Zm3 {q e bh br bk:Nat}{r k:Int} (ch:w.cell? ⟨bh,0,none⟩=some (.pointer (some ⟨q,0,none⟩))) (cr:w.cell? ⟨br,0,none⟩=some (.int .i64 r)) (ck:w.cell? ⟨bk,0,none⟩=some (.int .i64 k))
  (kf:∀ W,Below w.heap.size w W->Calls prog 74 #[.pointer (some ⟨q,0,none⟩),.int .i64 r,.int .i64 k] W fun ev w'=>ev = .returned (.tuple #[.int .i64 0,Z0p a e])/\Below W.heap.size W w') :
  Calls prog 91 #[.pointer (some ⟨bh,0,none⟩),.pointer (some ⟨br,0,none⟩),.pointer (some ⟨bk,0,none⟩)] w fun ev w'=>ev = .returned (.tuple #[.int .u64 0,Z0p a e])/\Below w.heap.size w w':=by
 have HF:Hid (∀ W,Below w.heap.size w W->Calls prog 74 #[.pointer (some ⟨q,0,none⟩),.int .i64 r,.int .i64 k] W fun ev w'=>ev = .returned (.tuple #[.int .i64 0,Z0p a e])/\Below w.heap.size w w'):=fun W b=>(kf W b).mono fun ev w' t=>⟨t.1,b.trans (t.2.mono b.size)⟩
 clear kf
 unfold Z0p at HF
 unfold Z0p
 go_enter func91,ntmps91
 go_wp2_with fail
 go_region_with ((go_at_call 74;refine (HF.out _ (by first | exact (U01 _ _).drew | exact U01 _ _)).mono ?_;rintro ev w7 ⟨rfl,hb7⟩;have HB7:=Z00 hb7;clear hb7))
 all_goals go_wp2_with fail
 all_goals go_ret2
 all_goals exact ⟨rfl,HB7.out⟩
end
section
open Go.Maps
variable {h:HP}{sr:Int}{m:MD}{w w':World}{a:Nat->Addr}{w0:World}{M:MO}{X:MXtra}
theorem Zou (s:HS a w0 h sr m M X w) {bh br bk y:Nat}{r k:Int} (ch:w.cell? ⟨bh,0,none⟩=some (.pointer (some ⟨h.q,0,none⟩))) (cr:w.cell? ⟨br,0,none⟩=some (.int .i64 r)) (ck:w.cell? ⟨bk,0,none⟩=some (.int .i64 k)) (hy:y<m.W.length)
  (kf:∀ W,Below w.heap.size w W->Calls prog 74 #[.pointer (some ⟨h.q,0,none⟩),.int .i64 r,.int .i64 k] W fun ev w'=>ev = .returned (.tuple #[.int .i64 (y:Int),.nilIface])/\Below W.heap.size W w') :
  Calls prog 91 #[.pointer (some ⟨bh,0,none⟩),.pointer (some ⟨br,0,none⟩),.pointer (some ⟨bk,0,none⟩)] w fun ev w'=>ev = .returned (.tuple #[.int .u64 (m.F y),.nilIface])/\Below w.heap.size w w':=by
 obtain ⟨q,hq⟩:∃ q,q=h.q:=⟨_,rfl⟩
 obtain ⟨p,hp⟩:∃ p,p=h.p:=⟨_,rfl⟩
 obtain ⟨g,hg⟩:∃ g,g=h.bW:=⟨_,rfl⟩
 have hbh:=Z02 ch
 rw [<-hq] at ch kf
 have HF:Hid (∀ W,Below w.heap.size w W->Calls prog 74 #[.pointer (some ⟨q,0,none⟩),.int .i64 r,.int .i64 k] W fun ev w'=>ev = .returned (.tuple #[.int .i64 (y:Int),.nilIface])/\Below w.heap.size w w'):=fun W b=>(kf W b).mono fun ev w' t=>⟨t.1,b.trans (t.2.mono b.size)⟩
 have HC:Hid (∀ W,Below w.heap.size w W->W.cell? ⟨bh,0,none⟩=some (.pointer (some ⟨q,0,none⟩))/\W.cell? ⟨q,0,none⟩=some (.pointer (some ⟨p,0,none⟩))/\W.cell? ⟨p,3,none⟩=some (.slice (some ⟨g,0,none⟩) m.W.length h.cW)/\W.cell? ⟨g,y,none⟩=some (.int .u64 (m.F y))):=fun W b=>by
  have H:=s.below b
  refine ⟨(b.cell (p:=⟨bh,0,none⟩) hbh).trans ch,?_,?_,?_⟩
  ·rw [hq,hp];exact H.at'.c0
  ·rw [hp,hg];exact H.at'.cm.c3
  ·rw [hg];exact H.wordAt hy
 have hI:(y:Int)<(m.W.length:Int):=by omega
 have hI0:(0:Int)<=(y:Int):=by omega
 generalize m.F y=x at *
 generalize m.W.length=n at *
 generalize h.cW=cap at *
 clear s kf hq hp hg hbh hy
 go_enter func91,ntmps91
 go_wp2_with fail
 go_region_with ((go_at_call 74;refine (HF.out _ (by first | exact (U01 _ _).drew | exact U01 _ _)).mono ?_;rintro ev w7 ⟨rfl,hb7⟩;have HB7:=Z00 hb7;obtain ⟨t1,t2,t3,t4⟩:=HC.out _ hb7;clear hb7))
 all_goals go_wp2_with fail
 all_goals go_ret2
 all_goals exact ⟨rfl,HB7.out⟩
end
section
open Go.Maps
variable {h:HP}{sr:Int}{m:MD}{w w':World}{a:Nat->Addr}{w0:World}{M:MO}{X:MXtra}
theorem Z8g (q:Nat) (r k:Int) (w:World):∃ w1,w1=(((w.alloc (.cells #[.pointer (some ⟨q,0,none⟩)] 25)).alloc (.cells #[.int .i64 r] 3)).alloc (.cells #[.int .i64 k] 3))/\Below w.heap.size w w1/\w1.cell? ⟨w.heap.size,0,none⟩=some (.pointer (some ⟨q,0,none⟩))/\w1.cell? ⟨w.heap.size+1,0,none⟩=some (.int .i64 r)/\w1.cell? ⟨w.heap.size+1+1,0,none⟩=some (.int .i64 k):=by
 obtain ⟨w1,hw1,b1,n1,n2,n3⟩:=Z6s w (.cells #[.pointer (some ⟨q,0,none⟩)] 25) (.cells #[.int .i64 r] 3) (.cells #[.int .i64 k] 3)
 exact ⟨w1,hw1,b1,by rw [U06 _ _ _ _ _ _ n1];rfl,by rw [U06 _ _ _ _ _ _ n2];rfl,by rw [U06 _ _ _ _ _ _ n3];rfl⟩
theorem Zo2 (s:HS a w0 h sr m M X w) (r k:Int) {t e:Nat} (ht:t<m.R.length)
  (kf:∀ W,Below w.heap.size w W->Calls prog 74 #[.pointer (some ⟨h.q,0,none⟩),.int .i64 r,.int .i64 k] W fun ev w'=>ev = .returned (.tuple #[.int .i64 0,Z0p a e])/\Below W.heap.size W w') :
  Calls prog 45 #[.pointer (some ⟨h.q,0,none⟩),.int .i64 r,.int .i64 k,.int .i64 (t:Int)] w (Z3s a w e):=by
 obtain ⟨w1,hw1,b1,ch,cr,ck⟩:=Z8g h.q r k w
 have s1:=s.below b1
 have km:=Zm3 (a:=a) ch cr ck (fun W b=>kf W (b1.trans (b.mono b1.size)))
 have kb:=(Z1a s1 91 _ Ze4 ht (fun _ _ _ _ _=>False) (fun k w'=>k=e/\Below w1.heap.size w1 w') (km.mono fun ev w' t=>.inr ⟨e,t.1,rfl,t.2⟩)).mono (R':=Z3s a w e) (by
  rintro ev w' (⟨_,_,_,_,_,_,hf,_⟩ | ⟨k,rfl,rfl,hb⟩)
  ·exact hf.elim
  ·exact ⟨rfl,b1.trans (hb.mono b1.size)⟩)
 rw [hw1] at kb
 clear hw1 b1 s1 ch cr ck km s kf
 go_enter func45,ntmps45
 go_wp2_with fail
 refine kb.mono ?_
 clear kb
 rintro ev w2 ⟨rfl,hP⟩
 have HP':=Z00 hP
 clear hP
 go_wp2_with fail
 go_ret
 exact ⟨rfl,HP'.out⟩
theorem Zpt (s:HS a w0 h sr m M X w) {r k t:Nat}{c v:CL}{d:ND} (hj:M.R[r]?=some c) (h4:c.kind=4) (hd:M.N[c.ref]?=some d) (h8:¬ d.kind<8) (hk:d.f[k]?=some v) (ht:t<m.R.length) :
  Calls prog 45 #[.pointer (some ⟨h.q,0,none⟩),.int .i64 (r:Int),.int .i64 (k:Int),.int .i64 (t:Int)] w fun ev w'=>ev = .returned .nilIface/\Stp a w0 h m (M.set t v) X w w':=by
 obtain ⟨f,e1,hfl,_,_,_,hm⟩:=s.hm.get t hj h4 rfl hd h8 hk
 obtain ⟨f',d',o⟩:∃ f d',ObjAt m M r c f d':=by
  rcases s.hm.rootIs hj with ⟨q,_⟩ | q
  ·exact absurd h4 q
  ·exact q
 obtain rfl:d=d':=by have:=o.has;rw [hd] at this;exact U1h this
 obtain rfl:f=f':=by have:=o.root;rw [e1] at this;have:=U1h this;omega
 have hkl:k<d.f.length:=(U0e.1 hk).1
 obtain ⟨w1,hw1,b1,ch,cr,ck⟩:=Z8g h.q r k w
 have s1:=s.below b1
 have km:=Zou s1 (y:=f+1+k) ch cr ck hfl (fun W b=>Zdg (s1.below b) o h8 hkl)
 have kb:=(Z1a s1 91 _ Ze4 ht (fun y h' sr' n' w'=>y=m.F (f+1+k)/\h'=h/\sr'=sr/\n'=m/\Below w1.heap.size w1 w') (fun _ _=>False) (km.mono fun ev w' t=>.inl ⟨_,h,sr,m,t.1,s1.at'.below t.2,rfl,ht,rfl,rfl,rfl,rfl,t.2⟩)).mono (R':=fun ev w'=>ev = .returned .nilIface/\Stp a w0 h m (M.set t v) X w w') (by
  rintro ev w' (⟨y,h',sr',n',w2,rfl,⟨rfl,rfl,rfl,rfl,hb⟩,H,N'⟩ | ⟨k,rfl,hf⟩)
  ·exact ⟨rfl,Zc5 s (Nxt.of_below _ (b1.trans (hb.mono b1.size))) N' (Dim.refl _) H hm⟩
  ·exact hf.elim)
 rw [hw1] at kb
 clear hw1 b1 s1 ch cr ck km s
 go_enter func45,ntmps45
 go_wp2_with fail
 refine kb.mono ?_
 clear kb
 rintro ev w2 ⟨rfl,hP⟩
 have HP':=Z00 hP
 clear hP
 go_wp2_with fail
 go_ret
 exact ⟨rfl,HP'.out⟩
end
end Go.Proofs.YtlkcbdinlfeoiaaGreatDoor
namespace Go.Proofs.YtlkcbdinlfeoiaaGreatDoor
open Go.Proofs.Tryz Go.RowKit
set_option maxHeartbeats 8000000
set_option maxRecDepth 100000
set_option linter.unusedSimpArgs false
section
open Go.Maps
variable {h:HP}{sr:Int}{m:MD}{w w':World}{a:Nat->Addr}{w0:World}{M:MO}{X:MXtra}
theorem Zag (args:Array Value) (w:World):(callFunc 89 args).run prog w = .ok (.enter 89 args) w:=by kernel_rfl
theorem Zlc (a:Nat->Addr) (t:ByteArray) (ht:2000<t.size) (w:World) (E:WErr a w) (bs bh:Nat) (hc:w.cell? ⟨bs,0,none⟩=some (.string t)) :
  Calls prog 89 #[.pointer (some ⟨bs,0,none⟩),.pointer (some ⟨bh,0,none⟩)] w fun ev w'=>ev = .returned (.tuple #[.int .u64 0,Z0p a 1])/\Below w.heap.size w w':=by
 have k1:=E.c1
 have c1:(2000:Int)<(t.size:Int):=by omega
 clear E
 go_enter func89,ntmps89
 go_wp2
 go_quiet (fail)
 go_wp2
 go_ret2
 exact ⟨rfl,Z03 (U01 _ _)⟩
theorem Zg9 (s:HS a w0 h sr m M X w) (r:Nat) (t:ByteArray) (hr:r<m.R.length) (ht:2000<t.size) :
  Calls prog 44 #[.pointer (some ⟨h.q,0,none⟩),.int .i64 (r:Int),.string t] w (Z3s a w 1):=by
 obtain ⟨w1,hw1⟩:∃ w1,w1=(w.alloc (.cells #[.pointer (some ⟨h.q,0,none⟩)] 25)).alloc (.cells #[.string t] 9):=⟨_,rfl⟩
 obtain ⟨n1,n2⟩:=Z3i w (.cells #[.pointer (some ⟨h.q,0,none⟩)] 25) (.cells #[.string t] 9)
 rw [<-hw1] at n1 n2
 have b1:Below w.heap.size w w1:=by rw [hw1];exact ((U01 _ _).alloc (U02 _) _).alloc (by simp) _
 have s1:=s.below b1
 have cs:w1.cell? ⟨w.heap.size+1,0,none⟩=some (.string t):=by rw [U06 _ _ _ _ _ _ n2];rfl
 have km:=Zlc a t ht w1 s1.benv.we (w.heap.size+1) w.heap.size cs
 have kb:=(Z1a s1 89 _ Zag hr (fun _ _ _ _ _=>False) (fun k w'=>k=1/\Below w1.heap.size w1 w') (km.mono fun ev w' t=>.inr ⟨1,t.1,rfl,t.2⟩)).mono (R':=Z3s a w 1) (by
  rintro ev w' (⟨_,_,_,_,_,_,hf,_⟩ | ⟨k,rfl,rfl,hb⟩)
  ·exact hf.elim
  ·exact ⟨rfl,b1.trans (hb.mono b1.size)⟩)
 rw [hw1] at kb
 clear hw1 b1 n1 n2 s1 cs km s
 go_enter func44,ntmps44
 go_wp2_with fail
 refine kb.mono ?_
 clear kb
 rintro ev w2 ⟨rfl,hP⟩
 have HP':=Z00 hP
 clear hP
 go_wp2_with fail
 go_ret
 exact ⟨rfl,HP'.out⟩
end
section
open Go.Maps
def Z1u (s:ByteArray) (i:Nat):Nat:=if h:i<s.size then s[i].toNat else 0
theorem Z92 (s:ByteArray) (i:Nat):Z1u s i<256:=by
 unfold Z1u
 split
 ·exact UInt8.toNat_lt _
 ·decide
def pv (s:ByteArray) (a:Nat):Nat->Nat
 | 0=>0
 | t+1=>pv s a t+Z1u s (8*a+t)*256 ^ t
theorem Zqt (s:ByteArray) (a:Nat):∀ t,pv s a t<256 ^ t
 | 0=>by simp [pv]
 | t+1=>by
  have h:=Zqt s a t
  have hb:=Z92 s (8*a+t)
  have:Z1u s (8*a+t)*256 ^ t<=255*256 ^ t:=Nat.mul_le_mul_right _ (by omega)
  simp only [pv,U5d]
  omega
def wv (s:ByteArray) (k a:Nat):Nat:=pv s a (min 8 (k - 8*a))
theorem Zsd (s:ByteArray) (a:Nat):wv s 0 a=0:=by simp [wv,pv]
theorem wv_lt (s:ByteArray) (k a:Nat):wv s k a<18446744073709551616:=by
 have h:=Zqt s a (min 8 (k - 8*a))
 have h2:256 ^ (min 8 (k - 8*a))<=256 ^ 8:=Nat.pow_le_pow_right (by decide) (Nat.min_le_left _ _)
 unfold wv
 have:(256:Nat) ^ 8=18446744073709551616:=by decide
 omega
theorem Zr3 (s:ByteArray) (k:Nat):wv s (k+1) (k / 8)=wv s k (k / 8)+Z1u s k*256 ^ (k % 8):=by
 have e1:min 8 (k - 8*(k / 8))=k % 8:=by omega
 have e2:min 8 (k+1 - 8*(k / 8))=k % 8+1:=by omega
 have e3:8*(k / 8)+k % 8=k:=by omega
 unfold wv
 rw [e1,e2]
 simp only [pv,e3]
theorem Zo5 (s:ByteArray) (k a:Nat) (h:a≠k / 8):wv s (k+1) a=wv s k a:=by
 unfold wv
 congr 1
 omega
theorem Zoq (s:ByteArray) (k:Nat):wv s k (k / 8)<256 ^ (k % 8):=by
 have e1:min 8 (k - 8*(k / 8))=k % 8:=by omega
 unfold wv
 rw [e1]
 exact Zqt _ _ _
theorem Zd0 (i:Nat) (w:World) (hi:i<100000) :
  Calls prog 139 #[.int .i64 (i:Int)] w fun ev w'=>ev = .returned (.int .i64 ((i:Int) % 8*8))/\w'=w:=by
 go_enter func139,ntmps139
 go_wp2
 go_ret
 exact ⟨rfl,rfl⟩
theorem Zre (x y:Int) (t:Nat) (ht:t<8) (x0:0<=x) (x1:x<256) (y0:0<=y) (y1:y<((256 ^ t:Nat):Int)):bits .or .u64 y (IntKind.u64.wrap (IntKind.u64.wrap x*2 ^ (t*8)))=y+x*((256 ^ t:Nat):Int):=by
 have e:IntKind.u64.wrap x=x:=by rw [Z0w];omega
 rw [e,Z6a]
 obtain rfl | rfl | rfl | rfl | rfl | rfl | rfl | rfl:t=0\/t=1\/t=2\/t=3\/t=4\/t=5\/t=6\/t=7:=by omega
 ·rw [Z0w,Z30 0 _ _ (by omega) (by omega) (by omega) (by omega) (by omega) (by omega)];omega
 ·rw [Z0w,Z30 8 _ _ (by omega) (by omega) (by omega) (by omega) (by omega) (by omega)];omega
 ·rw [Z0w,Z30 16 _ _ (by omega) (by omega) (by omega) (by omega) (by omega) (by omega)];omega
 ·rw [Z0w,Z30 24 _ _ (by omega) (by omega) (by omega) (by omega) (by omega) (by omega)];omega
 ·rw [Z0w,Z30 32 _ _ (by omega) (by omega) (by omega) (by omega) (by omega) (by omega)];omega
 ·rw [Z0w,Z30 40 _ _ (by omega) (by omega) (by omega) (by omega) (by omega) (by omega)];omega
 ·rw [Z0w,Z30 48 _ _ (by omega) (by omega) (by omega) (by omega) (by omega) (by omega)];omega
 ·rw [Z0w,Z30 56 _ _ (by omega) (by omega) (by omega) (by omega) (by omega) (by omega)];omega
theorem Zln (s:ByteArray) (k j:Nat) (hk:k<s.size) (hj:j=k / 8):bits .or .u64 ((wv s k j:Nat):Int) (IntKind.u64.wrap (IntKind.u64.wrap (s[k].toNat:Int)*2 ^ ((k:Int) % 8*8).toNat))=((wv s (k+1) j:Nat):Int):=by
 have e1:((k:Int) % 8*8).toNat=k % 8*8:=by omega
 have hb:=Zoq s k
 have hc:Z1u s k=s[k].toNat:=by simp [Z1u,hk]
 have hl:=Z92 s k
 rw [hc] at hl
 subst hj
 rw [e1,Zre _ _ (k % 8) (by omega) (by omega) (by omega) (by omega) (by omega),Zr3,hc,Int.natCast_add,Int.natCast_mul]
theorem Zau (w:World) (p o q:Nat) (v:Value):(w.setCell ⟨p,o,none⟩ v).frozen? ⟨p,q,none⟩=w.frozen? ⟨p,q,none⟩:=by
 simp only [World.setCell,World.frozen?,U3c]
 simp only [if_true]
 cases w.heap[p]? with
 | none=>rfl
 | some x=>cases x <;> rfl
theorem Ziz (s:ByteArray) (k j nw B:Nat) (w wr:World) (hj:j=k / 8) (hB:w.heap.size<=B) (hjn:j<nw)
  (hC:∀ a,a<nw->wr.cell? ⟨B,a,none⟩=some (.int .u64 (wv s k a:Nat))) (hF:∀ o,wr.frozen? ⟨B,o,none⟩=false) (hb:Below w.heap.size w wr) (V:Int) (hV:V=((wv s (k+1) j:Nat):Int)) :
  (∀ a,a<nw->(wr.setCell ⟨B,j,none⟩ (.int .u64 V)).drew.cell? ⟨B,a,none⟩=some (.int .u64 (wv s (k+1) a:Nat)))/\(∀ o,(wr.setCell ⟨B,j,none⟩ (.int .u64 V)).drew.frozen? ⟨B,o,none⟩=false)/\Below w.heap.size w (wr.setCell ⟨B,j,none⟩ (.int .u64 V)).drew:=by
 subst hV
 refine ⟨fun a ha => ?_,fun o => ?_,(hb.setCell hB _).drew⟩
 ·show (wr.setCell ⟨B,j,none⟩ _).cell? ⟨B,a,none⟩=_
  by_cases e:a=j
  ·subst e
   exact U2m _ _ _ (hC a hjn)
  ·rw [Z1p _ _ _ _ _ e,hC a ha,Zo5 s k a (by omega)]
 ·show (wr.setCell ⟨B,j,none⟩ _).frozen? ⟨B,o,none⟩=_
  rw [Zau]
  exact hF o
theorem Zmn (s:ByteArray) (hs:s.size<=2000) (nw:Nat) (hnw:nw=(s.size+7) / 8) (w:World) :
  Calls prog 90 #[.string s] w fun ev w'=>ev = .returned (.slice (some ⟨w.heap.size,0,none⟩) nw nw)/\(∀ a,a<nw->w'.cell? ⟨w.heap.size,a,none⟩=some (.int .u64 (wv s s.size a:Nat)))/\Below w.heap.size w w':=by
 have hmk:=Z72 nw (by omega) (((s.size:Int)+8 - 1) / 8) (by omega)
 have HN:Hid (nw=(s.size+7) / 8):=hnw
 clear hnw
 go_enter func90,ntmps90
 go_wp2_with fail
 go_loopg [13] (s.size+1) (fun gk v13 wr => ∃ k:Nat,gk=s.size+1 - k/\k<=s.size/\v13 = .int .i64 (k:Int)/\(∀ a,a<nw->wr.cell? ⟨w.heap.size,a,none⟩=some (.int .u64 (wv s k a:Nat)))/\(∀ o,wr.frozen? ⟨w.heap.size,o,none⟩=false)/\Below w.heap.size w wr)
 case atStart =>
  refine ⟨0,rfl,U0x _,rfl,fun a ha => ?_,fun o => ?_,(U01 _ _).alloc (U02 _) _⟩
  ·rw [Zsd,U06 _ _ a _ _ _ (U0b w _)]
   simp [ha]
  ·have h:=U0b w (.cells (Array.replicate nw (.int .u64 0)) 81)
   unfold World.frozen?
   rw [h]
   simp
 case round =>
  obtain ⟨k,hgk,hk,hv13,hC,hF,hb⟩:=hrel
  subst hv13
  have HG:Hid (gk=s.size+1 - k):=hgk
  clear hgk
  by_cases hlt:k<s.size
  ·have hI:(k:Int)<(s.size:Int):=by omega
   have hI0:(0:Int)<=(k:Int):=by omega
   obtain ⟨j,hj⟩:∃ j,j=k / 8:=⟨_,rfl⟩
   have hjn:j<nw:=by have:=HN.out;omega
   have hJ0:(0:Int)<=(j:Int):=by omega
   have hJ1:(j:Int)<(nw:Int):=by omega
   have hq:(k:Int).tdiv 8=(j:Int):=by rw [Int.tdiv_eq_ediv_of_nonneg (by omega)];omega
   have hq2:IntKind.i64.wrap ((k:Int).tdiv 8)=(j:Int):=by rw [hq,U1d];omega
   have hq3:IntKind.i64.wrap (j:Int)=(j:Int):=by rw [U1d];omega
   have c0:=hC j hjn
   have f0:=hF j
   have HC:Hid (∀ a,a<nw->wr.cell? ⟨w.heap.size,a,none⟩=some (.int .u64 (wv s k a:Nat))):=hC
   have HF:Hid (∀ o,wr.frozen? ⟨w.heap.size,o,none⟩=false):=hF
   have HJ:Hid (j=k / 8):=hj
   clear hC hF hj
   go_wp2_with fail
   go_region_with (go_at_call 139;refine (Zd0 k _ (by omega)).mono ?_;rintro ev w' ⟨rfl,rfl⟩)
   all_goals go_wp2_with fail
   all_goals go_roundg (s.size+1 - (k+1))
   all_goals (first | (have:=HG.out;omega) | (exact ⟨k+1,rfl,by omega,by go_num,Ziz s k j nw w.heap.size w wr HJ.out (U02 _) hjn HC.out HF.out hb _ (Zln s k j hlt HJ.out)⟩))
  ·obtain rfl:k=s.size:=by omega
   go_wp2
   go_ret
   exact ⟨rfl,hC,hb⟩
end
def tb (f:Nat->Nat) (i:Nat):Nat:=f (i / 8) / 256 ^ (i % 8) % 256
theorem Zsq:∃ i,prog.info? 5=some i/\i.zero=some (.int .u8 0)/\i.size=1/\i.bytes=1:=by
 refine ⟨(prog.info? 5).get (by kernel_rfl),?_,?_,?_,?_⟩
 ·exact (U4s _).symm
 ·kernel_rfl
 ·kernel_rfl
 ·kernel_rfl
theorem Zhw (n:Nat) (hn:n<=2400) (w:World) :
  (Instr.makeSlice 161 (.int .i64 (n:Int)) (.int .i64 (n:Int))).run prog w = .ok (.slice (some ⟨w.heap.size,0,none⟩) n n) (w.alloc (.cells (Array.replicate n (.int .u8 0)) 5)):=by
 obtain ⟨i,hi,hz,h1,h8⟩:=Zsq
 have h:=run_make (P:=prog) w 161 5 i (.int .u8 0) underlying161 hi hz .i64 .i64 (n:Int) (n:Int) (by omega) (by omega) (by rw [h8];omega) (by omega)
 rw [h,h1]
 have e:madeCells (Value.int .u8 0).cells ((n:Int).toNat*1)=Array.replicate n (.int .u8 0):=by
  apply Array.ext
  ·simp [madeCells]
  ·intro i h1 h2
   have e0:i % 1=0:=U55 i
   simp [madeCells,Value.cells,e0]
 rw [e]
 simp
theorem tb_eq (f:Nat->Nat) (k j:Nat) (hj:j=k / 8):((f j:Nat):Int) / 2 ^ (k % 8*8) % 256=((tb f k:Nat):Int):=by
 subst hj
 have e:(256:Nat) ^ (k % 8)=2 ^ (k % 8*8):=by
  rw [Nat.mul_comm,Nat.pow_mul]
 unfold tb
 rw [e]
 simp
theorem Zmv (f:Nat->Nat) (k n B:Nat) (w wr:World) (hB:w.heap.size<=B) (hk:k<n)
  (hC:∀ i,i<n->wr.cell? ⟨B,i,none⟩=some (.int .u8 ((if i<k then tb f i else 0:Nat):Int))) (hF:∀ o,wr.frozen? ⟨B,o,none⟩=false) (hb:Below w.heap.size w wr) (V:Int) (hV:V=((tb f k:Nat):Int)) :
  (∀ i,i<n->(wr.setCell ⟨B,k,none⟩ (.int .u8 V)).drew.cell? ⟨B,i,none⟩=some (.int .u8 ((if i<k+1 then tb f i else 0:Nat):Int)))/\(∀ o,(wr.setCell ⟨B,k,none⟩ (.int .u8 V)).drew.frozen? ⟨B,o,none⟩=false)/\Below w.heap.size w (wr.setCell ⟨B,k,none⟩ (.int .u8 V)).drew:=by
 subst hV
 refine ⟨fun i hi => ?_,fun o => ?_,(hb.setCell hB _).drew⟩
 ·show (wr.setCell ⟨B,k,none⟩ _).cell? ⟨B,i,none⟩=_
  by_cases e:i=k
  ·subst e
   rw [U09 (Nat.lt_succ_self _)]
   exact U2m _ _ _ (hC i hk)
  ·rw [Z1p _ _ _ _ _ e,hC i hi]
   by_cases h:i<k
   ·rw [U09 h,U09 (by omega)]
   ·rw [U08 h,U08 (by omega)]
 ·show (wr.setCell ⟨B,k,none⟩ _).frozen? ⟨B,o,none⟩=_
  rw [Zau]
  exact hF o
theorem Zkt (f:Nat->Nat) (B o nw cap n:Nat) (hnw:nw<=300) (hn:n<=8*nw) (w:World) (hW:∀ a,a<nw->w.cell? ⟨B,o+a,none⟩=some (.int .u64 (f a:Nat))) :
  Calls prog 160 #[.slice (some ⟨B,o,none⟩) nw cap,.int .i64 (n:Int)] w fun ev w'=>ev = .returned (.tuple #[.string (strOfNums ((List.range n).map fun i=>((tb f i:Nat):Int))),.nilIface])/\Below w.heap.size w w':=by
 have hmk:=Zhw n (by omega)
 have hn0:¬ (n:Int)<0:=by omega
 have hn1:¬ 8*(nw:Int)<(n:Int):=by omega
 go_enter func160,ntmps160
 go_wp2_with fail
 go_loopg [21] (n+1) (fun gk v21 wr => ∃ k:Nat,gk=n+1 - k/\k<=n/\v21 = .int .i64 (k:Int)/\(∀ i,i<n->wr.cell? ⟨w.heap.size,i,none⟩=some (.int .u8 ((if i<k then tb f i else 0:Nat):Int)))/\(∀ o,wr.frozen? ⟨w.heap.size,o,none⟩=false)/\Below w.heap.size w wr)
 case atStart =>
  refine ⟨0,rfl,U0x _,rfl,fun a ha => ?_,fun o => ?_,(U01 _ _).alloc (U02 _) _⟩
  ·rw [U06 _ _ a _ _ _ (U0b w _)]
   simp [ha]
  ·have h:=U0b w (.cells (Array.replicate n (.int .u8 0)) 5)
   unfold World.frozen?
   rw [h]
   simp
 case round =>
  obtain ⟨k,hgk,hk,hv21,hC,hF,hb⟩:=hrel
  subst hv21
  have HG:Hid (gk=n+1 - k):=hgk
  clear hgk
  by_cases hlt:k<n
  ·have hI:(k:Int)<(n:Int):=by omega
   have hI0:(0:Int)<=(k:Int):=by omega
   obtain ⟨j,hj⟩:∃ j,j=k / 8:=⟨_,rfl⟩
   have hjn:j<nw:=by omega
   have hJ0:(0:Int)<=(j:Int):=by omega
   have hJ1:(j:Int)<(nw:Int):=by omega
   have hq:(k:Int).tdiv 8=(j:Int):=by rw [Int.tdiv_eq_ediv_of_nonneg (by omega)];omega
   have hq2:IntKind.i64.wrap ((k:Int).tdiv 8)=(j:Int):=by rw [hq,U1d];omega
   have hq3:IntKind.i64.wrap (j:Int)=(j:Int):=by rw [U1d];omega
   have c0:=(hb.cell (p:=⟨B,o+j,none⟩) (Z02 (hW j hjn))).trans (hW j hjn)
   have d0:=hC k hlt
   rw [U08 (Nat.lt_irrefl k)] at d0
   have f0:=hF k
   have HC:Hid (∀ i,i<n->wr.cell? ⟨w.heap.size,i,none⟩=some (.int .u8 ((if i<k then tb f i else 0:Nat):Int))):=hC
   have HF:Hid (∀ o,wr.frozen? ⟨w.heap.size,o,none⟩=false):=hF
   have HJ:Hid (j=k / 8):=hj
   clear hC hF hj
   go_wp2_with fail
   go_region_with (go_at_call 139;refine (Zd0 k _ (by omega)).mono ?_;rintro ev w' ⟨rfl,rfl⟩)
   all_goals go_wp2_with fail
   all_goals go_roundg (n+1 - (k+1))
   all_goals (first | (have:=HG.out;omega) | (exact ⟨k+1,rfl,by omega,by go_num,Zmv f k n w.heap.size w wr (U02 _) hlt HC.out HF.out hb _ (tb_eq f k j HJ.out)⟩))
  ·obtain rfl:k=n:=by omega
   have hcv:=run_convert_bytes_arg (P:=prog) wr 161 5 underlying161 underlying5 w.heap.size 0 k k ((List.range k).map fun i=>((tb f i:Nat):Int)) (by simp) (fun i hi=>by
    rw [U1p,hC i hi,U09 hi]
    simp [hi]) 9 underlying9
   go_wp2
   go_ret2
   exact ⟨rfl,hb⟩
theorem Zqk (s:ByteArray) (a t:Nat) (h:∀ u,t<=u->Z1u s (8*a+u)=0):∀ r,pv s a (t+r)=pv s a t
 | 0=>rfl
 | r+1=>by
  rw [<-U2f]
  simp only [pv]
  rw [h (t+r) (by omega),Zqk s a t h r]
  simp
theorem Zoo (s:ByteArray) (a:Nat):wv s s.size a=pv s a 8:=by
 unfold wv
 by_cases h:8<=s.size - 8*a
 ·rw [U3a h]
 ·rw [Nat.min_eq_right (by omega)]
  have e:=Zqk s a (s.size - 8*a) (fun u hu=>by
   unfold Z1u
   rw [dif_neg (by omega)]) (8 - (s.size - 8*a))
  rw [show s.size - 8*a+(8 - (s.size - 8*a))=8 by omega] at e
  exact e.symm
theorem tb_wv (s:ByteArray) (i:Nat):tb (wv s s.size) i=Z1u s i:=by
 unfold tb
 rw [Zoo]
 have b:=fun u=>Z92 s (8*(i / 8)+u)
 have b0:=b 0
 have b1:=b 1
 have b2:=b 2
 have b3:=b 3
 have b4:=b 4
 have b5:=b 5
 have b6:=b 6
 have b7:=b 7
 have e:Z1u s i=Z1u s (8*(i / 8)+i % 8):=by
  congr 1
  omega
 rw [e]
 have hm:i % 8<8:=by omega
 simp only [pv]
 generalize i % 8=m at hm ⊢
 generalize i / 8=a at *
 obtain rfl | rfl | rfl | rfl | rfl | rfl | rfl | rfl:m=0\/m=1\/m=2\/m=3\/m=4\/m=5\/m=6\/m=7:=by omega
 all_goals
  clear e b
  generalize Z1u s (8*a+0)=x0 at *
  generalize Z1u s (8*a+1)=x1 at *
  generalize Z1u s (8*a+2)=x2 at *
  generalize Z1u s (8*a+3)=x3 at *
  generalize Z1u s (8*a+4)=x4 at *
  generalize Z1u s (8*a+5)=x5 at *
  generalize Z1u s (8*a+6)=x6 at *
  generalize Z1u s (8*a+7)=x7 at *
  simp only [Nat.reducePow]
  omega
def textB (s:ByteArray) (n:Nat):ByteArray:=strOfNums ((List.range n).map fun i=>((tb (wv s s.size) i:Nat):Int))
theorem Zib (s:ByteArray) (n:Nat):(textB s n).data.toList=(List.range n).map fun i=>UInt8.ofNat (Z1u s i):=by
 unfold textB
 rw [strOfNums_data]
 simp [tb_wv]
theorem Zhy (s:ByteArray):s.data.toList=(List.range s.size).map fun i=>UInt8.ofNat (Z1u s i):=by
 apply List.ext_getElem
 ·simp
 ·intro i h1 h2
  have h:i<s.size:=by simpa using h1
  simp [Z1u,h]
  rfl
theorem Zkp (s:ByteArray) (i:Nat):(s.extract 0 i).data.toList=s.data.toList.take i:=by
 rw [ByteArray.data_extract]
 simp
theorem Zgg (s:ByteArray) (n:Nat) (hn:n<=s.size):textB s n=s.extract 0 n:=by
 apply U59
 rw [<-U5i,Zib,Zkp,Zhy,<-U2y,List.take_range,U3a hn]
def wvs (t:ByteArray) (nw:Nat):List Int:=(List.range nw).map fun i=>((wv t t.size i:Nat):Int)
theorem Zcf (t:ByteArray) (nw:Nat):(wvs t nw).length=nw:=by unfold wvs;rw [U0v,List.length_range]
def Z22 (t:ByteArray):List Int:=(t.size:Int)::wvs t ((t.size+7) / 8)
theorem Z54 (t:ByteArray):(Z22 t).length=1+(t.size+7) / 8:=by unfold Z22;rw [U1e,Zcf];omega
theorem Zha {t:ByteArray}{i:Nat} (hi:i<(t.size+7) / 8):(Z22 t)[1+i]?=some ((wv t t.size i:Nat):Int):=by
 unfold Z22 wvs
 rw [show 1+i=i+1 from Nat.add_comm _ _,List.getElem?_cons_succ,U0g,U1u hi]
 rfl
theorem Zay (t:ByteArray):textB t t.size=t:=by
 have h:=Zgg t t.size (U02 _)
 rw [h,ByteArray.extract_zero_size]
section
open Go.Maps
theorem Z4s {P:Program} (w:World) {ops:Array Oper}{o:Oper}{a:Act}{K:Act->World->Prop}{Q:Exit->Act->World->Prop}{E:Prop} (hgd:o.guard=none) (s x:Operand) (t:TypeId)
  (ho:o.op = .call { callee:=.builtin .append,args:=#[s,x],argTypes:=#[t,t] })
  (base:Nat) (e:TypeId) (i:TypeInfo) (z:Value) (size bytes:Nat) (ht:P.underlying t=some (.slice e)) (hi:P.info? e=some i) (hz:i.zero=some z)
  (hsize:i.size=size) (hby:i.bytes=bytes) (hzs:z.cells.size=size) (hsz:0<size)
  (v:Value) (n:Nat) (xs:List Value) (hs:a.eval s=v) (hown:w.ownsRow base e size v n xs)
  (ad:Addr) (m c:Nat) (news:List Value) (hx:a.eval x = .slice (some ad) m c) (hl:news.length=m*size) (hnews:∀ j u,news[j]?=some u->w.cell? (ad.add j)=some u) (h1:∀ u∈news,u.oneCell'=true)
  (hn:0<n) (h63:n+m<=maxLen) (hbytes:(n+m)*bytes<=140737488355328) (hbase:base<=w.heap.size)
  (h:∀ g cap w',w'.ownsRow base e size (.slice (some ⟨g,0,none⟩) (n+m) cap) (n+m) (xs++news)->w.grownBy w' v.ownBlock->(v.ownBlock=some g\/g=w.heap.size)->K (a.put o.dst (.slice (some ⟨g,0,none⟩) (n+m) cap)) w') :
  if Region.wanted o (yielded ops a.tmps)=true then Oper.wp P o a w K Q else E:=by
 have hw:Region.wanted o (yielded ops a.tmps)=true:=by simp [Region.wanted,hgd]
 rw [U09 hw]
 obtain ⟨v',w',hr,h2,h3,_,h5⟩:=run_append_own_at (P:=P) w base t o.type e i z size bytes ht hi hz hsize hby hzs hsz v n xs hown ad m c news hl hnews h1 h63 hbytes hbase
 obtain ⟨g,cap,rfl,_,hlt⟩:=h2.form (by omega)
 unfold Oper.wp execOp
 simp only [ho,resolve,invoke,builtin,Sem.run_bind,Sem.run_pure,Result.andThen_ok,List.map_toArray,U1f,List.map_nil,hs,hx,hr]
 refine h g cap w' h2 h3 ?_
 rcases h5 with h5 | h5
 ·exact .inl (by rw [<-h5];rfl)
 ·exact .inr (by simpa [Value.ownBlock] using h5)
def mkTx (t:ByteArray):ND:=⟨2,Z22 t,[]⟩
theorem Z93 {t:ByteArray}{nw:Nat}{L:Int} (hn:nw=(t.size+7) / 8) (hL:L=(t.size:Int)):Z05 (Z22 t) = [.int .u64 L]++Z05 (wvs t nw):=by
 subst hn hL
 rfl
theorem Zb5 {l:List Int} : ∀ u∈Z05 l,u.oneCell'=true:=fun u h=>by
 unfold Z05 at h
 obtain ⟨x,_,rfl⟩:=U0l.1 h
 rfl
theorem Zmq {t:ByteArray} (ht:t.size<=2000):U64 (Z22 t):=fun x hx=>by
 unfold Z22 wvs at hx
 rcases U19.1 hx with rfl | hx
 ·omega
 ·obtain ⟨i,_,rfl⟩:=U0l.1 hx
  have:=wv_lt t t.size i
  omega
theorem Znf {w:World}{g B:Nat}{L:Int} (hg:w.heap[g]?=some (.cells #[.int .u64 L] 81)) (hB:B<=g):w.ownsRow B 81 1 (.slice (some ⟨g,0,none⟩) 1 1) 1 [.int .u64 L]:=
 ⟨rfl,.inr ⟨g,1,#[.int .u64 L],rfl,hB,hg,U02 _,by unfold maxLen;omega,rfl,rfl⟩⟩
theorem Zd3 {w:World}{t:ByteArray}{B nw:Nat} (h:∀ i,i<nw->w.cell? ⟨B,i,none⟩=some (.int .u64 (wv t t.size i:Nat))):∀ j u,(Z05 (wvs t nw))[j]?=some u->w.cell? ((⟨B,0,none⟩:Addr).add j)=some u:=fun j u hj=>by
 have e:(⟨B,0,none⟩:Addr).add j=⟨B,j,none⟩:=by unfold Addr.add;split <;> simp_all
 have hjl:j<nw:=by
  have:=(U0e.1 hj).1
  rwa [Z3y,Zcf] at this
 rw [e,h j hjl,<-hj]
 unfold Z05 wvs
 rw [U0g,U0g,U1u hjl]
 rfl
theorem Zip {w3 w4:World}{t:ByteArray}{B nw:Nat} (h:∀ i,i<nw->w3.cell? ⟨B,i,none⟩=some (.int .u64 (wv t t.size i:Nat))) (hb:Below w3.heap.size w3 w4):∀ i,i<nw->w4.cell? ⟨B,i,none⟩=some (.int .u64 (wv t t.size i:Nat)):=
 fun i hi=>(hb.cell (p:=⟨B,i,none⟩) (Z02 (h i hi))).trans (h i hi)
theorem Z8p {w W W':World}{v:Value}{e size n:Nat}{xs:List Value} (hb:Below w.heap.size w W) (hg:W.grownBy W' v.ownBlock) (ho:W.ownsRow w.heap.size e size v n xs):Below w.heap.size w W':=
 hb.grown hg hb.size (fun k hk=>(Z08 ho k hk).1)
variable {h:HP}{sr:Int}{m:MD}{w w':World}{a:Nat->Addr}{w0:World}{M:MO}{X:MXtra}
theorem Znm (s:HS a w0 h sr m M X w) (t:ByteArray) (ht:t.size<=2000) (bs bh:Nat) (hc:w.cell? ⟨bs,0,none⟩=some (.string t)) (ch:w.cell? ⟨bh,0,none⟩=some (.pointer (some ⟨h.q,0,none⟩))) (os:¬ h.own bs) (oh:¬ h.own bh) :
  Calls prog 89 #[.pointer (some ⟨bs,0,none⟩),.pointer (some ⟨bh,0,none⟩)] w (Z1t a w0 h m M X 2 (Z22 t) w):=by
 have c1:¬ (2000:Int)<(t.size:Int):=by omega
 have hbs:=Z02 hc
 have hbh:=Z02 ch
 obtain ⟨nw,hnw⟩:∃ nw,nw=(t.size+7) / 8:=⟨_,rfl⟩
 have hnb:nw<=250:=by omega
 obtain ⟨L,hL⟩:∃ L,L=IntKind.u64.wrap (t.size:Int):=⟨_,rfl⟩
 have HL0:Hid (L=(t.size:Int)):=by
  show _=_
  rw [hL,Z0w]
  omega
 have e0:IntKind.u64.wrap (t.size:Int)=L:=hL.symm
 have e1:(Z22 t).length=1+nw:=by rw [Z54,hnw]
 have HL:Hid (∀ W g cap,Below w.heap.size w W->W.ownsRow w.heap.size 81 1 (.slice (some ⟨g,0,none⟩) (1+nw) cap) (1+nw) (Z05 (Z22 t))->Calls prog 71 #[.pointer (some ⟨h.q,0,none⟩),.int .i64 2,.slice (some ⟨g,0,none⟩) (1+nw) cap] W fun ev w'=>Z1t a w0 h m M X 2 (Z22 t) w ev w'/\w'.cell? ⟨bs,0,none⟩=some (.string t)/\w'.cell? ⟨bh,0,none⟩=some (.pointer (some ⟨h.q,0,none⟩))):=by
  intro W g cap b1 ho
  obtain ⟨⟨ao,cap',ee,_,_,f⟩,_⟩:=Z20.of_own ho
  injection ee with ee _ _
  obtain ⟨g',eg,hB⟩:=f (by omega)
  rw [<-ee] at eg
  injection eg with eg
  injection eg with eg
  subst eg
  have hgs:=(Z08 ho g rfl).1
  rw [<-e1]
  refine (Zbr (s.below b1) 2 (Z22 t) g cap hB (s.at'.fresh hgs) (by omega) (by omega) (by rw [e1];omega) (Zmq ht) (fun h=>absurd (by decide) h)).mono fun ev w' t=>⟨t.back b1,?_,?_⟩
  ·exact t.cell ((b1.cell (p:=⟨bs,0,none⟩) hbs).trans hc) (fun e=>os e)
  ·exact t.cell ((b1.cell (p:=⟨bh,0,none⟩) hbh).trans ch) (fun e=>oh e)
 obtain ⟨q,hq⟩:∃ q,q=h.q:=⟨_,rfl⟩
 rw [<-hq] at ch HL
 have HK:Hid (∀ W,Below w.heap.size w W->Calls prog 90 #[.string t] W fun ev w'=>(ev = .returned (.slice (some ⟨W.heap.size,0,none⟩) nw nw)/\(∀ a,a<nw->w'.cell? ⟨W.heap.size,a,none⟩=some (.int .u64 (wv t t.size a:Nat)))/\Below W.heap.size W w')/\w'.cell? ⟨bs,0,none⟩=some (.string t)/\w'.cell? ⟨bh,0,none⟩=some (.pointer (some ⟨q,0,none⟩))):=fun W b=>(Zmn t ht nw hnw W).mono fun ev w' p=>⟨p,((b.trans (p.2.2.mono b.size)).cell (p:=⟨bs,0,none⟩) hbs).trans hc,((b.trans (p.2.2.mono b.size)).cell (p:=⟨bh,0,none⟩) hbh).trans ch⟩
 have HA:Hid (∀ W,Below w.heap.size w W->W.cell? ⟨bs,0,none⟩=some (.string t)/\W.cell? ⟨bh,0,none⟩=some (.pointer (some ⟨q,0,none⟩))):=fun W b=>⟨(b.cell (p:=⟨bs,0,none⟩) hbs).trans hc,(b.cell (p:=⟨bh,0,none⟩) hbh).trans ch⟩
 have bA:Hid (Below w.heap.size w (w.alloc (.cells #[.int .u64 L] 81)).drew):=((U01 w.heap.size w).alloc (U02 _) _).drew
 have bB:Hid (Below w.heap.size w w.drew):=(U01 w.heap.size w).drew
 have nA:Hid ((w.alloc (.cells #[.int .u64 L] 81)).drew.heap[w.heap.size]?=some (.cells #[.int .u64 L] 81)):=U0b _ _
 have HAA:=Z00 (HA.out _ bA.out)
 have HA0:=Z00 (HA.out _ bB.out)
 have HA1:=Z00 (HA.out _ (U01 _ _))
 have HKA:=Z00 (HK.out _ bA.out)
 have HKB:=Z00 (HK.out _ bB.out)
 have HNW:=Z00 hnw
 clear hnw HK hc ch hbs hbh hL e1 s hq os oh
 obtain ⟨g1,g2⟩:=HA1.out
 obtain ⟨i0,hi0,hz0,hz1,hz2⟩:=Zhb
 go_enter func89,ntmps89
 go_upto_region 3 with fail
 refine U3n (S:=(fun W=>W.cell? ⟨bs,0,none⟩=some (.string t)/\W.cell? ⟨bh,0,none⟩=some (.pointer (some ⟨q,0,none⟩)))) (by kernel_rfl) HA0.out (fun hHeld => ?_)
 refine U0h (i:=0) (oi:={ dst:=some 8,op:=_,type:=_,pos:=_,after:=_,guard:=_ }) (v:=?v0) rfl (by kernel_rfl) (by kernel_rfl) (by kernel_rfl) (fun _ _ _ h=>h) (Or.inl ⟨by rfl,?y0⟩) hHeld ?r0
 case y0=>(intro wz hSw;(try dsimp only at hSw);go_simp;try with_reducible rfl)
 case r0 =>
 try simp only [Act.put,U00,U04,U05]
 refine U0h (i:=1) (oi:={ dst:=some 9,op:=_,type:=_,pos:=_,after:=_,guard:=_ }) (v:=?v1) rfl (by kernel_rfl) (by kernel_rfl) (by kernel_rfl) (fun _ _ _ h=>h) (Or.inl ⟨by rfl,?y1⟩) hHeld ?r1
 case y1=>(intro wz hSw;(try dsimp only at hSw);go_simp;try with_reducible rfl)
 case r1 =>
 try simp only [Act.put,U00,U04,U05]
 refine U0h (i:=2) (oi:={ dst:=some 10,op:=_,type:=_,pos:=_,after:=_,guard:=_ }) (v:=?v2) rfl (by kernel_rfl) (by kernel_rfl) (by kernel_rfl) (fun _ _ _ h=>h) (Or.inl ⟨by rfl,?y2⟩) hHeld ?r2
 case y2=>(intro wz hSw;(try dsimp only at hSw);go_simp;try with_reducible rfl)
 case r2 =>
 try simp only [Act.put,U00,U04,U05]
 refine U0h (i:=3) (oi:={ dst:=some 11,op:=_,type:=_,pos:=_,after:=_,guard:=_ }) (v:=?v3) rfl (by kernel_rfl) (by kernel_rfl) (by kernel_rfl) (fun _ _ _ h=>h) (Or.inl ⟨by rfl,?y3⟩) hHeld ?r3
 case y3=>(intro wz hSw;(try dsimp only at hSw);go_simp;try with_reducible rfl)
 case r3 =>
 try simp only [Act.put,U00,U04,U05]
 refine U0h (i:=4) (oi:={ dst:=some 12,op:=_,type:=_,pos:=_,after:=_,guard:=_ }) (v:=?v4) rfl (by kernel_rfl) (by kernel_rfl) (by kernel_rfl) (fun _ _ _ h=>h) (Or.inl ⟨by rfl,?y4⟩) hHeld ?r4
 case y4=>(intro wz hSw;(try dsimp only at hSw);go_simp;try with_reducible rfl)
 case r4 =>
 try simp only [Act.put,U00,U04,U05]
 refine U0h (i:=5) (oi:={ dst:=some 13,op:=_,type:=_,pos:=_,after:=_,guard:=_ }) (v:=?v5) rfl (by kernel_rfl) (by kernel_rfl) (by kernel_rfl) (fun _ _ _ h=>h) (Or.inl ⟨by rfl,?y5⟩) hHeld ?r5
 case y5=>(intro wz hSw;(try dsimp only at hSw);go_simp;try with_reducible rfl)
 case r5 =>
 try simp only [Act.put,U00,U04,U05]
 refine U0h (i:=7) (oi:={ dst:=some 15,op:=_,type:=_,pos:=_,after:=_,guard:=_ }) (v:=?v6) rfl (by kernel_rfl) (by kernel_rfl) (by kernel_rfl) (fun _ _ _ h=>h) (Or.inl ⟨by rfl,?y6⟩) hHeld ?r6
 case y6=>(intro wz hSw;(try dsimp only at hSw);go_simp;try with_reducible rfl)
 case r6 =>
 try simp only [Act.put,U00,U04,U05]
 refine U11 (rs:=[6,8]) (by kernel_rfl) (by simp) ?_
 refine U0s (o:={ dst:=some 14,op:=_,type:=_,pos:=_,after:=_,guard:=_ }) rfl (fun K hK => ?_) (U0s (o:={ dst:=some 16,op:=_,type:=_,pos:=_,after:=_,guard:=_ }) rfl (fun K hK => ?_) U0z)
 ·skip
  go_simp
  refine hK.out _ _ (HAA.out) (fun hHeld => ?_)
  clear hK K
  try simp only [Act.put,U00,U04,U05]
  refine U11 (rs:=[8]) (by kernel_rfl) (by simp) ?_
  refine U0s (o:={ dst:=some 16,op:=_,type:=_,pos:=_,after:=_,guard:=_ }) rfl (fun K hK => ?_) U0z
  go_simp
  go_at_call 90
  refine HKA.out.mono ?_
  rintro ev w3 ⟨⟨rfl,hC,hB⟩,hS⟩
  have HC:=Z00 hC
  have HB:=Z00 hB
  clear hC hB
  refine hK.out _ _ (hS) (fun hHeld => ?_)
  clear hK K
  try simp only [Act.put,U00,U04,U05]
  have B3:=Z00 (bA.out.trans (HB.out.mono bA.out.size))
  have O3:=Z00 (Znf (B:=w.heap.size) (L:=L) ((HB.out.block _ (Z01 nA.out)).trans nA.out) (U02 _))
  refine U11 (rs:=[9]) (by kernel_rfl) (by simp) ?_
  refine U0s (o:={ dst:=some 17,op:=_,type:=_,pos:=_,after:=_,guard:=_ }) rfl (fun K hK => ?_) U0z
  refine Z4s _ (by rfl) _ _ _ (by rfl) w.heap.size 81 i0 (.int .u64 0) 1 8 underlying79 hi0 hz0 hz1 hz2 rfl (by decide) (.slice (some ⟨w.heap.size,0,none⟩) 1 1) 1 [.int .u64 L] rfl (O3.out) ⟨_,0,none⟩ nw nw (Z05 (wvs t nw)) rfl (by rw [Z3y,Zcf,U57]) (Zd3 HC.out) (fun u hu=>Zb5 u hu) (by omega) (by unfold maxLen;omega) (by omega) (B3.out).size ?_
  intro g' cap' wA hownA hgrowA hatA
  have BA:=Z00 (Z8p (B3.out) hgrowA (O3.out))
  have HLA:=Z00 (HL.out wA g' cap' BA.out (by rw [Z93 (nw:=nw) HNW.out HL0.out];exact hownA))
  have SA:=Z00 (HA.out wA BA.out)
  clear hownA hgrowA hatA
  refine hK.out _ _ (SA.out) (fun hHeld => ?_)
  clear hK K
  try simp only [Act.put,U00,U04,U05]
  refine U11 (rs:=[10]) (by kernel_rfl) (by simp) ?_
  refine U0s (o:={ dst:=some 18,op:=_,type:=_,pos:=_,after:=_,guard:=_ }) rfl (fun K hK => ?_) U0z
  go_simp
  go_at_call 71
  refine HLA.out.mono ?_
  rintro ev w5 ⟨hP,hS⟩
  have HP3:=Z00 hP
  obtain ⟨y3,e3,rfl⟩:=hP.forms
  clear hP
  refine hK.out _ _ (hS) (fun hHeld => ?_)
  clear hK K
  try simp only [Act.put,U00,U04,U05]
  refine U0h (i:=11) (oi:={ dst:=some 19,op:=_,type:=_,pos:=_,after:=_,guard:=_ }) (v:=?v7) rfl (by kernel_rfl) (by kernel_rfl) (by kernel_rfl) (fun _ _ _ h=>h) (Or.inl ⟨by rfl,?y7⟩) hHeld ?r7
  case y7=>(intro wz hSw;(try dsimp only at hSw);go_simp;try with_reducible rfl)
  case r7 =>
  try simp only [Act.put,U00,U04,U05]
  refine U0h (i:=12) (oi:={ dst:=some 20,op:=_,type:=_,pos:=_,after:=_,guard:=_ }) (v:=?v8) rfl (by kernel_rfl) (by kernel_rfl) (by kernel_rfl) (fun _ _ _ h=>h) (Or.inl ⟨by rfl,?y8⟩) hHeld ?r8
  case y8=>(intro wz hSw;(try dsimp only at hSw);go_simp;try with_reducible rfl)
  case r8 =>
  try simp only [Act.put,U00,U04,U05]
  refine U0h (i:=13) (oi:={ dst:=some 2,op:=_,type:=_,pos:=_,after:=_,guard:=_ }) (v:=?v9) rfl (by kernel_rfl) (by kernel_rfl) (by kernel_rfl) (fun _ _ _ h=>h) (Or.inl ⟨by rfl,?y9⟩) hHeld ?r9
  case y9=>(intro wz hSw;(try dsimp only at hSw);go_simp;try with_reducible rfl)
  case r9 =>
  try simp only [Act.put,U00,U04,U05]
  refine U11 (rs:=[14]) (by kernel_rfl) (by simp) ?_
  refine U0s (o:={ dst:=some 3,op:=_,type:=_,pos:=_,after:=_,guard:=_ }) rfl (fun K hK => ?_) U0z
  go_simp
  refine hK.out _ _ (hS) (fun hHeld => ?_)
  clear hK K
  try simp only [Act.put,U00,U04,U05]
  refine U34 (by kernel_rfl) ?_ _
  go_wp2_with fail
  go_ret2
  exact HP3.out
 ·skip
  go_simp
  go_at_call 90
  refine HKB.out.mono ?_
  rintro ev w3 ⟨⟨rfl,hC,hB⟩,hS⟩
  have HC:=Z00 hC
  have HB:=Z00 hB
  clear hC hB
  refine hK.out _ _ (hS) (fun hHeld => ?_)
  clear hK K
  try simp only [Act.put,U00,U04,U05]
  have B3:=Z00 (bB.out.trans (HB.out.mono bB.out.size))
  have SB:=Z00 (HA.out (w3.alloc (.cells #[.int .u64 L] 81)) (B3.out.trans (((U01 w3.heap.size w3).alloc (U02 _) _).mono B3.out.size)))
  refine U11 (rs:=[6]) (by kernel_rfl) (by simp) ?_
  refine U0s (o:={ dst:=some 14,op:=_,type:=_,pos:=_,after:=_,guard:=_ }) rfl (fun K hK => ?_) U0z
  go_simp
  refine hK.out _ _ (SB.out) (fun hHeld => ?_)
  clear hK K
  try simp only [Act.put,U00,U04,U05]
  have B4:Hid (Below w.heap.size w (w3.alloc (.cells #[.int .u64 L] 81))):=B3.out.trans (((U01 w3.heap.size w3).alloc (U02 _) _).mono B3.out.size)
  have O4:=Z00 (Znf (w:=(w3.alloc (.cells #[.int .u64 L] 81))) (B:=w.heap.size) (L:=L) (U0b w3 (.cells #[.int .u64 L] 81)) B3.out.size)
  have C4:=Z00 (Zip (nw:=nw) (w4:=(w3.alloc (.cells #[.int .u64 L] 81))) HC.out ((U01 w3.heap.size w3).alloc (U02 _) _))
  refine U11 (rs:=[9]) (by kernel_rfl) (by simp) ?_
  refine U0s (o:={ dst:=some 17,op:=_,type:=_,pos:=_,after:=_,guard:=_ }) rfl (fun K hK => ?_) U0z
  refine Z4s _ (by rfl) _ _ _ (by rfl) w.heap.size 81 i0 (.int .u64 0) 1 8 underlying79 hi0 hz0 hz1 hz2 rfl (by decide) (.slice (some ⟨w3.heap.size,0,none⟩) 1 1) 1 [.int .u64 L] rfl (O4.out) ⟨_,0,none⟩ nw nw (Z05 (wvs t nw)) rfl (by rw [Z3y,Zcf,U57]) (Zd3 C4.out) (fun u hu=>Zb5 u hu) (by omega) (by unfold maxLen;omega) (by omega) (B4.out).size ?_
  intro g' cap' wA hownA hgrowA hatA
  have BA:=Z00 (Z8p (B4.out) hgrowA (O4.out))
  have HLA:=Z00 (HL.out wA g' cap' BA.out (by rw [Z93 (nw:=nw) HNW.out HL0.out];exact hownA))
  have SA:=Z00 (HA.out wA BA.out)
  clear hownA hgrowA hatA
  refine hK.out _ _ (SA.out) (fun hHeld => ?_)
  clear hK K
  try simp only [Act.put,U00,U04,U05]
  refine U11 (rs:=[10]) (by kernel_rfl) (by simp) ?_
  refine U0s (o:={ dst:=some 18,op:=_,type:=_,pos:=_,after:=_,guard:=_ }) rfl (fun K hK => ?_) U0z
  go_simp
  go_at_call 71
  refine HLA.out.mono ?_
  rintro ev w5 ⟨hP,hS⟩
  have HP3:=Z00 hP
  obtain ⟨y3,e3,rfl⟩:=hP.forms
  clear hP
  refine hK.out _ _ (hS) (fun hHeld => ?_)
  clear hK K
  try simp only [Act.put,U00,U04,U05]
  refine U0h (i:=11) (oi:={ dst:=some 19,op:=_,type:=_,pos:=_,after:=_,guard:=_ }) (v:=?v10) rfl (by kernel_rfl) (by kernel_rfl) (by kernel_rfl) (fun _ _ _ h=>h) (Or.inl ⟨by rfl,?y10⟩) hHeld ?r10
  case y10=>(intro wz hSw;(try dsimp only at hSw);go_simp;try with_reducible rfl)
  case r10 =>
  try simp only [Act.put,U00,U04,U05]
  refine U0h (i:=12) (oi:={ dst:=some 20,op:=_,type:=_,pos:=_,after:=_,guard:=_ }) (v:=?v11) rfl (by kernel_rfl) (by kernel_rfl) (by kernel_rfl) (fun _ _ _ h=>h) (Or.inl ⟨by rfl,?y11⟩) hHeld ?r11
  case y11=>(intro wz hSw;(try dsimp only at hSw);go_simp;try with_reducible rfl)
  case r11 =>
  try simp only [Act.put,U00,U04,U05]
  refine U0h (i:=13) (oi:={ dst:=some 2,op:=_,type:=_,pos:=_,after:=_,guard:=_ }) (v:=?v12) rfl (by kernel_rfl) (by kernel_rfl) (by kernel_rfl) (fun _ _ _ h=>h) (Or.inl ⟨by rfl,?y12⟩) hHeld ?r12
  case y12=>(intro wz hSw;(try dsimp only at hSw);go_simp;try with_reducible rfl)
  case r12 =>
  try simp only [Act.put,U00,U04,U05]
  refine U11 (rs:=[14]) (by kernel_rfl) (by simp) ?_
  refine U0s (o:={ dst:=some 3,op:=_,type:=_,pos:=_,after:=_,guard:=_ }) rfl (fun K hK => ?_) U0z
  go_simp
  refine hK.out _ _ (hS) (fun hHeld => ?_)
  clear hK K
  try simp only [Act.put,U00,U04,U05]
  refine U34 (by kernel_rfl) ?_ _
  go_wp2_with fail
  go_ret2
  exact HP3.out
theorem Zpo (s:HS a w0 h sr m M X w) (r:Nat) (t:ByteArray) (hr:r<m.R.length) (ht:t.size<=2000) :
  Calls prog 44 #[.pointer (some ⟨h.q,0,none⟩),.int .i64 (r:Int),.string t] w (Zjg a w0 h m M X (M.made r (mkTx t)) X (1+((Z22 t).length:Int)) w):=by
 obtain ⟨w1,hw1⟩:∃ w1,w1=(w.alloc (.cells #[.pointer (some ⟨h.q,0,none⟩)] 25)).alloc (.cells #[.string t] 9):=⟨_,rfl⟩
 obtain ⟨n1,n2⟩:=Z3i w (.cells #[.pointer (some ⟨h.q,0,none⟩)] 25) (.cells #[.string t] 9)
 rw [<-hw1] at n1 n2
 have b1:Below w.heap.size w w1:=by rw [hw1];exact ((U01 _ _).alloc (U02 _) _).alloc (by simp) _
 have s1:=s.below b1
 have ch:w1.cell? ⟨w.heap.size,0,none⟩=some (.pointer (some ⟨h.q,0,none⟩)):=by rw [U06 _ _ _ _ _ _ n1];rfl
 have cs:w1.cell? ⟨w.heap.size+1,0,none⟩=some (.string t):=by rw [U06 _ _ _ _ _ _ n2];rfl
 have km:=Znm s1 t ht (w.heap.size+1) w.heap.size cs ch (s.at'.fresh (by omega)) (s.at'.fresh (by omega))
 have kb:=(Z1a s1 89 _ Zag hr (Ztv h m M X 2 (Z22 t) w1) (Zt0 a w0 h m M X (Z22 t) w1) (km.mono fun ev w' t=>Zbj s1 hr t)).mono (fun ev w' t'=>Zjg.back b1 (Z9b s1 (d:=mkTx t) rfl (by
  show (if (2:Int)<8 then Z22 t else _)=_
  rw [U09 (by decide)]) (fun h=>absurd (show (2:Int)<8 by decide) h) t'))
 have kb:Calls prog 69 _ w1 (Zjg a w0 h m M X (M.made r (mkTx t)) X (1+((Z22 t).length:Int)) w):=kb
 rw [hw1] at kb
 have HW1:=Z00 hw1
 clear hw1 b1 n1 n2 s1 ch cs km s
 go_enter func44,ntmps44
 go_wp2_with fail
 refine kb.mono ?_
 clear kb
 rintro ev w2 (⟨rfl,hP⟩ | ⟨rfl,hP⟩)
 ·have HP':=Z00 hP
  clear hP
  go_wp2_with fail
  go_ret
  exact .inl ⟨rfl,HP'.out⟩
 ·have HP':=Z00 hP
  clear hP
  go_wp2_with fail
  go_ret
  exact .inr ⟨rfl,HP'.out⟩
end
end Go.Proofs.YtlkcbdinlfeoiaaGreatDoor
