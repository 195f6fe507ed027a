/- Package heap by contracts: acts at a root that is none. -/
import Derived.Test.YtlkcbdinlfeoiaaGreatDoorKrD
namespace Go.Proofs.YtlkcbdinlfeoiaaGreatDoor
open Go.Proofs.Tryz Go.RowKit
set_option maxHeartbeats 8000000
set_option maxRecDepth 100000
section
open Go.Maps
variable {h:HP}{sr:Int}{m:MD}{w w':World}{a:Nat->Addr}{w0:World}{M:MO}{X:MXtra}
theorem Zii (s:HS a w0 h sr m M X w) (r n:Int) (hr:¬ (0<=r/\r<(m.R.length:Int))) :
  Calls prog 38 #[.pointer (some ⟨h.q,0,none⟩),.int .i64 r,.int .i64 n] w (Z3s a w 4):=by
 have kb:∀ W,Below w.heap.size w W -> ∀ f,_:=fun W hW f=>Z3a (s.below hW) f hr
 have HB:Hid (Below w.heap.size w ((w.alloc (.cells #[.pointer (some ⟨h.q,0,none⟩)] 25)).alloc (.cells #[.int .i64 n] 2))):=((U01 _ _).alloc (U02 _) _).alloc (by simp) _
 have kb:=kb ((w.alloc (.cells #[.pointer (some ⟨h.q,0,none⟩)] 25)).alloc (.cells #[.int .i64 n] 2)) HB.out
 clear s hr
 go_enter func38,ntmps38
 go_wp2_with fail
 refine (kb _).mono ?_
 clear kb
 rintro ev w2 ⟨rfl,e⟩
 have HB2:=Z00 (HB.out.trans (e.mono HB.out.size))
 clear e
 go_wp2_with fail
 go_ret
 exact ⟨rfl,HB2.out⟩
theorem Zcv (s:HS a w0 h sr m M X w) (r n:Int) (hr:¬ (0<=r/\r<(m.R.length:Int))) :
  Calls prog 32 #[.pointer (some ⟨h.q,0,none⟩),.int .i64 r,.int .i64 n] w (Z3s a w 4):=by
 have kb:∀ W,Below w.heap.size w W -> ∀ f,_:=fun W hW f=>Z3a (s.below hW) f hr
 have HB:Hid (Below w.heap.size w (w.alloc (.cells #[.int .i64 n] 3))):=(U01 _ _).alloc (U02 _) _
 have kb:=kb (w.alloc (.cells #[.int .i64 n] 3)) HB.out
 clear s hr
 go_enter func32,ntmps32
 go_wp2_with fail
 refine (kb _).mono ?_
 clear kb
 rintro ev w2 ⟨rfl,e⟩
 have HB2:=Z00 (HB.out.trans (e.mono HB.out.size))
 clear e
 go_wp2_with fail
 go_ret
 exact ⟨rfl,HB2.out⟩
theorem Zf1 (s:HS a w0 h sr m M X w) (r n:Int) (hr:¬ (0<=r/\r<(m.R.length:Int))) :
  Calls prog 31 #[.pointer (some ⟨h.q,0,none⟩),.int .i64 r,.int .i64 n] w (Z3s a w 4):=by
 have kb:∀ W,Below w.heap.size w W -> ∀ f,_:=fun W hW f=>Z3a (s.below hW) f hr
 have HB:Hid (Below w.heap.size w ((w.alloc (.cells #[.pointer (some ⟨h.q,0,none⟩)] 25)).alloc (.cells #[.int .i64 n] 3))):=((U01 _ _).alloc (U02 _) _).alloc (by simp) _
 have kb:=kb ((w.alloc (.cells #[.pointer (some ⟨h.q,0,none⟩)] 25)).alloc (.cells #[.int .i64 n] 3)) HB.out
 clear s hr
 go_enter func31,ntmps31
 go_wp2_with fail
 refine (kb _).mono ?_
 clear kb
 rintro ev w2 ⟨rfl,e⟩
 have HB2:=Z00 (HB.out.trans (e.mono HB.out.size))
 clear e
 go_wp2_with fail
 go_ret
 exact ⟨rfl,HB2.out⟩
theorem Zfu (s:HS a w0 h sr m M X w) (r:Int) (t:ByteArray) (hr:¬ (0<=r/\r<(m.R.length:Int))) :
  Calls prog 44 #[.pointer (some ⟨h.q,0,none⟩),.int .i64 r,.string t] w (Z3s a w 4):=by
 have kb:∀ W,Below w.heap.size w W -> ∀ f,_:=fun W hW f=>Z3a (s.below hW) f hr
 have HB:Hid (Below w.heap.size w ((w.alloc (.cells #[.pointer (some ⟨h.q,0,none⟩)] 25)).alloc (.cells #[.string t] 9))):=((U01 _ _).alloc (U02 _) _).alloc (by simp) _
 have kb:=kb ((w.alloc (.cells #[.pointer (some ⟨h.q,0,none⟩)] 25)).alloc (.cells #[.string t] 9)) HB.out
 clear s hr
 go_enter func44,ntmps44
 go_wp2_with fail
 refine (kb _).mono ?_
 clear kb
 rintro ev w2 ⟨rfl,e⟩
 have HB2:=Z00 (HB.out.trans (e.mono HB.out.size))
 clear e
 go_wp2_with fail
 go_ret
 exact ⟨rfl,HB2.out⟩
theorem Zj1 (s:HS a w0 h sr m M X w) (r k t:Int) (hr:¬ (0<=t/\t<(m.R.length:Int))) :
  Calls prog 45 #[.pointer (some ⟨h.q,0,none⟩),.int .i64 r,.int .i64 k,.int .i64 t] w (Z3s a w 4):=by
 have kb:∀ W,Below w.heap.size w W -> ∀ f,_:=fun W hW f=>Z3a (s.below hW) f hr
 have HB:Hid (Below w.heap.size w (((w.alloc (.cells #[.pointer (some ⟨h.q,0,none⟩)] 25)).alloc (.cells #[.int .i64 r] 3)).alloc (.cells #[.int .i64 k] 3))):=(((U01 _ _).alloc (U02 _) _).alloc (by simp) _).alloc (by simp;omega) _
 have kb:=kb (((w.alloc (.cells #[.pointer (some ⟨h.q,0,none⟩)] 25)).alloc (.cells #[.int .i64 r] 3)).alloc (.cells #[.int .i64 k] 3)) HB.out
 clear s hr
 go_enter func45,ntmps45
 go_wp2_with fail
 refine (kb _).mono ?_
 clear kb
 rintro ev w2 ⟨rfl,e⟩
 have HB2:=Z00 (HB.out.trans (e.mono HB.out.size))
 clear e
 go_wp2_with fail
 go_ret
 exact ⟨rfl,HB2.out⟩
end
section
open Go.Maps
variable {h:HP}{sr:Int}{m:MD}{w w':World}{a:Nat->Addr}{w0:World}{M:MO}{X:MXtra}
theorem Zfh (s:HS a w0 h sr m M X w) {r:Int} (hr:¬ (0<=r/\r<(m.R.length:Int))) :
  Calls prog 122 #[.pointer (some ⟨h.q,0,none⟩),.int .i64 r] w fun ev w'=>ev = .returned (.tuple #[.int .i64 0,.int .i64 0,Z0p a 4])/\Below w.heap.size w w':=by
 have kr:=s.rootNo hr
 clear s hr
 unfold Z0p at kr ⊢
 go_enter func122,ntmps122
 go_wp2_with fail
 refine kr.mono ?_
 clear kr
 rintro ev w1 ⟨rfl,b1⟩
 have HB:=Z00 b1
 clear b1
 go_wp2_with fail
 go_ret3
 exact ⟨rfl,HB.out⟩
theorem Z9w (s:HS a w0 h sr m M X w) {r:Int} (hr:¬ (0<=r/\r<(m.R.length:Int))) :
  Calls prog 72 #[.pointer (some ⟨h.q,0,none⟩),.int .i64 r] w fun ev w'=>ev = .returned (.tuple #[.int .u64 0,Z0p a 4])/\Below w.heap.size w w':=by
 have kr:=s.rootNo hr
 clear s hr
 unfold Z0p at kr ⊢
 go_enter func72,ntmps72
 go_wp2_with fail
 refine kr.mono ?_
 clear kr
 rintro ev w1 ⟨rfl,b1⟩
 have HB:=Z00 b1
 clear b1
 go_wp2_with fail
 go_ret2
 exact ⟨rfl,HB.out⟩
theorem HS.objectNo (s:HS a w0 h sr m M X w) {x:Int} (h0:0<=x) (h1:x<18446744073709551616) (hx:x % 4≠0) (W:World) (hW:Below w.heap.size w W):Calls prog 121 #[.pointer (some ⟨h.q,0,none⟩),.int .u64 x] W fun ev w'=>ev = .returned (.tuple #[.int .i64 0,Z1o 0,.bool false])/\Below W.heap.size W w':=
 Zix a h.q x h0 h1 (fun q=>hx q.1) W (s.benv.we.below hW)
theorem Z9m (s:HS a w0 h sr m M X w) {r:Nat}{c:CL} (hj:M.R[r]?=some c) (h4:c.kind≠4) :
  Calls prog 72 #[.pointer (some ⟨h.q,0,none⟩),.int .i64 (r:Int)] w fun ev w'=>ev = .returned (.tuple #[.int .u64 0,Z0p a 2])/\Below w.heap.size w w':=by
 rcases s.hm.rootIs hj with ⟨_,x,hx,h0,h1,hm⟩ | ⟨f,d,o⟩
 rotate_left
 ·exact absurd o.four h4
 obtain ⟨e1,hr⟩:=Z41 hx
 have kr:=s.rootOk hr
 rw [e1] at kr
 have ko:=s.objectNo h0 h1 hm w (U01 _ _)
 have HE:Hid (∀ W,Below w.heap.size w W->W.cell? ⟨3,0,none⟩=some (.iface 338 (.pointer (some (a 2))))):=fun W hW=>(s.benv.we.below hW).c2
 obtain ⟨q,hq⟩:∃ q,q=h.q:=⟨_,rfl⟩
 rw [<-hq] at kr ko ⊢
 unfold Z1o at ko
 unfold Z0p
 clear s hq hr h0 h1 hm hx
 go_enter func72,ntmps72
 go_wp2_with fail
 refine kr.mono ?_
 clear kr
 rintro ev w1 ⟨rfl,rfl⟩
 go_wp2_with fail
 refine ko.mono ?_
 clear ko
 rintro ev w2 ⟨rfl,b2⟩
 obtain ⟨w3,hw3⟩:∃ w3,w3=w2.alloc (.cells #[.int .i64 0,.int .i64 0,.int .i64 0,.int .i64 0] 172):=⟨_,rfl⟩
 have b3:Below w1.heap.size w1 w3:=by rw [hw3];exact b2.alloc b2.size _
 have HB3:=Z00 b3
 have g2:=HE.out w3 b3
 rw [hw3] at g2
 go_wp2_with fail
 go_quiet (fail)
 go_wp2_with fail
 go_ret2
 rw [<-hw3]
 exact ⟨rfl,Z03 HB3.out⟩
end
section
open Go.Maps
variable {h:HP}{sr:Int}{m:MD}{w w':World}{a:Nat->Addr}{w0:World}{M:MO}{X:MXtra}
theorem Zje (s:HS a w0 h sr m M X w) {r:Nat}{c:CL} (hj:M.R[r]?=some c) (h4:c.kind≠4) :
  Calls prog 122 #[.pointer (some ⟨h.q,0,none⟩),.int .i64 (r:Int)] w fun ev w'=>ev = .returned (.tuple #[.int .i64 0,.int .i64 0,Z0p a 2])/\Below w.heap.size w w':=by
 rcases s.hm.rootIs hj with ⟨_,x,hx,h0,h1,hm⟩ | ⟨f,d,o⟩
 rotate_left
 ·exact absurd o.four h4
 obtain ⟨e1,hr⟩:=Z41 hx
 have kr:=s.rootOk hr
 rw [e1] at kr
 have ko:=s.objectNo h0 h1 hm w (U01 _ _)
 have HE:Hid (∀ W,Below w.heap.size w W->W.cell? ⟨3,0,none⟩=some (.iface 338 (.pointer (some (a 2))))):=fun W hW=>(s.benv.we.below hW).c2
 obtain ⟨q,hq⟩:∃ q,q=h.q:=⟨_,rfl⟩
 rw [<-hq] at kr ko ⊢
 unfold Z1o at ko
 unfold Z0p
 clear s hq hr h0 h1 hm hx
 go_enter func122,ntmps122
 go_wp2_with fail
 refine kr.mono ?_
 clear kr
 rintro ev w1 ⟨rfl,rfl⟩
 go_wp2_with fail
 refine ko.mono ?_
 clear ko
 rintro ev w2 ⟨rfl,b2⟩
 obtain ⟨w3,hw3⟩:∃ w3,w3=w2.alloc (.cells #[.int .i64 0,.int .i64 0,.int .i64 0,.int .i64 0] 172):=⟨_,rfl⟩
 have b3:Below w1.heap.size w1 w3:=by rw [hw3];exact b2.alloc b2.size _
 have HB3:=Z00 b3
 have g2:=HE.out w3 b3
 rw [hw3] at g2
 go_wp2_with fail
 go_quiet (fail)
 go_wp2_with fail
 go_ret3
 rw [<-hw3]
 exact ⟨rfl,Z03 HB3.out⟩
theorem Zk1 (s:HS a w0 h sr m M X w) {r f:Nat}{c:CL}{d:ND} (o:ObjAt m M r c f d) (h8:d.kind<8) :
  Calls prog 122 #[.pointer (some ⟨h.q,0,none⟩),.int .i64 (r:Int)] w fun ev w'=>ev = .returned (.tuple #[.int .i64 0,.int .i64 0,Z0p a 2])/\Below w.heap.size w w':=by
 obtain ⟨e1,hr⟩:=Z41 o.root
 have kr:=s.rootOk hr
 rw [e1] at kr
 have ko:=s.objectOk o
 unfold Z1o at ko
 rw [o.kind] at ko
 have kd0:0<=d.kind:=by have:=o.kind;omega
 have kraw:=fun w=>Z21 d.kind kd0 w
 rw [U0d h8] at kraw
 have HE:Hid (∀ W,Below w.heap.size w W->W.cell? ⟨3,0,none⟩=some (.iface 338 (.pointer (some (a 2))))):=fun W hW=>(s.benv.we.below hW).c2
 obtain ⟨q,hq⟩:∃ q,q=h.q:=⟨_,rfl⟩
 rw [<-hq] at kr ko ⊢
 obtain ⟨x,hx⟩:∃ x,x=((f:Int)+1)*4:=⟨_,rfl⟩
 rw [<-hx] at kr ko
 generalize m.F f / 1024 % 16=g1 at ko
 generalize m.F f / 16384 % 2=g3 at ko
 generalize m.F f / 65536=g4 at ko
 generalize d.kind=kd at *
 unfold Z0p
 clear s o hx hq hr h8 kd0
 go_enter func122,ntmps122
 go_wp2_with fail
 refine kr.mono ?_
 clear kr
 rintro ev w1 ⟨rfl,rfl⟩
 go_wp2_with fail
 refine ko.mono ?_
 clear ko
 rintro ev w2 ⟨rfl,b2⟩
 have HB2:=Z00 b2
 obtain ⟨w3,hw3⟩:∃ w3,w3=w2.alloc (.cells #[.int .i64 kd,.int .i64 g1,.int .i64 g3,.int .i64 g4] 172):=⟨_,rfl⟩
 have n3:w3.heap[w2.heap.size]?=some (.cells #[.int .i64 kd,.int .i64 g1,.int .i64 g3,.int .i64 g4] 172):=by rw [hw3];exact U0b _ _
 have HB3:Hid (Below w1.heap.size w1 w3):=by rw [hw3];exact HB2.out.alloc HB2.out.size _
 obtain ⟨r0,r1,r2,r3,rf⟩:=Z0e n3
 have HW3:=Z00 hw3
 have g2:=HE.out w3 HB3.out
 clear b2 hw3 n3 rf
 go_upto_region 5 with fail
 rw [<-HW3.out]
 go_wp2_with fail
 refine (kraw _).mono ?_
 rintro ev w4 ⟨rfl,e4⟩
 rw [e4]
 clear e4 w4 kraw
 go_wp2_with fail
 go_quiet (fail)
 go_wp2_with fail
 go_ret3
 exact ⟨rfl,Z03 HB3.out⟩
theorem Z7a {q:Nat}{r:Int}{e:Nat} (k:Int) (km:Calls prog 122 #[.pointer (some ⟨q,0,none⟩),.int .i64 r] w fun ev w'=>ev = .returned (.tuple #[.int .i64 0,.int .i64 0,Z0p a e])/\Below w.heap.size w w') :
  Calls prog 74 #[.pointer (some ⟨q,0,none⟩),.int .i64 r,.int .i64 k] w fun ev w'=>ev = .returned (.tuple #[.int .i64 0,Z0p a e])/\Below w.heap.size w w':=by
 unfold Z0p at km ⊢
 go_enter func74,ntmps74
 go_wp2_with fail
 refine km.mono ?_
 clear km
 rintro ev w1 ⟨rfl,b1⟩
 have HB1:=Z00 b1
 clear b1
 go_wp2_with fail
 go_ret2
 exact ⟨rfl,HB1.out⟩
theorem Zcy (s:HS a w0 h sr m M X w) {r f:Nat}{k:Int}{c:CL}{d:ND} (o:ObjAt m M r c f d) (h8:¬ d.kind<8) (hk:¬ (0<=k/\k<(d.f.length:Int))) :
  Calls prog 74 #[.pointer (some ⟨h.q,0,none⟩),.int .i64 (r:Int),.int .i64 k] w fun ev w'=>ev = .returned (.tuple #[.int .i64 0,Z0p a 1])/\Below w.heap.size w w':=by
 have km:=Zhg s o h8
 have hsz:szN (m.F f)=d.f.length:=by rw [o.size,U08 h8]
 have hwl:=s.wlen
 have hfl:=o.fits
 rw [hsz] at km hfl
 have kw:=fun w=>Z0z k 0 ((d.f.length:Int) - 1) w
 rw [show (decide (0<=k) && decide (k<=(d.f.length:Int) - 1))=false by
  rcases Decidable.em (0<=k) with q | q
  ·rw [U0d q,U0k (by omega)];rfl
  ·rw [U0k q];rfl] at kw
 have e1:IntKind.i64.wrap ((d.f.length:Int) - 1)=(d.f.length:Int) - 1:=Z18 _ (by omega) (by omega)
 have HE:Hid (∀ W,Below w.heap.size w W->W.cell? ⟨0,0,none⟩=some (.iface 338 (.pointer (some (a 1))))):=fun W hW=>(s.benv.we.below hW).c1
 obtain ⟨q,hq⟩:∃ q,q=h.q:=⟨_,rfl⟩
 rw [<-hq] at km ⊢
 generalize d.f.length=L at *
 unfold Z0p
 clear s o hq h8 hsz hfl hk
 go_enter func74,ntmps74
 go_wp2_with fail
 refine km.mono ?_
 clear km
 rintro ev w1 ⟨rfl,b1⟩
 have HB1:=Z00 b1
 have g1:=HE.out w1 b1
 clear b1
 go_wp2_with fail
 refine (kw _).mono ?_
 rintro ev w4 ⟨rfl,e4⟩
 rw [e4]
 clear e4 w4 kw
 go_wp2_with fail
 go_quiet (fail)
 go_wp2_with fail
 go_ret2
 exact ⟨rfl,Z03 HB1.out⟩
end
section
open Go.Maps
variable {h:HP}{sr:Int}{m:MD}{w w':World}{a:Nat->Addr}{w0:World}{M:MO}{X:MXtra}
theorem Zcr (s:HS a w0 h sr m M X w) (r:Nat) (n:Int) (hr:r<m.R.length) (hn:n<0\/2<n) :
  Calls prog 32 #[.pointer (some ⟨h.q,0,none⟩),.int .i64 (r:Int),.int .i64 n] w (Z3s a w 1):=by
 obtain ⟨w1,hw1⟩:∃ w1,w1=w.alloc (.cells #[.int .i64 n] 3):=⟨_,rfl⟩
 have b1:Below w.heap.size w w1:=by rw [hw1];exact (U01 _ _).alloc (U02 _) _
 have n1:w1.heap[w.heap.size]?=some (.cells #[.int .i64 n] 3):=by rw [hw1];exact U0b _ _
 have s1:=s.below b1
 have cn:w1.cell? ⟨w.heap.size,0,none⟩=some (.int .i64 n):=by rw [U06 _ _ _ _ _ _ n1];rfl
 have km:=Zi2 a n hn w1 s1.benv.we w.heap.size cn
 have kb:=(Z1a s1 77 _ Z9d hr (fun _ _ _ _ _=>False) (fun k w'=>k=1/\Below w1.heap.size w1 w') (km.mono fun ev w' t=>.inr ⟨1,t.1,rfl,t.2⟩)).mono (R':=Z3s a w 1) (by
  rintro ev w' (⟨_,_,_,_,_,_,hf,_⟩ | ⟨k,rfl,rfl,hb⟩)
  ·exact hf.elim
  ·exact ⟨rfl,b1.trans (hb.mono b1.size)⟩)
 rw [hw1] at kb
 clear hw1 b1 n1 s1 cn km s
 go_enter func32,ntmps32
 go_wp2_with fail
 refine kb.mono ?_
 clear kb
 rintro ev w2 ⟨rfl,hP⟩
 have HP':=Z00 hP
 clear hP
 go_wp2_with fail
 go_ret
 exact ⟨rfl,HP'.out⟩
theorem Zij (a:Nat->Addr) (q p n cap:Nat) (ao:Option Addr) (r:Int) (hr:¬ (0<=r/\r<(n:Int))) (w:World) (c0:w.cell? ⟨q,0,none⟩=some (.pointer (some ⟨p,0,none⟩))) (c7:w.cell? ⟨p,7,none⟩=some (.slice ao n cap)) (hn:n<=5000) (E:MErr a w) :
  Calls prog 73 #[.pointer (some ⟨q,0,none⟩),.int .i64 r] w fun ev w'=>ev = .returned (.tuple #[.int .u64 0,Z0p a 4]) /\ ∃ k,w'=w.drewN k:=by
 have k:=Z0z r 0 ((n:Int) - 1) w
 rw [show (decide (0<=r) && decide (r<=(n:Int) - 1))=false by rw [U1m,U0p,U0p];omega] at k
 have k4:=E.c4
 clear E hr
 go_enter func73,ntmps73
 go_wp2_with fail
 refine k.mono ?_
 clear k
 rintro ev w1 ⟨rfl,rfl⟩
 go_wp2_with fail
 go_quiet (fail)
 go_wp2_with fail
 go_ret2
 exact ⟨rfl,_,rfl⟩
theorem HS.rootDrew (s:HS a w0 h sr m M X w) {r:Int} (hr:¬ (0<=r/\r<(m.R.length:Int))):Calls prog 73 #[.pointer (some ⟨h.q,0,none⟩),.int .i64 r] w fun ev w'=>ev = .returned (.tuple #[.int .u64 0,Z0p a 4]) /\ ∃ k,w'=w.drewN k:=by
 obtain ⟨⟨ao,cap,e⟩,_⟩:=s.at'.rows
 refine Zij a h.q h.p m.R.length cap ao r hr w s.at'.c0 ?_ s.rlen.2 s.benv.five
 rw [s.at'.cm.c7,e]
theorem Zkn (s:HS a w0 h sr m M X w) (j:Int) (bh bf:Nat) (hj:¬ (0<=j/\j<(m.R.length:Int))) (ch:w.cell? ⟨bh,0,none⟩=some (.pointer (some ⟨h.q,0,none⟩))) (cf:w.cell? ⟨bf,0,none⟩=some (.int .i64 j)) :
  Calls prog 76 #[.pointer (some ⟨bh,0,none⟩),.pointer (some ⟨bf,0,none⟩)] w fun ev w'=>ev = .returned (.tuple #[.int .u64 0,Z0p a 4])/\Below w.heap.size w w':=by
 have kr:Hid (∀ k,Calls prog 73 #[.pointer (some ⟨h.q,0,none⟩),.int .i64 j] (w.drewN k) fun ev w'=>ev = .returned (.tuple #[.int .u64 0,Z0p a 4]) /\ ∃ m,w'=(w.drewN k).drewN m):=fun k=>(s.below (w':=w.drewN k) (Z03 (U01 _ _))).rootDrew hj
 obtain ⟨q,hq⟩:∃ q,q=h.q:=⟨_,rfl⟩
 rw [<-hq] at kr ch
 unfold Z0p at kr ⊢
 clear s hq hj
 go_enter func76,ntmps76
 go_upto_region 1 with fail
 go_quiet (first | (go_at_call 73;exact U1a (kr.out _)))
 go_wp2_with fail
 go_ret2
 exact ⟨rfl,Z03 (U01 _ _)⟩
theorem Zoc (s:HS a w0 h sr m M X w) (r:Nat) (j:Int) (hr:r<m.R.length) (hj:¬ (0<=j/\j<(m.R.length:Int))) :
  Calls prog 31 #[.pointer (some ⟨h.q,0,none⟩),.int .i64 (r:Int),.int .i64 j] w (Z3s a w 4):=by
 obtain ⟨w1,hw1⟩:∃ w1,w1=(w.alloc (.cells #[.pointer (some ⟨h.q,0,none⟩)] 25)).alloc (.cells #[.int .i64 j] 3):=⟨_,rfl⟩
 obtain ⟨n1,n2⟩:=Z3i w (.cells #[.pointer (some ⟨h.q,0,none⟩)] 25) (.cells #[.int .i64 j] 3)
 rw [<-hw1] at n1 n2
 have b1:Below w.heap.size w w1:=by rw [hw1];exact ((U01 _ _).alloc (U02 _) _).alloc (by simp) _
 have s1:=s.below b1
 have ch:w1.cell? ⟨w.heap.size,0,none⟩=some (.pointer (some ⟨h.q,0,none⟩)):=by rw [U06 _ _ _ _ _ _ n1];rfl
 have cf:w1.cell? ⟨w.heap.size+1,0,none⟩=some (.int .i64 j):=by rw [U06 _ _ _ _ _ _ n2];rfl
 have km:=Zkn s1 j _ _ hj ch cf
 have kb:=(Z1a s1 76 _ Z9z hr (fun _ _ _ _ _=>False) (fun k w'=>k=4/\Below w1.heap.size w1 w') (km.mono fun ev w' t=>.inr ⟨4,t.1,rfl,t.2⟩)).mono (R':=Z3s a w 4) (by
  rintro ev w' (⟨_,_,_,_,_,_,hf,_⟩ | ⟨k,rfl,rfl,hb⟩)
  ·exact hf.elim
  ·exact ⟨rfl,b1.trans (hb.mono b1.size)⟩)
 rw [hw1] at kb
 clear hw1 b1 n1 n2 s1 ch cf km s
 go_enter func31,ntmps31
 go_wp2_with fail
 refine kb.mono ?_
 clear kb
 rintro ev w2 ⟨rfl,hP⟩
 have HP':=Z00 hP
 clear hP
 go_wp2_with fail
 go_ret
 exact ⟨rfl,HP'.out⟩
theorem Zig (s:HS a w0 h sr m M X w) (r k j:Int) (hj:¬ (0<=j/\j<(m.R.length:Int))) :
  Calls prog 30 #[.pointer (some ⟨h.q,0,none⟩),.int .i64 r,.int .i64 k,.int .i64 j] w (Z3s a w 4):=by
 have kr:=s.rootNo hj
 clear s hj
 unfold Z0p at kr
 unfold Z3s Z0p
 go_enter func30,ntmps30
 go_wp2_with fail
 refine kr.mono ?_
 clear kr
 rintro ev w1 ⟨rfl,b1⟩
 have HB:=Z00 b1
 clear b1
 go_wp2_with fail
 go_ret
 exact ⟨rfl,HB.out⟩
theorem Znz (s:HS a w0 h sr m M X w) (r k:Int) {j e:Nat} (hj:j<m.R.length)
  (kf:Calls prog 74 #[.pointer (some ⟨h.q,0,none⟩),.int .i64 r,.int .i64 k] w fun ev w'=>ev = .returned (.tuple #[.int .i64 0,Z0p a e])/\Below w.heap.size w w') :
  Calls prog 30 #[.pointer (some ⟨h.q,0,none⟩),.int .i64 r,.int .i64 k,.int .i64 (j:Int)] w (Z3s a w e):=by
 have kr:=s.rootOk hj
 generalize m.R.getD j 0=x at kr
 clear s hj
 unfold Z0p at kf
 unfold Z3s Z0p
 go_enter func30,ntmps30
 go_wp2_with fail
 refine kr.mono ?_
 clear kr
 rintro ev w1 ⟨rfl,rfl⟩
 go_wp2_with fail
 refine kf.mono ?_
 clear kf
 rintro ev w1 ⟨rfl,b1⟩
 have HB:=Z00 b1
 clear b1
 go_wp2_with fail
 go_ret
 exact ⟨rfl,HB.out⟩
theorem Zfb {q e:Nat}{r:Int} (kp:Calls prog 72 #[.pointer (some ⟨q,0,none⟩),.int .i64 r] w fun ev w'=>ev = .returned (.tuple #[.int .u64 0,Z0p a e])/\Below w.heap.size w w') :
  Calls prog 46 #[.pointer (some ⟨q,0,none⟩),.int .i64 r] w fun ev w'=>ev = .returned (.tuple #[.int .i64 0,Z0p a e])/\Below w.heap.size w w':=by
 unfold Z0p at kp ⊢
 go_enter func46,ntmps46
 go_wp2_with fail
 refine kp.mono ?_
 clear kp
 rintro ev w1 ⟨rfl,b1⟩
 have HB:=Z00 b1
 clear b1
 go_wp2_with fail
 go_ret2
 exact ⟨rfl,HB.out⟩
theorem Zlz {q e:Nat}{r:Int} (kp:Calls prog 72 #[.pointer (some ⟨q,0,none⟩),.int .i64 r] w fun ev w'=>ev = .returned (.tuple #[.int .u64 0,Z0p a e])/\Below w.heap.size w w') :
  Calls prog 29 #[.pointer (some ⟨q,0,none⟩),.int .i64 r] w fun ev w'=>ev = .returned (.tuple #[.int .i64 0,Z0p a e])/\Below w.heap.size w w':=by
 unfold Z0p at kp ⊢
 go_enter func29,ntmps29
 go_wp2_with fail
 refine kp.mono ?_
 clear kp
 rintro ev w1 ⟨rfl,b1⟩
 have HB:=Z00 b1
 clear b1
 go_wp2_with fail
 go_ret2
 exact ⟨rfl,HB.out⟩
end
section
open Go.Maps
variable {h:HP}{sr:Int}{m:MD}{w w':World}{a:Nat->Addr}{w0:World}{M:MO}{X:MXtra}
theorem Ze4 (args:Array Value) (w:World):(callFunc 91 args).run prog w = .ok (.enter 91 args) w:=by kernel_rfl
theorem Zm3 {q e bh br bk:Nat}{r k:Int} (ch:w.cell? ⟨bh,0,none⟩=some (.pointer (some ⟨q,0,none⟩))) (cr:w.cell? ⟨br,0,none⟩=some (.int .i64 r)) (ck:w.cell? ⟨bk,0,none⟩=some (.int .i64 k))
  (kf:∀ W,Below w.heap.size w W->Calls prog 74 #[.pointer (some ⟨q,0,none⟩),.int .i64 r,.int .i64 k] W fun ev w'=>ev = .returned (.tuple #[.int .i64 0,Z0p a e])/\Below W.heap.size W w') :
  Calls prog 91 #[.pointer (some ⟨bh,0,none⟩),.pointer (some ⟨br,0,none⟩),.pointer (some ⟨bk,0,none⟩)] w fun ev w'=>ev = .returned (.tuple #[.int .u64 0,Z0p a e])/\Below w.heap.size w w':=by
 have HF:Hid (∀ W,Below w.heap.size w W->Calls prog 74 #[.pointer (some ⟨q,0,none⟩),.int .i64 r,.int .i64 k] W fun ev w'=>ev = .returned (.tuple #[.int .i64 0,Z0p a e])/\Below w.heap.size w w'):=fun W b=>(kf W b).mono fun ev w' t=>⟨t.1,b.trans (t.2.mono b.size)⟩
 clear kf
 unfold Z0p at HF
 unfold Z0p
 go_enter func91,ntmps91
 go_wp2_with fail
 go_region_with ((go_at_call 74;refine (HF.out _ (by first | exact (U01 _ _).drew | exact U01 _ _)).mono ?_;rintro ev w7 ⟨rfl,hb7⟩;have HB7:=Z00 hb7;clear hb7))
 all_goals go_wp2_with fail
 all_goals go_ret2
 all_goals exact ⟨rfl,HB7.out⟩
end
section
open Go.Maps
variable {h:HP}{sr:Int}{m:MD}{w w':World}{a:Nat->Addr}{w0:World}{M:MO}{X:MXtra}
theorem Zou (s:HS a w0 h sr m M X w) {bh br bk y:Nat}{r k:Int} (ch:w.cell? ⟨bh,0,none⟩=some (.pointer (some ⟨h.q,0,none⟩))) (cr:w.cell? ⟨br,0,none⟩=some (.int .i64 r)) (ck:w.cell? ⟨bk,0,none⟩=some (.int .i64 k)) (hy:y<m.W.length)
  (kf:∀ W,Below w.heap.size w W->Calls prog 74 #[.pointer (some ⟨h.q,0,none⟩),.int .i64 r,.int .i64 k] W fun ev w'=>ev = .returned (.tuple #[.int .i64 (y:Int),.nilIface])/\Below W.heap.size W w') :
  Calls prog 91 #[.pointer (some ⟨bh,0,none⟩),.pointer (some ⟨br,0,none⟩),.pointer (some ⟨bk,0,none⟩)] w fun ev w'=>ev = .returned (.tuple #[.int .u64 (m.F y),.nilIface])/\Below w.heap.size w w':=by
 obtain ⟨q,hq⟩:∃ q,q=h.q:=⟨_,rfl⟩
 obtain ⟨p,hp⟩:∃ p,p=h.p:=⟨_,rfl⟩
 obtain ⟨g,hg⟩:∃ g,g=h.bW:=⟨_,rfl⟩
 have hbh:=Z02 ch
 rw [<-hq] at ch kf
 have HF:Hid (∀ W,Below w.heap.size w W->Calls prog 74 #[.pointer (some ⟨q,0,none⟩),.int .i64 r,.int .i64 k] W fun ev w'=>ev = .returned (.tuple #[.int .i64 (y:Int),.nilIface])/\Below w.heap.size w w'):=fun W b=>(kf W b).mono fun ev w' t=>⟨t.1,b.trans (t.2.mono b.size)⟩
 have HC:Hid (∀ W,Below w.heap.size w W->W.cell? ⟨bh,0,none⟩=some (.pointer (some ⟨q,0,none⟩))/\W.cell? ⟨q,0,none⟩=some (.pointer (some ⟨p,0,none⟩))/\W.cell? ⟨p,3,none⟩=some (.slice (some ⟨g,0,none⟩) m.W.length h.cW)/\W.cell? ⟨g,y,none⟩=some (.int .u64 (m.F y))):=fun W b=>by
  have H:=s.below b
  refine ⟨(b.cell (p:=⟨bh,0,none⟩) hbh).trans ch,?_,?_,?_⟩
  ·rw [hq,hp];exact H.at'.c0
  ·rw [hp,hg];exact H.at'.cm.c3
  ·rw [hg];exact H.wordAt hy
 have hI:(y:Int)<(m.W.length:Int):=by omega
 have hI0:(0:Int)<=(y:Int):=by omega
 generalize m.F y=x at *
 generalize m.W.length=n at *
 generalize h.cW=cap at *
 clear s kf hq hp hg hbh hy
 go_enter func91,ntmps91
 go_wp2_with fail
 go_region_with ((go_at_call 74;refine (HF.out _ (by first | exact (U01 _ _).drew | exact U01 _ _)).mono ?_;rintro ev w7 ⟨rfl,hb7⟩;have HB7:=Z00 hb7;obtain ⟨t1,t2,t3,t4⟩:=HC.out _ hb7;clear hb7))
 all_goals go_wp2_with fail
 all_goals go_ret2
 all_goals exact ⟨rfl,HB7.out⟩
end
section
open Go.Maps
variable {h:HP}{sr:Int}{m:MD}{w w':World}{a:Nat->Addr}{w0:World}{M:MO}{X:MXtra}
theorem Z8g (q:Nat) (r k:Int) (w:World):∃ w1,w1=(((w.alloc (.cells #[.pointer (some ⟨q,0,none⟩)] 25)).alloc (.cells #[.int .i64 r] 3)).alloc (.cells #[.int .i64 k] 3))/\Below w.heap.size w w1/\w1.cell? ⟨w.heap.size,0,none⟩=some (.pointer (some ⟨q,0,none⟩))/\w1.cell? ⟨w.heap.size+1,0,none⟩=some (.int .i64 r)/\w1.cell? ⟨w.heap.size+1+1,0,none⟩=some (.int .i64 k):=by
 obtain ⟨w1,hw1,b1,n1,n2,n3⟩:=Z6s w (.cells #[.pointer (some ⟨q,0,none⟩)] 25) (.cells #[.int .i64 r] 3) (.cells #[.int .i64 k] 3)
 exact ⟨w1,hw1,b1,by rw [U06 _ _ _ _ _ _ n1];rfl,by rw [U06 _ _ _ _ _ _ n2];rfl,by rw [U06 _ _ _ _ _ _ n3];rfl⟩
theorem Zo2 (s:HS a w0 h sr m M X w) (r k:Int) {t e:Nat} (ht:t<m.R.length)
  (kf:∀ W,Below w.heap.size w W->Calls prog 74 #[.pointer (some ⟨h.q,0,none⟩),.int .i64 r,.int .i64 k] W fun ev w'=>ev = .returned (.tuple #[.int .i64 0,Z0p a e])/\Below W.heap.size W w') :
  Calls prog 45 #[.pointer (some ⟨h.q,0,none⟩),.int .i64 r,.int .i64 k,.int .i64 (t:Int)] w (Z3s a w e):=by
 obtain ⟨w1,hw1,b1,ch,cr,ck⟩:=Z8g h.q r k w
 have s1:=s.below b1
 have km:=Zm3 (a:=a) ch cr ck (fun W b=>kf W (b1.trans (b.mono b1.size)))
 have kb:=(Z1a s1 91 _ Ze4 ht (fun _ _ _ _ _=>False) (fun k w'=>k=e/\Below w1.heap.size w1 w') (km.mono fun ev w' t=>.inr ⟨e,t.1,rfl,t.2⟩)).mono (R':=Z3s a w e) (by
  rintro ev w' (⟨_,_,_,_,_,_,hf,_⟩ | ⟨k,rfl,rfl,hb⟩)
  ·exact hf.elim
  ·exact ⟨rfl,b1.trans (hb.mono b1.size)⟩)
 rw [hw1] at kb
 clear hw1 b1 s1 ch cr ck km s kf
 go_enter func45,ntmps45
 go_wp2_with fail
 refine kb.mono ?_
 clear kb
 rintro ev w2 ⟨rfl,hP⟩
 have HP':=Z00 hP
 clear hP
 go_wp2_with fail
 go_ret
 exact ⟨rfl,HP'.out⟩
theorem Zpt (s:HS a w0 h sr m M X w) {r k t:Nat}{c v:CL}{d:ND} (hj:M.R[r]?=some c) (h4:c.kind=4) (hd:M.N[c.ref]?=some d) (h8:¬ d.kind<8) (hk:d.f[k]?=some v) (ht:t<m.R.length) :
  Calls prog 45 #[.pointer (some ⟨h.q,0,none⟩),.int .i64 (r:Int),.int .i64 (k:Int),.int .i64 (t:Int)] w fun ev w'=>ev = .returned .nilIface/\Stp a w0 h m (M.set t v) X w w':=by
 obtain ⟨f,e1,hfl,_,_,_,hm⟩:=s.hm.get t hj h4 rfl hd h8 hk
 obtain ⟨f',d',o⟩:∃ f d',ObjAt m M r c f d':=by
  rcases s.hm.rootIs hj with ⟨q,_⟩ | q
  ·exact absurd h4 q
  ·exact q
 obtain rfl:d=d':=by have:=o.has;rw [hd] at this;exact U1h this
 obtain rfl:f=f':=by have:=o.root;rw [e1] at this;have:=U1h this;omega
 have hkl:k<d.f.length:=(U0e.1 hk).1
 obtain ⟨w1,hw1,b1,ch,cr,ck⟩:=Z8g h.q r k w
 have s1:=s.below b1
 have km:=Zou s1 (y:=f+1+k) ch cr ck hfl (fun W b=>Zdg (s1.below b) o h8 hkl)
 have kb:=(Z1a s1 91 _ Ze4 ht (fun y h' sr' n' w'=>y=m.F (f+1+k)/\h'=h/\sr'=sr/\n'=m/\Below w1.heap.size w1 w') (fun _ _=>False) (km.mono fun ev w' t=>.inl ⟨_,h,sr,m,t.1,s1.at'.below t.2,rfl,ht,rfl,rfl,rfl,rfl,t.2⟩)).mono (R':=fun ev w'=>ev = .returned .nilIface/\Stp a w0 h m (M.set t v) X w w') (by
  rintro ev w' (⟨y,h',sr',n',w2,rfl,⟨rfl,rfl,rfl,rfl,hb⟩,H,N'⟩ | ⟨k,rfl,hf⟩)
  ·exact ⟨rfl,Zc5 s (Nxt.of_below _ (b1.trans (hb.mono b1.size))) N' (Dim.refl _) H hm⟩
  ·exact hf.elim)
 rw [hw1] at kb
 clear hw1 b1 s1 ch cr ck km s
 go_enter func45,ntmps45
 go_wp2_with fail
 refine kb.mono ?_
 clear kb
 rintro ev w2 ⟨rfl,hP⟩
 have HP':=Z00 hP
 clear hP
 go_wp2_with fail
 go_ret
 exact ⟨rfl,HP'.out⟩
end
end Go.Proofs.YtlkcbdinlfeoiaaGreatDoor
