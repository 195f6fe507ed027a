/- Package mem: how many words live (Live), by a contract. -/
import Derived.Test.YtlkcbdinlfeoiaaGreatDoorMemGG
import Derived.Test.YtlkcbdinlfeoiaaGreatDoorKnAF
namespace Go.Proofs.YtlkcbdinlfeoiaaGreatDoor
open Go.Proofs.Tryz
open Go.RowKit Go.Maps

theorem Zlm {m:MD}{vs:List Nat} (S:m.Shape vs):vs.length≤200000:=by
 obtain ⟨l1,l2,e,e1,e2⟩:=S.bare
 have a1:=Z5a e1
 have a2:=Z5a e2
 obtain ⟨b0,b1,b2,b3⟩:=MD.parts S.1
 obtain ⟨⟨a0,a1',a2',a3,a4,a5⟩,hw,_,u0,u1,t0,t1,o0,o1⟩:=S.1
 rw [e,List.length_append]
 omega
theorem Zrq (a:Nat→Addr) (p bh:Nat) (m:MD) (vs:List Nat) (hS:m.Shape vs) (h64:MD64 m) (bR:m.R.length≤300000) (w:World) (E:WErr a w) (R:Z6d p m w) (hH:Z2m w bh m.W.length (fun i=>decide (i∈vs))) (hbh:bh<w.heap.size) :
  ∃ (b cW:Nat) (vR vK vI vC:Value),GE a p b bh m.W.length cW m.half m.old m.card m.used m.top m.oldTop vR vK vI vC m.F vs w∧GR vs m.R vR w:=by
 obtain ⟨_,vR,vK,vI,vC,hp,M,⟨aW,cW,rfl,hcW,fW⟩,rR,_,_,_⟩:=R
 obtain ⟨b,rfl,lb,gW⟩:=fW (Z46 hS).1
 have hlt:∀ f∈vs,f<m.W.length:=fun f hf=>by have:=(hS.fine f hf).2;omega
 refine ⟨b,cW,vR,vK,vI,vC,⟨E,⟨(Z46 hS).2.1,hcW,hp,lb,hbh,hH,M.c3,fun i hi=>gW i _ (Z2f (by unfold MD.F;rw [List.getD_eq_getElem?_getD,List.getElem?_eq_getElem hi];rfl)),Z4q h64,fun f _ hf=>hS.fine f (of_decide_eq_true hf)⟩,hlt,M,Zlm hS,hS.reachy h64⟩,⟨rR,h64.r,bR,hS.roots h64⟩⟩
theorem Zkm (a b:Value) (w:World):(Instr.field 138 (.agg #[a,b]) 0).run prog w = .ok a w:=by kernel_rfl
def Z80 (a:Nat→Addr) (m:MD) (w:World) (ev:Ending) (w':World):Prop:=Below w.heap.size w w' ∧
 ((∃ vs,m.Shape vs∧m.cardsB=true∧ev = .returned (.tuple #[.int .i64 (m.live vs:Int),.nilIface])) ∨
  (∃ vs,m.Shape vs∧m.cardsB=false∧ev = .returned (.tuple #[.int .i64 0,Z0r a 4])) ∨
  ((∀ vs,¬ m.Shape vs)∧ev = .returned (.tuple #[.int .i64 0,Z0r a 2])))
set_option maxHeartbeats 4000000 in
set_option maxRecDepth 100000 in
theorem Zor (a:Nat→Addr) (p:Nat) (m:MD) (h64:MD64 m) (bR:m.R.length≤300000) (bK:m.K.length≤300000) (bI:m.I.length≤300000) (w:World) (E:MErr3 a w) (R:Z6d p m w) :
  Calls prog 35 #[.pointer (some ⟨p,0,none⟩)] w (Z80 a m w):=by
 have ks:=Z4p a p m h64 bR bK bI w E R
 have HE:=Z00 E
 have HR:=Z00 R
 have H64:=Z00 h64
 clear E R h64
 go_enter func35,ntmps35
 go_wp2_with fail
 refine ks.mono ?_
 clear ks
 rintro ev w1 ⟨hb1,⟨vs,bh,hs,hC,rfl,hm,_⟩ | ⟨vs,hs,hC,rfl⟩ | ⟨hno,rfl⟩⟩
 rotate_left
 ·have HP:Hid (Z80 a m w (.returned (.tuple #[.int .i64 0,Z0r a 4])) w1):=⟨hb1,.inr (.inl ⟨vs,hs,hC,rfl⟩)⟩
  unfold Z0r at *
  clear hs hC hb1
  go_wp2_with fail
  go_ret2
  exact HP.out
 ·have HP:Hid (Z80 a m w (.returned (.tuple #[.int .i64 0,Z0r a 2])) w1):=⟨hb1,.inr (.inr ⟨hno,rfl⟩)⟩
  unfold Z0r at *
  clear hno hb1
  go_wp2_with fail
  go_ret2
  exact HP.out
 obtain ⟨cur,h1,_⟩:=id hm
 obtain ⟨b,cW,vR,vK,vI,vC,X,GRR⟩:=Zrq a p bh m vs hs H64.out bR w1 (HE.out.below hb1).we (HR.out.below hb1) hm.heads (Z01 h1)
 have kr:=Z8h X m.R GRR
 have hU:=Z15 hs H64.out
 have hfew:=X.few
 have hol:=hU.len
 obtain ⟨rr,hrr⟩:∃ rr,rr=m.reach vs:=⟨_,rfl⟩
 rw [show Z0z m.F (vs.length+1) (Z0o [] m.R) 0=rr from hrr.symm] at kr
 rw [←hrr] at hU hol
 have HV:Hid (∀ w',Below w.heap.size w w'→Z80 a m w (.returned (.tuple #[.int .i64 ((rr.map (fun f=>1+szN (m.F f))).sum:Nat),.nilIface])) w'):=fun w' hb=>⟨hb,.inl ⟨vs,hs,hC,by rw [hrr];rfl⟩⟩
 have HU:=Z00 hU
 have HS:=Z00 hs
 have HB1:=Z00 hb1
 clear h1 hm X GRR hU hrr hs hC hb1
 go_wp2_with fail
 refine kr.mono ?_
 rintro ev w2 ⟨B,qm,qh,qg,vO,bm,rfl,hg,G⟩
 clear kr
 obtain ⟨vO',bm',n,D,xs,k1,k2,k3,_,_,_,_,_,_,_,_⟩:=G.gr
 rw [hg] at k1
 cases k1
 obtain ⟨oo,oc,rfl⟩:=Z1s k2
 have HROW:=Z00 (Z2d k2)
 have HK3:=Z00 k3
 have HB2:Hid (Below w.heap.size w w2):=HB1.out.trans (G.below.mono HB1.out.size)
 have hgf:=Zkm
 clear hg G k2 k3
 go_wp2_with fail
 clear hgf
 go_loopg [6,22] (rr.length+1) (fun gk v6 v22 wr => ∃ (k n:Nat),gk=rr.length+1 - k∧k≤rr.length∧v22 = .int .i64 (k:Int)∧v6 = .int .i64 (n:Int)∧n≤k*4097∧Below w2.heap.size w2 wr∧Hid (n=((rr.take k).map (fun f=>1+szN (m.F f))).sum))
 case atStart=>exact ⟨0,0,rfl,Nat.zero_le _,rfl,rfl,Nat.le_refl _,Below.refl _ _,rfl⟩
 case round =>
  obtain ⟨k,n,hgk,hk,rfl,rfl,hn,hb,hsum⟩:=hrel
  have HG:=Z00 hgk
  have hk0:(0:Int)≤(k:Int):=by omega
  have HB:=Z00 hb
  clear hgk hb
  by_cases hlt:k<rr.length
  ·have hI:(k:Int)<(rr.length:Int):=by omega
   obtain ⟨f,hf⟩:∃ f,rr[k]?=some f:=⟨_,List.getElem?_eq_getElem hlt⟩
   have hfv:=HU.out.sub f (List.mem_of_getElem? hf)
   obtain ⟨cs,hxs,ao,cap,rfl,hcap,hao⟩:=HK3.out.2 k f hf
   obtain ⟨hfh,hfl⟩:=HS.out.fine f hfv
   obtain ⟨sz,hsz⟩:∃ sz,sz=szN (m.F f):=⟨_,rfl⟩
   have hs4:sz≤4096:=by
    have hr:=Z4q H64.out f (by omega)
    unfold Z0u at hfh
    have:=of_decide_eq_true hfh
    rw [hsz]
    unfold szN
    omega
   obtain ⟨_,_,e,_,f1⟩:=HROW.out
   cases e
   obtain ⟨p1,o1,rfl,l1,g1⟩:=f1 (by omega)
   have r0:wr.cell? ⟨p1,o1+k*3,none⟩=some (.int .i64 (f:Int)):=(HB.out.cell (p:=⟨p1,o1+k*3,none⟩) l1).trans (g1 (k*3) _ (Z76 HK3.out.three hxs 0 (by omega)))
   have r1:wr.cell? ⟨p1,o1+k*3+1,none⟩=some (.int .i64 (m.F f / 4 % 256)):=(HB.out.cell (p:=⟨p1,o1+k*3+1,none⟩) l1).trans (g1 (k*3+1) _ (Z76 HK3.out.three hxs 1 (by omega)))
   have r2:wr.cell? ⟨p1,o1+k*3+2,none⟩=some (.slice ao sz cap):=by rw [hsz];exact (HB.out.cell (p:=⟨p1,o1+k*3+2,none⟩) l1).trans (g1 (k*3+2) _ (Z76 HK3.out.three hxs 2 (by omega)))
   have HS2:Hid (n+(1+sz)=((rr.take (k+1)).map (fun f=>1+szN (m.F f))).sum):=by show _=_;rw [Zkt hf,←hsum.out,←hsz]
   clear g1 f1 hsum hsz hfh hfl hf hxs hcap hao
   generalize m.F f / 4 % 256=kd at *
   go_wp2_with fail
   go_roundg (rr.length+1 - (k+1))
   case measure=>have:=HG.out;omega
   case rel=>exact ⟨k+1,n+(1+sz),rfl,by omega,by go_num,by go_num,by omega,HB.out.alloc HB.out.size _,HS2⟩
  ·have hI:¬ (k:Int)<(rr.length:Int):=by omega
   have HE:Hid (n=(rr.map (fun f=>1+szN (m.F f))).sum):=by show _=_;rw [hsum.out,List.take_of_length_le (by omega)]
   go_wp2_with fail
   go_ret2
   have e:=HE.out
   rw [e]
   exact HV.out _ (HB2.out.trans (HB.out.mono HB2.out.size))
end Go.Proofs.YtlkcbdinlfeoiaaGreatDoor
