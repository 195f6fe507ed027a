/- Package mem: how many words live (Live), by a contract. -/
import Derived.Test.YtlkcbdinlfeoiaaGreatDoorMemGG
import Derived.Test.YtlkcbdinlfeoiaaGreatDoorKnAF
namespace Go.Proofs.YtlkcbdinlfeoiaaGreatDoor
open Go.RowKit Go.Maps

theorem shape_few {m:MD}{vs:List Nat} (S:m.Shape vs):vs.length≤200000:=by
 obtain ⟨l1,l2,e,e1,e2⟩:=S.bare
 have a1:=walkP_len e1
 have a2:=walkP_len e2
 obtain ⟨b0,b1,b2,b3⟩:=MD.parts S.1
 obtain ⟨⟨a0,a1',a2',a3,a4,a5⟩,hw,_,u0,u1,t0,t1,o0,o1⟩:=S.1
 rw [e,List.length_append]
 omega
theorem ge_of (a:Nat→Addr) (p bh:Nat) (m:MD) (vs:List Nat) (hS:m.Shape vs) (h64:MD64 m) (bR:m.R.length≤300000) (w:World) (E:WErr a w) (R:RepP p m w) (hH:HeadsAt w bh m.W.length (fun i=>decide (i∈vs))) (hbh:bh<w.heap.size) :
  ∃ (b cW:Nat) (vR vK vI vC:Value),GE a p b bh m.W.length cW m.half m.old m.card m.used m.top m.oldTop vR vK vI vC m.F vs w∧GR vs m.R vR w:=by
 obtain ⟨_,vR,vK,vI,vC,hp,M,⟨aW,cW,rfl,hcW,fW⟩,rR,_,_,_⟩:=R
 obtain ⟨b,rfl,lb,gW⟩:=fW (shape_len hS).1
 have hlt:∀ f∈vs,f<m.W.length:=fun f hf=>by have:=(hS.fine f hf).2;omega
 refine ⟨b,cW,vR,vK,vI,vC,⟨E,⟨(shape_len hS).2.1,hcW,hp,lb,hbh,hH,M.c3,fun i hi=>gW i _ (words_at (by unfold MD.F;rw [List.getD_eq_getElem?_getD,List.getElem?_eq_getElem hi];rfl)),md_range h64,fun f _ hf=>hS.fine f (of_decide_eq_true hf)⟩,hlt,M,shape_few hS,hS.reachy h64⟩,⟨rR,h64.r,bR,hS.roots h64⟩⟩
theorem gfield0 (a b:Value) (w:World):(Instr.field 138 (.agg #[a,b]) 0).run Tryz.prog w = .ok a w:=by kernel_rfl
def LivePost (a:Nat→Addr) (m:MD) (w:World) (ev:Ending) (w':World):Prop:=Below w.heap.size w w' ∧
 ((∃ vs,m.Shape vs∧m.cardsB=true∧ev = .returned (.tuple #[.int .i64 (m.live vs:Int),.nilIface])) ∨
  (∃ vs,m.Shape vs∧m.cardsB=false∧ev = .returned (.tuple #[.int .i64 0,errV a 4])) ∨
  ((∀ vs,¬ m.Shape vs)∧ev = .returned (.tuple #[.int .i64 0,errV a 2])))
set_option maxHeartbeats 4000000 in
set_option maxRecDepth 100000 in
theorem live_any (a:Nat→Addr) (p:Nat) (m:MD) (h64:MD64 m) (bR:m.R.length≤300000) (bK:m.K.length≤300000) (bI:m.I.length≤300000) (w:World) (E:MErr3 a w) (R:RepP p m w) :
  Calls Tryz.prog 35 #[.pointer (some ⟨p,0,none⟩)] w (LivePost a m w):=by
 have ks:=survey_any3 a p m h64 bR bK bI w E R
 have HE:=toHid E
 have HR:=toHid R
 have H64:=toHid h64
 clear E R h64
 go_enter Tryz.func35,Tryz.ntmps35
 go_wp2_with fail
 refine ks.mono ?_
 clear ks
 rintro ev w1 ⟨hb1,⟨vs,bh,hs,hC,rfl,hm,_⟩ | ⟨vs,hs,hC,rfl⟩ | ⟨hno,rfl⟩⟩
 rotate_left
 ·have HP:Hid (LivePost a m w (.returned (.tuple #[.int .i64 0,errV a 4])) w1):=⟨hb1,.inr (.inl ⟨vs,hs,hC,rfl⟩)⟩
  unfold errV at *
  clear hs hC hb1
  go_wp2_with fail
  go_ret2
  exact HP.out
 ·have HP:Hid (LivePost a m w (.returned (.tuple #[.int .i64 0,errV a 2])) w1):=⟨hb1,.inr (.inr ⟨hno,rfl⟩)⟩
  unfold errV at *
  clear hno hb1
  go_wp2_with fail
  go_ret2
  exact HP.out
 obtain ⟨cur,h1,_⟩:=id hm
 obtain ⟨b,cW,vR,vK,vI,vC,X,GRR⟩:=ge_of a p bh m vs hs H64.out bR w1 (HE.out.below hb1).we (HR.out.below hb1) hm.heads (lt_of_heap h1)
 have kr:=reach_any X m.R GRR
 have hU:=reach_outs hs H64.out
 have hfew:=X.few
 have hol:=hU.len
 obtain ⟨rr,hrr⟩:∃ rr,rr=m.reach vs:=⟨_,rfl⟩
 rw [show reachP m.F (vs.length+1) (comesP [] m.R) 0=rr from hrr.symm] at kr
 rw [←hrr] at hU hol
 have HV:Hid (∀ w',Below w.heap.size w w'→LivePost a m w (.returned (.tuple #[.int .i64 ((rr.map (fun f=>1+szN (m.F f))).sum:Nat),.nilIface])) w'):=fun w' hb=>⟨hb,.inl ⟨vs,hs,hC,by rw [hrr];rfl⟩⟩
 have HU:=toHid hU
 have HS:=toHid hs
 have HB1:=toHid hb1
 clear h1 hm X GRR hU hrr hs hC hb1
 go_wp2_with fail
 refine kr.mono ?_
 rintro ev w2 ⟨B,qm,qh,qg,vO,bm,rfl,hg,G⟩
 clear kr
 obtain ⟨vO',bm',n,D,xs,k1,k2,k3,_,_,_,_,_,_,_,_⟩:=G.gr
 rw [hg] at k1
 cases k1
 obtain ⟨oo,oc,rfl⟩:=own_slice k2
 have HROW:=toHid (rowV_own k2)
 have HK3:=toHid k3
 have HB2:Hid (Below w.heap.size w w2):=HB1.out.trans (G.below.mono HB1.out.size)
 have hgf:=gfield0
 clear hg G k2 k3
 go_wp2_with fail
 clear hgf
 go_loopg [6,22] (rr.length+1) (fun gk v6 v22 wr => ∃ (k n:Nat),gk=rr.length+1 - k∧k≤rr.length∧v22 = .int .i64 (k:Int)∧v6 = .int .i64 (n:Int)∧n≤k*4097∧Below w2.heap.size w2 wr∧Hid (n=((rr.take k).map (fun f=>1+szN (m.F f))).sum))
 case atStart=>exact ⟨0,0,rfl,Nat.zero_le _,rfl,rfl,Nat.le_refl _,Below.refl _ _,rfl⟩
 case round =>
  obtain ⟨k,n,hgk,hk,rfl,rfl,hn,hb,hsum⟩:=hrel
  have HG:=toHid hgk
  have hk0:(0:Int)≤(k:Int):=by omega
  have HB:=toHid hb
  clear hgk hb
  by_cases hlt:k<rr.length
  ·have hI:(k:Int)<(rr.length:Int):=by omega
   obtain ⟨f,hf⟩:∃ f,rr[k]?=some f:=⟨_,List.getElem?_eq_getElem hlt⟩
   have hfv:=HU.out.sub f (List.mem_of_getElem? hf)
   obtain ⟨cs,hxs,ao,cap,rfl,hcap,hao⟩:=HK3.out.2 k f hf
   obtain ⟨hfh,hfl⟩:=HS.out.fine f hfv
   obtain ⟨sz,hsz⟩:∃ sz,sz=szN (m.F f):=⟨_,rfl⟩
   have hs4:sz≤4096:=by
    have hr:=md_range H64.out f (by omega)
    unfold headB at hfh
    have:=of_decide_eq_true hfh
    rw [hsz]
    unfold szN
    omega
   obtain ⟨_,_,e,_,f1⟩:=HROW.out
   cases e
   obtain ⟨p1,o1,rfl,l1,g1⟩:=f1 (by omega)
   have r0:wr.cell? ⟨p1,o1+k*3,none⟩=some (.int .i64 (f:Int)):=(HB.out.cell (p:=⟨p1,o1+k*3,none⟩) l1).trans (g1 (k*3) _ (flat3 HK3.out.three hxs 0 (by omega)))
   have r1:wr.cell? ⟨p1,o1+k*3+1,none⟩=some (.int .i64 (m.F f / 4 % 256)):=(HB.out.cell (p:=⟨p1,o1+k*3+1,none⟩) l1).trans (g1 (k*3+1) _ (flat3 HK3.out.three hxs 1 (by omega)))
   have r2:wr.cell? ⟨p1,o1+k*3+2,none⟩=some (.slice ao sz cap):=by rw [hsz];exact (HB.out.cell (p:=⟨p1,o1+k*3+2,none⟩) l1).trans (g1 (k*3+2) _ (flat3 HK3.out.three hxs 2 (by omega)))
   have HS2:Hid (n+(1+sz)=((rr.take (k+1)).map (fun f=>1+szN (m.F f))).sum):=by show _=_;rw [sumN_step hf,←hsum.out,←hsz]
   clear g1 f1 hsum hsz hfh hfl hf hxs hcap hao
   generalize m.F f / 4 % 256=kd at *
   go_wp2_with fail
   go_roundg (rr.length+1 - (k+1))
   case measure=>have:=HG.out;omega
   case rel=>exact ⟨k+1,n+(1+sz),rfl,by omega,by go_num,by go_num,by omega,HB.out.alloc HB.out.size _,HS2⟩
  ·have hI:¬ (k:Int)<(rr.length:Int):=by omega
   have HE:Hid (n=(rr.map (fun f=>1+szN (m.F f))).sum):=by show _=_;rw [hsum.out,List.take_of_length_le (by omega)]
   go_wp2_with fail
   go_ret2
   have e:=HE.out
   rw [e]
   exact HV.out _ (HB2.out.trans (HB.out.mono HB2.out.size))
end Go.Proofs.YtlkcbdinlfeoiaaGreatDoor
