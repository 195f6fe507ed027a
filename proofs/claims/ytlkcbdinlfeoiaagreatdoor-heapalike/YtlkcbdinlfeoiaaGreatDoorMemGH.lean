/- Package mem: how many words live (Live), by a contract. -/
import Derived.Test.YtlkcbdinlfeoiaaGreatDoorMemGG
namespace Go.Proofs.YtlkcbdinlfeoiaaGreatDoor
open Go.Proofs.Tryz Go.RowKit
set_option maxHeartbeats 8000000
set_option maxRecDepth 100000
section
open Go.Maps
theorem Zla {m:MD}{vs:List Nat} (S:m.Shape vs):vs.length<=200000:=by
 obtain ⟨l1,l2,e,e1,e2⟩:=S.bare
 have a1:=Z4w e1
 have a2:=Z4w e2
 obtain ⟨b0,b1,b2,b3⟩:=MD.parts S.1
 obtain ⟨⟨a0,a1',a2',a3,a4,a5⟩,hw,_,u0,u1,t0,t1,o0,o1⟩:=S.1
 rw [e,U0f]
 omega
theorem Zti (a:Nat->Addr) (p bh:Nat) (m:MD) (vs:List Nat) (hS:m.Shape vs) (h64:MD64 m) (bR:m.R.length<=300000) (w:World) (E:WErr a w) (R:Z86 p m w) (hH:Z2m w bh m.W.length (fun i=>decide (i∈vs))) (hbh:bh<w.heap.size) :
  ∃ (b cW:Nat) (vR vK vI vC:Value),GE a p b bh m.W.length cW m.half m.old m.card m.used m.top m.oldTop vR vK vI vC m.F vs w/\GR vs m.R vR w:=by
 obtain ⟨_,vR,vK,vI,vC,hp,M,⟨aW,cW,rfl,hcW,fW⟩,rR,_,_,_⟩:=R
 obtain ⟨b,rfl,lb,gW⟩:=fW (Z4d hS).1
 have hlt:∀ f∈vs,f<m.W.length:=fun f hf=>by have:=(hS.fine f hf).2;omega
 refine ⟨b,cW,vR,vK,vI,vC,⟨E,⟨(Z4d hS).2.1,hcW,hp,lb,hbh,hH,M.c3,fun i hi=>gW i _ (Z2d (by unfold MD.F;rw [U07,U03 hi];rfl)),Z5c h64,fun f _ hf=>hS.fine f (U0j hf)⟩,hlt,M,Zla hS,hS.reachy h64⟩,⟨rR,h64.r,bR,hS.roots h64⟩⟩
theorem Zqq (a b:Value) (w:World):(Instr.field 138 (.agg #[a,b]) 0).run prog w = .ok a w:=by kernel_rfl
end
end Go.Proofs.YtlkcbdinlfeoiaaGreatDoor
