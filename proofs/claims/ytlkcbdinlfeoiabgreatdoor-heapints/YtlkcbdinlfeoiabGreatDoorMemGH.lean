/- Package mem: how many words live (Live), by a contract. -/
import Derived.Test.YtlkcbdinlfeoiabGreatDoorMemGG
import Derived.Test.YtlkcbdinlfeoiabGreatDoorKnAF
namespace Go.Proofs.YtlkcbdinlfeoiabGreatDoor
open Go.RowKit Go.Maps

theorem shape_few {m:MD}{vs:List Nat} (S:m.Shape vs):vs.length≤200000:=by
 obtain ⟨l1,l2,e,e1,e2⟩:=S.bare
 have a1:=walkP_len e1
 have a2:=walkP_len e2
 obtain ⟨b0,b1,b2,b3⟩:=MD.parts S.1
 obtain ⟨⟨a0,a1',a2',a3,a4,a5⟩,hw,_,u0,u1,t0,t1,o0,o1⟩:=S.1
 rw [e,List.length_append]
 omega
theorem ge_of (a:Nat→Addr) (p bh:Nat) (m:MD) (vs:List Nat) (hS:m.Shape vs) (h64:MD64 m) (bR:m.R.length≤300000) (w:World) (E:WErr a w) (R:RepP p m w) (hH:HeadsAt w bh m.W.length (fun i=>decide (i∈vs))) (hbh:bh<w.heap.size) :
  ∃ (b cW:Nat) (vR vK vI vC:Value),GE a p b bh m.W.length cW m.half m.old m.card m.used m.top m.oldTop vR vK vI vC m.F vs w∧GR vs m.R vR w:=by
 obtain ⟨_,vR,vK,vI,vC,hp,M,⟨aW,cW,rfl,hcW,fW⟩,rR,_,_,_⟩:=R
 obtain ⟨b,rfl,lb,gW⟩:=fW (shape_len hS).1
 have hlt:∀ f∈vs,f<m.W.length:=fun f hf=>by have:=(hS.fine f hf).2;omega
 refine ⟨b,cW,vR,vK,vI,vC,⟨E,⟨(shape_len hS).2.1,hcW,hp,lb,hbh,hH,M.c3,fun i hi=>gW i _ (words_at (by unfold MD.F;rw [List.getD_eq_getElem?_getD,List.getElem?_eq_getElem hi];rfl)),md_range h64,fun f _ hf=>hS.fine f (of_decide_eq_true hf)⟩,hlt,M,shape_few hS,hS.reachy h64⟩,⟨rR,h64.r,bR,hS.roots h64⟩⟩
theorem gfield0 (a b:Value) (w:World):(Instr.field 120 (.agg #[a,b]) 0).run Tryz.prog w = .ok a w:=by kernel_rfl
end Go.Proofs.YtlkcbdinlfeoiabGreatDoor
