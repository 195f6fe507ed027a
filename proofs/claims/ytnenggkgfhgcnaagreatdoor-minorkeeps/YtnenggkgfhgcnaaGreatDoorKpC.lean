/- A memory of one's own whose roots grow. -/
import Derived.Test.YtnenggkgfhgcnaaGreatDoorKpB
import Derived.Test.YtnenggkgfhgcnaaGreatDoorMemSB
import Derived.Deep.AppendLies
namespace Go.Proofs.YtnenggkgfhgcnaaGreatDoor
open Go.RowKit Go.Maps

def kB (bx:Nat) (vW vR vK vI vC:Value) (k:Nat):Prop:=k=bx∨vW.ownBlock=some k∨vR.ownBlock=some k∨vK.ownBlock=some k∨vI.ownBlock=some k∨vC.ownBlock=some k
def GrR (B bx:Nat) (m:MD) (vW vR vK vI vC:Value) (w:World):Prop:=OwnK B bx m vW vR vK vI vC w ∧ ∀ g,vR.ownBlock=some g→vK.ownBlock≠some g∧vI.ownBlock≠some g
theorem GrR.lt {B bx:Nat}{m:MD}{vW vR vK vI vC:Value}{w:World}(h:GrR B bx m vW vR vK vI vC w):∀ k,kB bx vW vR vK vI vC k→B≤k∧k<w.heap.size:=fun k hk=>by
 obtain ⟨⟨h0,hO,r1,r2,r3,r4,r5,_⟩,_⟩:=h
 rcases hk with rfl | hk | hk | hk | hk | hk
 ·exact ⟨h0,lt_of_heap hO⟩
 ·exact own_lt2 r1 k hk
 ·exact own_lt2 r2 k hk
 ·exact own_lt2 r3 k hk
 ·exact own_lt2 r4 k hk
 ·exact own_lt2 r5 k hk
theorem GrR.aside {X:Nat→Prop}{B bx:Nat}{m:MD}{vW vR vK vI vC:Value}{w w':World}(h:GrR B bx m vW vR vK vI vC w) (ha:Aside X w w') (hx:∀ k,kB bx vW vR vK vI vC k → ¬ X k):GrR B bx m vW vR vK vI vC w':=by
 have hl:=h.lt
 have f:∀ k,kB bx vW vR vK vI vC k→w'.heap[k]?=w.heap[k]?:=fun k hk=>ha.block k (hl k hk).2 (hx k hk)
 obtain ⟨⟨h0,hO,r1,r2,r3,r4,r5,hr⟩,h2⟩:=h
 exact ⟨⟨h0,(f bx (Or.inl rfl)).trans hO,ownsRow_far' r1 (fun k hk=>f k (Or.inr (Or.inl hk))),ownsRow_far' r2 (fun k hk=>f k (Or.inr (Or.inr (Or.inl hk)))),ownsRow_far' r3 (fun k hk=>f k (Or.inr (Or.inr (Or.inr (Or.inl hk))))),ownsRow_far' r4 (fun k hk=>f k (Or.inr (Or.inr (Or.inr (Or.inr (Or.inl hk)))))),ownsRow_far' r5 (fun k hk=>f k (Or.inr (Or.inr (Or.inr (Or.inr (Or.inr hk)))))),hr⟩,h2⟩
theorem GrR.below {B bx:Nat}{m:MD}{vW vR vK vI vC:Value}{w w':World}(h:GrR B bx m vW vR vK vI vC w) (hb:Below w.heap.size w w'):GrR B bx m vW vR vK vI vC w':=h.aside (X:=fun _=>False) (Aside.of_below hb) (fun _ _ h=>h)
theorem GrR.next {B bx g cap:Nat}{m:MD}{vW vR vK vI vC:Value}{x:Int}{w W w8:World}(h:GrR B bx m vW vR vK vI vC w) (hb:Below w.heap.size w W) (hg:W.grownBy w8 vR.ownBlock) (hgb:vR.ownBlock=some g∨g=W.heap.size) (ho:w8.ownsRow B 50 1 (.slice (some ⟨g,0,none⟩) (m.R.length+1) cap) (m.R.length+1) (wordsV m.R ++ [.int .u64 x])) :
  OB 30 bx m.half m.old m.card vW m.used m.top m.oldTop vR vK vI vC w8∧GrR B bx (m.more [x]) vW (.slice (some ⟨g,0,none⟩) (m.R.length+1) cap) vK vI vC (w8.setCell ⟨bx,7,none⟩ (.slice (some ⟨g,0,none⟩) (m.R.length+1) cap))∧Aside (kB bx vW vR vK vI vC) w (w8.setCell ⟨bx,7,none⟩ (.slice (some ⟨g,0,none⟩) (m.R.length+1) cap)) ∧
  ∀ k,kB bx vW (.slice (some ⟨g,0,none⟩) (m.R.length+1) cap) vK vI vC k→kB bx vW vR vK vI vC k∨w.heap.size≤k:=by
 have hl:=h.lt
 obtain ⟨⟨h0,hO,r1,r2,r3,r4,r5,d1,d2,d3⟩,h2⟩:=(h.below hb)
 have hbx:bx<W.heap.size:=lt_of_heap hO
 have hgx:∀ k,kB bx vW vR vK vI vC k→k<W.heap.size:=fun k hk=>Nat.lt_of_lt_of_le (hl k hk).2 hb.size
 -- the new row's block is none of the others
 have hgne:∀ k,(k=bx∨vW.ownBlock=some k∨vK.ownBlock=some k∨vI.ownBlock=some k∨vC.ownBlock=some k)→k≠g:=fun k hk e=>by
  rw [e] at hk
  rcases hgb with hR | hR
  ·rcases hk with hk | hk | hk | hk | hk
   ·exact d1 vR (by simp) (by rw [←hk];exact hR)
   ·exact d2 vR (by simp) g hk hR
   ·exact (h2 g hR).1 hk
   ·exact (h2 g hR).2 hk
   ·exact d3 vR (by simp) g hk hR
  ·have:g<W.heap.size:=hgx g (by
    rcases hk with hk | hk | hk | hk | hk
    ·exact Or.inl hk
    ·exact Or.inr (Or.inl hk)
    ·exact Or.inr (Or.inr (Or.inr (Or.inl hk)))
    ·exact Or.inr (Or.inr (Or.inr (Or.inr (Or.inl hk))))
    ·exact Or.inr (Or.inr (Or.inr (Or.inr (Or.inr hk)))))
   omega
 have hRne:∀ k,(k=bx∨vW.ownBlock=some k∨vK.ownBlock=some k∨vI.ownBlock=some k∨vC.ownBlock=some k)→some k≠vR.ownBlock:=fun k hk e=>by
  rcases hk with hk | hk | hk | hk | hk
  ·exact d1 vR (by simp) (by rw [←hk];exact e.symm)
  ·exact d2 vR (by simp) k hk e.symm
  ·exact (h2 k e.symm).1 hk
  ·exact (h2 k e.symm).2 hk
  ·exact d3 vR (by simp) k hk e.symm
 have f:∀ k,k<W.heap.size→(k=bx∨vW.ownBlock=some k∨vK.ownBlock=some k∨vI.ownBlock=some k∨vC.ownBlock=some k)→w8.heap[k]?=W.heap[k]?:=fun k hk hx=>hg.block k hk (hRne k hx)
 have hO8:=(f bx hbx (Or.inl rfl)).trans hO
 obtain ⟨v,hv⟩:∃ v:Value,v = .slice (some ⟨g,0,none⟩) (m.R.length+1) cap:=⟨_,rfl⟩
 have hvo:v.ownBlock=some g:=by rw [hv];rfl
 rw [←hv] at ho ⊢
 have s9:∀ k,k≠bx→(w8.setCell ⟨bx,7,none⟩ v).heap[k]?=w8.heap[k]?:=fun k hk=>Below.heap_setCell _ _ _ _ hk
 have fr:∀ {t k n:Nat}{u:Value}{xs:List Value},W.ownsRow B t k u n xs→(u=vW∨u=vK∨u=vI∨u=vC)→(w8.setCell ⟨bx,7,none⟩ v).ownsRow B t k u n xs:=fun {t k n u xs} hr hu=>ownsRow_far' hr fun j hj=>by
  have hc:j=bx∨vW.ownBlock=some j∨vK.ownBlock=some j∨vI.ownBlock=some j∨vC.ownBlock=some j:=by
   rcases hu with rfl | rfl | rfl | rfl
   ·exact Or.inr (Or.inl hj)
   ·exact Or.inr (Or.inr (Or.inl hj))
   ·exact Or.inr (Or.inr (Or.inr (Or.inl hj)))
   ·exact Or.inr (Or.inr (Or.inr (Or.inr hj)))
  have hne:j≠bx:=fun e=>by
   rcases hu with rfl | rfl | rfl | rfl
   ·exact d1 u (by simp) (by rw [←e];exact hj)
   ·exact d1 u (by simp) (by rw [←e];exact hj)
   ·exact d1 u (by simp) (by rw [←e];exact hj)
   ·exact d1 u (by simp) (by rw [←e];exact hj)
  exact (s9 j hne).trans (f j (own_lt2 hr j hj).2 hc)
 have hgb2:g≠bx:=fun e=>hgne bx (Or.inl rfl) e.symm
 refine ⟨hO8,⟨⟨h0,?_,fr r1 (Or.inl rfl),?_,fr r3 (Or.inr (Or.inl rfl)),fr r4 (Or.inr (Or.inr (Or.inl rfl))),fr r5 (Or.inr (Or.inr (Or.inr rfl))),?_,?_,?_⟩,?_⟩,?_,?_⟩
 ·exact (heap_set_same hO8).trans rfl
 ·have e:wordsV (m.more [x]).R=wordsV m.R ++ [.int .u64 x]:=by unfold MD.more wordsV;rw [List.map_append];rfl
  have e2:(m.more [x]).R.length=m.R.length+1:=by unfold MD.more;rw [List.length_append];rfl
  rw [e,e2]
  refine ownsRow_far' ho fun j hj=>s9 j (fun e => ?_)
  rw [hvo] at hj
  exact hgb2 ((Option.some.inj hj).trans e)
 ·intro u hu
  simp only [List.mem_cons,List.not_mem_nil,or_false] at hu
  rcases hu with rfl | rfl | rfl | rfl | rfl
  ·exact d1 _ (by simp)
  ·rw [hvo];exact fun e=>hgb2 (Option.some.inj e)
  ·exact d1 _ (by simp)
  ·exact d1 _ (by simp)
  ·exact d1 _ (by simp)
 ·intro u hu k hk
  simp only [List.mem_cons,List.not_mem_nil,or_false] at hu
  rcases hu with rfl | rfl | rfl | rfl
  ·rw [hvo];exact fun e=>hgne k (Or.inr (Or.inl hk)) (Option.some.inj e).symm
  ·exact d2 _ (by simp) k hk
  ·exact d2 _ (by simp) k hk
  ·exact d2 _ (by simp) k hk
 ·intro u hu k hk
  simp only [List.mem_cons,List.not_mem_nil,or_false] at hu
  rcases hu with rfl | rfl | rfl | rfl
  ·exact d3 _ (by simp) k hk
  ·rw [hvo];exact fun e=>hgne k (Or.inr (Or.inr (Or.inr (Or.inr hk)))) (Option.some.inj e).symm
  ·exact d3 _ (by simp) k hk
  ·exact d3 _ (by simp) k hk
 ·intro k hk
  rw [hvo] at hk
  obtain rfl:=Option.some.inj hk
  exact ⟨fun e=>hgne g (Or.inr (Or.inr (Or.inl e))) rfl,fun e=>hgne g (Or.inr (Or.inr (Or.inr (Or.inl e)))) rfl⟩
 ·refine ⟨hg.os.trans hb.os,hg.tape.trans hb.tape,hg.output.trans hb.output,?_,fun k hk hx => ?_⟩
  ·have:=hb.size
   have:=hg.size
   have e:(w8.setCell ⟨bx,7,none⟩ v).heap.size=w8.heap.size:=by simp [World.setCell]
   rw [e]
   omega
  ·rw [s9 k (fun e=>hx (Or.inl e)),hg.block k (Nat.lt_of_lt_of_le hk hb.size) (fun e=>hx (Or.inr (Or.inr (Or.inl e.symm))))]
   exact hb.block k hk
 ·intro k hk
  rcases hk with hk | hk | hk | hk | hk | hk
  ·exact Or.inl (Or.inl hk)
  ·exact Or.inl (Or.inr (Or.inl hk))
  ·rw [hvo] at hk
   obtain rfl:=Option.some.inj hk
   rcases hgb with e | e
   ·exact Or.inl (Or.inr (Or.inr (Or.inl e)))
   ·right;rw [e];exact hb.size
  ·exact Or.inl (Or.inr (Or.inr (Or.inr (Or.inl hk))))
  ·exact Or.inl (Or.inr (Or.inr (Or.inr (Or.inr (Or.inl hk)))))
  ·exact Or.inl (Or.inr (Or.inr (Or.inr (Or.inr (Or.inr hk)))))
theorem ownOf_gr (p o:Nat) (m:MD) (w:World) (h:RepM p o m w) (b1:m.W.length≤300000) (b2:m.R.length≤300000) (b3:m.K.length≤300000) (b4:m.I.length≤300000) (b5:m.C.length≤300000) :
  Calls Tryz.prog 28 #[.pointer (some ⟨p,o,none⟩)] w fun ev w' => ∃ bx vW vR vK vI vC,ev = .returned (.pointer (some ⟨bx,0,none⟩))∧GrR w.heap.size bx m vW vR vK vI vC w'∧Below w.heap.size w w':=by
 obtain ⟨_,_,_,_,_,hp,M,⟨aW,cW,rfl,rW⟩,⟨aR,cR,rfl,rR⟩,⟨aK,cK,rfl,rK⟩,⟨aI,cI,rfl,rI⟩,⟨aC,cC,rfl,rC⟩⟩:=h
 refine (own_any p o m.half m.old m.card m.used m.top m.oldTop w hp aW m.W.length cW (wordsV m.W) (by rw [lenV];omega) (RowV.src ⟨_,_,rfl,rW⟩) (one_words _) b1 aR m.R.length cR (wordsV m.R) (by rw [lenV];omega) (RowV.src ⟨_,_,rfl,rR⟩) (one_words _) b2 aK m.K.length cK (wordsV m.K) (by rw [lenV];omega) (RowV.src ⟨_,_,rfl,rK⟩) (one_words _) b3 aI m.I.length cI (idsV m.I) (lenI _) (RowV.src ⟨_,_,rfl,rI⟩) (one_ids _) b4 aC m.C.length cC (boolsV m.C) (by rw [lenB];omega) (RowV.src ⟨_,_,rfl,rC⟩) (one_bools _) b5 M).mono ?_
 rintro ev w1 ⟨a3,a7,a8,a9,a10,k3,k7,k8,k9,k10,rfl,hS⟩
 refine ⟨_,_,_,_,_,_,rfl,⟨hS.ownK,?_⟩,hS.1⟩
 obtain ⟨_,_,_,t1,q1,r1,t2,q2,r2,t3,q3,r3,t4,q4,r4,_⟩:=hS
 exact fun g hg=>⟨rowIn_ne r2 r3 (by omega) g hg,rowIn_ne r2 r4 (by omega) g hg⟩
end Go.Proofs.YtnenggkgfhgcnaaGreatDoor
