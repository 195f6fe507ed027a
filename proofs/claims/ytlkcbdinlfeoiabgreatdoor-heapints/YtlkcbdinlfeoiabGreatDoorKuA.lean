/- The document's model in memory: Do, by contracts (make, int, put). -/
import Derived.Test.YtlkcbdinlfeoiabGreatDoorKtA
import Derived.Test.YtlkcbdinlfeoiabGreatDoorKrC
import Derived.Deep.RegionHeld3
import Derived.Test.YtlkcbdinlfeoiabGreatDoorKsA
namespace Go.Proofs.YtlkcbdinlfeoiabGreatDoor
open Go.RowKit

variable {g:GP}{M:MO}{X:MXtra}{w w':World}
structure GNext (g:GP) (M:MO) (w:World) (g':GP) (M':MO) (w':World):Prop where
 q:g'.q=g.q
 aside:Aside (g.own M) w w'
 own:∀ k,g'.own M' k→g.own M k∨w.heap.size≤k
theorem GNext.base {g':GP}{M':MO} (N:GNext g M w g' M' w') {B:Nat} (hB:B≤w.heap.size) (h:∀ k,g.own M k→B≤k):Below B w w' ∧ ∀ k,g'.own M' k→B≤k:=
 ⟨N.aside.below hB (fun k hk hx=>by have:=h k hx;omega),fun k hk=>(N.own k hk).elim (h k) (fun e=>Nat.le_trans hB e)⟩
theorem own_more {n0 f0:Nat}{fa:Option Addr}{x:Int}{s:ByteArray}{d:ND}{B:Nat} (h0:B≤n0) (h1:B≤f0) (r:Nat) (c:CL) {k:Nat} (hk:(g.more M.N.length n0 f0 fa x s).own (⟨M.R.set r c,M.N ++ [d]⟩:MO) k):g.own M k∨B≤k:=by
 have hat:∀ j e,(M.N ++ [d])[j]?=some e→j=M.N.length∨(j<M.N.length∧M.N[j]?=some e):=fun j e he=>by
  by_cases hj:j<M.N.length
  ·rw [List.getElem?_append_left hj] at he
   exact .inr ⟨hj,he⟩
  ·have hl:=(List.getElem?_eq_some_iff.1 he).1
   rw [List.length_append] at hl
   simp only [List.length_cons,List.length_nil] at hl
   exact .inl (by omega)
 rcases hk with hk | hk | ⟨i,e,he,hk⟩ | ⟨i,e,he,p,hk⟩ | hk
 ·exact .inl (.inl hk)
 ·exact .inl (.inr (.inl hk))
 ·rcases hat i e he with rfl | ⟨hi,q⟩
  ·have:(g.more M.N.length n0 f0 fa x s).ν M.N.length=n0:=if_pos rfl
   exact .inr (by rw [hk,this];exact h0)
  ·have:(g.more M.N.length n0 f0 fa x s).ν i=g.ν i:=if_neg (by omega)
   exact .inl (.inr (.inr (.inl ⟨i,e,q,by rw [hk,this]⟩)))
 ·rcases hat i e he with rfl | ⟨hi,q⟩
  ·have:(g.more M.N.length n0 f0 fa x s).φ M.N.length=f0:=if_pos rfl
   exact .inr (by rw [hk,this];exact h1)
  ·have:(g.more M.N.length n0 f0 fa x s).φ i=g.φ i:=if_neg (by omega)
   exact .inl (.inr (.inr (.inr (.inl ⟨i,e,q,p,by rw [hk,this]⟩))))
 ·exact .inl (.inr (.inr (.inr (.inr hk))))
def set3 (w:World) (b o:Nat) (u v x:Value):World:=((w.setCell ⟨b,o,none⟩ u).setCell ⟨b,o+1,none⟩ v).setCell ⟨b,o+2,none⟩ x
theorem set3_aside (w:World) (b o:Nat) (u v x:Value):Aside (fun k=>k=b) w (set3 w b o u v x):=(((Aside.refl (fun k=>k=b) w).setCell (g:=b) rfl u).setCell (g:=b) rfl v).setCell (g:=b) rfl x
theorem set3_cells {b k:Nat}{ν:Nat→Nat}{l:List CL}{c:CL} (h:w.heap[b]?=some (.cells (cellsV ν l).toArray 75)) (hk:k<l.length):(set3 w b (k*3) (.int .i64 (c.kind:Int)) (.int .i64 c.n) (.pointer (pfC ν c))).heap[b]?=some (.cells (cellsV ν (l.set k c)).toArray 75):=by
 have h1:=heap_set_same (o:=k*3+2) (v:=.pointer (pfC ν c)) (heap_set_same (o:=k*3+1) (v:=.int .i64 c.n) (heap_set_same (o:=k*3) (v:=.int .i64 (c.kind:Int)) h))
 rw [List.setIfInBounds_toArray,List.setIfInBounds_toArray,List.setIfInBounds_toArray,cellsV_set ν c l k hk] at h1
 exact h1
theorem GAt.root3 (G:GAt g M X w) {r:Nat}{c:CL} (hr:r<M.R.length) {W:World} (hW:W=set3 w g.b (r*3) (.int .i64 (c.kind:Int)) (.int .i64 c.n) (.pointer (pfC g.ν c))):GAt g (M.set r c) X W∧GNext g M w g (M.set r c) W:=by
 have ha:=set3_aside w g.b (r*3) (.int .i64 (c.kind:Int)) (.int .i64 c.n) (.pointer (pfC g.ν c))
 rw [←hW] at ha
 exact ⟨G.rootSet ha (by rw [hW];exact set3_cells G.roots hr),rfl,ha.mono (fun k hk=>.inr (.inl hk)),fun k hk=>.inl hk⟩
theorem GAt.field3 (G:GAt g M X w) {i k:Nat}{d:ND}{c:CL} (hd:M.N[i]?=some d) (hk:k<d.f.length) {W:World} (hW:W=set3 w (g.φ i) (k*3) (.int .i64 (c.kind:Int)) (.int .i64 c.n) (.pointer (pfC g.ν c))):GAt g (M.putN i d k c) X W∧GNext g M w g (M.putN i d k c) W:=by
 have h0:0<d.f.length:=by omega
 have ha:=set3_aside w (g.φ i) (k*3) (.int .i64 (c.kind:Int)) (.int .i64 c.n) (.pointer (pfC g.ν c))
 rw [←hW] at ha
 refine ⟨G.fieldSet hd hk ha (by rw [hW];exact set3_cells ((G.nodes i d hd).flds h0).2 hk),rfl,ha.mono (fun j hj=>.inr (.inr (.inr (.inl ⟨i,d,hd,h0,hj⟩)))),fun j hj=>.inl ?_⟩
 have hil:i<M.N.length:=(List.getElem?_eq_some_iff.1 hd).1
 have hat:∀ (j:Nat) (e:ND),(M.N.set i { d with f:=d.f.set k c })[j]?=some e → ∃ e':ND,M.N[j]?=some e'∧e'.f.length=e.f.length:=fun j e he=>by
  by_cases hj:j=i
  ·subst hj
   rw [List.getElem?_set_self hil] at he
   have he:=Option.some.inj he
   subst he
   exact ⟨d,hd,by show _=(d.f.set k c).length;rw [List.length_set]⟩
  ·rw [List.getElem?_set_ne (fun q=>hj q.symm)] at he
   exact ⟨e,he,rfl⟩
 rcases hj with hj | hj | ⟨j',e,he,hj⟩ | ⟨j',e,he,p,hj⟩ | hj
 ·exact .inl hj
 ·exact .inr (.inl hj)
 ·obtain ⟨e',q,_⟩:=hat j' e he
  exact .inr (.inr (.inl ⟨j',e',q,hj⟩))
 ·obtain ⟨e',q,l⟩:=hat j' e he
  exact .inr (.inr (.inr (.inl ⟨j',e',q,by omega,hj⟩)))
 ·exact .inr (.inr (.inr (.inr hj)))
theorem GAt.made3 (G:GAt g M X w) (W1:∀ c∈M.R,c.kind=4→c.ref<M.N.length) (W2:∀ e∈M.N,∀ c∈e.f,c.kind=4→c.ref<M.N.length) (hK:∀ i∈X.K,i<M.N.length) (hser:X.ser M.N.length=0) {r n0 f0:Nat}{fa:Option Addr}{x:Int}{s:ByteArray}{d:ND}{wA:World} (hr:r<M.R.length) (hb:Below w.heap.size w wA) (h0:w.heap.size≤n0) (h1:w.heap.size≤f0)
  (hn:wA.heap[n0]?=some (.cells #[.int .i64 d.kind,.slice fa d.f.length d.f.length,.int .i64 x,.string s,.int .i64 0] 78))
  (hf:0<d.f.length→fa=some ⟨f0,0,none⟩∧wA.heap[f0]?=some (.cells (cellsV g.ν d.f).toArray 75)) (hd:∀ c∈d.f,c.kind=4→c.ref<M.N.length) {W:World} (hW:W=set3 wA g.b (r*3) (.int .i64 4) (.int .i64 0) (.pointer (some ⟨n0,0,none⟩))) :
  GAt (g.more M.N.length n0 f0 fa x s) (M.made r d) X W∧GNext g M w (g.more M.N.length n0 f0 fa x s) (M.made r d) W:=by
 have G1:=G.laid W1 W2 hK hser hb h0 h1 hn hf hd
 have hp:pfC (g.more M.N.length n0 f0 fa x s).ν ⟨4,0,M.N.length⟩=some ⟨n0,0,none⟩:=by
  show (if (4:Nat)=4 then some (⟨if M.N.length=M.N.length then n0 else g.ν M.N.length,0,none⟩:Addr) else none)=_
  rw [if_pos rfl,if_pos rfl]
 obtain ⟨G2,N2⟩:=G1.root3 (r:=r) (c:=⟨4,0,M.N.length⟩) hr (W:=W) (by rw [hp];exact hW)
 have ha:=set3_aside wA g.b (r*3) (.int .i64 4) (.int .i64 0) (.pointer (some ⟨n0,0,none⟩))
 rw [←hW] at ha
 exact ⟨G2,rfl,(Aside.of_below hb).trans (ha.mono (fun k hk=>.inr (.inl hk))),fun k hk=>own_more h0 h1 r ⟨4,0,M.N.length⟩ hk⟩
end Go.Proofs.YtlkcbdinlfeoiabGreatDoor
namespace Go.Proofs.YtlkcbdinlfeoiabGreatDoor
open Go.RowKit

variable {g:GP}{M:MO}{X:MXtra}{w w':World}
def RawIs (P:List Int→ByteArray→Prop) (d:ND) (x:Int) (s:ByteArray):Prop:=(d.kind=1∧d.raw = [x % 18446744073709551616] ∧ -9223372036854775808≤x∧x≤9223372036854775807)∨(d.kind=2∧P d.raw s)
def GRaw (P:List Int→ByteArray→Prop) (g:GP) (M:MO):Prop:=∀ i d,M.N[i]?=some d→d.kind<8→RawIs P d (g.xn i) (g.xs i)
theorem GRaw.more {P:List Int→ByteArray→Prop}{n0 f0:Nat}{fa:Option Addr}{x:Int}{s:ByteArray}{d:ND}{r:Nat} (h:GRaw P g M) (hd:d.kind<8→RawIs P d x s):GRaw P (g.more M.N.length n0 f0 fa x s) (M.made r d):=fun i e he h8=>by
 have he:(M.N ++ [d])[i]?=some e:=he
 by_cases hi:i<M.N.length
 ·rw [List.getElem?_append_left hi] at he
  have q:=h i e he h8
  have e1:(g.more M.N.length n0 f0 fa x s).xn i=g.xn i:=if_neg (by omega)
  have e2:(g.more M.N.length n0 f0 fa x s).xs i=g.xs i:=if_neg (by omega)
  rw [e1,e2];exact q
 ·rw [List.getElem?_append_right (by omega)] at he
  have hl:=(List.getElem?_eq_some_iff.1 he).1
  simp only [List.length_cons,List.length_nil] at hl
  have hi0:i - M.N.length=0:=by omega
  rw [hi0] at he
  obtain rfl:d=e:=Option.some.inj he
  obtain rfl:i=M.N.length:=by omega
  have e1:(g.more M.N.length n0 f0 fa x s).xn M.N.length=x:=if_pos rfl
  have e2:(g.more M.N.length n0 f0 fa x s).xs M.N.length=s:=if_pos rfl
  rw [e1,e2];exact hd h8
theorem GRaw.put {P:List Int→ByteArray→Prop}{i k:Nat}{d:ND}{c:CL} (h:GRaw P g M) (hd:M.N[i]?=some d):GRaw P g (M.putN i d k c):=fun j e he h8=>by
 have he:(M.N.set i { d with f:=d.f.set k c })[j]?=some e:=he
 by_cases hj:j=i
 ·subst hj
  rw [List.getElem?_set_self (List.getElem?_eq_some_iff.1 hd).1] at he
  have he:=Option.some.inj he
  subst he
  exact h j d hd h8
 ·rw [List.getElem?_set_ne (fun q=>hj q.symm)] at he
  exact h j e he h8
def DoneG (g:GP) (M:MO) (X:MXtra) (M':MO) (w:World) (ev:Ending) (w':World):Prop:=ev = .returned (.int .i64 0) ∧ ∃ g',GAt g' M' X w'∧GNext g M w g' M' w' ∧ ∀ P,GRaw P g M→GRaw P g' M'
theorem GNext.back {g':GP}{M':MO}{w1:World} (hb:Below w.heap.size w w1) (N:GNext g M w1 g' M' w'):GNext g M w g' M' w':=
 ⟨N.q,(Aside.of_below hb).trans N.aside,fun k hk=>(N.own k hk).imp id (fun e=>Nat.le_trans hb.size e)⟩
theorem set3_past {w:World}{b o:Nat} (h:b<w.heap.size) (u v z:Value) (x y:Obj):(((set3 w b o u v z).alloc x).alloc y).drew=set3 ((w.alloc x).alloc y).drew b o u v z:=by
 unfold set3
 have e:∀ (W:World) (i:Nat) (q:Value),b<W.heap.size→((W.alloc x).alloc y).setCell ⟨b,i,none⟩ q=((W.setCell ⟨b,i,none⟩ q).alloc x).alloc y:=fun W i q hW=>by
  rw [World.setCell_alloc_past _ _ _ _ (by simp;omega),World.setCell_alloc_past _ _ _ _ hW]
 have hs:∀ (W:World) (i:Nat) (q:Value),(W.setCell ⟨b,i,none⟩ q).heap.size=W.heap.size:=fun W i q=>by simp [World.setCell]
 show _=World.drew (((((w.alloc x).alloc y).setCell ⟨b,o,none⟩ u).setCell ⟨b,o+1,none⟩ v).setCell ⟨b,o+2,none⟩ z)
 rw [e w o u h,e _ (o+1) v (by rw [hs];exact h),e _ (o+2) z (by rw [hs,hs];exact h)]
theorem cl0_rep (ν:Nat→Nat) (n:Nat):cellsV ν (List.replicate n cl0)=cellsV (fun i=>i) (List.replicate n ⟨0,0,0⟩):=cellsV_congr (fun c hc h4=>by
 rw [(List.mem_replicate.1 hc).2] at h4
 exact absurd (show (0:Nat)=4 from h4) (by decide))
set_option maxHeartbeats 4000000 in
set_option maxRecDepth 100000 in
theorem gdo_make (G:GAt g M X w) (Wf:MWf M) (hK:∀ i∈X.K,i<M.N.length) (hser:X.ser M.N.length=0) (r:Nat) (hr:r<M.R.length) (kd:Int) (k8:8≤kd) (n:Nat) (hn:n≤5000) (z:Int) (s:ByteArray) :
  Calls Tryz.prog 14 #[.pointer (some ⟨g.q,0,none⟩),.agg #[.string ⟨#[109,97,107,101]⟩,.int .i64 (r:Int),.int .i64 kd,.int .i64 (n:Int),.int .i64 z,.string s]] w (DoneG g M X (M.made r (mkN kd n)) w):=by
 obtain ⟨w1,hw1⟩:∃ w1,w1=w.alloc (.cells #[.string ⟨#[109,97,107,101]⟩,.int .i64 (r:Int),.int .i64 kd,.int .i64 (n:Int),.int .i64 z,.string s] 41):=⟨_,rfl⟩
 have b1:Below w.heap.size w w1:=by rw [hw1];exact (Below.refl _ _).alloc (Nat.le_refl _) _
 have n1:w1.heap[w.heap.size]?=some (.cells #[.string ⟨#[109,97,107,101]⟩,.int .i64 (r:Int),.int .i64 kd,.int .i64 (n:Int),.int .i64 z,.string s] 41):=by rw [hw1];exact heap_alloc_new _ _
 have hs1:w1.heap.size=w.heap.size+1:=by rw [hw1];simp
 have G1:=G.below b1
 have hm:=make_cellsT n hn
 have hr0:(0:Int)≤(r:Int):=by omega
 have hr1:(r:Int)<(M.R.length:Int):=by omega
 obtain ⟨gq,hgq⟩:∃ gq,gq=g.q:=⟨_,rfl⟩
 obtain ⟨gb,hgb⟩:∃ gb,gb=g.b:=⟨_,rfl⟩
 obtain ⟨c,hc⟩:∃ c,M.R[r]?=some c:=⟨_,List.getElem?_eq_getElem hr⟩
 have HA:Hid (∀ W,Below w1.heap.size w1 W→W.cell? ⟨gq,0,none⟩=some (.slice (some ⟨gb,0,none⟩) M.R.length M.R.length)∧W.cell? ⟨w.heap.size,1,none⟩=some (.int .i64 (r:Int))∧W.cell? ⟨w.heap.size,2,none⟩=some (.int .i64 kd)∧W.cell? ⟨w.heap.size,3,none⟩=some (.int .i64 (n:Int))):=fun W hW=>by
  have h:=(hW.block _ (lt_of_heap n1)).trans n1
  exact ⟨by rw [hgq,hgb];exact (G1.below hW).c0,by rw [cell_of_row _ _ _ _ _ _ h];rfl,by rw [cell_of_row _ _ _ _ _ _ h];rfl,by rw [cell_of_row _ _ _ _ _ _ h];rfl⟩
 have HB:Hid (∀ W,Below w1.heap.size w1 W→W.cell? ⟨gb,r*3,none⟩=some (.int .i64 (c.kind:Int))∧W.cell? ⟨gb,r*3+1,none⟩=some (.int .i64 c.n)∧W.cell? ⟨gb,r*3+2,none⟩=some (.pointer (pfC g.ν c)) ∧ ∀ j,W.frozen? ⟨gb,j,none⟩=false):=fun W hW=>by
  have G':=G1.below hW
  rw [hgb]
  obtain ⟨q1,q2,q3⟩:=G'.root hc
  exact ⟨q1,q2,q3,fun j=>by simp [World.frozen?,G'.roots]⟩
 have HE:Hid (∀ wA,Below w1.heap.size w1 wA→wA.heap[w1.heap.size]?=some (.cells (madeCells #[.int .i64 0,.int .i64 0,.pointer none] (n*3)) 75)→wA.heap[w1.heap.size+1]?=some (.cells #[.int .i64 kd,.slice (some ⟨w1.heap.size,0,none⟩) n n,.int .i64 0,.string ⟨#[]⟩,.int .i64 0] 78) → ∀ W,W=set3 wA gb (r*3) (.int .i64 4) (.int .i64 0) (.pointer (some ⟨w1.heap.size+1,0,none⟩))→DoneG g M X (M.made r (mkN kd n)) w (.returned (.int .i64 0)) W):=fun wA hb2 m1 m2 W hW=>by
  have hl:(mkN kd n).f.length=n:=List.length_replicate
  obtain ⟨q1,q2⟩:=G1.made3 (fun c hc=>(Wf.roots c hc).2) (fun e he c hc=>(Wf.flds e he c hc).2) hK hser (d:=mkN kd n) (n0:=w1.heap.size+1) (f0:=w1.heap.size) (fa:=some ⟨w1.heap.size,0,none⟩) (x:=0) (s:=⟨#[]⟩) hr hb2 (by omega) (by omega) (by rw [hl];exact m2) (fun _=>⟨rfl,by
   rw [m1,made_rep]
   show _=some (Obj.cells (cellsV g.ν (List.replicate n cl0)).toArray _)
   rw [cl0_rep]⟩) (fun c hc h4=>by
   have hc:c∈List.replicate n cl0:=hc
   rw [(List.mem_replicate.1 hc).2] at h4
   exact absurd (show (0:Nat)=4 from h4) (by decide)) (W:=W) (by rw [←hgb];exact hW)
  exact ⟨rfl,_,q1,q2.back b1,fun P h=>h.more (fun h8=>absurd (show kd<8 from h8) (by omega))⟩
 rw [←hgq]
 have HA1:=toHid (HA.out w1 (Below.refl _ _))
 have HA2:=toHid (HA.out w1.drew (Below.refl _ _).drew)
 have HC:Hid (∀ W W',Below w1.heap.size w1 W→Aside (fun k=>k=gb) W W'→W'.cell? ⟨gq,0,none⟩=some (.slice (some ⟨gb,0,none⟩) M.R.length M.R.length)∧W'.cell? ⟨w.heap.size,1,none⟩=some (.int .i64 (r:Int))∧W'.cell? ⟨w.heap.size,2,none⟩=some (.int .i64 kd)∧W'.cell? ⟨w.heap.size,3,none⟩=some (.int .i64 (n:Int))):=fun W W' hW ha=>by
  obtain ⟨e0,e1,e2,e3⟩:=HA.out W hW
  have t1:=(gty_q G1).ne (gty_b G1) (by decide)
  rw [←hgq,←hgb] at t1
  have t2:w.heap.size≠gb:=by rw [hgb];exact (show Ty w1 w.heap.size 41 from ⟨_,n1⟩).ne (gty_b G1) (by decide)
  exact ⟨ha.cell e0 t1,ha.cell e1 t2,ha.cell e2 t2,ha.cell e3 t2⟩
 clear G G1 Wf hK hser hgq hgb hc hr b1 n1 hs1
 go_enter Tryz.func14,Tryz.ntmps14
 go_upto_region 11 with fail
 rw [←hw1]
 clear hw1
 obtain ⟨a0,a1,a2,a3⟩:=HA1.out
 obtain ⟨F,hF⟩:∃ F:Obj,F = .cells (madeCells #[.int .i64 0,.int .i64 0,.pointer none] (n*3)) 75:=⟨_,rfl⟩
 obtain ⟨Nd,hNd⟩:∃ Nd:Obj,Nd = .cells #[.int .i64 kd,.slice (some ⟨w1.heap.size,0,none⟩) n n,.int .i64 0,.string ⟨#[]⟩,.int .i64 0] 78:=⟨_,rfl⟩
 have hb0:Below w1.heap.size w1 (w1.alloc F).drew:=((Below.refl _ _).alloc (Nat.le_refl _) _).drew
 have hbN:Below w1.heap.size w1 ((w1.alloc F).alloc Nd).drew:=(((Below.refl _ _).alloc (Nat.le_refl _) _).alloc (by simp) _).drew
 have hEE:=HE.out ((w1.alloc F).alloc Nd).drew hbN
 obtain ⟨m1,m2⟩:=two_new w1 F Nd
 obtain ⟨g0,g1,g2,fz⟩:=HB.out w1 (Below.refl _ _)
 have y0:=fz (r*3)
 have y1:=fz (r*3+1)
 have y2:=fz (r*3+2)
 have l0:gb<w1.heap.size:=lt_of_cell g0
 have l1:gb≠w1.heap.size:=by omega
 have l2:gb≠w1.heap.size+1:=by omega
 have HbN:=toHid hbN
 have Hb0:=toHid hb0
 rw [hF,hNd] at m1 m2 hEE HbN
 rw [hF] at Hb0
 have HEE:=toHid (hEE m1 m2)
 have HX:Hid (∀ u v z x y,(((((set3 w1 gb (r*3) u v z).alloc x).alloc y).drew).cell? ⟨gq,0,none⟩=some (.slice (some ⟨gb,0,none⟩) M.R.length M.R.length))∧((((set3 w1 gb (r*3) u v z).alloc x).alloc y).drew).cell? ⟨w.heap.size,1,none⟩=some (.int .i64 (r:Int))∧((((set3 w1 gb (r*3) u v z).alloc x).alloc y).drew).cell? ⟨w.heap.size,2,none⟩=some (.int .i64 kd)∧((((set3 w1 gb (r*3) u v z).alloc x).alloc y).drew).cell? ⟨w.heap.size,3,none⟩=some (.int .i64 (n:Int))):=fun u v z x y=>by
  rw [set3_past l0]
  exact HC.out _ _ ((((Below.refl _ _).alloc (Nat.le_refl _) _).alloc (by simp) _).drew) (set3_aside _ _ _ _ _ _)
 have HL0:=toHid l0
 clear fz hF hNd hbN hb0 F Nd m1 m2 hEE HE
 go_region_held3 (fun W=>W.cell? ⟨gq,0,none⟩=some (.slice (some ⟨gb,0,none⟩) M.R.length M.R.length)∧W.cell? ⟨w.heap.size,1,none⟩=some (.int .i64 (r:Int))∧W.cell? ⟨w.heap.size,2,none⟩=some (.int .i64 kd)∧W.cell? ⟨w.heap.size,3,none⟩=some (.int .i64 (n:Int))) (first | with_reducible exact HA1.out | with_reducible exact HA2.out | with_reducible exact HA.out _ HbN.out | with_reducible exact HA.out _ Hb0.out | exact HX.out _ _ _ _ _) (fail)
 all_goals (
  go_wp2_with fail
  go_ret
  exact HEE.out _ (set3_past HL0.out _ _ _ _ _))
end Go.Proofs.YtlkcbdinlfeoiabGreatDoor
namespace Go.Proofs.YtlkcbdinlfeoiabGreatDoor
open Go.RowKit

variable {g:GP}{M:MO}{X:MXtra}{w w':World}
theorem isSmallG (n:Int) (w:World):Calls Tryz.prog 31 #[.int .i64 n] w fun ev w'=>ev = .returned (.bool (decide (-2305843009213693952≤n) && decide (n<2305843009213693952)))∧w'=w:=by
 by_cases h0 : -2305843009213693952≤n
 ·rw [decide_eq_true h0,Bool.true_and]
  go_enter Tryz.func31,Tryz.ntmps31
  go_wp2_with fail
  go_ret
  exact ⟨rfl,rfl⟩
 ·rw [decide_eq_false h0,Bool.false_and]
  have h1:decide (-2305843009213693952≤n)=false:=decide_eq_false h0
  go_enter Tryz.func31,Tryz.ntmps31
  go_wp2_with fail
  go_ret
  exact ⟨rfl,rfl⟩
theorem set3_q {b:Nat}{o:Nat}{u v x:Value}{k j:Nat}{y:Value} (h:w.cell? ⟨k,j,none⟩=some y) (hn:k≠b):(set3 w b o u v x).cell? ⟨k,j,none⟩=some y:=(set3_aside w b o u v x).cell h hn
set_option maxHeartbeats 4000000 in
set_option maxRecDepth 100000 in
theorem gdo_int (G:GAt g M X w) (r:Nat) (hr:r<M.R.length) (z:Int) (z0 : -2305843009213693952≤z) (z1:z<2305843009213693952) (b c:Int) (s:ByteArray) :
  Calls Tryz.prog 14 #[.pointer (some ⟨g.q,0,none⟩),.agg #[.string ⟨#[105,110,116]⟩,.int .i64 (r:Int),.int .i64 b,.int .i64 c,.int .i64 z,.string s]] w (DoneG g M X (M.set r (clI z)) w):=by
 obtain ⟨w1,hw1⟩:∃ w1,w1=w.alloc (.cells #[.string ⟨#[105,110,116]⟩,.int .i64 (r:Int),.int .i64 b,.int .i64 c,.int .i64 z,.string s] 41):=⟨_,rfl⟩
 have b1:Below w.heap.size w w1:=by rw [hw1];exact (Below.refl _ _).alloc (Nat.le_refl _) _
 have n1:w1.heap[w.heap.size]?=some (.cells #[.string ⟨#[105,110,116]⟩,.int .i64 (r:Int),.int .i64 b,.int .i64 c,.int .i64 z,.string s] 41):=by rw [hw1];exact heap_alloc_new _ _
 have G1:=G.below b1
 have hr0:(0:Int)≤(r:Int):=by omega
 have hr1:(r:Int)<(M.R.length:Int):=by omega
 have kS:=fun W=>isSmallG z W
 rw [decide_eq_true z0,decide_eq_true z1] at kS
 obtain ⟨gq,hgq⟩:∃ gq,gq=g.q:=⟨_,rfl⟩
 obtain ⟨gb,hgb⟩:∃ gb,gb=g.b:=⟨_,rfl⟩
 obtain ⟨d,hd⟩:∃ d,M.R[r]?=some d:=⟨_,List.getElem?_eq_getElem hr⟩
 have t1:gq≠gb:=by rw [hgq,hgb];exact (gty_q G1).ne (gty_b G1) (by decide)
 have t2:w.heap.size≠gb:=by rw [hgb];exact (show Ty w1 w.heap.size 41 from ⟨_,n1⟩).ne (gty_b G1) (by decide)
 have c0:w1.cell? ⟨gq,0,none⟩=some (.slice (some ⟨gb,0,none⟩) M.R.length M.R.length):=by rw [hgq,hgb];exact G1.c0
 have c1:w1.cell? ⟨w.heap.size,1,none⟩=some (.int .i64 (r:Int)):=by rw [cell_of_row _ _ _ _ _ _ n1];rfl
 have c4:w1.cell? ⟨w.heap.size,4,none⟩=some (.int .i64 z):=by rw [cell_of_row _ _ _ _ _ _ n1];rfl
 obtain ⟨g0,g1,g2⟩:=G1.root hd
 rw [←hgb] at g0 g1 g2
 have y0:w1.frozen? ⟨gb,r*3,none⟩=false:=by rw [hgb];simp [World.frozen?,G1.roots]
 have y1:w1.frozen? ⟨gb,r*3+1,none⟩=false:=by rw [hgb];simp [World.frozen?,G1.roots]
 have y2:w1.frozen? ⟨gb,r*3+2,none⟩=false:=by rw [hgb];simp [World.frozen?,G1.roots]
 have HS0:Hid (w1.cell? ⟨gq,0,none⟩=some (.slice (some ⟨gb,0,none⟩) M.R.length M.R.length)∧w1.cell? ⟨w.heap.size,1,none⟩=some (.int .i64 (r:Int))∧w1.cell? ⟨w.heap.size,4,none⟩=some (.int .i64 z)):=⟨c0,c1,c4⟩
 have HSD:Hid (w1.drew.cell? ⟨gq,0,none⟩=some (.slice (some ⟨gb,0,none⟩) M.R.length M.R.length)∧w1.drew.cell? ⟨w.heap.size,1,none⟩=some (.int .i64 (r:Int))∧w1.drew.cell? ⟨w.heap.size,4,none⟩=some (.int .i64 z)):=⟨c0,c1,c4⟩
 have HSE:Hid (∀ u v x,(set3 w1 gb (r*3) u v x).drew.cell? ⟨gq,0,none⟩=some (.slice (some ⟨gb,0,none⟩) M.R.length M.R.length)∧(set3 w1 gb (r*3) u v x).drew.cell? ⟨w.heap.size,1,none⟩=some (.int .i64 (r:Int))∧(set3 w1 gb (r*3) u v x).drew.cell? ⟨w.heap.size,4,none⟩=some (.int .i64 z)):=fun u v x=>⟨set3_q c0 t1,set3_q c1 t2,set3_q c4 t2⟩
 have HE:Hid (∀ W,W=(set3 w1 gb (r*3) (.int .i64 3) (.int .i64 z) (.pointer none)).drew→DoneG g M X (M.set r (clI z)) w (.returned (.int .i64 0)) W):=fun W hW=>by
  obtain ⟨q1,q2⟩:=G1.root3 (r:=r) (c:=clI z) hr (W:=set3 w1 gb (r*3) (.int .i64 3) (.int .i64 z) (.pointer none)) (by rw [hgb];rfl)
  rw [hW]
  have hbd:Below (set3 w1 gb (r*3) (.int .i64 3) (.int .i64 z) (.pointer none)).heap.size (set3 w1 gb (r*3) (.int .i64 3) (.int .i64 z) (.pointer none)) (set3 w1 gb (r*3) (.int .i64 3) (.int .i64 z) (.pointer none)).drew:=(Below.refl _ _).drew
  exact ⟨rfl,g,q1.below hbd,⟨rfl,(q2.back b1).aside.trans (Aside.of_below hbd),(q2.back b1).own⟩,fun P h=>h⟩
 have e4:(set3 w1 gb (r*3) (.int .i64 3) (.int .i64 z) (.pointer none)).cell? ⟨w.heap.size,4,none⟩=some (.int .i64 z):=set3_q c4 t2
 rw [←hgq]
 obtain ⟨w2,hw2⟩:∃ w2,w2=(((w1.setCell ⟨gb,r*3,none⟩ (.int .i64 3)).setCell ⟨gb,r*3+1,none⟩ (.int .i64 z)).setCell ⟨gb,r*3+2,none⟩ (.pointer none)).drew:=⟨_,rfl⟩
 have HEW:Hid (DoneG g M X (M.set r (clI z)) w (.returned (.int .i64 0)) w2):=HE.out w2 hw2
 have e5:w2.cell? ⟨w.heap.size,4,none⟩=some (.int .i64 z):=by rw [hw2];exact e4
 clear G G1 hgq hgb hd hr b1 n1 z0 z1 HE e4
 go_enter Tryz.func14,Tryz.ntmps14
 go_upto_region 3 with fail
 rw [←hw1]
 clear hw1
 go_region_held3 (fun W=>W.cell? ⟨gq,0,none⟩=some (.slice (some ⟨gb,0,none⟩) M.R.length M.R.length)∧W.cell? ⟨w.heap.size,1,none⟩=some (.int .i64 (r:Int))∧W.cell? ⟨w.heap.size,4,none⟩=some (.int .i64 z)) (first | with_reducible exact HS0.out | with_reducible exact HSD.out | exact HSE.out _ _ _) (fail)
 all_goals (
  rw [←hw2]
  clear hw2
  go_wp2_with fail
  refine (kS _).mono ?_
  rintro ev w3 ⟨rfl,hq⟩
  rw [hq]
  clear hq w3
  go_wp2_with fail
  go_ret
  exact HEW.out)
end Go.Proofs.YtlkcbdinlfeoiabGreatDoor
namespace Go.Proofs.YtlkcbdinlfeoiabGreatDoor
open Go.RowKit

variable {g:GP}{M:MO}{X:MXtra}{w w':World}
theorem set3_past1 {w:World}{b o:Nat} (h:b<w.heap.size) (u v z:Value) (x:Obj):((set3 w b o u v z).alloc x).drew=set3 (w.alloc x).drew b o u v z:=by
 unfold set3
 have e:∀ (W:World) (i:Nat) (q:Value),b<W.heap.size→(W.alloc x).setCell ⟨b,i,none⟩ q=(W.setCell ⟨b,i,none⟩ q).alloc x:=fun W i q hW=>by
  rw [World.setCell_alloc_past _ _ _ _ hW]
 have hs:∀ (W:World) (i:Nat) (q:Value),(W.setCell ⟨b,i,none⟩ q).heap.size=W.heap.size:=fun W i q=>by simp [World.setCell]
 show _=World.drew ((((w.alloc x).setCell ⟨b,o,none⟩ u).setCell ⟨b,o+1,none⟩ v).setCell ⟨b,o+2,none⟩ z)
 rw [e w o u h,e _ (o+1) v (by rw [hs];exact h),e _ (o+2) z (by rw [hs,hs];exact h)]
theorem made_over (M:MO) (r:Nat) (c:CL) (d:ND):(M.set r c).made r d=M.made r d:=by
 show MO.mk ((M.R.set r c).set r _) _=MO.mk (M.R.set r _) _
 rw [List.set_set]
 rfl
set_option maxHeartbeats 4000000 in
set_option maxRecDepth 100000 in
theorem gdo_box (G:GAt g M X w) (Wf:MWf M) (hK:∀ i∈X.K,i<M.N.length) (hser:X.ser M.N.length=0) (r:Nat) (hr:r<M.R.length) (z:Int) (hz:z < -2305843009213693952∨2305843009213693952≤z) (z0 : -9223372036854775808≤z) (z1:z≤9223372036854775807) (b c:Int) (s:ByteArray) :
  Calls Tryz.prog 14 #[.pointer (some ⟨g.q,0,none⟩),.agg #[.string ⟨#[105,110,116]⟩,.int .i64 (r:Int),.int .i64 b,.int .i64 c,.int .i64 z,.string s]] w (DoneG g M X (M.made r (mkBox z)) w):=by
 obtain ⟨w1,hw1⟩:∃ w1,w1=w.alloc (.cells #[.string ⟨#[105,110,116]⟩,.int .i64 (r:Int),.int .i64 b,.int .i64 c,.int .i64 z,.string s] 41):=⟨_,rfl⟩
 have b1:Below w.heap.size w w1:=by rw [hw1];exact (Below.refl _ _).alloc (Nat.le_refl _) _
 have n1:w1.heap[w.heap.size]?=some (.cells #[.string ⟨#[105,110,116]⟩,.int .i64 (r:Int),.int .i64 b,.int .i64 c,.int .i64 z,.string s] 41):=by rw [hw1];exact heap_alloc_new _ _
 have G1:=G.below b1
 have hr0:(0:Int)≤(r:Int):=by omega
 have hr1:(r:Int)<(M.R.length:Int):=by omega
 have kS:=fun W=>isSmallG z W
 rw [show (decide (-2305843009213693952≤z) && decide (z<2305843009213693952))=false by rw [Bool.and_eq_false_iff,decide_eq_false_iff_not,decide_eq_false_iff_not];omega] at kS
 obtain ⟨gq,hgq⟩:∃ gq,gq=g.q:=⟨_,rfl⟩
 obtain ⟨gb,hgb⟩:∃ gb,gb=g.b:=⟨_,rfl⟩
 obtain ⟨d,hd⟩:∃ d,M.R[r]?=some d:=⟨_,List.getElem?_eq_getElem hr⟩
 have t1:gq≠gb:=by rw [hgq,hgb];exact (gty_q G1).ne (gty_b G1) (by decide)
 have t2:w.heap.size≠gb:=by rw [hgb];exact (show Ty w1 w.heap.size 41 from ⟨_,n1⟩).ne (gty_b G1) (by decide)
 have c0:w1.cell? ⟨gq,0,none⟩=some (.slice (some ⟨gb,0,none⟩) M.R.length M.R.length):=by rw [hgq,hgb];exact G1.c0
 have c1:w1.cell? ⟨w.heap.size,1,none⟩=some (.int .i64 (r:Int)):=by rw [cell_of_row _ _ _ _ _ _ n1];rfl
 have c4:w1.cell? ⟨w.heap.size,4,none⟩=some (.int .i64 z):=by rw [cell_of_row _ _ _ _ _ _ n1];rfl
 obtain ⟨g0,g1,g2⟩:=G1.root hd
 rw [←hgb] at g0 g1 g2
 have y0:w1.frozen? ⟨gb,r*3,none⟩=false:=by rw [hgb];simp [World.frozen?,G1.roots]
 have y1:w1.frozen? ⟨gb,r*3+1,none⟩=false:=by rw [hgb];simp [World.frozen?,G1.roots]
 have y2:w1.frozen? ⟨gb,r*3+2,none⟩=false:=by rw [hgb];simp [World.frozen?,G1.roots]
 have HS0:Hid (w1.cell? ⟨gq,0,none⟩=some (.slice (some ⟨gb,0,none⟩) M.R.length M.R.length)∧w1.cell? ⟨w.heap.size,1,none⟩=some (.int .i64 (r:Int))∧w1.cell? ⟨w.heap.size,4,none⟩=some (.int .i64 z)):=⟨c0,c1,c4⟩
 have HSD:Hid (w1.drew.cell? ⟨gq,0,none⟩=some (.slice (some ⟨gb,0,none⟩) M.R.length M.R.length)∧w1.drew.cell? ⟨w.heap.size,1,none⟩=some (.int .i64 (r:Int))∧w1.drew.cell? ⟨w.heap.size,4,none⟩=some (.int .i64 z)):=⟨c0,c1,c4⟩
 have HSE:Hid (∀ u v x,(set3 w1 gb (r*3) u v x).drew.cell? ⟨gq,0,none⟩=some (.slice (some ⟨gb,0,none⟩) M.R.length M.R.length)∧(set3 w1 gb (r*3) u v x).drew.cell? ⟨w.heap.size,1,none⟩=some (.int .i64 (r:Int))∧(set3 w1 gb (r*3) u v x).drew.cell? ⟨w.heap.size,4,none⟩=some (.int .i64 z)):=fun u v x=>⟨set3_q c0 t1,set3_q c1 t2,set3_q c4 t2⟩
 have hbd:Below (set3 w1 gb (r*3) (.int .i64 3) (.int .i64 z) (.pointer none)).heap.size (set3 w1 gb (r*3) (.int .i64 3) (.int .i64 z) (.pointer none)) (set3 w1 gb (r*3) (.int .i64 3) (.int .i64 z) (.pointer none)).drew:=(Below.refl _ _).drew
 obtain ⟨w2,hw2⟩:∃ w2,w2=(((w1.setCell ⟨gb,r*3,none⟩ (.int .i64 3)).setCell ⟨gb,r*3+1,none⟩ (.int .i64 z)).setCell ⟨gb,r*3+2,none⟩ (.pointer none)).drew:=⟨_,rfl⟩
 obtain ⟨G2,N2⟩:GAt g (M.set r (clI z)) X w2∧GNext g M w g (M.set r (clI z)) w2:=by
  obtain ⟨q1,q2⟩:=G1.root3 (r:=r) (c:=clI z) hr (W:=set3 w1 gb (r*3) (.int .i64 3) (.int .i64 z) (.pointer none)) (by rw [hgb];rfl)
  rw [hw2]
  exact ⟨q1.below hbd,rfl,(q2.back b1).aside.trans (Aside.of_below hbd),(q2.back b1).own⟩
 have hl2:(M.set r (clI z)).R.length=M.R.length:=by show (M.R.set r _).length=_;rw [List.length_set]
 have e0:w2.cell? ⟨gq,0,none⟩=some (.slice (some ⟨gb,0,none⟩) M.R.length M.R.length):=by rw [hw2];exact set3_q c0 t1
 have e1:w2.cell? ⟨w.heap.size,1,none⟩=some (.int .i64 (r:Int)):=by rw [hw2];exact set3_q c1 t2
 have e4:w2.cell? ⟨w.heap.size,4,none⟩=some (.int .i64 z):=by rw [hw2];exact set3_q c4 t2
 obtain ⟨f0,f1,f2⟩:=G2.root (k:=r) (c:=clI z) (by show (M.R.set r _)[r]?=_;rw [List.getElem?_set_self hr])
 rw [←hgb] at f0 f1 f2
 have x0:w2.frozen? ⟨gb,r*3,none⟩=false:=by rw [hgb];simp [World.frozen?,G2.roots]
 have x1:w2.frozen? ⟨gb,r*3+1,none⟩=false:=by rw [hgb];simp [World.frozen?,G2.roots]
 have x2:w2.frozen? ⟨gb,r*3+2,none⟩=false:=by rw [hgb];simp [World.frozen?,G2.roots]
 have l0:gb<w2.heap.size:=lt_of_cell f0
 have l1:gb≠w2.heap.size:=by omega
 have lq:gq<w2.heap.size:=lt_of_cell e0
 have lo:w.heap.size<w2.heap.size:=lt_of_cell e1
 have HQ0:Hid (w2.cell? ⟨gq,0,none⟩=some (.slice (some ⟨gb,0,none⟩) M.R.length M.R.length)∧w2.cell? ⟨w.heap.size,1,none⟩=some (.int .i64 (r:Int))∧w2.cell? ⟨w.heap.size,4,none⟩=some (.int .i64 z)):=⟨e0,e1,e4⟩
 have HQD:Hid (w2.drew.cell? ⟨gq,0,none⟩=some (.slice (some ⟨gb,0,none⟩) M.R.length M.R.length)∧w2.drew.cell? ⟨w.heap.size,1,none⟩=some (.int .i64 (r:Int))∧w2.drew.cell? ⟨w.heap.size,4,none⟩=some (.int .i64 z)):=⟨e0,e1,e4⟩
 have HQA:Hid (∀ x,(w2.alloc x).drew.cell? ⟨gq,0,none⟩=some (.slice (some ⟨gb,0,none⟩) M.R.length M.R.length)∧(w2.alloc x).drew.cell? ⟨w.heap.size,1,none⟩=some (.int .i64 (r:Int))∧(w2.alloc x).drew.cell? ⟨w.heap.size,4,none⟩=some (.int .i64 z)):=fun x=>by
  have hb:Below w2.heap.size w2 (w2.alloc x).drew:=((Below.refl _ _).alloc (Nat.le_refl _) _).drew
  exact ⟨(hb.cell (p:=⟨gq,0,none⟩) lq).trans e0,(hb.cell (p:=⟨w.heap.size,1,none⟩) lo).trans e1,(hb.cell (p:=⟨w.heap.size,4,none⟩) lo).trans e4⟩
 have HQE:Hid (∀ u v y x,((set3 w2 gb (r*3) u v y).alloc x).drew.cell? ⟨gq,0,none⟩=some (.slice (some ⟨gb,0,none⟩) M.R.length M.R.length)∧((set3 w2 gb (r*3) u v y).alloc x).drew.cell? ⟨w.heap.size,1,none⟩=some (.int .i64 (r:Int))∧((set3 w2 gb (r*3) u v y).alloc x).drew.cell? ⟨w.heap.size,4,none⟩=some (.int .i64 z)):=fun u v y x=>by
  rw [set3_past1 l0]
  obtain ⟨a0,a1,a4⟩:=HQA.out x
  exact ⟨set3_q a0 t1,set3_q a1 t2,set3_q a4 t2⟩
 have HE:Hid (∀ W,W=((set3 w2 gb (r*3) (.int .i64 4) (.int .i64 0) (.pointer (some ⟨w2.heap.size,0,none⟩))).alloc (.cells #[.int .i64 1,.slice none 0 0,.int .i64 z,.string ⟨#[]⟩,.int .i64 0] 78)).drew→DoneG g M X (M.made r (mkBox z)) w (.returned (.int .i64 0)) W):=fun W hW=>by
  rw [set3_past1 l0] at hW
  have hN:(M.set r (clI z)).N=M.N:=rfl
  have hbA:Below w2.heap.size w2 (w2.alloc (.cells #[.int .i64 1,.slice none 0 0,.int .i64 z,.string ⟨#[]⟩,.int .i64 0] 78)).drew:=((Below.refl _ _).alloc (Nat.le_refl _) _).drew
  obtain ⟨q1,q2⟩:=G2.made3 (fun c hc h4=>by
   rw [hN]
   have hc:c∈M.R.set r (clI z):=hc
   rcases List.mem_or_eq_of_mem_set hc with q | rfl
   ·exact (Wf.roots c q).2 h4
   ·exact absurd (show (3:Nat)=4 from h4) (by decide)) (fun e he c hc=>(Wf.flds e he c hc).2) hK hser (d:=mkBox z) (n0:=w2.heap.size) (f0:=w2.heap.size) (fa:=none) (x:=z) (s:=⟨#[]⟩) (r:=r) (by rw [hl2];exact hr) hbA (Nat.le_refl _) (Nat.le_refl _) (heap_alloc_new _ _) (fun h=>absurd h (by show ¬ 0<0;omega)) (fun c hc=>(by cases hc)) (W:=W) (by rw [←hgb];exact hW)
  rw [made_over] at q1 q2
  refine ⟨rfl,_,q1,⟨q2.q,N2.aside.join q2.aside (fun k hk hx => ?_),fun k hk => ?_⟩,fun P h => ?_⟩
  ·exact (N2.own k hx).elim id (fun e=>absurd hk (by omega))
  ·rcases q2.own k hk with h | h
   ·exact N2.own k h
   ·exact .inr (Nat.le_trans N2.aside.size h)
  ·have hg:=GRaw.more (r:=r) (n0:=w2.heap.size) (f0:=w2.heap.size) (fa:=none) (x:=z) (s:=⟨#[]⟩) (d:=mkBox z) h (fun _=>.inl ⟨rfl,rfl,z0,z1⟩)
   exact hg
 rw [←hgq]
 clear G G1 G2 N2 hgq hgb hd hr b1 n1 hz hbd hl2 Wf hK hser z0 z1
 go_enter Tryz.func14,Tryz.ntmps14
 go_upto_region 3 with fail
 rw [←hw1]
 clear hw1
 go_region_held3 (fun W=>W.cell? ⟨gq,0,none⟩=some (.slice (some ⟨gb,0,none⟩) M.R.length M.R.length)∧W.cell? ⟨w.heap.size,1,none⟩=some (.int .i64 (r:Int))∧W.cell? ⟨w.heap.size,4,none⟩=some (.int .i64 z)) (first | with_reducible exact HS0.out | with_reducible exact HSD.out | exact HSE.out _ _ _) (fail)
 all_goals (
  rw [←hw2]
  clear hw2 HS0 HSD HSE c0 c1 c4 g0 g1 g2 y0 y1 y2
  go_upto_region 4 with fail
  go_wp2_with fail
  refine (kS _).mono ?_
  rintro ev w3 ⟨rfl,hq⟩
  rw [hq]
  clear hq w3
  go_upto_region 5 with fail
  go_region_held3 (fun W=>W.cell? ⟨gq,0,none⟩=some (.slice (some ⟨gb,0,none⟩) M.R.length M.R.length)∧W.cell? ⟨w.heap.size,1,none⟩=some (.int .i64 (r:Int))∧W.cell? ⟨w.heap.size,4,none⟩=some (.int .i64 z)) (first | with_reducible exact HQ0.out | with_reducible exact HQD.out | with_reducible exact HQA.out _ | exact HQE.out _ _ _ _) (fail)
  all_goals (
   go_wp2_with fail
   go_ret
   exact HE.out _ rfl))
end Go.Proofs.YtlkcbdinlfeoiabGreatDoor
namespace Go.Proofs.YtlkcbdinlfeoiabGreatDoor
open Go.RowKit

variable {g:GP}{M:MO}{X:MXtra}{w w':World}
theorem drew_cell (W:World) (p:Addr):W.drew.cell? p=W.cell? p:=rfl
structure PutS (gq gb o nu ph nR nf A k C:Nat) (v:CL) (pv:Option Addr) (W:World):Prop where
 q:W.cell? ⟨gq,0,none⟩=some (.slice (some ⟨gb,0,none⟩) nR nR)
 a:W.cell? ⟨o,1,none⟩=some (.int .i64 (A:Int))
 b:W.cell? ⟨o,2,none⟩=some (.int .i64 (k:Int))
 c:W.cell? ⟨o,3,none⟩=some (.int .i64 (C:Int))
 r:W.cell? ⟨gb,A*3+2,none⟩=some (.pointer (some ⟨nu,0,none⟩))
 f:W.cell? ⟨nu,1,none⟩=some (.slice (some ⟨ph,0,none⟩) nf nf)
 v0:W.cell? ⟨gb,C*3,none⟩=some (.int .i64 (v.kind:Int))
 v1:W.cell? ⟨gb,C*3+1,none⟩=some (.int .i64 v.n)
 v2:W.cell? ⟨gb,C*3+2,none⟩=some (.pointer pv)
theorem PutS.all {gq gb o nu ph nR nf A k C:Nat}{v:CL}{pv:Option Addr}{W:World} (S:PutS gq gb o nu ph nR nf A k C v pv W):W.cell? ⟨gq,0,none⟩=some (.slice (some ⟨gb,0,none⟩) nR nR)∧W.cell? ⟨o,1,none⟩=some (.int .i64 (A:Int))∧W.cell? ⟨o,2,none⟩=some (.int .i64 (k:Int))∧W.cell? ⟨o,3,none⟩=some (.int .i64 (C:Int))∧W.cell? ⟨gb,A*3+2,none⟩=some (.pointer (some ⟨nu,0,none⟩))∧W.cell? ⟨nu,1,none⟩=some (.slice (some ⟨ph,0,none⟩) nf nf)∧W.cell? ⟨gb,C*3,none⟩=some (.int .i64 (v.kind:Int))∧W.cell? ⟨gb,C*3+1,none⟩=some (.int .i64 v.n)∧W.cell? ⟨gb,C*3+2,none⟩=some (.pointer pv):=⟨S.q,S.a,S.b,S.c,S.r,S.f,S.v0,S.v1,S.v2⟩
theorem PutS.set {gq gb o nu ph nR nf A k C:Nat}{v:CL}{pv:Option Addr}{W:World} (S:PutS gq gb o nu ph nR nf A k C v pv W) (h1:gq≠ph) (h2:gb≠ph) (h3:o≠ph) (h4:nu≠ph) (j:Nat) (x y z:Value):PutS gq gb o nu ph nR nf A k C v pv (set3 W ph j x y z).drew:=
 have e:∀ (p:Addr),(set3 W ph j x y z).drew.cell? p=(set3 W ph j x y z).cell? p:=fun p=>drew_cell _ p
 ⟨(e _).trans (set3_q S.q h1),(e _).trans (set3_q S.a h3),(e _).trans (set3_q S.b h3),(e _).trans (set3_q S.c h3),(e _).trans (set3_q S.r h2),(e _).trans (set3_q S.f h4),(e _).trans (set3_q S.v0 h2),(e _).trans (set3_q S.v1 h2),(e _).trans (set3_q S.v2 h2)⟩
set_option maxHeartbeats 4000000 in
set_option maxRecDepth 100000 in
theorem gdo_put (G:GAt g M X w) (A k C:Nat) {c v:CL}{d:ND} (hA:M.R[A]?=some c) (h4:c.kind=4) (hd:M.N[c.ref]?=some d) (hk:k<d.f.length) (hC:M.R[C]?=some v) (z:Int) (s:ByteArray) :
  Calls Tryz.prog 14 #[.pointer (some ⟨g.q,0,none⟩),.agg #[.string ⟨#[112,117,116]⟩,.int .i64 (A:Int),.int .i64 (k:Int),.int .i64 (C:Int),.int .i64 z,.string s]] w (DoneG g M X (M.putN c.ref d k v) w):=by
 obtain ⟨w1,hw1⟩:∃ w1,w1=w.alloc (.cells #[.string ⟨#[112,117,116]⟩,.int .i64 (A:Int),.int .i64 (k:Int),.int .i64 (C:Int),.int .i64 z,.string s] 41):=⟨_,rfl⟩
 have b1:Below w.heap.size w w1:=by rw [hw1];exact (Below.refl _ _).alloc (Nat.le_refl _) _
 have n1:w1.heap[w.heap.size]?=some (.cells #[.string ⟨#[112,117,116]⟩,.int .i64 (A:Int),.int .i64 (k:Int),.int .i64 (C:Int),.int .i64 z,.string s] 41):=by rw [hw1];exact heap_alloc_new _ _
 have G1:=G.below b1
 have hA0:(0:Int)≤(A:Int):=by omega
 have hA1:(A:Int)<(M.R.length:Int):=by have:=(List.getElem?_eq_some_iff.1 hA).1;omega
 have hC0:(0:Int)≤(C:Int):=by omega
 have hC1:(C:Int)<(M.R.length:Int):=by have:=(List.getElem?_eq_some_iff.1 hC).1;omega
 have hk0:(0:Int)≤(k:Int):=by omega
 have hk1:(k:Int)<(d.f.length:Int):=by omega
 have h0:0<d.f.length:=by omega
 have tb:=gty_b G1
 have tf:=gty_f G1 hd h0
 have ta:Ty w1 w.heap.size 41:=⟨_,n1⟩
 have u1:g.q≠g.φ c.ref:=(gty_q G1).ne tf (by decide)
 have u2:g.b≠g.φ c.ref:=fun e=>G1.fb _ d hd h0 e.symm
 have u3:w.heap.size≠g.φ c.ref:=ta.ne tf (by decide)
 have u4:g.ν c.ref≠g.φ c.ref:=(gty_n G1 hd).ne tf (by decide)
 have hp:pfC g.ν c=some ⟨g.ν c.ref,0,none⟩:=by unfold pfC;rw [if_pos h4]
 obtain ⟨fv,hfv⟩:∃ fv,d.f[k]?=some fv:=⟨_,List.getElem?_eq_getElem hk⟩
 obtain ⟨e9,f0,f1,f2⟩:=G1.field hd hfv
 have x0:∀ j,w1.frozen? ⟨g.φ c.ref,j,none⟩=false:=fun j=>by simp [World.frozen?,((G1.nodes _ d hd).flds h0).2]
 have S1:PutS g.q g.b w.heap.size (g.ν c.ref) (g.φ c.ref) M.R.length d.f.length A k C v (pfC g.ν v) w1:=⟨G1.c0,by rw [cell_of_row _ _ _ _ _ _ n1];rfl,by rw [cell_of_row _ _ _ _ _ _ n1];rfl,by rw [cell_of_row _ _ _ _ _ _ n1];rfl,by rw [←hp];exact (G1.root hA).2.2,by rw [←e9];exact G1.n1 hd,(G1.root hC).1,(G1.root hC).2.1,(G1.root hC).2.2⟩
 have HE:Hid (∀ W,W=(set3 w1 (g.φ c.ref) (k*3) (.int .i64 (v.kind:Int)) (.int .i64 v.n) (.pointer (pfC g.ν v))).drew→DoneG g M X (M.putN c.ref d k v) w (.returned (.int .i64 0)) W):=fun W hW=>by
  obtain ⟨q1,q2⟩:=G1.field3 (c:=v) hd hk (W:=set3 w1 (g.φ c.ref) (k*3) (.int .i64 (v.kind:Int)) (.int .i64 v.n) (.pointer (pfC g.ν v))) rfl
  have hbd:Below (set3 w1 (g.φ c.ref) (k*3) (.int .i64 (v.kind:Int)) (.int .i64 v.n) (.pointer (pfC g.ν v))).heap.size (set3 w1 (g.φ c.ref) (k*3) (.int .i64 (v.kind:Int)) (.int .i64 v.n) (.pointer (pfC g.ν v))) (set3 w1 (g.φ c.ref) (k*3) (.int .i64 (v.kind:Int)) (.int .i64 v.n) (.pointer (pfC g.ν v))).drew:=(Below.refl _ _).drew
  rw [hW]
  exact ⟨rfl,g,q1.below hbd,⟨rfl,(q2.back b1).aside.trans (Aside.of_below hbd),(q2.back b1).own⟩,fun P h=>h.put hd⟩
 obtain ⟨pv,hpv⟩:∃ pv,pv=pfC g.ν v:=⟨_,rfl⟩
 obtain ⟨gq,hgq⟩:∃ gq,gq=g.q:=⟨_,rfl⟩
 obtain ⟨gb,hgb⟩:∃ gb,gb=g.b:=⟨_,rfl⟩
 obtain ⟨nu,hnu⟩:∃ nu,nu=g.ν c.ref:=⟨_,rfl⟩
 obtain ⟨ph,hph⟩:∃ ph,ph=g.φ c.ref:=⟨_,rfl⟩
 rw [←hpv,←hgq,←hgb,←hnu,←hph] at S1
 rw [←hgq,←hph] at u1
 rw [←hgb,←hph] at u2
 rw [←hph] at u3 f0 f1 f2 x0
 rw [←hnu,←hph] at u4
 rw [←hph,←hpv] at HE
 have HS0:=toHid S1.all
 have HSD:=toHid (show PutS gq gb w.heap.size nu ph M.R.length d.f.length A k C v pv w1.drew from ⟨S1.q,S1.a,S1.b,S1.c,S1.r,S1.f,S1.v0,S1.v1,S1.v2⟩).all
 have HSE:=toHid (fun j x y z=>(S1.set u1 u2 u3 u4 j x y z).all)
 have y0:=x0 (k*3)
 have y1:=x0 (k*3+1)
 have y2:=x0 (k*3+2)
 obtain ⟨a0,a1,a2,a3,a4,a5,a6,a7,a8⟩:=S1.all
 rw [←hgq]
 clear G G1 hgq hgb hnu hph hpv S1 b1 n1 hA h4 hd hk hC h0 tb tf ta hp hfv e9 x0
 generalize d.f.length=nf at *
 generalize v.kind=vk at *
 generalize v.n=vn at *
 go_enter Tryz.func14,Tryz.ntmps14
 go_upto_region 15 with fail
 rw [←hw1]
 clear hw1
 go_region_held3 (fun W=>W.cell? ⟨gq,0,none⟩=some (.slice (some ⟨gb,0,none⟩) M.R.length M.R.length)∧W.cell? ⟨w.heap.size,1,none⟩=some (.int .i64 (A:Int))∧W.cell? ⟨w.heap.size,2,none⟩=some (.int .i64 (k:Int))∧W.cell? ⟨w.heap.size,3,none⟩=some (.int .i64 (C:Int))∧W.cell? ⟨gb,A*3+2,none⟩=some (.pointer (some ⟨nu,0,none⟩))∧W.cell? ⟨nu,1,none⟩=some (.slice (some ⟨ph,0,none⟩) nf nf)∧W.cell? ⟨gb,C*3,none⟩=some (.int .i64 (vk:Int))∧W.cell? ⟨gb,C*3+1,none⟩=some (.int .i64 vn)∧W.cell? ⟨gb,C*3+2,none⟩=some (.pointer pv)) (first | with_reducible exact HS0.out | with_reducible exact HSD.out | exact HSE.out _ _ _ _) (fail)
 all_goals (
  go_wp2_with fail
  go_ret
  exact HE.out _ rfl)
end Go.Proofs.YtlkcbdinlfeoiabGreatDoor
namespace Go.Proofs.YtlkcbdinlfeoiabGreatDoor
open Go.RowKit Go.Maps

def intT:Int→List Int→ByteArray:=fun _ l=>⟨#[32]⟩++decB (wrap64 (l.getD 0 0))
variable {M:MO}{X:MXtra}{g:GP}{w w':World}
theorem BoxM.made {r:Nat}{d:ND} (h:BoxM intT M) (hd:d.kind<8→d.kind=1 ∧ ∃ y,d.raw = [y]∧0≤y∧y<18446744073709551616):BoxM intT (M.made r d):=fun e he h8=>by
 have he:e∈M.N ++ [d]:=he
 rcases List.mem_append.1 he with q | q
 ·exact h e q h8
 ·rw [List.mem_singleton.1 q] at h8 ⊢
  obtain ⟨k,y,a1,a2,a3⟩:=hd h8
  exact ⟨k,y,a1,a2,a3,rfl⟩
theorem BoxM.putN {i k:Nat}{d:ND}{v:CL} (h:BoxM intT M) (hd:d∈M.N):BoxM intT (M.putN i d k v):=fun e he h8=>by
 have he:e∈M.N.set i { d with f:=d.f.set k v }:=he
 rcases List.mem_or_eq_of_mem_set he with q | rfl
 ·exact h e q h8
 ·exact h d hd h8
def KindM (M:MO):Prop:=∀ d∈M.N,0≤d.kind∧d.kind≤255
theorem KindM.made {r:Nat}{d:ND} (h:KindM M) (hd:0≤d.kind∧d.kind≤255):KindM (M.made r d):=fun e he=>by
 have he:e∈M.N ++ [d]:=he
 rcases List.mem_append.1 he with q | q
 ·exact h e q
 ·rw [List.mem_singleton.1 q];exact hd
theorem KindM.putN {i k:Nat}{d:ND}{v:CL} (h:KindM M) (hd:d∈M.N):KindM (M.putN i d k v):=fun e he=>by
 have he:e∈M.N.set i { d with f:=d.f.set k v }:=he
 rcases List.mem_or_eq_of_mem_set he with q | rfl
 ·exact h e q
 ·exact h d hd
theorem wrap_mod {x:Int} (h0 : -9223372036854775808≤x) (h1:x≤9223372036854775807):wrap64 (x % 18446744073709551616)=x:=by unfold wrap64;omega
theorem raw_of (K:KindM M) (B:BoxM intT M) (R:∀ P,GRaw P g M):RawG intT g M w where
 one i d hd h8:=by
  have k1:=(B d (List.mem_of_getElem? hd) h8).1
  rcases R (fun _ _=>False) i d hd h8 with ⟨_,e2,x0,x1⟩ | ⟨_,hf⟩
  ·refine .inl ⟨k1,?_,x0,x1⟩
   rw [e2]
   show ⟨#[32]⟩++decB (wrap64 (g.xn i % 18446744073709551616))=_
   rw [wrap_mod x0 x1]
  ·exact hf.elim
 kinds:=K
theorem closed_of {sr:Int}{m:MD} (hm:HM m sr M X) (W:MWf M):MClosed M:=by
 obtain ⟨_,_,q3,q4⟩:=hm.all
 refine ⟨q3,fun i hi d hd c hc h4 => ?_⟩
 by_cases h8:d.kind<8
 ·rw [W.raw d (List.mem_of_getElem? hd) h8] at hc;cases hc
 ·exact q4 i hi d hd h8 c hc h4
def intM1:MO:=(MO.new 2).made 1 (mkN 8 1)
structure IntsOK (a:Nat→Addr) (n:Int) (M2:MO) (v:CL):Prop where
 hp:∀ (w0:World) (h:HP) (sr:Int) (m:MD) (w:World),HS a w0 h sr m intM1 MXtra.new w→m.old=50→Calls Tryz.prog 11 #[.pointer (some ⟨h.q,0,none⟩),.int .i64 0,.int .i64 n] w fun ev w'=>ev = .returned .nilIface∧Stp a w0 h m M2 MXtra.new w w'
 gd:∀ (g:GP) (w:World),GAt g intM1 MXtra.new w→Calls Tryz.prog 14 #[.pointer (some ⟨g.q,0,none⟩),.agg #[.string ⟨#[105,110,116]⟩,.int .i64 0,.int .i64 0,.int .i64 0,.int .i64 n,.string ⟨#[]⟩]] w (DoneG g intM1 MXtra.new M2 w)
 r0:M2.R[0]?=some v
 r1:M2.R[1]?=some ⟨4,0,0⟩
 n0:M2.N[0]?=some (mkN 8 1)
 wf:MWf (M2.putN 0 (mkN 8 1) 0 v)
 box:BoxM intT (M2.putN 0 (mkN 8 1) 0 v)
 kind:KindM (M2.putN 0 (mkN 8 1) 0 v)
 few:(M2.putN 0 (mkN 8 1) 0 v).total≤10
 rl:(M2.putN 0 (mkN 8 1) 0 v).R.length=2
 nl:(M2.putN 0 (mkN 8 1) 0 v).N.length≤2
theorem int1_wf:MWf intM1:=(MWf.new 2 (by omega)).made 1 (fun c hc=>by
 have hc:c∈List.replicate 1 cl0:=hc
 rw [(List.mem_replicate.1 hc).2]
 exact ⟨⟨by decide,by decide,by decide⟩,fun h=>absurd (show (0:Nat)=4 from h) (by decide)⟩) (fun h=>absurd h (by show ¬ (8:Int)<8;decide)) (by show 1≤5000;omega) (by show 0<5000;omega)
theorem int1_box:BoxM intT intM1:=BoxM.made (fun d hd=>by cases hd) (fun h=>absurd h (by show ¬ (8:Int)<8;decide))
theorem int1_kind:KindM intM1:=KindM.made (fun d hd=>by cases hd) ⟨by show (0:Int)≤8;decide,by show (8:Int)≤255;decide⟩
theorem int1_few:intM1.total=2:=rfl
theorem clI_ok {n:Int} (h0 : -2305843009213693952≤n) (h1:n<2305843009213693952):CLok (clI n):=⟨by show 3≤4;omega,fun _=>h0,fun _=>h1⟩
theorem ints_ok (a:Nat→Addr) (n:Int) (n0 : -9223372036854775808≤n) (n1:n≤9223372036854775807):∃ M2 v,IntsOK a n M2 v:=by
 have h8:¬ (mkN 8 1).kind<8:=by show ¬ (8:Int)<8;decide
 by_cases hs : -2305843009213693952≤n∧n<2305843009213693952
 ·refine ⟨intM1.set 0 (clI n),clI n,fun w0 h sr m w s ho => ?_,fun g w G=>gdo_int G 0 (by show 0<2;omega) n hs.1 hs.2 0 0 ⟨#[]⟩,rfl,rfl,rfl,?_,?_,?_,?_,rfl,by show 1≤2;omega⟩
  ·exact hint_ok s 0 n (by rw [s.hm.roots];show 0<2;omega) hs.1 hs.2
  ·have hw:=int1_wf.set 0 (clI_ok hs.1 hs.2) (fun h=>absurd (show (3:Nat)=4 from h) (by decide))
   exact hw.putN rfl h8 ⟨clI_ok hs.1 hs.2,fun h=>absurd (show (3:Nat)=4 from h) (by decide)⟩
  ·exact BoxM.putN (M:=intM1.set 0 (clI n)) int1_box (by show mkN 8 1 ∈ [mkN 8 1];simp)
  ·exact KindM.putN (M:=intM1.set 0 (clI n)) int1_kind (by show mkN 8 1 ∈ [mkN 8 1];simp)
  ·show 2≤10;omega
 ·have hb:n < -2305843009213693952∨2305843009213693952≤n:=by omega
  have hy:0≤n % 18446744073709551616∧n % 18446744073709551616<18446744073709551616:=by omega
  have h4:CLok ⟨4,0,1⟩:=⟨Nat.le_refl 4,fun h=>absurd (show (4:Nat)=3 from h) (by decide),fun h=>absurd (show (4:Nat)=3 from h) (by decide)⟩
  have hw:=int1_wf.made 0 (d:=mkBox n) (fun c hc=>by cases hc) (fun _=>rfl) (by show 0≤5000;omega) (by show 1<5000;omega)
  refine ⟨intM1.made 0 (mkBox n),⟨4,0,1⟩,fun w0 h sr m w s ho => ?_,fun g w G=>gdo_box G int1_wf (fun i hi=>by cases hi) rfl 0 (by show 0<2;omega) n hb n0 n1 0 0 ⟨#[]⟩,rfl,rfl,rfl,?_,?_,?_,?_,rfl,by show 2≤2;omega⟩
  ·refine (hint_box s 0 n (by rw [s.hm.roots];show 0<2;omega) hb).mono ?_
   rintro ev w' (t | ⟨_,_,hf⟩)
   ·exact t
   ·exfalso
    have h1:=s.hm.few
    rw [int1_few] at h1
    omega
  ·exact hw.putN rfl h8 ⟨h4,fun _=>by show 1<2;omega⟩
  ·exact BoxM.putN (M:=intM1.made 0 (mkBox n)) (BoxM.made int1_box (fun _=>⟨rfl,_,rfl,hy.1,hy.2⟩)) (by show mkN 8 1 ∈ [mkN 8 1,mkBox n];simp)
  ·exact KindM.putN (M:=intM1.made 0 (mkBox n)) (KindM.made int1_kind ⟨by show (0:Int)≤1;decide,by show (1:Int)≤255;decide⟩) (by show mkN 8 1 ∈ [mkN 8 1,mkBox n];simp)
  ·show 4≤10;omega
end Go.Proofs.YtlkcbdinlfeoiabGreatDoor
namespace Go.Proofs.YtlkcbdinlfeoiabGreatDoor
open Go.RowKit Go.Maps

set_option maxHeartbeats 4000000 in
set_option maxRecDepth 100000 in
theorem heapInts_skip (n half:Int) (w:World) (kh:Calls Tryz.prog 5 #[] w fun ev w'=>ev = .returned (.bool true)∧Below w.heap.size w w')
  (hc:half<2∨(¬ half<2∧100<half)) :
  Calls Tryz.prog 4 #[.int .i64 n,.int .i64 half] w fun ev w'=>ev = .returned (.bool true)∧Below w.heap.size w w':=by
 rcases hc with c1 | ⟨c1,c2⟩
 all_goals (
  go_enter Tryz.func4,Tryz.ntmps4
  go_wp2_with fail
  refine kh.mono ?_
  clear kh
  rintro ev w1 ⟨rfl,b1⟩
  have HB:=toHid b1
  clear b1
  go_wp2_with fail
  go_ret
  exact ⟨rfl,HB.out⟩)
set_option maxHeartbeats 8000000 in
set_option maxRecDepth 100000 in
theorem heapInts_good (a:Nat→Addr) (n half:Int) (n0 : -9223372036854775808≤n) (n1:n≤9223372036854775807) (h0:2≤half) (h1:half≤100) (w:World) (E:HEnv a w) (kh:Calls Tryz.prog 5 #[] w fun ev w'=>ev = .returned (.bool true)∧Below w.heap.size w w') :
  Calls Tryz.prog 4 #[.int .i64 n,.int .i64 half] w fun ev w'=>ev = .returned (.bool true)∧Below w.heap.size w w':=by
 have HE:=toHid E
 obtain ⟨M2,v,I⟩:=ints_ok a n n0 n1
 have HI:=toHid I
 have c3:¬ half<2:=by omega
 have c4:¬ 100<half:=by omega
 have hnums:Hid (heapOK half 50 4 1 2):=⟨⟨by omega,by omega,by omega,by omega,by omega,by omega⟩,by omega,by omega,by omega,by omega⟩
 clear E I n0 n1 h0 h1
 go_enter Tryz.func4,Tryz.ntmps4
 go_wp2_with fail
 refine kh.mono ?_
 clear kh
 rintro ev w1 ⟨rfl,b1⟩
 have kn:=hnew_hs a half 50 4 1 2 w1 (HE.out.below b1) hnums.out
 have HB1:=toHid b1
 clear b1 HE hnums
 go_wp2_with fail
 refine kn.mono ?_
 clear kn
 rintro ev w2 ⟨h,m,rfl,s,_,e2,_⟩
 have hR:m.R.length=2:=s.hm.roots
 have km:=hmake_any s 1 1 8 (by omega) (by omega) (by omega) (by omega)
 have hw0:(MO.new 2).words=0:=words_none (M:=MO.new 2) (fun c hc=>by
  have hc:c∈List.replicate 2 (⟨0,0,0⟩:CL):=hc
  rw [(List.mem_replicate.1 hc).2];decide)
 have HF:Hid (¬ m.old<(((MO.new 2).words:Nat):Int)+(1+((1:Nat):Int))):=by show ¬ _;rw [hw0,e2];decide
 obtain ⟨q,hq⟩:∃ q,q=h.q:=⟨_,rfl⟩
 rw [←hq] at km ⊢
 have HQ:Hid (h.q=q∧m.old=50):=⟨hq.symm,e2⟩
 clear s e2 hq hR hw0
 go_wp2_with fail
 refine km.mono ?_
 clear km
 rintro ev w3 (⟨rfl,h3,sr3,m3,N3,D3,s3⟩ | ⟨rfl,_,hf⟩)
 rotate_left
 ·exact absurd hf (Int.not_lt.2 HF.out)
 have HQ3:Hid (h3.q=q∧m3.old=50):=⟨N3.q.trans HQ.out.1,D3.old.trans HQ.out.2⟩
 have ki:=HI.out.hp w1 h3 sr3 m3 w3 s3 HQ3.out.2
 rw [HQ3.out.1] at ki
 clear s3 N3 D3 HF HQ
 go_wp2_with fail
 refine ki.mono ?_
 clear ki
 rintro ev w4 ⟨rfl,h4,sr4,m4,N4,D4,s4⟩
 have HQ4:Hid (h4.q=q∧m4.old=50):=⟨N4.q.trans HQ3.out.1,D4.old.trans HQ3.out.2⟩
 have kp:=hput_any s4 (r:=1) (k:=0) (j:=0) (c:=⟨4,0,0⟩) (v:=v) (d:=mkN 8 1) HI.out.r1 rfl HI.out.n0 (by show ¬ (8:Int)<8;decide) (by show 0<1;omega) HI.out.r0
 rw [HQ4.out.1] at kp
 clear s4 N4 D4 HQ3
 go_wp2_with fail
 refine kp.mono ?_
 clear kp
 rintro ev w5 ⟨rfl,h5,sr5,m5,N5,D5,s5⟩
 have HQ5:Hid (h5.q=q∧m5.old=50):=⟨N5.q.trans HQ4.out.1,D5.old.trans HQ4.out.2⟩
 have s5:HS a w1 h5 sr5 m5 (M2.putN 0 (mkN 8 1) 0 v) MXtra.new w5:=s5
 have HM3:Hid (IntsOK a n M2 v):=HI.out
 have kj:=hminor_any s5
 have HF:Hid (¬ m5.old<((M2.putN 0 (mkN 8 1) 0 v).words:Int)):=by
  have h1:=s5.hm.few
  have h2:=HI.out.few
  have h3:=HQ5.out.2
  show ¬ _
  omega
 rw [HQ5.out.1] at kj
 clear s5 N5 D5 HQ4
 go_wp2_with fail
 refine kj.mono ?_
 clear kj
 rintro ev w6 (⟨rfl,_,hf⟩ | ⟨rfl,h6,sr6,m6,N6,D6,s6⟩)
 ·exact absurd hf (Int.not_lt.2 HF.out)
 have HQ6:Hid (h6.q=q):=N6.q.trans HQ5.out.1
 have HS6:=toHid s6
 have kg:=gnew_any 2 (by omega) w6
 clear N6 D6 s6 HF HQ5
 go_wp2_with fail
 refine kg.mono ?_
 clear kg
 rintro ev w7 ⟨g,rfl,G,b7,hown⟩
 have kd:=gdo_make G (MWf.new 2 (by omega)) (fun i hi=>by cases hi) rfl 1 (by show 1<2;omega) 8 (by omega) 1 (by omega) 0 ⟨#[]⟩
 have HB7:Hid (Below w6.heap.size w6 w7 ∧ ∀ k,g.own (MO.new 2) k→w6.heap.size≤k):=⟨b7,hown⟩
 have HR7:Hid (∀ P,GRaw P g (MO.new 2)):=fun P i d hd=>by cases hd
 obtain ⟨gq,hgq⟩:∃ gq,gq=g.q:=⟨_,rfl⟩
 rw [←hgq] at kd ⊢
 have HG7:Hid (g.q=gq):=hgq.symm
 clear G b7 hown hgq
 go_wp2_with fail
 refine kd.mono ?_
 clear kd
 rintro ev w8 ⟨rfl,g8,G8,N8,R8⟩
 have kd:=HI.out.gd g8 w8 G8
 have HG8:Hid (g8.q=gq):=N8.q.trans HG7.out
 have HB8:Hid (Below w6.heap.size w6 w8 ∧ ∀ k,g8.own intM1 k→w6.heap.size≤k):=by
  obtain ⟨q1,q2⟩:=N8.base HB7.out.1.size HB7.out.2
  exact ⟨HB7.out.1.trans q1,q2⟩
 have HR8:Hid (∀ P,GRaw P g8 intM1):=fun P=>R8 P (HR7.out P)
 rw [HG8.out] at kd
 clear G8 N8 R8 HB7 HR7 HG7
 go_wp2_with fail
 refine kd.mono ?_
 clear kd
 rintro ev w9 ⟨rfl,g9,G9,N9,R9⟩
 have kd:=gdo_put G9 1 0 0 HI.out.r1 rfl HI.out.n0 (by show 0<1;omega) HI.out.r0 0 ⟨#[]⟩
 have HG9:Hid (g9.q=gq):=N9.q.trans HG8.out
 have HB9:Hid (Below w6.heap.size w6 w9 ∧ ∀ k,g9.own M2 k→w6.heap.size≤k):=by
  obtain ⟨q1,q2⟩:=N9.base HB8.out.1.size HB8.out.2
  exact ⟨HB8.out.1.trans q1,q2⟩
 have HR9:Hid (∀ P,GRaw P g9 M2):=fun P=>R9 P (HR8.out P)
 rw [HG9.out] at kd
 clear G9 N9 R9 HB8 HR8 HG8
 go_wp2_with fail
 refine kd.mono ?_
 clear kd
 rintro ev w10 ⟨rfl,g10,G10,N10,R10⟩
 have HG10:Hid (g10.q=gq∧GAt g10 (M2.putN 0 (mkN 8 1) 0 v) MXtra.new w10):=⟨N10.q.trans HG9.out,G10⟩
 have HB10:Hid (Below w6.heap.size w6 w10):=HB9.out.1.trans (N10.base HB9.out.1.size HB9.out.2).1
 have HR10:Hid (∀ P,GRaw P g10 (M2.putN 0 (mkN 8 1) 0 v)):=fun P=>R10 P (HR9.out P)
 clear G10 N10 R10 HB9 HR9 HG9
 have s10:=HS6.out.below HB10.out
 have ks:=hshow_box intT s10 HI.out.box
 rw [HQ6.out] at ks
 have HCL:Hid (MClosed (M2.putN 0 (mkN 8 1) 0 v)):=closed_of s10.hm HI.out.wf
 have HBE:Hid (Below w.heap.size w w10):=HB1.out.trans (s10.base.mono HB1.out.size)
 have hfew:Hid (((M2.putN 0 (mkN 8 1) 0 v).text intT).size≤8000000):=by
  have h:=text_few intT HI.out.wf 5000 30 HI.out.wf.ffew HI.out.kind (fun d hd h8=>by
   obtain ⟨k1,y,e,y0,y1,t⟩:=HI.out.box d hd h8
   rw [k1,e,t,ByteArray.size_append]
   have:=decB_size (wrap64 y) (by unfold wrap64;omega) (by unfold wrap64;omega)
   show 1+_≤30
   omega)
  have h2:=HI.out.nl
  have h3:=HI.out.rl
  show _≤_
  have h4:(M2.putN 0 (mkN 8 1) 0 v).N.length*(50+30+23*5000)≤2*(50+30+23*5000):=Nat.mul_le_mul_right _ h2
  omega
 obtain ⟨Z,hZ⟩:∃ Z,Z=(M2.putN 0 (mkN 8 1) 0 v).text intT:=⟨_,rfl⟩
 rw [←hZ] at ks
 have HZ:=toHid hZ
 clear s10 hZ HS6
 go_wp2_with fail
 refine ks.mono ?_
 clear ks
 rintro ev w11 ⟨rfl,b11⟩
 have km:=gshow_any intT (HG10.out.2.below b11) HI.out.wf HCL.out (raw_of HI.out.kind HI.out.box HR10.out) hfew.out
 rw [HG10.out.1,←HZ.out] at km
 have HBF:Hid (Below w.heap.size w w11):=HBE.out.trans (b11.mono HBE.out.size)
 clear b11
 go_wp2_with fail
 refine km.mono ?_
 clear km
 rintro ev w12 ⟨rfl,b12⟩
 have HBL:Hid (Below w.heap.size w w12):=HBF.out.trans (b12.mono HBF.out.size)
 clear b12
 go_wp2_with fail
 go_ret
 exact ⟨by simp,HBL.out⟩
theorem heapInts_any (a:Nat→Addr) (n half:Int) (n0 : -9223372036854775808≤n) (n1:n≤9223372036854775807) (w:World) (E:HEnv a w) :
  Calls Tryz.prog 4 #[.int .i64 n,.int .i64 half] w fun ev w'=>ev = .returned (.bool true)∧Below w.heap.size w w':=by
 have kh:=hold_any a w E
 by_cases hc:2≤half∧half≤100
 ·exact heapInts_good a n half n0 n1 hc.1 hc.2 w E kh
 ·exact heapInts_skip n half w kh (by omega)
end Go.Proofs.YtlkcbdinlfeoiabGreatDoor
