/- Trees in memory, whatever type their rows have: for the law's own copies of them. -/
import Derived.Test.YtpcjcgkpjapbpaaGreatDoorTtO
set_option linter.all false
namespace Go.Proofs.YtpcjcgkpjapbpaaGreatDoor
open Go.RowKit

def rowE (S:Nat→Prop) (w:World) (q:List Value→DataW Unit→Prop) (la:Option Addr) (el:List (DataW Unit)):Prop:=
 0<el.length → ∃ b o,la=some ⟨b,o,none⟩∧S b ∧ ∀ (i:Nat) (e:DataW Unit),el[i]?=some e → ∃ c0 c1 c2 c3 c4,w.cell? ⟨b,o+i*5,none⟩=some c0∧w.cell? ⟨b,o+i*5+1,none⟩=some c1∧w.cell? ⟨b,o+i*5+2,none⟩=some c2∧w.cell? ⟨b,o+i*5+3,none⟩=some c3∧w.cell? ⟨b,o+i*5+4,none⟩=some c4∧q [c0,c1,c2,c3,c4] e
def repV (S:Nat→Prop) (w:World):Nat→List Value→DataW Unit→Prop
 | 0,_,_=>False
 | n+1,cs,d => ∃ (op s:ByteArray) (z:Int) (pl:List ByteArray) (el:List (DataW Unit)) (pa la:Option Addr) (pc lc:Nat),
   d=mkE op z s pl el∧cs = [.string op,.int .i64 z,.string s,.slice pa pl.length pc,.slice la el.length lc]∧RepN S w pa pl∧rowE S w (repV S w n) la el
def RepV (S:Nat→Prop) (w:World) (cs:List Value) (d:DataW Unit):Prop:=∃ n,repV S w n cs d
def RepVL (S:Nat→Prop) (w:World) (la:Option Addr) (el:List (DataW Unit)):Prop:=rowE S w (RepV S w) la el
theorem rowE.same {S S':Nat→Prop}{w w':World}{q q':List Value→DataW Unit→Prop}{la:Option Addr}{el:List (DataW Unit)} (h:rowE S w q la el) (K:Same S w w') (hS:∀ b,S b→b<w.heap.size→S' b) (hq:∀ cs d,q cs d→q' cs d):rowE S' w' q' la el:=by
 intro h0
 obtain ⟨b,o,e,hb,hx⟩:=h h0
 have hbl:b<w.heap.size:=by
  obtain ⟨c0,_,_,_,_,h1,_⟩:=hx 0 el[0] (by simp)
  exact lt_of_cell h1
 refine ⟨b,o,e,hS b hb hbl,fun i x hi => ?_⟩
 obtain ⟨c0,c1,c2,c3,c4,h0,h1,h2,h3,h4,hr⟩:=hx i x hi
 exact ⟨c0,c1,c2,c3,c4,K.cell hb h0,K.cell hb h1,K.cell hb h2,K.cell hb h3,K.cell hb h4,hq _ _ hr⟩
theorem rowE.imp {S:Nat→Prop}{w:World}{q q':List Value→DataW Unit→Prop}{la:Option Addr}{el:List (DataW Unit)} (h:rowE S w q la el) (hq:∀ cs d,q cs d→q' cs d):rowE S w q' la el:=h.same (fun _ _ _=>rfl) (fun _ h _=>h) hq
theorem repV_same {S S':Nat→Prop}{w w':World} (K:Same S w w') (hS:∀ b,S b→b<w.heap.size→S' b):∀ (n:Nat) (cs:List Value) (d:DataW Unit),repV S w n cs d→repV S' w' n cs d
 | 0,_,_,h=>h.elim
 | n+1,cs,d,h=>by
  obtain ⟨op,s,z,pl,el,pa,la,pc,lc,hd,hcs,h1,h2⟩:=h
  exact ⟨op,s,z,pl,el,pa,la,pc,lc,hd,hcs,h1.same K hS,h2.same K hS (repV_same K hS n)⟩
theorem RepV.same {S S':Nat→Prop}{w w':World}{cs:List Value}{d:DataW Unit} (h:RepV S w cs d) (K:Same S w w') (hS:∀ b,S b→b<w.heap.size→S' b):RepV S' w' cs d:=by
 obtain ⟨n,hn⟩:=h
 exact ⟨n,repV_same K hS n _ _ hn⟩
theorem RepVL.same {S S':Nat→Prop}{w w':World}{la:Option Addr}{el:List (DataW Unit)} (h:RepVL S w la el) (K:Same S w w') (hS:∀ b,S b→b<w.heap.size→S' b):RepVL S' w' la el:=rowE.same h K hS (fun _ _ h=>h.same K hS)
theorem repV_more {S:Nat→Prop}{w:World} : ∀ (n m:Nat) (cs:List Value) (d:DataW Unit),n≤m→repV S w n cs d→repV S w m cs d
 | 0,_,_,_,_,h=>h.elim
 | n+1,0,_,_,hle,_=>by omega
 | n+1,m+1,cs,d,hle,h=>by
  obtain ⟨op,s,z,pl,el,pa,la,pc,lc,hd,hcs,h1,h2⟩:=h
  exact ⟨op,s,z,pl,el,pa,la,pc,lc,hd,hcs,h1,h2.imp (fun cs d=>repV_more n m cs d (by omega))⟩
theorem rowE.bound {S:Nat→Prop}{w:World}{la:Option Addr}{el:List (DataW Unit)} (h:RepVL S w la el):∃ n,rowE S w (repV S w n) la el:=by
 by_cases h0:0<el.length
 ·obtain ⟨b,o,e,hb,hx⟩:=h h0
  obtain ⟨n,hn⟩:=Go.Deep.fuel_lt (n:=el.length) (q:=fun i m => ∀ s,el[i]?=some s → ∃ c0 c1 c2 c3 c4,w.cell? ⟨b,o+i*5,none⟩=some c0∧w.cell? ⟨b,o+i*5+1,none⟩=some c1∧w.cell? ⟨b,o+i*5+2,none⟩=some c2∧w.cell? ⟨b,o+i*5+3,none⟩=some c3∧w.cell? ⟨b,o+i*5+4,none⟩=some c4∧repV S w m [c0,c1,c2,c3,c4] s)
   (fun i x y hxy h e he=>by
    obtain ⟨c0,c1,c2,c3,c4,h0,h1,h2,h3,h4,hr⟩:=h e he
    exact ⟨c0,c1,c2,c3,c4,h0,h1,h2,h3,h4,repV_more x y _ _ hxy hr⟩)
   (fun i hi=>by
    obtain ⟨c0,c1,c2,c3,c4,h0,h1,h2,h3,h4,n,hr⟩:=hx i el[i] (by simp [hi])
    refine ⟨n,fun e he => ?_⟩
    have:el[i]=e:=by simpa [hi] using he
    subst this
    exact ⟨c0,c1,c2,c3,c4,h0,h1,h2,h3,h4,hr⟩)
  exact ⟨n,fun _=>⟨b,o,e,hb,fun i x hi=>hn i (List.getElem?_eq_some_iff.1 hi).1 x hi⟩⟩
 ·exact ⟨0,fun h=>absurd h h0⟩
theorem mkRepV {S:Nat→Prop}{w:World}{op s:ByteArray}{z:Int}{pl:List ByteArray}{el:List (DataW Unit)}{pa la:Option Addr}{pc lc:Nat} (h1:RepN S w pa pl) (h2:RepVL S w la el) :
  RepV S w [.string op,.int .i64 z,.string s,.slice pa pl.length pc,.slice la el.length lc] (mkE op z s pl el):=by
 obtain ⟨n,hn⟩:=rowE.bound h2
 exact ⟨n+1,op,s,z,pl,el,pa,la,pc,lc,rfl,rfl,h1,hn⟩
theorem repV_of {S:Nat→Prop}{w:World} : ∀ (n:Nat) (cs:List Value) (d:DataW Unit),repE S w n cs d→repV S w n cs d
 | 0,_,_,h=>h.elim
 | n+1,cs,d,h=>by
  obtain ⟨op,s,z,pl,el,pa,la,pc,lc,hd,hcs,h1,h2,_⟩:=h
  refine ⟨op,s,z,pl,el,pa,la,pc,lc,hd,hcs,h1,fun h0 => ?_⟩
  obtain ⟨b,o,e,hb,hx⟩:=h2 h0
  refine ⟨b,o,e,hb,fun i x hi => ?_⟩
  obtain ⟨c0,c1,c2,c3,c4,q0,q1,q2,q3,q4,hr⟩:=hx i x hi
  exact ⟨c0,c1,c2,c3,c4,q0,q1,q2,q3,q4,repV_of n _ _ hr⟩
theorem RepL.toV {S:Nat→Prop}{w:World}{la:Option Addr}{el:List (DataW Unit)} (h:RepL S w la el):RepVL S w la el:=fun h0=>by
 obtain ⟨b,o,e,hb,hx⟩:=h h0
 refine ⟨b,o,e,hb,fun i x hi => ?_⟩
 obtain ⟨c0,c1,c2,c3,c4,q0,q1,q2,q3,q4,n,hr⟩:=hx i x hi
 exact ⟨c0,c1,c2,c3,c4,q0,q1,q2,q3,q4,n,repV_of n _ _ hr⟩
def repVS (S:Nat→Prop) (w:World):Nat→List Value→DataW Unit→Prop
 | 0,_,_=>False
 | n+1,cs,d => ∃ (kd nm:ByteArray) (pl:List ByteArray) (el bd es:List (DataW Unit)) (pa la ba ea:Option Addr) (pc lc bc ec:Nat),
   d=mkS kd nm pl el bd es∧cs = [.string kd,.string nm,.slice pa pl.length pc,.slice la el.length lc,.slice ba bd.length bc,.slice ea es.length ec] ∧
   RepN S w pa pl∧RepVL S w la el∧rowS S w (repVS S w n) ba bd∧rowS S w (repVS S w n) ea es
def RepVS (S:Nat→Prop) (w:World) (cs:List Value) (d:DataW Unit):Prop:=∃ n,repVS S w n cs d
def RepVSL (S:Nat→Prop) (w:World) (ba:Option Addr) (bd:List (DataW Unit)):Prop:=rowS S w (RepVS S w) ba bd
theorem repVS_same {S S':Nat→Prop}{w w':World} (K:Same S w w') (hS:∀ b,S b→b<w.heap.size→S' b):∀ (n:Nat) (cs:List Value) (d:DataW Unit),repVS S w n cs d→repVS S' w' n cs d
 | 0,_,_,h=>h.elim
 | n+1,cs,d,h=>by
  obtain ⟨kd,nm,pl,el,bd,es,pa,la,ba,ea,pc,lc,bc,ec,hd,hcs,h1,h2,h3,h4⟩:=h
  exact ⟨kd,nm,pl,el,bd,es,pa,la,ba,ea,pc,lc,bc,ec,hd,hcs,h1.same K hS,h2.same K hS,h3.same K hS (repVS_same K hS n),h4.same K hS (repVS_same K hS n)⟩
theorem RepVS.same {S S':Nat→Prop}{w w':World}{cs:List Value}{d:DataW Unit} (h:RepVS S w cs d) (K:Same S w w') (hS:∀ b,S b→b<w.heap.size→S' b):RepVS S' w' cs d:=by
 obtain ⟨n,hn⟩:=h
 exact ⟨n,repVS_same K hS n _ _ hn⟩
theorem RepVSL.same {S S':Nat→Prop}{w w':World}{ba:Option Addr}{bd:List (DataW Unit)} (h:RepVSL S w ba bd) (K:Same S w w') (hS:∀ b,S b→b<w.heap.size→S' b):RepVSL S' w' ba bd:=rowS.same h K hS (fun _ _ h=>h.same K hS)
theorem repVS_of {S:Nat→Prop}{w:World} : ∀ (n:Nat) (cs:List Value) (d:DataW Unit),repS S w n cs d→repVS S w n cs d
 | 0,_,_,h=>h.elim
 | n+1,cs,d,h=>by
  obtain ⟨kd,nm,pl,el,bd,es,pa,la,ba,ea,pc,lc,bc,ec,hd,hcs,h1,h2,h3,h4⟩:=h
  exact ⟨kd,nm,pl,el,bd,es,pa,la,ba,ea,pc,lc,bc,ec,hd,hcs,h1,h2.toV,h3.imp (repVS_of n),h4.1.imp (repVS_of n)⟩
theorem RepSL.toV {S:Nat→Prop}{w:World}{ba:Option Addr}{bd:List (DataW Unit)} (h:RepSL S w ba bd):RepVSL S w ba bd:=rowS.imp h (fun cs d ⟨n,hn⟩=>⟨n,repVS_of n cs d hn⟩)
end Go.Proofs.YtpcjcgkpjapbpaaGreatDoor
namespace Go.Proofs.YtpcjcgkpjapbpaaGreatDoor
open Go.RowKit

def okT (N:Nat):Nat→DataW Unit→Prop
 | 0,_=>False
 | n+1,d => ∃ (op:ByteArray) (z:Int) (s:ByteArray) (pl:List ByteArray) (el:List (DataW Unit)),d=mkE op z s pl el∧pl.length≤N∧el.length≤N ∧ ∀ e∈el,okT N n e
def OkT (N:Nat) (d:DataW Unit):Prop:=∃ n,okT N n d
theorem okT_more {N:Nat} : ∀ (n m:Nat) (d:DataW Unit),n≤m→okT N n d→okT N m d
 | 0,_,_,_,h=>h.elim
 | n+1,0,_,hle,_=>by omega
 | n+1,m+1,d,hle,h=>by
  obtain ⟨op,z,s,pl,el,hd,h1,h2,h3⟩:=h
  exact ⟨op,z,s,pl,el,hd,h1,h2,fun e he=>okT_more n m e (by omega) (h3 e he)⟩
theorem okT_all {N:Nat} : ∀ el:List (DataW Unit),(∀ e∈el,OkT N e) → ∃ n,∀ e∈el,okT N n e
 | [],_=>⟨0,fun e he=>by simp at he⟩
 | x::el,h=>by
  obtain ⟨n,hn⟩:=okT_all el (fun e he=>h e (List.mem_cons_of_mem _ he))
  obtain ⟨m,hm⟩:=h x (List.mem_cons_self)
  refine ⟨max n m,fun e he => ?_⟩
  rcases List.mem_cons.1 he with rfl | he
  ·exact okT_more m _ _ (by omega) hm
  ·exact okT_more n _ _ (by omega) (hn e he)
theorem mkOkT {N:Nat}{op s:ByteArray}{z:Int}{pl:List ByteArray}{el:List (DataW Unit)} (h1:pl.length≤N) (h2:el.length≤N) (h3:∀ e∈el,OkT N e):OkT N (mkE op z s pl el):=by
 obtain ⟨n,hn⟩:=okT_all el h3
 exact ⟨n+1,op,z,s,pl,el,rfl,h1,h2,hn⟩
def OkO (N:Nat) (o:Out (DataW Unit)):Prop:=∀ e k',o = .ok (e,k')→OkT N e
theorem OkO.err {N:Nat} (x:Nat × Bool):OkO N (.error x):=fun _ _ h=>by cases h
theorem OkO.ok {N:Nat}{e:DataW Unit}{k:Nat} (h:OkT N e):OkO N (.ok (e,k)):=fun _ _ h1=>by
 cases h1
 exact h
def OkL (N:Nat) (o:Out (List (DataW Unit))):Prop:=∀ el k',o = .ok (el,k')→el.length≤N ∧ ∀ e∈el,OkT N e
variable {l:List (ByteArray × ByteArray × Nat)}{N:Nat}
theorem pMore_inv {σ:Type}{step:σ→Nat→Out σ} (P:σ→Nat→Prop) (hP:∀ s k s' k' j,P s j→step s k = .ok (s',k')→P s' (j+1)):∀ (f:Nat) (s:σ) (k j:Nat) (s':σ) (k':Nat),P s j→pMore l step f s k = .ok (s',k') → ∃ j',j'≤j+f∧P s' j'
 | 0,s,k,j,s',k',_,h=>by
  unfold pMore at h
  cases h
 | f+1,s,k,j,s',k',hs,h=>by
  unfold pMore at h
  cases hm:markAt l k [comma] with
  | false =>
   rw [hm] at h
   simp only [cond_false,Except.ok.injEq,Prod.mk.injEq] at h
   exact ⟨j,by omega,by rw [←h.1];exact hs⟩
  | true =>
   rw [hm] at h
   simp only [cond_true] at h
   cases ho:step s (k+1) with
   | error y =>
    rw [ho] at h
    cases h
   | ok y =>
    obtain ⟨s1,k1⟩:=y
    rw [ho] at h
    simp only at h
    obtain ⟨j',h1,h2⟩:=pMore_inv P hP f s1 k1 (j+1) s' k' (hP _ _ _ _ _ hs ho) h
    exact ⟨j',by omega,h2⟩
theorem pSeveral_inv {σ:Type}{step:σ→Nat→Out σ} (P:σ→Nat→Prop) (hP:∀ s k s' k' j,P s j→step s k = .ok (s',k')→P s' (j+1)) {f:Nat}{s:σ}{k j:Nat}{s':σ}{k':Nat} (hs:P s j) (h:pSeveral l step f s k = .ok (s',k')):∃ j',j'≤j+f+1∧P s' j':=by
 unfold pSeveral at h
 cases ho:step s k with
 | error y =>
  rw [ho] at h
  cases h
 | ok y =>
  obtain ⟨s1,k1⟩:=y
  rw [ho] at h
  simp only at h
  obtain ⟨j',h1,h2⟩:=pMore_inv P hP f s1 k1 (j+1) s' k' (hP _ _ _ _ _ hs ho) h
  exact ⟨j',by omega,h2⟩
theorem pUpTo_inv {σ:Type}{step:σ→Nat→Out σ} (P:σ→Nat→Prop) (hP:∀ s k s' k' j,P s j→step s k = .ok (s',k')→P s' (j+1)) {c:ByteArray}{f:Nat}{s:σ}{k j:Nat}{s':σ}{k':Nat} (hs:P s j) (h:pUpTo l step c f s k = .ok (s',k')):∃ j',j'≤j+f+1∧P s' j':=by
 unfold pUpTo at h
 cases hm:markAt l k [c] with
 | true =>
  rw [hm] at h
  simp only [cond_true,Except.ok.injEq,Prod.mk.injEq] at h
  exact ⟨j,by omega,by rw [←h.1];exact hs⟩
 | false =>
  rw [hm] at h
  simp only [cond_false] at h
  cases ho:pSeveral l step f s k with
  | error y =>
   rw [ho] at h
   cases h
  | ok y =>
   obtain ⟨s1,k1⟩:=y
   rw [ho] at h
   simp only at h
   cases hm2:markAt l k1 [c] with
   | false =>
    rw [hm2] at h
    cases h
   | true =>
    rw [hm2] at h
    simp only [cond_true,Except.ok.injEq,Prod.mk.injEq] at h
    rw [←h.1]
    exact pSeveral_inv P hP hs ho
theorem name_inv (s:List ByteArray) (k:Nat) (s':List ByteArray) (k' j:Nat) (hs:s.length=j) (h:pName l s k = .ok (s',k')):s'.length=j+1:=by
 unfold pName at h
 split at h
 next x hx =>
  cases hm:isNameB x with
  | false =>
   rw [hm] at h
   cases h
  | true =>
   rw [hm] at h
   simp only [cond_true,Except.ok.injEq,Prod.mk.injEq] at h
   rw [←h.1]
   simp [hs]
 next=>cases h
theorem ok_deep {dp k:Nat}{o:Out (DataW Unit)} (h:OkO N o):OkO N (pDeep dp k o):=by
 unfold pDeep
 split
 ·exact OkO.err _
 ·exact h
theorem ok_closed {c:ByteArray}{o:Out (DataW Unit)} (h:OkO N o):OkO N (pClosed l c o):=by
 unfold pClosed
 cases o with
 | error y=>exact OkO.err _
 | ok y =>
  obtain ⟨e,k'⟩:=y
  simp only
  cases hm:markAt l k' [c] with
  | true =>
   simp only [cond_true]
   exact OkO.ok (h e k' rfl)
  | false =>
   simp only [cond_false]
   exact OkO.err _
theorem ok_list {op:ByteArray}{o:Out (List (DataW Unit))} (h:OkL N o):OkO N (pList op o):=by
 unfold pList
 cases o with
 | error y=>exact OkO.err _
 | ok y =>
  obtain ⟨el,k'⟩:=y
  obtain ⟨h1,h2⟩:=h el k' rfl
  exact OkO.ok (mkOkT (Nat.zero_le _) h1 h2)
theorem ok_op {op:ByteArray}{o:Out (DataW Unit)} (hN:4≤N) (h:OkO N o):OkO N (pOp op o):=by
 unfold pOp
 cases o with
 | error y=>exact OkO.err _
 | ok y =>
  obtain ⟨e,k'⟩:=y
  exact OkO.ok (mkOkT (Nat.zero_le _) (by simp;omega) (fun x hx=>by simp at hx;subst hx;exact h _ k' rfl))
theorem ok_index {e:DataW Unit}{o:Out (DataW Unit)} (hN:4≤N) (he:OkT N e) (h:OkO N o):OkO N (pIndex e o):=by
 unfold pIndex
 cases o with
 | error y=>exact OkO.err _
 | ok y =>
  obtain ⟨e2,k'⟩:=y
  refine OkO.ok (mkOkT (Nat.zero_le _) (by simp;omega) (fun x hx => ?_))
  simp at hx
  rcases hx with rfl | rfl
  ·exact he
  ·exact h _ k' rfl
theorem ok_terms {term:Nat→Out (DataW Unit)} (ht:∀ k,OkO N (term k)) {c:ByteArray}{es:List (DataW Unit)}{k:Nat} (hN:es.length+l.length+1≤N) (he:∀ e∈es,OkT N e):OkL N (pUpTo l (pTermStep term) c l.length es k):=fun el k' h=>by
 obtain ⟨j',h1,h2,h3⟩:=pUpTo_inv (P:=fun s j=>s.length=es.length+j ∧ ∀ e∈s,OkT N e) (fun s k s' k' j hs h=>by
  unfold pTermStep at h
  cases ho:term k with
  | error y =>
   rw [ho] at h
   cases h
  | ok y =>
   obtain ⟨e1,k1⟩:=y
   rw [ho] at h
   simp only [Except.ok.injEq,Prod.mk.injEq] at h
   rw [←h.1]
   refine ⟨by simp [hs.1];omega,fun x hx => ?_⟩
   simp at hx
   rcases hx with hx | rfl
   ·exact hs.2 x hx
   ·exact ht k _ k1 ho) (j:=0) ⟨rfl,he⟩ h
 exact ⟨by omega,h3⟩
theorem ok_pairs {term:Nat→Out (DataW Unit)} (ht:∀ k,OkO N (term k)) {c:ByteArray}{k:Nat} (hN:2*l.length+2≤N):OkL N (pUpTo l (pPairStep l term) c l.length [] k):=fun el k' h=>by
 obtain ⟨j',h1,h2,h3⟩:=pUpTo_inv (P:=fun s j=>s.length=2*j ∧ ∀ e∈s,OkT N e) (fun s k s' k' j hs h=>by
  unfold pPairStep at h
  have hc:=ok_closed (l:=l) (c:=colon) (ht k)
  cases ho:pClosed l colon (term k) with
  | error y =>
   rw [ho] at h
   cases h
  | ok y =>
   obtain ⟨e1,k1⟩:=y
   rw [ho] at h
   simp only at h
   cases ho2:term k1 with
   | error y =>
    rw [ho2] at h
    cases h
   | ok y =>
    obtain ⟨e2,k2⟩:=y
    rw [ho2] at h
    simp only [Except.ok.injEq,Prod.mk.injEq] at h
    rw [←h.1]
    refine ⟨by simp [hs.1];omega,fun x hx => ?_⟩
    simp at hx
    rcases hx with hx | rfl | rfl
    ·exact hs.2 x hx
    ·exact hc _ k1 ho
    ·exact ht k1 _ k2 ho2) (j:=0) ⟨rfl,fun e he=>by simp at he⟩ h
 exact ⟨by omega,h3⟩
theorem ok_postOn {dp:Nat}{term:Nat→Out (DataW Unit)} (hN:2*l.length+4≤N) (ht:∀ k,OkO N (term k)):∀ (f:Nat) (e:DataW Unit) (k:Nat),OkT N e→OkO N (pPostOn l dp term f e k)
 | 0,e,k,_=>OkO.err _
 | f+1,e,k,he=>by
  unfold pPostOn
  cases hm:markAt l k [lpar] with
  | true =>
   simp only [cond_true]
   have H:=ok_deep (dp:=dp) (k:=k) (ok_list (op:=kCall) (ok_terms (l:=l) ht (c:=rpar) (es:=[e]) (k:=k+1) (by simp;omega) (fun x hx=>by simp at hx;subst hx;exact he)))
   revert H
   generalize pDeep dp k (pList kCall (pUpTo l (pTermStep term) rpar l.length [e] (k+1)))=o
   intro H
   cases o with
   | error y=>exact OkO.err _
   | ok y=>exact ok_postOn hN ht f _ _ (H _ _ rfl)
  | false =>
   simp only [cond_false]
   cases hm2:markAt l k [lbrk] with
   | true =>
    simp only [cond_true]
    have H:=ok_deep (dp:=dp) (k:=k) (ok_index (by omega) he (ok_closed (l:=l) (c:=rbrk) (ht (k+1))))
    revert H
    generalize pDeep dp k (pIndex e (pClosed l rbrk (term (k+1))))=o
    intro H
    cases o with
    | error y=>exact OkO.err _
    | ok y=>exact ok_postOn hN ht f _ _ (H _ _ rfl)
   | false =>
    simp only [cond_false]
    exact OkO.ok he
theorem ok_sidesOn {rank:Nat}{sub:Nat→Out (DataW Unit)} (hN:4≤N) (ht:∀ k,OkO N (sub k)):∀ (f:Nat) (e:DataW Unit) (k:Nat),OkT N e→OkO N (pSidesOn l rank sub f e k)
 | 0,e,k,h=>OkO.ok h
 | f+1,e,k,h=>by
  unfold pSidesOn
  cases hx:l[k]? with
  | none=>exact OkO.ok h
  | some x =>
   simp only
   cases hm:markB x (rankOps rank) with
   | true =>
    simp only [cond_true]
    cases ho:sub (k+1) with
    | error y=>exact OkO.err _
    | ok y =>
     obtain ⟨e2,k2⟩:=y
     have h2:OkT N (mkE x.2.1 0 ⟨#[]⟩ [] [e,e2]):=mkOkT (Nat.zero_le _) (by simp;omega) (fun z hz=>by
      simp at hz
      rcases hz with rfl | rfl
      ·exact h
      ·exact ht (k+1) _ k2 ho)
     simp only
     cases hr:rank == 4 with
     | true =>
      simp only [cond_true]
      exact OkO.ok h2
     | false =>
      simp only [cond_false]
      exact ok_sidesOn hN ht f _ _ h2
   | false =>
    simp only [cond_false]
    exact OkO.ok h
theorem ok_leaf {op s:ByteArray}{z:Int} : OkT N (mkE op z s [] []):=mkOkT (Nat.zero_le _) (Nat.zero_le _) (fun e he=>by simp at he)
theorem ok_atom {dp:Nat}{term:Nat→Out (DataW Unit)}{terms pairs:Nat→Out (List (DataW Unit))}{k:Nat} (h:OkO N (term (k+1))) (h1:OkL N (terms (k+1))) (h2:OkL N (pairs (k+1))):OkO N (pAtom l dp term terms pairs k):=by
 unfold pAtom
 cases hx:l[k]? with
 | none=>exact OkO.err _
 | some x =>
  simp only
  cases isIntB x with
  | true=>exact OkO.ok ok_leaf
  | false =>
   simp only [cond_false]
   cases isStrB x || isNameB x with
   | true=>exact OkO.ok ok_leaf
   | false =>
    simp only [cond_false]
    cases markB x [kNone,kTrue,kFalse] with
    | true=>exact OkO.ok ok_leaf
    | false =>
     simp only [cond_false]
     cases markB x [lpar] with
     | true=>exact ok_deep (ok_closed h)
     | false =>
      simp only [cond_false]
      cases markB x [lbrk] with
      | true=>exact ok_deep (ok_list h1)
      | false =>
       simp only [cond_false]
       cases markB x [lbrc] with
       | true=>exact ok_deep (ok_list h2)
       | false=>exact OkO.err _
theorem ok_ahead {m:ByteArray}{k dp:Nat}{o1 o2:Out (DataW Unit)} (h1:OkO N o1) (h2:OkO N o2):OkO N (pAhead l m k dp o1 o2):=by
 unfold pAhead
 cases hm:markAt l k [m] with
 | true =>
  simp only [cond_true]
  split
  ·exact OkO.err _
  ·exact h2
 | false =>
  simp only [cond_false]
  exact h1
theorem ok_lambda {one:Nat→Out (List (DataW Unit))}{k:Nat} (hN:l.length+1≤N) (h1:∀ k,OkL N (one k)):OkO N (pLambda l one k):=by
 unfold pLambda
 cases ho:pUpTo l (pName l) colon l.length [] k with
 | error y=>exact OkO.err _
 | ok y =>
  obtain ⟨names,k1⟩:=y
  simp only
  obtain ⟨j',q1,q2⟩:=pUpTo_inv (P:=fun s j=>s.length=j) (fun s k s' k' j hs h=>name_inv (l:=l) s k s' k' j hs h) (j:=0) rfl ho
  cases ho1:one k1 with
  | error y=>exact OkO.err _
  | ok y =>
   obtain ⟨el,k2⟩:=y
   obtain ⟨r1,r2⟩:=h1 k1 el k2 ho1
   exact OkO.ok (mkOkT (by omega) r1 r2)
theorem ok_one {o:Out (DataW Unit)} (hN:4≤N) (h:OkO N o):OkL N (pOne o):=fun el k' h1=>by
 unfold pOne at h1
 cases o with
 | error y=>cases h1
 | ok y =>
  obtain ⟨e,k1⟩:=y
  simp only [Except.ok.injEq,Prod.mk.injEq] at h1
  rw [←h1.1]
  exact ⟨by simp;omega,fun x hx=>by simp at hx;subst hx;exact h _ k1 rfl⟩
theorem ranked_ok (hN:2*l.length+4≤N):∀ (f dp rank k:Nat),OkO N (pRanked l f dp rank k)
 | 0,dp,rank,k=>OkO.err _
 | f+1,dp,rank,k=>by
  unfold pRanked
  split
  ·exact ok_ahead (ranked_ok hN f dp 1 k) (ok_lambda (by omega) (fun k1=>ok_one (by omega) (ranked_ok hN f (dp+1) 0 k1)))
  ·split
   ·exact ok_ahead (ranked_ok hN f dp 4 k) (ok_op (by omega) (ranked_ok hN f (dp+1) 3 (k+1)))
   ·split
    ·exact ok_ahead (ranked_ok hN f dp 8 k) (ok_op (by omega) (ranked_ok hN f (dp+1) 7 (k+1)))
    ·split
     ·unfold pPost
      have H:=ok_atom (l:=l) (dp:=dp) (term:=pRanked l f (dp+1) 0) (terms:=fun k1=>pUpTo l (pTermStep (pRanked l f (dp+1) 0)) rbrk l.length [] k1) (pairs:=fun k1=>pUpTo l (pPairStep l (pRanked l f (dp+1) 0)) rbrc l.length [] k1) (k:=k) (ranked_ok hN f (dp+1) 0 (k+1)) (ok_terms (fun k=>ranked_ok hN f (dp+1) 0 k) (by simp;omega) (fun e he=>by simp at he)) (ok_pairs (fun k=>ranked_ok hN f (dp+1) 0 k) (by omega))
      revert H
      generalize pAtom l dp (pRanked l f (dp+1) 0) (fun k1=>pUpTo l (pTermStep (pRanked l f (dp+1) 0)) rbrk l.length [] k1) (fun k1=>pUpTo l (pPairStep l (pRanked l f (dp+1) 0)) rbrc l.length [] k1) k=o
      intro H
      cases o with
      | error y=>exact OkO.err _
      | ok y=>exact ok_postOn hN (fun k=>ranked_ok hN f (dp+1) 0 k) _ _ _ (H _ _ rfl)
     ·unfold pSides
      have H:=ranked_ok hN f dp (rank+1) k
      revert H
      generalize pRanked l f dp (rank+1) k=o
      intro H
      cases o with
      | error y=>exact OkO.err _
      | ok y=>exact ok_sidesOn (by omega) (fun k=>ranked_ok hN f dp (rank+1) k) _ _ _ (H _ _ rfl)
theorem term_ok (hN:2*l.length+4≤N) (k:Nat):OkO N (pTerm l k):=ranked_ok hN _ _ _ _
end Go.Proofs.YtpcjcgkpjapbpaaGreatDoor
namespace Go.Proofs.YtpcjcgkpjapbpaaGreatDoor
open Go.RowKit

def okS (N:Nat):Nat→DataW Unit→Prop
 | 0,_=>False
 | n+1,d => ∃ (kd nm:ByteArray) (pl:List ByteArray) (el bd es:List (DataW Unit)),d=mkS kd nm pl el bd es∧pl.length≤N∧(el.length≤N ∧ ∀ e∈el,OkT N e)∧bd.length≤N∧es.length≤N∧(∀ e∈bd,okS N n e) ∧ ∀ e∈es,okS N n e
def OkS (N:Nat) (d:DataW Unit):Prop:=∃ n,okS N n d
theorem okS_more {N:Nat} : ∀ (n m:Nat) (d:DataW Unit),n≤m→okS N n d→okS N m d
 | 0,_,_,_,h=>h.elim
 | n+1,0,_,hle,_=>by omega
 | n+1,m+1,d,hle,h=>by
  obtain ⟨kd,nm,pl,el,bd,es,hd,h1,h2,h3,h4,h5,h6⟩:=h
  exact ⟨kd,nm,pl,el,bd,es,hd,h1,h2,h3,h4,fun e he=>okS_more n m e (by omega) (h5 e he),fun e he=>okS_more n m e (by omega) (h6 e he)⟩
theorem okS_all {N:Nat} : ∀ el:List (DataW Unit),(∀ e∈el,OkS N e) → ∃ n,∀ e∈el,okS N n e
 | [],_=>⟨0,fun e he=>by simp at he⟩
 | x::el,h=>by
  obtain ⟨n,hn⟩:=okS_all el (fun e he=>h e (List.mem_cons_of_mem _ he))
  obtain ⟨m,hm⟩:=h x (List.mem_cons_self)
  refine ⟨max n m,fun e he => ?_⟩
  rcases List.mem_cons.1 he with rfl | he
  ·exact okS_more m _ _ (by omega) hm
  ·exact okS_more n _ _ (by omega) (hn e he)
def OkSL (N:Nat) (sl:List (DataW Unit)):Prop:=sl.length≤N ∧ ∀ e∈sl,OkS N e
def OkTL (N:Nat) (el:List (DataW Unit)):Prop:=el.length≤N ∧ ∀ e∈el,OkT N e
theorem mkOkS {N:Nat}{kd nm:ByteArray}{pl:List ByteArray}{el bd es:List (DataW Unit)} (h1:pl.length≤N) (h2:OkTL N el) (h3:OkSL N bd) (h4:OkSL N es):OkS N (mkS kd nm pl el bd es):=by
 obtain ⟨n,hn⟩:=okS_all bd h3.2
 obtain ⟨m,hm⟩:=okS_all es h4.2
 exact ⟨max n m+1,kd,nm,pl,el,bd,es,rfl,h1,h2,h3.1,h4.1,fun e he=>okS_more n _ e (by omega) (hn e he),fun e he=>okS_more m _ e (by omega) (hm e he)⟩
theorem OkTL.nil (N:Nat):OkTL N []:=⟨Nat.zero_le _,fun e he=>by simp at he⟩
theorem OkSL.nil (N:Nat):OkSL N []:=⟨Nat.zero_le _,fun e he=>by simp at he⟩
def OkSO (N:Nat) (o:Out (DataW Unit)):Prop:=∀ s k',o = .ok (s,k')→OkS N s
def OkSLO (N:Nat) (o:Out (List (DataW Unit))):Prop:=∀ s k',o = .ok (s,k')→OkSL N s
theorem OkSO.err {N:Nat} (x:Nat × Bool):OkSO N (.error x):=fun _ _ h=>by cases h
theorem OkSO.ok {N:Nat}{e:DataW Unit}{k:Nat} (h:OkS N e):OkSO N (.ok (e,k)):=fun _ _ h1=>by
 cases h1
 exact h
theorem OkSLO.err {N:Nat} (x:Nat × Bool):OkSLO N (.error x):=fun _ _ h=>by cases h
theorem OkSLO.ok {N:Nat}{e:List (DataW Unit)}{k:Nat} (h:OkSL N e):OkSLO N (.ok (e,k)):=fun _ _ h1=>by
 cases h1
 exact h
variable {l:List (ByteArray × ByteArray × Nat)}{N:Nat}
theorem sz_block {bl:Nat}{inner:Nat→Out (List (DataW Unit))}{k:Nat} (h:∀ k,OkSLO N (inner k)):OkSLO N (pBlock l bl inner k):=by
 unfold pBlock
 cases isKind l k [110,101,119,108,105,110,101] with
 | false=>exact OkSLO.err _
 | true =>
  simp only [cond_true]
  cases isKind l (k+1) [105,110,100,101,110,116] with
  | false=>exact OkSLO.err _
  | true =>
   simp only [cond_true]
   split
   ·exact OkSLO.err _
   ·cases ho:inner (k+2) with
    | error y=>exact OkSLO.err _
    | ok y =>
     obtain ⟨ss,k'⟩:=y
     simp only
     cases isKind l k' [100,101,100,101,110,116] with
     | false=>exact OkSLO.err _
     | true=>exact OkSLO.ok (h _ _ k' ho)
theorem sz_blockOf {bl:Nat}{inner:Nat→Out (List (DataW Unit))}{k:Nat} (h:∀ k,OkSLO N (inner k)):OkSLO N (pBlockOf l bl inner k):=by
 unfold pBlockOf
 cases markAt l k [colon] with
 | false=>exact OkSLO.err _
 | true=>exact sz_block h
theorem sz_while {one blk:Nat→Out (List (DataW Unit))}{k:Nat} (h1:∀ k,OkL N (one k)) (h2:∀ k,OkSLO N (blk k)):OkSO N (pWhile one blk k):=by
 unfold pWhile
 cases ho:one k with
 | error y=>exact OkSO.err _
 | ok y =>
  obtain ⟨el,k1⟩:=y
  simp only
  cases ho2:blk k1 with
  | error y=>exact OkSO.err _
  | ok y=>exact OkSO.ok (mkOkS (Nat.zero_le _) (h1 k el k1 ho) (h2 k1 _ _ ho2) (OkSL.nil N))
theorem sz_each {one blk:Nat→Out (List (DataW Unit))}{k:Nat} (h1:∀ k,OkL N (one k)) (h2:∀ k,OkSLO N (blk k)):OkSO N (pEach l one blk k):=by
 unfold pEach
 cases isKind l k [110,97,109,101] with
 | false=>exact OkSO.err _
 | true =>
  simp only [cond_true]
  cases markAt l (k+1) [kIn] with
  | false=>exact OkSO.err _
  | true =>
   simp only [cond_true]
   cases ho:one (k+2) with
   | error y=>exact OkSO.err _
   | ok y =>
    obtain ⟨el,k1⟩:=y
    simp only
    cases ho2:blk k1 with
    | error y=>exact OkSO.err _
    | ok y=>exact OkSO.ok (mkOkS (Nat.zero_le _) (h1 _ el k1 ho) (h2 k1 _ _ ho2) (OkSL.nil N))
theorem sz_attempt {blk:Nat→Out (List (DataW Unit))}{k:Nat} (h2:∀ k,OkSLO N (blk k)):OkSO N (pAttempt l blk k):=by
 unfold pAttempt
 cases ho:blk k with
 | error y=>exact OkSO.err _
 | ok y =>
  obtain ⟨ss,k1⟩:=y
  simp only
  cases markAt l k1 [kExcept] with
  | false=>exact OkSO.err _
  | true =>
   simp only [cond_true]
   cases isKind l (k1+1) [110,97,109,101] with
   | false=>exact OkSO.err _
   | true =>
    simp only [cond_true]
    cases ho2:blk (k1+2) with
    | error y=>exact OkSO.err _
    | ok y=>exact OkSO.ok (mkOkS (Nat.zero_le _) (OkTL.nil N) (h2 k _ _ ho) (h2 _ _ _ ho2))
theorem sz_choice {one blk:Nat→Out (List (DataW Unit))} (hN:4≤N) (h1:∀ k,OkL N (one k)) (h2:∀ k,OkSLO N (blk k)):∀ (f k:Nat),OkSO N (pChoice l one blk f k)
 | 0,k=>OkSO.err _
 | f+1,k=>by
  unfold pChoice
  cases ho:one k with
  | error y=>exact OkSO.err _
  | ok y =>
   obtain ⟨el,k1⟩:=y
   simp only
   cases ho2:blk k1 with
   | error y=>exact OkSO.err _
   | ok y =>
    obtain ⟨ss,k2⟩:=y
    simp only
    have e1:=h1 k el k1 ho
    have e2:=h2 k1 ss k2 ho2
    cases markAt l k2 [kElif] with
    | true =>
     simp only [cond_true]
     cases ho3:pChoice l one blk f (k2+1) with
     | error y=>exact OkSO.err _
     | ok y =>
      obtain ⟨s,k3⟩:=y
      refine OkSO.ok (mkOkS (Nat.zero_le _) e1 e2 ⟨by simp;omega,fun x hx => ?_⟩)
      simp at hx
      subst hx
      exact sz_choice hN h1 h2 f (k2+1) _ k3 ho3
    | false =>
     simp only [cond_false]
     cases markAt l k2 [kElse] with
     | true =>
      simp only [cond_true]
      cases ho3:blk (k2+1) with
      | error y=>exact OkSO.err _
      | ok y=>exact OkSO.ok (mkOkS (Nat.zero_le _) e1 e2 (h2 _ _ _ ho3))
     | false=>exact OkSO.ok (mkOkS (Nat.zero_le _) e1 e2 (OkSL.nil N))
theorem sz_func {blk:Nat→Out (List (DataW Unit))}{k:Nat} (hN:l.length+1≤N) (h2:∀ k,OkSLO N (blk k)):OkSO N (pFunc l blk k):=by
 unfold pFunc
 cases isKind l k [110,97,109,101] with
 | false=>exact OkSO.err _
 | true =>
  simp only [cond_true]
  cases markAt l (k+1) [lpar] with
  | false=>exact OkSO.err _
  | true =>
   simp only [cond_true]
   cases ho:pUpTo l (pName l) rpar l.length [] (k+2) with
   | error y=>exact OkSO.err _
   | ok y =>
    obtain ⟨names,k1⟩:=y
    simp only
    obtain ⟨j',q1,q2⟩:=pUpTo_inv (P:=fun s j=>s.length=j) (fun s k s' k' j hs h=>name_inv (l:=l) s k s' k' j hs h) (j:=0) rfl ho
    cases ho2:blk k1 with
    | error y=>exact OkSO.err _
    | ok y=>exact OkSO.ok (mkOkS (by omega) (OkTL.nil N) (h2 k1 _ _ ho2) (OkSL.nil N))
theorem parts_ok {e:DataW Unit} (h:OkT N e):OkTL N (partsOf e):=by
 obtain ⟨n,hn⟩:=h
 cases n with
 | zero=>exact hn.elim
 | succ n =>
  obtain ⟨op,z,s,pl,el,rfl,_,h2,h3⟩:=hn
  exact ⟨h2,fun e he=>⟨n,h3 e he⟩⟩
theorem sz_bare {kd nm:ByteArray} : OkS N (mkS kd nm [] [] [] []):=mkOkS (Nat.zero_le _) (OkTL.nil N) (OkSL.nil N) (OkSL.nil N)
theorem sz_terms {kd nm:ByteArray}{el:List (DataW Unit)} (h:OkTL N el):OkS N (mkS kd nm [] el [] []):=mkOkS (Nat.zero_le _) h (OkSL.nil N) (OkSL.nil N)
theorem sz_termSet {term:Nat→Out (DataW Unit)}{k:Nat} (hN:4≤N) (hix:∀ k,IxO (term k)) (h:∀ k,OkO N (term k)):OkSO N (pTermSet l term k):=by
 unfold pTermSet
 cases ho:term k with
 | error y=>exact OkSO.err _
 | ok y =>
  obtain ⟨e,k1⟩:=y
  simp only
  cases (isKind l k [110,97,109,101] && (k1 == k+1)) && markAt l k1 [kEq] with
  | true =>
   simp only [cond_true]
   cases ho1:pOne (term (k1+1)) with
   | error y=>exact OkSO.err _
   | ok y=>exact OkSO.ok (sz_terms (ok_one hN (h (k1+1)) _ _ ho1))
  | false =>
   simp only [cond_false]
   cases hi:opOf e == [105,110,100,101,120] with
   | false =>
    simp only [Bool.false_and,cond_false]
    exact OkSO.ok (sz_terms ⟨by simp;omega,fun x hx=>by simp at hx;subst hx;exact h k _ k1 ho⟩)
   | true =>
    simp only [Bool.true_and]
    cases markAt l k1 [kEq] with
    | false=>exact OkSO.ok (sz_terms ⟨by simp;omega,fun x hx=>by simp at hx;subst hx;exact h k _ k1 ho⟩)
    | true =>
     simp only [cond_true]
     cases ho1:term (k1+1) with
     | error y=>exact OkSO.err _
     | ok y =>
      obtain ⟨e2,k2⟩:=y
      have h2:=hix k e k1 ho (by simpa using hi)
      refine OkSO.ok (sz_terms ⟨by simp [h2];omega,fun x hx => ?_⟩)
      simp at hx
      rcases hx with hx | rfl
      ·exact (parts_ok (h k e k1 ho)).2 x hx
      ·exact h (k1+1) _ k2 ho1
theorem sz_line {term:Nat→Out (DataW Unit)}{one:Nat→Out (List (DataW Unit))}{tset:Nat→Out (DataW Unit)}{k:Nat} (hN:l.length+1≤N) (h0:∀ k,OkO N (term k)) (h1:∀ k,OkL N (one k)) (h2:OkSO N (tset k)):OkSO N (pLine l term one tset k):=by
 unfold pLine
 cases markAt l k [kBreak,kContinue,kPass] with
 | true=>exact OkSO.ok sz_bare
 | false =>
  simp only [cond_false]
  cases markAt l k [kGlobal,kNonlocal] with
  | true =>
   simp only [cond_true]
   cases ho:pSeveral l (pName l) l.length [] (k+1) with
   | error y=>exact OkSO.err _
   | ok y =>
    obtain ⟨names,k1⟩:=y
    obtain ⟨j',q1,q2⟩:=pSeveral_inv (P:=fun s j=>s.length=j) (fun s k s' k' j hs h=>name_inv (l:=l) s k s' k' j hs h) (j:=0) rfl ho
    exact OkSO.ok (mkOkS (by omega) (OkTL.nil N) (OkSL.nil N) (OkSL.nil N))
  | false =>
   simp only [cond_false]
   cases markAt l k [kReturn] with
   | true =>
    simp only [cond_true]
    cases isKind l (k+1) [110,101,119,108,105,110,101] with
    | true=>exact OkSO.ok sz_bare
    | false =>
     simp only [cond_false]
     cases ho:one (k+1) with
     | error y=>exact OkSO.err _
     | ok y=>exact OkSO.ok (sz_terms (h1 _ _ _ ho))
   | false =>
    simp only [cond_false]
    cases markAt l k [kRaise] with
    | true =>
     simp only [cond_true]
     cases ho:one (k+1) with
     | error y=>exact OkSO.err _
     | ok y=>exact OkSO.ok (sz_terms (h1 _ _ _ ho))
    | false =>
     simp only [cond_false]
     cases markAt l k [kDel] with
     | true =>
      simp only [cond_true]
      cases ho:term (k+1) with
      | error y=>exact OkSO.err _
      | ok y =>
       obtain ⟨e,k1⟩:=y
       simp only
       cases opOf e == [105,110,100,101,120] with
       | true=>exact OkSO.ok (sz_terms (parts_ok (h0 _ e k1 ho)))
       | false=>exact OkSO.err _
     | false=>exact h2
theorem sz_statement {a b c d e f:Nat→Out (DataW Unit)}{k:Nat} (ha:∀ k,OkSO N (a k)) (hb:∀ k,OkSO N (b k)) (hc:∀ k,OkSO N (c k)) (hd:∀ k,OkSO N (d k)) (he:∀ k,OkSO N (e k)) (hf:OkSO N (f k)):OkSO N (pStatement l a b c d e f k):=by
 unfold pStatement
 cases markAt l k [kIf] with
 | true=>exact ha _
 | false =>
  simp only [cond_false]
  cases markAt l k [kWhile] with
  | true=>exact hb _
  | false =>
   simp only [cond_false]
   cases markAt l k [kFor] with
   | true=>exact hc _
   | false =>
    simp only [cond_false]
    cases markAt l k [kDef] with
    | true=>exact hd _
    | false =>
     simp only [cond_false]
     cases markAt l k [kTry] with
     | true=>exact he _
     | false =>
      simp only [cond_false]
      cases ho:f k with
      | error y=>exact OkSO.err _
      | ok y =>
       obtain ⟨s,k1⟩:=y
       simp only
       cases isKind l k1 [110,101,119,108,105,110,101] with
       | false=>exact OkSO.err _
       | true=>exact OkSO.ok (hf s k1 ho)
theorem sz_stmts {cb:List UInt8}{stmt:Nat→Out (DataW Unit)} (h:∀ k,OkSO N (stmt k)):∀ (f:Nat) (ss:List (DataW Unit)) (k:Nat),ss.length+f≤N→(∀ s∈ss,OkS N s)→OkSLO N (pStmts l cb stmt f ss k)
 | 0,_,_,_,_=>OkSLO.err _
 | f+1,ss,k,hn,hs=>by
  unfold pStmts
  cases isKind l k cb with
  | true=>exact OkSLO.ok ⟨by omega,hs⟩
  | false =>
   simp only [cond_false]
   cases ho:stmt k with
   | error y=>exact OkSLO.err _
   | ok y =>
    obtain ⟨s,k1⟩:=y
    refine sz_stmts h f (ss ++ [s]) k1 (by simp;omega) (fun x hx => ?_)
    simp at hx
    rcases hx with hx | rfl
    ·exact hs x hx
    ·exact h k _ k1 ho
theorem stmtAt_sz (hN:2*l.length+4≤N):∀ (d k:Nat),OkSO N (pStmtAt l d k)
 | 0,k=>OkSO.err _
 | d+1,k=>by
  have H1:∀ k,OkL N (pOneAt l k):=fun k=>ok_one (by omega) (term_ok hN k)
  have H2:∀ k,OkSLO N (pBlockOf l (12 - d) (fun k'=>pStmts l dedentB.toList (pStmtAt l d) (l.length+1) [] k') k):=fun k=>sz_blockOf (fun k'=>sz_stmts (fun k=>stmtAt_sz hN d k) _ _ _ (by simp;omega) (fun s hs=>by simp at hs))
  unfold pStmtAt pStmtIn
  exact sz_statement (fun k=>sz_choice (by omega) H1 H2 _ _) (fun k=>sz_while H1 H2) (fun k=>sz_each H1 H2) (fun k=>sz_func (by omega) H2) (fun k=>sz_attempt H2) (sz_line (by omega) (fun k=>term_ok hN k) H1 (sz_termSet (by omega) (term_ix l) (fun k=>term_ok hN k)))
theorem read_sz {ss:List (DataW Unit)}{k:Nat} (hN:2*l.length+4≤N) (h:pRead l = .ok (ss,k)):OkSL N ss:=by
 unfold pRead at h
 exact sz_stmts (fun k=>stmtAt_sz hN 12 k) _ _ _ (by simp;omega) (fun s hs=>by simp at hs) ss k h
end Go.Proofs.YtpcjcgkpjapbpaaGreatDoor
namespace Go.Proofs.YtpcjcgkpjapbpaaGreatDoor
open Go.RowKit

def bT:Nat→DataW Unit→Prop
 | 0,_=>False
 | n+1,d => ∃ (op:ByteArray) (z:Int) (s:ByteArray) (pl:List ByteArray) (el:List (DataW Unit)),d=mkE op z s pl el∧pl.length≤8796093022208∧el.length≤1599289640401 ∧ ∀ e∈el,bT n e
def BT (d:DataW Unit):Prop:=∃ n,bT n d
def BTL (el:List (DataW Unit)):Prop:=el.length≤1599289640401 ∧ ∀ e∈el,BT e
def bS:Nat→DataW Unit→Prop
 | 0,_=>False
 | n+1,d => ∃ (kd nm:ByteArray) (pl:List ByteArray) (el bd es:List (DataW Unit)),d=mkS kd nm pl el bd es∧pl.length≤8796093022208∧(el.length≤1599289640401 ∧ ∀ e∈el,BT e)∧bd.length≤1099511627776∧es.length≤1099511627776∧(∀ e∈bd,bS n e) ∧ ∀ e∈es,bS n e
def BS (d:DataW Unit):Prop:=∃ n,bS n d
def BSL (sl:List (DataW Unit)):Prop:=sl.length≤1099511627776 ∧ ∀ e∈sl,BS e
theorem bT_of:∀ (n:Nat) (d:DataW Unit),okT 2000000 n d→bT n d
 | 0,_,h=>h.elim
 | n+1,d,h=>by
  obtain ⟨op,z,s,pl,el,hd,h1,h2,h3⟩:=h
  exact ⟨op,z,s,pl,el,hd,by omega,by omega,fun e he=>bT_of n e (h3 e he)⟩
theorem bt_of {d:DataW Unit} (h:OkT 2000000 d):BT d:=by
 obtain ⟨n,hn⟩:=h
 exact ⟨n,bT_of n d hn⟩
theorem bS_of:∀ (n:Nat) (d:DataW Unit),okS 2000000 n d→bS n d
 | 0,_,h=>h.elim
 | n+1,d,h=>by
  obtain ⟨kd,nm,pl,el,bd,es,hd,h1,h2,h3,h4,h5,h6⟩:=h
  exact ⟨kd,nm,pl,el,bd,es,hd,by omega,⟨by have:=h2.1;omega,fun e he=>bt_of (h2.2 e he)⟩,by omega,by omega,fun e he=>bS_of n e (h5 e he),fun e he=>bS_of n e (h6 e he)⟩
theorem bsl_of {sl:List (DataW Unit)} (h:OkSL 2000000 sl):BSL sl:=⟨by have:=h.1;omega,fun e he=>by
 obtain ⟨n,hn⟩:=h.2 e he
 exact ⟨n,bS_of n e hn⟩⟩
end Go.Proofs.YtpcjcgkpjapbpaaGreatDoor
namespace Go.Proofs.YtpcjcgkpjapbpaaGreatDoor
open Go.RowKit

theorem below_drewN {B:Nat}{a w:World} (n:Nat) (h:Below B a w):Below B a (w.drewN n):=⟨h.os,h.tape,h.output,h.size,h.block⟩
set_option maxHeartbeats 1000000 in
theorem sameTexts_yes {S S':Nat→Prop} (pl:List ByteArray) (pa qa:Option Addr) (pc qc:Nat) (hn:pl.length≤8796093022208) (w:World) (h1:RepN S w pa pl) (h2:RepN S' w qa pl) :
  Calls Tryz.prog 20 #[.slice pa pl.length pc,.slice qa pl.length qc] w fun ev w'=>ev = .returned (.bool true)∧Below w.heap.size w w':=by
 have H1:=toHid h1
 have H2:=toHid h2
 clear h1 h2
 go_enter Tryz.func20,Tryz.ntmps20
 go_wp2
 go_loopg [5] (pl.length+1) (fun gk v5 wr => ∃ j:Nat,gk=pl.length+1 - j∧j≤pl.length∧v5 = .int .i64 (j:Int)∧Below w.heap.size w wr)
 case atStart=>exact ⟨0,rfl,Nat.zero_le _,rfl,Below.refl _ _⟩
 case round =>
  obtain ⟨j,hgk,hj,hv,hb⟩:=hrel
  subst hv
  have HG:Hid (gk=pl.length+1 - j):=hgk
  clear hgk
  have hj0:(0:Int)≤(j:Int):=by omega
  by_cases hlt:j<pl.length
  ·have hI1:(j:Int)<(pl.length:Int):=by omega
   obtain ⟨b1,o1,rfl,_,t1⟩:=H1.out (by omega)
   obtain ⟨b2,o2,rfl,_,t2⟩:=H2.out (by omega)
   obtain ⟨t,ht⟩:∃ t,pl[j]?=some t:=⟨pl[j],by simp [hlt]⟩
   have e1:=t1 j t ht
   have e2:=t2 j t ht
   have c1:=(hb.cell (p:=⟨b1,o1+j,none⟩) (lt_of_cell e1)).trans e1
   have c2:=(hb.cell (p:=⟨b2,o2+j,none⟩) (lt_of_cell e2)).trans e2
   clear t1 t2 e1 e2 H1 H2 ht
   go_wp2
   go_quiet (fail)
   go_wp2
   go_roundg (pl.length+1 - (j+1))
   case measure=>have:=HG.out;omega
   case rel=>exact ⟨j+1,rfl,by omega,by go_num,below_drewN nq hb⟩
  ·go_wp2
   go_ret
   exact ⟨rfl,hb⟩
theorem lits_inj:∀ {a b:List ByteArray},(a.map fun x=>(DataW.lit (.string x.data.toList):DataW Unit))=b.map (fun x=>.lit (.string x.data.toList))→a=b
 | [],[],_=>rfl
 | [],_::_,h=>by cases h
 | _::_,[],h=>by cases h
 | x::a,y::b,h=>by
  simp only [List.map_cons,List.cons.injEq] at h
  obtain ⟨h1,h2⟩:=h
  have h3:x.data.toList=y.data.toList:=by injection h1 with h1;injection h1
  rw [lits_inj h2,bytes_inj (a:=x) (b:=y) (by rw [toList_data,toList_data];exact h3)]
theorem mkE_inj {op op' s s':ByteArray}{z z':Int}{pl pl':List ByteArray}{el el':List (DataW Unit)} (h:mkE op z s pl el=mkE op' z' s' pl' el'):op=op'∧z=z'∧s=s'∧pl=pl'∧el=el':=by
 unfold mkE at h
 injection h with h
 simp only [List.cons.injEq,and_true] at h
 obtain ⟨h1,h2,h3,h4,h5⟩:=h
 refine ⟨bytes_inj ?_,?_,bytes_inj ?_,?_,?_⟩
 ·rw [toList_data,toList_data]
  injection h1 with h1
  injection h1
 ·injection h2 with h2
  injection h2
 ·rw [toList_data,toList_data]
  injection h3 with h3
  injection h3
 ·injection h4 with h4
  exact lits_inj h4
 ·injection h5 with h5
def SameE (n:Nat):Prop:=∀ (S S':Nat→Prop) (w:World) (c0 c1 c2 c3 c4 d0 d1 d2 d3 d4:Value) (e:DataW Unit),repV S w n [c0,c1,c2,c3,c4] e→repV S' w n [d0,d1,d2,d3,d4] e→BT e→Calls Tryz.prog 34 #[.agg #[c0,c1,c2,c3,c4],.agg #[d0,d1,d2,d3,d4]] w fun ev w'=>ev = .returned (.bool true)∧Below w.heap.size w w'
def SameL (n:Nat):Prop:=∀ (S S':Nat→Prop) (w:World) (la ka:Option Addr) (lc kc:Nat) (el:List (DataW Unit)),rowE S w (repV S w n) la el→rowE S' w (repV S' w n) ka el→BTL el→Calls Tryz.prog 21 #[.slice la el.length lc,.slice ka el.length kc] w fun ev w'=>ev = .returned (.bool true)∧Below w.heap.size w w'
set_option maxHeartbeats 4000000 in
set_option maxRecDepth 100000 in
theorem sameExpr_yes (n:Nat) (hA:SameL n):SameE (n+1):=by
 intro S S' w c0 c1 c2 c3 c4 d0 d1 d2 d3 d4 e h h' hk
 obtain ⟨op,s,z,pl,el,pa,la,pc,lc,hd,hcs,h1,h2⟩:=h
 obtain ⟨op',s',z',pl',el',pa',la',pc',lc',hd',hcs',h1',h2'⟩:=h'
 simp only [List.cons.injEq,and_true] at hcs hcs'
 obtain ⟨rfl,rfl,rfl,rfl,rfl⟩:=hcs
 obtain ⟨rfl,rfl,rfl,rfl,rfl⟩:=hcs'
 rw [hd] at hd'
 obtain ⟨rfl,rfl,rfl,rfl,rfl⟩:=mkE_inj hd'
 have hT:pl.length≤8796093022208∧BTL el:=by
  obtain ⟨m,hm⟩:=hk
  cases m with
  | zero=>exact hm.elim
  | succ m =>
   obtain ⟨op2,z2,s2,pl2,el2,hd2,q1,q2,q3⟩:=hm
   rw [hd] at hd2
   obtain ⟨rfl,rfl,rfl,rfl,rfl⟩:=mkE_inj hd2
   exact ⟨q1,q2,fun e he=>⟨m,q3 e he⟩⟩
 clear hd hd' hk
 have hb0:Below w.heap.size w ((w.alloc (.cells #[.string op,.int .i64 z,.string s,.slice pa pl.length pc,.slice la el.length lc] 45)).alloc (.cells #[.string op,.int .i64 z,.string s,.slice pa' pl.length pc',.slice la' el.length lc'] 45)):=((Below.refl _ _).alloc (Nat.le_refl _) _).alloc (by simp) _
 have hs0:((w.alloc (.cells #[.string op,.int .i64 z,.string s,.slice pa pl.length pc,.slice la el.length lc] 45)).alloc (.cells #[.string op,.int .i64 z,.string s,.slice pa' pl.length pc',.slice la' el.length lc'] 45)).heap.size=w.heap.size+2:=by simp
 have e0:((w.alloc (.cells #[.string op,.int .i64 z,.string s,.slice pa pl.length pc,.slice la el.length lc] 45)).alloc (.cells #[.string op,.int .i64 z,.string s,.slice pa' pl.length pc',.slice la' el.length lc'] 45)).heap[w.heap.size]?=some (.cells #[.string op,.int .i64 z,.string s,.slice pa pl.length pc,.slice la el.length lc] 45):=(Below.heap_alloc _ _ _ (by simp)).trans (heap_alloc_new w _)
 have f0:((w.alloc (.cells #[.string op,.int .i64 z,.string s,.slice pa pl.length pc,.slice la el.length lc] 45)).alloc (.cells #[.string op,.int .i64 z,.string s,.slice pa' pl.length pc',.slice la' el.length lc'] 45)).heap[w.heap.size+1]?=some (.cells #[.string op,.int .i64 z,.string s,.slice pa' pl.length pc',.slice la' el.length lc'] 45):=by
  have h:=heap_alloc_new (w.alloc (.cells #[.string op,.int .i64 z,.string s,.slice pa pl.length pc,.slice la el.length lc] 45)) (.cells #[.string op,.int .i64 z,.string s,.slice pa' pl.length pc',.slice la' el.length lc'] 45)
  simpa using h
 have HT:=toHid (sameTexts_yes (S:=S) (S':=S') pl pa pa' pc pc' hT.1 ((w.alloc (.cells #[.string op,.int .i64 z,.string s,.slice pa pl.length pc,.slice la el.length lc] 45)).alloc (.cells #[.string op,.int .i64 z,.string s,.slice pa' pl.length pc',.slice la' el.length lc'] 45)) (h1.same (same_below hb0) (fun b h _=>h)) (h1'.same (same_below hb0) (fun b h _=>h)))
 have HB0:=toHid hb0
 have HE0:=toHid e0
 have HF0:=toHid f0
 have HA:=toHid hA
 have H2:=toHid h2
 have H2':=toHid h2'
 have HK:=toHid hT.2
 clear hb0 e0 f0 hA h1 h1' h2 h2' hT
 go_enter Tryz.func34,Tryz.ntmps34
 go_wp2_with fail
 refine HT.out.mono ?_
 rintro ev w1 ⟨rfl,hb1⟩
 rw [hs0] at hb1
 have hs1:=hb1.size
 rw [hs0] at hs1
 have e1:=(hb1.block w.heap.size (by omega)).trans HE0.out
 have f1:=(hb1.block (w.heap.size+1) (by omega)).trans HF0.out
 have k4:w1.cell? ⟨w.heap.size,4,none⟩=some (.slice la el.length lc):=by rw [cell_of_row _ _ 4 _ _ _ e1];rfl
 have m4:w1.cell? ⟨w.heap.size+1,4,none⟩=some (.slice la' el.length lc'):=by rw [cell_of_row _ _ 4 _ _ _ f1];rfl
 have kl:=lt_of_cell k4
 have ml:=lt_of_cell m4
 have hbw:Below w.heap.size w w1:=HB0.out.trans (hb1.mono (by omega))
 have HL:=toHid (HA.out S S' w1 la la' lc lc' el (H2.out.same (same_below hbw) (fun b h _=>h) (repV_same (same_below hbw) (fun b h _=>h) n)) (H2'.out.same (same_below hbw) (fun b h _=>h) (repV_same (same_below hbw) (fun b h _=>h) n)) HK.out)
 have HBW:=toHid hbw
 clear hb1 e1 f1 hbw HT
 go_wp2_with fail
 refine HL.out.mono ?_
 rintro ev w2 ⟨rfl,hb2⟩
 have HB2:=toHid (HBW.out.trans (hb2.mono HBW.out.size))
 clear hb2 HL
 go_wp2_with fail
 go_ret
 exact ⟨rfl,HB2.out⟩
set_option maxHeartbeats 4000000 in
set_option maxRecDepth 100000 in
theorem sameExprs_yes (n:Nat) (hB:SameE n):SameL n:=by
 intro S S' w la ka lc kc el h h' hk
 have H:=toHid h
 have H':=toHid h'
 have HB:=toHid hB
 have HK:=toHid hk
 have hn:=hk.1
 clear h h' hB hk
 go_enter Tryz.func21,Tryz.ntmps21
 go_wp2
 go_loopg [5,6] (el.length+1) (fun gk v5 _v6 wr => ∃ j:Nat,gk=el.length+1 - j∧j≤el.length∧v5 = .int .i64 (j:Int)∧Below w.heap.size w wr)
 case atStart=>exact ⟨0,rfl,Nat.zero_le _,rfl,Below.refl _ _⟩
 case round =>
  obtain ⟨j,hgk,hj,hv,hb⟩:=hrel
  subst hv
  have HG:Hid (gk=el.length+1 - j):=hgk
  clear hgk
  have hj0:(0:Int)≤(j:Int):=by omega
  by_cases hlt:j<el.length
  ·have hI1:(j:Int)<(el.length:Int):=by omega
   obtain ⟨b1,o1,rfl,_,t1⟩:=H.out (by omega)
   obtain ⟨b2,o2,rfl,_,t2⟩:=H'.out (by omega)
   obtain ⟨e,he⟩:∃ e,el[j]?=some e:=⟨el[j],by simp [hlt]⟩
   obtain ⟨c0,c1,c2,c3,c4,x0,x1,x2,x3,x4,hr⟩:=t1 j e he
   obtain ⟨d0,d1,d2,d3,d4,y0,y1,y2,y3,y4,hr'⟩:=t2 j e he
   have hl1:=lt_of_cell x0
   have hl2:=lt_of_cell y0
   have HX:Hid (∀ o v,w.cell? ⟨b1,o,none⟩=some v→wr.cell? ⟨b1,o,none⟩=some v):=fun o v hv=>(hb.cell (p:=⟨b1,o,none⟩) hl1).trans hv
   have HY:Hid (∀ o v,w.cell? ⟨b2,o,none⟩=some v→wr.cell? ⟨b2,o,none⟩=some v):=fun o v hv=>(hb.cell (p:=⟨b2,o,none⟩) hl2).trans hv
   have x0:=HX.out _ _ x0
   have x1:=HX.out _ _ x1
   have x2:=HX.out _ _ x2
   have x3:=HX.out _ _ x3
   have x4:=HX.out _ _ x4
   have y0:=HY.out _ _ y0
   have y1:=HY.out _ _ y1
   have y2:=HY.out _ _ y2
   have y3:=HY.out _ _ y3
   have y4:=HY.out _ _ y4
   have HC:=toHid (fun W (hW:Below w.heap.size w W)=>HB.out S S' W c0 c1 c2 c3 c4 d0 d1 d2 d3 d4 e (repV_same (same_below hW) (fun b h _=>h) n _ _ hr) (repV_same (same_below hW) (fun b h _=>h) n _ _ hr') (HK.out.2 e (List.mem_of_getElem? he)))
   clear t1 t2 H H' he hr hr'
   go_wp2
   go_region_held3 (fun W=>W.cell? ⟨b1,o1+j*5,none⟩=some c0∧W.cell? ⟨b1,o1+j*5+1,none⟩=some c1∧W.cell? ⟨b1,o1+j*5+2,none⟩=some c2∧W.cell? ⟨b1,o1+j*5+3,none⟩=some c3∧W.cell? ⟨b1,o1+j*5+4,none⟩=some c4∧W.cell? ⟨b2,o2+j*5,none⟩=some d0∧W.cell? ⟨b2,o2+j*5+1,none⟩=some d1∧W.cell? ⟨b2,o2+j*5+2,none⟩=some d2∧W.cell? ⟨b2,o2+j*5+3,none⟩=some d3∧W.cell? ⟨b2,o2+j*5+4,none⟩=some d4) (first | go_keep | exact ⟨(hb1.cell (p:=⟨b1,o1+j*5,none⟩) (lt_of_cell x0)).trans x0,(hb1.cell (p:=⟨b1,o1+j*5+1,none⟩) (lt_of_cell x1)).trans x1,(hb1.cell (p:=⟨b1,o1+j*5+2,none⟩) (lt_of_cell x2)).trans x2,(hb1.cell (p:=⟨b1,o1+j*5+3,none⟩) (lt_of_cell x3)).trans x3,(hb1.cell (p:=⟨b1,o1+j*5+4,none⟩) (lt_of_cell x4)).trans x4,(hb1.cell (p:=⟨b2,o2+j*5,none⟩) (lt_of_cell y0)).trans y0,(hb1.cell (p:=⟨b2,o2+j*5+1,none⟩) (lt_of_cell y1)).trans y1,(hb1.cell (p:=⟨b2,o2+j*5+2,none⟩) (lt_of_cell y2)).trans y2,(hb1.cell (p:=⟨b2,o2+j*5+3,none⟩) (lt_of_cell y3)).trans y3,(hb1.cell (p:=⟨b2,o2+j*5+4,none⟩) (lt_of_cell y4)).trans y4⟩) ((go_at_call 34;refine (HC.out _ (by first | exact hb | exact below_drewN _ hb | exact hb.drew)).mono ?_;rintro ev w1 ⟨rfl,hb1⟩))
   have hsz:=hb.size
   have HW1:Hid (Below w.heap.size w w1):=hb.drew.trans (hb1.mono (by simp;omega))
   clear hb1
   go_wp2
   go_roundg (el.length+1 - (j+1))
   case measure=>have:=HG.out;omega
   case rel=>exact ⟨j+1,rfl,by omega,by go_num,HW1.out⟩
  ·go_wp2
   go_ret
   exact ⟨rfl,hb⟩
theorem sameE_all:∀ n,SameE n∧SameL n
 | 0=>⟨fun _ _ _ _ _ _ _ _ _ _ _ _ _ _ h _ _=>h.elim,sameExprs_yes 0 (fun _ _ _ _ _ _ _ _ _ _ _ _ _ _ h _ _=>h.elim)⟩
 | n+1=>⟨sameExpr_yes n (sameE_all n).2,sameExprs_yes (n+1) (sameExpr_yes n (sameE_all n).2)⟩
theorem sameExprs_all {S S':Nat→Prop}{w:World}{la ka:Option Addr}{lc kc:Nat}{el:List (DataW Unit)} (h:RepVL S w la el) (h':RepVL S' w ka el) (hk:BTL el):Calls Tryz.prog 21 #[.slice la el.length lc,.slice ka el.length kc] w fun ev w'=>ev = .returned (.bool true)∧Below w.heap.size w w':=by
 obtain ⟨n,hn⟩:=rowE.bound h
 obtain ⟨m,hm⟩:=rowE.bound h'
 exact (sameE_all (max n m)).2 S S' w la ka lc kc el (hn.imp (fun cs d=>repV_more n _ cs d (by omega))) (hm.imp (fun cs d=>repV_more m _ cs d (by omega))) hk
end Go.Proofs.YtpcjcgkpjapbpaaGreatDoor
