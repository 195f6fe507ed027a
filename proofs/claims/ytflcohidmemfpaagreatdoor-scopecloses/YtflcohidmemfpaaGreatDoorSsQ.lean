/- Trees in memory, whatever type their rows have: for the law's own copies of them. -/
import Derived.Test.YtflcohidmemfpaaGreatDoorSsO
set_option linter.all false
namespace Go.Proofs.YtflcohidmemfpaaGreatDoor
open Go.Proofs.Tryz
open Go.RowKit

def Z9m (S:Nat→Prop) (w:World) (q:List Value→DataW Unit→Prop) (la:Option Addr) (el:List (DataW Unit)):Prop:=
 0<el.length → ∃ b o,la=some ⟨b,o,none⟩∧S b ∧ ∀ (i:Nat) (e:DataW Unit),el[i]?=some e → ∃ c0 c1 c2 c3 c4,w.cell? ⟨b,o+i*5,none⟩=some c0∧w.cell? ⟨b,o+i*5+1,none⟩=some c1∧w.cell? ⟨b,o+i*5+2,none⟩=some c2∧w.cell? ⟨b,o+i*5+3,none⟩=some c3∧w.cell? ⟨b,o+i*5+4,none⟩=some c4∧q [c0,c1,c2,c3,c4] e
def Zfj (S:Nat→Prop) (w:World):Nat→List Value→DataW Unit→Prop
 | 0,_,_=>False
 | n+1,cs,d => ∃ (op s:ByteArray) (z:Int) (pl:List ByteArray) (el:List (DataW Unit)) (pa la:Option Addr) (pc lc:Nat),
   d=mkE op z s pl el∧cs = [.string op,.int .i64 z,.string s,.slice pa pl.length pc,.slice la el.length lc]∧Z54 S w pa pl∧Z9m S w (Zfj S w n) la el
def Zz4 (S:Nat→Prop) (w:World) (cs:List Value) (d:DataW Unit):Prop:=∃ n,Zfj S w n cs d
def Z9i (S:Nat→Prop) (w:World) (la:Option Addr) (el:List (DataW Unit)):Prop:=Z9m S w (Zz4 S w) la el
theorem Z9m.same {S S':Nat→Prop}{w w':World}{q q':List Value→DataW Unit→Prop}{la:Option Addr}{el:List (DataW Unit)} (h:Z9m S w q la el) (K:Z5i S w w') (hS:∀ b,S b→b<w.heap.size→S' b) (hq:∀ cs d,q cs d→q' cs d):Z9m S' w' q' la el:=by
 intro h0
 obtain ⟨b,o,e,hb,hx⟩:=h h0
 have hbl:b<w.heap.size:=by
  obtain ⟨c0,_,_,_,_,h1,_⟩:=hx 0 el[0] (by simp)
  exact Z02 h1
 refine ⟨b,o,e,hS b hb hbl,fun i x hi => ?_⟩
 obtain ⟨c0,c1,c2,c3,c4,h0,h1,h2,h3,h4,hr⟩:=hx i x hi
 exact ⟨c0,c1,c2,c3,c4,K.cell hb h0,K.cell hb h1,K.cell hb h2,K.cell hb h3,K.cell hb h4,hq _ _ hr⟩
theorem Z9m.imp {S:Nat→Prop}{w:World}{q q':List Value→DataW Unit→Prop}{la:Option Addr}{el:List (DataW Unit)} (h:Z9m S w q la el) (hq:∀ cs d,q cs d→q' cs d):Z9m S w q' la el:=h.same (fun _ _ _=>rfl) (fun _ h _=>h) hq
theorem Z2m {S S':Nat→Prop}{w w':World} (K:Z5i S w w') (hS:∀ b,S b→b<w.heap.size→S' b):∀ (n:Nat) (cs:List Value) (d:DataW Unit),Zfj S w n cs d→Zfj S' w' n cs d
 | 0,_,_,h=>h.elim
 | n+1,cs,d,h=>by
  obtain ⟨op,s,z,pl,el,pa,la,pc,lc,hd,hcs,h1,h2⟩:=h
  exact ⟨op,s,z,pl,el,pa,la,pc,lc,hd,hcs,h1.same K hS,h2.same K hS (Z2m K hS n)⟩
theorem Zz4.same {S S':Nat→Prop}{w w':World}{cs:List Value}{d:DataW Unit} (h:Zz4 S w cs d) (K:Z5i S w w') (hS:∀ b,S b→b<w.heap.size→S' b):Zz4 S' w' cs d:=by
 obtain ⟨n,hn⟩:=h
 exact ⟨n,Z2m K hS n _ _ hn⟩
theorem Z9i.same {S S':Nat→Prop}{w w':World}{la:Option Addr}{el:List (DataW Unit)} (h:Z9i S w la el) (K:Z5i S w w') (hS:∀ b,S b→b<w.heap.size→S' b):Z9i S' w' la el:=Z9m.same h K hS (fun _ _ h=>h.same K hS)
theorem Z94 {S:Nat→Prop}{w:World} : ∀ (n m:Nat) (cs:List Value) (d:DataW Unit),n≤m→Zfj S w n cs d→Zfj S w m cs d
 | 0,_,_,_,_,h=>h.elim
 | n+1,0,_,_,hle,_=>by omega
 | n+1,m+1,cs,d,hle,h=>by
  obtain ⟨op,s,z,pl,el,pa,la,pc,lc,hd,hcs,h1,h2⟩:=h
  exact ⟨op,s,z,pl,el,pa,la,pc,lc,hd,hcs,h1,h2.imp (fun cs d=>Z94 n m cs d (by omega))⟩
theorem Z9m.bound {S:Nat→Prop}{w:World}{la:Option Addr}{el:List (DataW Unit)} (h:Z9i S w la el):∃ n,Z9m S w (Zfj S w n) la el:=by
 by_cases h0:0<el.length
 ·obtain ⟨b,o,e,hb,hx⟩:=h h0
  obtain ⟨n,hn⟩:=Go.Deep.fuel_lt (n:=el.length) (q:=fun i m => ∀ s,el[i]?=some s → ∃ c0 c1 c2 c3 c4,w.cell? ⟨b,o+i*5,none⟩=some c0∧w.cell? ⟨b,o+i*5+1,none⟩=some c1∧w.cell? ⟨b,o+i*5+2,none⟩=some c2∧w.cell? ⟨b,o+i*5+3,none⟩=some c3∧w.cell? ⟨b,o+i*5+4,none⟩=some c4∧Zfj S w m [c0,c1,c2,c3,c4] s)
   (fun i x y hxy h e he=>by
    obtain ⟨c0,c1,c2,c3,c4,h0,h1,h2,h3,h4,hr⟩:=h e he
    exact ⟨c0,c1,c2,c3,c4,h0,h1,h2,h3,h4,Z94 x y _ _ hxy hr⟩)
   (fun i hi=>by
    obtain ⟨c0,c1,c2,c3,c4,h0,h1,h2,h3,h4,n,hr⟩:=hx i el[i] (by simp [hi])
    refine ⟨n,fun e he => ?_⟩
    have:el[i]=e:=by simpa [hi] using he
    subst this
    exact ⟨c0,c1,c2,c3,c4,h0,h1,h2,h3,h4,hr⟩)
  exact ⟨n,fun _=>⟨b,o,e,hb,fun i x hi=>hn i (List.getElem?_eq_some_iff.1 hi).1 x hi⟩⟩
 ·exact ⟨0,fun h=>absurd h h0⟩
theorem Zs7 {S:Nat→Prop}{w:World} : ∀ (n:Nat) (cs:List Value) (d:DataW Unit),Zwe S w n cs d→Zfj S w n cs d
 | 0,_,_,h=>h.elim
 | n+1,cs,d,h=>by
  obtain ⟨op,s,z,pl,el,pa,la,pc,lc,hd,hcs,h1,h2,_⟩:=h
  refine ⟨op,s,z,pl,el,pa,la,pc,lc,hd,hcs,h1,fun h0 => ?_⟩
  obtain ⟨b,o,e,hb,hx⟩:=h2 h0
  refine ⟨b,o,e,hb,fun i x hi => ?_⟩
  obtain ⟨c0,c1,c2,c3,c4,q0,q1,q2,q3,q4,hr⟩:=hx i x hi
  exact ⟨c0,c1,c2,c3,c4,q0,q1,q2,q3,q4,Zs7 n _ _ hr⟩
theorem Z89.toV {S:Nat→Prop}{w:World}{la:Option Addr}{el:List (DataW Unit)} (h:Z89 S w la el):Z9i S w la el:=fun h0=>by
 obtain ⟨b,o,e,hb,hx⟩:=h h0
 refine ⟨b,o,e,hb,fun i x hi => ?_⟩
 obtain ⟨c0,c1,c2,c3,c4,q0,q1,q2,q3,q4,n,hr⟩:=hx i x hi
 exact ⟨c0,c1,c2,c3,c4,q0,q1,q2,q3,q4,n,Zs7 n _ _ hr⟩
def Z6p (S:Nat→Prop) (w:World):Nat→List Value→DataW Unit→Prop
 | 0,_,_=>False
 | n+1,cs,d => ∃ (kd nm:ByteArray) (pl:List ByteArray) (el bd es:List (DataW Unit)) (pa la ba ea:Option Addr) (pc lc bc ec:Nat),
   d=mkS kd nm pl el bd es∧cs = [.string kd,.string nm,.slice pa pl.length pc,.slice la el.length lc,.slice ba bd.length bc,.slice ea es.length ec] ∧
   Z54 S w pa pl∧Z9i S w la el∧Z5y S w (Z6p S w n) ba bd∧Z5y S w (Z6p S w n) ea es
def Zny (S:Nat→Prop) (w:World) (cs:List Value) (d:DataW Unit):Prop:=∃ n,Z6p S w n cs d
def Z31 (S:Nat→Prop) (w:World) (ba:Option Addr) (bd:List (DataW Unit)):Prop:=Z5y S w (Zny S w) ba bd
theorem Z28 {S S':Nat→Prop}{w w':World} (K:Z5i S w w') (hS:∀ b,S b→b<w.heap.size→S' b):∀ (n:Nat) (cs:List Value) (d:DataW Unit),Z6p S w n cs d→Z6p S' w' n cs d
 | 0,_,_,h=>h.elim
 | n+1,cs,d,h=>by
  obtain ⟨kd,nm,pl,el,bd,es,pa,la,ba,ea,pc,lc,bc,ec,hd,hcs,h1,h2,h3,h4⟩:=h
  exact ⟨kd,nm,pl,el,bd,es,pa,la,ba,ea,pc,lc,bc,ec,hd,hcs,h1.same K hS,h2.same K hS,h3.same K hS (Z28 K hS n),h4.same K hS (Z28 K hS n)⟩
theorem Zny.same {S S':Nat→Prop}{w w':World}{cs:List Value}{d:DataW Unit} (h:Zny S w cs d) (K:Z5i S w w') (hS:∀ b,S b→b<w.heap.size→S' b):Zny S' w' cs d:=by
 obtain ⟨n,hn⟩:=h
 exact ⟨n,Z28 K hS n _ _ hn⟩
theorem Z31.same {S S':Nat→Prop}{w w':World}{ba:Option Addr}{bd:List (DataW Unit)} (h:Z31 S w ba bd) (K:Z5i S w w') (hS:∀ b,S b→b<w.heap.size→S' b):Z31 S' w' ba bd:=Z5y.same h K hS (fun _ _ h=>h.same K hS)
theorem Zez {S:Nat→Prop}{w:World} : ∀ (n:Nat) (cs:List Value) (d:DataW Unit),Zsq S w n cs d→Z6p S w n cs d
 | 0,_,_,h=>h.elim
 | n+1,cs,d,h=>by
  obtain ⟨kd,nm,pl,el,bd,es,pa,la,ba,ea,pc,lc,bc,ec,hd,hcs,h1,h2,h3,h4⟩:=h
  exact ⟨kd,nm,pl,el,bd,es,pa,la,ba,ea,pc,lc,bc,ec,hd,hcs,h1,h2.toV,h3.imp (Zez n),h4.1.imp (Zez n)⟩
theorem Z1h.toV {S:Nat→Prop}{w:World}{ba:Option Addr}{bd:List (DataW Unit)} (h:Z1h S w ba bd):Z31 S w ba bd:=Z5y.imp h (fun cs d ⟨n,hn⟩=>⟨n,Zez n cs d hn⟩)
end Go.Proofs.YtflcohidmemfpaaGreatDoor
namespace Go.Proofs.YtflcohidmemfpaaGreatDoor
open Go.Proofs.Tryz
open Go.RowKit

def okT (N:Nat):Nat→DataW Unit→Prop
 | 0,_=>False
 | n+1,d => ∃ (op:ByteArray) (z:Int) (s:ByteArray) (pl:List ByteArray) (el:List (DataW Unit)),d=mkE op z s pl el∧pl.length≤N∧el.length≤N ∧ ∀ e∈el,okT N n e
def OkT (N:Nat) (d:DataW Unit):Prop:=∃ n,okT N n d
theorem Zfn {N:Nat} : ∀ (n m:Nat) (d:DataW Unit),n≤m→okT N n d→okT N m d
 | 0,_,_,_,h=>h.elim
 | n+1,0,_,hle,_=>by omega
 | n+1,m+1,d,hle,h=>by
  obtain ⟨op,z,s,pl,el,hd,h1,h2,h3⟩:=h
  exact ⟨op,z,s,pl,el,hd,h1,h2,fun e he=>Zfn n m e (by omega) (h3 e he)⟩
theorem Zrg {N:Nat} : ∀ el:List (DataW Unit),(∀ e∈el,OkT N e) → ∃ n,∀ e∈el,okT N n e
 | [],_=>⟨0,fun e he=>by simp at he⟩
 | x::el,h=>by
  obtain ⟨n,hn⟩:=Zrg el (fun e he=>h e (List.mem_cons_of_mem _ he))
  obtain ⟨m,hm⟩:=h x (List.mem_cons_self)
  refine ⟨max n m,fun e he => ?_⟩
  rcases List.mem_cons.1 he with rfl | he
  ·exact Zfn m _ _ (by omega) hm
  ·exact Zfn n _ _ (by omega) (hn e he)
theorem Zm1 {N:Nat}{op s:ByteArray}{z:Int}{pl:List ByteArray}{el:List (DataW Unit)} (h1:pl.length≤N) (h2:el.length≤N) (h3:∀ e∈el,OkT N e):OkT N (mkE op z s pl el):=by
 obtain ⟨n,hn⟩:=Zrg el h3
 exact ⟨n+1,op,z,s,pl,el,rfl,h1,h2,hn⟩
def OkO (N:Nat) (o:Out (DataW Unit)):Prop:=∀ e k',o = .ok (e,k')→OkT N e
theorem OkO.err {N:Nat} (x:Nat × Bool):OkO N (.error x):=fun _ _ h=>by cases h
theorem OkO.ok {N:Nat}{e:DataW Unit}{k:Nat} (h:OkT N e):OkO N (.ok (e,k)):=fun _ _ h1=>by
 cases h1
 exact h
def OkL (N:Nat) (o:Out (List (DataW Unit))):Prop:=∀ el k',o = .ok (el,k')→el.length≤N ∧ ∀ e∈el,OkT N e
variable {l:List (ByteArray × ByteArray × Nat)}{N:Nat}
theorem Zgz {σ:Type}{step:σ→Nat→Out σ} (P:σ→Nat→Prop) (hP:∀ s k s' k' j,P s j→step s k = .ok (s',k')→P s' (j+1)):∀ (f:Nat) (s:σ) (k j:Nat) (s':σ) (k':Nat),P s j→Z4q l step f s k = .ok (s',k') → ∃ j',j'≤j+f∧P s' j'
 | 0,s,k,j,s',k',_,h=>by
  unfold Z4q at h
  cases h
 | f+1,s,k,j,s',k',hs,h=>by
  unfold Z4q at h
  cases hm:Z09 l k [Z8s] with
  | false =>
   rw [hm] at h
   simp only [cond_false,Except.ok.injEq,Prod.mk.injEq] at h
   exact ⟨j,by omega,by rw [←h.1];exact hs⟩
  | true =>
   rw [hm] at h
   simp only [cond_true] at h
   cases ho:step s (k+1) with
   | error y =>
    rw [ho] at h
    cases h
   | ok y =>
    obtain ⟨s1,k1⟩:=y
    rw [ho] at h
    simp only at h
    obtain ⟨j',h1,h2⟩:=Zgz P hP f s1 k1 (j+1) s' k' (hP _ _ _ _ _ hs ho) h
    exact ⟨j',by omega,h2⟩
theorem Z77 {σ:Type}{step:σ→Nat→Out σ} (P:σ→Nat→Prop) (hP:∀ s k s' k' j,P s j→step s k = .ok (s',k')→P s' (j+1)) {f:Nat}{s:σ}{k j:Nat}{s':σ}{k':Nat} (hs:P s j) (h:Z1w l step f s k = .ok (s',k')):∃ j',j'≤j+f+1∧P s' j':=by
 unfold Z1w at h
 cases ho:step s k with
 | error y =>
  rw [ho] at h
  cases h
 | ok y =>
  obtain ⟨s1,k1⟩:=y
  rw [ho] at h
  simp only at h
  obtain ⟨j',h1,h2⟩:=Zgz P hP f s1 k1 (j+1) s' k' (hP _ _ _ _ _ hs ho) h
  exact ⟨j',by omega,h2⟩
theorem Z49 {σ:Type}{step:σ→Nat→Out σ} (P:σ→Nat→Prop) (hP:∀ s k s' k' j,P s j→step s k = .ok (s',k')→P s' (j+1)) {c:ByteArray}{f:Nat}{s:σ}{k j:Nat}{s':σ}{k':Nat} (hs:P s j) (h:Z1g l step c f s k = .ok (s',k')):∃ j',j'≤j+f+1∧P s' j':=by
 unfold Z1g at h
 cases hm:Z09 l k [c] with
 | true =>
  rw [hm] at h
  simp only [cond_true,Except.ok.injEq,Prod.mk.injEq] at h
  exact ⟨j,by omega,by rw [←h.1];exact hs⟩
 | false =>
  rw [hm] at h
  simp only [cond_false] at h
  cases ho:Z1w l step f s k with
  | error y =>
   rw [ho] at h
   cases h
  | ok y =>
   obtain ⟨s1,k1⟩:=y
   rw [ho] at h
   simp only at h
   cases hm2:Z09 l k1 [c] with
   | false =>
    rw [hm2] at h
    cases h
   | true =>
    rw [hm2] at h
    simp only [cond_true,Except.ok.injEq,Prod.mk.injEq] at h
    rw [←h.1]
    exact Z77 P hP hs ho
theorem Zg0 (s:List ByteArray) (k:Nat) (s':List ByteArray) (k' j:Nat) (hs:s.length=j) (h:Z2k l s k = .ok (s',k')):s'.length=j+1:=by
 unfold Z2k at h
 split at h
 next x hx =>
  cases hm:Z19 x with
  | false =>
   rw [hm] at h
   cases h
  | true =>
   rw [hm] at h
   simp only [cond_true,Except.ok.injEq,Prod.mk.injEq] at h
   rw [←h.1]
   simp [hs]
 next=>cases h
theorem Zbj {dp k:Nat}{o:Out (DataW Unit)} (h:OkO N o):OkO N (Z2n dp k o):=by
 unfold Z2n
 split
 ·exact OkO.err _
 ·exact h
theorem Zbp {c:ByteArray}{o:Out (DataW Unit)} (h:OkO N o):OkO N (Z1c l c o):=by
 unfold Z1c
 cases o with
 | error y=>exact OkO.err _
 | ok y =>
  obtain ⟨e,k'⟩:=y
  simp only
  cases hm:Z09 l k' [c] with
  | true =>
   simp only [cond_true]
   exact OkO.ok (h e k' rfl)
  | false =>
   simp only [cond_false]
   exact OkO.err _
theorem Zjh {op:ByteArray}{o:Out (List (DataW Unit))} (h:OkL N o):OkO N (Z4u op o):=by
 unfold Z4u
 cases o with
 | error y=>exact OkO.err _
 | ok y =>
  obtain ⟨el,k'⟩:=y
  obtain ⟨h1,h2⟩:=h el k' rfl
  exact OkO.ok (Zm1 (Nat.zero_le _) h1 h2)
theorem Y02 {op:ByteArray}{o:Out (DataW Unit)} (hN:4≤N) (h:OkO N o):OkO N (pOp op o):=by
 unfold pOp
 cases o with
 | error y=>exact OkO.err _
 | ok y =>
  obtain ⟨e,k'⟩:=y
  exact OkO.ok (Zm1 (Nat.zero_le _) (by simp;omega) (fun x hx=>by simp at hx;subst hx;exact h _ k' rfl))
theorem Zvp {e:DataW Unit}{o:Out (DataW Unit)} (hN:4≤N) (he:OkT N e) (h:OkO N o):OkO N (Z3t e o):=by
 unfold Z3t
 cases o with
 | error y=>exact OkO.err _
 | ok y =>
  obtain ⟨e2,k'⟩:=y
  refine OkO.ok (Zm1 (Nat.zero_le _) (by simp;omega) (fun x hx => ?_))
  simp at hx
  rcases hx with rfl | rfl
  ·exact he
  ·exact h _ k' rfl
theorem Zlh {term:Nat→Out (DataW Unit)} (ht:∀ k,OkO N (term k)) {c:ByteArray}{es:List (DataW Unit)}{k:Nat} (hN:es.length+l.length+1≤N) (he:∀ e∈es,OkT N e):OkL N (Z1g l (Z0n term) c l.length es k):=fun el k' h=>by
 obtain ⟨j',h1,h2,h3⟩:=Z49 (P:=fun s j=>s.length=es.length+j ∧ ∀ e∈s,OkT N e) (fun s k s' k' j hs h=>by
  unfold Z0n at h
  cases ho:term k with
  | error y =>
   rw [ho] at h
   cases h
  | ok y =>
   obtain ⟨e1,k1⟩:=y
   rw [ho] at h
   simp only [Except.ok.injEq,Prod.mk.injEq] at h
   rw [←h.1]
   refine ⟨by simp [hs.1];omega,fun x hx => ?_⟩
   simp at hx
   rcases hx with hx | rfl
   ·exact hs.2 x hx
   ·exact ht k _ k1 ho) (j:=0) ⟨rfl,he⟩ h
 exact ⟨by omega,h3⟩
theorem Zvw {term:Nat→Out (DataW Unit)} (ht:∀ k,OkO N (term k)) {c:ByteArray}{k:Nat} (hN:2*l.length+2≤N):OkL N (Z1g l (Z13 l term) c l.length [] k):=fun el k' h=>by
 obtain ⟨j',h1,h2,h3⟩:=Z49 (P:=fun s j=>s.length=2*j ∧ ∀ e∈s,OkT N e) (fun s k s' k' j hs h=>by
  unfold Z13 at h
  have hc:=Zbp (l:=l) (c:=Z4a) (ht k)
  cases ho:Z1c l Z4a (term k) with
  | error y =>
   rw [ho] at h
   cases h
  | ok y =>
   obtain ⟨e1,k1⟩:=y
   rw [ho] at h
   simp only at h
   cases ho2:term k1 with
   | error y =>
    rw [ho2] at h
    cases h
   | ok y =>
    obtain ⟨e2,k2⟩:=y
    rw [ho2] at h
    simp only [Except.ok.injEq,Prod.mk.injEq] at h
    rw [←h.1]
    refine ⟨by simp [hs.1];omega,fun x hx => ?_⟩
    simp at hx
    rcases hx with hx | rfl | rfl
    ·exact hs.2 x hx
    ·exact hc _ k1 ho
    ·exact ht k1 _ k2 ho2) (j:=0) ⟨rfl,fun e he=>by simp at he⟩ h
 exact ⟨by omega,h3⟩
theorem Zbk {dp:Nat}{term:Nat→Out (DataW Unit)} (hN:2*l.length+4≤N) (ht:∀ k,OkO N (term k)):∀ (f:Nat) (e:DataW Unit) (k:Nat),OkT N e→OkO N (Z22 l dp term f e k)
 | 0,e,k,_=>OkO.err _
 | f+1,e,k,he=>by
  unfold Z22
  cases hm:Z09 l k [Z7n] with
  | true =>
   simp only [cond_true]
   have H:=Zbj (dp:=dp) (k:=k) (Zjh (op:=Z8w) (Zlh (l:=l) ht (c:=Za7) (es:=[e]) (k:=k+1) (by simp;omega) (fun x hx=>by simp at hx;subst hx;exact he)))
   revert H
   generalize Z2n dp k (Z4u Z8w (Z1g l (Z0n term) Za7 l.length [e] (k+1)))=o
   intro H
   cases o with
   | error y=>exact OkO.err _
   | ok y=>exact Zbk hN ht f _ _ (H _ _ rfl)
  | false =>
   simp only [cond_false]
   cases hm2:Z09 l k [Zaj] with
   | true =>
    simp only [cond_true]
    have H:=Zbj (dp:=dp) (k:=k) (Zvp (by omega) he (Zbp (l:=l) (c:=Zc1) (ht (k+1))))
    revert H
    generalize Z2n dp k (Z3t e (Z1c l Zc1 (term (k+1))))=o
    intro H
    cases o with
    | error y=>exact OkO.err _
    | ok y=>exact Zbk hN ht f _ _ (H _ _ rfl)
   | false =>
    simp only [cond_false]
    exact OkO.ok he
theorem Zej {rank:Nat}{sub:Nat→Out (DataW Unit)} (hN:4≤N) (ht:∀ k,OkO N (sub k)):∀ (f:Nat) (e:DataW Unit) (k:Nat),OkT N e→OkO N (Z0s l rank sub f e k)
 | 0,e,k,h=>OkO.ok h
 | f+1,e,k,h=>by
  unfold Z0s
  cases hx:l[k]? with
  | none=>exact OkO.ok h
  | some x =>
   simp only
   cases hm:Z0i x (Z0y rank) with
   | true =>
    simp only [cond_true]
    cases ho:sub (k+1) with
    | error y=>exact OkO.err _
    | ok y =>
     obtain ⟨e2,k2⟩:=y
     have h2:OkT N (mkE x.2.1 0 ⟨#[]⟩ [] [e,e2]):=Zm1 (Nat.zero_le _) (by simp;omega) (fun z hz=>by
      simp at hz
      rcases hz with rfl | rfl
      ·exact h
      ·exact ht (k+1) _ k2 ho)
     simp only
     cases hr:rank == 4 with
     | true =>
      simp only [cond_true]
      exact OkO.ok h2
     | false =>
      simp only [cond_false]
      exact Zej hN ht f _ _ h2
   | false =>
    simp only [cond_false]
    exact OkO.ok h
theorem Zj8 {op s:ByteArray}{z:Int} : OkT N (mkE op z s [] []):=Zm1 (Nat.zero_le _) (Nat.zero_le _) (fun e he=>by simp at he)
theorem Zwr {dp:Nat}{term:Nat→Out (DataW Unit)}{terms pairs:Nat→Out (List (DataW Unit))}{k:Nat} (h:OkO N (term (k+1))) (h1:OkL N (terms (k+1))) (h2:OkL N (pairs (k+1))):OkO N (Z79 l dp term terms pairs k):=by
 unfold Z79
 cases hx:l[k]? with
 | none=>exact OkO.err _
 | some x =>
  simp only
  cases Z6o x with
  | true=>exact OkO.ok Zj8
  | false =>
   simp only [cond_false]
   cases Z4h x || Z19 x with
   | true=>exact OkO.ok Zj8
   | false =>
    simp only [cond_false]
    cases Z0i x [Z6v,Z78,Z48] with
    | true=>exact OkO.ok Zj8
    | false =>
     simp only [cond_false]
     cases Z0i x [Z7n] with
     | true=>exact Zbj (Zbp h)
     | false =>
      simp only [cond_false]
      cases Z0i x [Zaj] with
      | true=>exact Zbj (Zjh h1)
      | false =>
       simp only [cond_false]
       cases Z0i x [Zsr] with
       | true=>exact Zbj (Zjh h2)
       | false=>exact OkO.err _
theorem Zer {m:ByteArray}{k dp:Nat}{o1 o2:Out (DataW Unit)} (h1:OkO N o1) (h2:OkO N o2):OkO N (Z3u l m k dp o1 o2):=by
 unfold Z3u
 cases hm:Z09 l k [m] with
 | true =>
  simp only [cond_true]
  split
  ·exact OkO.err _
  ·exact h2
 | false =>
  simp only [cond_false]
  exact h1
theorem Zrm {one:Nat→Out (List (DataW Unit))}{k:Nat} (hN:l.length+1≤N) (h1:∀ k,OkL N (one k)):OkO N (Z3f l one k):=by
 unfold Z3f
 cases ho:Z1g l (Z2k l) Z4a l.length [] k with
 | error y=>exact OkO.err _
 | ok y =>
  obtain ⟨names,k1⟩:=y
  simp only
  obtain ⟨j',q1,q2⟩:=Z49 (P:=fun s j=>s.length=j) (fun s k s' k' j hs h=>Zg0 (l:=l) s k s' k' j hs h) (j:=0) rfl ho
  cases ho1:one k1 with
  | error y=>exact OkO.err _
  | ok y =>
   obtain ⟨el,k2⟩:=y
   obtain ⟨r1,r2⟩:=h1 k1 el k2 ho1
   exact OkO.ok (Zm1 (by omega) r1 r2)
theorem Zri {o:Out (DataW Unit)} (hN:4≤N) (h:OkO N o):OkL N (Zjk o):=fun el k' h1=>by
 unfold Zjk at h1
 cases o with
 | error y=>cases h1
 | ok y =>
  obtain ⟨e,k1⟩:=y
  simp only [Except.ok.injEq,Prod.mk.injEq] at h1
  rw [←h1.1]
  exact ⟨by simp;omega,fun x hx=>by simp at hx;subst hx;exact h _ k1 rfl⟩
theorem Z26 (hN:2*l.length+4≤N):∀ (f dp rank k:Nat),OkO N (Z0k l f dp rank k)
 | 0,dp,rank,k=>OkO.err _
 | f+1,dp,rank,k=>by
  unfold Z0k
  split
  ·exact Zer (Z26 hN f dp 1 k) (Zrm (by omega) (fun k1=>Zri (by omega) (Z26 hN f (dp+1) 0 k1)))
  ·split
   ·exact Zer (Z26 hN f dp 4 k) (Y02 (by omega) (Z26 hN f (dp+1) 3 (k+1)))
   ·split
    ·exact Zer (Z26 hN f dp 8 k) (Y02 (by omega) (Z26 hN f (dp+1) 7 (k+1)))
    ·split
     ·unfold Zde
      have H:=Zwr (l:=l) (dp:=dp) (term:=Z0k l f (dp+1) 0) (terms:=fun k1=>Z1g l (Z0n (Z0k l f (dp+1) 0)) Zc1 l.length [] k1) (pairs:=fun k1=>Z1g l (Z13 l (Z0k l f (dp+1) 0)) Zo7 l.length [] k1) (k:=k) (Z26 hN f (dp+1) 0 (k+1)) (Zlh (fun k=>Z26 hN f (dp+1) 0 k) (by simp;omega) (fun e he=>by simp at he)) (Zvw (fun k=>Z26 hN f (dp+1) 0 k) (by omega))
      revert H
      generalize Z79 l dp (Z0k l f (dp+1) 0) (fun k1=>Z1g l (Z0n (Z0k l f (dp+1) 0)) Zc1 l.length [] k1) (fun k1=>Z1g l (Z13 l (Z0k l f (dp+1) 0)) Zo7 l.length [] k1) k=o
      intro H
      cases o with
      | error y=>exact OkO.err _
      | ok y=>exact Zbk hN (fun k=>Z26 hN f (dp+1) 0 k) _ _ _ (H _ _ rfl)
     ·unfold Z3l
      have H:=Z26 hN f dp (rank+1) k
      revert H
      generalize Z0k l f dp (rank+1) k=o
      intro H
      cases o with
      | error y=>exact OkO.err _
      | ok y=>exact Zej (by omega) (fun k=>Z26 hN f dp (rank+1) k) _ _ _ (H _ _ rfl)
theorem Zki (hN:2*l.length+4≤N) (k:Nat):OkO N (Zau l k):=Z26 hN _ _ _ _
end Go.Proofs.YtflcohidmemfpaaGreatDoor
namespace Go.Proofs.YtflcohidmemfpaaGreatDoor
open Go.Proofs.Tryz
open Go.RowKit

def okS (N:Nat):Nat→DataW Unit→Prop
 | 0,_=>False
 | n+1,d => ∃ (kd nm:ByteArray) (pl:List ByteArray) (el bd es:List (DataW Unit)),d=mkS kd nm pl el bd es∧pl.length≤N∧(el.length≤N ∧ ∀ e∈el,OkT N e)∧bd.length≤N∧es.length≤N∧(∀ e∈bd,okS N n e) ∧ ∀ e∈es,okS N n e
def OkS (N:Nat) (d:DataW Unit):Prop:=∃ n,okS N n d
theorem Z7m {N:Nat} : ∀ (n m:Nat) (d:DataW Unit),n≤m→okS N n d→okS N m d
 | 0,_,_,_,h=>h.elim
 | n+1,0,_,hle,_=>by omega
 | n+1,m+1,d,hle,h=>by
  obtain ⟨kd,nm,pl,el,bd,es,hd,h1,h2,h3,h4,h5,h6⟩:=h
  exact ⟨kd,nm,pl,el,bd,es,hd,h1,h2,h3,h4,fun e he=>Z7m n m e (by omega) (h5 e he),fun e he=>Z7m n m e (by omega) (h6 e he)⟩
theorem Zkb {N:Nat} : ∀ el:List (DataW Unit),(∀ e∈el,OkS N e) → ∃ n,∀ e∈el,okS N n e
 | [],_=>⟨0,fun e he=>by simp at he⟩
 | x::el,h=>by
  obtain ⟨n,hn⟩:=Zkb el (fun e he=>h e (List.mem_cons_of_mem _ he))
  obtain ⟨m,hm⟩:=h x (List.mem_cons_self)
  refine ⟨max n m,fun e he => ?_⟩
  rcases List.mem_cons.1 he with rfl | he
  ·exact Z7m m _ _ (by omega) hm
  ·exact Z7m n _ _ (by omega) (hn e he)
def Zd7 (N:Nat) (sl:List (DataW Unit)):Prop:=sl.length≤N ∧ ∀ e∈sl,OkS N e
def Zov (N:Nat) (el:List (DataW Unit)):Prop:=el.length≤N ∧ ∀ e∈el,OkT N e
theorem Zdd {N:Nat}{kd nm:ByteArray}{pl:List ByteArray}{el bd es:List (DataW Unit)} (h1:pl.length≤N) (h2:Zov N el) (h3:Zd7 N bd) (h4:Zd7 N es):OkS N (mkS kd nm pl el bd es):=by
 obtain ⟨n,hn⟩:=Zkb bd h3.2
 obtain ⟨m,hm⟩:=Zkb es h4.2
 exact ⟨max n m+1,kd,nm,pl,el,bd,es,rfl,h1,h2,h3.1,h4.1,fun e he=>Z7m n _ e (by omega) (hn e he),fun e he=>Z7m m _ e (by omega) (hm e he)⟩
theorem Zov.nil (N:Nat):Zov N []:=⟨Nat.zero_le _,fun e he=>by simp at he⟩
theorem Zd7.nil (N:Nat):Zd7 N []:=⟨Nat.zero_le _,fun e he=>by simp at he⟩
def Z2y (N:Nat) (o:Out (DataW Unit)):Prop:=∀ s k',o = .ok (s,k')→OkS N s
def Z4f (N:Nat) (o:Out (List (DataW Unit))):Prop:=∀ s k',o = .ok (s,k')→Zd7 N s
theorem Z2y.err {N:Nat} (x:Nat × Bool):Z2y N (.error x):=fun _ _ h=>by cases h
theorem Z2y.ok {N:Nat}{e:DataW Unit}{k:Nat} (h:OkS N e):Z2y N (.ok (e,k)):=fun _ _ h1=>by
 cases h1
 exact h
theorem Z4f.err {N:Nat} (x:Nat × Bool):Z4f N (.error x):=fun _ _ h=>by cases h
theorem Z4f.ok {N:Nat}{e:List (DataW Unit)}{k:Nat} (h:Zd7 N e):Z4f N (.ok (e,k)):=fun _ _ h1=>by
 cases h1
 exact h
variable {l:List (ByteArray × ByteArray × Nat)}{N:Nat}
theorem Zvi {bl:Nat}{inner:Nat→Out (List (DataW Unit))}{k:Nat} (h:∀ k,Z4f N (inner k)):Z4f N (Z5x l bl inner k):=by
 unfold Z5x
 cases Z0m l k [110,101,119,108,105,110,101] with
 | false=>exact Z4f.err _
 | true =>
  simp only [cond_true]
  cases Z0m l (k+1) [105,110,100,101,110,116] with
  | false=>exact Z4f.err _
  | true =>
   simp only [cond_true]
   split
   ·exact Z4f.err _
   ·cases ho:inner (k+2) with
    | error y=>exact Z4f.err _
    | ok y =>
     obtain ⟨ss,k'⟩:=y
     simp only
     cases Z0m l k' [100,101,100,101,110,116] with
     | false=>exact Z4f.err _
     | true=>exact Z4f.ok (h _ _ k' ho)
theorem Zmf {bl:Nat}{inner:Nat→Out (List (DataW Unit))}{k:Nat} (h:∀ k,Z4f N (inner k)):Z4f N (Z2g l bl inner k):=by
 unfold Z2g
 cases Z09 l k [Z4a] with
 | false=>exact Z4f.err _
 | true=>exact Zvi h
theorem Zta {one blk:Nat→Out (List (DataW Unit))}{k:Nat} (h1:∀ k,OkL N (one k)) (h2:∀ k,Z4f N (blk k)):Z2y N (Z6m one blk k):=by
 unfold Z6m
 cases ho:one k with
 | error y=>exact Z2y.err _
 | ok y =>
  obtain ⟨el,k1⟩:=y
  simp only
  cases ho2:blk k1 with
  | error y=>exact Z2y.err _
  | ok y=>exact Z2y.ok (Zdd (Nat.zero_le _) (h1 k el k1 ho) (h2 k1 _ _ ho2) (Zd7.nil N))
theorem Zyp {one blk:Nat→Out (List (DataW Unit))}{k:Nat} (h1:∀ k,OkL N (one k)) (h2:∀ k,Z4f N (blk k)):Z2y N (Z7c l one blk k):=by
 unfold Z7c
 cases Z0m l k [110,97,109,101] with
 | false=>exact Z2y.err _
 | true =>
  simp only [cond_true]
  cases Z09 l (k+1) [kIn] with
  | false=>exact Z2y.err _
  | true =>
   simp only [cond_true]
   cases ho:one (k+2) with
   | error y=>exact Z2y.err _
   | ok y =>
    obtain ⟨el,k1⟩:=y
    simp only
    cases ho2:blk k1 with
    | error y=>exact Z2y.err _
    | ok y=>exact Z2y.ok (Zdd (Nat.zero_le _) (h1 _ el k1 ho) (h2 k1 _ _ ho2) (Zd7.nil N))
theorem Zmp {blk:Nat→Out (List (DataW Unit))}{k:Nat} (h2:∀ k,Z4f N (blk k)):Z2y N (Z2h l blk k):=by
 unfold Z2h
 cases ho:blk k with
 | error y=>exact Z2y.err _
 | ok y =>
  obtain ⟨ss,k1⟩:=y
  simp only
  cases Z09 l k1 [Za2] with
  | false=>exact Z2y.err _
  | true =>
   simp only [cond_true]
   cases Z0m l (k1+1) [110,97,109,101] with
   | false=>exact Z2y.err _
   | true =>
    simp only [cond_true]
    cases ho2:blk (k1+2) with
    | error y=>exact Z2y.err _
    | ok y=>exact Z2y.ok (Zdd (Nat.zero_le _) (Zov.nil N) (h2 k _ _ ho) (h2 _ _ _ ho2))
theorem Zhb {one blk:Nat→Out (List (DataW Unit))} (hN:4≤N) (h1:∀ k,OkL N (one k)) (h2:∀ k,Z4f N (blk k)):∀ (f k:Nat),Z2y N (Z1y l one blk f k)
 | 0,k=>Z2y.err _
 | f+1,k=>by
  unfold Z1y
  cases ho:one k with
  | error y=>exact Z2y.err _
  | ok y =>
   obtain ⟨el,k1⟩:=y
   simp only
   cases ho2:blk k1 with
   | error y=>exact Z2y.err _
   | ok y =>
    obtain ⟨ss,k2⟩:=y
    simp only
    have e1:=h1 k el k1 ho
    have e2:=h2 k1 ss k2 ho2
    cases Z09 l k2 [Zix] with
    | true =>
     simp only [cond_true]
     cases ho3:Z1y l one blk f (k2+1) with
     | error y=>exact Z2y.err _
     | ok y =>
      obtain ⟨s,k3⟩:=y
      refine Z2y.ok (Zdd (Nat.zero_le _) e1 e2 ⟨by simp;omega,fun x hx => ?_⟩)
      simp at hx
      subst hx
      exact Zhb hN h1 h2 f (k2+1) _ k3 ho3
    | false =>
     simp only [cond_false]
     cases Z09 l k2 [Ziv] with
     | true =>
      simp only [cond_true]
      cases ho3:blk (k2+1) with
      | error y=>exact Z2y.err _
      | ok y=>exact Z2y.ok (Zdd (Nat.zero_le _) e1 e2 (h2 _ _ _ ho3))
     | false=>exact Z2y.ok (Zdd (Nat.zero_le _) e1 e2 (Zd7.nil N))
theorem Zxp {blk:Nat→Out (List (DataW Unit))}{k:Nat} (hN:l.length+1≤N) (h2:∀ k,Z4f N (blk k)):Z2y N (Z6y l blk k):=by
 unfold Z6y
 cases Z0m l k [110,97,109,101] with
 | false=>exact Z2y.err _
 | true =>
  simp only [cond_true]
  cases Z09 l (k+1) [Z7n] with
  | false=>exact Z2y.err _
  | true =>
   simp only [cond_true]
   cases ho:Z1g l (Z2k l) Za7 l.length [] (k+2) with
   | error y=>exact Z2y.err _
   | ok y =>
    obtain ⟨names,k1⟩:=y
    simp only
    obtain ⟨j',q1,q2⟩:=Z49 (P:=fun s j=>s.length=j) (fun s k s' k' j hs h=>Zg0 (l:=l) s k s' k' j hs h) (j:=0) rfl ho
    cases ho2:blk k1 with
    | error y=>exact Z2y.err _
    | ok y=>exact Z2y.ok (Zdd (by omega) (Zov.nil N) (h2 k1 _ _ ho2) (Zd7.nil N))
theorem Zla {e:DataW Unit} (h:OkT N e):Zov N (partsOf e):=by
 obtain ⟨n,hn⟩:=h
 cases n with
 | zero=>exact hn.elim
 | succ n =>
  obtain ⟨op,z,s,pl,el,rfl,_,h2,h3⟩:=hn
  exact ⟨h2,fun e he=>⟨n,h3 e he⟩⟩
theorem Zop {kd nm:ByteArray} : OkS N (mkS kd nm [] [] [] []):=Zdd (Nat.zero_le _) (Zov.nil N) (Zd7.nil N) (Zd7.nil N)
theorem Z68 {kd nm:ByteArray}{el:List (DataW Unit)} (h:Zov N el):OkS N (mkS kd nm [] el [] []):=Zdd (Nat.zero_le _) h (Zd7.nil N) (Zd7.nil N)
theorem Zml {term:Nat→Out (DataW Unit)}{k:Nat} (hN:4≤N) (hix:∀ k,IxO (term k)) (h:∀ k,OkO N (term k)):Z2y N (Z1m l term k):=by
 unfold Z1m
 cases ho:term k with
 | error y=>exact Z2y.err _
 | ok y =>
  obtain ⟨e,k1⟩:=y
  simp only
  cases (Z0m l k [110,97,109,101] && (k1 == k+1)) && Z09 l k1 [kEq] with
  | true =>
   simp only [cond_true]
   cases ho1:Zjk (term (k1+1)) with
   | error y=>exact Z2y.err _
   | ok y=>exact Z2y.ok (Z68 (Zri hN (h (k1+1)) _ _ ho1))
  | false =>
   simp only [cond_false]
   cases hi:Zii e == [105,110,100,101,120] with
   | false =>
    simp only [Bool.false_and,cond_false]
    exact Z2y.ok (Z68 ⟨by simp;omega,fun x hx=>by simp at hx;subst hx;exact h k _ k1 ho⟩)
   | true =>
    simp only [Bool.true_and]
    cases Z09 l k1 [kEq] with
    | false=>exact Z2y.ok (Z68 ⟨by simp;omega,fun x hx=>by simp at hx;subst hx;exact h k _ k1 ho⟩)
    | true =>
     simp only [cond_true]
     cases ho1:term (k1+1) with
     | error y=>exact Z2y.err _
     | ok y =>
      obtain ⟨e2,k2⟩:=y
      have h2:=hix k e k1 ho (by simpa using hi)
      refine Z2y.ok (Z68 ⟨by simp [h2];omega,fun x hx => ?_⟩)
      simp at hx
      rcases hx with hx | rfl
      ·exact (Zla (h k e k1 ho)).2 x hx
      ·exact h (k1+1) _ k2 ho1
theorem Zwt {term:Nat→Out (DataW Unit)}{one:Nat→Out (List (DataW Unit))}{tset:Nat→Out (DataW Unit)}{k:Nat} (hN:l.length+1≤N) (h0:∀ k,OkO N (term k)) (h1:∀ k,OkL N (one k)) (h2:Z2y N (tset k)):Z2y N (Z4e l term one tset k):=by
 unfold Z4e
 cases Z09 l k [Zbm,Z53,Zio] with
 | true=>exact Z2y.ok Zop
 | false =>
  simp only [cond_false]
  cases Z09 l k [Z83,Z4t] with
  | true =>
   simp only [cond_true]
   cases ho:Z1w l (Z2k l) l.length [] (k+1) with
   | error y=>exact Z2y.err _
   | ok y =>
    obtain ⟨names,k1⟩:=y
    obtain ⟨j',q1,q2⟩:=Z77 (P:=fun s j=>s.length=j) (fun s k s' k' j hs h=>Zg0 (l:=l) s k s' k' j hs h) (j:=0) rfl ho
    exact Z2y.ok (Zdd (by omega) (Zov.nil N) (Zd7.nil N) (Zd7.nil N))
  | false =>
   simp only [cond_false]
   cases Z09 l k [Z8a] with
   | true =>
    simp only [cond_true]
    cases Z0m l (k+1) [110,101,119,108,105,110,101] with
    | true=>exact Z2y.ok Zop
    | false =>
     simp only [cond_false]
     cases ho:one (k+1) with
     | error y=>exact Z2y.err _
     | ok y=>exact Z2y.ok (Z68 (h1 _ _ _ ho))
   | false =>
    simp only [cond_false]
    cases Z09 l k [Zbg] with
    | true =>
     simp only [cond_true]
     cases ho:one (k+1) with
     | error y=>exact Z2y.err _
     | ok y=>exact Z2y.ok (Z68 (h1 _ _ _ ho))
    | false =>
     simp only [cond_false]
     cases Z09 l k [Zz1] with
     | true =>
      simp only [cond_true]
      cases ho:term (k+1) with
      | error y=>exact Z2y.err _
      | ok y =>
       obtain ⟨e,k1⟩:=y
       simp only
       cases Zii e == [105,110,100,101,120] with
       | true=>exact Z2y.ok (Z68 (Zla (h0 _ e k1 ho)))
       | false=>exact Z2y.err _
     | false=>exact h2
theorem Zhi {a b c d e f:Nat→Out (DataW Unit)}{k:Nat} (ha:∀ k,Z2y N (a k)) (hb:∀ k,Z2y N (b k)) (hc:∀ k,Z2y N (c k)) (hd:∀ k,Z2y N (d k)) (he:∀ k,Z2y N (e k)) (hf:Z2y N (f k)):Z2y N (Z0q l a b c d e f k):=by
 unfold Z0q
 cases Z09 l k [kIf] with
 | true=>exact ha _
 | false =>
  simp only [cond_false]
  cases Z09 l k [kWhile] with
  | true=>exact hb _
  | false =>
   simp only [cond_false]
   cases Z09 l k [kFor] with
   | true=>exact hc _
   | false =>
    simp only [cond_false]
    cases Z09 l k [kDef] with
    | true=>exact hd _
    | false =>
     simp only [cond_false]
     cases Z09 l k [kTry] with
     | true=>exact he _
     | false =>
      simp only [cond_false]
      cases ho:f k with
      | error y=>exact Z2y.err _
      | ok y =>
       obtain ⟨s,k1⟩:=y
       simp only
       cases Z0m l k1 [110,101,119,108,105,110,101] with
       | false=>exact Z2y.err _
       | true=>exact Z2y.ok (hf s k1 ho)
theorem Zen {cb:List UInt8}{stmt:Nat→Out (DataW Unit)} (h:∀ k,Z2y N (stmt k)):∀ (f:Nat) (ss:List (DataW Unit)) (k:Nat),ss.length+f≤N→(∀ s∈ss,OkS N s)→Z4f N (Z25 l cb stmt f ss k)
 | 0,_,_,_,_=>Z4f.err _
 | f+1,ss,k,hn,hs=>by
  unfold Z25
  cases Z0m l k cb with
  | true=>exact Z4f.ok ⟨by omega,hs⟩
  | false =>
   simp only [cond_false]
   cases ho:stmt k with
   | error y=>exact Z4f.err _
   | ok y =>
    obtain ⟨s,k1⟩:=y
    refine Zen h f (ss ++ [s]) k1 (by simp;omega) (fun x hx => ?_)
    simp at hx
    rcases hx with hx | rfl
    ·exact hs x hx
    ·exact h k _ k1 ho
theorem Zgd (hN:2*l.length+4≤N):∀ (d k:Nat),Z2y N (Z34 l d k)
 | 0,k=>Z2y.err _
 | d+1,k=>by
  have H1:∀ k,OkL N (Z8o l k):=fun k=>Zri (by omega) (Zki hN k)
  have H2:∀ k,Z4f N (Z2g l (12 - d) (fun k'=>Z25 l dedentB.toList (Z34 l d) (l.length+1) [] k') k):=fun k=>Zmf (fun k'=>Zen (fun k=>Zgd hN d k) _ _ _ (by simp;omega) (fun s hs=>by simp at hs))
  unfold Z34 Za0
  exact Zhi (fun k=>Zhb (by omega) H1 H2 _ _) (fun k=>Zta H1 H2) (fun k=>Zyp H1 H2) (fun k=>Zxp (by omega) H2) (fun k=>Zmp H2) (Zwt (by omega) (fun k=>Zki hN k) H1 (Zml (by omega) (Zk7 l) (fun k=>Zki hN k)))
theorem Zsb {ss:List (DataW Unit)}{k:Nat} (hN:2*l.length+4≤N) (h:Z86 l = .ok (ss,k)):Zd7 N ss:=by
 unfold Z86 at h
 exact Zen (fun k=>Zgd hN 12 k) _ _ _ (by simp;omega) (fun s hs=>by simp at hs) ss k h
end Go.Proofs.YtflcohidmemfpaaGreatDoor
namespace Go.Proofs.YtflcohidmemfpaaGreatDoor
open Go.Proofs.Tryz
open Go.RowKit

def bT:Nat→DataW Unit→Prop
 | 0,_=>False
 | n+1,d => ∃ (op:ByteArray) (z:Int) (s:ByteArray) (pl:List ByteArray) (el:List (DataW Unit)),d=mkE op z s pl el∧pl.length≤8796093022208∧el.length≤1599289640401 ∧ ∀ e∈el,bT n e
def BT (d:DataW Unit):Prop:=∃ n,bT n d
def BTL (el:List (DataW Unit)):Prop:=el.length≤1599289640401 ∧ ∀ e∈el,BT e
def bS:Nat→DataW Unit→Prop
 | 0,_=>False
 | n+1,d => ∃ (kd nm:ByteArray) (pl:List ByteArray) (el bd es:List (DataW Unit)),d=mkS kd nm pl el bd es∧pl.length≤8796093022208∧(el.length≤1599289640401 ∧ ∀ e∈el,BT e)∧bd.length≤1099511627776∧es.length≤1099511627776∧(∀ e∈bd,bS n e) ∧ ∀ e∈es,bS n e
def BS (d:DataW Unit):Prop:=∃ n,bS n d
def BSL (sl:List (DataW Unit)):Prop:=sl.length≤1099511627776 ∧ ∀ e∈sl,BS e
theorem Zz9:∀ (n:Nat) (d:DataW Unit),okT 2000000 n d→bT n d
 | 0,_,h=>h.elim
 | n+1,d,h=>by
  obtain ⟨op,z,s,pl,el,hd,h1,h2,h3⟩:=h
  exact ⟨op,z,s,pl,el,hd,by omega,by omega,fun e he=>Zz9 n e (h3 e he)⟩
theorem bt_of {d:DataW Unit} (h:OkT 2000000 d):BT d:=by
 obtain ⟨n,hn⟩:=h
 exact ⟨n,Zz9 n d hn⟩
theorem Zyy:∀ (n:Nat) (d:DataW Unit),okS 2000000 n d→bS n d
 | 0,_,h=>h.elim
 | n+1,d,h=>by
  obtain ⟨kd,nm,pl,el,bd,es,hd,h1,h2,h3,h4,h5,h6⟩:=h
  exact ⟨kd,nm,pl,el,bd,es,hd,by omega,⟨by have:=h2.1;omega,fun e he=>bt_of (h2.2 e he)⟩,by omega,by omega,fun e he=>Zyy n e (h5 e he),fun e he=>Zyy n e (h6 e he)⟩
theorem Zzo {sl:List (DataW Unit)} (h:Zd7 2000000 sl):BSL sl:=⟨by have:=h.1;omega,fun e he=>by
 obtain ⟨n,hn⟩:=h.2 e he
 exact ⟨n,Zyy n e hn⟩⟩
end Go.Proofs.YtflcohidmemfpaaGreatDoor
namespace Go.Proofs.YtflcohidmemfpaaGreatDoor
open Go.Proofs.Tryz
open Go.RowKit

theorem below_drewN {B:Nat}{a w:World} (n:Nat) (h:Below B a w):Below B a (w.drewN n):=⟨h.os,h.tape,h.output,h.size,h.block⟩
theorem Zfd:∀ {a b:List ByteArray},(a.map fun x=>(DataW.lit (.string x.data.toList):DataW Unit))=b.map (fun x=>.lit (.string x.data.toList))→a=b
 | [],[],_=>rfl
 | [],_::_,h=>by cases h
 | _::_,[],h=>by cases h
 | x::a,y::b,h=>by
  simp only [List.map_cons,List.cons.injEq] at h
  obtain ⟨h1,h2⟩:=h
  have h3:x.data.toList=y.data.toList:=by injection h1 with h1;injection h1
  rw [Zfd h2,bytes_inj (a:=x) (b:=y) (by rw [Z0g,Z0g];exact h3)]
theorem Z6e {op op' s s':ByteArray}{z z':Int}{pl pl':List ByteArray}{el el':List (DataW Unit)} (h:mkE op z s pl el=mkE op' z' s' pl' el'):op=op'∧z=z'∧s=s'∧pl=pl'∧el=el':=by
 unfold mkE at h
 injection h with h
 simp only [List.cons.injEq,and_true] at h
 obtain ⟨h1,h2,h3,h4,h5⟩:=h
 refine ⟨bytes_inj ?_,?_,bytes_inj ?_,?_,?_⟩
 ·rw [Z0g,Z0g]
  injection h1 with h1
  injection h1
 ·injection h2 with h2
  injection h2
 ·rw [Z0g,Z0g]
  injection h3 with h3
  injection h3
 ·injection h4 with h4
  exact Zfd h4
 ·injection h5 with h5
end Go.Proofs.YtflcohidmemfpaaGreatDoor
