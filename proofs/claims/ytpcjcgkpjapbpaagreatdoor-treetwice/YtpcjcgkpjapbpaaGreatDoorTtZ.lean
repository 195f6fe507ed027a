/- Trees in memory, whatever type their rows have, with capacities: what the writer asks for. -/
import Derived.Test.YtpcjcgkpjapbpaaGreatDoorTtT
import Derived.Test.YtpcjcgkpjapbpaaGreatDoorCopyB
import Derived.Test.YtpcjcgkpjapbpaaGreatDoorTtV
import Derived.Test.YtpcjcgkpjapbpaaGreatDoorWrtJ
import Derived.Test.YtpcjcgkpjapbpaaGreatDoorTtS
set_option linter.all false
namespace Go.Proofs.YtpcjcgkpjapbpaaGreatDoor
open Go.RowKit

def repW (S:Nat→Prop) (w:World):Nat→List Value→DataW Unit→Prop
 | 0,_,_=>False
 | n+1,cs,d => ∃ (op s:ByteArray) (z:Int) (pl:List ByteArray) (el:List (DataW Unit)) (pa la:Option Addr) (pc lc:Nat),
   d=mkE op z s pl el∧cs = [.string op,.int .i64 z,.string s,.slice pa pl.length pc,.slice la el.length lc]∧RepN S w pa pl∧rowE S w (repW S w n) la el∧el.length≤lc
def RepW (S:Nat→Prop) (w:World) (cs:List Value) (d:DataW Unit):Prop:=∃ n,repW S w n cs d
def RepWL (S:Nat→Prop) (w:World) (la:Option Addr) (el:List (DataW Unit)):Prop:=rowE S w (RepW S w) la el
theorem repW_same {S S':Nat→Prop}{w w':World} (K:Same S w w') (hS:∀ b,S b→b<w.heap.size→S' b):∀ (n:Nat) (cs:List Value) (d:DataW Unit),repW S w n cs d→repW S' w' n cs d
 | 0,_,_,h=>h.elim
 | n+1,cs,d,h=>by
  obtain ⟨op,s,z,pl,el,pa,la,pc,lc,hd,hcs,h1,h2,h3⟩:=h
  exact ⟨op,s,z,pl,el,pa,la,pc,lc,hd,hcs,h1.same K hS,h2.same K hS (repW_same K hS n),h3⟩
theorem RepW.same {S S':Nat→Prop}{w w':World}{cs:List Value}{d:DataW Unit} (h:RepW S w cs d) (K:Same S w w') (hS:∀ b,S b→b<w.heap.size→S' b):RepW S' w' cs d:=by
 obtain ⟨n,hn⟩:=h
 exact ⟨n,repW_same K hS n _ _ hn⟩
theorem RepWL.same {S S':Nat→Prop}{w w':World}{la:Option Addr}{el:List (DataW Unit)} (h:RepWL S w la el) (K:Same S w w') (hS:∀ b,S b→b<w.heap.size→S' b):RepWL S' w' la el:=rowE.same h K hS (fun _ _ h=>h.same K hS)
theorem repW_more {S:Nat→Prop}{w:World} : ∀ (n m:Nat) (cs:List Value) (d:DataW Unit),n≤m→repW S w n cs d→repW S w m cs d
 | 0,_,_,_,_,h=>h.elim
 | n+1,0,_,_,hle,_=>by omega
 | n+1,m+1,cs,d,hle,h=>by
  obtain ⟨op,s,z,pl,el,pa,la,pc,lc,hd,hcs,h1,h2,h3⟩:=h
  exact ⟨op,s,z,pl,el,pa,la,pc,lc,hd,hcs,h1,h2.imp (fun cs d=>repW_more n m cs d (by omega)),h3⟩
theorem rowW_bound {S:Nat→Prop}{w:World}{la:Option Addr}{el:List (DataW Unit)} (h:RepWL S w la el):∃ n,rowE S w (repW S w n) la el:=by
 by_cases h0:0<el.length
 ·obtain ⟨b,o,e,hb,hx⟩:=h h0
  obtain ⟨n,hn⟩:=Go.Deep.fuel_lt (n:=el.length) (q:=fun i m => ∀ s,el[i]?=some s → ∃ c0 c1 c2 c3 c4,w.cell? ⟨b,o+i*5,none⟩=some c0∧w.cell? ⟨b,o+i*5+1,none⟩=some c1∧w.cell? ⟨b,o+i*5+2,none⟩=some c2∧w.cell? ⟨b,o+i*5+3,none⟩=some c3∧w.cell? ⟨b,o+i*5+4,none⟩=some c4∧repW S w m [c0,c1,c2,c3,c4] s)
   (fun i x y hxy h e he=>by
    obtain ⟨c0,c1,c2,c3,c4,h0,h1,h2,h3,h4,hr⟩:=h e he
    exact ⟨c0,c1,c2,c3,c4,h0,h1,h2,h3,h4,repW_more x y _ _ hxy hr⟩)
   (fun i hi=>by
    obtain ⟨c0,c1,c2,c3,c4,h0,h1,h2,h3,h4,n,hr⟩:=hx i el[i] (by simp [hi])
    refine ⟨n,fun e he => ?_⟩
    have:el[i]=e:=by simpa [hi] using he
    subst this
    exact ⟨c0,c1,c2,c3,c4,h0,h1,h2,h3,h4,hr⟩)
  exact ⟨n,fun _=>⟨b,o,e,hb,fun i x hi=>hn i (List.getElem?_eq_some_iff.1 hi).1 x hi⟩⟩
 ·exact ⟨0,fun h=>absurd h h0⟩
theorem mkRepW {S:Nat→Prop}{w:World}{op s:ByteArray}{z:Int}{pl:List ByteArray}{el:List (DataW Unit)}{pa la:Option Addr}{pc lc:Nat} (h1:RepN S w pa pl) (h2:RepWL S w la el) (h3:el.length≤lc) :
  RepW S w [.string op,.int .i64 z,.string s,.slice pa pl.length pc,.slice la el.length lc] (mkE op z s pl el):=by
 obtain ⟨n,hn⟩:=rowW_bound h2
 exact ⟨n+1,op,s,z,pl,el,pa,la,pc,lc,rfl,rfl,h1,hn,h3⟩
theorem repW_of {S:Nat→Prop}{w:World} : ∀ (n:Nat) (cs:List Value) (d:DataW Unit),repE S w n cs d→repW S w n cs d
 | 0,_,_,h=>h.elim
 | n+1,cs,d,h=>by
  obtain ⟨op,s,z,pl,el,pa,la,pc,lc,hd,hcs,h1,h2,_,h3⟩:=h
  refine ⟨op,s,z,pl,el,pa,la,pc,lc,hd,hcs,h1,fun h0 => ?_,h3⟩
  obtain ⟨b,o,e,hb,hx⟩:=h2 h0
  refine ⟨b,o,e,hb,fun i x hi => ?_⟩
  obtain ⟨c0,c1,c2,c3,c4,q0,q1,q2,q3,q4,hr⟩:=hx i x hi
  exact ⟨c0,c1,c2,c3,c4,q0,q1,q2,q3,q4,repW_of n _ _ hr⟩
theorem RepL.toW {S:Nat→Prop}{w:World}{la:Option Addr}{el:List (DataW Unit)} (h:RepL S w la el):RepWL S w la el:=fun h0=>by
 obtain ⟨b,o,e,hb,hx⟩:=h h0
 refine ⟨b,o,e,hb,fun i x hi => ?_⟩
 obtain ⟨c0,c1,c2,c3,c4,q0,q1,q2,q3,q4,n,hr⟩:=hx i x hi
 exact ⟨c0,c1,c2,c3,c4,q0,q1,q2,q3,q4,n,repW_of n _ _ hr⟩
theorem repW_toV {S:Nat→Prop}{w:World} : ∀ (n:Nat) (cs:List Value) (d:DataW Unit),repW S w n cs d→repV S w n cs d
 | 0,_,_,h=>h.elim
 | n+1,cs,d,h=>by
  obtain ⟨op,s,z,pl,el,pa,la,pc,lc,hd,hcs,h1,h2,_⟩:=h
  exact ⟨op,s,z,pl,el,pa,la,pc,lc,hd,hcs,h1,h2.imp (repW_toV n)⟩
theorem RepWL.toV {S:Nat→Prop}{w:World}{la:Option Addr}{el:List (DataW Unit)} (h:RepWL S w la el):RepVL S w la el:=rowE.imp h (fun cs d ⟨n,hn⟩=>⟨n,repW_toV n cs d hn⟩)
def repWS (S:Nat→Prop) (w:World):Nat→List Value→DataW Unit→Prop
 | 0,_,_=>False
 | n+1,cs,d => ∃ (kd nm:ByteArray) (pl:List ByteArray) (el bd es:List (DataW Unit)) (pa la ba ea:Option Addr) (pc lc bc ec:Nat),
   d=mkS kd nm pl el bd es∧cs = [.string kd,.string nm,.slice pa pl.length pc,.slice la el.length lc,.slice ba bd.length bc,.slice ea es.length ec] ∧
   RepN S w pa pl∧RepWL S w la el∧rowS S w (repWS S w n) ba bd∧rowS S w (repWS S w n) ea es∧el.length≤lc
def RepWS (S:Nat→Prop) (w:World) (cs:List Value) (d:DataW Unit):Prop:=∃ n,repWS S w n cs d
def RepWSL (S:Nat→Prop) (w:World) (ba:Option Addr) (bd:List (DataW Unit)):Prop:=rowS S w (RepWS S w) ba bd
theorem repWS_same {S S':Nat→Prop}{w w':World} (K:Same S w w') (hS:∀ b,S b→b<w.heap.size→S' b):∀ (n:Nat) (cs:List Value) (d:DataW Unit),repWS S w n cs d→repWS S' w' n cs d
 | 0,_,_,h=>h.elim
 | n+1,cs,d,h=>by
  obtain ⟨kd,nm,pl,el,bd,es,pa,la,ba,ea,pc,lc,bc,ec,hd,hcs,h1,h2,h3,h4,h5⟩:=h
  exact ⟨kd,nm,pl,el,bd,es,pa,la,ba,ea,pc,lc,bc,ec,hd,hcs,h1.same K hS,h2.same K hS,h3.same K hS (repWS_same K hS n),h4.same K hS (repWS_same K hS n),h5⟩
theorem RepWS.same {S S':Nat→Prop}{w w':World}{cs:List Value}{d:DataW Unit} (h:RepWS S w cs d) (K:Same S w w') (hS:∀ b,S b→b<w.heap.size→S' b):RepWS S' w' cs d:=by
 obtain ⟨n,hn⟩:=h
 exact ⟨n,repWS_same K hS n _ _ hn⟩
theorem RepWSL.same {S S':Nat→Prop}{w w':World}{ba:Option Addr}{bd:List (DataW Unit)} (h:RepWSL S w ba bd) (K:Same S w w') (hS:∀ b,S b→b<w.heap.size→S' b):RepWSL S' w' ba bd:=rowS.same h K hS (fun _ _ h=>h.same K hS)
theorem repWS_of {S:Nat→Prop}{w:World} : ∀ (n:Nat) (cs:List Value) (d:DataW Unit),repS S w n cs d→repWS S w n cs d
 | 0,_,_,h=>h.elim
 | n+1,cs,d,h=>by
  obtain ⟨kd,nm,pl,el,bd,es,pa,la,ba,ea,pc,lc,bc,ec,hd,hcs,h1,h2,h3,h4,h5⟩:=h
  exact ⟨kd,nm,pl,el,bd,es,pa,la,ba,ea,pc,lc,bc,ec,hd,hcs,h1,h2.toW,h3.imp (repWS_of n),h4.imp (repWS_of n),h5⟩
theorem RepSL.toW {S:Nat→Prop}{w:World}{ba:Option Addr}{bd:List (DataW Unit)} (h:RepSL S w ba bd):RepWSL S w ba bd:=rowS.imp h (fun cs d ⟨n,hn⟩=>⟨n,repWS_of n cs d hn⟩)
theorem repWS_toV {S:Nat→Prop}{w:World} : ∀ (n:Nat) (cs:List Value) (d:DataW Unit),repWS S w n cs d→repVS S w n cs d
 | 0,_,_,h=>h.elim
 | n+1,cs,d,h=>by
  obtain ⟨kd,nm,pl,el,bd,es,pa,la,ba,ea,pc,lc,bc,ec,hd,hcs,h1,h2,h3,h4,_⟩:=h
  exact ⟨kd,nm,pl,el,bd,es,pa,la,ba,ea,pc,lc,bc,ec,hd,hcs,h1,h2.toV,h3.imp (repWS_toV n),h4.imp (repWS_toV n)⟩
theorem RepWSL.toV {S:Nat→Prop}{w:World}{ba:Option Addr}{bd:List (DataW Unit)} (h:RepWSL S w ba bd):RepVSL S w ba bd:=rowS.imp h (fun cs d ⟨n,hn⟩=>⟨n,repWS_toV n cs d hn⟩)
theorem repWS_more {S:Nat→Prop}{w:World} : ∀ (n m:Nat) (cs:List Value) (d:DataW Unit),n≤m→repWS S w n cs d→repWS S w m cs d
 | 0,_,_,_,_,h=>h.elim
 | n+1,0,_,_,hle,_=>by omega
 | n+1,m+1,cs,d,hle,h=>by
  obtain ⟨kd,nm,pl,el,bd,es,pa,la,ba,ea,pc,lc,bc,ec,hd,hcs,h1,h2,h3,h4,h5⟩:=h
  exact ⟨kd,nm,pl,el,bd,es,pa,la,ba,ea,pc,lc,bc,ec,hd,hcs,h1,h2,h3.imp (fun cs d=>repWS_more n m cs d (by omega)),h4.imp (fun cs d=>repWS_more n m cs d (by omega)),h5⟩
theorem rowWS_bound {S:Nat→Prop}{w:World}{la:Option Addr}{el:List (DataW Unit)} (h:RepWSL S w la el):∃ n,rowS S w (repWS S w n) la el:=by
 by_cases h0:0<el.length
 ·obtain ⟨b,o,e,hb,hx⟩:=h h0
  obtain ⟨n,hn⟩:=Go.Deep.fuel_lt (n:=el.length) (q:=fun i m => ∀ s,el[i]?=some s → ∃ c0 c1 c2 c3 c4 c5,w.cell? ⟨b,o+i*6,none⟩=some c0∧w.cell? ⟨b,o+i*6+1,none⟩=some c1∧w.cell? ⟨b,o+i*6+2,none⟩=some c2∧w.cell? ⟨b,o+i*6+3,none⟩=some c3∧w.cell? ⟨b,o+i*6+4,none⟩=some c4∧w.cell? ⟨b,o+i*6+5,none⟩=some c5∧repWS S w m [c0,c1,c2,c3,c4,c5] s)
   (fun i x y hxy h e he=>by
    obtain ⟨c0,c1,c2,c3,c4,c5,h0,h1,h2,h3,h4,h5,hr⟩:=h e he
    exact ⟨c0,c1,c2,c3,c4,c5,h0,h1,h2,h3,h4,h5,repWS_more x y _ _ hxy hr⟩)
   (fun i hi=>by
    obtain ⟨c0,c1,c2,c3,c4,c5,h0,h1,h2,h3,h4,h5,n,hr⟩:=hx i el[i] (by simp [hi])
    refine ⟨n,fun e he => ?_⟩
    have:el[i]=e:=by simpa [hi] using he
    subst this
    exact ⟨c0,c1,c2,c3,c4,c5,h0,h1,h2,h3,h4,h5,hr⟩)
  exact ⟨n,fun _=>⟨b,o,e,hb,fun i x hi=>hn i (List.getElem?_eq_some_iff.1 hi).1 x hi⟩⟩
 ·exact ⟨0,fun h=>absurd h h0⟩
theorem mkRepWS {S:Nat→Prop}{w:World}{kd nm:ByteArray}{pl:List ByteArray}{el bd es:List (DataW Unit)}{pa la ba ea:Option Addr}{pc lc bc ec:Nat} (h1:RepN S w pa pl) (h2:RepWL S w la el) (h3:RepWSL S w ba bd) (h4:RepWSL S w ea es) (h5:el.length≤lc):RepWS S w [.string kd,.string nm,.slice pa pl.length pc,.slice la el.length lc,.slice ba bd.length bc,.slice ea es.length ec] (mkS kd nm pl el bd es):=by
 obtain ⟨n,hn⟩:=rowWS_bound h3
 obtain ⟨m,hm⟩:=rowWS_bound h4
 exact ⟨max n m+1,kd,nm,pl,el,bd,es,pa,la,ba,ea,pc,lc,bc,ec,rfl,rfl,h1,h2,rowS.imp hn (fun cs d h=>repWS_more n _ cs d (Nat.le_max_left _ _) h),rowS.imp hm (fun cs d h=>repWS_more m _ cs d (Nat.le_max_right _ _) h),h5⟩
/-! What the writer asks for. -/
theorem namesAt_of {P:Prop}{w1:World}{p:Nat}{pa:Option Addr}{pl:List ByteArray} (h:RepN (fun b=>b<p) w1 pa pl) (hz:∀ x∈pl,Fs x) (hg:∀ x∈pl,GN P x):∃ f,NamesAt P w1 p pa pl.length f:=by
 refine ⟨fun i=>pl.getD i ⟨#[]⟩,fun i hi => ?_⟩
 obtain ⟨b,o,rfl,hb,ht⟩:=h (by omega)
 have hx:pl[i]?=some pl[i]:=by simp [hi]
 have he:pl.getD i ⟨#[]⟩=pl[i]:=by simp [List.getD,hi]
 refine ⟨b,o,rfl,hb,?_,?_,?_⟩
 ·show w1.cell? _=some (.string (pl.getD i ⟨#[]⟩))
  rw [he]
  exact ht i _ hx
 ·show (pl.getD i ⟨#[]⟩).size≤_
  rw [he]
  exact Nat.le_trans (hz _ (List.getElem_mem hi)) (by decide)
 ·show GN P (pl.getD i ⟨#[]⟩)
  rw [he]
  exact hg _ (List.getElem_mem hi)
set_option maxRecDepth 100000 in
theorem tv_of {P:Prop}{w1:World}{p:Nat} : ∀ (n:Nat) (op:ByteArray) (z:Int) (s:ByteArray) (pa:Option Addr) (pn pc:Nat) (la:Option Addr) (ln lc:Nat) (d:DataW Unit),repW (fun b=>b<p) w1 n [.string op,.int .i64 z,.string s,.slice pa pn pc,.slice la ln lc] d→BT d→ZT d→(P→CqT d)→tv P w1 p n op z s pa pn pc la ln lc
 | 0,_,_,_,_,_,_,_,_,_,_,h,_,_,_=>h.elim
 | n+1,op,z,s,pa,pn,pc,la,ln,lc,d,h,hk,hz,hc=>by
  obtain ⟨op',s',z',pl,el,pa',la',pc',lc',hd,hcs,h1,h2,h3⟩:=h
  simp only [List.cons.injEq,Value.string.injEq,Value.int.injEq,Value.slice.injEq,true_and,and_true] at hcs
  obtain ⟨rfl,rfl,rfl,⟨rfl,rfl,rfl⟩,rfl,rfl,rfl⟩:=hcs
  obtain ⟨kn,hk⟩:=hk
  obtain ⟨zn,hz⟩:=hz
  cases kn with
  | zero=>exact hk.elim
  | succ kn=>cases zn with
   | zero=>exact hz.elim
   | succ zn =>
    obtain ⟨op2,z2,s2,pl2,el2,hd2,q1,q2,q3⟩:=hk
    rw [hd] at hd2
    obtain ⟨rfl,rfl,rfl,rfl,rfl⟩:=mkE_inj hd2
    obtain ⟨op2,z2,s2,pl2,el2,hd2,y1,y2,y3,y4,y5⟩:=hz
    rw [hd] at hd2
    obtain ⟨rfl,rfl,rfl,rfl,rfl⟩:=mkE_inj hd2
    have hcp:P→Cs op∧(op=⟨#[110,97,109,101]⟩→Cs s)∧(∀ x∈pl,Cs x) ∧ ∀ e∈el,CqT e:=fun p=>by
     obtain ⟨cn,hcn⟩:=hc p
     cases cn with
     | zero=>exact hcn.elim
     | succ cn =>
      obtain ⟨op2,z2,s2,pl2,el2,hd2,c1,c2,c3,c4⟩:=hcn
      rw [hd] at hd2
      obtain ⟨rfl,rfl,rfl,rfl,rfl⟩:=mkE_inj hd2
      exact ⟨c1,c2,c3,fun e he=>⟨cn,c4 e he⟩⟩
    refine ⟨⟨Nat.le_trans y1 (by decide),fun p=>(hcp p).1⟩,⟨Nat.le_trans y2 (by decide),fun e p=>(hcp p).2.1 e⟩,y3.1,y3.2,by omega,namesAt_of h1 y4 (fun x hx p=>(hcp p).2.2.1 x hx),h3,by omega,fun i hi => ?_⟩
    obtain ⟨b,o,rfl,hb,hx⟩:=h2 (by omega)
    have he:el[i]?=some el[i]:=by simp [hi]
    obtain ⟨c0,c1,c2,c3,c4,x0,x1,x2,x3,x4,hr⟩:=hx i _ he
    cases n with
    | zero=>exact hr.elim
    | succ n =>
     have hr2:=hr
     obtain ⟨opx,sx,zx,plx,elx,pax,lax,pcx,lcx,_,hcs,_⟩:=hr2
     simp only [List.cons.injEq,and_true] at hcs
     obtain ⟨rfl,rfl,rfl,rfl,rfl⟩:=hcs
     exact ⟨b,o,rfl,hb,opx,zx,sx,pax,plx.length,pcx,lax,elx.length,lcx,x0,x1,x2,x3,x4,tv_of (n+1) _ _ _ _ _ _ _ _ _ _ hr ⟨kn,q3 _ (List.getElem_mem hi)⟩ ⟨zn,y5 _ (List.getElem_mem hi)⟩ (fun p=>(hcp p).2.2.2 _ (List.getElem_mem hi))⟩
theorem tvRow_of {P:Prop}{w1:World}{p k:Nat}{la:Option Addr}{el:List (DataW Unit)} (h:rowE (fun b=>b<p) w1 (repW (fun b=>b<p) w1 k) la el) (hk:∀ e∈el,BT e) (hz:ZTL el) (hc:P → ∀ e∈el,CqT e):TvRow w1 p (tv P w1 p k) la el.length:=fun i hi=>by
 obtain ⟨b,o,rfl,hb,hx⟩:=h (by omega)
 have he:el[i]?=some el[i]:=by simp [hi]
 obtain ⟨c0,c1,c2,c3,c4,x0,x1,x2,x3,x4,hr⟩:=hx i _ he
 cases k with
 | zero=>exact hr.elim
 | succ n =>
  have hr2:=hr
  obtain ⟨opx,sx,zx,plx,elx,pax,lax,pcx,lcx,_,hcs,_⟩:=hr2
  simp only [List.cons.injEq,and_true] at hcs
  obtain ⟨rfl,rfl,rfl,rfl,rfl⟩:=hcs
  exact ⟨b,o,rfl,hb,opx,zx,sx,pax,plx.length,pcx,lax,elx.length,lcx,x0,x1,x2,x3,x4,tv_of (n+1) _ _ _ _ _ _ _ _ _ _ hr (hk _ (List.getElem_mem hi)) (hz _ (List.getElem_mem hi)) (fun p=>hc p _ (List.getElem_mem hi))⟩
end Go.Proofs.YtpcjcgkpjapbpaaGreatDoor
namespace Go.Proofs.YtpcjcgkpjapbpaaGreatDoor
open Go.RowKit

theorem tv_more {w1:World}{p:Nat} : ∀ (n m:Nat) (op:ByteArray) (z:Int) (s:ByteArray) (pa:Option Addr) (pn pc:Nat) (la:Option Addr) (ln lc:Nat),n≤m→tv False w1 p n op z s pa pn pc la ln lc→tv False w1 p m op z s pa pn pc la ln lc
 | 0,_,_,_,_,_,_,_,_,_,_,_,h=>h.elim
 | n+1,0,_,_,_,_,_,_,_,_,_,hle,_=>by omega
 | n+1,m+1,op,z,s,pa,pn,pc,la,ln,lc,hle,h=>by
  obtain ⟨h1,h2,h3,h4,h5,h6,h7,h8,h9⟩:=h
  refine ⟨h1,h2,h3,h4,h5,h6,h7,h8,fun i hi => ?_⟩
  obtain ⟨b,o,e,hb,a0,a1,a2,a3,a4,a5,a6,a7,a8,x0,x1,x2,x3,x4,hr⟩:=h9 i hi
  exact ⟨b,o,e,hb,a0,a1,a2,a3,a4,a5,a6,a7,a8,x0,x1,x2,x3,x4,tv_more n m _ _ _ _ _ _ _ _ _ (by omega) hr⟩
theorem TvRow.more {w1:World}{p n m:Nat}{a:Option Addr}{k:Nat} (h:TvRow w1 p (tv False w1 p n) a k) (hle:n≤m):TvRow w1 p (tv False w1 p m) a k:=fun i hi=>by
 obtain ⟨b,o,e,hb,a0,a1,a2,a3,a4,a5,a6,a7,a8,x0,x1,x2,x3,x4,hr⟩:=h i hi
 exact ⟨b,o,e,hb,a0,a1,a2,a3,a4,a5,a6,a7,a8,x0,x1,x2,x3,x4,tv_more n m _ _ _ _ _ _ _ _ _ hle hr⟩
theorem sv_more {w1:World}{p k k':Nat} (hk:k≤k'):∀ (n:Nat) (kd nm:ByteArray) (pa:Option Addr) (pn pc:Nat) (la:Option Addr) (ln lc:Nat) (ba:Option Addr) (bn bc:Nat) (ea:Option Addr) (en ec:Nat),sv w1 p k n kd nm pa pn pc la ln lc ba bn bc ea en ec→sv w1 p k' n kd nm pa pn pc la ln lc ba bn bc ea en ec
 | 0,_,_,_,_,_,_,_,_,_,_,_,_,_,_,h=>h.elim
 | n+1,kd,nm,pa,pn,pc,la,ln,lc,ba,bn,bc,ea,en,ec,h=>by
  obtain ⟨h1,h2,h3,h4,h5,h6,h7,h8,h9,h10,h11⟩:=h
  have row:∀ (a:Option Addr) (m:Nat),SvRow w1 p (sv w1 p k n) a m→SvRow w1 p (sv w1 p k' n) a m:=fun a m h i hi=>by
   obtain ⟨b,o,e,hb,a0,a1,a2,a3,a4,a5,a6,a7,a8,a9,a10,a11,a12,a13,x0,x1,x2,x3,x4,x5,hr⟩:=h i hi
   exact ⟨b,o,e,hb,a0,a1,a2,a3,a4,a5,a6,a7,a8,a9,a10,a11,a12,a13,x0,x1,x2,x3,x4,x5,sv_more hk n _ _ _ _ _ _ _ _ _ _ _ _ _ _ hr⟩
  exact ⟨h1,h2,h3,h4,h5,h6,h7.more hk,h8,h9,row _ _ h10,row _ _ h11⟩
theorem SvRow.more {w1:World}{p k k' n:Nat}{a:Option Addr}{m:Nat} (h:SvRow w1 p (sv w1 p k n) a m) (hk:k≤k'):SvRow w1 p (sv w1 p k' n) a m:=fun i hi=>by
 obtain ⟨b,o,e,hb,a0,a1,a2,a3,a4,a5,a6,a7,a8,a9,a10,a11,a12,a13,x0,x1,x2,x3,x4,x5,hr⟩:=h i hi
 exact ⟨b,o,e,hb,a0,a1,a2,a3,a4,a5,a6,a7,a8,a9,a10,a11,a12,a13,x0,x1,x2,x3,x4,x5,sv_more hk n _ _ _ _ _ _ _ _ _ _ _ _ _ _ hr⟩
theorem svRow_of {w1:World}{p D:Nat}{a:Option Addr}{bd:List (DataW Unit)} (h:RepWSL (fun b=>b<p) w1 a bd) (hI:∀ e∈bd,∀ (kd nm:ByteArray) (pa:Option Addr) (pn pc:Nat) (la:Option Addr) (ln lc:Nat) (ba:Option Addr) (bn bc:Nat) (ea:Option Addr) (en ec:Nat),RepWS (fun b=>b<p) w1 [.string kd,.string nm,.slice pa pn pc,.slice la ln lc,.slice ba bn bc,.slice ea en ec] e → ∃ k,sv w1 p k D kd nm pa pn pc la ln lc ba bn bc ea en ec) :
  ∃ k,SvRow w1 p (sv w1 p k D) a bd.length:=by
 by_cases h0:0<bd.length
 ·obtain ⟨b,o,rfl,hb,hx⟩:=h h0
  obtain ⟨k,hk⟩:=Go.Deep.fuel_lt (n:=bd.length) (q:=fun i m => ∃ a0 a1 a2 a3 a4 a5 a6 a7 a8 a9 a10 a11 a12 a13,w1.cell? ⟨b,o+i*6,none⟩=some (.string a0)∧w1.cell? ⟨b,o+i*6+1,none⟩=some (.string a1)∧w1.cell? ⟨b,o+i*6+2,none⟩=some (.slice a2 a3 a4)∧w1.cell? ⟨b,o+i*6+3,none⟩=some (.slice a5 a6 a7)∧w1.cell? ⟨b,o+i*6+4,none⟩=some (.slice a8 a9 a10)∧w1.cell? ⟨b,o+i*6+5,none⟩=some (.slice a11 a12 a13)∧sv w1 p m D a0 a1 a2 a3 a4 a5 a6 a7 a8 a9 a10 a11 a12 a13)
   (fun i x y hxy h=>by
    obtain ⟨a0,a1,a2,a3,a4,a5,a6,a7,a8,a9,a10,a11,a12,a13,x0,x1,x2,x3,x4,x5,hr⟩:=h
    exact ⟨a0,a1,a2,a3,a4,a5,a6,a7,a8,a9,a10,a11,a12,a13,x0,x1,x2,x3,x4,x5,sv_more hxy D _ _ _ _ _ _ _ _ _ _ _ _ _ _ hr⟩)
   (fun i hi=>by
    obtain ⟨c0,c1,c2,c3,c4,c5,x0,x1,x2,x3,x4,x5,hr⟩:=hx i bd[i] (by simp [hi])
    have hr2:=hr
    obtain ⟨n,hn⟩:=hr2
    cases n with
    | zero=>exact hn.elim
    | succ n =>
     obtain ⟨kd,nm,pl,el,bd2,es,pa,la,ba,ea,pc,lc,bc,ec,_,hcs,_⟩:=hn
     simp only [List.cons.injEq,and_true] at hcs
     obtain ⟨rfl,rfl,rfl,rfl,rfl,rfl⟩:=hcs
     obtain ⟨k,hk⟩:=hI _ (List.getElem_mem hi) _ _ _ _ _ _ _ _ _ _ _ _ _ _ hr
     exact ⟨k,kd,nm,pa,pl.length,pc,la,el.length,lc,ba,bd2.length,bc,ea,es.length,ec,x0,x1,x2,x3,x4,x5,hk⟩)
  refine ⟨k,fun i hi => ?_⟩
  obtain ⟨a0,a1,a2,a3,a4,a5,a6,a7,a8,a9,a10,a11,a12,a13,x0,x1,x2,x3,x4,x5,hr⟩:=hk i hi
  exact ⟨b,o,rfl,hb,a0,a1,a2,a3,a4,a5,a6,a7,a8,a9,a10,a11,a12,a13,x0,x1,x2,x3,x4,x5,hr⟩
 ·exact ⟨0,fun i hi=>absurd hi (by omega)⟩
set_option maxRecDepth 100000 in
theorem sv_of {w1:World}{p:Nat} : ∀ (D:Nat) (kd nm:ByteArray) (pa:Option Addr) (pn pc:Nat) (la:Option Addr) (ln lc:Nat) (ba:Option Addr) (bn bc:Nat) (ea:Option Addr) (en ec:Nat) (d:DataW Unit),RepWS (fun b=>b<p) w1 [.string kd,.string nm,.slice pa pn pc,.slice la ln lc,.slice ba bn bc,.slice ea en ec] d→BS d→zS D d → ∃ k,sv w1 p k D kd nm pa pn pc la ln lc ba bn bc ea en ec
 | 0,_,_,_,_,_,_,_,_,_,_,_,_,_,_,_,_,_,h=>h.elim
 | D+1,kd,nm,pa,pn,pc,la,ln,lc,ba,bn,bc,ea,en,ec,d,h,hk,hz=>by
  obtain ⟨n,hn⟩:=h
  obtain ⟨kn,hk⟩:=hk
  cases n with
  | zero=>exact hn.elim
  | succ n=>cases kn with
   | zero=>exact hk.elim
   | succ kn =>
    obtain ⟨kd',nm',pl,el,bd,es,pa',la',ba',ea',pc',lc',bc',ec',hd,hcs,h1,h2,h3,h4,h5⟩:=hn
    simp only [List.cons.injEq,Value.string.injEq,Value.slice.injEq,and_true] at hcs
    obtain ⟨rfl,rfl,⟨rfl,rfl,rfl⟩,⟨rfl,rfl,rfl⟩,⟨rfl,rfl,rfl⟩,rfl,rfl,rfl⟩:=hcs
    obtain ⟨_,_,_,_,_,_,hd2,q1,q2,q3,q4,q5,q6⟩:=hk
    rw [hd] at hd2
    obtain ⟨rfl,rfl,rfl,rfl,rfl,rfl⟩:=mkS_inj hd2
    obtain ⟨_,_,_,_,_,_,hd2,y1,y2,y3,y4,y5,y6⟩:=hz
    rw [hd] at hd2
    obtain ⟨rfl,rfl,rfl,rfl,rfl,rfl⟩:=mkS_inj hd2
    obtain ⟨kt,ht⟩:=rowW_bound h2
    have t1:=tvRow_of (P:=False) ht q2.2 y4 (fun h=>h.elim)
    obtain ⟨kb,hb⟩:=svRow_of (D:=D) (rowS.imp h3 (fun cs d h=>⟨n,h⟩)) (fun e he kd nm pa pn pc la ln lc ba bn bc ea en ec hr=>sv_of D kd nm pa pn pc la ln lc ba bn bc ea en ec e hr ⟨kn,q5 e he⟩ (y5 e he))
    obtain ⟨ke,he⟩:=svRow_of (D:=D) (rowS.imp h4 (fun cs d h=>⟨n,h⟩)) (fun e he kd nm pa pn pc la ln lc ba bn bc ea en ec hr=>sv_of D kd nm pa pn pc la ln lc ba bn bc ea en ec e hr ⟨kn,q6 e he⟩ (y6 e he))
    exact ⟨max kt (max kb ke),Nat.le_trans y1 (by decide),Nat.le_trans y2 (by decide),by omega,namesAt_of h1 y3 (fun _ _=>gn_no),h5,by have:=q2.1;omega,t1.more (by omega),by omega,by omega,hb.more (by omega),he.more (by omega)⟩
theorem svs_of {w1:World}{p D:Nat}{a:Option Addr}{bd:List (DataW Unit)} (h:RepWSL (fun b=>b<p) w1 a bd) (hk:BSL bd) (hz:ZSL D bd):∃ k,SvRow w1 p (sv w1 p k D) a bd.length:=
 svRow_of h (fun e he kd nm pa pn pc la ln lc ba bn bc ea en ec hr=>sv_of D kd nm pa pn pc la ln lc ba bn bc ea en ec e hr (hk.2 e he) (hz e he))
end Go.Proofs.YtpcjcgkpjapbpaaGreatDoor
namespace Go.Proofs.YtpcjcgkpjapbpaaGreatDoor
open Go.RowKit

theorem bytes_same {a b:ByteArray} (h:(a.toList == b.toList)=true):a=b:=by
 rw [beq_iff_eq] at h
 exact bytes_inj h
theorem take_grow {α:Type}{l m:List α}{j:Nat}{a b:α} (h:l.take j=m.take j) (ha:l[j]?=some a) (hb:m[j]?=some b) (e:a=b):l.take (j+1)=m.take (j+1):=by
 rw [List.take_add_one,List.take_add_one,h,ha,hb,e]
theorem take_whole {α:Type}{l m:List α}{j:Nat} (h:l.take j=m.take j) (hj:j=l.length) (hm:l.length=m.length):l=m:=by
 rw [List.take_of_length_le (by omega),List.take_of_length_le (by omega)] at h
 exact h
set_option maxHeartbeats 4000000 in
set_option maxRecDepth 100000 in
theorem eqStr_two {S S':Nat→Prop} (pl ql:List ByteArray) (pa qa:Option Addr) (pc qc:Nat) (hn:pl.length≤8796093022208) (_hm:ql.length≤8796093022208) (w:World) (h1:RepN S w pa pl) (h2:RepN S' w qa ql) :
  Calls Tryz.prog 25 #[.slice pa pl.length pc,.slice qa ql.length qc] w fun ev w' => ∃ b,ev = .returned (.bool b)∧(b=true→pl=ql)∧Below w.heap.size w w':=by
 by_cases hlen:pl.length=ql.length
 ·rw [←hlen]
  have H1:=toHid h1
  have H2:=toHid h2
  have HL:=toHid hlen
  clear h1 h2 hlen
  go_enter Tryz.func25,Tryz.ntmps25
  go_wp2
  go_loopg [13] (pl.length+1) (fun gk v13 wr => ∃ j:Nat,gk=pl.length+1 - j∧j≤pl.length∧v13 = .int .i64 (j:Int)∧Below w.heap.size w wr∧pl.take j=ql.take j)
  case atStart=>exact ⟨0,rfl,Nat.zero_le _,rfl,Below.refl _ _,rfl⟩
  case round =>
   obtain ⟨j,hgk,hj,hv,hb,htk⟩:=hrel
   subst hv
   have HG:Hid (gk=pl.length+1 - j):=hgk
   have HTK:=toHid htk
   clear hgk htk
   have hj0:(0:Int)≤(j:Int):=by omega
   by_cases hlt:j<pl.length
   ·have hI1:(j:Int)<(pl.length:Int):=by omega
    obtain ⟨b1,o1,rfl,_,t1⟩:=H1.out (by omega)
    obtain ⟨b2,o2,rfl,_,t2⟩:=H2.out (by have:=HL.out;omega)
    obtain ⟨t,ht⟩:∃ t,pl[j]?=some t:=⟨pl[j],by simp [hlt]⟩
    obtain ⟨u,hu⟩:∃ u,ql[j]?=some u:=⟨ql[j]'(by have:=HL.out;omega),by simp⟩
    have e1:=t1 j t ht
    have e2:=t2 j u hu
    have c1:=(hb.cell (p:=⟨b1,o1+j,none⟩) (lt_of_cell e1)).trans e1
    have c2:=(hb.cell (p:=⟨b2,o2+j,none⟩) (lt_of_cell e2)).trans e2
    have HT:=toHid (fun e=>take_grow HTK.out ht hu e)
    clear t1 t2 e1 e2 H1 H2 ht hu
    cases hq:(t.toList == u.toList) with
    | false =>
     go_wp2
     go_quiet (fail)
     go_wp2
     go_ret
     exact ⟨false,rfl,(fun h=>by cases h),below_drewN _ hb⟩
    | true =>
     go_wp2
     go_quiet (fail)
     go_wp2
     go_roundg (pl.length+1 - (j+1))
     case measure=>have:=HG.out;omega
     case rel=>exact ⟨j+1,rfl,by omega,by go_num,below_drewN nq hb,HT.out (bytes_same hq)⟩
   ·have hje:j=pl.length:=by omega
    have HZ:=toHid (take_whole HTK.out hje HL.out)
    clear hje
    go_wp2
    go_ret
    exact ⟨true,rfl,fun _=>HZ.out,hb⟩
 ·have hI:¬ ((pl.length:Int)=(ql.length:Int)):=by omega
  clear h1 h2 hlen
  go_enter Tryz.func25,Tryz.ntmps25
  go_wp2
  go_ret
  exact ⟨false,rfl,(fun h=>by cases h),Below.refl _ _⟩
def EqE (n:Nat):Prop:=∀ (S S':Nat→Prop) (w:World) (c0 c1 c2 c3 c4 d0 d1 d2 d3 d4:Value) (e e':DataW Unit),repV S w n [c0,c1,c2,c3,c4] e→repV S' w n [d0,d1,d2,d3,d4] e'→BT e→BT e'→Calls Tryz.prog 27 #[.agg #[c0,c1,c2,c3,c4],.agg #[d0,d1,d2,d3,d4]] w fun ev w' => ∃ b,ev = .returned (.bool b)∧(b=true→e=e')∧Below w.heap.size w w'
def EqL (n:Nat):Prop:=∀ (S S':Nat→Prop) (w:World) (la ka:Option Addr) (lc kc:Nat) (el el':List (DataW Unit)),rowE S w (repV S w n) la el→rowE S' w (repV S' w n) ka el'→BTL el→BTL el'→Calls Tryz.prog 26 #[.slice la el.length lc,.slice ka el'.length kc,.func (.func 27) #[] #[]] w fun ev w' => ∃ b,ev = .returned (.bool b)∧(b=true→el=el')∧Below w.heap.size w w'
theorem okT_parts {op s:ByteArray}{z:Int}{pl:List ByteArray}{el:List (DataW Unit)} (hk:BT (mkE op z s pl el)):pl.length≤8796093022208∧BTL el:=by
 obtain ⟨m,hm⟩:=hk
 cases m with
 | zero=>exact hm.elim
 | succ m =>
  obtain ⟨op2,z2,s2,pl2,el2,hd2,q1,q2,q3⟩:=hm
  obtain ⟨rfl,rfl,rfl,rfl,rfl⟩:=mkE_inj hd2
  exact ⟨q1,q2,fun e he=>⟨m,q3 e he⟩⟩
set_option maxHeartbeats 4000000 in
set_option maxRecDepth 100000 in
theorem sameExpr_two (n:Nat) (hA:EqL n):EqE (n+1):=by
 intro S S' w c0 c1 c2 c3 c4 d0 d1 d2 d3 d4 e e' h h' hk hk'
 obtain ⟨op,s,z,pl,el,pa,la,pc,lc,rfl,hcs,h1,h2⟩:=h
 obtain ⟨op',s',z',pl',el',pa',la',pc',lc',rfl,hcs',h1',h2'⟩:=h'
 simp only [List.cons.injEq,and_true] at hcs hcs'
 obtain ⟨rfl,rfl,rfl,rfl,rfl⟩:=hcs
 obtain ⟨rfl,rfl,rfl,rfl,rfl⟩:=hcs'
 obtain ⟨hp,hT⟩:=okT_parts hk
 obtain ⟨hp',hT'⟩:=okT_parts hk'
 clear hk hk'
 obtain ⟨wE,hE⟩:∃ wE,wE=(w.alloc (.cells #[.string op,.int .i64 z,.string s,.slice pa pl.length pc,.slice la el.length lc] 71)).alloc (.cells #[.string op',.int .i64 z',.string s',.slice pa' pl'.length pc',.slice la' el'.length lc'] 71):=⟨_,rfl⟩
 have hb0:Below w.heap.size w wE:=by rw [hE];exact ((Below.refl _ _).alloc (Nat.le_refl _) _).alloc (by simp) _
 have hs0:wE.heap.size=w.heap.size+2:=by rw [hE];simp
 have e0:wE.heap[w.heap.size]?=some (.cells #[.string op,.int .i64 z,.string s,.slice pa pl.length pc,.slice la el.length lc] 71):=by rw [hE];exact (Below.heap_alloc _ _ _ (by simp)).trans (heap_alloc_new w _)
 have f0:wE.heap[w.heap.size+1]?=some (.cells #[.string op',.int .i64 z',.string s',.slice pa' pl'.length pc',.slice la' el'.length lc'] 71):=by
  rw [hE]
  have h:=heap_alloc_new (w.alloc (.cells #[.string op,.int .i64 z,.string s,.slice pa pl.length pc,.slice la el.length lc] 71)) (.cells #[.string op',.int .i64 z',.string s',.slice pa' pl'.length pc',.slice la' el'.length lc'] 71)
  simpa using h
 have HT:=toHid (eqStr_two (S:=S) (S':=S') pl pl' pa pa' pc pc' hp hp' wE (h1.same (same_below hb0) (fun b h _=>h)) (h1'.same (same_below hb0) (fun b h _=>h)))
 have HB0:=toHid hb0
 have HE0:=toHid e0
 have HF0:=toHid f0
 have HE:=toHid hE
 have HS0:=toHid hs0
 have HA:=toHid hA
 have H2:=toHid h2
 have H2':=toHid h2'
 have HK:=toHid hT
 have HK':=toHid hT'
 clear hb0 e0 f0 hA h1 h1' h2 h2' hT hT' hE hs0 hp hp'
 go_enter Tryz.func27,Tryz.ntmps27
 cases hq:(op.toList == op'.toList) with
 | false =>
  go_wp2_with fail
  go_ret
  rw [←HE.out]
  exact ⟨false,rfl,(fun h=>by cases h),HB0.out⟩
 | true =>
  by_cases hz:z=z'
  rotate_left
  ·go_wp2_with fail
   go_ret
   rw [←HE.out]
   exact ⟨false,rfl,(fun h=>by cases h),HB0.out⟩
  subst hz
  cases hq2:(s.toList == s'.toList) with
  | false =>
   go_wp2_with fail
   go_ret
   rw [←HE.out]
   exact ⟨false,rfl,(fun h=>by cases h),HB0.out⟩
  | true =>
   go_wp2_with fail
   rw [←HE.out]
   refine HT.out.mono ?_
   rintro ev w1 ⟨b,rfl,hbe,hb1⟩
   have hs0:=HS0.out
   rw [hs0] at hb1
   have hs1:=hb1.size
   rw [hs0] at hs1
   have HBE:=toHid hbe
   have hbw:Below w.heap.size w w1:=HB0.out.trans (hb1.mono (by omega))
   have HBW:=toHid hbw
   cases b with
   | false =>
    clear hb1 hbw hbe
    go_wp2_with fail
    go_ret
    exact ⟨false,rfl,(fun h=>by cases h),HBW.out⟩
   | true =>
    have e1:=(hb1.block w.heap.size (by omega)).trans HE0.out
    have f1:=(hb1.block (w.heap.size+1) (by omega)).trans HF0.out
    have k4:w1.cell? ⟨w.heap.size,4,none⟩=some (.slice la el.length lc):=by rw [cell_of_row _ _ 4 _ _ _ e1];rfl
    have m4:w1.cell? ⟨w.heap.size+1,4,none⟩=some (.slice la' el'.length lc'):=by rw [cell_of_row _ _ 4 _ _ _ f1];rfl
    have kl:=lt_of_cell k4
    have ml:=lt_of_cell m4
    have HL:=toHid (HA.out S S' w1 la la' lc lc' el el' (H2.out.same (same_below hbw) (fun b h _=>h) (repV_same (same_below hbw) (fun b h _=>h) n)) (H2'.out.same (same_below hbw) (fun b h _=>h) (repV_same (same_below hbw) (fun b h _=>h) n)) HK.out HK'.out)
    clear hb1 e1 f1 hbw HT hbe
    go_wp2_with fail
    refine HL.out.mono ?_
    rintro ev w2 ⟨b,rfl,hle,hb2⟩
    have HB2:=toHid (HBW.out.trans (hb2.mono HBW.out.size))
    have HLE:=toHid hle
    clear hb2 HL hle
    go_wp2_with fail
    go_ret
    refine ⟨b,rfl,fun h => ?_,HB2.out⟩
    rw [bytes_same hq,bytes_same hq2,HBE.out (by first | rfl | trivial),HLE.out h]
set_option maxHeartbeats 4000000 in
set_option maxRecDepth 100000 in
theorem eqExprs_two (n:Nat) (hB:EqE n):EqL n:=by
 intro S S' w la ka lc kc el el' h h' hk hk'
 have hn:=hk.1
 by_cases hlen:el.length=el'.length
 ·rw [←hlen]
  have H:=toHid h
  have H':=toHid h'
  have HB:=toHid hB
  have HK:=toHid hk
  have HK':=toHid hk'
  have HL:=toHid hlen
  clear h h' hB hk hk' hlen
  go_enter Tryz.func26,Tryz.ntmps26
  go_wp2_with fail
  go_loopg [17] (el.length+1) (fun gk v17 wr => ∃ j:Nat,gk=el.length+1 - j∧j≤el.length∧v17 = .int .i64 (j:Int)∧Below w.heap.size w wr∧el.take j=el'.take j)
  case atStart=>exact ⟨0,rfl,Nat.zero_le _,rfl,Below.refl _ _,rfl⟩
  case round =>
   obtain ⟨j,hgk,hj,hv,hb,htk⟩:=hrel
   subst hv
   have HG:Hid (gk=el.length+1 - j):=hgk
   have HTK:=toHid htk
   clear hgk htk
   have hj0:(0:Int)≤(j:Int):=by omega
   by_cases hlt:j<el.length
   ·have hI1:(j:Int)<(el.length:Int):=by omega
    obtain ⟨b1,o1,rfl,_,t1⟩:=H.out (by omega)
    obtain ⟨b2,o2,rfl,_,t2⟩:=H'.out (by have:=HL.out;omega)
    obtain ⟨e,he⟩:∃ e,el[j]?=some e:=⟨el[j],by simp [hlt]⟩
    obtain ⟨e',he'⟩:∃ e,el'[j]?=some e:=⟨el'[j]'(by have:=HL.out;omega),by simp⟩
    obtain ⟨c0,c1,c2,c3,c4,x0,x1,x2,x3,x4,hr⟩:=t1 j e he
    obtain ⟨d0,d1,d2,d3,d4,y0,y1,y2,y3,y4,hr'⟩:=t2 j e' he'
    have hr2:=hr
    have hr2':=hr'
    cases n with
    | zero=>exact hr.elim
    | succ n =>
    obtain ⟨opx,sx,zx,plx,elx,pax,lax,pcx,lcx,_,hcs,_⟩:=hr2
    obtain ⟨opy,sy,zy,ply,ely,pay,lay,pcy,lcy,_,hcs',_⟩:=hr2'
    simp only [List.cons.injEq,and_true] at hcs hcs'
    obtain ⟨rfl,rfl,rfl,rfl,rfl⟩:=hcs
    obtain ⟨rfl,rfl,rfl,rfl,rfl⟩:=hcs'
    have hl1:=lt_of_cell x0
    have hl2:=lt_of_cell y0
    have HX:Hid (∀ o v,w.cell? ⟨b1,o,none⟩=some v→wr.cell? ⟨b1,o,none⟩=some v):=fun o v hv=>(hb.cell (p:=⟨b1,o,none⟩) hl1).trans hv
    have HY:Hid (∀ o v,w.cell? ⟨b2,o,none⟩=some v→wr.cell? ⟨b2,o,none⟩=some v):=fun o v hv=>(hb.cell (p:=⟨b2,o,none⟩) hl2).trans hv
    have x0:=HX.out _ _ x0
    have x1:=HX.out _ _ x1
    have x2:=HX.out _ _ x2
    have x3:=HX.out _ _ x3
    have x4:=HX.out _ _ x4
    have y0:=HY.out _ _ y0
    have y1:=HY.out _ _ y1
    have y2:=HY.out _ _ y2
    have y3:=HY.out _ _ y3
    have y4:=HY.out _ _ y4
    have hk1:=lt_of_cell x0
    have hk2:=lt_of_cell y0
    have hsz:=hb.size
    have HC:=toHid (fun W (hW:Below w.heap.size w W)=>HB.out S S' W _ _ _ _ _ _ _ _ _ _ e e' (repV_same (same_below hW) (fun b h _=>h) _ _ _ hr) (repV_same (same_below hW) (fun b h _=>h) _ _ _ hr') (HK.out.2 e (List.mem_of_getElem? he)) (HK'.out.2 e' (List.mem_of_getElem? he')))
    have HT:=toHid (fun x=>take_grow HTK.out he he' x)
    clear t1 t2 H H' he he' hr hr'
    go_wp2_with fail
    refine (HC.out _ (by first | exact hb | exact hb.alloc hsz _ | exact (hb.alloc hsz _).alloc (by simp;omega) _)).mono ?_
    rintro ev w1 ⟨b,rfl,hbe,hb1⟩
    have HW1:Hid (Below w.heap.size w w1):=by first | exact ((hb.alloc hsz _).alloc (by simp;omega) _).trans (hb1.mono (by simp;omega)) | exact (hb.alloc hsz _).trans (hb1.mono (by simp;omega)) | exact hb.trans (hb1.mono hsz)
    have HBE:=toHid hbe
    clear hb1 hbe
    cases b with
    | false =>
     go_wp2_with fail
     go_ret
     exact ⟨false,rfl,(fun h=>by cases h),HW1.out⟩
    | true =>
     go_wp2_with fail
     go_roundg (el.length+1 - (j+1))
     case measure=>have:=HG.out;omega
     case rel=>exact ⟨j+1,rfl,by omega,by go_num,HW1.out,HT.out (HBE.out (by first | rfl | trivial))⟩
   ·have hje:j=el.length:=by omega
    have HZ:=toHid (take_whole HTK.out hje HL.out)
    clear hje
    go_wp2_with fail
    go_ret
    exact ⟨true,rfl,fun _=>HZ.out,hb⟩
 ·have hI:¬ ((el.length:Int)=(el'.length:Int)):=by omega
  have hn':=hk'.1
  clear h h' hB hk hk' hlen
  go_enter Tryz.func26,Tryz.ntmps26
  go_wp2
  go_ret
  exact ⟨false,rfl,(fun h=>by cases h),Below.refl _ _⟩
theorem eqE_all:∀ n,EqE n∧EqL n
 | 0=>⟨fun _ _ _ _ _ _ _ _ _ _ _ _ _ _ _ h _ _ _=>h.elim,eqExprs_two 0 (fun _ _ _ _ _ _ _ _ _ _ _ _ _ _ _ h _ _ _=>h.elim)⟩
 | n+1=>⟨sameExpr_two n (eqE_all n).2,eqExprs_two (n+1) (sameExpr_two n (eqE_all n).2)⟩
theorem eqExprs_all {S S':Nat→Prop}{w:World}{la ka:Option Addr}{lc kc:Nat}{el el':List (DataW Unit)} (h:RepVL S w la el) (h':RepVL S' w ka el') (hk:BTL el) (hk':BTL el'):Calls Tryz.prog 26 #[.slice la el.length lc,.slice ka el'.length kc,.func (.func 27) #[] #[]] w fun ev w' => ∃ b,ev = .returned (.bool b)∧(b=true→el=el')∧Below w.heap.size w w':=by
 obtain ⟨n,hn⟩:=rowE.bound h
 obtain ⟨m,hm⟩:=rowE.bound h'
 exact (eqE_all (max n m)).2 S S' w la ka lc kc el el' (hn.imp (fun cs d=>repV_more n _ cs d (by omega))) (hm.imp (fun cs d=>repV_more m _ cs d (by omega))) hk hk'
end Go.Proofs.YtpcjcgkpjapbpaaGreatDoor
namespace Go.Proofs.YtpcjcgkpjapbpaaGreatDoor
open Go.RowKit

def EqSt (n:Nat):Prop:=∀ (S S':Nat→Prop) (w:World) (c0 c1 c2 c3 c4 c5 d0 d1 d2 d3 d4 d5:Value) (e e':DataW Unit),repVS S w n [c0,c1,c2,c3,c4,c5] e→repVS S' w n [d0,d1,d2,d3,d4,d5] e'→BS e→BS e'→Calls Tryz.prog 15 #[.agg #[c0,c1,c2,c3,c4,c5],.agg #[d0,d1,d2,d3,d4,d5]] w fun ev w' => ∃ b,ev = .returned (.bool b)∧(b=true→e=e')∧Below w.heap.size w w'
def EqSL (n:Nat):Prop:=∀ (S S':Nat→Prop) (w:World) (la ka:Option Addr) (lc kc:Nat) (el el':List (DataW Unit)),rowS S w (repVS S w n) la el→rowS S' w (repVS S' w n) ka el'→BSL el→BSL el'→Calls Tryz.prog 14 #[.slice la el.length lc,.slice ka el'.length kc,.func (.func 15) #[] #[]] w fun ev w' => ∃ b,ev = .returned (.bool b)∧(b=true→el=el')∧Below w.heap.size w w'
theorem okS_parts {kd nm:ByteArray}{pl:List ByteArray}{el bd es:List (DataW Unit)} (hk:BS (mkS kd nm pl el bd es)):pl.length≤8796093022208∧BTL el∧BSL bd∧BSL es:=by
 obtain ⟨m,hm⟩:=hk
 cases m with
 | zero=>exact hm.elim
 | succ m =>
  obtain ⟨_,_,_,_,_,_,hd2,q1,q2,q3,q4,q5,q6⟩:=hm
  obtain ⟨rfl,rfl,rfl,rfl,rfl,rfl⟩:=mkS_inj hd2
  exact ⟨q1,q2,⟨q3,fun e he=>⟨m,q5 e he⟩⟩,q4,fun e he=>⟨m,q6 e he⟩⟩
set_option maxHeartbeats 8000000 in
set_option maxRecDepth 100000 in
theorem sameStmt_two (n:Nat) (hA:EqSL n):EqSt (n+1):=by
 intro S S' w c0 c1 c2 c3 c4 c5 d0 d1 d2 d3 d4 d5 e e' h h' hk hk'
 obtain ⟨kd,nm,pl,el,bd,es,pa,la,ba,ea,pc,lc,bc,ec,rfl,hcs,h1,h2,h3,h4⟩:=h
 obtain ⟨kd',nm',pl',el',bd',es',pa',la',ba',ea',pc',lc',bc',ec',rfl,hcs',h1',h2',h3',h4'⟩:=h'
 simp only [List.cons.injEq,and_true] at hcs hcs'
 obtain ⟨rfl,rfl,rfl,rfl,rfl,rfl⟩:=hcs
 obtain ⟨rfl,rfl,rfl,rfl,rfl,rfl⟩:=hcs'
 obtain ⟨hp,hT,hB,hC⟩:=okS_parts hk
 obtain ⟨hp',hT',hB',hC'⟩:=okS_parts hk'
 clear hk hk'
 obtain ⟨wE,hE⟩:∃ wE,wE=(w.alloc (.cells #[.string kd,.string nm,.slice pa pl.length pc,.slice la el.length lc,.slice ba bd.length bc,.slice ea es.length ec] 39)).alloc (.cells #[.string kd',.string nm',.slice pa' pl'.length pc',.slice la' el'.length lc',.slice ba' bd'.length bc',.slice ea' es'.length ec'] 39):=⟨_,rfl⟩
 have hb0:Below w.heap.size w wE:=by rw [hE];exact ((Below.refl _ _).alloc (Nat.le_refl _) _).alloc (by simp) _
 have hs0:wE.heap.size=w.heap.size+2:=by rw [hE];simp
 have e0:wE.heap[w.heap.size]?=some (.cells #[.string kd,.string nm,.slice pa pl.length pc,.slice la el.length lc,.slice ba bd.length bc,.slice ea es.length ec] 39):=by rw [hE];exact (Below.heap_alloc _ _ _ (by simp)).trans (heap_alloc_new w _)
 have f0:wE.heap[w.heap.size+1]?=some (.cells #[.string kd',.string nm',.slice pa' pl'.length pc',.slice la' el'.length lc',.slice ba' bd'.length bc',.slice ea' es'.length ec'] 39):=by
  rw [hE]
  have h:=heap_alloc_new (w.alloc (.cells #[.string kd,.string nm,.slice pa pl.length pc,.slice la el.length lc,.slice ba bd.length bc,.slice ea es.length ec] 39)) (.cells #[.string kd',.string nm',.slice pa' pl'.length pc',.slice la' el'.length lc',.slice ba' bd'.length bc',.slice ea' es'.length ec'] 39)
  simpa using h
 have HT:=toHid (eqStr_two (S:=S) (S':=S') pl pl' pa pa' pc pc' hp hp' wE (h1.same (same_below hb0) (fun b h _=>h)) (h1'.same (same_below hb0) (fun b h _=>h)))
 /- the cells of the two,later on -/
 have HCE:Hid (∀ W,Below wE.heap.size wE W→W.cell? ⟨w.heap.size,3,none⟩=some (.slice la el.length lc)∧W.cell? ⟨w.heap.size+1,3,none⟩=some (.slice la' el'.length lc')∧W.cell? ⟨w.heap.size,4,none⟩=some (.slice ba bd.length bc)∧W.cell? ⟨w.heap.size+1,4,none⟩=some (.slice ba' bd'.length bc')∧W.cell? ⟨w.heap.size,5,none⟩=some (.slice ea es.length ec)∧W.cell? ⟨w.heap.size+1,5,none⟩=some (.slice ea' es'.length ec')):=fun W hW=>by
  have e1:=(hW.block w.heap.size (by omega)).trans e0
  have f1:=(hW.block (w.heap.size+1) (by omega)).trans f0
  refine ⟨?_,?_,?_,?_,?_,?_⟩
  ·rw [cell_of_row _ _ 3 _ _ _ e1];rfl
  ·rw [cell_of_row _ _ 3 _ _ _ f1];rfl
  ·rw [cell_of_row _ _ 4 _ _ _ e1];rfl
  ·rw [cell_of_row _ _ 4 _ _ _ f1];rfl
  ·rw [cell_of_row _ _ 5 _ _ _ e1];rfl
  ·rw [cell_of_row _ _ 5 _ _ _ f1];rfl
 have HQ1:=toHid (fun W (hW:Below w.heap.size w W)=>eqExprs_all (lc:=lc) (kc:=lc') (h2.same (same_below hW) (fun b h _=>h)) (h2'.same (same_below hW) (fun b h _=>h)) hT hT')
 have HQ2:=toHid (fun W (hW:Below w.heap.size w W)=>hA S S' W ba ba' bc bc' bd bd' (h3.same (same_below hW) (fun b h _=>h) (repVS_same (same_below hW) (fun b h _=>h) n)) (h3'.same (same_below hW) (fun b h _=>h) (repVS_same (same_below hW) (fun b h _=>h) n)) hB hB')
 have HQ3:=toHid (fun W (hW:Below w.heap.size w W)=>hA S S' W ea ea' ec ec' es es' (h4.same (same_below hW) (fun b h _=>h) (repVS_same (same_below hW) (fun b h _=>h) n)) (h4'.same (same_below hW) (fun b h _=>h) (repVS_same (same_below hW) (fun b h _=>h) n)) hC hC')
 have HB0:=toHid hb0
 have HE:=toHid hE
 have HS0:=toHid hs0
 clear hb0 e0 f0 hA h1 h1' h2 h2' h3 h3' h4 h4' hT hT' hB hB' hC hC' hE hs0 hp hp'
 go_enter Tryz.func15,Tryz.ntmps15
 cases hq:(kd.toList == kd'.toList) with
 | false =>
  go_wp2_with fail
  go_ret
  rw [←HE.out]
  exact ⟨false,rfl,(fun h=>by cases h),HB0.out⟩
 | true =>
  cases hq2:(nm.toList == nm'.toList) with
  | false =>
   go_wp2_with fail
   go_ret
   rw [←HE.out]
   exact ⟨false,rfl,(fun h=>by cases h),HB0.out⟩
  | true =>
   go_wp2_with fail
   rw [←HE.out]
   refine HT.out.mono ?_
   rintro ev w1 ⟨b,rfl,hbe,hb1⟩
   obtain ⟨k3,m3,_,_,_,_⟩:=HCE.out w1 hb1
   have HU1:=toHid hb1
   have HW1:Hid (Below w.heap.size w w1):=HB0.out.trans (hb1.mono HB0.out.size)
   have HBE:=toHid hbe
   clear hb1 hbe HT
   cases b with
   | false =>
    go_wp2_with fail
    go_ret
    exact ⟨false,rfl,(fun h=>by cases h),HW1.out⟩
   | true =>
    have kl:=lt_of_cell k3
    have ml:=lt_of_cell m3
    go_wp2_with fail
    refine (HQ1.out _ HW1.out).mono ?_
    rintro ev w2 ⟨b,rfl,hbe,hb2⟩
    have HU2:=toHid (HU1.out.trans (hb2.mono HU1.out.size))
    have HW2:=toHid (HW1.out.trans (hb2.mono HW1.out.size))
    obtain ⟨_,_,k4,m4,_,_⟩:=HCE.out w2 HU2.out
    have HLE:=toHid hbe
    clear hb2 hbe k3 m3 kl ml
    cases b with
    | false =>
     go_wp2_with fail
     go_ret
     exact ⟨false,rfl,(fun h=>by cases h),HW2.out⟩
    | true =>
     have kl:=lt_of_cell k4
     have ml:=lt_of_cell m4
     go_wp2_with fail
     refine (HQ2.out _ HW2.out).mono ?_
     rintro ev w3 ⟨b,rfl,hbe,hb3⟩
     have HU3:=toHid (HU2.out.trans (hb3.mono HU2.out.size))
     have HW3:=toHid (HW2.out.trans (hb3.mono HW2.out.size))
     obtain ⟨_,_,_,_,k5,m5⟩:=HCE.out w3 HU3.out
     have HME:=toHid hbe
     clear hb3 hbe k4 m4 kl ml
     cases b with
     | false =>
      go_wp2_with fail
      go_ret
      exact ⟨false,rfl,(fun h=>by cases h),HW3.out⟩
     | true =>
      have kl:=lt_of_cell k5
      have ml:=lt_of_cell m5
      go_wp2_with fail
      refine (HQ3.out _ HW3.out).mono ?_
      rintro ev w4 ⟨b,rfl,hbe,hb4⟩
      have HW4:=toHid (HW3.out.trans (hb4.mono HW3.out.size))
      have HNE:=toHid hbe
      clear hb4 hbe k5 m5 kl ml
      go_wp2_with fail
      go_ret
      refine ⟨b,rfl,fun h => ?_,HW4.out⟩
      rw [bytes_same hq,bytes_same hq2,HBE.out (by first | rfl | trivial),HLE.out (by first | rfl | trivial),HME.out (by first | rfl | trivial),HNE.out h]
set_option maxHeartbeats 8000000 in
set_option maxRecDepth 100000 in
theorem eqStmts_two (n:Nat) (hB:EqSt n):EqSL n:=by
 intro S S' w la ka lc kc el el' h h' hk hk'
 have hn:=hk.1
 by_cases hlen:el.length=el'.length
 ·rw [←hlen]
  have H:=toHid h
  have H':=toHid h'
  have HB:=toHid hB
  have HK:=toHid hk
  have HK':=toHid hk'
  have HL:=toHid hlen
  clear h h' hB hk hk' hlen
  go_enter Tryz.func14,Tryz.ntmps14
  go_wp2_with fail
  go_loopg [17] (el.length+1) (fun gk v17 wr => ∃ j:Nat,gk=el.length+1 - j∧j≤el.length∧v17 = .int .i64 (j:Int)∧Below w.heap.size w wr∧el.take j=el'.take j)
  case atStart=>exact ⟨0,rfl,Nat.zero_le _,rfl,Below.refl _ _,rfl⟩
  case round =>
   obtain ⟨j,hgk,hj,hv,hb,htk⟩:=hrel
   subst hv
   have HG:Hid (gk=el.length+1 - j):=hgk
   have HTK:=toHid htk
   clear hgk htk
   have hj0:(0:Int)≤(j:Int):=by omega
   by_cases hlt:j<el.length
   ·have hI1:(j:Int)<(el.length:Int):=by omega
    obtain ⟨b1,o1,rfl,_,t1⟩:=H.out (by omega)
    obtain ⟨b2,o2,rfl,_,t2⟩:=H'.out (by have:=HL.out;omega)
    obtain ⟨e,he⟩:∃ e,el[j]?=some e:=⟨el[j],by simp [hlt]⟩
    obtain ⟨e',he'⟩:∃ e,el'[j]?=some e:=⟨el'[j]'(by have:=HL.out;omega),by simp⟩
    obtain ⟨c0,c1,c2,c3,c4,c5,x0,x1,x2,x3,x4,x5,hr⟩:=t1 j e he
    obtain ⟨d0,d1,d2,d3,d4,d5,y0,y1,y2,y3,y4,y5,hr'⟩:=t2 j e' he'
    have hr2:=hr
    have hr2':=hr'
    cases n with
    | zero=>exact hr.elim
    | succ n =>
    obtain ⟨kdx,nmx,plx,elx,bdx,esx,pax,lax,bax,eax,pcx,lcx,bcx,ecx,_,hcs,_⟩:=hr2
    obtain ⟨kdy,nmy,ply,ely,bdy,esy,pay,lay,bay,eay,pcy,lcy,bcy,ecy,_,hcs',_⟩:=hr2'
    simp only [List.cons.injEq,and_true] at hcs hcs'
    obtain ⟨rfl,rfl,rfl,rfl,rfl,rfl⟩:=hcs
    obtain ⟨rfl,rfl,rfl,rfl,rfl,rfl⟩:=hcs'
    have hl1:=lt_of_cell x0
    have hl2:=lt_of_cell y0
    have HX:Hid (∀ o v,w.cell? ⟨b1,o,none⟩=some v→wr.cell? ⟨b1,o,none⟩=some v):=fun o v hv=>(hb.cell (p:=⟨b1,o,none⟩) hl1).trans hv
    have HY:Hid (∀ o v,w.cell? ⟨b2,o,none⟩=some v→wr.cell? ⟨b2,o,none⟩=some v):=fun o v hv=>(hb.cell (p:=⟨b2,o,none⟩) hl2).trans hv
    have x0:=HX.out _ _ x0
    have x1:=HX.out _ _ x1
    have x2:=HX.out _ _ x2
    have x3:=HX.out _ _ x3
    have x4:=HX.out _ _ x4
    have x5:=HX.out _ _ x5
    have y0:=HY.out _ _ y0
    have y1:=HY.out _ _ y1
    have y2:=HY.out _ _ y2
    have y3:=HY.out _ _ y3
    have y4:=HY.out _ _ y4
    have y5:=HY.out _ _ y5
    have hk1:=lt_of_cell x0
    have hk2:=lt_of_cell y0
    have hsz:=hb.size
    have HC:=toHid (fun W (hW:Below w.heap.size w W)=>HB.out S S' W _ _ _ _ _ _ _ _ _ _ _ _ e e' (repVS_same (same_below hW) (fun b h _=>h) _ _ _ hr) (repVS_same (same_below hW) (fun b h _=>h) _ _ _ hr') (HK.out.2 e (List.mem_of_getElem? he)) (HK'.out.2 e' (List.mem_of_getElem? he')))
    have HT:=toHid (fun x=>take_grow HTK.out he he' x)
    clear t1 t2 H H' he he' hr hr'
    go_wp2_with fail
    refine (HC.out _ (by first | exact hb | exact hb.alloc hsz _ | exact (hb.alloc hsz _).alloc (by simp;omega) _)).mono ?_
    rintro ev w1 ⟨b,rfl,hbe,hb1⟩
    have HW1:Hid (Below w.heap.size w w1):=by first | exact ((hb.alloc hsz _).alloc (by simp;omega) _).trans (hb1.mono (by simp;omega)) | exact (hb.alloc hsz _).trans (hb1.mono (by simp;omega)) | exact hb.trans (hb1.mono hsz)
    have HBE:=toHid hbe
    clear hb1 hbe
    cases b with
    | false =>
     go_wp2_with fail
     go_ret
     exact ⟨false,rfl,(fun h=>by cases h),HW1.out⟩
    | true =>
     go_wp2_with fail
     go_roundg (el.length+1 - (j+1))
     case measure=>have:=HG.out;omega
     case rel=>exact ⟨j+1,rfl,by omega,by go_num,HW1.out,HT.out (HBE.out (by first | rfl | trivial))⟩
   ·have hje:j=el.length:=by omega
    have HZ:=toHid (take_whole HTK.out hje HL.out)
    clear hje
    go_wp2_with fail
    go_ret
    exact ⟨true,rfl,fun _=>HZ.out,hb⟩
 ·have hI:¬ ((el.length:Int)=(el'.length:Int)):=by omega
  have hn':=hk'.1
  clear h h' hB hk hk' hlen
  go_enter Tryz.func14,Tryz.ntmps14
  go_wp2
  go_ret
  exact ⟨false,rfl,(fun h=>by cases h),Below.refl _ _⟩
theorem eqS_all:∀ n,EqSt n∧EqSL n
 | 0=>⟨fun _ _ _ _ _ _ _ _ _ _ _ _ _ _ _ _ _ h _ _ _=>h.elim,eqStmts_two 0 (fun _ _ _ _ _ _ _ _ _ _ _ _ _ _ _ _ _ h _ _ _=>h.elim)⟩
 | n+1=>⟨sameStmt_two n (eqS_all n).2,eqStmts_two (n+1) (sameStmt_two n (eqS_all n).2)⟩
theorem eqStmts_all {S S':Nat→Prop}{w:World}{la ka:Option Addr}{lc kc:Nat}{el el':List (DataW Unit)} (h:RepVSL S w la el) (h':RepVSL S' w ka el') (hk:BSL el) (hk':BSL el'):Calls Tryz.prog 14 #[.slice la el.length lc,.slice ka el'.length kc,.func (.func 15) #[] #[]] w fun ev w' => ∃ b,ev = .returned (.bool b)∧(b=true→el=el')∧Below w.heap.size w w':=by
 obtain ⟨n,hn⟩:=rowVS_bound h
 obtain ⟨m,hm⟩:=rowVS_bound h'
 exact (eqS_all (max n m)).2 S S' w la ka lc kc el el' (rowS.imp hn (fun cs d=>repVS_more n _ cs d (by omega))) (rowS.imp hm (fun cs d=>repVS_more m _ cs d (by omega))) hk hk'
end Go.Proofs.YtpcjcgkpjapbpaaGreatDoor
