/- Trees in memory, whatever type their rows have, with capacities: what the writer asks for. -/
import Derived.Test.YtflcohidmemfpaaGreatDoorSsT
import Derived.Test.YtflcohidmemfpaaGreatDoorCopyB
import Derived.Test.YtflcohidmemfpaaGreatDoorSsV
import Derived.Test.YtflcohidmemfpaaGreatDoorWrtJ
import Derived.Test.YtflcohidmemfpaaGreatDoorSsR
set_option linter.all false
namespace Go.Proofs.YtflcohidmemfpaaGreatDoor
open Go.Proofs.Tryz
open Go.RowKit

def Zrv (S:Nat→Prop) (w:World):Nat→List Value→DataW Unit→Prop
 | 0,_,_=>False
 | n+1,cs,d => ∃ (op s:ByteArray) (z:Int) (pl:List ByteArray) (el:List (DataW Unit)) (pa la:Option Addr) (pc lc:Nat),
   d=mkE op z s pl el∧cs = [.string op,.int .i64 z,.string s,.slice pa pl.length pc,.slice la el.length lc]∧Z54 S w pa pl∧Z9m S w (Zrv S w n) la el∧el.length≤lc
def Zvf (S:Nat→Prop) (w:World) (cs:List Value) (d:DataW Unit):Prop:=∃ n,Zrv S w n cs d
def Z6q (S:Nat→Prop) (w:World) (la:Option Addr) (el:List (DataW Unit)):Prop:=Z9m S w (Zvf S w) la el
theorem Zhp {S S':Nat→Prop}{w w':World} (K:Z5i S w w') (hS:∀ b,S b→b<w.heap.size→S' b):∀ (n:Nat) (cs:List Value) (d:DataW Unit),Zrv S w n cs d→Zrv S' w' n cs d
 | 0,_,_,h=>h.elim
 | n+1,cs,d,h=>by
  obtain ⟨op,s,z,pl,el,pa,la,pc,lc,hd,hcs,h1,h2,h3⟩:=h
  exact ⟨op,s,z,pl,el,pa,la,pc,lc,hd,hcs,h1.same K hS,h2.same K hS (Zhp K hS n),h3⟩
theorem Zvf.same {S S':Nat→Prop}{w w':World}{cs:List Value}{d:DataW Unit} (h:Zvf S w cs d) (K:Z5i S w w') (hS:∀ b,S b→b<w.heap.size→S' b):Zvf S' w' cs d:=by
 obtain ⟨n,hn⟩:=h
 exact ⟨n,Zhp K hS n _ _ hn⟩
theorem Z6q.same {S S':Nat→Prop}{w w':World}{la:Option Addr}{el:List (DataW Unit)} (h:Z6q S w la el) (K:Z5i S w w') (hS:∀ b,S b→b<w.heap.size→S' b):Z6q S' w' la el:=Z9m.same h K hS (fun _ _ h=>h.same K hS)
theorem Zgb {S:Nat→Prop}{w:World} : ∀ (n m:Nat) (cs:List Value) (d:DataW Unit),n≤m→Zrv S w n cs d→Zrv S w m cs d
 | 0,_,_,_,_,h=>h.elim
 | n+1,0,_,_,hle,_=>by omega
 | n+1,m+1,cs,d,hle,h=>by
  obtain ⟨op,s,z,pl,el,pa,la,pc,lc,hd,hcs,h1,h2,h3⟩:=h
  exact ⟨op,s,z,pl,el,pa,la,pc,lc,hd,hcs,h1,h2.imp (fun cs d=>Zgb n m cs d (by omega)),h3⟩
theorem Ze2 {S:Nat→Prop}{w:World}{la:Option Addr}{el:List (DataW Unit)} (h:Z6q S w la el):∃ n,Z9m S w (Zrv S w n) la el:=by
 by_cases h0:0<el.length
 ·obtain ⟨b,o,e,hb,hx⟩:=h h0
  obtain ⟨n,hn⟩:=Go.Deep.fuel_lt (n:=el.length) (q:=fun i m => ∀ s,el[i]?=some s → ∃ c0 c1 c2 c3 c4,w.cell? ⟨b,o+i*5,none⟩=some c0∧w.cell? ⟨b,o+i*5+1,none⟩=some c1∧w.cell? ⟨b,o+i*5+2,none⟩=some c2∧w.cell? ⟨b,o+i*5+3,none⟩=some c3∧w.cell? ⟨b,o+i*5+4,none⟩=some c4∧Zrv S w m [c0,c1,c2,c3,c4] s)
   (fun i x y hxy h e he=>by
    obtain ⟨c0,c1,c2,c3,c4,h0,h1,h2,h3,h4,hr⟩:=h e he
    exact ⟨c0,c1,c2,c3,c4,h0,h1,h2,h3,h4,Zgb x y _ _ hxy hr⟩)
   (fun i hi=>by
    obtain ⟨c0,c1,c2,c3,c4,h0,h1,h2,h3,h4,n,hr⟩:=hx i el[i] (by simp [hi])
    refine ⟨n,fun e he => ?_⟩
    have:el[i]=e:=by simpa [hi] using he
    subst this
    exact ⟨c0,c1,c2,c3,c4,h0,h1,h2,h3,h4,hr⟩)
  exact ⟨n,fun _=>⟨b,o,e,hb,fun i x hi=>hn i (List.getElem?_eq_some_iff.1 hi).1 x hi⟩⟩
 ·exact ⟨0,fun h=>absurd h h0⟩
theorem Y0b {S:Nat→Prop}{w:World}{op s:ByteArray}{z:Int}{pl:List ByteArray}{el:List (DataW Unit)}{pa la:Option Addr}{pc lc:Nat} (h1:Z54 S w pa pl) (h2:Z6q S w la el) (h3:el.length≤lc) :
  Zvf S w [.string op,.int .i64 z,.string s,.slice pa pl.length pc,.slice la el.length lc] (mkE op z s pl el):=by
 obtain ⟨n,hn⟩:=Ze2 h2
 exact ⟨n+1,op,s,z,pl,el,pa,la,pc,lc,rfl,rfl,h1,hn,h3⟩
theorem Zlf {S:Nat→Prop}{w:World} : ∀ (n:Nat) (cs:List Value) (d:DataW Unit),Zrv S w n cs d→Zfj S w n cs d
 | 0,_,_,h=>h.elim
 | n+1,cs,d,h=>by
  obtain ⟨op,s,z,pl,el,pa,la,pc,lc,hd,hcs,h1,h2,_⟩:=h
  exact ⟨op,s,z,pl,el,pa,la,pc,lc,hd,hcs,h1,h2.imp (Zlf n)⟩
theorem Z6q.toV {S:Nat→Prop}{w:World}{la:Option Addr}{el:List (DataW Unit)} (h:Z6q S w la el):Z9i S w la el:=Z9m.imp h (fun cs d ⟨n,hn⟩=>⟨n,Zlf n cs d hn⟩)
def Zdg (S:Nat→Prop) (w:World):Nat→List Value→DataW Unit→Prop
 | 0,_,_=>False
 | n+1,cs,d => ∃ (kd nm:ByteArray) (pl:List ByteArray) (el bd es:List (DataW Unit)) (pa la ba ea:Option Addr) (pc lc bc ec:Nat),
   d=mkS kd nm pl el bd es∧cs = [.string kd,.string nm,.slice pa pl.length pc,.slice la el.length lc,.slice ba bd.length bc,.slice ea es.length ec] ∧
   Z54 S w pa pl∧Z6q S w la el∧Z5y S w (Zdg S w n) ba bd∧Z5y S w (Zdg S w n) ea es∧el.length≤lc
def Zbu (S:Nat→Prop) (w:World) (cs:List Value) (d:DataW Unit):Prop:=∃ n,Zdg S w n cs d
def Z36 (S:Nat→Prop) (w:World) (ba:Option Addr) (bd:List (DataW Unit)):Prop:=Z5y S w (Zbu S w) ba bd
theorem Z9q {S S':Nat→Prop}{w w':World} (K:Z5i S w w') (hS:∀ b,S b→b<w.heap.size→S' b):∀ (n:Nat) (cs:List Value) (d:DataW Unit),Zdg S w n cs d→Zdg S' w' n cs d
 | 0,_,_,h=>h.elim
 | n+1,cs,d,h=>by
  obtain ⟨kd,nm,pl,el,bd,es,pa,la,ba,ea,pc,lc,bc,ec,hd,hcs,h1,h2,h3,h4,h5⟩:=h
  exact ⟨kd,nm,pl,el,bd,es,pa,la,ba,ea,pc,lc,bc,ec,hd,hcs,h1.same K hS,h2.same K hS,h3.same K hS (Z9q K hS n),h4.same K hS (Z9q K hS n),h5⟩
theorem Zbu.same {S S':Nat→Prop}{w w':World}{cs:List Value}{d:DataW Unit} (h:Zbu S w cs d) (K:Z5i S w w') (hS:∀ b,S b→b<w.heap.size→S' b):Zbu S' w' cs d:=by
 obtain ⟨n,hn⟩:=h
 exact ⟨n,Z9q K hS n _ _ hn⟩
theorem Z36.same {S S':Nat→Prop}{w w':World}{ba:Option Addr}{bd:List (DataW Unit)} (h:Z36 S w ba bd) (K:Z5i S w w') (hS:∀ b,S b→b<w.heap.size→S' b):Z36 S' w' ba bd:=Z5y.same h K hS (fun _ _ h=>h.same K hS)
theorem Zc2 {S:Nat→Prop}{w:World} : ∀ (n:Nat) (cs:List Value) (d:DataW Unit),Zdg S w n cs d→Z6p S w n cs d
 | 0,_,_,h=>h.elim
 | n+1,cs,d,h=>by
  obtain ⟨kd,nm,pl,el,bd,es,pa,la,ba,ea,pc,lc,bc,ec,hd,hcs,h1,h2,h3,h4,_⟩:=h
  exact ⟨kd,nm,pl,el,bd,es,pa,la,ba,ea,pc,lc,bc,ec,hd,hcs,h1,h2.toV,h3.imp (Zc2 n),h4.imp (Zc2 n)⟩
theorem Z36.toV {S:Nat→Prop}{w:World}{ba:Option Addr}{bd:List (DataW Unit)} (h:Z36 S w ba bd):Z31 S w ba bd:=Z5y.imp h (fun cs d ⟨n,hn⟩=>⟨n,Zc2 n cs d hn⟩)
theorem Z5m {S:Nat→Prop}{w:World} : ∀ (n m:Nat) (cs:List Value) (d:DataW Unit),n≤m→Zdg S w n cs d→Zdg S w m cs d
 | 0,_,_,_,_,h=>h.elim
 | n+1,0,_,_,hle,_=>by omega
 | n+1,m+1,cs,d,hle,h=>by
  obtain ⟨kd,nm,pl,el,bd,es,pa,la,ba,ea,pc,lc,bc,ec,hd,hcs,h1,h2,h3,h4,h5⟩:=h
  exact ⟨kd,nm,pl,el,bd,es,pa,la,ba,ea,pc,lc,bc,ec,hd,hcs,h1,h2,h3.imp (fun cs d=>Z5m n m cs d (by omega)),h4.imp (fun cs d=>Z5m n m cs d (by omega)),h5⟩
theorem Zct {S:Nat→Prop}{w:World}{la:Option Addr}{el:List (DataW Unit)} (h:Z36 S w la el):∃ n,Z5y S w (Zdg S w n) la el:=by
 by_cases h0:0<el.length
 ·obtain ⟨b,o,e,hb,hx⟩:=h h0
  obtain ⟨n,hn⟩:=Go.Deep.fuel_lt (n:=el.length) (q:=fun i m => ∀ s,el[i]?=some s → ∃ c0 c1 c2 c3 c4 c5,w.cell? ⟨b,o+i*6,none⟩=some c0∧w.cell? ⟨b,o+i*6+1,none⟩=some c1∧w.cell? ⟨b,o+i*6+2,none⟩=some c2∧w.cell? ⟨b,o+i*6+3,none⟩=some c3∧w.cell? ⟨b,o+i*6+4,none⟩=some c4∧w.cell? ⟨b,o+i*6+5,none⟩=some c5∧Zdg S w m [c0,c1,c2,c3,c4,c5] s)
   (fun i x y hxy h e he=>by
    obtain ⟨c0,c1,c2,c3,c4,c5,h0,h1,h2,h3,h4,h5,hr⟩:=h e he
    exact ⟨c0,c1,c2,c3,c4,c5,h0,h1,h2,h3,h4,h5,Z5m x y _ _ hxy hr⟩)
   (fun i hi=>by
    obtain ⟨c0,c1,c2,c3,c4,c5,h0,h1,h2,h3,h4,h5,n,hr⟩:=hx i el[i] (by simp [hi])
    refine ⟨n,fun e he => ?_⟩
    have:el[i]=e:=by simpa [hi] using he
    subst this
    exact ⟨c0,c1,c2,c3,c4,c5,h0,h1,h2,h3,h4,h5,hr⟩)
  exact ⟨n,fun _=>⟨b,o,e,hb,fun i x hi=>hn i (List.getElem?_eq_some_iff.1 hi).1 x hi⟩⟩
 ·exact ⟨0,fun h=>absurd h h0⟩
theorem Zy1 {S:Nat→Prop}{w:World}{kd nm:ByteArray}{pl:List ByteArray}{el bd es:List (DataW Unit)}{pa la ba ea:Option Addr}{pc lc bc ec:Nat} (h1:Z54 S w pa pl) (h2:Z6q S w la el) (h3:Z36 S w ba bd) (h4:Z36 S w ea es) (h5:el.length≤lc):Zbu S w [.string kd,.string nm,.slice pa pl.length pc,.slice la el.length lc,.slice ba bd.length bc,.slice ea es.length ec] (mkS kd nm pl el bd es):=by
 obtain ⟨n,hn⟩:=Zct h3
 obtain ⟨m,hm⟩:=Zct h4
 exact ⟨max n m+1,kd,nm,pl,el,bd,es,pa,la,ba,ea,pc,lc,bc,ec,rfl,rfl,h1,h2,Z5y.imp hn (fun cs d h=>Z5m n _ cs d (Nat.le_max_left _ _) h),Z5y.imp hm (fun cs d h=>Z5m m _ cs d (Nat.le_max_right _ _) h),h5⟩
/-! What the writer asks for. -/
theorem Ze7 {P:Prop}{w1:World}{p:Nat}{pa:Option Addr}{pl:List ByteArray} (h:Z54 (fun b=>b<p) w1 pa pl) (hz:∀ x∈pl,Fs x) (hg:∀ x∈pl,GN P x):∃ f,Zcn P w1 p pa pl.length f:=by
 refine ⟨fun i=>pl.getD i ⟨#[]⟩,fun i hi => ?_⟩
 obtain ⟨b,o,rfl,hb,ht⟩:=h (by omega)
 have hx:pl[i]?=some pl[i]:=by simp [hi]
 have he:pl.getD i ⟨#[]⟩=pl[i]:=by simp [List.getD,hi]
 refine ⟨b,o,rfl,hb,?_,?_,?_⟩
 ·show w1.cell? _=some (.string (pl.getD i ⟨#[]⟩))
  rw [he]
  exact ht i _ hx
 ·show (pl.getD i ⟨#[]⟩).size≤_
  rw [he]
  exact Nat.le_trans (hz _ (List.getElem_mem hi)) (by decide)
 ·show GN P (pl.getD i ⟨#[]⟩)
  rw [he]
  exact hg _ (List.getElem_mem hi)
set_option maxRecDepth 100000 in
theorem Y0d {P:Prop}{w1:World}{p:Nat} : ∀ (n:Nat) (op:ByteArray) (z:Int) (s:ByteArray) (pa:Option Addr) (pn pc:Nat) (la:Option Addr) (ln lc:Nat) (d:DataW Unit),Zrv (fun b=>b<p) w1 n [.string op,.int .i64 z,.string s,.slice pa pn pc,.slice la ln lc] d→BT d→ZT d→(P→CqT d)→tv P w1 p n op z s pa pn pc la ln lc
 | 0,_,_,_,_,_,_,_,_,_,_,h,_,_,_=>h.elim
 | n+1,op,z,s,pa,pn,pc,la,ln,lc,d,h,hk,hz,hc=>by
  obtain ⟨op',s',z',pl,el,pa',la',pc',lc',hd,hcs,h1,h2,h3⟩:=h
  simp only [List.cons.injEq,Value.string.injEq,Value.int.injEq,Value.slice.injEq,true_and,and_true] at hcs
  obtain ⟨rfl,rfl,rfl,⟨rfl,rfl,rfl⟩,rfl,rfl,rfl⟩:=hcs
  obtain ⟨kn,hk⟩:=hk
  obtain ⟨zn,hz⟩:=hz
  cases kn with
  | zero=>exact hk.elim
  | succ kn=>cases zn with
   | zero=>exact hz.elim
   | succ zn =>
    obtain ⟨op2,z2,s2,pl2,el2,hd2,q1,q2,q3⟩:=hk
    rw [hd] at hd2
    obtain ⟨rfl,rfl,rfl,rfl,rfl⟩:=Z6e hd2
    obtain ⟨op2,z2,s2,pl2,el2,hd2,y1,y2,y3,y4,y5⟩:=hz
    rw [hd] at hd2
    obtain ⟨rfl,rfl,rfl,rfl,rfl⟩:=Z6e hd2
    have hcp:P→Cs op∧(op=⟨#[110,97,109,101]⟩→Cs s)∧(∀ x∈pl,Cs x) ∧ ∀ e∈el,CqT e:=fun p=>by
     obtain ⟨cn,hcn⟩:=hc p
     cases cn with
     | zero=>exact hcn.elim
     | succ cn =>
      obtain ⟨op2,z2,s2,pl2,el2,hd2,c1,c2,c3,c4⟩:=hcn
      rw [hd] at hd2
      obtain ⟨rfl,rfl,rfl,rfl,rfl⟩:=Z6e hd2
      exact ⟨c1,c2,c3,fun e he=>⟨cn,c4 e he⟩⟩
    refine ⟨⟨Nat.le_trans y1 (by decide),fun p=>(hcp p).1⟩,⟨Nat.le_trans y2 (by decide),fun e p=>(hcp p).2.1 e⟩,y3.1,y3.2,by omega,Ze7 h1 y4 (fun x hx p=>(hcp p).2.2.1 x hx),h3,by omega,fun i hi => ?_⟩
    obtain ⟨b,o,rfl,hb,hx⟩:=h2 (by omega)
    have he:el[i]?=some el[i]:=by simp [hi]
    obtain ⟨c0,c1,c2,c3,c4,x0,x1,x2,x3,x4,hr⟩:=hx i _ he
    cases n with
    | zero=>exact hr.elim
    | succ n =>
     have hr2:=hr
     obtain ⟨opx,sx,zx,plx,elx,pax,lax,pcx,lcx,_,hcs,_⟩:=hr2
     simp only [List.cons.injEq,and_true] at hcs
     obtain ⟨rfl,rfl,rfl,rfl,rfl⟩:=hcs
     exact ⟨b,o,rfl,hb,opx,zx,sx,pax,plx.length,pcx,lax,elx.length,lcx,x0,x1,x2,x3,x4,Y0d (n+1) _ _ _ _ _ _ _ _ _ _ hr ⟨kn,q3 _ (List.getElem_mem hi)⟩ ⟨zn,y5 _ (List.getElem_mem hi)⟩ (fun p=>(hcp p).2.2.2 _ (List.getElem_mem hi))⟩
theorem Zt3 {P:Prop}{w1:World}{p k:Nat}{la:Option Addr}{el:List (DataW Unit)} (h:Z9m (fun b=>b<p) w1 (Zrv (fun b=>b<p) w1 k) la el) (hk:∀ e∈el,BT e) (hz:ZTL el) (hc:P → ∀ e∈el,CqT e):Z5f w1 p (tv P w1 p k) la el.length:=fun i hi=>by
 obtain ⟨b,o,rfl,hb,hx⟩:=h (by omega)
 have he:el[i]?=some el[i]:=by simp [hi]
 obtain ⟨c0,c1,c2,c3,c4,x0,x1,x2,x3,x4,hr⟩:=hx i _ he
 cases k with
 | zero=>exact hr.elim
 | succ n =>
  have hr2:=hr
  obtain ⟨opx,sx,zx,plx,elx,pax,lax,pcx,lcx,_,hcs,_⟩:=hr2
  simp only [List.cons.injEq,and_true] at hcs
  obtain ⟨rfl,rfl,rfl,rfl,rfl⟩:=hcs
  exact ⟨b,o,rfl,hb,opx,zx,sx,pax,plx.length,pcx,lax,elx.length,lcx,x0,x1,x2,x3,x4,Y0d (n+1) _ _ _ _ _ _ _ _ _ _ hr (hk _ (List.getElem_mem hi)) (hz _ (List.getElem_mem hi)) (fun p=>hc p _ (List.getElem_mem hi))⟩
end Go.Proofs.YtflcohidmemfpaaGreatDoor
namespace Go.Proofs.YtflcohidmemfpaaGreatDoor
open Go.Proofs.Tryz
open Go.RowKit

theorem Zq4 {w1:World}{p:Nat} : ∀ (n m:Nat) (op:ByteArray) (z:Int) (s:ByteArray) (pa:Option Addr) (pn pc:Nat) (la:Option Addr) (ln lc:Nat),n≤m→tv False w1 p n op z s pa pn pc la ln lc→tv False w1 p m op z s pa pn pc la ln lc
 | 0,_,_,_,_,_,_,_,_,_,_,_,h=>h.elim
 | n+1,0,_,_,_,_,_,_,_,_,_,hle,_=>by omega
 | n+1,m+1,op,z,s,pa,pn,pc,la,ln,lc,hle,h=>by
  obtain ⟨h1,h2,h3,h4,h5,h6,h7,h8,h9⟩:=h
  refine ⟨h1,h2,h3,h4,h5,h6,h7,h8,fun i hi => ?_⟩
  obtain ⟨b,o,e,hb,a0,a1,a2,a3,a4,a5,a6,a7,a8,x0,x1,x2,x3,x4,hr⟩:=h9 i hi
  exact ⟨b,o,e,hb,a0,a1,a2,a3,a4,a5,a6,a7,a8,x0,x1,x2,x3,x4,Zq4 n m _ _ _ _ _ _ _ _ _ (by omega) hr⟩
theorem Z5f.more {w1:World}{p n m:Nat}{a:Option Addr}{k:Nat} (h:Z5f w1 p (tv False w1 p n) a k) (hle:n≤m):Z5f w1 p (tv False w1 p m) a k:=fun i hi=>by
 obtain ⟨b,o,e,hb,a0,a1,a2,a3,a4,a5,a6,a7,a8,x0,x1,x2,x3,x4,hr⟩:=h i hi
 exact ⟨b,o,e,hb,a0,a1,a2,a3,a4,a5,a6,a7,a8,x0,x1,x2,x3,x4,Zq4 n m _ _ _ _ _ _ _ _ _ hle hr⟩
theorem Zk9 {w1:World}{p k k':Nat} (hk:k≤k'):∀ (n:Nat) (kd nm:ByteArray) (pa:Option Addr) (pn pc:Nat) (la:Option Addr) (ln lc:Nat) (ba:Option Addr) (bn bc:Nat) (ea:Option Addr) (en ec:Nat),sv w1 p k n kd nm pa pn pc la ln lc ba bn bc ea en ec→sv w1 p k' n kd nm pa pn pc la ln lc ba bn bc ea en ec
 | 0,_,_,_,_,_,_,_,_,_,_,_,_,_,_,h=>h.elim
 | n+1,kd,nm,pa,pn,pc,la,ln,lc,ba,bn,bc,ea,en,ec,h=>by
  obtain ⟨h1,h2,h3,h4,h5,h6,h7,h8,h9,h10,h11⟩:=h
  have row:∀ (a:Option Addr) (m:Nat),Zca w1 p (sv w1 p k n) a m→Zca w1 p (sv w1 p k' n) a m:=fun a m h i hi=>by
   obtain ⟨b,o,e,hb,a0,a1,a2,a3,a4,a5,a6,a7,a8,a9,a10,a11,a12,a13,x0,x1,x2,x3,x4,x5,hr⟩:=h i hi
   exact ⟨b,o,e,hb,a0,a1,a2,a3,a4,a5,a6,a7,a8,a9,a10,a11,a12,a13,x0,x1,x2,x3,x4,x5,Zk9 hk n _ _ _ _ _ _ _ _ _ _ _ _ _ _ hr⟩
  exact ⟨h1,h2,h3,h4,h5,h6,h7.more hk,h8,h9,row _ _ h10,row _ _ h11⟩
theorem Zca.more {w1:World}{p k k' n:Nat}{a:Option Addr}{m:Nat} (h:Zca w1 p (sv w1 p k n) a m) (hk:k≤k'):Zca w1 p (sv w1 p k' n) a m:=fun i hi=>by
 obtain ⟨b,o,e,hb,a0,a1,a2,a3,a4,a5,a6,a7,a8,a9,a10,a11,a12,a13,x0,x1,x2,x3,x4,x5,hr⟩:=h i hi
 exact ⟨b,o,e,hb,a0,a1,a2,a3,a4,a5,a6,a7,a8,a9,a10,a11,a12,a13,x0,x1,x2,x3,x4,x5,Zk9 hk n _ _ _ _ _ _ _ _ _ _ _ _ _ _ hr⟩
theorem Zeq {w1:World}{p D:Nat}{a:Option Addr}{bd:List (DataW Unit)} (h:Z36 (fun b=>b<p) w1 a bd) (hI:∀ e∈bd,∀ (kd nm:ByteArray) (pa:Option Addr) (pn pc:Nat) (la:Option Addr) (ln lc:Nat) (ba:Option Addr) (bn bc:Nat) (ea:Option Addr) (en ec:Nat),Zbu (fun b=>b<p) w1 [.string kd,.string nm,.slice pa pn pc,.slice la ln lc,.slice ba bn bc,.slice ea en ec] e → ∃ k,sv w1 p k D kd nm pa pn pc la ln lc ba bn bc ea en ec) :
  ∃ k,Zca w1 p (sv w1 p k D) a bd.length:=by
 by_cases h0:0<bd.length
 ·obtain ⟨b,o,rfl,hb,hx⟩:=h h0
  obtain ⟨k,hk⟩:=Go.Deep.fuel_lt (n:=bd.length) (q:=fun i m => ∃ a0 a1 a2 a3 a4 a5 a6 a7 a8 a9 a10 a11 a12 a13,w1.cell? ⟨b,o+i*6,none⟩=some (.string a0)∧w1.cell? ⟨b,o+i*6+1,none⟩=some (.string a1)∧w1.cell? ⟨b,o+i*6+2,none⟩=some (.slice a2 a3 a4)∧w1.cell? ⟨b,o+i*6+3,none⟩=some (.slice a5 a6 a7)∧w1.cell? ⟨b,o+i*6+4,none⟩=some (.slice a8 a9 a10)∧w1.cell? ⟨b,o+i*6+5,none⟩=some (.slice a11 a12 a13)∧sv w1 p m D a0 a1 a2 a3 a4 a5 a6 a7 a8 a9 a10 a11 a12 a13)
   (fun i x y hxy h=>by
    obtain ⟨a0,a1,a2,a3,a4,a5,a6,a7,a8,a9,a10,a11,a12,a13,x0,x1,x2,x3,x4,x5,hr⟩:=h
    exact ⟨a0,a1,a2,a3,a4,a5,a6,a7,a8,a9,a10,a11,a12,a13,x0,x1,x2,x3,x4,x5,Zk9 hxy D _ _ _ _ _ _ _ _ _ _ _ _ _ _ hr⟩)
   (fun i hi=>by
    obtain ⟨c0,c1,c2,c3,c4,c5,x0,x1,x2,x3,x4,x5,hr⟩:=hx i bd[i] (by simp [hi])
    have hr2:=hr
    obtain ⟨n,hn⟩:=hr2
    cases n with
    | zero=>exact hn.elim
    | succ n =>
     obtain ⟨kd,nm,pl,el,bd2,es,pa,la,ba,ea,pc,lc,bc,ec,_,hcs,_⟩:=hn
     simp only [List.cons.injEq,and_true] at hcs
     obtain ⟨rfl,rfl,rfl,rfl,rfl,rfl⟩:=hcs
     obtain ⟨k,hk⟩:=hI _ (List.getElem_mem hi) _ _ _ _ _ _ _ _ _ _ _ _ _ _ hr
     exact ⟨k,kd,nm,pa,pl.length,pc,la,el.length,lc,ba,bd2.length,bc,ea,es.length,ec,x0,x1,x2,x3,x4,x5,hk⟩)
  refine ⟨k,fun i hi => ?_⟩
  obtain ⟨a0,a1,a2,a3,a4,a5,a6,a7,a8,a9,a10,a11,a12,a13,x0,x1,x2,x3,x4,x5,hr⟩:=hk i hi
  exact ⟨b,o,rfl,hb,a0,a1,a2,a3,a4,a5,a6,a7,a8,a9,a10,a11,a12,a13,x0,x1,x2,x3,x4,x5,hr⟩
 ·exact ⟨0,fun i hi=>absurd hi (by omega)⟩
set_option maxRecDepth 100000 in
theorem Zxs {w1:World}{p:Nat} : ∀ (D:Nat) (kd nm:ByteArray) (pa:Option Addr) (pn pc:Nat) (la:Option Addr) (ln lc:Nat) (ba:Option Addr) (bn bc:Nat) (ea:Option Addr) (en ec:Nat) (d:DataW Unit),Zbu (fun b=>b<p) w1 [.string kd,.string nm,.slice pa pn pc,.slice la ln lc,.slice ba bn bc,.slice ea en ec] d→BS d→zS D d → ∃ k,sv w1 p k D kd nm pa pn pc la ln lc ba bn bc ea en ec
 | 0,_,_,_,_,_,_,_,_,_,_,_,_,_,_,_,_,_,h=>h.elim
 | D+1,kd,nm,pa,pn,pc,la,ln,lc,ba,bn,bc,ea,en,ec,d,h,hk,hz=>by
  obtain ⟨n,hn⟩:=h
  obtain ⟨kn,hk⟩:=hk
  cases n with
  | zero=>exact hn.elim
  | succ n=>cases kn with
   | zero=>exact hk.elim
   | succ kn =>
    obtain ⟨kd',nm',pl,el,bd,es,pa',la',ba',ea',pc',lc',bc',ec',hd,hcs,h1,h2,h3,h4,h5⟩:=hn
    simp only [List.cons.injEq,Value.string.injEq,Value.slice.injEq,and_true] at hcs
    obtain ⟨rfl,rfl,⟨rfl,rfl,rfl⟩,⟨rfl,rfl,rfl⟩,⟨rfl,rfl,rfl⟩,rfl,rfl,rfl⟩:=hcs
    obtain ⟨_,_,_,_,_,_,hd2,q1,q2,q3,q4,q5,q6⟩:=hk
    rw [hd] at hd2
    obtain ⟨rfl,rfl,rfl,rfl,rfl,rfl⟩:=Z72 hd2
    obtain ⟨_,_,_,_,_,_,hd2,y1,y2,y3,y4,y5,y6⟩:=hz
    rw [hd] at hd2
    obtain ⟨rfl,rfl,rfl,rfl,rfl,rfl⟩:=Z72 hd2
    obtain ⟨kt,ht⟩:=Ze2 h2
    have t1:=Zt3 (P:=False) ht q2.2 y4 (fun h=>h.elim)
    obtain ⟨kb,hb⟩:=Zeq (D:=D) (Z5y.imp h3 (fun cs d h=>⟨n,h⟩)) (fun e he kd nm pa pn pc la ln lc ba bn bc ea en ec hr=>Zxs D kd nm pa pn pc la ln lc ba bn bc ea en ec e hr ⟨kn,q5 e he⟩ (y5 e he))
    obtain ⟨ke,he⟩:=Zeq (D:=D) (Z5y.imp h4 (fun cs d h=>⟨n,h⟩)) (fun e he kd nm pa pn pc la ln lc ba bn bc ea en ec hr=>Zxs D kd nm pa pn pc la ln lc ba bn bc ea en ec e hr ⟨kn,q6 e he⟩ (y6 e he))
    exact ⟨max kt (max kb ke),Nat.le_trans y1 (by decide),Nat.le_trans y2 (by decide),by omega,Ze7 h1 y3 (fun _ _=>Zvg),h5,by have:=q2.1;omega,t1.more (by omega),by omega,by omega,hb.more (by omega),he.more (by omega)⟩
theorem Zzz {w1:World}{p D:Nat}{a:Option Addr}{bd:List (DataW Unit)} (h:Z36 (fun b=>b<p) w1 a bd) (hk:BSL bd) (hz:ZSL D bd):∃ k,Zca w1 p (sv w1 p k D) a bd.length:=
 Zeq h (fun e he kd nm pa pn pc la ln lc ba bn bc ea en ec hr=>Zxs D kd nm pa pn pc la ln lc ba bn bc ea en ec e hr (hk.2 e he) (hz e he))
end Go.Proofs.YtflcohidmemfpaaGreatDoor
namespace Go.Proofs.YtflcohidmemfpaaGreatDoor
open Go.Proofs.Tryz
open Go.RowKit

theorem Z5r {a b:ByteArray} (h:(a.toList == b.toList)=true):a=b:=by
 rw [beq_iff_eq] at h
 exact bytes_inj h
theorem Zd6 {α:Type}{l m:List α}{j:Nat}{a b:α} (h:l.take j=m.take j) (ha:l[j]?=some a) (hb:m[j]?=some b) (e:a=b):l.take (j+1)=m.take (j+1):=by
 rw [List.take_add_one,List.take_add_one,h,ha,hb,e]
theorem Z9j {α:Type}{l m:List α}{j:Nat} (h:l.take j=m.take j) (hj:j=l.length) (hm:l.length=m.length):l=m:=by
 rw [List.take_of_length_le (by omega),List.take_of_length_le (by omega)] at h
 exact h
set_option maxHeartbeats 4000000 in
set_option maxRecDepth 100000 in
theorem Zhl {S S':Nat→Prop} (pl ql:List ByteArray) (pa qa:Option Addr) (pc qc:Nat) (hn:pl.length≤8796093022208) (_hm:ql.length≤8796093022208) (w:World) (h1:Z54 S w pa pl) (h2:Z54 S' w qa ql) :
  Calls prog 41 #[.slice pa pl.length pc,.slice qa ql.length qc] w fun ev w' => ∃ b,ev = .returned (.bool b)∧(b=true→pl=ql)∧Below w.heap.size w w':=by
 by_cases hlen:pl.length=ql.length
 ·rw [←hlen]
  have H1:=Z01 h1
  have H2:=Z01 h2
  have HL:=Z01 hlen
  clear h1 h2 hlen
  go_enter func41,ntmps41
  go_wp2
  go_loopg [13] (pl.length+1) (fun gk v13 wr => ∃ j:Nat,gk=pl.length+1 - j∧j≤pl.length∧v13 = .int .i64 (j:Int)∧Below w.heap.size w wr∧pl.take j=ql.take j)
  case atStart=>exact ⟨0,rfl,Nat.zero_le _,rfl,Below.refl _ _,rfl⟩
  case round =>
   obtain ⟨j,hgk,hj,hv,hb,htk⟩:=hrel
   subst hv
   have HG:Hid (gk=pl.length+1 - j):=hgk
   have HTK:=Z01 htk
   clear hgk htk
   have hj0:(0:Int)≤(j:Int):=by omega
   by_cases hlt:j<pl.length
   ·have hI1:(j:Int)<(pl.length:Int):=by omega
    obtain ⟨b1,o1,rfl,_,t1⟩:=H1.out (by omega)
    obtain ⟨b2,o2,rfl,_,t2⟩:=H2.out (by have:=HL.out;omega)
    obtain ⟨t,ht⟩:∃ t,pl[j]?=some t:=⟨pl[j],by simp [hlt]⟩
    obtain ⟨u,hu⟩:∃ u,ql[j]?=some u:=⟨ql[j]'(by have:=HL.out;omega),by simp⟩
    have e1:=t1 j t ht
    have e2:=t2 j u hu
    have c1:=(hb.cell (p:=⟨b1,o1+j,none⟩) (Z02 e1)).trans e1
    have c2:=(hb.cell (p:=⟨b2,o2+j,none⟩) (Z02 e2)).trans e2
    have HT:=Z01 (fun e=>Zd6 HTK.out ht hu e)
    clear t1 t2 e1 e2 H1 H2 ht hu
    cases hq:(t.toList == u.toList) with
    | false =>
     go_wp2
     go_quiet (fail)
     go_wp2
     go_ret
     exact ⟨false,rfl,(fun h=>by cases h),below_drewN _ hb⟩
    | true =>
     go_wp2
     go_quiet (fail)
     go_wp2
     go_roundg (pl.length+1 - (j+1))
     case measure=>have:=HG.out;omega
     case rel=>exact ⟨j+1,rfl,by omega,by go_num,below_drewN nq hb,HT.out (Z5r hq)⟩
   ·have hje:j=pl.length:=by omega
    have HZ:=Z01 (Z9j HTK.out hje HL.out)
    clear hje
    go_wp2
    go_ret
    exact ⟨true,rfl,fun _=>HZ.out,hb⟩
 ·have hI:¬ ((pl.length:Int)=(ql.length:Int)):=by omega
  clear h1 h2 hlen
  go_enter func41,ntmps41
  go_wp2
  go_ret
  exact ⟨false,rfl,(fun h=>by cases h),Below.refl _ _⟩
def EqE (n:Nat):Prop:=∀ (S S':Nat→Prop) (w:World) (c0 c1 c2 c3 c4 d0 d1 d2 d3 d4:Value) (e e':DataW Unit),Zfj S w n [c0,c1,c2,c3,c4] e→Zfj S' w n [d0,d1,d2,d3,d4] e'→BT e→BT e'→Calls prog 43 #[.agg #[c0,c1,c2,c3,c4],.agg #[d0,d1,d2,d3,d4]] w fun ev w' => ∃ b,ev = .returned (.bool b)∧(b=true→e=e')∧Below w.heap.size w w'
def EqL (n:Nat):Prop:=∀ (S S':Nat→Prop) (w:World) (la ka:Option Addr) (lc kc:Nat) (el el':List (DataW Unit)),Z9m S w (Zfj S w n) la el→Z9m S' w (Zfj S' w n) ka el'→BTL el→BTL el'→Calls prog 42 #[.slice la el.length lc,.slice ka el'.length kc,.func (.func 43) #[] #[]] w fun ev w' => ∃ b,ev = .returned (.bool b)∧(b=true→el=el')∧Below w.heap.size w w'
theorem Zgg {op s:ByteArray}{z:Int}{pl:List ByteArray}{el:List (DataW Unit)} (hk:BT (mkE op z s pl el)):pl.length≤8796093022208∧BTL el:=by
 obtain ⟨m,hm⟩:=hk
 cases m with
 | zero=>exact hm.elim
 | succ m =>
  obtain ⟨op2,z2,s2,pl2,el2,hd2,q1,q2,q3⟩:=hm
  obtain ⟨rfl,rfl,rfl,rfl,rfl⟩:=Z6e hd2
  exact ⟨q1,q2,fun e he=>⟨m,q3 e he⟩⟩
set_option maxHeartbeats 4000000 in
set_option maxRecDepth 100000 in
theorem Zan (n:Nat) (hA:EqL n):EqE (n+1):=by
 intro S S' w c0 c1 c2 c3 c4 d0 d1 d2 d3 d4 e e' h h' hk hk'
 obtain ⟨op,s,z,pl,el,pa,la,pc,lc,rfl,hcs,h1,h2⟩:=h
 obtain ⟨op',s',z',pl',el',pa',la',pc',lc',rfl,hcs',h1',h2'⟩:=h'
 simp only [List.cons.injEq,and_true] at hcs hcs'
 obtain ⟨rfl,rfl,rfl,rfl,rfl⟩:=hcs
 obtain ⟨rfl,rfl,rfl,rfl,rfl⟩:=hcs'
 obtain ⟨hp,hT⟩:=Zgg hk
 obtain ⟨hp',hT'⟩:=Zgg hk'
 clear hk hk'
 obtain ⟨wE,hE⟩:∃ wE,wE=(w.alloc (.cells #[.string op,.int .i64 z,.string s,.slice pa pl.length pc,.slice la el.length lc] 72)).alloc (.cells #[.string op',.int .i64 z',.string s',.slice pa' pl'.length pc',.slice la' el'.length lc'] 72):=⟨_,rfl⟩
 have hb0:Below w.heap.size w wE:=by rw [hE];exact ((Below.refl _ _).alloc (Nat.le_refl _) _).alloc (by simp) _
 have hs0:wE.heap.size=w.heap.size+2:=by rw [hE];simp
 have e0:wE.heap[w.heap.size]?=some (.cells #[.string op,.int .i64 z,.string s,.slice pa pl.length pc,.slice la el.length lc] 72):=by rw [hE];exact (Below.heap_alloc _ _ _ (by simp)).trans (heap_alloc_new w _)
 have f0:wE.heap[w.heap.size+1]?=some (.cells #[.string op',.int .i64 z',.string s',.slice pa' pl'.length pc',.slice la' el'.length lc'] 72):=by
  rw [hE]
  have h:=heap_alloc_new (w.alloc (.cells #[.string op,.int .i64 z,.string s,.slice pa pl.length pc,.slice la el.length lc] 72)) (.cells #[.string op',.int .i64 z',.string s',.slice pa' pl'.length pc',.slice la' el'.length lc'] 72)
  simpa using h
 have HT:=Z01 (Zhl (S:=S) (S':=S') pl pl' pa pa' pc pc' hp hp' wE (h1.same (Z06 hb0) (fun b h _=>h)) (h1'.same (Z06 hb0) (fun b h _=>h)))
 have HB0:=Z01 hb0
 have HE0:=Z01 e0
 have HF0:=Z01 f0
 have HE:=Z01 hE
 have HS0:=Z01 hs0
 have HA:=Z01 hA
 have H2:=Z01 h2
 have H2':=Z01 h2'
 have HK:=Z01 hT
 have HK':=Z01 hT'
 clear hb0 e0 f0 hA h1 h1' h2 h2' hT hT' hE hs0 hp hp'
 go_enter func43,ntmps43
 cases hq:(op.toList == op'.toList) with
 | false =>
  go_wp2_with fail
  go_ret
  rw [←HE.out]
  exact ⟨false,rfl,(fun h=>by cases h),HB0.out⟩
 | true =>
  by_cases hz:z=z'
  rotate_left
  ·go_wp2_with fail
   go_ret
   rw [←HE.out]
   exact ⟨false,rfl,(fun h=>by cases h),HB0.out⟩
  subst hz
  cases hq2:(s.toList == s'.toList) with
  | false =>
   go_wp2_with fail
   go_ret
   rw [←HE.out]
   exact ⟨false,rfl,(fun h=>by cases h),HB0.out⟩
  | true =>
   go_wp2_with fail
   rw [←HE.out]
   refine HT.out.mono ?_
   rintro ev w1 ⟨b,rfl,hbe,hb1⟩
   have hs0:=HS0.out
   rw [hs0] at hb1
   have hs1:=hb1.size
   rw [hs0] at hs1
   have HBE:=Z01 hbe
   have hbw:Below w.heap.size w w1:=HB0.out.trans (hb1.mono (by omega))
   have HBW:=Z01 hbw
   cases b with
   | false =>
    clear hb1 hbw hbe
    go_wp2_with fail
    go_ret
    exact ⟨false,rfl,(fun h=>by cases h),HBW.out⟩
   | true =>
    have e1:=(hb1.block w.heap.size (by omega)).trans HE0.out
    have f1:=(hb1.block (w.heap.size+1) (by omega)).trans HF0.out
    have k4:w1.cell? ⟨w.heap.size,4,none⟩=some (.slice la el.length lc):=by rw [cell_of_row _ _ 4 _ _ _ e1];rfl
    have m4:w1.cell? ⟨w.heap.size+1,4,none⟩=some (.slice la' el'.length lc'):=by rw [cell_of_row _ _ 4 _ _ _ f1];rfl
    have kl:=Z02 k4
    have ml:=Z02 m4
    have HL:=Z01 (HA.out S S' w1 la la' lc lc' el el' (H2.out.same (Z06 hbw) (fun b h _=>h) (Z2m (Z06 hbw) (fun b h _=>h) n)) (H2'.out.same (Z06 hbw) (fun b h _=>h) (Z2m (Z06 hbw) (fun b h _=>h) n)) HK.out HK'.out)
    clear hb1 e1 f1 hbw HT hbe
    go_wp2_with fail
    refine HL.out.mono ?_
    rintro ev w2 ⟨b,rfl,hle,hb2⟩
    have HB2:=Z01 (HBW.out.trans (hb2.mono HBW.out.size))
    have HLE:=Z01 hle
    clear hb2 HL hle
    go_wp2_with fail
    go_ret
    refine ⟨b,rfl,fun h => ?_,HB2.out⟩
    rw [Z5r hq,Z5r hq2,HBE.out (by first | rfl | trivial),HLE.out h]
set_option maxHeartbeats 4000000 in
set_option maxRecDepth 100000 in
theorem Zbv (n:Nat) (hB:EqE n):EqL n:=by
 intro S S' w la ka lc kc el el' h h' hk hk'
 have hn:=hk.1
 by_cases hlen:el.length=el'.length
 ·rw [←hlen]
  have H:=Z01 h
  have H':=Z01 h'
  have HB:=Z01 hB
  have HK:=Z01 hk
  have HK':=Z01 hk'
  have HL:=Z01 hlen
  clear h h' hB hk hk' hlen
  go_enter func42,ntmps42
  go_wp2_with fail
  go_loopg [17] (el.length+1) (fun gk v17 wr => ∃ j:Nat,gk=el.length+1 - j∧j≤el.length∧v17 = .int .i64 (j:Int)∧Below w.heap.size w wr∧el.take j=el'.take j)
  case atStart=>exact ⟨0,rfl,Nat.zero_le _,rfl,Below.refl _ _,rfl⟩
  case round =>
   obtain ⟨j,hgk,hj,hv,hb,htk⟩:=hrel
   subst hv
   have HG:Hid (gk=el.length+1 - j):=hgk
   have HTK:=Z01 htk
   clear hgk htk
   have hj0:(0:Int)≤(j:Int):=by omega
   by_cases hlt:j<el.length
   ·have hI1:(j:Int)<(el.length:Int):=by omega
    obtain ⟨b1,o1,rfl,_,t1⟩:=H.out (by omega)
    obtain ⟨b2,o2,rfl,_,t2⟩:=H'.out (by have:=HL.out;omega)
    obtain ⟨e,he⟩:∃ e,el[j]?=some e:=⟨el[j],by simp [hlt]⟩
    obtain ⟨e',he'⟩:∃ e,el'[j]?=some e:=⟨el'[j]'(by have:=HL.out;omega),by simp⟩
    obtain ⟨c0,c1,c2,c3,c4,x0,x1,x2,x3,x4,hr⟩:=t1 j e he
    obtain ⟨d0,d1,d2,d3,d4,y0,y1,y2,y3,y4,hr'⟩:=t2 j e' he'
    have hr2:=hr
    have hr2':=hr'
    cases n with
    | zero=>exact hr.elim
    | succ n =>
    obtain ⟨opx,sx,zx,plx,elx,pax,lax,pcx,lcx,_,hcs,_⟩:=hr2
    obtain ⟨opy,sy,zy,ply,ely,pay,lay,pcy,lcy,_,hcs',_⟩:=hr2'
    simp only [List.cons.injEq,and_true] at hcs hcs'
    obtain ⟨rfl,rfl,rfl,rfl,rfl⟩:=hcs
    obtain ⟨rfl,rfl,rfl,rfl,rfl⟩:=hcs'
    have hl1:=Z02 x0
    have hl2:=Z02 y0
    have HX:Hid (∀ o v,w.cell? ⟨b1,o,none⟩=some v→wr.cell? ⟨b1,o,none⟩=some v):=fun o v hv=>(hb.cell (p:=⟨b1,o,none⟩) hl1).trans hv
    have HY:Hid (∀ o v,w.cell? ⟨b2,o,none⟩=some v→wr.cell? ⟨b2,o,none⟩=some v):=fun o v hv=>(hb.cell (p:=⟨b2,o,none⟩) hl2).trans hv
    have x0:=HX.out _ _ x0
    have x1:=HX.out _ _ x1
    have x2:=HX.out _ _ x2
    have x3:=HX.out _ _ x3
    have x4:=HX.out _ _ x4
    have y0:=HY.out _ _ y0
    have y1:=HY.out _ _ y1
    have y2:=HY.out _ _ y2
    have y3:=HY.out _ _ y3
    have y4:=HY.out _ _ y4
    have hk1:=Z02 x0
    have hk2:=Z02 y0
    have hsz:=hb.size
    have HC:=Z01 (fun W (hW:Below w.heap.size w W)=>HB.out S S' W _ _ _ _ _ _ _ _ _ _ e e' (Z2m (Z06 hW) (fun b h _=>h) _ _ _ hr) (Z2m (Z06 hW) (fun b h _=>h) _ _ _ hr') (HK.out.2 e (List.mem_of_getElem? he)) (HK'.out.2 e' (List.mem_of_getElem? he')))
    have HT:=Z01 (fun x=>Zd6 HTK.out he he' x)
    clear t1 t2 H H' he he' hr hr'
    go_wp2_with fail
    refine (HC.out _ (by first | exact hb | exact hb.alloc hsz _ | exact (hb.alloc hsz _).alloc (by simp;omega) _)).mono ?_
    rintro ev w1 ⟨b,rfl,hbe,hb1⟩
    have HW1:Hid (Below w.heap.size w w1):=by first | exact ((hb.alloc hsz _).alloc (by simp;omega) _).trans (hb1.mono (by simp;omega)) | exact (hb.alloc hsz _).trans (hb1.mono (by simp;omega)) | exact hb.trans (hb1.mono hsz)
    have HBE:=Z01 hbe
    clear hb1 hbe
    cases b with
    | false =>
     go_wp2_with fail
     go_ret
     exact ⟨false,rfl,(fun h=>by cases h),HW1.out⟩
    | true =>
     go_wp2_with fail
     go_roundg (el.length+1 - (j+1))
     case measure=>have:=HG.out;omega
     case rel=>exact ⟨j+1,rfl,by omega,by go_num,HW1.out,HT.out (HBE.out (by first | rfl | trivial))⟩
   ·have hje:j=el.length:=by omega
    have HZ:=Z01 (Z9j HTK.out hje HL.out)
    clear hje
    go_wp2_with fail
    go_ret
    exact ⟨true,rfl,fun _=>HZ.out,hb⟩
 ·have hI:¬ ((el.length:Int)=(el'.length:Int)):=by omega
  have hn':=hk'.1
  clear h h' hB hk hk' hlen
  go_enter func42,ntmps42
  go_wp2
  go_ret
  exact ⟨false,rfl,(fun h=>by cases h),Below.refl _ _⟩
theorem Zkd:∀ n,EqE n∧EqL n
 | 0=>⟨fun _ _ _ _ _ _ _ _ _ _ _ _ _ _ _ h _ _ _=>h.elim,Zbv 0 (fun _ _ _ _ _ _ _ _ _ _ _ _ _ _ _ h _ _ _=>h.elim)⟩
 | n+1=>⟨Zan n (Zkd n).2,Zbv (n+1) (Zan n (Zkd n).2)⟩
theorem Zje {S S':Nat→Prop}{w:World}{la ka:Option Addr}{lc kc:Nat}{el el':List (DataW Unit)} (h:Z9i S w la el) (h':Z9i S' w ka el') (hk:BTL el) (hk':BTL el'):Calls prog 42 #[.slice la el.length lc,.slice ka el'.length kc,.func (.func 43) #[] #[]] w fun ev w' => ∃ b,ev = .returned (.bool b)∧(b=true→el=el')∧Below w.heap.size w w':=by
 obtain ⟨n,hn⟩:=Z9m.bound h
 obtain ⟨m,hm⟩:=Z9m.bound h'
 exact (Zkd (max n m)).2 S S' w la ka lc kc el el' (hn.imp (fun cs d=>Z94 n _ cs d (by omega))) (hm.imp (fun cs d=>Z94 m _ cs d (by omega))) hk hk'
end Go.Proofs.YtflcohidmemfpaaGreatDoor
namespace Go.Proofs.YtflcohidmemfpaaGreatDoor
open Go.Proofs.Tryz
open Go.RowKit

def EqSt (n:Nat):Prop:=∀ (S S':Nat→Prop) (w:World) (c0 c1 c2 c3 c4 c5 d0 d1 d2 d3 d4 d5:Value) (e e':DataW Unit),Z6p S w n [c0,c1,c2,c3,c4,c5] e→Z6p S' w n [d0,d1,d2,d3,d4,d5] e'→BS e→BS e'→Calls prog 27 #[.agg #[c0,c1,c2,c3,c4,c5],.agg #[d0,d1,d2,d3,d4,d5]] w fun ev w' => ∃ b,ev = .returned (.bool b)∧(b=true→e=e')∧Below w.heap.size w w'
def EqSL (n:Nat):Prop:=∀ (S S':Nat→Prop) (w:World) (la ka:Option Addr) (lc kc:Nat) (el el':List (DataW Unit)),Z5y S w (Z6p S w n) la el→Z5y S' w (Z6p S' w n) ka el'→BSL el→BSL el'→Calls prog 26 #[.slice la el.length lc,.slice ka el'.length kc,.func (.func 27) #[] #[]] w fun ev w' => ∃ b,ev = .returned (.bool b)∧(b=true→el=el')∧Below w.heap.size w w'
theorem Zgk {kd nm:ByteArray}{pl:List ByteArray}{el bd es:List (DataW Unit)} (hk:BS (mkS kd nm pl el bd es)):pl.length≤8796093022208∧BTL el∧BSL bd∧BSL es:=by
 obtain ⟨m,hm⟩:=hk
 cases m with
 | zero=>exact hm.elim
 | succ m =>
  obtain ⟨_,_,_,_,_,_,hd2,q1,q2,q3,q4,q5,q6⟩:=hm
  obtain ⟨rfl,rfl,rfl,rfl,rfl,rfl⟩:=Z72 hd2
  exact ⟨q1,q2,⟨q3,fun e he=>⟨m,q5 e he⟩⟩,q4,fun e he=>⟨m,q6 e he⟩⟩
set_option maxHeartbeats 8000000 in
set_option maxRecDepth 100000 in
theorem Zaf (n:Nat) (hA:EqSL n):EqSt (n+1):=by
 intro S S' w c0 c1 c2 c3 c4 c5 d0 d1 d2 d3 d4 d5 e e' h h' hk hk'
 obtain ⟨kd,nm,pl,el,bd,es,pa,la,ba,ea,pc,lc,bc,ec,rfl,hcs,h1,h2,h3,h4⟩:=h
 obtain ⟨kd',nm',pl',el',bd',es',pa',la',ba',ea',pc',lc',bc',ec',rfl,hcs',h1',h2',h3',h4'⟩:=h'
 simp only [List.cons.injEq,and_true] at hcs hcs'
 obtain ⟨rfl,rfl,rfl,rfl,rfl,rfl⟩:=hcs
 obtain ⟨rfl,rfl,rfl,rfl,rfl,rfl⟩:=hcs'
 obtain ⟨hp,hT,hB,hC⟩:=Zgk hk
 obtain ⟨hp',hT',hB',hC'⟩:=Zgk hk'
 clear hk hk'
 obtain ⟨wE,hE⟩:∃ wE,wE=(w.alloc (.cells #[.string kd,.string nm,.slice pa pl.length pc,.slice la el.length lc,.slice ba bd.length bc,.slice ea es.length ec] 52)).alloc (.cells #[.string kd',.string nm',.slice pa' pl'.length pc',.slice la' el'.length lc',.slice ba' bd'.length bc',.slice ea' es'.length ec'] 52):=⟨_,rfl⟩
 have hb0:Below w.heap.size w wE:=by rw [hE];exact ((Below.refl _ _).alloc (Nat.le_refl _) _).alloc (by simp) _
 have hs0:wE.heap.size=w.heap.size+2:=by rw [hE];simp
 have e0:wE.heap[w.heap.size]?=some (.cells #[.string kd,.string nm,.slice pa pl.length pc,.slice la el.length lc,.slice ba bd.length bc,.slice ea es.length ec] 52):=by rw [hE];exact (Below.heap_alloc _ _ _ (by simp)).trans (heap_alloc_new w _)
 have f0:wE.heap[w.heap.size+1]?=some (.cells #[.string kd',.string nm',.slice pa' pl'.length pc',.slice la' el'.length lc',.slice ba' bd'.length bc',.slice ea' es'.length ec'] 52):=by
  rw [hE]
  have h:=heap_alloc_new (w.alloc (.cells #[.string kd,.string nm,.slice pa pl.length pc,.slice la el.length lc,.slice ba bd.length bc,.slice ea es.length ec] 52)) (.cells #[.string kd',.string nm',.slice pa' pl'.length pc',.slice la' el'.length lc',.slice ba' bd'.length bc',.slice ea' es'.length ec'] 52)
  simpa using h
 have HT:=Z01 (Zhl (S:=S) (S':=S') pl pl' pa pa' pc pc' hp hp' wE (h1.same (Z06 hb0) (fun b h _=>h)) (h1'.same (Z06 hb0) (fun b h _=>h)))
 /- the cells of the two,later on -/
 have HCE:Hid (∀ W,Below wE.heap.size wE W→W.cell? ⟨w.heap.size,3,none⟩=some (.slice la el.length lc)∧W.cell? ⟨w.heap.size+1,3,none⟩=some (.slice la' el'.length lc')∧W.cell? ⟨w.heap.size,4,none⟩=some (.slice ba bd.length bc)∧W.cell? ⟨w.heap.size+1,4,none⟩=some (.slice ba' bd'.length bc')∧W.cell? ⟨w.heap.size,5,none⟩=some (.slice ea es.length ec)∧W.cell? ⟨w.heap.size+1,5,none⟩=some (.slice ea' es'.length ec')):=fun W hW=>by
  have e1:=(hW.block w.heap.size (by omega)).trans e0
  have f1:=(hW.block (w.heap.size+1) (by omega)).trans f0
  refine ⟨?_,?_,?_,?_,?_,?_⟩
  ·rw [cell_of_row _ _ 3 _ _ _ e1];rfl
  ·rw [cell_of_row _ _ 3 _ _ _ f1];rfl
  ·rw [cell_of_row _ _ 4 _ _ _ e1];rfl
  ·rw [cell_of_row _ _ 4 _ _ _ f1];rfl
  ·rw [cell_of_row _ _ 5 _ _ _ e1];rfl
  ·rw [cell_of_row _ _ 5 _ _ _ f1];rfl
 have HQ1:=Z01 (fun W (hW:Below w.heap.size w W)=>Zje (lc:=lc) (kc:=lc') (h2.same (Z06 hW) (fun b h _=>h)) (h2'.same (Z06 hW) (fun b h _=>h)) hT hT')
 have HQ2:=Z01 (fun W (hW:Below w.heap.size w W)=>hA S S' W ba ba' bc bc' bd bd' (h3.same (Z06 hW) (fun b h _=>h) (Z28 (Z06 hW) (fun b h _=>h) n)) (h3'.same (Z06 hW) (fun b h _=>h) (Z28 (Z06 hW) (fun b h _=>h) n)) hB hB')
 have HQ3:=Z01 (fun W (hW:Below w.heap.size w W)=>hA S S' W ea ea' ec ec' es es' (h4.same (Z06 hW) (fun b h _=>h) (Z28 (Z06 hW) (fun b h _=>h) n)) (h4'.same (Z06 hW) (fun b h _=>h) (Z28 (Z06 hW) (fun b h _=>h) n)) hC hC')
 have HB0:=Z01 hb0
 have HE:=Z01 hE
 have HS0:=Z01 hs0
 clear hb0 e0 f0 hA h1 h1' h2 h2' h3 h3' h4 h4' hT hT' hB hB' hC hC' hE hs0 hp hp'
 go_enter func27,ntmps27
 cases hq:(kd.toList == kd'.toList) with
 | false =>
  go_wp2_with fail
  go_ret
  rw [←HE.out]
  exact ⟨false,rfl,(fun h=>by cases h),HB0.out⟩
 | true =>
  cases hq2:(nm.toList == nm'.toList) with
  | false =>
   go_wp2_with fail
   go_ret
   rw [←HE.out]
   exact ⟨false,rfl,(fun h=>by cases h),HB0.out⟩
  | true =>
   go_wp2_with fail
   rw [←HE.out]
   refine HT.out.mono ?_
   rintro ev w1 ⟨b,rfl,hbe,hb1⟩
   obtain ⟨k3,m3,_,_,_,_⟩:=HCE.out w1 hb1
   have HU1:=Z01 hb1
   have HW1:Hid (Below w.heap.size w w1):=HB0.out.trans (hb1.mono HB0.out.size)
   have HBE:=Z01 hbe
   clear hb1 hbe HT
   cases b with
   | false =>
    go_wp2_with fail
    go_ret
    exact ⟨false,rfl,(fun h=>by cases h),HW1.out⟩
   | true =>
    have kl:=Z02 k3
    have ml:=Z02 m3
    go_wp2_with fail
    refine (HQ1.out _ HW1.out).mono ?_
    rintro ev w2 ⟨b,rfl,hbe,hb2⟩
    have HU2:=Z01 (HU1.out.trans (hb2.mono HU1.out.size))
    have HW2:=Z01 (HW1.out.trans (hb2.mono HW1.out.size))
    obtain ⟨_,_,k4,m4,_,_⟩:=HCE.out w2 HU2.out
    have HLE:=Z01 hbe
    clear hb2 hbe k3 m3 kl ml
    cases b with
    | false =>
     go_wp2_with fail
     go_ret
     exact ⟨false,rfl,(fun h=>by cases h),HW2.out⟩
    | true =>
     have kl:=Z02 k4
     have ml:=Z02 m4
     go_wp2_with fail
     refine (HQ2.out _ HW2.out).mono ?_
     rintro ev w3 ⟨b,rfl,hbe,hb3⟩
     have HU3:=Z01 (HU2.out.trans (hb3.mono HU2.out.size))
     have HW3:=Z01 (HW2.out.trans (hb3.mono HW2.out.size))
     obtain ⟨_,_,_,_,k5,m5⟩:=HCE.out w3 HU3.out
     have HME:=Z01 hbe
     clear hb3 hbe k4 m4 kl ml
     cases b with
     | false =>
      go_wp2_with fail
      go_ret
      exact ⟨false,rfl,(fun h=>by cases h),HW3.out⟩
     | true =>
      have kl:=Z02 k5
      have ml:=Z02 m5
      go_wp2_with fail
      refine (HQ3.out _ HW3.out).mono ?_
      rintro ev w4 ⟨b,rfl,hbe,hb4⟩
      have HW4:=Z01 (HW3.out.trans (hb4.mono HW3.out.size))
      have HNE:=Z01 hbe
      clear hb4 hbe k5 m5 kl ml
      go_wp2_with fail
      go_ret
      refine ⟨b,rfl,fun h => ?_,HW4.out⟩
      rw [Z5r hq,Z5r hq2,HBE.out (by first | rfl | trivial),HLE.out (by first | rfl | trivial),HME.out (by first | rfl | trivial),HNE.out h]
set_option maxHeartbeats 8000000 in
set_option maxRecDepth 100000 in
theorem Zbx (n:Nat) (hB:EqSt n):EqSL n:=by
 intro S S' w la ka lc kc el el' h h' hk hk'
 have hn:=hk.1
 by_cases hlen:el.length=el'.length
 ·rw [←hlen]
  have H:=Z01 h
  have H':=Z01 h'
  have HB:=Z01 hB
  have HK:=Z01 hk
  have HK':=Z01 hk'
  have HL:=Z01 hlen
  clear h h' hB hk hk' hlen
  go_enter func26,ntmps26
  go_wp2_with fail
  go_loopg [17] (el.length+1) (fun gk v17 wr => ∃ j:Nat,gk=el.length+1 - j∧j≤el.length∧v17 = .int .i64 (j:Int)∧Below w.heap.size w wr∧el.take j=el'.take j)
  case atStart=>exact ⟨0,rfl,Nat.zero_le _,rfl,Below.refl _ _,rfl⟩
  case round =>
   obtain ⟨j,hgk,hj,hv,hb,htk⟩:=hrel
   subst hv
   have HG:Hid (gk=el.length+1 - j):=hgk
   have HTK:=Z01 htk
   clear hgk htk
   have hj0:(0:Int)≤(j:Int):=by omega
   by_cases hlt:j<el.length
   ·have hI1:(j:Int)<(el.length:Int):=by omega
    obtain ⟨b1,o1,rfl,_,t1⟩:=H.out (by omega)
    obtain ⟨b2,o2,rfl,_,t2⟩:=H'.out (by have:=HL.out;omega)
    obtain ⟨e,he⟩:∃ e,el[j]?=some e:=⟨el[j],by simp [hlt]⟩
    obtain ⟨e',he'⟩:∃ e,el'[j]?=some e:=⟨el'[j]'(by have:=HL.out;omega),by simp⟩
    obtain ⟨c0,c1,c2,c3,c4,c5,x0,x1,x2,x3,x4,x5,hr⟩:=t1 j e he
    obtain ⟨d0,d1,d2,d3,d4,d5,y0,y1,y2,y3,y4,y5,hr'⟩:=t2 j e' he'
    have hr2:=hr
    have hr2':=hr'
    cases n with
    | zero=>exact hr.elim
    | succ n =>
    obtain ⟨kdx,nmx,plx,elx,bdx,esx,pax,lax,bax,eax,pcx,lcx,bcx,ecx,_,hcs,_⟩:=hr2
    obtain ⟨kdy,nmy,ply,ely,bdy,esy,pay,lay,bay,eay,pcy,lcy,bcy,ecy,_,hcs',_⟩:=hr2'
    simp only [List.cons.injEq,and_true] at hcs hcs'
    obtain ⟨rfl,rfl,rfl,rfl,rfl,rfl⟩:=hcs
    obtain ⟨rfl,rfl,rfl,rfl,rfl,rfl⟩:=hcs'
    have hl1:=Z02 x0
    have hl2:=Z02 y0
    have HX:Hid (∀ o v,w.cell? ⟨b1,o,none⟩=some v→wr.cell? ⟨b1,o,none⟩=some v):=fun o v hv=>(hb.cell (p:=⟨b1,o,none⟩) hl1).trans hv
    have HY:Hid (∀ o v,w.cell? ⟨b2,o,none⟩=some v→wr.cell? ⟨b2,o,none⟩=some v):=fun o v hv=>(hb.cell (p:=⟨b2,o,none⟩) hl2).trans hv
    have x0:=HX.out _ _ x0
    have x1:=HX.out _ _ x1
    have x2:=HX.out _ _ x2
    have x3:=HX.out _ _ x3
    have x4:=HX.out _ _ x4
    have x5:=HX.out _ _ x5
    have y0:=HY.out _ _ y0
    have y1:=HY.out _ _ y1
    have y2:=HY.out _ _ y2
    have y3:=HY.out _ _ y3
    have y4:=HY.out _ _ y4
    have y5:=HY.out _ _ y5
    have hk1:=Z02 x0
    have hk2:=Z02 y0
    have hsz:=hb.size
    have HC:=Z01 (fun W (hW:Below w.heap.size w W)=>HB.out S S' W _ _ _ _ _ _ _ _ _ _ _ _ e e' (Z28 (Z06 hW) (fun b h _=>h) _ _ _ hr) (Z28 (Z06 hW) (fun b h _=>h) _ _ _ hr') (HK.out.2 e (List.mem_of_getElem? he)) (HK'.out.2 e' (List.mem_of_getElem? he')))
    have HT:=Z01 (fun x=>Zd6 HTK.out he he' x)
    clear t1 t2 H H' he he' hr hr'
    go_wp2_with fail
    refine (HC.out _ (by first | exact hb | exact hb.alloc hsz _ | exact (hb.alloc hsz _).alloc (by simp;omega) _)).mono ?_
    rintro ev w1 ⟨b,rfl,hbe,hb1⟩
    have HW1:Hid (Below w.heap.size w w1):=by first | exact ((hb.alloc hsz _).alloc (by simp;omega) _).trans (hb1.mono (by simp;omega)) | exact (hb.alloc hsz _).trans (hb1.mono (by simp;omega)) | exact hb.trans (hb1.mono hsz)
    have HBE:=Z01 hbe
    clear hb1 hbe
    cases b with
    | false =>
     go_wp2_with fail
     go_ret
     exact ⟨false,rfl,(fun h=>by cases h),HW1.out⟩
    | true =>
     go_wp2_with fail
     go_roundg (el.length+1 - (j+1))
     case measure=>have:=HG.out;omega
     case rel=>exact ⟨j+1,rfl,by omega,by go_num,HW1.out,HT.out (HBE.out (by first | rfl | trivial))⟩
   ·have hje:j=el.length:=by omega
    have HZ:=Z01 (Z9j HTK.out hje HL.out)
    clear hje
    go_wp2_with fail
    go_ret
    exact ⟨true,rfl,fun _=>HZ.out,hb⟩
 ·have hI:¬ ((el.length:Int)=(el'.length:Int)):=by omega
  have hn':=hk'.1
  clear h h' hB hk hk' hlen
  go_enter func26,ntmps26
  go_wp2
  go_ret
  exact ⟨false,rfl,(fun h=>by cases h),Below.refl _ _⟩
theorem Zj2:∀ n,EqSt n∧EqSL n
 | 0=>⟨fun _ _ _ _ _ _ _ _ _ _ _ _ _ _ _ _ _ h _ _ _=>h.elim,Zbx 0 (fun _ _ _ _ _ _ _ _ _ _ _ _ _ _ _ _ _ h _ _ _=>h.elim)⟩
 | n+1=>⟨Zaf n (Zj2 n).2,Zbx (n+1) (Zaf n (Zj2 n).2)⟩
theorem Zil {S S':Nat→Prop}{w:World}{la ka:Option Addr}{lc kc:Nat}{el el':List (DataW Unit)} (h:Z31 S w la el) (h':Z31 S' w ka el') (hk:BSL el) (hk':BSL el'):Calls prog 26 #[.slice la el.length lc,.slice ka el'.length kc,.func (.func 27) #[] #[]] w fun ev w' => ∃ b,ev = .returned (.bool b)∧(b=true→el=el')∧Below w.heap.size w w':=by
 obtain ⟨n,hn⟩:=Z7y h
 obtain ⟨m,hm⟩:=Z7y h'
 exact (Zj2 (max n m)).2 S S' w la ka lc kc el el' (Z5y.imp hn (fun cs d=>Z62 n _ cs d (by omega))) (Z5y.imp hm (fun cs d=>Z62 m _ cs d (by omega))) hk hk'
end Go.Proofs.YtflcohidmemfpaaGreatDoor
