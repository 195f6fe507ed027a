/- The law's own helpers: rows of the law's terms. -/
import Derived.Test.YtflcohidmemfpaaGreatDoorCopyB
import Derived.Deep.Upon
import Derived.Deep.RegionLawGrows
set_option linter.all false
namespace Go.Proofs.YtflcohidmemfpaaGreatDoor
open Go.Proofs.Tryz
open Go.RowKit

theorem Z6n {P:Program}{ops:Array Oper}{o:Oper}{a:Act}{w:World}{K:Act→World→Prop}{Q:Exit→Act→World→Prop}{E:Prop}
  (hg:o.guard=none) (s x:Operand) (t:TypeId) (hop:o.op=Op.call { callee:=Callee.builtin Builtin.append,args:=#[s,x],argTypes:=#[t,t] })
  (e:TypeId) (i:TypeInfo) (h1:P.underlying t=some (.slice e)) (h2:P.info? e=some i) (hs:a.eval s = .slice none 0 0) (xa:Option Addr) (c:Nat) (hx:a.eval x = .slice xa 0 c)
  (hK:K (a.put o.dst (.slice none 0 0)) w):if Region.wanted o (yielded ops a.tmps)=true then Oper.wp P o a w K Q else E:=by
 have hw:Region.wanted o (yielded ops a.tmps)=true:=by simp [Region.wanted,hg]
 rw [if_pos hw]
 have hr:(Builtin.append_ #[t,t] o.type #[.slice none 0 0,.slice xa 0 c]).run P w = .ok (.slice none 0 0) w:=by
  cases xa <;> simp [Builtin.append_,run_underlying h1,sizeOf,typeInfo,h2,go_sem]
 unfold Oper.wp
 simp [execOp,hop,resolve,invoke,builtin,hs,hx,hr,Result.andThen]
 exact hK
def Z90 (S:Nat→Prop) (w:World) (cs:List Value) (es:List (DataW Unit)):Prop:=
 cs.length=es.length*5 ∧ ∀ (i:Nat) (e:DataW Unit),es[i]?=some e → ∃ c0 c1 c2 c3 c4,cs[i*5]?=some c0∧cs[i*5+1]?=some c1∧cs[i*5+2]?=some c2∧cs[i*5+3]?=some c3∧cs[i*5+4]?=some c4∧Zz4 S w [c0,c1,c2,c3,c4] e
theorem Z90.nil (S:Nat→Prop) (w:World):Z90 S w [] []:=⟨rfl,fun i e h=>by simp at h⟩
theorem Z90.same {S S':Nat→Prop}{w w':World}{cs:List Value}{es:List (DataW Unit)} (h:Z90 S w cs es) (K:Z5i S w w') (hS:∀ b,S b→b<w.heap.size→S' b):Z90 S' w' cs es:=
 ⟨h.1,fun i e hi=>by
  obtain ⟨c0,c1,c2,c3,c4,h0,h1,h2,h3,h4,hr⟩:=h.2 i e hi
  exact ⟨c0,c1,c2,c3,c4,h0,h1,h2,h3,h4,hr.same K hS⟩⟩
theorem Z90.snoc {S:Nat→Prop}{w:World}{cs:List Value}{es:List (DataW Unit)}{c0 c1 c2 c3 c4:Value}{e:DataW Unit} (h:Z90 S w cs es) (he:Zz4 S w [c0,c1,c2,c3,c4] e):Z90 S w (cs ++ [c0,c1,c2,c3,c4]) (es ++ [e]):=by
 refine ⟨by simp [h.1];omega,fun i x hi => ?_⟩
 have hlen:=h.1
 rcases Nat.lt_or_ge i es.length with hl | hl
 ·rw [List.getElem?_append_left hl] at hi
  obtain ⟨d0,d1,d2,d3,d4,h0,h1,h2,h3,h4,hr⟩:=h.2 i x hi
  refine ⟨d0,d1,d2,d3,d4,?_,?_,?_,?_,?_,hr⟩ <;> rw [List.getElem?_append_left (by omega)] <;> assumption
 ·have hie:i=es.length:=by
   rcases Nat.lt_or_ge es.length i with h1 | h1
   ·rw [List.getElem?_eq_none (by simp;omega)] at hi
    cases hi
   ·omega
  subst hie
  simp at hi
  subst hi
  refine ⟨c0,c1,c2,c3,c4,?_,?_,?_,?_,?_,he⟩
  ·rw [List.getElem?_append_right (by omega),show es.length*5 - cs.length=0 by omega];rfl
  ·rw [List.getElem?_append_right (by omega),show es.length*5+1 - cs.length=1 by omega];rfl
  ·rw [List.getElem?_append_right (by omega),show es.length*5+2 - cs.length=2 by omega];rfl
  ·rw [List.getElem?_append_right (by omega),show es.length*5+3 - cs.length=3 by omega];rfl
  ·rw [List.getElem?_append_right (by omega),show es.length*5+4 - cs.length=4 by omega];rfl
end Go.Proofs.YtflcohidmemfpaaGreatDoor
namespace Go.Proofs.YtflcohidmemfpaaGreatDoor
open Go.Proofs.Tryz
open Go.RowKit

structure BkC (w0:World) (es:List (DataW Unit)) (v:Value) (w:World):Prop where
 l:∃ cs,w.ownsRow w0.heap.size 42 5 v es.length cs∧Z90 (fun b=>w0.heap.size≤b∧v.ownBlock≠some b) w cs es
 bl:Below w0.heap.size w0 w
theorem BkC.go {w0 w w':World}{es:List (DataW Unit)}{v:Value} (C:BkC w0 es v w) (hb:Below w.heap.size w w'):BkC w0 es v w':=by
 obtain ⟨cs,h2,h3⟩:=C.l
 exact ⟨⟨cs,Z0j h2 (fun k hk=>hb.block k (own_lt h2 k hk)),h3.same (Z06 hb) (fun b hb _=>hb)⟩,C.bl.trans (hb.mono C.bl.size)⟩
def EF (w0:World) (op:ByteArray) (z:Int) (s:ByteArray) (P:Value) (el:List (DataW Unit)) (eb:Nat) (la:Option Addr) (lc:Nat) (w:World):Prop:=
 w0.heap.size≤eb∧w.heap[eb]?=some (.cells #[.string op,.int .i64 z,.string s,P,.slice la el.length lc] 42)∧Z9i (fun b=>w0.heap.size≤b∧b≠eb) w la el∧Below w0.heap.size w0 w
abbrev Zms (w:World) (b:Nat) (v0 v1 v2 v3 v4:Value):World:=((((w.setCell ⟨b,0,none⟩ v0).setCell ⟨b,1,none⟩ v1).setCell ⟨b,2,none⟩ v2).setCell ⟨b,3,none⟩ v3).setCell ⟨b,4,none⟩ v4
theorem Zk0 {w:World}{b t:Nat}{u0 u1 u2 u3 u4:Value}{fr:Nat × Nat} (h:w.heap[b]?=some (.cells #[u0,u1,u2,u3,u4] t fr)) (v0 v1 v2 v3 v4:Value):(Zms w b v0 v1 v2 v3 v4).heap[b]?=some (.cells #[v0,v1,v2,v3,v4] t fr):=by
 unfold Zms
 rw [Z0a (Z0a (Z0a (Z0a (Z0a h))))]
 rfl
theorem Zju {w:World}{b k:Nat} (h:k≠b) (v0 v1 v2 v3 v4:Value):(Zms w b v0 v1 v2 v3 v4).heap[k]?=w.heap[k]?:=by
 unfold Zms
 rw [Z07 _ _ _ _ _ h,Z07 _ _ _ _ _ h,Z07 _ _ _ _ _ h,Z07 _ _ _ _ _ h,Z07 _ _ _ _ _ h]
theorem Zjj {B b:Nat}{a w:World} (h:Below B a w) (hb:B≤b) (v0 v1 v2 v3 v4:Value):Below B a (Zms w b v0 v1 v2 v3 v4):=
 ((((h.setCell hb _).setCell hb _).setCell hb _).setCell hb _).setCell hb _
theorem EF.drew {w0 w:World}{op s:ByteArray}{z:Int}{P:Value}{el:List (DataW Unit)}{eb:Nat}{la:Option Addr}{lc:Nat} (h:EF w0 op z s P el eb la lc w):EF w0 op z s P el eb la lc w.drew:=
 ⟨h.1,h.2.1,h.2.2.1.same (fun _ _ _=>rfl) (fun _ h _=>h),h.2.2.2.drew⟩
theorem Zj4 {w:World}{b o:Nat}{pl:List ByteArray} (h:TS w b o pl):∀ j u,(pl.map Value.string)[j]?=some u→w.cell? ((⟨b,o,none⟩:Addr).add j)=some u:=fun j u hj=>by
 rw [List.getElem?_map] at hj
 obtain ⟨t,ht,rfl⟩:=Option.map_eq_some_iff.1 hj
 have hadd:(⟨b,o,none⟩:Addr).add j=⟨b,o+j,none⟩:=by unfold Addr.add;split <;> simp_all
 rw [hadd]
 exact h j t ht
theorem Zl6 {w:World}{b o:Nat}{pl:List ByteArray} (h:TS w b o pl):∀ j u,(pl.map Value.string)[j]?=some u→w.drew.cell? ((⟨b,o,none⟩:Addr).add j)=some u:=Zj4 h
theorem Zkw (pl:List ByteArray):∀ u∈pl.map Value.string,u.oneCell'=true:=fun u hu=>by
 obtain ⟨t,_,rfl⟩:=List.mem_map.1 hu
 rfl
end Go.Proofs.YtflcohidmemfpaaGreatDoor
namespace Go.Proofs.YtflcohidmemfpaaGreatDoor
open Go.Proofs.Tryz
open Go.RowKit

def Zag (S:Nat→Prop) (w:World) (cs:List Value) (ss:List (DataW Unit)):Prop:=
 cs.length=ss.length*6 ∧ ∀ (i:Nat) (e:DataW Unit),ss[i]?=some e → ∃ c0 c1 c2 c3 c4 c5,cs[i*6]?=some c0∧cs[i*6+1]?=some c1∧cs[i*6+2]?=some c2∧cs[i*6+3]?=some c3∧cs[i*6+4]?=some c4∧cs[i*6+5]?=some c5∧Zny S w [c0,c1,c2,c3,c4,c5] e
theorem Zag.nil (S:Nat→Prop) (w:World):Zag S w [] []:=⟨rfl,fun i e h=>by simp at h⟩
theorem Zag.same {S S':Nat→Prop}{w w':World}{cs:List Value}{es:List (DataW Unit)} (h:Zag S w cs es) (K:Z5i S w w') (hS:∀ b,S b→b<w.heap.size→S' b):Zag S' w' cs es:=
 ⟨h.1,fun i e hi=>by
  obtain ⟨c0,c1,c2,c3,c4,c5,h0,h1,h2,h3,h4,h5,hr⟩:=h.2 i e hi
  exact ⟨c0,c1,c2,c3,c4,c5,h0,h1,h2,h3,h4,h5,hr.same K hS⟩⟩
theorem Zag.snoc {S:Nat→Prop}{w:World}{cs:List Value}{es:List (DataW Unit)}{c0 c1 c2 c3 c4 c5:Value}{e:DataW Unit} (h:Zag S w cs es) (he:Zny S w [c0,c1,c2,c3,c4,c5] e):Zag S w (cs ++ [c0,c1,c2,c3,c4,c5]) (es ++ [e]):=by
 refine ⟨by simp [h.1];omega,fun i x hi => ?_⟩
 have hlen:=h.1
 rcases Nat.lt_or_ge i es.length with hl | hl
 ·rw [List.getElem?_append_left hl] at hi
  obtain ⟨d0,d1,d2,d3,d4,d5,h0,h1,h2,h3,h4,h5,hr⟩:=h.2 i x hi
  refine ⟨d0,d1,d2,d3,d4,d5,?_,?_,?_,?_,?_,?_,hr⟩ <;> rw [List.getElem?_append_left (by omega)] <;> assumption
 ·have hie:i=es.length:=by
   rcases Nat.lt_or_ge es.length i with h1 | h1
   ·rw [List.getElem?_eq_none (by simp;omega)] at hi
    cases hi
   ·omega
  subst hie
  simp at hi
  subst hi
  refine ⟨c0,c1,c2,c3,c4,c5,?_,?_,?_,?_,?_,?_,he⟩
  ·rw [List.getElem?_append_right (by omega),show es.length*6 - cs.length=0 by omega];rfl
  ·rw [List.getElem?_append_right (by omega),show es.length*6+1 - cs.length=1 by omega];rfl
  ·rw [List.getElem?_append_right (by omega),show es.length*6+2 - cs.length=2 by omega];rfl
  ·rw [List.getElem?_append_right (by omega),show es.length*6+3 - cs.length=3 by omega];rfl
  ·rw [List.getElem?_append_right (by omega),show es.length*6+4 - cs.length=4 by omega];rfl
  ·rw [List.getElem?_append_right (by omega),show es.length*6+5 - cs.length=5 by omega];rfl
def SF (w0:World) (kd nm:ByteArray) (P:Value) (el bd es:List (DataW Unit)) (eb:Nat) (la ba ea:Option Addr) (lc bc ec:Nat) (w:World):Prop:=
 w0.heap.size≤eb∧w.heap[eb]?=some (.cells #[.string kd,.string nm,P,.slice la el.length lc,.slice ba bd.length bc,.slice ea es.length ec] 39)∧(Z9i (fun b=>w0.heap.size≤b∧b≠eb) w la el∧Z31 (fun b=>w0.heap.size≤b∧b≠eb) w ba bd∧Z31 (fun b=>w0.heap.size≤b∧b≠eb) w ea es)∧Below w0.heap.size w0 w
abbrev Znf (w:World) (b:Nat) (v0 v1 v2 v3 v4 v5:Value):World:=(((((w.setCell ⟨b,0,none⟩ v0).setCell ⟨b,1,none⟩ v1).setCell ⟨b,2,none⟩ v2).setCell ⟨b,3,none⟩ v3).setCell ⟨b,4,none⟩ v4).setCell ⟨b,5,none⟩ v5
theorem Zjg {w:World}{b t:Nat}{u0 u1 u2 u3 u4 u5:Value}{fr:Nat × Nat} (h:w.heap[b]?=some (.cells #[u0,u1,u2,u3,u4,u5] t fr)) (v0 v1 v2 v3 v4 v5:Value):(Znf w b v0 v1 v2 v3 v4 v5).heap[b]?=some (.cells #[v0,v1,v2,v3,v4,v5] t fr):=by
 unfold Znf
 rw [Z0a (Z0a (Z0a (Z0a (Z0a (Z0a h)))))]
 rfl
theorem Z81 {w:World}{b k:Nat} (h:k≠b) (v0 v1 v2 v3 v4 v5:Value):(Znf w b v0 v1 v2 v3 v4 v5).heap[k]?=w.heap[k]?:=by
 unfold Znf
 rw [Z07 _ _ _ _ _ h,Z07 _ _ _ _ _ h,Z07 _ _ _ _ _ h,Z07 _ _ _ _ _ h,Z07 _ _ _ _ _ h,Z07 _ _ _ _ _ h]
theorem Zjm {B b:Nat}{a w:World} (h:Below B a w) (hb:B≤b) (v0 v1 v2 v3 v4 v5:Value):Below B a (Znf w b v0 v1 v2 v3 v4 v5):=
 (((((h.setCell hb _).setCell hb _).setCell hb _).setCell hb _).setCell hb _).setCell hb _
theorem SF.drew {w0 w:World}{kd nm:ByteArray}{P:Value}{el bd es:List (DataW Unit)}{eb:Nat}{la ba ea:Option Addr}{lc bc ec:Nat} (h:SF w0 kd nm P el bd es eb la ba ea lc bc ec w):SF w0 kd nm P el bd es eb la ba ea lc bc ec w.drew:=
 ⟨h.1,h.2.1,⟨h.2.2.1.1.same (fun _ _ _=>rfl) (fun _ h _=>h),h.2.2.1.2.1.same (fun _ _ _=>rfl) (fun _ h _=>h),h.2.2.1.2.2.same (fun _ _ _=>rfl) (fun _ h _=>h)⟩,h.2.2.2.drew⟩
theorem Z62 {S:Nat→Prop}{w:World} : ∀ (n m:Nat) (cs:List Value) (d:DataW Unit),n≤m→Z6p S w n cs d→Z6p S w m cs d
 | 0,_,_,_,_,h=>h.elim
 | n+1,0,_,_,hle,_=>by omega
 | n+1,m+1,cs,d,hle,h=>by
  obtain ⟨kd,nm,pl,el,bd,es,pa,la,ba,ea,pc,lc,bc,ec,hd,hcs,h1,h2,h3,h4⟩:=h
  exact ⟨kd,nm,pl,el,bd,es,pa,la,ba,ea,pc,lc,bc,ec,hd,hcs,h1,h2,h3.imp (fun cs d=>Z62 n m cs d (by omega)),h4.imp (fun cs d=>Z62 n m cs d (by omega))⟩
theorem Z7y {S:Nat→Prop}{w:World}{la:Option Addr}{el:List (DataW Unit)} (h:Z31 S w la el):∃ n,Z5y S w (Z6p S w n) la el:=by
 by_cases h0:0<el.length
 ·obtain ⟨b,o,e,hb,hx⟩:=h h0
  obtain ⟨n,hn⟩:=Go.Deep.fuel_lt (n:=el.length) (q:=fun i m => ∀ s,el[i]?=some s → ∃ c0 c1 c2 c3 c4 c5,w.cell? ⟨b,o+i*6,none⟩=some c0∧w.cell? ⟨b,o+i*6+1,none⟩=some c1∧w.cell? ⟨b,o+i*6+2,none⟩=some c2∧w.cell? ⟨b,o+i*6+3,none⟩=some c3∧w.cell? ⟨b,o+i*6+4,none⟩=some c4∧w.cell? ⟨b,o+i*6+5,none⟩=some c5∧Z6p S w m [c0,c1,c2,c3,c4,c5] s)
   (fun i x y hxy h e he=>by
    obtain ⟨c0,c1,c2,c3,c4,c5,h0,h1,h2,h3,h4,h5,hr⟩:=h e he
    exact ⟨c0,c1,c2,c3,c4,c5,h0,h1,h2,h3,h4,h5,Z62 x y _ _ hxy hr⟩)
   (fun i hi=>by
    obtain ⟨c0,c1,c2,c3,c4,c5,h0,h1,h2,h3,h4,h5,n,hr⟩:=hx i el[i] (by simp [hi])
    refine ⟨n,fun e he => ?_⟩
    have:el[i]=e:=by simpa [hi] using he
    subst this
    exact ⟨c0,c1,c2,c3,c4,c5,h0,h1,h2,h3,h4,h5,hr⟩)
  exact ⟨n,fun _=>⟨b,o,e,hb,fun i x hi=>hn i (List.getElem?_eq_some_iff.1 hi).1 x hi⟩⟩
 ·exact ⟨0,fun h=>absurd h h0⟩
end Go.Proofs.YtflcohidmemfpaaGreatDoor
