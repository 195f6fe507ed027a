/- The law's own helpers: rows of the law's terms. -/
import Derived.Test.YtpcjcgkpjapbpaaGreatDoorCopyB
import Derived.Deep.Upon
import Derived.Deep.RegionLawGrows
set_option linter.all false
namespace Go.Proofs.YtpcjcgkpjapbpaaGreatDoor
open Go.RowKit

theorem step_append_none {P:Program}{ops:Array Oper}{o:Oper}{a:Act}{w:World}{K:Act→World→Prop}{Q:Exit→Act→World→Prop}{E:Prop}
  (hg:o.guard=none) (s x:Operand) (t:TypeId) (hop:o.op=Op.call { callee:=Callee.builtin Builtin.append,args:=#[s,x],argTypes:=#[t,t] })
  (e:TypeId) (i:TypeInfo) (h1:P.underlying t=some (.slice e)) (h2:P.info? e=some i) (hs:a.eval s = .slice none 0 0) (xa:Option Addr) (c:Nat) (hx:a.eval x = .slice xa 0 c)
  (hK:K (a.put o.dst (.slice none 0 0)) w):if Region.wanted o (yielded ops a.tmps)=true then Oper.wp P o a w K Q else E:=by
 have hw:Region.wanted o (yielded ops a.tmps)=true:=by simp [Region.wanted,hg]
 rw [if_pos hw]
 have hr:(Builtin.append_ #[t,t] o.type #[.slice none 0 0,.slice xa 0 c]).run P w = .ok (.slice none 0 0) w:=by
  cases xa <;> simp [Builtin.append_,run_underlying h1,sizeOf,typeInfo,h2,go_sem]
 unfold Oper.wp
 simp [execOp,hop,resolve,invoke,builtin,hs,hx,hr,Result.andThen]
 exact hK
def CellsV (S:Nat→Prop) (w:World) (cs:List Value) (es:List (DataW Unit)):Prop:=
 cs.length=es.length*5 ∧ ∀ (i:Nat) (e:DataW Unit),es[i]?=some e → ∃ c0 c1 c2 c3 c4,cs[i*5]?=some c0∧cs[i*5+1]?=some c1∧cs[i*5+2]?=some c2∧cs[i*5+3]?=some c3∧cs[i*5+4]?=some c4∧RepV S w [c0,c1,c2,c3,c4] e
theorem CellsV.nil (S:Nat→Prop) (w:World):CellsV S w [] []:=⟨rfl,fun i e h=>by simp at h⟩
theorem CellsV.same {S S':Nat→Prop}{w w':World}{cs:List Value}{es:List (DataW Unit)} (h:CellsV S w cs es) (K:Same S w w') (hS:∀ b,S b→b<w.heap.size→S' b):CellsV S' w' cs es:=
 ⟨h.1,fun i e hi=>by
  obtain ⟨c0,c1,c2,c3,c4,h0,h1,h2,h3,h4,hr⟩:=h.2 i e hi
  exact ⟨c0,c1,c2,c3,c4,h0,h1,h2,h3,h4,hr.same K hS⟩⟩
theorem CellsV.snoc {S:Nat→Prop}{w:World}{cs:List Value}{es:List (DataW Unit)}{c0 c1 c2 c3 c4:Value}{e:DataW Unit} (h:CellsV S w cs es) (he:RepV S w [c0,c1,c2,c3,c4] e):CellsV S w (cs ++ [c0,c1,c2,c3,c4]) (es ++ [e]):=by
 refine ⟨by simp [h.1];omega,fun i x hi => ?_⟩
 have hlen:=h.1
 rcases Nat.lt_or_ge i es.length with hl | hl
 ·rw [List.getElem?_append_left hl] at hi
  obtain ⟨d0,d1,d2,d3,d4,h0,h1,h2,h3,h4,hr⟩:=h.2 i x hi
  refine ⟨d0,d1,d2,d3,d4,?_,?_,?_,?_,?_,hr⟩ <;> rw [List.getElem?_append_left (by omega)] <;> assumption
 ·have hie:i=es.length:=by
   rcases Nat.lt_or_ge es.length i with h1 | h1
   ·rw [List.getElem?_eq_none (by simp;omega)] at hi
    cases hi
   ·omega
  subst hie
  simp at hi
  subst hi
  refine ⟨c0,c1,c2,c3,c4,?_,?_,?_,?_,?_,he⟩
  ·rw [List.getElem?_append_right (by omega),show es.length*5 - cs.length=0 by omega];rfl
  ·rw [List.getElem?_append_right (by omega),show es.length*5+1 - cs.length=1 by omega];rfl
  ·rw [List.getElem?_append_right (by omega),show es.length*5+2 - cs.length=2 by omega];rfl
  ·rw [List.getElem?_append_right (by omega),show es.length*5+3 - cs.length=3 by omega];rfl
  ·rw [List.getElem?_append_right (by omega),show es.length*5+4 - cs.length=4 by omega];rfl
theorem repVL_row {S S':Nat→Prop}{w:World}{base t:Nat}{la:Option Addr}{lc:Nat}{cs:List Value}{es:List (DataW Unit)} (hO:w.ownsRow base t 5 (.slice la es.length lc) es.length cs) (hCE:CellsV S w cs es) (hS:∀ b,S b→S' b) (hB:∀ b,base≤b→S' b):RepVL S' w la es:=by
 intro h0
 obtain ⟨hl,⟨e1,e2⟩ | ⟨g',cap',cur,e1,hb,hg,h1,h2,h3,h4⟩⟩:=hO
 ·omega
 ·simp at e1
  obtain ⟨rfl,rfl⟩:=e1
  refine ⟨g',0,rfl,hB _ hb,fun i e hi => ?_⟩
  obtain ⟨c0,c1,c2,c3,c4,q0,q1,q2,q3,q4,hr⟩:=hCE.2 i e hi
  have hi':=(List.getElem?_eq_some_iff.1 hi).1
  have hc:∀ j v,cs[j]?=some v→j<es.length*5→w.cell? ⟨g',j,none⟩=some v:=fun j v hj hlt=>by
   rw [cell_of_row w g' _ _ _ _ hg]
   rw [←h4,List.getElem?_take_of_lt hlt] at hj
   simpa using hj
  refine ⟨c0,c1,c2,c3,c4,?_,?_,?_,?_,?_,hr.same (fun _ _ _=>rfl) (fun b h _=>hS b h)⟩ <;> rw [Nat.zero_add] <;> exact hc _ _ (by assumption) (by omega)
end Go.Proofs.YtpcjcgkpjapbpaaGreatDoor
namespace Go.Proofs.YtpcjcgkpjapbpaaGreatDoor
open Go.RowKit

structure BkC (w0:World) (es:List (DataW Unit)) (v:Value) (w:World):Prop where
 l:∃ cs,w.ownsRow w0.heap.size 45 5 v es.length cs∧CellsV (fun b=>w0.heap.size≤b∧v.ownBlock≠some b) w cs es
 bl:Below w0.heap.size w0 w
theorem BkC.go {w0 w w':World}{es:List (DataW Unit)}{v:Value} (C:BkC w0 es v w) (hb:Below w.heap.size w w'):BkC w0 es v w':=by
 obtain ⟨cs,h2,h3⟩:=C.l
 exact ⟨⟨cs,ownsRow_far' h2 (fun k hk=>hb.block k (own_lt h2 k hk)),h3.same (same_below hb) (fun b hb _=>hb)⟩,C.bl.trans (hb.mono C.bl.size)⟩
theorem bk_after {w0 w w5 w2:World}{es:List (DataW Unit)}{e:DataW Unit}{v:Value}{cs:List Value}{c0 c1 c2 c3 c4:Value}{gn capn:Nat} (C:BkC w0 es v w) (hO:w.ownsRow w0.heap.size 45 5 v es.length cs) (hCE:CellsV (fun b=>w0.heap.size≤b∧v.ownBlock≠some b) w cs es)
  (hb5:Below w.heap.size w w5) (hrep:RepV (fun b=>w.heap.size≤b) w5 [c0,c1,c2,c3,c4] e) (hz:∃ wb,Below w5.heap.size w5 wb∧wb.grownBy w2 v.ownBlock∧(v.ownBlock=some gn∨gn=wb.heap.size))
  (hown2:w2.ownsRow w0.heap.size 45 5 (.slice (some ⟨gn,0,none⟩) (es.length+1) capn) (es.length+1) (cs ++ [c0,c1,c2,c3,c4])):BkC w0 (es ++ [e]) (.slice (some ⟨gn,0,none⟩) (es.length+1) capn) w2:=by
 obtain ⟨wb,hbb,hgrow,hat⟩:=hz
 have hsz:=C.bl.size
 have hs5:=hb5.size
 have hsb:=hbb.size
 have hs2:=hgrow.size
 have hgnO:∀ j,j<w.heap.size→v.ownBlock≠some j→j≠gn:=fun j hj hn h=>by
  rcases hat with h1 | h1
  ·exact hn (h ▸ h1)
  ·omega
 have hgnN:∀ j,w.heap.size≤j→j<w5.heap.size→j≠gn:=fun j hj hj5 h=>by
  rcases hat with h1 | h1
  ·have:=own_lt hO gn h1
   omega
  ·omega
 have f2:∀ j,j<w5.heap.size→v.ownBlock≠some j→w2.heap[j]?=w5.heap[j]?:=fun j hj hn=>(hgrow.block j (by omega) (fun h=>hn h.symm)).trans (hbb.block j hj)
 have f6:∀ j,j<w.heap.size→v.ownBlock≠some j→w2.heap[j]?=w.heap[j]?:=fun j hl hn=>(f2 j (by omega) hn).trans (hb5.block j hl)
 refine ⟨⟨_,by rw [List.length_append];exact hown2,?_⟩,Below.grown (C.bl.trans ((hb5.mono hsz).trans (hbb.mono (by omega)))) hgrow (by omega) (fun j hj=>by have:=own_ge hO j hj;omega)⟩
 refine CellsV.snoc (hCE.same (fun b hb hl=>f6 b hl hb.2) (fun b hb hl=>⟨hb.1,fun h=>hgnO b hl hb.2 ?_⟩)) (hrep.same (fun b hb hl => ?_) (fun b hb hl=>⟨by omega,fun h=>hgnN b hb hl ?_⟩))
 ·simp [Value.ownBlock] at h
  omega
 ·exact f2 b hl (fun h=>by have:=own_lt hO b h;omega)
 ·simp [Value.ownBlock] at h
  omega
theorem infoExprR:(Tryz.prog.info? 45).map (fun i=>(i.zero,i.size,i.bytes))=some (some (.agg #[.string ⟨#[]⟩,.int .i64 0,.string ⟨#[]⟩,.slice none 0 0,.slice none 0 0]),5,88):=by kernel_rfl
theorem exprR_block {w:World}{b:Nat}{u0 u1 u2 u3 u4:Value} (h:w.heap[b]?=some (.cells #[u0,u1,u2,u3,u4] 45)) :
  w.cell? ⟨b,0,none⟩=some u0∧w.cell? ⟨b,1,none⟩=some u1∧w.cell? ⟨b,2,none⟩=some u2∧w.cell? ⟨b,3,none⟩=some u3∧w.cell? ⟨b,4,none⟩=some u4 ∧ ∀ o,w.frozen? ⟨b,o,none⟩=false:=by
 refine ⟨?_,?_,?_,?_,?_,fun o=>by simp [World.frozen?,h]⟩
 ·rw [cell_of_row w b 0 _ _ _ h];rfl
 ·rw [cell_of_row w b 1 _ _ _ h];rfl
 ·rw [cell_of_row w b 2 _ _ _ h];rfl
 ·rw [cell_of_row w b 3 _ _ _ h];rfl
 ·rw [cell_of_row w b 4 _ _ _ h];rfl

def EF (w0:World) (op:ByteArray) (z:Int) (s:ByteArray) (P:Value) (el:List (DataW Unit)) (eb:Nat) (la:Option Addr) (lc:Nat) (w:World):Prop:=
 w0.heap.size≤eb∧w.heap[eb]?=some (.cells #[.string op,.int .i64 z,.string s,P,.slice la el.length lc] 45)∧RepVL (fun b=>w0.heap.size≤b∧b≠eb) w la el∧Below w0.heap.size w0 w
abbrev set5v (w:World) (b:Nat) (v0 v1 v2 v3 v4:Value):World:=((((w.setCell ⟨b,0,none⟩ v0).setCell ⟨b,1,none⟩ v1).setCell ⟨b,2,none⟩ v2).setCell ⟨b,3,none⟩ v3).setCell ⟨b,4,none⟩ v4
theorem set5v_block {w:World}{b t:Nat}{u0 u1 u2 u3 u4:Value}{fr:Nat × Nat} (h:w.heap[b]?=some (.cells #[u0,u1,u2,u3,u4] t fr)) (v0 v1 v2 v3 v4:Value):(set5v w b v0 v1 v2 v3 v4).heap[b]?=some (.cells #[v0,v1,v2,v3,v4] t fr):=by
 unfold set5v
 rw [heap_set_same (heap_set_same (heap_set_same (heap_set_same (heap_set_same h))))]
 rfl
theorem set5v_other {w:World}{b k:Nat} (h:k≠b) (v0 v1 v2 v3 v4:Value):(set5v w b v0 v1 v2 v3 v4).heap[k]?=w.heap[k]?:=by
 unfold set5v
 rw [heap_set _ _ _ _ _ h,heap_set _ _ _ _ _ h,heap_set _ _ _ _ _ h,heap_set _ _ _ _ _ h,heap_set _ _ _ _ _ h]
theorem set5v_below {B b:Nat}{a w:World} (h:Below B a w) (hb:B≤b) (v0 v1 v2 v3 v4:Value):Below B a (set5v w b v0 v1 v2 v3 v4):=
 ((((h.setCell hb _).setCell hb _).setCell hb _).setCell hb _).setCell hb _
theorem ef_late {wr w1:World}{op s:ByteArray}{z:Int}{el:List (DataW Unit)}{la:Option Addr}{lc B:Nat} (hbR:Below wr.heap.size wr w1) (hB:wr.heap.size≤B) (hR:RepVL (fun b=>B≤b) w1 la el) :
  EF wr op z s (.slice none 0 0) el w1.heap.size la lc (w1.alloc (.cells #[.string op,.int .i64 z,.string s,.slice none 0 0,.slice la el.length lc] 45)):=
 ⟨hbR.size,heap_alloc_new _ _,hR.same (same_below ((Below.refl _ _).alloc (Nat.le_refl _) _)) (fun b h hl=>⟨by omega,by omega⟩),hbR.alloc hbR.size _⟩
theorem ef_early {wr w1:World}{op s:ByteArray}{z:Int}{el:List (DataW Unit)}{la:Option Addr}{lc B:Nat}{u0 u1 u2 u3 u4:Value} (hbR:Below wr.heap.size wr w1) (hE:w1.heap[wr.heap.size]?=some (.cells #[u0,u1,u2,u3,u4] 45)) (hB:wr.heap.size<B) (hR:RepVL (fun b=>B≤b) w1 la el) :
  EF wr op z s (.slice none 0 0) el wr.heap.size la lc (set5v w1 wr.heap.size (.string op) (.int .i64 z) (.string s) (.slice none 0 0) (.slice la el.length lc)):=
 ⟨Nat.le_refl _,set5v_block hE _ _ _ _ _,hR.same (fun b h _=>set5v_other (by omega) _ _ _ _ _) (fun b h hl=>⟨by omega,by omega⟩),set5v_below hbR (Nat.le_refl _) _ _ _ _ _⟩
theorem EF.drew {w0 w:World}{op s:ByteArray}{z:Int}{P:Value}{el:List (DataW Unit)}{eb:Nat}{la:Option Addr}{lc:Nat} (h:EF w0 op z s P el eb la lc w):EF w0 op z s P el eb la lc w.drew:=
 ⟨h.1,h.2.1,h.2.2.1.same (fun _ _ _=>rfl) (fun _ h _=>h),h.2.2.2.drew⟩
theorem ef_names {w0 w w':World}{op s:ByteArray}{z:Int}{el:List (DataW Unit)}{eb:Nat}{la:Option Addr}{lc:Nat}{P v:Value}{pl:List ByteArray} (h:EF w0 op z s P el eb la lc w) (hg:w.grownBy w' none) (ho:w'.ownsRow w.heap.size 9 1 v pl.length (pl.map Value.string)) :
  w'.heap[eb]?=some (.cells #[.string op,.int .i64 z,.string s,P,.slice la el.length lc] 45)∧EF w0 op z s v el eb la lc (w'.setCell ⟨eb,3,none⟩ v) ∧ ∃ pa pc,v = .slice pa pl.length pc∧RepN (fun b=>w0.heap.size≤b∧b≠eb) (w'.setCell ⟨eb,3,none⟩ v) pa pl:=by
 obtain ⟨h1,h2,h3,h4⟩:=h
 have hel:=lt_of_heap h2
 have f:∀ k,k<w.heap.size→w'.heap[k]?=w.heap[k]?:=fun k hk=>hg.block k hk (fun e=>by cases e)
 have hbl:Below w.heap.size w w':=Below.grown (Below.refl _ _) hg (Nat.le_refl _) (fun k hk=>by cases hk)
 have hwz:=h4.size
 refine ⟨(f eb hel).trans h2,⟨h1,?_,h3.same (fun b hb hl=>(heap_set _ _ _ _ _ hb.2).trans (f b hl)) (fun b h _=>h),(h4.trans (hbl.mono hwz)).setCell h1 _⟩,?_⟩
 ·rw [heap_set_same ((f eb hel).trans h2)]
  rfl
 ·rcases ho.2 with ⟨e,h0⟩ | ⟨g,cap,cur,e,hgb,hg1,hc1,_,hc2,hc3⟩
  ·refine ⟨none,0,by rw [e,h0],fun hp=>by omega⟩
  ·refine ⟨_,_,e,fun hp=>⟨g,0,rfl,⟨by omega,by omega⟩,fun j t hj => ?_⟩⟩
   have hjl:=(List.getElem?_eq_some_iff.1 hj).1
   rw [Nat.zero_add,World.cell?_of_block (w:=w') (a:=⟨g,j,none⟩) (heap_set _ _ _ _ _ (show g≠eb by omega)),cell_of_row w' g j cur 9 (0,0) hg1,←Array.getElem?_toList]
   have e2:(cur.toList.take (pl.length*1))[j]?=(pl.map Value.string)[j]?:=by rw [hc3]
   rw [List.getElem?_take,if_pos (by omega)] at e2
   rw [e2,List.getElem?_map,hj]
   rfl
theorem ts_news {w:World}{b o:Nat}{pl:List ByteArray} (h:TS w b o pl):∀ j u,(pl.map Value.string)[j]?=some u→w.cell? ((⟨b,o,none⟩:Addr).add j)=some u:=fun j u hj=>by
 rw [List.getElem?_map] at hj
 obtain ⟨t,ht,rfl⟩:=Option.map_eq_some_iff.1 hj
 have hadd:(⟨b,o,none⟩:Addr).add j=⟨b,o+j,none⟩:=by unfold Addr.add;split <;> simp_all
 rw [hadd]
 exact h j t ht
theorem ts_newsD {w:World}{b o:Nat}{pl:List ByteArray} (h:TS w b o pl):∀ j u,(pl.map Value.string)[j]?=some u→w.drew.cell? ((⟨b,o,none⟩:Addr).add j)=some u:=ts_news h
theorem strs_one (pl:List ByteArray):∀ u∈pl.map Value.string,u.oneCell'=true:=fun u hu=>by
 obtain ⟨t,_,rfl⟩:=List.mem_map.1 hu
 rfl
theorem ef_no {w0 w:World}{op s:ByteArray}{z:Int}{el:List (DataW Unit)}{eb:Nat}{la:Option Addr}{lc:Nat}{P v:Value} (h:EF w0 op z s P el eb la lc w):EF w0 op z s v el eb la lc (w.setCell ⟨eb,3,none⟩ v):=by
 obtain ⟨h1,h2,h3,h4⟩:=h
 refine ⟨h1,?_,h3.same (fun b hb hl=>heap_set _ _ _ _ _ hb.2) (fun b h _=>h),h4.setCell h1 _⟩
 rw [heap_set_same h2]
 rfl
theorem ef_rep {w0 w:World}{op s:ByteArray}{z:Int}{el:List (DataW Unit)}{eb:Nat}{la pa:Option Addr}{lc pc:Nat}{pl:List ByteArray} (h:EF w0 op z s (.slice pa pl.length pc) el eb la lc w) (hn:RepN (fun b=>w0.heap.size≤b∧b≠eb) w pa pl):RepV (fun b=>w0.heap.size≤b) w [.string op,.int .i64 z,.string s,.slice pa pl.length pc,.slice la el.length lc] (mkE op z s pl el):=
 (mkRepV hn h.2.2.1).same (fun _ _ _=>rfl) (fun _ h _=>h.1)
end Go.Proofs.YtpcjcgkpjapbpaaGreatDoor
