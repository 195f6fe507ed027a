/- The law's own helpers: statements of the program's that are being made (written by tools/tree/of.py). -/
import Derived.Test.YtemapnogjepokaaGreatDoorOfD
import Derived.Test.YtemapnogjepokaaGreatDoorScHToWeiA
namespace Go.Proofs.YtemapnogjepokaaGreatDoor
open Go.RowKit

def CellsWO (S:Nat→Prop) (w:World) (cs:List Value) (ss:List (DataW Unit)):Prop:=
 cs.length=ss.length*6 ∧ ∀ (i:Nat) (e:DataW Unit),ss[i]?=some e → ∃ c0 c1 c2 c3 c4 c5,cs[i*6]?=some c0∧cs[i*6+1]?=some c1∧cs[i*6+2]?=some c2∧cs[i*6+3]?=some c3∧cs[i*6+4]?=some c4∧cs[i*6+5]?=some c5∧RepWS S w [c0,c1,c2,c3,c4,c5] e
theorem CellsWO.nil (S:Nat→Prop) (w:World):CellsWO S w [] []:=⟨rfl,fun i e h=>by simp at h⟩
theorem CellsWO.same {S S':Nat→Prop}{w w':World}{cs:List Value}{es:List (DataW Unit)}(h:CellsWO S w cs es) (K:Same S w w') (hS:∀ b,S b→b<w.heap.size→S' b):CellsWO S' w' cs es:=
 ⟨h.1,fun i e hi=>by
  obtain ⟨c0,c1,c2,c3,c4,c5,h0,h1,h2,h3,h4,h5,hr⟩:=h.2 i e hi
  exact ⟨c0,c1,c2,c3,c4,c5,h0,h1,h2,h3,h4,h5,hr.same K hS⟩⟩
theorem CellsWO.snoc {S:Nat→Prop}{w:World}{cs:List Value}{es:List (DataW Unit)}{c0 c1 c2 c3 c4 c5:Value}{e:DataW Unit}(h:CellsWO S w cs es) (he:RepWS S w [c0,c1,c2,c3,c4,c5] e):CellsWO S w (cs ++ [c0,c1,c2,c3,c4,c5]) (es ++ [e]):=by
 refine ⟨by simp [h.1];omega,fun i x hi => ?_⟩
 have hlen:=h.1
 rcases Nat.lt_or_ge i es.length with hl | hl
 ·rw [List.getElem?_append_left hl] at hi
  obtain ⟨d0,d1,d2,d3,d4,d5,h0,h1,h2,h3,h4,h5,hr⟩:=h.2 i x hi
  refine ⟨d0,d1,d2,d3,d4,d5,?_,?_,?_,?_,?_,?_,hr⟩ <;> rw [List.getElem?_append_left (by omega)] <;> assumption
 ·have hie:i=es.length:=by
   rcases Nat.lt_or_ge es.length i with h1 | h1
   ·rw [List.getElem?_eq_none (by simp;omega)] at hi
    cases hi
   ·omega
  subst hie
  simp at hi
  subst hi
  refine ⟨c0,c1,c2,c3,c4,c5,?_,?_,?_,?_,?_,?_,he⟩
  ·rw [List.getElem?_append_right (by omega),show es.length*6 - cs.length=0 by omega];rfl
  ·rw [List.getElem?_append_right (by omega),show es.length*6+1 - cs.length=1 by omega];rfl
  ·rw [List.getElem?_append_right (by omega),show es.length*6+2 - cs.length=2 by omega];rfl
  ·rw [List.getElem?_append_right (by omega),show es.length*6+3 - cs.length=3 by omega];rfl
  ·rw [List.getElem?_append_right (by omega),show es.length*6+4 - cs.length=4 by omega];rfl
  ·rw [List.getElem?_append_right (by omega),show es.length*6+5 - cs.length=5 by omega];rfl
theorem repVSL_rowO {S S':Nat→Prop}{w:World}{base t:Nat}{la:Option Addr}{lc:Nat}{cs:List Value}{es:List (DataW Unit)}(hO:w.ownsRow base t 6 (.slice la es.length lc) es.length cs) (hCE:CellsWO S w cs es) (hS:∀ b,S b→S' b) (hB:∀ b,base≤b→S' b):RepWSL S' w la es:=by
 intro h0
 obtain ⟨hl,⟨e1,e2⟩ | ⟨g',cap',cur,e1,hb,hg,h1,h2,h3,h4⟩⟩:=hO
 ·omega
 ·simp at e1
  obtain ⟨rfl,rfl⟩:=e1
  refine ⟨g',0,rfl,hB _ hb,fun i e hi => ?_⟩
  obtain ⟨c0,c1,c2,c3,c4,c5,q0,q1,q2,q3,q4,q5,hr⟩:=hCE.2 i e hi
  have hi':=(List.getElem?_eq_some_iff.1 hi).1
  have hc:∀ j v,cs[j]?=some v→j<es.length*6→w.cell? ⟨g',j,none⟩=some v:=fun j v hj hlt=>by
   rw [cell_of_row w g' _ _ _ _ hg]
   rw [←h4,List.getElem?_take_of_lt hlt] at hj
   simpa using hj
  refine ⟨c0,c1,c2,c3,c4,c5,?_,?_,?_,?_,?_,?_,hr.same (fun _ _ _=>rfl) (fun b h _=>hS b h)⟩ <;> rw [Nat.zero_add] <;> exact hc _ _ (by assumption) (by omega)
structure BsCO (w0:World) (es:List (DataW Unit)) (v:Value) (w:World):Prop where
 l:∃ cs,w.ownsRow w0.heap.size 52 6 v es.length cs∧CellsWO (fun b=>w0.heap.size≤b∧v.ownBlock≠some b) w cs es
 bl:Below w0.heap.size w0 w
theorem bs_afterO {w0 w w5 w2:World}{es:List (DataW Unit)}{e:DataW Unit}{v:Value}{cs:List Value}{c0 c1 c2 c3 c4 c5:Value}{gn capn:Nat}(C:BsCO w0 es v w) (hO:w.ownsRow w0.heap.size 52 6 v es.length cs) (hCE:CellsWO (fun b=>w0.heap.size≤b∧v.ownBlock≠some b) w cs es)
  (hb5:Below w.heap.size w w5) (hrep:RepWS (fun b=>w.heap.size≤b) w5 [c0,c1,c2,c3,c4,c5] e) (hz:∃ wb,Below w5.heap.size w5 wb∧wb.grownBy w2 v.ownBlock∧(v.ownBlock=some gn∨gn=wb.heap.size))
  (hown2:w2.ownsRow w0.heap.size 52 6 (.slice (some ⟨gn,0,none⟩) (es.length+1) capn) (es.length+1) (cs ++ [c0,c1,c2,c3,c4,c5])):BsCO w0 (es ++ [e]) (.slice (some ⟨gn,0,none⟩) (es.length+1) capn) w2:=by
 obtain ⟨wb,hbb,hgrow,hat⟩:=hz
 have hsz:=C.bl.size
 have hs5:=hb5.size
 have hsb:=hbb.size
 have hs2:=hgrow.size
 have hgnO:∀ j,j<w.heap.size→v.ownBlock≠some j→j≠gn:=fun j hj hn h=>by
  rcases hat with h1 | h1
  ·exact hn (h ▸ h1)
  ·omega
 have hgnN:∀ j,w.heap.size≤j→j<w5.heap.size→j≠gn:=fun j hj hj5 h=>by
  rcases hat with h1 | h1
  ·have:=own_lt hO gn h1
   omega
  ·omega
 have f2:∀ j,j<w5.heap.size→v.ownBlock≠some j→w2.heap[j]?=w5.heap[j]?:=fun j hj hn=>(hgrow.block j (by omega) (fun h=>hn h.symm)).trans (hbb.block j hj)
 have f6:∀ j,j<w.heap.size→v.ownBlock≠some j→w2.heap[j]?=w.heap[j]?:=fun j hl hn=>(f2 j (by omega) hn).trans (hb5.block j hl)
 refine ⟨⟨_,by rw [List.length_append];exact hown2,?_⟩,Below.grown (C.bl.trans ((hb5.mono hsz).trans (hbb.mono (by omega)))) hgrow (by omega) (fun j hj=>by have:=own_ge hO j hj;omega)⟩
 refine CellsWO.snoc (hCE.same (fun b hb hl=>f6 b hl hb.2) (fun b hb hl=>⟨hb.1,fun h=>hgnO b hl hb.2 ?_⟩)) (hrep.same (fun b hb hl => ?_) (fun b hb hl=>⟨by omega,fun h=>hgnN b hb hl ?_⟩))
 ·simp [Value.ownBlock] at h
  omega
 ·exact f2 b hl (fun h=>by have:=own_lt hO b h;omega)
 ·simp [Value.ownBlock] at h
  omega
theorem infoStmtRO:(Tryz.prog.info? 52).map (fun i=>(i.zero,i.size,i.bytes))=some (some (.agg #[.string ⟨#[]⟩,.string ⟨#[]⟩,.slice none 0 0,.slice none 0 0,.slice none 0 0,.slice none 0 0]),6,128):=by kernel_rfl
theorem stmtR_blockO {w:World}{b:Nat}{u0 u1 u2 u3 u4 u5:Value}(h:w.heap[b]?=some (.cells #[u0,u1,u2,u3,u4,u5] 52)) :
  w.cell? ⟨b,0,none⟩=some u0∧w.cell? ⟨b,1,none⟩=some u1∧w.cell? ⟨b,2,none⟩=some u2∧w.cell? ⟨b,3,none⟩=some u3∧w.cell? ⟨b,4,none⟩=some u4∧w.cell? ⟨b,5,none⟩=some u5 ∧ ∀ o,w.frozen? ⟨b,o,none⟩=false:=by
 refine ⟨?_,?_,?_,?_,?_,?_,fun o=>by simp [World.frozen?,h]⟩
 ·rw [cell_of_row w b 0 _ _ _ h];rfl
 ·rw [cell_of_row w b 1 _ _ _ h];rfl
 ·rw [cell_of_row w b 2 _ _ _ h];rfl
 ·rw [cell_of_row w b 3 _ _ _ h];rfl
 ·rw [cell_of_row w b 4 _ _ _ h];rfl
 ·rw [cell_of_row w b 5 _ _ _ h];rfl

def SFO (w0:World) (kd nm:ByteArray) (P:Value) (el bd es:List (DataW Unit)) (eb:Nat) (la ba ea:Option Addr) (lc bc ec:Nat) (w:World):Prop:=
 w0.heap.size≤eb∧w.heap[eb]?=some (.cells #[.string kd,.string nm,P,.slice la el.length lc,.slice ba bd.length bc,.slice ea es.length ec] 52)∧(RepWL (fun b=>w0.heap.size≤b∧b≠eb) w la el∧RepWSL (fun b=>w0.heap.size≤b∧b≠eb) w ba bd∧RepWSL (fun b=>w0.heap.size≤b∧b≠eb) w ea es)∧Below w0.heap.size w0 w
theorem sf_lateO {wr w1:World}{kd nm:ByteArray}{el bd es:List (DataW Unit)}{la ba ea:Option Addr}{lc bc ec:Nat}(hbR:Below wr.heap.size wr w1) (hR:RepWL (fun b=>wr.heap.size≤b) w1 la el∧RepWSL (fun b=>wr.heap.size≤b) w1 ba bd∧RepWSL (fun b=>wr.heap.size≤b) w1 ea es) :
  SFO wr kd nm (.slice none 0 0) el bd es w1.heap.size la ba ea lc bc ec (w1.alloc (.cells #[.string kd,.string nm,.slice none 0 0,.slice la el.length lc,.slice ba bd.length bc,.slice ea es.length ec] 52)):=
 ⟨hbR.size,heap_alloc_new _ _,⟨hR.1.same (same_below ((Below.refl _ _).alloc (Nat.le_refl _) _)) (fun b h hl=>⟨h,by omega⟩),hR.2.1.same (same_below ((Below.refl _ _).alloc (Nat.le_refl _) _)) (fun b h hl=>⟨h,by omega⟩),hR.2.2.same (same_below ((Below.refl _ _).alloc (Nat.le_refl _) _)) (fun b h hl=>⟨h,by omega⟩)⟩,hbR.alloc hbR.size _⟩
theorem sf_earlyO {wr w1:World}{kd nm:ByteArray}{el bd es:List (DataW Unit)}{la ba ea:Option Addr}{lc bc ec eb:Nat}{u0 u1 u2 u3 u4 u5:Value}(hbR:Below wr.heap.size wr w1) (heb:wr.heap.size≤eb) (hE:w1.heap[eb]?=some (.cells #[u0,u1,u2,u3,u4,u5] 52)) (hR:RepWL (fun b=>wr.heap.size≤b∧b≠eb) w1 la el∧RepWSL (fun b=>wr.heap.size≤b∧b≠eb) w1 ba bd∧RepWSL (fun b=>wr.heap.size≤b∧b≠eb) w1 ea es) :
  SFO wr kd nm (.slice none 0 0) el bd es eb la ba ea lc bc ec (set6v w1 eb (.string kd) (.string nm) (.slice none 0 0) (.slice la el.length lc) (.slice ba bd.length bc) (.slice ea es.length ec)):=
 ⟨heb,set6v_block hE _ _ _ _ _ _,⟨hR.1.same (fun _ h _=>set6v_other h.2 _ _ _ _ _ _) (fun _ h _=>h),hR.2.1.same (fun _ h _=>set6v_other h.2 _ _ _ _ _ _) (fun _ h _=>h),hR.2.2.same (fun _ h _=>set6v_other h.2 _ _ _ _ _ _) (fun _ h _=>h)⟩,set6v_below hbR heb _ _ _ _ _ _⟩
theorem SFO.drew {w0 w:World}{kd nm:ByteArray}{P:Value}{el bd es:List (DataW Unit)}{eb:Nat}{la ba ea:Option Addr}{lc bc ec:Nat}(h:SFO w0 kd nm P el bd es eb la ba ea lc bc ec w):SFO w0 kd nm P el bd es eb la ba ea lc bc ec w.drew:=
 ⟨h.1,h.2.1,⟨h.2.2.1.1.same (fun _ _ _=>rfl) (fun _ h _=>h),h.2.2.1.2.1.same (fun _ _ _=>rfl) (fun _ h _=>h),h.2.2.1.2.2.same (fun _ _ _=>rfl) (fun _ h _=>h)⟩,h.2.2.2.drew⟩
theorem sf_namesO {w0 w w':World}{kd nm:ByteArray}{el bd es:List (DataW Unit)}{eb:Nat}{la ba ea:Option Addr}{lc bc ec:Nat}{P v:Value}{pl:List ByteArray}(h:SFO w0 kd nm P el bd es eb la ba ea lc bc ec w) (hg:w.grownBy w' none) (ho:w'.ownsRow w.heap.size 9 1 v pl.length (pl.map Value.string)) :
  w'.heap[eb]?=some (.cells #[.string kd,.string nm,P,.slice la el.length lc,.slice ba bd.length bc,.slice ea es.length ec] 52)∧SFO w0 kd nm v el bd es eb la ba ea lc bc ec (w'.setCell ⟨eb,2,none⟩ v) ∧ ∃ pa pc,v = .slice pa pl.length pc∧RepN (fun b=>w0.heap.size≤b∧b≠eb) (w'.setCell ⟨eb,2,none⟩ v) pa pl:=by
 obtain ⟨h1,h2,⟨h3a,h3b,h3c⟩,h4⟩:=h
 have hel:=lt_of_heap h2
 have f:∀ k,k<w.heap.size→w'.heap[k]?=w.heap[k]?:=fun k hk=>hg.block k hk (fun e=>by cases e)
 have hbl:Below w.heap.size w w':=Below.grown (Below.refl _ _) hg (Nat.le_refl _) (fun k hk=>by cases hk)
 have hwz:=h4.size
 refine ⟨(f eb hel).trans h2,⟨h1,?_,⟨h3a.same (fun b hb hl=>(heap_set _ _ _ _ _ hb.2).trans (f b hl)) (fun b h _=>h),h3b.same (fun b hb hl=>(heap_set _ _ _ _ _ hb.2).trans (f b hl)) (fun b h _=>h),h3c.same (fun b hb hl=>(heap_set _ _ _ _ _ hb.2).trans (f b hl)) (fun b h _=>h)⟩,(h4.trans (hbl.mono hwz)).setCell h1 _⟩,?_⟩
 ·rw [heap_set_same ((f eb hel).trans h2)]
  rfl
 ·rcases ho.2 with ⟨e,h0⟩ | ⟨g,cap,cur,e,hgb,hg1,hc1,_,hc2,hc3⟩
  ·refine ⟨none,0,by rw [e,h0],fun hp=>by omega⟩
  ·refine ⟨_,_,e,fun hp=>⟨g,0,rfl,⟨by omega,by omega⟩,fun j t hj => ?_⟩⟩
   have hjl:=(List.getElem?_eq_some_iff.1 hj).1
   rw [Nat.zero_add,World.cell?_of_block (w:=w') (a:=⟨g,j,none⟩) (heap_set _ _ _ _ _ (show g≠eb by omega)),cell_of_row w' g j cur 9 (0,0) hg1,←Array.getElem?_toList]
   have e2:(cur.toList.take (pl.length*1))[j]?=(pl.map Value.string)[j]?:=by rw [hc3]
   rw [List.getElem?_take,if_pos (by omega)] at e2
   rw [e2,List.getElem?_map,hj]
   rfl
theorem sf_noO {w0 w:World}{kd nm:ByteArray}{el bd es:List (DataW Unit)}{eb:Nat}{la ba ea:Option Addr}{lc bc ec:Nat}{P v:Value}(h:SFO w0 kd nm P el bd es eb la ba ea lc bc ec w):SFO w0 kd nm v el bd es eb la ba ea lc bc ec (w.setCell ⟨eb,2,none⟩ v):=by
 obtain ⟨h1,h2,⟨h3a,h3b,h3c⟩,h4⟩:=h
 refine ⟨h1,?_,⟨h3a.same (fun b hb hl=>heap_set _ _ _ _ _ hb.2) (fun b h _=>h),h3b.same (fun b hb hl=>heap_set _ _ _ _ _ hb.2) (fun b h _=>h),h3c.same (fun b hb hl=>heap_set _ _ _ _ _ hb.2) (fun b h _=>h)⟩,h4.setCell h1 _⟩
 rw [heap_set_same h2]
 rfl
theorem sf_repO {w0 w:World}{kd nm:ByteArray}{el bd es:List (DataW Unit)}{eb:Nat}{la ba ea pa:Option Addr}{lc bc ec pc:Nat}{pl:List ByteArray}(h:SFO w0 kd nm (.slice pa pl.length pc) el bd es eb la ba ea lc bc ec w) (hn:RepN (fun b=>w0.heap.size≤b∧b≠eb) w pa pl) (hc:el.length≤lc):RepWS (fun b=>w0.heap.size≤b) w [.string kd,.string nm,.slice pa pl.length pc,.slice la el.length lc,.slice ba bd.length bc,.slice ea es.length ec] (mkS kd nm pl el bd es):=
 (mkRepWS hn h.2.2.1.1 h.2.2.1.2.1 h.2.2.1.2.2 hc).same (fun _ _ _=>rfl) (fun _ h _=>h.1)
end Go.Proofs.YtemapnogjepokaaGreatDoor
