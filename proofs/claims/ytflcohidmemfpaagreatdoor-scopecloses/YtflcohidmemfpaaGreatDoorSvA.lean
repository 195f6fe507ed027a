/- The law's own helpers: terms of the program's that are being made (written by tools/tree/of.py). -/
import Derived.Test.YtflcohidmemfpaaGreatDoorSsZ
import Derived.Test.YtflcohidmemfpaaGreatDoorSsR
import Derived.Deep.Cut
import Derived.Deep.CutRange
set_option linter.all false
namespace Go.Proofs.YtflcohidmemfpaaGreatDoor
open Go.Proofs.Tryz
open Go.RowKit

def Z3w (S:Nat→Prop) (w:World) (cs:List Value) (es:List (DataW Unit)):Prop:=
 cs.length=es.length*5 ∧ ∀ (i:Nat) (e:DataW Unit),es[i]?=some e → ∃ c0 c1 c2 c3 c4,cs[i*5]?=some c0∧cs[i*5+1]?=some c1∧cs[i*5+2]?=some c2∧cs[i*5+3]?=some c3∧cs[i*5+4]?=some c4∧Zvf S w [c0,c1,c2,c3,c4] e
theorem Z3w.nil (S:Nat→Prop) (w:World):Z3w S w [] []:=⟨rfl,fun i e h=>by simp at h⟩
theorem Z3w.same {S S':Nat→Prop}{w w':World}{cs:List Value}{es:List (DataW Unit)} (h:Z3w S w cs es) (K:Z5i S w w') (hS:∀ b,S b→b<w.heap.size→S' b):Z3w S' w' cs es:=
 ⟨h.1,fun i e hi=>by
  obtain ⟨c0,c1,c2,c3,c4,h0,h1,h2,h3,h4,hr⟩:=h.2 i e hi
  exact ⟨c0,c1,c2,c3,c4,h0,h1,h2,h3,h4,hr.same K hS⟩⟩
theorem Z3w.snoc {S:Nat→Prop}{w:World}{cs:List Value}{es:List (DataW Unit)}{c0 c1 c2 c3 c4:Value}{e:DataW Unit} (h:Z3w S w cs es) (he:Zvf S w [c0,c1,c2,c3,c4] e):Z3w S w (cs ++ [c0,c1,c2,c3,c4]) (es ++ [e]):=by
 refine ⟨by simp [h.1];omega,fun i x hi => ?_⟩
 have hlen:=h.1
 rcases Nat.lt_or_ge i es.length with hl | hl
 ·rw [List.getElem?_append_left hl] at hi
  obtain ⟨d0,d1,d2,d3,d4,h0,h1,h2,h3,h4,hr⟩:=h.2 i x hi
  refine ⟨d0,d1,d2,d3,d4,?_,?_,?_,?_,?_,hr⟩ <;> rw [List.getElem?_append_left (by omega)] <;> assumption
 ·have hie:i=es.length:=by
   rcases Nat.lt_or_ge es.length i with h1 | h1
   ·rw [List.getElem?_eq_none (by simp;omega)] at hi
    cases hi
   ·omega
  subst hie
  simp at hi
  subst hi
  refine ⟨c0,c1,c2,c3,c4,?_,?_,?_,?_,?_,he⟩
  ·rw [List.getElem?_append_right (by omega),show es.length*5 - cs.length=0 by omega];rfl
  ·rw [List.getElem?_append_right (by omega),show es.length*5+1 - cs.length=1 by omega];rfl
  ·rw [List.getElem?_append_right (by omega),show es.length*5+2 - cs.length=2 by omega];rfl
  ·rw [List.getElem?_append_right (by omega),show es.length*5+3 - cs.length=3 by omega];rfl
  ·rw [List.getElem?_append_right (by omega),show es.length*5+4 - cs.length=4 by omega];rfl
theorem Znr {S S':Nat→Prop}{w:World}{base t:Nat}{la:Option Addr}{lc:Nat}{cs:List Value}{es:List (DataW Unit)} (hO:w.ownsRow base t 5 (.slice la es.length lc) es.length cs) (hCE:Z3w S w cs es) (hS:∀ b,S b→S' b) (hB:∀ b,base≤b→S' b):Z6q S' w la es:=by
 intro h0
 obtain ⟨hl,⟨e1,e2⟩ | ⟨g',cap',cur,e1,hb,hg,h1,h2,h3,h4⟩⟩:=hO
 ·omega
 ·simp at e1
  obtain ⟨rfl,rfl⟩:=e1
  refine ⟨g',0,rfl,hB _ hb,fun i e hi => ?_⟩
  obtain ⟨c0,c1,c2,c3,c4,q0,q1,q2,q3,q4,hr⟩:=hCE.2 i e hi
  have hi':=(List.getElem?_eq_some_iff.1 hi).1
  have hc:∀ j v,cs[j]?=some v→j<es.length*5→w.cell? ⟨g',j,none⟩=some v:=fun j v hj hlt=>by
   rw [cell_of_row w g' _ _ _ _ hg]
   rw [←h4,List.getElem?_take_of_lt hlt] at hj
   simpa using hj
  refine ⟨c0,c1,c2,c3,c4,?_,?_,?_,?_,?_,hr.same (fun _ _ _=>rfl) (fun b h _=>hS b h)⟩ <;> rw [Nat.zero_add] <;> exact hc _ _ (by assumption) (by omega)

structure BkCO (w0:World) (es:List (DataW Unit)) (v:Value) (w:World):Prop where
 l:∃ cs,w.ownsRow w0.heap.size 72 5 v es.length cs∧Z3w (fun b=>w0.heap.size≤b∧v.ownBlock≠some b) w cs es
 bl:Below w0.heap.size w0 w
theorem BkCO.go {w0 w w':World}{es:List (DataW Unit)}{v:Value} (C:BkCO w0 es v w) (hb:Below w.heap.size w w'):BkCO w0 es v w':=by
 obtain ⟨cs,h2,h3⟩:=C.l
 exact ⟨⟨cs,Z0j h2 (fun k hk=>hb.block k (own_lt h2 k hk)),h3.same (Z06 hb) (fun b hb _=>hb)⟩,C.bl.trans (hb.mono C.bl.size)⟩
theorem Zqz {w0 w w5 w2:World}{es:List (DataW Unit)}{e:DataW Unit}{v:Value}{cs:List Value}{c0 c1 c2 c3 c4:Value}{gn capn:Nat} (C:BkCO w0 es v w) (hO:w.ownsRow w0.heap.size 72 5 v es.length cs) (hCE:Z3w (fun b=>w0.heap.size≤b∧v.ownBlock≠some b) w cs es)
  (hb5:Below w.heap.size w w5) (hrep:Zvf (fun b=>w.heap.size≤b) w5 [c0,c1,c2,c3,c4] e) (hz:∃ wb,Below w5.heap.size w5 wb∧wb.grownBy w2 v.ownBlock∧(v.ownBlock=some gn∨gn=wb.heap.size))
  (hown2:w2.ownsRow w0.heap.size 72 5 (.slice (some ⟨gn,0,none⟩) (es.length+1) capn) (es.length+1) (cs ++ [c0,c1,c2,c3,c4])):BkCO w0 (es ++ [e]) (.slice (some ⟨gn,0,none⟩) (es.length+1) capn) w2:=by
 obtain ⟨wb,hbb,hgrow,hat⟩:=hz
 have hsz:=C.bl.size
 have hs5:=hb5.size
 have hsb:=hbb.size
 have hs2:=hgrow.size
 have hgnO:∀ j,j<w.heap.size→v.ownBlock≠some j→j≠gn:=fun j hj hn h=>by
  rcases hat with h1 | h1
  ·exact hn (h ▸ h1)
  ·omega
 have hgnN:∀ j,w.heap.size≤j→j<w5.heap.size→j≠gn:=fun j hj hj5 h=>by
  rcases hat with h1 | h1
  ·have:=own_lt hO gn h1
   omega
  ·omega
 have f2:∀ j,j<w5.heap.size→v.ownBlock≠some j→w2.heap[j]?=w5.heap[j]?:=fun j hj hn=>(hgrow.block j (by omega) (fun h=>hn h.symm)).trans (hbb.block j hj)
 have f6:∀ j,j<w.heap.size→v.ownBlock≠some j→w2.heap[j]?=w.heap[j]?:=fun j hl hn=>(f2 j (by omega) hn).trans (hb5.block j hl)
 refine ⟨⟨_,by rw [List.length_append];exact hown2,?_⟩,Below.grown (C.bl.trans ((hb5.mono hsz).trans (hbb.mono (by omega)))) hgrow (by omega) (fun j hj=>by have:=Z20 hO j hj;omega)⟩
 refine Z3w.snoc (hCE.same (fun b hb hl=>f6 b hl hb.2) (fun b hb hl=>⟨hb.1,fun h=>hgnO b hl hb.2 ?_⟩)) (hrep.same (fun b hb hl => ?_) (fun b hb hl=>⟨by omega,fun h=>hgnN b hb hl ?_⟩))
 ·simp [Value.ownBlock] at h
  omega
 ·exact f2 b hl (fun h=>by have:=own_lt hO b h;omega)
 ·simp [Value.ownBlock] at h
  omega
theorem Zmg:(prog.info? 72).map (fun i=>(i.zero,i.size,i.bytes))=some (some (.agg #[.string ⟨#[]⟩,.int .i64 0,.string ⟨#[]⟩,.slice none 0 0,.slice none 0 0]),5,88):=by kernel_rfl
theorem Z5b {w:World}{b:Nat}{u0 u1 u2 u3 u4:Value} (h:w.heap[b]?=some (.cells #[u0,u1,u2,u3,u4] 72)) :
  w.cell? ⟨b,0,none⟩=some u0∧w.cell? ⟨b,1,none⟩=some u1∧w.cell? ⟨b,2,none⟩=some u2∧w.cell? ⟨b,3,none⟩=some u3∧w.cell? ⟨b,4,none⟩=some u4 ∧ ∀ o,w.frozen? ⟨b,o,none⟩=false:=by
 refine ⟨?_,?_,?_,?_,?_,fun o=>by simp [World.frozen?,h]⟩
 ·rw [cell_of_row w b 0 _ _ _ h];rfl
 ·rw [cell_of_row w b 1 _ _ _ h];rfl
 ·rw [cell_of_row w b 2 _ _ _ h];rfl
 ·rw [cell_of_row w b 3 _ _ _ h];rfl
 ·rw [cell_of_row w b 4 _ _ _ h];rfl

def EFO (w0:World) (op:ByteArray) (z:Int) (s:ByteArray) (P:Value) (el:List (DataW Unit)) (eb:Nat) (la:Option Addr) (lc:Nat) (w:World):Prop:=
 w0.heap.size≤eb∧w.heap[eb]?=some (.cells #[.string op,.int .i64 z,.string s,P,.slice la el.length lc] 72)∧Z6q (fun b=>w0.heap.size≤b∧b≠eb) w la el∧Below w0.heap.size w0 w
theorem Ztx {wr w1:World}{op s:ByteArray}{z:Int}{el:List (DataW Unit)}{la:Option Addr}{lc B:Nat} (hbR:Below wr.heap.size wr w1) (hB:wr.heap.size≤B) (hR:Z6q (fun b=>B≤b) w1 la el) :
  EFO wr op z s (.slice none 0 0) el w1.heap.size la lc (w1.alloc (.cells #[.string op,.int .i64 z,.string s,.slice none 0 0,.slice la el.length lc] 72)):=
 ⟨hbR.size,heap_alloc_new _ _,hR.same (Z06 ((Below.refl _ _).alloc (Nat.le_refl _) _)) (fun b h hl=>⟨by omega,by omega⟩),hbR.alloc hbR.size _⟩
theorem Zqm {wr w1:World}{op s:ByteArray}{z:Int}{el:List (DataW Unit)}{la:Option Addr}{lc B:Nat}{u0 u1 u2 u3 u4:Value} (hbR:Below wr.heap.size wr w1) (hE:w1.heap[wr.heap.size]?=some (.cells #[u0,u1,u2,u3,u4] 72)) (hB:wr.heap.size<B) (hR:Z6q (fun b=>B≤b) w1 la el) :
  EFO wr op z s (.slice none 0 0) el wr.heap.size la lc (Zms w1 wr.heap.size (.string op) (.int .i64 z) (.string s) (.slice none 0 0) (.slice la el.length lc)):=
 ⟨Nat.le_refl _,Zk0 hE _ _ _ _ _,hR.same (fun b h _=>Zju (by omega) _ _ _ _ _) (fun b h hl=>⟨by omega,by omega⟩),Zjj hbR (Nat.le_refl _) _ _ _ _ _⟩
theorem EFO.drew {w0 w:World}{op s:ByteArray}{z:Int}{P:Value}{el:List (DataW Unit)}{eb:Nat}{la:Option Addr}{lc:Nat} (h:EFO w0 op z s P el eb la lc w):EFO w0 op z s P el eb la lc w.drew:=
 ⟨h.1,h.2.1,h.2.2.1.same (fun _ _ _=>rfl) (fun _ h _=>h),h.2.2.2.drew⟩
theorem Zor {w0 w w':World}{op s:ByteArray}{z:Int}{el:List (DataW Unit)}{eb:Nat}{la:Option Addr}{lc:Nat}{P v:Value}{pl:List ByteArray} (h:EFO w0 op z s P el eb la lc w) (hg:w.grownBy w' none) (ho:w'.ownsRow w.heap.size 9 1 v pl.length (pl.map Value.string)) :
  w'.heap[eb]?=some (.cells #[.string op,.int .i64 z,.string s,P,.slice la el.length lc] 72)∧EFO w0 op z s v el eb la lc (w'.setCell ⟨eb,3,none⟩ v) ∧ ∃ pa pc,v = .slice pa pl.length pc∧Z54 (fun b=>w0.heap.size≤b∧b≠eb) (w'.setCell ⟨eb,3,none⟩ v) pa pl:=by
 obtain ⟨h1,h2,h3,h4⟩:=h
 have hel:=Z00 h2
 have f:∀ k,k<w.heap.size→w'.heap[k]?=w.heap[k]?:=fun k hk=>hg.block k hk (fun e=>by cases e)
 have hbl:Below w.heap.size w w':=Below.grown (Below.refl _ _) hg (Nat.le_refl _) (fun k hk=>by cases hk)
 have hwz:=h4.size
 refine ⟨(f eb hel).trans h2,⟨h1,?_,h3.same (fun b hb hl=>(Z07 _ _ _ _ _ hb.2).trans (f b hl)) (fun b h _=>h),(h4.trans (hbl.mono hwz)).setCell h1 _⟩,?_⟩
 ·rw [Z0a ((f eb hel).trans h2)]
  rfl
 ·rcases ho.2 with ⟨e,h0⟩ | ⟨g,cap,cur,e,hgb,hg1,hc1,_,hc2,hc3⟩
  ·refine ⟨none,0,by rw [e,h0],fun hp=>by omega⟩
  ·refine ⟨_,_,e,fun hp=>⟨g,0,rfl,⟨by omega,by omega⟩,fun j t hj => ?_⟩⟩
   have hjl:=(List.getElem?_eq_some_iff.1 hj).1
   rw [Nat.zero_add,World.cell?_of_block (w:=w') (a:=⟨g,j,none⟩) (Z07 _ _ _ _ _ (show g≠eb by omega)),cell_of_row w' g j cur 9 (0,0) hg1,←Array.getElem?_toList]
   have e2:(cur.toList.take (pl.length*1))[j]?=(pl.map Value.string)[j]?:=by rw [hc3]
   rw [List.getElem?_take,if_pos (by omega)] at e2
   rw [e2,List.getElem?_map,hj]
   rfl
theorem Zz5 {w0 w:World}{op s:ByteArray}{z:Int}{el:List (DataW Unit)}{eb:Nat}{la:Option Addr}{lc:Nat}{P v:Value} (h:EFO w0 op z s P el eb la lc w):EFO w0 op z s v el eb la lc (w.setCell ⟨eb,3,none⟩ v):=by
 obtain ⟨h1,h2,h3,h4⟩:=h
 refine ⟨h1,?_,h3.same (fun b hb hl=>Z07 _ _ _ _ _ hb.2) (fun b h _=>h),h4.setCell h1 _⟩
 rw [Z0a h2]
 rfl
theorem Zxw {w0 w:World}{op s:ByteArray}{z:Int}{el:List (DataW Unit)}{eb:Nat}{la pa:Option Addr}{lc pc:Nat}{pl:List ByteArray} (h:EFO w0 op z s (.slice pa pl.length pc) el eb la lc w) (hn:Z54 (fun b=>w0.heap.size≤b∧b≠eb) w pa pl) (hc:el.length≤lc):Zvf (fun b=>w0.heap.size≤b) w [.string op,.int .i64 z,.string s,.slice pa pl.length pc,.slice la el.length lc] (mkE op z s pl el):=
 (Y0b hn h.2.2.1 hc).same (fun _ _ _=>rfl) (fun _ h _=>h.1)
end Go.Proofs.YtflcohidmemfpaaGreatDoor
namespace Go.Proofs.YtflcohidmemfpaaGreatDoor
open Go.Proofs.Tryz
open Go.RowKit

def Zq6 (n:Nat):Prop:=∀ (S:Nat→Prop) (w:World) (la:Option Addr) (lc:Nat) (el:List (DataW Unit)),Z9m S w (Zfj S w n) la el→BTL el→Calls prog 13 #[.slice la el.length lc] w fun ev w' => ∃ la' lc',ev = .returned (.slice la' el.length lc')∧Z6q (fun b=>w.heap.size≤b) w' la' el∧Below w.heap.size w w'∧el.length≤lc'
set_option maxHeartbeats 8000000 in
set_option maxRecDepth 100000 in
theorem Z7t (n:Nat) (hI:∀ m,n=m+1→Zq6 m):Zq6 n:=by
 intro S w la lc el h hk
 have H:=Z01 h
 have HI:=Z01 hI
 have HK:=Z01 hk
 have hn:=hk.1
 clear h hI hk
 go_enter func13,ntmps13
 go_wp2
 go_loopg [3,4] (el.length+1) (fun gk v3 v4 wr => ∃ (j:Nat) (ra:Option Addr) (rc:Nat),gk=el.length+1 - j∧j≤el.length∧v3 = .slice ra j rc∧v4 = .int .i64 (j:Int)∧BkCO w (el.take j) (.slice ra j rc) wr)
 case atStart=>exact ⟨0,none,0,rfl,Nat.zero_le _,rfl,rfl,⟨⟨[],⟨rfl,.inl ⟨rfl,rfl⟩⟩,Z3w.nil _ _⟩,Below.refl _ _⟩⟩
 case round =>
  obtain ⟨j,ra,rc,hgk,hj,hv3,hv4,C⟩:=hrel
  subst hv3 hv4
  have HG:Hid (gk=el.length+1 - j):=hgk
  clear hgk
  have hj0:(0:Int)≤(j:Int):=by omega
  have hb:=C.bl
  have HC:=Z01 C
  have htl:(el.take j).length=j:=by simp;omega
  by_cases hlt:j<el.length
  ·have hI1:(j:Int)<(el.length:Int):=by omega
   obtain ⟨b1,o1,rfl,_,t1⟩:=H.out (by omega)
   obtain ⟨e,he⟩:∃ e,el[j]?=some e:=⟨el[j],by simp [hlt]⟩
   obtain ⟨c0,c1,c2,c3,c4,x0,x1,x2,x3,x4,hr⟩:=t1 j e he
   obtain ⟨m,rfl⟩:∃ m,n=m+1:=by
    cases n with
    | zero=>exact hr.elim
    | succ m=>exact ⟨m,rfl⟩
   obtain ⟨op,s,z,pl,el1,pa,la1,pc,lc1,hd,hcs,g1,g2⟩:=hr
   simp only [List.cons.injEq,and_true] at hcs
   obtain ⟨rfl,rfl,rfl,rfl,rfl⟩:=hcs
   have hT:pl.length≤8796093022208∧BTL el1:=by
    obtain ⟨q,hq⟩:=HK.out.2 e (List.mem_of_getElem? he)
    cases q with
    | zero=>exact hq.elim
    | succ q =>
     obtain ⟨op2,z2,s2,pl2,el2,hd2,q1,q2,q3⟩:=hq
     rw [hd] at hd2
     obtain ⟨rfl,rfl,rfl,rfl,rfl⟩:=Z6e hd2
     exact ⟨q1,q2,fun e he=>⟨q,q3 e he⟩⟩
   have hl1:=Z02 x0
   have HF:Hid (∀ W,Below w.heap.size w W→W.cell? ⟨b1,o1+j*5,none⟩=some (.string op)∧W.cell? ⟨b1,o1+j*5+1,none⟩=some (.int .i64 z)∧W.cell? ⟨b1,o1+j*5+2,none⟩=some (.string s)∧W.cell? ⟨b1,o1+j*5+3,none⟩=some (.slice pa pl.length pc)∧W.cell? ⟨b1,o1+j*5+4,none⟩=some (.slice la1 el1.length lc1)):=fun W hW=>⟨(hW.cell (p:=⟨b1,o1+j*5,none⟩) hl1).trans x0,(hW.cell (p:=⟨b1,o1+j*5+1,none⟩) hl1).trans x1,(hW.cell (p:=⟨b1,o1+j*5+2,none⟩) hl1).trans x2,(hW.cell (p:=⟨b1,o1+j*5+3,none⟩) hl1).trans x3,(hW.cell (p:=⟨b1,o1+j*5+4,none⟩) hl1).trans x4⟩
   have HB:=Z01 (fun W (hW:Below w.heap.size w W)=>HI.out m rfl S W la1 lc1 el1 (g2.same (Z06 hW) (fun b h _=>h) (Z2m (Z06 hW) (fun b h _=>h) m)) hT.2)
   have HN:=Z01 (fun W (hW:Below w.heap.size w W)=>g1.same (S':=S) (w':=W) (Z06 hW) (fun b h _=>h))
   have hpl:=hT.1
   obtain ⟨x0,x1,x2,x3,x4⟩:=HF.out wr hb
   have hsz:=hb.size
   have HTK:Hid (el.take (j+1)=el.take j ++ [mkE op z s pl el1]):=by
    show _=_
    rw [List.take_add_one,he,hd]
    rfl
   clear t1 H he hd hT g1 g2 HI HK C
   go_upto_region 5 with fail
   go_cut [5] from 6 to 46 (fun v5 wx => ∃ (eb:Nat) (la2:Option Addr) (lc2:Nat),v5 = .pointer (some ⟨eb,0,none⟩)∧el1.length≤lc2∧EFO wr op z s (.slice none 0 0) el1 eb la2 lc2 wx)
   case first =>
    go_region_held3 (fun W=>W.cell? ⟨b1,o1+j*5,none⟩=some (.string op)∧W.cell? ⟨b1,o1+j*5+1,none⟩=some (.int .i64 z)∧W.cell? ⟨b1,o1+j*5+2,none⟩=some (.string s)∧W.cell? ⟨b1,o1+j*5+3,none⟩=some (.slice pa pl.length pc)∧W.cell? ⟨b1,o1+j*5+4,none⟩=some (.slice la1 el1.length lc1)) (first | go_keep | exact HF.out _ hbA | exact HF.out _ (hbA.alloc hbA.size _) | exact HF.out _ (hb.alloc hsz _) | exact HF.out _ (hb.alloc hsz _).drew | exact HF.out _ (((((hbA.setCell hsz _).setCell hsz _).setCell hsz _).setCell hsz _).setCell hsz _)) ((go_at_call 13;refine (HB.out _ (by first | exact hb.drew | exact (hb.alloc hsz _).drew | exact hb.drew.alloc hsz _)).mono ?_;rintro ev w1 ⟨la2,lc2,rfl,hR1,hb1,hcp⟩;have hbR:Below wr.heap.size wr w1:=(by first | exact ((Below.refl _ _).drew).trans (hb1.mono (by simp)) | exact (((Below.refl _ _).alloc (Nat.le_refl _) _).drew).trans (hb1.mono (by simp)));have hbA:Below w.heap.size w w1:=hb.trans (hbR.mono hsz);(first | (have hE0:=(hb1.block wr.heap.size (by simp)).trans (heap_alloc_new wr _);obtain ⟨u0,u1,u2,u3,u4,uf⟩:=Z5b hE0;have uf0:=uf 0;have uf1:=uf 1;have uf2:=uf 2;have uf3:=uf 3;have uf4:=uf 4;have ul:=Z00 hE0) | skip)))
    ·go_wp2_with fail
     go_meet
     exact ⟨w1.heap.size,la2,lc2,rfl,hcp,Ztx hbR (by simp) hR1⟩
    ·go_wp2_with fail
     go_meet
     exact ⟨wr.heap.size,la2,lc2,rfl,hcp,Zqm hbR hE0 (by simp) hR1⟩
   case rest =>
    obtain ⟨eb,la2,lc2,rfl,hcp,hE⟩:=hcut
    have hbC:Below w.heap.size w wc:=hb.trans (hE.2.2.2.mono hsz)
    obtain ⟨y0,y1,y2,y3,y4⟩:=HF.out wc hbC
    obtain ⟨u0,u1,u2,u3,u4,uf⟩:=Z5b hE.2.1
    have uf3:=uf 3
    have hel:=Z00 hE.2.1
    have hb1l:b1<w.heap.size:=hl1
    have hne:b1≠eb:=by have:=hE.1;omega
    have hne2:eb≠b1:=fun h=>hne h.symm
    have HNC:=Z01 (HN.out wc hbC)
    have HE:=Z01 hE
    obtain ⟨i0,hi0,hz0,hz1,hz2⟩:=info_parts Zbo
    clear uf hE x0 x1 x2 x3 x4
    go_upto_region 6 with fail
    go_cut [] from 6 to 46 (fun wx => ∃ (pa2:Option Addr) (pc2:Nat),EFO wr op z s (.slice pa2 pl.length pc2) el1 eb la2 lc2 wx∧Z54 (fun b=>wr.heap.size≤b∧b≠eb) wx pa2 pl)
    case first =>
     cases pl with
     | nil =>
      go_region_law (first | (refine Z6n (by rfl) _ _ _ (by rfl) 9 i0 underlying32 hi0 rfl pa pc rfl ?_))
      all_goals (go_wp2_with fail;go_meet)
      all_goals exact ⟨none,0,(Zz5 HE.out).drew,fun h=>absurd h (by simp)⟩
     | cons t1 tl =>
      obtain ⟨nb,no,rfl,_,hts⟩:=HNC.out (by simp)
      have HTS:=Z01 hts
      clear hts
      go_region_law (first | (refine step_append_grows (by rfl) _ _ _ (by rfl) 9 i0 (.string ⟨#[]⟩) 1 16 underlying32 hi0 hz0 hz1 hz2 rfl (by decide) none 0 0 [] (by rfl) (fun _=>⟨rfl,rfl⟩) rfl (fun b h=>by cases h) ⟨nb,no,none⟩ (t1::tl).length pc ((t1::tl).map Value.string) (by rfl) (by simp) (by first | exact Zj4 HTS.out | exact Zl6 HTS.out) (Zkw _) (by simp) (by unfold maxLen;omega) (by omega) ?_;intro v2 w2 hown2 hgrow2;obtain ⟨hbk,hEF,pa2,pc2,hv2,hNN⟩:=Zor (pl:=t1::tl) (by first | exact HE.out | exact HE.out.drew) hgrow2 (by simpa using hown2);subst hv2;obtain ⟨r0,r1,r2,r3,r4,rf⟩:=Z5b hbk;have rf3:=rf 3;have HEF:=Z01 hEF;have HNN:=Z01 hNN;clear hown2 hgrow2 hbk rf hEF hNN))
      all_goals (go_wp2_with fail;go_meet)
      all_goals exact ⟨pa2,pc2,HEF.out,HNN.out⟩
    case rest =>
     obtain ⟨pa2,pc2,hE2,hN2⟩:=hcut
     obtain ⟨u0,u1,u2,u3,u4,uf⟩:=Z5b hE2.2.1
     have hel2:=Z00 hE2.2.1
     have hb5:=hE2.2.2.2
     have HRP:=Z01 (Zxw hE2 hN2 hcp)
     obtain ⟨cs,hO,hCE⟩:=HC.out.l
     have HOo:=Z01 hO
     rw [htl] at hO
     have hO5:=Z0j hO (fun k hk=>hb5.block k (own_lt hO k hk))
     have HOW:=Z01 hO5
     have HO:=Z01 hO
     have HCE:=Z01 hCE
     have HB5:=Z01 hb5
     have hsz2:=hb5.size
     obtain ⟨i1,hi1,hy0,hy1,hy2⟩:=info_parts Zmg
     clear uf hE2 hN2 hO hCE hO5 hb5
     go_wp2_with (first | (at_builtin;refine wpList_append_lies _ rfl _ _ _ rfl w.heap.size 72 i1 (.agg #[.string ⟨#[]⟩,.int .i64 0,.string ⟨#[]⟩,.slice none 0 0,.slice none 0 0]) 5 88 underlying49 hi1 hy0 hy1 hy2 rfl (by decide) _ j cs rfl (HOW.out.alloc _) ⟨wc.heap.size,0,none⟩ 1 1 [.string op,.int .i64 z,.string s,.slice pa2 pl.length pc2,.slice la2 el1.length lc2] rfl rfl (World.news_of_block (cs:=#[.string op,.int .i64 z,.string s,.slice pa2 pl.length pc2,.slice la2 el1.length lc2]) (t:=72) (heap_alloc_new _ _)) Zfz (by decide) (by unfold maxLen;omega) (by omega) (by simp;omega) _ rfl ?_;intro gn capn w2 hown2 hgrow hat hlt2;have HW2:=Z01 hown2;have HZ:Hid (∃ wb,Below wc.heap.size wc wb∧wb.grownBy w2 (Value.slice ra j rc).ownBlock∧((Value.slice ra j rc).ownBlock=some gn∨gn=wb.heap.size)):=⟨_,(Below.refl _ _).alloc (Nat.le_refl _) _,hgrow,hat⟩;clear hown2 hgrow hat))
     have HBK:Hid (BkCO w (el.take (j+1)) (.slice (some ⟨gn,0,none⟩) (j+1) capn) w2):=by
      have h:=Zqz HC.out HOo.out HCE.out HB5.out HRP.out HZ.out (by rw [htl];exact HW2.out)
      rw [htl] at h
      show BkCO _ _ _ _
      rw [HTK.out]
      exact h
     go_roundg (el.length+1 - (j+1))
     case measure=>have:=HG.out;omega
     case rel=>exact ⟨j+1,some ⟨gn,0,none⟩,capn,rfl,by omega,rfl,by go_num,HBK.out⟩
  ·have he2:el.take j=el:=List.take_of_length_le (by omega)
   have hje:j=el.length:=by omega
   subst hje
   obtain ⟨cs,hO,hCE⟩:=C.l
   rw [he2] at hO hCE
   have hcp2:=Zcm hO
   have HZ:=Z01 (Znr hO hCE (S':=fun b=>w.heap.size≤b) (fun b h=>h.1) (fun b h=>h))
   clear C hO hCE HC
   go_wp2
   go_ret
   exact ⟨_,_,rfl,HZ.out,hb,hcp2⟩
theorem Zdy:∀ n,Zq6 n
 | 0=>Z7t 0 (fun m h=>by omega)
 | n+1=>Z7t (n+1) (fun m h=>by
  have e:n=m:=by omega
  exact e ▸ Zdy n)
theorem Zdb (S:Nat→Prop) (w:World) (la:Option Addr) (lc:Nat) (el:List (DataW Unit)) (h:Z9i S w la el) (hk:BTL el):Calls prog 13 #[.slice la el.length lc] w fun ev w' => ∃ la' lc',ev = .returned (.slice la' el.length lc')∧Z6q (fun b=>w.heap.size≤b) w' la' el∧Below w.heap.size w w'∧el.length≤lc':=by
 obtain ⟨n,hn⟩:=Z9m.bound h
 exact Zdy n S w la lc el hn hk
end Go.Proofs.YtflcohidmemfpaaGreatDoor
namespace Go.Proofs.YtflcohidmemfpaaGreatDoor
open Go.Proofs.Tryz
open Go.RowKit

def Z42 (S:Nat→Prop) (w:World) (cs:List Value) (ss:List (DataW Unit)):Prop:=
 cs.length=ss.length*6 ∧ ∀ (i:Nat) (e:DataW Unit),ss[i]?=some e → ∃ c0 c1 c2 c3 c4 c5,cs[i*6]?=some c0∧cs[i*6+1]?=some c1∧cs[i*6+2]?=some c2∧cs[i*6+3]?=some c3∧cs[i*6+4]?=some c4∧cs[i*6+5]?=some c5∧Zbu S w [c0,c1,c2,c3,c4,c5] e
theorem Z42.nil (S:Nat→Prop) (w:World):Z42 S w [] []:=⟨rfl,fun i e h=>by simp at h⟩
theorem Z42.same {S S':Nat→Prop}{w w':World}{cs:List Value}{es:List (DataW Unit)} (h:Z42 S w cs es) (K:Z5i S w w') (hS:∀ b,S b→b<w.heap.size→S' b):Z42 S' w' cs es:=
 ⟨h.1,fun i e hi=>by
  obtain ⟨c0,c1,c2,c3,c4,c5,h0,h1,h2,h3,h4,h5,hr⟩:=h.2 i e hi
  exact ⟨c0,c1,c2,c3,c4,c5,h0,h1,h2,h3,h4,h5,hr.same K hS⟩⟩
theorem Z42.snoc {S:Nat→Prop}{w:World}{cs:List Value}{es:List (DataW Unit)}{c0 c1 c2 c3 c4 c5:Value}{e:DataW Unit} (h:Z42 S w cs es) (he:Zbu S w [c0,c1,c2,c3,c4,c5] e):Z42 S w (cs ++ [c0,c1,c2,c3,c4,c5]) (es ++ [e]):=by
 refine ⟨by simp [h.1];omega,fun i x hi => ?_⟩
 have hlen:=h.1
 rcases Nat.lt_or_ge i es.length with hl | hl
 ·rw [List.getElem?_append_left hl] at hi
  obtain ⟨d0,d1,d2,d3,d4,d5,h0,h1,h2,h3,h4,h5,hr⟩:=h.2 i x hi
  refine ⟨d0,d1,d2,d3,d4,d5,?_,?_,?_,?_,?_,?_,hr⟩ <;> rw [List.getElem?_append_left (by omega)] <;> assumption
 ·have hie:i=es.length:=by
   rcases Nat.lt_or_ge es.length i with h1 | h1
   ·rw [List.getElem?_eq_none (by simp;omega)] at hi
    cases hi
   ·omega
  subst hie
  simp at hi
  subst hi
  refine ⟨c0,c1,c2,c3,c4,c5,?_,?_,?_,?_,?_,?_,he⟩
  ·rw [List.getElem?_append_right (by omega),show es.length*6 - cs.length=0 by omega];rfl
  ·rw [List.getElem?_append_right (by omega),show es.length*6+1 - cs.length=1 by omega];rfl
  ·rw [List.getElem?_append_right (by omega),show es.length*6+2 - cs.length=2 by omega];rfl
  ·rw [List.getElem?_append_right (by omega),show es.length*6+3 - cs.length=3 by omega];rfl
  ·rw [List.getElem?_append_right (by omega),show es.length*6+4 - cs.length=4 by omega];rfl
  ·rw [List.getElem?_append_right (by omega),show es.length*6+5 - cs.length=5 by omega];rfl
theorem Zk3 {S S':Nat→Prop}{w:World}{base t:Nat}{la:Option Addr}{lc:Nat}{cs:List Value}{es:List (DataW Unit)} (hO:w.ownsRow base t 6 (.slice la es.length lc) es.length cs) (hCE:Z42 S w cs es) (hS:∀ b,S b→S' b) (hB:∀ b,base≤b→S' b):Z36 S' w la es:=by
 intro h0
 obtain ⟨hl,⟨e1,e2⟩ | ⟨g',cap',cur,e1,hb,hg,h1,h2,h3,h4⟩⟩:=hO
 ·omega
 ·simp at e1
  obtain ⟨rfl,rfl⟩:=e1
  refine ⟨g',0,rfl,hB _ hb,fun i e hi => ?_⟩
  obtain ⟨c0,c1,c2,c3,c4,c5,q0,q1,q2,q3,q4,q5,hr⟩:=hCE.2 i e hi
  have hi':=(List.getElem?_eq_some_iff.1 hi).1
  have hc:∀ j v,cs[j]?=some v→j<es.length*6→w.cell? ⟨g',j,none⟩=some v:=fun j v hj hlt=>by
   rw [cell_of_row w g' _ _ _ _ hg]
   rw [←h4,List.getElem?_take_of_lt hlt] at hj
   simpa using hj
  refine ⟨c0,c1,c2,c3,c4,c5,?_,?_,?_,?_,?_,?_,hr.same (fun _ _ _=>rfl) (fun b h _=>hS b h)⟩ <;> rw [Nat.zero_add] <;> exact hc _ _ (by assumption) (by omega)
structure BsCO (w0:World) (es:List (DataW Unit)) (v:Value) (w:World):Prop where
 l:∃ cs,w.ownsRow w0.heap.size 52 6 v es.length cs∧Z42 (fun b=>w0.heap.size≤b∧v.ownBlock≠some b) w cs es
 bl:Below w0.heap.size w0 w
theorem Zpg {w0 w w5 w2:World}{es:List (DataW Unit)}{e:DataW Unit}{v:Value}{cs:List Value}{c0 c1 c2 c3 c4 c5:Value}{gn capn:Nat} (C:BsCO w0 es v w) (hO:w.ownsRow w0.heap.size 52 6 v es.length cs) (hCE:Z42 (fun b=>w0.heap.size≤b∧v.ownBlock≠some b) w cs es)
  (hb5:Below w.heap.size w w5) (hrep:Zbu (fun b=>w.heap.size≤b) w5 [c0,c1,c2,c3,c4,c5] e) (hz:∃ wb,Below w5.heap.size w5 wb∧wb.grownBy w2 v.ownBlock∧(v.ownBlock=some gn∨gn=wb.heap.size))
  (hown2:w2.ownsRow w0.heap.size 52 6 (.slice (some ⟨gn,0,none⟩) (es.length+1) capn) (es.length+1) (cs ++ [c0,c1,c2,c3,c4,c5])):BsCO w0 (es ++ [e]) (.slice (some ⟨gn,0,none⟩) (es.length+1) capn) w2:=by
 obtain ⟨wb,hbb,hgrow,hat⟩:=hz
 have hsz:=C.bl.size
 have hs5:=hb5.size
 have hsb:=hbb.size
 have hs2:=hgrow.size
 have hgnO:∀ j,j<w.heap.size→v.ownBlock≠some j→j≠gn:=fun j hj hn h=>by
  rcases hat with h1 | h1
  ·exact hn (h ▸ h1)
  ·omega
 have hgnN:∀ j,w.heap.size≤j→j<w5.heap.size→j≠gn:=fun j hj hj5 h=>by
  rcases hat with h1 | h1
  ·have:=own_lt hO gn h1
   omega
  ·omega
 have f2:∀ j,j<w5.heap.size→v.ownBlock≠some j→w2.heap[j]?=w5.heap[j]?:=fun j hj hn=>(hgrow.block j (by omega) (fun h=>hn h.symm)).trans (hbb.block j hj)
 have f6:∀ j,j<w.heap.size→v.ownBlock≠some j→w2.heap[j]?=w.heap[j]?:=fun j hl hn=>(f2 j (by omega) hn).trans (hb5.block j hl)
 refine ⟨⟨_,by rw [List.length_append];exact hown2,?_⟩,Below.grown (C.bl.trans ((hb5.mono hsz).trans (hbb.mono (by omega)))) hgrow (by omega) (fun j hj=>by have:=Z20 hO j hj;omega)⟩
 refine Z42.snoc (hCE.same (fun b hb hl=>f6 b hl hb.2) (fun b hb hl=>⟨hb.1,fun h=>hgnO b hl hb.2 ?_⟩)) (hrep.same (fun b hb hl => ?_) (fun b hb hl=>⟨by omega,fun h=>hgnN b hb hl ?_⟩))
 ·simp [Value.ownBlock] at h
  omega
 ·exact f2 b hl (fun h=>by have:=own_lt hO b h;omega)
 ·simp [Value.ownBlock] at h
  omega
theorem Znw:(prog.info? 52).map (fun i=>(i.zero,i.size,i.bytes))=some (some (.agg #[.string ⟨#[]⟩,.string ⟨#[]⟩,.slice none 0 0,.slice none 0 0,.slice none 0 0,.slice none 0 0]),6,128):=by kernel_rfl
theorem Z3i {w:World}{b:Nat}{u0 u1 u2 u3 u4 u5:Value} (h:w.heap[b]?=some (.cells #[u0,u1,u2,u3,u4,u5] 52)) :
  w.cell? ⟨b,0,none⟩=some u0∧w.cell? ⟨b,1,none⟩=some u1∧w.cell? ⟨b,2,none⟩=some u2∧w.cell? ⟨b,3,none⟩=some u3∧w.cell? ⟨b,4,none⟩=some u4∧w.cell? ⟨b,5,none⟩=some u5 ∧ ∀ o,w.frozen? ⟨b,o,none⟩=false:=by
 refine ⟨?_,?_,?_,?_,?_,?_,fun o=>by simp [World.frozen?,h]⟩
 ·rw [cell_of_row w b 0 _ _ _ h];rfl
 ·rw [cell_of_row w b 1 _ _ _ h];rfl
 ·rw [cell_of_row w b 2 _ _ _ h];rfl
 ·rw [cell_of_row w b 3 _ _ _ h];rfl
 ·rw [cell_of_row w b 4 _ _ _ h];rfl
 ·rw [cell_of_row w b 5 _ _ _ h];rfl

def SFO (w0:World) (kd nm:ByteArray) (P:Value) (el bd es:List (DataW Unit)) (eb:Nat) (la ba ea:Option Addr) (lc bc ec:Nat) (w:World):Prop:=
 w0.heap.size≤eb∧w.heap[eb]?=some (.cells #[.string kd,.string nm,P,.slice la el.length lc,.slice ba bd.length bc,.slice ea es.length ec] 52)∧(Z6q (fun b=>w0.heap.size≤b∧b≠eb) w la el∧Z36 (fun b=>w0.heap.size≤b∧b≠eb) w ba bd∧Z36 (fun b=>w0.heap.size≤b∧b≠eb) w ea es)∧Below w0.heap.size w0 w
theorem Zun {wr w1:World}{kd nm:ByteArray}{el bd es:List (DataW Unit)}{la ba ea:Option Addr}{lc bc ec:Nat} (hbR:Below wr.heap.size wr w1) (hR:Z6q (fun b=>wr.heap.size≤b) w1 la el∧Z36 (fun b=>wr.heap.size≤b) w1 ba bd∧Z36 (fun b=>wr.heap.size≤b) w1 ea es) :
  SFO wr kd nm (.slice none 0 0) el bd es w1.heap.size la ba ea lc bc ec (w1.alloc (.cells #[.string kd,.string nm,.slice none 0 0,.slice la el.length lc,.slice ba bd.length bc,.slice ea es.length ec] 52)):=
 ⟨hbR.size,heap_alloc_new _ _,⟨hR.1.same (Z06 ((Below.refl _ _).alloc (Nat.le_refl _) _)) (fun b h hl=>⟨h,by omega⟩),hR.2.1.same (Z06 ((Below.refl _ _).alloc (Nat.le_refl _) _)) (fun b h hl=>⟨h,by omega⟩),hR.2.2.same (Z06 ((Below.refl _ _).alloc (Nat.le_refl _) _)) (fun b h hl=>⟨h,by omega⟩)⟩,hbR.alloc hbR.size _⟩
theorem Zd3 {wr w1:World}{kd nm:ByteArray}{el bd es:List (DataW Unit)}{la ba ea:Option Addr}{lc bc ec eb:Nat}{u0 u1 u2 u3 u4 u5:Value} (hbR:Below wr.heap.size wr w1) (heb:wr.heap.size≤eb) (hE:w1.heap[eb]?=some (.cells #[u0,u1,u2,u3,u4,u5] 52)) (hR:Z6q (fun b=>wr.heap.size≤b∧b≠eb) w1 la el∧Z36 (fun b=>wr.heap.size≤b∧b≠eb) w1 ba bd∧Z36 (fun b=>wr.heap.size≤b∧b≠eb) w1 ea es) :
  SFO wr kd nm (.slice none 0 0) el bd es eb la ba ea lc bc ec (Znf w1 eb (.string kd) (.string nm) (.slice none 0 0) (.slice la el.length lc) (.slice ba bd.length bc) (.slice ea es.length ec)):=
 ⟨heb,Zjg hE _ _ _ _ _ _,⟨hR.1.same (fun _ h _=>Z81 h.2 _ _ _ _ _ _) (fun _ h _=>h),hR.2.1.same (fun _ h _=>Z81 h.2 _ _ _ _ _ _) (fun _ h _=>h),hR.2.2.same (fun _ h _=>Z81 h.2 _ _ _ _ _ _) (fun _ h _=>h)⟩,Zjm hbR heb _ _ _ _ _ _⟩
theorem SFO.drew {w0 w:World}{kd nm:ByteArray}{P:Value}{el bd es:List (DataW Unit)}{eb:Nat}{la ba ea:Option Addr}{lc bc ec:Nat} (h:SFO w0 kd nm P el bd es eb la ba ea lc bc ec w):SFO w0 kd nm P el bd es eb la ba ea lc bc ec w.drew:=
 ⟨h.1,h.2.1,⟨h.2.2.1.1.same (fun _ _ _=>rfl) (fun _ h _=>h),h.2.2.1.2.1.same (fun _ _ _=>rfl) (fun _ h _=>h),h.2.2.1.2.2.same (fun _ _ _=>rfl) (fun _ h _=>h)⟩,h.2.2.2.drew⟩
theorem Zos {w0 w w':World}{kd nm:ByteArray}{el bd es:List (DataW Unit)}{eb:Nat}{la ba ea:Option Addr}{lc bc ec:Nat}{P v:Value}{pl:List ByteArray} (h:SFO w0 kd nm P el bd es eb la ba ea lc bc ec w) (hg:w.grownBy w' none) (ho:w'.ownsRow w.heap.size 9 1 v pl.length (pl.map Value.string)) :
  w'.heap[eb]?=some (.cells #[.string kd,.string nm,P,.slice la el.length lc,.slice ba bd.length bc,.slice ea es.length ec] 52)∧SFO w0 kd nm v el bd es eb la ba ea lc bc ec (w'.setCell ⟨eb,2,none⟩ v) ∧ ∃ pa pc,v = .slice pa pl.length pc∧Z54 (fun b=>w0.heap.size≤b∧b≠eb) (w'.setCell ⟨eb,2,none⟩ v) pa pl:=by
 obtain ⟨h1,h2,⟨h3a,h3b,h3c⟩,h4⟩:=h
 have hel:=Z00 h2
 have f:∀ k,k<w.heap.size→w'.heap[k]?=w.heap[k]?:=fun k hk=>hg.block k hk (fun e=>by cases e)
 have hbl:Below w.heap.size w w':=Below.grown (Below.refl _ _) hg (Nat.le_refl _) (fun k hk=>by cases hk)
 have hwz:=h4.size
 refine ⟨(f eb hel).trans h2,⟨h1,?_,⟨h3a.same (fun b hb hl=>(Z07 _ _ _ _ _ hb.2).trans (f b hl)) (fun b h _=>h),h3b.same (fun b hb hl=>(Z07 _ _ _ _ _ hb.2).trans (f b hl)) (fun b h _=>h),h3c.same (fun b hb hl=>(Z07 _ _ _ _ _ hb.2).trans (f b hl)) (fun b h _=>h)⟩,(h4.trans (hbl.mono hwz)).setCell h1 _⟩,?_⟩
 ·rw [Z0a ((f eb hel).trans h2)]
  rfl
 ·rcases ho.2 with ⟨e,h0⟩ | ⟨g,cap,cur,e,hgb,hg1,hc1,_,hc2,hc3⟩
  ·refine ⟨none,0,by rw [e,h0],fun hp=>by omega⟩
  ·refine ⟨_,_,e,fun hp=>⟨g,0,rfl,⟨by omega,by omega⟩,fun j t hj => ?_⟩⟩
   have hjl:=(List.getElem?_eq_some_iff.1 hj).1
   rw [Nat.zero_add,World.cell?_of_block (w:=w') (a:=⟨g,j,none⟩) (Z07 _ _ _ _ _ (show g≠eb by omega)),cell_of_row w' g j cur 9 (0,0) hg1,←Array.getElem?_toList]
   have e2:(cur.toList.take (pl.length*1))[j]?=(pl.map Value.string)[j]?:=by rw [hc3]
   rw [List.getElem?_take,if_pos (by omega)] at e2
   rw [e2,List.getElem?_map,hj]
   rfl
theorem Y07 {w0 w:World}{kd nm:ByteArray}{el bd es:List (DataW Unit)}{eb:Nat}{la ba ea:Option Addr}{lc bc ec:Nat}{P v:Value} (h:SFO w0 kd nm P el bd es eb la ba ea lc bc ec w):SFO w0 kd nm v el bd es eb la ba ea lc bc ec (w.setCell ⟨eb,2,none⟩ v):=by
 obtain ⟨h1,h2,⟨h3a,h3b,h3c⟩,h4⟩:=h
 refine ⟨h1,?_,⟨h3a.same (fun b hb hl=>Z07 _ _ _ _ _ hb.2) (fun b h _=>h),h3b.same (fun b hb hl=>Z07 _ _ _ _ _ hb.2) (fun b h _=>h),h3c.same (fun b hb hl=>Z07 _ _ _ _ _ hb.2) (fun b h _=>h)⟩,h4.setCell h1 _⟩
 rw [Z0a h2]
 rfl
theorem Zwg {w0 w:World}{kd nm:ByteArray}{el bd es:List (DataW Unit)}{eb:Nat}{la ba ea pa:Option Addr}{lc bc ec pc:Nat}{pl:List ByteArray} (h:SFO w0 kd nm (.slice pa pl.length pc) el bd es eb la ba ea lc bc ec w) (hn:Z54 (fun b=>w0.heap.size≤b∧b≠eb) w pa pl) (hc:el.length≤lc):Zbu (fun b=>w0.heap.size≤b) w [.string kd,.string nm,.slice pa pl.length pc,.slice la el.length lc,.slice ba bd.length bc,.slice ea es.length ec] (mkS kd nm pl el bd es):=
 (Zy1 hn h.2.2.1.1 h.2.2.1.2.1 h.2.2.1.2.2 hc).same (fun _ _ _=>rfl) (fun _ h _=>h.1)
end Go.Proofs.YtflcohidmemfpaaGreatDoor
namespace Go.Proofs.YtflcohidmemfpaaGreatDoor
open Go.Proofs.Tryz
open Go.RowKit

def Zpz (n:Nat):Prop:=∀ (S:Nat→Prop) (w:World) (ba:Option Addr) (bc:Nat) (ss:List (DataW Unit)),Z5y S w (Z6p S w n) ba ss→BSL ss→Calls prog 7 #[.slice ba ss.length bc] w fun ev w' => ∃ ba' bc',ev = .returned (.slice ba' ss.length bc')∧Z36 (fun b=>w.heap.size≤b) w' ba' ss∧Below w.heap.size w w'
set_option maxHeartbeats 16000000 in
set_option maxRecDepth 100000 in
theorem Zg6 (n:Nat) (hI:∀ m,n=m+1→Zpz m):Zpz n:=by
 intro S w la lc el h hk
 have H:=Z01 h
 have HI:=Z01 hI
 have HK:=Z01 hk
 have hn:=hk.1
 clear h hI hk
 go_enter func7,ntmps7
 go_wp2
 go_loopg [3,4] (el.length+1) (fun gk v3 v4 wr => ∃ (j:Nat) (ra:Option Addr) (rc:Nat),gk=el.length+1 - j∧j≤el.length∧v3 = .slice ra j rc∧v4 = .int .i64 (j:Int)∧BsCO w (el.take j) (.slice ra j rc) wr)
 case atStart=>exact ⟨0,none,0,rfl,Nat.zero_le _,rfl,rfl,⟨⟨[],⟨rfl,.inl ⟨rfl,rfl⟩⟩,Z42.nil _ _⟩,Below.refl _ _⟩⟩
 case round =>
  obtain ⟨j,ra,rc,hgk,hj,hv3,hv4,C⟩:=hrel
  subst hv3 hv4
  have HG:Hid (gk=el.length+1 - j):=hgk
  clear hgk
  have hj0:(0:Int)≤(j:Int):=by omega
  have hb:=C.bl
  have HC:=Z01 C
  have htl:(el.take j).length=j:=by simp;omega
  by_cases hlt:j<el.length
  ·have hI1:(j:Int)<(el.length:Int):=by omega
   obtain ⟨b1,o1,rfl,_,t1⟩:=H.out (by omega)
   obtain ⟨e,he⟩:∃ e,el[j]?=some e:=⟨el[j],by simp [hlt]⟩
   obtain ⟨c0,c1,c2,c3,c4,c5,x0,x1,x2,x3,x4,x5,hr⟩:=t1 j e he
   obtain ⟨m,rfl⟩:∃ m,n=m+1:=by
    cases n with
    | zero=>exact hr.elim
    | succ m=>exact ⟨m,rfl⟩
   have HS:=Z01 (HI.out m rfl)
   obtain ⟨kd,nm,pl,el1,bd,es,pa,la1,ba1,ea1,pc,lc1,bc1,ec1,hd,hcs,g1,g2,g3,g4⟩:=hr
   simp only [List.cons.injEq,and_true] at hcs
   obtain ⟨rfl,rfl,rfl,rfl,rfl,rfl⟩:=hcs
   have hT:pl.length≤8796093022208∧BTL el1∧BSL bd∧BSL es:=by
    obtain ⟨q,hq⟩:=HK.out.2 e (List.mem_of_getElem? he)
    cases q with
    | zero=>exact hq.elim
    | succ q =>
     obtain ⟨kd2,nm2,pl2,el2,bd2,es2,hd2,q1,q2,q3,q4,q5,q6⟩:=hq
     rw [hd] at hd2
     obtain ⟨rfl,rfl,rfl,rfl,rfl,rfl⟩:=Z72 hd2
     exact ⟨q1,q2,⟨q3,fun e he=>⟨q,q5 e he⟩⟩,q4,fun e he=>⟨q,q6 e he⟩⟩
   have hl1:=Z02 x0
   have HF:Hid (∀ W,Below w.heap.size w W→W.cell? ⟨b1,o1+j*6,none⟩=some (.string kd)∧W.cell? ⟨b1,o1+j*6+1,none⟩=some (.string nm)∧W.cell? ⟨b1,o1+j*6+2,none⟩=some (.slice pa pl.length pc)∧W.cell? ⟨b1,o1+j*6+3,none⟩=some (.slice la1 el1.length lc1)∧W.cell? ⟨b1,o1+j*6+4,none⟩=some (.slice ba1 bd.length bc1)∧W.cell? ⟨b1,o1+j*6+5,none⟩=some (.slice ea1 es.length ec1)):=fun W hW=>⟨(hW.cell (p:=⟨b1,o1+j*6,none⟩) hl1).trans x0,(hW.cell (p:=⟨b1,o1+j*6+1,none⟩) hl1).trans x1,(hW.cell (p:=⟨b1,o1+j*6+2,none⟩) hl1).trans x2,(hW.cell (p:=⟨b1,o1+j*6+3,none⟩) hl1).trans x3,(hW.cell (p:=⟨b1,o1+j*6+4,none⟩) hl1).trans x4,(hW.cell (p:=⟨b1,o1+j*6+5,none⟩) hl1).trans x5⟩
   have HB0:=Z01 (fun W (hW:Below w.heap.size w W)=>Zdb S W la1 lc1 el1 (g2.same (Z06 hW) (fun b h _=>h)) hT.2.1)
   have HB1:=Z01 (fun W (hW:Below w.heap.size w W)=>HS.out S W ba1 bc1 bd (g3.same (Z06 hW) (fun b h _=>h) (Z28 (Z06 hW) (fun b h _=>h) m)) hT.2.2.1)
   have HB2:=Z01 (fun W (hW:Below w.heap.size w W)=>HS.out S W ea1 ec1 es (g4.same (Z06 hW) (fun b h _=>h) (Z28 (Z06 hW) (fun b h _=>h) m)) hT.2.2.2)
   have HN:=Z01 (fun W (hW:Below w.heap.size w W)=>g1.same (S':=S) (w':=W) (Z06 hW) (fun b h _=>h))
   have hpl:=hT.1
   obtain ⟨x0,x1,x2,x3,x4,x5⟩:=HF.out wr hb
   have hsz:=hb.size
   have HTK:Hid (el.take (j+1)=el.take j ++ [mkS kd nm pl el1 bd es]):=by
    show _=_
    rw [List.take_add_one,he,hd]
    rfl
   clear t1 H he hd hT g1 g2 g3 g4 HI HS HK C
   go_upto_region 5 with fail
   go_cut [5] from 6 to 53 (fun v5 wx => ∃ (eb:Nat) (la2 ba2 ea2:Option Addr) (lc2 bc2 ec2:Nat),v5 = .pointer (some ⟨eb,0,none⟩)∧el1.length≤lc2∧SFO wr kd nm (.slice none 0 0) el1 bd es eb la2 ba2 ea2 lc2 bc2 ec2 wx)
   case first =>
    go_region_held3 (fun W=>W.cell? ⟨b1,o1+j*6,none⟩=some (.string kd)∧W.cell? ⟨b1,o1+j*6+1,none⟩=some (.string nm)∧W.cell? ⟨b1,o1+j*6+2,none⟩=some (.slice pa pl.length pc)∧W.cell? ⟨b1,o1+j*6+3,none⟩=some (.slice la1 el1.length lc1)∧W.cell? ⟨b1,o1+j*6+4,none⟩=some (.slice ba1 bd.length bc1)∧W.cell? ⟨b1,o1+j*6+5,none⟩=some (.slice ea1 es.length ec1)) (first | go_keep | with_reducible exact HF.out _ hbA1 | with_reducible exact HF.out _ hbA2 | with_reducible exact HF.out _ hbA3 | with_reducible exact HF.out _ (hbA1.alloc hbA1.size _) | with_reducible exact HF.out _ (hbA2.alloc hbA2.size _) | with_reducible exact HF.out _ (hbA3.alloc hbA3.size _) | with_reducible exact HF.out _ (hb.alloc hsz _) | with_reducible exact HF.out _ (hb.alloc hsz _).drew | with_reducible exact HF.out _ ((((((hbA3.setCell hsz _).setCell hsz _).setCell hsz _).setCell hsz _).setCell hsz _).setCell hsz _) | with_reducible exact HF.out _ ((((((hbA3.setCell hbA1.size _).setCell hbA1.size _).setCell hbA1.size _).setCell hbA1.size _).setCell hbA1.size _).setCell hbA1.size _) | with_reducible exact HF.out _ ((((((hbA3.setCell hbA2.size _).setCell hbA2.size _).setCell hbA2.size _).setCell hbA2.size _).setCell hbA2.size _).setCell hbA2.size _)) (first
     | (go_at_call 13;refine (HB0.out _ (by first | exact hb.drew | exact (hb.alloc hsz _).drew | exact hb.drew.alloc hsz _)).mono ?_;rintro ev w1 ⟨la2,lc2,rfl,hR1,hb1,hcp⟩;have hbR1:Below wr.heap.size wr w1:=(by first | exact ((Below.refl _ _).drew).trans (hb1.mono (by simp)) | exact (((Below.refl _ _).alloc (Nat.le_refl _) _).drew).trans (hb1.mono (by simp)));have hbA1:Below w.heap.size w w1:=hb.trans (hbR1.mono hsz);have hz1:=hbR1.size;(first | (have hE1:=(hb1.block wr.heap.size (by simp)).trans (heap_alloc_new wr _);have hlE1:=Z00 hE1) | skip))
     | (go_at_call_of 7 ba1;refine (HB1.out _ (by first | with_reducible exact hbA1 | with_reducible exact hbA1.alloc hbA1.size _)).mono ?_;rintro ev w2 ⟨ba2,bc2,rfl,hR2,hb2⟩;have hbR2:Below wr.heap.size wr w2:=(by first | exact hbR1.trans (hb2.mono hbR1.size) | exact (hbR1.alloc hbR1.size _).trans (hb2.mono (by simp;omega)));have hbP2:Below w1.heap.size w1 w2:=(by first | exact hb2 | exact ((Below.refl _ _).alloc (Nat.le_refl _) _).trans (hb2.mono (by simp)));have hbA2:Below w.heap.size w w2:=hb.trans (hbR2.mono hsz);have hz2:=hbR2.size;have hy2:=hbP2.size;(first | (have hE2:=(hb2.block wr.heap.size (by have:=Z00 hE1;omega)).trans hE1;have hlE2:=Z00 hE2) | (have hE2:=(hb2.block w1.heap.size (by simp)).trans (heap_alloc_new w1 _);have hlE2:=Z00 hE2) | skip))
     | (go_at_call_of 7 ea1;refine (HB2.out _ (by first | with_reducible exact hbA2 | with_reducible exact hbA2.alloc hbA2.size _)).mono ?_;rintro ev w3 ⟨ea2,ec2,rfl,hR3,hb3⟩;have hbR3:Below wr.heap.size wr w3:=(by first | exact hbR2.trans (hb3.mono hbR2.size) | exact (hbR2.alloc hbR2.size _).trans (hb3.mono (by simp;omega)));have hbP3:Below w2.heap.size w2 w3:=(by first | exact hb3 | exact ((Below.refl _ _).alloc (Nat.le_refl _) _).trans (hb3.mono (by simp)));have hbA3:Below w.heap.size w w3:=hb.trans (hbR3.mono hsz);have hz3:=hbR3.size;have hy3:=hbP3.size;(first | (have hE3:=(hb3.block wr.heap.size (by have:=Z00 hE2;omega)).trans hE2;obtain ⟨u0,u1,u2,u3,u4,u5,uf⟩:=Z3i hE3;have uf0:=uf 0;have uf1:=uf 1;have uf2:=uf 2;have uf3:=uf 3;have uf4:=uf 4;have uf5:=uf 5;have ul:=Z00 hE3) | (have hE3:=(hb3.block w1.heap.size (by have:=Z00 hE2;omega)).trans hE2;obtain ⟨u0,u1,u2,u3,u4,u5,uf⟩:=Z3i hE3;have uf0:=uf 0;have uf1:=uf 1;have uf2:=uf 2;have uf3:=uf 3;have uf4:=uf 4;have uf5:=uf 5;have ul:=Z00 hE3) | (have hE3:=(hb3.block w2.heap.size (by simp)).trans (heap_alloc_new w2 _);obtain ⟨u0,u1,u2,u3,u4,u5,uf⟩:=Z3i hE3;have uf0:=uf 0;have uf1:=uf 1;have uf2:=uf 2;have uf3:=uf 3;have uf4:=uf 4;have uf5:=uf 5;have ul:=Z00 hE3) | skip)))
    ·go_wp2_with fail
     go_meet
     exact ⟨w3.heap.size,la2,ba2,ea2,lc2,bc2,ec2,rfl,hcp,Zun hbR3 ⟨hR1.same (Z06 (hbP2.trans (hbP3.mono hbP2.size))) (fun b h _=>by first | omega | (simp at h;omega)),hR2.same (Z06 hbP3) (fun b h _=>by first | omega | (simp at h;omega)),hR3.same (fun _ _ _=>rfl) (fun b h _=>by first | omega | (simp at h;omega))⟩⟩
    ·go_wp2_with fail
     go_meet
     exact ⟨w2.heap.size,la2,ba2,ea2,lc2,bc2,ec2,rfl,hcp,Zd3 hbR3 (by omega) hE3 ⟨hR1.same (Z06 (hbP2.trans (hbP3.mono hbP2.size))) (fun b h hl=>by first | exact ⟨by omega,by omega⟩ | (simp at h;exact ⟨by omega,by omega⟩)),hR2.same (Z06 hbP3) (fun b h hl=>by first | exact ⟨by omega,by omega⟩ | (simp at h;exact ⟨by omega,by omega⟩)),hR3.same (fun _ _ _=>rfl) (fun b h hl=>by first | exact ⟨by omega,by omega⟩ | (simp at h;exact ⟨by omega,by omega⟩))⟩⟩
    ·go_wp2_with fail
     go_meet
     exact ⟨w1.heap.size,la2,ba2,ea2,lc2,bc2,ec2,rfl,hcp,Zd3 hbR3 (by omega) hE3 ⟨hR1.same (Z06 (hbP2.trans (hbP3.mono hbP2.size))) (fun b h hl=>by first | exact ⟨by omega,by omega⟩ | (simp at h;exact ⟨by omega,by omega⟩)),hR2.same (Z06 hbP3) (fun b h hl=>by first | exact ⟨by omega,by omega⟩ | (simp at h;exact ⟨by omega,by omega⟩)),hR3.same (fun _ _ _=>rfl) (fun b h hl=>by first | exact ⟨by omega,by omega⟩ | (simp at h;exact ⟨by omega,by omega⟩))⟩⟩
    ·go_wp2_with fail
     go_meet
     exact ⟨wr.heap.size,la2,ba2,ea2,lc2,bc2,ec2,rfl,hcp,Zd3 hbR3 (by omega) hE3 ⟨hR1.same (Z06 (hbP2.trans (hbP3.mono hbP2.size))) (fun b h hl=>by first | exact ⟨by omega,by omega⟩ | (simp at h;exact ⟨by omega,by omega⟩)),hR2.same (Z06 hbP3) (fun b h hl=>by first | exact ⟨by omega,by omega⟩ | (simp at h;exact ⟨by omega,by omega⟩)),hR3.same (fun _ _ _=>rfl) (fun b h hl=>by first | exact ⟨by omega,by omega⟩ | (simp at h;exact ⟨by omega,by omega⟩))⟩⟩
   case rest =>
    obtain ⟨eb,la2,ba2,ea2,lc2,bc2,ec2,rfl,hcp,hE⟩:=hcut
    have hbC:Below w.heap.size w wc:=hb.trans (hE.2.2.2.mono hsz)
    obtain ⟨y0,y1,y2,y3,y4,y5⟩:=HF.out wc hbC
    obtain ⟨u0,u1,u2,u3,u4,u5,uf⟩:=Z3i hE.2.1
    have uf2:=uf 2
    have hel:=Z00 hE.2.1
    have hb1l:b1<w.heap.size:=hl1
    have hne:b1≠eb:=by have:=hE.1;omega
    have hne2:eb≠b1:=fun h=>hne h.symm
    have HNC:=Z01 (HN.out wc hbC)
    have HE:=Z01 hE
    obtain ⟨i0,hi0,hz0,hz1,hz2⟩:=info_parts Zbo
    clear uf hE x0 x1 x2 x3 x4 x5
    go_upto_region 6 with fail
    go_cut [] from 6 to 53 (fun wx => ∃ (pa2:Option Addr) (pc2:Nat),SFO wr kd nm (.slice pa2 pl.length pc2) el1 bd es eb la2 ba2 ea2 lc2 bc2 ec2 wx∧Z54 (fun b=>wr.heap.size≤b∧b≠eb) wx pa2 pl)
    case first =>
     cases pl with
     | nil =>
      go_region_law (first | (refine Z6n (by rfl) _ _ _ (by rfl) 9 i0 underlying32 hi0 rfl pa pc rfl ?_))
      all_goals (go_wp2_with fail;go_meet)
      all_goals exact ⟨none,0,(Y07 HE.out).drew,fun h=>absurd h (by simp)⟩
     | cons t1 tl =>
      obtain ⟨nb,no,rfl,_,hts⟩:=HNC.out (by simp)
      have HTS:=Z01 hts
      clear hts
      go_region_law (first | (refine step_append_grows (by rfl) _ _ _ (by rfl) 9 i0 (.string ⟨#[]⟩) 1 16 underlying32 hi0 hz0 hz1 hz2 rfl (by decide) none 0 0 [] (by rfl) (fun _=>⟨rfl,rfl⟩) rfl (fun b h=>by cases h) ⟨nb,no,none⟩ (t1::tl).length pc ((t1::tl).map Value.string) (by rfl) (by simp) (by first | exact Zj4 HTS.out | exact Zl6 HTS.out) (Zkw _) (by simp) (by unfold maxLen;omega) (by omega) ?_;intro v2 w2 hown2 hgrow2;obtain ⟨hbk,hSF,pa2,pc2,hv2,hNN⟩:=Zos (pl:=t1::tl) (by first | exact HE.out | exact HE.out.drew) hgrow2 (by simpa using hown2);subst hv2;obtain ⟨r0,r1,r2,r3,r4,r5,rf⟩:=Z3i hbk;have rf2:=rf 2;have HSF:=Z01 hSF;have HNN:=Z01 hNN;clear hown2 hgrow2 hbk rf hSF hNN))
      all_goals (go_wp2_with fail;go_meet)
      all_goals exact ⟨pa2,pc2,HSF.out,HNN.out⟩
    case rest =>
     obtain ⟨pa2,pc2,hE2,hN2⟩:=hcut
     obtain ⟨u0,u1,u2,u3,u4,u5,uf⟩:=Z3i hE2.2.1
     have hel2:=Z00 hE2.2.1
     have hb5:=hE2.2.2.2
     have HRP:=Z01 (Zwg hE2 hN2 hcp)
     obtain ⟨cs,hO,hCE⟩:=HC.out.l
     have HOo:=Z01 hO
     rw [htl] at hO
     have hO5:=Z0j hO (fun k hk=>hb5.block k (own_lt hO k hk))
     have HOW:=Z01 hO5
     have HO:=Z01 hO
     have HCE:=Z01 hCE
     have HB5:=Z01 hb5
     have hsz2:=hb5.size
     obtain ⟨i1,hi1,hy0,hy1,hy2⟩:=info_parts Znw
     clear uf hE2 hN2 hO hCE hO5 hb5
     go_wp2_with (first | (at_builtin;refine wpList_append_lies _ rfl _ _ _ rfl w.heap.size 52 i1 (.agg #[.string ⟨#[]⟩,.string ⟨#[]⟩,.slice none 0 0,.slice none 0 0,.slice none 0 0,.slice none 0 0]) 6 128 underlying30 hi1 hy0 hy1 hy2 rfl (by decide) _ j cs rfl (HOW.out.alloc _) ⟨wc.heap.size,0,none⟩ 1 1 [.string kd,.string nm,.slice pa2 pl.length pc2,.slice la2 el1.length lc2,.slice ba2 bd.length bc2,.slice ea2 es.length ec2] rfl rfl (Zq1 _ _ _ _ _ _ _ _) Zsc (by decide) (by unfold maxLen;omega) (by omega) (by simp;omega) _ rfl ?_;intro gn capn w2 hown2 hgrow hat hlt2;have HW2:=Z01 hown2;have HZ:Hid (∃ wb,Below wc.heap.size wc wb∧wb.grownBy w2 (Value.slice ra j rc).ownBlock∧((Value.slice ra j rc).ownBlock=some gn∨gn=wb.heap.size)):=⟨_,(Below.refl _ _).alloc (Nat.le_refl _) _,hgrow,hat⟩;clear hown2 hgrow hat))
     have HBK:Hid (BsCO w (el.take (j+1)) (.slice (some ⟨gn,0,none⟩) (j+1) capn) w2):=by
      have h:=Zpg HC.out HOo.out HCE.out HB5.out HRP.out HZ.out (by rw [htl];exact HW2.out)
      rw [htl] at h
      show BsCO _ _ _ _
      rw [HTK.out]
      exact h
     go_roundg (el.length+1 - (j+1))
     case measure=>have:=HG.out;omega
     case rel=>exact ⟨j+1,some ⟨gn,0,none⟩,capn,rfl,by omega,rfl,by go_num,HBK.out⟩
  ·have he2:el.take j=el:=List.take_of_length_le (by omega)
   have hje:j=el.length:=by omega
   subst hje
   obtain ⟨cs,hO,hCE⟩:=C.l
   rw [he2] at hO hCE
   have HZ:=Z01 (Zk3 hO hCE (S':=fun b=>w.heap.size≤b) (fun b h=>h.1) (fun b h=>h))
   clear C hO hCE HC
   go_wp2
   go_ret
   exact ⟨_,_,rfl,HZ.out,hb⟩
theorem Ze5:∀ n,Zpz n
 | 0=>Zg6 0 (fun m h=>by omega)
 | n+1=>Zg6 (n+1) (fun m h=>by
  have e:n=m:=by omega
  exact e ▸ Ze5 n)
theorem Zom (S:Nat→Prop) (w:World) (ba:Option Addr) (bc:Nat) (ss:List (DataW Unit)) (h:Z31 S w ba ss) (hk:BSL ss):Calls prog 7 #[.slice ba ss.length bc] w fun ev w' => ∃ ba' bc',ev = .returned (.slice ba' ss.length bc')∧Z36 (fun b=>w.heap.size≤b) w' ba' ss∧Below w.heap.size w w':=by
 obtain ⟨n,hn⟩:=Z7y h
 exact Ze5 n S w ba bc ss hn hk
end Go.Proofs.YtflcohidmemfpaaGreatDoor
