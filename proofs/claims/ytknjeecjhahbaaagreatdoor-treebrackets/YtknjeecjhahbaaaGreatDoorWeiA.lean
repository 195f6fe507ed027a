/- The law's own helpers: Weight of any statements answers some int. -/
import Derived.Test.YtknjeecjhahbaaaGreatDoorBaV
import Derived.Test.YtknjeecjhahbaaaGreatDoorCopyB
set_option linter.all false
namespace Go.Proofs.YtknjeecjhahbaaaGreatDoor
open Go.RowKit

def WtE (n:Nat):Prop:=∀ (S:Nat→Prop) (w:World) (c0 c1 c2 c3 c4:Value) (e:DataW Unit),repV S w n [c0,c1,c2,c3,c4] e→BT e→ZT e→Calls Tryz.prog 6 #[.agg #[c0,c1,c2,c3,c4]] w fun ev w' => ∃ x:Int,ev = .returned (.int .i64 x)∧Below w.heap.size w w'
theorem zT_parts {op s:ByteArray}{z:Int}{pl:List ByteArray}{el:List (DataW Unit)} (hk:ZT (mkE op z s pl el)):Fs s∧ZTL el:=by
 obtain ⟨m,hm⟩:=hk
 cases m with
 | zero=>exact hm.elim
 | succ m =>
  obtain ⟨_,_,_,_,_,hd2,_,q2,_,_,q5⟩:=hm
  obtain ⟨rfl,rfl,rfl,rfl,rfl⟩:=mkE_inj hd2
  exact ⟨q2,fun e he=>⟨m,q5 e he⟩⟩
theorem okT_parts' {op s:ByteArray}{z:Int}{pl:List ByteArray}{el:List (DataW Unit)} (hk:BT (mkE op z s pl el)):pl.length≤8796093022208∧BTL el:=by
 obtain ⟨m,hm⟩:=hk
 cases m with
 | zero=>exact hm.elim
 | succ m =>
  obtain ⟨op2,z2,s2,pl2,el2,hd2,q1,q2,q3⟩:=hm
  obtain ⟨rfl,rfl,rfl,rfl,rfl⟩:=mkE_inj hd2
  exact ⟨q1,q2,fun e he=>⟨m,q3 e he⟩⟩
set_option maxHeartbeats 4000000 in
set_option maxRecDepth 100000 in
theorem weightOf_step (n:Nat) (hI:WtE n):WtE (n+1):=by
 intro S w c0 c1 c2 c3 c4 e h hk hz
 obtain ⟨op,s,z,pl,el,pa,la,pc,lc,rfl,hcs,h1,h2⟩:=h
 simp only [List.cons.injEq,and_true] at hcs
 obtain ⟨rfl,rfl,rfl,rfl,rfl⟩:=hcs
 obtain ⟨hp,hT⟩:=okT_parts' hk
 obtain ⟨hs,hZ⟩:=zT_parts hz
 have hn:=hT.1
 obtain ⟨wE,hE⟩:∃ wE,wE=w.alloc (.cells #[.string op,.int .i64 z,.string s,.slice pa pl.length pc,.slice la el.length lc] 25):=⟨_,rfl⟩
 have hb0:Below w.heap.size w wE:=by rw [hE];exact (Below.refl _ _).alloc (Nat.le_refl _) _
 have hs0:wE.heap.size=w.heap.size+1:=by rw [hE];simp
 have e0:wE.heap[w.heap.size]?=some (.cells #[.string op,.int .i64 z,.string s,.slice pa pl.length pc,.slice la el.length lc] 25):=by rw [hE];exact heap_alloc_new w _
 have HC4:Hid (∀ W,Below wE.heap.size wE W→W.cell? ⟨w.heap.size,4,none⟩=some (.slice la el.length lc)):=fun W hW=>by
  rw [cell_of_row _ _ 4 _ _ _ ((hW.block w.heap.size (by omega)).trans e0)]
  rfl
 have HB0:=toHid hb0
 have HE:=toHid hE
 have HI:=toHid hI
 have H2:=toHid h2
 have HK:=toHid hT
 have HZ:=toHid hZ
 clear hb0 e0 hE hI h1 h2 hk hz hT hZ hs0
 go_enter Tryz.func6,Tryz.ntmps6
 go_wp2_with fail
 go_loopg [3,4] (el.length+1) (fun gk v3 v4 wr => ∃ (j:Nat) (x:Int),gk=el.length+1 - j∧j≤el.length∧v3 = .int .i64 x∧v4 = .int .i64 (j:Int)∧Below wE.heap.size wE wr)
 case atStart=>exact ⟨0,_,rfl,Nat.zero_le _,rfl,rfl,by rw [HE.out];exact Below.refl _ _⟩
 case round =>
  obtain ⟨j,x,hgk,hj,rfl,rfl,hbE⟩:=hrel
  have HG:Hid (gk=el.length+1 - j):=hgk
  have hb:Below w.heap.size w wr:=HB0.out.trans (hbE.mono HB0.out.size)
  have k4:=HC4.out wr hbE
  have kl:=lt_of_cell k4
  have HBE:=toHid hbE
  clear hgk hbE
  have hj0:(0:Int)≤(j:Int):=by omega
  by_cases hlt:j<el.length
  ·have hI1:(j:Int)<(el.length:Int):=by omega
   obtain ⟨b1,o1,rfl,_,t1⟩:=H2.out (by omega)
   obtain ⟨e,he⟩:∃ e,el[j]?=some e:=⟨el[j],by simp [hlt]⟩
   obtain ⟨c0,c1,c2,c3,c4,x0,x1,x2,x3,x4,hr⟩:=t1 j e he
   have hl1:=lt_of_cell x0
   have x0:=(hb.cell (p:=⟨b1,o1+j*5,none⟩) hl1).trans x0
   have x1:=(hb.cell (p:=⟨b1,o1+j*5+1,none⟩) hl1).trans x1
   have x2:=(hb.cell (p:=⟨b1,o1+j*5+2,none⟩) hl1).trans x2
   have x3:=(hb.cell (p:=⟨b1,o1+j*5+3,none⟩) hl1).trans x3
   have x4:=(hb.cell (p:=⟨b1,o1+j*5+4,none⟩) hl1).trans x4
   have hk1:=lt_of_cell x0
   have HC:=toHid (HI.out S wr c0 c1 c2 c3 c4 e (repV_same (same_below hb) (fun b h _=>h) n _ _ hr) (HK.out.2 e (List.mem_of_getElem? he)) (HZ.out e (List.mem_of_getElem? he)))
   clear t1 H2 he hr
   go_wp2_with fail
   refine HC.out.mono ?_
   rintro ev w1 ⟨x',rfl,hb1⟩
   have HB1:=toHid (HBE.out.trans (hb1.mono HBE.out.size))
   clear hb1 k4 kl x0 x1 x2 x3 x4 hk1 hb
   go_wp2_with fail
   go_roundg (el.length+1 - (j+1))
   case measure=>have:=HG.out;omega
   case rel=>exact ⟨j+1,_,rfl,by omega,rfl,by go_num,HB1.out⟩
  ·clear H2
   have HB:=toHid hb
   clear hb
   go_wp2_with fail
   go_ret
   first | exact ⟨⟨_,rfl⟩,HB.out⟩ | exact ⟨_,rfl,HB.out⟩
theorem wtE_all:∀ n,WtE n
 | 0=>fun _ _ _ _ _ _ _ _ h _ _=>h.elim
 | n+1=>weightOf_step n (wtE_all n)
end Go.Proofs.YtknjeecjhahbaaaGreatDoor
