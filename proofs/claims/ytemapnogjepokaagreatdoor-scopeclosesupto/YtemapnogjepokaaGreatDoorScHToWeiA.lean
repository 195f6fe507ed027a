/- Package scope: word. -/
import Derived.Test.YtemapnogjepokaaGreatDoorSizeQToScG
import Derived.Deep.Upon
import Derived.Deep.RegionLawGrows
namespace Go.Proofs.YtemapnogjepokaaGreatDoor
open Go.RowKit Go.Maps

theorem FS.claim {B p c:Nat}{l:List SD}{w w2:World}{o:Obj}{gn capn:Nat}(h:FS B p c l w) {vs vc:Value}{bg wr:Int}{cl:List (Int × Int × ByteArray)}(h1:w.heap[p]?=some (.cells #[vs,.int .i64 bg,.int .i64 wr,vc] 58)) (h2:w.ownsRow B 47 1 vs l.length (l.map spPtr)) (h3:w.ownsRow B 88 3 vc cl.length (cl.flatMap clCells)) (h4:0≤bg∧bg≤c) (h5 : -1≤wr∧wr≤c) (h6:cl.length≤c) (h7:∀ y∈cl,(0≤y.1∧y.1≤c)∧(0≤y.2.1∧y.2.1<l.length)∧y.2.2.size≤2000000)
  (y:Int × Int × ByteArray) (hy:(0≤y.1∧y.1≤c)∧(0≤y.2.1∧y.2.1<l.length)∧y.2.2.size≤2000000) (hg:(w.alloc o).grownBy w2 vc.ownBlock) (hown:w2.ownsRow B 88 3 (.slice (some ⟨gn,0,none⟩) (cl.length+1) capn) (cl.length+1) (cl.flatMap clCells++clCells y)) :
  w2.heap[p]?=w.heap[p]?∧FS B p (c+1) l (w2.setCell ⟨p,3,none⟩ (.slice (some ⟨gn,0,none⟩) (cl.length+1) capn))∧Fr B w (w2.setCell ⟨p,3,none⟩ (.slice (some ⟨gn,0,none⟩) (cl.length+1) capn)):=by
 have hsz:(w.alloc o).heap.size=w.heap.size+1:=by simp
 have key:∀ q,q<w.heap.size→vc.ownBlock≠some q→w2.heap[q]?=w.heap[q]?:=fun q hq hn=>(hg.block q (by omega) (fun e=>hn e.symm)).trans (Below.heap_alloc _ _ _ hq)
 have typ:∀ {q:Nat}{cs:Array Value}{t:TypeId}{fz:Nat × Nat},w.heap[q]?=some (.cells cs t fz)→t≠88→vc.ownBlock≠some q:=fun hq ht e=>by
  obtain ⟨_,cur,e2⟩:=row_block h3 e
  rw [hq] at e2
  simp at e2
  exact ht e2.2.1
 have npo:∀ {q:Nat}{cs:Array Value}{t:TypeId}{fz:Nat × Nat},w.heap[q]?=some (.cells cs t fz)→t≠58→q≠p:=fun hq ht e=>by
  rw [e,h1] at hq
  simp at hq
  exact ht hq.2.1.symm
 have hp2:=key p (lt_of_heap h1) (typ h1 (by decide))
 have sp1:∀ x,SpAt B w x → ∀ q,x.has q→(w2.setCell ⟨p,3,none⟩ (.slice (some ⟨gn,0,none⟩) (cl.length+1) capn)).heap[q]?=w.heap[q]?:=fun x hx q hq=>by
  have hl:=(hx.lt hq).1
  have n1:q≠p:=fun e=>sp_types hx h1 (by decide) (by decide) (e ▸ hq)
  rw [heap_set _ _ _ _ _ n1]
  refine key q hl (fun e => ?_)
  obtain ⟨_,cur,e2⟩:=row_block h3 e
  exact sp_types hx e2 (by decide) (by decide) hq
 obtain ⟨_,cur,eg⟩:=row_block hown (g:=gn) rfl
 have gp:gn≠p:=fun e=>by
  rw [e,hp2,h1] at eg
  simp at eg
 refine ⟨hp2,⟨⟨vs,bg,wr,_,cl ++ [y],by rw [heap_set_same (hp2.trans h1)];rfl,row_kept h2 (fun g hgo => ?_),?_,by omega,by omega,by rw [List.length_append];simp;omega,fun z hz => ?_⟩,⟨fun i x hi=>(h.sp.all i x hi).kept (sp1 x (h.sp.all i x hi) _ (.inl rfl)) (sp1 x (h.sp.all i x hi) _ (.inr (.inl rfl))) (fun g hg=>sp1 x (h.sp.all i x hi) _ (.inr (.inr hg))),h.sp.two⟩,h.ar,fun i x hi => ?_,by have:=h.len;omega,h.hp⟩,⟨⟨hg.os,hg.tape,hg.output,?_,fun k hk => ?_⟩,fun q cs t fz hq ht => ?_⟩⟩
 ·obtain ⟨_,cur,e⟩:=row_block h2 hgo
  rw [heap_set _ _ _ _ _ (npo e (by decide))]
  exact key g (lt_of_heap e) (typ e (by decide))
 ·have:=row_kept (w':=w2.setCell ⟨p,3,none⟩ (.slice (some ⟨gn,0,none⟩) (cl.length+1) capn)) hown (fun g e=>by
   simp [Value.ownBlock] at e
   subst e
   exact heap_set _ _ _ _ _ gp)
  rw [List.length_append,List.flatMap_append]
  simpa using this
 ·rcases List.mem_append.1 hz with hz | hz
  ·obtain ⟨a,b,d⟩:=h7 z hz
   exact ⟨by omega,b,d⟩
  ·simp at hz
   subst hz
   exact ⟨by omega,hy.2⟩
 ·obtain ⟨a,b,d,e⟩:=h.lo i x hi
  exact ⟨by omega,by omega,by omega,e⟩
 ·have:=hg.size
  simp [World.setCell]
  omega
 ·have hkp:=h.hp
  have hlt:=h.lt
  rw [heap_set _ _ _ _ _ (by omega)]
  refine key k (by omega) (fun e => ?_)
  have:=(row_block h3 e).1
  omega
 ·rw [heap_set _ _ _ _ _ (npo hq (by rcases ht with rfl | rfl <;> decide))]
  exact (key q (lt_of_heap hq) (typ hq (by rcases ht with rfl | rfl <;> decide))).trans hq
theorem infoClaim:(Tryz.prog.info? 88).map (fun i=>(i.zero,i.size,i.bytes))=some (some (.agg #[.int .i64 0,.int .i64 0,.string ⟨#[]⟩]),3,32):=by kernel_rfl
theorem one_claim (y:Int × Int × ByteArray):∀ u∈clCells y,u.oneCell'=true:=fun u hu=>by
 simp at hu
 rcases hu with rfl | rfl | rfl <;> rfl
set_option maxHeartbeats 16000000 in
set_option maxRecDepth 100000 in
theorem word_any {B p c:Nat}{l:List SD}{w:World}(h:FS B p c l w) (hBw:B≤w.heap.size) (kd nm:ByteArray) (pl:List ByteArray) (pa la ba ea:Option Addr) (pc ln lc bn bc en ec:Nat) (hN:0<pl.length → ∃ b o,pa=some ⟨b,o,none⟩∧b<B∧TS w b o pl) (hz:∀ x∈pl,x.size≤2000000) (in_ at_:Nat) (hin:in_<l.length) (ha:at_≤c) (hc:c+2*pl.length≤1000000000) (looped:Bool) :
  Calls Tryz.prog 45 #[.pointer (some ⟨p,0,none⟩),.agg #[.string kd,.string nm,.slice pa pl.length pc,.slice la ln lc,.slice ba bn bc,.slice ea en ec],.int .i64 (in_:Int),.int .i64 (at_:Int),.bool looped] w fun ev w'=>ev = .returned (.tuple #[])∧Fr B w w' ∧ ∃ l',l'.length=l.length∧FS B p (c+2*pl.length) l' w':=by
 obtain ⟨wE,hE⟩:∃ wE,wE=w.alloc (.cells #[.string kd,.string nm,.slice pa pl.length pc,.slice la ln lc,.slice ba bn bc,.slice ea en ec] 52):=⟨_,rfl⟩
 have hbE:Below w.heap.size w wE:=by rw [hE];exact (Below.refl _ _).alloc (Nat.le_refl _) _
 have hbx:wE.heap[w.heap.size]?=some (.cells #[.string kd,.string nm,.slice pa pl.length pc,.slice la ln lc,.slice ba bn bc,.slice ea en ec] 52):=by rw [hE];exact heap_alloc_new _ _
 have y0:wE.cell? ⟨w.heap.size,0,none⟩=some (.string kd):=by rw [cell_of_row _ _ 0 _ _ _ hbx];rfl
 have y2:wE.cell? ⟨w.heap.size,2,none⟩=some (.slice pa pl.length pc):=by rw [cell_of_row _ _ 2 _ _ _ hbx];rfl
 have HF:=toHid (h.below hbE)
 have HB:=toHid (Fr.of_below hbE hBw)
 have hsz:=hbE.size
 have HE:=toHid hE
 have HZ:=toHid hz
 have HN:Hid (∀ W,Fr B w W→(0<pl.length → ∃ b o,pa=some ⟨b,o,none⟩∧b<B∧TS W b o pl)):=fun W hW h0=>by
  obtain ⟨b,o,e1,e2,e3⟩:=hN h0
  exact ⟨b,o,e1,e2,fun i t hi=>(hW.below.cell (p:=⟨b,o+i,none⟩) e2).trans (e3 i t hi)⟩
 /- behind what refuses,or does nothing -/
 have HR:Hid (Calls Tryz.prog 29 #[.pointer (some ⟨p,0,none⟩),.int .i64 (at_:Int)] wE fun ev w'=>ev = .returned (.tuple #[])∧Fr B w w'∧FS B p (c+2*pl.length) l w'):=(refuse_any HF.out at_ ha).mono fun ev w' ⟨a,b,d⟩=>⟨a,HB.out.trans (HF.out.exb d),b.more (by omega)⟩
 have HD:Hid (FS B p (c+2*pl.length) l wE):=HF.out.more (by omega)
 have hBE:B≤wE.heap.size:=by omega
 have HBX:=toHid hbx
 clear h hE hbx hbE hN hz
 go_enter Tryz.func45,Tryz.ntmps45
 cases k1:(kd.toList == [98,114,101,97,107]) with
 | true =>
  cases looped with
  | true =>
   go_wp2_with fail
   rw [←HE.out]
   go_end0
   exact ⟨rfl,HB.out,l,rfl,HD.out⟩
  | false =>
   go_wp2_with fail
   rw [←HE.out]
   refine HR.out.mono ?_
   rintro ev w1 ⟨rfl,hb1,hf1⟩
   go_wp2_with fail
   go_end0
   exact ⟨rfl,hb1,l,rfl,hf1⟩
 | false =>
  cases k2:(kd.toList == [99,111,110,116,105,110,117,101]) with
  | true =>
   cases looped with
   | true =>
    go_wp2_with fail
    rw [←HE.out]
    go_end0
    exact ⟨rfl,HB.out,l,rfl,HD.out⟩
   | false =>
    go_wp2_with fail
    rw [←HE.out]
    refine HR.out.mono ?_
    rintro ev w1 ⟨rfl,hb1,hf1⟩
    go_wp2_with fail
    go_end0
    exact ⟨rfl,hb1,l,rfl,hf1⟩
  | false =>
   cases k3:(kd.toList == [114,101,116,117,114,110]) with
   | true =>
    by_cases hi0:in_=0
    ·have hz1:((in_:Int) == 0)=true:=by rw [beq_iff_eq];omega
     clear hi0
     go_wp2_with fail
     rw [←HE.out]
     refine HR.out.mono ?_
     rintro ev w1 ⟨rfl,hb1,hf1⟩
     go_wp2_with fail
     go_end0
     exact ⟨rfl,hb1,l,rfl,hf1⟩
    ·have hz1:((in_:Int) == 0)=false:=by rw [beq_eq_false_iff_ne];omega
     go_wp2_with fail
     rw [←HE.out]
     go_end0
     exact ⟨rfl,HB.out,l,rfl,HD.out⟩
   | false =>
    cases k4:(kd.toList == [103,108,111,98,97,108]) with
    | true =>
     have HS:=toHid (say_any HF.out hBE pl pa pc (HN.out _ HB.out) HZ.out 4 in_ at_ (.inl rfl) hin ha (by omega))
     go_wp2_with fail
     rw [←HE.out]
     refine HS.out.mono ?_
     rintro ev w1 ⟨rfl,hb1,l1,hl1,hf1⟩
     have HB1:=toHid (HB.out.trans hb1)
     have HF1:Hid (FS B p (c+2*pl.length) l1 w1):=hf1.more (by omega)
     clear hb1 hf1
     go_wp2_with fail
     go_end0
     exact ⟨rfl,HB1.out,l1,hl1,HF1.out⟩
    | false =>
     cases k5:(kd.toList == [110,111,110,108,111,99,97,108]) with
     | false =>
      go_wp2_with fail
      rw [←HE.out]
      go_end0
      exact ⟨rfl,HB.out,l,rfl,HD.out⟩
     | true =>
      have HS:=toHid (say_any HF.out hBE pl pa pc (HN.out _ HB.out) HZ.out 8 in_ at_ (.inr rfl) hin ha (by omega))
      go_wp2_with fail
      rw [←HE.out]
      refine HS.out.mono ?_
      rintro ev w1 ⟨rfl,hb1,l1,hl1,hf1⟩
      have hbk:=hb1.kt _ _ _ _ HBX.out (.inr rfl)
      have z2:w1.cell? ⟨w.heap.size,2,none⟩=some (.slice pa pl.length pc):=by rw [cell_of_row _ _ 2 _ _ _ hbk];rfl
      have hwl:=lt_of_cell z2
      have HB1:=toHid (HB.out.trans hb1)
      have HF1:=toHid hf1
      clear hb1 hf1 hbk y0 y2
      go_wp2_with fail
      go_loopg [48] (pl.length+1) (fun gk v48 wr => ∃ j:Nat,gk=pl.length+1 - j∧j≤pl.length∧v48 = .int .i64 (j:Int)∧FS B p (c+pl.length+j) l1 wr∧Fr B w wr)
      case atStart=>exact ⟨0,rfl,Nat.zero_le _,rfl,HF1.out,HB1.out⟩
      case round =>
       obtain ⟨j,hgk,hj,rfl,hf,hb⟩:=hrel
       have HG:=toHid hgk
       have hj0:(0:Int)≤(j:Int):=by omega
       have hsz:=hb.below.size
       clear hgk z2 hwl
       by_cases hlt:j<pl.length
       ·have hI1:(j:Int)<(pl.length:Int):=by omega
        obtain ⟨b1,o1,e1,hbB,t1⟩:=HN.out wr hb (by omega)
        subst e1
        obtain ⟨s,hs⟩:∃ s,pl[j]?=some s:=⟨pl[j],by simp [hlt]⟩
        have y0:=t1 j s hs
        have hbl:=lt_of_cell y0
        have hss:=HZ.out s (List.mem_of_getElem? hs)
        obtain ⟨vs,bg,wr',vc,cl,b1',b2,b3,b4,b5,b6,b7⟩:=hf.blk
        obtain ⟨c0,c1,c2,c3,cf⟩:=fin_cells b1'
        have f3:=cf 3
        have hpl:=hf.lt
        obtain ⟨i0,hi0,hz0,hz1,hz2⟩:=info_parts infoClaim
        have HRW:=toHid b3
        have hll:(cl.flatMap clCells).length=cl.length*3:=b3.1
        have HCL:=toHid (fun (w2:World) (o:Obj) (gn capn:Nat) (hg:(wr.alloc o).grownBy w2 vc.ownBlock) (hown:w2.ownsRow B 88 3 (.slice (some ⟨gn,0,none⟩) (cl.length+1) capn) (cl.length+1) (cl.flatMap clCells++clCells ((at_:Int),(in_:Int),s)))=>hf.claim b1' b2 b3 b4 b5 b6 b7 ((at_:Int),(in_:Int),s) ⟨⟨by show (0:Int)≤at_;omega,by show (at_:Int)≤_;omega⟩,⟨by show (0:Int)≤in_;omega,by show (in_:Int)<_;omega⟩,hss⟩ hg hown)
        have HB:=toHid hb
        obtain ⟨va,vcap,rfl⟩:=row_shape b3
        clear hf hb b1' b2 b3 cf t1 hs
        go_wp2_with (first
         | (at_builtin;refine wpList_append_lies _ rfl _ _ _ rfl B 88 i0 (.agg #[.int .i64 0,.int .i64 0,.string ⟨#[]⟩]) 3 32 Tryz.underlying56 hi0 hz0 hz1 hz2 rfl (by decide) _ cl.length (cl.flatMap clCells) rfl (HRW.out.alloc _) ⟨wr.heap.size,0,none⟩ 1 1 (clCells ((at_:Int),(in_:Int),s)) rfl rfl (World.news_of_block (cs:=#[.int .i64 (at_:Int),.int .i64 (in_:Int),.string s]) (t:=88) (heap_alloc_new _ _)) (one_claim _) (by decide) (by unfold maxLen;omega) (by omega) (by simp;omega) _ rfl ?_;intro gn capn w3 hown3 hgrow hat hlt2;obtain ⟨e3',hP3,hb3⟩:=HCL.out w3 _ gn capn hgrow hown3;have q3:=(World.cell?_of_block (a:=⟨p,3,none⟩) e3').trans c3;have qf:=(World.frozen?_of_block (a:=⟨p,3,none⟩) e3').trans f3;have ql:=lt_of_cell q3;have HP3:=toHid hP3;have HB3:=toHid hb3;clear hown3 hgrow hat e3' hP3 hb3 c0 c1 c2 c3 f3))
        go_roundg (pl.length+1 - (j+1))
        case measure=>have:=HG.out;omega
        case rel=>exact ⟨j+1,rfl,by omega,by go_num,HP3.out,HB.out.trans HB3.out⟩
       ·obtain rfl:j=pl.length:=by omega
        have HF2:Hid (FS B p (c+2*pl.length) l1 wr):=hf.more (by omega)
        have HB2:=toHid hb
        clear hf hb
        go_wp2_with fail
        go_end0
        exact ⟨rfl,HB2.out,l1,hl1,HF2.out⟩
end Go.Proofs.YtemapnogjepokaaGreatDoor

/- The law's own helpers: rows of the law's terms. -/
namespace Go.Proofs.YtemapnogjepokaaGreatDoor
open Go.RowKit

theorem step_append_none {P:Program}{ops:Array Oper}{o:Oper}{a:Act}{w:World}{K:Act→World→Prop}{Q:Exit→Act→World→Prop}{E:Prop}
  (hg:o.guard=none) (s x:Operand) (t:TypeId) (hop:o.op=Op.call { callee:=Callee.builtin Builtin.append,args:=#[s,x],argTypes:=#[t,t] })
  (e:TypeId) (i:TypeInfo) (h1:P.underlying t=some (.slice e)) (h2:P.info? e=some i) (hs:a.eval s = .slice none 0 0) (xa:Option Addr) (c:Nat) (hx:a.eval x = .slice xa 0 c)
  (hK:K (a.put o.dst (.slice none 0 0)) w):if Region.wanted o (yielded ops a.tmps)=true then Oper.wp P o a w K Q else E:=by
 have hw:Region.wanted o (yielded ops a.tmps)=true:=by simp [Region.wanted,hg]
 rw [if_pos hw]
 have hr:(Builtin.append_ #[t,t] o.type #[.slice none 0 0,.slice xa 0 c]).run P w = .ok (.slice none 0 0) w:=by
  cases xa <;> simp [Builtin.append_,run_underlying h1,sizeOf,typeInfo,h2,go_sem]
 unfold Oper.wp
 simp [execOp,hop,resolve,invoke,builtin,hs,hx,hr,Result.andThen]
 exact hK
def CellsV (S:Nat→Prop) (w:World) (cs:List Value) (es:List (DataW Unit)):Prop:=
 cs.length=es.length*5 ∧ ∀ (i:Nat) (e:DataW Unit),es[i]?=some e → ∃ c0 c1 c2 c3 c4,cs[i*5]?=some c0∧cs[i*5+1]?=some c1∧cs[i*5+2]?=some c2∧cs[i*5+3]?=some c3∧cs[i*5+4]?=some c4∧RepV S w [c0,c1,c2,c3,c4] e
theorem CellsV.nil (S:Nat→Prop) (w:World):CellsV S w [] []:=⟨rfl,fun i e h=>by simp at h⟩
theorem CellsV.same {S S':Nat→Prop}{w w':World}{cs:List Value}{es:List (DataW Unit)}(h:CellsV S w cs es) (K:Same S w w') (hS:∀ b,S b→b<w.heap.size→S' b):CellsV S' w' cs es:=
 ⟨h.1,fun i e hi=>by
  obtain ⟨c0,c1,c2,c3,c4,h0,h1,h2,h3,h4,hr⟩:=h.2 i e hi
  exact ⟨c0,c1,c2,c3,c4,h0,h1,h2,h3,h4,hr.same K hS⟩⟩
theorem CellsV.snoc {S:Nat→Prop}{w:World}{cs:List Value}{es:List (DataW Unit)}{c0 c1 c2 c3 c4:Value}{e:DataW Unit}(h:CellsV S w cs es) (he:RepV S w [c0,c1,c2,c3,c4] e):CellsV S w (cs ++ [c0,c1,c2,c3,c4]) (es ++ [e]):=by
 refine ⟨by simp [h.1];omega,fun i x hi => ?_⟩
 have hlen:=h.1
 rcases Nat.lt_or_ge i es.length with hl | hl
 ·rw [List.getElem?_append_left hl] at hi
  obtain ⟨d0,d1,d2,d3,d4,h0,h1,h2,h3,h4,hr⟩:=h.2 i x hi
  refine ⟨d0,d1,d2,d3,d4,?_,?_,?_,?_,?_,hr⟩ <;> rw [List.getElem?_append_left (by omega)] <;> assumption
 ·have hie:i=es.length:=by
   rcases Nat.lt_or_ge es.length i with h1 | h1
   ·rw [List.getElem?_eq_none (by simp;omega)] at hi
    cases hi
   ·omega
  subst hie
  simp at hi
  subst hi
  refine ⟨c0,c1,c2,c3,c4,?_,?_,?_,?_,?_,he⟩
  ·rw [List.getElem?_append_right (by omega),show es.length*5 - cs.length=0 by omega];rfl
  ·rw [List.getElem?_append_right (by omega),show es.length*5+1 - cs.length=1 by omega];rfl
  ·rw [List.getElem?_append_right (by omega),show es.length*5+2 - cs.length=2 by omega];rfl
  ·rw [List.getElem?_append_right (by omega),show es.length*5+3 - cs.length=3 by omega];rfl
  ·rw [List.getElem?_append_right (by omega),show es.length*5+4 - cs.length=4 by omega];rfl
end Go.Proofs.YtemapnogjepokaaGreatDoor

/- The law's own helpers: BackExprs. -/
namespace Go.Proofs.YtemapnogjepokaaGreatDoor
open Go.RowKit

structure BkC (w0:World) (es:List (DataW Unit)) (v:Value) (w:World):Prop where
 l:∃ cs,w.ownsRow w0.heap.size 42 5 v es.length cs∧CellsV (fun b=>w0.heap.size≤b∧v.ownBlock≠some b) w cs es
 bl:Below w0.heap.size w0 w
theorem BkC.go {w0 w w':World}{es:List (DataW Unit)}{v:Value}(C:BkC w0 es v w) (hb:Below w.heap.size w w'):BkC w0 es v w':=by
 obtain ⟨cs,h2,h3⟩:=C.l
 exact ⟨⟨cs,ownsRow_far' h2 (fun k hk=>hb.block k (own_lt h2 k hk)),h3.same (same_below hb) (fun b hb _=>hb)⟩,C.bl.trans (hb.mono C.bl.size)⟩
def EF (w0:World) (op:ByteArray) (z:Int) (s:ByteArray) (P:Value) (el:List (DataW Unit)) (eb:Nat) (la:Option Addr) (lc:Nat) (w:World):Prop:=
 w0.heap.size≤eb∧w.heap[eb]?=some (.cells #[.string op,.int .i64 z,.string s,P,.slice la el.length lc] 42)∧RepVL (fun b=>w0.heap.size≤b∧b≠eb) w la el∧Below w0.heap.size w0 w
abbrev set5v (w:World) (b:Nat) (v0 v1 v2 v3 v4:Value):World:=((((w.setCell ⟨b,0,none⟩ v0).setCell ⟨b,1,none⟩ v1).setCell ⟨b,2,none⟩ v2).setCell ⟨b,3,none⟩ v3).setCell ⟨b,4,none⟩ v4
theorem set5v_block {w:World}{b t:Nat}{u0 u1 u2 u3 u4:Value}{fr:Nat × Nat}(h:w.heap[b]?=some (.cells #[u0,u1,u2,u3,u4] t fr)) (v0 v1 v2 v3 v4:Value):(set5v w b v0 v1 v2 v3 v4).heap[b]?=some (.cells #[v0,v1,v2,v3,v4] t fr):=by
 unfold set5v
 rw [heap_set_same (heap_set_same (heap_set_same (heap_set_same (heap_set_same h))))]
 rfl
theorem set5v_other {w:World}{b k:Nat}(h:k≠b) (v0 v1 v2 v3 v4:Value):(set5v w b v0 v1 v2 v3 v4).heap[k]?=w.heap[k]?:=by
 unfold set5v
 rw [heap_set _ _ _ _ _ h,heap_set _ _ _ _ _ h,heap_set _ _ _ _ _ h,heap_set _ _ _ _ _ h,heap_set _ _ _ _ _ h]
theorem set5v_below {B b:Nat}{a w:World}(h:Below B a w) (hb:B≤b) (v0 v1 v2 v3 v4:Value):Below B a (set5v w b v0 v1 v2 v3 v4):=
 ((((h.setCell hb _).setCell hb _).setCell hb _).setCell hb _).setCell hb _
theorem EF.drew {w0 w:World}{op s:ByteArray}{z:Int}{P:Value}{el:List (DataW Unit)}{eb:Nat}{la:Option Addr}{lc:Nat}(h:EF w0 op z s P el eb la lc w):EF w0 op z s P el eb la lc w.drew:=
 ⟨h.1,h.2.1,h.2.2.1.same (fun _ _ _=>rfl) (fun _ h _=>h),h.2.2.2.drew⟩
theorem ts_news {w:World}{b o:Nat}{pl:List ByteArray}(h:TS w b o pl):∀ j u,(pl.map Value.string)[j]?=some u→w.cell? ((⟨b,o,none⟩:Addr).add j)=some u:=fun j u hj=>by
 rw [List.getElem?_map] at hj
 obtain ⟨t,ht,rfl⟩:=Option.map_eq_some_iff.1 hj
 have hadd:(⟨b,o,none⟩:Addr).add j=⟨b,o+j,none⟩:=by unfold Addr.add;split <;> simp_all
 rw [hadd]
 exact h j t ht
theorem ts_newsD {w:World}{b o:Nat}{pl:List ByteArray}(h:TS w b o pl):∀ j u,(pl.map Value.string)[j]?=some u→w.drew.cell? ((⟨b,o,none⟩:Addr).add j)=some u:=ts_news h
theorem strs_one (pl:List ByteArray):∀ u∈pl.map Value.string,u.oneCell'=true:=fun u hu=>by
 obtain ⟨t,_,rfl⟩:=List.mem_map.1 hu
 rfl
end Go.Proofs.YtemapnogjepokaaGreatDoor

/- The law's own helpers: rows of the law's statements, and a statement that is being made (written by tools/tree/backs.py). -/
namespace Go.Proofs.YtemapnogjepokaaGreatDoor
open Go.RowKit

def CellsW (S:Nat→Prop) (w:World) (cs:List Value) (ss:List (DataW Unit)):Prop:=
 cs.length=ss.length*6 ∧ ∀ (i:Nat) (e:DataW Unit),ss[i]?=some e → ∃ c0 c1 c2 c3 c4 c5,cs[i*6]?=some c0∧cs[i*6+1]?=some c1∧cs[i*6+2]?=some c2∧cs[i*6+3]?=some c3∧cs[i*6+4]?=some c4∧cs[i*6+5]?=some c5∧RepVS S w [c0,c1,c2,c3,c4,c5] e
theorem CellsW.nil (S:Nat→Prop) (w:World):CellsW S w [] []:=⟨rfl,fun i e h=>by simp at h⟩
theorem CellsW.same {S S':Nat→Prop}{w w':World}{cs:List Value}{es:List (DataW Unit)}(h:CellsW S w cs es) (K:Same S w w') (hS:∀ b,S b→b<w.heap.size→S' b):CellsW S' w' cs es:=
 ⟨h.1,fun i e hi=>by
  obtain ⟨c0,c1,c2,c3,c4,c5,h0,h1,h2,h3,h4,h5,hr⟩:=h.2 i e hi
  exact ⟨c0,c1,c2,c3,c4,c5,h0,h1,h2,h3,h4,h5,hr.same K hS⟩⟩
theorem CellsW.snoc {S:Nat→Prop}{w:World}{cs:List Value}{es:List (DataW Unit)}{c0 c1 c2 c3 c4 c5:Value}{e:DataW Unit}(h:CellsW S w cs es) (he:RepVS S w [c0,c1,c2,c3,c4,c5] e):CellsW S w (cs ++ [c0,c1,c2,c3,c4,c5]) (es ++ [e]):=by
 refine ⟨by simp [h.1];omega,fun i x hi => ?_⟩
 have hlen:=h.1
 rcases Nat.lt_or_ge i es.length with hl | hl
 ·rw [List.getElem?_append_left hl] at hi
  obtain ⟨d0,d1,d2,d3,d4,d5,h0,h1,h2,h3,h4,h5,hr⟩:=h.2 i x hi
  refine ⟨d0,d1,d2,d3,d4,d5,?_,?_,?_,?_,?_,?_,hr⟩ <;> rw [List.getElem?_append_left (by omega)] <;> assumption
 ·have hie:i=es.length:=by
   rcases Nat.lt_or_ge es.length i with h1 | h1
   ·rw [List.getElem?_eq_none (by simp;omega)] at hi
    cases hi
   ·omega
  subst hie
  simp at hi
  subst hi
  refine ⟨c0,c1,c2,c3,c4,c5,?_,?_,?_,?_,?_,?_,he⟩
  ·rw [List.getElem?_append_right (by omega),show es.length*6 - cs.length=0 by omega];rfl
  ·rw [List.getElem?_append_right (by omega),show es.length*6+1 - cs.length=1 by omega];rfl
  ·rw [List.getElem?_append_right (by omega),show es.length*6+2 - cs.length=2 by omega];rfl
  ·rw [List.getElem?_append_right (by omega),show es.length*6+3 - cs.length=3 by omega];rfl
  ·rw [List.getElem?_append_right (by omega),show es.length*6+4 - cs.length=4 by omega];rfl
  ·rw [List.getElem?_append_right (by omega),show es.length*6+5 - cs.length=5 by omega];rfl
def SF (w0:World) (kd nm:ByteArray) (P:Value) (el bd es:List (DataW Unit)) (eb:Nat) (la ba ea:Option Addr) (lc bc ec:Nat) (w:World):Prop:=
 w0.heap.size≤eb∧w.heap[eb]?=some (.cells #[.string kd,.string nm,P,.slice la el.length lc,.slice ba bd.length bc,.slice ea es.length ec] 39)∧(RepVL (fun b=>w0.heap.size≤b∧b≠eb) w la el∧RepVSL (fun b=>w0.heap.size≤b∧b≠eb) w ba bd∧RepVSL (fun b=>w0.heap.size≤b∧b≠eb) w ea es)∧Below w0.heap.size w0 w
abbrev set6v (w:World) (b:Nat) (v0 v1 v2 v3 v4 v5:Value):World:=(((((w.setCell ⟨b,0,none⟩ v0).setCell ⟨b,1,none⟩ v1).setCell ⟨b,2,none⟩ v2).setCell ⟨b,3,none⟩ v3).setCell ⟨b,4,none⟩ v4).setCell ⟨b,5,none⟩ v5
theorem set6v_block {w:World}{b t:Nat}{u0 u1 u2 u3 u4 u5:Value}{fr:Nat × Nat}(h:w.heap[b]?=some (.cells #[u0,u1,u2,u3,u4,u5] t fr)) (v0 v1 v2 v3 v4 v5:Value):(set6v w b v0 v1 v2 v3 v4 v5).heap[b]?=some (.cells #[v0,v1,v2,v3,v4,v5] t fr):=by
 unfold set6v
 rw [heap_set_same (heap_set_same (heap_set_same (heap_set_same (heap_set_same (heap_set_same h)))))]
 rfl
theorem set6v_other {w:World}{b k:Nat}(h:k≠b) (v0 v1 v2 v3 v4 v5:Value):(set6v w b v0 v1 v2 v3 v4 v5).heap[k]?=w.heap[k]?:=by
 unfold set6v
 rw [heap_set _ _ _ _ _ h,heap_set _ _ _ _ _ h,heap_set _ _ _ _ _ h,heap_set _ _ _ _ _ h,heap_set _ _ _ _ _ h,heap_set _ _ _ _ _ h]
theorem set6v_below {B b:Nat}{a w:World}(h:Below B a w) (hb:B≤b) (v0 v1 v2 v3 v4 v5:Value):Below B a (set6v w b v0 v1 v2 v3 v4 v5):=
 (((((h.setCell hb _).setCell hb _).setCell hb _).setCell hb _).setCell hb _).setCell hb _
theorem SF.drew {w0 w:World}{kd nm:ByteArray}{P:Value}{el bd es:List (DataW Unit)}{eb:Nat}{la ba ea:Option Addr}{lc bc ec:Nat}(h:SF w0 kd nm P el bd es eb la ba ea lc bc ec w):SF w0 kd nm P el bd es eb la ba ea lc bc ec w.drew:=
 ⟨h.1,h.2.1,⟨h.2.2.1.1.same (fun _ _ _=>rfl) (fun _ h _=>h),h.2.2.1.2.1.same (fun _ _ _=>rfl) (fun _ h _=>h),h.2.2.1.2.2.same (fun _ _ _=>rfl) (fun _ h _=>h)⟩,h.2.2.2.drew⟩
theorem repVS_more {S:Nat→Prop}{w:World} : ∀ (n m:Nat) (cs:List Value) (d:DataW Unit),n≤m→repVS S w n cs d→repVS S w m cs d
 | 0,_,_,_,_,h=>h.elim
 | n+1,0,_,_,hle,_=>by omega
 | n+1,m+1,cs,d,hle,h=>by
  obtain ⟨kd,nm,pl,el,bd,es,pa,la,ba,ea,pc,lc,bc,ec,hd,hcs,h1,h2,h3,h4⟩:=h
  exact ⟨kd,nm,pl,el,bd,es,pa,la,ba,ea,pc,lc,bc,ec,hd,hcs,h1,h2,h3.imp (fun cs d=>repVS_more n m cs d (by omega)),h4.imp (fun cs d=>repVS_more n m cs d (by omega))⟩
theorem rowVS_bound {S:Nat→Prop}{w:World}{la:Option Addr}{el:List (DataW Unit)}(h:RepVSL S w la el):∃ n,rowS S w (repVS S w n) la el:=by
 by_cases h0:0<el.length
 ·obtain ⟨b,o,e,hb,hx⟩:=h h0
  obtain ⟨n,hn⟩:=Go.Deep.fuel_lt (n:=el.length) (q:=fun i m => ∀ s,el[i]?=some s → ∃ c0 c1 c2 c3 c4 c5,w.cell? ⟨b,o+i*6,none⟩=some c0∧w.cell? ⟨b,o+i*6+1,none⟩=some c1∧w.cell? ⟨b,o+i*6+2,none⟩=some c2∧w.cell? ⟨b,o+i*6+3,none⟩=some c3∧w.cell? ⟨b,o+i*6+4,none⟩=some c4∧w.cell? ⟨b,o+i*6+5,none⟩=some c5∧repVS S w m [c0,c1,c2,c3,c4,c5] s)
   (fun i x y hxy h e he=>by
    obtain ⟨c0,c1,c2,c3,c4,c5,h0,h1,h2,h3,h4,h5,hr⟩:=h e he
    exact ⟨c0,c1,c2,c3,c4,c5,h0,h1,h2,h3,h4,h5,repVS_more x y _ _ hxy hr⟩)
   (fun i hi=>by
    obtain ⟨c0,c1,c2,c3,c4,c5,h0,h1,h2,h3,h4,h5,n,hr⟩:=hx i el[i] (by simp [hi])
    refine ⟨n,fun e he => ?_⟩
    have:el[i]=e:=by simpa [hi] using he
    subst this
    exact ⟨c0,c1,c2,c3,c4,c5,h0,h1,h2,h3,h4,h5,hr⟩)
  exact ⟨n,fun _=>⟨b,o,e,hb,fun i x hi=>hn i (List.getElem?_eq_some_iff.1 hi).1 x hi⟩⟩
 ·exact ⟨0,fun h=>absurd h h0⟩
end Go.Proofs.YtemapnogjepokaaGreatDoor

/- The law's own helpers: Weight of any statements answers some int. -/
namespace Go.Proofs.YtemapnogjepokaaGreatDoor
open Go.RowKit

def WtE (n:Nat):Prop:=∀ (S:Nat→Prop) (w:World) (c0 c1 c2 c3 c4:Value) (e:DataW Unit),repV S w n [c0,c1,c2,c3,c4] e→OkT 2000000 e→ZT e→Calls Tryz.prog 9 #[.agg #[c0,c1,c2,c3,c4]] w fun ev w' => ∃ x:Int,ev = .returned (.int .i64 x)∧Below w.heap.size w w'
theorem zT_parts {op s:ByteArray}{z:Int}{pl:List ByteArray}{el:List (DataW Unit)}(hk:ZT (mkE op z s pl el)):Fs s∧ZTL el:=by
 obtain ⟨m,hm⟩:=hk
 cases m with
 | zero=>exact hm.elim
 | succ m =>
  obtain ⟨_,_,_,_,_,hd2,_,q2,_,_,q5⟩:=hm
  obtain ⟨rfl,rfl,rfl,rfl,rfl⟩:=mkE_inj hd2
  exact ⟨q2,fun e he=>⟨m,q5 e he⟩⟩
theorem okT_parts' {N:Nat}{op s:ByteArray}{z:Int}{pl:List ByteArray}{el:List (DataW Unit)}(hk:OkT N (mkE op z s pl el)):pl.length≤N∧OkTL N el:=by
 obtain ⟨m,hm⟩:=hk
 cases m with
 | zero=>exact hm.elim
 | succ m =>
  obtain ⟨op2,z2,s2,pl2,el2,hd2,q1,q2,q3⟩:=hm
  obtain ⟨rfl,rfl,rfl,rfl,rfl⟩:=mkE_inj hd2
  exact ⟨q1,q2,fun e he=>⟨m,q3 e he⟩⟩
set_option maxHeartbeats 4000000 in
set_option maxRecDepth 100000 in
theorem weightOf_step (n:Nat) (hI:WtE n):WtE (n+1):=by
 intro S w c0 c1 c2 c3 c4 e h hk hz
 obtain ⟨op,s,z,pl,el,pa,la,pc,lc,rfl,hcs,h1,h2⟩:=h
 simp only [List.cons.injEq,and_true] at hcs
 obtain ⟨rfl,rfl,rfl,rfl,rfl⟩:=hcs
 obtain ⟨hp,hT⟩:=okT_parts' hk
 obtain ⟨hs,hZ⟩:=zT_parts hz
 have hn:=hT.1
 obtain ⟨wE,hE⟩:∃ wE,wE=w.alloc (.cells #[.string op,.int .i64 z,.string s,.slice pa pl.length pc,.slice la el.length lc] 42):=⟨_,rfl⟩
 have hb0:Below w.heap.size w wE:=by rw [hE];exact (Below.refl _ _).alloc (Nat.le_refl _) _
 have hs0:wE.heap.size=w.heap.size+1:=by rw [hE];simp
 have e0:wE.heap[w.heap.size]?=some (.cells #[.string op,.int .i64 z,.string s,.slice pa pl.length pc,.slice la el.length lc] 42):=by rw [hE];exact heap_alloc_new w _
 have HC4:Hid (∀ W,Below wE.heap.size wE W→W.cell? ⟨w.heap.size,4,none⟩=some (.slice la el.length lc)):=fun W hW=>by
  rw [cell_of_row _ _ 4 _ _ _ ((hW.block w.heap.size (by omega)).trans e0)]
  rfl
 have HB0:=toHid hb0
 have HE:=toHid hE
 have HI:=toHid hI
 have H2:=toHid h2
 have HK:=toHid hT
 have HZ:=toHid hZ
 clear hb0 e0 hE hI h1 h2 hk hz hT hZ hs0
 go_enter Tryz.func9,Tryz.ntmps9
 go_wp2_with fail
 go_loopg [3,4] (el.length+1) (fun gk v3 v4 wr => ∃ (j:Nat) (x:Int),gk=el.length+1 - j∧j≤el.length∧v3 = .int .i64 x∧v4 = .int .i64 (j:Int)∧Below wE.heap.size wE wr)
 case atStart=>exact ⟨0,_,rfl,Nat.zero_le _,rfl,rfl,by rw [HE.out];exact Below.refl _ _⟩
 case round =>
  obtain ⟨j,x,hgk,hj,rfl,rfl,hbE⟩:=hrel
  have HG:Hid (gk=el.length+1 - j):=hgk
  have hb:Below w.heap.size w wr:=HB0.out.trans (hbE.mono HB0.out.size)
  have k4:=HC4.out wr hbE
  have kl:=lt_of_cell k4
  have HBE:=toHid hbE
  clear hgk hbE
  have hj0:(0:Int)≤(j:Int):=by omega
  by_cases hlt:j<el.length
  ·have hI1:(j:Int)<(el.length:Int):=by omega
   obtain ⟨b1,o1,rfl,_,t1⟩:=H2.out (by omega)
   obtain ⟨e,he⟩:∃ e,el[j]?=some e:=⟨el[j],by simp [hlt]⟩
   obtain ⟨c0,c1,c2,c3,c4,x0,x1,x2,x3,x4,hr⟩:=t1 j e he
   have hl1:=lt_of_cell x0
   have x0:=(hb.cell (p:=⟨b1,o1+j*5,none⟩) hl1).trans x0
   have x1:=(hb.cell (p:=⟨b1,o1+j*5+1,none⟩) hl1).trans x1
   have x2:=(hb.cell (p:=⟨b1,o1+j*5+2,none⟩) hl1).trans x2
   have x3:=(hb.cell (p:=⟨b1,o1+j*5+3,none⟩) hl1).trans x3
   have x4:=(hb.cell (p:=⟨b1,o1+j*5+4,none⟩) hl1).trans x4
   have hk1:=lt_of_cell x0
   have HC:=toHid (HI.out S wr c0 c1 c2 c3 c4 e (repV_same (same_below hb) (fun b h _=>h) n _ _ hr) (HK.out.2 e (List.mem_of_getElem? he)) (HZ.out e (List.mem_of_getElem? he)))
   clear t1 H2 he hr
   go_wp2_with fail
   refine HC.out.mono ?_
   rintro ev w1 ⟨x',rfl,hb1⟩
   have HB1:=toHid (HBE.out.trans (hb1.mono HBE.out.size))
   clear hb1 k4 kl x0 x1 x2 x3 x4 hk1 hb
   go_wp2_with fail
   go_roundg (el.length+1 - (j+1))
   case measure=>have:=HG.out;omega
   case rel=>exact ⟨j+1,_,rfl,by omega,rfl,by go_num,HB1.out⟩
  ·clear H2
   have HB:=toHid hb
   clear hb
   go_wp2_with fail
   go_ret
   first | exact ⟨⟨_,rfl⟩,HB.out⟩ | exact ⟨_,rfl,HB.out⟩
theorem wtE_all:∀ n,WtE n
 | 0=>fun _ _ _ _ _ _ _ _ h _ _=>h.elim
 | n+1=>weightOf_step n (wtE_all n)
end Go.Proofs.YtemapnogjepokaaGreatDoor
