/- Package scope: word. -/
import Derived.Test.YtflcohidmemfpaaGreatDoorSvI
set_option linter.all false
namespace Go.Proofs.YtflcohidmemfpaaGreatDoor
open Go.Proofs.Tryz
open Go.RowKit Go.Maps

theorem FS.claim {B p c:Nat}{l:List SD}{w w2:World}{o:Obj}{gn capn:Nat} (h:FS B p c l w) {vs vc:Value}{bg wr:Int}{cl:List (Int × Int × ByteArray)} (h1:w.heap[p]?=some (.cells #[vs,.int .i64 bg,.int .i64 wr,vc] 58)) (h2:w.ownsRow B 47 1 vs l.length (l.map Z4m)) (h3:w.ownsRow B 88 3 vc cl.length (cl.flatMap Z33)) (h4:0≤bg∧bg≤c) (h5 : -1≤wr∧wr≤c) (h6:cl.length≤c) (h7:∀ y∈cl,(0≤y.1∧y.1≤c)∧(0≤y.2.1∧y.2.1<l.length)∧y.2.2.size≤140737488355328)
  (y:Int × Int × ByteArray) (hy:(0≤y.1∧y.1≤c)∧(0≤y.2.1∧y.2.1<l.length)∧y.2.2.size≤140737488355328) (hg:(w.alloc o).grownBy w2 vc.ownBlock) (hown:w2.ownsRow B 88 3 (.slice (some ⟨gn,0,none⟩) (cl.length+1) capn) (cl.length+1) (cl.flatMap Z33++Z33 y)) :
  w2.heap[p]?=w.heap[p]?∧FS B p (c+1) l (w2.setCell ⟨p,3,none⟩ (.slice (some ⟨gn,0,none⟩) (cl.length+1) capn))∧Fr B w (w2.setCell ⟨p,3,none⟩ (.slice (some ⟨gn,0,none⟩) (cl.length+1) capn)):=by
 have hsz:(w.alloc o).heap.size=w.heap.size+1:=by simp
 have key:∀ q,q<w.heap.size→vc.ownBlock≠some q→w2.heap[q]?=w.heap[q]?:=fun q hq hn=>(hg.block q (by omega) (fun e=>hn e.symm)).trans (Below.heap_alloc _ _ _ hq)
 have typ:∀ {q:Nat}{cs:Array Value}{t:TypeId}{fz:Nat × Nat},w.heap[q]?=some (.cells cs t fz)→t≠88→vc.ownBlock≠some q:=fun hq ht e=>by
  obtain ⟨_,cur,e2⟩:=Z0d h3 e
  rw [hq] at e2
  simp at e2
  exact ht e2.2.1
 have npo:∀ {q:Nat}{cs:Array Value}{t:TypeId}{fz:Nat × Nat},w.heap[q]?=some (.cells cs t fz)→t≠58→q≠p:=fun hq ht e=>by
  rw [e,h1] at hq
  simp at hq
  exact ht hq.2.1.symm
 have hp2:=key p (Z00 h1) (typ h1 (by decide))
 have sp1:∀ x,SpAt B w x → ∀ q,x.has q→(w2.setCell ⟨p,3,none⟩ (.slice (some ⟨gn,0,none⟩) (cl.length+1) capn)).heap[q]?=w.heap[q]?:=fun x hx q hq=>by
  have hl:=(hx.lt hq).1
  have n1:q≠p:=fun e=>Z1r hx h1 (by decide) (by decide) (e ▸ hq)
  rw [Z07 _ _ _ _ _ n1]
  refine key q hl (fun e => ?_)
  obtain ⟨_,cur,e2⟩:=Z0d h3 e
  exact Z1r hx e2 (by decide) (by decide) hq
 obtain ⟨_,cur,eg⟩:=Z0d hown (g:=gn) rfl
 have gp:gn≠p:=fun e=>by
  rw [e,hp2,h1] at eg
  simp at eg
 refine ⟨hp2,⟨⟨vs,bg,wr,_,cl ++ [y],by rw [Z0a (hp2.trans h1)];rfl,Z1a h2 (fun g hgo => ?_),?_,by omega,by omega,by rw [List.length_append];simp;omega,fun z hz => ?_⟩,⟨fun i x hi=>(h.sp.all i x hi).kept (sp1 x (h.sp.all i x hi) _ (.inl rfl)) (sp1 x (h.sp.all i x hi) _ (.inr (.inl rfl))) (fun g hg=>sp1 x (h.sp.all i x hi) _ (.inr (.inr hg))),h.sp.two⟩,h.ar,fun i x hi => ?_,by have:=h.len;omega,h.hp⟩,⟨⟨hg.os,hg.tape,hg.output,?_,fun k hk => ?_⟩,fun q cs t fz hq ht => ?_⟩⟩
 ·obtain ⟨_,cur,e⟩:=Z0d h2 hgo
  rw [Z07 _ _ _ _ _ (npo e (by decide))]
  exact key g (Z00 e) (typ e (by decide))
 ·have:=Z1a (w':=w2.setCell ⟨p,3,none⟩ (.slice (some ⟨gn,0,none⟩) (cl.length+1) capn)) hown (fun g e=>by
   simp [Value.ownBlock] at e
   subst e
   exact Z07 _ _ _ _ _ gp)
  rw [List.length_append,List.flatMap_append]
  simpa using this
 ·rcases List.mem_append.1 hz with hz | hz
  ·obtain ⟨a,b,d⟩:=h7 z hz
   exact ⟨by omega,b,d⟩
  ·simp at hz
   subst hz
   exact ⟨by omega,hy.2⟩
 ·obtain ⟨a,b,d,e⟩:=h.lo i x hi
  exact ⟨by omega,by omega,by omega,e⟩
 ·have:=hg.size
  simp [World.setCell]
  omega
 ·have hkp:=h.hp
  have hlt:=h.lt
  rw [Z07 _ _ _ _ _ (by omega)]
  refine key k (by omega) (fun e => ?_)
  have:=(Z0d h3 e).1
  omega
 ·rw [Z07 _ _ _ _ _ (npo hq (by rcases ht with rfl | rfl <;> decide))]
  exact (key q (Z00 hq) (typ hq (by rcases ht with rfl | rfl <;> decide))).trans hq
theorem Zqa:(prog.info? 88).map (fun i=>(i.zero,i.size,i.bytes))=some (some (.agg #[.int .i64 0,.int .i64 0,.string ⟨#[]⟩]),3,32):=by kernel_rfl
theorem Zr4 (y:Int × Int × ByteArray):∀ u∈Z33 y,u.oneCell'=true:=fun u hu=>by
 simp at hu
 rcases hu with rfl | rfl | rfl <;> rfl
set_option maxHeartbeats 16000000 in
set_option maxRecDepth 100000 in
theorem Ztg {B p c:Nat}{l:List SD}{w:World} (h:FS B p c l w) (hBw:B≤w.heap.size) (kd nm:ByteArray) (pl:List ByteArray) (pa la ba ea:Option Addr) (pc ln lc bn bc en ec:Nat) (hN:0<pl.length → ∃ b o,pa=some ⟨b,o,none⟩∧b<B∧TS w b o pl) (hz:∀ x∈pl,x.size≤140737488355328) (in_ at_:Nat) (hin:in_<l.length) (ha:at_≤c) (hc:c+2*pl.length≤1000000000) (looped:Bool) :
  Calls prog 45 #[.pointer (some ⟨p,0,none⟩),.agg #[.string kd,.string nm,.slice pa pl.length pc,.slice la ln lc,.slice ba bn bc,.slice ea en ec],.int .i64 (in_:Int),.int .i64 (at_:Int),.bool looped] w fun ev w'=>ev = .returned (.tuple #[])∧Fr B w w' ∧ ∃ l',l'.length=l.length∧FS B p (c+2*pl.length) l' w':=by
 obtain ⟨wE,hE⟩:∃ wE,wE=w.alloc (.cells #[.string kd,.string nm,.slice pa pl.length pc,.slice la ln lc,.slice ba bn bc,.slice ea en ec] 52):=⟨_,rfl⟩
 have hbE:Below w.heap.size w wE:=by rw [hE];exact (Below.refl _ _).alloc (Nat.le_refl _) _
 have hbx:wE.heap[w.heap.size]?=some (.cells #[.string kd,.string nm,.slice pa pl.length pc,.slice la ln lc,.slice ba bn bc,.slice ea en ec] 52):=by rw [hE];exact heap_alloc_new _ _
 have y0:wE.cell? ⟨w.heap.size,0,none⟩=some (.string kd):=by rw [cell_of_row _ _ 0 _ _ _ hbx];rfl
 have y2:wE.cell? ⟨w.heap.size,2,none⟩=some (.slice pa pl.length pc):=by rw [cell_of_row _ _ 2 _ _ _ hbx];rfl
 have HF:=Z01 (h.below hbE)
 have HB:=Z01 (Fr.of_below hbE hBw)
 have hsz:=hbE.size
 have HE:=Z01 hE
 have HZ:=Z01 hz
 have HN:Hid (∀ W,Fr B w W→(0<pl.length → ∃ b o,pa=some ⟨b,o,none⟩∧b<B∧TS W b o pl)):=fun W hW h0=>by
  obtain ⟨b,o,e1,e2,e3⟩:=hN h0
  exact ⟨b,o,e1,e2,fun i t hi=>(hW.below.cell (p:=⟨b,o+i,none⟩) e2).trans (e3 i t hi)⟩
 /- behind what refuses,or does nothing -/
 have HR:Hid (Calls prog 29 #[.pointer (some ⟨p,0,none⟩),.int .i64 (at_:Int)] wE fun ev w'=>ev = .returned (.tuple #[])∧Fr B w w'∧FS B p (c+2*pl.length) l w'):=(Z5q HF.out at_ ha).mono fun ev w' ⟨a,b,d⟩=>⟨a,HB.out.trans (HF.out.exb d),b.more (by omega)⟩
 have HD:Hid (FS B p (c+2*pl.length) l wE):=HF.out.more (by omega)
 have hBE:B≤wE.heap.size:=by omega
 have HBX:=Z01 hbx
 clear h hE hbx hbE hN hz
 go_enter func45,ntmps45
 cases k1:(kd.toList == [98,114,101,97,107]) with
 | true =>
  cases looped with
  | true =>
   go_wp2_with fail
   rw [←HE.out]
   go_end0
   exact ⟨rfl,HB.out,l,rfl,HD.out⟩
  | false =>
   go_wp2_with fail
   rw [←HE.out]
   refine HR.out.mono ?_
   rintro ev w1 ⟨rfl,hb1,hf1⟩
   go_wp2_with fail
   go_end0
   exact ⟨rfl,hb1,l,rfl,hf1⟩
 | false =>
  cases k2:(kd.toList == [99,111,110,116,105,110,117,101]) with
  | true =>
   cases looped with
   | true =>
    go_wp2_with fail
    rw [←HE.out]
    go_end0
    exact ⟨rfl,HB.out,l,rfl,HD.out⟩
   | false =>
    go_wp2_with fail
    rw [←HE.out]
    refine HR.out.mono ?_
    rintro ev w1 ⟨rfl,hb1,hf1⟩
    go_wp2_with fail
    go_end0
    exact ⟨rfl,hb1,l,rfl,hf1⟩
  | false =>
   cases k3:(kd.toList == [114,101,116,117,114,110]) with
   | true =>
    by_cases hi0:in_=0
    ·have hz1:((in_:Int) == 0)=true:=by rw [beq_iff_eq];omega
     clear hi0
     go_wp2_with fail
     rw [←HE.out]
     refine HR.out.mono ?_
     rintro ev w1 ⟨rfl,hb1,hf1⟩
     go_wp2_with fail
     go_end0
     exact ⟨rfl,hb1,l,rfl,hf1⟩
    ·have hz1:((in_:Int) == 0)=false:=by rw [beq_eq_false_iff_ne];omega
     go_wp2_with fail
     rw [←HE.out]
     go_end0
     exact ⟨rfl,HB.out,l,rfl,HD.out⟩
   | false =>
    cases k4:(kd.toList == [103,108,111,98,97,108]) with
    | true =>
     have HS:=Z01 (Zs5 HF.out hBE pl pa pc (HN.out _ HB.out) HZ.out 4 in_ at_ (.inl rfl) hin ha (by omega))
     go_wp2_with fail
     rw [←HE.out]
     refine HS.out.mono ?_
     rintro ev w1 ⟨rfl,hb1,l1,hl1,hf1⟩
     have HB1:=Z01 (HB.out.trans hb1)
     have HF1:Hid (FS B p (c+2*pl.length) l1 w1):=hf1.more (by omega)
     clear hb1 hf1
     go_wp2_with fail
     go_end0
     exact ⟨rfl,HB1.out,l1,hl1,HF1.out⟩
    | false =>
     cases k5:(kd.toList == [110,111,110,108,111,99,97,108]) with
     | false =>
      go_wp2_with fail
      rw [←HE.out]
      go_end0
      exact ⟨rfl,HB.out,l,rfl,HD.out⟩
     | true =>
      have HS:=Z01 (Zs5 HF.out hBE pl pa pc (HN.out _ HB.out) HZ.out 8 in_ at_ (.inr rfl) hin ha (by omega))
      go_wp2_with fail
      rw [←HE.out]
      refine HS.out.mono ?_
      rintro ev w1 ⟨rfl,hb1,l1,hl1,hf1⟩
      have hbk:=hb1.kt _ _ _ _ HBX.out (.inr rfl)
      have z2:w1.cell? ⟨w.heap.size,2,none⟩=some (.slice pa pl.length pc):=by rw [cell_of_row _ _ 2 _ _ _ hbk];rfl
      have hwl:=Z02 z2
      have HB1:=Z01 (HB.out.trans hb1)
      have HF1:=Z01 hf1
      clear hb1 hf1 hbk y0 y2
      go_wp2_with fail
      go_loopg [48] (pl.length+1) (fun gk v48 wr => ∃ j:Nat,gk=pl.length+1 - j∧j≤pl.length∧v48 = .int .i64 (j:Int)∧FS B p (c+pl.length+j) l1 wr∧Fr B w wr)
      case atStart=>exact ⟨0,rfl,Nat.zero_le _,rfl,HF1.out,HB1.out⟩
      case round =>
       obtain ⟨j,hgk,hj,rfl,hf,hb⟩:=hrel
       have HG:=Z01 hgk
       have hj0:(0:Int)≤(j:Int):=by omega
       have hsz:=hb.below.size
       clear hgk z2 hwl
       by_cases hlt:j<pl.length
       ·have hI1:(j:Int)<(pl.length:Int):=by omega
        obtain ⟨b1,o1,e1,hbB,t1⟩:=HN.out wr hb (by omega)
        subst e1
        obtain ⟨s,hs⟩:∃ s,pl[j]?=some s:=⟨pl[j],by simp [hlt]⟩
        have y0:=t1 j s hs
        have hbl:=Z02 y0
        have hss:=HZ.out s (List.mem_of_getElem? hs)
        obtain ⟨vs,bg,wr',vc,cl,b1',b2,b3,b4,b5,b6,b7⟩:=hf.blk
        obtain ⟨c0,c1,c2,c3,cf⟩:=Z2e b1'
        have f3:=cf 3
        have hpl:=hf.lt
        obtain ⟨i0,hi0,hz0,hz1,hz2⟩:=info_parts Zqa
        have HRW:=Z01 b3
        have hll:(cl.flatMap Z33).length=cl.length*3:=b3.1
        have HCL:=Z01 (fun (w2:World) (o:Obj) (gn capn:Nat) (hg:(wr.alloc o).grownBy w2 vc.ownBlock) (hown:w2.ownsRow B 88 3 (.slice (some ⟨gn,0,none⟩) (cl.length+1) capn) (cl.length+1) (cl.flatMap Z33++Z33 ((at_:Int),(in_:Int),s)))=>hf.claim b1' b2 b3 b4 b5 b6 b7 ((at_:Int),(in_:Int),s) ⟨⟨by show (0:Int)≤at_;omega,by show (at_:Int)≤_;omega⟩,⟨by show (0:Int)≤in_;omega,by show (in_:Int)<_;omega⟩,hss⟩ hg hown)
        have HB:=Z01 hb
        obtain ⟨va,vcap,rfl⟩:=Z1o b3
        clear hf hb b1' b2 b3 cf t1 hs
        go_wp2_with (first
         | (at_builtin;refine wpList_append_lies _ rfl _ _ _ rfl B 88 i0 (.agg #[.int .i64 0,.int .i64 0,.string ⟨#[]⟩]) 3 32 underlying56 hi0 hz0 hz1 hz2 rfl (by decide) _ cl.length (cl.flatMap Z33) rfl (HRW.out.alloc _) ⟨wr.heap.size,0,none⟩ 1 1 (Z33 ((at_:Int),(in_:Int),s)) rfl rfl (World.news_of_block (cs:=#[.int .i64 (at_:Int),.int .i64 (in_:Int),.string s]) (t:=88) (heap_alloc_new _ _)) (Zr4 _) (by decide) (by unfold maxLen;omega) (by omega) (by simp;omega) _ rfl ?_;intro gn capn w3 hown3 hgrow hat hlt2;obtain ⟨e3',hP3,hb3⟩:=HCL.out w3 _ gn capn hgrow hown3;have q3:=(World.cell?_of_block (a:=⟨p,3,none⟩) e3').trans c3;have qf:=(World.frozen?_of_block (a:=⟨p,3,none⟩) e3').trans f3;have ql:=Z02 q3;have HP3:=Z01 hP3;have HB3:=Z01 hb3;clear hown3 hgrow hat e3' hP3 hb3 c0 c1 c2 c3 f3))
        go_roundg (pl.length+1 - (j+1))
        case measure=>have:=HG.out;omega
        case rel=>exact ⟨j+1,rfl,by omega,by go_num,HP3.out,HB.out.trans HB3.out⟩
       ·obtain rfl:j=pl.length:=by omega
        have HF2:Hid (FS B p (c+2*pl.length) l1 wr):=hf.more (by omega)
        have HB2:=Z01 hb
        clear hf hb
        go_wp2_with fail
        go_end0
        exact ⟨rfl,HB2.out,l1,hl1,HF2.out⟩
end Go.Proofs.YtflcohidmemfpaaGreatDoor
