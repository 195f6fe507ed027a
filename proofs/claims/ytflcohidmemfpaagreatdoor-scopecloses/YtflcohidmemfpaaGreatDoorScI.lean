/- Package scope: statement, statements (written by tools/scope/stmt.py). -/
import Derived.Test.YtflcohidmemfpaaGreatDoorSvI
import Derived.Test.YtflcohidmemfpaaGreatDoorScH
import Derived.Test.YtflcohidmemfpaaGreatDoorSsR
import Derived.Test.YtflcohidmemfpaaGreatDoorSvC
set_option linter.all false
namespace Go.Proofs.YtflcohidmemfpaaGreatDoor
open Go.Proofs.Tryz
open Go.RowKit Go.Maps

theorem Ztb (kd nm:ByteArray) (pl:List ByteArray) (el bd es:List (DataW Unit)):Z2x el+Z2x bd+Z2x es+pl.length+6≤Rows.uptoBulk (mkS kd nm pl el bd es):=by
 have:=Zcc pl
 simp only [mkS,Rows.uptoBulk,Rows.uptoBulkAll]
 simp only [Z2x]
 omega
theorem Zly {N:Nat}{kd nm:ByteArray}{pl:List ByteArray}{el bd es:List (DataW Unit)} (hk:OkS N (mkS kd nm pl el bd es)):pl.length≤N∧Zov N el∧Zd7 N bd∧Zd7 N es:=by
 obtain ⟨m,hm⟩:=hk
 cases m with
 | zero=>exact hm.elim
 | succ m =>
  obtain ⟨_,_,_,_,_,_,hd2,q1,q2,q3,q4,q5,q6⟩:=hm
  obtain ⟨rfl,rfl,rfl,rfl,rfl,rfl⟩:=Z72 hd2
  exact ⟨q1,q2,⟨q3,fun e he=>⟨m,q5 e he⟩⟩,q4,fun e he=>⟨m,q6 e he⟩⟩
def StS (D:Nat):Prop:=∀ (B p c:Nat) (l:List SD) (w:World),FS B p c l w→B≤w.heap.size → ∀ (ba:Option Addr) (bc:Nat) (ss:List (DataW Unit)),Z31 (fun b=>b<B) w ba ss→Zd7 2000000 ss→ZSL D ss→c+2*Z2x ss≤900000000 → ∀ (in_:Nat) (looped:Bool),in_<l.length →
 Calls prog 16 #[.pointer (some ⟨p,0,none⟩),.slice ba ss.length bc,.int .i64 (in_:Int),.bool looped] w fun ev w'=>ev = .returned (.tuple #[])∧Fr B w w' ∧ ∃ l',l.length≤l'.length∧FS B p (c+2*Z2x ss) l' w'
def StOne (B:Nat) (w:World) (D:Nat) (kd nm:ByteArray) (pl:List ByteArray) (el bd es:List (DataW Unit)) (pa la ba ea:Option Addr):Prop:=Z54 (fun b=>b<B) w pa pl∧Z9i (fun b=>b<B) w la el∧Z31 (fun b=>b<B) w ba bd∧Z31 (fun b=>b<B) w ea es∧OkS 2000000 (mkS kd nm pl el bd es)∧zS (D+1) (mkS kd nm pl el bd es)
set_option maxHeartbeats 32000000 in
set_option maxRecDepth 100000 in
theorem Zdh (D:Nat) (hS:StS D) {B p c:Nat}{l:List SD}{w:World} (h:FS B p c l w) (hBw:B≤w.heap.size) (kd nm:ByteArray) (pl:List ByteArray) (el bd es:List (DataW Unit)) (pa la ba ea:Option Addr) (pc lc bc ec:Nat) (hO:StOne B w D kd nm pl el bd es pa la ba ea) (hc:c+2*Rows.uptoBulk (mkS kd nm pl el bd es)≤900000000) (in_:Nat) (looped:Bool) (hin:in_<l.length) :
  Calls prog 28 #[.pointer (some ⟨p,0,none⟩),.agg #[.string kd,.string nm,.slice pa pl.length pc,.slice la el.length lc,.slice ba bd.length bc,.slice ea es.length ec],.int .i64 (in_:Int),.bool looped] w fun ev w'=>ev = .returned (.tuple #[])∧Fr B w w' ∧ ∃ l',l.length≤l'.length∧FS B p (c+2*Rows.uptoBulk (mkS kd nm pl el bd es)) l' w':=by
 have hcs:=Ztb kd nm pl el bd es
 obtain ⟨g1,g2,g3,g4,hk,hz⟩:=hO
 obtain ⟨k1,k2,k3,k4⟩:=Zly hk
 obtain ⟨znm,z2,z3,z4⟩:=Zlp hz
 have zp:∀ x∈pl,x.size≤140737488355328:=by
  obtain ⟨_,_,_,_,_,_,hd2,_,_,q3,_⟩:=hz
  obtain ⟨rfl,rfl,rfl,rfl,rfl,rfl⟩:=Z72 hd2
  exact q3
 generalize Rows.uptoBulk (mkS kd nm pl el bd es)=C at *
 obtain ⟨vs,bg,wr,vc,cl,b1w,_,_,b4,_⟩:=h.blk
 obtain ⟨c0,c1,c2,c3,cf⟩:=Z2e b1w
 have f1:=cf 1
 have hpl:=h.lt
 have bg0:=b4.1
 have bg1:=b4.2
 obtain ⟨bn,rfl⟩:∃ bn:Nat,bg=(bn:Int):=⟨bg.toNat,by omega⟩
 have hf0:FS B p (c+1) l (w.setCell ⟨p,1,none⟩ (.int .i64 ((bn:Int)+1))):=(h.more (Nat.le_succ c)).nums 1 _ (.inl rfl) (by simp;omega) (by omega)
 have hex0:Ex (fun q=>q=p) w (w.setCell ⟨p,1,none⟩ (.int .i64 ((bn:Int)+1))):=(Ex.refl (fun q=>q=p) w).set (S:=fun q=>q=p) (p:=p) rfl _
 have hr0:=h.exb hex0
 have hs0:(w.setCell ⟨p,1,none⟩ (.int .i64 ((bn:Int)+1))).heap.size=w.heap.size:=by simp [World.setCell]
 obtain ⟨wE,hE⟩:∃ wE,wE=(w.setCell ⟨p,1,none⟩ (.int .i64 ((bn:Int)+1))).alloc (.cells #[.string kd,.string nm,.slice pa pl.length pc,.slice la el.length lc,.slice ba bd.length bc,.slice ea es.length ec] 52):=⟨_,rfl⟩
 have hbE:Below (w.setCell ⟨p,1,none⟩ (.int .i64 ((bn:Int)+1))).heap.size (w.setCell ⟨p,1,none⟩ (.int .i64 ((bn:Int)+1))) wE:=by rw [hE];exact (Below.refl _ _).alloc (Nat.le_refl _) _
 have hbx:wE.heap[w.heap.size]?=some (.cells #[.string kd,.string nm,.slice pa pl.length pc,.slice la el.length lc,.slice ba bd.length bc,.slice ea es.length ec] 52):=by
  rw [hE]
  have h:=heap_alloc_new (w.setCell ⟨p,1,none⟩ (.int .i64 ((bn:Int)+1))) (.cells #[.string kd,.string nm,.slice pa pl.length pc,.slice la el.length lc,.slice ba bd.length bc,.slice ea es.length ec] 52)
  rw [hs0] at h
  exact h
 have hf1:=hf0.below hbE
 have hwE:Fr B w wE:=hr0.trans (Fr.of_below hbE (by omega))
 have hsE:=hbE.size
 rw [hs0] at hsE
 have HWE:=Z01 hwE
 have HBK0:=Z01 hbx
 have HE:=Z01 hE
 have HF1:=Z01 hf1
 have HB1:Hid (Fr B wE wE):=Fr.refl _ _
 obtain ⟨q,hq⟩:=Z9m.bound g2
 have HT:=Z01 (Zs0 q B p (c+1) l wE hf1 (by have:=hwE.below.size;omega) la lc el (hq.same (fun b hb2 _=>hwE.below.block b hb2) (fun b h _=>h) (Z2m (fun b hb2 _=>hwE.below.block b hb2) (fun b h _=>h) q)) k2.1 k2.2 z2 (by omega) in_ bn hin (by omega))
 have HBd:=Z01 (fun (W:World) (lk:List SD) (ck wi:Nat) (lp:Bool) (hF:FS B p ck lk W) (hW:Fr B wE W) (hck:ck+2*Z2x bd≤900000000) (hwi:wi<lk.length)=>hS B p ck lk W hF (by have:=(hwE.trans hW).below.size;omega) ba bc bd (g3.same (fun b hb2 _=>(hwE.trans hW).below.block b hb2) (fun b h _=>h)) k3 z3 hck wi lp hwi)
 have HEl:=Z01 (fun (W:World) (lk:List SD) (ck wi:Nat) (lp:Bool) (hF:FS B p ck lk W) (hW:Fr B wE W) (hck:ck+2*Z2x es≤900000000) (hwi:wi<lk.length)=>hS B p ck lk W hF (by have:=(hwE.trans hW).below.size;omega) ea ec es (g4.same (fun b hb2 _=>(hwE.trans hW).below.block b hb2) (fun b h _=>h)) k4 z4 hck wi lp hwi)
 have HN:Hid (∀ W,Fr B wE W→(0<pl.length → ∃ b o,pa=some ⟨b,o,none⟩∧b<B∧TS W b o pl)):=fun W hW h0=>by
  obtain ⟨b,o,e1,e2,e3⟩:=g1 h0
  exact ⟨b,o,e1,e2,fun i t hi=>((hwE.trans hW).below.cell (p:=⟨b,o+i,none⟩) e2).trans (e3 i t hi)⟩
 have HZP:=Z01 zp
 clear h hk hz hS g1 g2 g3 g4 k2 k3 k4 z2 z3 z4 zp hE hbx hbE b1w b4 cf hf0 hf1 hex0 hr0 hs0 hwE hq
 go_enter func28,ntmps28
 go_wp2_with fail
 rw [←HE.out]
 refine HT.out.mono ?_
 rintro ev w2 ⟨rfl,hb2,l2,hl2,hf2⟩
 have HF2:=Z01 hf2
 have HB2:Hid (Fr B wE w2):=HB1.out.trans hb2
 have HBK:Hid (∀ W,Fr B wE W→W.heap[w.heap.size]?=some (.cells #[.string kd,.string nm,.slice pa pl.length pc,.slice la el.length lc,.slice ba bd.length bc,.slice ea es.length ec] 52)):=fun W hW=>hW.kt _ _ _ _ HBK0.out (.inr rfl)
 have HBX:Hid (∀ W,Fr B wE W→W.cell? ⟨w.heap.size,0,none⟩=some (.string kd)∧W.cell? ⟨w.heap.size,1,none⟩=some (.string nm)∧W.cell? ⟨w.heap.size,2,none⟩=some (.slice pa pl.length pc)∧W.cell? ⟨w.heap.size,3,none⟩=some (.slice la el.length lc)∧W.cell? ⟨w.heap.size,4,none⟩=some (.slice ba bd.length bc)∧W.cell? ⟨w.heap.size,5,none⟩=some (.slice ea es.length ec)∧w.heap.size<W.heap.size):=fun W hW=>by
  have hk:=HBK.out W hW
  refine ⟨?_,?_,?_,?_,?_,?_,Z00 hk⟩
  ·rw [cell_of_row _ _ 0 _ _ _ hk];rfl
  ·rw [cell_of_row _ _ 1 _ _ _ hk];rfl
  ·rw [cell_of_row _ _ 2 _ _ _ hk];rfl
  ·rw [cell_of_row _ _ 3 _ _ _ hk];rfl
  ·rw [cell_of_row _ _ 4 _ _ _ hk];rfl
  ·rw [cell_of_row _ _ 5 _ _ _ hk];rfl
 have hin2:in_<l2.length:=by omega
 have hpl2:=HF2.out.lt
 obtain ⟨d0,d1,d2,d3,d4,d5,dl⟩:=HBX.out w2 HB2.out
 clear hb2 hf2 c0 c1 c2 c3 f1 hpl HT
 cases ka:(kd.toList == [115,101,116]) with
 | true =>
  obtain ⟨g,cap,x,hx,hxa,q0,q1⟩:=HF2.out.at hin2
  obtain ⟨n',h64,hn',_⟩:=hxa.ok.all nm
  obtain ⟨hkx,hox,_⟩:=HF2.out.lo in_ x hx
  have hbz:=HB2.out.below.size
  have HU:=Z01 (fun W' (hW:Ex (fun _=>False) w2 W')=>Z7h (hxa.ex hW (fun _ _ h=>h)) nm (ml znm) hn' h64 (by omega) (by omega) (by have:=hW.size;omega))
  have hgl:=Z02 q1
  have hpl:=HF2.out.lt
  obtain ⟨ng,np⟩:=HF2.out.no hxa q0
  obtain ⟨b0,b1,b2,b3,b4,b5,bl⟩:=HBX.out w2 HB2.out
  have hboxn:¬ x.has w.heap.size:=Z1r hxa (HBK.out _ HB2.out) (by decide) (by decide)
  have HXA:=Z01 hxa
  have HKP:Hid (∀ W1:World,(∀ q,q<w2.heap.size → ¬ x.has q→W1.heap[q]?=w2.heap[q]?)→W1.cell? ⟨p,0,none⟩=some (.slice (some ⟨g,0,none⟩) l2.length cap)∧W1.cell? ⟨g,in_,none⟩=some (.pointer (some ⟨x.b,0,none⟩))∧W1.cell? ⟨w.heap.size,1,none⟩=some (.string nm)):=fun W1 hW1=>⟨(World.cell?_of_block (a:=⟨p,0,none⟩) (hW1 p hpl np)).trans q0,(World.cell?_of_block (a:=⟨g,in_,none⟩) (hW1 g hgl ng)).trans q1,(World.cell?_of_block (a:=⟨w.heap.size,1,none⟩) (hW1 _ bl hboxn)).trans b1⟩
  clear hxa
  go_upto_region 7 with fail
  go_region_held3 (fun W=>W.cell? ⟨p,0,none⟩=some (.slice (some ⟨g,0,none⟩) l2.length cap)∧W.cell? ⟨g,in_,none⟩=some (.pointer (some ⟨x.b,0,none⟩))∧W.cell? ⟨w.heap.size,1,none⟩=some (.string nm)) (first | go_keep | exact hk1) ((go_at_call 30;refine (HU.out _ (by first | exact Ex.refl _ _ | exact (Ex.refl _ _).drew | exact (Ex.refl _ _).drewN)).mono ?_;rintro ev w3 ⟨rfl,hex,x',hx',ht⟩;have hk1:=HKP.out w3 (fun q hq hn=>hex.block q hq hn)))
  have hexE:Ex x.has w2 w3:=⟨hex.os,hex.tape,hex.output,hex.size,hex.block⟩
  obtain ⟨l3,hq3⟩:∃ l3,l3=l2.set in_ x':=⟨_,rfl⟩
  have hf3:=HF2.out.turn hx hx' ht (.inl rfl) hexE
  rw [←hq3] at hf3
  have HF3:=Z01 hf3
  have hl3:l3.length=l2.length:=(by rw [hq3,List.length_set])
  have HB3:Hid (Fr B wE w3):=HB2.out.trans (HXA.out.fr hexE (by omega))
  have hin3:in_<l3.length:=(by omega)
  clear hex hexE hx' ht hk1 hf3 hq3 q0 q1 b0 b1 b2 b3 b4 b5 bl hx hbz hkx hox
  go_wp2_with fail
  go_end0
  exact ⟨rfl,HWE.out.trans HB3.out,_,(by omega),HF3.out.more (by omega)⟩
 | false =>
  cases kb:(kd.toList == [102,111,114]) with
  | true =>
   obtain ⟨g,cap,x,hx,hxa,q0,q1⟩:=HF2.out.at hin2
   obtain ⟨n',h64,hn',_⟩:=hxa.ok.all nm
   obtain ⟨hkx,hox,_⟩:=HF2.out.lo in_ x hx
   have hbz:=HB2.out.below.size
   have HU:=Z01 (fun W' (hW:Ex (fun _=>False) w2 W')=>Z7h (hxa.ex hW (fun _ _ h=>h)) nm (ml znm) hn' h64 (by omega) (by omega) (by have:=hW.size;omega))
   have hgl:=Z02 q1
   have hpl:=HF2.out.lt
   obtain ⟨ng,np⟩:=HF2.out.no hxa q0
   obtain ⟨b0,b1,b2,b3,b4,b5,bl⟩:=HBX.out w2 HB2.out
   have hboxn:¬ x.has w.heap.size:=Z1r hxa (HBK.out _ HB2.out) (by decide) (by decide)
   have HXA:=Z01 hxa
   have HKP:Hid (∀ W1:World,(∀ q,q<w2.heap.size → ¬ x.has q→W1.heap[q]?=w2.heap[q]?)→W1.cell? ⟨p,0,none⟩=some (.slice (some ⟨g,0,none⟩) l2.length cap)∧W1.cell? ⟨g,in_,none⟩=some (.pointer (some ⟨x.b,0,none⟩))∧W1.cell? ⟨w.heap.size,1,none⟩=some (.string nm)):=fun W1 hW1=>⟨(World.cell?_of_block (a:=⟨p,0,none⟩) (hW1 p hpl np)).trans q0,(World.cell?_of_block (a:=⟨g,in_,none⟩) (hW1 g hgl ng)).trans q1,(World.cell?_of_block (a:=⟨w.heap.size,1,none⟩) (hW1 _ bl hboxn)).trans b1⟩
   clear hxa
   go_upto_region 9 with fail
   go_region_held3 (fun W=>W.cell? ⟨p,0,none⟩=some (.slice (some ⟨g,0,none⟩) l2.length cap)∧W.cell? ⟨g,in_,none⟩=some (.pointer (some ⟨x.b,0,none⟩))∧W.cell? ⟨w.heap.size,1,none⟩=some (.string nm)) (first | go_keep | exact hk1) ((go_at_call 30;refine (HU.out _ (by first | exact Ex.refl _ _ | exact (Ex.refl _ _).drew | exact (Ex.refl _ _).drewN)).mono ?_;rintro ev w3 ⟨rfl,hex,x',hx',ht⟩;have hk1:=HKP.out w3 (fun q hq hn=>hex.block q hq hn)))
   have hexE:Ex x.has w2 w3:=⟨hex.os,hex.tape,hex.output,hex.size,hex.block⟩
   obtain ⟨l3,hq3⟩:∃ l3,l3=l2.set in_ x':=⟨_,rfl⟩
   have hf3:=HF2.out.turn hx hx' ht (.inl rfl) hexE
   rw [←hq3] at hf3
   have HF3:=Z01 hf3
   have hl3:l3.length=l2.length:=(by rw [hq3,List.length_set])
   have HB3:Hid (Fr B wE w3):=HB2.out.trans (HXA.out.fr hexE (by omega))
   have hin3:in_<l3.length:=(by omega)
   clear hex hexE hx' ht hk1 hf3 hq3 q0 q1 b0 b1 b2 b3 b4 b5 bl hx hbz hkx hox
   clear d0 d1 d2 d3 d4 d5 dl hpl2
   have HC4:=Z01 (HBd.out w3 _ _ in_ true HF3.out HB3.out (by omega) hin3)
   obtain ⟨b0,b1,b2,b3,b4,b5,bl⟩:=HBX.out w3 HB3.out
   have hpl4:=HF3.out.lt
   go_wp2_with fail
   refine HC4.out.mono ?_
   rintro ev w4 ⟨rfl,hb4,l4,hl4,hf4⟩
   have HB4:Hid (Fr B wE w4):=HB3.out.trans hb4
   have HF4:=Z01 hf4
   clear hb4 hf4 b0 b1 b2 b3 b4 b5 bl hpl4
   go_wp2_with fail
   go_end0
   exact ⟨rfl,HWE.out.trans HB4.out,_,(by omega),HF4.out.more (by omega)⟩
  | false =>
   cases kc:(kd.toList == [119,104,105,108,101]) with
   | true =>
    have HC3:=Z01 (HBd.out w2 _ _ in_ true HF2.out HB2.out (by omega) hin2)
    obtain ⟨b0,b1,b2,b3,b4,b5,bl⟩:=HBX.out w2 HB2.out
    have hpl3:=HF2.out.lt
    go_wp2_with fail
    refine HC3.out.mono ?_
    rintro ev w3 ⟨rfl,hb3,l3,hl3,hf3⟩
    have HB3:Hid (Fr B wE w3):=HB2.out.trans hb3
    have HF3:=Z01 hf3
    clear hb3 hf3 b0 b1 b2 b3 b4 b5 bl hpl3
    clear d0 d1 d2 d3 d4 d5 dl hpl2
    go_wp2_with fail
    go_end0
    exact ⟨rfl,HWE.out.trans HB3.out,_,(by omega),HF3.out.more (by omega)⟩
   | false =>
    cases ke:(kd.toList == [100,101,102]) with
    | true =>
     obtain ⟨g,cap,x,hx,hxa,q0,q1⟩:=HF2.out.at hin2
     obtain ⟨n',h64,hn',_⟩:=hxa.ok.all nm
     obtain ⟨hkx,hox,_⟩:=HF2.out.lo in_ x hx
     have hbz:=HB2.out.below.size
     have HU:=Z01 (fun W' (hW:Ex (fun _=>False) w2 W')=>Z7h (hxa.ex hW (fun _ _ h=>h)) nm (ml znm) hn' h64 (by omega) (by omega) (by have:=hW.size;omega))
     have hgl:=Z02 q1
     have hpl:=HF2.out.lt
     obtain ⟨ng,np⟩:=HF2.out.no hxa q0
     obtain ⟨b0,b1,b2,b3,b4,b5,bl⟩:=HBX.out w2 HB2.out
     have hboxn:¬ x.has w.heap.size:=Z1r hxa (HBK.out _ HB2.out) (by decide) (by decide)
     have HXA:=Z01 hxa
     have HKP:Hid (∀ W1:World,(∀ q,q<w2.heap.size → ¬ x.has q→W1.heap[q]?=w2.heap[q]?)→W1.cell? ⟨p,0,none⟩=some (.slice (some ⟨g,0,none⟩) l2.length cap)∧W1.cell? ⟨g,in_,none⟩=some (.pointer (some ⟨x.b,0,none⟩))∧W1.cell? ⟨w.heap.size,1,none⟩=some (.string nm)):=fun W1 hW1=>⟨(World.cell?_of_block (a:=⟨p,0,none⟩) (hW1 p hpl np)).trans q0,(World.cell?_of_block (a:=⟨g,in_,none⟩) (hW1 g hgl ng)).trans q1,(World.cell?_of_block (a:=⟨w.heap.size,1,none⟩) (hW1 _ bl hboxn)).trans b1⟩
     clear hxa
     go_upto_region 14 with fail
     go_region_held3 (fun W=>W.cell? ⟨p,0,none⟩=some (.slice (some ⟨g,0,none⟩) l2.length cap)∧W.cell? ⟨g,in_,none⟩=some (.pointer (some ⟨x.b,0,none⟩))∧W.cell? ⟨w.heap.size,1,none⟩=some (.string nm)) (first | go_keep | exact hk1) ((go_at_call 30;refine (HU.out _ (by first | exact Ex.refl _ _ | exact (Ex.refl _ _).drew | exact (Ex.refl _ _).drewN)).mono ?_;rintro ev w3 ⟨rfl,hex,x',hx',ht⟩;have hk1:=HKP.out w3 (fun q hq hn=>hex.block q hq hn)))
     have hexE:Ex x.has w2 w3:=⟨hex.os,hex.tape,hex.output,hex.size,hex.block⟩
     obtain ⟨l3,hq3⟩:∃ l3,l3=l2.set in_ x':=⟨_,rfl⟩
     have hf3:=HF2.out.turn hx hx' ht (.inl rfl) hexE
     rw [←hq3] at hf3
     have HF3:=Z01 hf3
     have hl3:l3.length=l2.length:=(by rw [hq3,List.length_set])
     have HB3:Hid (Fr B wE w3):=HB2.out.trans (HXA.out.fr hexE (by omega))
     have hin3:in_<l3.length:=(by omega)
     clear hex hexE hx' ht hk1 hf3 hq3 q0 q1 b0 b1 b2 b3 b4 b5 bl hx hbz hkx hox
     clear d0 d1 d2 d3 d4 d5 dl hpl2
     have HOP:=Z01 (fun W' (hW:Ex (fun _=>False) w3 W')=>Zf2 (HF3.out.ex hW (fun _ _ _ h=>h)) (by have:=hW.size;have:=HB3.out.below.size;omega) nm pl pa pc (HN.out W' (HB3.out.trans (hW.fr (by have:=HB3.out.below.size;omega)))) HZP.out (in_:Int) ⟨fun h=>by omega,fun _=>⟨in_,hin3,rfl⟩⟩ bn (by omega) (by omega))
     have HX3:Hid (∀ W,Fr B wE W→W.cell? ⟨w.heap.size,1,none⟩=some (.string nm)∧W.cell? ⟨w.heap.size,2,none⟩=some (.slice pa pl.length pc)∧W.cell? ⟨w.heap.size,4,none⟩=some (.slice ba bd.length bc)):=fun W hW=>⟨(HBX.out W hW).2.1,(HBX.out W hW).2.2.1,(HBX.out W hW).2.2.2.2.1⟩
     obtain ⟨b0,b1,b2,b3,b4,b5,bl⟩:=HBX.out w3 HB3.out
     have hpl3:=HF3.out.lt
     go_upto_region 15 with fail
     go_region_held3 (fun W=>W.cell? ⟨w.heap.size,1,none⟩=some (.string nm)∧W.cell? ⟨w.heap.size,2,none⟩=some (.slice pa pl.length pc)∧W.cell? ⟨w.heap.size,4,none⟩=some (.slice ba bd.length bc)) (first | go_keep | with_reducible exact hk2 | with_reducible exact hk1) (first
      | (go_at_call 17;refine (HOP.out _ (by first | exact Ex.refl _ _ | exact (Ex.refl _ _).drew | exact (Ex.refl _ _).drewN)).mono ?_;rintro ev w4 ⟨rfl,hb4,x4,hf4⟩;have HB4:Hid (Fr B wE w4):=HB3.out.trans ⟨⟨hb4.below.os,hb4.below.tape,hb4.below.output,hb4.below.size,hb4.below.block⟩,hb4.kt⟩;have hk1:=HX3.out w4 HB4.out)
      | (go_at_call 16;refine (HBd.out w4 _ _ l2.length false hf4 HB4.out (by omega) (by rw [List.length_append];simp;omega)).mono ?_;rintro ev w5 ⟨rfl,hb5,l5,hl5,hf5⟩;have HB5:Hid (Fr B wE w5):=HB4.out.trans hb5;have hk2:=HX3.out w5 HB5.out))
     have HF5:=Z01 hf5
     rw [List.length_append] at hl5
     clear hb4 hf4 hb5 hf5 hk1 hk2 b0 b1 b2 b3 b4 b5 bl
     go_wp2_with fail
     go_end0
     exact ⟨rfl,HWE.out.trans HB5.out,_,(by simp at hl5;omega),HF5.out.more (by omega)⟩
    | false =>
     cases kf:(kd.toList == [105,102]) with
     | true =>
      have HC3:=Z01 (HBd.out w2 _ _ in_ looped HF2.out HB2.out (by omega) hin2)
      obtain ⟨b0,b1,b2,b3,b4,b5,bl⟩:=HBX.out w2 HB2.out
      have hpl3:=HF2.out.lt
      go_wp2_with fail
      refine HC3.out.mono ?_
      rintro ev w3 ⟨rfl,hb3,l3,hl3,hf3⟩
      have HB3:Hid (Fr B wE w3):=HB2.out.trans hb3
      have HF3:=Z01 hf3
      clear hb3 hf3 b0 b1 b2 b3 b4 b5 bl hpl3
      clear d0 d1 d2 d3 d4 d5 dl hpl2
      have HC4:=Z01 (HEl.out w3 _ _ in_ looped HF3.out HB3.out (by omega) (by omega))
      obtain ⟨b0,b1,b2,b3,b4,b5,bl⟩:=HBX.out w3 HB3.out
      have hpl4:=HF3.out.lt
      go_wp2_with fail
      refine HC4.out.mono ?_
      rintro ev w4 ⟨rfl,hb4,l4,hl4,hf4⟩
      have HB4:Hid (Fr B wE w4):=HB3.out.trans hb4
      have HF4:=Z01 hf4
      clear hb4 hf4 b0 b1 b2 b3 b4 b5 bl hpl4
      go_wp2_with fail
      go_end0
      exact ⟨rfl,HWE.out.trans HB4.out,_,(by omega),HF4.out.more (by omega)⟩
     | false =>
      cases kg:(kd.toList == [116,114,121]) with
      | true =>
       have HC3:=Z01 (HBd.out w2 _ _ in_ looped HF2.out HB2.out (by omega) hin2)
       obtain ⟨b0,b1,b2,b3,b4,b5,bl⟩:=HBX.out w2 HB2.out
       have hpl3:=HF2.out.lt
       go_wp2_with fail
       refine HC3.out.mono ?_
       rintro ev w3 ⟨rfl,hb3,l3,hl3,hf3⟩
       have HB3:Hid (Fr B wE w3):=HB2.out.trans hb3
       have HF3:=Z01 hf3
       clear hb3 hf3 b0 b1 b2 b3 b4 b5 bl hpl3
       clear d0 d1 d2 d3 d4 d5 dl hpl2
       have hin3:in_<l3.length:=(by omega)
       obtain ⟨g,cap,x,hx,hxa,q0,q1⟩:=HF3.out.at hin3
       obtain ⟨n',h64,hn',_⟩:=hxa.ok.all nm
       obtain ⟨hkx,hox,_⟩:=HF3.out.lo in_ x hx
       have hbz:=HB3.out.below.size
       have HU:=Z01 (fun W' (hW:Ex (fun _=>False) w3 W')=>Z7h (hxa.ex hW (fun _ _ h=>h)) nm (ml znm) hn' h64 (by omega) (by omega) (by have:=hW.size;omega))
       have hgl:=Z02 q1
       have hpl:=HF3.out.lt
       obtain ⟨ng,np⟩:=HF3.out.no hxa q0
       obtain ⟨b0,b1,b2,b3,b4,b5,bl⟩:=HBX.out w3 HB3.out
       have hboxn:¬ x.has w.heap.size:=Z1r hxa (HBK.out _ HB3.out) (by decide) (by decide)
       have HXA:=Z01 hxa
       have HKP:Hid (∀ W1:World,(∀ q,q<w3.heap.size → ¬ x.has q→W1.heap[q]?=w3.heap[q]?)→W1.cell? ⟨p,0,none⟩=some (.slice (some ⟨g,0,none⟩) l3.length cap)∧W1.cell? ⟨g,in_,none⟩=some (.pointer (some ⟨x.b,0,none⟩))∧W1.cell? ⟨w.heap.size,1,none⟩=some (.string nm)):=fun W1 hW1=>⟨(World.cell?_of_block (a:=⟨p,0,none⟩) (hW1 p hpl np)).trans q0,(World.cell?_of_block (a:=⟨g,in_,none⟩) (hW1 g hgl ng)).trans q1,(World.cell?_of_block (a:=⟨w.heap.size,1,none⟩) (hW1 _ bl hboxn)).trans b1⟩
       clear hxa
       go_upto_region 21 with fail
       go_region_held3 (fun W=>W.cell? ⟨p,0,none⟩=some (.slice (some ⟨g,0,none⟩) l3.length cap)∧W.cell? ⟨g,in_,none⟩=some (.pointer (some ⟨x.b,0,none⟩))∧W.cell? ⟨w.heap.size,1,none⟩=some (.string nm)) (first | go_keep | exact hk1) ((go_at_call 30;refine (HU.out _ (by first | exact Ex.refl _ _ | exact (Ex.refl _ _).drew | exact (Ex.refl _ _).drewN)).mono ?_;rintro ev w4 ⟨rfl,hex,x',hx',ht⟩;have hk1:=HKP.out w4 (fun q hq hn=>hex.block q hq hn)))
       have hexE:Ex x.has w3 w4:=⟨hex.os,hex.tape,hex.output,hex.size,hex.block⟩
       obtain ⟨l4,hq4⟩:∃ l4,l4=l3.set in_ x':=⟨_,rfl⟩
       have hf4:=HF3.out.turn hx hx' ht (.inl rfl) hexE
       rw [←hq4] at hf4
       have HF4:=Z01 hf4
       have hl4:l4.length=l3.length:=(by rw [hq4,List.length_set])
       have HB4:Hid (Fr B wE w4):=HB3.out.trans (HXA.out.fr hexE (by omega))
       have hin4:in_<l4.length:=(by omega)
       clear hex hexE hx' ht hk1 hf4 hq4 q0 q1 b0 b1 b2 b3 b4 b5 bl hx hbz hkx hox
       have HC5:=Z01 (HEl.out w4 _ _ in_ looped HF4.out HB4.out (by omega) hin4)
       obtain ⟨b0,b1,b2,b3,b4,b5,bl⟩:=HBX.out w4 HB4.out
       have hpl5:=HF4.out.lt
       go_wp2_with fail
       refine HC5.out.mono ?_
       rintro ev w5 ⟨rfl,hb5,l5,hl5,hf5⟩
       have HB5:Hid (Fr B wE w5):=HB4.out.trans hb5
       have HF5:=Z01 hf5
       clear hb5 hf5 b0 b1 b2 b3 b4 b5 bl hpl5
       go_wp2_with fail
       go_end0
       exact ⟨rfl,HWE.out.trans HB5.out,_,(by omega),HF5.out.more (by omega)⟩
      | false =>
       have HWD:=Z01 (Ztg HF2.out (by have:=HB2.out.below.size;omega) kd nm pl pa la ba ea pc el.length lc bd.length bc es.length ec (HN.out w2 HB2.out) HZP.out in_ bn hin2 (by omega) (by omega) looped)
       go_wp2_with fail
       refine HWD.out.mono ?_
       rintro ev w3 ⟨rfl,hb3,l3,hl3,hf3⟩
       have HB3:Hid (Fr B wE w3):=HB2.out.trans hb3
       have HF3:=Z01 hf3
       clear hb3 hf3
       clear d0 d1 d2 d3 d4 d5 dl hpl2
       go_wp2_with fail
       go_end0
       exact ⟨rfl,HWE.out.trans HB3.out,_,(by omega),HF3.out.more (by omega)⟩
end Go.Proofs.YtflcohidmemfpaaGreatDoor
