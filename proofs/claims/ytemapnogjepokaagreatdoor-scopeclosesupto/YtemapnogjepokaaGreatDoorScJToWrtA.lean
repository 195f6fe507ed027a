/- Package scope: statements. -/
import Derived.Test.YtemapnogjepokaaGreatDoorScI
import Derived.Test.YtemapnogjepokaaGreatDoorErrCodeToLexB
import Derived.Lib.AppendStr
import Derived.Laws.BytesArg
import Derived.Laws.Rows
import Derived.Deep.RegionWith
import Derived.Deep.QuietTactic
import Derived.BigQuiet
import Derived.Deep.RegionHeld3
import Derived.Deep.LoopGhost
import Derived.Lib.OthersKept
namespace Go.Proofs.YtemapnogjepokaaGreatDoor
open Go.RowKit Go.Maps

set_option maxHeartbeats 16000000 in
set_option maxRecDepth 100000 in
theorem statements_step (D:Nat) (hI:∀ m,D=m+1→StS m):StS D:=by
 intro B p c l w h hBw la lc el hr hk hz hc in_ looped hin
 have H:=toHid h
 have HR:=toHid hr
 have HI:=toHid hI
 have HK:=toHid hk
 have HZ:=toHid hz
 have hn:=hk.1
 clear h hr hI hk hz
 go_enter Tryz.func16,Tryz.ntmps16
 go_wp2_with fail
 go_loopg [12] (el.length+1) (fun gk v12 wr => ∃ (j:Nat) (lj:List SD),gk=el.length+1 - j∧j≤el.length∧v12 = .int .i64 (j:Int)∧l.length≤lj.length∧FS B p (c+2*costs (el.take j)) lj wr∧Fr B w wr)
 case atStart=>exact ⟨0,l,rfl,Nat.zero_le _,rfl,Nat.le_refl _,by simpa [costs,Rows.uptoBulkAll] using H.out,Fr.refl _ _⟩
 case round =>
  obtain ⟨j,lj,hgk,hj,rfl,hlj,hf,hb⟩:=hrel
  have HG:=toHid hgk
  have hj0:(0:Int)≤(j:Int):=by omega
  have hsz:=hb.below.size
  clear hgk
  by_cases hlt:j<el.length
  ·have hI1:(j:Int)<(el.length:Int):=by omega
   obtain ⟨b1,o1,rfl,hbB,t1⟩:=HR.out (by omega)
   obtain ⟨e,he⟩:∃ e,el[j]?=some e:=⟨el[j],by simp [hlt]⟩
   obtain ⟨c0,c1,c2,c3,c4,c5,x0,x1,x2,x3,x4,x5,n,hr⟩:=t1 j e he
   have hke:=HK.out.2 e (List.mem_of_getElem? he)
   have hze:=HZ.out e (List.mem_of_getElem? he)
   have hct:=costs_take he
   have hcl:=costs_le el (j+1)
   obtain ⟨m,rfl⟩:∃ m,D=m+1:=by
    cases D with
    | zero=>exact hze.elim
    | succ m=>exact ⟨m,rfl⟩
   cases n with
   | zero=>exact hr.elim
   | succ n =>
   obtain ⟨kd,nm,pl,el1,bd,es,pa,la1,ba1,ea1,pc,lc1,bc1,ec1,rfl,hcs,g1,g2,g3,g4⟩:=hr
   simp only [List.cons.injEq,and_true] at hcs
   obtain ⟨rfl,rfl,rfl,rfl,rfl,rfl⟩:=hcs
   have x0:=(hb.below.cell (p:=⟨b1,o1+j*6,none⟩) hbB).trans x0
   have x1:=(hb.below.cell (p:=⟨b1,o1+j*6+1,none⟩) hbB).trans x1
   have x2:=(hb.below.cell (p:=⟨b1,o1+j*6+2,none⟩) hbB).trans x2
   have x3:=(hb.below.cell (p:=⟨b1,o1+j*6+3,none⟩) hbB).trans x3
   have x4:=(hb.below.cell (p:=⟨b1,o1+j*6+4,none⟩) hbB).trans x4
   have x5:=(hb.below.cell (p:=⟨b1,o1+j*6+5,none⟩) hbB).trans x5
   have hbl:=lt_of_cell x0
   have HS:=toHid (fun W (hF:FS B p (c+2*costs (el.take j)) lj W) (hW:Fr B w W)=>statement_any' m (HI.out m rfl) hF (by have:=hW.below.size;omega) kd nm pl el1 bd es pa la1 ba1 ea1 pc lc1 bc1 ec1 ⟨g1.same (fun b hb2 _=>hW.below.block b hb2) (fun b h _=>h),g2.same (fun b hb2 _=>hW.below.block b hb2) (fun b h _=>h),RepVSL.same (rowS.imp g3 (fun cs d h=>⟨n,h⟩)) (fun b hb2 _=>hW.below.block b hb2) (fun b h _=>h),RepVSL.same (rowS.imp g4 (fun cs d h=>⟨n,h⟩)) (fun b hb2 _=>hW.below.block b hb2) (fun b h _=>h),hke,hze⟩ (by omega) in_ looped (by omega))
   have HF:=toHid hf
   have HB:=toHid hb
   have HT:=toHid hct
   have HCL:=toHid hcl
   clear t1 HR he hke hze g1 g2 g3 g4 HI HK HZ hf hb hct hcl
   go_wp2_with fail
   refine (HS.out _ (by first | exact HF.out | exact HF.out.below ((Below.refl _ _).alloc (Nat.le_refl _) _)) (by first | exact HB.out | exact HB.out.trans (Fr.of_below ((Below.refl _ _).alloc (Nat.le_refl _) _) (by omega)))).mono ?_
   rintro ev w2 ⟨rfl,hb2,l2,hl2,hf2⟩
   have HB2:Hid (Fr B w w2):=by first | exact HB.out.trans hb2 | exact (HB.out.trans (Fr.of_below ((Below.refl _ _).alloc (Nat.le_refl _) _) (by omega))).trans hb2
   have HF2:Hid (FS B p (c+2*costs (el.take (j+1))) l2 w2):=hf2.more (by have:=HT.out;omega)
   clear hb2 hf2 x0 x1 x2 x3 x4 x5
   go_wp2_with fail
   go_roundg (el.length+1 - (j+1))
   case measure=>have:=HG.out;omega
   case rel=>exact ⟨j+1,l2,rfl,by omega,by go_num,by omega,HF2.out,HB2.out⟩
  ·obtain rfl:j=el.length:=by omega
   rw [List.take_length] at hf
   have HF:=toHid hf
   have HB:=toHid hb
   clear hf hb
   go_wp2_with fail
   go_end0
   exact ⟨rfl,HB.out,lj,hlj,HF.out⟩
theorem stS_all:∀ D,StS D
 | 0=>statements_step 0 (fun m h=>by omega)
 | D+1=>statements_step (D+1) (fun m h=>by
  have e:D=m:=by omega
  exact e ▸ stS_all D)
end Go.Proofs.YtemapnogjepokaaGreatDoor

/- Package tree's writer at one statement: put, by a contract. -/
namespace Go.Proofs.YtemapnogjepokaaGreatDoor
open Go.RowKit Go.Lib

structure WS (w0:World) (p:Nat) (t:ByteArray) (w:World):Prop where
 blk:∃ rk v tm,w.heap[p]?=some (.cells #[rk,v,.int .i64 tm,.bool false] 77)∧w.ownsRow w0.heap.size 5 1 v t.size (strCells t)∧v.ownBlock≠some p
 hp:w0.heap.size≤p
 bl:Below w0.heap.size w0 w
theorem four_cells {w:World}{b t:Nat}{u0 u1 u2 u3:Value}(h:w.heap[b]?=some (.cells #[u0,u1,u2,u3] t)) :
  w.cell? ⟨b,0,none⟩=some u0∧w.cell? ⟨b,1,none⟩=some u1∧w.cell? ⟨b,2,none⟩=some u2∧w.cell? ⟨b,3,none⟩=some u3 ∧ ∀ o,w.frozen? ⟨b,o,none⟩=false:=by
 refine ⟨?_,?_,?_,?_,fun o=>by simp [World.frozen?,h]⟩
 ·rw [cell_of_row w b 0 _ _ _ h];rfl
 ·rw [cell_of_row w b 1 _ _ _ h];rfl
 ·rw [cell_of_row w b 2 _ _ _ h];rfl
 ·rw [cell_of_row w b 3 _ _ _ h];rfl

theorem own_shape {w:World}{base e size n:Nat}{v:Value}{xs:List Value}(h:w.ownsRow base e size v n xs):∃ pa pc,v = .slice pa n pc:=by
 rcases h.2 with ⟨h,h2⟩ | ⟨g,cap,cur,h,_⟩
 ·exact ⟨none,0,by rw [h,h2]⟩
 ·exact ⟨_,_,h⟩
theorem toHidP {p:Prop}(h:p):Hid p:=h
theorem infoU8:∃ i,Tryz.prog.info? 5=some i∧i.zero=some (.int .u8 0)∧i.size=1∧i.bytes=1:=by
 have h:(Tryz.prog.info? 5).map (fun i=>(i.zero,i.size,i.bytes))=some (some (.int .u8 0),1,1):=by kernel_rfl
 cases hi:Tryz.prog.info? 5 with
 | none=>rw [hi] at h;cases h
 | some i =>
  rw [hi] at h
  simp only [Option.map_some,Option.some.injEq,Prod.mk.injEq] at h
  exact ⟨i,rfl,h.1,h.2.1,h.2.2⟩
theorem strCells_append (a b:ByteArray):strCells (a++b)=strCells a++strCells b:=by
 simp [strCells]
theorem WS.after {w0 w w':World}{p:Nat}{t s:ByteArray}{rk v v':Value}{tm:Int}(C:WS w0 p t w) (hb:w.heap[p]?=some (.cells #[rk,v,.int .i64 tm,.bool false] 77)) (ho:w.ownsRow w0.heap.size 5 1 v t.size (strCells t)) (hv:v.ownBlock≠some p)
  (hown:w'.ownsRow w0.heap.size 5 1 v' (t.size+s.size) (strCells t++strCells s)) (hg:w.grownBy w' v.ownBlock):w'.heap[p]?=some (.cells #[rk,v,.int .i64 tm,.bool false] 77)∧WS w0 p (t++s) (w'.setCell ⟨p,1,none⟩ v'):=by
 have hpl:=lt_of_heap hb
 have hb':w'.heap[p]?=some (.cells #[rk,v,.int .i64 tm,.bool false] 77):=(hg.block p hpl (fun e=>hv e.symm)).trans hb
 refine ⟨hb',⟨rk,v',tm,?_,?_,?_⟩,C.hp,?_⟩
 ·simp [World.setCell,Array.getElem?_modify,hb']
 ·refine ⟨by rw [strCells_length,ByteArray.size_append,Nat.mul_one],?_⟩
  rw [ByteArray.size_append,strCells_append]
  rcases hown.2 with h | ⟨g,cap,cur,e1,e2,e3,e4⟩
  ·exact .inl h
  ·refine .inr ⟨g,cap,cur,e1,e2,?_,e4⟩
   have hne:g≠p:=fun h=>by
    rw [h,hb'] at e3
    simp at e3
   exact (Below.heap_setCell _ _ _ _ hne).trans e3
 ·intro h
  rcases hown.2 with ⟨e,_⟩ | ⟨g,cap,cur,e1,e2,e3,e4⟩
  ·rw [e] at h
   simp [Value.ownBlock] at h
  ·rw [e1] at h
   simp [Value.ownBlock] at h
   rw [h,hb'] at e3
   simp at e3
 ·exact (Below.grown C.bl hg C.bl.size (fun k hk=>by
   rcases ho.2 with ⟨e,_⟩ | ⟨g,cap,cur,e1,e2,e3,e4⟩
   ·rw [e] at hk
    simp [Value.ownBlock] at hk
   ·rw [e1] at hk
    simp [Value.ownBlock] at hk
    omega)).setCell C.hp _

theorem WS.more {w0 w w':World}{p:Nat}{t:ByteArray}(C:WS w0 p t w) (hb:Below w.heap.size w w'):WS w0 p t w':=by
 obtain ⟨rk,v,tm,h1,h2,h3⟩:=C.blk
 refine ⟨⟨rk,v,tm,(hb.block p (lt_of_heap h1)).trans h1,⟨h2.1,?_⟩,h3⟩,C.hp,C.bl.trans (hb.mono C.bl.size)⟩
 rcases h2.2 with h | ⟨g,cap,cur,e1,e2,e3,e4⟩
 ·exact .inl h
 ·exact .inr ⟨g,cap,cur,e1,e2,(hb.block g (lt_of_heap e3)).trans e3,e4⟩
theorem WS.drewN {w0 w:World}{p n:Nat}{t:ByteArray}(C:WS w0 p t w):WS w0 p t (w.drewN n):=by
 have h:=Below.refl w.heap.size w
 exact C.more ⟨h.os,h.tape,h.output,h.size,h.block⟩
theorem WS.alloc {w0 w:World}{p:Nat}{t:ByteArray}(C:WS w0 p t w) (o:Obj):WS w0 p t (w.alloc o):=C.more ((Below.refl _ _).alloc (Nat.le_refl _) _)
end Go.Proofs.YtemapnogjepokaaGreatDoor

/- Package tree's writer, whatever it is handed: it ends, and nothing but its own text turns: put, several, names, begin. -/
namespace Go.Proofs.YtemapnogjepokaaGreatDoor
open Go.RowKit Go.Lib

structure WT (p:Nat) (rk:Value) (w1 w:World):Prop where
 blk:∃ (v:Value) (t:ByteArray) (tm:Int) (lost:Bool),w.heap[p]?=some (.cells #[rk,v,.int .i64 tm,.bool lost] 77)∧w.ownsRow (p+1) 5 1 v t.size (strCells t)∧t.size≤6000
 bl:Below p w1 w
theorem WT.more {p:Nat}{rk:Value}{w1 w w':World}(C:WT p rk w1 w) (hb:Below w.heap.size w w'):WT p rk w1 w':=by
 obtain ⟨v,t,tm,lost,h1,h2,h3⟩:=C.blk
 have hp:=lt_of_heap h1
 refine ⟨⟨v,t,tm,lost,(hb.block p hp).trans h1,⟨h2.1,?_⟩,h3⟩,C.bl.trans (hb.mono (Nat.le_of_lt hp))⟩
 rcases h2.2 with h | ⟨g,cap,cur,e1,e2,e3,e4⟩
 ·exact .inl h
 ·exact .inr ⟨g,cap,cur,e1,e2,(hb.block g (lt_of_heap e3)).trans e3,e4⟩
theorem WT.alloc {p:Nat}{rk:Value}{w1 w:World}(C:WT p rk w1 w) (o:Obj):WT p rk w1 (w.alloc o):=C.more ((Below.refl _ _).alloc (Nat.le_refl _) _)
theorem WT.drew {p:Nat}{rk:Value}{w1 w:World}(C:WT p rk w1 w):WT p rk w1 w.drew:=C.more (Below.refl _ _).drew
theorem WT.drewN {p n:Nat}{rk:Value}{w1 w:World}(C:WT p rk w1 w):WT p rk w1 (w.drewN n):=by
 have h:=Below.refl w.heap.size w
 exact C.more ⟨h.os,h.tape,h.output,h.size,h.block⟩
theorem WT.lt {p:Nat}{rk:Value}{w1 w:World}(C:WT p rk w1 w):p<w.heap.size:=by
 obtain ⟨v,t,tm,lost,h1,_⟩:=C.blk
 exact lt_of_heap h1
theorem WT.old {p:Nat}{rk:Value}{w1 w:World}(C:WT p rk w1 w) {a:Addr}{v:Value}(ha:a.block<p) (h:w1.cell? a=some v):w.cell? a=some v:=(C.bl.cell (p:=a) ha).trans h
theorem WT.cells {p:Nat}{rk:Value}{w1 w:World}(C:WT p rk w1 w):∃ (pa:Option Addr) (n pc:Nat) (tm:Int) (lost:Bool),n≤6000∧w.cell? ⟨p,0,none⟩=some rk∧w.cell? ⟨p,1,none⟩=some (.slice pa n pc)∧w.cell? ⟨p,2,none⟩=some (.int .i64 tm)∧w.cell? ⟨p,3,none⟩=some (.bool lost) ∧ ∀ o,w.frozen? ⟨p,o,none⟩=false:=by
 obtain ⟨v,t,tm,lost,h1,h2,h3⟩:=C.blk
 obtain ⟨pa,pc,rfl⟩:=own_shape h2
 exact ⟨pa,t.size,pc,tm,lost,h3,four_cells h1⟩
theorem wt_row {p:Nat}{w w':World}{v:Value}{n:Nat}{xs:List Value}(h:w.ownsRow (p+1) 5 1 v n xs) (hw:∀ g,p<g→w'.heap[g]?=w.heap[g]?):w'.ownsRow (p+1) 5 1 v n xs:=by
 refine ⟨h.1,?_⟩
 rcases h.2 with h | ⟨g,cap,cur,e1,e2,e3,e4⟩
 ·exact .inl h
 ·exact .inr ⟨g,cap,cur,e1,e2,(hw g (by omega)).trans e3,e4⟩
theorem wt_set_other {w:World}{b k o:Nat}{v:Value}(h:k≠b):(w.setCell ⟨b,o,none⟩ v).heap[k]?=w.heap[k]?:=Below.heap_setCell _ _ _ _ h
theorem WT.lose {p:Nat}{rk:Value}{w1 w:World}(C:WT p rk w1 w) (b:Bool):WT p rk w1 (w.setCell ⟨p,3,none⟩ (.bool b)):=by
 obtain ⟨v,t,tm,lost,h1,h2,h3⟩:=C.blk
 exact ⟨⟨v,t,tm,b,by simp [World.setCell,Array.getElem?_modify,h1],wt_row h2 (fun g hg=>wt_set_other (by omega)),h3⟩,C.bl.setCell (Nat.le_refl _) _⟩
theorem WT.count {p:Nat}{rk:Value}{w1 w:World}(C:WT p rk w1 w) (z:Int):WT p rk w1 (w.setCell ⟨p,2,none⟩ (.int .i64 z)):=by
 obtain ⟨v,t,tm,lost,h1,h2,h3⟩:=C.blk
 exact ⟨⟨v,t,z,lost,by simp [World.setCell,Array.getElem?_modify,h1],wt_row h2 (fun g hg=>wt_set_other (by omega)),h3⟩,C.bl.setCell (Nat.le_refl _) _⟩
theorem wt_after {p:Nat}{rk v v':Value}{w1 w w':World}{t s:ByteArray}{tm:Int}{lost:Bool}(hbl:Below p w1 w) (hb:w.heap[p]?=some (.cells #[rk,v,.int .i64 tm,.bool lost] 77)) (ho:w.ownsRow (p+1) 5 1 v t.size (strCells t)) (hs:t.size+s.size≤6000)
  (hown:w'.ownsRow (p+1) 5 1 v' (t.size+s.size) (strCells t++strCells s)) (hg:w.grownBy w' v.ownBlock):w'.heap[p]?=some (.cells #[rk,v,.int .i64 tm,.bool lost] 77)∧WT p rk w1 (w'.setCell ⟨p,1,none⟩ v'):=by
 have hpl:=lt_of_heap hb
 have no:∀ k,k≤p→some k≠v.ownBlock:=fun k hk e=>by
  rcases ho.2 with ⟨e1,_⟩ | ⟨g,cap,cur,e1,e2,_⟩
  ·rw [e1] at e
   simp [Value.ownBlock] at e
  ·rw [e1] at e
   simp [Value.ownBlock] at e
   omega
 have hb':w'.heap[p]?=some (.cells #[rk,v,.int .i64 tm,.bool lost] 77):=(hg.block p hpl (no p (Nat.le_refl _))).trans hb
 refine ⟨hb',⟨v',t++s,tm,lost,by simp [World.setCell,Array.getElem?_modify,hb'],?_,by rw [ByteArray.size_append];exact hs⟩,Below.setCell ⟨hg.os.trans hbl.os,hg.tape.trans hbl.tape,hg.output.trans hbl.output,Nat.le_trans hbl.size hg.size,fun k hk=>(hg.block k (by omega) (no k (by omega))).trans (hbl.block k hk)⟩ (Nat.le_refl _) _⟩
 rw [ByteArray.size_append,strCells_append]
 exact wt_row hown (fun g hg=>wt_set_other (by omega))
structure WX (p:Nat) (rk:Value) (w1 wa w:World):Prop where
 wt:WT p rk w1 w
 kept:OthersKept 5 (some p) wa w
theorem WX.start {p:Nat}{rk:Value}{w1 w:World}(C:WT p rk w1 w):WX p rk w1 w w:=⟨C,OthersKept.refl _ _ _⟩
theorem WX.trans {p:Nat}{rk:Value}{w1 wa wb w:World}(h:WX p rk w1 wa wb) (k:WX p rk w1 wb w):WX p rk w1 wa w:=⟨k.wt,h.kept.trans k.kept⟩
theorem WX.alloc {p:Nat}{rk:Value}{w1 wa w:World}(h:WX p rk w1 wa w) (o:Obj):WX p rk w1 wa (w.alloc o):=⟨h.wt.alloc o,h.kept.alloc o⟩
theorem WX.drew {p:Nat}{rk:Value}{w1 wa w:World}(h:WX p rk w1 wa w):WX p rk w1 wa w.drew:=⟨h.wt.drew,h.kept.drew⟩
theorem WX.drewN {p n:Nat}{rk:Value}{w1 wa w:World}(h:WX p rk w1 wa w):WX p rk w1 wa (w.drewN n):=⟨h.wt.drewN,h.kept⟩
theorem WX.lose {p:Nat}{rk:Value}{w1 wa w:World}(h:WX p rk w1 wa w) (b:Bool):WX p rk w1 wa (w.setCell ⟨p,3,none⟩ (.bool b)):=⟨h.wt.lose b,h.kept.setCell _ rfl _⟩
theorem WX.count {p:Nat}{rk:Value}{w1 wa w:World}(h:WX p rk w1 wa w) (z:Int):WX p rk w1 wa (w.setCell ⟨p,2,none⟩ (.int .i64 z)):=⟨h.wt.count z,h.kept.setCell _ rfl _⟩
theorem WX.more {p:Nat}{rk:Value}{w1 wa w w':World}(h:WX p rk w1 wa w) (hb:Below w.heap.size w w'):WX p rk w1 wa w':=⟨h.wt.more hb,fun k o hk h1 h2=>by
 have:=h.kept k o hk h1 h2
 exact (hb.block k (lt_of_heap this)).trans this⟩
theorem WX.block {p k:Nat}{rk:Value}{w1 wa w:World}(h:WX p rk w1 wa w) {cs:Array Value}{t:TypeId}{fz:Nat × Nat}(hk:wa.heap[k]?=some (.cells cs t fz)) (hp:k≠p) (ht:t≠5):w.heap[k]?=some (.cells cs t fz):=h.kept k _ hk (by simpa using hp) (by intro c f x;cases x;exact ht rfl)
theorem own_type {w:World}{base n g q:Nat}{v:Value}{xs:List Value}{cs:Array Value}{t:TypeId}{fz:Nat × Nat}(ho:w.ownsRow base 5 1 v n xs) (hq:w.heap[q]?=some (.cells cs t fz)) (ht:t≠5) (hg:v.ownBlock=some g):g≠q:=fun e=>by
 rcases ho.2 with ⟨e1,_⟩ | ⟨g',cap,cur,e1,_,e3,_⟩
 ·rw [e1] at hg
  simp [Value.ownBlock] at hg
 ·rw [e1] at hg
  simp [Value.ownBlock] at hg
  rw [hg,e,hq] at e3
  simp at e3
  exact ht e3.2.1
theorem own_bytes {w:World}{base n g:Nat}{v:Value}{xs:List Value}(ho:w.ownsRow base 5 1 v n xs) (hg:v.ownBlock=some g):∃ cs fz,w.heap[g]?=some (.cells cs 5 fz):=by
 rcases ho.2 with ⟨e1,_⟩ | ⟨g',cap,cur,e1,_,e3,_⟩
 ·rw [e1] at hg
  simp [Value.ownBlock] at hg
 ·rw [e1] at hg
  simp [Value.ownBlock] at hg
  rw [←hg]
  exact ⟨_,_,e3⟩
set_option maxHeartbeats 4000000 in
set_option maxRecDepth 100000 in
theorem put_wt {p:Nat}{rk:Value}{w1:World}(q:Nat) (ss:List ByteArray) (hn:ss.length≤1000) (hz:∀ s∈ss,s.size≤4611686018427387904) (w:World) (C:WT p rk w1 w) (hq:w.heap[q]?=some (.cells (ss.map Value.string).toArray 9)) (hqp:q≠p) :
  Calls Tryz.prog 49 #[.pointer (some ⟨p,0,none⟩),.slice (some ⟨q,0,none⟩) ss.length ss.length] w fun ev w'=>ev = .returned (.tuple #[])∧WX p rk w1 w w':=by
 obtain ⟨i0,hi0,hz0,hz1,hz2⟩:=infoU8
 have HC:=toHidP C
 have HQ:=toHidP hq
 have HZ:=toHidP hz
 clear C hq hz
 go_enter Tryz.func49,Tryz.ntmps49
 go_wp2_with fail
 go_loopg [8] (ss.length+1) (fun gk v8 wr => ∃ i:Nat,gk=ss.length+1 - i∧i≤ss.length∧v8 = .int .i64 (i:Int)∧WX p rk w1 w wr∧wr.heap[q]?=some (.cells (ss.map Value.string).toArray 9))
 case atStart=>exact ⟨0,rfl,Nat.zero_le _,rfl,.start HC.out,HQ.out⟩
 case round =>
  obtain ⟨i,hgk,hi,rfl,hC,hq⟩:=hrel
  have HG:=toHidP hgk
  have HCR:=toHidP hC
  have HQR:=toHidP hq
  by_cases hlt:i<ss.length
  ·have hJ:(i:Int)<(ss.length:Int):=by omega
   have hJ0:(0:Int)≤(i:Int):=by omega
   obtain ⟨s,hs⟩:∃ s,ss[i]?=some s:=⟨ss[i],by simp [hlt]⟩
   have x0:wr.cell? ⟨q,i,none⟩=some (.string s):=by
    rw [cell_of_row _ _ i _ _ _ hq]
    simp [hs]
   have hsz:=HZ.out s (List.mem_of_getElem? hs)
   obtain ⟨v,t,tm,lost,hb,ho,h6⟩:=hC.wt.blk
   obtain ⟨pa,pc,rfl⟩:=own_shape ho
   obtain ⟨c0,c1,c2,c3,cf⟩:=four_cells hb
   have f1:=cf 1
   have f3:=cf 3
   have hpl:=lt_of_heap hb
   have HO:=toHidP ho
   have HBK:=toHidP hb
   have hbase:p+1≤wr.heap.size:=hpl
   clear hgk hC hq hb ho cf hs
   by_cases hbig:(6000:Int)<(t.size:Int)+(s.size:Int)
   ·have e1:IntKind.i64.wrap ((t.size:Int)+(s.size:Int))=(t.size:Int)+(s.size:Int):=by rw [IntKind.wrap_i64];omega
    have HL:=toHidP (HCR.out.lose true)
    go_wp2_with fail
    refine bodyPost_ret (results_none rfl _ _ _) rfl ?_
    exact ⟨rfl,HL.out⟩
   ·have hss:t.size+s.size≤6000:=by omega
    have HA:Hid (∀ v' w',w'.ownsRow (p+1) 5 1 v' (t.size+s.size) (strCells t++strCells s)→wr.grownBy w' (Value.slice pa t.size pc).ownBlock→w'.heap[p]?=some (.cells #[rk,.slice pa t.size pc,.int .i64 tm,.bool lost] 77)∧WX p rk w1 w (w'.setCell ⟨p,1,none⟩ v')∧(w'.setCell ⟨p,1,none⟩ v').heap[q]?=some (.cells (ss.map Value.string).toArray 9)):=fun v' w' h1 h2=>by
     obtain ⟨k1,k2⟩:=wt_after HCR.out.wt.bl HBK.out HO.out hss h1 h2
     refine ⟨k1,⟨k2,(HCR.out.kept.grown h2 (fun g hg=>own_bytes HO.out hg)).setCell _ rfl _⟩,(wt_set_other hqp).trans ((h2.block q (lt_of_heap HQR.out) (fun e=>own_type HO.out HQR.out (by decide) e.symm rfl)).trans HQR.out)⟩
    go_wp2_with (first | (at_builtin;refine wpList_append_own_string _ rfl _ _ _ _ rfl (p+1) 5 i0 Tryz.underlying75 Tryz.underlying9 hi0 hz0 hz1 hz2 _ t.size (strCells t) rfl HO.out s rfl (by unfold maxLen;omega) (by omega) hbase ?_;intro v' w' hown' hgrow _;obtain ⟨pa2,pc2,hv2⟩:=own_shape hown';subst hv2;obtain ⟨hb2,hws,hq2⟩:=HA.out _ w' hown' hgrow;obtain ⟨d0,d1,d2,d3,df⟩:=four_cells hb2;have df1:=df 1;have HW:=toHidP hws;have HQ2:=toHidP hq2;clear hown' hgrow hb2 hws hq2 df c0 c1 c2 c3 f1 f3))
    go_roundg (ss.length+1 - (i+1))
    case measure=>have:=HG.out;omega
    case rel=>exact ⟨i+1,rfl,by omega,by go_num,HW.out,HQ2.out⟩
  ·obtain rfl:i=ss.length:=by omega
   clear hgk hC hq
   go_wp2_with fail
   go_end0
   exact ⟨rfl,HCR.out⟩
theorem put_new {p:Nat}{rk:Value}{w1 wa w:World}(C:WX p rk w1 wa w) (ss:List ByteArray) (hn:ss.length≤1000) (hz:∀ s∈ss,s.size≤4611686018427387904) :
  Calls Tryz.prog 49 #[.pointer (some ⟨p,0,none⟩),.slice (some ⟨w.heap.size,0,none⟩) ss.length ss.length] (w.alloc (.cells (ss.map Value.string).toArray 9)) fun ev w'=>ev = .returned (.tuple #[])∧WX p rk w1 wa w':=
 (put_wt w.heap.size ss hn hz _ (C.alloc _).wt (heap_alloc_new _ _) (by have:=C.wt.lt;omega)).mono fun _ _ h=>⟨h.1,(C.alloc _).trans h.2⟩
theorem put1 {p:Nat}{rk:Value}{w1 wa w:World}(C:WX p rk w1 wa w) (s:ByteArray) (hz:s.size≤4611686018427387904) :
  Calls Tryz.prog 49 #[.pointer (some ⟨p,0,none⟩),.slice (some ⟨w.heap.size,0,none⟩) 1 1] (w.alloc (.cells #[.string s] 9)) fun ev w'=>ev = .returned (.tuple #[])∧WX p rk w1 wa w':=put_new C [s] (by simp) (by simpa using hz)
theorem put2 {p:Nat}{rk:Value}{w1 wa w:World}(C:WX p rk w1 wa w) (s t:ByteArray) (hs:s.size≤4611686018427387904) (ht:t.size≤4611686018427387904) :
  Calls Tryz.prog 49 #[.pointer (some ⟨p,0,none⟩),.slice (some ⟨w.heap.size,0,none⟩) 2 2] (w.alloc (.cells #[.string s,.string t] 9)) fun ev w'=>ev = .returned (.tuple #[])∧WX p rk w1 wa w':=put_new C [s,t] (by simp) (by simp;exact ⟨hs,ht⟩)
theorem put3 {p:Nat}{rk:Value}{w1 wa w:World}(C:WX p rk w1 wa w) (s t u:ByteArray) (hs:s.size≤4611686018427387904) (ht:t.size≤4611686018427387904) (hu:u.size≤4611686018427387904) :
  Calls Tryz.prog 49 #[.pointer (some ⟨p,0,none⟩),.slice (some ⟨w.heap.size,0,none⟩) 3 3] (w.alloc (.cells #[.string s,.string t,.string u] 9)) fun ev w'=>ev = .returned (.tuple #[])∧WX p rk w1 wa w':=put_new C [s,t,u] (by simp) (by simp;exact ⟨hs,ht,hu⟩)
set_option maxHeartbeats 4000000 in
set_option maxRecDepth 100000 in
theorem several_wt {p:Nat}{rk:Value}{w1:World}(K:FuncId) (cap:Array Value) (n:Nat) (hn:n≤4611686018427387904) (hcall:∀ (args:Array Value) (w:World),(callFunc K args).run Tryz.prog w = .ok (.enter K args) w) (w:World) (C:WT p rk w1 w)
  (hK:∀ (i:Nat) (w':World),i<n→WX p rk w1 w w'→Calls Tryz.prog K (#[.int .i64 (i:Int)]++cap) w' fun ev w''=>ev = .returned (.tuple #[])∧WX p rk w1 w' w'') :
  Calls Tryz.prog 68 #[.pointer (some ⟨p,0,none⟩),.int .i64 (n:Int),.func (.func K) #[] cap] w fun ev w'=>ev = .returned (.tuple #[])∧WX p rk w1 w w':=by
 have HC:=toHidP C
 have HK:=toHidP hK
 clear C hK
 go_enter Tryz.func68,Tryz.ntmps68
 go_wp2_with fail
 go_loopg [8] (n+1) (fun gk v8 wr => ∃ i:Nat,gk=n+1 - i∧i≤n∧v8 = .int .i64 (i:Int)∧WX p rk w1 w wr)
 case atStart=>exact ⟨0,rfl,Nat.zero_le _,rfl,.start HC.out⟩
 case round =>
  obtain ⟨i,hgk,hi,rfl,hC⟩:=hrel
  have HG:=toHidP hgk
  have HCR:=toHidP hC
  by_cases hlt:i<n
  ·have hI:(i:Int)<(n:Int):=by omega
   obtain ⟨pa,m,pc,tm,lost,_,c0,c1,c2,c3,cf⟩:=hC.wt.cells
   clear hgk hC cf
   cases lost with
   | true =>
    go_wp2_with fail
    refine bodyPost_ret (results_none rfl _ _ _) rfl ?_
    exact ⟨rfl,HCR.out⟩
   | false =>
    by_cases h0:i=0
    ·subst h0
     clear c0 c1 c2
     go_wp2_with fail
     refine (HK.out 0 wr hlt HCR.out).mono ?_
     rintro ev w3 ⟨rfl,h3⟩
     have H3:=toHidP (HCR.out.trans h3)
     clear h3 c3
     go_wp2_with fail
     go_roundg (n+1 - (0+1))
     case measure=>have:=HG.out;omega
     case rel=>exact ⟨0+1,rfl,by omega,by go_num,H3.out⟩
    ·have hI0:(0:Int)<(i:Int):=by omega
     have hp0:0<i:=by omega
     clear c0 c1 c2
     go_wp2_with fail
     refine (put1 HCR.out ⟨#[44,32]⟩ (by decide)).mono ?_
     rintro ev w2 ⟨rfl,h2⟩
     have H2:=toHidP h2
     clear h2 c3
     go_wp2_with fail
     refine (HK.out i w2 hlt H2.out).mono ?_
     rintro ev w3 ⟨rfl,h3⟩
     have H3:=toHidP (H2.out.trans h3)
     clear h3
     go_wp2_with fail
     go_roundg (n+1 - (i+1))
     case measure=>have:=HG.out;omega
     case rel=>exact ⟨i+1,rfl,by omega,by go_num,H3.out⟩
  ·obtain rfl:i=n:=by omega
   clear hgk hC
   go_wp2_with fail
   go_end0
   exact ⟨rfl,HCR.out⟩
end Go.Proofs.YtemapnogjepokaaGreatDoor
