/- Package tree's writer at one statement: put, by a contract. -/
import Derived.Test.YtpcjcgkpjapbpaaGreatDoorTtA
import Derived.Lib.AppendStr
import Derived.Laws.BytesArg
import Derived.Laws.Rows
import Derived.Deep.RegionWith
import Derived.Deep.QuietTactic
import Derived.BigQuiet
set_option linter.all false
namespace Go.Proofs.YtpcjcgkpjapbpaaGreatDoor
open Go.RowKit Go.Lib

structure WS (w0:World) (p:Nat) (t:ByteArray) (w:World):Prop where
 blk:∃ rk v tm,w.heap[p]?=some (.cells #[rk,v,.int .i64 tm,.bool false] 50)∧w.ownsRow w0.heap.size 5 1 v t.size (strCells t)∧v.ownBlock≠some p
 hp:w0.heap.size≤p
 bl:Below w0.heap.size w0 w
theorem four_cells {w:World}{b t:Nat}{u0 u1 u2 u3:Value} (h:w.heap[b]?=some (.cells #[u0,u1,u2,u3] t)) :
  w.cell? ⟨b,0,none⟩=some u0∧w.cell? ⟨b,1,none⟩=some u1∧w.cell? ⟨b,2,none⟩=some u2∧w.cell? ⟨b,3,none⟩=some u3 ∧ ∀ o,w.frozen? ⟨b,o,none⟩=false:=by
 refine ⟨?_,?_,?_,?_,fun o=>by simp [World.frozen?,h]⟩
 ·rw [cell_of_row w b 0 _ _ _ h];rfl
 ·rw [cell_of_row w b 1 _ _ _ h];rfl
 ·rw [cell_of_row w b 2 _ _ _ h];rfl
 ·rw [cell_of_row w b 3 _ _ _ h];rfl

theorem own_shape {w:World}{base e size n:Nat}{v:Value}{xs:List Value} (h:w.ownsRow base e size v n xs):∃ pa pc,v = .slice pa n pc:=by
 rcases h.2 with ⟨h,h2⟩ | ⟨g,cap,cur,h,_⟩
 ·exact ⟨none,0,by rw [h,h2]⟩
 ·exact ⟨_,_,h⟩
theorem toHidP {p:Prop} (h:p):Hid p:=h
theorem infoU8:∃ i,Tryz.prog.info? 5=some i∧i.zero=some (.int .u8 0)∧i.size=1∧i.bytes=1:=by
 have h:(Tryz.prog.info? 5).map (fun i=>(i.zero,i.size,i.bytes))=some (some (.int .u8 0),1,1):=by kernel_rfl
 cases hi:Tryz.prog.info? 5 with
 | none=>rw [hi] at h;cases h
 | some i =>
  rw [hi] at h
  simp only [Option.map_some,Option.some.injEq,Prod.mk.injEq] at h
  exact ⟨i,rfl,h.1,h.2.1,h.2.2⟩
theorem strCells_append (a b:ByteArray):strCells (a++b)=strCells a++strCells b:=by
 simp [strCells]
theorem WS.after {w0 w w':World}{p:Nat}{t s:ByteArray}{rk v v':Value}{tm:Int} (C:WS w0 p t w) (hb:w.heap[p]?=some (.cells #[rk,v,.int .i64 tm,.bool false] 50)) (ho:w.ownsRow w0.heap.size 5 1 v t.size (strCells t)) (hv:v.ownBlock≠some p)
  (hown:w'.ownsRow w0.heap.size 5 1 v' (t.size+s.size) (strCells t++strCells s)) (hg:w.grownBy w' v.ownBlock):w'.heap[p]?=some (.cells #[rk,v,.int .i64 tm,.bool false] 50)∧WS w0 p (t++s) (w'.setCell ⟨p,1,none⟩ v'):=by
 have hpl:=lt_of_heap hb
 have hb':w'.heap[p]?=some (.cells #[rk,v,.int .i64 tm,.bool false] 50):=(hg.block p hpl (fun e=>hv e.symm)).trans hb
 refine ⟨hb',⟨rk,v',tm,?_,?_,?_⟩,C.hp,?_⟩
 ·simp [World.setCell,Array.getElem?_modify,hb']
 ·refine ⟨by rw [strCells_length,ByteArray.size_append,Nat.mul_one],?_⟩
  rw [ByteArray.size_append,strCells_append]
  rcases hown.2 with h | ⟨g,cap,cur,e1,e2,e3,e4⟩
  ·exact .inl h
  ·refine .inr ⟨g,cap,cur,e1,e2,?_,e4⟩
   have hne:g≠p:=fun h=>by
    rw [h,hb'] at e3
    simp at e3
   exact (Below.heap_setCell _ _ _ _ hne).trans e3
 ·intro h
  rcases hown.2 with ⟨e,_⟩ | ⟨g,cap,cur,e1,e2,e3,e4⟩
  ·rw [e] at h
   simp [Value.ownBlock] at h
  ·rw [e1] at h
   simp [Value.ownBlock] at h
   rw [h,hb'] at e3
   simp at e3
 ·exact (Below.grown C.bl hg C.bl.size (fun k hk=>by
   rcases ho.2 with ⟨e,_⟩ | ⟨g,cap,cur,e1,e2,e3,e4⟩
   ·rw [e] at hk
    simp [Value.ownBlock] at hk
   ·rw [e1] at hk
    simp [Value.ownBlock] at hk
    omega)).setCell C.hp _

set_option maxHeartbeats 4000000 in
set_option maxRecDepth 100000 in
theorem put_any {w0 w:World}{p:Nat}{t:ByteArray} (C:WS w0 p t w) (q:Nat) (s:ByteArray) (hq:w.cell? ⟨q,0,none⟩=some (.string s)) (hs:t.size+s.size≤1000) :
  Calls Tryz.prog 35 #[.pointer (some ⟨p,0,none⟩),.slice (some ⟨q,0,none⟩) 1 1] w fun ev w'=>ev = .returned (.tuple #[])∧WS w0 p (t++s) w':=by
 obtain ⟨rk,v,tm,hb,ho,hv⟩:=C.blk
 obtain ⟨c0,c1,c2,c3,cf⟩:=four_cells hb
 have f1:=cf 1
 have hI:(t.size:Int)+(s.size:Int)≤1000:=by omega
 obtain ⟨pa,pc,hve⟩:=own_shape ho
 subst hve
 obtain ⟨i0,hi0,hz0,hz1,hz2⟩:=infoU8
 have HA:=fun v' w' => @WS.after w0 w w' p t s rk _ v' tm C hb ho hv
 have hbase:=C.bl.size
 have HO:Hid (w.ownsRow w0.heap.size 5 1 (.slice pa t.size pc) t.size (strCells t)):=ho
 have HB:=toHidP hb
 have HHA:Hid (∀ v' w',w'.ownsRow w0.heap.size 5 1 v' (t.size+s.size) (strCells t++strCells s)→w.grownBy w' (Value.slice pa t.size pc).ownBlock→w'.heap[p]?=some (.cells #[rk,.slice pa t.size pc,.int .i64 tm,.bool false] 50)∧WS w0 p (t++s) (w'.setCell ⟨p,1,none⟩ v')):=HA
 clear HA hb ho hv C cf
 go_enter Tryz.func35,Tryz.ntmps35
 go_wp2_with fail
 refine wp_loop_rounds 2 ?_
 rw [rounds_succ]
 go_wp2_with (first | (at_builtin;refine wpList_append_own_string _ rfl _ _ _ _ rfl w0.heap.size 5 i0 Tryz.underlying48 Tryz.underlying9 hi0 hz0 hz1 hz2 _ t.size (strCells t) rfl HO.out s rfl (by unfold maxLen;omega) (by omega) hbase ?_;intro v' w' hown' hgrow _;obtain ⟨pa2,pc2,hv2⟩:=own_shape hown';subst hv2;obtain ⟨hb2,hws⟩:=HHA.out _ w' hown' hgrow;obtain ⟨d0,d1,d2,d3,df⟩:=four_cells hb2;have df1:=df 1;have HW:=toHidP hws;clear hown' hgrow hb2 hws df))
 rw [rounds_succ]
 go_wp2
 go_end0
 exact ⟨rfl,HW.out⟩

theorem WS.more {w0 w w':World}{p:Nat}{t:ByteArray} (C:WS w0 p t w) (hb:Below w.heap.size w w'):WS w0 p t w':=by
 obtain ⟨rk,v,tm,h1,h2,h3⟩:=C.blk
 refine ⟨⟨rk,v,tm,(hb.block p (lt_of_heap h1)).trans h1,⟨h2.1,?_⟩,h3⟩,C.hp,C.bl.trans (hb.mono C.bl.size)⟩
 rcases h2.2 with h | ⟨g,cap,cur,e1,e2,e3,e4⟩
 ·exact .inl h
 ·exact .inr ⟨g,cap,cur,e1,e2,(hb.block g (lt_of_heap e3)).trans e3,e4⟩
theorem WS.drewN {w0 w:World}{p n:Nat}{t:ByteArray} (C:WS w0 p t w):WS w0 p t (w.drewN n):=by
 have h:=Below.refl w.heap.size w
 exact C.more ⟨h.os,h.tape,h.output,h.size,h.block⟩
theorem WS.alloc {w0 w:World}{p:Nat}{t:ByteArray} (C:WS w0 p t w) (o:Obj):WS w0 p t (w.alloc o):=C.more ((Below.refl _ _).alloc (Nat.le_refl _) _)
theorem begin_any (p:Nat) (w:World):Calls Tryz.prog 23 #[.pointer (some ⟨p,0,none⟩),.int .i64 0] w fun ev w'=>ev = .returned (.tuple #[])∧w'=w:=by
 go_enter Tryz.func23,Tryz.ntmps23
 go_wp2_with fail
 refine wp_loop_rounds 1 ?_
 rw [rounds_succ]
 go_wp2
 go_end0
 exact ⟨rfl,rfl⟩

abbrev kPs:ByteArray:=⟨#[112,97,115,115]⟩
theorem termsOf_pass (w:World):Calls Tryz.prog 36 #[.string kPs] w fun ev w'=>ev = .returned (.int .i64 0)∧w'=w:=by
 go_enter Tryz.func36,Tryz.ntmps36
 go_wp2
 go_ret
 exact ⟨rfl,rfl⟩

set_option maxHeartbeats 4000000 in
set_option maxRecDepth 100000 in
theorem line_pass {w0 w:World}{p:Nat}{t:ByteArray} (C:WS w0 p t w) (ht:t.size≤900) (pa la ba ea:Option Addr) (pc lc bc ec:Nat) :
  Calls Tryz.prog 41 #[.pointer (some ⟨p,0,none⟩),.agg #[.string kPs,.string ⟨#[]⟩,.slice pa 0 pc,.slice la 0 lc,.slice ba 0 bc,.slice ea 0 ec]] w fun ev w'=>ev = .returned (.tuple #[])∧WS w0 p (t++kPs) w':=by
 go_enter Tryz.func41,Tryz.ntmps41
 go_wp2_with fail
 refine (put_any ((C.alloc _).alloc _) _ kPs (by simp) (by have:kPs.size=4:=rfl;omega)).mono ?_
 rintro ev w2 ⟨rfl,hws⟩
 have HW:=toHidP hws
 clear hws
 go_wp2
 go_end0
 exact ⟨rfl,HW.out⟩

abbrev kNlB:ByteArray:=⟨#[10]⟩
set_option maxHeartbeats 4000000 in
set_option maxRecDepth 100000 in
theorem statement_pass {w0 w:World}{p:Nat}{t:ByteArray} (C:WS w0 p t w) (ht:t.size≤900) (pa la ba ea:Option Addr) (pc lc bc ec:Nat) :
  Calls Tryz.prog 24 #[.pointer (some ⟨p,0,none⟩),.agg #[.string kPs,.string ⟨#[]⟩,.slice pa 0 pc,.slice la 0 lc,.slice ba 0 bc,.slice ea 0 ec],.int .i64 0] w fun ev w'=>ev = .returned (.tuple #[])∧WS w0 p (t++kPs++kNlB) w':=by
 go_enter Tryz.func24,Tryz.ntmps24
 go_wp2_with fail
 go_quiet ((go_at_call 36;exact Calls.quiet_of_same (termsOf_pass _)))
 go_wp2_with fail
 refine (line_pass (C.alloc _).drewN ht pa la ba ea pc lc bc ec).mono ?_
 rintro ev w2 ⟨rfl,hws⟩
 have HW:=toHidP hws
 clear hws
 go_wp2_with fail
 refine (put_any (HW.out.alloc _) _ kNlB (by simp) (by have:kPs.size=4:=rfl;have:kNlB.size=1:=rfl;rw [ByteArray.size_append];omega)).mono ?_
 rintro ev w3 ⟨rfl,hws⟩
 have HW3:=toHidP hws
 clear hws
 go_wp2
 go_end0
 exact ⟨rfl,HW3.out⟩

set_option maxHeartbeats 4000000 in
set_option maxRecDepth 100000 in
theorem statements_pass {w0 w:World}{p:Nat} (C:WS w0 p ⟨#[]⟩ w) (g o cap:Nat) (pa la ba ea:Option Addr) (pc lc bc ec:Nat) (x0:w.cell? ⟨g,o,none⟩=some (.string kPs)) (x1:w.cell? ⟨g,o+1,none⟩=some (.string ⟨#[]⟩)) (x2:w.cell? ⟨g,o+2,none⟩=some (.slice pa 0 pc)) (x3:w.cell? ⟨g,o+3,none⟩=some (.slice la 0 lc)) (x4:w.cell? ⟨g,o+4,none⟩=some (.slice ba 0 bc)) (x5:w.cell? ⟨g,o+5,none⟩=some (.slice ea 0 ec)) :
  Calls Tryz.prog 13 #[.pointer (some ⟨p,0,none⟩),.slice (some ⟨g,o,none⟩) 1 cap,.int .i64 0] w fun ev w'=>ev = .returned (.tuple #[])∧WS w0 p ⟨#[112,97,115,115,10]⟩ w':=by
 obtain ⟨rk,v,tm,hb,_,_⟩:=C.blk
 obtain ⟨c0,c1,c2,c3,cf⟩:=four_cells hb
 have hpl:=lt_of_heap hb
 have hgl:=lt_of_cell x0
 clear hb
 go_enter Tryz.func13,Tryz.ntmps13
 go_wp2_with fail
 refine wp_loop_rounds 2 ?_
 rw [rounds_succ]
 go_wp2_with fail
 refine (begin_any p _).mono ?_
 rintro ev w1 ⟨rfl,rfl⟩
 go_wp2_with fail
 refine (statement_pass (C.alloc _) (by decide) pa la ba ea pc lc bc ec).mono ?_
 rintro ev w2 ⟨rfl,hws⟩
 have HW:=toHidP hws
 clear hws
 go_wp2_with fail
 rw [rounds_succ]
 go_wp2
 go_end0
 exact ⟨rfl,HW.out⟩
end Go.Proofs.YtpcjcgkpjapbpaaGreatDoor
namespace Go.Proofs.YtpcjcgkpjapbpaaGreatDoor
open Go.RowKit

theorem eqStr_none (a b:Option Addr) (c d:Nat) (w:World):Calls Tryz.prog 25 #[.slice a 0 c,.slice b 0 d] w fun ev w'=>ev = .returned (.bool true)∧w'=w:=by
 go_enter Tryz.func25,Tryz.ntmps25
 go_wp2_with fail
 refine wp_loop_rounds 1 ?_
 rw [rounds_succ]
 go_wp2
 go_ret
 exact ⟨rfl,rfl⟩
theorem eqExpr_none (a b:Option Addr) (c d:Nat) (f:Value) (w:World):Calls Tryz.prog 26 #[.slice a 0 c,.slice b 0 d,f] w fun ev w'=>ev = .returned (.bool true)∧w'=w:=by
 go_enter Tryz.func26,Tryz.ntmps26
 go_wp2_with fail
 refine wp_loop_rounds 1 ?_
 rw [rounds_succ]
 go_wp2
 go_ret
 exact ⟨rfl,rfl⟩
theorem eqStmt_none (a b:Option Addr) (c d:Nat) (f:Value) (w:World):Calls Tryz.prog 14 #[.slice a 0 c,.slice b 0 d,f] w fun ev w'=>ev = .returned (.bool true)∧w'=w:=by
 go_enter Tryz.func14,Tryz.ntmps14
 go_wp2_with fail
 refine wp_loop_rounds 1 ?_
 rw [rounds_succ]
 go_wp2
 go_ret
 exact ⟨rfl,rfl⟩

set_option maxHeartbeats 4000000 in
set_option maxRecDepth 100000 in
theorem sameStmt_pass (pa la ba ea pa' la' ba' ea':Option Addr) (pc lc bc ec pc' lc' bc' ec':Nat) (w:World) :
  Calls Tryz.prog 15 #[.agg #[.string kPs,.string ⟨#[]⟩,.slice pa 0 pc,.slice la 0 lc,.slice ba 0 bc,.slice ea 0 ec],.agg #[.string kPs,.string ⟨#[]⟩,.slice pa' 0 pc',.slice la' 0 lc',.slice ba' 0 bc',.slice ea' 0 ec']] w fun ev w'=>ev = .returned (.bool true)∧Below w.heap.size w w':=by
 go_enter Tryz.func15,Tryz.ntmps15
 go_wp2_with fail
 refine (eqStr_none _ _ _ _ _).mono ?_
 rintro ev w1 ⟨rfl,rfl⟩
 go_wp2_with fail
 refine (eqExpr_none _ _ _ _ _ _).mono ?_
 rintro ev w1 ⟨rfl,rfl⟩
 go_wp2_with fail
 refine (eqStmt_none _ _ _ _ _ _).mono ?_
 rintro ev w1 ⟨rfl,rfl⟩
 go_wp2_with fail
 refine (eqStmt_none _ _ _ _ _ _).mono ?_
 rintro ev w1 ⟨rfl,rfl⟩
 go_wp2
 go_ret
 exact ⟨rfl,((Below.refl _ _).alloc (Nat.le_refl _) _).alloc (by simp) _⟩

set_option maxHeartbeats 4000000 in
set_option maxRecDepth 100000 in
theorem eqStmt_pass (g o cap g' o' cap':Nat) (pa la ba ea pa' la' ba' ea':Option Addr) (pc lc bc ec pc' lc' bc' ec':Nat) (w:World)
  (x0:w.cell? ⟨g,o,none⟩=some (.string kPs)) (x1:w.cell? ⟨g,o+1,none⟩=some (.string ⟨#[]⟩)) (x2:w.cell? ⟨g,o+2,none⟩=some (.slice pa 0 pc)) (x3:w.cell? ⟨g,o+3,none⟩=some (.slice la 0 lc)) (x4:w.cell? ⟨g,o+4,none⟩=some (.slice ba 0 bc)) (x5:w.cell? ⟨g,o+5,none⟩=some (.slice ea 0 ec))
  (y0:w.cell? ⟨g',o',none⟩=some (.string kPs)) (y1:w.cell? ⟨g',o'+1,none⟩=some (.string ⟨#[]⟩)) (y2:w.cell? ⟨g',o'+2,none⟩=some (.slice pa' 0 pc')) (y3:w.cell? ⟨g',o'+3,none⟩=some (.slice la' 0 lc')) (y4:w.cell? ⟨g',o'+4,none⟩=some (.slice ba' 0 bc')) (y5:w.cell? ⟨g',o'+5,none⟩=some (.slice ea' 0 ec')) :
  Calls Tryz.prog 14 #[.slice (some ⟨g,o,none⟩) 1 cap,.slice (some ⟨g',o',none⟩) 1 cap',.func (.func 15) #[] #[]] w fun ev w'=>ev = .returned (.bool true)∧Below w.heap.size w w':=by
 have hgl:=lt_of_cell x0
 have hgl':=lt_of_cell y0
 go_enter Tryz.func14,Tryz.ntmps14
 go_wp2_with fail
 refine wp_loop_rounds 2 ?_
 rw [rounds_succ]
 go_wp2_with fail
 refine (sameStmt_pass _ _ _ _ _ _ _ _ _ _ _ _ _ _ _ _ _).mono ?_
 rintro ev w1 ⟨rfl,hb⟩
 have hbw:Below w.heap.size w w1:=(((Below.refl _ _).alloc (Nat.le_refl _) _).alloc (by simp) _).trans (hb.mono (by simp;omega))
 clear hb
 go_wp2_with fail
 rw [rounds_succ]
 go_wp2
 go_ret
 exact ⟨rfl,hbw⟩
end Go.Proofs.YtpcjcgkpjapbpaaGreatDoor
