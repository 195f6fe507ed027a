/- Package tree: pairs; lists of terms. -/
import Derived.Test.YtemapnogjepokaaGreatDoorTreeS
import Derived.Test.YtemapnogjepokaaGreatDoorTreeV
namespace Go.Proofs.YtemapnogjepokaaGreatDoor
open Go.RowKit

theorem PostL.wide {S S':Nat→Prop}{p g cap:Nat}{rk:Value}{l:List (ByteArray × ByteArray × Nat)}{k bl dp:Nat}{a0 a1:Addr}{w:World}{o:Out (List (DataW Unit))}{ev:Ending}{w':World}(h:PostL S p g cap rk l k bl dp a0 a1 w o ev w') (hS:∀ b,S b→S' b):PostL S' p g cap rk l k bl dp a0 a1 w o ev w':=by
 unfold PostL at h ⊢
 cases o with
 | error y=>exact h
 | ok y =>
  obtain ⟨la,lc,h1,h2,h3⟩:=h
  exact ⟨la,lc,h1,h2.same (fun _ _ _=>rfl) (fun b hb _=>hS b hb),h3⟩
theorem termsL_any {p g cap:Nat}{rk:Value}{l:List (ByteArray × ByteArray × Nat)}{k bl dp:Nat}{a0 a1:Addr}(closing:ByteArray) (hl:l.length≤100000) (hen:Ended l) (hk:k<l.length) (term:Nat→Out (DataW Unit))
  (hterm:∀ k',k≤k'→k'<l.length→ReadsE 112 #[.pointer (some ⟨p,0,none⟩)] p g cap rk l k' bl dp a0 a1 (term k')):ReadsL 174 #[.pointer (some ⟨p,0,none⟩),.string closing,.slice none 0 0] p g cap rk l k bl dp a0 a1 (pUpTo l (pTermStep term) closing l.length [] k):=by
 intro w R E X
 exact (terms_any (S0:=fun _=>False) closing hl hen hk term hterm w w (.slice none 0 0) [] [] R (Keeps.refl _ _) E X (lt_of_heap R.blk) R.gl (World.ownsRow_nil _ _ _ _) (CellsE.nil _ _) (fun b h=>h.elim) (by simp)).mono (fun ev w' h=>h.wide (fun b hb=>hb.resolve_left id))

set_option maxHeartbeats 2000000 in
set_option maxRecDepth 100000 in
theorem pairs_any {p g cap:Nat}{rk:Value}{l:List (ByteArray × ByteArray × Nat)}{k bl dp:Nat}{a0 a1:Addr}(hl:l.length≤100000) (hen:Ended l) (hk:k<l.length) (term:Nat→Out (DataW Unit))
  (hterm:∀ k',k≤k'→k'<l.length→ReadsE 112 #[.pointer (some ⟨p,0,none⟩)] p g cap rk l k' bl dp a0 a1 (term k')):ReadsL 191 #[.pointer (some ⟨p,0,none⟩)] p g cap rk l k bl dp a0 a1 (pUpTo l (pPairStep l term) rbrc l.length [] k):=by
 intro w R E X
 have hb:=tStart_below w p (.slice none 0 0)
 have hpl:=lt_of_heap R.blk
 have HU:=toHid (upTo_any 197 #[.pointer (some ⟨w.heap.size+1,0,none⟩),.pointer (some ⟨w.heap.size,0,none⟩)] (fun _ _=>rfl) (fun s k w'=>TermC (fun _=>False) p g (w.heap.size+1) w.heap.size rk a0 a1 w s w'∧s.length≤k+1) (fun s k k' w1 w2 h1 h2 h3=>⟨h2.1.keeps h3,by have:=h2.2;omega⟩) (pPairStep l term) k (fun s k' hk1 hk2=>pairsStep_any _ _ _ hl term s k' hk2 (closed_any colon hl hen (hterm k' hk1 hk2)) (fun k2 h1 h2=>hterm k2 (by omega) h2)) hl hen rbrc [] k l.length (Nat.le_refl _) hk (by omega) (tStart w p (.slice none 0 0)) (R.more hb) ⟨tStart_C (cs:=[]) (Keeps.refl _ _) E X hpl R.gl (World.ownsRow_nil _ _ _ _) (CellsE.nil _ _) (fun b h=>h.elim),by simp⟩ (E.below (hb.mono (by omega))))
 have hbp:Below p w (tStart w p (.slice none 0 0)):=hb.mono (by omega)
 obtain ⟨o,ho⟩:∃ o,pUpTo l (pPairStep l term) rbrc l.length [] k=o:=⟨_,rfl⟩
 rw [ho] at HU ⊢
 clear R E X hterm ho
 go_enter Tryz.func191,Tryz.ntmps191
 go_wp2_with fail
 refine HU.out.mono ?_
 intro ev w1 hP
 cases o with
 | error y =>
  obtain ⟨t,g1,b,rfl,g2⟩:=hP
  have HF:Hid (faultAt l p a0 a1 w y (.panicked [{ v:=.iface 61 (.pointer (some ⟨b,0,none⟩)),recovered:=false }]) w1):=faultAt.after hbp ⟨t,g1,b,rfl,g2⟩
  clear g1 g2 HU hbp
  go_wp2_with fail
  exact ⟨rfl,HF.out⟩
 | ok y =>
  obtain ⟨es1,k1⟩:=y
  obtain ⟨rfl,R1,⟨C1,_⟩,hb1,hk1,hk1l⟩:=hP
  obtain ⟨v1,cs1,hV,hO,hCE,hn1,hn2⟩:=C1.l
  have c0:w1.cell? ⟨w.heap.size+1,0,none⟩=some v1:=by rw [cell_of_row _ _ 0 _ _ _ hV];rfl
  have l0:=lt_of_cell c0
  obtain ⟨la,lc,rfl⟩:∃ la lc,v1 = .slice la es1.length lc:=by
   rcases hO.2 with ⟨e,h0⟩ | ⟨g',c',cur,e,_⟩
   ·exact ⟨none,0,by rw [h0];exact e⟩
   ·exact ⟨_,_,e⟩
  have HF:Hid (RepL (fun b=>w.heap.size≤b) w1 la es1∧RD w1 p g cap rk l k1 bl dp∧Keeps p w w1):=⟨repL_row hO hCE (fun b h=>(h.resolve_left id).1) (fun b h=>h),R1,hbp.trans hb1,C1.old.block⟩
  have hcap:=own_cap hO
  clear R1 C1 hO hCE hV hb1 HU hbp
  go_wp2_with fail
  go_ret
  exact ⟨_,_,rfl,HF.out.1,HF.out.2.1,HF.out.2.2,hk1,hk1l,hcap⟩
end Go.Proofs.YtemapnogjepokaaGreatDoor

/- Package tree: ranked (written by tools/tree/rank.py). -/
namespace Go.Proofs.YtemapnogjepokaaGreatDoor
open Go.RowKit

theorem rank_start {p g cap:Nat}{rk:Value}{l:List (ByteArray × ByteArray × Nat)}{k bl dp:Nat}{w:World}(n:Nat) (zn:Int) (hzn:zn=(n:Int)) (R:RD w p g cap rk l k bl dp):RD (((w.alloc (.cells #[.pointer (some ⟨p,0,none⟩)] 119)).alloc (.cells #[.int .i64 zn] 3)).alloc (.cells #[.string ⟨#[]⟩,.int .i64 0,.string ⟨#[]⟩,.slice none 0 0,.slice none 0 0] 72)) p g cap rk l k bl dp∧Keeps p w (((w.alloc (.cells #[.pointer (some ⟨p,0,none⟩)] 119)).alloc (.cells #[.int .i64 zn] 3)).alloc (.cells #[.string ⟨#[]⟩,.int .i64 0,.string ⟨#[]⟩,.slice none 0 0,.slice none 0 0] 72))∧Capt p w.heap.size (w.heap.size+1) n (((w.alloc (.cells #[.pointer (some ⟨p,0,none⟩)] 119)).alloc (.cells #[.int .i64 zn] 3)).alloc (.cells #[.string ⟨#[]⟩,.int .i64 0,.string ⟨#[]⟩,.slice none 0 0,.slice none 0 0] 72))∧(((w.alloc (.cells #[.pointer (some ⟨p,0,none⟩)] 119)).alloc (.cells #[.int .i64 zn] 3)).alloc (.cells #[.string ⟨#[]⟩,.int .i64 0,.string ⟨#[]⟩,.slice none 0 0,.slice none 0 0] 72)).heap[w.heap.size+2]?=some (.cells #[.string ⟨#[]⟩,.int .i64 0,.string ⟨#[]⟩,.slice none 0 0,.slice none 0 0] 72)∧(((w.alloc (.cells #[.pointer (some ⟨p,0,none⟩)] 119)).alloc (.cells #[.int .i64 zn] 3)).alloc (.cells #[.string ⟨#[]⟩,.int .i64 0,.string ⟨#[]⟩,.slice none 0 0,.slice none 0 0] 72)).heap.size=w.heap.size+3:=by
 have hpl:=lt_of_heap R.blk
 have hb0:Below w.heap.size w (((w.alloc (.cells #[.pointer (some ⟨p,0,none⟩)] 119)).alloc (.cells #[.int .i64 zn] 3)).alloc (.cells #[.string ⟨#[]⟩,.int .i64 0,.string ⟨#[]⟩,.slice none 0 0,.slice none 0 0] 72)):=(((Below.refl _ _).alloc (Nat.le_refl _) _).alloc (by simp) _).alloc (by simp;omega) _
 have hB0:(((w.alloc (.cells #[.pointer (some ⟨p,0,none⟩)] 119)).alloc (.cells #[.int .i64 zn] 3)).alloc (.cells #[.string ⟨#[]⟩,.int .i64 0,.string ⟨#[]⟩,.slice none 0 0,.slice none 0 0] 72)).heap[w.heap.size+2]?=some (.cells #[.string ⟨#[]⟩,.int .i64 0,.string ⟨#[]⟩,.slice none 0 0,.slice none 0 0] 72):=by
  have:=heap_alloc_new ((w.alloc (.cells #[.pointer (some ⟨p,0,none⟩)] 119)).alloc (.cells #[.int .i64 zn] 3)) (.cells #[.string ⟨#[]⟩,.int .i64 0,.string ⟨#[]⟩,.slice none 0 0,.slice none 0 0] 72)
  simpa using this
 have hK0:(((w.alloc (.cells #[.pointer (some ⟨p,0,none⟩)] 119)).alloc (.cells #[.int .i64 zn] 3)).alloc (.cells #[.string ⟨#[]⟩,.int .i64 0,.string ⟨#[]⟩,.slice none 0 0,.slice none 0 0] 72)).heap[w.heap.size+1]?=some (.cells #[.int .i64 zn] 3):=by
  have:=heap_alloc_new (w.alloc (.cells #[.pointer (some ⟨p,0,none⟩)] 119)) (.cells #[.int .i64 zn] 3)
  refine (Below.heap_alloc _ _ _ (by simp)).trans ?_
  simpa using this
 have hR0:(((w.alloc (.cells #[.pointer (some ⟨p,0,none⟩)] 119)).alloc (.cells #[.int .i64 zn] 3)).alloc (.cells #[.string ⟨#[]⟩,.int .i64 0,.string ⟨#[]⟩,.slice none 0 0,.slice none 0 0] 72)).heap[w.heap.size]?=some (.cells #[.pointer (some ⟨p,0,none⟩)] 119):=(Below.heap_alloc _ _ _ (by simp;omega)).trans ((Below.heap_alloc _ _ _ (by simp)).trans (heap_alloc_new w _))
 exact ⟨R.more hb0,Keeps.of hb0 (by omega),by rw [Capt];refine ⟨?_,?_,?_,?_⟩ <;> first | omega | (rw [cell_of_row _ _ 0 _ _ _ hR0];rfl) | (rw [cell_of_row _ _ 0 _ _ _ hK0,hzn];rfl),hB0,by simp⟩
theorem rank_done {p g cap:Nat}{rk:Value}{l:List (ByteArray × ByteArray × Nat)}{k3 bl dp:Nat}{w wx w4:World}{e:DataW Unit}{op:ByteArray}{z:Int}{sx:ByteArray}{pa:Option Addr}{pn pc:Nat}{la:Option Addr}{ln lc:Nat}(hpl:p<w.heap.size) (hgl:g<w.heap.size) (hs:wx.heap.size=w.heap.size+3) (K0:Keeps p w wx) (hB:wx.heap[w.heap.size+2]?=some (.cells #[.string ⟨#[]⟩,.int .i64 0,.string ⟨#[]⟩,.slice none 0 0,.slice none 0 0] 72)) (K4:Keeps p wx w4) (R4:RD w4 p g cap rk l k3 bl dp) (hrep:RepE (fun b=>wx.heap.size≤b) w4 [.string op,.int .i64 z,.string sx,.slice pa pn pc,.slice la ln lc] e) :
  (set5 w4 (w.heap.size+2) (.string op) (.int .i64 z) (.string sx) (.slice pa pn pc) (.slice la ln lc)).heap[w.heap.size+2]?=some (.cells #[.string op,.int .i64 z,.string sx,.slice pa pn pc,.slice la ln lc] 72)∧RepE (fun b=>w.heap.size≤b) (set5 w4 (w.heap.size+2) (.string op) (.int .i64 z) (.string sx) (.slice pa pn pc) (.slice la ln lc)) [.string op,.int .i64 z,.string sx,.slice pa pn pc,.slice la ln lc] e∧RD (set5 w4 (w.heap.size+2) (.string op) (.int .i64 z) (.string sx) (.slice pa pn pc) (.slice la ln lc)) p g cap rk l k3 bl dp∧Keeps p w (set5 w4 (w.heap.size+2) (.string op) (.int .i64 z) (.string sx) (.slice pa pn pc) (.slice la ln lc)):=by
 obtain ⟨f1,f2,f3,f4⟩:=laid5 hrep R4 (K0.trans K4) ((K4.block _ (by omega) (by omega)).trans hB) (fun h=>by omega) (by omega) (by omega) (by omega) (.string op) (.int .i64 z) (.string sx) (.slice pa pn pc) (.slice la ln lc)
 exact ⟨f4,f1.same (fun _ _ _=>rfl) (fun b h _=>by omega),f2,f3⟩

set_option maxHeartbeats 2000000 in
set_option maxRecDepth 100000 in
theorem ranked0 {p g cap:Nat}{rk:Value}{l:List (ByteArray × ByteArray × Nat)}{k bl dp:Nat}{a0 a1:Addr}{o:Out (DataW Unit)}(h:∀ (w w':World),Capt p w.heap.size (w.heap.size+1) 0 w'→RD w' p g cap rk l k bl dp→TErr p a0 a1 w'→RK p rk w'→Calls Tryz.prog 151 #[.pointer (some ⟨p,0,none⟩),.string kLambda,.int .i64 0,.func (.func 152) #[.pointer (some ⟨p,0,none⟩)] #[]] w' fun ev w''=>PostE (fun b=>w'.heap.size≤b) p g cap rk l k bl dp a0 a1 w' o ev w'') :
  ReadsE 141 #[.pointer (some ⟨p,0,none⟩),.int .i64 0] p g cap rk l k bl dp a0 a1 o:=by
 intro w R E X
 have hpl:=lt_of_heap R.blk
 have hgl:=R.gl
 obtain ⟨R0,K0,C0,hB0,hs0⟩:=rank_start 0 0 rfl R
 have HC:=toHid (h w _ C0 R0 (E.keeps K0) (X.keeps K0))
 have HK0:=toHid K0
 have HB0:=toHid hB0
 clear h R E X R0 K0 C0 hB0
 go_enter Tryz.func141,Tryz.ntmps141
 go_wp2_with fail
 refine HC.out.mono ?_
 intro ev w4 hP
 rcases hP.parts with ⟨e5,k5,op5,z5,sx5,pa5,pn5,pc5,la5,ln5,lc5,q5,rfl,hrep5,R5,K5,hk5,hk5l⟩ | ⟨y,b,q5,rfl,hf⟩
 rotate_left
 ·have HF:Hid (faultAt l p a0 a1 w y (.panicked [{ v:=.iface 61 (.pointer (some ⟨b,0,none⟩)),recovered:=false }]) w4):=faultAt.after HK0.out.below hf
  subst q5
  clear hP HC hf
  go_wp2_with fail
  exact ⟨rfl,HF.out⟩
 subst q5
 obtain ⟨u0,u1,u2,u3,u4,uf⟩:=expr_block ((K5.block _ (by omega) (by omega)).trans HB0.out)
 have uf0:=uf 0
 have uf1:=uf 1
 have uf2:=uf 2
 have uf3:=uf 3
 have uf4:=uf 4
 have ul:=lt_of_cell u0
 have HZ:=toHid (rank_done hpl hgl hs0 HK0.out HB0.out K5 R5 hrep5)
 clear hP HC hrep5 R5 K5 uf
 go_wp2_with fail
 obtain ⟨z1,z2,z3,z4⟩:=HZ.out
 refine bodyPost_ret (results_expr _ 4 rfl _ _ (w.heap.size+2) _ _ _ _ _ rfl z1) rfl ?_
 exact ⟨_,_,_,_,_,rfl,z2,z3,z4,hk5,hk5l⟩

set_option maxHeartbeats 2000000 in
set_option maxRecDepth 100000 in
theorem ranked1 {p g cap:Nat}{rk:Value}{l:List (ByteArray × ByteArray × Nat)}{k bl dp:Nat}{a0 a1:Addr}{o:Out (DataW Unit)}(h:∀ (w w':World),Capt p w.heap.size (w.heap.size+1) 1 w'→RD w' p g cap rk l k bl dp→TErr p a0 a1 w'→RK p rk w'→Calls Tryz.prog 156 #[.pointer (some ⟨p,0,none⟩),.int .i64 1] w' fun ev w''=>PostE (fun b=>w'.heap.size≤b) p g cap rk l k bl dp a0 a1 w' o ev w'') :
  ReadsE 141 #[.pointer (some ⟨p,0,none⟩),.int .i64 1] p g cap rk l k bl dp a0 a1 o:=by
 intro w R E X
 have hpl:=lt_of_heap R.blk
 have hgl:=R.gl
 obtain ⟨R0,K0,C0,hB0,hs0⟩:=rank_start 1 1 rfl R
 have HC:=toHid (h w _ C0 R0 (E.keeps K0) (X.keeps K0))
 have HK0:=toHid K0
 have HB0:=toHid hB0
 clear h R E X R0 K0 C0 hB0
 go_enter Tryz.func141,Tryz.ntmps141
 go_wp2_with fail
 refine HC.out.mono ?_
 intro ev w4 hP
 rcases hP.parts with ⟨e5,k5,op5,z5,sx5,pa5,pn5,pc5,la5,ln5,lc5,q5,rfl,hrep5,R5,K5,hk5,hk5l⟩ | ⟨y,b,q5,rfl,hf⟩
 rotate_left
 ·have HF:Hid (faultAt l p a0 a1 w y (.panicked [{ v:=.iface 61 (.pointer (some ⟨b,0,none⟩)),recovered:=false }]) w4):=faultAt.after HK0.out.below hf
  subst q5
  clear hP HC hf
  go_wp2_with fail
  exact ⟨rfl,HF.out⟩
 subst q5
 obtain ⟨u0,u1,u2,u3,u4,uf⟩:=expr_block ((K5.block _ (by omega) (by omega)).trans HB0.out)
 have uf0:=uf 0
 have uf1:=uf 1
 have uf2:=uf 2
 have uf3:=uf 3
 have uf4:=uf 4
 have ul:=lt_of_cell u0
 have HZ:=toHid (rank_done hpl hgl hs0 HK0.out HB0.out K5 R5 hrep5)
 clear hP HC hrep5 R5 K5 uf
 go_wp2_with fail
 obtain ⟨z1,z2,z3,z4⟩:=HZ.out
 refine bodyPost_ret (results_expr _ 4 rfl _ _ (w.heap.size+2) _ _ _ _ _ rfl z1) rfl ?_
 exact ⟨_,_,_,_,_,rfl,z2,z3,z4,hk5,hk5l⟩

set_option maxHeartbeats 2000000 in
set_option maxRecDepth 100000 in
theorem ranked2 {p g cap:Nat}{rk:Value}{l:List (ByteArray × ByteArray × Nat)}{k bl dp:Nat}{a0 a1:Addr}{o:Out (DataW Unit)}(h:∀ (w w':World),Capt p w.heap.size (w.heap.size+1) 2 w'→RD w' p g cap rk l k bl dp→TErr p a0 a1 w'→RK p rk w'→Calls Tryz.prog 156 #[.pointer (some ⟨p,0,none⟩),.int .i64 2] w' fun ev w''=>PostE (fun b=>w'.heap.size≤b) p g cap rk l k bl dp a0 a1 w' o ev w'') :
  ReadsE 141 #[.pointer (some ⟨p,0,none⟩),.int .i64 2] p g cap rk l k bl dp a0 a1 o:=by
 intro w R E X
 have hpl:=lt_of_heap R.blk
 have hgl:=R.gl
 obtain ⟨R0,K0,C0,hB0,hs0⟩:=rank_start 2 2 rfl R
 have HC:=toHid (h w _ C0 R0 (E.keeps K0) (X.keeps K0))
 have HK0:=toHid K0
 have HB0:=toHid hB0
 clear h R E X R0 K0 C0 hB0
 go_enter Tryz.func141,Tryz.ntmps141
 go_wp2_with fail
 refine HC.out.mono ?_
 intro ev w4 hP
 rcases hP.parts with ⟨e5,k5,op5,z5,sx5,pa5,pn5,pc5,la5,ln5,lc5,q5,rfl,hrep5,R5,K5,hk5,hk5l⟩ | ⟨y,b,q5,rfl,hf⟩
 rotate_left
 ·have HF:Hid (faultAt l p a0 a1 w y (.panicked [{ v:=.iface 61 (.pointer (some ⟨b,0,none⟩)),recovered:=false }]) w4):=faultAt.after HK0.out.below hf
  subst q5
  clear hP HC hf
  go_wp2_with fail
  exact ⟨rfl,HF.out⟩
 subst q5
 obtain ⟨u0,u1,u2,u3,u4,uf⟩:=expr_block ((K5.block _ (by omega) (by omega)).trans HB0.out)
 have uf0:=uf 0
 have uf1:=uf 1
 have uf2:=uf 2
 have uf3:=uf 3
 have uf4:=uf 4
 have ul:=lt_of_cell u0
 have HZ:=toHid (rank_done hpl hgl hs0 HK0.out HB0.out K5 R5 hrep5)
 clear hP HC hrep5 R5 K5 uf
 go_wp2_with fail
 obtain ⟨z1,z2,z3,z4⟩:=HZ.out
 refine bodyPost_ret (results_expr _ 4 rfl _ _ (w.heap.size+2) _ _ _ _ _ rfl z1) rfl ?_
 exact ⟨_,_,_,_,_,rfl,z2,z3,z4,hk5,hk5l⟩

set_option maxHeartbeats 2000000 in
set_option maxRecDepth 100000 in
theorem ranked3 {p g cap:Nat}{rk:Value}{l:List (ByteArray × ByteArray × Nat)}{k bl dp:Nat}{a0 a1:Addr}{o:Out (DataW Unit)}(h:∀ (w w':World),Capt p w.heap.size (w.heap.size+1) 3 w'→RD w' p g cap rk l k bl dp→TErr p a0 a1 w'→RK p rk w'→Calls Tryz.prog 151 #[.pointer (some ⟨p,0,none⟩),.string kNot,.int .i64 3,.func (.func 153) #[] #[.pointer (some ⟨w.heap.size,0,none⟩),.pointer (some ⟨w.heap.size+1,0,none⟩)]] w' fun ev w''=>PostE (fun b=>w'.heap.size≤b) p g cap rk l k bl dp a0 a1 w' o ev w'') :
  ReadsE 141 #[.pointer (some ⟨p,0,none⟩),.int .i64 3] p g cap rk l k bl dp a0 a1 o:=by
 intro w R E X
 have hpl:=lt_of_heap R.blk
 have hgl:=R.gl
 obtain ⟨R0,K0,C0,hB0,hs0⟩:=rank_start 3 3 rfl R
 have HC:=toHid (h w _ C0 R0 (E.keeps K0) (X.keeps K0))
 have HK0:=toHid K0
 have HB0:=toHid hB0
 clear h R E X R0 K0 C0 hB0
 go_enter Tryz.func141,Tryz.ntmps141
 go_wp2_with fail
 refine HC.out.mono ?_
 intro ev w4 hP
 rcases hP.parts with ⟨e5,k5,op5,z5,sx5,pa5,pn5,pc5,la5,ln5,lc5,q5,rfl,hrep5,R5,K5,hk5,hk5l⟩ | ⟨y,b,q5,rfl,hf⟩
 rotate_left
 ·have HF:Hid (faultAt l p a0 a1 w y (.panicked [{ v:=.iface 61 (.pointer (some ⟨b,0,none⟩)),recovered:=false }]) w4):=faultAt.after HK0.out.below hf
  subst q5
  clear hP HC hf
  go_wp2_with fail
  exact ⟨rfl,HF.out⟩
 subst q5
 obtain ⟨u0,u1,u2,u3,u4,uf⟩:=expr_block ((K5.block _ (by omega) (by omega)).trans HB0.out)
 have uf0:=uf 0
 have uf1:=uf 1
 have uf2:=uf 2
 have uf3:=uf 3
 have uf4:=uf 4
 have ul:=lt_of_cell u0
 have HZ:=toHid (rank_done hpl hgl hs0 HK0.out HB0.out K5 R5 hrep5)
 clear hP HC hrep5 R5 K5 uf
 go_wp2_with fail
 obtain ⟨z1,z2,z3,z4⟩:=HZ.out
 refine bodyPost_ret (results_expr _ 4 rfl _ _ (w.heap.size+2) _ _ _ _ _ rfl z1) rfl ?_
 exact ⟨_,_,_,_,_,rfl,z2,z3,z4,hk5,hk5l⟩

set_option maxHeartbeats 2000000 in
set_option maxRecDepth 100000 in
theorem ranked4 {p g cap:Nat}{rk:Value}{l:List (ByteArray × ByteArray × Nat)}{k bl dp:Nat}{a0 a1:Addr}{o:Out (DataW Unit)}(h:∀ (w w':World),Capt p w.heap.size (w.heap.size+1) 4 w'→RD w' p g cap rk l k bl dp→TErr p a0 a1 w'→RK p rk w'→Calls Tryz.prog 156 #[.pointer (some ⟨p,0,none⟩),.int .i64 4] w' fun ev w''=>PostE (fun b=>w'.heap.size≤b) p g cap rk l k bl dp a0 a1 w' o ev w'') :
  ReadsE 141 #[.pointer (some ⟨p,0,none⟩),.int .i64 4] p g cap rk l k bl dp a0 a1 o:=by
 intro w R E X
 have hpl:=lt_of_heap R.blk
 have hgl:=R.gl
 obtain ⟨R0,K0,C0,hB0,hs0⟩:=rank_start 4 4 rfl R
 have HC:=toHid (h w _ C0 R0 (E.keeps K0) (X.keeps K0))
 have HK0:=toHid K0
 have HB0:=toHid hB0
 clear h R E X R0 K0 C0 hB0
 go_enter Tryz.func141,Tryz.ntmps141
 go_wp2_with fail
 refine HC.out.mono ?_
 intro ev w4 hP
 rcases hP.parts with ⟨e5,k5,op5,z5,sx5,pa5,pn5,pc5,la5,ln5,lc5,q5,rfl,hrep5,R5,K5,hk5,hk5l⟩ | ⟨y,b,q5,rfl,hf⟩
 rotate_left
 ·have HF:Hid (faultAt l p a0 a1 w y (.panicked [{ v:=.iface 61 (.pointer (some ⟨b,0,none⟩)),recovered:=false }]) w4):=faultAt.after HK0.out.below hf
  subst q5
  clear hP HC hf
  go_wp2_with fail
  exact ⟨rfl,HF.out⟩
 subst q5
 obtain ⟨u0,u1,u2,u3,u4,uf⟩:=expr_block ((K5.block _ (by omega) (by omega)).trans HB0.out)
 have uf0:=uf 0
 have uf1:=uf 1
 have uf2:=uf 2
 have uf3:=uf 3
 have uf4:=uf 4
 have ul:=lt_of_cell u0
 have HZ:=toHid (rank_done hpl hgl hs0 HK0.out HB0.out K5 R5 hrep5)
 clear hP HC hrep5 R5 K5 uf
 go_wp2_with fail
 obtain ⟨z1,z2,z3,z4⟩:=HZ.out
 refine bodyPost_ret (results_expr _ 4 rfl _ _ (w.heap.size+2) _ _ _ _ _ rfl z1) rfl ?_
 exact ⟨_,_,_,_,_,rfl,z2,z3,z4,hk5,hk5l⟩

set_option maxHeartbeats 2000000 in
set_option maxRecDepth 100000 in
theorem ranked5 {p g cap:Nat}{rk:Value}{l:List (ByteArray × ByteArray × Nat)}{k bl dp:Nat}{a0 a1:Addr}{o:Out (DataW Unit)}(h:∀ (w w':World),Capt p w.heap.size (w.heap.size+1) 5 w'→RD w' p g cap rk l k bl dp→TErr p a0 a1 w'→RK p rk w'→Calls Tryz.prog 156 #[.pointer (some ⟨p,0,none⟩),.int .i64 5] w' fun ev w''=>PostE (fun b=>w'.heap.size≤b) p g cap rk l k bl dp a0 a1 w' o ev w'') :
  ReadsE 141 #[.pointer (some ⟨p,0,none⟩),.int .i64 5] p g cap rk l k bl dp a0 a1 o:=by
 intro w R E X
 have hpl:=lt_of_heap R.blk
 have hgl:=R.gl
 obtain ⟨R0,K0,C0,hB0,hs0⟩:=rank_start 5 5 rfl R
 have HC:=toHid (h w _ C0 R0 (E.keeps K0) (X.keeps K0))
 have HK0:=toHid K0
 have HB0:=toHid hB0
 clear h R E X R0 K0 C0 hB0
 go_enter Tryz.func141,Tryz.ntmps141
 go_wp2_with fail
 refine HC.out.mono ?_
 intro ev w4 hP
 rcases hP.parts with ⟨e5,k5,op5,z5,sx5,pa5,pn5,pc5,la5,ln5,lc5,q5,rfl,hrep5,R5,K5,hk5,hk5l⟩ | ⟨y,b,q5,rfl,hf⟩
 rotate_left
 ·have HF:Hid (faultAt l p a0 a1 w y (.panicked [{ v:=.iface 61 (.pointer (some ⟨b,0,none⟩)),recovered:=false }]) w4):=faultAt.after HK0.out.below hf
  subst q5
  clear hP HC hf
  go_wp2_with fail
  exact ⟨rfl,HF.out⟩
 subst q5
 obtain ⟨u0,u1,u2,u3,u4,uf⟩:=expr_block ((K5.block _ (by omega) (by omega)).trans HB0.out)
 have uf0:=uf 0
 have uf1:=uf 1
 have uf2:=uf 2
 have uf3:=uf 3
 have uf4:=uf 4
 have ul:=lt_of_cell u0
 have HZ:=toHid (rank_done hpl hgl hs0 HK0.out HB0.out K5 R5 hrep5)
 clear hP HC hrep5 R5 K5 uf
 go_wp2_with fail
 obtain ⟨z1,z2,z3,z4⟩:=HZ.out
 refine bodyPost_ret (results_expr _ 4 rfl _ _ (w.heap.size+2) _ _ _ _ _ rfl z1) rfl ?_
 exact ⟨_,_,_,_,_,rfl,z2,z3,z4,hk5,hk5l⟩

set_option maxHeartbeats 2000000 in
set_option maxRecDepth 100000 in
theorem ranked6 {p g cap:Nat}{rk:Value}{l:List (ByteArray × ByteArray × Nat)}{k bl dp:Nat}{a0 a1:Addr}{o:Out (DataW Unit)}(h:∀ (w w':World),Capt p w.heap.size (w.heap.size+1) 6 w'→RD w' p g cap rk l k bl dp→TErr p a0 a1 w'→RK p rk w'→Calls Tryz.prog 156 #[.pointer (some ⟨p,0,none⟩),.int .i64 6] w' fun ev w''=>PostE (fun b=>w'.heap.size≤b) p g cap rk l k bl dp a0 a1 w' o ev w'') :
  ReadsE 141 #[.pointer (some ⟨p,0,none⟩),.int .i64 6] p g cap rk l k bl dp a0 a1 o:=by
 intro w R E X
 have hpl:=lt_of_heap R.blk
 have hgl:=R.gl
 obtain ⟨R0,K0,C0,hB0,hs0⟩:=rank_start 6 6 rfl R
 have HC:=toHid (h w _ C0 R0 (E.keeps K0) (X.keeps K0))
 have HK0:=toHid K0
 have HB0:=toHid hB0
 clear h R E X R0 K0 C0 hB0
 go_enter Tryz.func141,Tryz.ntmps141
 go_wp2_with fail
 refine HC.out.mono ?_
 intro ev w4 hP
 rcases hP.parts with ⟨e5,k5,op5,z5,sx5,pa5,pn5,pc5,la5,ln5,lc5,q5,rfl,hrep5,R5,K5,hk5,hk5l⟩ | ⟨y,b,q5,rfl,hf⟩
 rotate_left
 ·have HF:Hid (faultAt l p a0 a1 w y (.panicked [{ v:=.iface 61 (.pointer (some ⟨b,0,none⟩)),recovered:=false }]) w4):=faultAt.after HK0.out.below hf
  subst q5
  clear hP HC hf
  go_wp2_with fail
  exact ⟨rfl,HF.out⟩
 subst q5
 obtain ⟨u0,u1,u2,u3,u4,uf⟩:=expr_block ((K5.block _ (by omega) (by omega)).trans HB0.out)
 have uf0:=uf 0
 have uf1:=uf 1
 have uf2:=uf 2
 have uf3:=uf 3
 have uf4:=uf 4
 have ul:=lt_of_cell u0
 have HZ:=toHid (rank_done hpl hgl hs0 HK0.out HB0.out K5 R5 hrep5)
 clear hP HC hrep5 R5 K5 uf
 go_wp2_with fail
 obtain ⟨z1,z2,z3,z4⟩:=HZ.out
 refine bodyPost_ret (results_expr _ 4 rfl _ _ (w.heap.size+2) _ _ _ _ _ rfl z1) rfl ?_
 exact ⟨_,_,_,_,_,rfl,z2,z3,z4,hk5,hk5l⟩

set_option maxHeartbeats 2000000 in
set_option maxRecDepth 100000 in
theorem ranked7 {p g cap:Nat}{rk:Value}{l:List (ByteArray × ByteArray × Nat)}{k bl dp:Nat}{a0 a1:Addr}{o:Out (DataW Unit)}(h:∀ (w w':World),Capt p w.heap.size (w.heap.size+1) 7 w'→RD w' p g cap rk l k bl dp→TErr p a0 a1 w'→RK p rk w'→Calls Tryz.prog 151 #[.pointer (some ⟨p,0,none⟩),.string kMinus,.int .i64 7,.func (.func 154) #[] #[.pointer (some ⟨w.heap.size,0,none⟩),.pointer (some ⟨w.heap.size+1,0,none⟩)]] w' fun ev w''=>PostE (fun b=>w'.heap.size≤b) p g cap rk l k bl dp a0 a1 w' o ev w'') :
  ReadsE 141 #[.pointer (some ⟨p,0,none⟩),.int .i64 7] p g cap rk l k bl dp a0 a1 o:=by
 intro w R E X
 have hpl:=lt_of_heap R.blk
 have hgl:=R.gl
 obtain ⟨R0,K0,C0,hB0,hs0⟩:=rank_start 7 7 rfl R
 have HC:=toHid (h w _ C0 R0 (E.keeps K0) (X.keeps K0))
 have HK0:=toHid K0
 have HB0:=toHid hB0
 clear h R E X R0 K0 C0 hB0
 go_enter Tryz.func141,Tryz.ntmps141
 go_wp2_with fail
 refine HC.out.mono ?_
 intro ev w4 hP
 rcases hP.parts with ⟨e5,k5,op5,z5,sx5,pa5,pn5,pc5,la5,ln5,lc5,q5,rfl,hrep5,R5,K5,hk5,hk5l⟩ | ⟨y,b,q5,rfl,hf⟩
 rotate_left
 ·have HF:Hid (faultAt l p a0 a1 w y (.panicked [{ v:=.iface 61 (.pointer (some ⟨b,0,none⟩)),recovered:=false }]) w4):=faultAt.after HK0.out.below hf
  subst q5
  clear hP HC hf
  go_wp2_with fail
  exact ⟨rfl,HF.out⟩
 subst q5
 obtain ⟨u0,u1,u2,u3,u4,uf⟩:=expr_block ((K5.block _ (by omega) (by omega)).trans HB0.out)
 have uf0:=uf 0
 have uf1:=uf 1
 have uf2:=uf 2
 have uf3:=uf 3
 have uf4:=uf 4
 have ul:=lt_of_cell u0
 have HZ:=toHid (rank_done hpl hgl hs0 HK0.out HB0.out K5 R5 hrep5)
 clear hP HC hrep5 R5 K5 uf
 go_wp2_with fail
 obtain ⟨z1,z2,z3,z4⟩:=HZ.out
 refine bodyPost_ret (results_expr _ 4 rfl _ _ (w.heap.size+2) _ _ _ _ _ rfl z1) rfl ?_
 exact ⟨_,_,_,_,_,rfl,z2,z3,z4,hk5,hk5l⟩

set_option maxHeartbeats 2000000 in
set_option maxRecDepth 100000 in
theorem ranked8 {p g cap:Nat}{rk:Value}{l:List (ByteArray × ByteArray × Nat)}{k bl dp:Nat}{a0 a1:Addr}{o:Out (DataW Unit)}(h:∀ (w w':World),Capt p w.heap.size (w.heap.size+1) 8 w'→RD w' p g cap rk l k bl dp→TErr p a0 a1 w'→RK p rk w'→Calls Tryz.prog 155 #[.pointer (some ⟨p,0,none⟩)] w' fun ev w''=>PostE (fun b=>w'.heap.size≤b) p g cap rk l k bl dp a0 a1 w' o ev w'') :
  ReadsE 141 #[.pointer (some ⟨p,0,none⟩),.int .i64 8] p g cap rk l k bl dp a0 a1 o:=by
 intro w R E X
 have hpl:=lt_of_heap R.blk
 have hgl:=R.gl
 obtain ⟨R0,K0,C0,hB0,hs0⟩:=rank_start 8 8 rfl R
 have HC:=toHid (h w _ C0 R0 (E.keeps K0) (X.keeps K0))
 have HK0:=toHid K0
 have HB0:=toHid hB0
 clear h R E X R0 K0 C0 hB0
 go_enter Tryz.func141,Tryz.ntmps141
 go_wp2_with fail
 refine HC.out.mono ?_
 intro ev w4 hP
 rcases hP.parts with ⟨e5,k5,op5,z5,sx5,pa5,pn5,pc5,la5,ln5,lc5,q5,rfl,hrep5,R5,K5,hk5,hk5l⟩ | ⟨y,b,q5,rfl,hf⟩
 rotate_left
 ·have HF:Hid (faultAt l p a0 a1 w y (.panicked [{ v:=.iface 61 (.pointer (some ⟨b,0,none⟩)),recovered:=false }]) w4):=faultAt.after HK0.out.below hf
  subst q5
  clear hP HC hf
  go_wp2_with fail
  exact ⟨rfl,HF.out⟩
 subst q5
 obtain ⟨u0,u1,u2,u3,u4,uf⟩:=expr_block ((K5.block _ (by omega) (by omega)).trans HB0.out)
 have uf0:=uf 0
 have uf1:=uf 1
 have uf2:=uf 2
 have uf3:=uf 3
 have uf4:=uf 4
 have ul:=lt_of_cell u0
 have HZ:=toHid (rank_done hpl hgl hs0 HK0.out HB0.out K5 R5 hrep5)
 clear hP HC hrep5 R5 K5 uf
 go_wp2_with fail
 obtain ⟨z1,z2,z3,z4⟩:=HZ.out
 refine bodyPost_ret (results_expr _ 4 rfl _ _ (w.heap.size+2) _ _ _ _ _ rfl z1) rfl ?_
 exact ⟨_,_,_,_,_,rfl,z2,z3,z4,hk5,hk5l⟩

end Go.Proofs.YtemapnogjepokaaGreatDoor

/- Package tree: every term, by what is left of the tokens and the rank. -/
namespace Go.Proofs.YtemapnogjepokaaGreatDoor
open Go.RowKit

structure TokOK (l:List (ByteArray × ByteArray × Nat)):Prop where
 hl:l.length≤100000
 hen:Ended l
 last:∀ (k:Nat) (x:ByteArray × ByteArray × Nat),l[k]?=some x→(isIntB x || isStrB x || isNameB x)=true→k+1<l.length
 int:∀ (k:Nat) (x:ByteArray × ByteArray × Nat),l[k]?=some x→isIntB x=true→x.2.1.size≤9223372036854775806 ∧ ∃ v,Lib.parseIntB 64 x.2.1.data.toList = .ok v

theorem atom_any {p g cap:Nat}{rk:Value}{l:List (ByteArray × ByteArray × Nat)}{k bl dp:Nat}{a0 a1:Addr}(T:TokOK l) (hk:k<l.length) (hdp:dp≤12) (term:Nat→Out (DataW Unit))
  (hterm:∀ k',k+1≤k'→k'<l.length→dp<12→ReadsE 112 #[.pointer (some ⟨p,0,none⟩)] p g cap rk l k' bl (dp+1) a0 a1 (term k')) :
  ReadsE 172 #[.pointer (some ⟨p,0,none⟩)] p g cap rk l k bl dp a0 a1 (pAtom l dp term (fun k1=>pUpTo l (pTermStep term) rbrk l.length [] k1) (fun k1=>pUpTo l (pPairStep l term) rbrc l.length [] k1) k):=by
 intro w R E X
 obtain ⟨x,hx⟩:∃ x,l[k]?=some x:=⟨l[k],by simp [hk]⟩
 have hpl:=lt_of_heap R.blk
 unfold pAtom
 rw [hx]
 simp only
 cases h1:isIntB x with
 | true =>
  obtain ⟨hsz,v,hv⟩:=T.int k x hx h1
  simp only [cond_true,intOf,hv]
  exact atom_int T.hl hx (T.last k x hx (by rw [h1];rfl)) h1 hsz v hv w R
 | false =>
  cases h2:isStrB x with
  | true =>
   simp only [cond_true,cond_false,Bool.true_or]
   exact atom_str T.hl hx (T.last k x hx (by rw [h2];simp)) h1 h2 w R
  | false =>
   cases h3:isNameB x with
   | true =>
    simp only [cond_true,cond_false,Bool.or_true]
    exact atom_name T.hl hx (T.last k x hx (by rw [h3];simp)) h1 h2 h3 w R
   | false =>
    cases h4:markB x [kNone,kTrue,kFalse] with
    | true =>
     simp only [cond_true,cond_false,Bool.or_false]
     exact atom_word T.hl hx (T.hen.next hx h4) h1 h2 h3 h4 w R
    | false =>
     cases h5:markB x [lpar] with
     | true =>
      simp only [cond_true,cond_false,Bool.or_false]
      have hk1:=T.hen.next hx h5
      exact atom_par hx h1 h2 h3 h4 h5 w R E X (fun w' R' E' X' hc=>atomDeepClosed T.hl T.hen hk1 hdp (fun hd=>hterm (k+1) (Nat.le_refl _) hk1 hd) w.heap.size w' R' E' X' hc (by omega))
     | false =>
      cases h6:markB x [lbrk] with
      | true =>
       simp only [cond_true,cond_false,Bool.or_false]
       have hk1:=T.hen.next hx h6
       exact atom_brk hx h1 h2 h3 h4 h5 h6 w R E X (fun w' R' E' X' hc=>atomDeepList T.hl hk1 hdp (fun hd=>termsL_any rbrk T.hl T.hen hk1 term (fun k' h7 h8=>hterm k' h7 h8 hd)) w.heap.size w' R' E' X' hc (by omega))
      | false =>
       cases h7:markB x [lbrc] with
       | true =>
        simp only [cond_true,cond_false,Bool.or_false]
        have hk1:=T.hen.next hx h7
        exact atom_brc hx h1 h2 h3 h4 h5 h6 h7 w R E X (fun w' R' E' X' hc=>atomDeepDict T.hl hk1 hdp (fun hd=>pairs_any T.hl T.hen hk1 term (fun k' h8 h9=>hterm k' h8 h9 hd)) w.heap.size w' R' E' X' hc (by omega))
       | false =>
        simp only [cond_false,Bool.or_false]
        exact atom_none hx h1 h2 h3 h4 h5 h6 h7 w R E

def pRanked (l:List (ByteArray × ByteArray × Nat)):Nat→Nat→Nat→Nat→Out (DataW Unit)
 | 0,_,_,k=>.error (k,false)
 | f+1,dp,rank,k =>
  if rank=0 then pAhead l kLambda k dp (pRanked l f dp 1 k) (pLambda l (fun k1=>pOne (pRanked l f (dp+1) 0 k1)) (k+1))
  else if rank=3 then pAhead l kNot k dp (pRanked l f dp 4 k) (pOp kNot (pRanked l f (dp+1) 3 (k+1)))
  else if rank=7 then pAhead l kMinus k dp (pRanked l f dp 8 k) (pOp kNeg (pRanked l f (dp+1) 7 (k+1)))
  else if rank=8 then pPost l dp (pRanked l f (dp+1) 0) (pAtom l dp (pRanked l f (dp+1) 0) (fun k1=>pUpTo l (pTermStep (pRanked l f (dp+1) 0)) rbrk l.length [] k1) (fun k1=>pUpTo l (pPairStep l (pRanked l f (dp+1) 0)) rbrc l.length [] k1) k)
  else pSides l rank (pRanked l f dp (rank+1)) k

set_option maxRecDepth 100000 in
theorem ranked_any {p g cap:Nat}{rk:Value}{l:List (ByteArray × ByteArray × Nat)}{bl:Nat}{a0 a1:Addr}(T:TokOK l):∀ (f dp rank k:Nat) (zr:Int),zr=(rank:Int)→dp≤12→rank≤8→k<l.length→(l.length - k)*10+(9 - rank)≤f →
  ReadsE 141 #[.pointer (some ⟨p,0,none⟩),.int .i64 zr] p g cap rk l k bl dp a0 a1 (pRanked l f dp rank k)
 | 0,dp,rank,k,zr,hz,hdp,hr,hk,hf=>by omega
 | f+1,dp,rank,k,zr,hz,hdp,hr,hk,hf=>by
  have hl:=T.hl
  have hen:=T.hen
  have IH:∀ (rank' k':Nat) (z':Int),z'=(rank':Int)→rank'≤8→k≤k'→k'<l.length→rank<rank'→ReadsE 141 #[.pointer (some ⟨p,0,none⟩),.int .i64 z'] p g cap rk l k' bl dp a0 a1 (pRanked l f dp rank' k'):=
   fun rank' k' z' h1 h2 h3 h4 h5=>ranked_any T f dp rank' k' z' h1 hdp h2 h4 (by omega)
  have ID:∀ (rank' k':Nat) (z':Int),z'=(rank':Int)→rank'≤8→k+1≤k'→k'<l.length→dp<12→ReadsE 141 #[.pointer (some ⟨p,0,none⟩),.int .i64 z'] p g cap rk l k' bl (dp+1) a0 a1 (pRanked l f (dp+1) rank' k'):=
   fun rank' k' z' h1 h2 h3 h4 h5=>ranked_any T f (dp+1) rank' k' z' h1 (by omega) h2 h4 (by omega)
  have IT:∀ k',k+1≤k'→k'<l.length→dp<12→ReadsE 112 #[.pointer (some ⟨p,0,none⟩)] p g cap rk l k' bl (dp+1) a0 a1 (pRanked l f (dp+1) 0 k'):=
   fun k' h1 h2 h3=>term_any (ID 0 k' 0 rfl (by omega) h1 h2 h3)
  unfold pRanked
  match rank,hr,hz with
  | 0,_,hz =>
   subst hz
   exact ranked0 (fun w w' C R E X=>ahead_any' 152 #[.pointer (some ⟨p,0,none⟩)] (fun _ _=>rfl) kLambda 0 (by omega) hk hl hen hdp (fun _=>True) (fun _ _ _ _=>trivial) (IH 1 k _ rfl (by omega) (Nat.le_refl _) hk (by omega)) (fun hk1 hd w2 R2 E2 X2 _=>lambda_any hl hen (fun k x hx hn=>T.last k x hx (by rw [hn];simp)) hk1 (fun k1=>pOne (pRanked l f (dp+1) 0 k1)) (fun k1 h1 h2=>tone_any (IT k1 (by omega) h2 hd)) w2 R2 E2 X2) w' R E X trivial)
  | 1,_,hz=>subst hz;exact ranked1 (fun w w' C R E X=>sides1_any hl hen hk _ (fun k1 h1 h2=>IH 2 k1 _ rfl (by omega) h1 h2 (by omega)) w' R E X)
  | 2,_,hz=>subst hz;exact ranked2 (fun w w' C R E X=>sides2_any hl hen hk _ (fun k1 h1 h2=>IH 3 k1 _ rfl (by omega) h1 h2 (by omega)) w' R E X)
  | 3,_,hz =>
   subst hz
   exact ranked3 (fun w w' C R E X=>ahead_any 153 _ (fun _ _=>rfl) kNot 3 (by omega) hk hl hen hdp (Capt p w.heap.size (w.heap.size+1) 3) Capt.keeps (IH 4 k _ rfl (by omega) (Nat.le_refl _) hk (by omega)) (fun hk1 hd w2 R2 E2 X2 C2=>rankedNot_any _ _ 3 (ID 3 (k+1) _ rfl (by omega) (Nat.le_refl _) hk1 hd) w2 R2 E2 X2 C2) w' R E X C)
  | 4,_,hz=>subst hz;exact ranked4 (fun w w' C R E X=>sides4_any hl hen hk _ (fun k1 h1 h2=>IH 5 k1 _ rfl (by omega) h1 h2 (by omega)) w' R E X)
  | 5,_,hz=>subst hz;exact ranked5 (fun w w' C R E X=>sides5_any hl hen hk _ (fun k1 h1 h2=>IH 6 k1 _ rfl (by omega) h1 h2 (by omega)) w' R E X)
  | 6,_,hz=>subst hz;exact ranked6 (fun w w' C R E X=>sides6_any hl hen hk _ (fun k1 h1 h2=>IH 7 k1 _ rfl (by omega) h1 h2 (by omega)) w' R E X)
  | 7,_,hz =>
   subst hz
   exact ranked7 (fun w w' C R E X=>ahead_any 154 _ (fun _ _=>rfl) kMinus 7 (by omega) hk hl hen hdp (Capt p w.heap.size (w.heap.size+1) 7) Capt.keeps (IH 8 k _ rfl (by omega) (Nat.le_refl _) hk (by omega)) (fun hk1 hd w2 R2 E2 X2 C2=>rankedNeg_any _ _ 7 (ID 7 (k+1) _ rfl (by omega) (Nat.le_refl _) hk1 hd) w2 R2 E2 X2 C2) w' R E X C)
  | 8,_,hz=>subst hz;exact ranked8 (fun w w' C R E X=>post_any hl hen hdp _ _ IT (atom_any T hk hdp _ IT) w' R E X)
  | n+9,hr,_=>omega

def fuelE (l:List (ByteArray × ByteArray × Nat)):Nat:=l.length*10+10
def pTerm (l:List (ByteArray × ByteArray × Nat)) (k:Nat):Out (DataW Unit):=pRanked l (fuelE l) 0 0 k
theorem termAt {p g cap:Nat}{rk:Value}{l:List (ByteArray × ByteArray × Nat)}{bl:Nat}{a0 a1:Addr}(T:TokOK l) {k:Nat}(hk:k<l.length):ReadsE 112 #[.pointer (some ⟨p,0,none⟩)] p g cap rk l k bl 0 a0 a1 (pTerm l k):=
 term_any (ranked_any T (fuelE l) 0 0 k 0 rfl (by omega) (by omega) hk (by unfold fuelE;omega))
theorem oneAt {p g cap:Nat}{rk:Value}{l:List (ByteArray × ByteArray × Nat)}{bl:Nat}{a0 a1:Addr}(T:TokOK l) {k:Nat}(hk:k<l.length):ReadsL 78 #[.pointer (some ⟨p,0,none⟩)] p g cap rk l k bl 0 a0 a1 (pOne (pTerm l k)):=tone_any (termAt T hk)
end Go.Proofs.YtemapnogjepokaaGreatDoor

/- Package tree: statements in memory. -/
namespace Go.Proofs.YtemapnogjepokaaGreatDoor
open Go.RowKit

def mkS (kd nm:ByteArray) (pl:List ByteArray) (el bd es:List (DataW Unit)):DataW Unit:=
 .agg [.lit (.string kd.data.toList),.lit (.string nm.data.toList),.slice (pl.map fun x=>.lit (.string x.data.toList)) [],.slice el [],.slice bd [],.slice es []]
def rowS (S:Nat→Prop) (w:World) (q:List Value→DataW Unit→Prop) (ba:Option Addr) (bd:List (DataW Unit)):Prop:=
 0<bd.length → ∃ b o,ba=some ⟨b,o,none⟩∧S b ∧ ∀ (i:Nat) (s:DataW Unit),bd[i]?=some s → ∃ c0 c1 c2 c3 c4 c5,w.cell? ⟨b,o+i*6,none⟩=some c0∧w.cell? ⟨b,o+i*6+1,none⟩=some c1∧w.cell? ⟨b,o+i*6+2,none⟩=some c2∧w.cell? ⟨b,o+i*6+3,none⟩=some c3∧w.cell? ⟨b,o+i*6+4,none⟩=some c4∧w.cell? ⟨b,o+i*6+5,none⟩=some c5∧q [c0,c1,c2,c3,c4,c5] s
def RepN (S:Nat→Prop) (w:World) (pa:Option Addr) (pl:List ByteArray):Prop:=0<pl.length → ∃ b o,pa=some ⟨b,o,none⟩∧S b∧TS w b o pl
def repS (S:Nat→Prop) (w:World):Nat→List Value→DataW Unit→Prop
 | 0,_,_=>False
 | n+1,cs,d => ∃ (kd nm:ByteArray) (pl:List ByteArray) (el bd es:List (DataW Unit)) (pa la ba ea:Option Addr) (pc lc bc ec:Nat),
   d=mkS kd nm pl el bd es∧cs = [.string kd,.string nm,.slice pa pl.length pc,.slice la el.length lc,.slice ba bd.length bc,.slice ea es.length ec] ∧
   RepN S w pa pl∧RepL S w la el∧rowS S w (repS S w n) ba bd∧rowS S w (repS S w n) ea es∧el.length≤lc
def RepS (S:Nat→Prop) (w:World) (cs:List Value) (d:DataW Unit):Prop:=∃ n,repS S w n cs d
def RepSL (S:Nat→Prop) (w:World) (ba:Option Addr) (bd:List (DataW Unit)):Prop:=rowS S w (RepS S w) ba bd
theorem rowS.same {S S':Nat→Prop}{w w':World}{q q':List Value→DataW Unit→Prop}{ba:Option Addr}{bd:List (DataW Unit)}(h:rowS S w q ba bd) (K:Same S w w') (hS:∀ b,S b→b<w.heap.size→S' b) (hq:∀ cs d,q cs d→q' cs d):rowS S' w' q' ba bd:=by
 intro h0
 obtain ⟨b,o,e,hb,hx⟩:=h h0
 have hbl:b<w.heap.size:=by
  obtain ⟨c0,_,_,_,_,_,h1,_⟩:=hx 0 bd[0] (by simp)
  exact lt_of_cell h1
 refine ⟨b,o,e,hS b hb hbl,fun i x hi => ?_⟩
 obtain ⟨c0,c1,c2,c3,c4,c5,h0,h1,h2,h3,h4,h5,hr⟩:=hx i x hi
 exact ⟨c0,c1,c2,c3,c4,c5,K.cell hb h0,K.cell hb h1,K.cell hb h2,K.cell hb h3,K.cell hb h4,K.cell hb h5,hq _ _ hr⟩
theorem RepN.same {S S':Nat→Prop}{w w':World}{pa:Option Addr}{pl:List ByteArray}(h:RepN S w pa pl) (K:Same S w w') (hS:∀ b,S b→b<w.heap.size→S' b):RepN S' w' pa pl:=fun h0=>by
 obtain ⟨b,o,e,hb,ht⟩:=h h0
 exact ⟨b,o,e,hS b hb (lt_of_cell (ht 0 pl[0] (by simp))),ht.same K hb⟩
theorem repS_same {S S':Nat→Prop}{w w':World}(K:Same S w w') (hS:∀ b,S b→b<w.heap.size→S' b):∀ (n:Nat) (cs:List Value) (d:DataW Unit),repS S w n cs d→repS S' w' n cs d
 | 0,_,_,h=>h.elim
 | n+1,cs,d,h=>by
  obtain ⟨kd,nm,pl,el,bd,es,pa,la,ba,ea,pc,lc,bc,ec,hd,hcs,h1,h2,h3,h4⟩:=h
  exact ⟨kd,nm,pl,el,bd,es,pa,la,ba,ea,pc,lc,bc,ec,hd,hcs,h1.same K hS,h2.same K hS,h3.same K hS (repS_same K hS n),h4.1.same K hS (repS_same K hS n),h4.2⟩
theorem RepS.same {S S':Nat→Prop}{w w':World}{cs:List Value}{d:DataW Unit}(h:RepS S w cs d) (K:Same S w w') (hS:∀ b,S b→b<w.heap.size→S' b):RepS S' w' cs d:=by
 obtain ⟨n,hn⟩:=h
 exact ⟨n,repS_same K hS n _ _ hn⟩
theorem RepSL.same {S S':Nat→Prop}{w w':World}{ba:Option Addr}{bd:List (DataW Unit)}(h:RepSL S w ba bd) (K:Same S w w') (hS:∀ b,S b→b<w.heap.size→S' b):RepSL S' w' ba bd:=rowS.same h K hS (fun _ _ h=>h.same K hS)
theorem rowS.imp {S:Nat→Prop}{w:World}{q q':List Value→DataW Unit→Prop}{ba:Option Addr}{bd:List (DataW Unit)}(h:rowS S w q ba bd) (hq:∀ cs d,q cs d→q' cs d):rowS S w q' ba bd:=h.same (fun _ _ _=>rfl) (fun _ h _=>h) hq
theorem repS_more {S:Nat→Prop}{w:World} : ∀ (n m:Nat) (cs:List Value) (d:DataW Unit),n≤m→repS S w n cs d→repS S w m cs d
 | 0,_,_,_,_,h=>h.elim
 | n+1,0,_,_,hle,_=>by omega
 | n+1,m+1,cs,d,hle,h=>by
  obtain ⟨kd,nm,pl,el,bd,es,pa,la,ba,ea,pc,lc,bc,ec,hd,hcs,h1,h2,h3,h4⟩:=h
  exact ⟨kd,nm,pl,el,bd,es,pa,la,ba,ea,pc,lc,bc,ec,hd,hcs,h1,h2,h3.imp (fun cs d=>repS_more n m cs d (by omega)),h4.1.imp (fun cs d=>repS_more n m cs d (by omega)),h4.2⟩
theorem rowS.bound {S:Nat→Prop}{w:World}{ba:Option Addr}{bd:List (DataW Unit)}(h:RepSL S w ba bd):∃ n,rowS S w (repS S w n) ba bd:=by
 by_cases h0:0<bd.length
 ·obtain ⟨b,o,e,hb,hx⟩:=h h0
  obtain ⟨n,hn⟩:=Go.Deep.fuel_lt (n:=bd.length) (q:=fun i m => ∀ s,bd[i]?=some s → ∃ c0 c1 c2 c3 c4 c5,w.cell? ⟨b,o+i*6,none⟩=some c0∧w.cell? ⟨b,o+i*6+1,none⟩=some c1∧w.cell? ⟨b,o+i*6+2,none⟩=some c2∧w.cell? ⟨b,o+i*6+3,none⟩=some c3∧w.cell? ⟨b,o+i*6+4,none⟩=some c4∧w.cell? ⟨b,o+i*6+5,none⟩=some c5∧repS S w m [c0,c1,c2,c3,c4,c5] s)
   (fun i x y hxy h e he=>by
    obtain ⟨c0,c1,c2,c3,c4,c5,h0,h1,h2,h3,h4,h5,hr⟩:=h e he
    exact ⟨c0,c1,c2,c3,c4,c5,h0,h1,h2,h3,h4,h5,repS_more x y _ _ hxy hr⟩)
   (fun i hi=>by
    obtain ⟨c0,c1,c2,c3,c4,c5,h0,h1,h2,h3,h4,h5,n,hr⟩:=hx i bd[i] (by simp [hi])
    refine ⟨n,fun e he => ?_⟩
    have:bd[i]=e:=by simpa [hi] using he
    subst this
    exact ⟨c0,c1,c2,c3,c4,c5,h0,h1,h2,h3,h4,h5,hr⟩)
  exact ⟨n,fun _=>⟨b,o,e,hb,fun i x hi=>hn i (List.getElem?_eq_some_iff.1 hi).1 x hi⟩⟩
 ·exact ⟨0,fun h=>absurd h h0⟩
theorem mkRepS {S:Nat→Prop}{w:World}{kd nm:ByteArray}{pl:List ByteArray}{el bd es:List (DataW Unit)}{pa la ba ea:Option Addr}{pc lc bc ec:Nat}(h1:RepN S w pa pl) (h2:RepL S w la el) (h3:RepSL S w ba bd) (h4:RepSL S w ea es) (hc:el.length≤lc:=by first | (simp;done) | omega) :
  RepS S w [.string kd,.string nm,.slice pa pl.length pc,.slice la el.length lc,.slice ba bd.length bc,.slice ea es.length ec] (mkS kd nm pl el bd es):=by
 obtain ⟨n,hn⟩:=rowS.bound h3
 obtain ⟨m,hm⟩:=rowS.bound h4
 exact ⟨max n m+1,kd,nm,pl,el,bd,es,pa,la,ba,ea,pc,lc,bc,ec,rfl,rfl,h1,h2,hn.imp (fun cs d=>repS_more n (max n m) cs d (by omega)),hm.imp (fun cs d=>repS_more m (max n m) cs d (by omega)),hc⟩
theorem RepN.nil (S:Nat→Prop) (w:World) (pa:Option Addr):RepN S w pa []:=fun h=>absurd h (by simp)
theorem RepL.nil (S:Nat→Prop) (w:World) (la:Option Addr):RepL S w la []:=fun h=>absurd h (by simp)
theorem RepSL.nil (S:Nat→Prop) (w:World) (ba:Option Addr):RepSL S w ba []:=fun h=>absurd h (by simp)
theorem RepS.form {S:Nat→Prop}{w:World}{c0 c1 c2 c3 c4 c5:Value}{d:DataW Unit}(h:RepS S w [c0,c1,c2,c3,c4,c5] d):∃ (kd nm:ByteArray) (pa:Option Addr) (pn pc:Nat) (la:Option Addr) (ln lc:Nat) (ba:Option Addr) (bn bc:Nat) (ea:Option Addr) (en ec:Nat),c0 = .string kd∧c1 = .string nm∧c2 = .slice pa pn pc∧c3 = .slice la ln lc∧c4 = .slice ba bn bc∧c5 = .slice ea en ec:=by
 obtain ⟨n,hn⟩:=h
 cases n with
 | zero=>exact hn.elim
 | succ n =>
  obtain ⟨kd,nm,pl,el,bd,es,pa,la,ba,ea,pc,lc,bc,ec,_,hcs,_⟩:=hn
  simp only [List.cons.injEq,and_true] at hcs
  exact ⟨kd,nm,pa,pl.length,pc,la,el.length,lc,ba,bd.length,bc,ea,es.length,ec,hcs.1,hcs.2.1,hcs.2.2.1,hcs.2.2.2.1,hcs.2.2.2.2.1,hcs.2.2.2.2.2⟩

def PostSL (S:Nat→Prop) (p g cap:Nat) (rk:Value) (l:List (ByteArray × ByteArray × Nat)) (k bl dp:Nat) (a0 a1:Addr) (w:World) (o:Out (List (DataW Unit))) (ev:Ending) (w':World):Prop:=match o with
 | .ok (sl,k') => ∃ ba bc,ev = .returned (.slice ba sl.length bc)∧RepSL S w' ba sl∧RD w' p g cap rk l k' bl dp∧Keeps p w w'∧k≤k'∧k'<l.length
 | .error x=>faultAt l p a0 a1 w x ev w'
def ReadsSL (f:FuncId) (args:Array Value) (p g cap:Nat) (rk:Value) (l:List (ByteArray × ByteArray × Nat)) (k bl dp:Nat) (a0 a1:Addr) (o:Out (List (DataW Unit))):Prop:=
 ∀ w,RD w p g cap rk l k bl dp→TErr p a0 a1 w→RK p rk w→Calls Tryz.prog f args w fun ev w'=>PostSL (fun b=>w.heap.size≤b) p g cap rk l k bl dp a0 a1 w o ev w'
def PostS (S:Nat→Prop) (p g cap:Nat) (rk:Value) (l:List (ByteArray × ByteArray × Nat)) (k bl dp:Nat) (a0 a1:Addr) (w:World) (o:Out (DataW Unit)) (ev:Ending) (w':World):Prop:=match o with
 | .ok (s,k') => ∃ c0 c1 c2 c3 c4 c5,ev = .returned (.agg #[c0,c1,c2,c3,c4,c5])∧RepS S w' [c0,c1,c2,c3,c4,c5] s∧RD w' p g cap rk l k' bl dp∧Keeps p w w'∧k<k'∧k'<l.length
 | .error x=>faultAt l p a0 a1 w x ev w'
def ReadsS (f:FuncId) (args:Array Value) (p g cap:Nat) (rk:Value) (l:List (ByteArray × ByteArray × Nat)) (k bl dp:Nat) (a0 a1:Addr) (o:Out (DataW Unit)):Prop:=
 ∀ w,RD w p g cap rk l k bl dp→TErr p a0 a1 w→RK p rk w→Calls Tryz.prog f args w fun ev w'=>PostS (fun b=>w.heap.size≤b) p g cap rk l k bl dp a0 a1 w o ev w'
theorem PostS.parts {S:Nat→Prop}{p g cap:Nat}{rk:Value}{l:List (ByteArray × ByteArray × Nat)}{k bl dp:Nat}{a0 a1:Addr}{w:World}{o:Out (DataW Unit)}{ev:Ending}{w':World}(h:PostS S p g cap rk l k bl dp a0 a1 w o ev w') :
  (∃ s k' kd nm pa pn pc la ln lc ba bn bc ea en ec,o = .ok (s,k')∧ev = .returned (.agg #[.string kd,.string nm,.slice pa pn pc,.slice la ln lc,.slice ba bn bc,.slice ea en ec])∧RepS S w' [.string kd,.string nm,.slice pa pn pc,.slice la ln lc,.slice ba bn bc,.slice ea en ec] s∧RD w' p g cap rk l k' bl dp∧Keeps p w w'∧k<k'∧k'<l.length) ∨
  (∃ y b,o = .error y∧ev = .panicked [{ v:=.iface 61 (.pointer (some ⟨b,0,none⟩)),recovered:=false }]∧faultAt l p a0 a1 w y (.panicked [{ v:=.iface 61 (.pointer (some ⟨b,0,none⟩)),recovered:=false }]) w'):=by
 unfold PostS at h
 cases o with
 | error y =>
  obtain ⟨t,g1,b,rfl,g2⟩:=h
  exact .inr ⟨y,b,rfl,rfl,t,g1,b,rfl,g2⟩
 | ok y =>
  obtain ⟨e,k'⟩:=y
  obtain ⟨c0,c1,c2,c3,c4,c5,rfl,hrep,h1,h2,h3,h4⟩:=h
  obtain ⟨kd,nm,pa,pn,pc,la,ln,lc,ba,bn,bc,ea,en,ec,rfl,rfl,rfl,rfl,rfl,rfl⟩:=hrep.form
  exact .inl ⟨e,k',kd,nm,pa,pn,pc,la,ln,lc,ba,bn,bc,ea,en,ec,rfl,rfl,hrep,h1,h2,h3,h4⟩
theorem PostSL.parts {S:Nat→Prop}{p g cap:Nat}{rk:Value}{l:List (ByteArray × ByteArray × Nat)}{k bl dp:Nat}{a0 a1:Addr}{w:World}{o:Out (List (DataW Unit))}{ev:Ending}{w':World}(h:PostSL S p g cap rk l k bl dp a0 a1 w o ev w') :
  (∃ sl k' ba bc,o = .ok (sl,k')∧ev = .returned (.slice ba sl.length bc)∧RepSL S w' ba sl∧RD w' p g cap rk l k' bl dp∧Keeps p w w'∧k≤k'∧k'<l.length) ∨
  (∃ y b,o = .error y∧ev = .panicked [{ v:=.iface 61 (.pointer (some ⟨b,0,none⟩)),recovered:=false }]∧faultAt l p a0 a1 w y (.panicked [{ v:=.iface 61 (.pointer (some ⟨b,0,none⟩)),recovered:=false }]) w'):=by
 unfold PostSL at h
 cases o with
 | error y =>
  obtain ⟨t,g1,b,rfl,g2⟩:=h
  exact .inr ⟨y,b,rfl,rfl,t,g1,b,rfl,g2⟩
 | ok y =>
  obtain ⟨e,k'⟩:=y
  obtain ⟨ba,bc,h0⟩:=h
  exact .inl ⟨e,k',ba,bc,rfl,h0⟩
theorem PostL.parts {S:Nat→Prop}{p g cap:Nat}{rk:Value}{l:List (ByteArray × ByteArray × Nat)}{k bl dp:Nat}{a0 a1:Addr}{w:World}{o:Out (List (DataW Unit))}{ev:Ending}{w':World}(h:PostL S p g cap rk l k bl dp a0 a1 w o ev w') :
  (∃ el k' la lc,o = .ok (el,k')∧ev = .returned (.slice la el.length lc)∧RepL S w' la el∧RD w' p g cap rk l k' bl dp∧Keeps p w w'∧k<k'∧k'<l.length∧el.length≤lc) ∨
  (∃ y b,o = .error y∧ev = .panicked [{ v:=.iface 61 (.pointer (some ⟨b,0,none⟩)),recovered:=false }]∧faultAt l p a0 a1 w y (.panicked [{ v:=.iface 61 (.pointer (some ⟨b,0,none⟩)),recovered:=false }]) w'):=by
 unfold PostL at h
 cases o with
 | error y =>
  obtain ⟨t,g1,b,rfl,g2⟩:=h
  exact .inr ⟨y,b,rfl,rfl,t,g1,b,rfl,g2⟩
 | ok y =>
  obtain ⟨e,k'⟩:=y
  obtain ⟨la,lc,h0⟩:=h
  exact .inl ⟨e,k',la,lc,rfl,h0⟩
end Go.Proofs.YtemapnogjepokaaGreatDoor

/- Package tree: block, blockOf (written by tools/tree/block.py). -/
namespace Go.Proofs.YtemapnogjepokaaGreatDoor
open Go.RowKit

def isKind (l:List (ByteArray × ByteArray × Nat)) (k:Nat) (kd:List UInt8):Bool:=match l[k]? with
 | some x=>x.1.toList == kd
 | none=>false
theorem isKind_of {l:List (ByteArray × ByteArray × Nat)}{k:Nat}{x:ByteArray × ByteArray × Nat}(hx:l[k]?=some x) (kd:List UInt8):isKind l k kd=(x.1.toList == kd):=by
 unfold isKind
 rw [hx]
structure TokS (l:List (ByteArray × ByteArray × Nat)):Prop where
 ok:TokOK l
 fin:∀ (k:Nat) (x:ByteArray × ByteArray × Nat),l[k]?=some x→(x.1.toList == [101,110,100])=false→k+1<l.length
theorem TokS.next {l:List (ByteArray × ByteArray × Nat)}(T:TokS l) {k:Nat}{kd:List UInt8}(h:isKind l k kd=true) (hkd:(kd == [101,110,100])=false):k+1<l.length:=by
 unfold isKind at h
 split at h
 next x hx =>
  refine T.fin k x hx ?_
  have:x.1.toList=kd:=by simpa using h
  rw [this]
  exact hkd
 next=>cases h
def pBlock (l:List (ByteArray × ByteArray × Nat)) (bl:Nat) (inner:Nat→Out (List (DataW Unit))) (k:Nat):Out (List (DataW Unit)):=
 bif isKind l k [110,101,119,108,105,110,101] then (bif isKind l (k+1) [105,110,100,101,110,116] then (if bl=12 then .error (k+1,true) else match inner (k+2) with
  | .error x=>.error x
  | .ok (ss,k')=>bif isKind l k' [100,101,100,101,110,116] then .ok (ss,k'+1) else .error (k',false)) else .error (k+1,false)) else .error (k,false)
theorem rd_blocks {w:World}{p g cap:Nat}{rk:Value}{l:List (ByteArray × ByteArray × Nat)}{k bl dp:Nat}(R:RD w p g cap rk l k bl dp) {z:Int}{n:Nat}(hz:z=(n:Int)):RD (w.setCell ⟨p,3,none⟩ (.int .i64 z)) p g cap rk l k n dp:=by
 rw [hz]
 exact R.blocks n
theorem bytesNL:(⟨#[110,101,119,108,105,110,101]⟩:ByteArray).toList = [110,101,119,108,105,110,101]:=by kernel_rfl
theorem bytesIN:(⟨#[105,110,100,101,110,116]⟩:ByteArray).toList = [105,110,100,101,110,116]:=by kernel_rfl
theorem bytesDE:(⟨#[100,101,100,101,110,116]⟩:ByteArray).toList = [100,101,100,101,110,116]:=by kernel_rfl

set_option maxHeartbeats 4000000 in
set_option maxRecDepth 100000 in
theorem block_any {p g cap:Nat}{rk:Value}{l:List (ByteArray × ByteArray × Nat)}{k bl dp:Nat}{a0 a1:Addr}(T:TokS l) (hk:k<l.length) (hbl:bl≤12) (inner:Nat→Out (List (DataW Unit)))
  (h:∀ k',k<k'→k'<l.length→bl<12→ReadsSL 40 #[.pointer (some ⟨p,0,none⟩),.string ⟨#[100,101,100,101,110,116]⟩] p g cap rk l k' (bl+1) dp a0 a1 (inner k')):ReadsSL 114 #[.pointer (some ⟨p,0,none⟩)] p g cap rk l k bl dp a0 a1 (pBlock l bl inner k):=by
 intro w R E X
 have hl:=T.ok.hl
 obtain ⟨x,hx⟩:∃ x,l[k]?=some x:=⟨l[k],by simp [hk]⟩
 have hpl:=lt_of_heap R.blk
 unfold pBlock
 cases hn:isKind l k [110,101,119,108,105,110,101] with
 | false =>
  simp only [cond_false]
  have hn':=(isKind_of hx [110,101,119,108,105,110,101]).symm.trans hn
  have HC:=toHid (need_fail R E hx ⟨#[110,101,119,108,105,110,101]⟩ (by rw [bytesNL];exact hn'))
  clear R E X h
  go_enter Tryz.func114,Tryz.ntmps114
  go_wp2_with fail
  refine HC.out.mono ?_
  rintro ev w1 ⟨t,g1,b,rfl,g2⟩
  have HF:Hid (faultAt l p a0 a1 w (k,false) (.panicked [{ v:=.iface 61 (.pointer (some ⟨b,0,none⟩)),recovered:=false }]) w1):=⟨t,g1,b,rfl,g2⟩
  clear g1 g2 HC
  go_wp2_with fail
  exact ⟨rfl,HF.out⟩
 | true =>
  simp only [cond_true]
  have hn':=(isKind_of hx [110,101,119,108,105,110,101]).symm.trans hn
  have hk1:=T.next hn (by decide)
  obtain ⟨x1,hx1⟩:∃ x,l[k+1]?=some x:=⟨l[k+1],by simp [hk1]⟩
  have HC:=toHid (need_any R hx hl ⟨#[110,101,119,108,105,110,101]⟩ (by rw [bytesNL];exact hn'))
  have F0:=field0 (.string x1.1) (.string x1.2.1) (.int .i64 (x1.2.2:Int))
  have HE:=toHid E
  have HX:=toHid X
  clear R E X
  cases hi:isKind l (k+1) [105,110,100,101,110,116] with
  | false =>
   simp only [cond_false]
   have hi':=(isKind_of hx1 [105,110,100,101,110,116]).symm.trans hi
   clear h
   go_enter Tryz.func114,Tryz.ntmps114
   go_wp2_with fail
   refine HC.out.mono ?_
   rintro ev w1 ⟨rfl,R1,K1⟩
   clear HC
   go_wp2_with fail
   refine (tnext_any R1 hx1).mono ?_
   rintro ev w2 ⟨rfl,hb2⟩
   have R2:=R1.more hb2
   have hp1:=lt_of_heap R1.blk
   have K2:Keeps p w w2:=K1.trans (Keeps.of hb2 (by omega))
   have HC2:=toHid (need_fail R2 (HE.out.keeps K2) hx1 ⟨#[105,110,100,101,110,116]⟩ (by rw [bytesIN];exact hi'))
   have hq:=(R2.cells).2.2.2.1
   clear R1 R2 hb2 K1
   go_wp2_with fail
   refine HC2.out.mono ?_
   rintro ev w3 ⟨t,g1,b,rfl,g2⟩
   have HF:Hid (faultAt l p a0 a1 w (k+1,false) (.panicked [{ v:=.iface 61 (.pointer (some ⟨b,0,none⟩)),recovered:=false }]) w3):=faultAt.after K2.below ⟨t,g1,b,rfl,g2⟩
   clear g1 g2 HC2 K2
   go_wp2_with fail
   exact ⟨rfl,HF.out⟩
  | true =>
   simp only [cond_true]
   have hi':=(isKind_of hx1 [105,110,100,101,110,116]).symm.trans hi
   have hk2:=T.next hi (by decide)
   by_cases h12:bl=12
   ·subst h12
    rw [if_pos rfl]
    clear h
    have e12:((12:Nat):Int)=12:=rfl
    go_enter Tryz.func114,Tryz.ntmps114
    go_wp2_with fail
    refine HC.out.mono ?_
    rintro ev w1 ⟨rfl,R1,K1⟩
    clear HC
    go_wp2_with fail
    refine (tnext_any R1 hx1).mono ?_
    rintro ev w2 ⟨rfl,hb2⟩
    have R2:=R1.more hb2
    have hp1:=lt_of_heap R1.blk
    have K2:Keeps p w w2:=K1.trans (Keeps.of hb2 (by omega))
    have hq:=(R2.cells).2.2.2.1
    rw [e12] at hq
    have E2:=HE.out.keeps K2
    have hg1:=E2.g1
    have hgl:=lt_of_cell E2.g1
    have HC2:=toHid (tthrow_any R2 hx1 a1)
    clear R1 R2 hb2 K1 E2
    go_wp2_with fail
    refine HC2.out.mono ?_
    rintro ev w3 ⟨b,rfl,hbw,d0,d1⟩
    have HF:Hid (faultAt l p a0 a1 w (k+1,true) (.panicked [{ v:=.iface 61 (.pointer (some ⟨b,0,none⟩)),recovered:=false }]) w3):=⟨x1,hx1,b,rfl,K2.below.trans hbw,d0,d1⟩
    clear hbw d0 d1 HC2 K2
    go_wp2_with fail
    exact ⟨rfl,HF.out⟩
   ·rw [if_neg h12]
    have hb12:((bl:Int) == 12)=false:=by simp;omega
    have hbn:¬ (bl:Int)=12:=by omega
    have hb0:(0:Int)≤(bl:Int):=by omega
    have hb1:(bl:Int)≤12:=by omega
    have HH:=toHid (h (k+2) (by omega) hk2 (by omega))
    clear h
    obtain ⟨o,ho⟩:∃ o,inner (k+2)=o:=⟨_,rfl⟩
    rw [ho] at HH ⊢
    clear ho
    go_enter Tryz.func114,Tryz.ntmps114
    go_wp2_with fail
    refine HC.out.mono ?_
    rintro ev w1 ⟨rfl,R1,K1⟩
    clear HC
    go_wp2_with fail
    refine (tnext_any R1 hx1).mono ?_
    rintro ev w2 ⟨rfl,hb2⟩
    have R2:=R1.more hb2
    have hp1:=lt_of_heap R1.blk
    have K2:Keeps p w w2:=K1.trans (Keeps.of hb2 (by omega))
    have hq:=(R2.cells).2.2.2.1
    have HC2:=toHid (need_any R2 hx1 hl ⟨#[105,110,100,101,110,116]⟩ (by rw [bytesIN];exact hi'))
    have HK2:=toHid K2
    clear R1 R2 hb2 K1 K2
    go_wp2_with fail
    refine HC2.out.mono ?_
    rintro ev w3 ⟨rfl,R3,K3⟩
    have hq3:=(R3.cells).2.2.2.1
    have hf3:=R3.open_ 3
    have hl3:=lt_of_heap R3.blk
    have R4:RD (w3.setCell ⟨p,3,none⟩ (.int .i64 ((bl:Int)+1))) p g cap rk l (k+1+1) (bl+1) dp:=rd_blocks R3 (by omega)
    have K4:Keeps p w (w3.setCell ⟨p,3,none⟩ (.int .i64 ((bl:Int)+1))):=(HK2.out.trans K3).set
    have HC4:=toHid (HH.out _ R4 (HE.out.keeps K4) (HX.out.keeps K4))
    have HK4:=toHid K4
    clear R3 R4 K3 K4 HC2
    go_wp2_with fail
    refine HC4.out.mono ?_
    intro ev w5 hP
    rcases hP.parts with ⟨ss,k5,ba,bc,rfl,rfl,hrep5,R5,K5,hk5,hk5l⟩ | ⟨y,b,rfl,rfl,hf⟩
    rotate_left
    ·have HF:=toHid (faultAt.after HK4.out.below hf)
     clear hP HC4 hf
     go_wp2_with fail
     exact ⟨rfl,HF.out⟩
    have hq5:=(R5.cells).2.2.2.1
    have hf5:=R5.open_ 3
    have hl5:=lt_of_heap R5.blk
    have hsz:(w3.setCell ⟨p,3,none⟩ (.int .i64 ((bl:Int)+1))).heap.size=w3.heap.size:=size_set _ _ _
    have hs4:=HK4.out.below.size
    rw [hsz] at hs4
    have R6:RD (w5.setCell ⟨p,3,none⟩ (.int .i64 (bl:Int))) p g cap rk l k5 bl dp:=rd_blocks R5 (by omega)
    have K6:Keeps p w (w5.setCell ⟨p,3,none⟩ (.int .i64 (bl:Int))):=(HK4.out.trans K5).set
    have hr6:RepSL (fun b=>w.heap.size≤b) (w5.setCell ⟨p,3,none⟩ (.int .i64 (bl:Int))) ba ss:=hrep5.same (same_set (by show ¬ (_≤p);rw [hsz];omega)) (fun b hb _=>by rw [hsz] at hb;omega)
    obtain ⟨x5,hx5⟩:∃ x,l[k5]?=some x:=⟨l[k5],by simp [hk5l]⟩
    have HR6:=toHid R6
    have HK6:=toHid K6
    have HRP:=toHid hr6
    have hbn0:(0:Int)≤((bl+1:Nat):Int):=by omega
    have hbn1:((bl+1:Nat):Int)≤13:=by omega
    clear hP HC4 hrep5 R5 K5 R6 K6 hr6
    cases hd:isKind l k5 [100,101,100,101,110,116] with
    | false =>
     have hd':=(isKind_of hx5 [100,101,100,101,110,116]).symm.trans hd
     have HC6:=toHid (need_fail HR6.out (HE.out.keeps HK6.out) hx5 ⟨#[100,101,100,101,110,116]⟩ (by rw [bytesDE];exact hd'))
     go_wp2_with fail
     refine HC6.out.mono ?_
     rintro ev w7 ⟨t,g1,b,rfl,g2⟩
     have HF:Hid (PostSL (fun b=>w.heap.size≤b) p g cap rk l k bl dp a0 a1 w (.error (k5,false)) (.panicked [{ v:=.iface 61 (.pointer (some ⟨b,0,none⟩)),recovered:=false }]) w7):=by
      exact faultAt.after HK6.out.below ⟨t,g1,b,rfl,g2⟩
     clear g1 g2 HC6
     go_wp2_with fail
     exact ⟨rfl,HF.out⟩
    | true =>
     have hd':=(isKind_of hx5 [100,101,100,101,110,116]).symm.trans hd
     have hk6:=T.next hd (by decide)
     have HC6:=toHid (need_any HR6.out hx5 hl ⟨#[100,101,100,101,110,116]⟩ (by rw [bytesDE];exact hd'))
     go_wp2_with fail
     refine HC6.out.mono ?_
     rintro ev w7 ⟨rfl,R7,K7⟩
     have HF:Hid (PostSL (fun b=>w.heap.size≤b) p g cap rk l k bl dp a0 a1 w (.ok (ss,k5+1)) (.returned (.slice ba ss.length bc)) w7):=by
      exact ⟨ba,bc,rfl,HRP.out.same (K7.same (by show ¬ (_≤p);omega)) (fun b hb _=>hb),R7,HK6.out.trans K7,by omega,hk6⟩
     clear R7 K7 HC6
     go_wp2_with fail
     go_ret
     exact HF.out

def pBlockOf (l:List (ByteArray × ByteArray × Nat)) (bl:Nat) (inner:Nat→Out (List (DataW Unit))) (k:Nat):Out (List (DataW Unit)):=bif markAt l k [colon] then pBlock l bl inner (k+1) else .error (k,false)
set_option maxHeartbeats 4000000 in
set_option maxRecDepth 100000 in
theorem blockOf_any {p g cap:Nat}{rk:Value}{l:List (ByteArray × ByteArray × Nat)}{k bl dp:Nat}{a0 a1:Addr}(T:TokS l) (hk:k<l.length) (hbl:bl≤12) (inner:Nat→Out (List (DataW Unit)))
  (h:∀ k',k<k'→k'<l.length→bl<12→ReadsSL 40 #[.pointer (some ⟨p,0,none⟩),.string ⟨#[100,101,100,101,110,116]⟩] p g cap rk l k' (bl+1) dp a0 a1 (inner k')):ReadsSL 79 #[.pointer (some ⟨p,0,none⟩)] p g cap rk l k bl dp a0 a1 (pBlockOf l bl inner k):=by
 intro w R E X
 have hl:=T.ok.hl
 obtain ⟨x,hx⟩:∃ x,l[k]?=some x:=⟨l[k],by simp [hk]⟩
 unfold pBlockOf
 rw [markAt_of hx]
 have HC:=toHid (needMark_any R E hx hl colon)
 have HE:=toHid E
 have HX:=toHid X
 cases hm:markB x [colon] with
 | false =>
  rw [hm] at HC
  clear R E X h
  go_enter Tryz.func79,Tryz.ntmps79
  go_wp2_with fail
  refine HC.out.mono ?_
  intro ev w1 hT
  have hT':faultAt l p a0 a1 w (k,false) ev w1:=by simpa using hT
  obtain ⟨t,g1,b,rfl,g2⟩:=hT'
  have HF:Hid (faultAt l p a0 a1 w (k,false) (.panicked [{ v:=.iface 61 (.pointer (some ⟨b,0,none⟩)),recovered:=false }]) w1):=⟨t,g1,b,rfl,g2⟩
  clear g1 g2 HC hT
  go_wp2_with fail
  exact ⟨rfl,HF.out⟩
 | true =>
  rw [hm] at HC
  have hk1:=T.ok.hen.next hx hm
  have HB:=toHid (block_any T hk1 hbl inner (fun k' h1 h2 h3=>h k' (by omega) h2 h3))
  simp only [cond_true]
  obtain ⟨o,ho⟩:∃ o,pBlock l bl inner (k+1)=o:=⟨_,rfl⟩
  rw [ho] at HB ⊢
  clear R E X h ho
  go_enter Tryz.func79,Tryz.ntmps79
  go_wp2_with fail
  refine HC.out.mono ?_
  intro ev w1 hT
  have hT':ev = .returned (.tuple #[])∧RD w1 p g cap rk l (k+1) bl dp∧Keeps p w w1:=by simpa using hT
  obtain ⟨rfl,R1,K1⟩:=hT'
  have HB1:=toHid (HB.out w1 R1 (HE.out.keeps K1) (HX.out.keeps K1))
  have hs1:=K1.below.size
  clear hT HC R1
  go_wp2_with fail
  refine HB1.out.mono ?_
  intro ev w2 hP
  rcases hP.parts with ⟨ss,k5,ba,bc,rfl,rfl,hrep5,R5,K5,hk5,hk5l⟩ | ⟨y,b,rfl,rfl,hf⟩
  rotate_left
  ·have HF:=toHid (faultAt.after K1.below hf)
   clear hP HB1 hf HB
   go_wp2_with fail
   exact ⟨rfl,HF.out⟩
  have HF:Hid (PostSL (fun b=>w.heap.size≤b) p g cap rk l k bl dp a0 a1 w (.ok (ss,k5)) (.returned (.slice ba ss.length bc)) w2):=⟨ba,bc,rfl,hrep5.same (fun _ _ _=>rfl) (fun b hb _=>by omega),R5,K1.trans K5,by omega,hk5l⟩
  clear hP HB1 hrep5 R5 K5 HB K1
  go_wp2_with fail
  go_ret
  exact HF.out
end Go.Proofs.YtemapnogjepokaaGreatDoor
