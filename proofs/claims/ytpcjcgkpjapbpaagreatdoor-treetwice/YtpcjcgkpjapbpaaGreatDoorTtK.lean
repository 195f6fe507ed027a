/- Package tree: pairs; lists of terms. -/
import Derived.Test.YtpcjcgkpjapbpaaGreatDoorTreeS
import Derived.Test.YtpcjcgkpjapbpaaGreatDoorTtJ
set_option linter.all false
namespace Go.Proofs.YtpcjcgkpjapbpaaGreatDoor
open Go.RowKit

theorem PostL.wide {S S':Nat→Prop}{p g cap:Nat}{rk:Value}{l:List (ByteArray × ByteArray × Nat)}{k bl dp:Nat}{a0 a1:Addr}{w:World}{o:Out (List (DataW Unit))}{ev:Ending}{w':World} (h:PostL S p g cap rk l k bl dp a0 a1 w o ev w') (hS:∀ b,S b→S' b):PostL S' p g cap rk l k bl dp a0 a1 w o ev w':=by
 unfold PostL at h ⊢
 cases o with
 | error y=>exact h
 | ok y =>
  obtain ⟨la,lc,h1,h2,h3⟩:=h
  exact ⟨la,lc,h1,h2.same (fun _ _ _=>rfl) (fun b hb _=>hS b hb),h3⟩
theorem termsL_any {p g cap:Nat}{rk:Value}{l:List (ByteArray × ByteArray × Nat)}{k bl dp:Nat}{a0 a1:Addr} (closing:ByteArray) (hl:l.length≤100000) (hen:Ended l) (hk:k<l.length) (term:Nat→Out (DataW Unit))
  (hterm:∀ k',k≤k'→k'<l.length→ReadsE 72 #[.pointer (some ⟨p,0,none⟩)] p g cap rk l k' bl dp a0 a1 (term k')):ReadsL 124 #[.pointer (some ⟨p,0,none⟩),.string closing,.slice none 0 0] p g cap rk l k bl dp a0 a1 (pUpTo l (pTermStep term) closing l.length [] k):=by
 intro w R E X
 exact (terms_any (S0:=fun _=>False) closing hl hen hk term hterm w w (.slice none 0 0) [] [] R (Keeps.refl _ _) E X (lt_of_heap R.blk) R.gl (World.ownsRow_nil _ _ _ _) (CellsE.nil _ _) (fun b h=>h.elim) (by simp)).mono (fun ev w' h=>h.wide (fun b hb=>hb.resolve_left id))

set_option maxHeartbeats 2000000 in
set_option maxRecDepth 100000 in
theorem pairs_any {p g cap:Nat}{rk:Value}{l:List (ByteArray × ByteArray × Nat)}{k bl dp:Nat}{a0 a1:Addr} (hl:l.length≤100000) (hen:Ended l) (hk:k<l.length) (term:Nat→Out (DataW Unit))
  (hterm:∀ k',k≤k'→k'<l.length→ReadsE 72 #[.pointer (some ⟨p,0,none⟩)] p g cap rk l k' bl dp a0 a1 (term k')):ReadsL 143 #[.pointer (some ⟨p,0,none⟩)] p g cap rk l k bl dp a0 a1 (pUpTo l (pPairStep l term) rbrc l.length [] k):=by
 intro w R E X
 have hb:=tStart_below w p (.slice none 0 0)
 have hpl:=lt_of_heap R.blk
 have HU:=toHid (upTo_any 152 #[.pointer (some ⟨w.heap.size+1,0,none⟩),.pointer (some ⟨w.heap.size,0,none⟩)] (fun _ _=>rfl) (fun s k w'=>TermC (fun _=>False) p g (w.heap.size+1) w.heap.size rk a0 a1 w s w'∧s.length≤k+1) (fun s k k' w1 w2 h1 h2 h3=>⟨h2.1.keeps h3,by have:=h2.2;omega⟩) (pPairStep l term) k (fun s k' hk1 hk2=>pairsStep_any _ _ _ hl term s k' hk2 (closed_any colon hl hen (hterm k' hk1 hk2)) (fun k2 h1 h2=>hterm k2 (by omega) h2)) hl hen rbrc [] k l.length (Nat.le_refl _) hk (by omega) (tStart w p (.slice none 0 0)) (R.more hb) ⟨tStart_C (cs:=[]) (Keeps.refl _ _) E X hpl R.gl (World.ownsRow_nil _ _ _ _) (CellsE.nil _ _) (fun b h=>h.elim),by simp⟩ (E.below (hb.mono (by omega))))
 have hbp:Below p w (tStart w p (.slice none 0 0)):=hb.mono (by omega)
 obtain ⟨o,ho⟩:∃ o,pUpTo l (pPairStep l term) rbrc l.length [] k=o:=⟨_,rfl⟩
 rw [ho] at HU ⊢
 clear R E X hterm ho
 go_enter Tryz.func143,Tryz.ntmps143
 go_wp2_with fail
 refine HU.out.mono ?_
 intro ev w1 hP
 cases o with
 | error y =>
  obtain ⟨t,g1,b,rfl,g2⟩:=hP
  have HF:Hid (faultAt l p a0 a1 w y (.panicked [{ v:=.iface 58 (.pointer (some ⟨b,0,none⟩)),recovered:=false }]) w1):=faultAt.after hbp ⟨t,g1,b,rfl,g2⟩
  clear g1 g2 HU hbp
  go_wp2_with fail
  exact ⟨rfl,HF.out⟩
 | ok y =>
  obtain ⟨es1,k1⟩:=y
  obtain ⟨rfl,R1,⟨C1,_⟩,hb1,hk1,hk1l⟩:=hP
  obtain ⟨v1,cs1,hV,hO,hCE,hn1,hn2⟩:=C1.l
  have c0:w1.cell? ⟨w.heap.size+1,0,none⟩=some v1:=by rw [cell_of_row _ _ 0 _ _ _ hV];rfl
  have l0:=lt_of_cell c0
  obtain ⟨la,lc,rfl⟩:∃ la lc,v1 = .slice la es1.length lc:=by
   rcases hO.2 with ⟨e,h0⟩ | ⟨g',c',cur,e,_⟩
   ·exact ⟨none,0,by rw [h0];exact e⟩
   ·exact ⟨_,_,e⟩
  have HF:Hid (RepL (fun b=>w.heap.size≤b) w1 la es1∧RD w1 p g cap rk l k1 bl dp∧Keeps p w w1):=⟨repL_row hO hCE (fun b h=>(h.resolve_left id).1) (fun b h=>h),R1,hbp.trans hb1,C1.old.block⟩
  have hcap:=own_cap hO
  clear R1 C1 hO hCE hV hb1 HU hbp
  go_wp2_with fail
  go_ret
  exact ⟨_,_,rfl,HF.out.1,HF.out.2.1,HF.out.2.2,hk1,hk1l,hcap⟩
end Go.Proofs.YtpcjcgkpjapbpaaGreatDoor
namespace Go.Proofs.YtpcjcgkpjapbpaaGreatDoor
open Go.RowKit

theorem rank_start {p g cap:Nat}{rk:Value}{l:List (ByteArray × ByteArray × Nat)}{k bl dp:Nat}{w:World} (n:Nat) (zn:Int) (hzn:zn=(n:Int)) (R:RD w p g cap rk l k bl dp):RD (((w.alloc (.cells #[.pointer (some ⟨p,0,none⟩)] 77)).alloc (.cells #[.int .i64 zn] 3)).alloc (.cells #[.string ⟨#[]⟩,.int .i64 0,.string ⟨#[]⟩,.slice none 0 0,.slice none 0 0] 71)) p g cap rk l k bl dp∧Keeps p w (((w.alloc (.cells #[.pointer (some ⟨p,0,none⟩)] 77)).alloc (.cells #[.int .i64 zn] 3)).alloc (.cells #[.string ⟨#[]⟩,.int .i64 0,.string ⟨#[]⟩,.slice none 0 0,.slice none 0 0] 71))∧Capt p w.heap.size (w.heap.size+1) n (((w.alloc (.cells #[.pointer (some ⟨p,0,none⟩)] 77)).alloc (.cells #[.int .i64 zn] 3)).alloc (.cells #[.string ⟨#[]⟩,.int .i64 0,.string ⟨#[]⟩,.slice none 0 0,.slice none 0 0] 71))∧(((w.alloc (.cells #[.pointer (some ⟨p,0,none⟩)] 77)).alloc (.cells #[.int .i64 zn] 3)).alloc (.cells #[.string ⟨#[]⟩,.int .i64 0,.string ⟨#[]⟩,.slice none 0 0,.slice none 0 0] 71)).heap[w.heap.size+2]?=some (.cells #[.string ⟨#[]⟩,.int .i64 0,.string ⟨#[]⟩,.slice none 0 0,.slice none 0 0] 71)∧(((w.alloc (.cells #[.pointer (some ⟨p,0,none⟩)] 77)).alloc (.cells #[.int .i64 zn] 3)).alloc (.cells #[.string ⟨#[]⟩,.int .i64 0,.string ⟨#[]⟩,.slice none 0 0,.slice none 0 0] 71)).heap.size=w.heap.size+3:=by
 have hpl:=lt_of_heap R.blk
 have hb0:Below w.heap.size w (((w.alloc (.cells #[.pointer (some ⟨p,0,none⟩)] 77)).alloc (.cells #[.int .i64 zn] 3)).alloc (.cells #[.string ⟨#[]⟩,.int .i64 0,.string ⟨#[]⟩,.slice none 0 0,.slice none 0 0] 71)):=(((Below.refl _ _).alloc (Nat.le_refl _) _).alloc (by simp) _).alloc (by simp;omega) _
 have hB0:(((w.alloc (.cells #[.pointer (some ⟨p,0,none⟩)] 77)).alloc (.cells #[.int .i64 zn] 3)).alloc (.cells #[.string ⟨#[]⟩,.int .i64 0,.string ⟨#[]⟩,.slice none 0 0,.slice none 0 0] 71)).heap[w.heap.size+2]?=some (.cells #[.string ⟨#[]⟩,.int .i64 0,.string ⟨#[]⟩,.slice none 0 0,.slice none 0 0] 71):=by
  have:=heap_alloc_new ((w.alloc (.cells #[.pointer (some ⟨p,0,none⟩)] 77)).alloc (.cells #[.int .i64 zn] 3)) (.cells #[.string ⟨#[]⟩,.int .i64 0,.string ⟨#[]⟩,.slice none 0 0,.slice none 0 0] 71)
  simpa using this
 have hK0:(((w.alloc (.cells #[.pointer (some ⟨p,0,none⟩)] 77)).alloc (.cells #[.int .i64 zn] 3)).alloc (.cells #[.string ⟨#[]⟩,.int .i64 0,.string ⟨#[]⟩,.slice none 0 0,.slice none 0 0] 71)).heap[w.heap.size+1]?=some (.cells #[.int .i64 zn] 3):=by
  have:=heap_alloc_new (w.alloc (.cells #[.pointer (some ⟨p,0,none⟩)] 77)) (.cells #[.int .i64 zn] 3)
  refine (Below.heap_alloc _ _ _ (by simp)).trans ?_
  simpa using this
 have hR0:(((w.alloc (.cells #[.pointer (some ⟨p,0,none⟩)] 77)).alloc (.cells #[.int .i64 zn] 3)).alloc (.cells #[.string ⟨#[]⟩,.int .i64 0,.string ⟨#[]⟩,.slice none 0 0,.slice none 0 0] 71)).heap[w.heap.size]?=some (.cells #[.pointer (some ⟨p,0,none⟩)] 77):=(Below.heap_alloc _ _ _ (by simp;omega)).trans ((Below.heap_alloc _ _ _ (by simp)).trans (heap_alloc_new w _))
 exact ⟨R.more hb0,Keeps.of hb0 (by omega),by rw [Capt];refine ⟨?_,?_,?_,?_⟩ <;> first | omega | (rw [cell_of_row _ _ 0 _ _ _ hR0];rfl) | (rw [cell_of_row _ _ 0 _ _ _ hK0,hzn];rfl),hB0,by simp⟩
theorem rank_done {p g cap:Nat}{rk:Value}{l:List (ByteArray × ByteArray × Nat)}{k3 bl dp:Nat}{w wx w4:World}{e:DataW Unit}{op:ByteArray}{z:Int}{sx:ByteArray}{pa:Option Addr}{pn pc:Nat}{la:Option Addr}{ln lc:Nat} (hpl:p<w.heap.size) (hgl:g<w.heap.size) (hs:wx.heap.size=w.heap.size+3) (K0:Keeps p w wx) (hB:wx.heap[w.heap.size+2]?=some (.cells #[.string ⟨#[]⟩,.int .i64 0,.string ⟨#[]⟩,.slice none 0 0,.slice none 0 0] 71)) (K4:Keeps p wx w4) (R4:RD w4 p g cap rk l k3 bl dp) (hrep:RepE (fun b=>wx.heap.size≤b) w4 [.string op,.int .i64 z,.string sx,.slice pa pn pc,.slice la ln lc] e) :
  (set5 w4 (w.heap.size+2) (.string op) (.int .i64 z) (.string sx) (.slice pa pn pc) (.slice la ln lc)).heap[w.heap.size+2]?=some (.cells #[.string op,.int .i64 z,.string sx,.slice pa pn pc,.slice la ln lc] 71)∧RepE (fun b=>w.heap.size≤b) (set5 w4 (w.heap.size+2) (.string op) (.int .i64 z) (.string sx) (.slice pa pn pc) (.slice la ln lc)) [.string op,.int .i64 z,.string sx,.slice pa pn pc,.slice la ln lc] e∧RD (set5 w4 (w.heap.size+2) (.string op) (.int .i64 z) (.string sx) (.slice pa pn pc) (.slice la ln lc)) p g cap rk l k3 bl dp∧Keeps p w (set5 w4 (w.heap.size+2) (.string op) (.int .i64 z) (.string sx) (.slice pa pn pc) (.slice la ln lc)):=by
 obtain ⟨f1,f2,f3,f4⟩:=laid5 hrep R4 (K0.trans K4) ((K4.block _ (by omega) (by omega)).trans hB) (fun h=>by omega) (by omega) (by omega) (by omega) (.string op) (.int .i64 z) (.string sx) (.slice pa pn pc) (.slice la ln lc)
 exact ⟨f4,f1.same (fun _ _ _=>rfl) (fun b h _=>by omega),f2,f3⟩

set_option maxHeartbeats 2000000 in
set_option maxRecDepth 100000 in
theorem ranked0 {p g cap:Nat}{rk:Value}{l:List (ByteArray × ByteArray × Nat)}{k bl dp:Nat}{a0 a1:Addr}{o:Out (DataW Unit)} (h:∀ (w w':World),Capt p w.heap.size (w.heap.size+1) 0 w'→RD w' p g cap rk l k bl dp→TErr p a0 a1 w'→RK p rk w'→Calls Tryz.prog 105 #[.pointer (some ⟨p,0,none⟩),.string kLambda,.int .i64 0,.func (.func 106) #[.pointer (some ⟨p,0,none⟩)] #[]] w' fun ev w''=>PostE (fun b=>w'.heap.size≤b) p g cap rk l k bl dp a0 a1 w' o ev w'') :
  ReadsE 93 #[.pointer (some ⟨p,0,none⟩),.int .i64 0] p g cap rk l k bl dp a0 a1 o:=by
 intro w R E X
 have hpl:=lt_of_heap R.blk
 have hgl:=R.gl
 obtain ⟨R0,K0,C0,hB0,hs0⟩:=rank_start 0 0 rfl R
 have HC:=toHid (h w _ C0 R0 (E.keeps K0) (X.keeps K0))
 have HK0:=toHid K0
 have HB0:=toHid hB0
 clear h R E X R0 K0 C0 hB0
 go_enter Tryz.func93,Tryz.ntmps93
 go_wp2_with fail
 refine HC.out.mono ?_
 intro ev w4 hP
 rcases hP.parts with ⟨e5,k5,op5,z5,sx5,pa5,pn5,pc5,la5,ln5,lc5,q5,rfl,hrep5,R5,K5,hk5,hk5l⟩ | ⟨y,b,q5,rfl,hf⟩
 rotate_left
 ·have HF:Hid (faultAt l p a0 a1 w y (.panicked [{ v:=.iface 58 (.pointer (some ⟨b,0,none⟩)),recovered:=false }]) w4):=faultAt.after HK0.out.below hf
  subst q5
  clear hP HC hf
  go_wp2_with fail
  exact ⟨rfl,HF.out⟩
 subst q5
 obtain ⟨u0,u1,u2,u3,u4,uf⟩:=expr_block ((K5.block _ (by omega) (by omega)).trans HB0.out)
 have uf0:=uf 0
 have uf1:=uf 1
 have uf2:=uf 2
 have uf3:=uf 3
 have uf4:=uf 4
 have ul:=lt_of_cell u0
 have HZ:=toHid (rank_done hpl hgl hs0 HK0.out HB0.out K5 R5 hrep5)
 clear hP HC hrep5 R5 K5 uf
 go_wp2_with fail
 obtain ⟨z1,z2,z3,z4⟩:=HZ.out
 refine bodyPost_ret (results_expr _ 4 rfl _ _ (w.heap.size+2) _ _ _ _ _ rfl z1) rfl ?_
 exact ⟨_,_,_,_,_,rfl,z2,z3,z4,hk5,hk5l⟩

set_option maxHeartbeats 2000000 in
set_option maxRecDepth 100000 in
theorem ranked1 {p g cap:Nat}{rk:Value}{l:List (ByteArray × ByteArray × Nat)}{k bl dp:Nat}{a0 a1:Addr}{o:Out (DataW Unit)} (h:∀ (w w':World),Capt p w.heap.size (w.heap.size+1) 1 w'→RD w' p g cap rk l k bl dp→TErr p a0 a1 w'→RK p rk w'→Calls Tryz.prog 110 #[.pointer (some ⟨p,0,none⟩),.int .i64 1] w' fun ev w''=>PostE (fun b=>w'.heap.size≤b) p g cap rk l k bl dp a0 a1 w' o ev w'') :
  ReadsE 93 #[.pointer (some ⟨p,0,none⟩),.int .i64 1] p g cap rk l k bl dp a0 a1 o:=by
 intro w R E X
 have hpl:=lt_of_heap R.blk
 have hgl:=R.gl
 obtain ⟨R0,K0,C0,hB0,hs0⟩:=rank_start 1 1 rfl R
 have HC:=toHid (h w _ C0 R0 (E.keeps K0) (X.keeps K0))
 have HK0:=toHid K0
 have HB0:=toHid hB0
 clear h R E X R0 K0 C0 hB0
 go_enter Tryz.func93,Tryz.ntmps93
 go_wp2_with fail
 refine HC.out.mono ?_
 intro ev w4 hP
 rcases hP.parts with ⟨e5,k5,op5,z5,sx5,pa5,pn5,pc5,la5,ln5,lc5,q5,rfl,hrep5,R5,K5,hk5,hk5l⟩ | ⟨y,b,q5,rfl,hf⟩
 rotate_left
 ·have HF:Hid (faultAt l p a0 a1 w y (.panicked [{ v:=.iface 58 (.pointer (some ⟨b,0,none⟩)),recovered:=false }]) w4):=faultAt.after HK0.out.below hf
  subst q5
  clear hP HC hf
  go_wp2_with fail
  exact ⟨rfl,HF.out⟩
 subst q5
 obtain ⟨u0,u1,u2,u3,u4,uf⟩:=expr_block ((K5.block _ (by omega) (by omega)).trans HB0.out)
 have uf0:=uf 0
 have uf1:=uf 1
 have uf2:=uf 2
 have uf3:=uf 3
 have uf4:=uf 4
 have ul:=lt_of_cell u0
 have HZ:=toHid (rank_done hpl hgl hs0 HK0.out HB0.out K5 R5 hrep5)
 clear hP HC hrep5 R5 K5 uf
 go_wp2_with fail
 obtain ⟨z1,z2,z3,z4⟩:=HZ.out
 refine bodyPost_ret (results_expr _ 4 rfl _ _ (w.heap.size+2) _ _ _ _ _ rfl z1) rfl ?_
 exact ⟨_,_,_,_,_,rfl,z2,z3,z4,hk5,hk5l⟩

set_option maxHeartbeats 2000000 in
set_option maxRecDepth 100000 in
theorem ranked2 {p g cap:Nat}{rk:Value}{l:List (ByteArray × ByteArray × Nat)}{k bl dp:Nat}{a0 a1:Addr}{o:Out (DataW Unit)} (h:∀ (w w':World),Capt p w.heap.size (w.heap.size+1) 2 w'→RD w' p g cap rk l k bl dp→TErr p a0 a1 w'→RK p rk w'→Calls Tryz.prog 110 #[.pointer (some ⟨p,0,none⟩),.int .i64 2] w' fun ev w''=>PostE (fun b=>w'.heap.size≤b) p g cap rk l k bl dp a0 a1 w' o ev w'') :
  ReadsE 93 #[.pointer (some ⟨p,0,none⟩),.int .i64 2] p g cap rk l k bl dp a0 a1 o:=by
 intro w R E X
 have hpl:=lt_of_heap R.blk
 have hgl:=R.gl
 obtain ⟨R0,K0,C0,hB0,hs0⟩:=rank_start 2 2 rfl R
 have HC:=toHid (h w _ C0 R0 (E.keeps K0) (X.keeps K0))
 have HK0:=toHid K0
 have HB0:=toHid hB0
 clear h R E X R0 K0 C0 hB0
 go_enter Tryz.func93,Tryz.ntmps93
 go_wp2_with fail
 refine HC.out.mono ?_
 intro ev w4 hP
 rcases hP.parts with ⟨e5,k5,op5,z5,sx5,pa5,pn5,pc5,la5,ln5,lc5,q5,rfl,hrep5,R5,K5,hk5,hk5l⟩ | ⟨y,b,q5,rfl,hf⟩
 rotate_left
 ·have HF:Hid (faultAt l p a0 a1 w y (.panicked [{ v:=.iface 58 (.pointer (some ⟨b,0,none⟩)),recovered:=false }]) w4):=faultAt.after HK0.out.below hf
  subst q5
  clear hP HC hf
  go_wp2_with fail
  exact ⟨rfl,HF.out⟩
 subst q5
 obtain ⟨u0,u1,u2,u3,u4,uf⟩:=expr_block ((K5.block _ (by omega) (by omega)).trans HB0.out)
 have uf0:=uf 0
 have uf1:=uf 1
 have uf2:=uf 2
 have uf3:=uf 3
 have uf4:=uf 4
 have ul:=lt_of_cell u0
 have HZ:=toHid (rank_done hpl hgl hs0 HK0.out HB0.out K5 R5 hrep5)
 clear hP HC hrep5 R5 K5 uf
 go_wp2_with fail
 obtain ⟨z1,z2,z3,z4⟩:=HZ.out
 refine bodyPost_ret (results_expr _ 4 rfl _ _ (w.heap.size+2) _ _ _ _ _ rfl z1) rfl ?_
 exact ⟨_,_,_,_,_,rfl,z2,z3,z4,hk5,hk5l⟩

set_option maxHeartbeats 2000000 in
set_option maxRecDepth 100000 in
theorem ranked3 {p g cap:Nat}{rk:Value}{l:List (ByteArray × ByteArray × Nat)}{k bl dp:Nat}{a0 a1:Addr}{o:Out (DataW Unit)} (h:∀ (w w':World),Capt p w.heap.size (w.heap.size+1) 3 w'→RD w' p g cap rk l k bl dp→TErr p a0 a1 w'→RK p rk w'→Calls Tryz.prog 105 #[.pointer (some ⟨p,0,none⟩),.string kNot,.int .i64 3,.func (.func 107) #[] #[.pointer (some ⟨w.heap.size,0,none⟩),.pointer (some ⟨w.heap.size+1,0,none⟩)]] w' fun ev w''=>PostE (fun b=>w'.heap.size≤b) p g cap rk l k bl dp a0 a1 w' o ev w'') :
  ReadsE 93 #[.pointer (some ⟨p,0,none⟩),.int .i64 3] p g cap rk l k bl dp a0 a1 o:=by
 intro w R E X
 have hpl:=lt_of_heap R.blk
 have hgl:=R.gl
 obtain ⟨R0,K0,C0,hB0,hs0⟩:=rank_start 3 3 rfl R
 have HC:=toHid (h w _ C0 R0 (E.keeps K0) (X.keeps K0))
 have HK0:=toHid K0
 have HB0:=toHid hB0
 clear h R E X R0 K0 C0 hB0
 go_enter Tryz.func93,Tryz.ntmps93
 go_wp2_with fail
 refine HC.out.mono ?_
 intro ev w4 hP
 rcases hP.parts with ⟨e5,k5,op5,z5,sx5,pa5,pn5,pc5,la5,ln5,lc5,q5,rfl,hrep5,R5,K5,hk5,hk5l⟩ | ⟨y,b,q5,rfl,hf⟩
 rotate_left
 ·have HF:Hid (faultAt l p a0 a1 w y (.panicked [{ v:=.iface 58 (.pointer (some ⟨b,0,none⟩)),recovered:=false }]) w4):=faultAt.after HK0.out.below hf
  subst q5
  clear hP HC hf
  go_wp2_with fail
  exact ⟨rfl,HF.out⟩
 subst q5
 obtain ⟨u0,u1,u2,u3,u4,uf⟩:=expr_block ((K5.block _ (by omega) (by omega)).trans HB0.out)
 have uf0:=uf 0
 have uf1:=uf 1
 have uf2:=uf 2
 have uf3:=uf 3
 have uf4:=uf 4
 have ul:=lt_of_cell u0
 have HZ:=toHid (rank_done hpl hgl hs0 HK0.out HB0.out K5 R5 hrep5)
 clear hP HC hrep5 R5 K5 uf
 go_wp2_with fail
 obtain ⟨z1,z2,z3,z4⟩:=HZ.out
 refine bodyPost_ret (results_expr _ 4 rfl _ _ (w.heap.size+2) _ _ _ _ _ rfl z1) rfl ?_
 exact ⟨_,_,_,_,_,rfl,z2,z3,z4,hk5,hk5l⟩

set_option maxHeartbeats 2000000 in
set_option maxRecDepth 100000 in
theorem ranked4 {p g cap:Nat}{rk:Value}{l:List (ByteArray × ByteArray × Nat)}{k bl dp:Nat}{a0 a1:Addr}{o:Out (DataW Unit)} (h:∀ (w w':World),Capt p w.heap.size (w.heap.size+1) 4 w'→RD w' p g cap rk l k bl dp→TErr p a0 a1 w'→RK p rk w'→Calls Tryz.prog 110 #[.pointer (some ⟨p,0,none⟩),.int .i64 4] w' fun ev w''=>PostE (fun b=>w'.heap.size≤b) p g cap rk l k bl dp a0 a1 w' o ev w'') :
  ReadsE 93 #[.pointer (some ⟨p,0,none⟩),.int .i64 4] p g cap rk l k bl dp a0 a1 o:=by
 intro w R E X
 have hpl:=lt_of_heap R.blk
 have hgl:=R.gl
 obtain ⟨R0,K0,C0,hB0,hs0⟩:=rank_start 4 4 rfl R
 have HC:=toHid (h w _ C0 R0 (E.keeps K0) (X.keeps K0))
 have HK0:=toHid K0
 have HB0:=toHid hB0
 clear h R E X R0 K0 C0 hB0
 go_enter Tryz.func93,Tryz.ntmps93
 go_wp2_with fail
 refine HC.out.mono ?_
 intro ev w4 hP
 rcases hP.parts with ⟨e5,k5,op5,z5,sx5,pa5,pn5,pc5,la5,ln5,lc5,q5,rfl,hrep5,R5,K5,hk5,hk5l⟩ | ⟨y,b,q5,rfl,hf⟩
 rotate_left
 ·have HF:Hid (faultAt l p a0 a1 w y (.panicked [{ v:=.iface 58 (.pointer (some ⟨b,0,none⟩)),recovered:=false }]) w4):=faultAt.after HK0.out.below hf
  subst q5
  clear hP HC hf
  go_wp2_with fail
  exact ⟨rfl,HF.out⟩
 subst q5
 obtain ⟨u0,u1,u2,u3,u4,uf⟩:=expr_block ((K5.block _ (by omega) (by omega)).trans HB0.out)
 have uf0:=uf 0
 have uf1:=uf 1
 have uf2:=uf 2
 have uf3:=uf 3
 have uf4:=uf 4
 have ul:=lt_of_cell u0
 have HZ:=toHid (rank_done hpl hgl hs0 HK0.out HB0.out K5 R5 hrep5)
 clear hP HC hrep5 R5 K5 uf
 go_wp2_with fail
 obtain ⟨z1,z2,z3,z4⟩:=HZ.out
 refine bodyPost_ret (results_expr _ 4 rfl _ _ (w.heap.size+2) _ _ _ _ _ rfl z1) rfl ?_
 exact ⟨_,_,_,_,_,rfl,z2,z3,z4,hk5,hk5l⟩

set_option maxHeartbeats 2000000 in
set_option maxRecDepth 100000 in
theorem ranked5 {p g cap:Nat}{rk:Value}{l:List (ByteArray × ByteArray × Nat)}{k bl dp:Nat}{a0 a1:Addr}{o:Out (DataW Unit)} (h:∀ (w w':World),Capt p w.heap.size (w.heap.size+1) 5 w'→RD w' p g cap rk l k bl dp→TErr p a0 a1 w'→RK p rk w'→Calls Tryz.prog 110 #[.pointer (some ⟨p,0,none⟩),.int .i64 5] w' fun ev w''=>PostE (fun b=>w'.heap.size≤b) p g cap rk l k bl dp a0 a1 w' o ev w'') :
  ReadsE 93 #[.pointer (some ⟨p,0,none⟩),.int .i64 5] p g cap rk l k bl dp a0 a1 o:=by
 intro w R E X
 have hpl:=lt_of_heap R.blk
 have hgl:=R.gl
 obtain ⟨R0,K0,C0,hB0,hs0⟩:=rank_start 5 5 rfl R
 have HC:=toHid (h w _ C0 R0 (E.keeps K0) (X.keeps K0))
 have HK0:=toHid K0
 have HB0:=toHid hB0
 clear h R E X R0 K0 C0 hB0
 go_enter Tryz.func93,Tryz.ntmps93
 go_wp2_with fail
 refine HC.out.mono ?_
 intro ev w4 hP
 rcases hP.parts with ⟨e5,k5,op5,z5,sx5,pa5,pn5,pc5,la5,ln5,lc5,q5,rfl,hrep5,R5,K5,hk5,hk5l⟩ | ⟨y,b,q5,rfl,hf⟩
 rotate_left
 ·have HF:Hid (faultAt l p a0 a1 w y (.panicked [{ v:=.iface 58 (.pointer (some ⟨b,0,none⟩)),recovered:=false }]) w4):=faultAt.after HK0.out.below hf
  subst q5
  clear hP HC hf
  go_wp2_with fail
  exact ⟨rfl,HF.out⟩
 subst q5
 obtain ⟨u0,u1,u2,u3,u4,uf⟩:=expr_block ((K5.block _ (by omega) (by omega)).trans HB0.out)
 have uf0:=uf 0
 have uf1:=uf 1
 have uf2:=uf 2
 have uf3:=uf 3
 have uf4:=uf 4
 have ul:=lt_of_cell u0
 have HZ:=toHid (rank_done hpl hgl hs0 HK0.out HB0.out K5 R5 hrep5)
 clear hP HC hrep5 R5 K5 uf
 go_wp2_with fail
 obtain ⟨z1,z2,z3,z4⟩:=HZ.out
 refine bodyPost_ret (results_expr _ 4 rfl _ _ (w.heap.size+2) _ _ _ _ _ rfl z1) rfl ?_
 exact ⟨_,_,_,_,_,rfl,z2,z3,z4,hk5,hk5l⟩

set_option maxHeartbeats 2000000 in
set_option maxRecDepth 100000 in
theorem ranked6 {p g cap:Nat}{rk:Value}{l:List (ByteArray × ByteArray × Nat)}{k bl dp:Nat}{a0 a1:Addr}{o:Out (DataW Unit)} (h:∀ (w w':World),Capt p w.heap.size (w.heap.size+1) 6 w'→RD w' p g cap rk l k bl dp→TErr p a0 a1 w'→RK p rk w'→Calls Tryz.prog 110 #[.pointer (some ⟨p,0,none⟩),.int .i64 6] w' fun ev w''=>PostE (fun b=>w'.heap.size≤b) p g cap rk l k bl dp a0 a1 w' o ev w'') :
  ReadsE 93 #[.pointer (some ⟨p,0,none⟩),.int .i64 6] p g cap rk l k bl dp a0 a1 o:=by
 intro w R E X
 have hpl:=lt_of_heap R.blk
 have hgl:=R.gl
 obtain ⟨R0,K0,C0,hB0,hs0⟩:=rank_start 6 6 rfl R
 have HC:=toHid (h w _ C0 R0 (E.keeps K0) (X.keeps K0))
 have HK0:=toHid K0
 have HB0:=toHid hB0
 clear h R E X R0 K0 C0 hB0
 go_enter Tryz.func93,Tryz.ntmps93
 go_wp2_with fail
 refine HC.out.mono ?_
 intro ev w4 hP
 rcases hP.parts with ⟨e5,k5,op5,z5,sx5,pa5,pn5,pc5,la5,ln5,lc5,q5,rfl,hrep5,R5,K5,hk5,hk5l⟩ | ⟨y,b,q5,rfl,hf⟩
 rotate_left
 ·have HF:Hid (faultAt l p a0 a1 w y (.panicked [{ v:=.iface 58 (.pointer (some ⟨b,0,none⟩)),recovered:=false }]) w4):=faultAt.after HK0.out.below hf
  subst q5
  clear hP HC hf
  go_wp2_with fail
  exact ⟨rfl,HF.out⟩
 subst q5
 obtain ⟨u0,u1,u2,u3,u4,uf⟩:=expr_block ((K5.block _ (by omega) (by omega)).trans HB0.out)
 have uf0:=uf 0
 have uf1:=uf 1
 have uf2:=uf 2
 have uf3:=uf 3
 have uf4:=uf 4
 have ul:=lt_of_cell u0
 have HZ:=toHid (rank_done hpl hgl hs0 HK0.out HB0.out K5 R5 hrep5)
 clear hP HC hrep5 R5 K5 uf
 go_wp2_with fail
 obtain ⟨z1,z2,z3,z4⟩:=HZ.out
 refine bodyPost_ret (results_expr _ 4 rfl _ _ (w.heap.size+2) _ _ _ _ _ rfl z1) rfl ?_
 exact ⟨_,_,_,_,_,rfl,z2,z3,z4,hk5,hk5l⟩

set_option maxHeartbeats 2000000 in
set_option maxRecDepth 100000 in
theorem ranked7 {p g cap:Nat}{rk:Value}{l:List (ByteArray × ByteArray × Nat)}{k bl dp:Nat}{a0 a1:Addr}{o:Out (DataW Unit)} (h:∀ (w w':World),Capt p w.heap.size (w.heap.size+1) 7 w'→RD w' p g cap rk l k bl dp→TErr p a0 a1 w'→RK p rk w'→Calls Tryz.prog 105 #[.pointer (some ⟨p,0,none⟩),.string kMinus,.int .i64 7,.func (.func 108) #[] #[.pointer (some ⟨w.heap.size,0,none⟩),.pointer (some ⟨w.heap.size+1,0,none⟩)]] w' fun ev w''=>PostE (fun b=>w'.heap.size≤b) p g cap rk l k bl dp a0 a1 w' o ev w'') :
  ReadsE 93 #[.pointer (some ⟨p,0,none⟩),.int .i64 7] p g cap rk l k bl dp a0 a1 o:=by
 intro w R E X
 have hpl:=lt_of_heap R.blk
 have hgl:=R.gl
 obtain ⟨R0,K0,C0,hB0,hs0⟩:=rank_start 7 7 rfl R
 have HC:=toHid (h w _ C0 R0 (E.keeps K0) (X.keeps K0))
 have HK0:=toHid K0
 have HB0:=toHid hB0
 clear h R E X R0 K0 C0 hB0
 go_enter Tryz.func93,Tryz.ntmps93
 go_wp2_with fail
 refine HC.out.mono ?_
 intro ev w4 hP
 rcases hP.parts with ⟨e5,k5,op5,z5,sx5,pa5,pn5,pc5,la5,ln5,lc5,q5,rfl,hrep5,R5,K5,hk5,hk5l⟩ | ⟨y,b,q5,rfl,hf⟩
 rotate_left
 ·have HF:Hid (faultAt l p a0 a1 w y (.panicked [{ v:=.iface 58 (.pointer (some ⟨b,0,none⟩)),recovered:=false }]) w4):=faultAt.after HK0.out.below hf
  subst q5
  clear hP HC hf
  go_wp2_with fail
  exact ⟨rfl,HF.out⟩
 subst q5
 obtain ⟨u0,u1,u2,u3,u4,uf⟩:=expr_block ((K5.block _ (by omega) (by omega)).trans HB0.out)
 have uf0:=uf 0
 have uf1:=uf 1
 have uf2:=uf 2
 have uf3:=uf 3
 have uf4:=uf 4
 have ul:=lt_of_cell u0
 have HZ:=toHid (rank_done hpl hgl hs0 HK0.out HB0.out K5 R5 hrep5)
 clear hP HC hrep5 R5 K5 uf
 go_wp2_with fail
 obtain ⟨z1,z2,z3,z4⟩:=HZ.out
 refine bodyPost_ret (results_expr _ 4 rfl _ _ (w.heap.size+2) _ _ _ _ _ rfl z1) rfl ?_
 exact ⟨_,_,_,_,_,rfl,z2,z3,z4,hk5,hk5l⟩

set_option maxHeartbeats 2000000 in
set_option maxRecDepth 100000 in
theorem ranked8 {p g cap:Nat}{rk:Value}{l:List (ByteArray × ByteArray × Nat)}{k bl dp:Nat}{a0 a1:Addr}{o:Out (DataW Unit)} (h:∀ (w w':World),Capt p w.heap.size (w.heap.size+1) 8 w'→RD w' p g cap rk l k bl dp→TErr p a0 a1 w'→RK p rk w'→Calls Tryz.prog 109 #[.pointer (some ⟨p,0,none⟩)] w' fun ev w''=>PostE (fun b=>w'.heap.size≤b) p g cap rk l k bl dp a0 a1 w' o ev w'') :
  ReadsE 93 #[.pointer (some ⟨p,0,none⟩),.int .i64 8] p g cap rk l k bl dp a0 a1 o:=by
 intro w R E X
 have hpl:=lt_of_heap R.blk
 have hgl:=R.gl
 obtain ⟨R0,K0,C0,hB0,hs0⟩:=rank_start 8 8 rfl R
 have HC:=toHid (h w _ C0 R0 (E.keeps K0) (X.keeps K0))
 have HK0:=toHid K0
 have HB0:=toHid hB0
 clear h R E X R0 K0 C0 hB0
 go_enter Tryz.func93,Tryz.ntmps93
 go_wp2_with fail
 refine HC.out.mono ?_
 intro ev w4 hP
 rcases hP.parts with ⟨e5,k5,op5,z5,sx5,pa5,pn5,pc5,la5,ln5,lc5,q5,rfl,hrep5,R5,K5,hk5,hk5l⟩ | ⟨y,b,q5,rfl,hf⟩
 rotate_left
 ·have HF:Hid (faultAt l p a0 a1 w y (.panicked [{ v:=.iface 58 (.pointer (some ⟨b,0,none⟩)),recovered:=false }]) w4):=faultAt.after HK0.out.below hf
  subst q5
  clear hP HC hf
  go_wp2_with fail
  exact ⟨rfl,HF.out⟩
 subst q5
 obtain ⟨u0,u1,u2,u3,u4,uf⟩:=expr_block ((K5.block _ (by omega) (by omega)).trans HB0.out)
 have uf0:=uf 0
 have uf1:=uf 1
 have uf2:=uf 2
 have uf3:=uf 3
 have uf4:=uf 4
 have ul:=lt_of_cell u0
 have HZ:=toHid (rank_done hpl hgl hs0 HK0.out HB0.out K5 R5 hrep5)
 clear hP HC hrep5 R5 K5 uf
 go_wp2_with fail
 obtain ⟨z1,z2,z3,z4⟩:=HZ.out
 refine bodyPost_ret (results_expr _ 4 rfl _ _ (w.heap.size+2) _ _ _ _ _ rfl z1) rfl ?_
 exact ⟨_,_,_,_,_,rfl,z2,z3,z4,hk5,hk5l⟩

end Go.Proofs.YtpcjcgkpjapbpaaGreatDoor
namespace Go.Proofs.YtpcjcgkpjapbpaaGreatDoor
open Go.RowKit

structure TokOK (l:List (ByteArray × ByteArray × Nat)):Prop where
 hl:l.length≤100000
 hen:Ended l
 last:∀ (k:Nat) (x:ByteArray × ByteArray × Nat),l[k]?=some x→(isIntB x || isStrB x || isNameB x)=true→k+1<l.length
 int:∀ (k:Nat) (x:ByteArray × ByteArray × Nat),l[k]?=some x→isIntB x=true→x.2.1.size≤9223372036854775806 ∧ ∃ v,Lib.parseIntB 64 x.2.1.data.toList = .ok v

theorem atom_any {p g cap:Nat}{rk:Value}{l:List (ByteArray × ByteArray × Nat)}{k bl dp:Nat}{a0 a1:Addr} (T:TokOK l) (hk:k<l.length) (hdp:dp≤12) (term:Nat→Out (DataW Unit))
  (hterm:∀ k',k+1≤k'→k'<l.length→dp<12→ReadsE 72 #[.pointer (some ⟨p,0,none⟩)] p g cap rk l k' bl (dp+1) a0 a1 (term k')) :
  ReadsE 122 #[.pointer (some ⟨p,0,none⟩)] p g cap rk l k bl dp a0 a1 (pAtom l dp term (fun k1=>pUpTo l (pTermStep term) rbrk l.length [] k1) (fun k1=>pUpTo l (pPairStep l term) rbrc l.length [] k1) k):=by
 intro w R E X
 obtain ⟨x,hx⟩:∃ x,l[k]?=some x:=⟨l[k],by simp [hk]⟩
 have hpl:=lt_of_heap R.blk
 unfold pAtom
 rw [hx]
 simp only
 cases h1:isIntB x with
 | true =>
  obtain ⟨hsz,v,hv⟩:=T.int k x hx h1
  simp only [cond_true,intOf,hv]
  exact atom_int T.hl hx (T.last k x hx (by rw [h1];rfl)) h1 hsz v hv w R
 | false =>
  cases h2:isStrB x with
  | true =>
   simp only [cond_true,cond_false,Bool.true_or]
   exact atom_str T.hl hx (T.last k x hx (by rw [h2];simp)) h1 h2 w R
  | false =>
   cases h3:isNameB x with
   | true =>
    simp only [cond_true,cond_false,Bool.or_true]
    exact atom_name T.hl hx (T.last k x hx (by rw [h3];simp)) h1 h2 h3 w R
   | false =>
    cases h4:markB x [kNone,kTrue,kFalse] with
    | true =>
     simp only [cond_true,cond_false,Bool.or_false]
     exact atom_word T.hl hx (T.hen.next hx h4) h1 h2 h3 h4 w R
    | false =>
     cases h5:markB x [lpar] with
     | true =>
      simp only [cond_true,cond_false,Bool.or_false]
      have hk1:=T.hen.next hx h5
      exact atom_par hx h1 h2 h3 h4 h5 w R E X (fun w' R' E' X' hc=>atomDeepClosed T.hl T.hen hk1 hdp (fun hd=>hterm (k+1) (Nat.le_refl _) hk1 hd) w.heap.size w' R' E' X' hc (by omega))
     | false =>
      cases h6:markB x [lbrk] with
      | true =>
       simp only [cond_true,cond_false,Bool.or_false]
       have hk1:=T.hen.next hx h6
       exact atom_brk hx h1 h2 h3 h4 h5 h6 w R E X (fun w' R' E' X' hc=>atomDeepList T.hl hk1 hdp (fun hd=>termsL_any rbrk T.hl T.hen hk1 term (fun k' h7 h8=>hterm k' h7 h8 hd)) w.heap.size w' R' E' X' hc (by omega))
      | false =>
       cases h7:markB x [lbrc] with
       | true =>
        simp only [cond_true,cond_false,Bool.or_false]
        have hk1:=T.hen.next hx h7
        exact atom_brc hx h1 h2 h3 h4 h5 h6 h7 w R E X (fun w' R' E' X' hc=>atomDeepDict T.hl hk1 hdp (fun hd=>pairs_any T.hl T.hen hk1 term (fun k' h8 h9=>hterm k' h8 h9 hd)) w.heap.size w' R' E' X' hc (by omega))
       | false =>
        simp only [cond_false,Bool.or_false]
        exact atom_none hx h1 h2 h3 h4 h5 h6 h7 w R E

def pRanked (l:List (ByteArray × ByteArray × Nat)):Nat→Nat→Nat→Nat→Out (DataW Unit)
 | 0,_,_,k=>.error (k,false)
 | f+1,dp,rank,k =>
  if rank=0 then pAhead l kLambda k dp (pRanked l f dp 1 k) (pLambda l (fun k1=>pOne (pRanked l f (dp+1) 0 k1)) (k+1))
  else if rank=3 then pAhead l kNot k dp (pRanked l f dp 4 k) (pOp kNot (pRanked l f (dp+1) 3 (k+1)))
  else if rank=7 then pAhead l kMinus k dp (pRanked l f dp 8 k) (pOp kNeg (pRanked l f (dp+1) 7 (k+1)))
  else if rank=8 then pPost l dp (pRanked l f (dp+1) 0) (pAtom l dp (pRanked l f (dp+1) 0) (fun k1=>pUpTo l (pTermStep (pRanked l f (dp+1) 0)) rbrk l.length [] k1) (fun k1=>pUpTo l (pPairStep l (pRanked l f (dp+1) 0)) rbrc l.length [] k1) k)
  else pSides l rank (pRanked l f dp (rank+1)) k

set_option maxRecDepth 100000 in
theorem ranked_any {p g cap:Nat}{rk:Value}{l:List (ByteArray × ByteArray × Nat)}{bl:Nat}{a0 a1:Addr} (T:TokOK l):∀ (f dp rank k:Nat) (zr:Int),zr=(rank:Int)→dp≤12→rank≤8→k<l.length→(l.length - k)*10+(9 - rank)≤f →
  ReadsE 93 #[.pointer (some ⟨p,0,none⟩),.int .i64 zr] p g cap rk l k bl dp a0 a1 (pRanked l f dp rank k)
 | 0,dp,rank,k,zr,hz,hdp,hr,hk,hf=>by omega
 | f+1,dp,rank,k,zr,hz,hdp,hr,hk,hf=>by
  have hl:=T.hl
  have hen:=T.hen
  have IH:∀ (rank' k':Nat) (z':Int),z'=(rank':Int)→rank'≤8→k≤k'→k'<l.length→rank<rank'→ReadsE 93 #[.pointer (some ⟨p,0,none⟩),.int .i64 z'] p g cap rk l k' bl dp a0 a1 (pRanked l f dp rank' k'):=
   fun rank' k' z' h1 h2 h3 h4 h5=>ranked_any T f dp rank' k' z' h1 hdp h2 h4 (by omega)
  have ID:∀ (rank' k':Nat) (z':Int),z'=(rank':Int)→rank'≤8→k+1≤k'→k'<l.length→dp<12→ReadsE 93 #[.pointer (some ⟨p,0,none⟩),.int .i64 z'] p g cap rk l k' bl (dp+1) a0 a1 (pRanked l f (dp+1) rank' k'):=
   fun rank' k' z' h1 h2 h3 h4 h5=>ranked_any T f (dp+1) rank' k' z' h1 (by omega) h2 h4 (by omega)
  have IT:∀ k',k+1≤k'→k'<l.length→dp<12→ReadsE 72 #[.pointer (some ⟨p,0,none⟩)] p g cap rk l k' bl (dp+1) a0 a1 (pRanked l f (dp+1) 0 k'):=
   fun k' h1 h2 h3=>term_any (ID 0 k' 0 rfl (by omega) h1 h2 h3)
  unfold pRanked
  match rank,hr,hz with
  | 0,_,hz =>
   subst hz
   exact ranked0 (fun w w' C R E X=>ahead_any' 106 #[.pointer (some ⟨p,0,none⟩)] (fun _ _=>rfl) kLambda 0 (by omega) hk hl hen hdp (fun _=>True) (fun _ _ _ _=>trivial) (IH 1 k _ rfl (by omega) (Nat.le_refl _) hk (by omega)) (fun hk1 hd w2 R2 E2 X2 _=>lambda_any hl hen (fun k x hx hn=>T.last k x hx (by rw [hn];simp)) hk1 (fun k1=>pOne (pRanked l f (dp+1) 0 k1)) (fun k1 h1 h2=>tone_any (IT k1 (by omega) h2 hd)) w2 R2 E2 X2) w' R E X trivial)
  | 1,_,hz=>subst hz;exact ranked1 (fun w w' C R E X=>sides1_any hl hen hk _ (fun k1 h1 h2=>IH 2 k1 _ rfl (by omega) h1 h2 (by omega)) w' R E X)
  | 2,_,hz=>subst hz;exact ranked2 (fun w w' C R E X=>sides2_any hl hen hk _ (fun k1 h1 h2=>IH 3 k1 _ rfl (by omega) h1 h2 (by omega)) w' R E X)
  | 3,_,hz =>
   subst hz
   exact ranked3 (fun w w' C R E X=>ahead_any 107 _ (fun _ _=>rfl) kNot 3 (by omega) hk hl hen hdp (Capt p w.heap.size (w.heap.size+1) 3) Capt.keeps (IH 4 k _ rfl (by omega) (Nat.le_refl _) hk (by omega)) (fun hk1 hd w2 R2 E2 X2 C2=>rankedNot_any _ _ 3 (ID 3 (k+1) _ rfl (by omega) (Nat.le_refl _) hk1 hd) w2 R2 E2 X2 C2) w' R E X C)
  | 4,_,hz=>subst hz;exact ranked4 (fun w w' C R E X=>sides4_any hl hen hk _ (fun k1 h1 h2=>IH 5 k1 _ rfl (by omega) h1 h2 (by omega)) w' R E X)
  | 5,_,hz=>subst hz;exact ranked5 (fun w w' C R E X=>sides5_any hl hen hk _ (fun k1 h1 h2=>IH 6 k1 _ rfl (by omega) h1 h2 (by omega)) w' R E X)
  | 6,_,hz=>subst hz;exact ranked6 (fun w w' C R E X=>sides6_any hl hen hk _ (fun k1 h1 h2=>IH 7 k1 _ rfl (by omega) h1 h2 (by omega)) w' R E X)
  | 7,_,hz =>
   subst hz
   exact ranked7 (fun w w' C R E X=>ahead_any 108 _ (fun _ _=>rfl) kMinus 7 (by omega) hk hl hen hdp (Capt p w.heap.size (w.heap.size+1) 7) Capt.keeps (IH 8 k _ rfl (by omega) (Nat.le_refl _) hk (by omega)) (fun hk1 hd w2 R2 E2 X2 C2=>rankedNeg_any _ _ 7 (ID 7 (k+1) _ rfl (by omega) (Nat.le_refl _) hk1 hd) w2 R2 E2 X2 C2) w' R E X C)
  | 8,_,hz=>subst hz;exact ranked8 (fun w w' C R E X=>post_any hl hen hdp _ _ IT (atom_any T hk hdp _ IT) w' R E X)
  | n+9,hr,_=>omega

def fuelE (l:List (ByteArray × ByteArray × Nat)):Nat:=l.length*10+10
def pTerm (l:List (ByteArray × ByteArray × Nat)) (k:Nat):Out (DataW Unit):=pRanked l (fuelE l) 0 0 k
theorem termAt {p g cap:Nat}{rk:Value}{l:List (ByteArray × ByteArray × Nat)}{bl:Nat}{a0 a1:Addr} (T:TokOK l) {k:Nat} (hk:k<l.length):ReadsE 72 #[.pointer (some ⟨p,0,none⟩)] p g cap rk l k bl 0 a0 a1 (pTerm l k):=
 term_any (ranked_any T (fuelE l) 0 0 k 0 rfl (by omega) (by omega) hk (by unfold fuelE;omega))
theorem oneAt {p g cap:Nat}{rk:Value}{l:List (ByteArray × ByteArray × Nat)}{bl:Nat}{a0 a1:Addr} (T:TokOK l) {k:Nat} (hk:k<l.length):ReadsL 49 #[.pointer (some ⟨p,0,none⟩)] p g cap rk l k bl 0 a0 a1 (pOne (pTerm l k)):=tone_any (termAt T hk)
end Go.Proofs.YtpcjcgkpjapbpaaGreatDoor
