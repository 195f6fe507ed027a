/- Package tree: ahead, by a contract over what it is handed. -/
import Derived.Test.YtemapnogjepokaaGreatDoorTreeCToTreeD
namespace Go.Proofs.YtemapnogjepokaaGreatDoor
open Go.RowKit

def pAhead (l:List (ByteArray × ByteArray × Nat)) (mark:ByteArray) (k dp:Nat) (oR oW:Out (DataW Unit)):Out (DataW Unit):=bif markAt l k [mark] then (if dp=12 then .error (k,true) else oW) else oR
set_option maxHeartbeats 2000000 in
set_option maxRecDepth 100000 in
theorem ahead_any (K:FuncId) (caps:Array Value) (hE:∀ args w,(callFunc K args).run Tryz.prog w = .ok (.enter K args) w) {p g cap:Nat}{rk:Value}{l:List (ByteArray × ByteArray × Nat)}{k bl dp:Nat}{a0 a1:Addr}{oR oW:Out (DataW Unit)}(mark:ByteArray) (rank:Nat) (hrank:rank≤8) (hk:k<l.length) (hl:l.length≤100000) (hen:Ended l) (hdp:dp≤12) (Capt:World→Prop) (hCapt:∀ w w',Capt w→Keeps p w w'→Capt w')
  (hR:ReadsE 141 #[.pointer (some ⟨p,0,none⟩),.int .i64 ((rank:Int)+1)] p g cap rk l k bl dp a0 a1 oR)
  (hW:k+1<l.length→dp<12 → ∀ w2,RD w2 p g cap rk l (k+1) bl (dp+1)→TErr p a0 a1 w2→RK p rk w2→Capt w2→Calls Tryz.prog K caps w2 fun ev w'=>PostE (fun b=>w2.heap.size≤b) p g cap rk l (k+1) bl (dp+1) a0 a1 w2 oW ev w') :
  ∀ w,RD w p g cap rk l k bl dp→TErr p a0 a1 w→RK p rk w→Capt w→Calls Tryz.prog 151 #[.pointer (some ⟨p,0,none⟩),.string mark,.int .i64 (rank:Int),.func (.func K) #[] caps] w fun ev w'=>PostE (fun b=>w.heap.size≤b) p g cap rk l k bl dp a0 a1 w (pAhead l mark k dp oR oW) ev w':=by
 intro w R E X C
 have hpl:=lt_of_heap R.blk
 have hgl:=R.gl
 have hb0:Below w.heap.size w (w.alloc (.cells #[.string ⟨#[]⟩,.int .i64 0,.string ⟨#[]⟩,.slice none 0 0,.slice none 0 0] 72)):=(Below.refl _ _).alloc (Nat.le_refl _) _
 have hB0:=heap_alloc_new w (.cells #[.string ⟨#[]⟩,.int .i64 0,.string ⟨#[]⟩,.slice none 0 0,.slice none 0 0] 72)
 have hsz:(w.alloc (.cells #[.string ⟨#[]⟩,.int .i64 0,.string ⟨#[]⟩,.slice none 0 0,.slice none 0 0] 72)).heap.size=w.heap.size+1:=by simp
 have hb1:Below w.heap.size w ((w.alloc (.cells #[.string ⟨#[]⟩,.int .i64 0,.string ⟨#[]⟩,.slice none 0 0,.slice none 0 0] 72)).alloc (.cells #[.string mark] 9)):=hb0.alloc (by omega) _
 have K1:Keeps p w ((w.alloc (.cells #[.string ⟨#[]⟩,.int .i64 0,.string ⟨#[]⟩,.slice none 0 0,.slice none 0 0] 72)).alloc (.cells #[.string mark] 9)):=Keeps.of hb1 (by omega)
 have R1:=R.more hb1
 have hB1:((w.alloc (.cells #[.string ⟨#[]⟩,.int .i64 0,.string ⟨#[]⟩,.slice none 0 0,.slice none 0 0] 72)).alloc (.cells #[.string mark] 9)).heap[w.heap.size]?=_:=(Below.heap_alloc _ _ _ (by omega)).trans hB0
 have hT1:=ts_one (w.alloc (.cells #[.string ⟨#[]⟩,.int .i64 0,.string ⟨#[]⟩,.slice none 0 0,.slice none 0 0] 72)) mark
 rw [hsz] at hT1
 obtain ⟨x,hx⟩:∃ x,l[k]?=some x:=⟨l[k],by simp [hk]⟩
 have HX:=toHid hx
 obtain ⟨m,hm⟩:∃ m,markB x [mark]=m:=⟨_,rfl⟩
 have hma:markAt l k [mark]=m:=(markAt_of hx [mark]).trans hm
 unfold pAhead
 rw [hma]
 have HM:=toHid hm
 have HRR:=toHid hR
 have HWW:=toHid hW
 have HCC:=toHid hCapt
 clear R hm hma hR hW hCapt
 cases m
 ·simp only [cond_false]
  cases oR with
  | error y =>
   go_enter Tryz.func151,Tryz.ntmps151
   go_wp2_with fail
   refine (isMark_any R1 hx [mark] (w.heap.size+1) 0 1 (by simp) hT1).mono ?_
   rintro ev w2 ⟨rfl,hb2⟩
   rw [HM.out]
   have R2:=R1.more hb2
   have K2:Keeps p w w2:=K1.trans (Keeps.of hb2 (by have:=lt_of_heap R1.blk;omega))
   have hB2:=(hb2.block _ (lt_of_heap hB1)).trans hB1
   have hs2:=lt_of_heap hB2
   have E2:=E.keeps K2
   have X2:=X.keeps K2
   have C2:=HCC.out w w2 C K2
   have HC:=toHid (HRR.out w2 R2 E2 X2)
   clear R1 K1 hB1 hT1 hx C C2
   go_wp2_with fail
   refine HC.out.mono ?_
   intro ev w3 hP
   unfold PostE at hP
   obtain ⟨t,g1,b,rfl,g2⟩:=hP
   have HF:Hid (faultAt l p a0 a1 w y (.panicked [{ v:=.iface 61 (.pointer (some ⟨b,0,none⟩)),recovered:=false }]) w3):=faultAt.after K2.below ⟨t,g1,b,rfl,g2⟩
   clear g1 g2 R2 K2 HC hB2
   go_wp2_with fail
   exact ⟨rfl,HF.out⟩
  | ok y =>
   obtain ⟨e,k'⟩:=y
   go_enter Tryz.func151,Tryz.ntmps151
   go_wp2_with fail
   refine (isMark_any R1 hx [mark] (w.heap.size+1) 0 1 (by simp) hT1).mono ?_
   rintro ev w2 ⟨rfl,hb2⟩
   rw [HM.out]
   have R2:=R1.more hb2
   have K2:Keeps p w w2:=K1.trans (Keeps.of hb2 (by have:=lt_of_heap R1.blk;omega))
   have hB2:=(hb2.block _ (lt_of_heap hB1)).trans hB1
   have hs2:=lt_of_heap hB2
   have E2:=E.keeps K2
   have X2:=X.keeps K2
   have C2:=HCC.out w w2 C K2
   have HC:=toHid (HRR.out w2 R2 E2 X2)
   clear R1 K1 hB1 hT1 hx C C2
   go_wp2_with fail
   refine HC.out.mono ?_
   intro ev w3 hP
   unfold PostE at hP
   obtain ⟨c0,c1,c2,c3,c4,rfl,hrep,R3,K3,hk3,hk3l⟩:=hP
   obtain ⟨op,z,sx,pa,pn,pc,la,ln,lc,rfl,rfl,rfl,rfl,rfl⟩:=hrep.form
   have hB3:=(K3.block w.heap.size (by omega) (lt_of_heap hB2)).trans hB2
   have hs1:=lt_of_heap hB2
   obtain ⟨t0,t1,t2,t3,t4,tf⟩:=expr_block hB3
   have tf0:=tf 0
   have tf1:=tf 1
   have tf2:=tf 2
   have tf3:=tf 3
   have tf4:=tf 4
   have hp3:=lt_of_heap R3.blk
   have H3:=toHid (And.intro hrep (And.intro R3 (And.intro (K2.trans K3) hB3)))
   have hw1:=K2.below.size
   clear R3 K3 hrep hB3 tf HC R2 K2 hB2
   go_wp2_with fail
   obtain ⟨hrep,R3,K3,hB3⟩:=H3.out
   obtain ⟨f1,f2,f3,f4⟩:=laid5 hrep R3 K3 hB3 (by omega) (by omega) (by omega) (by omega) (.string op) (.int .i64 z) (.string sx) (.slice pa pn pc) (.slice la ln lc)
   refine bodyPost_ret (results_expr _ 8 rfl _ _ w.heap.size _ _ _ _ _ rfl f4) rfl ?_
   exact ⟨_,_,_,_,_,rfl,f1.same (fun _ _ _=>rfl) (fun b h _=>by omega),f2,f3,by omega,hk3l⟩
 ·simp only [cond_true]
  have hk1:=hen.next HX.out HM.out
  by_cases h12:dp=12
  ·rw [if_pos h12]
   subst h12
   go_enter Tryz.func151,Tryz.ntmps151
   go_wp2_with fail
   refine (isMark_any R1 hx [mark] (w.heap.size+1) 0 1 (by simp) hT1).mono ?_
   rintro ev w2 ⟨rfl,hb2⟩
   rw [HM.out]
   have R2:=R1.more hb2
   have K2:Keeps p w w2:=K1.trans (Keeps.of hb2 (by have:=lt_of_heap R1.blk;omega))
   have hB2:=(hb2.block _ (lt_of_heap hB1)).trans hB1
   have hs2:=lt_of_heap hB2
   have E2:=E.keeps K2
   have X2:=X.keeps K2
   have C2:=HCC.out w w2 C K2
   have HC:=toHid (deeper_bound (.func (.func K) #[] caps) hk w2 R2 E2)
   clear R1 K1 hB1 hT1 hx C C2
   go_wp2_with fail
   refine HC.out.mono ?_
   intro ev w3 hP
   obtain ⟨t,g1,b,rfl,g2⟩:=hP
   have HF:Hid (faultAt l p a0 a1 w (k,true) (.panicked [{ v:=.iface 61 (.pointer (some ⟨b,0,none⟩)),recovered:=false }]) w3):=faultAt.after K2.below ⟨t,g1,b,rfl,g2⟩
   clear g1 g2 R2 K2 HC hB2
   go_wp2_with fail
   exact ⟨rfl,HF.out⟩
  ·rw [if_neg h12]
   have hd:dp<12:=by omega
   cases oW with
   | error y =>
    go_enter Tryz.func151,Tryz.ntmps151
    go_wp2_with fail
    refine (isMark_any R1 hx [mark] (w.heap.size+1) 0 1 (by simp) hT1).mono ?_
    rintro ev w2 ⟨rfl,hb2⟩
    rw [HM.out]
    have R2:=R1.more hb2
    have K2:Keeps p w w2:=K1.trans (Keeps.of hb2 (by have:=lt_of_heap R1.blk;omega))
    have hB2:=(hb2.block _ (lt_of_heap hB1)).trans hB1
    have hs2:=lt_of_heap hB2
    have E2:=E.keeps K2
    have X2:=X.keeps K2
    have C2:=HCC.out w w2 C K2
    have HC:=toHid (deeper_go K caps hE hk1 hl hd w2 (fun b=>w2.heap.size<b) (by omega) (by have:=lt_of_heap R2.blk;omega) (.error y) (fun w5 R5 K5 hs5 E5=>(HWW.out hk1 hd w5 R5 E5 (X2.keeps K5) (HCC.out w2 w5 C2 K5)).mono (fun ev w' h=>h)) R2 E2)
    clear R1 K1 hB1 hT1 hx C C2
    go_wp2_with fail
    refine HC.out.mono ?_
    intro ev w3 hP
    unfold PostE at hP
    obtain ⟨t,g1,b,rfl,g2⟩:=hP
    have HF:Hid (faultAt l p a0 a1 w y (.panicked [{ v:=.iface 61 (.pointer (some ⟨b,0,none⟩)),recovered:=false }]) w3):=faultAt.after K2.below ⟨t,g1,b,rfl,g2⟩
    clear g1 g2 R2 K2 HC hB2
    go_wp2_with fail
    exact ⟨rfl,HF.out⟩
   | ok y =>
    obtain ⟨e,k'⟩:=y
    go_enter Tryz.func151,Tryz.ntmps151
    go_wp2_with fail
    refine (isMark_any R1 hx [mark] (w.heap.size+1) 0 1 (by simp) hT1).mono ?_
    rintro ev w2 ⟨rfl,hb2⟩
    rw [HM.out]
    have R2:=R1.more hb2
    have K2:Keeps p w w2:=K1.trans (Keeps.of hb2 (by have:=lt_of_heap R1.blk;omega))
    have hB2:=(hb2.block _ (lt_of_heap hB1)).trans hB1
    have hs2:=lt_of_heap hB2
    have E2:=E.keeps K2
    have X2:=X.keeps K2
    have C2:=HCC.out w w2 C K2
    have HC:=toHid (deeper_go K caps hE hk1 hl hd w2 (fun b=>w2.heap.size<b) (by omega) (by have:=lt_of_heap R2.blk;omega) (.ok (e,k')) (fun w5 R5 K5 hs5 E5=>(HWW.out hk1 hd w5 R5 E5 (X2.keeps K5) (HCC.out w2 w5 C2 K5)).mono (fun ev w' h=>by
     obtain ⟨c0,c1,c2,c3,c4,h1,h2,h3⟩:=h
     exact ⟨c0,c1,c2,c3,c4,h1,h2.same (fun _ _ _=>rfl) (fun b hb _=>by omega),h3⟩)) R2 E2)
    clear R1 K1 hB1 hT1 hx C C2
    go_wp2_with fail
    refine HC.out.mono ?_
    intro ev w3 hP
    unfold PostE at hP
    obtain ⟨c0,c1,c2,c3,c4,rfl,hrep,R3,K3,hk3,hk3l⟩:=hP
    obtain ⟨op,z,sx,pa,pn,pc,la,ln,lc,rfl,rfl,rfl,rfl,rfl⟩:=hrep.form
    have hB3:=(K3.block w.heap.size (by omega) (lt_of_heap hB2)).trans hB2
    have hs1:=lt_of_heap hB2
    obtain ⟨t0,t1,t2,t3,t4,tf⟩:=expr_block hB3
    have tf0:=tf 0
    have tf1:=tf 1
    have tf2:=tf 2
    have tf3:=tf 3
    have tf4:=tf 4
    have hp3:=lt_of_heap R3.blk
    have H3:=toHid (And.intro hrep (And.intro R3 (And.intro (K2.trans K3) hB3)))
    have hw1:=K2.below.size
    clear R3 K3 hrep hB3 tf HC R2 K2 hB2
    go_wp2_with fail
    obtain ⟨hrep,R3,K3,hB3⟩:=H3.out
    obtain ⟨f1,f2,f3,f4⟩:=laid5 hrep R3 K3 hB3 (by omega) (by omega) (by omega) (by omega) (.string op) (.int .i64 z) (.string sx) (.slice pa pn pc) (.slice la ln lc)
    refine bodyPost_ret (results_expr _ 8 rfl _ _ w.heap.size _ _ _ _ _ rfl f4) rfl ?_
    exact ⟨_,_,_,_,_,rfl,f1.same (fun _ _ _=>rfl) (fun b h _=>by omega),f2,f3,by omega,hk3l⟩
set_option maxHeartbeats 2000000 in
set_option maxRecDepth 100000 in
theorem ahead_any' (K:FuncId) (caps:Array Value) (hE:∀ args w,(callFunc K args).run Tryz.prog w = .ok (.enter K args) w) {p g cap:Nat}{rk:Value}{l:List (ByteArray × ByteArray × Nat)}{k bl dp:Nat}{a0 a1:Addr}{oR oW:Out (DataW Unit)}(mark:ByteArray) (rank:Nat) (hrank:rank≤8) (hk:k<l.length) (hl:l.length≤100000) (hen:Ended l) (hdp:dp≤12) (Capt:World→Prop) (hCapt:∀ w w',Capt w→Keeps p w w'→Capt w')
  (hR:ReadsE 141 #[.pointer (some ⟨p,0,none⟩),.int .i64 ((rank:Int)+1)] p g cap rk l k bl dp a0 a1 oR)
  (hW:k+1<l.length→dp<12 → ∀ w2,RD w2 p g cap rk l (k+1) bl (dp+1)→TErr p a0 a1 w2→RK p rk w2→Capt w2→Calls Tryz.prog K caps w2 fun ev w'=>PostE (fun b=>w2.heap.size≤b) p g cap rk l (k+1) bl (dp+1) a0 a1 w2 oW ev w') :
  ∀ w,RD w p g cap rk l k bl dp→TErr p a0 a1 w→RK p rk w→Capt w→Calls Tryz.prog 151 #[.pointer (some ⟨p,0,none⟩),.string mark,.int .i64 (rank:Int),.func (.func K) caps #[]] w fun ev w'=>PostE (fun b=>w.heap.size≤b) p g cap rk l k bl dp a0 a1 w (pAhead l mark k dp oR oW) ev w':=by
 intro w R E X C
 have hpl:=lt_of_heap R.blk
 have hgl:=R.gl
 have hb0:Below w.heap.size w (w.alloc (.cells #[.string ⟨#[]⟩,.int .i64 0,.string ⟨#[]⟩,.slice none 0 0,.slice none 0 0] 72)):=(Below.refl _ _).alloc (Nat.le_refl _) _
 have hB0:=heap_alloc_new w (.cells #[.string ⟨#[]⟩,.int .i64 0,.string ⟨#[]⟩,.slice none 0 0,.slice none 0 0] 72)
 have hsz:(w.alloc (.cells #[.string ⟨#[]⟩,.int .i64 0,.string ⟨#[]⟩,.slice none 0 0,.slice none 0 0] 72)).heap.size=w.heap.size+1:=by simp
 have hb1:Below w.heap.size w ((w.alloc (.cells #[.string ⟨#[]⟩,.int .i64 0,.string ⟨#[]⟩,.slice none 0 0,.slice none 0 0] 72)).alloc (.cells #[.string mark] 9)):=hb0.alloc (by omega) _
 have K1:Keeps p w ((w.alloc (.cells #[.string ⟨#[]⟩,.int .i64 0,.string ⟨#[]⟩,.slice none 0 0,.slice none 0 0] 72)).alloc (.cells #[.string mark] 9)):=Keeps.of hb1 (by omega)
 have R1:=R.more hb1
 have hB1:((w.alloc (.cells #[.string ⟨#[]⟩,.int .i64 0,.string ⟨#[]⟩,.slice none 0 0,.slice none 0 0] 72)).alloc (.cells #[.string mark] 9)).heap[w.heap.size]?=_:=(Below.heap_alloc _ _ _ (by omega)).trans hB0
 have hT1:=ts_one (w.alloc (.cells #[.string ⟨#[]⟩,.int .i64 0,.string ⟨#[]⟩,.slice none 0 0,.slice none 0 0] 72)) mark
 rw [hsz] at hT1
 obtain ⟨x,hx⟩:∃ x,l[k]?=some x:=⟨l[k],by simp [hk]⟩
 have HX:=toHid hx
 obtain ⟨m,hm⟩:∃ m,markB x [mark]=m:=⟨_,rfl⟩
 have hma:markAt l k [mark]=m:=(markAt_of hx [mark]).trans hm
 unfold pAhead
 rw [hma]
 have HM:=toHid hm
 have HRR:=toHid hR
 have HWW:=toHid hW
 have HCC:=toHid hCapt
 clear R hm hma hR hW hCapt
 cases m
 ·simp only [cond_false]
  cases oR with
  | error y =>
   go_enter Tryz.func151,Tryz.ntmps151
   go_wp2_with fail
   refine (isMark_any R1 hx [mark] (w.heap.size+1) 0 1 (by simp) hT1).mono ?_
   rintro ev w2 ⟨rfl,hb2⟩
   rw [HM.out]
   have R2:=R1.more hb2
   have K2:Keeps p w w2:=K1.trans (Keeps.of hb2 (by have:=lt_of_heap R1.blk;omega))
   have hB2:=(hb2.block _ (lt_of_heap hB1)).trans hB1
   have hs2:=lt_of_heap hB2
   have E2:=E.keeps K2
   have X2:=X.keeps K2
   have C2:=HCC.out w w2 C K2
   have HC:=toHid (HRR.out w2 R2 E2 X2)
   clear R1 K1 hB1 hT1 hx C C2
   go_wp2_with fail
   refine HC.out.mono ?_
   intro ev w3 hP
   unfold PostE at hP
   obtain ⟨t,g1,b,rfl,g2⟩:=hP
   have HF:Hid (faultAt l p a0 a1 w y (.panicked [{ v:=.iface 61 (.pointer (some ⟨b,0,none⟩)),recovered:=false }]) w3):=faultAt.after K2.below ⟨t,g1,b,rfl,g2⟩
   clear g1 g2 R2 K2 HC hB2
   go_wp2_with fail
   exact ⟨rfl,HF.out⟩
  | ok y =>
   obtain ⟨e,k'⟩:=y
   go_enter Tryz.func151,Tryz.ntmps151
   go_wp2_with fail
   refine (isMark_any R1 hx [mark] (w.heap.size+1) 0 1 (by simp) hT1).mono ?_
   rintro ev w2 ⟨rfl,hb2⟩
   rw [HM.out]
   have R2:=R1.more hb2
   have K2:Keeps p w w2:=K1.trans (Keeps.of hb2 (by have:=lt_of_heap R1.blk;omega))
   have hB2:=(hb2.block _ (lt_of_heap hB1)).trans hB1
   have hs2:=lt_of_heap hB2
   have E2:=E.keeps K2
   have X2:=X.keeps K2
   have C2:=HCC.out w w2 C K2
   have HC:=toHid (HRR.out w2 R2 E2 X2)
   clear R1 K1 hB1 hT1 hx C C2
   go_wp2_with fail
   refine HC.out.mono ?_
   intro ev w3 hP
   unfold PostE at hP
   obtain ⟨c0,c1,c2,c3,c4,rfl,hrep,R3,K3,hk3,hk3l⟩:=hP
   obtain ⟨op,z,sx,pa,pn,pc,la,ln,lc,rfl,rfl,rfl,rfl,rfl⟩:=hrep.form
   have hB3:=(K3.block w.heap.size (by omega) (lt_of_heap hB2)).trans hB2
   have hs1:=lt_of_heap hB2
   obtain ⟨t0,t1,t2,t3,t4,tf⟩:=expr_block hB3
   have tf0:=tf 0
   have tf1:=tf 1
   have tf2:=tf 2
   have tf3:=tf 3
   have tf4:=tf 4
   have hp3:=lt_of_heap R3.blk
   have H3:=toHid (And.intro hrep (And.intro R3 (And.intro (K2.trans K3) hB3)))
   have hw1:=K2.below.size
   clear R3 K3 hrep hB3 tf HC R2 K2 hB2
   go_wp2_with fail
   obtain ⟨hrep,R3,K3,hB3⟩:=H3.out
   obtain ⟨f1,f2,f3,f4⟩:=laid5 hrep R3 K3 hB3 (by omega) (by omega) (by omega) (by omega) (.string op) (.int .i64 z) (.string sx) (.slice pa pn pc) (.slice la ln lc)
   refine bodyPost_ret (results_expr _ 8 rfl _ _ w.heap.size _ _ _ _ _ rfl f4) rfl ?_
   exact ⟨_,_,_,_,_,rfl,f1.same (fun _ _ _=>rfl) (fun b h _=>by omega),f2,f3,by omega,hk3l⟩
 ·simp only [cond_true]
  have hk1:=hen.next HX.out HM.out
  by_cases h12:dp=12
  ·rw [if_pos h12]
   subst h12
   go_enter Tryz.func151,Tryz.ntmps151
   go_wp2_with fail
   refine (isMark_any R1 hx [mark] (w.heap.size+1) 0 1 (by simp) hT1).mono ?_
   rintro ev w2 ⟨rfl,hb2⟩
   rw [HM.out]
   have R2:=R1.more hb2
   have K2:Keeps p w w2:=K1.trans (Keeps.of hb2 (by have:=lt_of_heap R1.blk;omega))
   have hB2:=(hb2.block _ (lt_of_heap hB1)).trans hB1
   have hs2:=lt_of_heap hB2
   have E2:=E.keeps K2
   have X2:=X.keeps K2
   have C2:=HCC.out w w2 C K2
   have HC:=toHid (deeper_bound (.func (.func K) caps #[]) hk w2 R2 E2)
   clear R1 K1 hB1 hT1 hx C C2
   go_wp2_with fail
   refine HC.out.mono ?_
   intro ev w3 hP
   obtain ⟨t,g1,b,rfl,g2⟩:=hP
   have HF:Hid (faultAt l p a0 a1 w (k,true) (.panicked [{ v:=.iface 61 (.pointer (some ⟨b,0,none⟩)),recovered:=false }]) w3):=faultAt.after K2.below ⟨t,g1,b,rfl,g2⟩
   clear g1 g2 R2 K2 HC hB2
   go_wp2_with fail
   exact ⟨rfl,HF.out⟩
  ·rw [if_neg h12]
   have hd:dp<12:=by omega
   cases oW with
   | error y =>
    go_enter Tryz.func151,Tryz.ntmps151
    go_wp2_with fail
    refine (isMark_any R1 hx [mark] (w.heap.size+1) 0 1 (by simp) hT1).mono ?_
    rintro ev w2 ⟨rfl,hb2⟩
    rw [HM.out]
    have R2:=R1.more hb2
    have K2:Keeps p w w2:=K1.trans (Keeps.of hb2 (by have:=lt_of_heap R1.blk;omega))
    have hB2:=(hb2.block _ (lt_of_heap hB1)).trans hB1
    have hs2:=lt_of_heap hB2
    have E2:=E.keeps K2
    have X2:=X.keeps K2
    have C2:=HCC.out w w2 C K2
    have HC:=toHid (deeper_go' K caps hE hk1 hl hd w2 (fun b=>w2.heap.size<b) (by omega) (by have:=lt_of_heap R2.blk;omega) (.error y) (fun w5 R5 K5 hs5 E5=>(HWW.out hk1 hd w5 R5 E5 (X2.keeps K5) (HCC.out w2 w5 C2 K5)).mono (fun ev w' h=>h)) R2 E2)
    clear R1 K1 hB1 hT1 hx C C2
    go_wp2_with fail
    refine HC.out.mono ?_
    intro ev w3 hP
    unfold PostE at hP
    obtain ⟨t,g1,b,rfl,g2⟩:=hP
    have HF:Hid (faultAt l p a0 a1 w y (.panicked [{ v:=.iface 61 (.pointer (some ⟨b,0,none⟩)),recovered:=false }]) w3):=faultAt.after K2.below ⟨t,g1,b,rfl,g2⟩
    clear g1 g2 R2 K2 HC hB2
    go_wp2_with fail
    exact ⟨rfl,HF.out⟩
   | ok y =>
    obtain ⟨e,k'⟩:=y
    go_enter Tryz.func151,Tryz.ntmps151
    go_wp2_with fail
    refine (isMark_any R1 hx [mark] (w.heap.size+1) 0 1 (by simp) hT1).mono ?_
    rintro ev w2 ⟨rfl,hb2⟩
    rw [HM.out]
    have R2:=R1.more hb2
    have K2:Keeps p w w2:=K1.trans (Keeps.of hb2 (by have:=lt_of_heap R1.blk;omega))
    have hB2:=(hb2.block _ (lt_of_heap hB1)).trans hB1
    have hs2:=lt_of_heap hB2
    have E2:=E.keeps K2
    have X2:=X.keeps K2
    have C2:=HCC.out w w2 C K2
    have HC:=toHid (deeper_go' K caps hE hk1 hl hd w2 (fun b=>w2.heap.size<b) (by omega) (by have:=lt_of_heap R2.blk;omega) (.ok (e,k')) (fun w5 R5 K5 hs5 E5=>(HWW.out hk1 hd w5 R5 E5 (X2.keeps K5) (HCC.out w2 w5 C2 K5)).mono (fun ev w' h=>by
     obtain ⟨c0,c1,c2,c3,c4,h1,h2,h3⟩:=h
     exact ⟨c0,c1,c2,c3,c4,h1,h2.same (fun _ _ _=>rfl) (fun b hb _=>by omega),h3⟩)) R2 E2)
    clear R1 K1 hB1 hT1 hx C C2
    go_wp2_with fail
    refine HC.out.mono ?_
    intro ev w3 hP
    unfold PostE at hP
    obtain ⟨c0,c1,c2,c3,c4,rfl,hrep,R3,K3,hk3,hk3l⟩:=hP
    obtain ⟨op,z,sx,pa,pn,pc,la,ln,lc,rfl,rfl,rfl,rfl,rfl⟩:=hrep.form
    have hB3:=(K3.block w.heap.size (by omega) (lt_of_heap hB2)).trans hB2
    have hs1:=lt_of_heap hB2
    obtain ⟨t0,t1,t2,t3,t4,tf⟩:=expr_block hB3
    have tf0:=tf 0
    have tf1:=tf 1
    have tf2:=tf 2
    have tf3:=tf 3
    have tf4:=tf 4
    have hp3:=lt_of_heap R3.blk
    have H3:=toHid (And.intro hrep (And.intro R3 (And.intro (K2.trans K3) hB3)))
    have hw1:=K2.below.size
    clear R3 K3 hrep hB3 tf HC R2 K2 hB2
    go_wp2_with fail
    obtain ⟨hrep,R3,K3,hB3⟩:=H3.out
    obtain ⟨f1,f2,f3,f4⟩:=laid5 hrep R3 K3 hB3 (by omega) (by omega) (by omega) (by omega) (.string op) (.int .i64 z) (.string sx) (.slice pa pn pc) (.slice la ln lc)
    refine bodyPost_ret (results_expr _ 8 rfl _ _ w.heap.size _ _ _ _ _ rfl f4) rfl ?_
    exact ⟨_,_,_,_,_,rfl,f1.same (fun _ _ _=>rfl) (fun b h _=>by omega),f2,f3,by omega,hk3l⟩
end Go.Proofs.YtemapnogjepokaaGreatDoor
