/- Package mem: numbers that do not fit (measured), by a contract. -/
import Derived.Test.YtlkcbdinlfeoiabGreatDoorKnAA
namespace Go.Proofs.YtlkcbdinlfeoiabGreatDoor
open Go.RowKit

set_option maxHeartbeats 1000000 in
set_option maxRecDepth 100000 in
theorem measured_no1 (p:Nat) (half old card:Int) (nW nC cW cC:Nat) (aW aC:Option Addr) (used top oldTop:Int) (r k i:Value) (H:¬ numsOK half old card) (w:World)
  (M:MemAt p half old card (.slice aW nW cW) used top oldTop r k i (.slice aC nC cC) w) :
  Calls Tryz.prog 53 #[.pointer (some ⟨p,0,none⟩)] w fun ev w'=>ev = .returned (.bool false) ∧ ∃ q,w'=w.drewN q:=by
 have kb:Hid (∀ q,Calls Tryz.prog 42 #[.pointer (some ⟨p,0,none⟩)] (w.drewN q) fun ev w'=>ev = .returned (.bool false)∧w'=w.drewN q):=fun q=>bounded_no p half old card H (w.drewN q) M.c0 M.c1 M.c2
 obtain ⟨c0,c1,c2,c3,c4,c5,c6,c7,c8,c9,c10⟩:=M
 clear H c7 c8 c9
 go_enter Tryz.func53,Tryz.ntmps53
 go_wp2_with fail
 go_quiet (first | (go_at_call 42;exact Calls.quiet_of_same (kb.out _)))
 go_wp2
 go_ret
 exact ⟨rfl,_,rfl⟩
set_option maxHeartbeats 1000000 in
set_option maxRecDepth 100000 in
theorem measured_no2 (p:Nat) (half old card:Int) (nW nC cW cC:Nat) (aW aC:Option Addr) (used top oldTop:Int) (r k i:Value) (H:numsOK half old card) (hW:¬ (nW:Int)=2*half+old) (w:World)
  (M:MemAt p half old card (.slice aW nW cW) used top oldTop r k i (.slice aC nC cC) w) :
  Calls Tryz.prog 53 #[.pointer (some ⟨p,0,none⟩)] w fun ev w'=>ev = .returned (.bool false) ∧ ∃ q,w'=w.drewN q:=by
 have kb:Hid (∀ q,Calls Tryz.prog 42 #[.pointer (some ⟨p,0,none⟩)] (w.drewN q) fun ev w'=>ev = .returned (.bool true)∧w'=w.drewN q):=fun q=>bounded_ok p half old card H (w.drewN q) M.c0 M.c1 M.c2
 have ko:Hid (∀ q,Calls Tryz.prog 43 #[.pointer (some ⟨p,0,none⟩)] (w.drewN q) fun ev w'=>ev = .returned (.int .i64 (2*half))∧w'=w.drewN q):=fun q=>oldFrom_any p half (by unfold numsOK at H;omega) (by unfold numsOK at H;omega) (w.drewN q) M.c0
 have e1:IntKind.i64.wrap (2*half+old)=2*half+old:=by unfold numsOK at H;rw [wrapI _ (by omega) (by omega)]
 have e1':((nW:Int) == 2*half+old)=false:=by rw [beq_eq_false_iff_ne];exact hW
 obtain ⟨c0,c1,c2,c3,c4,c5,c6,c7,c8,c9,c10⟩:=M
 clear H hW c7 c8 c9
 go_enter Tryz.func53,Tryz.ntmps53
 go_wp2_with fail
 go_quiet (first | (go_at_call 42;exact Calls.quiet_of_same (kb.out _)) | (go_at_call 43;exact Calls.quiet_of_same (ko.out _)))
 go_wp2
 go_ret
 exact ⟨rfl,_,rfl⟩
set_option maxHeartbeats 1000000 in
set_option maxRecDepth 100000 in
theorem measured_no3 (p:Nat) (half old card:Int) (nW nC cW cC:Nat) (aW aC:Option Addr) (used top oldTop:Int) (r k i:Value) (H:numsOK half old card) (hW:(nW:Int)=2*half+old) (hC:¬ (nC:Int)=(old+card - 1) / card) (w:World)
  (M:MemAt p half old card (.slice aW nW cW) used top oldTop r k i (.slice aC nC cC) w) :
  Calls Tryz.prog 53 #[.pointer (some ⟨p,0,none⟩)] w fun ev w'=>ev = .returned (.bool false) ∧ ∃ q,w'=w.drewN q:=by
 have kb:Hid (∀ q,Calls Tryz.prog 42 #[.pointer (some ⟨p,0,none⟩)] (w.drewN q) fun ev w'=>ev = .returned (.bool true)∧w'=w.drewN q):=fun q=>bounded_ok p half old card H (w.drewN q) M.c0 M.c1 M.c2
 have ko:Hid (∀ q,Calls Tryz.prog 43 #[.pointer (some ⟨p,0,none⟩)] (w.drewN q) fun ev w'=>ev = .returned (.int .i64 (2*half))∧w'=w.drewN q):=fun q=>oldFrom_any p half (by unfold numsOK at H;omega) (by unfold numsOK at H;omega) (w.drewN q) M.c0
 have kc:Hid (∀ q,Calls Tryz.prog 44 #[.pointer (some ⟨p,0,none⟩)] (w.drewN q) fun ev w'=>ev = .returned (.int .i64 ((old+card - 1) / card)) ∧ ∃ m,w'=(w.drewN q).drewN m):=fun q=>cards_any p half old card H (w.drewN q) M.c1 M.c2
 have e1:IntKind.i64.wrap (2*half+old)=(nW:Int):=by unfold numsOK at H;rw [wrapI _ (by omega) (by omega)];exact hW.symm
 have e2:((nC:Int) == (old+card - 1) / card)=false:=by rw [beq_eq_false_iff_ne];exact hC
 obtain ⟨c0,c1,c2,c3,c4,c5,c6,c7,c8,c9,c10⟩:=M
 clear H hW hC c7 c8 c9
 go_enter Tryz.func53,Tryz.ntmps53
 go_wp2_with fail
 go_quiet (first | (go_at_call 42;exact Calls.quiet_of_same (kb.out _)) | (go_at_call 43;exact Calls.quiet_of_same (ko.out _)) | (go_at_call 44;exact Calls.quiet_of (kc.out _)))
 go_wp2
 go_ret
 exact ⟨rfl,_,rfl⟩
set_option maxHeartbeats 1000000 in
set_option maxRecDepth 100000 in
theorem measured_no4 (p:Nat) (half old card:Int) (nW nC cW cC:Nat) (aW aC:Option Addr) (used top oldTop:Int) (r k i:Value) (H:numsOK half old card) (hW:(nW:Int)=2*half+old) (hC:(nC:Int)=(old+card - 1) / card) (hU:¬ (0≤used∧used≤1)) (w:World)
  (M:MemAt p half old card (.slice aW nW cW) used top oldTop r k i (.slice aC nC cC) w) :
  Calls Tryz.prog 53 #[.pointer (some ⟨p,0,none⟩)] w fun ev w'=>ev = .returned (.bool false) ∧ ∃ q,w'=w.drewN q:=by
 have kb:Hid (∀ q,Calls Tryz.prog 42 #[.pointer (some ⟨p,0,none⟩)] (w.drewN q) fun ev w'=>ev = .returned (.bool true)∧w'=w.drewN q):=fun q=>bounded_ok p half old card H (w.drewN q) M.c0 M.c1 M.c2
 have ko:Hid (∀ q,Calls Tryz.prog 43 #[.pointer (some ⟨p,0,none⟩)] (w.drewN q) fun ev w'=>ev = .returned (.int .i64 (2*half))∧w'=w.drewN q):=fun q=>oldFrom_any p half (by unfold numsOK at H;omega) (by unfold numsOK at H;omega) (w.drewN q) M.c0
 have kc:Hid (∀ q,Calls Tryz.prog 44 #[.pointer (some ⟨p,0,none⟩)] (w.drewN q) fun ev w'=>ev = .returned (.int .i64 ((old+card - 1) / card)) ∧ ∃ m,w'=(w.drewN q).drewN m):=fun q=>cards_any p half old card H (w.drewN q) M.c1 M.c2
 have e1:IntKind.i64.wrap (2*half+old)=(nW:Int):=by unfold numsOK at H;rw [wrapI _ (by omega) (by omega)];exact hW.symm
 have e2:((nC:Int) == (old+card - 1) / card)=true:=by rw [hC];simp
 have k1:Hid (∀ w,Calls Tryz.prog 54 #[.int .i64 used,.int .i64 0,.int .i64 1] w fun ev w'=>ev = .returned (.bool false)∧w'=w):=fun w=>mwithin_no used 0 1 hU w
 obtain ⟨c0,c1,c2,c3,c4,c5,c6,c7,c8,c9,c10⟩:=M
 clear H hW hC hU c7 c8 c9
 go_enter Tryz.func53,Tryz.ntmps53
 go_wp2_with fail
 go_quiet (first | (go_at_call 42;exact Calls.quiet_of_same (kb.out _)) | (go_at_call 43;exact Calls.quiet_of_same (ko.out _)) | (go_at_call 44;exact Calls.quiet_of (kc.out _)) | (go_at_call_of 54 used;exact Calls.quiet_of_same (k1.out _)))
 go_wp2
 go_ret
 exact ⟨rfl,_,rfl⟩
set_option maxHeartbeats 1000000 in
set_option maxRecDepth 100000 in
theorem measured_no5 (p:Nat) (half old card:Int) (nW nC cW cC:Nat) (aW aC:Option Addr) (used top oldTop:Int) (r k i:Value) (H:numsOK half old card) (hW:(nW:Int)=2*half+old) (hC:(nC:Int)=(old+card - 1) / card) (hU:0≤used∧used≤1) (hT:¬ (0≤top∧top≤half)) (w:World)
  (M:MemAt p half old card (.slice aW nW cW) used top oldTop r k i (.slice aC nC cC) w) :
  Calls Tryz.prog 53 #[.pointer (some ⟨p,0,none⟩)] w fun ev w'=>ev = .returned (.bool false) ∧ ∃ q,w'=w.drewN q:=by
 have kb:Hid (∀ q,Calls Tryz.prog 42 #[.pointer (some ⟨p,0,none⟩)] (w.drewN q) fun ev w'=>ev = .returned (.bool true)∧w'=w.drewN q):=fun q=>bounded_ok p half old card H (w.drewN q) M.c0 M.c1 M.c2
 have ko:Hid (∀ q,Calls Tryz.prog 43 #[.pointer (some ⟨p,0,none⟩)] (w.drewN q) fun ev w'=>ev = .returned (.int .i64 (2*half))∧w'=w.drewN q):=fun q=>oldFrom_any p half (by unfold numsOK at H;omega) (by unfold numsOK at H;omega) (w.drewN q) M.c0
 have kc:Hid (∀ q,Calls Tryz.prog 44 #[.pointer (some ⟨p,0,none⟩)] (w.drewN q) fun ev w'=>ev = .returned (.int .i64 ((old+card - 1) / card)) ∧ ∃ m,w'=(w.drewN q).drewN m):=fun q=>cards_any p half old card H (w.drewN q) M.c1 M.c2
 have e1:IntKind.i64.wrap (2*half+old)=(nW:Int):=by unfold numsOK at H;rw [wrapI _ (by omega) (by omega)];exact hW.symm
 have e2:((nC:Int) == (old+card - 1) / card)=true:=by rw [hC];simp
 have k1:Hid (∀ w,Calls Tryz.prog 54 #[.int .i64 used,.int .i64 0,.int .i64 1] w fun ev w'=>ev = .returned (.bool true)∧w'=w):=fun w=>mwithin_ok used 0 1 hU.1 hU.2 w
 have k2:Hid (∀ w,Calls Tryz.prog 54 #[.int .i64 top,.int .i64 0,.int .i64 half] w fun ev w'=>ev = .returned (.bool false)∧w'=w):=fun w=>mwithin_no top 0 half hT w
 obtain ⟨c0,c1,c2,c3,c4,c5,c6,c7,c8,c9,c10⟩:=M
 clear H hW hC hU hT c7 c8 c9
 go_enter Tryz.func53,Tryz.ntmps53
 go_wp2_with fail
 go_quiet (first | (go_at_call 42;exact Calls.quiet_of_same (kb.out _)) | (go_at_call 43;exact Calls.quiet_of_same (ko.out _)) | (go_at_call 44;exact Calls.quiet_of (kc.out _)) | (go_at_call_of 54 used;exact Calls.quiet_of_same (k1.out _)) | (go_at_call_of 54 top;exact Calls.quiet_of_same (k2.out _)))
 go_wp2
 go_ret
 exact ⟨rfl,_,rfl⟩
set_option maxHeartbeats 1000000 in
set_option maxRecDepth 100000 in
theorem measured_no6 (p:Nat) (half old card:Int) (nW nC cW cC:Nat) (aW aC:Option Addr) (used top oldTop:Int) (r k i:Value) (H:numsOK half old card) (hW:(nW:Int)=2*half+old) (hC:(nC:Int)=(old+card - 1) / card) (hU:0≤used∧used≤1) (hT:0≤top∧top≤half) (hO:¬ (0≤oldTop∧oldTop≤old)) (w:World)
  (M:MemAt p half old card (.slice aW nW cW) used top oldTop r k i (.slice aC nC cC) w) :
  Calls Tryz.prog 53 #[.pointer (some ⟨p,0,none⟩)] w fun ev w'=>ev = .returned (.bool false) ∧ ∃ q,w'=w.drewN q:=by
 have kb:Hid (∀ q,Calls Tryz.prog 42 #[.pointer (some ⟨p,0,none⟩)] (w.drewN q) fun ev w'=>ev = .returned (.bool true)∧w'=w.drewN q):=fun q=>bounded_ok p half old card H (w.drewN q) M.c0 M.c1 M.c2
 have ko:Hid (∀ q,Calls Tryz.prog 43 #[.pointer (some ⟨p,0,none⟩)] (w.drewN q) fun ev w'=>ev = .returned (.int .i64 (2*half))∧w'=w.drewN q):=fun q=>oldFrom_any p half (by unfold numsOK at H;omega) (by unfold numsOK at H;omega) (w.drewN q) M.c0
 have kc:Hid (∀ q,Calls Tryz.prog 44 #[.pointer (some ⟨p,0,none⟩)] (w.drewN q) fun ev w'=>ev = .returned (.int .i64 ((old+card - 1) / card)) ∧ ∃ m,w'=(w.drewN q).drewN m):=fun q=>cards_any p half old card H (w.drewN q) M.c1 M.c2
 have e1:IntKind.i64.wrap (2*half+old)=(nW:Int):=by unfold numsOK at H;rw [wrapI _ (by omega) (by omega)];exact hW.symm
 have e2:((nC:Int) == (old+card - 1) / card)=true:=by rw [hC];simp
 have k1:Hid (∀ w,Calls Tryz.prog 54 #[.int .i64 used,.int .i64 0,.int .i64 1] w fun ev w'=>ev = .returned (.bool true)∧w'=w):=fun w=>mwithin_ok used 0 1 hU.1 hU.2 w
 have k2:Hid (∀ w,Calls Tryz.prog 54 #[.int .i64 top,.int .i64 0,.int .i64 half] w fun ev w'=>ev = .returned (.bool true)∧w'=w):=fun w=>mwithin_ok top 0 half hT.1 hT.2 w
 have k3:Hid (∀ w,Calls Tryz.prog 54 #[.int .i64 oldTop,.int .i64 0,.int .i64 old] w fun ev w'=>ev = .returned (.bool false)∧w'=w):=fun w=>mwithin_no oldTop 0 old hO w
 obtain ⟨c0,c1,c2,c3,c4,c5,c6,c7,c8,c9,c10⟩:=M
 clear H hW hC hU hT hO c7 c8 c9
 go_enter Tryz.func53,Tryz.ntmps53
 go_wp2_with fail
 go_quiet (first | (go_at_call 42;exact Calls.quiet_of_same (kb.out _)) | (go_at_call 43;exact Calls.quiet_of_same (ko.out _)) | (go_at_call 44;exact Calls.quiet_of (kc.out _)) | (go_at_call_of 54 used;exact Calls.quiet_of_same (k1.out _)) | (go_at_call_of 54 top;exact Calls.quiet_of_same (k2.out _)) | (go_at_call_of 54 oldTop;exact Calls.quiet_of_same (k3.out _)))
 go_wp2
 go_ret
 exact ⟨rfl,_,rfl⟩
theorem measured_no (p:Nat) (half old card:Int) (nW nC cW cC:Nat) (aW aC:Option Addr) (used top oldTop:Int) (r k i:Value) (F:¬ Fits half old card nW nC used top oldTop) (w:World)
  (M:MemAt p half old card (.slice aW nW cW) used top oldTop r k i (.slice aC nC cC) w) :
  Calls Tryz.prog 53 #[.pointer (some ⟨p,0,none⟩)] w fun ev w'=>ev = .returned (.bool false) ∧ ∃ q,w'=w.drewN q:=by
 by_cases H:numsOK half old card
 ·by_cases hW:(nW:Int)=2*half+old
  ·by_cases hC:(nC:Int)=(old+card - 1) / card
   ·by_cases hU:0≤used∧used≤1
    ·by_cases hT:0≤top∧top≤half
     ·by_cases hO:0≤oldTop∧oldTop≤old
      ·exact absurd ⟨H,hW,hC,hU.1,hU.2,hT.1,hT.2,hO.1,hO.2⟩ F
      ·exact measured_no6 p half old card nW nC cW cC aW aC used top oldTop r k i H hW hC hU hT hO w M
     ·exact measured_no5 p half old card nW nC cW cC aW aC used top oldTop r k i H hW hC hU hT w M
    ·exact measured_no4 p half old card nW nC cW cC aW aC used top oldTop r k i H hW hC hU w M
   ·exact measured_no3 p half old card nW nC cW cC aW aC used top oldTop r k i H hW hC w M
  ·exact measured_no2 p half old card nW nC cW cC aW aC used top oldTop r k i H hW w M
 ·exact measured_no1 p half old card nW nC cW cC aW aC used top oldTop r k i H w M
end Go.Proofs.YtlkcbdinlfeoiabGreatDoor
