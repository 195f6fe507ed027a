/- Package mem: numbers that do not fit (measured), by a contract. -/
import Derived.Test.YtlkcbdinlfeoiaaGreatDoorKnAA
namespace Go.Proofs.YtlkcbdinlfeoiaaGreatDoor
open Go.Proofs.Tryz
open Go.RowKit

set_option maxHeartbeats 1000000 in
set_option maxRecDepth 100000 in
theorem Zcr (p:Nat) (half old card:Int) (nW nC cW cC:Nat) (aW aC:Option Addr) (used top oldTop:Int) (r k i:Value) (H:¬ Z0c half old card) (w:World)
  (M:MemAt p half old card (.slice aW nW cW) used top oldTop r k i (.slice aC nC cC) w) :
  Calls prog 123 #[.pointer (some ⟨p,0,none⟩)] w fun ev w'=>ev = .returned (.bool false) ∧ ∃ q,w'=w.drewN q:=by
 have kb:Hid (∀ q,Calls prog 84 #[.pointer (some ⟨p,0,none⟩)] (w.drewN q) fun ev w'=>ev = .returned (.bool false)∧w'=w.drewN q):=fun q=>Zb7 p half old card H (w.drewN q) M.c0 M.c1 M.c2
 obtain ⟨c0,c1,c2,c3,c4,c5,c6,c7,c8,c9,c10⟩:=M
 clear H c7 c8 c9
 go_enter func123,ntmps123
 go_wp2_with fail
 go_quiet (first | (go_at_call 84;exact Calls.quiet_of_same (kb.out _)))
 go_wp2
 go_ret
 exact ⟨rfl,_,rfl⟩
set_option maxHeartbeats 1000000 in
set_option maxRecDepth 100000 in
theorem Ze9 (p:Nat) (half old card:Int) (nW nC cW cC:Nat) (aW aC:Option Addr) (used top oldTop:Int) (r k i:Value) (H:Z0c half old card) (hW:¬ (nW:Int)=2*half+old) (w:World)
  (M:MemAt p half old card (.slice aW nW cW) used top oldTop r k i (.slice aC nC cC) w) :
  Calls prog 123 #[.pointer (some ⟨p,0,none⟩)] w fun ev w'=>ev = .returned (.bool false) ∧ ∃ q,w'=w.drewN q:=by
 have kb:Hid (∀ q,Calls prog 84 #[.pointer (some ⟨p,0,none⟩)] (w.drewN q) fun ev w'=>ev = .returned (.bool true)∧w'=w.drewN q):=fun q=>Z2i p half old card H (w.drewN q) M.c0 M.c1 M.c2
 have ko:Hid (∀ q,Calls prog 85 #[.pointer (some ⟨p,0,none⟩)] (w.drewN q) fun ev w'=>ev = .returned (.int .i64 (2*half))∧w'=w.drewN q):=fun q=>Z0w p half (by unfold Z0c at H;omega) (by unfold Z0c at H;omega) (w.drewN q) M.c0
 have e1:IntKind.i64.wrap (2*half+old)=2*half+old:=by unfold Z0c at H;rw [Z16 _ (by omega) (by omega)]
 have e1':((nW:Int) == 2*half+old)=false:=by rw [beq_eq_false_iff_ne];exact hW
 obtain ⟨c0,c1,c2,c3,c4,c5,c6,c7,c8,c9,c10⟩:=M
 clear H hW c7 c8 c9
 go_enter func123,ntmps123
 go_wp2_with fail
 go_quiet (first | (go_at_call 84;exact Calls.quiet_of_same (kb.out _)) | (go_at_call 85;exact Calls.quiet_of_same (ko.out _)))
 go_wp2
 go_ret
 exact ⟨rfl,_,rfl⟩
set_option maxHeartbeats 1000000 in
set_option maxRecDepth 100000 in
theorem Zei (p:Nat) (half old card:Int) (nW nC cW cC:Nat) (aW aC:Option Addr) (used top oldTop:Int) (r k i:Value) (H:Z0c half old card) (hW:(nW:Int)=2*half+old) (hC:¬ (nC:Int)=(old+card - 1) / card) (w:World)
  (M:MemAt p half old card (.slice aW nW cW) used top oldTop r k i (.slice aC nC cC) w) :
  Calls prog 123 #[.pointer (some ⟨p,0,none⟩)] w fun ev w'=>ev = .returned (.bool false) ∧ ∃ q,w'=w.drewN q:=by
 have kb:Hid (∀ q,Calls prog 84 #[.pointer (some ⟨p,0,none⟩)] (w.drewN q) fun ev w'=>ev = .returned (.bool true)∧w'=w.drewN q):=fun q=>Z2i p half old card H (w.drewN q) M.c0 M.c1 M.c2
 have ko:Hid (∀ q,Calls prog 85 #[.pointer (some ⟨p,0,none⟩)] (w.drewN q) fun ev w'=>ev = .returned (.int .i64 (2*half))∧w'=w.drewN q):=fun q=>Z0w p half (by unfold Z0c at H;omega) (by unfold Z0c at H;omega) (w.drewN q) M.c0
 have kc:Hid (∀ q,Calls prog 86 #[.pointer (some ⟨p,0,none⟩)] (w.drewN q) fun ev w'=>ev = .returned (.int .i64 ((old+card - 1) / card)) ∧ ∃ m,w'=(w.drewN q).drewN m):=fun q=>Z49 p half old card H (w.drewN q) M.c1 M.c2
 have e1:IntKind.i64.wrap (2*half+old)=(nW:Int):=by unfold Z0c at H;rw [Z16 _ (by omega) (by omega)];exact hW.symm
 have e2:((nC:Int) == (old+card - 1) / card)=false:=by rw [beq_eq_false_iff_ne];exact hC
 obtain ⟨c0,c1,c2,c3,c4,c5,c6,c7,c8,c9,c10⟩:=M
 clear H hW hC c7 c8 c9
 go_enter func123,ntmps123
 go_wp2_with fail
 go_quiet (first | (go_at_call 84;exact Calls.quiet_of_same (kb.out _)) | (go_at_call 85;exact Calls.quiet_of_same (ko.out _)) | (go_at_call 86;exact Calls.quiet_of (kc.out _)))
 go_wp2
 go_ret
 exact ⟨rfl,_,rfl⟩
set_option maxHeartbeats 1000000 in
set_option maxRecDepth 100000 in
theorem Zd0 (p:Nat) (half old card:Int) (nW nC cW cC:Nat) (aW aC:Option Addr) (used top oldTop:Int) (r k i:Value) (H:Z0c half old card) (hW:(nW:Int)=2*half+old) (hC:(nC:Int)=(old+card - 1) / card) (hU:¬ (0≤used∧used≤1)) (w:World)
  (M:MemAt p half old card (.slice aW nW cW) used top oldTop r k i (.slice aC nC cC) w) :
  Calls prog 123 #[.pointer (some ⟨p,0,none⟩)] w fun ev w'=>ev = .returned (.bool false) ∧ ∃ q,w'=w.drewN q:=by
 have kb:Hid (∀ q,Calls prog 84 #[.pointer (some ⟨p,0,none⟩)] (w.drewN q) fun ev w'=>ev = .returned (.bool true)∧w'=w.drewN q):=fun q=>Z2i p half old card H (w.drewN q) M.c0 M.c1 M.c2
 have ko:Hid (∀ q,Calls prog 85 #[.pointer (some ⟨p,0,none⟩)] (w.drewN q) fun ev w'=>ev = .returned (.int .i64 (2*half))∧w'=w.drewN q):=fun q=>Z0w p half (by unfold Z0c at H;omega) (by unfold Z0c at H;omega) (w.drewN q) M.c0
 have kc:Hid (∀ q,Calls prog 86 #[.pointer (some ⟨p,0,none⟩)] (w.drewN q) fun ev w'=>ev = .returned (.int .i64 ((old+card - 1) / card)) ∧ ∃ m,w'=(w.drewN q).drewN m):=fun q=>Z49 p half old card H (w.drewN q) M.c1 M.c2
 have e1:IntKind.i64.wrap (2*half+old)=(nW:Int):=by unfold Z0c at H;rw [Z16 _ (by omega) (by omega)];exact hW.symm
 have e2:((nC:Int) == (old+card - 1) / card)=true:=by rw [hC];simp
 have k1:Hid (∀ w,Calls prog 124 #[.int .i64 used,.int .i64 0,.int .i64 1] w fun ev w'=>ev = .returned (.bool false)∧w'=w):=fun w=>Z3d used 0 1 hU w
 obtain ⟨c0,c1,c2,c3,c4,c5,c6,c7,c8,c9,c10⟩:=M
 clear H hW hC hU c7 c8 c9
 go_enter func123,ntmps123
 go_wp2_with fail
 go_quiet (first | (go_at_call 84;exact Calls.quiet_of_same (kb.out _)) | (go_at_call 85;exact Calls.quiet_of_same (ko.out _)) | (go_at_call 86;exact Calls.quiet_of (kc.out _)) | (go_at_call_of 124 used;exact Calls.quiet_of_same (k1.out _)))
 go_wp2
 go_ret
 exact ⟨rfl,_,rfl⟩
set_option maxHeartbeats 1000000 in
set_option maxRecDepth 100000 in
theorem Ze1 (p:Nat) (half old card:Int) (nW nC cW cC:Nat) (aW aC:Option Addr) (used top oldTop:Int) (r k i:Value) (H:Z0c half old card) (hW:(nW:Int)=2*half+old) (hC:(nC:Int)=(old+card - 1) / card) (hU:0≤used∧used≤1) (hT:¬ (0≤top∧top≤half)) (w:World)
  (M:MemAt p half old card (.slice aW nW cW) used top oldTop r k i (.slice aC nC cC) w) :
  Calls prog 123 #[.pointer (some ⟨p,0,none⟩)] w fun ev w'=>ev = .returned (.bool false) ∧ ∃ q,w'=w.drewN q:=by
 have kb:Hid (∀ q,Calls prog 84 #[.pointer (some ⟨p,0,none⟩)] (w.drewN q) fun ev w'=>ev = .returned (.bool true)∧w'=w.drewN q):=fun q=>Z2i p half old card H (w.drewN q) M.c0 M.c1 M.c2
 have ko:Hid (∀ q,Calls prog 85 #[.pointer (some ⟨p,0,none⟩)] (w.drewN q) fun ev w'=>ev = .returned (.int .i64 (2*half))∧w'=w.drewN q):=fun q=>Z0w p half (by unfold Z0c at H;omega) (by unfold Z0c at H;omega) (w.drewN q) M.c0
 have kc:Hid (∀ q,Calls prog 86 #[.pointer (some ⟨p,0,none⟩)] (w.drewN q) fun ev w'=>ev = .returned (.int .i64 ((old+card - 1) / card)) ∧ ∃ m,w'=(w.drewN q).drewN m):=fun q=>Z49 p half old card H (w.drewN q) M.c1 M.c2
 have e1:IntKind.i64.wrap (2*half+old)=(nW:Int):=by unfold Z0c at H;rw [Z16 _ (by omega) (by omega)];exact hW.symm
 have e2:((nC:Int) == (old+card - 1) / card)=true:=by rw [hC];simp
 have k1:Hid (∀ w,Calls prog 124 #[.int .i64 used,.int .i64 0,.int .i64 1] w fun ev w'=>ev = .returned (.bool true)∧w'=w):=fun w=>Z1a used 0 1 hU.1 hU.2 w
 have k2:Hid (∀ w,Calls prog 124 #[.int .i64 top,.int .i64 0,.int .i64 half] w fun ev w'=>ev = .returned (.bool false)∧w'=w):=fun w=>Z3d top 0 half hT w
 obtain ⟨c0,c1,c2,c3,c4,c5,c6,c7,c8,c9,c10⟩:=M
 clear H hW hC hU hT c7 c8 c9
 go_enter func123,ntmps123
 go_wp2_with fail
 go_quiet (first | (go_at_call 84;exact Calls.quiet_of_same (kb.out _)) | (go_at_call 85;exact Calls.quiet_of_same (ko.out _)) | (go_at_call 86;exact Calls.quiet_of (kc.out _)) | (go_at_call_of 124 used;exact Calls.quiet_of_same (k1.out _)) | (go_at_call_of 124 top;exact Calls.quiet_of_same (k2.out _)))
 go_wp2
 go_ret
 exact ⟨rfl,_,rfl⟩
set_option maxHeartbeats 1000000 in
set_option maxRecDepth 100000 in
theorem Zeo (p:Nat) (half old card:Int) (nW nC cW cC:Nat) (aW aC:Option Addr) (used top oldTop:Int) (r k i:Value) (H:Z0c half old card) (hW:(nW:Int)=2*half+old) (hC:(nC:Int)=(old+card - 1) / card) (hU:0≤used∧used≤1) (hT:0≤top∧top≤half) (hO:¬ (0≤oldTop∧oldTop≤old)) (w:World)
  (M:MemAt p half old card (.slice aW nW cW) used top oldTop r k i (.slice aC nC cC) w) :
  Calls prog 123 #[.pointer (some ⟨p,0,none⟩)] w fun ev w'=>ev = .returned (.bool false) ∧ ∃ q,w'=w.drewN q:=by
 have kb:Hid (∀ q,Calls prog 84 #[.pointer (some ⟨p,0,none⟩)] (w.drewN q) fun ev w'=>ev = .returned (.bool true)∧w'=w.drewN q):=fun q=>Z2i p half old card H (w.drewN q) M.c0 M.c1 M.c2
 have ko:Hid (∀ q,Calls prog 85 #[.pointer (some ⟨p,0,none⟩)] (w.drewN q) fun ev w'=>ev = .returned (.int .i64 (2*half))∧w'=w.drewN q):=fun q=>Z0w p half (by unfold Z0c at H;omega) (by unfold Z0c at H;omega) (w.drewN q) M.c0
 have kc:Hid (∀ q,Calls prog 86 #[.pointer (some ⟨p,0,none⟩)] (w.drewN q) fun ev w'=>ev = .returned (.int .i64 ((old+card - 1) / card)) ∧ ∃ m,w'=(w.drewN q).drewN m):=fun q=>Z49 p half old card H (w.drewN q) M.c1 M.c2
 have e1:IntKind.i64.wrap (2*half+old)=(nW:Int):=by unfold Z0c at H;rw [Z16 _ (by omega) (by omega)];exact hW.symm
 have e2:((nC:Int) == (old+card - 1) / card)=true:=by rw [hC];simp
 have k1:Hid (∀ w,Calls prog 124 #[.int .i64 used,.int .i64 0,.int .i64 1] w fun ev w'=>ev = .returned (.bool true)∧w'=w):=fun w=>Z1a used 0 1 hU.1 hU.2 w
 have k2:Hid (∀ w,Calls prog 124 #[.int .i64 top,.int .i64 0,.int .i64 half] w fun ev w'=>ev = .returned (.bool true)∧w'=w):=fun w=>Z1a top 0 half hT.1 hT.2 w
 have k3:Hid (∀ w,Calls prog 124 #[.int .i64 oldTop,.int .i64 0,.int .i64 old] w fun ev w'=>ev = .returned (.bool false)∧w'=w):=fun w=>Z3d oldTop 0 old hO w
 obtain ⟨c0,c1,c2,c3,c4,c5,c6,c7,c8,c9,c10⟩:=M
 clear H hW hC hU hT hO c7 c8 c9
 go_enter func123,ntmps123
 go_wp2_with fail
 go_quiet (first | (go_at_call 84;exact Calls.quiet_of_same (kb.out _)) | (go_at_call 85;exact Calls.quiet_of_same (ko.out _)) | (go_at_call 86;exact Calls.quiet_of (kc.out _)) | (go_at_call_of 124 used;exact Calls.quiet_of_same (k1.out _)) | (go_at_call_of 124 top;exact Calls.quiet_of_same (k2.out _)) | (go_at_call_of 124 oldTop;exact Calls.quiet_of_same (k3.out _)))
 go_wp2
 go_ret
 exact ⟨rfl,_,rfl⟩
theorem Zeu (p:Nat) (half old card:Int) (nW nC cW cC:Nat) (aW aC:Option Addr) (used top oldTop:Int) (r k i:Value) (F:¬ Fits half old card nW nC used top oldTop) (w:World)
  (M:MemAt p half old card (.slice aW nW cW) used top oldTop r k i (.slice aC nC cC) w) :
  Calls prog 123 #[.pointer (some ⟨p,0,none⟩)] w fun ev w'=>ev = .returned (.bool false) ∧ ∃ q,w'=w.drewN q:=by
 by_cases H:Z0c half old card
 ·by_cases hW:(nW:Int)=2*half+old
  ·by_cases hC:(nC:Int)=(old+card - 1) / card
   ·by_cases hU:0≤used∧used≤1
    ·by_cases hT:0≤top∧top≤half
     ·by_cases hO:0≤oldTop∧oldTop≤old
      ·exact absurd ⟨H,hW,hC,hU.1,hU.2,hT.1,hT.2,hO.1,hO.2⟩ F
      ·exact Zeo p half old card nW nC cW cC aW aC used top oldTop r k i H hW hC hU hT hO w M
     ·exact Ze1 p half old card nW nC cW cC aW aC used top oldTop r k i H hW hC hU hT w M
    ·exact Zd0 p half old card nW nC cW cC aW aC used top oldTop r k i H hW hC hU w M
   ·exact Zei p half old card nW nC cW cC aW aC used top oldTop r k i H hW hC w M
  ·exact Ze9 p half old card nW nC cW cC aW aC used top oldTop r k i H hW w M
 ·exact Zcr p half old card nW nC cW cC aW aC used top oldTop r k i H w M
end Go.Proofs.YtlkcbdinlfeoiaaGreatDoor
