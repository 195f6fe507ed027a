/- Package mem: numbers that do not fit (measured), by a contract. -/
import Derived.Test.YtlkcbdinlfeoiaaGreatDoorKnAA
namespace Go.Proofs.YtlkcbdinlfeoiaaGreatDoor
open Go.Proofs.Tryz Go.RowKit
set_option maxHeartbeats 8000000
set_option maxRecDepth 100000
theorem Zee (p:Nat) (half old card:Int) (nW nC cW cC:Nat) (aW aC:Option Addr) (used top oldTop:Int) (r k i:Value) (H:¬ Z0c half old card) (w:World)
  (M:MemAt p half old card (.slice aW nW cW) used top oldTop r k i (.slice aC nC cC) w) :
  Calls prog 123 #[.pointer (some ⟨p,0,none⟩)] w fun ev w'=>ev = .returned (.bool false) /\ ∃ q,w'=w.drewN q:=by
 have kb:Hid (∀ q,Calls prog 84 #[.pointer (some ⟨p,0,none⟩)] (w.drewN q) fun ev w'=>ev = .returned (.bool false)/\w'=w.drewN q):=fun q=>Zak p half old card H (w.drewN q) M.c0 M.c1 M.c2
 obtain ⟨c0,c1,c2,c3,c4,c5,c6,c7,c8,c9,c10⟩:=M
 clear H c7 c8 c9
 go_enter func123,ntmps123
 go_wp2_with fail
 go_quiet (first | (go_at_call 84;exact U0q (kb.out _)))
 go_wp2
 go_ret
 exact ⟨rfl,_,rfl⟩
theorem Zdt (p:Nat) (half old card:Int) (nW nC cW cC:Nat) (aW aC:Option Addr) (used top oldTop:Int) (r k i:Value) (H:Z0c half old card) (hW:¬ (nW:Int)=2*half+old) (w:World)
  (M:MemAt p half old card (.slice aW nW cW) used top oldTop r k i (.slice aC nC cC) w) :
  Calls prog 123 #[.pointer (some ⟨p,0,none⟩)] w fun ev w'=>ev = .returned (.bool false) /\ ∃ q,w'=w.drewN q:=by
 have kb:Hid (∀ q,Calls prog 84 #[.pointer (some ⟨p,0,none⟩)] (w.drewN q) fun ev w'=>ev = .returned (.bool true)/\w'=w.drewN q):=fun q=>Z2k p half old card H (w.drewN q) M.c0 M.c1 M.c2
 have ko:Hid (∀ q,Calls prog 85 #[.pointer (some ⟨p,0,none⟩)] (w.drewN q) fun ev w'=>ev = .returned (.int .i64 (2*half))/\w'=w.drewN q):=fun q=>Z0v p half (by unfold Z0c at H;omega) (by unfold Z0c at H;omega) (w.drewN q) M.c0
 have e1:IntKind.i64.wrap (2*half+old)=2*half+old:=by unfold Z0c at H;rw [Z18 _ (by omega) (by omega)]
 have e1':((nW:Int) == 2*half+old)=false:=by rw [U0w];exact hW
 obtain ⟨c0,c1,c2,c3,c4,c5,c6,c7,c8,c9,c10⟩:=M
 clear H hW c7 c8 c9
 go_enter func123,ntmps123
 go_wp2_with fail
 go_quiet (first | (go_at_call 84;exact U0q (kb.out _)) | (go_at_call 85;exact U0q (ko.out _)))
 go_wp2
 go_ret
 exact ⟨rfl,_,rfl⟩
theorem Zek (p:Nat) (half old card:Int) (nW nC cW cC:Nat) (aW aC:Option Addr) (used top oldTop:Int) (r k i:Value) (H:Z0c half old card) (hW:(nW:Int)=2*half+old) (hC:¬ (nC:Int)=(old+card - 1) / card) (w:World)
  (M:MemAt p half old card (.slice aW nW cW) used top oldTop r k i (.slice aC nC cC) w) :
  Calls prog 123 #[.pointer (some ⟨p,0,none⟩)] w fun ev w'=>ev = .returned (.bool false) /\ ∃ q,w'=w.drewN q:=by
 have kb:Hid (∀ q,Calls prog 84 #[.pointer (some ⟨p,0,none⟩)] (w.drewN q) fun ev w'=>ev = .returned (.bool true)/\w'=w.drewN q):=fun q=>Z2k p half old card H (w.drewN q) M.c0 M.c1 M.c2
 have ko:Hid (∀ q,Calls prog 85 #[.pointer (some ⟨p,0,none⟩)] (w.drewN q) fun ev w'=>ev = .returned (.int .i64 (2*half))/\w'=w.drewN q):=fun q=>Z0v p half (by unfold Z0c at H;omega) (by unfold Z0c at H;omega) (w.drewN q) M.c0
 have kc:Hid (∀ q,Calls prog 86 #[.pointer (some ⟨p,0,none⟩)] (w.drewN q) fun ev w'=>ev = .returned (.int .i64 ((old+card - 1) / card)) /\ ∃ m,w'=(w.drewN q).drewN m):=fun q=>Z4b p half old card H (w.drewN q) M.c1 M.c2
 have e1:IntKind.i64.wrap (2*half+old)=(nW:Int):=by unfold Z0c at H;rw [Z18 _ (by omega) (by omega)];exact hW.symm
 have e2:((nC:Int) == (old+card - 1) / card)=false:=by rw [U0w];exact hC
 obtain ⟨c0,c1,c2,c3,c4,c5,c6,c7,c8,c9,c10⟩:=M
 clear H hW hC c7 c8 c9
 go_enter func123,ntmps123
 go_wp2_with fail
 go_quiet (first | (go_at_call 84;exact U0q (kb.out _)) | (go_at_call 85;exact U0q (ko.out _)) | (go_at_call 86;exact U1a (kc.out _)))
 go_wp2
 go_ret
 exact ⟨rfl,_,rfl⟩
theorem Zcw (p:Nat) (half old card:Int) (nW nC cW cC:Nat) (aW aC:Option Addr) (used top oldTop:Int) (r k i:Value) (H:Z0c half old card) (hW:(nW:Int)=2*half+old) (hC:(nC:Int)=(old+card - 1) / card) (hU:¬ (0<=used/\used<=1)) (w:World)
  (M:MemAt p half old card (.slice aW nW cW) used top oldTop r k i (.slice aC nC cC) w) :
  Calls prog 123 #[.pointer (some ⟨p,0,none⟩)] w fun ev w'=>ev = .returned (.bool false) /\ ∃ q,w'=w.drewN q:=by
 have kb:Hid (∀ q,Calls prog 84 #[.pointer (some ⟨p,0,none⟩)] (w.drewN q) fun ev w'=>ev = .returned (.bool true)/\w'=w.drewN q):=fun q=>Z2k p half old card H (w.drewN q) M.c0 M.c1 M.c2
 have ko:Hid (∀ q,Calls prog 85 #[.pointer (some ⟨p,0,none⟩)] (w.drewN q) fun ev w'=>ev = .returned (.int .i64 (2*half))/\w'=w.drewN q):=fun q=>Z0v p half (by unfold Z0c at H;omega) (by unfold Z0c at H;omega) (w.drewN q) M.c0
 have kc:Hid (∀ q,Calls prog 86 #[.pointer (some ⟨p,0,none⟩)] (w.drewN q) fun ev w'=>ev = .returned (.int .i64 ((old+card - 1) / card)) /\ ∃ m,w'=(w.drewN q).drewN m):=fun q=>Z4b p half old card H (w.drewN q) M.c1 M.c2
 have e1:IntKind.i64.wrap (2*half+old)=(nW:Int):=by unfold Z0c at H;rw [Z18 _ (by omega) (by omega)];exact hW.symm
 have e2:((nC:Int) == (old+card - 1) / card)=true:=by rw [hC];simp
 have k1:Hid (∀ w,Calls prog 124 #[.int .i64 used,.int .i64 0,.int .i64 1] w fun ev w'=>ev = .returned (.bool false)/\w'=w):=fun w=>Z38 used 0 1 hU w
 obtain ⟨c0,c1,c2,c3,c4,c5,c6,c7,c8,c9,c10⟩:=M
 clear H hW hC hU c7 c8 c9
 go_enter func123,ntmps123
 go_wp2_with fail
 go_quiet (first | (go_at_call 84;exact U0q (kb.out _)) | (go_at_call 85;exact U0q (ko.out _)) | (go_at_call 86;exact U1a (kc.out _)) | (go_at_call_of 124 used;exact U0q (k1.out _)))
 go_wp2
 go_ret
 exact ⟨rfl,_,rfl⟩
theorem Zd5 (p:Nat) (half old card:Int) (nW nC cW cC:Nat) (aW aC:Option Addr) (used top oldTop:Int) (r k i:Value) (H:Z0c half old card) (hW:(nW:Int)=2*half+old) (hC:(nC:Int)=(old+card - 1) / card) (hU:0<=used/\used<=1) (hT:¬ (0<=top/\top<=half)) (w:World)
  (M:MemAt p half old card (.slice aW nW cW) used top oldTop r k i (.slice aC nC cC) w) :
  Calls prog 123 #[.pointer (some ⟨p,0,none⟩)] w fun ev w'=>ev = .returned (.bool false) /\ ∃ q,w'=w.drewN q:=by
 have kb:Hid (∀ q,Calls prog 84 #[.pointer (some ⟨p,0,none⟩)] (w.drewN q) fun ev w'=>ev = .returned (.bool true)/\w'=w.drewN q):=fun q=>Z2k p half old card H (w.drewN q) M.c0 M.c1 M.c2
 have ko:Hid (∀ q,Calls prog 85 #[.pointer (some ⟨p,0,none⟩)] (w.drewN q) fun ev w'=>ev = .returned (.int .i64 (2*half))/\w'=w.drewN q):=fun q=>Z0v p half (by unfold Z0c at H;omega) (by unfold Z0c at H;omega) (w.drewN q) M.c0
 have kc:Hid (∀ q,Calls prog 86 #[.pointer (some ⟨p,0,none⟩)] (w.drewN q) fun ev w'=>ev = .returned (.int .i64 ((old+card - 1) / card)) /\ ∃ m,w'=(w.drewN q).drewN m):=fun q=>Z4b p half old card H (w.drewN q) M.c1 M.c2
 have e1:IntKind.i64.wrap (2*half+old)=(nW:Int):=by unfold Z0c at H;rw [Z18 _ (by omega) (by omega)];exact hW.symm
 have e2:((nC:Int) == (old+card - 1) / card)=true:=by rw [hC];simp
 have k1:Hid (∀ w,Calls prog 124 #[.int .i64 used,.int .i64 0,.int .i64 1] w fun ev w'=>ev = .returned (.bool true)/\w'=w):=fun w=>Z1c used 0 1 hU.1 hU.2 w
 have k2:Hid (∀ w,Calls prog 124 #[.int .i64 top,.int .i64 0,.int .i64 half] w fun ev w'=>ev = .returned (.bool false)/\w'=w):=fun w=>Z38 top 0 half hT w
 obtain ⟨c0,c1,c2,c3,c4,c5,c6,c7,c8,c9,c10⟩:=M
 clear H hW hC hU hT c7 c8 c9
 go_enter func123,ntmps123
 go_wp2_with fail
 go_quiet (first | (go_at_call 84;exact U0q (kb.out _)) | (go_at_call 85;exact U0q (ko.out _)) | (go_at_call 86;exact U1a (kc.out _)) | (go_at_call_of 124 used;exact U0q (k1.out _)) | (go_at_call_of 124 top;exact U0q (k2.out _)))
 go_wp2
 go_ret
 exact ⟨rfl,_,rfl⟩
theorem Zdp (p:Nat) (half old card:Int) (nW nC cW cC:Nat) (aW aC:Option Addr) (used top oldTop:Int) (r k i:Value) (H:Z0c half old card) (hW:(nW:Int)=2*half+old) (hC:(nC:Int)=(old+card - 1) / card) (hU:0<=used/\used<=1) (hT:0<=top/\top<=half) (hO:¬ (0<=oldTop/\oldTop<=old)) (w:World)
  (M:MemAt p half old card (.slice aW nW cW) used top oldTop r k i (.slice aC nC cC) w) :
  Calls prog 123 #[.pointer (some ⟨p,0,none⟩)] w fun ev w'=>ev = .returned (.bool false) /\ ∃ q,w'=w.drewN q:=by
 have kb:Hid (∀ q,Calls prog 84 #[.pointer (some ⟨p,0,none⟩)] (w.drewN q) fun ev w'=>ev = .returned (.bool true)/\w'=w.drewN q):=fun q=>Z2k p half old card H (w.drewN q) M.c0 M.c1 M.c2
 have ko:Hid (∀ q,Calls prog 85 #[.pointer (some ⟨p,0,none⟩)] (w.drewN q) fun ev w'=>ev = .returned (.int .i64 (2*half))/\w'=w.drewN q):=fun q=>Z0v p half (by unfold Z0c at H;omega) (by unfold Z0c at H;omega) (w.drewN q) M.c0
 have kc:Hid (∀ q,Calls prog 86 #[.pointer (some ⟨p,0,none⟩)] (w.drewN q) fun ev w'=>ev = .returned (.int .i64 ((old+card - 1) / card)) /\ ∃ m,w'=(w.drewN q).drewN m):=fun q=>Z4b p half old card H (w.drewN q) M.c1 M.c2
 have e1:IntKind.i64.wrap (2*half+old)=(nW:Int):=by unfold Z0c at H;rw [Z18 _ (by omega) (by omega)];exact hW.symm
 have e2:((nC:Int) == (old+card - 1) / card)=true:=by rw [hC];simp
 have k1:Hid (∀ w,Calls prog 124 #[.int .i64 used,.int .i64 0,.int .i64 1] w fun ev w'=>ev = .returned (.bool true)/\w'=w):=fun w=>Z1c used 0 1 hU.1 hU.2 w
 have k2:Hid (∀ w,Calls prog 124 #[.int .i64 top,.int .i64 0,.int .i64 half] w fun ev w'=>ev = .returned (.bool true)/\w'=w):=fun w=>Z1c top 0 half hT.1 hT.2 w
 have k3:Hid (∀ w,Calls prog 124 #[.int .i64 oldTop,.int .i64 0,.int .i64 old] w fun ev w'=>ev = .returned (.bool false)/\w'=w):=fun w=>Z38 oldTop 0 old hO w
 obtain ⟨c0,c1,c2,c3,c4,c5,c6,c7,c8,c9,c10⟩:=M
 clear H hW hC hU hT hO c7 c8 c9
 go_enter func123,ntmps123
 go_wp2_with fail
 go_quiet (first | (go_at_call 84;exact U0q (kb.out _)) | (go_at_call 85;exact U0q (ko.out _)) | (go_at_call 86;exact U1a (kc.out _)) | (go_at_call_of 124 used;exact U0q (k1.out _)) | (go_at_call_of 124 top;exact U0q (k2.out _)) | (go_at_call_of 124 oldTop;exact U0q (k3.out _)))
 go_wp2
 go_ret
 exact ⟨rfl,_,rfl⟩
theorem Zfd (p:Nat) (half old card:Int) (nW nC cW cC:Nat) (aW aC:Option Addr) (used top oldTop:Int) (r k i:Value) (F:¬ Fits half old card nW nC used top oldTop) (w:World)
  (M:MemAt p half old card (.slice aW nW cW) used top oldTop r k i (.slice aC nC cC) w) :
  Calls prog 123 #[.pointer (some ⟨p,0,none⟩)] w fun ev w'=>ev = .returned (.bool false) /\ ∃ q,w'=w.drewN q:=by
 by_cases H:Z0c half old card
 ·by_cases hW:(nW:Int)=2*half+old
  ·by_cases hC:(nC:Int)=(old+card - 1) / card
   ·by_cases hU:0<=used/\used<=1
    ·by_cases hT:0<=top/\top<=half
     ·by_cases hO:0<=oldTop/\oldTop<=old
      ·exact absurd ⟨H,hW,hC,hU.1,hU.2,hT.1,hT.2,hO.1,hO.2⟩ F
      ·exact Zdp p half old card nW nC cW cC aW aC used top oldTop r k i H hW hC hU hT hO w M
     ·exact Zd5 p half old card nW nC cW cC aW aC used top oldTop r k i H hW hC hU hT w M
    ·exact Zcw p half old card nW nC cW cC aW aC used top oldTop r k i H hW hC hU w M
   ·exact Zek p half old card nW nC cW cC aW aC used top oldTop r k i H hW hC w M
  ·exact Zdt p half old card nW nC cW cC aW aC used top oldTop r k i H hW w M
 ·exact Zee p half old card nW nC cW cC aW aC used top oldTop r k i H w M
end Go.Proofs.YtlkcbdinlfeoiaaGreatDoor
