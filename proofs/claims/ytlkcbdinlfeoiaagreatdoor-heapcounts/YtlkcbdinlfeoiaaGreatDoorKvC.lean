/- The statements' act on a heap, act by act. -/
import Derived.Test.YtlkcbdinlfeoiaaGreatDoorKvA
import Derived.Test.YtlkcbdinlfeoiaaGreatDoorKrC
namespace Go.Proofs.YtlkcbdinlfeoiaaGreatDoor
open Go.Proofs.Tryz
open Go.RowKit Go.Maps

variable {h:HP}{sr:Int}{m:MD}{w w':World}{a:Nat→Addr}{w0:World}{M:MO}{X:MXtra}
def Z5y (name:ByteArray) (A B C N:Int) (S:ByteArray):Value:=.agg #[.string name,.int .i64 A,.int .i64 B,.int .i64 C,.int .i64 N,.string S]
set_option maxHeartbeats 2000000 in
set_option maxRecDepth 100000 in
theorem Zrt {q:Nat}{A B C N:Int}{nm S:ByteArray} (hn:nm.toList = [105,110,116]) (P:Value→World→Prop)
  (k:∀ W,Below w.heap.size w W→Calls prog 38 #[.pointer (some ⟨q,0,none⟩),.int .i64 A,.int .i64 N] W fun ev w' => ∃ v,ev = .returned v∧P v w') :
  Calls prog 15 #[.pointer (some ⟨q,0,none⟩),Z5y nm A B C N S] w fun ev w' => ∃ v,ev = .returned (.tuple #[.int .i64 0,.bool false,v])∧P v w':=by
 have e1:(nm.toList == [105,110,116])=true:=by rw [hn];rfl
 have k1:=k (w.alloc (.cells #[.string nm,.int .i64 A,.int .i64 B,.int .i64 C,.int .i64 N,.string S] 36)) ((Below.refl _ _).alloc (Nat.le_refl _) _)
 clear k hn
 unfold Z5y
 go_enter func15,ntmps15
 go_wp2_with fail
 refine k1.mono ?_
 clear k1
 rintro ev w2 ⟨v,rfl,hP⟩
 have HP':=Z00 hP
 clear hP
 go_wp2_with fail
 go_ret3
 exact ⟨v,rfl,HP'.out⟩
set_option maxHeartbeats 2000000 in
set_option maxRecDepth 100000 in
theorem Zkf {q:Nat}{A B C N:Int}{nm S:ByteArray} (hn:nm.toList = [99,111,110,115,116]) (P:Value→World→Prop)
  (k:∀ W,Below w.heap.size w W→Calls prog 32 #[.pointer (some ⟨q,0,none⟩),.int .i64 A,.int .i64 B] W fun ev w' => ∃ v,ev = .returned v∧P v w') :
  Calls prog 15 #[.pointer (some ⟨q,0,none⟩),Z5y nm A B C N S] w fun ev w' => ∃ v,ev = .returned (.tuple #[.int .i64 0,.bool false,v])∧P v w':=by
 have e1:(nm.toList == [105,110,116])=false:=by rw [hn];rfl
 have e2:(nm.toList == [99,111,110,115,116])=true:=by rw [hn];rfl
 have k1:=k (w.alloc (.cells #[.string nm,.int .i64 A,.int .i64 B,.int .i64 C,.int .i64 N,.string S] 36)) ((Below.refl _ _).alloc (Nat.le_refl _) _)
 clear k hn
 unfold Z5y
 go_enter func15,ntmps15
 go_wp2_with fail
 refine k1.mono ?_
 clear k1
 rintro ev w2 ⟨v,rfl,hP⟩
 have HP':=Z00 hP
 clear hP
 go_wp2_with fail
 go_ret3
 exact ⟨v,rfl,HP'.out⟩
set_option maxHeartbeats 2000000 in
set_option maxRecDepth 100000 in
theorem Zoy {q:Nat}{A B C N:Int}{nm S:ByteArray} (hn:nm.toList = [116,101,120,116]) (P:Value→World→Prop)
  (k:∀ W,Below w.heap.size w W→Calls prog 44 #[.pointer (some ⟨q,0,none⟩),.int .i64 A,.string S] W fun ev w' => ∃ v,ev = .returned v∧P v w') :
  Calls prog 15 #[.pointer (some ⟨q,0,none⟩),Z5y nm A B C N S] w fun ev w' => ∃ v,ev = .returned (.tuple #[.int .i64 0,.bool false,v])∧P v w':=by
 have e1:(nm.toList == [105,110,116])=false:=by rw [hn];rfl
 have e2:(nm.toList == [99,111,110,115,116])=false:=by rw [hn];rfl
 have e3:(nm.toList == [116,101,120,116])=true:=by rw [hn];rfl
 have k1:=k (w.alloc (.cells #[.string nm,.int .i64 A,.int .i64 B,.int .i64 C,.int .i64 N,.string S] 36)) ((Below.refl _ _).alloc (Nat.le_refl _) _)
 clear k hn
 unfold Z5y
 go_enter func15,ntmps15
 go_wp2_with fail
 refine k1.mono ?_
 clear k1
 rintro ev w2 ⟨v,rfl,hP⟩
 have HP':=Z00 hP
 clear hP
 go_wp2_with fail
 go_ret3
 exact ⟨v,rfl,HP'.out⟩
set_option maxHeartbeats 2000000 in
set_option maxRecDepth 100000 in
theorem Zp3 {q:Nat}{A B C N:Int}{nm S:ByteArray} (hn:nm.toList = [109,97,107,101]) (P:Value→World→Prop)
  (k:∀ W,Below w.heap.size w W→Calls prog 28 #[.pointer (some ⟨q,0,none⟩),.int .i64 A,.int .i64 B,.int .i64 C] W fun ev w' => ∃ v,ev = .returned v∧P v w') :
  Calls prog 15 #[.pointer (some ⟨q,0,none⟩),Z5y nm A B C N S] w fun ev w' => ∃ v,ev = .returned (.tuple #[.int .i64 0,.bool false,v])∧P v w':=by
 have e1:(nm.toList == [105,110,116])=false:=by rw [hn];rfl
 have e2:(nm.toList == [99,111,110,115,116])=false:=by rw [hn];rfl
 have e3:(nm.toList == [116,101,120,116])=false:=by rw [hn];rfl
 have e4:(nm.toList == [109,97,107,101])=true:=by rw [hn];rfl
 have k1:=k (w.alloc (.cells #[.string nm,.int .i64 A,.int .i64 B,.int .i64 C,.int .i64 N,.string S] 36)) ((Below.refl _ _).alloc (Nat.le_refl _) _)
 clear k hn
 unfold Z5y
 go_enter func15,ntmps15
 go_wp2_with fail
 refine k1.mono ?_
 clear k1
 rintro ev w2 ⟨v,rfl,hP⟩
 have HP':=Z00 hP
 clear hP
 go_wp2_with fail
 go_ret3
 exact ⟨v,rfl,HP'.out⟩
set_option maxHeartbeats 2000000 in
set_option maxRecDepth 100000 in
theorem Zoh {q:Nat}{A B C N:Int}{nm S:ByteArray} (hn:nm.toList = [99,111,112,121]) (P:Value→World→Prop)
  (k:∀ W,Below w.heap.size w W→Calls prog 31 #[.pointer (some ⟨q,0,none⟩),.int .i64 A,.int .i64 B] W fun ev w' => ∃ v,ev = .returned v∧P v w') :
  Calls prog 15 #[.pointer (some ⟨q,0,none⟩),Z5y nm A B C N S] w fun ev w' => ∃ v,ev = .returned (.tuple #[.int .i64 0,.bool false,v])∧P v w':=by
 have e1:(nm.toList == [105,110,116])=false:=by rw [hn];rfl
 have e2:(nm.toList == [99,111,110,115,116])=false:=by rw [hn];rfl
 have e3:(nm.toList == [116,101,120,116])=false:=by rw [hn];rfl
 have e4:(nm.toList == [109,97,107,101])=false:=by rw [hn];rfl
 have e5:(nm.toList == [99,111,112,121])=true:=by rw [hn];rfl
 have k1:=k (w.alloc (.cells #[.string nm,.int .i64 A,.int .i64 B,.int .i64 C,.int .i64 N,.string S] 36)) ((Below.refl _ _).alloc (Nat.le_refl _) _)
 clear k hn
 unfold Z5y
 go_enter func15,ntmps15
 go_wp2_with fail
 refine k1.mono ?_
 clear k1
 rintro ev w2 ⟨v,rfl,hP⟩
 have HP':=Z00 hP
 clear hP
 go_wp2_with fail
 go_ret3
 exact ⟨v,rfl,HP'.out⟩
set_option maxHeartbeats 2000000 in
set_option maxRecDepth 100000 in
theorem Zs8 {q:Nat}{A B C N:Int}{nm S:ByteArray} (hn:nm.toList = [103,101,116]) (P:Value→World→Prop)
  (k:∀ W,Below w.heap.size w W→Calls prog 45 #[.pointer (some ⟨q,0,none⟩),.int .i64 A,.int .i64 B,.int .i64 C] W fun ev w' => ∃ v,ev = .returned v∧P v w') :
  Calls prog 15 #[.pointer (some ⟨q,0,none⟩),Z5y nm A B C N S] w fun ev w' => ∃ v,ev = .returned (.tuple #[.int .i64 0,.bool false,v])∧P v w':=by
 have e1:(nm.toList == [105,110,116])=false:=by rw [hn];rfl
 have e2:(nm.toList == [99,111,110,115,116])=false:=by rw [hn];rfl
 have e3:(nm.toList == [116,101,120,116])=false:=by rw [hn];rfl
 have e4:(nm.toList == [109,97,107,101])=false:=by rw [hn];rfl
 have e5:(nm.toList == [99,111,112,121])=false:=by rw [hn];rfl
 have e6:(nm.toList == [103,101,116])=true:=by rw [hn];rfl
 have k1:=k (w.alloc (.cells #[.string nm,.int .i64 A,.int .i64 B,.int .i64 C,.int .i64 N,.string S] 36)) ((Below.refl _ _).alloc (Nat.le_refl _) _)
 clear k hn
 unfold Z5y
 go_enter func15,ntmps15
 go_wp2_with fail
 refine k1.mono ?_
 clear k1
 rintro ev w2 ⟨v,rfl,hP⟩
 have HP':=Z00 hP
 clear hP
 go_wp2_with fail
 go_ret3
 exact ⟨v,rfl,HP'.out⟩
set_option maxHeartbeats 2000000 in
set_option maxRecDepth 100000 in
theorem Zs0 {q:Nat}{A B C N:Int}{nm S:ByteArray} (hn:nm.toList = [112,117,116]) (P:Value→World→Prop)
  (k:∀ W,Below w.heap.size w W→Calls prog 30 #[.pointer (some ⟨q,0,none⟩),.int .i64 A,.int .i64 B,.int .i64 C] W fun ev w' => ∃ v,ev = .returned v∧P v w') :
  Calls prog 15 #[.pointer (some ⟨q,0,none⟩),Z5y nm A B C N S] w fun ev w' => ∃ v,ev = .returned (.tuple #[.int .i64 0,.bool false,v])∧P v w':=by
 have e1:(nm.toList == [105,110,116])=false:=by rw [hn];rfl
 have e2:(nm.toList == [99,111,110,115,116])=false:=by rw [hn];rfl
 have e3:(nm.toList == [116,101,120,116])=false:=by rw [hn];rfl
 have e4:(nm.toList == [109,97,107,101])=false:=by rw [hn];rfl
 have e5:(nm.toList == [99,111,112,121])=false:=by rw [hn];rfl
 have e6:(nm.toList == [103,101,116])=false:=by rw [hn];rfl
 have e7:(nm.toList == [112,117,116])=true:=by rw [hn];rfl
 have k1:=k (w.alloc (.cells #[.string nm,.int .i64 A,.int .i64 B,.int .i64 C,.int .i64 N,.string S] 36)) ((Below.refl _ _).alloc (Nat.le_refl _) _)
 clear k hn
 unfold Z5y
 go_enter func15,ntmps15
 go_wp2_with fail
 refine k1.mono ?_
 clear k1
 rintro ev w2 ⟨v,rfl,hP⟩
 have HP':=Z00 hP
 clear hP
 go_wp2_with fail
 go_ret3
 exact ⟨v,rfl,HP'.out⟩
set_option maxHeartbeats 2000000 in
set_option maxRecDepth 100000 in
theorem Zm9 {q:Nat}{A B C N:Int}{nm S:ByteArray} (hn:nm.toList = [109,105,110,111,114]) (P:Value→World→Prop)
  (k:∀ W,Below w.heap.size w W→Calls prog 26 #[.pointer (some ⟨q,0,none⟩)] W fun ev w' => ∃ v,ev = .returned v∧P v w') :
  Calls prog 15 #[.pointer (some ⟨q,0,none⟩),Z5y nm A B C N S] w fun ev w' => ∃ v,ev = .returned (.tuple #[.int .i64 0,.bool false,v])∧P v w':=by
 have e1:(nm.toList == [105,110,116])=false:=by rw [hn];rfl
 have e2:(nm.toList == [99,111,110,115,116])=false:=by rw [hn];rfl
 have e3:(nm.toList == [116,101,120,116])=false:=by rw [hn];rfl
 have e4:(nm.toList == [109,97,107,101])=false:=by rw [hn];rfl
 have e5:(nm.toList == [99,111,112,121])=false:=by rw [hn];rfl
 have e6:(nm.toList == [103,101,116])=false:=by rw [hn];rfl
 have e7:(nm.toList == [112,117,116])=false:=by rw [hn];rfl
 have e8:(nm.toList == [109,105,110,111,114])=true:=by rw [hn];rfl
 have k1:=k (w.alloc (.cells #[.string nm,.int .i64 A,.int .i64 B,.int .i64 C,.int .i64 N,.string S] 36)) ((Below.refl _ _).alloc (Nat.le_refl _) _)
 clear k hn
 unfold Z5y
 go_enter func15,ntmps15
 go_wp2_with fail
 refine k1.mono ?_
 clear k1
 rintro ev w2 ⟨v,rfl,hP⟩
 have HP':=Z00 hP
 clear hP
 go_wp2_with fail
 go_ret3
 exact ⟨v,rfl,HP'.out⟩
set_option maxHeartbeats 2000000 in
set_option maxRecDepth 100000 in
theorem Zmw {q:Nat}{A B C N:Int}{nm S:ByteArray} (hn:nm.toList = [109,97,106,111,114]) (P:Value→World→Prop)
  (k:∀ W,Below w.heap.size w W→Calls prog 27 #[.pointer (some ⟨q,0,none⟩)] W fun ev w' => ∃ v,ev = .returned v∧P v w') :
  Calls prog 15 #[.pointer (some ⟨q,0,none⟩),Z5y nm A B C N S] w fun ev w' => ∃ v,ev = .returned (.tuple #[.int .i64 0,.bool false,v])∧P v w':=by
 have e1:(nm.toList == [105,110,116])=false:=by rw [hn];rfl
 have e2:(nm.toList == [99,111,110,115,116])=false:=by rw [hn];rfl
 have e3:(nm.toList == [116,101,120,116])=false:=by rw [hn];rfl
 have e4:(nm.toList == [109,97,107,101])=false:=by rw [hn];rfl
 have e5:(nm.toList == [99,111,112,121])=false:=by rw [hn];rfl
 have e6:(nm.toList == [103,101,116])=false:=by rw [hn];rfl
 have e7:(nm.toList == [112,117,116])=false:=by rw [hn];rfl
 have e8:(nm.toList == [109,105,110,111,114])=false:=by rw [hn];rfl
 have e9:(nm.toList == [109,97,106,111,114])=true:=by rw [hn];rfl
 have k1:=k (w.alloc (.cells #[.string nm,.int .i64 A,.int .i64 B,.int .i64 C,.int .i64 N,.string S] 36)) ((Below.refl _ _).alloc (Nat.le_refl _) _)
 clear k hn
 unfold Z5y
 go_enter func15,ntmps15
 go_wp2_with fail
 refine k1.mono ?_
 clear k1
 rintro ev w2 ⟨v,rfl,hP⟩
 have HP':=Z00 hP
 clear hP
 go_wp2_with fail
 go_ret3
 exact ⟨v,rfl,HP'.out⟩
set_option maxHeartbeats 2000000 in
set_option maxRecDepth 100000 in
theorem Zj0 {q:Nat}{A B C N:Int}{nm S:ByteArray} (hn:nm.toList = [115,101,114,105,97,108]) (P:Int→Value→World→Prop)
  (k:∀ W,Below w.heap.size w W→Calls prog 46 #[.pointer (some ⟨q,0,none⟩),.int .i64 A] W fun ev w' => ∃ x v,ev = .returned (.tuple #[.int .i64 x,v])∧P x v w') :
  Calls prog 15 #[.pointer (some ⟨q,0,none⟩),Z5y nm A B C N S] w fun ev w' => ∃ x v,ev = .returned (.tuple #[.int .i64 x,.bool false,v])∧P x v w':=by
 have e1:(nm.toList == [105,110,116])=false:=by rw [hn];rfl
 have e2:(nm.toList == [99,111,110,115,116])=false:=by rw [hn];rfl
 have e3:(nm.toList == [116,101,120,116])=false:=by rw [hn];rfl
 have e4:(nm.toList == [109,97,107,101])=false:=by rw [hn];rfl
 have e5:(nm.toList == [99,111,112,121])=false:=by rw [hn];rfl
 have e6:(nm.toList == [103,101,116])=false:=by rw [hn];rfl
 have e7:(nm.toList == [112,117,116])=false:=by rw [hn];rfl
 have e8:(nm.toList == [109,105,110,111,114])=false:=by rw [hn];rfl
 have e9:(nm.toList == [109,97,106,111,114])=false:=by rw [hn];rfl
 have e10:(nm.toList == [115,101,114,105,97,108])=true:=by rw [hn];rfl
 have k1:=k (w.alloc (.cells #[.string nm,.int .i64 A,.int .i64 B,.int .i64 C,.int .i64 N,.string S] 36)) ((Below.refl _ _).alloc (Nat.le_refl _) _)
 clear k hn
 unfold Z5y
 go_enter func15,ntmps15
 go_wp2_with fail
 refine k1.mono ?_
 clear k1
 rintro ev w2 ⟨x,v,rfl,hP⟩
 have HP':=Z00 hP
 clear hP
 go_wp2_with fail
 go_ret3
 exact ⟨x,v,rfl,HP'.out⟩
set_option maxHeartbeats 2000000 in
set_option maxRecDepth 100000 in
theorem Zqc {q:Nat}{A B C N:Int}{nm S:ByteArray} (hn:nm.toList = [119,101,97,107]) (P:Int→Value→World→Prop)
  (k:∀ W,Below w.heap.size w W→Calls prog 29 #[.pointer (some ⟨q,0,none⟩),.int .i64 A] W fun ev w' => ∃ x v,ev = .returned (.tuple #[.int .i64 x,v])∧P x v w') :
  Calls prog 15 #[.pointer (some ⟨q,0,none⟩),Z5y nm A B C N S] w fun ev w' => ∃ x v,ev = .returned (.tuple #[.int .i64 x,.bool false,v])∧P x v w':=by
 have e1:(nm.toList == [105,110,116])=false:=by rw [hn];rfl
 have e2:(nm.toList == [99,111,110,115,116])=false:=by rw [hn];rfl
 have e3:(nm.toList == [116,101,120,116])=false:=by rw [hn];rfl
 have e4:(nm.toList == [109,97,107,101])=false:=by rw [hn];rfl
 have e5:(nm.toList == [99,111,112,121])=false:=by rw [hn];rfl
 have e6:(nm.toList == [103,101,116])=false:=by rw [hn];rfl
 have e7:(nm.toList == [112,117,116])=false:=by rw [hn];rfl
 have e8:(nm.toList == [109,105,110,111,114])=false:=by rw [hn];rfl
 have e9:(nm.toList == [109,97,106,111,114])=false:=by rw [hn];rfl
 have e10:(nm.toList == [115,101,114,105,97,108])=false:=by rw [hn];rfl
 have e11:(nm.toList == [119,101,97,107])=true:=by rw [hn];rfl
 have k1:=k (w.alloc (.cells #[.string nm,.int .i64 A,.int .i64 B,.int .i64 C,.int .i64 N,.string S] 36)) ((Below.refl _ _).alloc (Nat.le_refl _) _)
 clear k hn
 unfold Z5y
 go_enter func15,ntmps15
 go_wp2_with fail
 refine k1.mono ?_
 clear k1
 rintro ev w2 ⟨x,v,rfl,hP⟩
 have HP':=Z00 hP
 clear hP
 go_wp2_with fail
 go_ret3
 exact ⟨x,v,rfl,HP'.out⟩
set_option maxHeartbeats 2000000 in
set_option maxRecDepth 100000 in
theorem Zot {q:Nat}{A B C N:Int}{nm S:ByteArray} (hn:nm.toList = [108,111,111,107]) (P:Bool→Value→World→Prop)
  (k:∀ W,Below w.heap.size w W→Calls prog 33 #[.pointer (some ⟨q,0,none⟩),.int .i64 A,.int .i64 B] W fun ev w' => ∃ x v,ev = .returned (.tuple #[.bool x,v])∧P x v w') :
  Calls prog 15 #[.pointer (some ⟨q,0,none⟩),Z5y nm A B C N S] w fun ev w' => ∃ x v,ev = .returned (.tuple #[.int .i64 0,.bool x,v])∧P x v w':=by
 have e1:(nm.toList == [105,110,116])=false:=by rw [hn];rfl
 have e2:(nm.toList == [99,111,110,115,116])=false:=by rw [hn];rfl
 have e3:(nm.toList == [116,101,120,116])=false:=by rw [hn];rfl
 have e4:(nm.toList == [109,97,107,101])=false:=by rw [hn];rfl
 have e5:(nm.toList == [99,111,112,121])=false:=by rw [hn];rfl
 have e6:(nm.toList == [103,101,116])=false:=by rw [hn];rfl
 have e7:(nm.toList == [112,117,116])=false:=by rw [hn];rfl
 have e8:(nm.toList == [109,105,110,111,114])=false:=by rw [hn];rfl
 have e9:(nm.toList == [109,97,106,111,114])=false:=by rw [hn];rfl
 have e10:(nm.toList == [115,101,114,105,97,108])=false:=by rw [hn];rfl
 have e11:(nm.toList == [119,101,97,107])=false:=by rw [hn];rfl
 have e12:(nm.toList == [108,111,111,107])=true:=by rw [hn];rfl
 have k1:=k (w.alloc (.cells #[.string nm,.int .i64 A,.int .i64 B,.int .i64 C,.int .i64 N,.string S] 36)) ((Below.refl _ _).alloc (Nat.le_refl _) _)
 clear k hn
 unfold Z5y
 go_enter func15,ntmps15
 go_wp2_with fail
 refine k1.mono ?_
 clear k1
 rintro ev w2 ⟨x,v,rfl,hP⟩
 have HP':=Z00 hP
 clear hP
 go_wp2_with fail
 go_ret3
 exact ⟨x,v,rfl,HP'.out⟩
end Go.Proofs.YtlkcbdinlfeoiaaGreatDoor
namespace Go.Proofs.YtlkcbdinlfeoiaaGreatDoor
open Go.Proofs.Tryz
open Go.RowKit Go.Maps

def Z1i:List (List UInt8):=[[105,110,116],[99,111,110,115,116],[116,101,120,116],[109,97,107,101],[99,111,112,121],[103,101,116],[112,117,116],[109,105,110,111,114],[109,97,106,111,114],[115,101,114,105,97,108],[119,101,97,107],[108,111,111,107]]
set_option maxHeartbeats 2000000 in
set_option maxRecDepth 100000 in
theorem Zjz {w:World}{q:Nat}{A B C N:Int}{nm S:ByteArray} (hn:nm.toList ∉ Z1i) :
  Calls prog 15 #[.pointer (some ⟨q,0,none⟩),Z5y nm A B C N S] w fun ev w'=>ev = .returned (.tuple #[.int .i64 0,.bool false,.nilIface])∧Below w.heap.size w w':=by
 have no:∀ l∈Z1i,(nm.toList == l)=false:=fun l hl=>by rw [beq_eq_false_iff_ne];rintro rfl;exact hn hl
 have e1:(nm.toList == [105,110,116])=false:=no _ (by simp [Z1i])
 have e2:(nm.toList == [99,111,110,115,116])=false:=no _ (by simp [Z1i])
 have e3:(nm.toList == [116,101,120,116])=false:=no _ (by simp [Z1i])
 have e4:(nm.toList == [109,97,107,101])=false:=no _ (by simp [Z1i])
 have e5:(nm.toList == [99,111,112,121])=false:=no _ (by simp [Z1i])
 have e6:(nm.toList == [103,101,116])=false:=no _ (by simp [Z1i])
 have e7:(nm.toList == [112,117,116])=false:=no _ (by simp [Z1i])
 have e8:(nm.toList == [109,105,110,111,114])=false:=no _ (by simp [Z1i])
 have e9:(nm.toList == [109,97,106,111,114])=false:=no _ (by simp [Z1i])
 have e10:(nm.toList == [115,101,114,105,97,108])=false:=no _ (by simp [Z1i])
 have e11:(nm.toList == [119,101,97,107])=false:=no _ (by simp [Z1i])
 have e12:(nm.toList == [108,111,111,107])=false:=no _ (by simp [Z1i])
 have b1:Below w.heap.size w (w.alloc (.cells #[.string nm,.int .i64 A,.int .i64 B,.int .i64 C,.int .i64 N,.string S] 36)):=(Below.refl _ _).alloc (Nat.le_refl _) _
 have HB:=Z00 b1
 clear no hn b1
 unfold Z5y
 go_enter func15,ntmps15
 go_wp2_with fail
 go_ret3
 exact ⟨rfl,HB.out⟩
end Go.Proofs.YtlkcbdinlfeoiaaGreatDoor
namespace Go.Proofs.YtlkcbdinlfeoiaaGreatDoor
open Go.Proofs.Tryz
open Go.RowKit Go.Maps

structure Res where
 e:Nat
 num:Int
 M:MO
 X:MXtra
 need:Int
def Res.err (M:MO) (X:MXtra) (e:Nat):Res:=⟨e,0,M,X,0⟩
def inR (M:MO) (r:Int):Prop:=0≤r∧r<(M.R.length:Int)
instance (M:MO) (r:Int):Decidable (inR M r):=inferInstanceAs (Decidable (_∧_))
def Z1f (M:MO) (r:Int):CL:=M.R.getD r.toNat cl0
def Z5x (M:MO) (i:Nat):ND:=M.N.getD i ⟨0,[],[]⟩
def Z5c (M:MO) (r k:Int):Nat:=
 if inR M r then if (Z1f M r).kind=4 then if (Z5x M (Z1f M r).ref).kind<8 then 2 else if 0≤k∧k<((Z5x M (Z1f M r).ref).f.length:Int) then 0 else 1 else 2 else 4
def Z56 (M:MO) (r:Int):Nat:=if inR M r then if (Z1f M r).kind=4 then 0 else 2 else 4
def Zsy (M:MO) (X:MXtra) (A n:Int):Res:=
 if inR M A then if -2305843009213693952≤n∧n<2305843009213693952 then ⟨0,0,M.set A.toNat (clI n),X,0⟩ else ⟨0,0,M.made A.toNat (Zq3 n),X,2⟩ else .err M X 4
def Zdv (M:MO) (X:MXtra) (A B:Int):Res:=
 if inR M A then if 0≤B∧B≤2 then ⟨0,0,M.set A.toNat (clK B.toNat),X,0⟩ else .err M X 1 else .err M X 4
def Zlp (M:MO) (X:MXtra) (A:Int) (S:ByteArray):Res:=
 if inR M A then if S.size≤2000 then ⟨0,0,M.made A.toNat (mkTx S),X,1+((Z4s S).length:Int)⟩ else .err M X 1 else .err M X 4
def Zmr (M:MO) (X:MXtra) (A B C:Int):Res:=
 if inR M A then if 8≤B∧B≤255∧0≤C∧C≤4096 then ⟨0,0,M.made A.toNat (mkN B C.toNat),X,1+C⟩ else .err M X 1 else .err M X 4
def Zk9 (M:MO) (X:MXtra) (A B:Int):Res:=
 if inR M A then if inR M B then ⟨0,0,M.set A.toNat (Z1f M B),X,0⟩ else .err M X 4 else .err M X 4
def Zst (M:MO) (X:MXtra) (A B C:Int):Res:=
 if inR M C then if Z5c M A B=0 then ⟨0,0,M.set C.toNat ((Z5x M (Z1f M A).ref).f.getD B.toNat cl0),X,0⟩ else .err M X (Z5c M A B) else .err M X 4
def Zto (M:MO) (X:MXtra) (A B C:Int):Res:=
 if inR M C then if Z5c M A B=0 then ⟨0,0,M.putN (Z1f M A).ref (Z5x M (Z1f M A).ref) B.toNat (Z1f M C),X,0⟩ else .err M X (Z5c M A B) else .err M X 4
def Zo2 (M:MO) (X:MXtra):Res:=⟨0,0,M,X,0⟩
def Z95 (M:MO) (X:MXtra) (A:Int):Res:=
 if Z56 M A=0 then if X.ser (Z1f M A).ref=0 then ⟨0,X.next+1,M,X.give (Z1f M A).ref,0⟩ else ⟨0,X.ser (Z1f M A).ref,M,X,0⟩ else .err M X (Z56 M A)
def Zms (M:MO) (X:MXtra) (A:Int):Res:=
 if Z56 M A=0 then ⟨0,(X.K.length:Int),M,X.weak (Z1f M A).ref,0⟩ else .err M X (Z56 M A)

variable {h:HP}{sr:Int}{m:MD}{w w':World}{a:Nat→Addr}{w0:World}{M:MO}{X:MXtra}
def Z3x (a:Nat→Addr) (w0:World) (h:HP) (m:MD) (M:MO) (X:MXtra) (ρ:Res) (w:World) (x:Int) (v:Value) (w':World):Prop:=
 (ρ.e≠0∧x=0∧v=Z0r a ρ.e∧Stp a w0 h m M X w w')∨(ρ.e=0∧x=0∧v=Z0r a 5∧Stp a w0 h m M X w w'∧m.old<(M.words:Int)+ρ.need)∨(ρ.e=0∧x=ρ.num∧v = .nilIface∧Stp a w0 h m ρ.M ρ.X w w')
theorem Z3x.back {ρ:Res}{w1:World}{x:Int}{v:Value} (hb:Below w.heap.size w w1) (p:Z3x a w0 h m M X ρ w1 x v w'):Z3x a w0 h m M X ρ w x v w':=by
 rcases p with ⟨h1,h2,h3,t⟩ | ⟨h1,h2,h3,t,h4⟩ | ⟨h1,h2,h3,t⟩
 ·exact .inl ⟨h1,h2,h3,t.back hb⟩
 ·exact .inr (.inl ⟨h1,h2,h3,t.back hb,h4⟩)
 ·exact .inr (.inr ⟨h1,h2,h3,t.back hb⟩)
theorem Znr (s:HS a w0 h sr m M X w) {e:Nat} (he:e≠0) (hb:Below w.heap.size w w'):Z3x a w0 h m M X (.err M X e) w 0 (Z0r a e) w':=.inl ⟨he,rfl,rfl,s.same hb⟩
theorem Z1x (s:HS a w0 h sr m M X w) {e:Nat} (he:e≠0) {ev:Ending} (t:Z3v a w e ev w'):∃ v,ev = .returned v∧Z3x a w0 h m M X (.err M X e) w 0 v w':=⟨_,t.1,Znr s he t.2⟩
theorem Z7r {M':MO}{X':MXtra}{num need:Int} (t:Stp a w0 h m M' X' w w'):Z3x a w0 h m M X ⟨0,num,M',X',need⟩ w num .nilIface w':=.inr (.inr ⟨rfl,rfl,rfl,t⟩)
theorem Zg9 {M':MO}{X':MXtra}{need:Int}{ev:Ending} (t:Zji a w0 h m M X M' X' need w ev w'):∃ v,ev = .returned v∧Z3x a w0 h m M X ⟨0,0,M',X',need⟩ w 0 v w':=by
 rcases t with ⟨rfl,t⟩ | ⟨rfl,t,f⟩
 ·exact ⟨_,rfl,Z7r t⟩
 ·exact ⟨_,rfl,.inr (.inl ⟨rfl,rfl,rfl,t,f⟩)⟩
theorem Z2s {r:Int} (h:inR M r):∃ n:Nat,r=(n:Int)∧n<M.R.length∧M.R[n]?=some (Z1f M r):=by
 obtain ⟨h0,h1⟩:=h
 refine ⟨r.toNat,by omega,by omega,?_⟩
 unfold Z1f
 rw [List.getD_eq_getElem?_getD,List.getElem?_eq_getElem (by omega)]
 rfl
theorem Z5i (s:HS a w0 h sr m M X w) {r:Int} (h:¬ inR M r):¬ (0≤r∧r<(m.R.length:Int)):=by rw [s.hm.roots];exact h
theorem Zrd (s:HS a w0 h sr m M X w) (A n:Int) :
  Calls prog 38 #[.pointer (some ⟨h.q,0,none⟩),.int .i64 A,.int .i64 n] w fun ev w' => ∃ v,ev = .returned v∧Z3x a w0 h m M X (Zsy M X A n) w 0 v w':=by
 unfold Zsy
 by_cases hA:inR M A
 ·rw [if_pos hA]
  obtain ⟨r,rfl,hr,_⟩:=Z2s hA
  rw [Int.toNat_natCast]
  have hr':r<m.R.length:=by rw [s.hm.roots];exact hr
  by_cases hn : -2305843009213693952≤n∧n<2305843009213693952
  ·rw [if_pos hn]
   exact (Zqw s r n hr' hn.1 hn.2).mono fun ev w' t=>⟨_,t.1,Z7r t.2⟩
  ·rw [if_neg hn]
   exact (Zol s r n hr' (by omega)).mono fun ev w' t=>Zg9 t
 ·rw [if_neg hA]
  exact (Zja s A n (Z5i s hA)).mono fun ev w' t=>Z1x s (by decide) t
theorem Zlx (s:HS a w0 h sr m M X w) (A B:Int) :
  Calls prog 32 #[.pointer (some ⟨h.q,0,none⟩),.int .i64 A,.int .i64 B] w fun ev w' => ∃ v,ev = .returned v∧Z3x a w0 h m M X (Zdv M X A B) w 0 v w':=by
 unfold Zdv
 by_cases hA:inR M A
 ·rw [if_pos hA]
  obtain ⟨r,rfl,hr,_⟩:=Z2s hA
  rw [Int.toNat_natCast]
  have hr':r<m.R.length:=by rw [s.hm.roots];exact hr
  by_cases hB:0≤B∧B≤2
  ·rw [if_pos hB]
   obtain ⟨b,rfl⟩:∃ b:Nat,B=(b:Int):=⟨B.toNat,by omega⟩
   rw [Int.toNat_natCast]
   exact (Zhl s r b hr' (by omega)).mono fun ev w' t=>⟨_,t.1,Z7r t.2⟩
  ·rw [if_neg hB]
   exact (Zdo s r B hr' (by omega)).mono fun ev w' t=>Z1x s (by decide) t
 ·rw [if_neg hA]
  exact (Ze8 s A B (Z5i s hA)).mono fun ev w' t=>Z1x s (by decide) t
theorem Zq8 (s:HS a w0 h sr m M X w) (A:Int) (S:ByteArray) :
  Calls prog 44 #[.pointer (some ⟨h.q,0,none⟩),.int .i64 A,.string S] w fun ev w' => ∃ v,ev = .returned v∧Z3x a w0 h m M X (Zlp M X A S) w 0 v w':=by
 unfold Zlp
 by_cases hA:inR M A
 ·rw [if_pos hA]
  obtain ⟨r,rfl,hr,_⟩:=Z2s hA
  rw [Int.toNat_natCast]
  have hr':r<m.R.length:=by rw [s.hm.roots];exact hr
  by_cases hS:S.size≤2000
  ·rw [if_pos hS]
   exact (Zox s r S hr' hS).mono fun ev w' t=>Zg9 t
  ·rw [if_neg hS]
   exact (Zfc s r S hr' (by omega)).mono fun ev w' t=>Z1x s (by decide) t
 ·rw [if_neg hA]
  exact (Zew s A S (Z5i s hA)).mono fun ev w' t=>Z1x s (by decide) t
theorem Zpi (s:HS a w0 h sr m M X w) (A B C:Int) :
  Calls prog 28 #[.pointer (some ⟨h.q,0,none⟩),.int .i64 A,.int .i64 B,.int .i64 C] w fun ev w' => ∃ v,ev = .returned v∧Z3x a w0 h m M X (Zmr M X A B C) w 0 v w':=by
 unfold Zmr
 by_cases hA:inR M A
 ·rw [if_pos hA]
  obtain ⟨r,rfl,hr,_⟩:=Z2s hA
  rw [Int.toNat_natCast]
  have hr':r<m.R.length:=by rw [s.hm.roots];exact hr
  by_cases hB:8≤B∧B≤255∧0≤C∧C≤4096
  ·rw [if_pos hB]
   obtain ⟨c,rfl⟩:∃ c:Nat,C=(c:Int):=⟨C.toNat,by omega⟩
   rw [Int.toNat_natCast]
   exact (Zld s r c B hr' hB.1 hB.2.1 (by omega)).mono fun ev w' t=>Zg9 t
  ·rw [if_neg hB]
   exact (Zg8 s r B C hr' hB).mono fun ev w' t=>Z1x s (by decide) t
 ·rw [if_neg hA]
  exact (Zg0 s A B C (Z5i s hA)).mono fun ev w' t=>Z1x s (by decide) t
theorem Zpo (s:HS a w0 h sr m M X w) (A B:Int) :
  Calls prog 31 #[.pointer (some ⟨h.q,0,none⟩),.int .i64 A,.int .i64 B] w fun ev w' => ∃ v,ev = .returned v∧Z3x a w0 h m M X (Zk9 M X A B) w 0 v w':=by
 unfold Zk9
 by_cases hA:inR M A
 ·rw [if_pos hA]
  obtain ⟨r,rfl,hr,_⟩:=Z2s hA
  rw [Int.toNat_natCast]
  have hr':r<m.R.length:=by rw [s.hm.roots];exact hr
  by_cases hB:inR M B
  ·rw [if_pos hB]
   obtain ⟨j,hj,_,hc⟩:=Z2s hB
   rw [hj] at hc ⊢
   exact (Zm4 s r j _ hr' hc).mono fun ev w' t=>⟨_,t.1,Z7r t.2⟩
  ·rw [if_neg hB]
   exact (Zpc s r B hr' (Z5i s hB)).mono fun ev w' t=>Z1x s (by decide) t
 ·rw [if_neg hA]
  exact (Zfq s A B (Z5i s hA)).mono fun ev w' t=>Z1x s (by decide) t
theorem Zh1 (s:HS a w0 h sr m M X w) {r k:Int} (h0:Z5c M r k=0):∃ i j:Nat,r=(i:Int)∧k=(j:Int)∧M.R[i]?=some (Z1f M r)∧(Z1f M r).kind=4∧M.N[(Z1f M r).ref]?=some (Z5x M (Z1f M r).ref) ∧ ¬ (Z5x M (Z1f M r).ref).kind<8∧j<(Z5x M (Z1f M r).ref).f.length:=by
 unfold Z5c at h0
 by_cases hr:inR M r
 ·rw [if_pos hr] at h0
  by_cases h4:(Z1f M r).kind=4
  ·rw [if_pos h4] at h0
   by_cases h8:(Z5x M (Z1f M r).ref).kind<8
   ·rw [if_pos h8] at h0
    cases h0
   ·rw [if_neg h8] at h0
    by_cases hk:0≤k∧k<((Z5x M (Z1f M r).ref).f.length:Int)
    ·obtain ⟨i,hi,_,hc⟩:=Z2s hr
     refine ⟨i,k.toNat,hi,by omega,hc,h4,?_,h8,by omega⟩
     rcases s.hm.rootIs hc with ⟨q,_⟩ | ⟨f,d,o⟩
     ·exact absurd h4 q
     ·have e:Z5x M (Z1f M r).ref=d:=by unfold Z5x;rw [List.getD_eq_getElem?_getD,o.has];rfl
      rw [e]
      exact o.has
    ·rw [if_neg hk] at h0
     cases h0
  ·rw [if_neg h4] at h0
   cases h0
 ·rw [if_neg hr] at h0
  cases h0
theorem Zek (s:HS a w0 h sr m M X w) {r k:Int} (h0:Z5c M r k≠0) (W:World) (hW:Below w.heap.size w W) :
  Calls prog 74 #[.pointer (some ⟨h.q,0,none⟩),.int .i64 r,.int .i64 k] W fun ev w'=>ev = .returned (.tuple #[.int .i64 0,Z0r a (Z5c M r k)])∧Below W.heap.size W w':=by
 have s:=s.below hW
 clear hW
 unfold Z5c at h0 ⊢
 by_cases hr:inR M r
 ·rw [if_pos hr] at h0 ⊢
  obtain ⟨i,hi,_,hc⟩:=Z2s hr
  by_cases h4:(Z1f M r).kind=4
  ·rw [if_pos h4] at h0 ⊢
   obtain ⟨f,d,o⟩:∃ f d,ObjAt m M i (Z1f M r) f d:=by
    rcases s.hm.rootIs hc with ⟨q,_⟩ | q
    ·exact absurd h4 q
    ·exact q
   have e:Z5x M (Z1f M r).ref=d:=by unfold Z5x;rw [List.getD_eq_getElem?_getD,o.has];rfl
   rw [e] at h0 ⊢
   by_cases h8:d.kind<8
   ·rw [if_pos h8] at h0 ⊢
    rw [hi]
    exact Z6v k (Zm6 s o h8)
   ·rw [if_neg h8] at h0 ⊢
    by_cases hk:0≤k∧k<(d.f.length:Int)
    ·rw [if_pos hk] at h0
     exact absurd rfl h0
    ·rw [if_neg hk,hi]
     exact Zeg s o h8 hk
  ·rw [if_neg h4,hi]
   rw [hi] at hc h4
   exact Z6v k (Zj5 s hc h4)
 ·rw [if_neg hr]
  exact Z6v k (Zf8 s (Z5i s hr))
theorem Zs2 (s:HS a w0 h sr m M X w) (A B C:Int) :
  Calls prog 45 #[.pointer (some ⟨h.q,0,none⟩),.int .i64 A,.int .i64 B,.int .i64 C] w fun ev w' => ∃ v,ev = .returned v∧Z3x a w0 h m M X (Zst M X A B C) w 0 v w':=by
 unfold Zst
 by_cases hC:inR M C
 ·rw [if_pos hC]
  obtain ⟨t,rfl,ht,_⟩:=Z2s hC
  rw [Int.toNat_natCast]
  have ht':t<m.R.length:=by rw [s.hm.roots];exact ht
  by_cases hf:Z5c M A B=0
  ·rw [if_pos hf]
   obtain ⟨i,j,hi,hj,hc,h4,hd,h8,hl⟩:=Zh1 s hf
   have hv:(Z5x M (Z1f M A).ref).f[j]?=some ((Z5x M (Z1f M A).ref).f.getD B.toNat cl0):=by
    rw [hj,Int.toNat_natCast,List.getD_eq_getElem?_getD,List.getElem?_eq_getElem hl]
    rfl
   generalize Z1f M A=c at hc h4 hd h8 hl hv ⊢
   rw [hi,hj]
   rw [hj] at hv
   exact (Zp9 s hc h4 hd h8 hv ht').mono fun ev w' t=>⟨_,t.1,Z7r t.2⟩
  ·rw [if_neg hf]
   exact (Zpf s A B ht' (fun W hW=>Zek s hf W hW)).mono fun ev w' t=>Z1x s hf t
 ·rw [if_neg hC]
  exact (Zjh s A B C (Z5i s hC)).mono fun ev w' t=>Z1x s (by decide) t
theorem Zrk (s:HS a w0 h sr m M X w) (A B C:Int) :
  Calls prog 30 #[.pointer (some ⟨h.q,0,none⟩),.int .i64 A,.int .i64 B,.int .i64 C] w fun ev w' => ∃ v,ev = .returned v∧Z3x a w0 h m M X (Zto M X A B C) w 0 v w':=by
 unfold Zto
 by_cases hC:inR M C
 ·rw [if_pos hC]
  obtain ⟨t,et,ht,hv⟩:=Z2s hC
  have ht':t<m.R.length:=by rw [s.hm.roots];exact ht
  by_cases hf:Z5c M A B=0
  ·rw [if_pos hf]
   obtain ⟨i,j,hi,hj,hc,h4,hd,h8,hl⟩:=Zh1 s hf
   generalize Z1f M A=c at hc h4 hd h8 hl ⊢
   generalize Z1f M C=v at hv ⊢
   rw [hi,hj,et,Int.toNat_natCast]
   exact (Zpm s hc h4 hd h8 hl hv).mono fun ev w' t=>⟨_,t.1,Z7r t.2⟩
  ·rw [if_neg hf,et]
   exact (Zo1 s A B ht' (Zek s hf w (Below.refl _ _))).mono fun ev w' t=>Z1x s hf t
 ·rw [if_neg hC]
  exact (Zj2 s A B C (Z5i s hC)).mono fun ev w' t=>Z1x s (by decide) t
theorem Zku (s:HS a w0 h sr m M X w):Calls prog 26 #[.pointer (some ⟨h.q,0,none⟩)] w fun ev w' => ∃ v,ev = .returned v∧Z3x a w0 h m M X (Zo2 M X) w 0 v w':=
 (Zii s).mono fun ev w' t=>by
  rcases t with ⟨e,hb,hl⟩ | ⟨e,t⟩
  ·exact ⟨_,e,.inr (.inl ⟨rfl,rfl,rfl,s.same hb,by show m.old<(M.words:Int)+0;omega⟩)⟩
  ·exact ⟨_,e,Z7r t⟩
theorem Znc (s:HS a w0 h sr m M X w):Calls prog 27 #[.pointer (some ⟨h.q,0,none⟩)] w fun ev w' => ∃ v,ev = .returned v∧Z3x a w0 h m M X (Zo2 M X) w 0 v w':=
 (Zb2 s).mono fun ev w' t=>by
  rcases t with ⟨e,hb,hl⟩ | ⟨e,t⟩
  ·exact ⟨_,e,.inr (.inl ⟨rfl,rfl,rfl,s.same hb,by show m.old<(M.words:Int)+0;omega⟩)⟩
  ·exact ⟨_,e,Z7r t.stp⟩
theorem Ze4 (s:HS a w0 h sr m M X w) {r:Int} (h0:Z56 M r≠0) :
  Calls prog 72 #[.pointer (some ⟨h.q,0,none⟩),.int .i64 r] w fun ev w'=>ev = .returned (.tuple #[.int .u64 0,Z0r a (Z56 M r)])∧Below w.heap.size w w':=by
 unfold Z56 at h0 ⊢
 by_cases hr:inR M r
 ·rw [if_pos hr] at h0 ⊢
  obtain ⟨i,hi,_,hc⟩:=Z2s hr
  by_cases h4:(Z1f M r).kind=4
  ·rw [if_pos h4] at h0
   exact absurd rfl h0
  ·rw [if_neg h4]
   generalize Z1f M r=c at hc h4
   rw [hi]
   exact Z9y s hc h4
 ·rw [if_neg hr]
  exact Z9z s (Z5i s hr)
theorem Zgs {r:Int} (h0:Z56 M r=0):∃ i:Nat,r=(i:Int)∧M.R[i]?=some (Z1f M r)∧(Z1f M r).kind=4:=by
 unfold Z56 at h0
 by_cases hr:inR M r
 ·rw [if_pos hr] at h0
  obtain ⟨i,hi,_,hc⟩:=Z2s hr
  by_cases h4:(Z1f M r).kind=4
  ·exact ⟨i,hi,hc,h4⟩
  ·rw [if_neg h4] at h0
   cases h0
 ·rw [if_neg hr] at h0
  cases h0
theorem HM.srNext (hm:HM m sr M X):sr=X.next:=by obtain ⟨_,_,_,_,hw⟩:=hm;exact hw.next
theorem Zip (s:HS a w0 h sr m M X w) (hx:X.next<4611686018427387904) (A:Int) :
  Calls prog 46 #[.pointer (some ⟨h.q,0,none⟩),.int .i64 A] w fun ev w' => ∃ x v,ev = .returned (.tuple #[.int .i64 x,v])∧Z3x a w0 h m M X (Z95 M X A) w x v w':=by
 unfold Z95
 by_cases hp:Z56 M A=0
 ·rw [if_pos hp]
  obtain ⟨i,hi,hc,h4⟩:=Zgs hp
  generalize Z1f M A=c at hc h4 ⊢
  rw [hi]
  refine (Zg1 s hc h4 (by rw [s.hm.srNext];exact hx)).mono fun ev w' t => ?_
  rcases t with ⟨h1,e,t⟩ | ⟨h1,e,t⟩
  ·rw [if_neg h1]
   exact ⟨_,_,e,Z7r t⟩
  ·rw [if_pos h1]
   exact ⟨_,_,e,Z7r t⟩
 ·rw [if_neg hp]
  exact (Zfx (Ze4 s hp)).mono fun ev w' t=>⟨_,_,t.1,Znr s hp t.2⟩
theorem Znx (s:HS a w0 h sr m M X w) (hk:X.K.length<5000) (A:Int) :
  Calls prog 29 #[.pointer (some ⟨h.q,0,none⟩),.int .i64 A] w fun ev w' => ∃ x v,ev = .returned (.tuple #[.int .i64 x,v])∧Z3x a w0 h m M X (Zms M X A) w x v w':=by
 unfold Zms
 by_cases hp:Z56 M A=0
 ·rw [if_pos hp]
  obtain ⟨i,hi,hc,h4⟩:=Zgs hp
  generalize Z1f M A=c at hc h4 ⊢
  rw [hi]
  exact (Zo7 s hc h4 hk).mono fun ev w' t=>⟨_,_,t.1,Z7r t.2⟩
 ·rw [if_neg hp]
  exact (Zjy (Ze4 s hp)).mono fun ev w' t=>⟨_,_,t.1,Znr s hp t.2⟩
def actR (M:MO) (X:MXtra) (nm:List UInt8) (A B C N:Int) (S:ByteArray):Res:=
 if nm = [105,110,116] then Zsy M X A N else if nm = [99,111,110,115,116] then Zdv M X A B else if nm = [116,101,120,116] then Zlp M X A S else if nm = [109,97,107,101] then Zmr M X A B C else
 if nm = [99,111,112,121] then Zk9 M X A B else if nm = [103,101,116] then Zst M X A B C else if nm = [112,117,116] then Zto M X A B C else if nm = [115,101,114,105,97,108] then Z95 M X A else if nm = [119,101,97,107] then Zms M X A else Zo2 M X
theorem Zrh (s:HS a w0 h sr m M X w) (hx:X.next<4611686018427387904) (hk:X.K.length<5000) {A B C N:Int}{nm S:ByteArray} (hl:nm.toList ≠ [108,111,111,107]) :
  Calls prog 15 #[.pointer (some ⟨h.q,0,none⟩),Z5y nm A B C N S] w fun ev w' => ∃ x v,ev = .returned (.tuple #[.int .i64 x,.bool false,v])∧Z3x a w0 h m M X (actR M X nm.toList A B C N S) w x v w':=by
 have one:∀ {K:FuncId}{args:World→Array Value}{ρ:Res},(∀ W,Below w.heap.size w W → ∀ s':HS a w0 h sr m M X W,Calls prog K (args W) W fun ev w' => ∃ v,ev = .returned v∧Z3x a w0 h m M X ρ W 0 v w') → ∀ W,Below w.heap.size w W→Calls prog K (args W) W fun ev w' => ∃ v,ev = .returned v∧Z3x a w0 h m M X ρ w 0 v w':=
  fun k W b=>(k W b (s.below b)).mono fun ev w' ⟨v,e,p⟩=>⟨v,e,p.back b⟩
 unfold actR
 by_cases h1:nm.toList = [105,110,116]
 ·rw [if_pos h1]
  exact (Zrt h1 _ (one (args:=fun _=>_) fun W b s'=>Zrd s' A N)).mono fun ev w' ⟨v,e,p⟩=>⟨0,v,e,p⟩
 rw [if_neg h1]
 by_cases h2:nm.toList = [99,111,110,115,116]
 ·rw [if_pos h2]
  exact (Zkf h2 _ (one (args:=fun _=>_) fun W b s'=>Zlx s' A B)).mono fun ev w' ⟨v,e,p⟩=>⟨0,v,e,p⟩
 rw [if_neg h2]
 by_cases h3:nm.toList = [116,101,120,116]
 ·rw [if_pos h3]
  exact (Zoy h3 _ (one (args:=fun _=>_) fun W b s'=>Zq8 s' A S)).mono fun ev w' ⟨v,e,p⟩=>⟨0,v,e,p⟩
 rw [if_neg h3]
 by_cases h4:nm.toList = [109,97,107,101]
 ·rw [if_pos h4]
  exact (Zp3 h4 _ (one (args:=fun _=>_) fun W b s'=>Zpi s' A B C)).mono fun ev w' ⟨v,e,p⟩=>⟨0,v,e,p⟩
 rw [if_neg h4]
 by_cases h5:nm.toList = [99,111,112,121]
 ·rw [if_pos h5]
  exact (Zoh h5 _ (one (args:=fun _=>_) fun W b s'=>Zpo s' A B)).mono fun ev w' ⟨v,e,p⟩=>⟨0,v,e,p⟩
 rw [if_neg h5]
 by_cases h6:nm.toList = [103,101,116]
 ·rw [if_pos h6]
  exact (Zs8 h6 _ (one (args:=fun _=>_) fun W b s'=>Zs2 s' A B C)).mono fun ev w' ⟨v,e,p⟩=>⟨0,v,e,p⟩
 rw [if_neg h6]
 by_cases h7:nm.toList = [112,117,116]
 ·rw [if_pos h7]
  exact (Zs0 h7 _ (one (args:=fun _=>_) fun W b s'=>Zrk s' A B C)).mono fun ev w' ⟨v,e,p⟩=>⟨0,v,e,p⟩
 rw [if_neg h7]
 by_cases h8:nm.toList = [115,101,114,105,97,108]
 ·rw [if_pos h8]
  exact Zj0 h8 _ fun W b=>(Zip (s.below b) hx A).mono fun ev w' ⟨x,v,e,p⟩=>⟨x,v,e,p.back b⟩
 rw [if_neg h8]
 by_cases h9:nm.toList = [119,101,97,107]
 ·rw [if_pos h9]
  exact Zqc h9 _ fun W b=>(Znx (s.below b) hk A).mono fun ev w' ⟨x,v,e,p⟩=>⟨x,v,e,p.back b⟩
 rw [if_neg h9]
 by_cases h10:nm.toList = [109,105,110,111,114]
 ·exact (Zm9 h10 _ (one (args:=fun _=>_) fun W b s'=>Zku s')).mono fun ev w' ⟨v,e,p⟩=>⟨0,v,e,p⟩
 by_cases h11:nm.toList = [109,97,106,111,114]
 ·exact (Zmw h11 _ (one (args:=fun _=>_) fun W b s'=>Znc s')).mono fun ev w' ⟨v,e,p⟩=>⟨0,v,e,p⟩
 refine (Zjz (by simp only [Z1i,List.mem_cons,List.not_mem_nil,or_false,not_or];exact ⟨h1,h2,h3,h4,h5,h6,h7,h10,h11,h8,h9,hl⟩)).mono fun ev w' t=>⟨0,_,t.1,Z7r (s.same t.2)⟩
def Zlw (a:Nat→Addr) (w0:World) (h:HP) (m:MD) (M:MO) (X:MXtra) (A B:Int) (w:World) (x:Bool) (v:Value) (w':World):Prop:=
 (¬ (0≤A∧A<(X.K.length:Int)∧inR M B)∧x=false∧v=Z0r a 4∧Stp a w0 h m M X w w') ∨
 (0≤A∧A<(X.K.length:Int)∧inR M B∧v = .nilIface ∧ ∃ i,X.K[A.toNat]?=some i∧((x=false∧i ∉ M.all∧Stp a w0 h m (M.set B.toNat (clK 0)) X w w')∨(x=true∧Stp a w0 h m (M.set B.toNat ⟨4,0,i⟩) X w w')))
theorem Zlw.back {A B:Int}{w1:World}{x:Bool}{v:Value} (hb:Below w.heap.size w w1) (p:Zlw a w0 h m M X A B w1 x v w'):Zlw a w0 h m M X A B w x v w':=by
 rcases p with ⟨h1,h2,h3,t⟩ | ⟨h1,h2,h3,h4,i,hi,⟨h5,h6,t⟩ | ⟨h5,t⟩⟩
 ·exact .inl ⟨h1,h2,h3,t.back hb⟩
 ·exact .inr ⟨h1,h2,h3,h4,i,hi,.inl ⟨h5,h6,t.back hb⟩⟩
 ·exact .inr ⟨h1,h2,h3,h4,i,hi,.inr ⟨h5,t.back hb⟩⟩
theorem Zq9 (s:HS a w0 h sr m M X w) (A B:Int) :
  Calls prog 33 #[.pointer (some ⟨h.q,0,none⟩),.int .i64 A,.int .i64 B] w fun ev w' => ∃ x v,ev = .returned (.tuple #[.bool x,v])∧Zlw a w0 h m M X A B w x v w':=by
 by_cases hA:0≤A∧A<(m.K.length:Int)
 ·obtain ⟨j,rfl⟩:∃ j:Nat,A=(j:Int):=⟨A.toNat,by omega⟩
  have hj:j<X.K.length:=by rw [←s.hm.weaks];omega
  by_cases hB:inR M B
  ·obtain ⟨t,rfl,ht,_⟩:=Z2s hB
   have ht':t<m.R.length:=by rw [s.hm.roots];exact ht
   have hi:=List.getElem?_eq_getElem hj
   refine (Znb s hi ht').mono fun ev w' q => ?_
   rcases q with ⟨_,h6,e,q⟩ | ⟨_,e,q⟩
   ·exact ⟨_,_,e,.inr ⟨by omega,by omega,hB,rfl,_,by rw [Int.toNat_natCast];exact hi,.inl ⟨rfl,h6,by rw [Int.toNat_natCast];exact q⟩⟩⟩
   ·exact ⟨_,_,e,.inr ⟨by omega,by omega,hB,rfl,_,by rw [Int.toNat_natCast];exact hi,.inr ⟨rfl,by rw [Int.toNat_natCast];exact q⟩⟩⟩
  ·exact (Zps s (by omega) (Z5i s hB)).mono fun ev w' q=>⟨_,_,q.1,.inl ⟨fun q=>hB q.2.2,rfl,rfl,s.same q.2⟩⟩
 ·exact (Zhs s B hA).mono fun ev w' q=>⟨_,_,q.1,.inl ⟨fun q=>hA ⟨q.1,by rw [s.hm.weaks];exact q.2.1⟩,rfl,rfl,s.same q.2⟩⟩
theorem Zd8 (s:HS a w0 h sr m M X w) {A B C N:Int}{nm S:ByteArray} (hl:nm.toList = [108,111,111,107]) :
  Calls prog 15 #[.pointer (some ⟨h.q,0,none⟩),Z5y nm A B C N S] w fun ev w' => ∃ x v,ev = .returned (.tuple #[.int .i64 0,.bool x,v])∧Zlw a w0 h m M X A B w x v w':=
 Zot hl _ fun _ b=>(Zq9 (s.below b) A B).mono fun _ _ ⟨x,v,e,p⟩=>⟨x,v,e,p.back b⟩
def Z6x (M:MO) (X:MXtra) (ρ:Res):Prop:=ρ.M.R.length=M.R.length∧ρ.X.K.length≤X.K.length+1∧ρ.X.next≤X.next+1
theorem Z18 {M:MO}{X:MXtra}{e:Nat} : Z6x M X (.err M X e):=⟨rfl,Nat.le_succ _,by show X.next≤_;omega⟩
theorem Z2u {M M':MO}{X:MXtra}{num need:Int} (h:M'.R.length=M.R.length):Z6x M X ⟨0,num,M',X,need⟩:=⟨h,Nat.le_succ _,by show X.next≤_;omega⟩
theorem Zc4 {M:MO}{r:Nat}{c:CL} : (M.set r c).R.length=M.R.length:=List.length_set ..
theorem Zc3 {M:MO}{r:Nat}{d:ND} : (M.made r d).R.length=M.R.length:=List.length_set ..
theorem Zhk (M:MO) (X:MXtra) (nm:List UInt8) (A B C N:Int) (S:ByteArray):Z6x M X (actR M X nm A B C N S):=by
 have k1:Z6x M X (Zsy M X A N):=by
  unfold Zsy
  split
  ·split
   ·exact Z2u Zc4
   ·exact Z2u Zc3
  ·exact Z18
 have k2:Z6x M X (Zdv M X A B):=by
  unfold Zdv
  split
  ·split
   ·exact Z2u Zc4
   ·exact Z18
  ·exact Z18
 have k3:Z6x M X (Zlp M X A S):=by
  unfold Zlp
  split
  ·split
   ·exact Z2u Zc3
   ·exact Z18
  ·exact Z18
 have k4:Z6x M X (Zmr M X A B C):=by
  unfold Zmr
  split
  ·split
   ·exact Z2u Zc3
   ·exact Z18
  ·exact Z18
 have k5:Z6x M X (Zk9 M X A B):=by
  unfold Zk9
  split
  ·split
   ·exact Z2u Zc4
   ·exact Z18
  ·exact Z18
 have k6:Z6x M X (Zst M X A B C):=by
  unfold Zst
  split
  ·split
   ·exact Z2u Zc4
   ·exact Z18
  ·exact Z18
 have k7:Z6x M X (Zto M X A B C):=by
  unfold Zto
  split
  ·split
   ·exact Z2u rfl
   ·exact Z18
  ·exact Z18
 have k8:Z6x M X (Z95 M X A):=by
  unfold Z95
  split
  ·split
   ·exact ⟨rfl,Nat.le_succ _,Int.le_refl _⟩
   ·exact Z2u rfl
  ·exact Z18
 have k9:Z6x M X (Zms M X A):=by
  unfold Zms
  split
  ·refine ⟨rfl,?_,?_⟩
   ·show (X.K ++ [_]).length≤_
    rw [List.length_append]
    exact Nat.le_refl _
   ·show X.next≤_
    omega
  ·exact Z18
 have k10:Z6x M X (Zo2 M X):=Z2u rfl
 unfold actR
 split
 ·exact k1
 split
 ·exact k2
 split
 ·exact k3
 split
 ·exact k4
 split
 ·exact k5
 split
 ·exact k6
 split
 ·exact k7
 split
 ·exact k8
 split
 ·exact k9
 ·exact k10
end Go.Proofs.YtlkcbdinlfeoiaaGreatDoor
