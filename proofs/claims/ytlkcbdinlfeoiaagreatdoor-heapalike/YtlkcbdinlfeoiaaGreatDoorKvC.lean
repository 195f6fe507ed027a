/- The statements' act on a heap, act by act. -/
import Derived.Test.YtlkcbdinlfeoiaaGreatDoorKvA
namespace Go.Proofs.YtlkcbdinlfeoiaaGreatDoor
open Go.Proofs.Tryz Go.RowKit
set_option maxHeartbeats 8000000
set_option maxRecDepth 100000
set_option linter.unusedSimpArgs false
section
open Go.Maps
variable {h:HP}{sr:Int}{m:MD}{w w':World}{a:Nat->Addr}{w0:World}{M:MO}{X:MXtra}
def Z60 (name:ByteArray) (A B C N:Int) (S:ByteArray):Value:=.agg #[.string name,.int .i64 A,.int .i64 B,.int .i64 C,.int .i64 N,.string S]
theorem Zqo {q:Nat}{A B C N:Int}{nm S:ByteArray} (hn:nm.toList = [105,110,116]) (P:Value->World->Prop)
  (k:∀ W,Below w.heap.size w W->Calls prog 38 #[.pointer (some ⟨q,0,none⟩),.int .i64 A,.int .i64 N] W fun ev w' => ∃ v,ev = .returned v/\P v w') :
  Calls prog 15 #[.pointer (some ⟨q,0,none⟩),Z60 nm A B C N S] w fun ev w' => ∃ v,ev = .returned (.tuple #[.int .i64 0,.bool false,v])/\P v w':=by
 have e1:(nm.toList == [105,110,116])=true:=by rw [hn];rfl
 have k1:=k (w.alloc (.cells #[.string nm,.int .i64 A,.int .i64 B,.int .i64 C,.int .i64 N,.string S] 36)) ((U01 _ _).alloc (U02 _) _)
 clear k hn
 unfold Z60
 go_enter func15,ntmps15
 go_wp2_with fail
 refine k1.mono ?_
 clear k1
 rintro ev w2 ⟨v,rfl,hP⟩
 have HP':=Z00 hP
 clear hP
 go_wp2_with fail
 go_ret3
 exact ⟨v,rfl,HP'.out⟩
theorem Znp {q:Nat}{A B C N:Int}{nm S:ByteArray} (hn:nm.toList = [99,111,110,115,116]) (P:Value->World->Prop)
  (k:∀ W,Below w.heap.size w W->Calls prog 32 #[.pointer (some ⟨q,0,none⟩),.int .i64 A,.int .i64 B] W fun ev w' => ∃ v,ev = .returned v/\P v w') :
  Calls prog 15 #[.pointer (some ⟨q,0,none⟩),Z60 nm A B C N S] w fun ev w' => ∃ v,ev = .returned (.tuple #[.int .i64 0,.bool false,v])/\P v w':=by
 have e1:(nm.toList == [105,110,116])=false:=by rw [hn];rfl
 have e2:(nm.toList == [99,111,110,115,116])=true:=by rw [hn];rfl
 have k1:=k (w.alloc (.cells #[.string nm,.int .i64 A,.int .i64 B,.int .i64 C,.int .i64 N,.string S] 36)) ((U01 _ _).alloc (U02 _) _)
 clear k hn
 unfold Z60
 go_enter func15,ntmps15
 go_wp2_with fail
 refine k1.mono ?_
 clear k1
 rintro ev w2 ⟨v,rfl,hP⟩
 have HP':=Z00 hP
 clear hP
 go_wp2_with fail
 go_ret3
 exact ⟨v,rfl,HP'.out⟩
theorem Zpx {q:Nat}{A B C N:Int}{nm S:ByteArray} (hn:nm.toList = [116,101,120,116]) (P:Value->World->Prop)
  (k:∀ W,Below w.heap.size w W->Calls prog 44 #[.pointer (some ⟨q,0,none⟩),.int .i64 A,.string S] W fun ev w' => ∃ v,ev = .returned v/\P v w') :
  Calls prog 15 #[.pointer (some ⟨q,0,none⟩),Z60 nm A B C N S] w fun ev w' => ∃ v,ev = .returned (.tuple #[.int .i64 0,.bool false,v])/\P v w':=by
 have e1:(nm.toList == [105,110,116])=false:=by rw [hn];rfl
 have e2:(nm.toList == [99,111,110,115,116])=false:=by rw [hn];rfl
 have e3:(nm.toList == [116,101,120,116])=true:=by rw [hn];rfl
 have k1:=k (w.alloc (.cells #[.string nm,.int .i64 A,.int .i64 B,.int .i64 C,.int .i64 N,.string S] 36)) ((U01 _ _).alloc (U02 _) _)
 clear k hn
 unfold Z60
 go_enter func15,ntmps15
 go_wp2_with fail
 refine k1.mono ?_
 clear k1
 rintro ev w2 ⟨v,rfl,hP⟩
 have HP':=Z00 hP
 clear hP
 go_wp2_with fail
 go_ret3
 exact ⟨v,rfl,HP'.out⟩
theorem Znv {q:Nat}{A B C N:Int}{nm S:ByteArray} (hn:nm.toList = [109,97,107,101]) (P:Value->World->Prop)
  (k:∀ W,Below w.heap.size w W->Calls prog 28 #[.pointer (some ⟨q,0,none⟩),.int .i64 A,.int .i64 B,.int .i64 C] W fun ev w' => ∃ v,ev = .returned v/\P v w') :
  Calls prog 15 #[.pointer (some ⟨q,0,none⟩),Z60 nm A B C N S] w fun ev w' => ∃ v,ev = .returned (.tuple #[.int .i64 0,.bool false,v])/\P v w':=by
 have e1:(nm.toList == [105,110,116])=false:=by rw [hn];rfl
 have e2:(nm.toList == [99,111,110,115,116])=false:=by rw [hn];rfl
 have e3:(nm.toList == [116,101,120,116])=false:=by rw [hn];rfl
 have e4:(nm.toList == [109,97,107,101])=true:=by rw [hn];rfl
 have k1:=k (w.alloc (.cells #[.string nm,.int .i64 A,.int .i64 B,.int .i64 C,.int .i64 N,.string S] 36)) ((U01 _ _).alloc (U02 _) _)
 clear k hn
 unfold Z60
 go_enter func15,ntmps15
 go_wp2_with fail
 refine k1.mono ?_
 clear k1
 rintro ev w2 ⟨v,rfl,hP⟩
 have HP':=Z00 hP
 clear hP
 go_wp2_with fail
 go_ret3
 exact ⟨v,rfl,HP'.out⟩
theorem Zod {q:Nat}{A B C N:Int}{nm S:ByteArray} (hn:nm.toList = [99,111,112,121]) (P:Value->World->Prop)
  (k:∀ W,Below w.heap.size w W->Calls prog 31 #[.pointer (some ⟨q,0,none⟩),.int .i64 A,.int .i64 B] W fun ev w' => ∃ v,ev = .returned v/\P v w') :
  Calls prog 15 #[.pointer (some ⟨q,0,none⟩),Z60 nm A B C N S] w fun ev w' => ∃ v,ev = .returned (.tuple #[.int .i64 0,.bool false,v])/\P v w':=by
 have e1:(nm.toList == [105,110,116])=false:=by rw [hn];rfl
 have e2:(nm.toList == [99,111,110,115,116])=false:=by rw [hn];rfl
 have e3:(nm.toList == [116,101,120,116])=false:=by rw [hn];rfl
 have e4:(nm.toList == [109,97,107,101])=false:=by rw [hn];rfl
 have e5:(nm.toList == [99,111,112,121])=true:=by rw [hn];rfl
 have k1:=k (w.alloc (.cells #[.string nm,.int .i64 A,.int .i64 B,.int .i64 C,.int .i64 N,.string S] 36)) ((U01 _ _).alloc (U02 _) _)
 clear k hn
 unfold Z60
 go_enter func15,ntmps15
 go_wp2_with fail
 refine k1.mono ?_
 clear k1
 rintro ev w2 ⟨v,rfl,hP⟩
 have HP':=Z00 hP
 clear hP
 go_wp2_with fail
 go_ret3
 exact ⟨v,rfl,HP'.out⟩
theorem Zrh {q:Nat}{A B C N:Int}{nm S:ByteArray} (hn:nm.toList = [103,101,116]) (P:Value->World->Prop)
  (k:∀ W,Below w.heap.size w W->Calls prog 45 #[.pointer (some ⟨q,0,none⟩),.int .i64 A,.int .i64 B,.int .i64 C] W fun ev w' => ∃ v,ev = .returned v/\P v w') :
  Calls prog 15 #[.pointer (some ⟨q,0,none⟩),Z60 nm A B C N S] w fun ev w' => ∃ v,ev = .returned (.tuple #[.int .i64 0,.bool false,v])/\P v w':=by
 have e1:(nm.toList == [105,110,116])=false:=by rw [hn];rfl
 have e2:(nm.toList == [99,111,110,115,116])=false:=by rw [hn];rfl
 have e3:(nm.toList == [116,101,120,116])=false:=by rw [hn];rfl
 have e4:(nm.toList == [109,97,107,101])=false:=by rw [hn];rfl
 have e5:(nm.toList == [99,111,112,121])=false:=by rw [hn];rfl
 have e6:(nm.toList == [103,101,116])=true:=by rw [hn];rfl
 have k1:=k (w.alloc (.cells #[.string nm,.int .i64 A,.int .i64 B,.int .i64 C,.int .i64 N,.string S] 36)) ((U01 _ _).alloc (U02 _) _)
 clear k hn
 unfold Z60
 go_enter func15,ntmps15
 go_wp2_with fail
 refine k1.mono ?_
 clear k1
 rintro ev w2 ⟨v,rfl,hP⟩
 have HP':=Z00 hP
 clear hP
 go_wp2_with fail
 go_ret3
 exact ⟨v,rfl,HP'.out⟩
theorem Zqz {q:Nat}{A B C N:Int}{nm S:ByteArray} (hn:nm.toList = [112,117,116]) (P:Value->World->Prop)
  (k:∀ W,Below w.heap.size w W->Calls prog 30 #[.pointer (some ⟨q,0,none⟩),.int .i64 A,.int .i64 B,.int .i64 C] W fun ev w' => ∃ v,ev = .returned v/\P v w') :
  Calls prog 15 #[.pointer (some ⟨q,0,none⟩),Z60 nm A B C N S] w fun ev w' => ∃ v,ev = .returned (.tuple #[.int .i64 0,.bool false,v])/\P v w':=by
 have e1:(nm.toList == [105,110,116])=false:=by rw [hn];rfl
 have e2:(nm.toList == [99,111,110,115,116])=false:=by rw [hn];rfl
 have e3:(nm.toList == [116,101,120,116])=false:=by rw [hn];rfl
 have e4:(nm.toList == [109,97,107,101])=false:=by rw [hn];rfl
 have e5:(nm.toList == [99,111,112,121])=false:=by rw [hn];rfl
 have e6:(nm.toList == [103,101,116])=false:=by rw [hn];rfl
 have e7:(nm.toList == [112,117,116])=true:=by rw [hn];rfl
 have k1:=k (w.alloc (.cells #[.string nm,.int .i64 A,.int .i64 B,.int .i64 C,.int .i64 N,.string S] 36)) ((U01 _ _).alloc (U02 _) _)
 clear k hn
 unfold Z60
 go_enter func15,ntmps15
 go_wp2_with fail
 refine k1.mono ?_
 clear k1
 rintro ev w2 ⟨v,rfl,hP⟩
 have HP':=Z00 hP
 clear hP
 go_wp2_with fail
 go_ret3
 exact ⟨v,rfl,HP'.out⟩
theorem Zmz {q:Nat}{A B C N:Int}{nm S:ByteArray} (hn:nm.toList = [109,105,110,111,114]) (P:Value->World->Prop)
  (k:∀ W,Below w.heap.size w W->Calls prog 26 #[.pointer (some ⟨q,0,none⟩)] W fun ev w' => ∃ v,ev = .returned v/\P v w') :
  Calls prog 15 #[.pointer (some ⟨q,0,none⟩),Z60 nm A B C N S] w fun ev w' => ∃ v,ev = .returned (.tuple #[.int .i64 0,.bool false,v])/\P v w':=by
 have e1:(nm.toList == [105,110,116])=false:=by rw [hn];rfl
 have e2:(nm.toList == [99,111,110,115,116])=false:=by rw [hn];rfl
 have e3:(nm.toList == [116,101,120,116])=false:=by rw [hn];rfl
 have e4:(nm.toList == [109,97,107,101])=false:=by rw [hn];rfl
 have e5:(nm.toList == [99,111,112,121])=false:=by rw [hn];rfl
 have e6:(nm.toList == [103,101,116])=false:=by rw [hn];rfl
 have e7:(nm.toList == [112,117,116])=false:=by rw [hn];rfl
 have e8:(nm.toList == [109,105,110,111,114])=true:=by rw [hn];rfl
 have k1:=k (w.alloc (.cells #[.string nm,.int .i64 A,.int .i64 B,.int .i64 C,.int .i64 N,.string S] 36)) ((U01 _ _).alloc (U02 _) _)
 clear k hn
 unfold Z60
 go_enter func15,ntmps15
 go_wp2_with fail
 refine k1.mono ?_
 clear k1
 rintro ev w2 ⟨v,rfl,hP⟩
 have HP':=Z00 hP
 clear hP
 go_wp2_with fail
 go_ret3
 exact ⟨v,rfl,HP'.out⟩
theorem Zlh {q:Nat}{A B C N:Int}{nm S:ByteArray} (hn:nm.toList = [109,97,106,111,114]) (P:Value->World->Prop)
  (k:∀ W,Below w.heap.size w W->Calls prog 27 #[.pointer (some ⟨q,0,none⟩)] W fun ev w' => ∃ v,ev = .returned v/\P v w') :
  Calls prog 15 #[.pointer (some ⟨q,0,none⟩),Z60 nm A B C N S] w fun ev w' => ∃ v,ev = .returned (.tuple #[.int .i64 0,.bool false,v])/\P v w':=by
 have e1:(nm.toList == [105,110,116])=false:=by rw [hn];rfl
 have e2:(nm.toList == [99,111,110,115,116])=false:=by rw [hn];rfl
 have e3:(nm.toList == [116,101,120,116])=false:=by rw [hn];rfl
 have e4:(nm.toList == [109,97,107,101])=false:=by rw [hn];rfl
 have e5:(nm.toList == [99,111,112,121])=false:=by rw [hn];rfl
 have e6:(nm.toList == [103,101,116])=false:=by rw [hn];rfl
 have e7:(nm.toList == [112,117,116])=false:=by rw [hn];rfl
 have e8:(nm.toList == [109,105,110,111,114])=false:=by rw [hn];rfl
 have e9:(nm.toList == [109,97,106,111,114])=true:=by rw [hn];rfl
 have k1:=k (w.alloc (.cells #[.string nm,.int .i64 A,.int .i64 B,.int .i64 C,.int .i64 N,.string S] 36)) ((U01 _ _).alloc (U02 _) _)
 clear k hn
 unfold Z60
 go_enter func15,ntmps15
 go_wp2_with fail
 refine k1.mono ?_
 clear k1
 rintro ev w2 ⟨v,rfl,hP⟩
 have HP':=Z00 hP
 clear hP
 go_wp2_with fail
 go_ret3
 exact ⟨v,rfl,HP'.out⟩
theorem Zji {q:Nat}{A B C N:Int}{nm S:ByteArray} (hn:nm.toList = [115,101,114,105,97,108]) (P:Int->Value->World->Prop)
  (k:∀ W,Below w.heap.size w W->Calls prog 46 #[.pointer (some ⟨q,0,none⟩),.int .i64 A] W fun ev w' => ∃ x v,ev = .returned (.tuple #[.int .i64 x,v])/\P x v w') :
  Calls prog 15 #[.pointer (some ⟨q,0,none⟩),Z60 nm A B C N S] w fun ev w' => ∃ x v,ev = .returned (.tuple #[.int .i64 x,.bool false,v])/\P x v w':=by
 have e1:(nm.toList == [105,110,116])=false:=by rw [hn];rfl
 have e2:(nm.toList == [99,111,110,115,116])=false:=by rw [hn];rfl
 have e3:(nm.toList == [116,101,120,116])=false:=by rw [hn];rfl
 have e4:(nm.toList == [109,97,107,101])=false:=by rw [hn];rfl
 have e5:(nm.toList == [99,111,112,121])=false:=by rw [hn];rfl
 have e6:(nm.toList == [103,101,116])=false:=by rw [hn];rfl
 have e7:(nm.toList == [112,117,116])=false:=by rw [hn];rfl
 have e8:(nm.toList == [109,105,110,111,114])=false:=by rw [hn];rfl
 have e9:(nm.toList == [109,97,106,111,114])=false:=by rw [hn];rfl
 have e10:(nm.toList == [115,101,114,105,97,108])=true:=by rw [hn];rfl
 have k1:=k (w.alloc (.cells #[.string nm,.int .i64 A,.int .i64 B,.int .i64 C,.int .i64 N,.string S] 36)) ((U01 _ _).alloc (U02 _) _)
 clear k hn
 unfold Z60
 go_enter func15,ntmps15
 go_wp2_with fail
 refine k1.mono ?_
 clear k1
 rintro ev w2 ⟨x,v,rfl,hP⟩
 have HP':=Z00 hP
 clear hP
 go_wp2_with fail
 go_ret3
 exact ⟨x,v,rfl,HP'.out⟩
theorem Zpu {q:Nat}{A B C N:Int}{nm S:ByteArray} (hn:nm.toList = [119,101,97,107]) (P:Int->Value->World->Prop)
  (k:∀ W,Below w.heap.size w W->Calls prog 29 #[.pointer (some ⟨q,0,none⟩),.int .i64 A] W fun ev w' => ∃ x v,ev = .returned (.tuple #[.int .i64 x,v])/\P x v w') :
  Calls prog 15 #[.pointer (some ⟨q,0,none⟩),Z60 nm A B C N S] w fun ev w' => ∃ x v,ev = .returned (.tuple #[.int .i64 x,.bool false,v])/\P x v w':=by
 have e1:(nm.toList == [105,110,116])=false:=by rw [hn];rfl
 have e2:(nm.toList == [99,111,110,115,116])=false:=by rw [hn];rfl
 have e3:(nm.toList == [116,101,120,116])=false:=by rw [hn];rfl
 have e4:(nm.toList == [109,97,107,101])=false:=by rw [hn];rfl
 have e5:(nm.toList == [99,111,112,121])=false:=by rw [hn];rfl
 have e6:(nm.toList == [103,101,116])=false:=by rw [hn];rfl
 have e7:(nm.toList == [112,117,116])=false:=by rw [hn];rfl
 have e8:(nm.toList == [109,105,110,111,114])=false:=by rw [hn];rfl
 have e9:(nm.toList == [109,97,106,111,114])=false:=by rw [hn];rfl
 have e10:(nm.toList == [115,101,114,105,97,108])=false:=by rw [hn];rfl
 have e11:(nm.toList == [119,101,97,107])=true:=by rw [hn];rfl
 have k1:=k (w.alloc (.cells #[.string nm,.int .i64 A,.int .i64 B,.int .i64 C,.int .i64 N,.string S] 36)) ((U01 _ _).alloc (U02 _) _)
 clear k hn
 unfold Z60
 go_enter func15,ntmps15
 go_wp2_with fail
 refine k1.mono ?_
 clear k1
 rintro ev w2 ⟨x,v,rfl,hP⟩
 have HP':=Z00 hP
 clear hP
 go_wp2_with fail
 go_ret3
 exact ⟨x,v,rfl,HP'.out⟩
end
section
open Go.Maps
def Z1k:List (List UInt8):=[[105,110,116],[99,111,110,115,116],[116,101,120,116],[109,97,107,101],[99,111,112,121],[103,101,116],[112,117,116],[109,105,110,111,114],[109,97,106,111,114],[115,101,114,105,97,108],[119,101,97,107],[108,111,111,107]]
theorem Zky {w:World}{q:Nat}{A B C N:Int}{nm S:ByteArray} (hn:nm.toList ∉ Z1k) :
  Calls prog 15 #[.pointer (some ⟨q,0,none⟩),Z60 nm A B C N S] w fun ev w'=>ev = .returned (.tuple #[.int .i64 0,.bool false,.nilIface])/\Below w.heap.size w w':=by
 have no:∀ l∈Z1k,(nm.toList == l)=false:=fun l hl=>by rw [U0w];rintro rfl;exact hn hl
 have e1:(nm.toList == [105,110,116])=false:=no _ (by simp [Z1k])
 have e2:(nm.toList == [99,111,110,115,116])=false:=no _ (by simp [Z1k])
 have e3:(nm.toList == [116,101,120,116])=false:=no _ (by simp [Z1k])
 have e4:(nm.toList == [109,97,107,101])=false:=no _ (by simp [Z1k])
 have e5:(nm.toList == [99,111,112,121])=false:=no _ (by simp [Z1k])
 have e6:(nm.toList == [103,101,116])=false:=no _ (by simp [Z1k])
 have e7:(nm.toList == [112,117,116])=false:=no _ (by simp [Z1k])
 have e8:(nm.toList == [109,105,110,111,114])=false:=no _ (by simp [Z1k])
 have e9:(nm.toList == [109,97,106,111,114])=false:=no _ (by simp [Z1k])
 have e10:(nm.toList == [115,101,114,105,97,108])=false:=no _ (by simp [Z1k])
 have e11:(nm.toList == [119,101,97,107])=false:=no _ (by simp [Z1k])
 have e12:(nm.toList == [108,111,111,107])=false:=no _ (by simp [Z1k])
 have b1:Below w.heap.size w (w.alloc (.cells #[.string nm,.int .i64 A,.int .i64 B,.int .i64 C,.int .i64 N,.string S] 36)):=(U01 _ _).alloc (U02 _) _
 have HB:=Z00 b1
 clear no hn b1
 unfold Z60
 go_enter func15,ntmps15
 go_wp2_with fail
 go_ret3
 exact ⟨rfl,HB.out⟩
end
section
open Go.Maps
structure Res where
 e:Nat
 num:Int
 M:MO
 X:MXtra
 need:Int
def Res.err (M:MO) (X:MXtra) (e:Nat):Res:=⟨e,0,M,X,0⟩
def inR (M:MO) (r:Int):Prop:=0<=r/\r<(M.R.length:Int)
instance (M:MO) (r:Int):Decidable (inR M r):=inferInstanceAs (Decidable (_/\_))
def Z1d (M:MO) (r:Int):CL:=M.R.getD r.toNat cl0
def Z4u (M:MO) (i:Nat):ND:=M.N.getD i ⟨0,[],[]⟩
def Z2f (M:MO) (r k:Int):Nat:=
 if inR M r then if (Z1d M r).kind=4 then if (Z4u M (Z1d M r).ref).kind<8 then 2 else if 0<=k/\k<((Z4u M (Z1d M r).ref).f.length:Int) then 0 else 1 else 2 else 4
def Z31 (M:MO) (r:Int):Nat:=if inR M r then if (Z1d M r).kind=4 then 0 else 2 else 4
def Zra (M:MO) (X:MXtra) (A n:Int):Res:=
 if inR M A then if -2305843009213693952<=n/\n<2305843009213693952 then ⟨0,0,M.set A.toNat (clI n),X,0⟩ else ⟨0,0,M.made A.toNat (Zju n),X,2⟩ else .err M X 4
def Z99 (M:MO) (X:MXtra) (A B:Int):Res:=
 if inR M A then if 0<=B/\B<=2 then ⟨0,0,M.set A.toNat (clK B.toNat),X,0⟩ else .err M X 1 else .err M X 4
def Zeq (M:MO) (X:MXtra) (A:Int) (S:ByteArray):Res:=
 if inR M A then if S.size<=2000 then ⟨0,0,M.made A.toNat (mkTx S),X,1+((Z22 S).length:Int)⟩ else .err M X 1 else .err M X 4
def Zga (M:MO) (X:MXtra) (A B C:Int):Res:=
 if inR M A then if 8<=B/\B<=255/\0<=C/\C<=4096 then ⟨0,0,M.made A.toNat (mkN B C.toNat),X,1+C⟩ else .err M X 1 else .err M X 4
def Zg1 (M:MO) (X:MXtra) (A B:Int):Res:=
 if inR M A then if inR M B then ⟨0,0,M.set A.toNat (Z1d M B),X,0⟩ else .err M X 4 else .err M X 4
def Zrt (M:MO) (X:MXtra) (A B C:Int):Res:=
 if inR M C then if Z2f M A B=0 then ⟨0,0,M.set C.toNat ((Z4u M (Z1d M A).ref).f.getD B.toNat cl0),X,0⟩ else .err M X (Z2f M A B) else .err M X 4
def Zri (M:MO) (X:MXtra) (A B C:Int):Res:=
 if inR M C then if Z2f M A B=0 then ⟨0,0,M.putN (Z1d M A).ref (Z4u M (Z1d M A).ref) B.toNat (Z1d M C),X,0⟩ else .err M X (Z2f M A B) else .err M X 4
def Zmj (M:MO) (X:MXtra):Res:=⟨0,0,M,X,0⟩
def Z5w (M:MO) (X:MXtra) (A:Int):Res:=
 if Z31 M A=0 then if X.ser (Z1d M A).ref=0 then ⟨0,X.next+1,M,X.give (Z1d M A).ref,0⟩ else ⟨0,X.ser (Z1d M A).ref,M,X,0⟩ else .err M X (Z31 M A)
def Zf6 (M:MO) (X:MXtra) (A:Int):Res:=
 if Z31 M A=0 then ⟨0,(X.K.length:Int),M,X.weak (Z1d M A).ref,0⟩ else .err M X (Z31 M A)
variable {h:HP}{sr:Int}{m:MD}{w w':World}{a:Nat->Addr}{w0:World}{M:MO}{X:MXtra}
def Z3t (a:Nat->Addr) (w0:World) (h:HP) (m:MD) (M:MO) (X:MXtra) (ρ:Res) (w:World) (x:Int) (v:Value) (w':World):Prop:=
 (ρ.e≠0/\x=0/\v=Z0p a ρ.e/\Stp a w0 h m M X w w')\/(ρ.e=0/\x=0/\v=Z0p a 5/\Stp a w0 h m M X w w'/\m.old<(M.words:Int)+ρ.need)\/(ρ.e=0/\x=ρ.num/\v = .nilIface/\Stp a w0 h m ρ.M ρ.X w w')
theorem Z3t.back {ρ:Res}{w1:World}{x:Int}{v:Value} (hb:Below w.heap.size w w1) (p:Z3t a w0 h m M X ρ w1 x v w'):Z3t a w0 h m M X ρ w x v w':=by
 rcases p with ⟨h1,h2,h3,t⟩ | ⟨h1,h2,h3,t,h4⟩ | ⟨h1,h2,h3,t⟩
 ·exact .inl ⟨h1,h2,h3,t.back hb⟩
 ·exact .inr (.inl ⟨h1,h2,h3,t.back hb,h4⟩)
 ·exact .inr (.inr ⟨h1,h2,h3,t.back hb⟩)
theorem Zmd (s:HS a w0 h sr m M X w) {e:Nat} (he:e≠0) (hb:Below w.heap.size w w'):Z3t a w0 h m M X (.err M X e) w 0 (Z0p a e) w':=.inl ⟨he,rfl,rfl,s.same hb⟩
theorem Z1x (s:HS a w0 h sr m M X w) {e:Nat} (he:e≠0) {ev:Ending} (t:Z3s a w e ev w'):∃ v,ev = .returned v/\Z3t a w0 h m M X (.err M X e) w 0 v w':=⟨_,t.1,Zmd s he t.2⟩
theorem Z7v {M':MO}{X':MXtra}{num need:Int} (t:Stp a w0 h m M' X' w w'):Z3t a w0 h m M X ⟨0,num,M',X',need⟩ w num .nilIface w':=.inr (.inr ⟨rfl,rfl,rfl,t⟩)
theorem Zfj {M':MO}{X':MXtra}{need:Int}{ev:Ending} (t:Zjg a w0 h m M X M' X' need w ev w'):∃ v,ev = .returned v/\Z3t a w0 h m M X ⟨0,0,M',X',need⟩ w 0 v w':=by
 rcases t with ⟨rfl,t⟩ | ⟨rfl,t,f⟩
 ·exact ⟨_,rfl,Z7v t⟩
 ·exact ⟨_,rfl,.inr (.inl ⟨rfl,rfl,rfl,t,f⟩)⟩
theorem Z2z {r:Int} (h:inR M r):∃ n:Nat,r=(n:Int)/\n<M.R.length/\M.R[n]?=some (Z1d M r):=by
 obtain ⟨h0,h1⟩:=h
 refine ⟨r.toNat,by omega,by omega,?_⟩
 unfold Z1d
 rw [U07,U03 (by omega)]
 rfl
theorem Z5p (s:HS a w0 h sr m M X w) {r:Int} (h:¬ inR M r):¬ (0<=r/\r<(m.R.length:Int)):=by rw [s.hm.roots];exact h
theorem Zse (s:HS a w0 h sr m M X w) (A n:Int) :
  Calls prog 38 #[.pointer (some ⟨h.q,0,none⟩),.int .i64 A,.int .i64 n] w fun ev w' => ∃ v,ev = .returned v/\Z3t a w0 h m M X (Zra M X A n) w 0 v w':=by
 unfold Zra
 by_cases hA:inR M A
 ·rw [U09 hA]
  obtain ⟨r,rfl,hr,_⟩:=Z2z hA
  rw [U1t]
  have hr':r<m.R.length:=by rw [s.hm.roots];exact hr
  by_cases hn : -2305843009213693952<=n/\n<2305843009213693952
  ·rw [U09 hn]
   exact (Zrd s r n hr' hn.1 hn.2).mono fun ev w' t=>⟨_,t.1,Z7v t.2⟩
  ·rw [U08 hn]
   exact (Zpi s r n hr' (by omega)).mono fun ev w' t=>Zfj t
 ·rw [U08 hA]
  exact (Zii s A n (Z5p s hA)).mono fun ev w' t=>Z1x s (by decide) t
theorem Zk9 (s:HS a w0 h sr m M X w) (A B:Int) :
  Calls prog 32 #[.pointer (some ⟨h.q,0,none⟩),.int .i64 A,.int .i64 B] w fun ev w' => ∃ v,ev = .returned v/\Z3t a w0 h m M X (Z99 M X A B) w 0 v w':=by
 unfold Z99
 by_cases hA:inR M A
 ·rw [U09 hA]
  obtain ⟨r,rfl,hr,_⟩:=Z2z hA
  rw [U1t]
  have hr':r<m.R.length:=by rw [s.hm.roots];exact hr
  by_cases hB:0<=B/\B<=2
  ·rw [U09 hB]
   obtain ⟨b,rfl⟩:∃ b:Nat,B=(b:Int):=⟨B.toNat,by omega⟩
   rw [U1t]
   exact (Zj0 s r b hr' (by omega)).mono fun ev w' t=>⟨_,t.1,Z7v t.2⟩
  ·rw [U08 hB]
   exact (Zcr s r B hr' (by omega)).mono fun ev w' t=>Z1x s (by decide) t
 ·rw [U08 hA]
  exact (Zcv s A B (Z5p s hA)).mono fun ev w' t=>Z1x s (by decide) t
theorem Zp0 (s:HS a w0 h sr m M X w) (A:Int) (S:ByteArray) :
  Calls prog 44 #[.pointer (some ⟨h.q,0,none⟩),.int .i64 A,.string S] w fun ev w' => ∃ v,ev = .returned v/\Z3t a w0 h m M X (Zeq M X A S) w 0 v w':=by
 unfold Zeq
 by_cases hA:inR M A
 ·rw [U09 hA]
  obtain ⟨r,rfl,hr,_⟩:=Z2z hA
  rw [U1t]
  have hr':r<m.R.length:=by rw [s.hm.roots];exact hr
  by_cases hS:S.size<=2000
  ·rw [U09 hS]
   exact (Zpo s r S hr' hS).mono fun ev w' t=>Zfj t
  ·rw [U08 hS]
   exact (Zg9 s r S hr' (by omega)).mono fun ev w' t=>Z1x s (by decide) t
 ·rw [U08 hA]
  exact (Zfu s A S (Z5p s hA)).mono fun ev w' t=>Z1x s (by decide) t
theorem Zpz (s:HS a w0 h sr m M X w) (A B C:Int) :
  Calls prog 28 #[.pointer (some ⟨h.q,0,none⟩),.int .i64 A,.int .i64 B,.int .i64 C] w fun ev w' => ∃ v,ev = .returned v/\Z3t a w0 h m M X (Zga M X A B C) w 0 v w':=by
 unfold Zga
 by_cases hA:inR M A
 ·rw [U09 hA]
  obtain ⟨r,rfl,hr,_⟩:=Z2z hA
  rw [U1t]
  have hr':r<m.R.length:=by rw [s.hm.roots];exact hr
  by_cases hB:8<=B/\B<=255/\0<=C/\C<=4096
  ·rw [U09 hB]
   obtain ⟨c,rfl⟩:∃ c:Nat,C=(c:Int):=⟨C.toNat,by omega⟩
   rw [U1t]
   exact (Zlu s r c B hr' hB.1 hB.2.1 (by omega)).mono fun ev w' t=>Zfj t
  ·rw [U08 hB]
   exact (Zge s r B C hr' hB).mono fun ev w' t=>Z1x s (by decide) t
 ·rw [U08 hA]
  exact (Zex s A B C (Z5p s hA)).mono fun ev w' t=>Z1x s (by decide) t
theorem Zof (s:HS a w0 h sr m M X w) (A B:Int) :
  Calls prog 31 #[.pointer (some ⟨h.q,0,none⟩),.int .i64 A,.int .i64 B] w fun ev w' => ∃ v,ev = .returned v/\Z3t a w0 h m M X (Zg1 M X A B) w 0 v w':=by
 unfold Zg1
 by_cases hA:inR M A
 ·rw [U09 hA]
  obtain ⟨r,rfl,hr,_⟩:=Z2z hA
  rw [U1t]
  have hr':r<m.R.length:=by rw [s.hm.roots];exact hr
  by_cases hB:inR M B
  ·rw [U09 hB]
   obtain ⟨j,hj,_,hc⟩:=Z2z hB
   rw [hj] at hc ⊢
   exact (Zlm s r j _ hr' hc).mono fun ev w' t=>⟨_,t.1,Z7v t.2⟩
  ·rw [U08 hB]
   exact (Zoc s r B hr' (Z5p s hB)).mono fun ev w' t=>Z1x s (by decide) t
 ·rw [U08 hA]
  exact (Zf1 s A B (Z5p s hA)).mono fun ev w' t=>Z1x s (by decide) t
theorem Zgs (s:HS a w0 h sr m M X w) {r k:Int} (h0:Z2f M r k=0):∃ i j:Nat,r=(i:Int)/\k=(j:Int)/\M.R[i]?=some (Z1d M r)/\(Z1d M r).kind=4/\M.N[(Z1d M r).ref]?=some (Z4u M (Z1d M r).ref) /\ ¬ (Z4u M (Z1d M r).ref).kind<8/\j<(Z4u M (Z1d M r).ref).f.length:=by
 unfold Z2f at h0
 by_cases hr:inR M r
 ·rw [U09 hr] at h0
  by_cases h4:(Z1d M r).kind=4
  ·rw [U09 h4] at h0
   by_cases h8:(Z4u M (Z1d M r).ref).kind<8
   ·rw [U09 h8] at h0
    cases h0
   ·rw [U08 h8] at h0
    by_cases hk:0<=k/\k<((Z4u M (Z1d M r).ref).f.length:Int)
    ·obtain ⟨i,hi,_,hc⟩:=Z2z hr
     refine ⟨i,k.toNat,hi,by omega,hc,h4,?_,h8,by omega⟩
     rcases s.hm.rootIs hc with ⟨q,_⟩ | ⟨f,d,o⟩
     ·exact absurd h4 q
     ·have e:Z4u M (Z1d M r).ref=d:=by unfold Z4u;rw [U07,o.has];rfl
      rw [e]
      exact o.has
    ·rw [U08 hk] at h0
     cases h0
  ·rw [U08 h4] at h0
   cases h0
 ·rw [U08 hr] at h0
  cases h0
theorem Zcp (s:HS a w0 h sr m M X w) {r k:Int} (h0:Z2f M r k≠0) (W:World) (hW:Below w.heap.size w W) :
  Calls prog 74 #[.pointer (some ⟨h.q,0,none⟩),.int .i64 r,.int .i64 k] W fun ev w'=>ev = .returned (.tuple #[.int .i64 0,Z0p a (Z2f M r k)])/\Below W.heap.size W w':=by
 have s:=s.below hW
 clear hW
 unfold Z2f at h0 ⊢
 by_cases hr:inR M r
 ·rw [U09 hr] at h0 ⊢
  obtain ⟨i,hi,_,hc⟩:=Z2z hr
  by_cases h4:(Z1d M r).kind=4
  ·rw [U09 h4] at h0 ⊢
   obtain ⟨f,d,o⟩:∃ f d,ObjAt m M i (Z1d M r) f d:=by
    rcases s.hm.rootIs hc with ⟨q,_⟩ | q
    ·exact absurd h4 q
    ·exact q
   have e:Z4u M (Z1d M r).ref=d:=by unfold Z4u;rw [U07,o.has];rfl
   rw [e] at h0 ⊢
   by_cases h8:d.kind<8
   ·rw [U09 h8] at h0 ⊢
    rw [hi]
    exact Z7a k (Zk1 s o h8)
   ·rw [U08 h8] at h0 ⊢
    by_cases hk:0<=k/\k<(d.f.length:Int)
    ·rw [U09 hk] at h0
     exact absurd rfl h0
    ·rw [U08 hk,hi]
     exact Zcy s o h8 hk
  ·rw [U08 h4,hi]
   rw [hi] at hc h4
   exact Z7a k (Zje s hc h4)
 ·rw [U08 hr]
  exact Z7a k (Zfh s (Z5p s hr))
theorem Zs9 (s:HS a w0 h sr m M X w) (A B C:Int) :
  Calls prog 45 #[.pointer (some ⟨h.q,0,none⟩),.int .i64 A,.int .i64 B,.int .i64 C] w fun ev w' => ∃ v,ev = .returned v/\Z3t a w0 h m M X (Zrt M X A B C) w 0 v w':=by
 unfold Zrt
 by_cases hC:inR M C
 ·rw [U09 hC]
  obtain ⟨t,rfl,ht,_⟩:=Z2z hC
  rw [U1t]
  have ht':t<m.R.length:=by rw [s.hm.roots];exact ht
  by_cases hf:Z2f M A B=0
  ·rw [U09 hf]
   obtain ⟨i,j,hi,hj,hc,h4,hd,h8,hl⟩:=Zgs s hf
   have hv:(Z4u M (Z1d M A).ref).f[j]?=some ((Z4u M (Z1d M A).ref).f.getD B.toNat cl0):=by
    rw [hj,U1t,U07,U03 hl]
    rfl
   generalize Z1d M A=c at hc h4 hd h8 hl hv ⊢
   rw [hi,hj]
   rw [hj] at hv
   exact (Zpt s hc h4 hd h8 hv ht').mono fun ev w' t=>⟨_,t.1,Z7v t.2⟩
  ·rw [U08 hf]
   exact (Zo2 s A B ht' (fun W hW=>Zcp s hf W hW)).mono fun ev w' t=>Z1x s hf t
 ·rw [U08 hC]
  exact (Zj1 s A B C (Z5p s hC)).mono fun ev w' t=>Z1x s (by decide) t
theorem Zrw (s:HS a w0 h sr m M X w) (A B C:Int) :
  Calls prog 30 #[.pointer (some ⟨h.q,0,none⟩),.int .i64 A,.int .i64 B,.int .i64 C] w fun ev w' => ∃ v,ev = .returned v/\Z3t a w0 h m M X (Zri M X A B C) w 0 v w':=by
 unfold Zri
 by_cases hC:inR M C
 ·rw [U09 hC]
  obtain ⟨t,et,ht,hv⟩:=Z2z hC
  have ht':t<m.R.length:=by rw [s.hm.roots];exact ht
  by_cases hf:Z2f M A B=0
  ·rw [U09 hf]
   obtain ⟨i,j,hi,hj,hc,h4,hd,h8,hl⟩:=Zgs s hf
   generalize Z1d M A=c at hc h4 hd h8 hl ⊢
   generalize Z1d M C=v at hv ⊢
   rw [hi,hj,et,U1t]
   exact (Zq5 s hc h4 hd h8 hl hv).mono fun ev w' t=>⟨_,t.1,Z7v t.2⟩
  ·rw [U08 hf,et]
   exact (Znz s A B ht' (Zcp s hf w (U01 _ _))).mono fun ev w' t=>Z1x s hf t
 ·rw [U08 hC]
  exact (Zig s A B C (Z5p s hC)).mono fun ev w' t=>Z1x s (by decide) t
theorem Zki (s:HS a w0 h sr m M X w):Calls prog 26 #[.pointer (some ⟨h.q,0,none⟩)] w fun ev w' => ∃ v,ev = .returned v/\Z3t a w0 h m M X (Zmj M X) w 0 v w':=
 (Zaa s).mono fun ev w' t=>by
  rcases t with ⟨e,hb,hl⟩ | ⟨e,t⟩
  ·exact ⟨_,e,.inr (.inl ⟨rfl,rfl,rfl,s.same hb,by show m.old<(M.words:Int)+0;omega⟩)⟩
  ·exact ⟨_,e,Z7v t⟩
theorem Zn7 (s:HS a w0 h sr m M X w):Calls prog 27 #[.pointer (some ⟨h.q,0,none⟩)] w fun ev w' => ∃ v,ev = .returned v/\Z3t a w0 h m M X (Zmj M X) w 0 v w':=
 (Zan s).mono fun ev w' t=>by
  rcases t with ⟨e,hb,hl⟩ | ⟨e,t⟩
  ·exact ⟨_,e,.inr (.inl ⟨rfl,rfl,rfl,s.same hb,by show m.old<(M.words:Int)+0;omega⟩)⟩
  ·exact ⟨_,e,Z7v t.stp⟩
theorem Zd6 (s:HS a w0 h sr m M X w) {r:Int} (h0:Z31 M r≠0) :
  Calls prog 72 #[.pointer (some ⟨h.q,0,none⟩),.int .i64 r] w fun ev w'=>ev = .returned (.tuple #[.int .u64 0,Z0p a (Z31 M r)])/\Below w.heap.size w w':=by
 unfold Z31 at h0 ⊢
 by_cases hr:inR M r
 ·rw [U09 hr] at h0 ⊢
  obtain ⟨i,hi,_,hc⟩:=Z2z hr
  by_cases h4:(Z1d M r).kind=4
  ·rw [U09 h4] at h0
   exact absurd rfl h0
  ·rw [U08 h4]
   generalize Z1d M r=c at hc h4
   rw [hi]
   exact Z9m s hc h4
 ·rw [U08 hr]
  exact Z9w s (Z5p s hr)
theorem Zhn {r:Int} (h0:Z31 M r=0):∃ i:Nat,r=(i:Int)/\M.R[i]?=some (Z1d M r)/\(Z1d M r).kind=4:=by
 unfold Z31 at h0
 by_cases hr:inR M r
 ·rw [U09 hr] at h0
  obtain ⟨i,hi,_,hc⟩:=Z2z hr
  by_cases h4:(Z1d M r).kind=4
  ·exact ⟨i,hi,hc,h4⟩
  ·rw [U08 h4] at h0
   cases h0
 ·rw [U08 hr] at h0
  cases h0
theorem HM.srNext (hm:HM m sr M X):sr=X.next:=by obtain ⟨_,_,_,_,hw⟩:=hm;exact hw.next
theorem Zht (s:HS a w0 h sr m M X w) (hx:X.next<4611686018427387904) (A:Int) :
  Calls prog 46 #[.pointer (some ⟨h.q,0,none⟩),.int .i64 A] w fun ev w' => ∃ x v,ev = .returned (.tuple #[.int .i64 x,v])/\Z3t a w0 h m M X (Z5w M X A) w x v w':=by
 unfold Z5w
 by_cases hp:Z31 M A=0
 ·rw [U09 hp]
  obtain ⟨i,hi,hc,h4⟩:=Zhn hp
  generalize Z1d M A=c at hc h4 ⊢
  rw [hi]
  refine (Zgi s hc h4 (by rw [s.hm.srNext];exact hx)).mono fun ev w' t => ?_
  rcases t with ⟨h1,e,t⟩ | ⟨h1,e,t⟩
  ·rw [U08 h1]
   exact ⟨_,_,e,Z7v t⟩
  ·rw [U09 h1]
   exact ⟨_,_,e,Z7v t⟩
 ·rw [U08 hp]
  exact (Zfb (Zd6 s hp)).mono fun ev w' t=>⟨_,_,t.1,Zmd s hp t.2⟩
theorem Zq2 (s:HS a w0 h sr m M X w) (hk:X.K.length<5000) (A:Int) :
  Calls prog 29 #[.pointer (some ⟨h.q,0,none⟩),.int .i64 A] w fun ev w' => ∃ x v,ev = .returned (.tuple #[.int .i64 x,v])/\Z3t a w0 h m M X (Zf6 M X A) w x v w':=by
 unfold Zf6
 by_cases hp:Z31 M A=0
 ·rw [U09 hp]
  obtain ⟨i,hi,hc,h4⟩:=Zhn hp
  generalize Z1d M A=c at hc h4 ⊢
  rw [hi]
  exact (Zpy s hc h4 hk).mono fun ev w' t=>⟨_,_,t.1,Z7v t.2⟩
 ·rw [U08 hp]
  exact (Zlz (Zd6 s hp)).mono fun ev w' t=>⟨_,_,t.1,Zmd s hp t.2⟩
def Zjo (M:MO) (X:MXtra) (nm:List UInt8) (A B C N:Int) (S:ByteArray):Res:=
 if nm = [105,110,116] then Zra M X A N else if nm = [99,111,110,115,116] then Z99 M X A B else if nm = [116,101,120,116] then Zeq M X A S else if nm = [109,97,107,101] then Zga M X A B C else
 if nm = [99,111,112,121] then Zg1 M X A B else if nm = [103,101,116] then Zrt M X A B C else if nm = [112,117,116] then Zri M X A B C else if nm = [115,101,114,105,97,108] then Z5w M X A else if nm = [119,101,97,107] then Zf6 M X A else Zmj M X
theorem Zmb (s:HS a w0 h sr m M X w) (hx:X.next<4611686018427387904) (hk:X.K.length<5000) {A B C N:Int}{nm S:ByteArray} (hl:nm.toList ≠ [108,111,111,107]) :
  Calls prog 15 #[.pointer (some ⟨h.q,0,none⟩),Z60 nm A B C N S] w fun ev w' => ∃ x v,ev = .returned (.tuple #[.int .i64 x,.bool false,v])/\Z3t a w0 h m M X (Zjo M X nm.toList A B C N S) w x v w':=by
 have one:∀ {K:FuncId}{args:World->Array Value}{ρ:Res},(∀ W,Below w.heap.size w W -> ∀ s':HS a w0 h sr m M X W,Calls prog K (args W) W fun ev w' => ∃ v,ev = .returned v/\Z3t a w0 h m M X ρ W 0 v w') -> ∀ W,Below w.heap.size w W->Calls prog K (args W) W fun ev w' => ∃ v,ev = .returned v/\Z3t a w0 h m M X ρ w 0 v w':=
  fun k W b=>(k W b (s.below b)).mono fun ev w' ⟨v,e,p⟩=>⟨v,e,p.back b⟩
 unfold Zjo
 by_cases h1:nm.toList = [105,110,116]
 ·rw [U09 h1]
  exact (Zqo h1 _ (one (args:=fun _=>_) fun W b s'=>Zse s' A N)).mono fun ev w' ⟨v,e,p⟩=>⟨0,v,e,p⟩
 rw [U08 h1]
 by_cases h2:nm.toList = [99,111,110,115,116]
 ·rw [U09 h2]
  exact (Znp h2 _ (one (args:=fun _=>_) fun W b s'=>Zk9 s' A B)).mono fun ev w' ⟨v,e,p⟩=>⟨0,v,e,p⟩
 rw [U08 h2]
 by_cases h3:nm.toList = [116,101,120,116]
 ·rw [U09 h3]
  exact (Zpx h3 _ (one (args:=fun _=>_) fun W b s'=>Zp0 s' A S)).mono fun ev w' ⟨v,e,p⟩=>⟨0,v,e,p⟩
 rw [U08 h3]
 by_cases h4:nm.toList = [109,97,107,101]
 ·rw [U09 h4]
  exact (Znv h4 _ (one (args:=fun _=>_) fun W b s'=>Zpz s' A B C)).mono fun ev w' ⟨v,e,p⟩=>⟨0,v,e,p⟩
 rw [U08 h4]
 by_cases h5:nm.toList = [99,111,112,121]
 ·rw [U09 h5]
  exact (Zod h5 _ (one (args:=fun _=>_) fun W b s'=>Zof s' A B)).mono fun ev w' ⟨v,e,p⟩=>⟨0,v,e,p⟩
 rw [U08 h5]
 by_cases h6:nm.toList = [103,101,116]
 ·rw [U09 h6]
  exact (Zrh h6 _ (one (args:=fun _=>_) fun W b s'=>Zs9 s' A B C)).mono fun ev w' ⟨v,e,p⟩=>⟨0,v,e,p⟩
 rw [U08 h6]
 by_cases h7:nm.toList = [112,117,116]
 ·rw [U09 h7]
  exact (Zqz h7 _ (one (args:=fun _=>_) fun W b s'=>Zrw s' A B C)).mono fun ev w' ⟨v,e,p⟩=>⟨0,v,e,p⟩
 rw [U08 h7]
 by_cases h8:nm.toList = [115,101,114,105,97,108]
 ·rw [U09 h8]
  exact Zji h8 _ fun W b=>(Zht (s.below b) hx A).mono fun ev w' ⟨x,v,e,p⟩=>⟨x,v,e,p.back b⟩
 rw [U08 h8]
 by_cases h9:nm.toList = [119,101,97,107]
 ·rw [U09 h9]
  exact Zpu h9 _ fun W b=>(Zq2 (s.below b) hk A).mono fun ev w' ⟨x,v,e,p⟩=>⟨x,v,e,p.back b⟩
 rw [U08 h9]
 by_cases h10:nm.toList = [109,105,110,111,114]
 ·exact (Zmz h10 _ (one (args:=fun _=>_) fun W b s'=>Zki s')).mono fun ev w' ⟨v,e,p⟩=>⟨0,v,e,p⟩
 by_cases h11:nm.toList = [109,97,106,111,114]
 ·exact (Zlh h11 _ (one (args:=fun _=>_) fun W b s'=>Zn7 s')).mono fun ev w' ⟨v,e,p⟩=>⟨0,v,e,p⟩
 refine (Zky (by simp only [Z1k,U19,List.not_mem_nil,or_false,not_or];exact ⟨h1,h2,h3,h4,h5,h6,h7,h10,h11,h8,h9,hl⟩)).mono fun ev w' t=>⟨0,_,t.1,Z7v (s.same t.2)⟩
def Zs1 (a:Nat->Addr) (w0:World) (h:HP) (m:MD) (M:MO) (X:MXtra) (A B:Int) (w:World) (x:Bool) (v:Value) (w':World):Prop:=
 (¬ (0<=A/\A<(X.K.length:Int)/\inR M B)/\x=false/\v=Z0p a 4/\Stp a w0 h m M X w w') \/
 (0<=A/\A<(X.K.length:Int)/\inR M B/\v = .nilIface /\ ∃ i,X.K[A.toNat]?=some i/\((x=false/\i ∉ M.all/\Stp a w0 h m (M.set B.toNat (clK 0)) X w w')\/(x=true/\Stp a w0 h m (M.set B.toNat ⟨4,0,i⟩) X w w')))
theorem Zs1.back {A B:Int}{w1:World}{x:Bool}{v:Value} (hb:Below w.heap.size w w1) (p:Zs1 a w0 h m M X A B w1 x v w'):Zs1 a w0 h m M X A B w x v w':=by
 rcases p with ⟨h1,h2,h3,t⟩ | ⟨h1,h2,h3,h4,i,hi,⟨h5,h6,t⟩ | ⟨h5,t⟩⟩
 ·exact .inl ⟨h1,h2,h3,t.back hb⟩
 ·exact .inr ⟨h1,h2,h3,h4,i,hi,.inl ⟨h5,h6,t.back hb⟩⟩
 ·exact .inr ⟨h1,h2,h3,h4,i,hi,.inr ⟨h5,t.back hb⟩⟩
def Z6x (M:MO) (X:MXtra) (ρ:Res):Prop:=ρ.M.R.length=M.R.length/\ρ.X.K.length<=X.K.length+1/\ρ.X.next<=X.next+1
theorem Z16 {M:MO}{X:MXtra}{e:Nat} : Z6x M X (.err M X e):=⟨rfl,Nat.le_succ _,by show X.next<=_;omega⟩
theorem Z2o {M M':MO}{X:MXtra}{num need:Int} (h:M'.R.length=M.R.length):Z6x M X ⟨0,num,M',X,need⟩:=⟨h,Nat.le_succ _,by show X.next<=_;omega⟩
theorem Zbh {M:MO}{r:Nat}{c:CL} : (M.set r c).R.length=M.R.length:=U0t ..
theorem Zcb {M:MO}{r:Nat}{d:ND} : (M.made r d).R.length=M.R.length:=U0t ..
theorem Ziw (M:MO) (X:MXtra) (nm:List UInt8) (A B C N:Int) (S:ByteArray):Z6x M X (Zjo M X nm A B C N S):=by
 have k1:Z6x M X (Zra M X A N):=by
  unfold Zra
  split
  ·split
   ·exact Z2o Zbh
   ·exact Z2o Zcb
  ·exact Z16
 have k2:Z6x M X (Z99 M X A B):=by
  unfold Z99
  split
  ·split
   ·exact Z2o Zbh
   ·exact Z16
  ·exact Z16
 have k3:Z6x M X (Zeq M X A S):=by
  unfold Zeq
  split
  ·split
   ·exact Z2o Zcb
   ·exact Z16
  ·exact Z16
 have k4:Z6x M X (Zga M X A B C):=by
  unfold Zga
  split
  ·split
   ·exact Z2o Zcb
   ·exact Z16
  ·exact Z16
 have k5:Z6x M X (Zg1 M X A B):=by
  unfold Zg1
  split
  ·split
   ·exact Z2o Zbh
   ·exact Z16
  ·exact Z16
 have k6:Z6x M X (Zrt M X A B C):=by
  unfold Zrt
  split
  ·split
   ·exact Z2o Zbh
   ·exact Z16
  ·exact Z16
 have k7:Z6x M X (Zri M X A B C):=by
  unfold Zri
  split
  ·split
   ·exact Z2o rfl
   ·exact Z16
  ·exact Z16
 have k8:Z6x M X (Z5w M X A):=by
  unfold Z5w
  split
  ·split
   ·exact ⟨rfl,Nat.le_succ _,Int.le_refl _⟩
   ·exact Z2o rfl
  ·exact Z16
 have k9:Z6x M X (Zf6 M X A):=by
  unfold Zf6
  split
  ·refine ⟨rfl,?_,?_⟩
   ·show (X.K ++ [_]).length<=_
    rw [U0f]
    exact U02 _
   ·show X.next<=_
    omega
  ·exact Z16
 have k10:Z6x M X (Zmj M X):=Z2o rfl
 unfold Zjo
 split
 ·exact k1
 split
 ·exact k2
 split
 ·exact k3
 split
 ·exact k4
 split
 ·exact k5
 split
 ·exact k6
 split
 ·exact k7
 split
 ·exact k8
 split
 ·exact k9
 ·exact k10
end
end Go.Proofs.YtlkcbdinlfeoiaaGreatDoor
