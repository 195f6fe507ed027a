/- errors.As, errors.Is, plain.Code at the errors of package api, by contracts; what a row lays of them. -/
import Derived.Test.YtlkcbdinlfeoiaaGreatDoorKvC
import Derived.Test.YtlkcbdinlfeoiaaGreatDoorKwF
import Derived.Test.YtlkcbdinlfeoiaaGreatDoorKwA
namespace Go.Proofs.YtlkcbdinlfeoiaaGreatDoor
open Go.Proofs.Tryz Go.RowKit
set_option maxHeartbeats 8000000
set_option maxRecDepth 100000
section
open Go.Extern Go.Extern.Stop Go.Stop
theorem Zng (t:Addr) (w:World):(ReflectliteValue.unpack (.iface 150 (.pointer (some t)))).run prog w
  = .ok (.agg #[.pointer (some ⟨14,150,none⟩),.pointer (some ⟨w.heap.size,0,none⟩),.int .u64 150]) (w.alloc (.cells #[.pointer (some t)] 150)):=by kernel_rfl
theorem Zoh (a : Addr) (w : World) : (ReflectliteValue.methodAny (ReflectliteValue.valueError "reflectlite.Value.Type" 0) (fun t _ _ _ => ReflectliteType.toType t) #[.agg #[.pointer (some ⟨14, 150, none⟩), .pointer (some a), .int .u64 150]]).run prog w
  = .ok (.iface 247 (.agg #[.pointer (some ⟨14,150,none⟩)])) w:=by kernel_rfl
theorem mKind (h : Value) (w : World) : (Go.method 468 247 (.agg #[h]) "Kind").run prog w = .ok (289, h) w := by kernel_rfl
theorem Zrq (w:World):((ReflectliteType.abiMethod fun t=>(fun a:Nat=>Value.int IntKind.u8 (a:Int)) <$> Rtype.kind t) #[.pointer (some ⟨14,150,none⟩)]).run prog w = .ok (.int .u8 22) w:=by kernel_rfl
theorem Ztp (w:World):((ReflectliteType.abiMethod fun t=>(fun a:Nat=>Value.int IntKind.u8 (a:Int)) <$> Rtype.kind t) #[.pointer (some ⟨14,148,none⟩)]).run prog w = .ok (.int .u8 22) w:=by kernel_rfl
theorem Zf3 (a:Addr) (w:World):(ReflectliteValue.parts (.agg #[.pointer (some ⟨14,150,none⟩),.pointer (some a),.int .u64 150])).run prog w = .ok (some (150,a,150)) w:=by kernel_rfl
theorem Zl1 (a p:Addr) (W:World) (ha:W.cell? a=some (.pointer (some p))) :
  (ReflectliteValue.method (ReflectliteValue.valueError "reflectlite.Value.IsNil" 0) ReflectliteValue.isNil #[.agg #[.pointer (some ⟨14, 150, none⟩), .pointer (some a), .int .u64 150]]).run prog W = .ok (.bool false) W := by
 change Sem.run _ (ReflectliteValue.parts (.agg #[.pointer (some ⟨14,150,none⟩),.pointer (some a),.int .u64 150]) >>= _) _=_
 simp only [Sem.run_bind,Zf3,Result.andThen]
 simp [ReflectliteValue.isNil,loadVar,isAgg,underlying,underlying150,ha,Result.andThen]
theorem mElem (h : Value) (w : World) : (Go.method 468 247 (.agg #[h]) "Elem").run prog w = .ok (302, .agg #[h]) w := by kernel_rfl
theorem Zg4 (h : Value) (w : World) : (Go.method 468 247 (.agg #[h]) "Implements").run prog w = .ok (303, .agg #[h]) w := by kernel_rfl
theorem Zg7 (h : Value) (w : World) : (Go.method 468 247 (.agg #[h]) "AssignableTo").run prog w = .ok (300, .agg #[h]) w := by kernel_rfl
theorem Zis (w:World):(ReflectliteType.method ReflectliteType.elem #[.agg #[.pointer (some ⟨14,150,none⟩)]]).run prog w = .ok (.iface 247 (.agg #[.pointer (some ⟨14,148,none⟩)])) w:=by kernel_rfl
theorem Zmg (w : World) : (ReflectliteType.relation "Implements" ReflectliteType.implements_ #[.agg #[.pointer (some ⟨14, 148, none⟩)], .iface 247 (.agg #[.pointer (some ⟨14, 27, none⟩)])]).run prog w = .ok (.bool true) w := by kernel_rfl
theorem Zer (v:Value) (w:World):(ReflectliteType.typeOf #[.iface 338 v]).run prog w = .ok (.iface 247 (.agg #[.pointer (some ⟨14,338,none⟩)])) w:=by kernel_rfl
theorem Zs2 (w : World) : (ReflectliteType.relation "AssignableTo" ReflectliteType.assignableTo #[.agg #[.pointer (some ⟨14, 338, none⟩)], .iface 247 (.agg #[.pointer (some ⟨14, 148, none⟩)])]).run prog w = .ok (.bool false) w := by kernel_rfl
theorem Zq0 (v:Value) (xT:TypeId) (w:World):(Instr.typeAssert (.iface 338 v) xT 251 true).run prog w = .ok (.tuple #[.nilIface,.bool false]) w:=U3w underlying251 (by kernel_rfl) (by kernel_rfl) v xT w
theorem Zp3 (v:Value) (xT:TypeId) (w:World):(Instr.typeAssert (.iface 338 v) xT 257 true).run prog w = .ok (.tuple #[.nilIface,.bool false]) w:=U3w underlying257 (by kernel_rfl) (by kernel_rfl) v xT w
theorem Zhi (v:Value) (xT:TypeId) (w:World):(Instr.typeAssert (.iface 338 v) xT 254 true).run prog w = .ok (.tuple #[.nilIface,.bool false]) w:=U3w underlying254 (by kernel_rfl) (by kernel_rfl) v xT w
theorem Zdh (v:Value) (xT:TypeId) (w:World):(Instr.typeAssert (.iface 338 v) xT 255 true).run prog w = .ok (.tuple #[.nilIface,.bool false]) w:=U3w underlying255 (by kernel_rfl) (by kernel_rfl) v xT w
theorem Zlf (w : World) : ((ReflectliteType.method fun t => do Rtype.noPackHeld "Comparable" t; (fun a => Value.bool a.comparable) <$> typeInfo t) #[.agg #[.pointer (some ⟨14, 338, none⟩)]]).run prog w = .ok (.bool true) w := by kernel_rfl
theorem mCmp (v : Value) (w : World) : (Go.method 468 247 v "Comparable").run prog w = .ok (301, v) w := by kernel_rfl
theorem Zqd:(prog.info? 338).map (·.comparable)=some true:=by kernel_rfl
theorem Zta:(prog.info? 356).map (·.size)=some 1:=by kernel_rfl
theorem Zqx (e t:Addr) (w:World) (hg:w.cell? ⟨7,0,none⟩=some (.iface 247 (.agg #[.pointer (some ⟨14,27,none⟩)]))) :
  Calls prog 92 #[.iface 338 (.pointer (some e)),.iface 150 (.pointer (some t))] w fun ev w'=>ev = .returned (.bool false)/\w'=((w.alloc (.cells #[.pointer (some t)] 150)).alloc (.cells #[.pointer (some ⟨14,150,none⟩),.pointer (some ⟨w.heap.size,0,none⟩),.int .u64 150] 206)).alloc (.cells #[.pointer (some ⟨14,150,none⟩),.pointer (some ⟨w.heap.size,0,none⟩),.int .u64 150] 206):=by
 have hVO:=@U2u prog 140 _ (fun args=>ReflectliteValue.unpack (args.getD 0 (.tuple #[]))) func140 (by kernel_rfl) (by kernel_rfl) (by kernel_rfl) (by kernel_rfl)
 have hVT := @run_callFunc_extern prog 141 _ (ReflectliteValue.methodAny (ReflectliteValue.valueError "reflectlite.Value.Type" 0) (fun t _ _ _ => ReflectliteType.toType t)) func141 (by kernel_rfl) (by kernel_rfl) (by kernel_rfl) (by kernel_rfl)
 have hVN := @run_callFunc_extern prog 142 _ (ReflectliteValue.method (ReflectliteValue.valueError "reflectlite.Value.IsNil" 0) ReflectliteValue.isNil) func142 (by kernel_rfl) (by kernel_rfl) (by kernel_rfl) (by kernel_rfl)
 have hK:=@U2u prog 289 _ (ReflectliteType.abiMethod fun t=>do pure (.int .u8 (<- Rtype.kind t))) func289 (by kernel_rfl) (by kernel_rfl) (by kernel_rfl) (by kernel_rfl)
 have hRE:=@U2u prog 302 _ (ReflectliteType.method ReflectliteType.elem) func302 (by kernel_rfl) (by kernel_rfl) (by kernel_rfl) (by kernel_rfl)
 have hRI := @run_callFunc_extern prog 303 _ (ReflectliteType.relation "Implements" ReflectliteType.implements_) func303 (by kernel_rfl) (by kernel_rfl) (by kernel_rfl) (by kernel_rfl)
 have hTO:=@U2u prog 144 _ ReflectliteType.typeOf func144 (by kernel_rfl) (by kernel_rfl) (by kernel_rfl) (by kernel_rfl)
 have hRA := @run_callFunc_extern prog 300 _ (ReflectliteType.relation "AssignableTo" ReflectliteType.assignableTo) func300 (by kernel_rfl) (by kernel_rfl) (by kernel_rfl) (by kernel_rfl)
 have c1:=Zer
 have c2:=Zg7
 have c3:=Zs2
 have c5:=Zng
 have c6:=Zoh
 have c7:=mKind
 have c8:=mElem
 have c9:=Zg4
 have c10:=Zrq
 have c11:=Ztp
 have c12:=Zis
 have c13:=Zmg
 have c14:=Zq0
 have c15:=Zhi
 have c16:=Zdh
 have n8:=Zl1 ⟨w.heap.size,0,none⟩ t ((w.alloc (.cells #[.pointer (some t)] 150)).alloc (.cells #[.pointer (some ⟨14,150,none⟩),.pointer (some ⟨w.heap.size,0,none⟩),.int .u64 150] 206)) (by simp)
 have hlt:7<w.heap.size:=Z02 hg
 have hg2:((w.alloc (.cells #[.pointer (some t)] 150)).alloc (.cells #[.pointer (some ⟨14,150,none⟩),.pointer (some ⟨w.heap.size,0,none⟩),.int .u64 150] 206)).cell? ⟨7,0,none⟩=some (.iface 247 (.agg #[.pointer (some ⟨14,27,none⟩)])):=by
  rw [World.cell?_alloc_lt _ _ ⟨7,0,none⟩ (by simp;omega),World.cell?_alloc_lt _ _ ⟨7,0,none⟩ hlt];exact hg
 go_enter func92,ntmps92
 go_wp2
 refine U54 1 ?_
 rw [U30]
 go_wp2
 go_ret
 exact ⟨rfl,rfl⟩
theorem Zrv (a:Addr) (w:World) :
  Calls prog 93 #[.iface 338 (.pointer (some a)),.iface 338 (.pointer (some a))] w fun e w'=>e = .returned (.bool true)/\w'=w:=by
 obtain ⟨i,hi,hcmp⟩:=U1i.1 Zqd
 obtain ⟨j,hj,hjs⟩:=U1i.1 Zta
 have hTO:=@U2u prog 144 _ ReflectliteType.typeOf func144 (by kernel_rfl) (by kernel_rfl) (by kernel_rfl) (by kernel_rfl)
 have hRC := @run_callFunc_extern prog 301 _ (ReflectliteType.method fun t => do Rtype.noPackHeld "Comparable" t; pure (.bool (← typeInfo t).comparable)) func301 (by kernel_rfl) (by kernel_rfl) (by kernel_rfl) (by kernel_rfl)
 have c1:=Zer
 have c2:=Zlf
 have c3:=mCmp
 have heq:=run_eql_iface_ptr_same (P:=prog) w a underlying27 underlying338 hi hcmp hj
 go_enter func93,ntmps93
 go_wp2
 refine U54 1 ?_
 rw [U30]
 go_wp2
 go_ret
 exact ⟨rfl,rfl⟩
theorem Zp6 (a b:Addr) (ca cb:Array Value) (ta tb:TypeId) (w:World) (hne:a≠b) (ha:w.heap[a.block]?=some (.cells ca ta (0,0))) (hb:w.heap[b.block]?=some (.cells cb tb (0,0))) :
  Calls prog 93 #[.iface 338 (.pointer (some a)),.iface 338 (.pointer (some b))] w fun e w'=>e = .returned (.bool false)/\w'=w:=by
 obtain ⟨i,hi,hcmp⟩:=U1i.1 Zqd
 obtain ⟨j,hj,hjs⟩:=U1i.1 Zta
 have hTO:=@U2u prog 144 _ ReflectliteType.typeOf func144 (by kernel_rfl) (by kernel_rfl) (by kernel_rfl) (by kernel_rfl)
 have hRC := @run_callFunc_extern prog 301 _ (ReflectliteType.method fun t => do Rtype.noPackHeld "Comparable" t; pure (.bool (← typeInfo t).comparable)) func301 (by kernel_rfl) (by kernel_rfl) (by kernel_rfl) (by kernel_rfl)
 have c1:=Zer
 have c2:=Zlf
 have c3:=mCmp
 have c4:=Zp3
 have c5:=Zhi
 have c6:=Zdh
 have heq:=run_eql_iface_ptr_other (P:=prog) w underlying27 underlying338 hi hcmp hj (by rw [hjs];decide) hne ha hb
 go_enter func93,ntmps93
 go_wp2
 refine U54 1 ?_
 rw [U30]
 go_wp2
 go_ret
 exact ⟨rfl,rfl⟩
def Z5r (is:Nat->Bool):Int:=if is 0 then 1 else if is 1 then 2 else if is 2 then 3 else if is 3 then 4 else if is 4 then 5 else if is 5 then 6 else if is 6 then 7 else -1
theorem Zpk (e t:Addr) (w:World) (hg:w.cell? ⟨7,0,none⟩=some (.iface 247 (.agg #[.pointer (some ⟨14,27,none⟩)]))) :
  Calls prog 92 #[.iface 338 (.pointer (some e)),.iface 150 (.pointer (some t))] w fun ev w'=>ev = .returned (.bool false)/\Below w.heap.size w w':=by
 refine (Zqx e t w hg).mono ?_
 rintro ev w' ⟨h1,h2⟩
 subst h2
 exact ⟨h1,(((U01 _ _).alloc (U02 _) _).alloc (by simp) _).alloc (by simp;omega) _⟩
theorem Zm5 (a:Nat->Addr) (e:Addr) (is:Nat->Bool) (w:World) (E:Errs a w)
  (hIs:∀ i,i<7 -> ∀ w1,Below w.heap.size w w1->Calls prog 93 #[.iface 338 (.pointer (some e)),.iface 338 (.pointer (some (a i)))] w1 fun ev w'=>ev = .returned (.bool (is i))/\w'=w1) :
  Calls prog 47 #[.iface 338 (.pointer (some e))] w fun ev w'=>ev = .returned (.tuple #[.int .i64 (Z5r is),.int .i64 (-1)])/\Below w.heap.size w w':=by
 have HI:Hid (∀ i,i<7 -> ∀ w1,Below w.heap.size w w1->Calls prog 93 #[.iface 338 (.pointer (some e)),.iface 338 (.pointer (some (a i)))] w1 fun ev w'=>ev = .returned (.bool (is i))/\w'=w1):=hIs
 clear hIs
 go_enter func47,ntmps47
 go_wp2_with fail
 refine (Zpk _ _ _ (E.below ((U01 _ _).alloc (U02 _) _)).h).mono ?_
 rintro ev w2 ⟨rfl,hb⟩
 have hbw:Below w.heap.size w w2:=((U01 _ _).alloc (U02 _) _).trans (hb.mono (by simp))
 have E2:=E.below hbw
 have hsz:w.heap.size<=w2.heap.size:=hbw.size
 have k0:=E2.c0
 have k1:=E2.c1
 have k2:=E2.c2
 have k3:=E2.c3
 have k4:=E2.c4
 have k5:=E2.c5
 have k6:=E2.c6
 go_wp2_with fail
 refine U54 8 ?_
 clear k0 k1 k2 k3 k4 k5 k6
 rw [U30]
 go_wp2_with fail
 refine (HI.out 0 (by decide) _ (hbw.alloc hsz _)).mono ?_
 rintro ev w3 ⟨rfl,rfl⟩
 cases j0:is 0
 rotate_left
 ·go_wp2_with fail
  go_ret2
  exact ⟨by simp [Z5r,j0],hbw.alloc hsz _⟩
 go_wp2_with fail
 rw [U30]
 go_wp2_with fail
 refine (HI.out 1 (by decide) _ (hbw.alloc hsz _)).mono ?_
 rintro ev w3 ⟨rfl,rfl⟩
 cases j1:is 1
 rotate_left
 ·go_wp2_with fail
  go_ret2
  exact ⟨by simp [Z5r,j0,j1],hbw.alloc hsz _⟩
 go_wp2_with fail
 rw [U30]
 go_wp2_with fail
 refine (HI.out 2 (by decide) _ (hbw.alloc hsz _)).mono ?_
 rintro ev w3 ⟨rfl,rfl⟩
 cases j2:is 2
 rotate_left
 ·go_wp2_with fail
  go_ret2
  exact ⟨by simp [Z5r,j0,j1,j2],hbw.alloc hsz _⟩
 go_wp2_with fail
 rw [U30]
 go_wp2_with fail
 refine (HI.out 3 (by decide) _ (hbw.alloc hsz _)).mono ?_
 rintro ev w3 ⟨rfl,rfl⟩
 cases j3:is 3
 rotate_left
 ·go_wp2_with fail
  go_ret2
  exact ⟨by simp [Z5r,j0,j1,j2,j3],hbw.alloc hsz _⟩
 go_wp2_with fail
 rw [U30]
 go_wp2_with fail
 refine (HI.out 4 (by decide) _ (hbw.alloc hsz _)).mono ?_
 rintro ev w3 ⟨rfl,rfl⟩
 cases j4:is 4
 rotate_left
 ·go_wp2_with fail
  go_ret2
  exact ⟨by simp [Z5r,j0,j1,j2,j3,j4],hbw.alloc hsz _⟩
 go_wp2_with fail
 rw [U30]
 go_wp2_with fail
 refine (HI.out 5 (by decide) _ (hbw.alloc hsz _)).mono ?_
 rintro ev w3 ⟨rfl,rfl⟩
 cases j5:is 5
 rotate_left
 ·go_wp2_with fail
  go_ret2
  exact ⟨by simp [Z5r,j0,j1,j2,j3,j4,j5],hbw.alloc hsz _⟩
 go_wp2_with fail
 rw [U30]
 go_wp2_with fail
 refine (HI.out 6 (by decide) _ (hbw.alloc hsz _)).mono ?_
 rintro ev w3 ⟨rfl,rfl⟩
 cases j6:is 6
 rotate_left
 ·go_wp2_with fail
  go_ret2
  exact ⟨by simp [Z5r,j0,j1,j2,j3,j4,j5,j6],hbw.alloc hsz _⟩
 go_wp2_with fail
 rw [U30]
 go_wp2_with fail
 go_ret2
 exact ⟨by simp [Z5r,j0,j1,j2,j3,j4,j5,j6],hbw.alloc hsz _⟩
theorem Zn3 (k:Nat) (hk:k<7):Z5r (fun i=>i == k)=k+1:=by
 obtain rfl | rfl | rfl | rfl | rfl | rfl | rfl:k=0\/k=1\/k=2\/k=3\/k=4\/k=5\/k=6:=by omega
 all_goals rfl
theorem Ze3 (a:Nat->Addr) (k:Nat) (hk:k<7) (w:World) (E:Errs a w) :
  Calls prog 47 #[.iface 338 (.pointer (some (a k)))] w fun ev w'=>ev = .returned (.tuple #[.int .i64 (k+1),.int .i64 (-1)])/\Below w.heap.size w w':=by
 have h:=Zm5 a (a k) (fun i=>i == k) w E (fun i hi w1 hb=>by
  by_cases e:i=k
  ·subst e
   refine (Zrv (a i) w1).mono ?_
   rintro ev w' ⟨h1,h2⟩
   exact ⟨by rw [h1];simp,h2⟩
  ·obtain ⟨c1,t1,h1⟩:=(E.below hb).b k hk
   obtain ⟨c2,t2,h2⟩:=(E.below hb).b i hi
   refine (Zp6 (a k) (a i) c1 c2 t1 t2 w1 (E.ne k i hk hi (Ne.symm e)) h1 h2).mono ?_
   rintro ev w' ⟨h1,h2⟩
   exact ⟨by rw [h1];simp [e],h2⟩)
 rw [Zn3 k hk] at h
 exact h
theorem Zpj (w:World):Calls prog 47 #[.nilIface] w fun ev w'=>ev = .returned (.tuple #[.int .i64 0,.int .i64 (-1)])/\w'=w:=by
 go_enter func47,ntmps47
 go_wp2
 go_ret2
 exact ⟨rfl,rfl⟩
def Z3m:Nat->String
 | 0 => "nurserypy/api.ErrText"
 | 1 => "nurserypy/api.ErrBound"
 | 2 => "nurserypy/api.ErrShape"
 | 3 => "nurserypy/api.ErrName"
 | 4 => "nurserypy/api.ErrPlace"
 | 5 => "nurserypy/api.ErrFull"
 | _ => "nurserypy/api.ErrNone"
def Z6y:Nat->Nat
 | 0=>2
 | 1=>0
 | 2=>3
 | 3=>4
 | 4=>1
 | 5=>5
 | _=>6
def Zh9:Nat->List UInt8
 | 0 => [116,101,120,116]
 | 1 => [98,111,117,110,100]
 | 2 => [115,104,97,112,101]
 | 3 => [110,97,109,101]
 | 4 => [112,108,97,99,101]
 | 5 => [102,117,108,108]
 | _ => [110,111,110,101]
def Z5i (i:Nat):ByteArray:=⟨([110,117,114,115,101,114,121,112,121,58,32]++Zh9 i).toArray⟩
def Z0r (i : Nat) : String × DataW Unit := (Z3m i, .iface "*errors.errorString" (.ptr (.agg [.lit (.string ([110, 117, 114, 115, 101, 114, 121, 112, 121, 58, 32] ++ Zh9 i))])))
theorem Z5e (i:Nat) (hi:i<7):prog.globalNamed (Z3m i)=some (Z6y i):=by
 iterate 7 (rcases i with _ | i;· kernel_rfl)
 omega
theorem Z8l (i:Nat) (hi:i<7):(prog.globals[Z6y i]?).map (·.type)=some 27:=by
 iterate 7 (rcases i with _ | i;· kernel_rfl)
 omega
theorem Zp4 {W:World} (i:Nat) (hi:i<7) (h:laidMet prog [Z0r i] W):∃ a:Addr,W.var? prog (Z3m i)=some #[.iface 338 (.pointer (some a))]/\W.cell? a=some (.string (Z5i i)):=by
 obtain ⟨a,s,h1,h2,h3,_⟩:=laid_sentinel h (Z5e i hi) (Z8l i hi) underlying27 Zt6 underlying338 underlying356 rfl rfl underlying9 Zqi Zh1
 refine ⟨a,h1,?_⟩
 rw [h2]
 congr 2
 apply U59
 show s.data=_
 rw [<-U5i,h3]
 simp [Z5i]
theorem Zhd {W:World} (i j:Nat) (hi:i<7) (hj:j<7) (h:laidMet prog [Z0r i,Z0r j] W) (a b:Addr) (ha:W.var? prog (Z3m i)=some #[.iface 338 (.pointer (some a))]) (hb:W.var? prog (Z3m j)=some #[.iface 338 (.pointer (some b))]) :
  a≠b/\(∃ c t,W.heap[a.block]?=some (.cells c t (0,0))) /\ ∃ c t,W.heap[b.block]?=some (.cells c t (0,0)):=by
 obtain ⟨a0,a1,s0,s1,c0,c1,t0,t1,hv0,hv1,hc0,hs0,hz0,hc1,hs1,hz1,hne,hb0,hb1⟩:=laid_sentinels2 h (Z5e i hi) (Z8l i hi) (Z5e j hj) (Z8l j hj) underlying27 Zt6 underlying338 underlying356 rfl rfl underlying9 Zqi Zh1
 rw [ha] at hv0
 rw [hb] at hv1
 simp at hv0 hv1
 subst hv0 hv1
 exact ⟨hne,⟨c0,t0,hb0⟩,⟨c1,t1,hb1⟩⟩
theorem Z3e {W:World} (i:Nat) (hi:i<7) (a:Addr) (ha:W.var? prog (Z3m i)=some #[.iface 338 (.pointer (some a))]):W.cell? ⟨Z6y i,0,none⟩=some (.iface 338 (.pointer (some a))):=by
 simpa using World.var?_cell (Z5e i hi) ha 0
theorem Zro : prog.globalNamed "errors.errorType" = some 7 := by kernel_rfl
theorem rtRow : (prog.cutTypes.find? (·.1 == "internal/reflectlite.rtype")).map (·.2) = some 247 := by kernel_rfl
theorem Zsx:((List.range 368).filter fun t=>prog.rowNamed t [101,114,114,111,114]) = [27]:=by kernel_rfl
theorem Ztu:prog.types.size=368:=by kernel_rfl
theorem Zfk {W : World} (h : handlesMet prog [("errors.errorType", Rows.laid_errors_errorType)] W) : W.cell? ⟨7, 0, none⟩ = some (.iface 247 (.agg #[.pointer (some ⟨14, 27, none⟩)])) := by
 obtain ⟨name,u,ty,e1,e2,e3,e4,e5⟩:=h _ (U2p.2 rfl)
 have en:name = [101,114,114,111,114]:=(U1h e1).symm
 subst en
 obtain rfl:=U1h (rtRow.symm.trans e2)
 have hm:ty∈(List.range 368).filter fun t=>prog.rowNamed t [101,114,114,111,114]:=U1l.2 ⟨U0u.2 (by rw [<-Ztu];exact e3),e4⟩
 rw [Zsx] at hm
 obtain rfl:=U2p.1 hm
 have hh:typeHandle prog 27 = .pointer (some ⟨14,27,none⟩):=by kernel_rfl
 rw [hh] at e5
 simpa using World.var?_cell Zro e5 0
def Zqu (a0 a1 a2 a3 a4 a5 a6:Addr):Nat->Addr
 | 0=>a0
 | 1=>a1
 | 2=>a2
 | 3=>a3
 | 4=>a4
 | 5=>a5
 | _=>a6
theorem Zs3 {W : World} {l : List (String × DataW Unit)} (hl : laidMet prog l W) (hh : handlesMet prog [("errors.errorType", Rows.laid_errors_errorType)] W)
  (hsub:∀ i j,i<7->j<7->i≠j -> [Z0r i,Z0r j].Sublist l \/ [Z0r j,Z0r i].Sublist l) :
  ∃ a:Nat->Addr,Errs a W /\ ∀ i,i<7->W.cell? (a i)=some (.string (Z5i i)):=by
 have one:∀ i,i<7 -> ∃ a:Addr,W.var? prog (Z3m i)=some #[.iface 338 (.pointer (some a))]/\W.cell? a=some (.string (Z5i i)):=fun i hi=>by
  refine Zp4 i hi ?_
  obtain ⟨j,hj,hne⟩:∃ j,j<7/\i≠j:=by
   by_cases h:i=0
   ·exact ⟨1,by omega,by omega⟩
   ·exact ⟨0,by omega,by omega⟩
  rcases hsub i j hi hj hne with h | h
  ·exact Z4m ((List.Sublist.cons_cons _ (List.nil_sublist _)).trans h) hl
  ·exact Z4m ((List.Sublist.cons _ (U5c _)).trans h) hl
 obtain ⟨a0,v0,x0⟩:=one 0 (by decide)
 obtain ⟨a1,v1,x1⟩:=one 1 (by decide)
 obtain ⟨a2,v2,x2⟩:=one 2 (by decide)
 obtain ⟨a3,v3,x3⟩:=one 3 (by decide)
 obtain ⟨a4,v4,x4⟩:=one 4 (by decide)
 obtain ⟨a5,v5,x5⟩:=one 5 (by decide)
 obtain ⟨a6,v6,x6⟩:=one 6 (by decide)
 have hf:∀ i,i<7->W.var? prog (Z3m i)=some #[.iface 338 (.pointer (some (Zqu a0 a1 a2 a3 a4 a5 a6 i)))]/\W.cell? (Zqu a0 a1 a2 a3 a4 a5 a6 i)=some (.string (Z5i i)):=fun i hi=>by
  rcases i with _ | i;· exact ⟨v0,x0⟩
  rcases i with _ | i;· exact ⟨v1,x1⟩
  rcases i with _ | i;· exact ⟨v2,x2⟩
  rcases i with _ | i;· exact ⟨v3,x3⟩
  rcases i with _ | i;· exact ⟨v4,x4⟩
  rcases i with _ | i;· exact ⟨v5,x5⟩
  rcases i with _ | i;· exact ⟨v6,x6⟩
  omega
 generalize Zqu a0 a1 a2 a3 a4 a5 a6=a at hf
 have two:∀ i j,i<7->j<7->i≠j->a i≠a j/\(∃ c t,W.heap[(a i).block]?=some (.cells c t (0,0))):=fun i j hi hj hne=>by
  rcases hsub i j hi hj hne with h | h
  ·obtain ⟨h1,h2,_⟩:=Zhd i j hi hj (Z4m h hl) (a i) (a j) (hf i hi).1 (hf j hj).1
   exact ⟨h1,h2⟩
  ·obtain ⟨h1,_,h2⟩:=Zhd j i hj hi (Z4m h hl) (a j) (a i) (hf j hj).1 (hf i hi).1
   exact ⟨h1.symm,h2⟩
 refine ⟨a,⟨Zfk hh,?_,?_,?_,?_,?_,?_,?_,fun i hi => ?_,fun i j hi hj hne=>(two i j hi hj hne).1⟩,fun i hi=>(hf i hi).2⟩
 ·exact Z3e 0 (by decide) (a 0) (hf 0 (by decide)).1
 ·exact Z3e 1 (by decide) (a 1) (hf 1 (by decide)).1
 ·exact Z3e 2 (by decide) (a 2) (hf 2 (by decide)).1
 ·exact Z3e 3 (by decide) (a 3) (hf 3 (by decide)).1
 ·exact Z3e 4 (by decide) (a 4) (hf 4 (by decide)).1
 ·exact Z3e 5 (by decide) (a 5) (hf 5 (by decide)).1
 ·exact Z3e 6 (by decide) (a 6) (hf 6 (by decide)).1
 ·obtain ⟨j,hj,hne⟩:∃ j,j<7/\i≠j:=by
   by_cases h:i=0
   ·exact ⟨1,by omega,by omega⟩
   ·exact ⟨0,by omega,by omega⟩
  exact (two i j hi hj hne).2
theorem Ztl {W : World} (h' : laidMet prog [Z0r 0, Z0r 1, Z0r 2, Z0r 3, Z0r 4, Z0r 5, Z0r 6] W ∧ handlesMet prog [("errors.errorType", Rows.laid_errors_errorType)] W) : ∃ a : Nat → Addr, Errs a W := by
 suffices h:∃ a:Nat->Addr,Errs a W /\ ∀ i,i<7->W.cell? (a i)=some (.string (Z5i i)) by
  obtain ⟨a,E,_⟩:=h
  exact ⟨a,E⟩
 refine Zs3 h'.1 h'.2 (fun i j hi hj hne => ?_)
 have key:∀ i j:Nat,i<j->j<7 -> [Z0r i,Z0r j].Sublist [Z0r 0,Z0r 1,Z0r 2,Z0r 3,Z0r 4,Z0r 5,Z0r 6]:=fun i j h1 h2=>by
  have e:([i,j].Sublist [0,1,2,3,4,5,6]):=by
   have hj:j ∈ [1,2,3,4,5,6]:=by simp;omega
   have hi:i ∈ [0,1,2,3,4,5]:=by simp;omega
   simp at hi hj
   rcases hi with rfl | rfl | rfl | rfl | rfl | rfl <;> rcases hj with rfl | rfl | rfl | rfl | rfl | rfl <;> first | omega | decide
  exact e.map Z0r
 rcases Nat.lt_or_gt_of_ne hne with h | h
 ·exact Or.inl (key i j h hj)
 ·exact Or.inr (key j i h hi)
end
section
open Go.Maps
def Z5n (M:MO) (ρ:Res):Prop:=ρ.M.total<=M.total+301/\ρ.need<=301/\(Ztt M->Ztt ρ.M)/\(ρ.e=0\/ρ.e=1\/ρ.e=2\/ρ.e=4)
theorem Z19 {M:MO}{X:MXtra}{e:Nat} (h:e=0\/e=1\/e=2\/e=4):Z5n M (.err M X e):=⟨U4q _ _,by show (0:Int)<=301;decide,id,h⟩
theorem Z62 {M:MO}{X:MXtra}{r:Nat}{c:CL}{num:Int} : Z5n M ⟨0,num,M.set r c,X,0⟩:=⟨U4q _ _,by show (0:Int)<=301;decide,id,.inl rfl⟩
theorem Z5g {M:MO}{X:MXtra}{num:Int} : Z5n M ⟨0,num,M,X,0⟩:=⟨U4q _ _,by show (0:Int)<=301;decide,id,.inl rfl⟩
theorem Z73 {M:MO}{X:MXtra}{r:Nat}{d:ND}{need:Int} (h1:ndW d<=301) (h2:need<=301) (h3:d.kind<8->RawD d):Z5n M ⟨0,0,M.made r d,X,need⟩:=by
 refine ⟨?_,h2,fun hM x hx => ?_,.inl rfl⟩
 ·show ((M.N ++ [d]).map ndW).sum<=(M.N.map ndW).sum+301
  rw [U1b,U4x]
  show _+(ndW d+0)<=_
  omega
 ·rcases U0c.1 hx with hx | hx
  ·exact hM x hx
  ·rw [U2p.1 hx]
   exact h3
theorem Zlj {M:MO}{X:MXtra}{i k:Nat}{d:ND}{v:CL} (hd:M.N[i]?=some d) (h8:¬ d.kind<8):Z5n M ⟨0,0,M.putN i d k v,X,0⟩:=by
 refine ⟨U0n (U31 ?_) (U4q _ _),by show (0:Int)<=301;decide,fun hM x hx => ?_,.inl rfl⟩
 ·obtain ⟨hi,hg⟩:=U0e.1 hd
  show ((M.N.set i { d with f:=d.f.set k v }).map ndW).sum=(M.N.map ndW).sum
  have e:ndW { d with f:=d.f.set k v } = (M.N.map ndW)[i]'(by rw [U0v];exact hi):=by
   rw [List.getElem_map,hg]
   unfold ndW
   rw [U08 h8,U08 h8,U0t]
  rw [U35,e,List.set_getElem_self]
 ·have hx:x∈M.N.set i { d with f:=d.f.set k v }:=hx
  rcases U1o hx with hx | rfl
  ·exact hM x hx
  ·exact fun h=>absurd h h8
theorem Zns (n:Int):RawD (Zju n):=.inl ⟨rfl,n % 18446744073709551616,rfl,by omega,by omega⟩
theorem Zff {M:MO}{r k:Int} (h0:Z2f M r k=0):M.N[(Z1d M r).ref]?=some (Z4u M (Z1d M r).ref) /\ ¬ (Z4u M (Z1d M r).ref).kind<8:=by
 unfold Z2f at h0
 split at h0
 ·split at h0
  ·split at h0
   ·cases h0
   ·rename_i h8
    refine ⟨?_,h8⟩
    unfold Z4u at h8 ⊢
    rw [U07] at h8 ⊢
    cases e:M.N[(Z1d M r).ref]? with
    | none=>rw [e] at h8;exact absurd (show (0:Int)<8 by decide) h8
    | some d=>rfl
  ·cases h0
 ·cases h0
theorem Zdu (M:MO) (r k:Int):Z2f M r k=0\/Z2f M r k=1\/Z2f M r k=2\/Z2f M r k=4:=by
 unfold Z2f
 repeat' split
 all_goals simp
theorem Zcl (M:MO) (r:Int):Z31 M r=0\/Z31 M r=1\/Z31 M r=2\/Z31 M r=4:=by
 unfold Z31
 repeat' split
 all_goals simp
theorem Zj7 (M:MO) (X:MXtra) (nm:List UInt8) (A B C N:Int) (S:ByteArray) (hb:nm = [109,97,107,101] -> ¬ (300<C/\C<=4096)):Z5n M (Zjo M X nm A B C N S):=by
 have k1:Z5n M (Zra M X A N):=by
  unfold Zra
  split
  ·split
   ·exact Z62
   ·exact Z73 (by show 1+(if (1:Int)<8 then 1 else 0)<=301;decide) (by decide) (fun _=>Zns N)
  ·exact Z19 (by decide)
 have k2:Z5n M (Z99 M X A B):=by
  unfold Z99
  split
  ·split
   ·exact Z62
   ·exact Z19 (by decide)
  ·exact Z19 (by decide)
 have k3:Z5n M (Zeq M X A S):=by
  unfold Zeq
  split
  ·split
   ·rename_i h
    have e:=Z54 S
    refine Z73 ?_ (by rw [e];omega) (fun _=>.inr ⟨rfl,S,h,rfl⟩)
    show 1+(if (2:Int)<8 then (Z22 S).length else 0)<=301
    rw [U09 (by decide),e]
    omega
   ·exact Z19 (by decide)
  ·exact Z19 (by decide)
 have k4:nm = [109,97,107,101]->Z5n M (Zga M X A B C):=fun hn=>by
  have hb:=hb hn
  unfold Zga
  split
  ·split
   ·rename_i h
    refine Z73 ?_ (by omega) (fun h'=>absurd h' (by show ¬ B<8;omega))
    show 1+(if B<8 then 0 else (List.replicate C.toNat cl0).length)<=301
    rw [U08 (by omega),U17]
    omega
   ·exact Z19 (by decide)
  ·exact Z19 (by decide)
 have k5:Z5n M (Zg1 M X A B):=by
  unfold Zg1
  split
  ·split
   ·exact Z62
   ·exact Z19 (by decide)
  ·exact Z19 (by decide)
 have k6:Z5n M (Zrt M X A B C):=by
  unfold Zrt
  split
  ·split
   ·exact Z62
   ·exact Z19 (Zdu ..)
  ·exact Z19 (by decide)
 have k7:Z5n M (Zri M X A B C):=by
  unfold Zri
  split
  ·split
   ·rename_i h
    obtain ⟨h1,h2⟩:=Zff h
    exact Zlj h1 h2
   ·exact Z19 (Zdu ..)
  ·exact Z19 (by decide)
 have k8:Z5n M (Z5w M X A):=by
  unfold Z5w
  split
  ·split
   ·exact Z5g
   ·exact Z5g
  ·exact Z19 (Zcl ..)
 have k9:Z5n M (Zf6 M X A):=by
  unfold Zf6
  split
  ·exact Z5g
  ·exact Z19 (Zcl ..)
 have k10:Z5n M (Zmj M X):=Z5g
 unfold Zjo
 split
 ·exact k1
 split
 ·exact k2
 split
 ·exact k3
 split
 ·rename_i h
  exact k4 h
 split
 ·exact k5
 split
 ·exact k6
 split
 ·exact k7
 split
 ·exact k8
 split
 ·exact k9
 ·exact k10
end
end Go.Proofs.YtlkcbdinlfeoiaaGreatDoor
