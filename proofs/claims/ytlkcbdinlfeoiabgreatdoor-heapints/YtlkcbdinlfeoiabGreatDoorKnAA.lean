/- Small facts on cells and blocks (a program that does not reach plain.Code). -/
import Derived.Test.YtlkcbdinlfeoiabGreatDoorProg
import Derived.WalkKit
import Derived.LaidEql
import Derived.Stop.Asserts
import Derived.RowKitTokens
import Derived.Carry
import Derived.Laws.BitsAll
import Derived.Laws.BitsLemmas
import Derived.Deep.RegionHeld3
import Derived.Deep.RegionWith
import Derived.Deep.QuietTactic
import Derived.BigQuiet
import Derived.WalkSmall
import Derived.Deep.LoopGhost
import Derived.Laws.MakeOwn
import Derived.Maps.OwnOps
namespace Go.Proofs.YtlkcbdinlfeoiabGreatDoor
open Go.RowKit Go.Extern.Stop Go.Stop Go.Extern

theorem lt_of_cell {w:World}{a:Addr}{v:Value} (h:w.cell? a=some v):a.block<w.heap.size:=by
 rcases Nat.lt_or_ge a.block w.heap.size with h1 | h1
 ·exact h1
 ·simp [World.cell?,Array.getElem?_eq_none h1] at h
theorem lt_of_heap {w:World}{k:Nat}{o:Obj} (h:w.heap[k]?=some o):k<w.heap.size:=by
 rcases Nat.lt_or_ge k w.heap.size with h1 | h1
 ·exact h1
 ·rw [Array.getElem?_eq_none h1] at h;cases h
end Go.Proofs.YtlkcbdinlfeoiabGreatDoor
namespace Go.Proofs.YtlkcbdinlfeoiabGreatDoor
open Go.RowKit

structure WErr (a:Nat→Addr) (w:World):Prop where
 c1:w.cell? ⟨0,0,none⟩=some (.iface 260 (.pointer (some (a 1))))
 c2:w.cell? ⟨2,0,none⟩=some (.iface 260 (.pointer (some (a 2))))
theorem WErr.below {a:Nat→Addr}{w w':World} (E:WErr a w) (hb:Below w.heap.size w w'):WErr a w' where
 c1:=(hb.cell (p:=⟨0,0,none⟩) (lt_of_cell E.c1)).trans E.c1
 c2:=(hb.cell (p:=⟨2,0,none⟩) (lt_of_cell E.c2)).trans E.c2
def errV (a:Nat→Addr) (k:Nat):Value:=.iface 260 (.pointer (some (a k)))

theorem below_drewN {B:Nat}{a w:World}{q:Nat} (h:Below B a w):Below B a (w.drewN q):=⟨h.os,h.tape,h.output,h.size,h.block⟩
theorem wrap_u64' (n:Int):IntKind.u64.wrap n=n % 18446744073709551616:=by simp [IntKind.wrap,IntKind.bits,IntKind.signed]
theorem and3 (x:Int) (h0:0≤x) (h1:x<18446744073709551616):bits .and .u64 x 3=x % 4:=by
 go_bits2
theorem wrap64_small (x:Int) (h0 : -9223372036854775808≤x) (h1:x<9223372036854775808):wrap64 x=x:=by
 unfold wrap64
 omega
theorem wrap64_eq (x:Int):wrap64 x=(x+9223372036854775808) % 18446744073709551616 - 9223372036854775808:=by
 unfold wrap64
 omega
theorem or_low (y c:Int) (h0:0≤y) (h1:y<18446744073709551616) (h2:y % 4=0) (hc0:0≤c) (hc:c<4):bits .or .u64 y c=y+c:=
 bits_join .u64 64 (by decide) (fun n a b=>by rw [wrap_u64'];omega) 2 y c h0 h2 (by omega) hc0 hc (by omega)
theorem kind_any (x:Int) (h0:0≤x) (h1:x<18446744073709551616) (w:World) :
  Calls Tryz.prog 161 #[.int .u64 x] w fun ev w'=>ev = .returned (.int .i64 (x % 4))∧w'=w:=by
 have e:=and3 x h0 h1
 have e2:=wrap64_small (x % 4) (by omega) (by omega)
 go_enter Tryz.func161,Tryz.ntmps161
 go_wp2
 go_ret
 rw [←e2,←e]
 exact ⟨rfl,rfl⟩

theorem ofInt_ok (n:Int) (c1 : -2305843009213693952≤n) (c2:n<2305843009213693952) (w:World) :
  Calls Tryz.prog 27 #[.int .i64 n] w fun ev w'=>ev = .returned (.tuple #[.int .u64 ((n*4+1) % 18446744073709551616),.nilIface])∧Below w.heap.size w w':=by
 have e:=or_low (IntKind.u64.wrap (IntKind.u64.wrap n*4)) 1 (by rw [wrap_u64'];omega) (by rw [wrap_u64'];omega) (by rw [wrap_u64',wrap_u64'];omega) (by omega) (by omega)
 have e2:IntKind.u64.wrap (IntKind.u64.wrap n*4)+1=(n*4+1) % 18446744073709551616:=by rw [wrap_u64',wrap_u64'];omega
 go_enter Tryz.func27,Tryz.ntmps27
 go_wp2
 go_ret2
 rw [←e2,←e]
 exact ⟨rfl,Below.refl _ _⟩

theorem comes64 (n x:Int) (c1 : -2305843009213693952≤n) (c2:n<2305843009213693952) (w:World) :
  Calls Tryz.prog 134 #[.int .i64 n,.int .u64 x,.func (.func 27) #[] #[]] w fun ev w'=>ev = .returned (.bool ((n*4+1) % 18446744073709551616 == x))∧Below w.heap.size w w':=by
 have h:=ofInt_ok n c1 c2 w
 go_enter Tryz.func134,Tryz.ntmps134
 go_wp2_with fail
 refine h.mono ?_
 rintro ev w1 ⟨rfl,hb⟩
 go_wp2
 go_ret
 exact ⟨rfl,hb⟩

theorem toInt_ok (x:Int) (h0:0≤x) (h1:x<18446744073709551616) (hx:x % 4=1) (w:World) :
  Calls Tryz.prog 97 #[.int .u64 x] w fun ev w'=>ev = .returned (.tuple #[.int .i64 (wrap64 x / 4),.nilIface])∧Below w.heap.size w w':=by
 have hw:wrap64 x=(x+9223372036854775808) % 18446744073709551616 - 9223372036854775808:=wrap64_eq x
 have h:=comes64 (wrap64 x / 4) x (by omega) (by omega) w
 have hm:((wrap64 x / 4*4+1) % 18446744073709551616 == x)=true:=by
  rw [beq_iff_eq]
  omega
 rw [hm] at h
 clear hm hw
 go_enter Tryz.func97,Tryz.ntmps97
 go_wp2_with fail
 refine h.mono ?_
 rintro ev w1 ⟨rfl,hb⟩
 go_wp2
 go_ret2
 exact ⟨rfl,hb⟩
theorem toInt_no (a:Nat→Addr) (x:Int) (hx:x % 4≠1) (w:World) (E:WErr a w) :
  Calls Tryz.prog 97 #[.int .u64 x] w fun ev w'=>ev = .returned (.tuple #[.int .i64 0,errV a 2])∧Below w.heap.size w w':=by
 have hw:wrap64 x=(x+9223372036854775808) % 18446744073709551616 - 9223372036854775808:=wrap64_eq x
 have h:=comes64 (wrap64 x / 4) x (by omega) (by omega) w
 have hm:((wrap64 x / 4*4+1) % 18446744073709551616 == x)=false:=by
  rw [beq_eq_false_iff_ne]
  omega
 rw [hm] at h
 clear hm hw
 go_enter Tryz.func97,Tryz.ntmps97
 go_wp2_with fail
 refine h.mono ?_
 rintro ev w1 ⟨rfl,hb⟩
 have k2:=(E.below hb).c2
 go_wp2
 go_quiet (fail)
 go_wp2
 go_ret2
 exact ⟨rfl,below_drewN hb⟩

theorem ofAddr_no (a:Nat→Addr) (n:Int) (h0 : -9223372036854775808≤n) (h1:n<9223372036854775808) (hn:n<0∨1099511627776<n) (w:World) (E:WErr a w) :
  Calls Tryz.prog 48 #[.int .i64 n] w fun ev w'=>ev = .returned (.tuple #[.int .u64 0,errV a 1])∧Below w.heap.size w w':=by
 have k1:=E.c1
 rcases hn with c | c
 ·go_enter Tryz.func48,Tryz.ntmps48
  go_wp2
  go_quiet (fail)
  go_wp2
  go_ret2
  exact ⟨rfl,below_drewN (Below.refl _ _)⟩
 ·have c1:¬ n<0:=by omega
  have e:=wrap64_small n h0 h1
  go_enter Tryz.func48,Tryz.ntmps48
  go_wp2
  go_quiet (fail)
  go_wp2
  go_ret2
  exact ⟨rfl,below_drewN (Below.refl _ _)⟩
theorem ofAddr_ok (n:Int) (c1:0≤n) (c2:n≤1099511627776) (w:World) :
  Calls Tryz.prog 48 #[.int .i64 n] w fun ev w'=>ev = .returned (.tuple #[.int .u64 ((n+1)*4),.nilIface])∧Below w.heap.size w w':=by
 have e:=or_low ((n+1)*4) 0 (by omega) (by omega) (by omega) (by omega) (by omega)
 rw [Int.add_zero] at e
 go_enter Tryz.func48,Tryz.ntmps48
 go_wp2
 go_ret2
 rw [←e]
 exact ⟨rfl,Below.refl _ _⟩

theorem comesI_ok (n x:Int) (c1:0≤n) (c2:n≤1099511627776) (w:World) :
  Calls Tryz.prog 124 #[.int .i64 n,.int .u64 x,.func (.func 48) #[] #[]] w fun ev w'=>ev = .returned (.bool ((n+1)*4 == x))∧Below w.heap.size w w':=by
 have h:=ofAddr_ok n c1 c2 w
 go_enter Tryz.func124,Tryz.ntmps124
 go_wp2_with fail
 refine h.mono ?_
 rintro ev w1 ⟨rfl,hb⟩
 go_wp2
 go_ret
 exact ⟨rfl,hb⟩
theorem comesI_no (a:Nat→Addr) (n x:Int) (h0 : -9223372036854775808≤n) (h1:n<9223372036854775808) (hn:n<0∨1099511627776<n) (w:World) (E:WErr a w) :
  Calls Tryz.prog 124 #[.int .i64 n,.int .u64 x,.func (.func 48) #[] #[]] w fun ev w'=>ev = .returned (.bool false)∧Below w.heap.size w w':=by
 have h:=ofAddr_no a n h0 h1 hn w E
 go_enter Tryz.func124,Tryz.ntmps124
 go_wp2_with fail
 refine h.mono ?_
 rintro ev w1 ⟨rfl,hb⟩
 unfold errV
 go_wp2
 go_ret
 exact ⟨rfl,hb⟩

theorem toAddr_ok (x:Int) (hx:x % 4=0) (h4:4≤x) (h5:x / 4 - 1≤1099511627776) (w:World) :
  Calls Tryz.prog 85 #[.int .u64 x] w fun ev w'=>ev = .returned (.tuple #[.int .i64 (x / 4 - 1),.nilIface])∧Below w.heap.size w w':=by
 have h:=comesI_ok (x / 4 - 1) x (by omega) (by omega) w
 have hm:((x / 4 - 1+1)*4 == x)=true:=by
  rw [beq_iff_eq]
  omega
 rw [hm] at h
 clear hm
 go_enter Tryz.func85,Tryz.ntmps85
 go_wp2_with fail
 refine h.mono ?_
 rintro ev w1 ⟨rfl,hb⟩
 go_wp2
 go_ret2
 exact ⟨rfl,hb⟩
theorem toAddr_no (a:Nat→Addr) (x:Int) (h0:0≤x) (h1:x<18446744073709551616) (hx:¬ (x % 4=0∧4≤x∧x / 4 - 1≤1099511627776)) (w:World) (E:WErr a w) :
  Calls Tryz.prog 85 #[.int .u64 x] w fun ev w'=>ev = .returned (.tuple #[.int .i64 0,errV a 2])∧Below w.heap.size w w':=by
 have h:Calls Tryz.prog 124 #[.int .i64 (x / 4 - 1),.int .u64 x,.func (.func 48) #[] #[]] w fun ev w'=>ev = .returned (.bool false)∧Below w.heap.size w w':=by
  by_cases c:x / 4 - 1<0∨1099511627776<x / 4 - 1
  ·exact comesI_no a (x / 4 - 1) x (by omega) (by omega) c w E
  ·have h:=comesI_ok (x / 4 - 1) x (by omega) (by omega) w
   have hm:((x / 4 - 1+1)*4 == x)=false:=by
    rw [beq_eq_false_iff_ne]
    omega
   rw [hm] at h
   exact h
 clear hx
 go_enter Tryz.func85,Tryz.ntmps85
 go_wp2_with fail
 refine h.mono ?_
 rintro ev w1 ⟨rfl,hb⟩
 have k2:=(E.below hb).c2
 go_wp2
 go_quiet (fail)
 go_wp2
 go_ret2
 exact ⟨rfl,below_drewN hb⟩

theorem within_any (n m:Int) (w:World) :
  Calls Tryz.prog 78 #[.int .i64 n,.int .i64 m] w fun ev w'=>ev = .returned (.bool (decide (0≤n) && decide (n≤m)))∧w'=w:=by
 by_cases c:0≤n
 ·rw [decide_eq_true c,Bool.true_and]
  go_enter Tryz.func78,Tryz.ntmps78
  go_wp2
  go_ret
  exact ⟨rfl,rfl⟩
 ·rw [decide_eq_false c,Bool.false_and]
  go_enter Tryz.func78,Tryz.ntmps78
  go_wp2
  go_ret
  exact ⟨rfl,rfl⟩
theorem ofConst_ok (n:Int) (c1:0≤n) (c2:n≤2) (w:World) :
  Calls Tryz.prog 135 #[.int .i64 n] w fun ev w'=>ev = .returned (.tuple #[.int .u64 (n*4+2),.nilIface])∧Below w.heap.size w w':=by
 have h:=within_any n 2 w
 have hm:(decide (0≤n) && decide (n≤2))=true:=by simp [c1,c2]
 rw [hm] at h
 clear hm
 have e:=or_low (n*4) 2 (by omega) (by omega) (by omega) (by omega) (by omega)
 go_enter Tryz.func135,Tryz.ntmps135
 go_wp2_with fail
 refine h.mono ?_
 rintro ev w1 ⟨rfl,rfl⟩
 go_wp2
 go_ret2
 rw [←e]
 exact ⟨rfl,Below.refl _ _⟩
theorem ofConst_no (a:Nat→Addr) (n:Int) (hn:n<0∨2<n) (w:World) (E:WErr a w) :
  Calls Tryz.prog 135 #[.int .i64 n] w fun ev w'=>ev = .returned (.tuple #[.int .u64 0,errV a 1])∧Below w.heap.size w w':=by
 have h:=within_any n 2 w
 have hm:(decide (0≤n) && decide (n≤2))=false:=by
  rw [Bool.and_eq_false_iff,decide_eq_false_iff_not,decide_eq_false_iff_not]
  omega
 rw [hm] at h
 clear hm
 have k1:=E.c1
 go_enter Tryz.func135,Tryz.ntmps135
 go_wp2_with fail
 refine h.mono ?_
 rintro ev w1 ⟨rfl,rfl⟩
 go_wp2
 go_quiet (fail)
 go_wp2
 go_ret2
 exact ⟨rfl,below_drewN (Below.refl _ _)⟩
end Go.Proofs.YtlkcbdinlfeoiabGreatDoor
namespace Go.Proofs.YtlkcbdinlfeoiabGreatDoor
open Go.RowKit

theorem or_comm64 (a b:Int):bits .or .u64 a b=bits .or .u64 b a:=by
 simp only [bits,BitVec.or_comm]
theorem or_join (i:Nat) (x y:Int) (h0:0≤x) (h1:x<18446744073709551616) (h2:x % 2 ^ i=0) (c0:0≤y) (c1:y<2 ^ i) (c2:y<18446744073709551616):bits .or .u64 x y=x+y:=
 bits_join .u64 64 (by decide) (fun n a b=>by rw [wrap_u64'];omega) i x y h0 h2 h1 c0 c1 c2
theorem head_sum (k g m s:Int) (k0:0≤k) (k1:k≤255) (g0:0≤g) (g1:g≤15) (m0:0≤m) (m1:m≤1) (s0:0≤s) (s1:s≤4096) :
  bits .or .u64 (bits .or .u64 (bits .or .u64 (k*4) (g*1024)) (bits .or .u64 (m*16384) (s*65536))) 3=s*65536+m*16384+g*1024+k*4+3:=by
 have e1:bits .or .u64 (k*4) (g*1024)=g*1024+k*4:=by
  rw [or_comm64]
  exact or_join 10 _ _ (by omega) (by omega) (by omega) (by omega) (by omega) (by omega)
 have e2:bits .or .u64 (m*16384) (s*65536)=s*65536+m*16384:=by
  rw [or_comm64]
  exact or_join 16 _ _ (by omega) (by omega) (by omega) (by omega) (by omega) (by omega)
 have e3:bits .or .u64 (g*1024+k*4) (s*65536+m*16384)=s*65536+m*16384+(g*1024+k*4):=by
  rw [or_comm64]
  exact or_join 14 _ _ (by omega) (by omega) (by omega) (by omega) (by omega) (by omega)
 rw [e1,e2,e3,or_join 2 _ _ (by omega) (by omega) (by omega) (by omega) (by omega) (by omega)]
 omega

set_option maxRecDepth 100000 in
theorem ofHead_ok (k g m s:Int) (k0:0≤k) (k1:k≤255) (g0:0≤g) (g1:g≤15) (m0:0≤m) (m1:m≤1) (s0:0≤s) (s1:s≤4096) (w:World) :
  Calls Tryz.prog 46 #[.agg #[.int .i64 k,.int .i64 g,.int .i64 m,.int .i64 s]] w fun ev w'=>ev = .returned (.tuple #[.int .u64 (s*65536+m*16384+g*1024+k*4+3),.nilIface])∧Below w.heap.size w w':=by
 have e:=head_sum k g m s k0 k1 g0 g1 m0 m1 s0 s1
 go_enter Tryz.func46,Tryz.ntmps46
 go_wp2_with fail
 refine (within_any _ _ _).mono ?_
 rintro ev w1 ⟨rfl,rfl⟩
 go_wp2_with fail
 refine (within_any _ _ _).mono ?_
 rintro ev w1 ⟨rfl,rfl⟩
 go_wp2_with fail
 refine (within_any _ _ _).mono ?_
 rintro ev w1 ⟨rfl,rfl⟩
 go_wp2_with fail
 refine (within_any _ _ _).mono ?_
 rintro ev w1 ⟨rfl,rfl⟩
 go_wp2_with fail
 go_ret2
 rw [←e]
 exact ⟨rfl,(Below.refl _ _).alloc (Nat.le_refl _) _⟩

set_option maxRecDepth 100000 in
theorem ofHead_no (a:Nat→Addr) (k g m s:Int) (hn:¬ (0≤k∧k≤255∧0≤g∧g≤15∧0≤m∧m≤1∧0≤s∧s≤4096)) (w:World) (E:WErr a w) :
  Calls Tryz.prog 46 #[.agg #[.int .i64 k,.int .i64 g,.int .i64 m,.int .i64 s]] w fun ev w'=>ev = .returned (.tuple #[.int .u64 0,errV a 1])∧Below w.heap.size w w':=by
 have hbA:=fun o=>(Below.refl w.heap.size w).alloc (Nat.le_refl _) o
 have hc:=fun o=>(E.below (hbA o)).c1
 by_cases ck:0≤k∧k≤255
 rotate_left
 ·clear hn
  have hx:(decide (0≤k) && decide (k≤255))=false:=by rw [Bool.and_eq_false_iff,decide_eq_false_iff_not,decide_eq_false_iff_not];omega
  go_enter Tryz.func46,Tryz.ntmps46
  go_wp2_with fail
  refine (within_any _ _ _).mono ?_
  rintro ev w1 ⟨rfl,rfl⟩
  rw [hx]
  go_wp2_with fail
  go_quiet (fail)
  go_wp2
  go_ret2
  exact ⟨rfl,below_drewN (hbA _)⟩
 obtain ⟨k0,k1⟩:=ck
 by_cases cg:0≤g∧g≤15
 rotate_left
 ·clear hn
  have hx:(decide (0≤g) && decide (g≤15))=false:=by rw [Bool.and_eq_false_iff,decide_eq_false_iff_not,decide_eq_false_iff_not];omega
  go_enter Tryz.func46,Tryz.ntmps46
  go_wp2_with fail
  refine (within_any _ _ _).mono ?_
  rintro ev w1 ⟨rfl,rfl⟩
  go_wp2_with fail
  refine (within_any _ _ _).mono ?_
  rintro ev w1 ⟨rfl,rfl⟩
  rw [hx]
  go_wp2_with fail
  go_quiet (fail)
  go_wp2
  go_ret2
  exact ⟨rfl,below_drewN (hbA _)⟩
 obtain ⟨g0,g1⟩:=cg
 by_cases cm:0≤m∧m≤1
 rotate_left
 ·clear hn
  have hx:(decide (0≤m) && decide (m≤1))=false:=by rw [Bool.and_eq_false_iff,decide_eq_false_iff_not,decide_eq_false_iff_not];omega
  go_enter Tryz.func46,Tryz.ntmps46
  go_wp2_with fail
  refine (within_any _ _ _).mono ?_
  rintro ev w1 ⟨rfl,rfl⟩
  go_wp2_with fail
  refine (within_any _ _ _).mono ?_
  rintro ev w1 ⟨rfl,rfl⟩
  go_wp2_with fail
  refine (within_any _ _ _).mono ?_
  rintro ev w1 ⟨rfl,rfl⟩
  rw [hx]
  go_wp2_with fail
  go_quiet (fail)
  go_wp2
  go_ret2
  exact ⟨rfl,below_drewN (hbA _)⟩
 obtain ⟨m0,m1⟩:=cm
 by_cases cs:0≤s∧s≤4096
 rotate_left
 ·clear hn
  have hx:(decide (0≤s) && decide (s≤4096))=false:=by rw [Bool.and_eq_false_iff,decide_eq_false_iff_not,decide_eq_false_iff_not];omega
  go_enter Tryz.func46,Tryz.ntmps46
  go_wp2_with fail
  refine (within_any _ _ _).mono ?_
  rintro ev w1 ⟨rfl,rfl⟩
  go_wp2_with fail
  refine (within_any _ _ _).mono ?_
  rintro ev w1 ⟨rfl,rfl⟩
  go_wp2_with fail
  refine (within_any _ _ _).mono ?_
  rintro ev w1 ⟨rfl,rfl⟩
  go_wp2_with fail
  refine (within_any _ _ _).mono ?_
  rintro ev w1 ⟨rfl,rfl⟩
  rw [hx]
  go_wp2_with fail
  go_quiet (fail)
  go_wp2
  go_ret2
  exact ⟨rfl,below_drewN (hbA _)⟩
 obtain ⟨s0,s1⟩:=cs
 exact absurd ⟨k0,k1,g0,g1,m0,m1,s0,s1⟩ hn

theorem comesH_ok (k g m s x:Int) (k0:0≤k) (k1:k≤255) (g0:0≤g) (g1:g≤15) (m0:0≤m) (m1:m≤1) (s0:0≤s) (s1:s≤4096) (w:World) :
  Calls Tryz.prog 106 #[.agg #[.int .i64 k,.int .i64 g,.int .i64 m,.int .i64 s],.int .u64 x,.func (.func 46) #[] #[]] w fun ev w'=>ev = .returned (.bool (s*65536+m*16384+g*1024+k*4+3 == x))∧Below w.heap.size w w':=by
 have h:=fun w=>ofHead_ok k g m s k0 k1 g0 g1 m0 m1 s0 s1 w
 clear k0 k1 g0 g1 m0 m1 s0 s1
 go_enter Tryz.func106,Tryz.ntmps106
 go_wp2_with fail
 refine (h _).mono ?_
 rintro ev w1 ⟨rfl,hb⟩
 go_wp2
 go_ret
 exact ⟨rfl,((Below.refl _ _).alloc (Nat.le_refl _) _).trans (hb.mono (by simp))⟩
theorem comesH_no (a:Nat→Addr) (k g m s x:Int) (hn:¬ (0≤k∧k≤255∧0≤g∧g≤15∧0≤m∧m≤1∧0≤s∧s≤4096)) (w:World) (E:WErr a w) :
  Calls Tryz.prog 106 #[.agg #[.int .i64 k,.int .i64 g,.int .i64 m,.int .i64 s],.int .u64 x,.func (.func 46) #[] #[]] w fun ev w'=>ev = .returned (.bool false)∧Below w.heap.size w w':=by
 have h:=fun w (E:WErr a w)=>ofHead_no a k g m s hn w E
 clear hn
 go_enter Tryz.func106,Tryz.ntmps106
 go_wp2_with fail
 refine (h _ (E.below ((Below.refl _ _).alloc (Nat.le_refl _) _))).mono ?_
 rintro ev w1 ⟨rfl,hb⟩
 unfold errV
 go_wp2
 go_ret
 exact ⟨rfl,((Below.refl _ _).alloc (Nat.le_refl _) _).trans (hb.mono (by simp))⟩

theorem and255 (y:Int) (h0:0≤y) (h1:y<18446744073709551616):bits .and .u64 y 255=y % 256:=by go_bits2
theorem and15 (y:Int) (h0:0≤y) (h1:y<18446744073709551616):bits .and .u64 y 15=y % 16:=by go_bits2
theorem and1 (y:Int) (h0:0≤y) (h1:y<18446744073709551616):bits .and .u64 y 1=y % 2:=by go_bits2

theorem two_new (w:World) (o o':Obj):((w.alloc o).alloc o').heap[w.heap.size]?=some o∧((w.alloc o).alloc o').heap[w.heap.size+1]?=some o':=by
 constructor
 ·exact (((Below.refl (w.alloc o).heap.size _).alloc (Nat.le_refl _) _).block w.heap.size (by simp)).trans (heap_alloc_new w _)
 ·have h:=heap_alloc_new (w.alloc o) o'
  rw [show (w.alloc o).heap.size=w.heap.size+1 by simp] at h
  exact h
theorem head_block {w:World}{b:Nat}{u0 u1 u2 u3:Value} (h:w.heap[b]?=some (.cells #[u0,u1,u2,u3] 99)) :
  w.cell? ⟨b,0,none⟩=some u0∧w.cell? ⟨b,1,none⟩=some u1∧w.cell? ⟨b,2,none⟩=some u2∧w.cell? ⟨b,3,none⟩=some u3 ∧ ∀ o,w.frozen? ⟨b,o,none⟩=false:=by
 refine ⟨?_,?_,?_,?_,fun o=>by simp [World.frozen?,h]⟩
 ·rw [cell_of_row w b 0 _ _ _ h];rfl
 ·rw [cell_of_row w b 1 _ _ _ h];rfl
 ·rw [cell_of_row w b 2 _ _ _ h];rfl
 ·rw [cell_of_row w b 3 _ _ _ h];rfl
theorem cell_set (w:World) (b i j:Nat) (v:Value) (h:i≠j):(w.setCell ⟨b,j,none⟩ v).cell? ⟨b,i,none⟩=w.cell? ⟨b,i,none⟩:=
 World.cell?_setCell_other _ _ _ _ (fun e=>h (congrArg Addr.off e).symm)
def set4 (w:World) (b:Nat) (v0 v1 v2 v3:Value):World:=(((w.setCell ⟨b,0,none⟩ v0).setCell ⟨b,1,none⟩ v1).setCell ⟨b,2,none⟩ v2).setCell ⟨b,3,none⟩ v3
theorem set4_cells {w:World}{b:Nat}{u0 u1 u2 u3:Value} (r0:w.cell? ⟨b,0,none⟩=some u0) (r1:w.cell? ⟨b,1,none⟩=some u1) (r2:w.cell? ⟨b,2,none⟩=some u2) (r3:w.cell? ⟨b,3,none⟩=some u3) (v0 v1 v2 v3:Value) :
  (set4 w b v0 v1 v2 v3).cell? ⟨b,0,none⟩=some v0∧(set4 w b v0 v1 v2 v3).cell? ⟨b,1,none⟩=some v1∧(set4 w b v0 v1 v2 v3).cell? ⟨b,2,none⟩=some v2∧(set4 w b v0 v1 v2 v3).cell? ⟨b,3,none⟩=some v3:=by
 unfold set4
 refine ⟨?_,?_,?_,?_⟩
 ·rw [cell_set _ _ _ _ _ (by decide),cell_set _ _ _ _ _ (by decide),cell_set _ _ _ _ _ (by decide)]
  exact World.cell?_setCell_same _ _ _ r0
 ·rw [cell_set _ _ _ _ _ (by decide),cell_set _ _ _ _ _ (by decide)]
  exact World.cell?_setCell_same _ _ _ ((cell_set _ _ _ _ _ (by decide)).trans r1)
 ·rw [cell_set _ _ _ _ _ (by decide)]
  exact World.cell?_setCell_same _ _ _ ((cell_set _ _ _ _ _ (by decide)).trans ((cell_set _ _ _ _ _ (by decide)).trans r2))
 ·exact World.cell?_setCell_same _ _ _ ((cell_set _ _ _ _ _ (by decide)).trans ((cell_set _ _ _ _ _ (by decide)).trans ((cell_set _ _ _ _ _ (by decide)).trans r3)))
theorem set4_below {w W:World}{b B:Nat} (h:Below B w W) (hb:B≤b) (v0 v1 v2 v3:Value):Below B w (set4 W b v0 v1 v2 v3):=
 (((h.setCell hb _).setCell hb _).setCell hb _).setCell hb _
theorem head_results (tmps:Array Value) (W:World) (b:Nat) (v0 v1 v2 v3:Value) (h2:tmps[2]?.getD undef = .pointer (some ⟨b,0,none⟩)) (c0:W.cell? ⟨b,0,none⟩=some v0) (c1:W.cell? ⟨b,1,none⟩=some v1) (c2:W.cell? ⟨b,2,none⟩=some v2) (c3:W.cell? ⟨b,3,none⟩=some v3) :
  (results Tryz.f65 tmps).run Tryz.prog W = .ok (.tuple #[.agg #[v0,v1,v2,v3],tmps[3]?.getD undef]) W:=by
 simp [results,Tryz.results65,go_sem,h2,c0,c1,c2,c3]

set_option maxRecDepth 100000 in
theorem toHead_ok (x:Int) (h0:0≤x) (h1:x<18446744073709551616) (hx:x % 4=3) (hy:x / 32768 % 2=0) (hz:x / 65536≤4096) (w:World) :
  Calls Tryz.prog 65 #[.int .u64 x] w fun ev w'=>ev = .returned (.tuple #[.agg #[.int .i64 (x / 4 % 256),.int .i64 (x / 1024 % 16),.int .i64 (x / 16384 % 2),.int .i64 (x / 65536)],.nilIface])∧Below w.heap.size w w':=by
 have e1:=and255 (x / 4) (by omega) (by omega)
 have e2:=and15 (x / 1024) (by omega) (by omega)
 have e3:=and1 (x / 16384) (by omega) (by omega)
 have h:=fun w=>comesH_ok (x / 4 % 256) (x / 1024 % 16) (x / 16384 % 2) (x / 65536) x (by omega) (by omega) (by omega) (by omega) (by omega) (by omega) (by omega) (by omega) w
 have hm:(x / 65536*65536+x / 16384 % 2*16384+x / 1024 % 16*1024+x / 4 % 256*4+3 == x)=true:=by
  rw [beq_iff_eq]
  omega
 rw [hm] at h
 clear hm
 have hsz:w.heap.size≠w.heap.size+1:=by omega
 go_enter Tryz.func65,Tryz.ntmps65
 go_wp2_with fail
 refine (h _).mono ?_
 rintro ev w1 ⟨rfl,hb⟩
 have hbw:Below w.heap.size w w1:=(((Below.refl _ _).alloc (Nat.le_refl _) _).alloc (by simp) _).trans (hb.mono (by simp;omega))
 have hB0:=(hb.block w.heap.size (by simp;omega)).trans (two_new w _ _).1
 have hB1:=(hb.block (w.heap.size+1) (by simp)).trans (two_new w _ _).2
 obtain ⟨r0,r1,r2,r3,rf⟩:=head_block hB0
 obtain ⟨s0,s1,s2,s3,_⟩:=head_block hB1
 have rf0:=rf 0
 have rf1:=rf 1
 have rf2:=rf 2
 have rf3:=rf 3
 clear rf hB0 hB1 hb h e1 e2 e3
 go_wp2
 obtain ⟨t0,t1,t2,t3⟩:=set4_cells r0 r1 r2 r3 (.int .i64 (x / 4 % 256)) (.int .i64 (x / 1024 % 16)) (.int .i64 (x / 16384 % 2)) (.int .i64 (x / 65536))
 refine bodyPost_ret (head_results _ _ w.heap.size _ _ _ _ rfl t0 t1 t2 t3) rfl ?_
 exact ⟨rfl,(((hbw.setCell (Nat.le_refl _) _).setCell (Nat.le_refl _) _).setCell (Nat.le_refl _) _).setCell (Nat.le_refl _) _⟩

set_option maxRecDepth 100000 in
theorem toHead_no (a:Nat→Addr) (x:Int) (h0:0≤x) (h1:x<18446744073709551616) (hx:¬ (x % 4=3∧x / 32768 % 2=0∧x / 65536≤4096)) (w:World) (E:WErr a w) :
  Calls Tryz.prog 65 #[.int .u64 x] w fun ev w'=>ev = .returned (.tuple #[.agg #[.int .i64 0,.int .i64 0,.int .i64 0,.int .i64 0],errV a 2])∧Below w.heap.size w w':=by
 have e1:=and255 (x / 4) (by omega) (by omega)
 have e2:=and15 (x / 1024) (by omega) (by omega)
 have e3:=and1 (x / 16384) (by omega) (by omega)
 have h:∀ w,WErr a w→Calls Tryz.prog 106 #[.agg #[.int .i64 (x / 4 % 256),.int .i64 (x / 1024 % 16),.int .i64 (x / 16384 % 2),.int .i64 (x / 65536)],.int .u64 x,.func (.func 46) #[] #[]] w fun ev w'=>ev = .returned (.bool false)∧Below w.heap.size w w':=fun w E=>by
  by_cases c:x / 65536≤4096
  ·have h:=comesH_ok (x / 4 % 256) (x / 1024 % 16) (x / 16384 % 2) (x / 65536) x (by omega) (by omega) (by omega) (by omega) (by omega) (by omega) (by omega) c w
   have hm:(x / 65536*65536+x / 16384 % 2*16384+x / 1024 % 16*1024+x / 4 % 256*4+3 == x)=false:=by
    rw [beq_eq_false_iff_ne]
    omega
   rw [hm] at h
   exact h
  ·exact comesH_no a (x / 4 % 256) (x / 1024 % 16) (x / 16384 % 2) (x / 65536) x (by omega) w E
 clear hx
 have hsz:w.heap.size≠w.heap.size+1:=by omega
 have hlt:2<w.heap.size:=lt_of_cell E.c2
 have hne:w.heap.size≠2:=by omega
 have hne2:2≠w.heap.size:=by omega
 go_enter Tryz.func65,Tryz.ntmps65
 go_wp2_with fail
 refine (h _ (E.below (((Below.refl _ _).alloc (Nat.le_refl _) _).alloc (by simp) _))).mono ?_
 rintro ev w1 ⟨rfl,hb⟩
 have hbw:Below w.heap.size w w1:=(((Below.refl _ _).alloc (Nat.le_refl _) _).alloc (by simp) _).trans (hb.mono (by simp;omega))
 have hB0:=(hb.block w.heap.size (by simp;omega)).trans (two_new w _ _).1
 obtain ⟨r0,r1,r2,r3,rf⟩:=head_block hB0
 have rf0:=rf 0
 have rf1:=rf 1
 have rf2:=rf 2
 have rf3:=rf 3
 have k2:=(E.below hbw).c2
 clear rf hB0 hb h e1 e2 e3
 go_wp2
 go_region
 go_wp2
 obtain ⟨t0,t1,t2,t3⟩:=set4_cells r0 r1 r2 r3 (.int .i64 0) (.int .i64 0) (.int .i64 0) (.int .i64 0)
 have hbz:=(set4_below hbw (Nat.le_refl _) (.int .i64 0) (.int .i64 0) (.int .i64 0) (.int .i64 0)).drew
 change bodyPost _ _ _ _ _ (set4 w1 w.heap.size (.int .i64 0) (.int .i64 0) (.int .i64 0) (.int .i64 0)).drew
 generalize set4 w1 w.heap.size (.int .i64 0) (.int .i64 0) (.int .i64 0) (.int .i64 0)=W at t0 t1 t2 t3 hbz ⊢
 refine bodyPost_ret (head_results _ _ w.heap.size (.int .i64 0) (.int .i64 0) (.int .i64 0) (.int .i64 0) rfl t0 t1 t2 t3) rfl ?_
 exact ⟨rfl,hbz⟩
end Go.Proofs.YtlkcbdinlfeoiabGreatDoor
namespace Go.Proofs.YtlkcbdinlfeoiabGreatDoor
open Go.RowKit

theorem mwithin_any (n l t:Int) (w:World) :
  Calls Tryz.prog 54 #[.int .i64 n,.int .i64 l,.int .i64 t] w fun ev w'=>ev = .returned (.bool (decide (l≤n) && decide (n≤t)))∧w'=w:=by
 by_cases c:l≤n
 ·rw [decide_eq_true c,Bool.true_and]
  go_enter Tryz.func54,Tryz.ntmps54
  go_wp2
  go_ret
  exact ⟨rfl,rfl⟩
 ·rw [decide_eq_false c,Bool.false_and]
  go_enter Tryz.func54,Tryz.ntmps54
  go_wp2
  go_ret
  exact ⟨rfl,rfl⟩
theorem mwithin_ok (n l t:Int) (h0:l≤n) (h1:n≤t) (w:World) :
  Calls Tryz.prog 54 #[.int .i64 n,.int .i64 l,.int .i64 t] w fun ev w'=>ev = .returned (.bool true)∧w'=w:=by
 have h:=mwithin_any n l t w
 rw [decide_eq_true h0,decide_eq_true h1] at h
 exact h
theorem mwithin_no (n l t:Int) (h0:¬ (l≤n∧n≤t)) (w:World) :
  Calls Tryz.prog 54 #[.int .i64 n,.int .i64 l,.int .i64 t] w fun ev w'=>ev = .returned (.bool false)∧w'=w:=by
 have h:=mwithin_any n l t w
 have e:(decide (l≤n) && decide (n≤t))=false:=by
  rw [Bool.and_eq_false_iff,decide_eq_false_iff_not,decide_eq_false_iff_not]
  omega
 rw [e] at h
 exact h

structure MemAt (p:Nat) (half old card:Int) (W:Value) (used top oldTop:Int) (roots weak ids cards:Value) (w:World):Prop where
 c0:w.cell? ⟨p,0,none⟩=some (.int .i64 half)
 c1:w.cell? ⟨p,1,none⟩=some (.int .i64 old)
 c2:w.cell? ⟨p,2,none⟩=some (.int .i64 card)
 c3:w.cell? ⟨p,3,none⟩=some W
 c4:w.cell? ⟨p,4,none⟩=some (.int .i64 used)
 c5:w.cell? ⟨p,5,none⟩=some (.int .i64 top)
 c6:w.cell? ⟨p,6,none⟩=some (.int .i64 oldTop)
 c7:w.cell? ⟨p,7,none⟩=some roots
 c8:w.cell? ⟨p,8,none⟩=some weak
 c9:w.cell? ⟨p,9,none⟩=some ids
 c10:w.cell? ⟨p,10,none⟩=some cards
theorem MemAt.below {p B:Nat}{half old card:Int}{W:Value}{used top oldTop:Int}{roots weak ids cards:Value}{w w':World} (M:MemAt p half old card W used top oldTop roots weak ids cards w) (hb:Below B w w') (hp:p<B):MemAt p half old card W used top oldTop roots weak ids cards w' where
 c0:=(hb.cell (p:=⟨p,0,none⟩) hp).trans M.c0
 c1:=(hb.cell (p:=⟨p,1,none⟩) hp).trans M.c1
 c2:=(hb.cell (p:=⟨p,2,none⟩) hp).trans M.c2
 c3:=(hb.cell (p:=⟨p,3,none⟩) hp).trans M.c3
 c4:=(hb.cell (p:=⟨p,4,none⟩) hp).trans M.c4
 c5:=(hb.cell (p:=⟨p,5,none⟩) hp).trans M.c5
 c6:=(hb.cell (p:=⟨p,6,none⟩) hp).trans M.c6
 c7:=(hb.cell (p:=⟨p,7,none⟩) hp).trans M.c7
 c8:=(hb.cell (p:=⟨p,8,none⟩) hp).trans M.c8
 c9:=(hb.cell (p:=⟨p,9,none⟩) hp).trans M.c9
 c10:=(hb.cell (p:=⟨p,10,none⟩) hp).trans M.c10

def numsOK (half old card:Int):Prop:=1≤half∧half≤65536∧1≤old∧old≤65536∧1≤card∧card≤1024

theorem bounded_ok (p:Nat) (half old card:Int) (H:numsOK half old card) (w:World) (c0:w.cell? ⟨p,0,none⟩=some (.int .i64 half)) (c1:w.cell? ⟨p,1,none⟩=some (.int .i64 old)) (c2:w.cell? ⟨p,2,none⟩=some (.int .i64 card)) :
  Calls Tryz.prog 42 #[.pointer (some ⟨p,0,none⟩)] w fun ev w'=>ev = .returned (.bool true)∧w'=w:=by
 obtain ⟨h0,h1,h2,h3,h4,h5⟩:=H
 go_enter Tryz.func42,Tryz.ntmps42
 go_wp2_with fail
 refine (mwithin_ok half 1 65536 h0 h1 w).mono ?_
 rintro ev w' ⟨rfl,h⟩
 rw [h]
 clear h w'
 go_wp2_with fail
 refine (mwithin_ok old 1 65536 h2 h3 w).mono ?_
 rintro ev w' ⟨rfl,h⟩
 rw [h]
 clear h w'
 go_wp2_with fail
 refine (mwithin_ok card 1 1024 h4 h5 w).mono ?_
 rintro ev w' ⟨rfl,h⟩
 rw [h]
 clear h w'
 go_wp2_with fail
 go_ret
 exact ⟨rfl,rfl⟩
theorem bounded_no (p:Nat) (half old card:Int) (H:¬ numsOK half old card) (w:World) (c0:w.cell? ⟨p,0,none⟩=some (.int .i64 half)) (c1:w.cell? ⟨p,1,none⟩=some (.int .i64 old)) (c2:w.cell? ⟨p,2,none⟩=some (.int .i64 card)) :
  Calls Tryz.prog 42 #[.pointer (some ⟨p,0,none⟩)] w fun ev w'=>ev = .returned (.bool false)∧w'=w:=by
 unfold numsOK at H
 by_cases h0:1≤half∧half≤65536
 ·by_cases h1:1≤old∧old≤65536
  ·have h2:¬ (1≤card∧card≤1024):=by omega
   have k0:=mwithin_ok half 1 65536 h0.1 h0.2 w
   have k1:=mwithin_ok old 1 65536 h1.1 h1.2 w
   have k2:=mwithin_no card 1 1024 h2 w
   clear H h0 h1 h2
   go_enter Tryz.func42,Tryz.ntmps42
   go_wp2_with fail
   refine k0.mono ?_
   rintro ev w' ⟨rfl,h⟩
   rw [h]
   clear h w'
   go_wp2_with fail
   refine k1.mono ?_
   rintro ev w' ⟨rfl,h⟩
   rw [h]
   clear h w'
   go_wp2_with fail
   refine k2.mono ?_
   rintro ev w' ⟨rfl,h⟩
   rw [h]
   clear h w'
   go_wp2_with fail
   go_ret
   exact ⟨rfl,rfl⟩
  ·have k0:=mwithin_ok half 1 65536 h0.1 h0.2 w
   have k1:=mwithin_no old 1 65536 h1 w
   clear H h0 h1
   go_enter Tryz.func42,Tryz.ntmps42
   go_wp2_with fail
   refine k0.mono ?_
   rintro ev w' ⟨rfl,h⟩
   rw [h]
   clear h w'
   go_wp2_with fail
   refine k1.mono ?_
   rintro ev w' ⟨rfl,h⟩
   rw [h]
   clear h w'
   go_wp2_with fail
   go_ret
   exact ⟨rfl,rfl⟩
 ·have k0:=mwithin_no half 1 65536 h0 w
  clear H h0
  go_enter Tryz.func42,Tryz.ntmps42
  go_wp2_with fail
  refine k0.mono ?_
  rintro ev w' ⟨rfl,h⟩
  rw [h]
  clear h w'
  go_wp2_with fail
  go_ret
  exact ⟨rfl,rfl⟩
theorem oldFrom_any (p:Nat) (half:Int) (h0:0≤half) (h1:half≤65536) (w:World) (c0:w.cell? ⟨p,0,none⟩=some (.int .i64 half)) :
  Calls Tryz.prog 43 #[.pointer (some ⟨p,0,none⟩)] w fun ev w'=>ev = .returned (.int .i64 (2*half))∧w'=w:=by
 go_enter Tryz.func43,Tryz.ntmps43
 go_wp2
 go_ret
 exact ⟨rfl,rfl⟩
theorem cards_any (p:Nat) (half old card:Int) (H:numsOK half old card) (w:World) (c1:w.cell? ⟨p,1,none⟩=some (.int .i64 old)) (c2:w.cell? ⟨p,2,none⟩=some (.int .i64 card)) :
  Calls Tryz.prog 44 #[.pointer (some ⟨p,0,none⟩)] w fun ev w'=>ev = .returned (.int .i64 ((old+card - 1) / card)) ∧ ∃ q,w'=w.drewN q:=by
 obtain ⟨h0,h1,h2,h3,h4,h5⟩:=H
 have q0:(0:Int)≤(old+card - 1) / card:=Int.ediv_nonneg (by omega) (by omega)
 have q1:(old+card - 1) / card≤old+card - 1:=Int.ediv_le_self _ (by omega)
 go_enter Tryz.func44,Tryz.ntmps44
 go_wp2
 go_quiet (fail)
 go_wp2
 go_ret
 exact ⟨rfl,_,rfl⟩

set_option maxRecDepth 100000 in
theorem infoU64:∃ i,Tryz.prog.info? 50=some i∧i.zero=some (.int .u64 0)∧i.size=1∧i.bytes=8:=by
 refine ⟨(Tryz.prog.info? 50).get (by kernel_rfl),?_,?_,?_,?_⟩
 ·exact (Option.some_get _).symm
 ·kernel_rfl
 ·kernel_rfl
 ·kernel_rfl
set_option maxRecDepth 100000 in
theorem infoBool:∃ i,Tryz.prog.info? 4=some i∧i.zero=some (.bool false)∧i.size=1∧i.bytes=1:=by
 refine ⟨(Tryz.prog.info? 4).get (by kernel_rfl),?_,?_,?_,?_⟩
 ·exact (Option.some_get _).symm
 ·kernel_rfl
 ·kernel_rfl
 ·kernel_rfl
theorem make_words (n:Nat) (hn:n≤300000) (L:Int) (hL:L=(n:Int)) (w:World) :
  (Instr.makeSlice 48 (.int .i64 L) (.int .i64 L)).run Tryz.prog w = .ok (.slice (some ⟨w.heap.size,0,none⟩) n n) (w.alloc (.cells (Array.replicate n (.int .u64 0)) 50)):=by
 subst hL
 obtain ⟨i,hi,hz,h1,h8⟩:=infoU64
 have h:=run_make (P:=Tryz.prog) w 48 50 i (.int .u64 0) Tryz.underlying48 hi hz .i64 .i64 (n:Int) (n:Int) (by omega) (by omega) (by rw [h8];omega) (by omega)
 rw [h,h1]
 have e:madeCells (Value.int .u64 0).cells ((n:Int).toNat*1)=Array.replicate n (.int .u64 0):=by
  apply Array.ext
  ·simp [madeCells]
  ·intro i h1 h2
   have e0:i % 1=0:=Nat.mod_one i
   simp [madeCells,Value.cells,e0]
 rw [e]
 simp
theorem make_bools (n:Nat) (hn:n≤300000) (L:Int) (hL:L=(n:Int)) (w:World) :
  (Instr.makeSlice 52 (.int .i64 L) (.int .i64 L)).run Tryz.prog w = .ok (.slice (some ⟨w.heap.size,0,none⟩) n n) (w.alloc (.cells (Array.replicate n (.bool false)) 4)):=by
 subst hL
 obtain ⟨i,hi,hz,h1,h8⟩:=infoBool
 have h:=run_make (P:=Tryz.prog) w 52 4 i (.bool false) Tryz.underlying52 hi hz .i64 .i64 (n:Int) (n:Int) (by omega) (by omega) (by rw [h8];omega) (by omega)
 rw [h,h1]
 have e:madeCells (Value.bool false).cells ((n:Int).toNat*1)=Array.replicate n (.bool false):=by
  apply Array.ext
  ·simp [madeCells]
  ·intro i h1 h2
   have e0:i % 1=0:=Nat.mod_one i
   simp [madeCells,Value.cells,e0]
 rw [e]
 simp

theorem memAt_alloc (w:World) (half old card:Int) (v3:Value) (used top oldTop:Int) (v7 v8 v9 v10:Value) (T:TypeId):MemAt w.heap.size half old card v3 used top oldTop v7 v8 v9 v10 (w.alloc (.cells #[.int .i64 half,.int .i64 old,.int .i64 card,v3,.int .i64 used,.int .i64 top,.int .i64 oldTop,v7,v8,v9,v10] T)):=
 have h:∀ (_:Nat) (_:Value),_→_:=fun o x (hx:#[Value.int .i64 half,.int .i64 old,.int .i64 card,v3,.int .i64 used,.int .i64 top,.int .i64 oldTop,v7,v8,v9,v10][o]?=some x)=>(cell_of_row _ _ o _ _ _ (heap_alloc_new w _)).trans hx
 ⟨h 0 _ rfl,h 1 _ rfl,h 2 _ rfl,h 3 _ rfl,h 4 _ rfl,h 5 _ rfl,h 6 _ rfl,h 7 _ rfl,h 8 _ rfl,h 9 _ rfl,h 10 _ rfl⟩
def newW (half old card:Int) (nW nC:Nat) (w:World):World:=((w.alloc (.cells #[.int .i64 half,.int .i64 old,.int .i64 card,.slice (some ⟨w.heap.size+1,0,none⟩) nW nW,.int .i64 0,.int .i64 0,.int .i64 0,.slice none 0 0,.slice none 0 0,.slice none 0 0,.slice (some ⟨w.heap.size+2,0,none⟩) nC nC] 54)).alloc (.cells (Array.replicate nW (.int .u64 0)) 50)).alloc (.cells (Array.replicate nC (.bool false)) 4)
set_option maxHeartbeats 4000000 in
theorem new_ok (half old card:Int) (H:numsOK half old card) (nW nC:Nat) (hW:(nW:Int)=2*half+old) (hC:(nC:Int)=(old+card - 1) / card) (w:World) :
  Calls Tryz.prog 17 #[.int .i64 half,.int .i64 old,.int .i64 card] w fun ev w'=>ev = .returned (.tuple #[.pointer (some ⟨w.heap.size,0,none⟩),.nilIface]) ∧ ∃ q,w'=(newW half old card nW nC w).drewN q:=by
 have hm1:=make_words nW (by unfold numsOK at H;omega) (2*half+old) hW.symm
 have q1:(old+card - 1) / card≤old+card - 1:=Int.ediv_le_self _ (by unfold numsOK at H;omega)
 have hm2:=make_bools nC (by unfold numsOK at H;omega) ((old+card - 1) / card) hC.symm
 have HN:Hid (numsOK half old card):=H
 obtain ⟨h0,h1,h2,h3,h4,h5⟩:=H
 go_enter Tryz.func17,Tryz.ntmps17
 go_wp2_with fail
 have M:=memAt_alloc w half old card (.slice none 0 0) 0 0 0 (.slice none 0 0) (.slice none 0 0) (.slice none 0 0) (.slice none 0 0) 54
 refine (bounded_ok _ half old card HN.out _ M.c0 M.c1 M.c2).mono ?_
 rintro ev w1 ⟨rfl,h⟩
 rw [h]
 clear h w1
 go_wp2_with fail
 refine (oldFrom_any _ half (by omega) h1 _ M.c0).mono ?_
 rintro ev w1 ⟨rfl,h⟩
 rw [h]
 clear h w1
 go_wp2_with fail
 have M1:=(memAt_alloc w half old card (.slice (some ⟨w.heap.size+1,0,none⟩) nW nW) 0 0 0 (.slice none 0 0) (.slice none 0 0) (.slice none 0 0) (.slice none 0 0) 54).below ((Below.refl _ _).alloc (Nat.le_refl _) (.cells (Array.replicate nW (.int .u64 0)) 50)) (by simp)
 refine (cards_any _ half old card HN.out _ M1.c1 M1.c2).mono ?_
 rintro ev w1 ⟨rfl,q,h⟩
 rw [h]
 clear h w1
 go_wp2_with fail
 go_ret2
 refine ⟨rfl,q,?_⟩
 unfold newW
 rw [show ∀ (x:World) (a:Addr) (v:Value),(x.drewN q).setCell a v=(x.setCell a v).drewN q from fun _ _ _=>rfl,World.setCell_alloc_past _ _ _ _ (by simp),World.setCell_alloc_at _ _ _ _ _ rfl]
 rfl
end Go.Proofs.YtlkcbdinlfeoiabGreatDoor
namespace Go.Proofs.YtlkcbdinlfeoiabGreatDoor
open Go.RowKit

theorem wrapI (x:Int) (h0 : -9223372036854775808≤x) (h1:x<9223372036854775808):IntKind.i64.wrap x=x:=by
 rw [IntKind.wrap_i64]
 omega

structure Fits (half old card:Int) (nW nC:Nat) (used top oldTop:Int):Prop where
 nums:numsOK half old card
 w:(nW:Int)=2*half+old
 c:(nC:Int)=(old+card - 1) / card
 u0:0≤used
 u1:used≤1
 t0:0≤top
 t1:top≤half
 o0:0≤oldTop
 o1:oldTop≤old

set_option maxHeartbeats 1000000 in
set_option maxRecDepth 100000 in
theorem measured_ok (p:Nat) (half old card:Int) (nW nC cW cC:Nat) (aW aC:Option Addr) (used top oldTop:Int) (r k i:Value) (F:Fits half old card nW nC used top oldTop) (w:World)
  (M:MemAt p half old card (.slice aW nW cW) used top oldTop r k i (.slice aC nC cC) w) :
  Calls Tryz.prog 53 #[.pointer (some ⟨p,0,none⟩)] w fun ev w'=>ev = .returned (.bool true) ∧ ∃ q,w'=w.drewN q:=by
 have kb:Hid (∀ q,Calls Tryz.prog 42 #[.pointer (some ⟨p,0,none⟩)] (w.drewN q) fun ev w'=>ev = .returned (.bool true)∧w'=w.drewN q):=fun q=>bounded_ok p half old card F.nums (w.drewN q) M.c0 M.c1 M.c2
 have ko:Hid (∀ q,Calls Tryz.prog 43 #[.pointer (some ⟨p,0,none⟩)] (w.drewN q) fun ev w'=>ev = .returned (.int .i64 (2*half))∧w'=w.drewN q):=fun q=>oldFrom_any p half (by have:=F.nums;unfold numsOK at this;omega) (by have:=F.nums;unfold numsOK at this;omega) (w.drewN q) M.c0
 have kc:Hid (∀ q,Calls Tryz.prog 44 #[.pointer (some ⟨p,0,none⟩)] (w.drewN q) fun ev w'=>ev = .returned (.int .i64 ((old+card - 1) / card)) ∧ ∃ m,w'=(w.drewN q).drewN m):=fun q=>cards_any p half old card F.nums (w.drewN q) M.c1 M.c2
 have k1:Hid (∀ w,Calls Tryz.prog 54 #[.int .i64 used,.int .i64 0,.int .i64 1] w fun ev w'=>ev = .returned (.bool true)∧w'=w):=fun w=>mwithin_ok used 0 1 F.u0 F.u1 w
 have k2:Hid (∀ w,Calls Tryz.prog 54 #[.int .i64 top,.int .i64 0,.int .i64 half] w fun ev w'=>ev = .returned (.bool true)∧w'=w):=fun w=>mwithin_ok top 0 half F.t0 F.t1 w
 have k3:Hid (∀ w,Calls Tryz.prog 54 #[.int .i64 oldTop,.int .i64 0,.int .i64 old] w fun ev w'=>ev = .returned (.bool true)∧w'=w):=fun w=>mwithin_ok oldTop 0 old F.o0 F.o1 w
 obtain ⟨c0,c1,c2,c3,c4,c5,c6,c7,c8,c9,c10⟩:=M
 have e1:IntKind.i64.wrap (2*half+old)=(nW:Int):=by have:=F.nums;unfold numsOK at this;rw [wrapI _ (by omega) (by omega)];exact F.w.symm
 have e2:((nC:Int) == (old+card - 1) / card)=true:=by rw [F.c];simp
 clear F c7 c8 c9
 go_enter Tryz.func53,Tryz.ntmps53
 go_wp2_with fail
 go_quiet (first | (go_at_call 42;exact Calls.quiet_of_same (kb.out _)) | (go_at_call 43;exact Calls.quiet_of_same (ko.out _)) | (go_at_call 44;exact Calls.quiet_of (kc.out _)) | (go_at_call_of 54 used;exact Calls.quiet_of_same (k1.out _)) | (go_at_call_of 54 top;exact Calls.quiet_of_same (k2.out _)) | (go_at_call_of 54 oldTop;exact Calls.quiet_of_same (k3.out _)))
 go_wp2
 go_ret
 exact ⟨rfl,_,rfl⟩

theorem nursery_any (p:Nat) (half used:Int) (h0:0≤half) (h1:half≤65536) (u0:0≤used) (u1:used≤1) (w:World) (c0:w.cell? ⟨p,0,none⟩=some (.int .i64 half)) (c4:w.cell? ⟨p,4,none⟩=some (.int .i64 used)) :
  Calls Tryz.prog 192 #[.pointer (some ⟨p,0,none⟩)] w fun ev w'=>ev = .returned (.int .i64 (used*half)) ∧ ∃ q,w'=w.drewN q:=by
 obtain rfl | rfl:used=0∨used=1:=by omega
 ·go_enter Tryz.func192,Tryz.ntmps192
  go_wp2
  go_quiet (fail)
  go_wp2
  go_ret
  exact ⟨by rw [Int.zero_mul];rfl,_,rfl⟩
 ·go_enter Tryz.func192,Tryz.ntmps192
  go_wp2
  go_quiet (fail)
  go_wp2
  go_ret
  exact ⟨by rw [Int.one_mul];rfl,_,rfl⟩

end Go.Proofs.YtlkcbdinlfeoiabGreatDoor
namespace Go.Proofs.YtlkcbdinlfeoiabGreatDoor
open Go.RowKit Go.Maps

structure Bare (p b h nW nC:Nat) (old card:Int) (aC:Option Addr) (w:World):Prop where
 mem:MemAt p (h:Int) old card (.slice (some ⟨b,0,none⟩) nW nW) 0 0 0 (.slice none 0 0) (.slice none 0 0) (.slice none 0 0) (.slice aC nC nC) w
 fits:Fits (h:Int) old card nW nC 0 0 0
theorem Bare.below {p b h nW nC B:Nat}{old card:Int}{aC:Option Addr}{w w':World} (K:Bare p b h nW nC old card aC w) (hb:Below B w w') (hp:p<B):Bare p b h nW nC old card aC w':=⟨K.mem.below hb hp,K.fits⟩
theorem Bare.at {p b h nW nC:Nat}{old card:Int}{aC:Option Addr}{w:World} (K:Bare p b h nW nC old card aC w):p<w.heap.size:=lt_of_cell K.mem.c0

theorem two_below (w:World) (o o':Obj):Below w.heap.size w ((w.alloc o).alloc o'):=((Below.refl _ _).alloc (Nat.le_refl _) _).alloc (by simp) _
set_option maxRecDepth 100000 in
theorem make_heads (n:Nat) (hn:n≤300000) (L:Int) (hL:L=(n:Int)) (w:World) :
  (Instr.makeSlice 108 (.int .i64 L) (.int .i64 L)).run Tryz.prog w = .ok (.slice (some ⟨w.heap.size,0,none⟩) n n) (w.alloc (.cells (Array.replicate n (.bool false)) 4)):=by
 subst hL
 obtain ⟨i,hi,hz,h1,h8⟩:=infoBool
 have h:=run_make (P:=Tryz.prog) w 108 4 i (.bool false) Tryz.underlying108 hi hz .i64 .i64 (n:Int) (n:Int) (by omega) (by omega) (by rw [h8];omega) (by omega)
 rw [h,h1]
 have e:madeCells (Value.bool false).cells ((n:Int).toNat*1)=Array.replicate n (.bool false):=by
  apply Array.ext
  ·simp [madeCells]
  ·intro i h1 h2
   have e0:i % 1=0:=Nat.mod_one i
   simp [madeCells,Value.cells,e0]
 rw [e]
 simp
theorem newW_facts (half old card:Int) (nW nC:Nat) (w:World) (q:Nat):Below w.heap.size w ((newW half old card nW nC w).drewN q) ∧
  MemAt w.heap.size half old card (.slice (some ⟨w.heap.size+1,0,none⟩) nW nW) 0 0 0 (.slice none 0 0) (.slice none 0 0) (.slice none 0 0) (.slice (some ⟨w.heap.size+2,0,none⟩) nC nC) ((newW half old card nW nC w).drewN q) ∧
  ((newW half old card nW nC w).drewN q).heap[w.heap.size+1]?=some (.cells (Array.replicate nW (.int .u64 0)) 50) ∧
  ((newW half old card nW nC w).drewN q).heap[w.heap.size+2]?=some (.cells (Array.replicate nC (.bool false)) 4):=by
 refine ⟨below_drewN ((two_below w _ _).alloc (by simp;omega) _),?_,?_,?_⟩
 ·exact (memAt_alloc w half old card (.slice (some ⟨w.heap.size+1,0,none⟩) nW nW) 0 0 0 (.slice none 0 0) (.slice none 0 0) (.slice none 0 0) (.slice (some ⟨w.heap.size+2,0,none⟩) nC nC) 54).below (B:=w.heap.size+1) (below_drewN (((Below.refl _ _).alloc (by simp) _).alloc (by simp) _)) (by simp)
 ·show (newW half old card nW nC w).heap[w.heap.size+1]?=_
  unfold newW World.alloc
  simp [Array.getElem_push]
 ·show (newW half old card nW nC w).heap[w.heap.size+2]?=_
  unfold newW World.alloc
  simp [Array.getElem_push]
end Go.Proofs.YtlkcbdinlfeoiabGreatDoor
