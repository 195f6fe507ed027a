/- Closed facts on the types that errors.As and errors.Is look into: a pointer to an errors.errorString, a pointer to an api.Fault. -/
import Derived.Test.YtlkcbdinlfeoiaaGreatDoorAl
import Derived.Test.YtlkcbdinlfeoiaaGreatDoorProg
import Derived.Stop.Asserts
import Derived.RowKitTokens
import Derived.Deep.RegionHeld3
import Derived.BigQuiet
import Derived.WalkSmall
import Derived.Deep.LoopGhost
namespace Go.Proofs.YtlkcbdinlfeoiaaGreatDoor
open Go.Proofs.Tryz Go.RowKit
set_option maxHeartbeats 8000000
set_option maxRecDepth 100000
section
open Go.Extern.Stop Go.Stop Go.Extern
theorem Z02 {w:World}{a:Addr}{v:Value} (h:w.cell? a=some v):a.block<w.heap.size:=by
 rcases U2w a.block w.heap.size with h1 | h1
 ·exact h1
 ·simp [World.cell?,Array.getElem?_eq_none h1] at h
end
section
open Go.Extern.Stop Go.Stop Go.Extern
structure Errs (a:Nat->Addr) (w:World):Prop where
 h:w.cell? ⟨7,0,none⟩=some (.iface 247 (.agg #[.pointer (some ⟨14,27,none⟩)]))
 c0:w.cell? ⟨2,0,none⟩=some (.iface 338 (.pointer (some (a 0))))
 c1:w.cell? ⟨0,0,none⟩=some (.iface 338 (.pointer (some (a 1))))
 c2:w.cell? ⟨3,0,none⟩=some (.iface 338 (.pointer (some (a 2))))
 c3:w.cell? ⟨4,0,none⟩=some (.iface 338 (.pointer (some (a 3))))
 c4:w.cell? ⟨1,0,none⟩=some (.iface 338 (.pointer (some (a 4))))
 c5:w.cell? ⟨5,0,none⟩=some (.iface 338 (.pointer (some (a 5))))
 c6:w.cell? ⟨6,0,none⟩=some (.iface 338 (.pointer (some (a 6))))
 b:∀ i,i<7 -> ∃ c t,w.heap[(a i).block]?=some (.cells c t (0,0))
 ne:∀ i j,i<7->j<7->i≠j->a i≠a j
theorem Z01 {w:World}{k:Nat}{o:Obj} (h:w.heap[k]?=some o):k<w.heap.size:=by
 rcases U2w k w.heap.size with h1 | h1
 ·exact h1
 ·rw [Array.getElem?_eq_none h1] at h;cases h
theorem Errs.below {a:Nat->Addr}{w w':World} (E:Errs a w) (hb:Below w.heap.size w w'):Errs a w' where
 h:=(hb.cell (p:=⟨7,0,none⟩) (Z02 E.h)).trans E.h
 c0:=(hb.cell (p:=⟨2,0,none⟩) (Z02 E.c0)).trans E.c0
 c1:=(hb.cell (p:=⟨0,0,none⟩) (Z02 E.c1)).trans E.c1
 c2:=(hb.cell (p:=⟨3,0,none⟩) (Z02 E.c2)).trans E.c2
 c3:=(hb.cell (p:=⟨4,0,none⟩) (Z02 E.c3)).trans E.c3
 c4:=(hb.cell (p:=⟨1,0,none⟩) (Z02 E.c4)).trans E.c4
 c5:=(hb.cell (p:=⟨5,0,none⟩) (Z02 E.c5)).trans E.c5
 c6:=(hb.cell (p:=⟨6,0,none⟩) (Z02 E.c6)).trans E.c6
 b:=fun i hi=>by
  obtain ⟨c,t,h⟩:=E.b i hi
  exact ⟨c,t,(hb.block _ (Z01 h)).trans h⟩
 ne:=E.ne
end
structure WErr (a:Nat->Addr) (w:World):Prop where
 c1:w.cell? ⟨0,0,none⟩=some (.iface 338 (.pointer (some (a 1))))
 c2:w.cell? ⟨3,0,none⟩=some (.iface 338 (.pointer (some (a 2))))
theorem WErr.below {a:Nat->Addr}{w w':World} (E:WErr a w) (hb:Below w.heap.size w w'):WErr a w' where
 c1:=(hb.cell (p:=⟨0,0,none⟩) (Z02 E.c1)).trans E.c1
 c2:=(hb.cell (p:=⟨3,0,none⟩) (Z02 E.c2)).trans E.c2
theorem Errs.we {a:Nat->Addr}{w:World} (E:Errs a w):WErr a w:=⟨E.c1,E.c2⟩
def Z0p (a:Nat->Addr) (k:Nat):Value:=.iface 338 (.pointer (some (a k)))
theorem Z03 {B:Nat}{a w:World}{q:Nat} (h:Below B a w):Below B a (w.drewN q):=⟨h.os,h.tape,h.output,h.size,h.block⟩
theorem Z0w (n:Int):IntKind.u64.wrap n=n % 18446744073709551616:=by simp [IntKind.wrap,IntKind.bits,IntKind.signed]
theorem and3 (x:Int) (h0:0<=x) (h1:x<18446744073709551616):bits .and .u64 x 3=x % 4:=by
 go_bits2
theorem Z3p (x:Int) (h0 : -9223372036854775808<=x) (h1:x<9223372036854775808):wrap64 x=x:=by
 unfold wrap64
 omega
theorem Z58 (x:Int):wrap64 x=(x+9223372036854775808) % 18446744073709551616 - 9223372036854775808:=by
 unfold wrap64
 omega
theorem Zgv (y c:Int) (h0:0<=y) (h1:y<18446744073709551616) (h2:y % 4=0) (hc0:0<=c) (hc:c<4):bits .or .u64 y c=y+c:=
 bits_join .u64 64 (by decide) (fun n a b=>by rw [Z0w];omega) 2 y c h0 h2 (by omega) hc0 hc (by omega)
theorem Zol (x:Int) (h0:0<=x) (h1:x<18446744073709551616) (w:World) :
  Calls prog 212 #[.int .u64 x] w fun ev w'=>ev = .returned (.int .i64 (x % 4))/\w'=w:=by
 have e:=and3 x h0 h1
 have e2:=Z3p (x % 4) (by omega) (by omega)
 go_enter func212,ntmps212
 go_wp2
 go_ret
 rw [<-e2,<-e]
 exact ⟨rfl,rfl⟩
theorem Zhl (n:Int) (c1 : -2305843009213693952<=n) (c2:n<2305843009213693952) (w:World) :
  Calls prog 83 #[.int .i64 n] w fun ev w'=>ev = .returned (.tuple #[.int .u64 ((n*4+1) % 18446744073709551616),.nilIface])/\Below w.heap.size w w':=by
 have e:=Zgv (IntKind.u64.wrap (IntKind.u64.wrap n*4)) 1 (by rw [Z0w];omega) (by rw [Z0w];omega) (by rw [Z0w,Z0w];omega) (by omega) (by omega)
 have e2:IntKind.u64.wrap (IntKind.u64.wrap n*4)+1=(n*4+1) % 18446744073709551616:=by rw [Z0w,Z0w];omega
 go_enter func83,ntmps83
 go_wp2
 go_ret2
 rw [<-e2,<-e]
 exact ⟨rfl,U01 _ _⟩
theorem Znq (n x:Int) (c1 : -2305843009213693952<=n) (c2:n<2305843009213693952) (w:World) :
  Calls prog 182 #[.int .i64 n,.int .u64 x,.func (.func 83) #[] #[]] w fun ev w'=>ev = .returned (.bool ((n*4+1) % 18446744073709551616 == x))/\Below w.heap.size w w':=by
 have h:=Zhl n c1 c2 w
 go_enter func182,ntmps182
 go_wp2_with fail
 refine h.mono ?_
 rintro ev w1 ⟨rfl,hb⟩
 go_wp2
 go_ret
 exact ⟨rfl,hb⟩
theorem Zpv (x:Int) (h0:0<=x) (h1:x<18446744073709551616) (hx:x % 4=1) (w:World) :
  Calls prog 147 #[.int .u64 x] w fun ev w'=>ev = .returned (.tuple #[.int .i64 (wrap64 x / 4),.nilIface])/\Below w.heap.size w w':=by
 have hw:wrap64 x=(x+9223372036854775808) % 18446744073709551616 - 9223372036854775808:=Z58 x
 have h:=Znq (wrap64 x / 4) x (by omega) (by omega) w
 have hm:((wrap64 x / 4*4+1) % 18446744073709551616 == x)=true:=by
  rw [U3d]
  omega
 rw [hm] at h
 clear hm hw
 go_enter func147,ntmps147
 go_wp2_with fail
 refine h.mono ?_
 rintro ev w1 ⟨rfl,hb⟩
 go_wp2
 go_ret2
 exact ⟨rfl,hb⟩
theorem Zo8 (a:Nat->Addr) (x:Int) (hx:x % 4≠1) (w:World) (E:WErr a w) :
  Calls prog 147 #[.int .u64 x] w fun ev w'=>ev = .returned (.tuple #[.int .i64 0,Z0p a 2])/\Below w.heap.size w w':=by
 have hw:wrap64 x=(x+9223372036854775808) % 18446744073709551616 - 9223372036854775808:=Z58 x
 have h:=Znq (wrap64 x / 4) x (by omega) (by omega) w
 have hm:((wrap64 x / 4*4+1) % 18446744073709551616 == x)=false:=by
  rw [U0w]
  omega
 rw [hm] at h
 clear hm hw
 go_enter func147,ntmps147
 go_wp2_with fail
 refine h.mono ?_
 rintro ev w1 ⟨rfl,hb⟩
 have k2:=(E.below hb).c2
 go_wp2
 go_quiet (fail)
 go_wp2
 go_ret2
 exact ⟨rfl,Z03 hb⟩
theorem Zme (a:Nat->Addr) (n:Int) (h0 : -9223372036854775808<=n) (h1:n<9223372036854775808) (hn:n<0\/1099511627776<n) (w:World) (E:WErr a w) :
  Calls prog 120 #[.int .i64 n] w fun ev w'=>ev = .returned (.tuple #[.int .u64 0,Z0p a 1])/\Below w.heap.size w w':=by
 have k1:=E.c1
 rcases hn with c | c
 ·go_enter func120,ntmps120
  go_wp2
  go_quiet (fail)
  go_wp2
  go_ret2
  exact ⟨rfl,Z03 (U01 _ _)⟩
 ·have c1:¬ n<0:=by omega
  have e:=Z3p n h0 h1
  go_enter func120,ntmps120
  go_wp2
  go_quiet (fail)
  go_wp2
  go_ret2
  exact ⟨rfl,Z03 (U01 _ _)⟩
theorem Z94 (n:Int) (c1:0<=n) (c2:n<=1099511627776) (w:World) :
  Calls prog 120 #[.int .i64 n] w fun ev w'=>ev = .returned (.tuple #[.int .u64 ((n+1)*4),.nilIface])/\Below w.heap.size w w':=by
 have e:=Zgv ((n+1)*4) 0 (by omega) (by omega) (by omega) (by omega) (by omega)
 rw [Int.add_zero] at e
 go_enter func120,ntmps120
 go_wp2
 go_ret2
 rw [<-e]
 exact ⟨rfl,U01 _ _⟩
theorem Zeh (n x:Int) (c1:0<=n) (c2:n<=1099511627776) (w:World) :
  Calls prog 183 #[.int .i64 n,.int .u64 x,.func (.func 120) #[] #[]] w fun ev w'=>ev = .returned (.bool ((n+1)*4 == x))/\Below w.heap.size w w':=by
 have h:=Z94 n c1 c2 w
 go_enter func183,ntmps183
 go_wp2_with fail
 refine h.mono ?_
 rintro ev w1 ⟨rfl,hb⟩
 go_wp2
 go_ret
 exact ⟨rfl,hb⟩
theorem Zkh (a:Nat->Addr) (n x:Int) (h0 : -9223372036854775808<=n) (h1:n<9223372036854775808) (hn:n<0\/1099511627776<n) (w:World) (E:WErr a w) :
  Calls prog 183 #[.int .i64 n,.int .u64 x,.func (.func 120) #[] #[]] w fun ev w'=>ev = .returned (.bool false)/\Below w.heap.size w w':=by
 have h:=Zme a n h0 h1 hn w E
 go_enter func183,ntmps183
 go_wp2_with fail
 refine h.mono ?_
 rintro ev w1 ⟨rfl,hb⟩
 unfold Z0p
 go_wp2
 go_ret
 exact ⟨rfl,hb⟩
theorem Z3h (x:Int) (hx:x % 4=0) (h4:4<=x) (h5:x / 4 - 1<=1099511627776) (w:World) :
  Calls prog 170 #[.int .u64 x] w fun ev w'=>ev = .returned (.tuple #[.int .i64 (x / 4 - 1),.nilIface])/\Below w.heap.size w w':=by
 have h:=Zeh (x / 4 - 1) x (by omega) (by omega) w
 have hm:((x / 4 - 1+1)*4 == x)=true:=by
  rw [U3d]
  omega
 rw [hm] at h
 clear hm
 go_enter func170,ntmps170
 go_wp2_with fail
 refine h.mono ?_
 rintro ev w1 ⟨rfl,hb⟩
 go_wp2
 go_ret2
 exact ⟨rfl,hb⟩
theorem Z67 (a:Nat->Addr) (x:Int) (h0:0<=x) (h1:x<18446744073709551616) (hx:¬ (x % 4=0/\4<=x/\x / 4 - 1<=1099511627776)) (w:World) (E:WErr a w) :
  Calls prog 170 #[.int .u64 x] w fun ev w'=>ev = .returned (.tuple #[.int .i64 0,Z0p a 2])/\Below w.heap.size w w':=by
 have h:Calls prog 183 #[.int .i64 (x / 4 - 1),.int .u64 x,.func (.func 120) #[] #[]] w fun ev w'=>ev = .returned (.bool false)/\Below w.heap.size w w':=by
  by_cases c:x / 4 - 1<0\/1099511627776<x / 4 - 1
  ·exact Zkh a (x / 4 - 1) x (by omega) (by omega) c w E
  ·have h:=Zeh (x / 4 - 1) x (by omega) (by omega) w
   have hm:((x / 4 - 1+1)*4 == x)=false:=by
    rw [U0w]
    omega
   rw [hm] at h
   exact h
 clear hx
 go_enter func170,ntmps170
 go_wp2_with fail
 refine h.mono ?_
 rintro ev w1 ⟨rfl,hb⟩
 have k2:=(E.below hb).c2
 go_wp2
 go_quiet (fail)
 go_wp2
 go_ret2
 exact ⟨rfl,Z03 hb⟩
theorem Z0y (n m:Int) (w:World) :
  Calls prog 127 #[.int .i64 n,.int .i64 m] w fun ev w'=>ev = .returned (.bool (decide (0<=n) && decide (n<=m)))/\w'=w:=by
 by_cases c:0<=n
 ·rw [U0d c,U1v]
  go_enter func127,ntmps127
  go_wp2
  go_ret
  exact ⟨rfl,rfl⟩
 ·rw [U0k c,U1s]
  go_enter func127,ntmps127
  go_wp2
  go_ret
  exact ⟨rfl,rfl⟩
theorem Zb8 (n:Int) (c1:0<=n) (c2:n<=2) (w:World) :
  Calls prog 78 #[.int .i64 n] w fun ev w'=>ev = .returned (.tuple #[.int .u64 (n*4+2),.nilIface])/\Below w.heap.size w w':=by
 have h:=Z0y n 2 w
 have hm:(decide (0<=n) && decide (n<=2))=true:=by simp [c1,c2]
 rw [hm] at h
 clear hm
 have e:=Zgv (n*4) 2 (by omega) (by omega) (by omega) (by omega) (by omega)
 go_enter func78,ntmps78
 go_wp2_with fail
 refine h.mono ?_
 rintro ev w1 ⟨rfl,rfl⟩
 go_wp2
 go_ret2
 rw [<-e]
 exact ⟨rfl,U01 _ _⟩
theorem Za4 (a:Nat->Addr) (n:Int) (hn:n<0\/2<n) (w:World) (E:WErr a w) :
  Calls prog 78 #[.int .i64 n] w fun ev w'=>ev = .returned (.tuple #[.int .u64 0,Z0p a 1])/\Below w.heap.size w w':=by
 have h:=Z0y n 2 w
 have hm:(decide (0<=n) && decide (n<=2))=false:=by
  rw [U1m,U0p,U0p]
  omega
 rw [hm] at h
 clear hm
 have k1:=E.c1
 go_enter func78,ntmps78
 go_wp2_with fail
 refine h.mono ?_
 rintro ev w1 ⟨rfl,rfl⟩
 go_wp2
 go_quiet (fail)
 go_wp2
 go_ret2
 exact ⟨rfl,Z03 (U01 _ _)⟩
theorem Z6a (a b:Int):bits .or .u64 a b=bits .or .u64 b a:=by
 simp only [bits,BitVec.or_comm]
theorem Z30 (i:Nat) (x y:Int) (h0:0<=x) (h1:x<18446744073709551616) (h2:x % 2 ^ i=0) (c0:0<=y) (c1:y<2 ^ i) (c2:y<18446744073709551616):bits .or .u64 x y=x+y:=
 bits_join .u64 64 (by decide) (fun n a b=>by rw [Z0w];omega) i x y h0 h2 h1 c0 c1 c2
theorem Zoe (k g m s:Int) (k0:0<=k) (k1:k<=255) (g0:0<=g) (g1:g<=15) (m0:0<=m) (m1:m<=1) (s0:0<=s) (s1:s<=4096) :
  bits .or .u64 (bits .or .u64 (bits .or .u64 (k*4) (g*1024)) (bits .or .u64 (m*16384) (s*65536))) 3=s*65536+m*16384+g*1024+k*4+3:=by
 have e1:bits .or .u64 (k*4) (g*1024)=g*1024+k*4:=by
  rw [Z6a]
  exact Z30 10 _ _ (by omega) (by omega) (by omega) (by omega) (by omega) (by omega)
 have e2:bits .or .u64 (m*16384) (s*65536)=s*65536+m*16384:=by
  rw [Z6a]
  exact Z30 16 _ _ (by omega) (by omega) (by omega) (by omega) (by omega) (by omega)
 have e3:bits .or .u64 (g*1024+k*4) (s*65536+m*16384)=s*65536+m*16384+(g*1024+k*4):=by
  rw [Z6a]
  exact Z30 14 _ _ (by omega) (by omega) (by omega) (by omega) (by omega) (by omega)
 rw [e1,e2,e3,Z30 2 _ _ (by omega) (by omega) (by omega) (by omega) (by omega) (by omega)]
 omega
theorem Z59 (k g m s:Int) (k0:0<=k) (k1:k<=255) (g0:0<=g) (g1:g<=15) (m0:0<=m) (m1:m<=1) (s0:0<=s) (s1:s<=4096) (w:World) :
  Calls prog 118 #[.agg #[.int .i64 k,.int .i64 g,.int .i64 m,.int .i64 s]] w fun ev w'=>ev = .returned (.tuple #[.int .u64 (s*65536+m*16384+g*1024+k*4+3),.nilIface])/\Below w.heap.size w w':=by
 have e:=Zoe k g m s k0 k1 g0 g1 m0 m1 s0 s1
 go_enter func118,ntmps118
 go_wp2_with fail
 refine (Z0y _ _ _).mono ?_
 rintro ev w1 ⟨rfl,rfl⟩
 go_wp2_with fail
 refine (Z0y _ _ _).mono ?_
 rintro ev w1 ⟨rfl,rfl⟩
 go_wp2_with fail
 refine (Z0y _ _ _).mono ?_
 rintro ev w1 ⟨rfl,rfl⟩
 go_wp2_with fail
 refine (Z0y _ _ _).mono ?_
 rintro ev w1 ⟨rfl,rfl⟩
 go_wp2_with fail
 go_ret2
 rw [<-e]
 exact ⟨rfl,(U01 _ _).alloc (U02 _) _⟩
theorem Zmo (a:Nat->Addr) (k g m s:Int) (hn:¬ (0<=k/\k<=255/\0<=g/\g<=15/\0<=m/\m<=1/\0<=s/\s<=4096)) (w:World) (E:WErr a w) :
  Calls prog 118 #[.agg #[.int .i64 k,.int .i64 g,.int .i64 m,.int .i64 s]] w fun ev w'=>ev = .returned (.tuple #[.int .u64 0,Z0p a 1])/\Below w.heap.size w w':=by
 have hbA:=fun o=>(U01 w.heap.size w).alloc (U02 _) o
 have hc:=fun o=>(E.below (hbA o)).c1
 by_cases ck:0<=k/\k<=255
 rotate_left
 ·clear hn
  have hx:(decide (0<=k) && decide (k<=255))=false:=by rw [U1m,U0p,U0p];omega
  go_enter func118,ntmps118
  go_wp2_with fail
  refine (Z0y _ _ _).mono ?_
  rintro ev w1 ⟨rfl,rfl⟩
  rw [hx]
  go_wp2_with fail
  go_quiet (fail)
  go_wp2
  go_ret2
  exact ⟨rfl,Z03 (hbA _)⟩
 obtain ⟨k0,k1⟩:=ck
 by_cases cg:0<=g/\g<=15
 rotate_left
 ·clear hn
  have hx:(decide (0<=g) && decide (g<=15))=false:=by rw [U1m,U0p,U0p];omega
  go_enter func118,ntmps118
  go_wp2_with fail
  refine (Z0y _ _ _).mono ?_
  rintro ev w1 ⟨rfl,rfl⟩
  go_wp2_with fail
  refine (Z0y _ _ _).mono ?_
  rintro ev w1 ⟨rfl,rfl⟩
  rw [hx]
  go_wp2_with fail
  go_quiet (fail)
  go_wp2
  go_ret2
  exact ⟨rfl,Z03 (hbA _)⟩
 obtain ⟨g0,g1⟩:=cg
 by_cases cm:0<=m/\m<=1
 rotate_left
 ·clear hn
  have hx:(decide (0<=m) && decide (m<=1))=false:=by rw [U1m,U0p,U0p];omega
  go_enter func118,ntmps118
  go_wp2_with fail
  refine (Z0y _ _ _).mono ?_
  rintro ev w1 ⟨rfl,rfl⟩
  go_wp2_with fail
  refine (Z0y _ _ _).mono ?_
  rintro ev w1 ⟨rfl,rfl⟩
  go_wp2_with fail
  refine (Z0y _ _ _).mono ?_
  rintro ev w1 ⟨rfl,rfl⟩
  rw [hx]
  go_wp2_with fail
  go_quiet (fail)
  go_wp2
  go_ret2
  exact ⟨rfl,Z03 (hbA _)⟩
 obtain ⟨m0,m1⟩:=cm
 by_cases cs:0<=s/\s<=4096
 rotate_left
 ·clear hn
  have hx:(decide (0<=s) && decide (s<=4096))=false:=by rw [U1m,U0p,U0p];omega
  go_enter func118,ntmps118
  go_wp2_with fail
  refine (Z0y _ _ _).mono ?_
  rintro ev w1 ⟨rfl,rfl⟩
  go_wp2_with fail
  refine (Z0y _ _ _).mono ?_
  rintro ev w1 ⟨rfl,rfl⟩
  go_wp2_with fail
  refine (Z0y _ _ _).mono ?_
  rintro ev w1 ⟨rfl,rfl⟩
  go_wp2_with fail
  refine (Z0y _ _ _).mono ?_
  rintro ev w1 ⟨rfl,rfl⟩
  rw [hx]
  go_wp2_with fail
  go_quiet (fail)
  go_wp2
  go_ret2
  exact ⟨rfl,Z03 (hbA _)⟩
 obtain ⟨s0,s1⟩:=cs
 exact absurd ⟨k0,k1,g0,g1,m0,m1,s0,s1⟩ hn
theorem Zdo (k g m s x:Int) (k0:0<=k) (k1:k<=255) (g0:0<=g) (g1:g<=15) (m0:0<=m) (m1:m<=1) (s0:0<=s) (s1:s<=4096) (w:World) :
  Calls prog 157 #[.agg #[.int .i64 k,.int .i64 g,.int .i64 m,.int .i64 s],.int .u64 x,.func (.func 118) #[] #[]] w fun ev w'=>ev = .returned (.bool (s*65536+m*16384+g*1024+k*4+3 == x))/\Below w.heap.size w w':=by
 have h:=fun w=>Z59 k g m s k0 k1 g0 g1 m0 m1 s0 s1 w
 clear k0 k1 g0 g1 m0 m1 s0 s1
 go_enter func157,ntmps157
 go_wp2_with fail
 refine (h _).mono ?_
 rintro ev w1 ⟨rfl,hb⟩
 go_wp2
 go_ret
 exact ⟨rfl,((U01 _ _).alloc (U02 _) _).trans (hb.mono (by simp))⟩
theorem Zl6 (a:Nat->Addr) (k g m s x:Int) (hn:¬ (0<=k/\k<=255/\0<=g/\g<=15/\0<=m/\m<=1/\0<=s/\s<=4096)) (w:World) (E:WErr a w) :
  Calls prog 157 #[.agg #[.int .i64 k,.int .i64 g,.int .i64 m,.int .i64 s],.int .u64 x,.func (.func 118) #[] #[]] w fun ev w'=>ev = .returned (.bool false)/\Below w.heap.size w w':=by
 have h:=fun w (E:WErr a w)=>Zmo a k g m s hn w E
 clear hn
 go_enter func157,ntmps157
 go_wp2_with fail
 refine (h _ (E.below ((U01 _ _).alloc (U02 _) _))).mono ?_
 rintro ev w1 ⟨rfl,hb⟩
 unfold Z0p
 go_wp2
 go_ret
 exact ⟨rfl,((U01 _ _).alloc (U02 _) _).trans (hb.mono (by simp))⟩
theorem Zql (y:Int) (h0:0<=y) (h1:y<18446744073709551616):bits .and .u64 y 255=y % 256:=by go_bits2
theorem Zrp (y:Int) (h0:0<=y) (h1:y<18446744073709551616):bits .and .u64 y 15=y % 16:=by go_bits2
theorem and1 (y:Int) (h0:0<=y) (h1:y<18446744073709551616):bits .and .u64 y 1=y % 2:=by go_bits2
theorem Z3i (w:World) (o o':Obj):((w.alloc o).alloc o').heap[w.heap.size]?=some o/\((w.alloc o).alloc o').heap[w.heap.size+1]?=some o':=by
 constructor
 ·exact (((U01 (w.alloc o).heap.size _).alloc (U02 _) _).block w.heap.size (by simp)).trans (U0b w _)
 ·have h:=U0b (w.alloc o) o'
  rw [show (w.alloc o).heap.size=w.heap.size+1 by simp] at h
  exact h
theorem Z0e {w:World}{b:Nat}{u0 u1 u2 u3:Value} (h:w.heap[b]?=some (.cells #[u0,u1,u2,u3] 172)) :
  w.cell? ⟨b,0,none⟩=some u0/\w.cell? ⟨b,1,none⟩=some u1/\w.cell? ⟨b,2,none⟩=some u2/\w.cell? ⟨b,3,none⟩=some u3 /\ ∀ o,w.frozen? ⟨b,o,none⟩=false:=by
 refine ⟨?_,?_,?_,?_,fun o=>by simp [World.frozen?,h]⟩
 ·rw [U06 w b 0 _ _ _ h];rfl
 ·rw [U06 w b 1 _ _ _ h];rfl
 ·rw [U06 w b 2 _ _ _ h];rfl
 ·rw [U06 w b 3 _ _ _ h];rfl
theorem Z1p (w:World) (b i j:Nat) (v:Value) (h:i≠j):(w.setCell ⟨b,j,none⟩ v).cell? ⟨b,i,none⟩=w.cell? ⟨b,i,none⟩:=
 World.cell?_setCell_other _ _ _ _ (fun e=>h (congrArg Addr.off e).symm)
def Zjq (w:World) (b:Nat) (v0 v1 v2 v3:Value):World:=(((w.setCell ⟨b,0,none⟩ v0).setCell ⟨b,1,none⟩ v1).setCell ⟨b,2,none⟩ v2).setCell ⟨b,3,none⟩ v3
theorem Z26 {w:World}{b:Nat}{u0 u1 u2 u3:Value} (r0:w.cell? ⟨b,0,none⟩=some u0) (r1:w.cell? ⟨b,1,none⟩=some u1) (r2:w.cell? ⟨b,2,none⟩=some u2) (r3:w.cell? ⟨b,3,none⟩=some u3) (v0 v1 v2 v3:Value) :
  (Zjq w b v0 v1 v2 v3).cell? ⟨b,0,none⟩=some v0/\(Zjq w b v0 v1 v2 v3).cell? ⟨b,1,none⟩=some v1/\(Zjq w b v0 v1 v2 v3).cell? ⟨b,2,none⟩=some v2/\(Zjq w b v0 v1 v2 v3).cell? ⟨b,3,none⟩=some v3:=by
 unfold Zjq
 refine ⟨?_,?_,?_,?_⟩
 ·rw [Z1p _ _ _ _ _ (by decide),Z1p _ _ _ _ _ (by decide),Z1p _ _ _ _ _ (by decide)]
  exact U2m _ _ _ r0
 ·rw [Z1p _ _ _ _ _ (by decide),Z1p _ _ _ _ _ (by decide)]
  exact U2m _ _ _ ((Z1p _ _ _ _ _ (by decide)).trans r1)
 ·rw [Z1p _ _ _ _ _ (by decide)]
  exact U2m _ _ _ ((Z1p _ _ _ _ _ (by decide)).trans ((Z1p _ _ _ _ _ (by decide)).trans r2))
 ·exact U2m _ _ _ ((Z1p _ _ _ _ _ (by decide)).trans ((Z1p _ _ _ _ _ (by decide)).trans ((Z1p _ _ _ _ _ (by decide)).trans r3)))
theorem Z1w {w W:World}{b B:Nat} (h:Below B w W) (hb:B<=b) (v0 v1 v2 v3:Value):Below B w (Zjq W b v0 v1 v2 v3):=
 (((h.setCell hb _).setCell hb _).setCell hb _).setCell hb _
theorem Z7i (tmps:Array Value) (W:World) (b:Nat) (v0 v1 v2 v3:Value) (h2:tmps[2]?.getD undef = .pointer (some ⟨b,0,none⟩)) (c0:W.cell? ⟨b,0,none⟩=some v0) (c1:W.cell? ⟨b,1,none⟩=some v1) (c2:W.cell? ⟨b,2,none⟩=some v2) (c3:W.cell? ⟨b,3,none⟩=some v3) :
  (results f105 tmps).run prog W = .ok (.tuple #[.agg #[v0,v1,v2,v3],tmps[3]?.getD undef]) W:=by
 simp [results,Tryz.results105,go_sem,h2,c0,c1,c2,c3]
theorem Z2c (x:Int) (h0:0<=x) (h1:x<18446744073709551616) (hx:x % 4=3) (hy:x / 32768 % 2=0) (hz:x / 65536<=4096) (w:World) :
  Calls prog 105 #[.int .u64 x] w fun ev w'=>ev = .returned (.tuple #[.agg #[.int .i64 (x / 4 % 256),.int .i64 (x / 1024 % 16),.int .i64 (x / 16384 % 2),.int .i64 (x / 65536)],.nilIface])/\Below w.heap.size w w':=by
 have e1:=Zql (x / 4) (by omega) (by omega)
 have e2:=Zrp (x / 1024) (by omega) (by omega)
 have e3:=and1 (x / 16384) (by omega) (by omega)
 have h:=fun w=>Zdo (x / 4 % 256) (x / 1024 % 16) (x / 16384 % 2) (x / 65536) x (by omega) (by omega) (by omega) (by omega) (by omega) (by omega) (by omega) (by omega) w
 have hm:(x / 65536*65536+x / 16384 % 2*16384+x / 1024 % 16*1024+x / 4 % 256*4+3 == x)=true:=by
  rw [U3d]
  omega
 rw [hm] at h
 clear hm
 have hsz:w.heap.size≠w.heap.size+1:=by omega
 go_enter func105,ntmps105
 go_wp2_with fail
 refine (h _).mono ?_
 rintro ev w1 ⟨rfl,hb⟩
 have hbw:Below w.heap.size w w1:=(((U01 _ _).alloc (U02 _) _).alloc (by simp) _).trans (hb.mono (by simp;omega))
 have hB0:=(hb.block w.heap.size (by simp;omega)).trans (Z3i w _ _).1
 have hB1:=(hb.block (w.heap.size+1) (by simp)).trans (Z3i w _ _).2
 obtain ⟨r0,r1,r2,r3,rf⟩:=Z0e hB0
 obtain ⟨s0,s1,s2,s3,_⟩:=Z0e hB1
 have rf0:=rf 0
 have rf1:=rf 1
 have rf2:=rf 2
 have rf3:=rf 3
 clear rf hB0 hB1 hb h e1 e2 e3
 go_wp2
 obtain ⟨t0,t1,t2,t3⟩:=Z26 r0 r1 r2 r3 (.int .i64 (x / 4 % 256)) (.int .i64 (x / 1024 % 16)) (.int .i64 (x / 16384 % 2)) (.int .i64 (x / 65536))
 refine U2n (Z7i _ _ w.heap.size _ _ _ _ rfl t0 t1 t2 t3) rfl ?_
 exact ⟨rfl,(((hbw.setCell (U02 _) _).setCell (U02 _) _).setCell (U02 _) _).setCell (U02 _) _⟩
theorem Zdm (a:Nat->Addr) (x:Int) (h0:0<=x) (h1:x<18446744073709551616) (hx:¬ (x % 4=3/\x / 32768 % 2=0/\x / 65536<=4096)) (w:World) (E:WErr a w) :
  Calls prog 105 #[.int .u64 x] w fun ev w'=>ev = .returned (.tuple #[.agg #[.int .i64 0,.int .i64 0,.int .i64 0,.int .i64 0],Z0p a 2])/\Below w.heap.size w w':=by
 have e1:=Zql (x / 4) (by omega) (by omega)
 have e2:=Zrp (x / 1024) (by omega) (by omega)
 have e3:=and1 (x / 16384) (by omega) (by omega)
 have h:∀ w,WErr a w->Calls prog 157 #[.agg #[.int .i64 (x / 4 % 256),.int .i64 (x / 1024 % 16),.int .i64 (x / 16384 % 2),.int .i64 (x / 65536)],.int .u64 x,.func (.func 118) #[] #[]] w fun ev w'=>ev = .returned (.bool false)/\Below w.heap.size w w':=fun w E=>by
  by_cases c:x / 65536<=4096
  ·have h:=Zdo (x / 4 % 256) (x / 1024 % 16) (x / 16384 % 2) (x / 65536) x (by omega) (by omega) (by omega) (by omega) (by omega) (by omega) (by omega) c w
   have hm:(x / 65536*65536+x / 16384 % 2*16384+x / 1024 % 16*1024+x / 4 % 256*4+3 == x)=false:=by
    rw [U0w]
    omega
   rw [hm] at h
   exact h
  ·exact Zl6 a (x / 4 % 256) (x / 1024 % 16) (x / 16384 % 2) (x / 65536) x (by omega) w E
 clear hx
 have hsz:w.heap.size≠w.heap.size+1:=by omega
 have hlt:3<w.heap.size:=Z02 E.c2
 have hne:w.heap.size≠3:=by omega
 have hne2:3≠w.heap.size:=by omega
 go_enter func105,ntmps105
 go_wp2_with fail
 refine (h _ (E.below (((U01 _ _).alloc (U02 _) _).alloc (by simp) _))).mono ?_
 rintro ev w1 ⟨rfl,hb⟩
 have hbw:Below w.heap.size w w1:=(((U01 _ _).alloc (U02 _) _).alloc (by simp) _).trans (hb.mono (by simp;omega))
 have hB0:=(hb.block w.heap.size (by simp;omega)).trans (Z3i w _ _).1
 obtain ⟨r0,r1,r2,r3,rf⟩:=Z0e hB0
 have rf0:=rf 0
 have rf1:=rf 1
 have rf2:=rf 2
 have rf3:=rf 3
 have k2:=(E.below hbw).c2
 clear rf hB0 hb h e1 e2 e3
 go_wp2
 go_region
 go_wp2
 obtain ⟨t0,t1,t2,t3⟩:=Z26 r0 r1 r2 r3 (.int .i64 0) (.int .i64 0) (.int .i64 0) (.int .i64 0)
 have hbz:=(Z1w hbw (U02 _) (.int .i64 0) (.int .i64 0) (.int .i64 0) (.int .i64 0)).drew
 change bodyPost _ _ _ _ _ (Zjq w1 w.heap.size (.int .i64 0) (.int .i64 0) (.int .i64 0) (.int .i64 0)).drew
 generalize Zjq w1 w.heap.size (.int .i64 0) (.int .i64 0) (.int .i64 0) (.int .i64 0)=W at t0 t1 t2 t3 hbz ⊢
 refine U2n (Z7i _ _ w.heap.size (.int .i64 0) (.int .i64 0) (.int .i64 0) (.int .i64 0) rfl t0 t1 t2 t3) rfl ?_
 exact ⟨rfl,hbz⟩
theorem Z3j (n l t:Int) (w:World) :
  Calls prog 124 #[.int .i64 n,.int .i64 l,.int .i64 t] w fun ev w'=>ev = .returned (.bool (decide (l<=n) && decide (n<=t)))/\w'=w:=by
 by_cases c:l<=n
 ·rw [U0d c,U1v]
  go_enter func124,ntmps124
  go_wp2
  go_ret
  exact ⟨rfl,rfl⟩
 ·rw [U0k c,U1s]
  go_enter func124,ntmps124
  go_wp2
  go_ret
  exact ⟨rfl,rfl⟩
theorem Z1c (n l t:Int) (h0:l<=n) (h1:n<=t) (w:World) :
  Calls prog 124 #[.int .i64 n,.int .i64 l,.int .i64 t] w fun ev w'=>ev = .returned (.bool true)/\w'=w:=by
 have h:=Z3j n l t w
 rw [U0d h0,U0d h1] at h
 exact h
theorem Z38 (n l t:Int) (h0:¬ (l<=n/\n<=t)) (w:World) :
  Calls prog 124 #[.int .i64 n,.int .i64 l,.int .i64 t] w fun ev w'=>ev = .returned (.bool false)/\w'=w:=by
 have h:=Z3j n l t w
 have e:(decide (l<=n) && decide (n<=t))=false:=by
  rw [U1m,U0p,U0p]
  omega
 rw [e] at h
 exact h
structure MemAt (p:Nat) (half old card:Int) (W:Value) (used top oldTop:Int) (roots weak ids cards:Value) (w:World):Prop where
 c0:w.cell? ⟨p,0,none⟩=some (.int .i64 half)
 c1:w.cell? ⟨p,1,none⟩=some (.int .i64 old)
 c2:w.cell? ⟨p,2,none⟩=some (.int .i64 card)
 c3:w.cell? ⟨p,3,none⟩=some W
 c4:w.cell? ⟨p,4,none⟩=some (.int .i64 used)
 c5:w.cell? ⟨p,5,none⟩=some (.int .i64 top)
 c6:w.cell? ⟨p,6,none⟩=some (.int .i64 oldTop)
 c7:w.cell? ⟨p,7,none⟩=some roots
 c8:w.cell? ⟨p,8,none⟩=some weak
 c9:w.cell? ⟨p,9,none⟩=some ids
 c10:w.cell? ⟨p,10,none⟩=some cards
theorem MemAt.below {p B:Nat}{half old card:Int}{W:Value}{used top oldTop:Int}{roots weak ids cards:Value}{w w':World} (M:MemAt p half old card W used top oldTop roots weak ids cards w) (hb:Below B w w') (hp:p<B):MemAt p half old card W used top oldTop roots weak ids cards w' where
 c0:=(hb.cell (p:=⟨p,0,none⟩) hp).trans M.c0
 c1:=(hb.cell (p:=⟨p,1,none⟩) hp).trans M.c1
 c2:=(hb.cell (p:=⟨p,2,none⟩) hp).trans M.c2
 c3:=(hb.cell (p:=⟨p,3,none⟩) hp).trans M.c3
 c4:=(hb.cell (p:=⟨p,4,none⟩) hp).trans M.c4
 c5:=(hb.cell (p:=⟨p,5,none⟩) hp).trans M.c5
 c6:=(hb.cell (p:=⟨p,6,none⟩) hp).trans M.c6
 c7:=(hb.cell (p:=⟨p,7,none⟩) hp).trans M.c7
 c8:=(hb.cell (p:=⟨p,8,none⟩) hp).trans M.c8
 c9:=(hb.cell (p:=⟨p,9,none⟩) hp).trans M.c9
 c10:=(hb.cell (p:=⟨p,10,none⟩) hp).trans M.c10
def Z0c (half old card:Int):Prop:=1<=half/\half<=65536/\1<=old/\old<=65536/\1<=card/\card<=1024
theorem Z2k (p:Nat) (half old card:Int) (H:Z0c half old card) (w:World) (c0:w.cell? ⟨p,0,none⟩=some (.int .i64 half)) (c1:w.cell? ⟨p,1,none⟩=some (.int .i64 old)) (c2:w.cell? ⟨p,2,none⟩=some (.int .i64 card)) :
  Calls prog 84 #[.pointer (some ⟨p,0,none⟩)] w fun ev w'=>ev = .returned (.bool true)/\w'=w:=by
 obtain ⟨h0,h1,h2,h3,h4,h5⟩:=H
 go_enter func84,ntmps84
 go_wp2_with fail
 refine (Z1c half 1 65536 h0 h1 w).mono ?_
 rintro ev w' ⟨rfl,h⟩
 rw [h]
 clear h w'
 go_wp2_with fail
 refine (Z1c old 1 65536 h2 h3 w).mono ?_
 rintro ev w' ⟨rfl,h⟩
 rw [h]
 clear h w'
 go_wp2_with fail
 refine (Z1c card 1 1024 h4 h5 w).mono ?_
 rintro ev w' ⟨rfl,h⟩
 rw [h]
 clear h w'
 go_wp2_with fail
 go_ret
 exact ⟨rfl,rfl⟩
theorem Zak (p:Nat) (half old card:Int) (H:¬ Z0c half old card) (w:World) (c0:w.cell? ⟨p,0,none⟩=some (.int .i64 half)) (c1:w.cell? ⟨p,1,none⟩=some (.int .i64 old)) (c2:w.cell? ⟨p,2,none⟩=some (.int .i64 card)) :
  Calls prog 84 #[.pointer (some ⟨p,0,none⟩)] w fun ev w'=>ev = .returned (.bool false)/\w'=w:=by
 unfold Z0c at H
 by_cases h0:1<=half/\half<=65536
 ·by_cases h1:1<=old/\old<=65536
  ·have h2:¬ (1<=card/\card<=1024):=by omega
   have k0:=Z1c half 1 65536 h0.1 h0.2 w
   have k1:=Z1c old 1 65536 h1.1 h1.2 w
   have k2:=Z38 card 1 1024 h2 w
   clear H h0 h1 h2
   go_enter func84,ntmps84
   go_wp2_with fail
   refine k0.mono ?_
   rintro ev w' ⟨rfl,h⟩
   rw [h]
   clear h w'
   go_wp2_with fail
   refine k1.mono ?_
   rintro ev w' ⟨rfl,h⟩
   rw [h]
   clear h w'
   go_wp2_with fail
   refine k2.mono ?_
   rintro ev w' ⟨rfl,h⟩
   rw [h]
   clear h w'
   go_wp2_with fail
   go_ret
   exact ⟨rfl,rfl⟩
  ·have k0:=Z1c half 1 65536 h0.1 h0.2 w
   have k1:=Z38 old 1 65536 h1 w
   clear H h0 h1
   go_enter func84,ntmps84
   go_wp2_with fail
   refine k0.mono ?_
   rintro ev w' ⟨rfl,h⟩
   rw [h]
   clear h w'
   go_wp2_with fail
   refine k1.mono ?_
   rintro ev w' ⟨rfl,h⟩
   rw [h]
   clear h w'
   go_wp2_with fail
   go_ret
   exact ⟨rfl,rfl⟩
 ·have k0:=Z38 half 1 65536 h0 w
  clear H h0
  go_enter func84,ntmps84
  go_wp2_with fail
  refine k0.mono ?_
  rintro ev w' ⟨rfl,h⟩
  rw [h]
  clear h w'
  go_wp2_with fail
  go_ret
  exact ⟨rfl,rfl⟩
theorem Z0v (p:Nat) (half:Int) (h0:0<=half) (h1:half<=65536) (w:World) (c0:w.cell? ⟨p,0,none⟩=some (.int .i64 half)) :
  Calls prog 85 #[.pointer (some ⟨p,0,none⟩)] w fun ev w'=>ev = .returned (.int .i64 (2*half))/\w'=w:=by
 go_enter func85,ntmps85
 go_wp2
 go_ret
 exact ⟨rfl,rfl⟩
theorem Z4b (p:Nat) (half old card:Int) (H:Z0c half old card) (w:World) (c1:w.cell? ⟨p,1,none⟩=some (.int .i64 old)) (c2:w.cell? ⟨p,2,none⟩=some (.int .i64 card)) :
  Calls prog 86 #[.pointer (some ⟨p,0,none⟩)] w fun ev w'=>ev = .returned (.int .i64 ((old+card - 1) / card)) /\ ∃ q,w'=w.drewN q:=by
 obtain ⟨h0,h1,h2,h3,h4,h5⟩:=H
 have q0:(0:Int)<=(old+card - 1) / card:=U45 (by omega) (by omega)
 have q1:(old+card - 1) / card<=old+card - 1:=U4n _ (by omega)
 go_enter func86,ntmps86
 go_wp2
 go_quiet (fail)
 go_wp2
 go_ret
 exact ⟨rfl,_,rfl⟩
theorem Zlx:∃ i,prog.info? 81=some i/\i.zero=some (.int .u64 0)/\i.size=1/\i.bytes=8:=by
 refine ⟨(prog.info? 81).get (by kernel_rfl),?_,?_,?_,?_⟩
 ·exact (U4s _).symm
 ·kernel_rfl
 ·kernel_rfl
 ·kernel_rfl
theorem Zgx:∃ i,prog.info? 4=some i/\i.zero=some (.bool false)/\i.size=1/\i.bytes=1:=by
 refine ⟨(prog.info? 4).get (by kernel_rfl),?_,?_,?_,?_⟩
 ·exact (U4s _).symm
 ·kernel_rfl
 ·kernel_rfl
 ·kernel_rfl
theorem Z72 (n:Nat) (hn:n<=300000) (L:Int) (hL:L=(n:Int)) (w:World) :
  (Instr.makeSlice 79 (.int .i64 L) (.int .i64 L)).run prog w = .ok (.slice (some ⟨w.heap.size,0,none⟩) n n) (w.alloc (.cells (Array.replicate n (.int .u64 0)) 81)):=by
 subst hL
 obtain ⟨i,hi,hz,h1,h8⟩:=Zlx
 have h:=run_make (P:=prog) w 79 81 i (.int .u64 0) underlying79 hi hz .i64 .i64 (n:Int) (n:Int) (by omega) (by omega) (by rw [h8];omega) (by omega)
 rw [h,h1]
 have e:madeCells (Value.int .u64 0).cells ((n:Int).toNat*1)=Array.replicate n (.int .u64 0):=by
  apply Array.ext
  ·simp [madeCells]
  ·intro i h1 h2
   have e0:i % 1=0:=U55 i
   simp [madeCells,Value.cells,e0]
 rw [e]
 simp
theorem Zj6 (n:Nat) (hn:n<=300000) (L:Int) (hL:L=(n:Int)) (w:World) :
  (Instr.makeSlice 34 (.int .i64 L) (.int .i64 L)).run prog w = .ok (.slice (some ⟨w.heap.size,0,none⟩) n n) (w.alloc (.cells (Array.replicate n (.bool false)) 4)):=by
 subst hL
 obtain ⟨i,hi,hz,h1,h8⟩:=Zgx
 have h:=run_make (P:=prog) w 34 4 i (.bool false) underlying34 hi hz .i64 .i64 (n:Int) (n:Int) (by omega) (by omega) (by rw [h8];omega) (by omega)
 rw [h,h1]
 have e:madeCells (Value.bool false).cells ((n:Int).toNat*1)=Array.replicate n (.bool false):=by
  apply Array.ext
  ·simp [madeCells]
  ·intro i h1 h2
   have e0:i % 1=0:=U55 i
   simp [madeCells,Value.cells,e0]
 rw [e]
 simp
theorem Z3l (w:World) (half old card:Int) (v3:Value) (used top oldTop:Int) (v7 v8 v9 v10:Value) (T:TypeId):MemAt w.heap.size half old card v3 used top oldTop v7 v8 v9 v10 (w.alloc (.cells #[.int .i64 half,.int .i64 old,.int .i64 card,v3,.int .i64 used,.int .i64 top,.int .i64 oldTop,v7,v8,v9,v10] T)):=
 have h:∀ (_:Nat) (_:Value),_->_:=fun o x (hx:#[Value.int .i64 half,.int .i64 old,.int .i64 card,v3,.int .i64 used,.int .i64 top,.int .i64 oldTop,v7,v8,v9,v10][o]?=some x)=>(U06 _ _ o _ _ _ (U0b w _)).trans hx
 ⟨h 0 _ rfl,h 1 _ rfl,h 2 _ rfl,h 3 _ rfl,h 4 _ rfl,h 5 _ rfl,h 6 _ rfl,h 7 _ rfl,h 8 _ rfl,h 9 _ rfl,h 10 _ rfl⟩
theorem Zt9 (a:Nat->Addr) (half old card:Int) (H:¬ Z0c half old card) (w:World) (E:WErr a w) :
  Calls prog 39 #[.int .i64 half,.int .i64 old,.int .i64 card] w fun ev w'=>ev = .returned (.tuple #[.pointer none,Z0p a 1])/\Below w.heap.size w w':=by
 go_enter func39,ntmps39
 go_wp2_with fail
 have M:=Z3l w half old card (.slice none 0 0) 0 0 0 (.slice none 0 0) (.slice none 0 0) (.slice none 0 0) (.slice none 0 0) 84
 refine (Zak _ half old card H _ M.c0 M.c1 M.c2).mono ?_
 rintro ev w1 ⟨rfl,h⟩
 have hb:Below w.heap.size w w1:=by rw [h];exact (U01 _ _).alloc (U02 _) _
 have k1:=(E.below hb).c1
 clear h M
 go_wp2_with fail
 go_quiet (fail)
 go_wp2
 go_ret2
 exact ⟨rfl,Z03 hb⟩
def Zin (half old card:Int) (nW nC:Nat) (w:World):World:=((w.alloc (.cells #[.int .i64 half,.int .i64 old,.int .i64 card,.slice (some ⟨w.heap.size+1,0,none⟩) nW nW,.int .i64 0,.int .i64 0,.int .i64 0,.slice none 0 0,.slice none 0 0,.slice none 0 0,.slice (some ⟨w.heap.size+2,0,none⟩) nC nC] 84)).alloc (.cells (Array.replicate nW (.int .u64 0)) 81)).alloc (.cells (Array.replicate nC (.bool false)) 4)
theorem Zqf (half old card:Int) (H:Z0c half old card) (nW nC:Nat) (hW:(nW:Int)=2*half+old) (hC:(nC:Int)=(old+card - 1) / card) (w:World) :
  Calls prog 39 #[.int .i64 half,.int .i64 old,.int .i64 card] w fun ev w'=>ev = .returned (.tuple #[.pointer (some ⟨w.heap.size,0,none⟩),.nilIface]) /\ ∃ q,w'=(Zin half old card nW nC w).drewN q:=by
 have hm1:=Z72 nW (by unfold Z0c at H;omega) (2*half+old) hW.symm
 have q1:(old+card - 1) / card<=old+card - 1:=U4n _ (by unfold Z0c at H;omega)
 have hm2:=Zj6 nC (by unfold Z0c at H;omega) ((old+card - 1) / card) hC.symm
 have HN:Hid (Z0c half old card):=H
 obtain ⟨h0,h1,h2,h3,h4,h5⟩:=H
 go_enter func39,ntmps39
 go_wp2_with fail
 have M:=Z3l w half old card (.slice none 0 0) 0 0 0 (.slice none 0 0) (.slice none 0 0) (.slice none 0 0) (.slice none 0 0) 84
 refine (Z2k _ half old card HN.out _ M.c0 M.c1 M.c2).mono ?_
 rintro ev w1 ⟨rfl,h⟩
 rw [h]
 clear h w1
 go_wp2_with fail
 refine (Z0v _ half (by omega) h1 _ M.c0).mono ?_
 rintro ev w1 ⟨rfl,h⟩
 rw [h]
 clear h w1
 go_wp2_with fail
 have M1:=(Z3l w half old card (.slice (some ⟨w.heap.size+1,0,none⟩) nW nW) 0 0 0 (.slice none 0 0) (.slice none 0 0) (.slice none 0 0) (.slice none 0 0) 84).below ((U01 _ _).alloc (U02 _) (.cells (Array.replicate nW (.int .u64 0)) 81)) (by simp)
 refine (Z4b _ half old card HN.out _ M1.c1 M1.c2).mono ?_
 rintro ev w1 ⟨rfl,q,h⟩
 rw [h]
 clear h w1
 go_wp2_with fail
 go_ret2
 refine ⟨rfl,q,?_⟩
 unfold Zin
 rw [show ∀ (x:World) (a:Addr) (v:Value),(x.drewN q).setCell a v=(x.setCell a v).drewN q from fun _ _ _=>rfl,World.setCell_alloc_past _ _ _ _ (by simp),World.setCell_alloc_at _ _ _ _ _ rfl]
 rfl
theorem Z18 (x:Int) (h0 : -9223372036854775808<=x) (h1:x<9223372036854775808):IntKind.i64.wrap x=x:=by
 rw [U1d]
 omega
structure Fits (half old card:Int) (nW nC:Nat) (used top oldTop:Int):Prop where
 nums:Z0c half old card
 w:(nW:Int)=2*half+old
 c:(nC:Int)=(old+card - 1) / card
 u0:0<=used
 u1:used<=1
 t0:0<=top
 t1:top<=half
 o0:0<=oldTop
 o1:oldTop<=old
theorem Z3d (p:Nat) (half old card:Int) (nW nC cW cC:Nat) (aW aC:Option Addr) (used top oldTop:Int) (r k i:Value) (F:Fits half old card nW nC used top oldTop) (w:World)
  (M:MemAt p half old card (.slice aW nW cW) used top oldTop r k i (.slice aC nC cC) w) :
  Calls prog 123 #[.pointer (some ⟨p,0,none⟩)] w fun ev w'=>ev = .returned (.bool true) /\ ∃ q,w'=w.drewN q:=by
 have kb:Hid (∀ q,Calls prog 84 #[.pointer (some ⟨p,0,none⟩)] (w.drewN q) fun ev w'=>ev = .returned (.bool true)/\w'=w.drewN q):=fun q=>Z2k p half old card F.nums (w.drewN q) M.c0 M.c1 M.c2
 have ko:Hid (∀ q,Calls prog 85 #[.pointer (some ⟨p,0,none⟩)] (w.drewN q) fun ev w'=>ev = .returned (.int .i64 (2*half))/\w'=w.drewN q):=fun q=>Z0v p half (by have:=F.nums;unfold Z0c at this;omega) (by have:=F.nums;unfold Z0c at this;omega) (w.drewN q) M.c0
 have kc:Hid (∀ q,Calls prog 86 #[.pointer (some ⟨p,0,none⟩)] (w.drewN q) fun ev w'=>ev = .returned (.int .i64 ((old+card - 1) / card)) /\ ∃ m,w'=(w.drewN q).drewN m):=fun q=>Z4b p half old card F.nums (w.drewN q) M.c1 M.c2
 have k1:Hid (∀ w,Calls prog 124 #[.int .i64 used,.int .i64 0,.int .i64 1] w fun ev w'=>ev = .returned (.bool true)/\w'=w):=fun w=>Z1c used 0 1 F.u0 F.u1 w
 have k2:Hid (∀ w,Calls prog 124 #[.int .i64 top,.int .i64 0,.int .i64 half] w fun ev w'=>ev = .returned (.bool true)/\w'=w):=fun w=>Z1c top 0 half F.t0 F.t1 w
 have k3:Hid (∀ w,Calls prog 124 #[.int .i64 oldTop,.int .i64 0,.int .i64 old] w fun ev w'=>ev = .returned (.bool true)/\w'=w):=fun w=>Z1c oldTop 0 old F.o0 F.o1 w
 obtain ⟨c0,c1,c2,c3,c4,c5,c6,c7,c8,c9,c10⟩:=M
 have e1:IntKind.i64.wrap (2*half+old)=(nW:Int):=by have:=F.nums;unfold Z0c at this;rw [Z18 _ (by omega) (by omega)];exact F.w.symm
 have e2:((nC:Int) == (old+card - 1) / card)=true:=by rw [F.c];simp
 clear F c7 c8 c9
 go_enter func123,ntmps123
 go_wp2_with fail
 go_quiet (first | (go_at_call 84;exact U0q (kb.out _)) | (go_at_call 85;exact U0q (ko.out _)) | (go_at_call 86;exact U1a (kc.out _)) | (go_at_call_of 124 used;exact U0q (k1.out _)) | (go_at_call_of 124 top;exact U0q (k2.out _)) | (go_at_call_of 124 oldTop;exact U0q (k3.out _)))
 go_wp2
 go_ret
 exact ⟨rfl,_,rfl⟩
theorem Zfz (p:Nat) (half used:Int) (h0:0<=half) (h1:half<=65536) (u0:0<=used) (u1:used<=1) (w:World) (c0:w.cell? ⟨p,0,none⟩=some (.int .i64 half)) (c4:w.cell? ⟨p,4,none⟩=some (.int .i64 used)) :
  Calls prog 244 #[.pointer (some ⟨p,0,none⟩)] w fun ev w'=>ev = .returned (.int .i64 (used*half)) /\ ∃ q,w'=w.drewN q:=by
 obtain rfl | rfl:used=0\/used=1:=by omega
 ·go_enter func244,ntmps244
  go_wp2
  go_quiet (fail)
  go_wp2
  go_ret
  exact ⟨by rw [U2x];rfl,_,rfl⟩
 ·go_enter func244,ntmps244
  go_wp2
  go_quiet (fail)
  go_wp2
  go_ret
  exact ⟨by rw [U2z];rfl,_,rfl⟩
section
open Go.Maps
structure Bare (p b h nW nC:Nat) (old card:Int) (aC:Option Addr) (w:World):Prop where
 mem:MemAt p (h:Int) old card (.slice (some ⟨b,0,none⟩) nW nW) 0 0 0 (.slice none 0 0) (.slice none 0 0) (.slice none 0 0) (.slice aC nC nC) w
 fits:Fits (h:Int) old card nW nC 0 0 0
theorem Bare.below {p b h nW nC B:Nat}{old card:Int}{aC:Option Addr}{w w':World} (K:Bare p b h nW nC old card aC w) (hb:Below B w w') (hp:p<B):Bare p b h nW nC old card aC w':=⟨K.mem.below hb hp,K.fits⟩
theorem Bare.at {p b h nW nC:Nat}{old card:Int}{aC:Option Addr}{w:World} (K:Bare p b h nW nC old card aC w):p<w.heap.size:=Z02 K.mem.c0
theorem Z6q (w:World) (o o':Obj):Below w.heap.size w ((w.alloc o).alloc o'):=((U01 _ _).alloc (U02 _) _).alloc (by simp) _
theorem Zhu (n:Nat) (hn:n<=300000) (L:Int) (hL:L=(n:Int)) (w:World) :
  (Instr.makeSlice 132 (.int .i64 L) (.int .i64 L)).run prog w = .ok (.slice (some ⟨w.heap.size,0,none⟩) n n) (w.alloc (.cells (Array.replicate n (.bool false)) 4)):=by
 subst hL
 obtain ⟨i,hi,hz,h1,h8⟩:=Zgx
 have h:=run_make (P:=prog) w 132 4 i (.bool false) underlying132 hi hz .i64 .i64 (n:Int) (n:Int) (by omega) (by omega) (by rw [h8];omega) (by omega)
 rw [h,h1]
 have e:madeCells (Value.bool false).cells ((n:Int).toNat*1)=Array.replicate n (.bool false):=by
  apply Array.ext
  ·simp [madeCells]
  ·intro i h1 h2
   have e0:i % 1=0:=U55 i
   simp [madeCells,Value.cells,e0]
 rw [e]
 simp
theorem Zbb (half old card:Int) (nW nC:Nat) (w:World) (q:Nat):Below w.heap.size w ((Zin half old card nW nC w).drewN q) /\
  MemAt w.heap.size half old card (.slice (some ⟨w.heap.size+1,0,none⟩) nW nW) 0 0 0 (.slice none 0 0) (.slice none 0 0) (.slice none 0 0) (.slice (some ⟨w.heap.size+2,0,none⟩) nC nC) ((Zin half old card nW nC w).drewN q) /\
  ((Zin half old card nW nC w).drewN q).heap[w.heap.size+1]?=some (.cells (Array.replicate nW (.int .u64 0)) 81) /\
  ((Zin half old card nW nC w).drewN q).heap[w.heap.size+2]?=some (.cells (Array.replicate nC (.bool false)) 4):=by
 refine ⟨Z03 ((Z6q w _ _).alloc (by simp;omega) _),?_,?_,?_⟩
 ·exact (Z3l w half old card (.slice (some ⟨w.heap.size+1,0,none⟩) nW nW) 0 0 0 (.slice none 0 0) (.slice none 0 0) (.slice none 0 0) (.slice (some ⟨w.heap.size+2,0,none⟩) nC nC) 84).below (B:=w.heap.size+1) (Z03 (((U01 _ _).alloc (by simp) _).alloc (by simp) _)) (by simp)
 ·show (Zin half old card nW nC w).heap[w.heap.size+1]?=_
  unfold Zin World.alloc
  simp [Array.getElem_push]
 ·show (Zin half old card nW nC w).heap[w.heap.size+2]?=_
  unfold Zin World.alloc
  simp [Array.getElem_push]
end
end Go.Proofs.YtlkcbdinlfeoiaaGreatDoor
