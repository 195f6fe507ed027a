/- Package tree's writer, whatever it is handed: terms in memory ahead of the writer; term, listed. -/
import Derived.Test.YtflcohidmemfpaaGreatDoorSsU
set_option linter.all false
namespace Go.Proofs.YtflcohidmemfpaaGreatDoor
open Go.Proofs.Tryz
open Go.RowKit Go.Lib
variable {P:Prop}

def Z5f (w1:World) (p:Nat) (q:ByteArray→Int→ByteArray→Option Addr→Nat→Nat→Option Addr→Nat→Nat→Prop) (a:Option Addr) (m:Nat):Prop:=
 ∀ i,i<m → ∃ b o,a=some ⟨b,o,none⟩∧b<p ∧ ∃ op z s pa pn pc la ln lc,w1.cell? ⟨b,o+i*5,none⟩=some (.string op)∧w1.cell? ⟨b,o+i*5+1,none⟩=some (.int .i64 z)∧w1.cell? ⟨b,o+i*5+2,none⟩=some (.string s)∧w1.cell? ⟨b,o+i*5+3,none⟩=some (.slice pa pn pc)∧w1.cell? ⟨b,o+i*5+4,none⟩=some (.slice la ln lc)∧q op z s pa pn pc la ln lc
def tv (P:Prop) (w1:World) (p:Nat):Nat→ByteArray→Int→ByteArray→Option Addr→Nat→Nat→Option Addr→Nat→Nat→Prop
 | 0,_,_,_,_,_,_,_,_,_=>False
 | n+1,op,z,s,pa,pn,_,la,ln,lc=>(op.size≤4611686018427387904∧GN P op)∧(s.size≤4611686018427387904∧(op=⟨#[110,97,109,101]⟩→GN P s)) ∧ -9223372036854775808≤z∧z≤9223372036854775807∧pn≤4611686018427387904∧(∃ f,Zcn P w1 p pa pn f)∧ln≤lc∧ln≤1152921504606846976∧Z5f w1 p (tv P w1 p n) la ln
def RW (P:Prop) (p:Nat) (rk:Value) (w1:World) (n:Nat):Prop:=∀ (op:ByteArray) (z:Int) (s:ByteArray) (pa:Option Addr) (pn pc:Nat) (la:Option Addr) (ln lc:Nat),tv P w1 p n op z s pa pn pc la ln lc → ∀ least:Nat,least≤20 → ∀ w,WT p rk w1 w →
 Calls prog 67 #[.pointer (some ⟨p,0,none⟩),.agg #[.string op,.int .i64 z,.string s,.slice pa pn pc,.slice la ln lc],.int .i64 (least:Int)] w fun ev w'=>ev = .returned (.tuple #[])∧WX P p rk w1 w w'
set_option maxHeartbeats 4000000 in
set_option maxRecDepth 100000 in
theorem Z43 {p:Nat}{rk:Value}{w1:World}{n:Nat} (H:RW P p rk w1 n) {op:ByteArray}{z:Int}{s:ByteArray}{pa:Option Addr}{pn pc:Nat}{la:Option Addr}{ln lc:Nat} (ht:tv P w1 p n op z s pa pn pc la ln lc) (w:World) (C:WT p rk w1 w) :
  Calls prog 52 #[.pointer (some ⟨p,0,none⟩),.agg #[.string op,.int .i64 z,.string s,.slice pa pn pc,.slice la ln lc]] w fun ev w'=>ev = .returned (.tuple #[])∧WX P p rk w1 w w':=by
 have hC:=WX.start (P:=P) C
 have HC:=Z03 hC
 have HH:=Z03 H
 have HT:=Z03 ht
 clear C hC H ht
 go_enter func52,ntmps52
 go_wp2_with fail
 refine (HH.out _ _ _ _ _ _ _ _ _ HT.out 0 (by omega) _ (HC.out.alloc _).wt).mono ?_
 rintro ev w2 ⟨rfl,h2⟩
 have H2:=Z03 ((HC.out.alloc _).trans h2)
 clear h2
 go_wp2_with fail
 go_end0
 exact ⟨rfl,H2.out⟩
theorem Zh9 (args:Array Value) (w:World):(callFunc 134 args).run prog w = .ok (.enter 134 args) w:=by kernel_rfl
set_option maxHeartbeats 4000000 in
set_option maxRecDepth 100000 in
theorem Zn1 {p:Nat}{rk:Value}{w1:World}{n:Nat} (H:RW P p rk w1 n) (a:Option Addr) (m c:Nat) (h:Z5f w1 p (tv P w1 p n) a m) (b1 b2:Nat) (n1:b1≠p) (n2:b2≠p) (i:Nat) (hi:i<m) (w:World) (C:WT p rk w1 w) (x1:w.heap[b1]?=some (.cells #[.pointer (some ⟨p,0,none⟩)] 95)) (x2:w.heap[b2]?=some (.cells #[.slice a m c] 49)) :
  Calls prog 134 #[.int .i64 (i:Int),.pointer (some ⟨b1,0,none⟩),.pointer (some ⟨b2,0,none⟩)] w fun ev w'=>ev = .returned (.tuple #[])∧WX P p rk w1 w w':=by
 obtain ⟨b,o,rfl,hb,op,z,s,pa,pn,pc,la,ln,lc,k0,k1,k2,k3,k4,ht⟩:=h i hi
 have c1:=Z0c x1 rfl
 have c2:=Z0c x2 rfl
 have d0:=C.old (a:=⟨b,o+i*5,none⟩) hb k0
 have d1:=C.old (a:=⟨b,o+i*5+1,none⟩) hb k1
 have d2:=C.old (a:=⟨b,o+i*5+2,none⟩) hb k2
 have d3:=C.old (a:=⟨b,o+i*5+3,none⟩) hb k3
 have d4:=C.old (a:=⟨b,o+i*5+4,none⟩) hb k4
 have hI:(i:Int)<(m:Int):=by omega
 have hI0:(0:Int)≤(i:Int):=by omega
 have hC:=WX.start (P:=P) C
 have HH:=Z03 H
 have HT:=Z03 ht
 have HK:Hid (∀ w',WX P p rk w1 w w'→w'.cell? ⟨b1,0,none⟩=some (.pointer (some ⟨p,0,none⟩))∧w'.cell? ⟨b2,0,none⟩=some (.slice (some ⟨b,o,none⟩) m c)∧w'.cell? ⟨b,o+i*5,none⟩=some (.string op)∧w'.cell? ⟨b,o+i*5+1,none⟩=some (.int .i64 z)∧w'.cell? ⟨b,o+i*5+2,none⟩=some (.string s)∧w'.cell? ⟨b,o+i*5+3,none⟩=some (.slice pa pn pc)∧w'.cell? ⟨b,o+i*5+4,none⟩=some (.slice la ln lc)):=fun w' h=>⟨Z0c (h.block x1 n1 (by decide)) rfl,Z0c (h.block x2 n2 (by decide)) rfl,h.wt.old (a:=⟨b,o+i*5,none⟩) hb k0,h.wt.old (a:=⟨b,o+i*5+1,none⟩) hb k1,h.wt.old (a:=⟨b,o+i*5+2,none⟩) hb k2,h.wt.old (a:=⟨b,o+i*5+3,none⟩) hb k3,h.wt.old (a:=⟨b,o+i*5+4,none⟩) hb k4⟩
 clear x1 x2 k0 k1 k2 k3 k4 h C H ht
 go_enter func134,ntmps134
 go_wp2_with fail
 go_region_held3 (fun w'=>w'.cell? ⟨b1,0,none⟩=some (.pointer (some ⟨p,0,none⟩))∧w'.cell? ⟨b2,0,none⟩=some (.slice (some ⟨b,o,none⟩) m c)∧w'.cell? ⟨b,o+i*5,none⟩=some (.string op)∧w'.cell? ⟨b,o+i*5+1,none⟩=some (.int .i64 z)∧w'.cell? ⟨b,o+i*5+2,none⟩=some (.string s)∧w'.cell? ⟨b,o+i*5+3,none⟩=some (.slice pa pn pc)∧w'.cell? ⟨b,o+i*5+4,none⟩=some (.slice la ln lc)) (first | with_reducible exact HK.out _ hC | with_reducible exact HK.out _ hC.drew | exact HK.out _ (hC.drew.alloc _)) ((go_at_call 52;refine (Z43 HH.out HT.out _ hC.drew.wt).mono ?_;rintro ev wx ⟨rfl,hx⟩;replace hC:=hC.drew.trans hx;clear hx))
 go_wp2_with fail
 go_end0
 exact ⟨rfl,hC⟩
end Go.Proofs.YtflcohidmemfpaaGreatDoor
namespace Go.Proofs.YtflcohidmemfpaaGreatDoor
open Go.Proofs.Tryz
open Go.RowKit Go.Lib
variable {P:Prop}

set_option maxHeartbeats 4000000 in
set_option maxRecDepth 100000 in
theorem Z8i {p:Nat}{rk:Value}{w1:World}{n:Nat} (H:RW P p rk w1 n) (so sc:ByteArray) (hso:so.size≤1000) (hsc:sc.size≤1000) (gso:GN P so) (gsc:GN P sc) (a:Option Addr) (m c:Nat) (h:Z5f w1 p (tv P w1 p n) a m) (hm:m≤1152921504606846976) (w:World) (C:WT p rk w1 w) :
  Calls prog 99 #[.pointer (some ⟨p,0,none⟩),.string so,.slice a m c,.string sc] w fun ev w'=>ev = .returned (.tuple #[])∧WX P p rk w1 w w':=by
 obtain ⟨w2,hw2⟩:∃ w2,w2=(w.alloc (.cells #[.pointer (some ⟨p,0,none⟩)] 95)).alloc (.cells #[.slice a m c] 49):=⟨_,rfl⟩
 have hC2:WX P p rk w1 w w2:=by rw [hw2];exact ((WX.start C).alloc _).alloc _
 have hs:(w.alloc (.cells #[.pointer (some ⟨p,0,none⟩)] 95)).heap.size=w.heap.size+1:=by simp
 have k1:w2.heap[w.heap.size]?=some (.cells #[.pointer (some ⟨p,0,none⟩)] 95):=by
  rw [hw2]
  exact (Below.heap_alloc _ _ _ (by omega)).trans (heap_alloc_new w _)
 have k2:w2.heap[w.heap.size+1]?=some (.cells #[.slice a m c] 49):=by
  have:=heap_alloc_new (w.alloc (.cells #[.pointer (some ⟨p,0,none⟩)] 95)) (.cells #[.slice a m c] 49)
  rw [hs] at this
  rw [hw2]
  exact this
 have hp:=C.lt
 have HV:Hid (∀ w3,WX P p rk w1 w2 w3→Calls prog 68 #[.pointer (some ⟨p,0,none⟩),.int .i64 (m:Int),.func (.func 134) #[] #[.pointer (some ⟨w.heap.size,0,none⟩),.pointer (some ⟨w.heap.size+1,0,none⟩)]] w3 fun ev w'=>ev = .returned (.tuple #[])∧WX P p rk w1 w3 w'):=fun w3 h3=>Za3 134 #[.pointer (some ⟨w.heap.size,0,none⟩),.pointer (some ⟨w.heap.size+1,0,none⟩)] m (by omega) Zh9 w3 h3.wt (fun i w' hi hx=>Zn1 H a m c h w.heap.size (w.heap.size+1) (by omega) (by omega) i hi w' hx.wt ((h3.trans hx).block k1 (by omega) (by decide)) ((h3.trans hx).block k2 (by omega) (by decide)))
 have HK:Hid (∀ w3,WX P p rk w1 w2 w3→w3.cell? ⟨w.heap.size,0,none⟩=some (.pointer (some ⟨p,0,none⟩))∧w3.cell? ⟨w.heap.size+1,0,none⟩=some (.slice a m c)):=fun w3 h3=>⟨Z0c (h3.block k1 (by omega) (by decide)) rfl,Z0c (h3.block k2 (by omega) (by decide)) rfl⟩
 have HS2:Hid (w.heap.size+1+1=w2.heap.size):=by show _=_;rw [hw2];simp
 have HC2:=Z03 hC2
 have HW2:=Z03 hw2
 have hmf:∀ (fn:Fn) (first cap:Array Value) (w:World),(Instr.makeFunc fn first cap).run prog w = .ok (.func fn first cap) w:=fun _ _ _ _=>rfl
 clear hC2 hw2 k1 k2 hs C h H
 go_enter func99,ntmps99
 go_wp2_with fail
 rw [←HW2.out,HS2.out]
 refine (Z58 (WX.start (P:=P) HC2.out.wt) so (by omega) gso).mono ?_
 rintro ev w3 ⟨rfl,h3⟩
 have H3:=Z03 h3
 obtain ⟨e1,e2⟩:=HK.out w3 h3
 clear h3
 go_wp2_with fail
 refine (HV.out w3 H3.out).mono ?_
 rintro ev w4 ⟨rfl,h4⟩
 have H4:=Z03 (H3.out.trans h4)
 obtain ⟨f1,f2⟩:=HK.out w4 H4.out
 clear h4 e1 e2
 go_wp2_with fail
 refine (Z58 (HC2.out.trans H4.out) sc (by omega) gsc).mono ?_
 rintro ev w5 ⟨rfl,h5⟩
 have H5:=Z03 h5
 clear h5 f1 f2
 go_wp2_with fail
 go_end0
 exact ⟨rfl,H5.out⟩
end Go.Proofs.YtflcohidmemfpaaGreatDoor
namespace Go.Proofs.YtflcohidmemfpaaGreatDoor
open Go.Proofs.Tryz
open Go.RowKit Go.Lib
variable {P:Prop}

theorem Z5f.first {w1:World}{p:Nat}{q:ByteArray→Int→ByteArray→Option Addr→Nat→Nat→Option Addr→Nat→Nat→Prop}{a:Option Addr}{m:Nat} (h:Z5f w1 p q a m) (h0:0<m):∃ b o,a=some ⟨b,o,none⟩∧b<p ∧ ∃ op z s pa pn pc la ln lc,w1.cell? ⟨b,o,none⟩=some (.string op)∧w1.cell? ⟨b,o+1,none⟩=some (.int .i64 z)∧w1.cell? ⟨b,o+2,none⟩=some (.string s)∧w1.cell? ⟨b,o+3,none⟩=some (.slice pa pn pc)∧w1.cell? ⟨b,o+4,none⟩=some (.slice la ln lc)∧q op z s pa pn pc la ln lc:=by
 obtain ⟨b,o,e,hb,op,z,s,pa,pn,pc,la,ln,lc,k0,k1,k2,k3,k4,ht⟩:=h 0 h0
 simp only [Nat.zero_mul,Nat.add_zero] at k0 k1 k2 k3 k4
 exact ⟨b,o,e,hb,op,z,s,pa,pn,pc,la,ln,lc,k0,k1,k2,k3,k4,ht⟩
theorem Z5f.rest {w1:World}{p:Nat}{q:ByteArray→Int→ByteArray→Option Addr→Nat→Nat→Option Addr→Nat→Nat→Prop}{b o m k:Nat} (h:Z5f w1 p q (some ⟨b,o,none⟩) m) (hk:k+1≤m):Z5f w1 p q (some ⟨b,o+5,none⟩) k:=fun i hi=>by
 obtain ⟨b',o',e,hb,op,z,s,pa,pn,pc,la,ln,lc,k0,k1,k2,k3,k4,ht⟩:=h (i+1) (by omega)
 cases e
 have e:o+(i+1)*5=o+5+i*5:=by omega
 rw [e] at k0 k1 k2 k3 k4
 exact ⟨b,o+5,rfl,hb,op,z,s,pa,pn,pc,la,ln,lc,k0,k1,k2,k3,k4,ht⟩
theorem Z5f.none_of {w1:World}{p:Nat}{q:ByteArray→Int→ByteArray→Option Addr→Nat→Nat→Option Addr→Nat→Nat→Prop} (a:Option Addr):Z5f w1 p q a 0:=fun i hi=>absurd hi (by omega)
set_option maxHeartbeats 4000000 in
set_option maxRecDepth 100000 in
theorem Zfl {p:Nat}{rk:Value}{w1:World}{n:Nat} (H:RW P p rk w1 n) (a:Option Addr) (m c:Nat) (h:Z5f w1 p (tv P w1 p n) a m) (h2:2≤m) (hmc:m≤c) (w:World) (C:WT p rk w1 w) :
  Calls prog 70 #[.pointer (some ⟨p,0,none⟩),.slice a m c] w fun ev w'=>ev = .returned (.tuple #[])∧WX P p rk w1 w w':=by
 obtain ⟨b,o,rfl,hb,op,z,s,pa,pn,pc,la,ln,lc,k0,k1,k2,k3,k4,ht⟩:=h.first (by omega)
 have d0:=C.old (a:=⟨b,o,none⟩) hb k0
 have d1:=C.old (a:=⟨b,o+1,none⟩) hb k1
 have d2:=C.old (a:=⟨b,o+2,none⟩) hb k2
 have d3:=C.old (a:=⟨b,o+3,none⟩) hb k3
 have d4:=C.old (a:=⟨b,o+4,none⟩) hb k4
 have hM:(0:Int)<(m:Int):=by omega
 have hc1:¬ c=1:=by omega
 have hc2:2≤c:=by omega
 have HH:=Z03 H
 have HT:=Z03 ht
 have HR:=Z03 (h.rest (k:=1) (by omega))
 have HC:=Z03 C
 clear k0 k1 k2 k3 k4 H ht h C
 go_enter func70,ntmps70
 go_wp2_with fail
 refine (HH.out _ _ _ _ _ _ _ _ _ HT.out 8 (by omega) _ HC.out).mono ?_
 rintro ev w2 ⟨rfl,hx⟩
 have H2:=Z03 hx
 clear hx d0 d1 d2 d3 d4
 go_wp2_with fail
 refine (Z8i HH.out ⟨#[91]⟩ ⟨#[93]⟩ (by decide) (by decide) (fun _=>by decide) (fun _=>by decide) _ 1 _ HR.out (by omega) _ H2.out.wt).mono ?_
 rintro ev w3 ⟨rfl,hx⟩
 have H3:=Z03 (H2.out.trans hx)
 clear hx
 go_wp2_with fail
 go_end0
 exact ⟨rfl,H3.out⟩
end Go.Proofs.YtflcohidmemfpaaGreatDoor
namespace Go.Proofs.YtflcohidmemfpaaGreatDoor
open Go.Proofs.Tryz
open Go.RowKit Go.Lib
variable {P:Prop}

set_option maxHeartbeats 4000000 in
set_option maxRecDepth 100000 in
theorem Zqv {p:Nat}{rk:Value}{w1:World}{n:Nat} (H:RW P p rk w1 n) {op:ByteArray}{z:Int}{s:ByteArray}{pa:Option Addr}{pn pc:Nat}{la:Option Addr}{ln lc:Nat} (ht:tv P w1 p (n+1) op z s pa pn pc la ln lc) (h1:1≤ln) (w:World) (C:WT p rk w1 w) :
  Calls prog 132 #[.pointer (some ⟨p,0,none⟩),.agg #[.string op,.int .i64 z,.string s,.slice pa pn pc,.slice la ln lc]] w fun ev w'=>ev = .returned (.tuple #[])∧WX P p rk w1 w w':=by
 obtain ⟨_,_,_,_,hpn,⟨f,hN⟩,hlc,hln,hrow⟩:=ht
 obtain ⟨b,o,rfl,hb,op1,z1,s1,pa1,pn1,pc1,la1,ln1,lc1,k0,k1,k2,k3,k4,ht1⟩:=hrow.first (by omega)
 obtain ⟨wE,hE⟩:∃ wE,wE=(w.alloc (.cells #[.string op,.int .i64 z,.string s,.slice pa pn pc,.slice (some ⟨b,o,none⟩) ln lc] 72)):=⟨_,rfl⟩
 have hq:wE.heap[w.heap.size]?=some (.cells #[.string op,.int .i64 z,.string s,.slice pa pn pc,.slice (some ⟨b,o,none⟩) ln lc] 72):=by rw [hE];exact heap_alloc_new _ _
 have hWE:WT p rk w1 w→WX P p rk w1 w wE:=fun C=>by rw [hE];exact (WX.start C).alloc _
 have HE:=Z03 hE
 have HS:Hid (w.heap.size+1=wE.heap.size):=by show _=_;rw [hE];simp
 have hp:=C.lt
 have HK:Hid (∀ w',WX P p rk w1 wE w'→w'.cell? ⟨w.heap.size,0,none⟩=some (.string op)∧w'.cell? ⟨w.heap.size,1,none⟩=some (.int .i64 z)∧w'.cell? ⟨w.heap.size,2,none⟩=some (.string s)∧w'.cell? ⟨w.heap.size,3,none⟩=some (.slice pa pn pc)∧w'.cell? ⟨w.heap.size,4,none⟩=some (.slice (some ⟨b,o,none⟩) ln lc)∧w'.cell? ⟨b,o,none⟩=some (.string op1)∧w'.cell? ⟨b,o+1,none⟩=some (.int .i64 z1)∧w'.cell? ⟨b,o+2,none⟩=some (.string s1)∧w'.cell? ⟨b,o+3,none⟩=some (.slice pa1 pn1 pc1)∧w'.cell? ⟨b,o+4,none⟩=some (.slice la1 ln1 lc1)):=fun w' h=>let e:=Z05 (h.block hq (by omega) (by decide));⟨e.1,e.2.1,e.2.2.1,e.2.2.2.1,e.2.2.2.2.1,h.wt.old (a:=⟨b,o,none⟩) hb k0,h.wt.old (a:=⟨b,o+1,none⟩) hb k1,h.wt.old (a:=⟨b,o+2,none⟩) hb k2,h.wt.old (a:=⟨b,o+3,none⟩) hb k3,h.wt.old (a:=⟨b,o+4,none⟩) hb k4⟩
 have HC0:=Z03 (WX.start (P:=P) (hWE C).wt)
 have HCA:=Z03 (hWE C)
 have HH:=Z03 H
 have HT:=Z03 ht1
 have HN:=Z03 hN
 have hL:(0:Int)<(ln:Int):=by omega
 clear k0 k1 k2 k3 k4 H ht1 hN hrow C hq hE hWE
 go_enter func132,ntmps132
 go_wp2_with fail
 rw [←HE.out,HS.out]
 refine (Z58 HC0.out ⟨#[108,97,109,98,100,97]⟩ (by decide) (fun _=>by decide)).mono ?_
 rintro ev w2 ⟨rfl,h2⟩
 have H2:=Z03 h2
 obtain ⟨e0,e1,e2,e3,e4,d0,d1,d2,d3,d4⟩:=HK.out w2 h2
 clear h2
 by_cases hn0:0<pn
 ·have hN0:(0:Int)<(pn:Int):=by omega
  go_wp2_with fail
  refine (Z58 H2.out ⟨#[32]⟩ (by decide) (fun _=>by decide)).mono ?_
  rintro ev w3 ⟨rfl,h3⟩
  have H3:=Z03 h3
  clear e0 e1 e2 e3 e4 d0 d1 d2 d3 d4
  obtain ⟨e0,e1,e2,e3,e4,d0,d1,d2,d3,d4⟩:=HK.out w3 h3
  clear h3
  go_wp2_with fail
  refine (Zax pa pn pc f HN.out hpn _ H3.out.wt).mono ?_
  rintro ev w4 ⟨rfl,h4⟩
  have H4:=Z03 (H3.out.trans h4)
  clear h4 e0 e1 e2 e3 e4 d0 d1 d2 d3 d4
  go_wp2_with fail
  refine (Z58 H4.out ⟨#[58,32]⟩ (by decide) (fun _=>by decide)).mono ?_
  rintro ev w5 ⟨rfl,h5⟩
  have H5:=Z03 h5
  obtain ⟨e0,e1,e2,e3,e4,d0,d1,d2,d3,d4⟩:=HK.out w5 h5
  clear h5
  go_wp2_with fail
  refine (Z43 HH.out HT.out _ H5.out.wt).mono ?_
  rintro ev w6 ⟨rfl,h6⟩
  have H6:=Z03 (HCA.out.trans (H5.out.trans h6))
  clear h6 e0 e1 e2 e3 e4 d0 d1 d2 d3 d4
  go_wp2_with fail
  go_end0
  exact ⟨rfl,H6.out⟩
 ·obtain rfl:pn=0:=by omega
  go_wp2_with fail
  refine (Z58 H2.out ⟨#[58,32]⟩ (by decide) (fun _=>by decide)).mono ?_
  rintro ev w5 ⟨rfl,h5⟩
  have H5:=Z03 h5
  clear e0 e1 e2 e3 e4 d0 d1 d2 d3 d4
  obtain ⟨e0,e1,e2,e3,e4,d0,d1,d2,d3,d4⟩:=HK.out w5 h5
  clear h5
  go_wp2_with fail
  refine (Z43 HH.out HT.out _ H5.out.wt).mono ?_
  rintro ev w6 ⟨rfl,h6⟩
  have H6:=Z03 (HCA.out.trans (H5.out.trans h6))
  clear h6 e0 e1 e2 e3 e4 d0 d1 d2 d3 d4
  go_wp2_with fail
  go_end0
  exact ⟨rfl,H6.out⟩
theorem Z5f.second {w1:World}{p:Nat}{q:ByteArray→Int→ByteArray→Option Addr→Nat→Nat→Option Addr→Nat→Nat→Prop}{b o m:Nat} (h:Z5f w1 p q (some ⟨b,o,none⟩) m) (h0:1<m):∃ op z s pa pn pc la ln lc,w1.cell? ⟨b,o+5,none⟩=some (.string op)∧w1.cell? ⟨b,o+5+1,none⟩=some (.int .i64 z)∧w1.cell? ⟨b,o+5+2,none⟩=some (.string s)∧w1.cell? ⟨b,o+5+3,none⟩=some (.slice pa pn pc)∧w1.cell? ⟨b,o+5+4,none⟩=some (.slice la ln lc)∧q op z s pa pn pc la ln lc:=by
 obtain ⟨b',o',e,hb,hx⟩:=(h.rest (k:=1) (by omega)).first (by omega)
 cases e
 exact hx
set_option maxHeartbeats 4000000 in
set_option maxRecDepth 100000 in
theorem Zvz {p:Nat}{rk:Value}{w1:World}{n:Nat} (H:RW P p rk w1 n) {op:ByteArray}{z:Int}{s:ByteArray}{pa:Option Addr}{pn pc:Nat}{la:Option Addr}{ln lc:Nat} (ht:tv P w1 p (n+1) op z s pa pn pc la ln lc) (h2:2≤ln) (own:Nat) (ho:own≤8) (w:World) (C:WT p rk w1 w) :
  Calls prog 133 #[.pointer (some ⟨p,0,none⟩),.agg #[.string op,.int .i64 z,.string s,.slice pa pn pc,.slice la ln lc],.int .i64 (own:Int)] w fun ev w'=>ev = .returned (.tuple #[])∧WX P p rk w1 w w':=by
 obtain ⟨hos,_,_,_,_,_,hlc,hln,hrow⟩:=ht
 obtain ⟨b,o,rfl,hb,op1,z1,s1,pa1,pn1,pc1,la1,ln1,lc1,k0,k1,k2,k3,k4,ht1⟩:=hrow.first (by omega)
 obtain ⟨op2,z2,s2,pa2,pn2,pc2,la2,ln2,lc2,j0,j1,j2,j3,j4,ht2⟩:=hrow.second (by omega)
 obtain ⟨wE,hE⟩:∃ wE,wE=(w.alloc (.cells #[.string op,.int .i64 z,.string s,.slice pa pn pc,.slice (some ⟨b,o,none⟩) ln lc] 72)):=⟨_,rfl⟩
 have hq:wE.heap[w.heap.size]?=some (.cells #[.string op,.int .i64 z,.string s,.slice pa pn pc,.slice (some ⟨b,o,none⟩) ln lc] 72):=by rw [hE];exact heap_alloc_new _ _
 have hWE:WT p rk w1 w→WX P p rk w1 w wE:=fun C=>by rw [hE];exact (WX.start C).alloc _
 have HE:=Z03 hE
 have HS:Hid (w.heap.size+1=wE.heap.size):=by show _=_;rw [hE];simp
 have hp:=C.lt
 have HK:Hid (∀ w',WX P p rk w1 wE w'→w'.cell? ⟨w.heap.size,0,none⟩=some (.string op)∧w'.cell? ⟨w.heap.size,1,none⟩=some (.int .i64 z)∧w'.cell? ⟨w.heap.size,2,none⟩=some (.string s)∧w'.cell? ⟨w.heap.size,3,none⟩=some (.slice pa pn pc)∧w'.cell? ⟨w.heap.size,4,none⟩=some (.slice (some ⟨b,o,none⟩) ln lc)∧w'.cell? ⟨b,o,none⟩=some (.string op1)∧w'.cell? ⟨b,o+1,none⟩=some (.int .i64 z1)∧w'.cell? ⟨b,o+2,none⟩=some (.string s1)∧w'.cell? ⟨b,o+3,none⟩=some (.slice pa1 pn1 pc1)∧w'.cell? ⟨b,o+4,none⟩=some (.slice la1 ln1 lc1)∧w'.cell? ⟨b,o+5,none⟩=some (.string op2)∧w'.cell? ⟨b,o+5+1,none⟩=some (.int .i64 z2)∧w'.cell? ⟨b,o+5+2,none⟩=some (.string s2)∧w'.cell? ⟨b,o+5+3,none⟩=some (.slice pa2 pn2 pc2)∧w'.cell? ⟨b,o+5+4,none⟩=some (.slice la2 ln2 lc2)):=fun w' h=>let e:=Z05 (h.block hq (by omega) (by decide));⟨e.1,e.2.1,e.2.2.1,e.2.2.2.1,e.2.2.2.2.1,h.wt.old (a:=⟨b,o,none⟩) hb k0,h.wt.old (a:=⟨b,o+1,none⟩) hb k1,h.wt.old (a:=⟨b,o+2,none⟩) hb k2,h.wt.old (a:=⟨b,o+3,none⟩) hb k3,h.wt.old (a:=⟨b,o+4,none⟩) hb k4,h.wt.old (a:=⟨b,o+5,none⟩) hb j0,h.wt.old (a:=⟨b,o+5+1,none⟩) hb j1,h.wt.old (a:=⟨b,o+5+2,none⟩) hb j2,h.wt.old (a:=⟨b,o+5+3,none⟩) hb j3,h.wt.old (a:=⟨b,o+5+4,none⟩) hb j4⟩
 have HC0:=Z03 (WX.start (P:=P) (hWE C).wt)
 have HCA:=Z03 (hWE C)
 have y0:=C.old (a:=⟨b,o,none⟩) hb k0
 have y1:=C.old (a:=⟨b,o+1,none⟩) hb k1
 have y2:=C.old (a:=⟨b,o+2,none⟩) hb k2
 have y3:=C.old (a:=⟨b,o+3,none⟩) hb k3
 have y4:=C.old (a:=⟨b,o+4,none⟩) hb k4
 have hbw:b<w.heap.size:=by omega
 have HH:=Z03 H
 have HT1:=Z03 ht1
 have HT2:=Z03 ht2
 have hL:(1:Int)<(ln:Int):=by omega
 have hL0:(0:Int)<(ln:Int):=by omega
 have hO:(own:Int)≤8:=by omega
 have hO0:(0:Int)≤(own:Int):=by omega
 clear k0 k1 k2 k3 k4 j0 j1 j2 j3 j4 H ht1 ht2 hrow C hq hE hWE
 have HR:Hid (∀ (left:Nat),left≤9→Calls prog 67 #[.pointer (some ⟨p,0,none⟩),.agg #[.string op1,.int .i64 z1,.string s1,.slice pa1 pn1 pc1,.slice la1 ln1 lc1],.int .i64 (left:Int)] wE fun ev w'=>ev = .returned (.tuple #[])∧WX P p rk w1 wE w'):=fun left hl=>HH.out _ _ _ _ _ _ _ _ _ HT1.out left (by omega) _ HC0.out.wt
 by_cases h3:own=4
 ·subst h3
  go_enter func133,ntmps133
  go_wp2_with fail
  rw [←HE.out]
  refine (HR.out 5 (by omega)).mono ?_
  rintro ev w2 ⟨rfl,g2⟩
  have H2:=Z03 g2
  clear y0 y1 y2 y3 y4
  obtain ⟨x0,x1,x2,x3,x4,y0,y1,y2,y3,y4,z0',z1',z2',z3',z4'⟩:=HK.out _ g2
  clear g2
  go_wp2_with fail
  refine (Zzm H2.out ⟨#[32]⟩ op ⟨#[32]⟩ (by decide) hos.1 (by decide) (fun _=>by decide) hos.2 (fun _=>by decide)).mono ?_
  rintro ev w3 ⟨rfl,g3⟩
  have H3:=Z03 g3
  clear x0 x1 x2 x3 x4 y0 y1 y2 y3 y4 z0' z1' z2' z3' z4'
  obtain ⟨x0,x1,x2,x3,x4,y0,y1,y2,y3,y4,z0',z1',z2',z3',z4'⟩:=HK.out _ g3
  clear g3
  go_wp2_with fail
  refine (HH.out _ _ _ _ _ _ _ _ _ HT2.out 5 (by omega) _ H3.out.wt).mono ?_
  rintro ev w4 ⟨rfl,g4⟩
  have H4:=Z03 (HCA.out.trans (H3.out.trans g4))
  clear g4 x0 x1 x2 x3 x4 y0 y1 y2 y3 y4 z0' z1' z2' z3' z4'
  go_wp2_with fail
  go_end0
  exact ⟨rfl,H4.out⟩
 ·have hO3:((own:Int) == 4)=false:=by simp;omega
  have e1:IntKind.i64.wrap ((own:Int)+1)=((own+1:Nat):Int):=by rw [IntKind.wrap_i64];omega
  go_enter func133,ntmps133
  go_wp2_with fail
  rw [←HE.out]
  refine (HR.out own (by omega)).mono ?_
  rintro ev w2 ⟨rfl,g2⟩
  have H2:=Z03 g2
  clear y0 y1 y2 y3 y4
  obtain ⟨x0,x1,x2,x3,x4,y0,y1,y2,y3,y4,z0',z1',z2',z3',z4'⟩:=HK.out _ g2
  clear g2
  go_wp2_with fail
  refine (Zzm H2.out ⟨#[32]⟩ op ⟨#[32]⟩ (by decide) hos.1 (by decide) (fun _=>by decide) hos.2 (fun _=>by decide)).mono ?_
  rintro ev w3 ⟨rfl,g3⟩
  have H3:=Z03 g3
  clear x0 x1 x2 x3 x4 y0 y1 y2 y3 y4 z0' z1' z2' z3' z4'
  obtain ⟨x0,x1,x2,x3,x4,y0,y1,y2,y3,y4,z0',z1',z2',z3',z4'⟩:=HK.out _ g3
  clear g3
  go_wp2_with fail
  refine (HH.out _ _ _ _ _ _ _ _ _ HT2.out (own+1) (by omega) _ H3.out.wt).mono ?_
  rintro ev w4 ⟨rfl,g4⟩
  have H4:=Z03 (HCA.out.trans (H3.out.trans g4))
  clear g4 x0 x1 x2 x3 x4 y0 y1 y2 y3 y4 z0' z1' z2' z3' z4'
  go_wp2_with fail
  go_end0
  exact ⟨rfl,H4.out⟩
end Go.Proofs.YtflcohidmemfpaaGreatDoor
namespace Go.Proofs.YtflcohidmemfpaaGreatDoor
open Go.Proofs.Tryz
open Go.RowKit Go.Lib
variable {P:Prop}

theorem Zka (args:Array Value) (w:World):(callFunc 146 args).run prog w = .ok (.enter 146 args) w:=by kernel_rfl
set_option maxHeartbeats 4000000 in
set_option maxRecDepth 100000 in
theorem Zow {p:Nat}{rk:Value}{w1:World}{n:Nat} (H:RW P p rk w1 n) (a:Option Addr) (m c:Nat) (h:Z5f w1 p (tv P w1 p n) a m) (hm:m≤1152921504606846976) (b1 b2:Nat) (n1:b1≠p) (n2:b2≠p) (i:Nat) (hi:2*i+1<m) (w:World) (C:WT p rk w1 w) (x1:w.heap[b1]?=some (.cells #[.pointer (some ⟨p,0,none⟩)] 95)) (x2:w.heap[b2]?=some (.cells #[.slice a m c] 49)) :
  Calls prog 146 #[.int .i64 (i:Int),.pointer (some ⟨b1,0,none⟩),.pointer (some ⟨b2,0,none⟩)] w fun ev w'=>ev = .returned (.tuple #[])∧WX P p rk w1 w w':=by
 obtain ⟨b,o,rfl,hb,op1,z1,s1,pa1,pn1,pc1,la1,ln1,lc1,k0,k1,k2,k3,k4,ht1⟩:=h (2*i) (by omega)
 obtain ⟨b',o',e,_,op2,z2,s2,pa2,pn2,pc2,la2,ln2,lc2,j0,j1,j2,j3,j4,ht2⟩:=h (2*i+1) (by omega)
 cases e
 have hC:=WX.start (P:=P) C
 have HH:=Z03 H
 have HT1:=Z03 ht1
 have HT2:=Z03 ht2
 have hI:2*(i:Int)<(m:Int):=by omega
 have hI0:(0:Int)≤2*(i:Int):=by omega
 have hIb:(0:Int)≤2*(i:Int)∧2*(i:Int)<(m:Int):=⟨hI0,hI⟩
 have hIt:(2*(i:Int)).toNat=2*i:=by omega
 have e4:IntKind.i64.wrap (2*(i:Int))=2*(i:Int):=by rw [IntKind.wrap_i64];omega
 have hJ:2*(i:Int)+1<(m:Int):=by omega
 have hJ0:(0:Int)≤2*(i:Int)+1:=by omega
 have hJb:(0:Int)≤2*(i:Int)+1∧2*(i:Int)+1<(m:Int):=⟨hJ0,hJ⟩
 have hJt:(2*(i:Int)+1).toNat=2*i+1:=by omega
 have e3:IntKind.i64.wrap (2*(i:Int)+1)=2*(i:Int)+1:=by rw [IntKind.wrap_i64];omega
 have HK:Hid (∀ w',WX P p rk w1 w w'→w'.cell? ⟨b1,0,none⟩=some (.pointer (some ⟨p,0,none⟩))∧w'.cell? ⟨b2,0,none⟩=some (.slice (some ⟨b,o,none⟩) m c)∧w'.cell? ⟨b,o+2*i*5,none⟩=some (.string op1)∧w'.cell? ⟨b,o+2*i*5+1,none⟩=some (.int .i64 z1)∧w'.cell? ⟨b,o+2*i*5+2,none⟩=some (.string s1)∧w'.cell? ⟨b,o+2*i*5+3,none⟩=some (.slice pa1 pn1 pc1)∧w'.cell? ⟨b,o+2*i*5+4,none⟩=some (.slice la1 ln1 lc1)∧w'.cell? ⟨b,o+(2*i+1)*5,none⟩=some (.string op2)∧w'.cell? ⟨b,o+(2*i+1)*5+1,none⟩=some (.int .i64 z2)∧w'.cell? ⟨b,o+(2*i+1)*5+2,none⟩=some (.string s2)∧w'.cell? ⟨b,o+(2*i+1)*5+3,none⟩=some (.slice pa2 pn2 pc2)∧w'.cell? ⟨b,o+(2*i+1)*5+4,none⟩=some (.slice la2 ln2 lc2)):=fun w' h=>⟨Z0c (h.block x1 n1 (by decide)) rfl,Z0c (h.block x2 n2 (by decide)) rfl,h.wt.old (a:=⟨b,o+2*i*5,none⟩) hb k0,h.wt.old (a:=⟨b,o+2*i*5+1,none⟩) hb k1,h.wt.old (a:=⟨b,o+2*i*5+2,none⟩) hb k2,h.wt.old (a:=⟨b,o+2*i*5+3,none⟩) hb k3,h.wt.old (a:=⟨b,o+2*i*5+4,none⟩) hb k4,h.wt.old (a:=⟨b,o+(2*i+1)*5,none⟩) hb j0,h.wt.old (a:=⟨b,o+(2*i+1)*5+1,none⟩) hb j1,h.wt.old (a:=⟨b,o+(2*i+1)*5+2,none⟩) hb j2,h.wt.old (a:=⟨b,o+(2*i+1)*5+3,none⟩) hb j3,h.wt.old (a:=⟨b,o+(2*i+1)*5+4,none⟩) hb j4⟩
 obtain ⟨c1,c2,d0,d1,d2,d3,d4,g0,g1,g2,g3,g4⟩:=HK.out w hC
 clear x1 x2 k0 k1 k2 k3 k4 j0 j1 j2 j3 j4 h C H ht1 ht2
 go_enter func146,ntmps146
 go_wp2_with fail
 go_region_held3 (fun w'=>w'.cell? ⟨b1,0,none⟩=some (.pointer (some ⟨p,0,none⟩))∧w'.cell? ⟨b2,0,none⟩=some (.slice (some ⟨b,o,none⟩) m c)∧w'.cell? ⟨b,o+2*i*5,none⟩=some (.string op1)∧w'.cell? ⟨b,o+2*i*5+1,none⟩=some (.int .i64 z1)∧w'.cell? ⟨b,o+2*i*5+2,none⟩=some (.string s1)∧w'.cell? ⟨b,o+2*i*5+3,none⟩=some (.slice pa1 pn1 pc1)∧w'.cell? ⟨b,o+2*i*5+4,none⟩=some (.slice la1 ln1 lc1)∧w'.cell? ⟨b,o+(2*i+1)*5,none⟩=some (.string op2)∧w'.cell? ⟨b,o+(2*i+1)*5+1,none⟩=some (.int .i64 z2)∧w'.cell? ⟨b,o+(2*i+1)*5+2,none⟩=some (.string s2)∧w'.cell? ⟨b,o+(2*i+1)*5+3,none⟩=some (.slice pa2 pn2 pc2)∧w'.cell? ⟨b,o+(2*i+1)*5+4,none⟩=some (.slice la2 ln2 lc2)) (first | with_reducible exact HK.out _ hC | with_reducible exact HK.out _ hC.drew | exact HK.out _ (hC.drew.alloc _)) ((go_at_call 52;refine (Z43 HH.out HT1.out _ hC.drew.wt).mono ?_;rintro ev wx ⟨rfl,hx⟩;replace hC:=hC.drew.trans hx;clear hx))
 have HC2:=Z03 hC
 go_wp2_with fail
 refine (Z58 HC2.out ⟨#[58,32]⟩ (by decide) (fun _=>by decide)).mono ?_
 rintro ev w3 ⟨rfl,h3⟩
 have hC:=h3
 go_wp2_with fail
 go_region_held3 (fun w'=>w'.cell? ⟨b1,0,none⟩=some (.pointer (some ⟨p,0,none⟩))∧w'.cell? ⟨b2,0,none⟩=some (.slice (some ⟨b,o,none⟩) m c)∧w'.cell? ⟨b,o+2*i*5,none⟩=some (.string op1)∧w'.cell? ⟨b,o+2*i*5+1,none⟩=some (.int .i64 z1)∧w'.cell? ⟨b,o+2*i*5+2,none⟩=some (.string s1)∧w'.cell? ⟨b,o+2*i*5+3,none⟩=some (.slice pa1 pn1 pc1)∧w'.cell? ⟨b,o+2*i*5+4,none⟩=some (.slice la1 ln1 lc1)∧w'.cell? ⟨b,o+(2*i+1)*5,none⟩=some (.string op2)∧w'.cell? ⟨b,o+(2*i+1)*5+1,none⟩=some (.int .i64 z2)∧w'.cell? ⟨b,o+(2*i+1)*5+2,none⟩=some (.string s2)∧w'.cell? ⟨b,o+(2*i+1)*5+3,none⟩=some (.slice pa2 pn2 pc2)∧w'.cell? ⟨b,o+(2*i+1)*5+4,none⟩=some (.slice la2 ln2 lc2)) (first | with_reducible exact HK.out _ hC | with_reducible exact HK.out _ hC.drew | exact HK.out _ (hC.drew.alloc _)) ((go_at_call 52;refine (Z43 HH.out HT2.out _ hC.drew.wt).mono ?_;rintro ev wx ⟨rfl,hx⟩;replace hC:=hC.drew.trans hx;clear hx))
 go_wp2_with fail
 go_end0
 exact ⟨rfl,hC⟩
set_option maxHeartbeats 4000000 in
set_option maxRecDepth 100000 in
theorem Zsw {p:Nat}{rk:Value}{w1:World}{n:Nat} (H:RW P p rk w1 n) (a:Option Addr) (m c:Nat) (h:Z5f w1 p (tv P w1 p n) a m) (hm:m≤1152921504606846976) (w:World) (C:WT p rk w1 w) :
  Calls prog 131 #[.pointer (some ⟨p,0,none⟩),.slice a m c] w fun ev w'=>ev = .returned (.tuple #[])∧WX P p rk w1 w w':=by
 obtain ⟨w2,hw2⟩:∃ w2,w2=(w.alloc (.cells #[.pointer (some ⟨p,0,none⟩)] 95)).alloc (.cells #[.slice a m c] 49):=⟨_,rfl⟩
 have hC2:WX P p rk w1 w w2:=by rw [hw2];exact ((WX.start C).alloc _).alloc _
 have hs:(w.alloc (.cells #[.pointer (some ⟨p,0,none⟩)] 95)).heap.size=w.heap.size+1:=by simp
 have k1:w2.heap[w.heap.size]?=some (.cells #[.pointer (some ⟨p,0,none⟩)] 95):=by
  rw [hw2]
  exact (Below.heap_alloc _ _ _ (by omega)).trans (heap_alloc_new w _)
 have k2:w2.heap[w.heap.size+1]?=some (.cells #[.slice a m c] 49):=by
  have:=heap_alloc_new (w.alloc (.cells #[.pointer (some ⟨p,0,none⟩)] 95)) (.cells #[.slice a m c] 49)
  rw [hs] at this
  rw [hw2]
  exact this
 have hp:=C.lt
 obtain ⟨k,hk⟩:∃ k,k=m / 2:=⟨_,rfl⟩
 have hd:Int.tdiv (m:Int) 2=(k:Int):=by rw [hk,Int.tdiv_eq_ediv_of_nonneg (by omega)];omega
 have hk2:k≤1152921504606846976:=by omega
 have HV:Hid (∀ w3,WX P p rk w1 w2 w3→Calls prog 68 #[.pointer (some ⟨p,0,none⟩),.int .i64 (k:Int),.func (.func 146) #[] #[.pointer (some ⟨w.heap.size,0,none⟩),.pointer (some ⟨w.heap.size+1,0,none⟩)]] w3 fun ev w'=>ev = .returned (.tuple #[])∧WX P p rk w1 w3 w'):=fun w3 h3=>Za3 146 #[.pointer (some ⟨w.heap.size,0,none⟩),.pointer (some ⟨w.heap.size+1,0,none⟩)] k (by omega) Zka w3 h3.wt (fun i w' hi hx=>Zow H a m c h hm w.heap.size (w.heap.size+1) (by omega) (by omega) i (by omega) w' hx.wt ((h3.trans hx).block k1 (by omega) (by decide)) ((h3.trans hx).block k2 (by omega) (by decide)))
 have HK:Hid (∀ w3,WX P p rk w1 w2 w3→w3.cell? ⟨w.heap.size,0,none⟩=some (.pointer (some ⟨p,0,none⟩))∧w3.cell? ⟨w.heap.size+1,0,none⟩=some (.slice a m c)):=fun w3 h3=>⟨Z0c (h3.block k1 (by omega) (by decide)) rfl,Z0c (h3.block k2 (by omega) (by decide)) rfl⟩
 have HS2:Hid (w.heap.size+1+1=w2.heap.size):=by show _=_;rw [hw2];simp
 have HC2:=Z03 hC2
 have HW2:=Z03 hw2
 have hmf:∀ (fn:Fn) (first cap:Array Value) (w:World),(Instr.makeFunc fn first cap).run prog w = .ok (.func fn first cap) w:=fun _ _ _ _=>rfl
 have e1:IntKind.i64.wrap (k:Int)=(k:Int):=by rw [IntKind.wrap_i64];omega
 clear hC2 hw2 k1 k2 hs C h H hk
 go_enter func131,ntmps131
 go_wp2_with fail
 rw [←HW2.out,HS2.out]
 refine (Z58 (WX.start (P:=P) HC2.out.wt) ⟨#[123]⟩ (by decide) (fun _=>by decide)).mono ?_
 rintro ev w3 ⟨rfl,h3⟩
 have H3:=Z03 h3
 obtain ⟨x1,x2⟩:=HK.out w3 h3
 clear h3
 go_wp2_with fail
 refine (HV.out w3 H3.out).mono ?_
 rintro ev w4 ⟨rfl,h4⟩
 have H4:=Z03 (H3.out.trans h4)
 obtain ⟨f1,f2⟩:=HK.out w4 H4.out
 clear h4 x1 x2
 go_wp2_with fail
 refine (Z58 (HC2.out.trans H4.out) ⟨#[125]⟩ (by decide) (fun _=>by decide)).mono ?_
 rintro ev w5 ⟨rfl,h5⟩
 have H5:=Z03 h5
 clear h5 f1 f2
 go_wp2_with fail
 go_end0
 exact ⟨rfl,H5.out⟩
def Za4 (P:Prop):Prop:=∀ (s:ByteArray) (w:World),s.size≤6000→Calls prog 145 #[.string s] w fun ev w' => ∃ t:ByteArray,ev = .returned (.string t)∧t.size≤4611686018427387904∧GN P t∧Below w.heap.size w w'
def Z9b (P:Prop) (p:Nat) (rk:Value) (w1:World):Prop:=∀ (z:Int) (w:World),-9223372036854775808≤z→z≤9223372036854775807→WT p rk w1 w→Calls prog 129 #[.int .i64 z,.int .i64 10] w fun ev w' => ∃ t:ByteArray,ev = .returned (.string t)∧t.size≤4611686018427387904∧GN P t∧Below w.heap.size w w'
set_option maxHeartbeats 4000000 in
set_option maxRecDepth 100000 in
theorem Zzs {p:Nat}{rk:Value}{w1:World} (HQ:Za4 P) (s:ByteArray) (hs:s.size≤4611686018427387904) (w:World) (C:WT p rk w1 w) :
  Calls prog 130 #[.pointer (some ⟨p,0,none⟩),.string s] w fun ev w'=>ev = .returned (.tuple #[])∧WX P p rk w1 w w':=by
 obtain ⟨pa,m,pc,tm,lost,_,c0,c1,c2,c3,cf⟩:=C.cells
 have f3:=cf 3
 have HC:=Z03 (WX.start (P:=P) C)
 have HL:=Z03 ((WX.start (P:=P) C).lose true)
 have HQ':=Z03 HQ
 have hp:=C.lt
 clear C cf HQ
 by_cases hb:(6000:Int)<(s.size:Int)
 ·go_enter func130,ntmps130
  go_wp2_with fail
  refine bodyPost_ret (results_none rfl _ _ _) rfl ?_
  exact ⟨rfl,HL.out⟩
 ·have hb2:s.size≤6000:=by omega
  go_enter func130,ntmps130
  go_wp2_with fail
  refine (HQ'.out s w hb2).mono ?_
  rintro ev w2 ⟨t,rfl,ht,gt,hbl⟩
  have H2:=Z03 (HC.out.more hbl)
  clear hbl c0 c1 c2 c3 f3
  go_wp2_with fail
  refine (Z58 H2.out t ht gt).mono ?_
  rintro ev w3 ⟨rfl,h3⟩
  have H3:=Z03 h3
  clear h3
  go_wp2_with fail
  go_end0
  exact ⟨rfl,H3.out⟩
end Go.Proofs.YtflcohidmemfpaaGreatDoor
