/- Package heap by contracts: Weak, Look. -/
import Derived.Test.YtlkcbdinlfeoiabGreatDoorKrC
import Derived.Deep.AppendLies
import Derived.Test.YtlkcbdinlfeoiabGreatDoorKrB
import Derived.Test.YtlkcbdinlfeoiabGreatDoorKnAT
import Derived.Test.YtlkcbdinlfeoiabGreatDoorKnBA
import Derived.Test.YtlkcbdinlfeoiabGreatDoorKnBE
namespace Go.Proofs.YtlkcbdinlfeoiabGreatDoor
open Go.RowKit Go.Maps

variable {h:HP}{sr:Int}{m:MD}{w w':World}{a:Nat→Addr}{w0:World}{M:MO}{X:MXtra}
def MXtra.weak (X:MXtra) (i:Nat):MXtra:={ X with K:=X.K ++ [i] }
end Go.Proofs.YtlkcbdinlfeoiabGreatDoor
namespace Go.Proofs.YtlkcbdinlfeoiabGreatDoor
open Go.RowKit Go.Maps

variable {h:HP}{sr:Int}{m:MD}{w w':World}{a:Nat→Addr}{w0:World}{M:MO}{X:MXtra}
set_option maxHeartbeats 1000000 in
theorem ofInt_far (a:Nat→Addr) (n:Int) (hn:n < -2305843009213693952∨2305843009213693952≤n) (w:World) (E:WErr a w) :
  Calls Tryz.prog 27 #[.int .i64 n] w fun ev w'=>ev = .returned (.tuple #[.int .u64 0,errV a 1])∧Below w.heap.size w w':=by
 have k1:=E.c1
 rcases hn with c | c
 ·go_enter Tryz.func27,Tryz.ntmps27
  go_wp2
  go_quiet (fail)
  go_wp2
  go_ret2
  exact ⟨rfl,below_drewN (Below.refl _ _)⟩
 ·have c1:¬ n < -2305843009213693952:=by omega
  go_enter Tryz.func27,Tryz.ntmps27
  go_wp2
  go_quiet (fail)
  go_wp2
  go_ret2
  exact ⟨rfl,below_drewN (Below.refl _ _)⟩
def clI (n:Int):CL:=⟨3,n,0⟩
set_option maxHeartbeats 2000000 in
theorem hint1_ok (n:Int) (c1 : -2305843009213693952≤n) (c2:n<2305843009213693952) (w:World) (bn bh:Nat) (hc:w.cell? ⟨bn,0,none⟩=some (.int .i64 n)) :
  Calls Tryz.prog 26 #[.pointer (some ⟨bn,0,none⟩),.pointer (some ⟨bh,0,none⟩)] w fun ev w'=>ev = .returned (.tuple #[.int .u64 ((n*4+1) % 18446744073709551616),.nilIface])∧Below w.heap.size w w':=by
 have k:=ofInt_ok n c1 c2 w
 go_enter Tryz.func26,Tryz.ntmps26
 go_wp2_with fail
 refine k.mono ?_
 clear k
 rintro ev w1 ⟨rfl,b1⟩
 go_wp2_with fail
 go_ret2
 exact ⟨rfl,b1⟩
set_option maxHeartbeats 2000000 in
theorem hint1_box (s:HS a w0 h sr m M X w) (n:Int) (hn:n < -2305843009213693952∨2305843009213693952≤n) (bn bh:Nat) (hc:w.cell? ⟨bn,0,none⟩=some (.int .i64 n)) (ch:w.cell? ⟨bh,0,none⟩=some (.pointer (some ⟨h.q,0,none⟩))) (on:¬ h.own bn) (oh:¬ h.own bh) :
  Calls Tryz.prog 26 #[.pointer (some ⟨bn,0,none⟩),.pointer (some ⟨bh,0,none⟩)] w (LayPost a w0 h m M X 1 [n % 18446744073709551616] w):=by
 have E:=s.aenv (Aside.refl _ _)
 have k:=ofInt_far a n hn w E.we
 have hbn:=lt_of_cell hc
 have hbh:=lt_of_cell ch
 obtain ⟨y,hy⟩:∃ y,y=n % 18446744073709551616:=⟨_,rfl⟩
 have hy0:0≤y∧y<18446744073709551616:=by omega
 have HL:Hid (∀ g w1,Below w.heap.size w w1→w1.heap[g]?=some (.cells #[.int .u64 y] 50)→w.heap.size≤g→Calls Tryz.prog 22 #[.pointer (some ⟨h.q,0,none⟩),.int .i64 1,.slice (some ⟨g,0,none⟩) 1 1] w1 fun ev w'=>LayPost a w0 h m M X 1 [y] w ev w'∧w'.cell? ⟨bn,0,none⟩=some (.int .i64 n)∧w'.cell? ⟨bh,0,none⟩=some (.pointer (some ⟨h.q,0,none⟩))):=by
  intro g w1 b1 hg hgs
  refine (hlay_any (s.below b1) 1 [y] g 1 ⟨[],by rw [hg];rfl⟩ (s.at'.fresh hgs) (by omega) (by omega) (by show 1≤4096;omega) (fun x hx=>by rw [List.mem_singleton.1 hx];exact hy0) (fun h=>absurd (by decide) h)).mono fun ev w' t=>⟨t.back b1,?_,?_⟩
  ·exact t.cell ((b1.cell (p:=⟨bn,0,none⟩) hbn).trans hc) on
  ·exact t.cell ((b1.cell (p:=⟨bh,0,none⟩) hbh).trans ch) oh
 obtain ⟨q,hq⟩:∃ q,q=h.q:=⟨_,rfl⟩
 rw [←hq] at ch HL
 rw [←hy]
 have HA:Hid (∀ W,Below w.heap.size w W→W.cell? ⟨bn,0,none⟩=some (.int .i64 n)∧W.cell? ⟨bh,0,none⟩=some (.pointer (some ⟨q,0,none⟩))):=fun W b=>⟨(b.cell (p:=⟨bn,0,none⟩) hbn).trans hc,(b.cell (p:=⟨bh,0,none⟩) hbh).trans ch⟩
 have hw:IntKind.u64.wrap n=y:=by rw [hy];exact wrap_u64' n
 have HY:=toHid hy
 clear s hq E hn hy on oh
 go_enter Tryz.func26,Tryz.ntmps26
 go_wp2_with fail
 refine k.mono ?_
 clear k
 rintro ev w1 ⟨rfl,b1⟩
 have bA:Below w.heap.size w (w1.alloc (.cells #[.int .u64 y] 50)).drew:=b1.trans ((((Below.refl w1.heap.size w1).alloc (Nat.le_refl _) _).drew).mono b1.size)
 have HLA:=toHid (HL.out w1.heap.size (w1.alloc (.cells #[.int .u64 y] 50)).drew bA (heap_alloc_new _ _) b1.size)
 have HAA:=toHid (HA.out _ bA)
 have HA0:=toHid (HA.out _ b1.drew)
 have HA1:=toHid (HA.out _ b1)
 clear HL HA bA b1 hc ch hbn hbh
 obtain ⟨g1,g2⟩:=HA1.out
 unfold errV
 go_upto_region 4 with fail
 go_region_held3 (fun W=>W.cell? ⟨bn,0,none⟩=some (.int .i64 n)∧W.cell? ⟨bh,0,none⟩=some (.pointer (some ⟨q,0,none⟩))) (first | with_reducible exact hS | with_reducible exact HA1.out | with_reducible exact HA0.out | with_reducible exact HAA.out) (first | (go_at_call 22;refine HLA.out.mono ?_;rintro ev w3 ⟨hP,hS⟩;have HP3:=toHid hP;obtain ⟨y3,e3,rfl⟩:=hP.forms;clear hP))
 all_goals go_wp2_with fail
 all_goals go_ret2
 all_goals exact HP3.out
theorem wd_clI (n:Int):wdC (fun i=>i) (clI n)=(n*4+1) % 18446744073709551616:=by
 show (if (3:Nat)=4 then _ else if (3:Nat)=3 then (n*4+1) % 18446744073709551616 else _)=_
 rw [if_neg (by decide),if_pos rfl]
theorem two_mad (w:World) (x y:Obj):∃ w1,w1=(w.alloc x).alloc y∧Below w.heap.size w w1∧w1.heap[w.heap.size]?=some x∧w1.heap[w.heap.size+1]?=some y:=by
 obtain ⟨n1,n2⟩:=two_new w x y
 exact ⟨_,rfl,((Below.refl _ _).alloc (Nat.le_refl _) _).alloc (by simp) _,n1,n2⟩
set_option maxHeartbeats 2000000 in
theorem hint_ok (s:HS a w0 h sr m M X w) (r:Nat) (n:Int) (hr:r<m.R.length) (c1 : -2305843009213693952≤n) (c2:n<2305843009213693952) :
  Calls Tryz.prog 11 #[.pointer (some ⟨h.q,0,none⟩),.int .i64 (r:Int),.int .i64 n] w fun ev w'=>ev = .returned .nilIface∧Stp a w0 h m (M.set r (clI n)) X w w':=by
 obtain ⟨w1,hw1,b1,n1,n2⟩:=two_mad w (.cells #[.pointer (some ⟨h.q,0,none⟩)] 24) (.cells #[.int .i64 n] 2)
 have s1:=s.below b1
 have cn:w1.cell? ⟨w.heap.size+1,0,none⟩=some (.int .i64 n):=by rw [cell_of_row _ _ _ _ _ _ n2];rfl
 have kb:=(hbecome_ok s1 26 _ enterInt1 hr (fun y h' sr' n' w'=>y=(n*4+1) % 18446744073709551616∧h'=h∧sr'=sr∧n'=m∧Below w1.heap.size w1 w') (fun _ _=>False) ((hint1_ok n c1 c2 w1 (w.heap.size+1) w.heap.size cn).mono fun ev w' t=>.inl ⟨_,h,sr,m,t.1,s1.at'.below t.2,rfl,hr,rfl,rfl,rfl,rfl,t.2⟩)).mono (R':=fun ev w'=>ev = .returned .nilIface∧Stp a w0 h m (M.set r (clI n)) X w w') (by
  rintro ev w' (⟨y,h',sr',n',w2,rfl,⟨rfl,rfl,rfl,rfl,hb⟩,H,N'⟩ | ⟨k,rfl,hf⟩)
  ·have hm:=s.hm.plain r (c:=clI n) (by show ¬ 3=4;omega) ⟨by show 3≤4;omega,fun _=>c1,fun _=>c2⟩
   rw [wd_clI] at hm
   exact ⟨rfl,set_stp s (Nxt.of_below _ (b1.trans (hb.mono b1.size))) N' (Dim.refl _) H hm⟩
  ·exact hf.elim)
 rw [hw1] at kb
 clear hw1 b1 n1 n2 s1 cn s
 go_enter Tryz.func11,Tryz.ntmps11
 go_wp2_with fail
 refine kb.mono ?_
 clear kb
 rintro ev w2 ⟨rfl,hP⟩
 have HP':=toHid hP
 clear hP
 go_wp2_with fail
 go_ret
 exact ⟨rfl,HP'.out⟩
def mkBox (n:Int):ND:=⟨1,[n % 18446744073709551616],[]⟩
set_option maxHeartbeats 2000000 in
theorem hint_box (s:HS a w0 h sr m M X w) (r:Nat) (n:Int) (hr:r<m.R.length) (hn:n < -2305843009213693952∨2305843009213693952≤n) :
  Calls Tryz.prog 11 #[.pointer (some ⟨h.q,0,none⟩),.int .i64 (r:Int),.int .i64 n] w (Done a w0 h m M X (M.made r (mkBox n)) X 2 w):=by
 obtain ⟨w1,hw1,b1,n1,n2⟩:=two_mad w (.cells #[.pointer (some ⟨h.q,0,none⟩)] 24) (.cells #[.int .i64 n] 2)
 have s1:=s.below b1
 have ch:w1.cell? ⟨w.heap.size,0,none⟩=some (.pointer (some ⟨h.q,0,none⟩)):=by rw [cell_of_row _ _ _ _ _ _ n1];rfl
 have cn:w1.cell? ⟨w.heap.size+1,0,none⟩=some (.int .i64 n):=by rw [cell_of_row _ _ _ _ _ _ n2];rfl
 have km:=hint1_box s1 n hn (w.heap.size+1) w.heap.size cn ch (s.at'.fresh (by omega)) (s.at'.fresh (by omega))
 have kb:=(hbecome_ok s1 26 _ enterInt1 hr (GLay h m M X 1 [n % 18446744073709551616] w1) (BLay a w0 h m M X [n % 18446744073709551616] w1) (km.mono fun ev w' t=>lay_made s1 hr t)).mono (fun ev w' t=>Done.back b1 (made_done s1 (d:=mkBox n) rfl (by
  show (if (1:Int)<8 then [n % 18446744073709551616] else _)=_
  rw [if_pos (by decide)]) (fun h=>absurd (show (1:Int)<8 by decide) h) t))
 have kb:Calls Tryz.prog 20 _ w1 (Done a w0 h m M X (M.made r (mkBox n)) X 2 w):=kb
 rw [hw1] at kb
 have HW1:=toHid hw1
 clear hw1 b1 n1 n2 s1 ch cn km s
 go_enter Tryz.func11,Tryz.ntmps11
 go_wp2_with fail
 refine kb.mono ?_
 clear kb
 rintro ev w2 (⟨rfl,hP⟩ | ⟨rfl,hP⟩)
 ·have HP':=toHid hP
  clear hP
  go_wp2_with fail
  go_ret
  exact .inl ⟨rfl,HP'.out⟩
 ·have HP':=toHid hP
  clear hP
  go_wp2_with fail
  go_ret
  exact .inr ⟨rfl,HP'.out⟩
end Go.Proofs.YtlkcbdinlfeoiabGreatDoor
namespace Go.Proofs.YtlkcbdinlfeoiabGreatDoor
open Go.RowKit

set_option maxHeartbeats 4000000 in
set_option maxRecDepth 100000 in
theorem tellRaw_box (q p:Nat) (tn sr:Int) (m:MD) (f:Nat) (x y v:Int) (hf:m.W[f]?=some x) (hg:m.W[f+1]?=some y) (hv:IntKind.i64.wrap y=v) (v0 : -9223372036854775808≤v) (v1:v≤9223372036854775807) (hl:m.W.length≤1000000) (h0:0≤x) (h1:x<18446744073709551616) (hx:x % 4=3) (hy:x / 32768 % 2=0) (hz:x / 65536≤4096) (k1:x / 4 % 256=1) (hd:(decB v).size≤100) (w:World) (H:HeapAt q p tn sr w) (R:RepP p m w) (ht:TabbedM w) :
  Calls Tryz.prog 35 #[.pointer (some ⟨q,0,none⟩),.int .i64 (f:Int)] w fun ev w'=>ev = .returned (.tuple #[.string (decB 1++⟨#[32]⟩++decB v),.bool true])∧Below w.heap.size w w':=by
 have kt:Hid (∀ w,Calls Tryz.prog 65 #[.int .u64 x] w fun ev w'=>ev = .returned (.tuple #[.agg #[.int .i64 (x / 4 % 256),.int .i64 (x / 1024 % 16),.int .i64 (x / 16384 % 2),.int .i64 (x / 65536)],.nilIface])∧Below w.heap.size w w'):=fun w=>toHead_ok x h0 h1 hx hy hz w
 obtain ⟨vW,vR,vK,vI,vC,hp,M,⟨ao,cap,rfl,hcap,hW⟩,_⟩:=R
 have hlt:f+1<m.W.length:=(List.getElem?_eq_some_iff.mp hg).1
 obtain ⟨b,rfl,hb,hc⟩:=hW (by omega)
 have d0:=H.c0
 have d3:=M.c3
 have df:w.cell? ⟨b,f,none⟩=some (.int .u64 x):=hc f _ (by unfold wordsV;rw [List.getElem?_map,hf];rfl)
 have dg:w.cell? ⟨b,f+1,none⟩=some (.int .u64 y):=hc (f+1) _ (by unfold wordsV;rw [List.getElem?_map,hg];rfl)
 have hI:(f:Int)<(m.W.length:Int):=by omega
 have hI1:(f:Int)+1<(m.W.length:Int):=by omega
 have hI0:(0:Int)≤(f:Int):=by omega
 have hwf:IntKind.i64.wrap ((f:Int)+1)=(f:Int)+1:=wrapI _ (by omega) (by omega)
 have HA:Hid (∀ W,Below w.heap.size w W→W.cell? ⟨q,0,none⟩=some (.pointer (some ⟨p,0,none⟩))∧W.cell? ⟨p,3,none⟩=w.cell? ⟨p,3,none⟩∧W.cell? ⟨b,f+1,none⟩=some (.int .u64 y)):=fun W b=>⟨(b.cell (p:=⟨q,0,none⟩) (lt_of_cell d0)).trans d0,b.cell (p:=⟨p,3,none⟩) (lt_of_cell d3),(b.cell (p:=⟨_,f+1,none⟩) (lt_of_cell dg)).trans dg⟩
 have HFm:Hid (∀ W,Below w.heap.size w W→Calls Tryz.prog 66 #[.int .i64 v,.int .i64 10] W fun ev w'=>ev = .returned (.string (decB v))∧Below W.heap.size W w'):=fun W hW=>by
  refine (format_any v v0 v1 W (ht.below hW (Nat.le_refl _))).mono ?_
  rintro ev w' ⟨rfl,k,os,rfl⟩
  exact ⟨rfl,Lib.below_grow W.heap.size W (Nat.le_refl _) k os⟩
 have HIt:Hid (∀ W,Below w.heap.size w W→Calls Tryz.prog 36 #[.int .i64 1] W fun ev w'=>ev = .returned (.string (decB 1))∧Below W.heap.size W w'):=fun W hW=>itoa_at (by omega) (by omega) W (ht.below hW (Nat.le_refl _))
 have hd1:=decB_size 1 (by omega) (by omega)
 have a1:=fun wx=>run_string_add (P:=Tryz.prog) wx (decB 1) ⟨#[32]⟩ (by omega) (by decide)
 have a2:=fun wx=>run_string_add (P:=Tryz.prog) wx (decB 1++⟨#[32]⟩) (decB v) (by rw [ByteArray.size_append];show (((decB 1).size+1:Nat):Int)≤_;omega) (by omega)
 rw [k1] at kt
 clear hW hc M H h0 h1 hx hy hz hf hg hlt ht
 generalize x / 1024 % 16=ag at *
 generalize x / 16384 % 2=mk at *
 generalize x / 65536=sz at *
 generalize m.W.length=nW at *
 go_enter Tryz.func35,Tryz.ntmps35
 go_wp2_with fail
 refine (kt.out _).mono ?_
 rintro ev w1 ⟨rfl,hw1⟩
 obtain ⟨W2,hW2⟩:∃ W2,W2=w1.alloc (.cells #[.int .i64 1,.int .i64 ag,.int .i64 mk,.int .i64 sz] 99):=⟨_,rfl⟩
 have hw2:Below w.heap.size w W2:=by rw [hW2];exact hw1.alloc hw1.size _
 obtain ⟨e0,e1,e2⟩:=HA.out W2 hw2
 rw [d3] at e1
 have HW2:=toHid hw2
 have kf:=HFm.out W2 hw2
 have ci:W2.cell? ⟨w1.heap.size,0,none⟩=some (.int .i64 1):=by rw [hW2,cell_of_row _ _ _ _ _ _ (heap_alloc_new _ _)];rfl
 rw [hW2] at e0 e1 e2 kf ci
 clear kt d0 d3 df dg hw1 hw2
 go_wp2_with fail
 refine kf.mono ?_
 clear kf
 rintro ev w3 ⟨rfl,b3⟩
 rw [←hW2] at b3 ci
 have c3:w3.cell? ⟨w1.heap.size,0,none⟩=some (.int .i64 1):=(b3.cell (p:=⟨w1.heap.size,0,none⟩) (lt_of_cell ci)).trans ci
 have hw3:Below w.heap.size w w3:=HW2.out.trans (b3.mono HW2.out.size)
 have ki:=HIt.out w3 hw3
 have HW3:=toHid hw3
 clear e0 e1 e2 b3 ci hw3 hW2
 go_wp2_with fail
 refine ki.mono ?_
 clear ki
 rintro ev w4 ⟨rfl,b4⟩
 have HW4:=toHid (HW3.out.trans (b4.mono HW3.out.size))
 clear b4
 go_wp2_with fail
 go_ret2
 exact ⟨rfl,HW4.out⟩
end Go.Proofs.YtlkcbdinlfeoiabGreatDoor
