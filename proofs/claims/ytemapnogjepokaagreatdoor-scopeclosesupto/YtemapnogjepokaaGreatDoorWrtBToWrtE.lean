/- Package tree's writer, whatever it is handed: begin, names, partsOf, termsOf, rankOf. -/
import Derived.Test.YtemapnogjepokaaGreatDoorScJToWrtA
import Derived.Test.YtemapnogjepokaaGreatDoorTreeCToTreeD
import Derived.Test.YtemapnogjepokaaGreatDoorErrCodeToLexB
namespace Go.Proofs.YtemapnogjepokaaGreatDoor
open Go.RowKit Go.Lib

set_option maxHeartbeats 4000000 in
set_option maxRecDepth 100000 in
theorem begin_wt {p:Nat}{rk:Value}{w1:World}(d:Nat) (hd:d≤4611686018427387904) (w:World) (C:WT p rk w1 w) :
  Calls Tryz.prog 36 #[.pointer (some ⟨p,0,none⟩),.int .i64 (d:Int)] w fun ev w'=>ev = .returned (.tuple #[])∧WX p rk w1 w w':=by
 have HC:=toHidP C
 clear C
 go_enter Tryz.func36,Tryz.ntmps36
 go_wp2_with fail
 go_loopg [5] (d+1) (fun gk v5 wr => ∃ i:Nat,gk=d+1 - i∧i≤d∧v5 = .int .i64 (i:Int)∧WX p rk w1 w wr)
 case atStart=>exact ⟨0,rfl,Nat.zero_le _,rfl,.start HC.out⟩
 case round =>
  obtain ⟨i,hgk,hi,rfl,hC⟩:=hrel
  have HG:=toHidP hgk
  have HCR:=toHidP hC
  clear hgk hC
  by_cases hlt:i<d
  ·have hI:(i:Int)<(d:Int):=by omega
   go_wp2_with fail
   refine (put1 HCR.out ⟨#[32,32,32,32]⟩ (by decide)).mono ?_
   rintro ev w2 ⟨rfl,h2⟩
   have H2:=toHidP h2
   clear h2
   go_wp2_with fail
   go_roundg (d+1 - (i+1))
   case measure=>have:=HG.out;omega
   case rel=>exact ⟨i+1,rfl,by omega,by go_num,H2.out⟩
  ·obtain rfl:i=d:=by omega
   go_wp2_with fail
   go_end0
   exact ⟨rfl,HCR.out⟩
def NamesAt (w1:World) (p:Nat) (a:Option Addr) (n:Nat) (f:Nat→ByteArray):Prop:=∀ i,i<n → ∃ b o,a=some ⟨b,o,none⟩∧b<p∧w1.cell? ⟨b,o+i,none⟩=some (.string (f i))∧(f i).size≤4611686018427387904
theorem call_names1 (args:Array Value) (w:World):(callFunc 69 args).run Tryz.prog w = .ok (.enter 69 args) w:=by kernel_rfl
set_option maxHeartbeats 4000000 in
set_option maxRecDepth 100000 in
theorem names1_wt {p:Nat}{rk:Value}{w1:World}(a:Option Addr) (n c:Nat) (f:Nat→ByteArray) (h:NamesAt w1 p a n f) (b1 b2:Nat) (n1:b1≠p) (n2:b2≠p) (i:Nat) (hi:i<n) (w:World) (C:WT p rk w1 w) (x1:w.heap[b1]?=some (.cells #[.pointer (some ⟨p,0,none⟩)] 95)) (x2:w.heap[b2]?=some (.cells #[.slice a n c] 32)) :
  Calls Tryz.prog 69 #[.int .i64 (i:Int),.pointer (some ⟨b1,0,none⟩),.pointer (some ⟨b2,0,none⟩)] w fun ev w'=>ev = .returned (.tuple #[])∧WX p rk w1 w w':=by
 obtain ⟨b,o,rfl,hb,hc,hz⟩:=h i hi
 have c1:=cell_of_heap x1 rfl
 have c2:=cell_of_heap x2 rfl
 have c3:=C.old (a:=⟨b,o+i,none⟩) hb hc
 have hI:(i:Int)<(n:Int):=by omega
 have hI0:(0:Int)≤(i:Int):=by omega
 have hC:=WX.start C
 have HK:Hid (∀ w',WX p rk w1 w w'→w'.cell? ⟨b1,0,none⟩=some (.pointer (some ⟨p,0,none⟩))∧w'.cell? ⟨b2,0,none⟩=some (.slice (some ⟨b,o,none⟩) n c)∧w'.cell? ⟨b,o+i,none⟩=some (.string (f i))):=fun w' h=>⟨cell_of_heap (h.block x1 n1 (by decide)) rfl,cell_of_heap (h.block x2 n2 (by decide)) rfl,h.wt.old (a:=⟨b,o+i,none⟩) hb hc⟩
 clear x1 x2 hc h C
 go_enter Tryz.func69,Tryz.ntmps69
 go_wp2_with fail
 go_region_held3 (fun w'=>w'.cell? ⟨b1,0,none⟩=some (.pointer (some ⟨p,0,none⟩))∧w'.cell? ⟨b2,0,none⟩=some (.slice (some ⟨b,o,none⟩) n c)∧w'.cell? ⟨b,o+i,none⟩=some (.string (f i))) (first | with_reducible exact HK.out _ hC | with_reducible exact HK.out _ hC.drew | exact HK.out _ (hC.drew.alloc _)) ((go_at_call 49;refine (put1 hC.drew _ hz).mono ?_;rintro ev wx ⟨rfl,hx⟩;replace hC:=hx;clear hx))
 go_wp2_with fail
 go_end0
 exact ⟨rfl,hC⟩
set_option maxHeartbeats 4000000 in
set_option maxRecDepth 100000 in
theorem names_wt {p:Nat}{rk:Value}{w1:World}(a:Option Addr) (n c:Nat) (f:Nat→ByteArray) (h:NamesAt w1 p a n f) (hn:n≤4611686018427387904) (w:World) (C:WT p rk w1 w) :
  Calls Tryz.prog 54 #[.pointer (some ⟨p,0,none⟩),.slice a n c] w fun ev w'=>ev = .returned (.tuple #[])∧WX p rk w1 w w':=by
 obtain ⟨w2,hw2⟩:∃ w2,w2=(w.alloc (.cells #[.pointer (some ⟨p,0,none⟩)] 95)).alloc (.cells #[.slice a n c] 32):=⟨_,rfl⟩
 have hC2:WX p rk w1 w w2:=by rw [hw2];exact ((WX.start C).alloc _).alloc _
 have hs:(w.alloc (.cells #[.pointer (some ⟨p,0,none⟩)] 95)).heap.size=w.heap.size+1:=by simp
 have k1:w2.heap[w.heap.size]?=some (.cells #[.pointer (some ⟨p,0,none⟩)] 95):=by
  rw [hw2]
  exact (Below.heap_alloc _ _ _ (by omega)).trans (heap_alloc_new w _)
 have k2:w2.heap[w.heap.size+1]?=some (.cells #[.slice a n c] 32):=by
  have:=heap_alloc_new (w.alloc (.cells #[.pointer (some ⟨p,0,none⟩)] 95)) (.cells #[.slice a n c] 32)
  rw [hs] at this
  rw [hw2]
  exact this
 have hp:=C.lt
 have HV:=toHidP (several_wt 69 #[.pointer (some ⟨w.heap.size,0,none⟩),.pointer (some ⟨w.heap.size+1,0,none⟩)] n hn call_names1 w2 hC2.wt (fun i w' hi hx=>names1_wt a n c f h w.heap.size (w.heap.size+1) (by omega) (by omega) i hi w' hx.wt (hx.block k1 (by omega) (by decide)) (hx.block k2 (by omega) (by decide))))
 have HC2:=toHidP hC2
 have HW2:=toHidP hw2
 have hmf:∀ (fn:Fn) (first cap:Array Value) (w:World),(Instr.makeFunc fn first cap).run Tryz.prog w = .ok (.func fn first cap) w:=fun _ _ _ _=>rfl
 clear hC2 hw2 k1 k2 hs C h
 go_enter Tryz.func54,Tryz.ntmps54
 go_wp2_with fail
 rw [←HW2.out]
 refine HV.out.mono ?_
 rintro ev w3 ⟨rfl,h3⟩
 have H3:=toHidP (HC2.out.trans h3)
 clear h3
 go_wp2_with fail
 go_end0
 exact ⟨rfl,H3.out⟩
def RKL (p:Nat) (rk:Value) (w1:World):Prop:=∃ rb c,rk = .slice (some ⟨rb,0,none⟩) 8 c∧rb<p ∧ ∀ i,i<8 → ∃ b c',w1.cell? ⟨rb,i,none⟩=some (.slice (some ⟨b,0,none⟩) (rankOps i).length c')∧b<p∧TS w1 b 0 (rankOps i)
def rankP (s:ByteArray):Nat→Nat→Nat
 | 0,_=>8
 | f+1,i=>bif hasB (rankOps i) s then i else rankP s f (i+1)
def rankN (s:ByteArray):Nat:=rankP s 8 0
theorem rankP_le (s:ByteArray):∀ f i,i+f≤8→rankP s f i≤8
 | 0,_,_=>Nat.le_refl _
 | f+1,i,h=>by
  unfold rankP
  cases hasB (rankOps i) s
  ·exact rankP_le s f (i+1) (by omega)
  ·show i≤8
   omega
set_option maxHeartbeats 4000000 in
set_option maxRecDepth 100000 in
theorem rankOf_any {p:Nat}{rk:Value}{w1:World}(s:ByteArray) (w:World) (C:WT p rk w1 w) (R:RKL p rk w1) :
  Calls Tryz.prog 97 #[.pointer (some ⟨p,0,none⟩),.string s] w fun ev w'=>ev = .returned (.int .i64 (rankN s:Nat))∧w'=w:=by
 obtain ⟨rb,c,rfl,hrb,hr⟩:=R
 obtain ⟨pa,m,pc,tm,lost,_,c0,_,_,_,_⟩:=C.cells
 have HC:=toHidP C
 have HR:=toHidP hr
 clear C hr
 go_enter Tryz.func97,Tryz.ntmps97
 go_wp2_with fail
 go_loopg [12] 9 (fun gk v12 wr => ∃ i:Nat,gk=9 - i∧i≤8∧v12 = .int .i64 (i:Int)∧rankN s=rankP s (8 - i) i∧wr=w)
 case atStart=>exact ⟨0,rfl,Nat.zero_le _,rfl,rfl,rfl⟩
 case round =>
  obtain ⟨i,hgk,hi,rfl,hrn,rfl⟩:=hrel
  have HG:=toHidP hgk
  have HN:=toHidP hrn
  clear hgk hrn
  by_cases hlt:i<8
  ·have hI:(i:Int)<8:=by omega
   have hI0:(0:Int)≤(i:Int):=by omega
   obtain ⟨b,c',x0,hb,ht⟩:=HR.out i hlt
   have x1:=HC.out.old (a:=⟨rb,i,none⟩) hrb x0
   have HT:Hid (TS wr b 0 (rankOps i)):=fun j t hj=>HC.out.old (a:=⟨b,0+j,none⟩) hb (ht j t hj)
   have hlen:(rankOps i).length≤100:=by
    obtain rfl | rfl | rfl | rfl | rfl | rfl | rfl | rfl:i=0∨i=1∨i=2∨i=3∨i=4∨i=5∨i=6∨i=7:=by omega
    all_goals decide
   have HNX:Hid (rankP s (8 - i) i=bif hasB (rankOps i) s then i else rankP s (8 - (i+1)) (i+1)):=by
    obtain ⟨f,hf⟩:∃ f,8 - i=f+1:=⟨8 - i - 1,by omega⟩
    have e:8 - (i+1)=f:=by omega
    show _=_
    rw [hf,e]
    rfl
   clear x0 ht
   go_wp2_with fail
   refine (contains_any (rankOps i) s b 0 c' hlen wr HT.out).mono ?_
   rintro ev w2 ⟨rfl,rfl⟩
   cases hh:hasB (rankOps i) s with
   | true =>
    have HE:Hid (rankN s=i):=by show _=_;rw [HN.out,HNX.out,hh];rfl
    go_wp2_with fail
    go_ret
    exact ⟨by rw [HE.out];rfl,rfl⟩
   | false =>
    have HE:Hid (rankN s=rankP s (8 - (i+1)) (i+1)):=by show _=_;rw [HN.out,HNX.out,hh];rfl
    go_wp2_with fail
    go_roundg (9 - (i+1))
    case measure=>have:=HG.out;omega
    case rel=>exact ⟨i+1,rfl,by omega,by go_num,HE.out,rfl⟩
  ·obtain rfl:i=8:=by omega
   go_wp2_with fail
   go_ret
   exact ⟨by rw [HN.out];rfl,rfl⟩
end Go.Proofs.YtemapnogjepokaaGreatDoor

/- Package tree's writer: how many terms at least: partsOf, termsOf of any string. (Written by a program of ours: wrt/strs.py.) -/
namespace Go.Proofs.YtemapnogjepokaaGreatDoor
open Go.RowKit

theorem str_is {s:ByteArray}{l:List UInt8}(h:s.toList=l):s=⟨l.toArray⟩:=by
 apply ByteArray.ext
 rw [←h,ByteArray.toList_eq]
def partsL:List (List UInt8 × Nat):=[([105,110,116],0),([115,116,114],0),([78,111,110,101],0),([84,114,117,101],0),([70,97,108,115,101],0),([110,97,109,101],0),([108,105,115,116],0),([100,105,99,116],0),([110,101,103],1),([110,111,116],1),([99,97,108,108],1),([108,97,109,98,100,97],1)]
def partsN (s:ByteArray):Nat:=((partsL.find? fun x=>s.toList == x.1).map (·.2)).getD 2
theorem parts_0 (w:World):Calls Tryz.prog 96 #[.string ⟨#[105,110,116]⟩] w fun ev w'=>ev = .returned (.int .i64 (partsN ⟨#[105,110,116]⟩:Nat))∧w'=w:=by
 have e:partsN ⟨#[105,110,116]⟩=0:=by kernel_rfl
 rw [e]
 go_enter Tryz.func96,Tryz.ntmps96
 go_wp2
 go_ret
 exact ⟨rfl,rfl⟩
theorem parts_1 (w:World):Calls Tryz.prog 96 #[.string ⟨#[115,116,114]⟩] w fun ev w'=>ev = .returned (.int .i64 (partsN ⟨#[115,116,114]⟩:Nat))∧w'=w:=by
 have e:partsN ⟨#[115,116,114]⟩=0:=by kernel_rfl
 rw [e]
 go_enter Tryz.func96,Tryz.ntmps96
 go_wp2
 go_ret
 exact ⟨rfl,rfl⟩
theorem parts_2 (w:World):Calls Tryz.prog 96 #[.string ⟨#[78,111,110,101]⟩] w fun ev w'=>ev = .returned (.int .i64 (partsN ⟨#[78,111,110,101]⟩:Nat))∧w'=w:=by
 have e:partsN ⟨#[78,111,110,101]⟩=0:=by kernel_rfl
 rw [e]
 go_enter Tryz.func96,Tryz.ntmps96
 go_wp2
 go_ret
 exact ⟨rfl,rfl⟩
theorem parts_3 (w:World):Calls Tryz.prog 96 #[.string ⟨#[84,114,117,101]⟩] w fun ev w'=>ev = .returned (.int .i64 (partsN ⟨#[84,114,117,101]⟩:Nat))∧w'=w:=by
 have e:partsN ⟨#[84,114,117,101]⟩=0:=by kernel_rfl
 rw [e]
 go_enter Tryz.func96,Tryz.ntmps96
 go_wp2
 go_ret
 exact ⟨rfl,rfl⟩
theorem parts_4 (w:World):Calls Tryz.prog 96 #[.string ⟨#[70,97,108,115,101]⟩] w fun ev w'=>ev = .returned (.int .i64 (partsN ⟨#[70,97,108,115,101]⟩:Nat))∧w'=w:=by
 have e:partsN ⟨#[70,97,108,115,101]⟩=0:=by kernel_rfl
 rw [e]
 go_enter Tryz.func96,Tryz.ntmps96
 go_wp2
 go_ret
 exact ⟨rfl,rfl⟩
theorem parts_5 (w:World):Calls Tryz.prog 96 #[.string ⟨#[110,97,109,101]⟩] w fun ev w'=>ev = .returned (.int .i64 (partsN ⟨#[110,97,109,101]⟩:Nat))∧w'=w:=by
 have e:partsN ⟨#[110,97,109,101]⟩=0:=by kernel_rfl
 rw [e]
 go_enter Tryz.func96,Tryz.ntmps96
 go_wp2
 go_ret
 exact ⟨rfl,rfl⟩
theorem parts_6 (w:World):Calls Tryz.prog 96 #[.string ⟨#[108,105,115,116]⟩] w fun ev w'=>ev = .returned (.int .i64 (partsN ⟨#[108,105,115,116]⟩:Nat))∧w'=w:=by
 have e:partsN ⟨#[108,105,115,116]⟩=0:=by kernel_rfl
 rw [e]
 go_enter Tryz.func96,Tryz.ntmps96
 go_wp2
 go_ret
 exact ⟨rfl,rfl⟩
theorem parts_7 (w:World):Calls Tryz.prog 96 #[.string ⟨#[100,105,99,116]⟩] w fun ev w'=>ev = .returned (.int .i64 (partsN ⟨#[100,105,99,116]⟩:Nat))∧w'=w:=by
 have e:partsN ⟨#[100,105,99,116]⟩=0:=by kernel_rfl
 rw [e]
 go_enter Tryz.func96,Tryz.ntmps96
 go_wp2
 go_ret
 exact ⟨rfl,rfl⟩
theorem parts_8 (w:World):Calls Tryz.prog 96 #[.string ⟨#[110,101,103]⟩] w fun ev w'=>ev = .returned (.int .i64 (partsN ⟨#[110,101,103]⟩:Nat))∧w'=w:=by
 have e:partsN ⟨#[110,101,103]⟩=1:=by kernel_rfl
 rw [e]
 go_enter Tryz.func96,Tryz.ntmps96
 go_wp2
 go_ret
 exact ⟨rfl,rfl⟩
theorem parts_9 (w:World):Calls Tryz.prog 96 #[.string ⟨#[110,111,116]⟩] w fun ev w'=>ev = .returned (.int .i64 (partsN ⟨#[110,111,116]⟩:Nat))∧w'=w:=by
 have e:partsN ⟨#[110,111,116]⟩=1:=by kernel_rfl
 rw [e]
 go_enter Tryz.func96,Tryz.ntmps96
 go_wp2
 go_ret
 exact ⟨rfl,rfl⟩
theorem parts_10 (w:World):Calls Tryz.prog 96 #[.string ⟨#[99,97,108,108]⟩] w fun ev w'=>ev = .returned (.int .i64 (partsN ⟨#[99,97,108,108]⟩:Nat))∧w'=w:=by
 have e:partsN ⟨#[99,97,108,108]⟩=1:=by kernel_rfl
 rw [e]
 go_enter Tryz.func96,Tryz.ntmps96
 go_wp2
 go_ret
 exact ⟨rfl,rfl⟩
theorem parts_11 (w:World):Calls Tryz.prog 96 #[.string ⟨#[108,97,109,98,100,97]⟩] w fun ev w'=>ev = .returned (.int .i64 (partsN ⟨#[108,97,109,98,100,97]⟩:Nat))∧w'=w:=by
 have e:partsN ⟨#[108,97,109,98,100,97]⟩=1:=by kernel_rfl
 rw [e]
 go_enter Tryz.func96,Tryz.ntmps96
 go_wp2
 go_ret
 exact ⟨rfl,rfl⟩
theorem parts_other (s:ByteArray) (w:World) (n0:(s.toList == [105,110,116])=false) (n1:(s.toList == [115,116,114])=false) (n2:(s.toList == [78,111,110,101])=false) (n3:(s.toList == [84,114,117,101])=false) (n4:(s.toList == [70,97,108,115,101])=false) (n5:(s.toList == [110,97,109,101])=false) (n6:(s.toList == [108,105,115,116])=false) (n7:(s.toList == [100,105,99,116])=false) (n8:(s.toList == [110,101,103])=false) (n9:(s.toList == [110,111,116])=false) (n10:(s.toList == [99,97,108,108])=false) (n11:(s.toList == [108,97,109,98,100,97])=false):Calls Tryz.prog 96 #[.string s] w fun ev w'=>ev = .returned (.int .i64 (partsN s:Nat))∧w'=w:=by
 have e:partsN s=2:=by simp [partsN,partsL,List.find?,n0,n1,n2,n3,n4,n5,n6,n7,n8,n9,n10,n11]
 rw [e]
 go_enter Tryz.func96,Tryz.ntmps96
 go_wp2
 go_ret
 exact ⟨rfl,rfl⟩
theorem parts_any (s:ByteArray) (w:World):Calls Tryz.prog 96 #[.string s] w fun ev w'=>ev = .returned (.int .i64 (partsN s:Nat))∧w'=w:=by
 by_cases n0:(s.toList == [105,110,116])=true
 ·rw [str_is (beq_iff_eq.1 n0)]
  exact parts_0 w
 rw [Bool.not_eq_true] at n0
 by_cases n1:(s.toList == [115,116,114])=true
 ·rw [str_is (beq_iff_eq.1 n1)]
  exact parts_1 w
 rw [Bool.not_eq_true] at n1
 by_cases n2:(s.toList == [78,111,110,101])=true
 ·rw [str_is (beq_iff_eq.1 n2)]
  exact parts_2 w
 rw [Bool.not_eq_true] at n2
 by_cases n3:(s.toList == [84,114,117,101])=true
 ·rw [str_is (beq_iff_eq.1 n3)]
  exact parts_3 w
 rw [Bool.not_eq_true] at n3
 by_cases n4:(s.toList == [70,97,108,115,101])=true
 ·rw [str_is (beq_iff_eq.1 n4)]
  exact parts_4 w
 rw [Bool.not_eq_true] at n4
 by_cases n5:(s.toList == [110,97,109,101])=true
 ·rw [str_is (beq_iff_eq.1 n5)]
  exact parts_5 w
 rw [Bool.not_eq_true] at n5
 by_cases n6:(s.toList == [108,105,115,116])=true
 ·rw [str_is (beq_iff_eq.1 n6)]
  exact parts_6 w
 rw [Bool.not_eq_true] at n6
 by_cases n7:(s.toList == [100,105,99,116])=true
 ·rw [str_is (beq_iff_eq.1 n7)]
  exact parts_7 w
 rw [Bool.not_eq_true] at n7
 by_cases n8:(s.toList == [110,101,103])=true
 ·rw [str_is (beq_iff_eq.1 n8)]
  exact parts_8 w
 rw [Bool.not_eq_true] at n8
 by_cases n9:(s.toList == [110,111,116])=true
 ·rw [str_is (beq_iff_eq.1 n9)]
  exact parts_9 w
 rw [Bool.not_eq_true] at n9
 by_cases n10:(s.toList == [99,97,108,108])=true
 ·rw [str_is (beq_iff_eq.1 n10)]
  exact parts_10 w
 rw [Bool.not_eq_true] at n10
 by_cases n11:(s.toList == [108,97,109,98,100,97])=true
 ·rw [str_is (beq_iff_eq.1 n11)]
  exact parts_11 w
 rw [Bool.not_eq_true] at n11
 exact parts_other s w n0 n1 n2 n3 n4 n5 n6 n7 n8 n9 n10 n11
def termsL:List (List UInt8 × Nat):=[([101,120,112,114],1),([115,101,116],1),([105,102],1),([119,104,105,108,101],1),([102,111,114],1),([114,97,105,115,101],1),([100,101,108],2),([112,117,116],3)]
def termsN (s:ByteArray):Nat:=((termsL.find? fun x=>s.toList == x.1).map (·.2)).getD 0
theorem termsOf_0 (w:World):Calls Tryz.prog 50 #[.string ⟨#[101,120,112,114]⟩] w fun ev w'=>ev = .returned (.int .i64 (termsN ⟨#[101,120,112,114]⟩:Nat))∧w'=w:=by
 have e:termsN ⟨#[101,120,112,114]⟩=1:=by kernel_rfl
 rw [e]
 go_enter Tryz.func50,Tryz.ntmps50
 go_wp2
 go_ret
 exact ⟨rfl,rfl⟩
theorem termsOf_1 (w:World):Calls Tryz.prog 50 #[.string ⟨#[115,101,116]⟩] w fun ev w'=>ev = .returned (.int .i64 (termsN ⟨#[115,101,116]⟩:Nat))∧w'=w:=by
 have e:termsN ⟨#[115,101,116]⟩=1:=by kernel_rfl
 rw [e]
 go_enter Tryz.func50,Tryz.ntmps50
 go_wp2
 go_ret
 exact ⟨rfl,rfl⟩
theorem termsOf_2 (w:World):Calls Tryz.prog 50 #[.string ⟨#[105,102]⟩] w fun ev w'=>ev = .returned (.int .i64 (termsN ⟨#[105,102]⟩:Nat))∧w'=w:=by
 have e:termsN ⟨#[105,102]⟩=1:=by kernel_rfl
 rw [e]
 go_enter Tryz.func50,Tryz.ntmps50
 go_wp2
 go_ret
 exact ⟨rfl,rfl⟩
theorem termsOf_3 (w:World):Calls Tryz.prog 50 #[.string ⟨#[119,104,105,108,101]⟩] w fun ev w'=>ev = .returned (.int .i64 (termsN ⟨#[119,104,105,108,101]⟩:Nat))∧w'=w:=by
 have e:termsN ⟨#[119,104,105,108,101]⟩=1:=by kernel_rfl
 rw [e]
 go_enter Tryz.func50,Tryz.ntmps50
 go_wp2
 go_ret
 exact ⟨rfl,rfl⟩
theorem termsOf_4 (w:World):Calls Tryz.prog 50 #[.string ⟨#[102,111,114]⟩] w fun ev w'=>ev = .returned (.int .i64 (termsN ⟨#[102,111,114]⟩:Nat))∧w'=w:=by
 have e:termsN ⟨#[102,111,114]⟩=1:=by kernel_rfl
 rw [e]
 go_enter Tryz.func50,Tryz.ntmps50
 go_wp2
 go_ret
 exact ⟨rfl,rfl⟩
theorem termsOf_5 (w:World):Calls Tryz.prog 50 #[.string ⟨#[114,97,105,115,101]⟩] w fun ev w'=>ev = .returned (.int .i64 (termsN ⟨#[114,97,105,115,101]⟩:Nat))∧w'=w:=by
 have e:termsN ⟨#[114,97,105,115,101]⟩=1:=by kernel_rfl
 rw [e]
 go_enter Tryz.func50,Tryz.ntmps50
 go_wp2
 go_ret
 exact ⟨rfl,rfl⟩
theorem termsOf_6 (w:World):Calls Tryz.prog 50 #[.string ⟨#[100,101,108]⟩] w fun ev w'=>ev = .returned (.int .i64 (termsN ⟨#[100,101,108]⟩:Nat))∧w'=w:=by
 have e:termsN ⟨#[100,101,108]⟩=2:=by kernel_rfl
 rw [e]
 go_enter Tryz.func50,Tryz.ntmps50
 go_wp2
 go_ret
 exact ⟨rfl,rfl⟩
theorem termsOf_7 (w:World):Calls Tryz.prog 50 #[.string ⟨#[112,117,116]⟩] w fun ev w'=>ev = .returned (.int .i64 (termsN ⟨#[112,117,116]⟩:Nat))∧w'=w:=by
 have e:termsN ⟨#[112,117,116]⟩=3:=by kernel_rfl
 rw [e]
 go_enter Tryz.func50,Tryz.ntmps50
 go_wp2
 go_ret
 exact ⟨rfl,rfl⟩
theorem termsOf_other (s:ByteArray) (w:World) (n0:(s.toList == [101,120,112,114])=false) (n1:(s.toList == [115,101,116])=false) (n2:(s.toList == [105,102])=false) (n3:(s.toList == [119,104,105,108,101])=false) (n4:(s.toList == [102,111,114])=false) (n5:(s.toList == [114,97,105,115,101])=false) (n6:(s.toList == [100,101,108])=false) (n7:(s.toList == [112,117,116])=false):Calls Tryz.prog 50 #[.string s] w fun ev w'=>ev = .returned (.int .i64 (termsN s:Nat))∧w'=w:=by
 have e:termsN s=0:=by simp [termsN,termsL,List.find?,n0,n1,n2,n3,n4,n5,n6,n7]
 rw [e]
 go_enter Tryz.func50,Tryz.ntmps50
 go_wp2
 go_ret
 exact ⟨rfl,rfl⟩
theorem termsOf_any (s:ByteArray) (w:World):Calls Tryz.prog 50 #[.string s] w fun ev w'=>ev = .returned (.int .i64 (termsN s:Nat))∧w'=w:=by
 by_cases n0:(s.toList == [101,120,112,114])=true
 ·rw [str_is (beq_iff_eq.1 n0)]
  exact termsOf_0 w
 rw [Bool.not_eq_true] at n0
 by_cases n1:(s.toList == [115,101,116])=true
 ·rw [str_is (beq_iff_eq.1 n1)]
  exact termsOf_1 w
 rw [Bool.not_eq_true] at n1
 by_cases n2:(s.toList == [105,102])=true
 ·rw [str_is (beq_iff_eq.1 n2)]
  exact termsOf_2 w
 rw [Bool.not_eq_true] at n2
 by_cases n3:(s.toList == [119,104,105,108,101])=true
 ·rw [str_is (beq_iff_eq.1 n3)]
  exact termsOf_3 w
 rw [Bool.not_eq_true] at n3
 by_cases n4:(s.toList == [102,111,114])=true
 ·rw [str_is (beq_iff_eq.1 n4)]
  exact termsOf_4 w
 rw [Bool.not_eq_true] at n4
 by_cases n5:(s.toList == [114,97,105,115,101])=true
 ·rw [str_is (beq_iff_eq.1 n5)]
  exact termsOf_5 w
 rw [Bool.not_eq_true] at n5
 by_cases n6:(s.toList == [100,101,108])=true
 ·rw [str_is (beq_iff_eq.1 n6)]
  exact termsOf_6 w
 rw [Bool.not_eq_true] at n6
 by_cases n7:(s.toList == [112,117,116])=true
 ·rw [str_is (beq_iff_eq.1 n7)]
  exact termsOf_7 w
 rw [Bool.not_eq_true] at n7
 exact termsOf_other s w n0 n1 n2 n3 n4 n5 n6 n7
end Go.Proofs.YtemapnogjepokaaGreatDoor

/- Package tree's writer, whatever it is handed: terms in memory ahead of the writer; term, listed. -/
namespace Go.Proofs.YtemapnogjepokaaGreatDoor
open Go.RowKit Go.Lib

def TvRow (w1:World) (p:Nat) (q:ByteArray→Int→ByteArray→Option Addr→Nat→Nat→Option Addr→Nat→Nat→Prop) (a:Option Addr) (m:Nat):Prop:=
 ∀ i,i<m → ∃ b o,a=some ⟨b,o,none⟩∧b<p ∧ ∃ op z s pa pn pc la ln lc,w1.cell? ⟨b,o+i*5,none⟩=some (.string op)∧w1.cell? ⟨b,o+i*5+1,none⟩=some (.int .i64 z)∧w1.cell? ⟨b,o+i*5+2,none⟩=some (.string s)∧w1.cell? ⟨b,o+i*5+3,none⟩=some (.slice pa pn pc)∧w1.cell? ⟨b,o+i*5+4,none⟩=some (.slice la ln lc)∧q op z s pa pn pc la ln lc
def tv (w1:World) (p:Nat):Nat→ByteArray→Int→ByteArray→Option Addr→Nat→Nat→Option Addr→Nat→Nat→Prop
 | 0,_,_,_,_,_,_,_,_,_=>False
 | n+1,op,z,s,pa,pn,_,la,ln,lc=>op.size≤4611686018427387904∧s.size≤4611686018427387904 ∧ -9223372036854775808≤z∧z≤9223372036854775807∧pn≤4611686018427387904∧(∃ f,NamesAt w1 p pa pn f)∧ln≤lc∧ln≤1152921504606846976∧TvRow w1 p (tv w1 p n) la ln
def RW (p:Nat) (rk:Value) (w1:World) (n:Nat):Prop:=∀ (op:ByteArray) (z:Int) (s:ByteArray) (pa:Option Addr) (pn pc:Nat) (la:Option Addr) (ln lc:Nat),tv w1 p n op z s pa pn pc la ln lc → ∀ least:Nat,least≤20 → ∀ w,WT p rk w1 w →
 Calls Tryz.prog 67 #[.pointer (some ⟨p,0,none⟩),.agg #[.string op,.int .i64 z,.string s,.slice pa pn pc,.slice la ln lc],.int .i64 (least:Int)] w fun ev w'=>ev = .returned (.tuple #[])∧WX p rk w1 w w'
set_option maxHeartbeats 4000000 in
set_option maxRecDepth 100000 in
theorem term_wt {p:Nat}{rk:Value}{w1:World}{n:Nat}(H:RW p rk w1 n) {op:ByteArray}{z:Int}{s:ByteArray}{pa:Option Addr}{pn pc:Nat}{la:Option Addr}{ln lc:Nat}(ht:tv w1 p n op z s pa pn pc la ln lc) (w:World) (C:WT p rk w1 w) :
  Calls Tryz.prog 52 #[.pointer (some ⟨p,0,none⟩),.agg #[.string op,.int .i64 z,.string s,.slice pa pn pc,.slice la ln lc]] w fun ev w'=>ev = .returned (.tuple #[])∧WX p rk w1 w w':=by
 have hC:=WX.start C
 have HC:=toHidP hC
 have HH:=toHidP H
 have HT:=toHidP ht
 clear C hC H ht
 go_enter Tryz.func52,Tryz.ntmps52
 go_wp2_with fail
 refine (HH.out _ _ _ _ _ _ _ _ _ HT.out 0 (by omega) _ (HC.out.alloc _).wt).mono ?_
 rintro ev w2 ⟨rfl,h2⟩
 have H2:=toHidP ((HC.out.alloc _).trans h2)
 clear h2
 go_wp2_with fail
 go_end0
 exact ⟨rfl,H2.out⟩
theorem call_listed1 (args:Array Value) (w:World):(callFunc 134 args).run Tryz.prog w = .ok (.enter 134 args) w:=by kernel_rfl
set_option maxHeartbeats 4000000 in
set_option maxRecDepth 100000 in
theorem listed1_wt {p:Nat}{rk:Value}{w1:World}{n:Nat}(H:RW p rk w1 n) (a:Option Addr) (m c:Nat) (h:TvRow w1 p (tv w1 p n) a m) (b1 b2:Nat) (n1:b1≠p) (n2:b2≠p) (i:Nat) (hi:i<m) (w:World) (C:WT p rk w1 w) (x1:w.heap[b1]?=some (.cells #[.pointer (some ⟨p,0,none⟩)] 95)) (x2:w.heap[b2]?=some (.cells #[.slice a m c] 49)) :
  Calls Tryz.prog 134 #[.int .i64 (i:Int),.pointer (some ⟨b1,0,none⟩),.pointer (some ⟨b2,0,none⟩)] w fun ev w'=>ev = .returned (.tuple #[])∧WX p rk w1 w w':=by
 obtain ⟨b,o,rfl,hb,op,z,s,pa,pn,pc,la,ln,lc,k0,k1,k2,k3,k4,ht⟩:=h i hi
 have c1:=cell_of_heap x1 rfl
 have c2:=cell_of_heap x2 rfl
 have d0:=C.old (a:=⟨b,o+i*5,none⟩) hb k0
 have d1:=C.old (a:=⟨b,o+i*5+1,none⟩) hb k1
 have d2:=C.old (a:=⟨b,o+i*5+2,none⟩) hb k2
 have d3:=C.old (a:=⟨b,o+i*5+3,none⟩) hb k3
 have d4:=C.old (a:=⟨b,o+i*5+4,none⟩) hb k4
 have hI:(i:Int)<(m:Int):=by omega
 have hI0:(0:Int)≤(i:Int):=by omega
 have hC:=WX.start C
 have HH:=toHidP H
 have HT:=toHidP ht
 have HK:Hid (∀ w',WX p rk w1 w w'→w'.cell? ⟨b1,0,none⟩=some (.pointer (some ⟨p,0,none⟩))∧w'.cell? ⟨b2,0,none⟩=some (.slice (some ⟨b,o,none⟩) m c)∧w'.cell? ⟨b,o+i*5,none⟩=some (.string op)∧w'.cell? ⟨b,o+i*5+1,none⟩=some (.int .i64 z)∧w'.cell? ⟨b,o+i*5+2,none⟩=some (.string s)∧w'.cell? ⟨b,o+i*5+3,none⟩=some (.slice pa pn pc)∧w'.cell? ⟨b,o+i*5+4,none⟩=some (.slice la ln lc)):=fun w' h=>⟨cell_of_heap (h.block x1 n1 (by decide)) rfl,cell_of_heap (h.block x2 n2 (by decide)) rfl,h.wt.old (a:=⟨b,o+i*5,none⟩) hb k0,h.wt.old (a:=⟨b,o+i*5+1,none⟩) hb k1,h.wt.old (a:=⟨b,o+i*5+2,none⟩) hb k2,h.wt.old (a:=⟨b,o+i*5+3,none⟩) hb k3,h.wt.old (a:=⟨b,o+i*5+4,none⟩) hb k4⟩
 clear x1 x2 k0 k1 k2 k3 k4 h C H ht
 go_enter Tryz.func134,Tryz.ntmps134
 go_wp2_with fail
 go_region_held3 (fun w'=>w'.cell? ⟨b1,0,none⟩=some (.pointer (some ⟨p,0,none⟩))∧w'.cell? ⟨b2,0,none⟩=some (.slice (some ⟨b,o,none⟩) m c)∧w'.cell? ⟨b,o+i*5,none⟩=some (.string op)∧w'.cell? ⟨b,o+i*5+1,none⟩=some (.int .i64 z)∧w'.cell? ⟨b,o+i*5+2,none⟩=some (.string s)∧w'.cell? ⟨b,o+i*5+3,none⟩=some (.slice pa pn pc)∧w'.cell? ⟨b,o+i*5+4,none⟩=some (.slice la ln lc)) (first | with_reducible exact HK.out _ hC | with_reducible exact HK.out _ hC.drew | exact HK.out _ (hC.drew.alloc _)) ((go_at_call 52;refine (term_wt HH.out HT.out _ hC.drew.wt).mono ?_;rintro ev wx ⟨rfl,hx⟩;replace hC:=hC.drew.trans hx;clear hx))
 go_wp2_with fail
 go_end0
 exact ⟨rfl,hC⟩
end Go.Proofs.YtemapnogjepokaaGreatDoor

/- Package tree's writer, whatever it is handed: listed. -/
namespace Go.Proofs.YtemapnogjepokaaGreatDoor
open Go.RowKit Go.Lib

set_option maxHeartbeats 4000000 in
set_option maxRecDepth 100000 in
theorem listed_wt {p:Nat}{rk:Value}{w1:World}{n:Nat}(H:RW p rk w1 n) (so sc:ByteArray) (hso:so.size≤1000) (hsc:sc.size≤1000) (a:Option Addr) (m c:Nat) (h:TvRow w1 p (tv w1 p n) a m) (hm:m≤1152921504606846976) (w:World) (C:WT p rk w1 w) :
  Calls Tryz.prog 99 #[.pointer (some ⟨p,0,none⟩),.string so,.slice a m c,.string sc] w fun ev w'=>ev = .returned (.tuple #[])∧WX p rk w1 w w':=by
 obtain ⟨w2,hw2⟩:∃ w2,w2=(w.alloc (.cells #[.pointer (some ⟨p,0,none⟩)] 95)).alloc (.cells #[.slice a m c] 49):=⟨_,rfl⟩
 have hC2:WX p rk w1 w w2:=by rw [hw2];exact ((WX.start C).alloc _).alloc _
 have hs:(w.alloc (.cells #[.pointer (some ⟨p,0,none⟩)] 95)).heap.size=w.heap.size+1:=by simp
 have k1:w2.heap[w.heap.size]?=some (.cells #[.pointer (some ⟨p,0,none⟩)] 95):=by
  rw [hw2]
  exact (Below.heap_alloc _ _ _ (by omega)).trans (heap_alloc_new w _)
 have k2:w2.heap[w.heap.size+1]?=some (.cells #[.slice a m c] 49):=by
  have:=heap_alloc_new (w.alloc (.cells #[.pointer (some ⟨p,0,none⟩)] 95)) (.cells #[.slice a m c] 49)
  rw [hs] at this
  rw [hw2]
  exact this
 have hp:=C.lt
 have HV:Hid (∀ w3,WX p rk w1 w2 w3→Calls Tryz.prog 68 #[.pointer (some ⟨p,0,none⟩),.int .i64 (m:Int),.func (.func 134) #[] #[.pointer (some ⟨w.heap.size,0,none⟩),.pointer (some ⟨w.heap.size+1,0,none⟩)]] w3 fun ev w'=>ev = .returned (.tuple #[])∧WX p rk w1 w3 w'):=fun w3 h3=>several_wt 134 #[.pointer (some ⟨w.heap.size,0,none⟩),.pointer (some ⟨w.heap.size+1,0,none⟩)] m (by omega) call_listed1 w3 h3.wt (fun i w' hi hx=>listed1_wt H a m c h w.heap.size (w.heap.size+1) (by omega) (by omega) i hi w' hx.wt ((h3.trans hx).block k1 (by omega) (by decide)) ((h3.trans hx).block k2 (by omega) (by decide)))
 have HK:Hid (∀ w3,WX p rk w1 w2 w3→w3.cell? ⟨w.heap.size,0,none⟩=some (.pointer (some ⟨p,0,none⟩))∧w3.cell? ⟨w.heap.size+1,0,none⟩=some (.slice a m c)):=fun w3 h3=>⟨cell_of_heap (h3.block k1 (by omega) (by decide)) rfl,cell_of_heap (h3.block k2 (by omega) (by decide)) rfl⟩
 have HS2:Hid (w.heap.size+1+1=w2.heap.size):=by show _=_;rw [hw2];simp
 have HC2:=toHidP hC2
 have HW2:=toHidP hw2
 have hmf:∀ (fn:Fn) (first cap:Array Value) (w:World),(Instr.makeFunc fn first cap).run Tryz.prog w = .ok (.func fn first cap) w:=fun _ _ _ _=>rfl
 clear hC2 hw2 k1 k2 hs C h H
 go_enter Tryz.func99,Tryz.ntmps99
 go_wp2_with fail
 rw [←HW2.out,HS2.out]
 refine (put1 (WX.start HC2.out.wt) so (by omega)).mono ?_
 rintro ev w3 ⟨rfl,h3⟩
 have H3:=toHidP h3
 obtain ⟨e1,e2⟩:=HK.out w3 h3
 clear h3
 go_wp2_with fail
 refine (HV.out w3 H3.out).mono ?_
 rintro ev w4 ⟨rfl,h4⟩
 have H4:=toHidP (H3.out.trans h4)
 obtain ⟨f1,f2⟩:=HK.out w4 H4.out
 clear h4 e1 e2
 go_wp2_with fail
 refine (put1 (HC2.out.trans H4.out) sc (by omega)).mono ?_
 rintro ev w5 ⟨rfl,h5⟩
 have H5:=toHidP h5
 clear h5 f1 f2
 go_wp2_with fail
 go_end0
 exact ⟨rfl,H5.out⟩
end Go.Proofs.YtemapnogjepokaaGreatDoor

/- Package tree's writer, whatever it is handed: index, pairs, lambda, sides, str. -/
namespace Go.Proofs.YtemapnogjepokaaGreatDoor
open Go.RowKit Go.Lib

theorem TvRow.first {w1:World}{p:Nat}{q:ByteArray→Int→ByteArray→Option Addr→Nat→Nat→Option Addr→Nat→Nat→Prop}{a:Option Addr}{m:Nat}(h:TvRow w1 p q a m) (h0:0<m):∃ b o,a=some ⟨b,o,none⟩∧b<p ∧ ∃ op z s pa pn pc la ln lc,w1.cell? ⟨b,o,none⟩=some (.string op)∧w1.cell? ⟨b,o+1,none⟩=some (.int .i64 z)∧w1.cell? ⟨b,o+2,none⟩=some (.string s)∧w1.cell? ⟨b,o+3,none⟩=some (.slice pa pn pc)∧w1.cell? ⟨b,o+4,none⟩=some (.slice la ln lc)∧q op z s pa pn pc la ln lc:=by
 obtain ⟨b,o,e,hb,op,z,s,pa,pn,pc,la,ln,lc,k0,k1,k2,k3,k4,ht⟩:=h 0 h0
 simp only [Nat.zero_mul,Nat.add_zero] at k0 k1 k2 k3 k4
 exact ⟨b,o,e,hb,op,z,s,pa,pn,pc,la,ln,lc,k0,k1,k2,k3,k4,ht⟩
theorem TvRow.rest {w1:World}{p:Nat}{q:ByteArray→Int→ByteArray→Option Addr→Nat→Nat→Option Addr→Nat→Nat→Prop}{b o m k:Nat}(h:TvRow w1 p q (some ⟨b,o,none⟩) m) (hk:k+1≤m):TvRow w1 p q (some ⟨b,o+5,none⟩) k:=fun i hi=>by
 obtain ⟨b',o',e,hb,op,z,s,pa,pn,pc,la,ln,lc,k0,k1,k2,k3,k4,ht⟩:=h (i+1) (by omega)
 cases e
 have e:o+(i+1)*5=o+5+i*5:=by omega
 rw [e] at k0 k1 k2 k3 k4
 exact ⟨b,o+5,rfl,hb,op,z,s,pa,pn,pc,la,ln,lc,k0,k1,k2,k3,k4,ht⟩
theorem TvRow.none_of {w1:World}{p:Nat}{q:ByteArray→Int→ByteArray→Option Addr→Nat→Nat→Option Addr→Nat→Nat→Prop}(a:Option Addr):TvRow w1 p q a 0:=fun i hi=>absurd hi (by omega)
set_option maxHeartbeats 4000000 in
set_option maxRecDepth 100000 in
theorem index_wt {p:Nat}{rk:Value}{w1:World}{n:Nat}(H:RW p rk w1 n) (a:Option Addr) (m c:Nat) (h:TvRow w1 p (tv w1 p n) a m) (h2:2≤m) (hmc:m≤c) (w:World) (C:WT p rk w1 w) :
  Calls Tryz.prog 70 #[.pointer (some ⟨p,0,none⟩),.slice a m c] w fun ev w'=>ev = .returned (.tuple #[])∧WX p rk w1 w w':=by
 obtain ⟨b,o,rfl,hb,op,z,s,pa,pn,pc,la,ln,lc,k0,k1,k2,k3,k4,ht⟩:=h.first (by omega)
 have d0:=C.old (a:=⟨b,o,none⟩) hb k0
 have d1:=C.old (a:=⟨b,o+1,none⟩) hb k1
 have d2:=C.old (a:=⟨b,o+2,none⟩) hb k2
 have d3:=C.old (a:=⟨b,o+3,none⟩) hb k3
 have d4:=C.old (a:=⟨b,o+4,none⟩) hb k4
 have hM:(0:Int)<(m:Int):=by omega
 have hc1:¬ c=1:=by omega
 have hc2:2≤c:=by omega
 have HH:=toHidP H
 have HT:=toHidP ht
 have HR:=toHidP (h.rest (k:=1) (by omega))
 have HC:=toHidP C
 clear k0 k1 k2 k3 k4 H ht h C
 go_enter Tryz.func70,Tryz.ntmps70
 go_wp2_with fail
 refine (HH.out _ _ _ _ _ _ _ _ _ HT.out 8 (by omega) _ HC.out).mono ?_
 rintro ev w2 ⟨rfl,hx⟩
 have H2:=toHidP hx
 clear hx d0 d1 d2 d3 d4
 go_wp2_with fail
 refine (listed_wt HH.out ⟨#[91]⟩ ⟨#[93]⟩ (by decide) (by decide) _ 1 _ HR.out (by omega) _ H2.out.wt).mono ?_
 rintro ev w3 ⟨rfl,hx⟩
 have H3:=toHidP (H2.out.trans hx)
 clear hx
 go_wp2_with fail
 go_end0
 exact ⟨rfl,H3.out⟩
end Go.Proofs.YtemapnogjepokaaGreatDoor
