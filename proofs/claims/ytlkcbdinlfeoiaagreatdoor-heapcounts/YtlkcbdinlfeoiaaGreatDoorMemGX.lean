/- An object's fields as texts (tellFields), by a contract. -/
import Derived.Test.YtlkcbdinlfeoiaaGreatDoorKnBA
namespace Go.Proofs.YtlkcbdinlfeoiaaGreatDoor
open Go.Proofs.Tryz
open Go.RowKit Go.Maps

theorem Zlz:∃ i0,prog.info? 9=some i0∧i0.zero=some (.string ⟨#[]⟩)∧i0.size=1∧i0.bytes=16:=info_parts (by kernel_rfl)
theorem Zee (n:Nat) (hn:n≤300000) (w:World) :
  (Instr.makeSlice 90 (.int .i64 (n:Int)) (.int .i64 (n:Int))).run prog w = .ok (.slice (some ⟨w.heap.size,0,none⟩) n n) (w.alloc (.cells (Array.replicate n (.string ⟨#[]⟩)) 9)):=by
 obtain ⟨i,hi,hz,h1,h8⟩:=Zlz
 have h:=run_make (P:=prog) w 90 9 i (.string ⟨#[]⟩) underlying90 hi hz .i64 .i64 (n:Int) (n:Int) (by omega) (by omega) (by rw [h8];omega) (by omega)
 rw [h,h1]
 have e:madeCells (Value.string ⟨#[]⟩).cells ((n:Int).toNat*1)=Array.replicate n (.string ⟨#[]⟩):=by
  apply Array.ext
  ·simp [madeCells]
  ·intro i h1 h2
   have e0:i % 1=0:=Nat.mod_one i
   simp [madeCells,Value.cells,e0]
 rw [e]
 simp
def Z29 (kd:Int) (out:List Nat) (x:Int):ByteArray:=if kd<8 then s0x++⟨(Z50 x.toNat 16).toArray⟩ else Z10 out x
def Z4g (ts:List ByteArray) (w:World) (ev:Ending) (w':World):Prop:=∃ q,ev = .returned (.slice (some ⟨q,0,none⟩) ts.length ts.length)∧w.heap.size≤q∧w'.heap[q]?=some (.cells (ts.map Value.string).toArray 9)∧Below w.heap.size w w'
theorem Zgk {cur:Array Value}{ts:List ByteArray}{k:Nat}{t:ByteArray} (hs:cur.size=ts.length) (ht:ts[k]?=some t) (h:cur.toList.take k=(ts.take k).map Value.string):(cur.setIfInBounds k (.string t)).toList.take (k+1)=(ts.take (k+1)).map Value.string:=by
 have hk:k<ts.length:=(List.getElem?_eq_some_iff.1 ht).1
 rw [Array.toList_setIfInBounds,List.take_add_one,List.take_set_of_le (Nat.le_refl _),h,List.take_add_one,ht,List.map_append]
 congr 1
 rw [List.getElem?_set_self (by simp;omega)]
 rfl
set_option maxHeartbeats 4000000 in
set_option maxRecDepth 100000 in
theorem Z9t  (f0 kd:Int) (hk0:0≤kd) (bm ol oc fc:Nat) (oo fo:Option Addr) (out:List Nat) (xs:List Int) (h64:U64 xs) (hl:xs.length≤300000) (hk8:kd<8) (w:World) (hz:Zcy w) (hR:Z3m w (.slice fo xs.length fc) xs.length (Z04 xs)) :
  Calls prog 101 #[.agg #[.slice oo ol oc,.map (some bm)],.agg #[.int .i64 f0,.int .i64 kd,.slice fo xs.length fc]] w (Z4g (xs.map (Z29 kd out)) w):=by
 have HC:Hid (∀ x∈xs,∀ W,Below w.heap.size w W→Calls prog 150 #[.int .u64 x] W fun ev w'=>ev = .returned (.string (Z29 kd out x))∧Below W.heap.size W w'):=fun x hx W hW=>by
  obtain ⟨y,rfl⟩:∃ y:Nat,x=(y:Int):=⟨x.toNat,by have:=h64 x hx;omega⟩
  have h:=Zfv y (by have:=h64 _ hx;omega) W (hz.below hW (Nat.le_refl _))
  have e:Z29 kd out (y:Int)=s0x++⟨(Z50 y 16).toArray⟩:=by unfold Z29;rw [if_pos hk8,Int.toNat_natCast]
  rw [e]
  exact h
 obtain ⟨PP,hPP⟩:∃ PP,PP=Z4g (xs.map (Z29 kd out)) w:=⟨_,rfl⟩
 rw [←hPP]
 have HPP:=Z00 hPP
 have HR:=Z00 hR
 have hrb:Hid (decide (kd<8)=true):=decide_eq_true hk8
 have km:=fun W=>Zee xs.length hl W
 clear h64 hz hR hPP hk8
 generalize Z29 kd out=T at *
 go_enter func101,ntmps101
 go_upto_block 0 with (go_at_call 149;refine (Z24 kd hk0 _).mono ?_;rintro ev wz ⟨rfl,hwz⟩;rw [hwz,hrb.out];clear hwz wz)
 obtain ⟨w3,hw3⟩:∃ w3,w3=((w.alloc (.cells #[.slice oo ol oc,.map (some bm)] 138)).alloc (.cells #[.int .i64 f0,.int .i64 kd,.slice fo xs.length fc] 141)).alloc (.cells (Array.replicate xs.length (.string ⟨#[]⟩)) 9):=⟨_,rfl⟩
 obtain ⟨q,hq⟩:∃ q,q=w.heap.size+1+1:=⟨_,rfl⟩
 have ob:w3.heap[q]?=some (.cells (Array.replicate xs.length (.string ⟨#[]⟩)) 9):=by
  rw [hw3,hq]
  have h:=heap_alloc_new ((w.alloc (.cells #[.slice oo ol oc,.map (some bm)] 138)).alloc (.cells #[.int .i64 f0,.int .i64 kd,.slice fo xs.length fc] 141)) (.cells (Array.replicate xs.length (.string ⟨#[]⟩)) 9)
  simpa using h
 have b3:Below w.heap.size w w3:=by rw [hw3];exact (((Below.refl _ _).alloc (Nat.le_refl _) _).alloc (by simp) _).alloc (by simp;omega) _
 have hqw:w.heap.size≤q:=by omega
 rw [←hw3,←hq]
 have HOB:=Z00 ob
 have HB3:=Z00 b3
 clear hw3 hq ob b3 km
 go_wp2_with fail
 go_loopg [21] (xs.length+1) (fun gk vi wr => ∃ (k:Nat) (cur:Array Value),gk=xs.length+1 - k∧k≤xs.length∧vi = .int .i64 (k:Int)∧Below w.heap.size w wr∧wr.heap[q]?=some (.cells cur 9)∧cur.size=xs.length∧Hid (cur.toList.take k=((xs.map T).take k).map Value.string))
 case atStart=>exact ⟨0,_,rfl,Nat.zero_le _,rfl,HB3.out,HOB.out,by simp,rfl⟩
 case round =>
  obtain ⟨k,cur,hgk,hk,rfl,hb,ho,hs,hcur⟩:=hrel
  have HG:=Z00 hgk
  have HB:=Z00 hb
  have HO:=Z00 ho
  have HS:=Z00 hs
  have hk0':(0:Int)≤(k:Int):=by omega
  clear hgk hb ho
  by_cases hlt:k<xs.length
  ·have hI:(k:Int)<(xs.length:Int):=by omega
   obtain ⟨x,hx⟩:∃ x,xs[k]?=some x:=⟨_,List.getElem?_eq_getElem hlt⟩
   obtain ⟨_,_,e,_,f1⟩:=HR.out
   cases e
   obtain ⟨p1,o1,rfl,l1,g1⟩:=f1 (by omega)
   have r0:wr.cell? ⟨p1,o1+k,none⟩=some (.int .u64 x):=(HB.out.cell (p:=⟨p1,o1+k,none⟩) l1).trans (g1 k _ (Z2f hx))
   have kt:=HC.out x (List.mem_of_getElem? hx) wr HB.out
   have hT:(xs.map T)[k]?=some (T x):=by rw [List.getElem?_map,hx];rfl
   have HP:Hid ((cur.setIfInBounds k (.string (T x))).toList.take (k+1)=((xs.map T).take (k+1)).map Value.string):=Zgk (by rw [List.length_map];exact hs) hT hcur.out
   generalize T x=tx at *
   clear f1 g1 hx hT hcur hs
   go_wp2_with fail
   refine kt.mono ?_
   rintro ev w4 ⟨rfl,hb4⟩
   have ho4:w4.heap[q]?=some (.cells cur 9):=(hb4.block q (Z01 HO.out)).trans HO.out
   obtain ⟨v0,hv0⟩:∃ v0,cur[k]?=some v0:=⟨_,Array.getElem?_eq_getElem (by rw [HS.out];exact hlt)⟩
   have c0:w4.cell? ⟨q,k,none⟩=some v0:=by rw [cell_of_row _ _ _ _ _ _ ho4];exact hv0
   have z0:w4.frozen? ⟨q,k,none⟩=false:=Lib.frozen_of_heap ho4 k
   have HO4:=Z00 ho4
   have HB4:=Z00 (HB.out.trans (hb4.mono HB.out.size))
   clear ho4 hb4 hv0 kt
   go_wp2_with fail
   go_roundg (xs.length+1 - (k+1))
   case measure=>have:=HG.out;omega
   case rel=>exact ⟨k+1,_,rfl,by omega,by go_num,HB4.out.setCell (p:=⟨q,k,none⟩) hqw _,Z06 HO4.out,by rw [Array.size_setIfInBounds];exact HS.out,HP.out⟩
  ·have hI:¬ (k:Int)<(xs.length:Int):=by omega
   have HE:Hid (PP (.returned (.slice (some ⟨q,0,none⟩) xs.length xs.length)) wr):=by
    rw [HPP.out]
    have hkk:k=xs.length:=by omega
    have h1:=hcur.out
    rw [hkk,List.take_of_length_le (by simp [hs]),List.take_of_length_le (by simp)] at h1
    refine ⟨q,by rw [List.length_map],hqw,?_,HB.out⟩
    rw [←h1]
    exact HO.out
   clear hcur
   go_wp2_with fail
   exact HE.out
set_option maxHeartbeats 4000000 in
set_option maxRecDepth 100000 in
theorem Z9w (a:Nat→Addr) (n:Nat) (D:DataW Unit) (f0 kd:Int) (hk0:0≤kd) (bm ol oc fc:Nat) (oo fo:Option Addr) (out:List Nat) (xs:List Int) (h64:U64 xs) (hl:xs.length≤300000) (hn:out.length≤300000) (hD:GNum D out) (hk8:¬ kd<8) (hcon:∀ x∈xs,(x % 4=2→x / 4≤2)∧x % 4≠3∧(x / 4≤1099511627776∨x % 4=1)) (w:World) (E:WErr a w) (ht:Z2e w) (hM:w.ownsMap prog 81 (plainElem prog 3) bm n D) (hR:Z3m w (.slice fo xs.length fc) xs.length (Z04 xs)) :
  Calls prog 101 #[.agg #[.slice oo ol oc,.map (some bm)],.agg #[.int .i64 f0,.int .i64 kd,.slice fo xs.length fc]] w (Z4g (xs.map (Z29 kd out)) w):=by
 have HC:Hid (∀ x∈xs,∀ W,Below w.heap.size w W→Calls prog 100 #[.agg #[.slice oo ol oc,.map (some bm)],.int .u64 x] W fun ev w'=>ev = .returned (.string (Z29 kd out x))∧Below W.heap.size W w'):=fun x hx W hW=>by
  have e:Z29 kd out x=Z10 out x:=by unfold Z29;rw [if_neg hk8]
  rw [e]
  obtain ⟨k1,k2,k3⟩:=hcon x hx
  exact Z7x a bm n ol oc oo D out hn hD x (h64 x hx).1 (h64 x hx).2 k1 k2 k3 W (E.below hW) (ht.below hW (Nat.le_refl _)) (Z2y hM hW)
 obtain ⟨PP,hPP⟩:∃ PP,PP=Z4g (xs.map (Z29 kd out)) w:=⟨_,rfl⟩
 rw [←hPP]
 have HPP:=Z00 hPP
 have HR:=Z00 hR
 have hrb:Hid (decide (kd<8)=false):=decide_eq_false hk8
 have km:=fun W=>Zee xs.length hl W
 clear h64 hn hD hM E ht hR hPP hk8 hcon
 generalize Z29 kd out=T at *
 go_enter func101,ntmps101
 go_upto_block 0 with (go_at_call 149;refine (Z24 kd hk0 _).mono ?_;rintro ev wz ⟨rfl,hwz⟩;rw [hwz,hrb.out];clear hwz wz)
 obtain ⟨w3,hw3⟩:∃ w3,w3=((w.alloc (.cells #[.slice oo ol oc,.map (some bm)] 138)).alloc (.cells #[.int .i64 f0,.int .i64 kd,.slice fo xs.length fc] 141)).alloc (.cells (Array.replicate xs.length (.string ⟨#[]⟩)) 9):=⟨_,rfl⟩
 obtain ⟨q,hq⟩:∃ q,q=w.heap.size+1+1:=⟨_,rfl⟩
 have ob:w3.heap[q]?=some (.cells (Array.replicate xs.length (.string ⟨#[]⟩)) 9):=by
  rw [hw3,hq]
  have h:=heap_alloc_new ((w.alloc (.cells #[.slice oo ol oc,.map (some bm)] 138)).alloc (.cells #[.int .i64 f0,.int .i64 kd,.slice fo xs.length fc] 141)) (.cells (Array.replicate xs.length (.string ⟨#[]⟩)) 9)
  simpa using h
 have b3:Below w.heap.size w w3:=by rw [hw3];exact (((Below.refl _ _).alloc (Nat.le_refl _) _).alloc (by simp) _).alloc (by simp;omega) _
 have hqw:w.heap.size≤q:=by omega
 rw [←hw3,←hq]
 have HOB:=Z00 ob
 have HB3:=Z00 b3
 clear hw3 hq ob b3 km
 go_wp2_with fail
 go_loopg [21] (xs.length+1) (fun gk vi wr => ∃ (k:Nat) (cur:Array Value),gk=xs.length+1 - k∧k≤xs.length∧vi = .int .i64 (k:Int)∧Below w.heap.size w wr∧wr.heap[q]?=some (.cells cur 9)∧cur.size=xs.length∧Hid (cur.toList.take k=((xs.map T).take k).map Value.string))
 case atStart=>exact ⟨0,_,rfl,Nat.zero_le _,rfl,HB3.out,HOB.out,by simp,rfl⟩
 case round =>
  obtain ⟨k,cur,hgk,hk,rfl,hb,ho,hs,hcur⟩:=hrel
  have HG:=Z00 hgk
  have HB:=Z00 hb
  have HO:=Z00 ho
  have HS:=Z00 hs
  have hk0':(0:Int)≤(k:Int):=by omega
  clear hgk hb ho
  by_cases hlt:k<xs.length
  ·have hI:(k:Int)<(xs.length:Int):=by omega
   obtain ⟨x,hx⟩:∃ x,xs[k]?=some x:=⟨_,List.getElem?_eq_getElem hlt⟩
   obtain ⟨_,_,e,_,f1⟩:=HR.out
   cases e
   obtain ⟨p1,o1,rfl,l1,g1⟩:=f1 (by omega)
   have r0:wr.cell? ⟨p1,o1+k,none⟩=some (.int .u64 x):=(HB.out.cell (p:=⟨p1,o1+k,none⟩) l1).trans (g1 k _ (Z2f hx))
   have kt:=HC.out x (List.mem_of_getElem? hx) wr HB.out
   have hT:(xs.map T)[k]?=some (T x):=by rw [List.getElem?_map,hx];rfl
   have HP:Hid ((cur.setIfInBounds k (.string (T x))).toList.take (k+1)=((xs.map T).take (k+1)).map Value.string):=Zgk (by rw [List.length_map];exact hs) hT hcur.out
   generalize T x=tx at *
   clear f1 g1 hx hT hcur hs
   go_wp2_with fail
   refine kt.mono ?_
   rintro ev w4 ⟨rfl,hb4⟩
   have ho4:w4.heap[q]?=some (.cells cur 9):=(hb4.block q (Z01 HO.out)).trans HO.out
   obtain ⟨v0,hv0⟩:∃ v0,cur[k]?=some v0:=⟨_,Array.getElem?_eq_getElem (by rw [HS.out];exact hlt)⟩
   have c0:w4.cell? ⟨q,k,none⟩=some v0:=by rw [cell_of_row _ _ _ _ _ _ ho4];exact hv0
   have z0:w4.frozen? ⟨q,k,none⟩=false:=Lib.frozen_of_heap ho4 k
   have HO4:=Z00 ho4
   have HB4:=Z00 (HB.out.trans (hb4.mono HB.out.size))
   clear ho4 hb4 hv0 kt
   go_wp2_with fail
   go_roundg (xs.length+1 - (k+1))
   case measure=>have:=HG.out;omega
   case rel=>exact ⟨k+1,_,rfl,by omega,by go_num,HB4.out.setCell (p:=⟨q,k,none⟩) hqw _,Z06 HO4.out,by rw [Array.size_setIfInBounds];exact HS.out,HP.out⟩
  ·have hI:¬ (k:Int)<(xs.length:Int):=by omega
   have HE:Hid (PP (.returned (.slice (some ⟨q,0,none⟩) xs.length xs.length)) wr):=by
    rw [HPP.out]
    have hkk:k=xs.length:=by omega
    have h1:=hcur.out
    rw [hkk,List.take_of_length_le (by simp [hs]),List.take_of_length_le (by simp)] at h1
    refine ⟨q,by rw [List.length_map],hqw,?_,HB.out⟩
    rw [←h1]
    exact HO.out
   clear hcur
   go_wp2_with fail
   exact HE.out
theorem Z9u (a:Nat→Addr) (n:Nat) (D:DataW Unit) (f0 kd:Int) (hk0:0≤kd) (bm ol oc fc:Nat) (oo fo:Option Addr) (out:List Nat) (xs:List Int) (h64:U64 xs) (hl:xs.length≤300000) (hn:out.length≤300000) (hD:GNum D out) (hcon:¬ kd<8 → ∀ x∈xs,(x % 4=2→x / 4≤2)∧x % 4≠3∧(x / 4≤1099511627776∨x % 4=1)) (w:World) (E:WErr a w) (ht:Z2e w) (hz:Zcy w) (hM:w.ownsMap prog 81 (plainElem prog 3) bm n D) (hR:Z3m w (.slice fo xs.length fc) xs.length (Z04 xs)) :
  Calls prog 101 #[.agg #[.slice oo ol oc,.map (some bm)],.agg #[.int .i64 f0,.int .i64 kd,.slice fo xs.length fc]] w (Z4g (xs.map (Z29 kd out)) w):=by
 by_cases hk:kd<8
 ·exact Z9t f0 kd hk0 bm ol oc fc oo fo out xs h64 hl hk w hz hR
 ·exact Z9w a n D f0 kd hk0 bm ol oc fc oo fo out xs h64 hl hn hD hk (hcon hk) w E ht hM hR
end Go.Proofs.YtlkcbdinlfeoiaaGreatDoor
