/- An object's fields as texts (tellFields), by a contract. -/
import Derived.Test.YtlkcbdinlfeoiaaGreatDoorKnBA
namespace Go.Proofs.YtlkcbdinlfeoiaaGreatDoor
open Go.Proofs.Tryz Go.RowKit
set_option maxHeartbeats 8000000
set_option maxRecDepth 100000
section
open Go.Maps
theorem Zno:∃ i0,prog.info? 9=some i0/\i0.zero=some (.string ⟨#[]⟩)/\i0.size=1/\i0.bytes=16:=U3g (by kernel_rfl)
theorem Zcn (n:Nat) (hn:n<=300000) (w:World) :
  (Instr.makeSlice 90 (.int .i64 (n:Int)) (.int .i64 (n:Int))).run prog w = .ok (.slice (some ⟨w.heap.size,0,none⟩) n n) (w.alloc (.cells (Array.replicate n (.string ⟨#[]⟩)) 9)):=by
 obtain ⟨i,hi,hz,h1,h8⟩:=Zno
 have h:=run_make (P:=prog) w 90 9 i (.string ⟨#[]⟩) underlying90 hi hz .i64 .i64 (n:Int) (n:Int) (by omega) (by omega) (by rw [h8];omega) (by omega)
 rw [h,h1]
 have e:madeCells (Value.string ⟨#[]⟩).cells ((n:Int).toNat*1)=Array.replicate n (.string ⟨#[]⟩):=by
  apply Array.ext
  ·simp [madeCells]
  ·intro i h1 h2
   have e0:i % 1=0:=U55 i
   simp [madeCells,Value.cells,e0]
 rw [e]
 simp
def Z24 (kd:Int) (out:List Nat) (x:Int):ByteArray:=if kd<8 then s0x++⟨(Z5a x.toNat 16).toArray⟩ else Z12 out x
def Z4c (ts:List ByteArray) (w:World) (ev:Ending) (w':World):Prop:=∃ q,ev = .returned (.slice (some ⟨q,0,none⟩) ts.length ts.length)/\w.heap.size<=q/\w'.heap[q]?=some (.cells (ts.map Value.string).toArray 9)/\Below w.heap.size w w'
theorem Zhj {cur:Array Value}{ts:List ByteArray}{k:Nat}{t:ByteArray} (hs:cur.size=ts.length) (ht:ts[k]?=some t) (h:cur.toList.take k=(ts.take k).map Value.string):(cur.setIfInBounds k (.string t)).toList.take (k+1)=(ts.take (k+1)).map Value.string:=by
 have hk:k<ts.length:=(U0e.1 ht).1
 rw [U42,U1g,List.take_set_of_le (U02 _),h,U1g,ht,U1b]
 congr 1
 rw [U18 (by simp;omega)]
 rfl
theorem Z9t  (f0 kd:Int) (hk0:0<=kd) (bm ol oc fc:Nat) (oo fo:Option Addr) (out:List Nat) (xs:List Int) (h64:U64 xs) (hl:xs.length<=300000) (hk8:kd<8) (w:World) (hz:Zem w) (hR:Z4g w (.slice fo xs.length fc) xs.length (Z05 xs)) :
  Calls prog 101 #[.agg #[.slice oo ol oc,.map (some bm)],.agg #[.int .i64 f0,.int .i64 kd,.slice fo xs.length fc]] w (Z4c (xs.map (Z24 kd out)) w):=by
 have HC:Hid (∀ x∈xs,∀ W,Below w.heap.size w W->Calls prog 150 #[.int .u64 x] W fun ev w'=>ev = .returned (.string (Z24 kd out x))/\Below W.heap.size W w'):=fun x hx W hW=>by
  obtain ⟨y,rfl⟩:∃ y:Nat,x=(y:Int):=⟨x.toNat,by have:=h64 x hx;omega⟩
  have h:=Zgj y (by have:=h64 _ hx;omega) W (hz.below hW (U02 _))
  have e:Z24 kd out (y:Int)=s0x++⟨(Z5a y 16).toArray⟩:=by unfold Z24;rw [U09 hk8,U1t]
  rw [e]
  exact h
 obtain ⟨PP,hPP⟩:∃ PP,PP=Z4c (xs.map (Z24 kd out)) w:=⟨_,rfl⟩
 rw [<-hPP]
 have HPP:=Z00 hPP
 have HR:=Z00 hR
 have hrb:Hid (decide (kd<8)=true):=U0d hk8
 have km:=fun W=>Zcn xs.length hl W
 clear h64 hz hR hPP hk8
 generalize Z24 kd out=T at *
 go_enter func101,ntmps101
 go_upto_block 0 with (go_at_call 149;refine (Z21 kd hk0 _).mono ?_;rintro ev wz ⟨rfl,hwz⟩;rw [hwz,hrb.out];clear hwz wz)
 obtain ⟨w3,hw3⟩:∃ w3,w3=((w.alloc (.cells #[.slice oo ol oc,.map (some bm)] 138)).alloc (.cells #[.int .i64 f0,.int .i64 kd,.slice fo xs.length fc] 141)).alloc (.cells (Array.replicate xs.length (.string ⟨#[]⟩)) 9):=⟨_,rfl⟩
 obtain ⟨q,hq⟩:∃ q,q=w.heap.size+1+1:=⟨_,rfl⟩
 have ob:w3.heap[q]?=some (.cells (Array.replicate xs.length (.string ⟨#[]⟩)) 9):=by
  rw [hw3,hq]
  have h:=U0b ((w.alloc (.cells #[.slice oo ol oc,.map (some bm)] 138)).alloc (.cells #[.int .i64 f0,.int .i64 kd,.slice fo xs.length fc] 141)) (.cells (Array.replicate xs.length (.string ⟨#[]⟩)) 9)
  simpa using h
 have b3:Below w.heap.size w w3:=by rw [hw3];exact (((U01 _ _).alloc (U02 _) _).alloc (by simp) _).alloc (by simp;omega) _
 have hqw:w.heap.size<=q:=by omega
 rw [<-hw3,<-hq]
 have HOB:=Z00 ob
 have HB3:=Z00 b3
 clear hw3 hq ob b3 km
 go_wp2_with fail
 go_loopg [21] (xs.length+1) (fun gk vi wr => ∃ (k:Nat) (cur:Array Value),gk=xs.length+1 - k/\k<=xs.length/\vi = .int .i64 (k:Int)/\Below w.heap.size w wr/\wr.heap[q]?=some (.cells cur 9)/\cur.size=xs.length/\Hid (cur.toList.take k=((xs.map T).take k).map Value.string))
 case atStart=>exact ⟨0,_,rfl,U0x _,rfl,HB3.out,HOB.out,by simp,rfl⟩
 case round =>
  obtain ⟨k,cur,hgk,hk,rfl,hb,ho,hs,hcur⟩:=hrel
  have HG:=Z00 hgk
  have HB:=Z00 hb
  have HO:=Z00 ho
  have HS:=Z00 hs
  have hk0':(0:Int)<=(k:Int):=by omega
  clear hgk hb ho
  by_cases hlt:k<xs.length
  ·have hI:(k:Int)<(xs.length:Int):=by omega
   obtain ⟨x,hx⟩:∃ x,xs[k]?=some x:=⟨_,U03 hlt⟩
   obtain ⟨_,_,e,_,f1⟩:=HR.out
   cases e
   obtain ⟨p1,o1,rfl,l1,g1⟩:=f1 (by omega)
   have r0:wr.cell? ⟨p1,o1+k,none⟩=some (.int .u64 x):=(HB.out.cell (p:=⟨p1,o1+k,none⟩) l1).trans (g1 k _ (Z2d hx))
   have kt:=HC.out x (U0a hx) wr HB.out
   have hT:(xs.map T)[k]?=some (T x):=by rw [U0g,hx];rfl
   have HP:Hid ((cur.setIfInBounds k (.string (T x))).toList.take (k+1)=((xs.map T).take (k+1)).map Value.string):=Zhj (by rw [U0v];exact hs) hT hcur.out
   generalize T x=tx at *
   clear f1 g1 hx hT hcur hs
   go_wp2_with fail
   refine kt.mono ?_
   rintro ev w4 ⟨rfl,hb4⟩
   have ho4:w4.heap[q]?=some (.cells cur 9):=(hb4.block q (Z01 HO.out)).trans HO.out
   obtain ⟨v0,hv0⟩:∃ v0,cur[k]?=some v0:=⟨_,U2a (by rw [HS.out];exact hlt)⟩
   have c0:w4.cell? ⟨q,k,none⟩=some v0:=by rw [U06 _ _ _ _ _ _ ho4];exact hv0
   have z0:w4.frozen? ⟨q,k,none⟩=false:=U37 ho4 k
   have HO4:=Z00 ho4
   have HB4:=Z00 (HB.out.trans (hb4.mono HB.out.size))
   clear ho4 hb4 hv0 kt
   go_wp2_with fail
   go_roundg (xs.length+1 - (k+1))
   case measure=>have:=HG.out;omega
   case rel=>exact ⟨k+1,_,rfl,by omega,by go_num,HB4.out.setCell (p:=⟨q,k,none⟩) hqw _,Z06 HO4.out,by rw [U3l];exact HS.out,HP.out⟩
  ·have hI:¬ (k:Int)<(xs.length:Int):=by omega
   have HE:Hid (PP (.returned (.slice (some ⟨q,0,none⟩) xs.length xs.length)) wr):=by
    rw [HPP.out]
    have hkk:k=xs.length:=by omega
    have h1:=hcur.out
    rw [hkk,U13 (by simp [hs]),U13 (by simp)] at h1
    refine ⟨q,by rw [U0v],hqw,?_,HB.out⟩
    rw [<-h1]
    exact HO.out
   clear hcur
   go_wp2_with fail
   exact HE.out
theorem Z9n (a:Nat->Addr) (n:Nat) (D:DataW Unit) (f0 kd:Int) (hk0:0<=kd) (bm ol oc fc:Nat) (oo fo:Option Addr) (out:List Nat) (xs:List Int) (h64:U64 xs) (hl:xs.length<=300000) (hn:out.length<=300000) (hD:GNum D out) (hk8:¬ kd<8) (hcon:∀ x∈xs,(x % 4=2->x / 4<=2)/\x % 4≠3/\(x / 4<=1099511627776\/x % 4=1)) (w:World) (E:WErr a w) (ht:Z2b w) (hM:w.ownsMap prog 81 (plainElem prog 3) bm n D) (hR:Z4g w (.slice fo xs.length fc) xs.length (Z05 xs)) :
  Calls prog 101 #[.agg #[.slice oo ol oc,.map (some bm)],.agg #[.int .i64 f0,.int .i64 kd,.slice fo xs.length fc]] w (Z4c (xs.map (Z24 kd out)) w):=by
 have HC:Hid (∀ x∈xs,∀ W,Below w.heap.size w W->Calls prog 100 #[.agg #[.slice oo ol oc,.map (some bm)],.int .u64 x] W fun ev w'=>ev = .returned (.string (Z24 kd out x))/\Below W.heap.size W w'):=fun x hx W hW=>by
  have e:Z24 kd out x=Z12 out x:=by unfold Z24;rw [U08 hk8]
  rw [e]
  obtain ⟨k1,k2,k3⟩:=hcon x hx
  exact Z84 a bm n ol oc oo D out hn hD x (h64 x hx).1 (h64 x hx).2 k1 k2 k3 W (E.below hW) (ht.below hW (U02 _)) (Z2v hM hW)
 obtain ⟨PP,hPP⟩:∃ PP,PP=Z4c (xs.map (Z24 kd out)) w:=⟨_,rfl⟩
 rw [<-hPP]
 have HPP:=Z00 hPP
 have HR:=Z00 hR
 have hrb:Hid (decide (kd<8)=false):=U0k hk8
 have km:=fun W=>Zcn xs.length hl W
 clear h64 hn hD hM E ht hR hPP hk8 hcon
 generalize Z24 kd out=T at *
 go_enter func101,ntmps101
 go_upto_block 0 with (go_at_call 149;refine (Z21 kd hk0 _).mono ?_;rintro ev wz ⟨rfl,hwz⟩;rw [hwz,hrb.out];clear hwz wz)
 obtain ⟨w3,hw3⟩:∃ w3,w3=((w.alloc (.cells #[.slice oo ol oc,.map (some bm)] 138)).alloc (.cells #[.int .i64 f0,.int .i64 kd,.slice fo xs.length fc] 141)).alloc (.cells (Array.replicate xs.length (.string ⟨#[]⟩)) 9):=⟨_,rfl⟩
 obtain ⟨q,hq⟩:∃ q,q=w.heap.size+1+1:=⟨_,rfl⟩
 have ob:w3.heap[q]?=some (.cells (Array.replicate xs.length (.string ⟨#[]⟩)) 9):=by
  rw [hw3,hq]
  have h:=U0b ((w.alloc (.cells #[.slice oo ol oc,.map (some bm)] 138)).alloc (.cells #[.int .i64 f0,.int .i64 kd,.slice fo xs.length fc] 141)) (.cells (Array.replicate xs.length (.string ⟨#[]⟩)) 9)
  simpa using h
 have b3:Below w.heap.size w w3:=by rw [hw3];exact (((U01 _ _).alloc (U02 _) _).alloc (by simp) _).alloc (by simp;omega) _
 have hqw:w.heap.size<=q:=by omega
 rw [<-hw3,<-hq]
 have HOB:=Z00 ob
 have HB3:=Z00 b3
 clear hw3 hq ob b3 km
 go_wp2_with fail
 go_loopg [21] (xs.length+1) (fun gk vi wr => ∃ (k:Nat) (cur:Array Value),gk=xs.length+1 - k/\k<=xs.length/\vi = .int .i64 (k:Int)/\Below w.heap.size w wr/\wr.heap[q]?=some (.cells cur 9)/\cur.size=xs.length/\Hid (cur.toList.take k=((xs.map T).take k).map Value.string))
 case atStart=>exact ⟨0,_,rfl,U0x _,rfl,HB3.out,HOB.out,by simp,rfl⟩
 case round =>
  obtain ⟨k,cur,hgk,hk,rfl,hb,ho,hs,hcur⟩:=hrel
  have HG:=Z00 hgk
  have HB:=Z00 hb
  have HO:=Z00 ho
  have HS:=Z00 hs
  have hk0':(0:Int)<=(k:Int):=by omega
  clear hgk hb ho
  by_cases hlt:k<xs.length
  ·have hI:(k:Int)<(xs.length:Int):=by omega
   obtain ⟨x,hx⟩:∃ x,xs[k]?=some x:=⟨_,U03 hlt⟩
   obtain ⟨_,_,e,_,f1⟩:=HR.out
   cases e
   obtain ⟨p1,o1,rfl,l1,g1⟩:=f1 (by omega)
   have r0:wr.cell? ⟨p1,o1+k,none⟩=some (.int .u64 x):=(HB.out.cell (p:=⟨p1,o1+k,none⟩) l1).trans (g1 k _ (Z2d hx))
   have kt:=HC.out x (U0a hx) wr HB.out
   have hT:(xs.map T)[k]?=some (T x):=by rw [U0g,hx];rfl
   have HP:Hid ((cur.setIfInBounds k (.string (T x))).toList.take (k+1)=((xs.map T).take (k+1)).map Value.string):=Zhj (by rw [U0v];exact hs) hT hcur.out
   generalize T x=tx at *
   clear f1 g1 hx hT hcur hs
   go_wp2_with fail
   refine kt.mono ?_
   rintro ev w4 ⟨rfl,hb4⟩
   have ho4:w4.heap[q]?=some (.cells cur 9):=(hb4.block q (Z01 HO.out)).trans HO.out
   obtain ⟨v0,hv0⟩:∃ v0,cur[k]?=some v0:=⟨_,U2a (by rw [HS.out];exact hlt)⟩
   have c0:w4.cell? ⟨q,k,none⟩=some v0:=by rw [U06 _ _ _ _ _ _ ho4];exact hv0
   have z0:w4.frozen? ⟨q,k,none⟩=false:=U37 ho4 k
   have HO4:=Z00 ho4
   have HB4:=Z00 (HB.out.trans (hb4.mono HB.out.size))
   clear ho4 hb4 hv0 kt
   go_wp2_with fail
   go_roundg (xs.length+1 - (k+1))
   case measure=>have:=HG.out;omega
   case rel=>exact ⟨k+1,_,rfl,by omega,by go_num,HB4.out.setCell (p:=⟨q,k,none⟩) hqw _,Z06 HO4.out,by rw [U3l];exact HS.out,HP.out⟩
  ·have hI:¬ (k:Int)<(xs.length:Int):=by omega
   have HE:Hid (PP (.returned (.slice (some ⟨q,0,none⟩) xs.length xs.length)) wr):=by
    rw [HPP.out]
    have hkk:k=xs.length:=by omega
    have h1:=hcur.out
    rw [hkk,U13 (by simp [hs]),U13 (by simp)] at h1
    refine ⟨q,by rw [U0v],hqw,?_,HB.out⟩
    rw [<-h1]
    exact HO.out
   clear hcur
   go_wp2_with fail
   exact HE.out
theorem Z9r (a:Nat->Addr) (n:Nat) (D:DataW Unit) (f0 kd:Int) (hk0:0<=kd) (bm ol oc fc:Nat) (oo fo:Option Addr) (out:List Nat) (xs:List Int) (h64:U64 xs) (hl:xs.length<=300000) (hn:out.length<=300000) (hD:GNum D out) (hcon:¬ kd<8 -> ∀ x∈xs,(x % 4=2->x / 4<=2)/\x % 4≠3/\(x / 4<=1099511627776\/x % 4=1)) (w:World) (E:WErr a w) (ht:Z2b w) (hz:Zem w) (hM:w.ownsMap prog 81 (plainElem prog 3) bm n D) (hR:Z4g w (.slice fo xs.length fc) xs.length (Z05 xs)) :
  Calls prog 101 #[.agg #[.slice oo ol oc,.map (some bm)],.agg #[.int .i64 f0,.int .i64 kd,.slice fo xs.length fc]] w (Z4c (xs.map (Z24 kd out)) w):=by
 by_cases hk:kd<8
 ·exact Z9t f0 kd hk0 bm ol oc fc oo fo out xs h64 hl hk w hz hR
 ·exact Z9n a n D f0 kd hk0 bm ol oc fc oo fo out xs h64 hl hn hD hk (hcon hk) w E ht hM hR
end
end Go.Proofs.YtlkcbdinlfeoiaaGreatDoor
