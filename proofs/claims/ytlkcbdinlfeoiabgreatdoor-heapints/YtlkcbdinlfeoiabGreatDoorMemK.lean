/- Package mem: words that point to objects, by contracts. -/
import Derived.Test.YtlkcbdinlfeoiabGreatDoorKnAB
namespace Go.Proofs.YtlkcbdinlfeoiabGreatDoor
open Go.RowKit

theorem raw_any (k:Int) (h0:0≤k) (w:World):Calls Tryz.prog 86 #[.int .i64 k] w fun ev w'=>ev = .returned (.bool (decide (k<8)))∧w'=w:=by
 have hm:=mwithin_any k 0 7 w
 have e:(decide (0≤k) && decide (k≤7))=decide (k<8):=by
  rw [decide_eq_true h0,Bool.true_and]
  exact decide_eq_decide.2 (by omega)
 rw [e] at hm
 generalize decide (k<8)=b at *
 clear e
 go_enter Tryz.func86,Tryz.ntmps86
 go_wp2_with fail
 refine hm.mono ?_
 rintro ev w1 ⟨rfl,hq⟩
 rw [hq]
 go_wp2_with fail
 go_ret
 exact ⟨rfl,rfl⟩
theorem words_any (k g m s:Int) (h0:0≤s) (h1:s≤4096) (w:World):Calls Tryz.prog 133 #[.agg #[.int .i64 k,.int .i64 g,.int .i64 m,.int .i64 s]] w fun ev w'=>ev = .returned (.int .i64 (1+s))∧Below w.heap.size w w':=by
 go_enter Tryz.func133,Tryz.ntmps133
 go_wp2
 go_ret
 exact ⟨rfl,(Below.refl _ _).alloc (Nat.le_refl _) _⟩

def HeadsAt (w:World) (bh nH:Nat) (hb:Nat→Bool):Prop:=∀ i,i<nH→w.cell? ⟨bh,i,none⟩=some (.bool (hb i))
theorem HeadsAt.below {w w':World}{bh nH B:Nat}{hb:Nat→Bool} (h:HeadsAt w bh nH hb) (hw:Below B w w') (hB:bh<B):HeadsAt w' bh nH hb:=fun i hi=>(hw.cell (p:=⟨bh,i,none⟩) hB).trans (h i hi)
theorem begins_any (bh nH:Nat) (hb:Nat→Bool) (n:Nat) (w:World) (H:HeadsAt w bh nH hb) :
  Calls Tryz.prog 132 #[.slice (some ⟨bh,0,none⟩) nH nH,.int .i64 (n:Int)] w fun ev w'=>ev = .returned (.bool (decide (n<nH) && hb n))∧w'=w:=by
 by_cases hn:n<nH
 ·have c:=H n hn
  have hI:(n:Int)<(nH:Int):=by omega
  have hI0:(0:Int)≤(n:Int):=by omega
  rw [decide_eq_true hn,Bool.true_and]
  generalize hb n=b at *
  go_enter Tryz.func132,Tryz.ntmps132
  go_wp2
  go_ret
  exact ⟨rfl,rfl⟩
 ·have hI:¬ (n:Int)<(nH:Int):=by omega
  rw [decide_eq_false hn,Bool.false_and]
  go_enter Tryz.func132,Tryz.ntmps132
  go_wp2
  go_ret
  exact ⟨rfl,rfl⟩

theorem comesC_ok (n x:Int) (c1:0≤n) (c2:n≤2) (w:World) :
  Calls Tryz.prog 124 #[.int .i64 n,.int .u64 x,.func (.func 135) #[] #[]] w fun ev w'=>ev = .returned (.bool (n*4+2 == x))∧Below w.heap.size w w':=by
 have h:=ofConst_ok n c1 c2 w
 go_enter Tryz.func124,Tryz.ntmps124
 go_wp2_with fail
 refine h.mono ?_
 rintro ev w1 ⟨rfl,hb⟩
 go_wp2
 go_ret
 exact ⟨rfl,hb⟩
theorem comesC_no (a:Nat→Addr) (n x:Int) (hn:n<0∨2<n) (w:World) (E:WErr a w) :
  Calls Tryz.prog 124 #[.int .i64 n,.int .u64 x,.func (.func 135) #[] #[]] w fun ev w'=>ev = .returned (.bool false)∧Below w.heap.size w w':=by
 have h:=ofConst_no a n hn w E
 go_enter Tryz.func124,Tryz.ntmps124
 go_wp2_with fail
 refine h.mono ?_
 rintro ev w1 ⟨rfl,hb⟩
 unfold errV
 go_wp2
 go_ret
 exact ⟨rfl,hb⟩
theorem toConst_ok (x:Int) (hx:x % 4=2) (h0:0≤x) (h1:x / 4≤2) (w:World) :
  Calls Tryz.prog 98 #[.int .u64 x] w fun ev w'=>ev = .returned (.tuple #[.int .i64 (x / 4),.nilIface])∧Below w.heap.size w w':=by
 have h:=comesC_ok (x / 4) x (by omega) h1 w
 have hm:(x / 4*4+2 == x)=true:=by
  rw [beq_iff_eq]
  omega
 rw [hm] at h
 clear hm
 go_enter Tryz.func98,Tryz.ntmps98
 go_wp2_with fail
 refine h.mono ?_
 rintro ev w1 ⟨rfl,hb⟩
 go_wp2
 go_ret2
 exact ⟨rfl,hb⟩
theorem toConst_no (a:Nat→Addr) (x:Int) (h0:0≤x) (h1:x<18446744073709551616) (h2:2<x / 4) (w:World) (E:WErr a w) :
  Calls Tryz.prog 98 #[.int .u64 x] w fun ev w'=>ev = .returned (.tuple #[.int .i64 0,errV a 2])∧Below w.heap.size w w':=by
 have h:=comesC_no a (x / 4) x (.inr h2) w E
 go_enter Tryz.func98,Tryz.ntmps98
 go_wp2_with fail
 refine h.mono ?_
 rintro ev w1 ⟨rfl,hb⟩
 have k2:=(E.below hb).c2
 go_wp2
 go_quiet (fail)
 go_wp2
 go_ret2
 exact ⟨rfl,below_drewN hb⟩

def ptrB (nH:Nat) (hb:Nat→Bool) (x:Int):Bool:=decide (x % 4=0∧4≤x) && (decide ((x / 4 - 1).toNat<nH) && hb (x / 4 - 1).toNat)
theorem pointed_any (a:Nat→Addr) (bh nH:Nat) (hb:Nat→Bool) (hn:nH≤300000) (x:Int) (h0:0≤x) (h1:x<18446744073709551616) (w:World) (E:WErr a w) (H:HeadsAt w bh nH hb) (hbl:bh<w.heap.size) :
  Calls Tryz.prog 129 #[.slice (some ⟨bh,0,none⟩) nH nH,.int .u64 x] w fun ev w'=>ev = .returned (.bool (ptrB nH hb x))∧Below w.heap.size w w':=by
 by_cases hx:x % 4=0∧4≤x∧x / 4 - 1≤1099511627776
 ·obtain ⟨d0,d1,d2⟩:=hx
  obtain ⟨n,hnn⟩:∃ n:Nat,(n:Int)=x / 4 - 1:=⟨(x / 4 - 1).toNat,by omega⟩
  have e:ptrB nH hb x=(decide (n<nH) && hb n):=by
   unfold ptrB
   rw [decide_eq_true (And.intro d0 d1),Bool.true_and,←hnn]
   rfl
  rw [e]
  have ht:=toAddr_ok x d0 d1 d2 w
  rw [←hnn] at ht
  clear hnn d0 d1 d2 e
  go_enter Tryz.func129,Tryz.ntmps129
  go_wp2_with fail
  refine ht.mono ?_
  rintro ev w1 ⟨rfl,hw1⟩
  go_wp2_with fail
  refine (begins_any bh nH hb n w1 (H.below hw1 hbl)).mono ?_
  rintro ev w2 ⟨rfl,hq⟩
  rw [hq]
  clear hq w2
  go_wp2_with fail
  go_ret
  exact ⟨rfl,hw1⟩
 ·have e:ptrB nH hb x=false:=by
   unfold ptrB
   rw [Bool.and_eq_false_iff,Bool.and_eq_false_iff,decide_eq_false_iff_not,decide_eq_false_iff_not]
   omega
  rw [e]
  have ht:=toAddr_no a x h0 h1 hx w E
  unfold errV at ht
  go_enter Tryz.func129,Tryz.ntmps129
  go_wp2_with fail
  refine ht.mono ?_
  rintro ev w1 ⟨rfl,hw1⟩
  go_wp2_with fail
  go_ret
  exact ⟨rfl,hw1⟩
def fieldB (nH:Nat) (hb:Nat→Bool) (x:Int):Bool:=if x % 4=1 then true else if x % 4=2 then decide (x / 4≤2) else (x == 0) || ptrB nH hb x
theorem holds_any (a:Nat→Addr) (bh nH:Nat) (hb:Nat→Bool) (hn:nH≤300000) (x:Int) (h0:0≤x) (h1:x<18446744073709551616) (w:World) (E:WErr a w) (H:HeadsAt w bh nH hb) (hbl:bh<w.heap.size) :
  Calls Tryz.prog 128 #[.slice (some ⟨bh,0,none⟩) nH nH,.int .u64 x] w fun ev w'=>ev = .returned (.bool (fieldB nH hb x))∧Below w.heap.size w w':=by
 have kk:=kind_any x h0 h1 w
 by_cases x1:x % 4=1
 ·have e:fieldB nH hb x=true:=by unfold fieldB;rw [if_pos x1]
  rw [e]
  go_enter Tryz.func128,Tryz.ntmps128
  go_wp2_with fail
  refine kk.mono ?_
  rintro ev w1 ⟨rfl,hq⟩
  rw [hq,x1]
  clear hq w1
  go_wp2_with fail
  go_ret
  exact ⟨rfl,Below.refl _ _⟩
 ·by_cases x2:x % 4=2
  ·by_cases x3:x / 4≤2
   ·have e:fieldB nH hb x=true:=by unfold fieldB;rw [if_neg x1,if_pos x2,decide_eq_true x3]
    rw [e]
    have kt:=toConst_ok x x2 h0 x3 w
    go_enter Tryz.func128,Tryz.ntmps128
    go_wp2_with fail
    refine kk.mono ?_
    rintro ev w1 ⟨rfl,hq⟩
    rw [hq,x2]
    clear hq w1
    go_wp2_with fail
    refine kt.mono ?_
    rintro ev w1 ⟨rfl,hb1⟩
    go_wp2_with fail
    go_ret
    exact ⟨rfl,hb1⟩
   ·have e:fieldB nH hb x=false:=by unfold fieldB;rw [if_neg x1,if_pos x2,decide_eq_false x3]
    rw [e]
    have kt:=toConst_no a x h0 h1 (by omega) w E
    unfold errV at kt
    go_enter Tryz.func128,Tryz.ntmps128
    go_wp2_with fail
    refine kk.mono ?_
    rintro ev w1 ⟨rfl,hq⟩
    rw [hq,x2]
    clear hq w1
    go_wp2_with fail
    refine kt.mono ?_
    rintro ev w1 ⟨rfl,hb1⟩
    go_wp2_with fail
    go_ret
    exact ⟨rfl,hb1⟩
  ·have e:fieldB nH hb x=((x == 0) || ptrB nH hb x):=by unfold fieldB;rw [if_neg x1,if_neg x2]
   rw [e]
   by_cases x3:x=0
   ·subst x3
    go_enter Tryz.func128,Tryz.ntmps128
    go_wp2_with fail
    refine kk.mono ?_
    rintro ev w1 ⟨rfl,hq⟩
    rw [hq]
    clear hq w1
    go_wp2_with fail
    go_ret
    exact ⟨rfl,Below.refl _ _⟩
   ·have hz:(x == 0)=false:=by rw [beq_eq_false_iff_ne];exact x3
    have kp:=pointed_any a bh nH hb hn x h0 h1 w E H hbl
    have z1:(x % 4 == 1)=false:=by rw [beq_eq_false_iff_ne];exact x1
    have z2:(x % 4 == 2)=false:=by rw [beq_eq_false_iff_ne];exact x2
    rw [hz,Bool.false_or]
    generalize ptrB nH hb x=pb at *
    go_enter Tryz.func128,Tryz.ntmps128
    go_wp2_with fail
    refine kk.mono ?_
    rintro ev w1 ⟨rfl,hq⟩
    rw [hq]
    clear hq w1
    go_wp2_with fail
    refine kp.mono ?_
    rintro ev w1 ⟨rfl,hb1⟩
    go_wp2_with fail
    go_ret
    exact ⟨rfl,hb1⟩
def U64 (l:List Int):Prop:=∀ x∈l,0≤x∧x<18446744073709551616
set_option maxHeartbeats 2000000 in
theorem holdAll_any (a:Nat→Addr) (bh nH:Nat) (hb:Nat→Bool) (hn:nH≤300000) (l:List Int) (hl:l.length≤300000) (hu:U64 l) (ao:Option Addr) (cap:Nat) (w:World) (E:WErr a w) (H:HeadsAt w bh nH hb) (hbl:bh<w.heap.size) (hR:RowV w (.slice ao l.length cap) l.length (wordsV l)) :
  Calls Tryz.prog 89 #[.slice (some ⟨bh,0,none⟩) nH nH,.slice ao l.length cap] w fun ev w'=>ev = .returned (.bool (l.all (fieldB nH hb)))∧Below w.heap.size w w':=by
 have HR:=toHid hR
 have HU:=toHid hu
 have HH:=toHid H
 have HE:=toHid E
 clear hR hu H E
 go_enter Tryz.func89,Tryz.ntmps89
 go_wp2_with fail
 go_loopg [9] (l.length+1) (fun gk v9 wr => ∃ k:Nat,gk=l.length+1 - k∧k≤l.length∧v9 = .int .i64 (k:Int)∧Below w.heap.size w wr∧Hid ((l.take k).all (fieldB nH hb)=true))
 case atStart=>exact ⟨0,rfl,Nat.zero_le _,rfl,Below.refl _ _,rfl⟩
 case round =>
  obtain ⟨k,hgk,hk,hv9,hb1,hal⟩:=hrel
  subst hv9
  have HG:=toHid hgk
  clear hgk
  by_cases hlt:k<l.length
  ·have hI:(k:Int)<(l.length:Int):=by omega
   have hI0:(0:Int)≤(k:Int):=by omega
   obtain ⟨x,hx⟩:∃ x,l[k]?=some x:=⟨_,List.getElem?_eq_getElem hlt⟩
   obtain ⟨_,_,e,_,f1⟩:=HR.out
   cases e
   obtain ⟨p1,o1,rfl,l1,g1⟩:=f1 (by omega)
   have r1:wr.cell? ⟨p1,o1+k,none⟩=some (.int .u64 x):=(hb1.cell (p:=⟨p1,o1+k,none⟩) l1).trans (g1 k _ (words_at hx))
   have hxu:=HU.out x (List.mem_of_getElem? hx)
   have kh:=holds_any a bh nH hb hn x hxu.1 hxu.2 wr (HE.out.below hb1) (HH.out.below hb1 hbl) (Nat.lt_of_lt_of_le hbl hb1.size)
   have HT:Hid ((l.take (k+1)).all (fieldB nH hb)=fieldB nH hb x):=by
    show _=_
    rw [List.take_add_one,hx,List.all_append,hal.out,Bool.true_and]
    simp
   have HF:Hid (fieldB nH hb x=false→l.all (fieldB nH hb)=false):=fun hf=>by
    rw [List.all_eq_false]
    exact ⟨x,List.mem_of_getElem? hx,by rw [hf];decide⟩
   clear f1 g1 hx hxu hal
   cases hfb:fieldB nH hb x with
   | true =>
    rw [hfb] at kh
    have HT2:Hid ((l.take (k+1)).all (fieldB nH hb)=true):=HT.out.trans hfb
    clear HT HF hfb
    go_wp2_with fail
    refine kh.mono ?_
    rintro ev w1 ⟨rfl,hb2⟩
    go_wp2_with fail
    go_roundg (l.length+1 - (k+1))
    case measure=>have:=HG.out;omega
    case rel=>exact ⟨k+1,rfl,by omega,by go_num,hb1.trans (hb2.mono hb1.size),HT2⟩
   | false =>
    rw [hfb] at kh
    have HF2:=HF.out hfb
    clear HT HF hfb
    go_wp2_with fail
    refine kh.mono ?_
    rintro ev w1 ⟨rfl,hb2⟩
    go_wp2_with fail
    go_ret
    rw [HF2]
    exact ⟨rfl,hb1.trans (hb2.mono hb1.size)⟩
  ·obtain rfl:k=l.length:=by omega
   go_wp2_with fail
   go_ret
   rw [List.take_length] at hal
   rw [hal.out]
   exact ⟨rfl,hb1⟩
end Go.Proofs.YtlkcbdinlfeoiabGreatDoor
