/- Package lex: Quote by a contract. -/
import Derived.Test.YtflcohidmemfpaaGreatDoorCBld
import Derived.Test.YtflcohidmemfpaaGreatDoorSsE
import Derived.Test.YtflcohidmemfpaaGreatDoorSsV
import Derived.Lib.AppendIntMem
import Derived.Lib.SmallJoins
set_option linter.all false
namespace Go.Proofs.YtflcohidmemfpaaGreatDoor
open Go.Proofs.Tryz
open Go.RowKit

theorem Zes (w:World):Lib.IsBuilderF 189 5 w.heap.size w.heap.size [] (w.alloc (.cells #[.pointer none,.slice none 0 0] 189)):=
 Lib.IsBuilderF.of (.inl ⟨Nat.le_refl _,.slice none 0 0,heap_alloc_new _ _,World.ownsRow_nil _ _ _ _,by simp [Value.ownBlock]⟩)

theorem Zl8 (n:Nat) (h:n<16) (h':n<(⟨#[48,49,50,51,52,53,54,55,56,57,97,98,99,100,101,102]⟩:ByteArray).size):(⟨#[48,49,50,51,52,53,54,55,56,57,97,98,99,100,101,102]⟩:ByteArray)[n].toNat=(Z3m n).toNat:=by
 iterate 16 (rcases n with _ | n;· rfl)
 omega

set_option maxHeartbeats 1000000 in
theorem Zqb (s:ByteArray) (hs:s.size≤6000) (w:World) :
  Calls prog 145 #[.string s] w fun ev w'=>ev = .returned (.string (Z9k s.data.toList))∧Below w.heap.size w w':=by
 have hf:=Zes w
 have hb0:Below w.heap.size w (w.alloc (.cells #[.pointer none,.slice none 0 0] 189)):=(Below.refl _ _).alloc (Nat.le_refl _) _
 go_enter func145,ntmps145
 go_wp2_with fail
 refine (Zce w.heap.size w.heap.size [] 34 _ hf (by simp) (by simp)).mono ?_
 rintro ev w1 ⟨rfl,hB1,hb1,_⟩
 have hb1w:Below w.heap.size w w1:=hb0.trans hb1
 clear hf hb0 hb1
 go_wp2_with fail
 go_loopg [9] (s.size+1) (fun gk v9 wr => ∃ k:Nat,gk=s.size+1 - k∧k≤s.size∧v9 = .int .i64 (k:Int)∧Lib.IsBuilderF 189 5 w.heap.size w.heap.size (Lib.byteCells ([34]++(s.data.toList.take k).flatMap Z8c)) wr∧Below w.heap.size w wr)
 case atStart=>exact ⟨0,rfl,Nat.zero_le _,rfl,hB1,hb1w⟩
 case round =>
  obtain ⟨k,hgk,hk,hv,hB,hb⟩:=hrel
  subst hv
  have HG:Hid (gk=s.size+1 - k):=hgk
  clear hgk hB1 hb1w
  have hk0:(0:Int)≤(k:Int):=by omega
  have hfl:=Zf0 (s.data.toList.take k)
  have htl:(s.data.toList.take k).length≤k:=List.length_take_le _ _
  have hcl:(Lib.byteCells ([34]++(s.data.toList.take k).flatMap Z8c)).length≤24001:=by
   rw [Lib.byteCells_length,List.length_append]
   simp only [List.length_cons,List.length_nil]
   omega
  have hsz:=hb.size
  by_cases hlt:k<s.size
  ·have hI:(k:Int)<(s.size:Int):=by omega
   have hts:=Zsg s k hlt
   have HSN:Hid (Lib.byteCells ([34]++(s.data.toList.take (k+1)).flatMap Z8c)=Lib.byteCells ([34]++(s.data.toList.take k).flatMap Z8c)++Lib.byteCells (Z8c s[k])):=by
    show _=_
    rw [hts,←Lib.byteCells_append]
    simp
   clear hts hfl htl
   have hc1:s[k].toNat≤255:=by have:=s[k].toNat_lt;omega
   have hC1:(s[k].toNat:Int)≤255:=by omega
   have hC0:(0:Int)≤(s[k].toNat:Int):=by omega
   generalize Lib.byteCells ([34]++(s.data.toList.take k).flatMap Z8c)=bs at hB hcl HSN
   cases e10:((s[k].toNat:Int) == 10)
   rotate_left
   ·go_wp2_with fail
    refine (Zjw w.heap.size w.heap.size bs ⟨#[92,110]⟩ _ hB (by have:(⟨#[92,110]⟩:ByteArray).size=2:=rfl;omega) hsz).mono ?_
    rintro ev w2 ⟨rfl,hB2,hb2,_⟩
    go_wp2_with fail
    go_roundg (s.size+1 - (k+1))
    case measure=>have:=HG.out;omega
    case rel =>
     refine ⟨k+1,rfl,by omega,by go_num,?_,hb.trans hb2⟩
     rw [HSN.out]
     have e:Z8c s[k] = [92,110]:=by simp [Z8c,show s[k].toNat=10 by have:=Z9l e10;omega]
     rw [e]
     exact hB2
   have n10:¬ s[k].toNat=10:=by have:=Z7u e10;omega
   cases e34:((s[k].toNat:Int) == 34)
   rotate_left
   ·go_wp2_with fail
    refine (Zce w.heap.size w.heap.size bs 92 _ hB (by omega) hsz).mono ?_
    rintro ev w2 ⟨rfl,hB2,hb2,_⟩
    have hsz2:=(hb.trans hb2).size
    go_wp2_with fail
    refine (Zce w.heap.size w.heap.size _ (s[k].toNat:Int) _ hB2 (by simp;omega) hsz2).mono ?_
    rintro ev w3 ⟨rfl,hB3,hb3,_⟩
    go_wp2_with fail
    go_roundg (s.size+1 - (k+1))
    case measure=>have:=HG.out;omega
    case rel =>
     refine ⟨k+1,rfl,by omega,by go_num,?_,(hb.trans hb2).trans hb3⟩
     rw [HSN.out]
     have e:Z8c s[k] = [92,s[k]]:=by
      have h34:s[k].toNat=34:=by have:=Z9l e34;omega
      have h34':s[k]=34:=UInt8.toNat_inj.mp h34
      rw [h34']
      rfl
     rw [e]
     have e2:bs++Lib.byteCells [92,s[k]]=bs ++ [.int .u8 92] ++ [.int .u8 (s[k].toNat:Int)]:=by simp [Lib.byteCells]
     rw [e2]
     exact hB3
   have n34:¬ s[k].toNat=34:=by have:=Z7u e34;omega
   cases e92:((s[k].toNat:Int) == 92)
   rotate_left
   ·go_wp2_with fail
    refine (Zce w.heap.size w.heap.size bs 92 _ hB (by omega) hsz).mono ?_
    rintro ev w2 ⟨rfl,hB2,hb2,_⟩
    have hsz2:=(hb.trans hb2).size
    go_wp2_with fail
    refine (Zce w.heap.size w.heap.size _ (s[k].toNat:Int) _ hB2 (by simp;omega) hsz2).mono ?_
    rintro ev w3 ⟨rfl,hB3,hb3,_⟩
    go_wp2_with fail
    go_roundg (s.size+1 - (k+1))
    case measure=>have:=HG.out;omega
    case rel =>
     refine ⟨k+1,rfl,by omega,by go_num,?_,(hb.trans hb2).trans hb3⟩
     rw [HSN.out]
     have e:Z8c s[k] = [92,s[k]]:=by
      have h92:s[k].toNat=92:=by have:=Z9l e92;omega
      have h92':s[k]=92:=UInt8.toNat_inj.mp h92
      rw [h92']
      rfl
     rw [e]
     have e2:bs++Lib.byteCells [92,s[k]]=bs ++ [.int .u8 92] ++ [.int .u8 (s[k].toNat:Int)]:=by simp [Lib.byteCells]
     rw [e2]
     exact hB3
   have n92:¬ s[k].toNat=92:=by have:=Z7u e92;omega
   by_cases hout:s[k].toNat<32∨126<s[k].toNat
   ·have HE:Hid (Z8c s[k] = [92,120,Z3m (s[k].toNat / 16),Z3m (s[k].toNat % 16)]):=by
     show _=_
     rcases Znv s[k] with h | h | h | h | h
     ·omega
     ·omega
     ·omega
     ·exact h
     ·omega
    rcases hout with h32 | h126
    ·have hI32:(s[k].toNat:Int)<32:=by omega
     go_wp2_with fail
     refine (Zjw w.heap.size w.heap.size bs ⟨#[92,120]⟩ _ hB (by have:(⟨#[92,120]⟩:ByteArray).size=2:=rfl;omega) hsz).mono ?_
     rintro ev w2 ⟨rfl,hB2,hb2,_⟩
     have hsz2:=(hb.trans hb2).size
     have hl2:(bs++Lib.strCells ⟨#[92,120]⟩).length≤24003:=by rw [List.length_append,Lib.strCells_length];have:(⟨#[92,120]⟩:ByteArray).size=2:=rfl;omega
     go_wp2_with fail
     refine (Zce w.heap.size w.heap.size _ _ _ hB2 (by omega) hsz2).mono ?_
     rintro ev w3 ⟨rfl,hB3,hb3,_⟩
     have hb23:=hb2.trans hb3
     have hsz3:=(hb.trans hb23).size
     rw [Zl8 _ (by omega)] at hB3
     go_wp2_with fail
     refine (Zce w.heap.size w.heap.size _ _ _ hB3 (by rw [List.length_append];simp only [List.length_cons,List.length_nil];omega) hsz3).mono ?_
     rintro ev w4 ⟨rfl,hB4,hb4,_⟩
     rw [Zl8 _ (by omega)] at hB4
     go_wp2_with fail
     go_roundg (s.size+1 - (k+1))
     case measure=>have:=HG.out;omega
     case rel =>
      refine ⟨k+1,rfl,by omega,by go_num,?_,(hb.trans hb23).trans hb4⟩
      rw [HSN.out,HE.out]
      have e2:bs++Lib.byteCells [92,120,Z3m (s[k].toNat / 16),Z3m (s[k].toNat % 16)]=bs++Lib.strCells ⟨#[92,120]⟩ ++ [.int .u8 ((Z3m (s[k].toNat / 16)).toNat:Int)] ++ [.int .u8 ((Z3m (s[k].toNat % 16)).toNat:Int)]:=by simp [Lib.byteCells,Lib.strCells]
      rw [e2]
      exact hB4
    ·have hI32:¬ (s[k].toNat:Int)<32:=by omega
     have hI126:126<(s[k].toNat:Int):=by omega
     go_wp2_with fail
     refine (Zjw w.heap.size w.heap.size bs ⟨#[92,120]⟩ _ hB (by have:(⟨#[92,120]⟩:ByteArray).size=2:=rfl;omega) hsz).mono ?_
     rintro ev w2 ⟨rfl,hB2,hb2,_⟩
     have hsz2:=(hb.trans hb2).size
     have hl2:(bs++Lib.strCells ⟨#[92,120]⟩).length≤24003:=by rw [List.length_append,Lib.strCells_length];have:(⟨#[92,120]⟩:ByteArray).size=2:=rfl;omega
     go_wp2_with fail
     refine (Zce w.heap.size w.heap.size _ _ _ hB2 (by omega) hsz2).mono ?_
     rintro ev w3 ⟨rfl,hB3,hb3,_⟩
     have hb23:=hb2.trans hb3
     have hsz3:=(hb.trans hb23).size
     rw [Zl8 _ (by omega)] at hB3
     go_wp2_with fail
     refine (Zce w.heap.size w.heap.size _ _ _ hB3 (by rw [List.length_append];simp only [List.length_cons,List.length_nil];omega) hsz3).mono ?_
     rintro ev w4 ⟨rfl,hB4,hb4,_⟩
     rw [Zl8 _ (by omega)] at hB4
     go_wp2_with fail
     go_roundg (s.size+1 - (k+1))
     case measure=>have:=HG.out;omega
     case rel =>
      refine ⟨k+1,rfl,by omega,by go_num,?_,(hb.trans hb23).trans hb4⟩
      rw [HSN.out,HE.out]
      have e2:bs++Lib.byteCells [92,120,Z3m (s[k].toNat / 16),Z3m (s[k].toNat % 16)]=bs++Lib.strCells ⟨#[92,120]⟩ ++ [.int .u8 ((Z3m (s[k].toNat / 16)).toNat:Int)] ++ [.int .u8 ((Z3m (s[k].toNat % 16)).toNat:Int)]:=by simp [Lib.byteCells,Lib.strCells]
      rw [e2]
      exact hB4
   ·have hI32:¬ (s[k].toNat:Int)<32:=by omega
    have hI126:¬ 126<(s[k].toNat:Int):=by omega
    have HE:Hid (Z8c s[k] = [s[k]]):=by
     show _=_
     simp [Z8c,n10,n34,n92,hout]
    go_wp2_with fail
    refine (Zce w.heap.size w.heap.size bs (s[k].toNat:Int) _ hB (by omega) hsz).mono ?_
    rintro ev w2 ⟨rfl,hB2,hb2,_⟩
    go_wp2_with fail
    go_roundg (s.size+1 - (k+1))
    case measure=>have:=HG.out;omega
    case rel =>
     refine ⟨k+1,rfl,by omega,by go_num,?_,hb.trans hb2⟩
     rw [HSN.out,HE.out]
     exact hB2
  ·obtain rfl:k=s.size:=by omega
   have hI:¬ ((s.size:Nat):Int)<(s.size:Int):=by omega
   go_wp2_with fail
   refine (Zce w.heap.size w.heap.size _ 34 _ hB (by omega) hsz).mono ?_
   rintro ev w2 ⟨rfl,hB2,hb2,_⟩
   have hsz2:=(hb.trans hb2).size
   have HB:Lib.IsBuilderF 189 5 w.heap.size w.heap.size (Lib.byteCells ([34]++s.data.toList.flatMap Z8c ++ [34])) w2:=by
    rw [Lib.byteCells_append]
    rw [List.take_of_length_le (by simp)] at hB2
    exact hB2
   go_wp2_with fail
   refine (Zyv w.heap.size w.heap.size _ _ HB hsz2).mono ?_
   rintro ev w3 ⟨rfl,hb3⟩
   go_wp2_with fail
   go_ret
   exact ⟨rfl,(hb.trans hb2).trans hb3⟩
end Go.Proofs.YtflcohidmemfpaaGreatDoor
namespace Go.Proofs.YtflcohidmemfpaaGreatDoor
open Go.Proofs.Tryz
open Go.RowKit
variable {P:Prop}

theorem Zvc (n:Nat):Z9y 1 (Z3m n)=some 1:=by
 iterate 16 (rcases n with _ | n;· decide)
 have e:Z3m (n+1+1+1+1+1+1+1+1+1+1+1+1+1+1+1+1)=0:=rfl
 rw [e]
 decide
theorem Ztw (c:UInt8):Z5z 1 (Z8c c)=some 1:=by
 unfold Z8c
 split
 ·decide
 ·split
  ·decide
  ·split
   ·decide
   ·split
    ·show (match Z9y 1 92 with | none=>none | some q=>Z5z q [120,Z3m (c.toNat / 16),Z3m (c.toNat % 16)])=_
     have e1:Z9y 1 92=some 2:=by decide
     have e2:Z9y 2 120=some 1:=by decide
     simp only [e1,Z5z,e2,Zvc]
    ·rename_i h1 h2 h3 _
     have n1:c≠10:=fun e=>h1 (by rw [e];rfl)
     have n2:c≠34:=fun e=>h2 (by rw [e];rfl)
     have n3:c≠92:=fun e=>h3 (by rw [e];rfl)
     have e:Z9y 1 c=some 1:=by
      unfold Z9y
      rw [if_neg n1,if_neg (by decide),if_pos rfl,if_neg n2,if_neg n3]
     simp only [Z5z,e]
theorem Zh7:∀ L:List UInt8,Z5z 1 (L.flatMap Z8c)=some 1
 | []=>rfl
 | c::L=>by
  rw [List.flatMap_cons,Z7l,Ztw]
  exact Zh7 L
theorem Zjd (L:List UInt8):Z5z 0 (Z9k L).data.toList=some 0:=by
 have e:(Z9k L).data.toList = [34]++(L.flatMap Z8c ++ [34]):=by unfold Z9k;simp
 have e0:Z5z 0 [34]=some 1:=by decide
 rw [e,Z7l,e0]
 show Z5z 1 (L.flatMap Z8c ++ [34])=_
 rw [Z7l,Zh7]
 rfl
theorem Zw1 {d:Nat} (h:d<10):UInt8.ofNat (48+d)≠10∧UInt8.ofNat (48+d)≠34∧UInt8.ofNat (48+d)≠35:=by
 iterate 10 (rcases d with _ | d;· decide)
 omega
theorem Zw6 (n:Nat):∀ (u:Nat),u≤n → ∀ c∈Lib.decDigits u,c≠10∧c≠34∧c≠35:=by
 induction n with
 | zero =>
  intro u hu c hc
  obtain rfl:u=0:=by omega
  rw [Lib.decDigits_one (by omega)] at hc
  rw [List.mem_singleton.1 hc]
  decide
 | succ n ihn =>
  intro u hu c hc
  rw [Lib.decDigits] at hc
  split at hc
  ·rename_i h
   rw [List.mem_singleton.1 hc]
   exact Zw1 h
  ·rename_i h
   rcases List.mem_append.1 hc with hc | hc
   ·exact ihn (u / 10) (by omega) c hc
   ·rw [List.mem_singleton.1 hc]
    exact Zw1 (by omega)
theorem Zqc (n:Int):Z5z 0 (⟨(Lib.itoa n).toArray⟩:ByteArray).data.toList=some 0:=by
 refine Ze3 fun c hc => ?_
 have hc:c∈Lib.itoa n:=by simpa using hc
 unfold Lib.itoa at hc
 split at hc
 ·rcases List.mem_cons.1 hc with rfl | hc
  ·decide
  ·exact Zw6 _ _ (Nat.le_refl _) c hc
 ·exact Zw6 _ _ (Nat.le_refl _) c hc
theorem Zss:Za4 P:=fun s w hs=>(Zqb s hs w).mono fun ev w' ⟨h1,h2⟩=>⟨_,h1,by
 have h:=Zf0 s.data.toList
 have e:s.data.toList.length=s.size:=by rw [Array.length_toList];rfl
 have e2:(Z9k s.data.toList).size=([34]++s.data.toList.flatMap Z8c ++ [34]).length:=by unfold Z9k;show Array.size _=_;rw [List.size_toArray]
 rw [e2]
 simp only [List.length_append,List.length_cons,List.length_nil]
 omega,fun _=>Zjd _,h2⟩
def Z9a (w : World) : Prop := Lib.TabIs prog w "internal/strconv.uint64pow10" .u64 Lib.pow10Tab
theorem Z9a.below {w w':World}{B:Nat} (h:Z9a w) (hb:Below B w w') (hB:w.heap.size≤B):Z9a w':=Go.Joins.tab_stays (g:=6) (by kernel_rfl) h hb hB
theorem Z9r:∀ (k u:Nat),u<10 ^ (k+1)→Lib.nDigits u≤k+1
 | 0,u,h=>by rw [Lib.nDigits_small (by simpa using h)];exact Nat.le_refl _
 | k+1,u,h=>by
  by_cases h':u<10
  ·rw [Lib.nDigits_small h']
   omega
  ·rw [Lib.nDigits_big h']
   have:=Z9r k (u / 10) (by rw [Nat.pow_succ] at h;omega)
   omega
theorem Zvk (n:Int) (h0 : -9223372036854775808≤n) (h1:n≤9223372036854775807):(⟨(Lib.itoa n).toArray⟩:ByteArray).size≤100:=by
 show (Lib.itoa n).toArray.size≤100
 rw [List.size_toArray]
 unfold Lib.itoa
 split
 ·have:=Z9r 19 n.natAbs (by omega)
  rw [List.length_cons,Lib.decDigits_length]
  omega
 ·have:=Z9r 19 n.toNat (by omega)
  rw [Lib.decDigits_length]
  omega
theorem Zpr {p:Nat}{rk:Value}{w1 w0:World} (ht:Z9a w0) (hb:Below w0.heap.size w0 w1) (hp:w0.heap.size≤p):Z9b P p rk w1:=fun z w h0 h1 C=>by
 have hT:Z9a w:=ht.below (hb.trans (C.bl.mono hp)) (Nat.le_refl _)
 refine (Zmw z h0 h1 w hT).mono ?_
 rintro ev w' ⟨rfl,k,os,rfl⟩
 exact ⟨_,rfl,by have:=Zvk z h0 h1;omega,fun _=>Zqc z,Lib.below_grow w.heap.size w (Nat.le_refl _) k os⟩
end Go.Proofs.YtflcohidmemfpaaGreatDoor
