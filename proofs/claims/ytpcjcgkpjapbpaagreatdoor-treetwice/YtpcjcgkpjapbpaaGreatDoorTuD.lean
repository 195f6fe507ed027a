/- Package lex: Quote by a contract. -/
import Derived.Test.YtpcjcgkpjapbpaaGreatDoorCBld
import Derived.Test.YtpcjcgkpjapbpaaGreatDoorTtE
import Derived.Test.YtpcjcgkpjapbpaaGreatDoorTtV
import Derived.Lib.AppendIntMem
import Derived.Lib.SmallJoins
set_option linter.all false
namespace Go.Proofs.YtpcjcgkpjapbpaaGreatDoor
open Go.RowKit

theorem fresh_builder (w:World):Lib.IsBuilderF 147 5 w.heap.size w.heap.size [] (w.alloc (.cells #[.pointer none,.slice none 0 0] 147)):=
 Lib.IsBuilderF.of (.inl ⟨Nat.le_refl _,.slice none 0 0,heap_alloc_new _ _,World.ownsRow_nil _ _ _ _,by simp [Value.ownBlock]⟩)

theorem hex_at (n:Nat) (h:n<16) (h':n<(⟨#[48,49,50,51,52,53,54,55,56,57,97,98,99,100,101,102]⟩:ByteArray).size):(⟨#[48,49,50,51,52,53,54,55,56,57,97,98,99,100,101,102]⟩:ByteArray)[n].toNat=(hexDig n).toNat:=by
 iterate 16 (rcases n with _ | n;· rfl)
 omega

set_option maxHeartbeats 1000000 in
theorem quote_any (s:ByteArray) (hs:s.size≤6000) (w:World) :
  Calls Tryz.prog 112 #[.string s] w fun ev w'=>ev = .returned (.string (quotedB s.data.toList))∧Below w.heap.size w w':=by
 have hf:=fresh_builder w
 have hb0:Below w.heap.size w (w.alloc (.cells #[.pointer none,.slice none 0 0] 147)):=(Below.refl _ _).alloc (Nat.le_refl _) _
 go_enter Tryz.func112,Tryz.ntmps112
 go_wp2_with fail
 refine (wByte w.heap.size w.heap.size [] 34 _ hf (by simp) (by simp)).mono ?_
 rintro ev w1 ⟨rfl,hB1,hb1,_⟩
 have hb1w:Below w.heap.size w w1:=hb0.trans hb1
 clear hf hb0 hb1
 go_wp2_with fail
 go_loopg [9] (s.size+1) (fun gk v9 wr => ∃ k:Nat,gk=s.size+1 - k∧k≤s.size∧v9 = .int .i64 (k:Int)∧Lib.IsBuilderF 147 5 w.heap.size w.heap.size (Lib.byteCells ([34]++(s.data.toList.take k).flatMap escB)) wr∧Below w.heap.size w wr)
 case atStart=>exact ⟨0,rfl,Nat.zero_le _,rfl,hB1,hb1w⟩
 case round =>
  obtain ⟨k,hgk,hk,hv,hB,hb⟩:=hrel
  subst hv
  have HG:Hid (gk=s.size+1 - k):=hgk
  clear hgk hB1 hb1w
  have hk0:(0:Int)≤(k:Int):=by omega
  have hfl:=flat_len (s.data.toList.take k)
  have htl:(s.data.toList.take k).length≤k:=List.length_take_le _ _
  have hcl:(Lib.byteCells ([34]++(s.data.toList.take k).flatMap escB)).length≤24001:=by
   rw [Lib.byteCells_length,List.length_append]
   simp only [List.length_cons,List.length_nil]
   omega
  have hsz:=hb.size
  by_cases hlt:k<s.size
  ·have hI:(k:Int)<(s.size:Int):=by omega
   have hts:=take_snoc s k hlt
   have HSN:Hid (Lib.byteCells ([34]++(s.data.toList.take (k+1)).flatMap escB)=Lib.byteCells ([34]++(s.data.toList.take k).flatMap escB)++Lib.byteCells (escB s[k])):=by
    show _=_
    rw [hts,←Lib.byteCells_append]
    simp
   clear hts hfl htl
   have hc1:s[k].toNat≤255:=by have:=s[k].toNat_lt;omega
   have hC1:(s[k].toNat:Int)≤255:=by omega
   have hC0:(0:Int)≤(s[k].toNat:Int):=by omega
   generalize Lib.byteCells ([34]++(s.data.toList.take k).flatMap escB)=bs at hB hcl HSN
   cases e10:((s[k].toNat:Int) == 10)
   rotate_left
   ·go_wp2_with fail
    refine (wString w.heap.size w.heap.size bs ⟨#[92,110]⟩ _ hB (by have:(⟨#[92,110]⟩:ByteArray).size=2:=rfl;omega) hsz).mono ?_
    rintro ev w2 ⟨rfl,hB2,hb2,_⟩
    go_wp2_with fail
    go_roundg (s.size+1 - (k+1))
    case measure=>have:=HG.out;omega
    case rel =>
     refine ⟨k+1,rfl,by omega,by go_num,?_,hb.trans hb2⟩
     rw [HSN.out]
     have e:escB s[k] = [92,110]:=by simp [escB,show s[k].toNat=10 by have:=nat_of_beq e10;omega]
     rw [e]
     exact hB2
   have n10:¬ s[k].toNat=10:=by have:=nat_of_beqf e10;omega
   cases e34:((s[k].toNat:Int) == 34)
   rotate_left
   ·go_wp2_with fail
    refine (wByte w.heap.size w.heap.size bs 92 _ hB (by omega) hsz).mono ?_
    rintro ev w2 ⟨rfl,hB2,hb2,_⟩
    have hsz2:=(hb.trans hb2).size
    go_wp2_with fail
    refine (wByte w.heap.size w.heap.size _ (s[k].toNat:Int) _ hB2 (by simp;omega) hsz2).mono ?_
    rintro ev w3 ⟨rfl,hB3,hb3,_⟩
    go_wp2_with fail
    go_roundg (s.size+1 - (k+1))
    case measure=>have:=HG.out;omega
    case rel =>
     refine ⟨k+1,rfl,by omega,by go_num,?_,(hb.trans hb2).trans hb3⟩
     rw [HSN.out]
     have e:escB s[k] = [92,s[k]]:=by
      have h34:s[k].toNat=34:=by have:=nat_of_beq e34;omega
      have h34':s[k]=34:=UInt8.toNat_inj.mp h34
      rw [h34']
      rfl
     rw [e]
     have e2:bs++Lib.byteCells [92,s[k]]=bs ++ [.int .u8 92] ++ [.int .u8 (s[k].toNat:Int)]:=by simp [Lib.byteCells]
     rw [e2]
     exact hB3
   have n34:¬ s[k].toNat=34:=by have:=nat_of_beqf e34;omega
   cases e92:((s[k].toNat:Int) == 92)
   rotate_left
   ·go_wp2_with fail
    refine (wByte w.heap.size w.heap.size bs 92 _ hB (by omega) hsz).mono ?_
    rintro ev w2 ⟨rfl,hB2,hb2,_⟩
    have hsz2:=(hb.trans hb2).size
    go_wp2_with fail
    refine (wByte w.heap.size w.heap.size _ (s[k].toNat:Int) _ hB2 (by simp;omega) hsz2).mono ?_
    rintro ev w3 ⟨rfl,hB3,hb3,_⟩
    go_wp2_with fail
    go_roundg (s.size+1 - (k+1))
    case measure=>have:=HG.out;omega
    case rel =>
     refine ⟨k+1,rfl,by omega,by go_num,?_,(hb.trans hb2).trans hb3⟩
     rw [HSN.out]
     have e:escB s[k] = [92,s[k]]:=by
      have h92:s[k].toNat=92:=by have:=nat_of_beq e92;omega
      have h92':s[k]=92:=UInt8.toNat_inj.mp h92
      rw [h92']
      rfl
     rw [e]
     have e2:bs++Lib.byteCells [92,s[k]]=bs ++ [.int .u8 92] ++ [.int .u8 (s[k].toNat:Int)]:=by simp [Lib.byteCells]
     rw [e2]
     exact hB3
   have n92:¬ s[k].toNat=92:=by have:=nat_of_beqf e92;omega
   by_cases hout:s[k].toNat<32∨126<s[k].toNat
   ·have HE:Hid (escB s[k] = [92,120,hexDig (s[k].toNat / 16),hexDig (s[k].toNat % 16)]):=by
     show _=_
     rcases escB_cases s[k] with h | h | h | h | h
     ·omega
     ·omega
     ·omega
     ·exact h
     ·omega
    rcases hout with h32 | h126
    ·have hI32:(s[k].toNat:Int)<32:=by omega
     go_wp2_with fail
     refine (wString w.heap.size w.heap.size bs ⟨#[92,120]⟩ _ hB (by have:(⟨#[92,120]⟩:ByteArray).size=2:=rfl;omega) hsz).mono ?_
     rintro ev w2 ⟨rfl,hB2,hb2,_⟩
     have hsz2:=(hb.trans hb2).size
     have hl2:(bs++Lib.strCells ⟨#[92,120]⟩).length≤24003:=by rw [List.length_append,Lib.strCells_length];have:(⟨#[92,120]⟩:ByteArray).size=2:=rfl;omega
     go_wp2_with fail
     refine (wByte w.heap.size w.heap.size _ _ _ hB2 (by omega) hsz2).mono ?_
     rintro ev w3 ⟨rfl,hB3,hb3,_⟩
     have hb23:=hb2.trans hb3
     have hsz3:=(hb.trans hb23).size
     rw [hex_at _ (by omega)] at hB3
     go_wp2_with fail
     refine (wByte w.heap.size w.heap.size _ _ _ hB3 (by rw [List.length_append];simp only [List.length_cons,List.length_nil];omega) hsz3).mono ?_
     rintro ev w4 ⟨rfl,hB4,hb4,_⟩
     rw [hex_at _ (by omega)] at hB4
     go_wp2_with fail
     go_roundg (s.size+1 - (k+1))
     case measure=>have:=HG.out;omega
     case rel =>
      refine ⟨k+1,rfl,by omega,by go_num,?_,(hb.trans hb23).trans hb4⟩
      rw [HSN.out,HE.out]
      have e2:bs++Lib.byteCells [92,120,hexDig (s[k].toNat / 16),hexDig (s[k].toNat % 16)]=bs++Lib.strCells ⟨#[92,120]⟩ ++ [.int .u8 ((hexDig (s[k].toNat / 16)).toNat:Int)] ++ [.int .u8 ((hexDig (s[k].toNat % 16)).toNat:Int)]:=by simp [Lib.byteCells,Lib.strCells]
      rw [e2]
      exact hB4
    ·have hI32:¬ (s[k].toNat:Int)<32:=by omega
     have hI126:126<(s[k].toNat:Int):=by omega
     go_wp2_with fail
     refine (wString w.heap.size w.heap.size bs ⟨#[92,120]⟩ _ hB (by have:(⟨#[92,120]⟩:ByteArray).size=2:=rfl;omega) hsz).mono ?_
     rintro ev w2 ⟨rfl,hB2,hb2,_⟩
     have hsz2:=(hb.trans hb2).size
     have hl2:(bs++Lib.strCells ⟨#[92,120]⟩).length≤24003:=by rw [List.length_append,Lib.strCells_length];have:(⟨#[92,120]⟩:ByteArray).size=2:=rfl;omega
     go_wp2_with fail
     refine (wByte w.heap.size w.heap.size _ _ _ hB2 (by omega) hsz2).mono ?_
     rintro ev w3 ⟨rfl,hB3,hb3,_⟩
     have hb23:=hb2.trans hb3
     have hsz3:=(hb.trans hb23).size
     rw [hex_at _ (by omega)] at hB3
     go_wp2_with fail
     refine (wByte w.heap.size w.heap.size _ _ _ hB3 (by rw [List.length_append];simp only [List.length_cons,List.length_nil];omega) hsz3).mono ?_
     rintro ev w4 ⟨rfl,hB4,hb4,_⟩
     rw [hex_at _ (by omega)] at hB4
     go_wp2_with fail
     go_roundg (s.size+1 - (k+1))
     case measure=>have:=HG.out;omega
     case rel =>
      refine ⟨k+1,rfl,by omega,by go_num,?_,(hb.trans hb23).trans hb4⟩
      rw [HSN.out,HE.out]
      have e2:bs++Lib.byteCells [92,120,hexDig (s[k].toNat / 16),hexDig (s[k].toNat % 16)]=bs++Lib.strCells ⟨#[92,120]⟩ ++ [.int .u8 ((hexDig (s[k].toNat / 16)).toNat:Int)] ++ [.int .u8 ((hexDig (s[k].toNat % 16)).toNat:Int)]:=by simp [Lib.byteCells,Lib.strCells]
      rw [e2]
      exact hB4
   ·have hI32:¬ (s[k].toNat:Int)<32:=by omega
    have hI126:¬ 126<(s[k].toNat:Int):=by omega
    have HE:Hid (escB s[k] = [s[k]]):=by
     show _=_
     simp [escB,n10,n34,n92,hout]
    go_wp2_with fail
    refine (wByte w.heap.size w.heap.size bs (s[k].toNat:Int) _ hB (by omega) hsz).mono ?_
    rintro ev w2 ⟨rfl,hB2,hb2,_⟩
    go_wp2_with fail
    go_roundg (s.size+1 - (k+1))
    case measure=>have:=HG.out;omega
    case rel =>
     refine ⟨k+1,rfl,by omega,by go_num,?_,hb.trans hb2⟩
     rw [HSN.out,HE.out]
     exact hB2
  ·obtain rfl:k=s.size:=by omega
   have hI:¬ ((s.size:Nat):Int)<(s.size:Int):=by omega
   go_wp2_with fail
   refine (wByte w.heap.size w.heap.size _ 34 _ hB (by omega) hsz).mono ?_
   rintro ev w2 ⟨rfl,hB2,hb2,_⟩
   have hsz2:=(hb.trans hb2).size
   have HB:Lib.IsBuilderF 147 5 w.heap.size w.heap.size (Lib.byteCells ([34]++s.data.toList.flatMap escB ++ [34])) w2:=by
    rw [Lib.byteCells_append]
    rw [List.take_of_length_le (by simp)] at hB2
    exact hB2
   go_wp2_with fail
   refine (bString w.heap.size w.heap.size _ _ HB hsz2).mono ?_
   rintro ev w3 ⟨rfl,hb3⟩
   go_wp2_with fail
   go_ret
   exact ⟨rfl,(hb.trans hb2).trans hb3⟩
end Go.Proofs.YtpcjcgkpjapbpaaGreatDoor
namespace Go.Proofs.YtpcjcgkpjapbpaaGreatDoor
open Go.RowKit
variable {P:Prop}

theorem hex_scan (n:Nat):scanB 1 (hexDig n)=some 1:=by
 iterate 16 (rcases n with _ | n;· decide)
 have e:hexDig (n+1+1+1+1+1+1+1+1+1+1+1+1+1+1+1+1)=0:=rfl
 rw [e]
 decide
theorem scan_esc (c:UInt8):scanL 1 (escB c)=some 1:=by
 unfold escB
 split
 ·decide
 ·split
  ·decide
  ·split
   ·decide
   ·split
    ·show (match scanB 1 92 with | none=>none | some q=>scanL q [120,hexDig (c.toNat / 16),hexDig (c.toNat % 16)])=_
     have e1:scanB 1 92=some 2:=by decide
     have e2:scanB 2 120=some 1:=by decide
     simp only [e1,scanL,e2,hex_scan]
    ·rename_i h1 h2 h3 _
     have n1:c≠10:=fun e=>h1 (by rw [e];rfl)
     have n2:c≠34:=fun e=>h2 (by rw [e];rfl)
     have n3:c≠92:=fun e=>h3 (by rw [e];rfl)
     have e:scanB 1 c=some 1:=by
      unfold scanB
      rw [if_neg n1,if_neg (by decide),if_pos rfl,if_neg n2,if_neg n3]
     simp only [scanL,e]
theorem scan_escs:∀ L:List UInt8,scanL 1 (L.flatMap escB)=some 1
 | []=>rfl
 | c::L=>by
  rw [List.flatMap_cons,scan_app,scan_esc]
  exact scan_escs L
theorem quoted_neat (L:List UInt8):scanL 0 (quotedB L).data.toList=some 0:=by
 have e:(quotedB L).data.toList = [34]++(L.flatMap escB ++ [34]):=by unfold quotedB;simp
 have e0:scanL 0 [34]=some 1:=by decide
 rw [e,scan_app,e0]
 show scanL 1 (L.flatMap escB ++ [34])=_
 rw [scan_app,scan_escs]
 rfl
theorem dig_tx {d:Nat} (h:d<10):UInt8.ofNat (48+d)≠10∧UInt8.ofNat (48+d)≠34∧UInt8.ofNat (48+d)≠35:=by
 iterate 10 (rcases d with _ | d;· decide)
 omega
theorem dec_tx (n:Nat):∀ (u:Nat),u≤n → ∀ c∈Lib.decDigits u,c≠10∧c≠34∧c≠35:=by
 induction n with
 | zero =>
  intro u hu c hc
  obtain rfl:u=0:=by omega
  rw [Lib.decDigits_one (by omega)] at hc
  rw [List.mem_singleton.1 hc]
  decide
 | succ n ihn =>
  intro u hu c hc
  rw [Lib.decDigits] at hc
  split at hc
  ·rename_i h
   rw [List.mem_singleton.1 hc]
   exact dig_tx h
  ·rename_i h
   rcases List.mem_append.1 hc with hc | hc
   ·exact ihn (u / 10) (by omega) c hc
   ·rw [List.mem_singleton.1 hc]
    exact dig_tx (by omega)
theorem itoa_neat (n:Int):scanL 0 (⟨(Lib.itoa n).toArray⟩:ByteArray).data.toList=some 0:=by
 refine neat_plain fun c hc => ?_
 have hc:c∈Lib.itoa n:=by simpa using hc
 unfold Lib.itoa at hc
 split at hc
 ·rcases List.mem_cons.1 hc with rfl | hc
  ·decide
  ·exact dec_tx _ _ (Nat.le_refl _) c hc
 ·exact dec_tx _ _ (Nat.le_refl _) c hc
theorem quote_ok:QuoteOK P:=fun s w hs=>(quote_any s hs w).mono fun ev w' ⟨h1,h2⟩=>⟨_,h1,by
 have h:=flat_len s.data.toList
 have e:s.data.toList.length=s.size:=by rw [Array.length_toList];rfl
 have e2:(quotedB s.data.toList).size=([34]++s.data.toList.flatMap escB ++ [34]).length:=by unfold quotedB;show Array.size _=_;rw [List.size_toArray]
 rw [e2]
 simp only [List.length_append,List.length_cons,List.length_nil]
 omega,fun _=>quoted_neat _,h2⟩
def Tabbed (w : World) : Prop := Lib.TabIs Tryz.prog w "internal/strconv.uint64pow10" .u64 Lib.pow10Tab
theorem Tabbed.below {w w':World}{B:Nat} (h:Tabbed w) (hb:Below B w w') (hB:w.heap.size≤B):Tabbed w':=Go.Joins.tab_stays (g:=7) (by kernel_rfl) h hb hB
theorem nDigits_le:∀ (k u:Nat),u<10 ^ (k+1)→Lib.nDigits u≤k+1
 | 0,u,h=>by rw [Lib.nDigits_small (by simpa using h)];exact Nat.le_refl _
 | k+1,u,h=>by
  by_cases h':u<10
  ·rw [Lib.nDigits_small h']
   omega
  ·rw [Lib.nDigits_big h']
   have:=nDigits_le k (u / 10) (by rw [Nat.pow_succ] at h;omega)
   omega
theorem itoa_len (n:Int) (h0 : -9223372036854775808≤n) (h1:n≤9223372036854775807):(⟨(Lib.itoa n).toArray⟩:ByteArray).size≤100:=by
 show (Lib.itoa n).toArray.size≤100
 rw [List.size_toArray]
 unfold Lib.itoa
 split
 ·have:=nDigits_le 19 n.natAbs (by omega)
  rw [List.length_cons,Lib.decDigits_length]
  omega
 ·have:=nDigits_le 19 n.toNat (by omega)
  rw [Lib.decDigits_length]
  omega
theorem format_ok {p:Nat}{rk:Value}{w1 w0:World} (ht:Tabbed w0) (hb:Below w0.heap.size w0 w1) (hp:w0.heap.size≤p):FormatOK P p rk w1:=fun z w h0 h1 C=>by
 have hT:Tabbed w:=ht.below (hb.trans (C.bl.mono hp)) (Nat.le_refl _)
 refine (format_any z h0 h1 w hT).mono ?_
 rintro ev w' ⟨rfl,k,os,rfl⟩
 exact ⟨_,rfl,by have:=itoa_len z h0 h1;omega,fun _=>itoa_neat z,Lib.below_grow w.heap.size w (Nat.le_refl _) k os⟩
end Go.Proofs.YtpcjcgkpjapbpaaGreatDoor
