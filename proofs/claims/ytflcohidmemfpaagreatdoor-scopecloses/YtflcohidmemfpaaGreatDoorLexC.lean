/- Package lex: a str, by contracts. -/
import Derived.Test.YtflcohidmemfpaaGreatDoorSsA
import Derived.Lib.Bytealg
import Derived.Laws.StandIn
set_option linter.all false
namespace Go.Proofs.YtflcohidmemfpaaGreatDoor
open Go.Proofs.Tryz
open Go.RowKit

def Z1s (c:UInt8):Int:=Lib.indexByte [48,49,50,51,52,53,54,55,56,57,97,98,99,100,101,102] c

theorem Za8:∀ (l:List UInt8) (c:UInt8),-1≤Lib.indexByte l c∧Lib.indexByte l c<l.length
 | [],c=>by simp [Lib.indexByte]
 | b::l,c=>by
  have:=Za8 l c
  simp only [Lib.indexByte,List.length_cons]
  split
  ·omega
  ·split <;> omega
theorem Z5v (c:UInt8) : -1≤Z1s c∧Z1s c≤15:=by
 have:=Za8 [48,49,50,51,52,53,54,55,56,57,97,98,99,100,101,102] c
 unfold Z1s
 simp at this
 omega

theorem Z2a (c:UInt8) (w:World) :
  Calls prog 149 #[.string ⟨#[48,49,50,51,52,53,54,55,56,57,97,98,99,100,101,102]⟩,.int .u8 (c.toNat:Int)] w fun ev w'=>ev = .returned (.int .i64 (Z1s c))∧w'=w:=by
 have hib:=@run_callFunc_indexByte prog 187 _ func187 (by kernel_rfl) (by kernel_rfl) (by kernel_rfl) (by kernel_rfl)
 have hr:=Lib.run_indexByteString (P:=prog) ⟨#[48,49,50,51,52,53,54,55,56,57,97,98,99,100,101,102]⟩ (c.toNat:Int)
 go_enter func149,ntmps149
 go_wp2
 go_ret
 exact ⟨by simp [Z1s],rfl⟩

def Z6r (s:ByteArray) (i:Nat):Option (Int × Nat):=
 if h:i<s.size then
  if (s[i].toNat:Int) == 110 then some (10,i+1)
  else if (s[i].toNat:Int) == 34 then some (34,i+1)
  else if (s[i].toNat:Int) == 92 then some (92,i+1)
  else if (s[i].toNat:Int) == 120 then
   if h2:i+2<s.size then
    if 0≤Z1s s[i+1]∧0≤Z1s s[i+2] then some (Z1s s[i+1]*16+Z1s s[i+2],i+3) else none
   else none
  else none
 else none

structure Nx (p br bf from_:Nat) (a0:Addr) (w:World):Prop where
 hr:w.cell? ⟨br,0,none⟩=some (.pointer (some ⟨p,0,none⟩))
 hf:w.cell? ⟨bf,0,none⟩=some (.int .i64 from_)
 hg:w.cell? ⟨3,0,none⟩=some (.iface 214 (.pointer (some a0)))
 nr:br≠p
 nf:bf≠p
 ng:3≠p

theorem Nx.moved {p br bf from_:Nat}{a0:Addr}{w w':World}{j:Nat} (h:Nx p br bf from_ a0 w) (hm:Moved p w w' j):Nx p br bf from_ a0 w':=
 ⟨(World.cell?_of_block (w:=w) (hm.far br h.nr)).trans h.hr,(World.cell?_of_block (w:=w) (hm.far bf h.nf)).trans h.hf,(World.cell?_of_block (w:=w) (hm.far 3 h.ng)).trans h.hg,h.nr,h.nf,h.ng⟩

theorem Zjz {k:IntKind}{a b:Int} (h:a=b):Ending.returned (.int k a) = .returned (.int k b):=by rw [h]

theorem Zbq (p br bf from_:Nat) (a0:Addr) (s:ByteArray) (i:Nat) (v:Int) (w:World) (h:At p s i w) (hx:Nx p br bf from_ a0 w) (hlt:i<s.size)
  (hc:(((s[i].toNat:Int) == 110)=true∧v=10)∨(((s[i].toNat:Int) == 110)=false∧((s[i].toNat:Int) == 34)=true∧v=34)∨(((s[i].toNat:Int) == 110)=false∧((s[i].toNat:Int) == 34)=false∧((s[i].toNat:Int) == 92)=true∧v=92)) :
  Calls prog 139 #[.func (.func 138) #[] #[.pointer (some ⟨br,0,none⟩),.pointer (some ⟨bf,0,none⟩)],.int .i64 from_] w fun ev w'=>ev = .returned (.int .u8 v)∧Moved p w w' (i+1):=by
 rcases hc with ⟨h1,rfl⟩ | ⟨h1,h2,rfl⟩ | ⟨h1,h2,h3,rfl⟩
 all_goals
  go_enter func139,ntmps139
  go_wp2_with fail
  refine (Z1p p br bf s i _ h hlt hx.hr hx.nr).mono ?_
  rintro ev w1 ⟨rfl,hm⟩
  go_wp2
  go_ret
 ·exact ⟨rfl,hm⟩
 ·exact ⟨Zjz (by simpa using h2),hm⟩
 ·exact ⟨Zjz (by simpa using h3),hm⟩

theorem Zpi (x:Int) (h0:0≤x) (h1:x<9223372036854775808):wrap64 x=x:=by
 unfold wrap64;omega
theorem Zlm (a b:UInt8) (h1:0≤Z1s a) (h2:0≤Z1s b):(0:Int)≤Z1s a*16+Z1s b∧Z1s a*16+Z1s b≤255:=by
 have:=Z5v a
 have:=Z5v b
 omega

set_option maxHeartbeats 400000 in
theorem Zwj (p br bf from_:Nat) (a0:Addr) (s:ByteArray) (i:Nat) (w:World) (h:At p s i w) (hx:Nx p br bf from_ a0 w) (hlt:i+2<s.size)
  (h1:((s[i].toNat:Int) == 110)=false) (h2:((s[i].toNat:Int) == 34)=false) (h3:((s[i].toNat:Int) == 92)=false) (h4:((s[i].toNat:Int) == 120)=true) (h5:0≤Z1s s[i+1]) (h6:0≤Z1s s[i+2]) :
  Calls prog 139 #[.func (.func 138) #[] #[.pointer (some ⟨br,0,none⟩),.pointer (some ⟨bf,0,none⟩)],.int .i64 from_] w fun ev w'=>ev = .returned (.int .u8 (Z1s s[i+1]*16+Z1s s[i+2]))∧Moved p w w' (i+3):=by
 have hsz:=h.hs
 have b1:=Z5v s[i+1]
 have b2:=Z5v s[i+2]
 go_enter func139,ntmps139
 go_wp2_with fail
 refine (Z1p p br bf s i _ h (by omega) hx.hr hx.nr).mono ?_
 rintro ev w1 ⟨rfl,hm1⟩
 have hA1:=h.moved hm1 (by omega)
 have hx1:=hx.moved hm1
 go_wp2_with fail
 refine (Z1p p br bf s (i+1) _ hA1 (by omega) hx1.hr hx1.nr).mono ?_
 rintro ev w2 ⟨rfl,hm2⟩
 have hA2:=hA1.moved hm2 (by omega)
 have hx2:=hx1.moved hm2
 go_wp2_with fail
 refine (Z2a _ _).mono ?_
 rintro ev w2' ⟨rfl,rfl⟩
 go_wp2_with fail
 refine (Z1p p br bf s (i+1+1) _ hA2 (by omega) hx2.hr hx2.nr).mono ?_
 rintro ev w3 ⟨rfl,hm3⟩
 go_wp2_with fail
 refine (Z2a _ _).mono ?_
 rintro ev w3' ⟨rfl,rfl⟩
 go_wp2
 go_ret
 refine ⟨Zjz ?_,(hm1.trans hm2).trans hm3⟩
 have e:Z1s s[i+1+1]=Z1s s[i+2]:=rfl
 rw [e]
 have c:=Zlm _ _ h5 h6
 rw [Zpi _ (by omega) (by omega)]
 omega

set_option maxHeartbeats 2000000 in
theorem Zu7 (B p br bf from_:Nat) (a0:Addr) (s:ByteArray) (i:Nat) (w:World) (h:At p s i w) (hx:Nx p br bf from_ a0 w) (hp:B≤p) (hB:B≤w.heap.size) (hn:Z6r s i=none) :
  Calls prog 139 #[.func (.func 138) #[] #[.pointer (some ⟨br,0,none⟩),.pointer (some ⟨bf,0,none⟩)],.int .i64 from_] w fun ev w'=>Z3h B w from_ a0 ev w':=by
 have hsz:=h.hs
 by_cases hlt:i<s.size
 rotate_left
 ·have hend:i=s.size:=by have:=h.hat;omega
  go_enter func139,ntmps139
  go_wp2_with fail
  refine (Z5p B p br bf s i from_ a0 _ h hB hend hx.hr hx.hf hx.hg).mono ?_
  rintro ev w1 ⟨b,rfl,t1,t2,t3⟩
  go_wp2
  exact ⟨rfl,b,rfl,t1,t2,t3⟩
 simp only [Z6r,hlt,dif_pos] at hn
 cases h1:((s[i].toNat:Int) == 110)
 rotate_left
 ·rw [h1] at hn;simp at hn
 cases h2:((s[i].toNat:Int) == 34)
 rotate_left
 ·rw [h1,h2] at hn;simp at hn
 cases h3:((s[i].toNat:Int) == 92)
 rotate_left
 ·rw [h1,h2,h3] at hn;simp at hn
 rw [h1,h2,h3] at hn
 have HN:=hn
 clear hn
 cases h4:((s[i].toNat:Int) == 120)
 ·clear HN
  go_enter func139,ntmps139
  go_wp2_with fail
  refine (Z1p p br bf s i _ h hlt hx.hr hx.nr).mono ?_
  rintro ev w1 ⟨rfl,hm1⟩
  have hx1:=hx.moved hm1
  go_wp2_with fail
  refine (Z3a _ a0 _ hx1.hg).mono ?_
  rintro ev w2 ⟨rfl,rfl⟩
  go_wp2
  exact ⟨rfl,w1.heap.size,rfl,(hm1.below hp).alloc (by rw [hm1.size];exact hB) _,Z18 rfl rfl,Z18 rfl rfl⟩
 rw [h4] at HN
 by_cases e1:i+1<s.size
 rotate_left
 ·clear HN
  go_enter func139,ntmps139
  go_wp2_with fail
  refine (Z1p p br bf s i _ h hlt hx.hr hx.nr).mono ?_
  rintro ev w1 ⟨rfl,hm1⟩
  have hA1:=h.moved hm1 (by omega)
  have hx1:=hx.moved hm1
  go_wp2_with fail
  refine (Z5p B p br bf s (i+1) from_ a0 _ hA1 (by rw [hm1.size];exact hB) (by omega) hx1.hr hx1.hf hx1.hg).mono ?_
  rintro ev w2 ⟨b,rfl,t1,t2,t3⟩
  go_wp2
  exact ⟨rfl,b,rfl,(hm1.below hp).trans t1,t2,t3⟩
 by_cases e2:i+2<s.size
 rotate_left
 ·clear HN
  go_enter func139,ntmps139
  go_wp2_with fail
  refine (Z1p p br bf s i _ h hlt hx.hr hx.nr).mono ?_
  rintro ev w1 ⟨rfl,hm1⟩
  have hA1:=h.moved hm1 (by omega)
  have hx1:=hx.moved hm1
  go_wp2_with fail
  refine (Z1p p br bf s (i+1) _ hA1 (by omega) hx1.hr hx1.nr).mono ?_
  rintro ev w2 ⟨rfl,hm2⟩
  have hA2:=hA1.moved hm2 (by omega)
  have hx2:=hx1.moved hm2
  go_wp2_with fail
  refine (Z2a _ _).mono ?_
  rintro ev w2' ⟨rfl,rfl⟩
  go_wp2_with fail
  refine (Z5p B p br bf s (i+1+1) from_ a0 _ hA2 (by rw [hm2.size,hm1.size];exact hB) (by omega) hx2.hr hx2.hf hx2.hg).mono ?_
  rintro ev w3 ⟨b,rfl,t1,t2,t3⟩
  go_wp2
  exact ⟨rfl,b,rfl,((hm1.below hp).trans (hm2.below hp)).trans t1,t2,t3⟩
 have b1:=Z5v s[i+1]
 have b2:=Z5v s[i+2]
 have hbad:¬ (0≤Z1s s[i+1]∧0≤Z1s s[i+2]):=fun hh=>by simp [e2,hh] at HN
 clear HN
 by_cases p5:0≤Z1s s[i+1]
 ·have p6:¬ 0≤Z1s s[i+1+1]:=fun hh=>hbad ⟨p5,hh⟩
  go_enter func139,ntmps139
  go_wp2_with fail
  refine (Z1p p br bf s i _ h hlt hx.hr hx.nr).mono ?_
  rintro ev w1 ⟨rfl,hm1⟩
  have hA1:=h.moved hm1 (by omega)
  have hx1:=hx.moved hm1
  go_wp2_with fail
  refine (Z1p p br bf s (i+1) _ hA1 (by omega) hx1.hr hx1.nr).mono ?_
  rintro ev w2 ⟨rfl,hm2⟩
  have hA2:=hA1.moved hm2 (by omega)
  have hx2:=hx1.moved hm2
  go_wp2_with fail
  refine (Z2a _ _).mono ?_
  rintro ev w2' ⟨rfl,rfl⟩
  go_wp2_with fail
  refine (Z1p p br bf s (i+1+1) _ hA2 (by omega) hx2.hr hx2.nr).mono ?_
  rintro ev w3 ⟨rfl,hm3⟩
  have hx3:=hx2.moved hm3
  go_wp2_with fail
  refine (Z2a _ _).mono ?_
  rintro ev w3' ⟨rfl,rfl⟩
  go_wp2_with fail
  refine (Z3a _ a0 _ hx3.hg).mono ?_
  rintro ev w4 ⟨rfl,rfl⟩
  go_wp2
  exact ⟨rfl,_,rfl,(((hm1.below hp).trans (hm2.below hp)).trans (hm3.below hp)).alloc (by rw [hm3.size,hm2.size,hm1.size];exact hB) _,Z18 rfl rfl,Z18 rfl rfl⟩
 ·go_enter func139,ntmps139
  go_wp2_with fail
  refine (Z1p p br bf s i _ h hlt hx.hr hx.nr).mono ?_
  rintro ev w1 ⟨rfl,hm1⟩
  have hA1:=h.moved hm1 (by omega)
  have hx1:=hx.moved hm1
  go_wp2_with fail
  refine (Z1p p br bf s (i+1) _ hA1 (by omega) hx1.hr hx1.nr).mono ?_
  rintro ev w2 ⟨rfl,hm2⟩
  have hA2:=hA1.moved hm2 (by omega)
  have hx2:=hx1.moved hm2
  go_wp2_with fail
  refine (Z2a _ _).mono ?_
  rintro ev w2' ⟨rfl,rfl⟩
  go_wp2_with fail
  refine (Z1p p br bf s (i+1+1) _ hA2 (by omega) hx2.hr hx2.nr).mono ?_
  rintro ev w3 ⟨rfl,hm3⟩
  have hx3:=hx2.moved hm3
  go_wp2_with fail
  refine (Z2a _ _).mono ?_
  rintro ev w3' ⟨rfl,rfl⟩
  go_wp2_with fail
  refine (Z3a _ a0 _ hx3.hg).mono ?_
  rintro ev w4 ⟨rfl,rfl⟩
  go_wp2
  exact ⟨rfl,_,rfl,(((hm1.below hp).trans (hm2.below hp)).trans (hm3.below hp)).alloc (by rw [hm3.size,hm2.size,hm1.size];exact hB) _,Z18 rfl rfl,Z18 rfl rfl⟩

theorem Ztv (p br bf from_:Nat) (a0:Addr) (s:ByteArray) (i j:Nat) (v:Int) (w:World) (h:At p s i w) (hx:Nx p br bf from_ a0 w) (hv:Z6r s i=some (v,j)) :
  Calls prog 139 #[.func (.func 138) #[] #[.pointer (some ⟨br,0,none⟩),.pointer (some ⟨bf,0,none⟩)],.int .i64 from_] w fun ev w'=>ev = .returned (.int .u8 v)∧Moved p w w' j:=by
 unfold Z6r at hv
 split at hv
 ·rename_i hlt
  split at hv
  ·rename_i h1
   simp only [Option.some.injEq,Prod.mk.injEq] at hv
   obtain ⟨rfl,rfl⟩:=hv
   exact Zbq p br bf from_ a0 s i 10 w h hx hlt (Or.inl ⟨h1,rfl⟩)
  ·rename_i h1
   split at hv
   ·rename_i h2
    simp only [Option.some.injEq,Prod.mk.injEq] at hv
    obtain ⟨rfl,rfl⟩:=hv
    exact Zbq p br bf from_ a0 s i 34 w h hx hlt (Or.inr (Or.inl ⟨Bool.eq_false_iff.2 h1,h2,rfl⟩))
   ·rename_i h2
    split at hv
    ·rename_i h3
     simp only [Option.some.injEq,Prod.mk.injEq] at hv
     obtain ⟨rfl,rfl⟩:=hv
     exact Zbq p br bf from_ a0 s i 92 w h hx hlt (Or.inr (Or.inr ⟨Bool.eq_false_iff.2 h1,Bool.eq_false_iff.2 h2,h3,rfl⟩))
    ·rename_i h3
     split at hv
     ·rename_i h4
      split at hv
      ·rename_i e2
       split at hv
       ·rename_i h5
        simp only [Option.some.injEq,Prod.mk.injEq] at hv
        obtain ⟨rfl,rfl⟩:=hv
        exact Zwj p br bf from_ a0 s i w h hx e2 (Bool.eq_false_iff.2 h1) (Bool.eq_false_iff.2 h2) (Bool.eq_false_iff.2 h3) h4 h5.1 h5.2
       ·cases hv
      ·cases hv
     ·cases hv
 ·cases hv

theorem Zf1 (s:ByteArray) (i j:Nat) (v:Int) (hv:Z6r s i=some (v,j)):i<j∧j≤s.size∧0≤v∧v≤255:=by
 unfold Z6r at hv
 split at hv
 ·split at hv
  ·simp at hv;omega
  ·split at hv
   ·simp at hv;omega
   ·split at hv
    ·simp at hv;omega
    ·split at hv
     ·split at hv
      ·split at hv
       ·rename_i h5
        have:=Zlm _ _ h5.1 h5.2
        simp at hv;omega
       ·cases hv
      ·cases hv
     ·cases hv
 ·cases hv
end Go.Proofs.YtflcohidmemfpaaGreatDoor
