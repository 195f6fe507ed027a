/- Package lex: quoted, by its contract. -/
import Derived.Test.YtflcohidmemfpaaGreatDoorLexC
import Derived.Laws.BytesArg
import Derived.OwnWalk
import Derived.Laws.Rows
import Derived.Deep.AppendLies
import Derived.Deep.RegionHeld3
import Derived.Deep.DrawnRows
set_option linter.all false
namespace Go.Proofs.YtflcohidmemfpaaGreatDoor
open Go.Proofs.Tryz
open Go.RowKit

structure Went (p:Nat) (w w':World) (j:Nat):Prop where
 os:w'.os=w.os
 tape:w'.tape=w.tape
 output:w'.output=w.output
 size:w.heap.size≤w'.heap.size
 far:∀ k,k<w.heap.size→k≠p→w'.heap[k]?=w.heap[k]?
 at_:w'.cell? ⟨p,1,none⟩=some (.int .i64 j)
 near:∀ o,o≠1→w'.cell? ⟨p,o,none⟩=w.cell? ⟨p,o,none⟩
 fz:∀ o,w'.frozen? ⟨p,o,none⟩=w.frozen? ⟨p,o,none⟩

theorem Moved.went {p:Nat}{w w':World}{j:Nat} (h:Moved p w w' j):Went p w w' j:=
 ⟨h.os,h.tape,h.output,Nat.le_of_eq h.size.symm,fun k _ hk=>h.far k hk,h.at_,h.near,h.fz⟩
theorem Went.trans {p:Nat}{w w1 w2:World}{i j:Nat} (h:Went p w w1 i) (k:Went p w1 w2 j):Went p w w2 j:=
 ⟨k.os.trans h.os,k.tape.trans h.tape,k.output.trans h.output,Nat.le_trans h.size k.size,fun x hx hp=>(k.far x (Nat.lt_of_lt_of_le hx h.size) hp).trans (h.far x hx hp),k.at_,fun o ho=>(k.near o ho).trans (h.near o ho),fun o=>(k.fz o).trans (h.fz o)⟩
theorem Went.below {p B:Nat}{w w':World}{j:Nat} (h:Went p w w' j) (hp:B≤p) (hB:B≤w.heap.size):Below B w w':=
 ⟨h.os,h.tape,h.output,h.size,fun k hk=>h.far k (by omega) (by omega)⟩
theorem Went.ofBelow {p:Nat}{w w':World}{j:Nat} (h:Below w.heap.size w w') (hp:p<w.heap.size) (hj:w.cell? ⟨p,1,none⟩=some (.int .i64 j)):Went p w w' j:=
 ⟨h.os,h.tape,h.output,h.size,fun k hk _=>h.block k hk,(h.cell (p:=⟨p,1,none⟩) hp).trans hj,fun o _=>h.cell (p:=⟨p,o,none⟩) hp,fun o=>h.frozen (p:=⟨p,o,none⟩) hp⟩

theorem At.went {p:Nat}{s:ByteArray}{i j:Nat}{w w':World} (h:At p s i w) (hm:Went p w w' j) (hj:j≤s.size):At p s j w':=
 ⟨h.hs,hj,(hm.near 0 (by decide)).trans h.c0,hm.at_,(hm.fz 1).trans h.f1⟩
theorem At.below {p Q:Nat}{s:ByteArray}{i:Nat}{w w':World} (h:At p s i w) (hb:Below Q w w') (hp:p<Q):At p s i w':=
 ⟨h.hs,h.hat,(hb.cell (p:=⟨p,0,none⟩) hp).trans h.c0,(hb.cell (p:=⟨p,1,none⟩) hp).trans h.c1,(hb.frozen (p:=⟨p,1,none⟩) hp).trans h.f1⟩
theorem Nx.below {p br bf from_ Q:Nat}{a0:Addr}{w w':World} (h:Nx p br bf from_ a0 w) (hb:Below Q w w') (h1:br<Q) (h2:bf<Q) (h3:3<Q):Nx p br bf from_ a0 w':=
 ⟨(hb.cell (p:=⟨br,0,none⟩) h1).trans h.hr,(hb.cell (p:=⟨bf,0,none⟩) h2).trans h.hf,(hb.cell (p:=⟨3,0,none⟩) h3).trans h.hg,h.nr,h.nf,h.ng⟩

def Z1e (s:ByteArray):Nat→Nat→List Int→Option (List Int × Nat)
 | 0,_,_=>none
 | n+1,i,acc =>
  if h:i<s.size then
   if (s[i].toNat:Int) == 34 then some (acc,i+1)
   else if (s[i].toNat:Int)<32 then none
   else if 126<(s[i].toNat:Int) then none
   else if (s[i].toNat:Int) == 92 then
    match Z6r s (i+1) with
    | some (v,j)=>Z1e s n j (acc ++ [v])
    | none=>none
   else Z1e s n (i+1) (acc ++ [(s[i].toNat:Int)])
  else none

theorem Z73 (s:ByteArray):∀ n m i acc,s.size+1 - i≤n→s.size+1 - i≤m→Z1e s n i acc=Z1e s m i acc
 | 0,0,_,_,_,_=>rfl
 | 0,m+1,i,acc,h,_=>by
  have:¬ i<s.size:=by omega
  simp [Z1e,this]
 | n+1,0,i,acc,_,h=>by
  have:¬ i<s.size:=by omega
  simp [Z1e,this]
 | n+1,m+1,i,acc,h1,h2=>by
  unfold Z1e
  split
  ·split
   ·rfl
   ·split
    ·rfl
    ·split
     ·rfl
     ·split
      ·cases he:Z6r s (i+1) with
       | none=>rfl
       | some x =>
        obtain ⟨v,j⟩:=x
        have:=Zf1 s (i+1) j v he
        exact Z73 s n m j _ (by omega) (by omega)
      ·exact Z73 s n m (i+1) _ (by omega) (by omega)
  ·rfl

def Z5u (s:ByteArray) (i:Nat):Option (List Int × Nat):=Z1e s (s.size+1 - (i+1)) (i+1) []

theorem Zj1 {w w':World}{base e size n:Nat}{v:Value}{xs:List Value} (h:w.ownsRow base e size v n xs) (hf:∀ k,base≤k→k<w.heap.size→w'.heap[k]?=w.heap[k]?):w'.ownsRow base e size v n xs:=by
 refine ⟨h.1,?_⟩
 rcases h.2 with hn | ⟨g,cap,cur,hv,hb,hg,rest⟩
 ·exact .inl hn
 ·exact .inr ⟨g,cap,cur,hv,hb,(hf g hb (Z00 hg)).trans hg,rest⟩
end Go.Proofs.YtflcohidmemfpaaGreatDoor
namespace Go.Proofs.YtflcohidmemfpaaGreatDoor
open Go.Proofs.Tryz
open Go.RowKit

def Z7z (B p:Nat) (s:ByteArray) (i:Nat) (a0:Addr) (w:World) (ev:Ending) (w':World):Prop:=
 match Z5u s i with
 | some (l,j)=>ev = .returned (.string (strOfNums l))∧Went p w w' j∧j≤s.size
 | none=>Z3h B w i a0 ev w'

theorem Z7z.some {B p:Nat}{s:ByteArray}{i j:Nat}{a0:Addr}{w w':World}{l:List Int} (h:Z5u s i=some (l,j)) (h1:Went p w w' j) (h2:j≤s.size):Z7z B p s i a0 w (.returned (.string (strOfNums l))) w':=by
 unfold Z7z
 rw [h]
 exact ⟨rfl,h1,h2⟩
theorem Z7z.none {B p:Nat}{s:ByteArray}{i:Nat}{a0:Addr}{w w':World}{ev:Ending} (h:Z5u s i=none) (h1:Z3h B w i a0 ev w'):Z7z B p s i a0 w ev w':=by
 unfold Z7z
 rw [h]
 exact h1

theorem Z20 {w:World}{base e size n:Nat}{v:Value}{xs:List Value} (h:w.ownsRow base e size v n xs):∀ k,v.ownBlock=Option.some k→base≤k:=by
 intro k hk
 rcases h.2 with ⟨rfl,_⟩ | ⟨g,cap,cur,rfl,hb,_⟩
 ·simp [Value.ownBlock] at hk
 ·simp [Value.ownBlock] at hk;omega

structure QS (p i:Nat) (s:ByteArray) (a0:Addr) (w:World) (y:Nat) (acc:List Int) (v5:Value) (wr:World):Prop where
 hA:At p s y wr
 nx:Nx p w.heap.size (w.heap.size+1) i a0 wr
 own:wr.ownsRow (w.heap.size+1+1) 5 1 v5 acc.length (acc.map (Value.int .u8))
 went:Went p w wr y
 big:w.heap.size+1+1≤wr.heap.size

theorem QS.moved {p i:Nat}{s:ByteArray}{a0:Addr}{w:World}{y z:Nat}{acc:List Int}{v5:Value}{wr w':World} (h:QS p i s a0 w y acc v5 wr) (hp:p<w.heap.size) (hm:Moved p wr w' z) (hz:z≤s.size):QS p i s a0 w z acc v5 w':=
 ⟨h.hA.moved hm hz,h.nx.moved hm,Zj1 h.own (fun k hk _=>hm.far k (by omega)),h.went.trans hm.went,by rw [hm.size];exact h.big⟩

theorem QS.grown {p i:Nat}{s:ByteArray}{a0:Addr}{w:World}{y:Nat}{acc:List Int}{v:Int}{v5 v6:Value}{wr w':World}{o:Obj} (h:QS p i s a0 w y acc v5 wr) (hp:p<w.heap.size) (_hg0:3<p) (hown:w'.ownsRow (w.heap.size+1+1) 5 1 v6 (acc.length+1) (acc.map (Value.int .u8) ++ [.int .u8 v])) (hg:(wr.alloc o).grownBy w' v5.ownBlock):QS p i s a0 w y (acc ++ [v]) v6 w':=by
 have hb:Below (w.heap.size+1+1) wr w':=Below.grown ((Below.refl _ _).alloc h.big _) hg (by have:=h.big;simp;omega) (Z20 h.own)
 have hw:Below w.heap.size wr w':=hb.mono (by omega)
 exact ⟨h.hA.below hb (by omega),h.nx.below hb (by omega) (by omega) (by omega),by simpa using hown,
  ⟨hb.os.trans h.went.os,hb.tape.trans h.went.tape,hb.output.trans h.went.output,Nat.le_trans h.went.size hb.size,fun k hk hkp=>(hb.block k (by omega)).trans (h.went.far k hk hkp),(hb.cell (p:=⟨p,1,none⟩) (by simp;omega)).trans h.went.at_,fun o ho=>(hb.cell (p:=⟨p,o,none⟩) (by simp;omega)).trans (h.went.near o ho),fun o=>(hb.frozen (p:=⟨p,o,none⟩) (by simp;omega)).trans (h.went.fz o)⟩,
  Nat.le_trans h.big hb.size⟩

theorem QS.conv {p i:Nat}{s:ByteArray}{a0:Addr}{w:World}{y:Nat}{acc:List Int}{v5:Value}{wr:World} (h:QS p i s a0 w y acc v5 wr):(convert 75 9 v5).run prog wr = .ok (.string (strOfNums acc)) wr:=by
 rcases h.own.2 with ⟨hv,hn⟩ | ⟨g,cap,cur,hv,_,hg,_,_,hsz,htk⟩
 ·subst hv
  have:acc = []:=List.length_eq_zero_iff.1 hn
  subst this
  rw [run_convert_bytes_nil (P:=prog) wr 75 5 underlying75 underlying5 0 0 9 underlying9]
  rfl
 ·subst hv
  refine run_convert_bytes_arg (P:=prog) wr 75 5 underlying75 underlying5 g 0 acc.length cap acc rfl (fun k hk => ?_) 9 underlying9
  rw [Nat.zero_add,cell_of_row wr g k cur 5 (0,0) hg]
  have e:(cur.toList.take (acc.length*1))[k]?=(acc.map (Value.int .u8))[k]?:=by rw [htk]
  rw [List.getElem?_take,if_pos (by omega)] at e
  rw [←Array.getElem?_toList,e]
  simp [List.getElem?_eq_getElem hk,List.getD]

theorem infoByte:(prog.info? 5).map (fun i=>(i.zero,i.size,i.bytes))=Option.some (Option.some (.int .u8 0),1,1):=by kernel_rfl

theorem Z80 {s:ByteArray}{n x:Nat}{acc:List Int} (h:x=s.size):Z1e s n x acc=Option.none:=by
 subst h
 cases n <;> simp [Z1e]

set_option maxHeartbeats 1000000 in
theorem Znp (B p i:Nat) (s:ByteArray) (a0:Addr) (w:World) (h:At p s i w) (hlt:i<s.size) (hp:p<w.heap.size) (hBp:B≤p) (hgB:3<B) (hg:w.cell? ⟨3,0,none⟩=some (.iface 214 (.pointer (some a0)))) :
  Calls prog 108 #[.pointer (some ⟨p,0,none⟩)] w fun ev w'=>Z7z B p s i a0 w ev w':=by
 have hmf:∀ (fn:Fn) (first cap:Array Value) (w:World),(Instr.makeFunc fn first cap).run prog w = .ok (.func fn first cap) w:=fun _ _ _ _=>rfl
 have hb0:Below w.heap.size w ((w.alloc (.cells #[.pointer (some ⟨p,0,none⟩)] 131)).alloc (.cells #[.int .i64 i] 3)):=((Below.refl _ _).alloc (Nat.le_refl _) _).alloc (by simp) _
 have hA0:=h.below hb0 hp
 have hN0:Nx p w.heap.size (w.heap.size+1) i a0 ((w.alloc (.cells #[.pointer (some ⟨p,0,none⟩)] 131)).alloc (.cells #[.int .i64 i] 3)):=
  ⟨by rw [World.cell?_alloc_past _ _ _ (by simp),World.cell?_alloc_at _ _ _ _ rfl];rfl,by rw [World.cell?_alloc_at _ _ _ _ (by simp)];rfl,(hb0.cell (p:=⟨3,0,none⟩) (by simp;omega)).trans hg,by omega,by omega,by omega⟩
 have hsz0:((w.alloc (.cells #[.pointer (some ⟨p,0,none⟩)] 131)).alloc (.cells #[.int .i64 i] 3)).heap.size=w.heap.size+1+1:=by simp
 obtain ⟨hs,hat,c0,c1,f1⟩:=h
 go_enter func108,ntmps108
 go_wp2_with fail
 refine (Z1p p _ _ s i _ hA0 hlt hN0.hr hN0.nr).mono ?_
 rintro ev w1 ⟨rfl,hm1⟩
 have q1:QS p i s a0 w (i+1) [] (.slice Option.none 0 0) w1:=
  ⟨hA0.moved hm1 (by omega),hN0.moved hm1,World.ownsRow_nil _ _ _ _,(Went.ofBelow hb0 hp c1).trans hm1.went,by rw [hm1.size,hsz0];exact Nat.le_refl _⟩
 clear hA0 hN0 hb0 hsz0 c0 c1 f1 hm1
 by_cases h2:i+1<s.size
 rotate_left
 ·have hnone:Z5u s i=Option.none:=by unfold Z5u;exact Z80 (by omega)
  have HN:Hid (Z5u s i=Option.none):=hnone
  clear hnone
  go_wp2_with fail
  refine (Z5p B p _ _ s (i+1) i a0 _ q1.hA (by have:=q1.big;omega) (by omega) q1.nx.hr q1.nx.hf q1.nx.hg).mono ?_
  rintro ev w2 ⟨b,rfl,t1,t2,t3⟩
  go_wp2
  exact ⟨rfl,Z7z.none HN.out ⟨b,rfl,(q1.went.below hBp (by omega)).trans t1,t2,t3⟩⟩
 go_wp2_with fail
 refine (Z1p p _ _ s (i+1) _ q1.hA h2 q1.nx.hr q1.nx.nr).mono ?_
 rintro ev w2 ⟨rfl,hm2⟩
 have q2:=q1.moved hp hm2 (by omega)
 go_wp2_with fail
 go_loopg [5,6] (s.size - (i+1)) (fun k v5 v6 wr => ∃ (x:Nat) (acc:List Int) (hx:x<s.size),k=s.size - x∧v6 = .int .u8 (s[x].toNat:Int)∧QS p i s a0 w (x+1) acc v5 wr∧acc.length≤x∧Z1e s (s.size+1 - x) x acc=Z5u s i)
 case atStart=>exact ⟨i+1,[],h2,rfl,rfl,q2,Nat.zero_le _,rfl⟩
 case round =>
  obtain ⟨x,acc,hx,hk,hv6,q,hlen,hstr⟩:=hrel
  subst hv6
  have HS:Hid (Z1e s (s.size+1 - x) x acc=Z5u s i):=hstr
  have HK:Hid (gk=s.size - x):=hk
  clear hstr hk q1 q2 hm2
  have hc0:(0:Int)≤(s[x].toNat:Int):=by omega
  have hc1:(s[x].toNat:Int)≤255:=by have:=s[x].toNat_lt;omega
  have hfu:s.size+1 - x=(s.size - x)+1:=by omega
  have HF:Hid (s.size+1 - x=(s.size - x)+1):=hfu
  clear hfu
  cases e34:((s[x].toNat:Int) == 34)
  rotate_left
  ·have hne:((s[x].toNat:Int) != 34)=false:=by simp [bne,e34]
   have hcv:=q.conv
   go_wp2
   go_ret
   exact Z7z.some (HS.out.symm.trans (by rw [HF.out];simp [Z1e,hx,e34])) q.went (by omega)
  have hne:((s[x].toNat:Int) != 34)=true:=by simp [bne,e34]
  by_cases l32:(s[x].toNat:Int)<32
  ·have HN:Hid (Z5u s i=Option.none):=HS.out.symm.trans (by rw [HF.out];simp [Z1e,hx,e34,l32])
   have hfr:=q.nx.hf
   go_wp2_with fail
   refine (Z3a _ a0 _ q.nx.hg).mono ?_
   rintro ev w3 ⟨rfl,rfl⟩
   go_wp2
   exact ⟨rfl,Z7z.none HN.out ⟨_,rfl,(q.went.below hBp (by omega)).alloc (by have:=q.big;omega) _,Z18 rfl rfl,Z18 rfl rfl⟩⟩
  by_cases g126:126<(s[x].toNat:Int)
  ·have HN:Hid (Z5u s i=Option.none):=HS.out.symm.trans (by rw [HF.out];simp [Z1e,hx,e34,l32,g126])
   have hfr:=q.nx.hf
   go_wp2_with fail
   refine (Z3a _ a0 _ q.nx.hg).mono ?_
   rintro ev w3 ⟨rfl,rfl⟩
   go_wp2
   exact ⟨rfl,Z7z.none HN.out ⟨_,rfl,(q.went.below hBp (by omega)).alloc (by have:=q.big;omega) _,Z18 rfl rfl,Z18 rfl rfl⟩⟩
  obtain ⟨i0,hi,hz0,hz1,hz2⟩:=info_parts infoByte
  cases e92:((s[x].toNat:Int) == 92)
  ·have HS2:Hid (Z1e s (s.size - x) (x+1) (acc ++ [(s[x].toNat:Int)])=Z5u s i):=Eq.trans (by rw [HF.out];simp [Z1e,hx,e34,l32,g126,e92]) HS.out
   have hown:=q.own
   have hbig:=q.big
   go_wp2_with (first | (at_builtin;refine wpList_append_own _ rfl _ _ 75 rfl (w.heap.size+1+1) 5 i0 (.int .u8 0) 1 1 underlying75 hi hz0 hz1 hz2 rfl (by decide) _ _ _ rfl (hown.alloc _) ⟨wr.heap.size,0,none⟩ 1 1 [.int .u8 (s[x].toNat:Int)] rfl rfl (cell_one_new _ _ _) (fun y hy=>by simp at hy;subst hy;rfl) (by unfold maxLen;omega) (by omega) (by simp;omega) ?_))
   intro v7 w3 hown3 hgrow3 _
   have q3:QS p i s a0 w (x+1) (acc ++ [(s[x].toNat:Int)]) v7 w3:=q.grown hp (by omega) hown3 hgrow3
   clear hown hown3 hgrow3 q hbig
   by_cases h3:x+1<s.size
   ·go_wp2_with fail
    refine (Z1p p _ _ s (x+1) _ q3.hA h3 q3.nx.hr q3.nx.nr).mono ?_
    rintro ev w4 ⟨rfl,hm4⟩
    have q4:=q3.moved hp hm4 (by omega)
    go_wp2_with fail
    go_roundg (s.size - (x+1))
    case measure=>have:=HK.out;omega
    case rel=>exact ⟨x+1,_,h3,rfl,rfl,q4,by simp;omega,by rw [show s.size+1 - (x+1)=s.size - x by omega];exact HS2.out⟩
   ·have HN:Hid (Z5u s i=Option.none):=HS2.out.symm.trans (Z80 (by omega))
    go_wp2_with fail
    refine (Z5p B p _ _ s (x+1) i a0 _ q3.hA (by have:=q3.big;omega) (by omega) q3.nx.hr q3.nx.hf q3.nx.hg).mono ?_
    rintro ev w4 ⟨b,rfl,t1,t2,t3⟩
    go_wp2
    exact ⟨rfl,Z7z.none HN.out ⟨b,rfl,(q3.went.below hBp (by omega)).trans t1,t2,t3⟩⟩
  ·have hfr:=q.nx.hf
   cases hesc:Z6r s (x+1) with
   | none =>
    have HN:Hid (Z5u s i=Option.none):=HS.out.symm.trans (by rw [HF.out];simp [Z1e,hx,e34,l32,g126,e92,hesc])
    have HE:Hid (Z6r s (x+1)=Option.none):=hesc
    clear hesc
    go_wp2_with fail
    refine (Zu7 B p _ _ i a0 s (x+1) _ q.hA q.nx hBp (by have:=q.big;omega) HE.out).mono ?_
    rintro ev w3 ⟨b,rfl,t1,t2,t3⟩
    go_wp2
    exact ⟨rfl,Z7z.none HN.out ⟨b,rfl,(q.went.below hBp (by omega)).trans t1,t2,t3⟩⟩
   | some vj =>
    obtain ⟨v,j⟩:=vj
    have hle:=Zf1 s (x+1) j v hesc
    have HS2:Hid (Z1e s (s.size - x) j (acc ++ [v])=Z5u s i):=Eq.trans (by rw [HF.out];simp [Z1e,hx,e34,l32,g126,e92,hesc]) HS.out
    have HE:Hid (Z6r s (x+1)=Option.some (v,j)):=hesc
    clear hesc
    go_wp2_with fail
    refine (Ztv p _ _ i a0 s (x+1) j v _ q.hA q.nx HE.out).mono ?_
    rintro ev w2' ⟨rfl,hmv⟩
    have qv:=q.moved hp hmv hle.2.1
    have hown:=qv.own
    have hbig:=qv.big
    clear q hmv hfr
    go_wp2_with (first | (at_builtin;refine wpList_append_own _ rfl _ _ 75 rfl (w.heap.size+1+1) 5 i0 (.int .u8 0) 1 1 underlying75 hi hz0 hz1 hz2 rfl (by decide) _ _ _ rfl (hown.alloc _) ⟨w2'.heap.size,0,none⟩ 1 1 [.int .u8 v] rfl rfl (cell_one_new _ _ _) (fun y hy=>by simp at hy;subst hy;rfl) (by unfold maxLen;omega) (by omega) (by simp;omega) ?_))
    intro v7 w3 hown3 hgrow3 _
    have q3:QS p i s a0 w j (acc ++ [v]) v7 w3:=qv.grown hp (by omega) hown3 hgrow3
    clear hown hown3 hgrow3 qv hbig
    by_cases h3:j<s.size
    ·go_wp2_with fail
     refine (Z1p p _ _ s j _ q3.hA h3 q3.nx.hr q3.nx.nr).mono ?_
     rintro ev w4 ⟨rfl,hm4⟩
     have q4:=q3.moved hp hm4 (by omega)
     go_wp2_with fail
     go_roundg (s.size - j)
     case measure=>have:=HK.out;omega
     case rel=>exact ⟨j,_,h3,rfl,rfl,q4,by simp;omega,(Z73 s _ _ _ _ (by omega) (by omega)).trans HS2.out⟩
    ·have HN:Hid (Z5u s i=Option.none):=HS2.out.symm.trans (Z80 (by omega))
     go_wp2_with fail
     refine (Z5p B p _ _ s j i a0 _ q3.hA (by have:=q3.big;omega) (by omega) q3.nx.hr q3.nx.hf q3.nx.hg).mono ?_
     rintro ev w4 ⟨b,rfl,t1,t2,t3⟩
     go_wp2
     exact ⟨rfl,Z7z.none HN.out ⟨b,rfl,(q3.went.below hBp (by omega)).trans t1,t2,t3⟩⟩
end Go.Proofs.YtflcohidmemfpaaGreatDoor
namespace Go.Proofs.YtflcohidmemfpaaGreatDoor
open Go.Proofs.Tryz
open Go.RowKit

def wordList:List (List UInt8):=[[97,110,100],[98,114,101,97,107],[99,111,110,116,105,110,117,101],[100,101,102],[100,101,108],[101,108,105,102],[101,108,115,101],[101,120,99,101,112,116],[70,97,108,115,101],[102,111,114],[103,108,111,98,97,108],[105,102],[105,110],[105,115],[108,97,109,98,100,97],[78,111,110,101],[110,111,110,108,111,99,97,108],[110,111,116],[111,114],[112,97,115,115],[114,97,105,115,101],[114,101,116,117,114,110],[84,114,117,101],[116,114,121],[119,104,105,108,101]]
def Zg2 (k:Nat):ByteArray:=⟨(wordList.getD k []).toArray⟩
def wordCells:Array Value:=#[.string ⟨#[97,110,100]⟩,.string ⟨#[98,114,101,97,107]⟩,.string ⟨#[99,111,110,116,105,110,117,101]⟩,.string ⟨#[100,101,102]⟩,.string ⟨#[100,101,108]⟩,.string ⟨#[101,108,105,102]⟩,.string ⟨#[101,108,115,101]⟩,.string ⟨#[101,120,99,101,112,116]⟩,.string ⟨#[70,97,108,115,101]⟩,.string ⟨#[102,111,114]⟩,.string ⟨#[103,108,111,98,97,108]⟩,.string ⟨#[105,102]⟩,.string ⟨#[105,110]⟩,.string ⟨#[105,115]⟩,.string ⟨#[108,97,109,98,100,97]⟩,.string ⟨#[78,111,110,101]⟩,.string ⟨#[110,111,110,108,111,99,97,108]⟩,.string ⟨#[110,111,116]⟩,.string ⟨#[111,114]⟩,.string ⟨#[112,97,115,115]⟩,.string ⟨#[114,97,105,115,101]⟩,.string ⟨#[114,101,116,117,114,110]⟩,.string ⟨#[84,114,117,101]⟩,.string ⟨#[116,114,121]⟩,.string ⟨#[119,104,105,108,101]⟩]
def opList:List (List UInt8):=[[61,61],[33,61],[60,61],[62,61],[47,47],[60],[62],[61],[43],[45],[42],[37],[40],[41],[91],[93],[123],[125],[44],[58],[46]]
def Zb0 (k:Nat):ByteArray:=⟨(opList.getD k []).toArray⟩
def opCells:Array Value:=#[.string ⟨#[61,61]⟩,.string ⟨#[33,61]⟩,.string ⟨#[60,61]⟩,.string ⟨#[62,61]⟩,.string ⟨#[47,47]⟩,.string ⟨#[60]⟩,.string ⟨#[62]⟩,.string ⟨#[61]⟩,.string ⟨#[43]⟩,.string ⟨#[45]⟩,.string ⟨#[42]⟩,.string ⟨#[37]⟩,.string ⟨#[40]⟩,.string ⟨#[41]⟩,.string ⟨#[91]⟩,.string ⟨#[93]⟩,.string ⟨#[123]⟩,.string ⟨#[125]⟩,.string ⟨#[44]⟩,.string ⟨#[58]⟩,.string ⟨#[46]⟩]

theorem Zmx (k:Nat) (hk:k<25) (w:World):(Instr.index 178 (.agg wordCells) (.int .i64 (k:Int))).run prog w = .ok (.string (Zg2 k)) w:=by
 iterate 25 (rcases k with _ | k;· kernel_rfl)
 omega
theorem Ztj (k:Nat) (hk:k<21) (w:World):(Instr.index 172 (.agg opCells) (.int .i64 (k:Int))).run prog w = .ok (.string (Zb0 k)) w:=by
 iterate 21 (rcases k with _ | k;· kernel_rfl)
 omega

def Z4k (t:ByteArray):Nat→Nat→Bool
 | 0,_=>false
 | n+1,k=>if (Zg2 k).toList == t.toList then true else Z4k t n (k+1)
def Znq (t:ByteArray):Bool:=Z4k t 25 0

theorem Zgh {t:ByteArray}{k:Nat} (hk:k<25) (h:((Zg2 k).toList == t.toList)=true):Z4k t (25 - k) k=true:=by
 obtain ⟨n,hn⟩:∃ n,25 - k=n+1:=⟨25 - k - 1,by omega⟩
 rw [hn]
 simp only [Z4k,h,if_true]
theorem Zep {t:ByteArray}{k:Nat} (hk:k<25) (h:((Zg2 k).toList == t.toList)=false):Z4k t (25 - k) k=Z4k t (25 - (k+1)) (k+1):=by
 obtain ⟨n,hn⟩:∃ n,25 - k=n+1:=⟨25 - k - 1,by omega⟩
 rw [hn,show 25 - (k+1)=n by omega]
 simp only [Z4k,h,Bool.false_eq_true,if_false]

theorem Zra:(prog.info? 178).map (·.size)=some wordCells.size:=by kernel_rfl
theorem Zy4:(prog.info? 172).map (·.size)=some opCells.size:=by kernel_rfl

set_option maxHeartbeats 400000 in
theorem Zns (t:ByteArray) (w:World) (tt:TypeId) (fr:Nat × Nat) (hw:w.heap[5]?=some (.cells wordCells tt fr)) :
  Calls prog 136 #[.string t] w fun ev w'=>ev = .returned (.bool (Znq t))∧w'=w:=by
 go_enter func136,ntmps136
 go_wp2_with (refine wpList_load_row rfl 178 _ rfl 5 rfl tt _ fr _ hw underlying178 rfl Zra ?_)
 clear hw
 go_loopg [6] 25 (fun n v6 wr => ∃ k:Nat,n=25 - k∧k≤25∧v6 = .int .i64 (k:Int)∧Z4k t (25 - k) k=Znq t∧wr=w)
 case atStart=>exact ⟨0,rfl,by decide,rfl,rfl,rfl⟩
 case round =>
  obtain ⟨k,hn,hk,hv,hwf,rfl⟩:=hrel
  subst hv
  have HW:Hid (Z4k t (25 - k) k=Znq t):=hwf
  have HN:Hid (gk=25 - k):=hn
  clear hwf hn
  by_cases hlt:k<25
  ·have hix:=Zmx k hlt
   have hI:(k:Int)<25:=by omega
   cases he:((Zg2 k).toList == t.toList)
   ·go_wp2
    go_roundg (25 - (k+1))
    case measure=>have:=HN.out;omega
    case rel=>exact ⟨k+1,rfl,by omega,by go_num,(Zep hlt he).symm.trans HW.out,rfl⟩
   ·go_wp2
    go_ret
    exact ⟨Z3c ((Zgh hlt he).symm.trans HW.out),rfl⟩
  ·have hke:k=25:=by omega
   have HK:Hid (k=25):=hke
   clear hke
   go_wp2
   go_ret
   exact ⟨Z3c (Eq.trans (by rw [HK.out];rfl) HW.out),rfl⟩

def Z3z (a b:ByteArray):Bool:=if b.size≤a.size then (a.extract 0 b.size).toList == b.toList else false
theorem Z8v (a b:ByteArray) (w:World) :
  Calls prog 140 #[.string a,.string b] w fun ev w'=>ev = .returned (.bool (Z3z a b))∧w'=w:=by
 by_cases h:b.size≤a.size
 ·have hI:(b.size:Int)≤(a.size:Int):=by omega
  go_enter func140,ntmps140
  go_wp2
  go_ret
  exact ⟨Z3c (by simp [Z3z,h]),rfl⟩
 ·have hI:¬ (b.size:Int)≤(a.size:Int):=by omega
  go_enter func140,ntmps140
  go_wp2
  go_ret
  exact ⟨Z3c (by simp [Z3z,h]),rfl⟩

def Z5e (s:ByteArray) (i:Nat):Nat:=Z16 Z55 s (s.size - (i+1)) (i+1)
def Z37 (s:ByteArray) (i:Nat):Option (Bool × ByteArray × Nat):=
 if h:i<s.size then
  if Znq (s.extract i (Z5e s i)) then some (true,s.extract i (Z5e s i),Z5e s i)
  else if Z1n (s[i].toNat:Int) then none
  else if 16<Z5e s i - i then none
  else some (false,s.extract i (Z5e s i),Z5e s i)
 else none

def Zkg (B p:Nat) (s:ByteArray) (i:Nat) (a0:Addr) (w:World) (ev:Ending) (w':World):Prop:=
 match Z37 s i with
 | some (wd,t,j)=>ev = .returned (.tuple #[.string (if wd then ⟨#[119,111,114,100]⟩ else ⟨#[110,97,109,101]⟩),.string t])∧Went p w w' j∧j≤s.size
 | none=>Z3h B w i a0 ev w'

set_option maxHeartbeats 1000000 in
theorem Zgf (B p i:Nat) (s:ByteArray) (a0:Addr) (w:World) (h:At p s i w) (hlt:i<s.size) (hp:p<w.heap.size) (hBp:B≤p) (_hgB:3<B) (hg:w.cell? ⟨3,0,none⟩=some (.iface 214 (.pointer (some a0)))) (tt:TypeId) (fr:Nat × Nat) (hwB:5<B) (hw:w.heap[5]?=some (.cells wordCells tt fr)) :
  Calls prog 105 #[.pointer (some ⟨p,0,none⟩)] w fun ev w'=>Zkg B p s i a0 w ev w':=by
 have hM:=Moved.refl h.c1
 have hA:=h
 obtain ⟨hs,hat,c0,c1,f1⟩:=h
 have hm1:=Moved.set c1 (i+1)
 have hA1:=hA.moved hm1 (by omega)
 have hle:=Z29 Z55 s (s.size - (i+1)) (i+1)
 have hI:(i:Int)<(s.size:Int):=by omega
 go_enter func105,ntmps105
 go_wp2_with fail
 refine (Zaz 135 Z55 Zqe Zvd p s (i+1) _ hs (by omega) hA1.c0 hA1.c1 hA1.f1).mono ?_
 rintro ev w1 ⟨rfl,hm2⟩
 have hj1:i+1≤Z16 Z55 s (s.size - (i+1)) (i+1):=hle.1
 have hj2:Z16 Z55 s (s.size - (i+1)) (i+1)≤s.size:=hle.2 (by omega)
 have hwent:Moved p w w1 (Z16 Z55 s (s.size - (i+1)) (i+1)):=hm1.trans hm2
 have hjj:Z5e s i=Z16 Z55 s (s.size - (i+1)) (i+1):=rfl
 generalize Z16 Z55 s (s.size - (i+1)) (i+1)=j at hm2 hj1 hj2 hwent hjj ⊢
 have HJ:Hid (Z5e s i=j):=hjj
 have hA2:=hA.moved hwent hj2
 have d0:=hA2.c0
 have d1:=hA2.c1
 have hww:w1.heap[5]?=some (.cells wordCells tt fr):=(hwent.far 5 (by omega)).trans hw
 have hgg:w1.cell? ⟨3,0,none⟩=some (.iface 214 (.pointer (some a0))):=(World.cell?_of_block (w:=w) (hwent.far 3 (by omega))).trans hg
 clear hjj hm2 hm1 hA1 hle c0 c1 f1 hA2 hM hw hg
 have hJ1:(i:Int)≤(j:Int):=by omega
 have hJ2:(j:Int)≤(s.size:Int):=by omega
 have hesz:(s.extract i j).size=j - i:=by simp [ByteArray.size_extract];omega
 go_wp2_with fail
 go_quiet (fail)
 go_wp2_with fail
 refine (Zns _ _ tt fr (by exact hww)).mono ?_
 rintro ev w2 ⟨rfl,rfl⟩
 cases hwd:Znq (s.extract i j)
 rotate_left
 ·go_wp2_with fail
  go_ret2
  unfold Zkg
  have hn:Z37 s i=some (true,s.extract i j,j):=by simp [Z37,hlt,HJ.out,hwd]
  rw [hn]
  exact ⟨rfl,(hwent.drewN _).went,hj2⟩
 have hpos:0<(s.extract i j).size:=by omega
 have hP:(0:Int)<((s.extract i j).size:Int):=by omega
 have hfirst:(s.extract i j)[0]=s[i]:=by simp [ByteArray.getElem_extract]
 have HFI:Hid ((s.extract i j)[0]=s[i]):=hfirst
 clear hfirst
 go_wp2_with fail
 refine (Z40 _ _).mono ?_
 rintro ev w2 ⟨rfl,rfl⟩
 rw [HFI.out]
 cases hcap:Z1n (s[i].toNat:Int)
 rotate_left
 ·have HN:Hid (Z37 s i=none):=show Z37 s i=none by simp [Z37,hlt,HJ.out,hwd,hcap]
  go_wp2_with fail
  refine (Z3a _ a0 _ (by exact hgg)).mono ?_
  rintro ev w3 ⟨rfl,rfl⟩
  go_wp2
  refine ⟨rfl,?_⟩
  unfold Zkg
  rw [HN.out]
  exact ⟨_,rfl,Z5c ((hwent.below hBp).alloc (by rw [hwent.size];omega) _),Z18 rfl rfl,Z18 rfl rfl⟩
 by_cases h16:16<j - i
 ·have HN:Hid (Z37 s i=none):=show Z37 s i=none by simp [Z37,hlt,HJ.out,hwd,hcap,h16]
  have h16':(16:Int)<((s.extract i j).size:Int):=by omega
  go_wp2_with fail
  refine (Z3a _ a0 _ (by exact hgg)).mono ?_
  rintro ev w3 ⟨rfl,rfl⟩
  go_wp2
  refine ⟨rfl,?_⟩
  unfold Zkg
  rw [HN.out]
  exact ⟨_,rfl,Z5c ((hwent.below hBp).alloc (by rw [hwent.size];omega) _),Z18 rfl rfl,Z18 rfl rfl⟩
 ·have HN:Hid (Z37 s i=some (false,s.extract i j,j)):=show Z37 s i=some (false,s.extract i j,j) by simp [Z37,hlt,HJ.out,hwd,hcap,h16]
  have h16':¬ (16:Int)<((s.extract i j).size:Int):=by omega
  go_wp2_with fail
  go_ret2
  unfold Zkg
  rw [HN.out]
  exact ⟨rfl,(hwent.drewN _).went,hj2⟩
end Go.Proofs.YtflcohidmemfpaaGreatDoor
namespace Go.Proofs.YtflcohidmemfpaaGreatDoor
open Go.Proofs.Tryz
open Go.RowKit

def Z4c (s:ByteArray) (i:Nat):Nat→Nat→Option (ByteArray × Nat)
 | 0,_=>none
 | n+1,k=>if Z3z (s.extract i s.size) (Zb0 k) then some (Zb0 k,i+(Zb0 k).size) else Z4c s i n (k+1)
def Zet (s:ByteArray) (i:Nat):Option (ByteArray × Nat):=Z4c s i 21 0

theorem Zn6 {s:ByteArray}{i k:Nat} (hk:k<21) (h:Z3z (s.extract i s.size) (Zb0 k)=true):Z4c s i (21 - k) k=some (Zb0 k,i+(Zb0 k).size):=by
 obtain ⟨n,hn⟩:∃ n,21 - k=n+1:=⟨21 - k - 1,by omega⟩
 rw [hn]
 simp only [Z4c,h,if_true]
theorem Ziq {s:ByteArray}{i k:Nat} (hk:k<21) (h:Z3z (s.extract i s.size) (Zb0 k)=false):Z4c s i (21 - k) k=Z4c s i (21 - (k+1)) (k+1):=by
 obtain ⟨n,hn⟩:∃ n,21 - k=n+1:=⟨21 - k - 1,by omega⟩
 rw [hn,show 21 - (k+1)=n by omega]
 simp only [Z4c,h,Bool.false_eq_true,if_false]
theorem Zqd (k:Nat):(Zb0 k).size≤2:=by
 iterate 21 (rcases k with _ | k;· decide)
 have:Zb0 (k+1+1+1+1+1+1+1+1+1+1+1+1+1+1+1+1+1+1+1+1+1)=⟨#[]⟩:=rfl
 rw [this]
 decide
theorem Zak {a b:ByteArray} (h:Z3z a b=true):b.size≤a.size:=by
 unfold Z3z at h
 split at h
 ·assumption
 ·cases h

def Zvn (B p:Nat) (s:ByteArray) (i:Nat) (a0:Addr) (w:World) (ev:Ending) (w':World):Prop:=
 match Zet s i with
 | some (t,j)=>ev = .returned (.string t)∧Went p w w' j∧j≤s.size
 | none=>Z3h B w i a0 ev w'

set_option maxHeartbeats 1000000 in
theorem Zwf (B p i:Nat) (s:ByteArray) (a0:Addr) (w:World) (h:At p s i w) (hlt:i<s.size) (hp:p<w.heap.size) (hBp:B≤p) (hg:w.cell? ⟨3,0,none⟩=some (.iface 214 (.pointer (some a0)))) (tt:TypeId) (fr:Nat × Nat) (hw:w.heap[4]?=some (.cells opCells tt fr)) :
  Calls prog 109 #[.pointer (some ⟨p,0,none⟩)] w fun ev w'=>Zvn B p s i a0 w ev w':=by
 have hM:=Moved.refl h.c1
 obtain ⟨hs,hat,c0,c1,f1⟩:=h
 have hI:(i:Int)≤(s.size:Int):=by omega
 have hI0:(0:Int)≤(i:Int):=by omega
 go_enter func109,ntmps109
 go_wp2_with (refine wpList_load_row rfl 172 _ rfl 4 rfl tt _ fr _ hw underlying172 rfl Zy4 ?_)
 clear hw
 go_loopg [6] 21 (fun n v6 wr => ∃ k q:Nat,n=21 - k∧k≤21∧v6 = .int .i64 (k:Int)∧Z4c s i (21 - k) k=Zet s i∧wr=w.drewN q)
 case atStart=>exact ⟨0,0,rfl,by decide,rfl,rfl,rfl⟩
 case round =>
  obtain ⟨k,q,hn,hk,hv,hwf,hwr⟩:=hrel
  subst hv
  have hMr:Moved p w wr i:=by rw [hwr];exact hM.drewN q
  have d0:wr.cell? ⟨p,0,none⟩=some (.string s):=(hMr.near 0 (by decide)).trans c0
  have d1:=hMr.at_
  have g1:wr.frozen? ⟨p,1,none⟩=false:=(hMr.fz 1).trans f1
  have dg:wr.cell? ⟨3,0,none⟩=some (.iface 214 (.pointer (some a0))):=by rw [hwr];exact hg
  have HWR:Hid (wr=w.drewN q):=hwr
  clear hwr c0 c1 f1 hg hM
  have HW:Hid (Z4c s i (21 - k) k=Zet s i):=hwf
  have HN:Hid (gk=21 - k):=hn
  clear hwf hn
  have hos:=Zqd k
  by_cases hlt:k<21
  ·have hix:=Ztj k hlt
   have hI:(k:Int)<21:=by omega
   cases he:Z3z (s.extract i s.size) (Zb0 k)
   ·go_wp2_with fail
    go_quiet ((go_at_call 140;exact Calls.quiet_of_same (Z8v _ _ _)))
    rw [he]
    go_wp2_with fail
    go_roundg (21 - (k+1))
    case measure=>have:=HN.out;omega
    case rel=>exact ⟨k+1,q+nq,rfl,by omega,by go_num,(Ziq hlt he).symm.trans HW.out,by rw [HWR.out];simp [World.drewN,Nat.add_assoc]⟩
   ·have HP:Hid (Z3z (s.extract i s.size) (Zb0 k)=true):=he
    have hsz:=Zak he
    have hez:(s.extract i s.size).size=s.size - i:=by simp
    go_wp2_with fail
    go_quiet ((go_at_call 140;exact Calls.quiet_of_same (Z8v _ _ _)))
    rw [he]
    go_wp2_with fail
    go_ret
    unfold Zvn
    rw [←HW.out,Zn6 hlt HP.out]
    exact ⟨rfl,((hMr.drewN _).trans (Moved.set (hMr.drewN _).at_ (i+(Zb0 k).size))).went,by omega⟩
  ·have HK:Hid (k=21):=show k=21 by omega
   go_wp2_with fail
   refine (Z3a _ a0 _ dg).mono ?_
   rintro ev w3 ⟨rfl,rfl⟩
   go_wp2
   refine ⟨rfl,?_⟩
   unfold Zvn
   have hno:Zet s i=none:=HW.out.symm.trans (by rw [HK.out];rfl)
   rw [hno]
   exact ⟨_,rfl,(hMr.below hBp).alloc (by rw [hMr.size];omega) _,Z18 rfl rfl,Z18 rfl rfl⟩
end Go.Proofs.YtflcohidmemfpaaGreatDoor
namespace Go.Proofs.YtflcohidmemfpaaGreatDoor
open Go.Proofs.Tryz
open Go.RowKit

def Z0o (k t:ByteArray) (i:Nat):List Value:=[.string k,.string t,.int .i64 i]

structure RS (B p:Nat) (s:ByteArray) (at_:Nat) (op:List Int) (n:Nat) (tk:List Value) (w:World):Prop where
 hA:At p s at_ w
 hp:B≤p
 hpl:p<w.heap.size
 ex:∃ g cap vt,w.cell? ⟨p,2,none⟩=some (.slice (some ⟨g,0,none⟩) op.length cap)∧w.cell? ⟨p,3,none⟩=some vt ∧
  w.ownsRow B 3 1 (.slice (some ⟨g,0,none⟩) op.length cap) op.length (op.map (Value.int .i64))∧w.ownsRow B 121 3 vt n tk ∧
  g≠p∧vt.ownBlock≠some p∧vt.ownBlock≠some g
 f2:w.frozen? ⟨p,2,none⟩=false
 f3:w.frozen? ⟨p,3,none⟩=false

theorem Zyl:(prog.info? 121).map (fun i=>(i.zero,i.size,i.bytes))=some (some (.agg #[.string ⟨#[]⟩,.string ⟨#[]⟩,.int .i64 0]),3,40):=by kernel_rfl
theorem Zxi:(prog.info? 3).map (fun i=>(i.zero,i.size,i.bytes))=some (some (.int .i64 0),1,8):=by kernel_rfl

theorem Zr3 (w:World) (a b c:Value) (t:TypeId):∀ j u,([a,b,c]:List Value)[j]?=some u→(w.alloc (.cells #[a,b,c] t)).cell? ((⟨w.heap.size,0,none⟩:Addr).add j)=some u:=by
 intro j u h
 have hadd:(⟨w.heap.size,0,none⟩:Addr).add j=⟨w.heap.size,j,none⟩:=by unfold Addr.add;split <;> simp_all
 rw [hadd,World.cell?_alloc_at _ _ _ _ rfl]
 simpa using h

theorem Z2v (w:World) (p o q:Nat) (v:Value):(w.setCell ⟨p,o,none⟩ v).frozen? ⟨p,q,none⟩=w.frozen? ⟨p,q,none⟩:=by
 simp only [World.setCell,World.frozen?,Array.getElem?_modify]
 simp only [if_true]
 cases w.heap[p]? with
 | none=>rfl
 | some x=>cases x <;> rfl
theorem Z2b (w:World) (p o q:Nat) (v:Value) (h:q≠o):(w.setCell ⟨p,o,none⟩ v).cell? ⟨p,q,none⟩=w.cell? ⟨p,q,none⟩:=
 World.cell?_setCell_other _ _ _ _ (by intro e;exact h (by simpa using e.symm))
theorem Z07 (w:World) (p o k:Nat) (v:Value) (h:k≠p):(w.setCell ⟨p,o,none⟩ v).heap[k]?=w.heap[k]?:=Below.heap_setCell _ _ _ _ h
theorem Z1x (w:World) (a:Addr) (v:Value):(w.setCell a v).heap.size=w.heap.size:=by simp [World.setCell]

theorem Zzy {B p:Nat}{s:ByteArray}{at_:Nat}{op:List Int}{n:Nat}{tk news:List Value}{w w1:World}{g cap gn capn:Nat}{vt:Value}{o:Obj} (hA:At p s at_ w) (hp:B≤p) (hpl:p<w.heap.size)
  (c2:w.cell? ⟨p,2,none⟩=some (.slice (some ⟨g,0,none⟩) op.length cap)) (c3:w.cell? ⟨p,3,none⟩=some vt)
  (o2:w.ownsRow B 3 1 (.slice (some ⟨g,0,none⟩) op.length cap) op.length (op.map (Value.int .i64))) (o3:w.ownsRow B 121 3 vt n tk)
  (ngp:g≠p) (ntp:vt.ownBlock≠some p) (ntg:vt.ownBlock≠some g) (f2:w.frozen? ⟨p,2,none⟩=false) (f3:w.frozen? ⟨p,3,none⟩=false) (hB:B≤w.heap.size)
  (hown1:w1.ownsRow B 121 3 (.slice (some ⟨gn,0,none⟩) (n+1) capn) (n+1) (tk++news)) (hgrow:(w.alloc o).grownBy w1 vt.ownBlock) (hat:vt.ownBlock=some gn∨gn=w.heap.size+1) :
  RS B p s at_ op (n+1) (tk++news) (w1.setCell ⟨p,3,none⟩ (.slice (some ⟨gn,0,none⟩) (n+1) capn))∧Below B w (w1.setCell ⟨p,3,none⟩ (.slice (some ⟨gn,0,none⟩) (n+1) capn)):=by
 have hg:g<w.heap.size:=by
  rcases o2.2 with ⟨h,_⟩ | ⟨g',cap',cur,h,_,hg',_⟩
  ·cases h
  ·simp at h;rw [h.1];exact Z00 hg'
 have blk:∀ k,k<w.heap.size→vt.ownBlock≠some k→w1.heap[k]?=w.heap[k]?:=fun k hk hne =>
  (hgrow.block k (by simp;omega) (fun e=>hne e.symm)).trans (Below.heap_alloc _ _ _ hk)
 have bp:w1.heap[p]?=w.heap[p]?:=blk p hpl ntp
 have bg:w1.heap[g]?=w.heap[g]?:=blk g hg ntg
 have ce:∀ q,w1.cell? ⟨p,q,none⟩=w.cell? ⟨p,q,none⟩:=fun q=>World.cell?_of_block (w:=w) (a:=⟨p,q,none⟩) bp
 have fe:∀ q,w1.frozen? ⟨p,q,none⟩=w.frozen? ⟨p,q,none⟩:=fun q=>World.frozen?_of_block (w:=w) (a:=⟨p,q,none⟩) bp
 have hgn:gn≠p∧gn≠g:=by
  rcases hat with h | h
  ·exact ⟨fun e=>ntp (by rw [h,e]),fun e=>ntg (by rw [h,e])⟩
  ·omega
 have hsz:w.heap.size≤w1.heap.size:=by have:=hgrow.size;simp at this;omega
 have hbel:Below B w w1:=Below.grown ((Below.refl _ _).alloc hB _) hgrow (by simp;omega) (Z20 o3)
 refine ⟨⟨⟨hA.hs,hA.hat,?_,?_,?_⟩,hp,by rw [Z1x];omega,⟨g,cap,_,?_,World.cell?_setCell_same _ _ _ (u:=vt) ((ce 3).trans c3),?_,?_,ngp,?_,?_⟩,?_,?_⟩,hbel.setCell hp _⟩
 ·rw [Z2b _ _ _ _ _ (by decide),ce];exact hA.c0
 ·rw [Z2b _ _ _ _ _ (by decide),ce];exact hA.c1
 ·rw [Z2v,fe];exact hA.f1
 ·rw [Z2b _ _ _ _ _ (by decide),ce];exact c2
 ·refine ⟨o2.1,?_⟩
  rcases o2.2 with h | ⟨g',cap',cur,h,hb,hg',rest⟩
  ·exact .inl h
  ·have eg:g'=g:=by simp at h;exact h.1.symm
   refine .inr ⟨g',cap',cur,h,hb,?_,rest⟩
   rw [Z07 _ _ _ _ _ (by rw [eg];exact ngp),eg,bg,←eg];exact hg'
 ·refine ⟨hown1.1,?_⟩
  rcases hown1.2 with h | ⟨g',cap',cur,h,hb,hg',rest⟩
  ·exact .inl h
  ·have eg:g'=gn:=by simp at h;exact h.1.symm
   refine .inr ⟨g',cap',cur,h,hb,?_,rest⟩
   rw [Z07 _ _ _ _ _ (by rw [eg];exact hgn.1)];exact hg'
 ·simp [Value.ownBlock];exact hgn.1
 ·simp [Value.ownBlock];exact hgn.2
 ·rw [Z2v,fe];exact f2
 ·rw [Z2v,fe];exact f3

set_option maxHeartbeats 400000 in
theorem Z6j (B p:Nat) (s:ByteArray) (at_:Nat) (op:List Int) (n:Nat) (tk:List Value) (w:World) (k t:ByteArray) (i:Nat) (h:RS B p s at_ op n tk w) (hB:B≤w.heap.size) (hn:n≤100000) :
  Calls prog 59 #[.pointer (some ⟨p,0,none⟩),.string k,.string t,.int .i64 i] w fun ev w'=>ev = .returned (.tuple #[])∧RS B p s at_ op (n+1) (tk++Z0o k t i) w'∧Below B w w':=by
 obtain ⟨hA,hp,hpl,⟨g,cap,vt,c2,c3,o2,o3,ngp,ntp,ntg⟩,f2,f3⟩:=h
 obtain ⟨i0,hi,hz0,hz1,hz2⟩:=info_parts Zyl
 go_enter func59,ntmps59
 go_wp2_with (first | (at_builtin;refine wpList_append_lies _ rfl _ _ _ rfl B 121 i0 (.agg #[.string ⟨#[]⟩,.string ⟨#[]⟩,.int .i64 0]) 3 40 underlying97 hi hz0 hz1 hz2 rfl (by decide) _ n tk rfl (o3.alloc _) ⟨w.heap.size,0,none⟩ 1 1 (Z0o k t i) rfl rfl (Zr3 _ _ _ _ _) (fun y hy=>by simp [Z0o] at hy;rcases hy with rfl | rfl | rfl <;> rfl) (by decide) (by unfold maxLen;omega) (by omega) (by simp;omega) _ rfl ?_))
 intro gn capn w1 hown1 hgrow hat hlt
 have R:=Zzy hA hp hpl c2 c3 o2 o3 ngp ntp ntg f2 f3 hB hown1 hgrow (by simpa using hat)
 have e3:w1.cell? ⟨p,3,none⟩=some vt:=by
  rw [hgrow.cell_far ⟨p,3,none⟩ (by simp;omega) (fun e=>ntp e.symm),World.cell?_alloc_past _ _ _ hpl];exact c3
 have g3:w1.frozen? ⟨p,3,none⟩=false:=by
  rw [hgrow.frozen_far ⟨p,3,none⟩ (by simp;omega) (fun e=>ntp e.symm),World.frozen?_alloc_past _ _ _ hpl];exact f3
 clear hgrow hown1 hat hA c2 c3 o2 o3 ntp ntg f2 f3
 go_wp2
 go_end0
 exact ⟨rfl,R.1,R.2⟩
end Go.Proofs.YtflcohidmemfpaaGreatDoor
namespace Go.Proofs.YtflcohidmemfpaaGreatDoor
open Go.Proofs.Tryz
open Go.RowKit

theorem RS.top {B p:Nat}{s:ByteArray}{at_:Nat}{l:List Int}{x:Int}{n:Nat}{tk:List Value}{w:World} (h:RS B p s at_ (l ++ [x]) n tk w) :
  ∃ g cap,w.cell? ⟨p,2,none⟩=some (.slice (some ⟨g,0,none⟩) (l.length+1) cap)∧w.cell? ⟨g,l.length,none⟩=some (.int .i64 x):=by
 obtain ⟨_,_,_,⟨g,cap,vt,c2,_,o2,_⟩,_,_⟩:=h
 refine ⟨g,cap,by simpa using c2,?_⟩
 rcases o2.2 with ⟨h,_⟩ | ⟨g',cap',cur,h,_,hg',_,_,hsz,htk⟩
 ·cases h
 ·have eg:g'=g:=by simp at h;exact h.1.symm
  subst eg
  rw [cell_of_row w g' l.length cur 3 (0,0) hg']
  have e:(cur.toList.take ((l ++ [x]).length*1))[l.length]?=((l ++ [x]).map (Value.int .i64))[l.length]?:=by rw [htk]
  rw [List.getElem?_take,if_pos (by simp)] at e
  rw [←Array.getElem?_toList,e]
  simp

theorem RS.drewN {B p:Nat}{s:ByteArray}{at_:Nat}{op:List Int}{n:Nat}{tk:List Value}{w:World} (h:RS B p s at_ op n tk w) (q:Nat):RS B p s at_ op n tk (w.drewN q):=
 ⟨⟨h.hA.hs,h.hA.hat,h.hA.c0,h.hA.c1,h.hA.f1⟩,h.hp,h.hpl,h.ex,h.f2,h.f3⟩

theorem Z8q {B p:Nat}{s:ByteArray}{at_:Nat}{l:List Int}{x:Int}{n:Nat}{tk:List Value} (w:World) (h:RS B p s at_ (l ++ [x]) n tk w) (hl:l.length≤100000) :
  Calls prog 74 #[.pointer (some ⟨p,0,none⟩)] w fun ev w'=>ev = .returned (.int .i64 x) ∧ ∃ q,w'=w.drewN q:=by
 obtain ⟨g,cap,c2,cg⟩:=h.top
 exact Zfv p w g l.length cap x hl c2 cg

def Z2f (ind:Int):List Int→Nat × List Int
 | []=>(0,[])
 | x::xs=>if ind<x then ((Z2f ind xs).1+1,(Z2f ind xs).2) else (0,x::xs)

def Z4z (i:Nat):Nat→List Value
 | 0 => []
 | k+1=>Z4z i k++Z0o ⟨#[100,101,100,101,110,116]⟩ ⟨#[]⟩ i

theorem Z0j {w w':World}{base e size n:Nat}{v:Value}{xs:List Value} (h:w.ownsRow base e size v n xs) (hf:∀ k,v.ownBlock=some k→w'.heap[k]?=w.heap[k]?):w'.ownsRow base e size v n xs:=by
 refine ⟨h.1,?_⟩
 rcases h.2 with hn | ⟨g,cap,cur,hv,hb,hg,rest⟩
 ·exact .inl hn
 ·exact .inr ⟨g,cap,cur,hv,hb,(hf g (by rw [hv];rfl)).trans hg,rest⟩

theorem Zzq {B p:Nat}{s:ByteArray}{at_:Nat}{l:List Int}{x:Int}{n:Nat}{tk:List Value}{w:World}{g cap:Nat} (h:RS B p s at_ (l ++ [x]) n tk w) (hc:w.cell? ⟨p,2,none⟩=some (.slice (some ⟨g,0,none⟩) (l.length+1) cap)) :
  RS B p s at_ l n tk (w.setCell ⟨p,2,none⟩ (.slice (some ⟨g,0,none⟩) l.length cap))∧Below B w (w.setCell ⟨p,2,none⟩ (.slice (some ⟨g,0,none⟩) l.length cap)):=by
 obtain ⟨hA,hp,hpl,⟨g',cap',vt,c2,c3,o2,o3,ngp,ntp,ntg⟩,f2,f3⟩:=h
 have e:g'=g∧cap'=cap:=by
  rw [hc] at c2
  simp at c2
  exact ⟨c2.1.symm,c2.2.symm⟩
 obtain ⟨rfl,rfl⟩:=e
 refine ⟨⟨⟨hA.hs,hA.hat,?_,?_,?_⟩,hp,by rw [Z1x];exact hpl,⟨g',cap',vt,World.cell?_setCell_same _ _ _ hc,?_,?_,?_,ngp,ntp,ntg⟩,?_,?_⟩,(Below.refl _ _).setCell hp _⟩
 ·rw [Z2b _ _ _ _ _ (by decide)];exact hA.c0
 ·rw [Z2b _ _ _ _ _ (by decide)];exact hA.c1
 ·rw [Z2v];exact hA.f1
 ·rw [Z2b _ _ _ _ _ (by decide)];exact c3
 ·refine ⟨by simp,?_⟩
  rcases o2.2 with ⟨h,_⟩ | ⟨g2,cap2,cur,h,hb,hg2,hle,hm,hsz,htk⟩
  ·cases h
  ·have eg:g2=g'∧cap2=cap':=by simp at h;exact ⟨h.1.symm,h.2.symm⟩
   obtain ⟨rfl,rfl⟩:=eg
   refine .inr ⟨g2,cap2,cur,rfl,hb,?_,by simp at hle;omega,hm,hsz,?_⟩
   ·rw [Z07 _ _ _ _ _ ngp];exact hg2
   ·have:=congrArg (List.take l.length) htk
    rw [List.take_take] at this
    simpa using this
 ·exact Z0j o3 (fun k hk=>Z07 _ _ _ _ _ (fun e=>ntp (by rw [hk,e])))
 ·rw [Z2v];exact f2
 ·rw [Z2v];exact f3
end Go.Proofs.YtflcohidmemfpaaGreatDoor
namespace Go.Proofs.YtflcohidmemfpaaGreatDoor
open Go.Proofs.Tryz
open Go.RowKit
attribute [local go_sem ↓] Go.wp_at_zero Go.wp_at_succ

theorem RS.drew {B p:Nat}{s:ByteArray}{at_:Nat}{op:List Int}{n:Nat}{tk:List Value}{w:World} (h:RS B p s at_ op n tk w):RS B p s at_ op n tk w.drew:=
 ⟨⟨h.hA.hs,h.hA.hat,h.hA.c0,h.hA.c1,h.hA.f1⟩,h.hp,h.hpl,h.ex,h.f2,h.f3⟩

theorem Zyo {B p:Nat}{s:ByteArray}{at_:Nat}{op:List Int}{ind:Int}{n:Nat}{tk:List Value}{w w1:World}{g cap gn capn:Nat}{vt:Value}{o:Obj} (hA:At p s at_ w) (hp:B≤p) (hpl:p<w.heap.size)
  (c2:w.cell? ⟨p,2,none⟩=some (.slice (some ⟨g,0,none⟩) op.length cap)) (c3:w.cell? ⟨p,3,none⟩=some vt)
  (o2:w.ownsRow B 3 1 (.slice (some ⟨g,0,none⟩) op.length cap) op.length (op.map (Value.int .i64))) (o3:w.ownsRow B 121 3 vt n tk)
  (ngp:g≠p) (ntp:vt.ownBlock≠some p) (ntg:vt.ownBlock≠some g) (f2:w.frozen? ⟨p,2,none⟩=false) (f3:w.frozen? ⟨p,3,none⟩=false) (hB:B≤w.heap.size)
  (hown1:w1.ownsRow B 3 1 (.slice (some ⟨gn,0,none⟩) (op.length+1) capn) (op.length+1) (op.map (Value.int .i64) ++ [.int .i64 ind])) (hgrow:(w.alloc o).grownBy w1 (some g)) (hat:g=gn∨gn=w.heap.size+1) :
  RS B p s at_ (op ++ [ind]) n tk (w1.setCell ⟨p,2,none⟩ (.slice (some ⟨gn,0,none⟩) (op.length+1) capn))∧Below B w (w1.setCell ⟨p,2,none⟩ (.slice (some ⟨gn,0,none⟩) (op.length+1) capn)):=by
 have vlt:∀ k,vt.ownBlock=some k→k<w.heap.size:=fun k hk=>by
  rcases o3.2 with ⟨rfl,_⟩ | ⟨g',cap',cur,rfl,_,hg',_⟩
  ·simp [Value.ownBlock] at hk
  ·simp [Value.ownBlock] at hk;subst hk;exact Z00 hg'
 have blk:∀ k,k<w.heap.size→g≠k→w1.heap[k]?=w.heap[k]?:=fun k hk hne =>
  (hgrow.block k (by simp;omega) (fun e=>hne (by simpa using e.symm))).trans (Below.heap_alloc _ _ _ hk)
 have bp:w1.heap[p]?=w.heap[p]?:=blk p hpl ngp
 have ce:∀ q,w1.cell? ⟨p,q,none⟩=w.cell? ⟨p,q,none⟩:=fun q=>World.cell?_of_block (w:=w) (a:=⟨p,q,none⟩) bp
 have fe:∀ q,w1.frozen? ⟨p,q,none⟩=w.frozen? ⟨p,q,none⟩:=fun q=>World.frozen?_of_block (w:=w) (a:=⟨p,q,none⟩) bp
 have hgn:gn≠p∧vt.ownBlock≠some gn:=by
  rcases hat with h | h
  ·exact ⟨by rw [←h];exact ngp,by rw [←h];exact ntg⟩
  ·exact ⟨by omega,fun e=>by have:=vlt _ e;omega⟩
 have hsz:w.heap.size≤w1.heap.size:=by have:=hgrow.size;simp at this;omega
 have hge:B≤g:=Z20 o2 g rfl
 have hbel:Below B w w1:=Below.grown ((Below.refl _ _).alloc hB _) hgrow (by simp;omega) (fun k hk=>by simp at hk;omega)
 refine ⟨⟨⟨hA.hs,hA.hat,?_,?_,?_⟩,hp,by rw [Z1x];omega,⟨gn,capn,vt,by rw [List.length_append];exact World.cell?_setCell_same _ _ _ ((ce 2).trans c2),?_,?_,?_,hgn.1,ntp,hgn.2⟩,?_,?_⟩,hbel.setCell hp _⟩
 ·rw [Z2b _ _ _ _ _ (by decide),ce];exact hA.c0
 ·rw [Z2b _ _ _ _ _ (by decide),ce];exact hA.c1
 ·rw [Z2v,fe];exact hA.f1
 ·rw [Z2b _ _ _ _ _ (by decide),ce];exact c3
 ·have h2:(w1.setCell ⟨p,2,none⟩ (.slice (some ⟨gn,0,none⟩) (op.length+1) capn)).ownsRow B 3 1 (.slice (some ⟨gn,0,none⟩) (op.length+1) capn) (op.length+1) (op.map (Value.int .i64) ++ [.int .i64 ind]):=
   Z0j hown1 (fun k hk=>Z07 _ _ _ _ _ (fun e=>hgn.1 (by simp [Value.ownBlock] at hk;omega)))
  simpa using h2
 ·refine Z0j o3 (fun k hk => ?_)
  rw [Z07 _ _ _ _ _ (fun e=>ntp (by rw [hk,e]))]
  exact blk k (vlt k hk) (fun e=>ntg (by rw [hk,e]))
 ·rw [Z2v,fe];exact f2
 ·rw [Z2v,fe];exact f3

set_option maxHeartbeats 1000000 in
theorem Zr5 (B p:Nat) (s:ByteArray) (at_:Nat) (l:List Int) (x ind:Int) (n:Nat) (tk:List Value) (w:World) (h:RS B p s at_ (l ++ [x]) n tk w) (hl:l.length≤30000) (hn:n≤50000) (hx:x<ind) :
  Calls prog 58 #[.pointer (some ⟨p,0,none⟩),.int .i64 ind] w fun ev w'=>ev = .returned (.tuple #[])∧RS B p s at_ (l ++ [x] ++ [ind]) (n+1) (tk++Z0o ⟨#[105,110,100,101,110,116]⟩ ⟨#[]⟩ at_) w'∧Below B w w':=by
 have hB:B≤w.heap.size:=by have:=h.hp;have:=h.hpl;omega
 obtain ⟨i0,hi,hz0,hz1,hz2⟩:=info_parts Zxi
 go_enter func58,ntmps58
 go_wp2_with fail
 refine (Z8q _ h (by omega)).mono ?_
 rintro ev w1 ⟨rfl,q,hq⟩
 have h1:RS B p s at_ (l ++ [x]) n tk w1:=by rw [hq];exact h.drewN q
 have hb1:Below B w w1:=by rw [hq];exact below_drewN (Below.refl _ _) q
 have hB1:B≤w1.heap.size:=Nat.le_trans hB hb1.size
 clear hq
 obtain ⟨g,cap,vt,c2,c3,o2,o3,ngp,ntp,ntg⟩:=h1.ex
 have hpl:=h1.hpl
 have hp:=h1.hp
 have f2:=h1.f2
 have f3:=h1.f3
 have hA1:=h1.hA
 have c2':=c2
 have o2':=o2
 simp only [List.length_append,List.length_cons,List.length_nil] at c2 o2
 go_wp2_with (first | (at_builtin;refine wpList_append_lies _ rfl _ _ _ rfl B 3 i0 (.int .i64 0) 1 8 underlying115 hi hz0 hz1 hz2 rfl (by decide) _ (l.length+1) ((l ++ [x]).map (Value.int .i64)) rfl (o2.alloc _) ⟨w1.heap.size,0,none⟩ 1 1 [.int .i64 ind] rfl rfl (cell_one_new _ _ _) (fun y hy=>by simp at hy;subst hy;rfl) (by decide) (by unfold maxLen;omega) (by omega) (by simp;omega) _ rfl ?_))
 intro gn capn w2 hown2 hgrow hat hlt
 have R:=Zyo (op:=l ++ [x]) (ind:=ind) (gn:=gn) (capn:=capn) hA1 hp hpl c2' c3 o2' o3 ngp ntp ntg f2 f3 hB1 (by simpa using hown2) hgrow (by simpa [Value.ownBlock] using hat)
 simp only [List.length_append,List.length_cons,List.length_nil] at R
 have e2:w2.cell? ⟨p,2,none⟩=some (.slice (some ⟨g,0,none⟩) (l.length+1) cap):=by
  rw [hgrow.cell_far ⟨p,2,none⟩ (by simp;omega) (fun e=>ngp (by simpa [Value.ownBlock] using e.symm)),World.cell?_alloc_past _ _ _ hpl];exact c2
 have g2:w2.frozen? ⟨p,2,none⟩=false:=by
  rw [hgrow.frozen_far ⟨p,2,none⟩ (by simp;omega) (fun e=>ngp (by simpa [Value.ownBlock] using e.symm)),World.frozen?_alloc_past _ _ _ hpl];exact f2
 clear hgrow hown2 hat c2 c3 o2 o3 ntp ntg f2 f3 c2' o2'
 have hatc:=R.1.hA.c1
 go_wp2_with fail
 refine (Z6j B p s at_ _ n tk _ _ _ at_ R.1 (Nat.le_trans hB1 R.2.size) (by omega)).mono ?_
 rintro ev w3 ⟨rfl,h3,hb3⟩
 go_wp2_with fail
 refine bodyPost_ret (results_none rfl _ _ _) rfl ?_
 exact ⟨rfl,h3,(hb1.trans R.2).trans hb3⟩

def Zd8 (B p:Nat) (s:ByteArray) (at_:Nat) (st:List Int) (ind:Int) (n:Nat) (tk:List Value) (a0:Addr) (w:World) (ev:Ending) (w':World):Prop:=
 if (Z2f ind st).2.head?=some ind then ev = .returned (.tuple #[])∧RS B p s at_ (Z2f ind st).2.reverse (n+(Z2f ind st).1) (tk++Z4z at_ (Z2f ind st).1) w'∧Below B w w'
 else Z3h B w at_ a0 ev w'

theorem Zd8.yes {B p:Nat}{s:ByteArray}{at_:Nat}{st:List Int}{ind x:Int}{xs:List Int}{n k:Nat}{tk:List Value}{a0:Addr}{w w':World} (hp:Z2f ind st=(k,x::xs)) (he:ind=x) (h:RS B p s at_ (x::xs).reverse (n+k) (tk++Z4z at_ k) w') (hb:Below B w w'):Zd8 B p s at_ st ind n tk a0 w (.returned (.tuple #[])) w':=by
 unfold Zd8
 rw [hp,if_pos (by simp [he])]
 exact ⟨rfl,h,hb⟩
theorem Zd8.no {B p:Nat}{s:ByteArray}{at_:Nat}{st:List Int}{ind x:Int}{xs:List Int}{n k:Nat}{tk:List Value}{a0:Addr}{w w':World}{ev:Ending} (hp:Z2f ind st=(k,x::xs)) (he:ind≠x) (h:Z3h B w at_ a0 ev w'):Zd8 B p s at_ st ind n tk a0 w ev w':=by
 unfold Zd8
 rw [hp,if_neg (by simp;exact fun e=>he e.symm)]
 exact h

set_option maxHeartbeats 2000000 in
theorem Zm3 (B p:Nat) (s:ByteArray) (at_:Nat) (x:Int) (xs:List Int) (ind:Int) (n:Nat) (tk:List Value) (a0:Addr) (w:World) (h:RS B p s at_ (x::xs).reverse n tk w) (hl:xs.length≤30000) (hn:n≤40000) (hx:¬ x<ind) (h0:0≤ind) (hlast:(x::xs).getLast?=some 0)
  (hgB:3<B) (hg:w.cell? ⟨3,0,none⟩=some (.iface 214 (.pointer (some a0)))) :
  Calls prog 58 #[.pointer (some ⟨p,0,none⟩),.int .i64 ind] w fun ev w'=>Zd8 B p s at_ (x::xs) ind n tk a0 w ev w':=by
 have hB:B≤w.heap.size:=by have:=h.hp;have:=h.hpl;omega
 rw [List.reverse_cons] at h
 go_enter func58,ntmps58
 go_wp2_with fail
 refine (Z8q _ h (by simp;omega)).mono ?_
 rintro ev w1 ⟨rfl,q,hq⟩
 have h1:RS B p s at_ (xs.reverse ++ [x]) n tk w1:=by rw [hq];exact h.drewN q
 have hb1:Below B w w1:=by rw [hq];exact below_drewN (Below.refl _ _) q
 clear hq
 go_wp2_with fail
 go_loopg [] (xs.length+1) (fun gk wr => ∃ (x1:Int) (xs1:List Int) (k:Nat),gk=xs1.length+1∧k+xs1.length=xs.length∧(x1::xs1).getLast?=some 0∧Z2f ind (x::xs)=(k+(Z2f ind (x1::xs1)).1,(Z2f ind (x1::xs1)).2)∧RS B p s at_ (xs1.reverse ++ [x1]) (n+k) (tk++Z4z at_ k) wr∧Below B w wr)
 case atStart=>exact ⟨x,xs,0,rfl,by omega,hlast,by simp,by simpa [Z4z] using h1,hb1⟩
 case round =>
  obtain ⟨x1,xs1,k,hgk,hkl,hla,hpop,hr,hbr⟩:=hrel
  have HG:Hid (gk=xs1.length+1):=hgk
  have HP:Hid (Z2f ind (x::xs)=(k+(Z2f ind (x1::xs1)).1,(Z2f ind (x1::xs1)).2)):=hpop
  have HL:Hid ((x1::xs1).getLast?=some 0):=hla
  have HLE:Hid (k+xs1.length=xs.length):=hkl
  clear hgk hpop hla h1 h hb1 hlast hkl
  have hlen:xs1.length≤30000:=by have:=HLE.out;omega
  have hkn:k≤30000:=by have:=HLE.out;omega
  go_wp2_with fail
  refine (Z8q _ hr (by simp;omega)).mono ?_
  rintro ev w2 ⟨rfl,q2,hq2⟩
  have h2:RS B p s at_ (xs1.reverse ++ [x1]) (n+k) (tk++Z4z at_ k) w2:=by rw [hq2];exact hr.drewN q2
  have hb2:Below B w w2:=by rw [hq2];exact below_drewN hbr q2
  clear hq2 hr hbr
  by_cases hlt:ind<x1
  ·obtain ⟨g,cap,c2,_⟩:=h2.top
   simp only [List.length_reverse] at c2
   have f2:=h2.f2
   have hI1:(0:Int)≤(xs1.length:Int):=by omega
   have hI2:(xs1.length:Int)≤(cap:Int):=by
    obtain ⟨_,_,_,d2,_,o2,_⟩:=h2.ex
    rcases o2.2 with ⟨he,_⟩ | ⟨_,_,_,he,_,_,hle,_⟩
    ·cases he
    ·rw [c2] at d2
     simp at d2 he hle
     omega
   have hwr:IntKind.i64.wrap (xs1.length:Int)=(xs1.length:Int):=wrap_small _ (by omega) (by omega)
   go_wp2_with fail
   go_region
   have R:=Zzq (l:=xs1.reverse) (g:=g) (cap:=cap) h2 (by simpa using c2)
   simp only [List.length_reverse] at R
   have R1:=R.1.drew
   have hatc:=R1.hA.c1
   have hbR:Below B w (w2.setCell ⟨p,2,none⟩ (.slice (some ⟨g,0,none⟩) xs1.length cap)).drew:=(hb2.trans R.2).drew
   go_wp2_with fail
   refine (Z6j B p s at_ _ (n+k) _ _ _ _ at_ R1 (Nat.le_trans hB hbR.size) (by omega)).mono ?_
   rintro ev w3 ⟨rfl,h3,hb3⟩
   go_wp2_with fail
   cases xs1 with
   | nil =>
    have e0:x1=0:=by simpa using HL.out
    omega
   | cons y ys =>
    go_roundg (ys.length+1)
    case measure=>have:=HG.out;simp at this;omega
    case rel =>
     refine ⟨y,ys,k+1,rfl,by have:=HLE.out;simp at this;omega,by simpa using HL.out,?_,?_,hbR.trans hb3⟩
     ·rw [HP.out]
      simp only [Z2f,hlt,if_true]
      congr 1
      omega
     ·simpa [Z4z,Nat.add_assoc,List.append_assoc] using h3
  ·have hpe:Z2f ind (x1::xs1)=(0,x1::xs1):=by simp [Z2f,hlt]
   have HPE:Hid (Z2f ind (x::xs)=(k,x1::xs1)):=show Z2f ind (x::xs)=(k,x1::xs1) by rw [HP.out,hpe];simp
   clear hpe
   have hgw:w2.cell? ⟨3,0,none⟩=some (.iface 214 (.pointer (some a0))):=(hb2.cell (p:=⟨3,0,none⟩) hgB).trans hg
   go_wp2_with fail
   refine (Z8q _ h2 (by simp;omega)).mono ?_
   rintro ev w3 ⟨rfl,q3,hq3⟩
   have h3:RS B p s at_ (xs1.reverse ++ [x1]) (n+k) (tk++Z4z at_ k) w3:=by rw [hq3];exact h2.drewN q3
   have hb3:Below B w w3:=by rw [hq3];exact below_drewN hb2 q3
   have hgw3:w3.cell? ⟨3,0,none⟩=some (.iface 214 (.pointer (some a0))):=by rw [hq3];exact hgw
   clear hq3 hgw
   cases he:(ind != x1)
   ·have hie:ind=x1:=by simpa using he
    go_wp2_with fail
    go_end0
    exact Zd8.yes HPE.out hie (by simpa using h3) hb3
   ·have hatc:=h3.hA.c1
    go_wp2_with fail
    refine (Z3a _ a0 _ hgw3).mono ?_
    rintro ev w4 ⟨rfl,rfl⟩
    go_wp2
    exact ⟨rfl,Zd8.no HPE.out (by simpa using he) ⟨_,rfl,hb3.alloc (Nat.le_trans hB hb3.size) _,Z18 rfl rfl,Z18 rfl rfl⟩⟩
end Go.Proofs.YtflcohidmemfpaaGreatDoor
