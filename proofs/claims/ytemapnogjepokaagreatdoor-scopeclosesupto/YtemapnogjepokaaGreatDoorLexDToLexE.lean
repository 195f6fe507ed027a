/- Package lex: quoted, by its contract. -/
import Derived.Test.YtemapnogjepokaaGreatDoorLexC
import Derived.Laws.BytesArg
import Derived.OwnWalk
namespace Go.Proofs.YtemapnogjepokaaGreatDoor
open Go.RowKit

structure Went (p:Nat) (w w':World) (j:Nat):Prop where
 os:w'.os=w.os
 tape:w'.tape=w.tape
 output:w'.output=w.output
 size:w.heap.size≤w'.heap.size
 far:∀ k,k<w.heap.size→k≠p→w'.heap[k]?=w.heap[k]?
 at_:w'.cell? ⟨p,1,none⟩=some (.int .i64 j)
 near:∀ o,o≠1→w'.cell? ⟨p,o,none⟩=w.cell? ⟨p,o,none⟩
 fz:∀ o,w'.frozen? ⟨p,o,none⟩=w.frozen? ⟨p,o,none⟩

theorem Moved.went {p:Nat}{w w':World}{j:Nat}(h:Moved p w w' j):Went p w w' j:=
 ⟨h.os,h.tape,h.output,Nat.le_of_eq h.size.symm,fun k _ hk=>h.far k hk,h.at_,h.near,h.fz⟩
theorem Went.trans {p:Nat}{w w1 w2:World}{i j:Nat}(h:Went p w w1 i) (k:Went p w1 w2 j):Went p w w2 j:=
 ⟨k.os.trans h.os,k.tape.trans h.tape,k.output.trans h.output,Nat.le_trans h.size k.size,fun x hx hp=>(k.far x (Nat.lt_of_lt_of_le hx h.size) hp).trans (h.far x hx hp),k.at_,fun o ho=>(k.near o ho).trans (h.near o ho),fun o=>(k.fz o).trans (h.fz o)⟩
theorem Went.below {p B:Nat}{w w':World}{j:Nat}(h:Went p w w' j) (hp:B≤p) (hB:B≤w.heap.size):Below B w w':=
 ⟨h.os,h.tape,h.output,h.size,fun k hk=>h.far k (by omega) (by omega)⟩
theorem Went.ofBelow {p:Nat}{w w':World}{j:Nat}(h:Below w.heap.size w w') (hp:p<w.heap.size) (hj:w.cell? ⟨p,1,none⟩=some (.int .i64 j)):Went p w w' j:=
 ⟨h.os,h.tape,h.output,h.size,fun k hk _=>h.block k hk,(h.cell (p:=⟨p,1,none⟩) hp).trans hj,fun o _=>h.cell (p:=⟨p,o,none⟩) hp,fun o=>h.frozen (p:=⟨p,o,none⟩) hp⟩

theorem At.went {p:Nat}{s:ByteArray}{i j:Nat}{w w':World}(h:At p s i w) (hm:Went p w w' j) (hj:j≤s.size):At p s j w':=
 ⟨h.hs,hj,(hm.near 0 (by decide)).trans h.c0,hm.at_,(hm.fz 1).trans h.f1⟩
theorem At.below {p Q:Nat}{s:ByteArray}{i:Nat}{w w':World}(h:At p s i w) (hb:Below Q w w') (hp:p<Q):At p s i w':=
 ⟨h.hs,h.hat,(hb.cell (p:=⟨p,0,none⟩) hp).trans h.c0,(hb.cell (p:=⟨p,1,none⟩) hp).trans h.c1,(hb.frozen (p:=⟨p,1,none⟩) hp).trans h.f1⟩
theorem Nx.below {p br bf from_ Q:Nat}{a0:Addr}{w w':World}(h:Nx p br bf from_ a0 w) (hb:Below Q w w') (h1:br<Q) (h2:bf<Q) (h3:3<Q):Nx p br bf from_ a0 w':=
 ⟨(hb.cell (p:=⟨br,0,none⟩) h1).trans h.hr,(hb.cell (p:=⟨bf,0,none⟩) h2).trans h.hf,(hb.cell (p:=⟨3,0,none⟩) h3).trans h.hg,h.nr,h.nf,h.ng⟩

def strFrom (s:ByteArray):Nat→Nat→List Int→Option (List Int × Nat)
 | 0,_,_=>none
 | n+1,i,acc =>
  if h:i<s.size then
   if (s[i].toNat:Int) == 34 then some (acc,i+1)
   else if (s[i].toNat:Int)<32 then none
   else if 126<(s[i].toNat:Int) then none
   else if (s[i].toNat:Int) == 92 then
    match escAt s (i+1) with
    | some (v,j)=>strFrom s n j (acc ++ [v])
    | none=>none
   else strFrom s n (i+1) (acc ++ [(s[i].toNat:Int)])
  else none

theorem strFrom_fuel (s:ByteArray):∀ n m i acc,s.size+1 - i≤n→s.size+1 - i≤m→strFrom s n i acc=strFrom s m i acc
 | 0,0,_,_,_,_=>rfl
 | 0,m+1,i,acc,h,_=>by
  have:¬ i<s.size:=by omega
  simp [strFrom,this]
 | n+1,0,i,acc,_,h=>by
  have:¬ i<s.size:=by omega
  simp [strFrom,this]
 | n+1,m+1,i,acc,h1,h2=>by
  unfold strFrom
  split
  ·split
   ·rfl
   ·split
    ·rfl
    ·split
     ·rfl
     ·split
      ·cases he:escAt s (i+1) with
       | none=>rfl
       | some x =>
        obtain ⟨v,j⟩:=x
        have:=escAt_le s (i+1) j v he
        exact strFrom_fuel s n m j _ (by omega) (by omega)
      ·exact strFrom_fuel s n m (i+1) _ (by omega) (by omega)
  ·rfl

def strAt (s:ByteArray) (i:Nat):Option (List Int × Nat):=strFrom s (s.size+1 - (i+1)) (i+1) []

theorem ownsRow_far {w w':World}{base e size n:Nat}{v:Value}{xs:List Value}(h:w.ownsRow base e size v n xs) (hf:∀ k,base≤k→k<w.heap.size→w'.heap[k]?=w.heap[k]?):w'.ownsRow base e size v n xs:=by
 refine ⟨h.1,?_⟩
 rcases h.2 with hn | ⟨g,cap,cur,hv,hb,hg,rest⟩
 ·exact .inl hn
 ·exact .inr ⟨g,cap,cur,hv,hb,(hf g hb (lt_of_heap hg)).trans hg,rest⟩
end Go.Proofs.YtemapnogjepokaaGreatDoor

/- Package lex: the walk of quoted. -/
namespace Go.Proofs.YtemapnogjepokaaGreatDoor
open Go.RowKit

def QPost (B p:Nat) (s:ByteArray) (i:Nat) (a0:Addr) (w:World) (ev:Ending) (w':World):Prop:=
 match strAt s i with
 | some (l,j)=>ev = .returned (.string (strOfNums l))∧Went p w w' j∧j≤s.size
 | none=>Thrown B w i a0 ev w'

theorem QPost.some {B p:Nat}{s:ByteArray}{i j:Nat}{a0:Addr}{w w':World}{l:List Int}(h:strAt s i=some (l,j)) (h1:Went p w w' j) (h2:j≤s.size):QPost B p s i a0 w (.returned (.string (strOfNums l))) w':=by
 unfold QPost
 rw [h]
 exact ⟨rfl,h1,h2⟩
theorem QPost.none {B p:Nat}{s:ByteArray}{i:Nat}{a0:Addr}{w w':World}{ev:Ending}(h:strAt s i=none) (h1:Thrown B w i a0 ev w'):QPost B p s i a0 w ev w':=by
 unfold QPost
 rw [h]
 exact h1

theorem own_ge {w:World}{base e size n:Nat}{v:Value}{xs:List Value}(h:w.ownsRow base e size v n xs):∀ k,v.ownBlock=Option.some k→base≤k:=by
 intro k hk
 rcases h.2 with ⟨rfl,_⟩ | ⟨g,cap,cur,rfl,hb,_⟩
 ·simp [Value.ownBlock] at hk
 ·simp [Value.ownBlock] at hk;omega

structure QS (p i:Nat) (s:ByteArray) (a0:Addr) (w:World) (y:Nat) (acc:List Int) (v5:Value) (wr:World):Prop where
 hA:At p s y wr
 nx:Nx p w.heap.size (w.heap.size+1) i a0 wr
 own:wr.ownsRow (w.heap.size+1+1) 5 1 v5 acc.length (acc.map (Value.int .u8))
 went:Went p w wr y
 big:w.heap.size+1+1≤wr.heap.size

theorem QS.moved {p i:Nat}{s:ByteArray}{a0:Addr}{w:World}{y z:Nat}{acc:List Int}{v5:Value}{wr w':World}(h:QS p i s a0 w y acc v5 wr) (hp:p<w.heap.size) (hm:Moved p wr w' z) (hz:z≤s.size):QS p i s a0 w z acc v5 w':=
 ⟨h.hA.moved hm hz,h.nx.moved hm,ownsRow_far h.own (fun k hk _=>hm.far k (by omega)),h.went.trans hm.went,by rw [hm.size];exact h.big⟩

theorem QS.grown {p i:Nat}{s:ByteArray}{a0:Addr}{w:World}{y:Nat}{acc:List Int}{v:Int}{v5 v6:Value}{wr w':World}{o:Obj}(h:QS p i s a0 w y acc v5 wr) (hp:p<w.heap.size) (_hg0:3<p) (hown:w'.ownsRow (w.heap.size+1+1) 5 1 v6 (acc.length+1) (acc.map (Value.int .u8) ++ [.int .u8 v])) (hg:(wr.alloc o).grownBy w' v5.ownBlock):QS p i s a0 w y (acc ++ [v]) v6 w':=by
 have hb:Below (w.heap.size+1+1) wr w':=Below.grown ((Below.refl _ _).alloc h.big _) hg (by have:=h.big;simp;omega) (own_ge h.own)
 have hw:Below w.heap.size wr w':=hb.mono (by omega)
 exact ⟨h.hA.below hb (by omega),h.nx.below hb (by omega) (by omega) (by omega),by simpa using hown,
  ⟨hb.os.trans h.went.os,hb.tape.trans h.went.tape,hb.output.trans h.went.output,Nat.le_trans h.went.size hb.size,fun k hk hkp=>(hb.block k (by omega)).trans (h.went.far k hk hkp),(hb.cell (p:=⟨p,1,none⟩) (by simp;omega)).trans h.went.at_,fun o ho=>(hb.cell (p:=⟨p,o,none⟩) (by simp;omega)).trans (h.went.near o ho),fun o=>(hb.frozen (p:=⟨p,o,none⟩) (by simp;omega)).trans (h.went.fz o)⟩,
  Nat.le_trans h.big hb.size⟩

theorem QS.conv {p i:Nat}{s:ByteArray}{a0:Addr}{w:World}{y:Nat}{acc:List Int}{v5:Value}{wr:World}(h:QS p i s a0 w y acc v5 wr):(convert 75 9 v5).run Tryz.prog wr = .ok (.string (strOfNums acc)) wr:=by
 rcases h.own.2 with ⟨hv,hn⟩ | ⟨g,cap,cur,hv,_,hg,_,_,hsz,htk⟩
 ·subst hv
  have:acc = []:=List.length_eq_zero_iff.1 hn
  subst this
  rw [run_convert_bytes_nil (P:=Tryz.prog) wr 75 5 Tryz.underlying75 Tryz.underlying5 0 0 9 Tryz.underlying9]
  rfl
 ·subst hv
  refine run_convert_bytes_arg (P:=Tryz.prog) wr 75 5 Tryz.underlying75 Tryz.underlying5 g 0 acc.length cap acc rfl (fun k hk => ?_) 9 Tryz.underlying9
  rw [Nat.zero_add,cell_of_row wr g k cur 5 (0,0) hg]
  have e:(cur.toList.take (acc.length*1))[k]?=(acc.map (Value.int .u8))[k]?:=by rw [htk]
  rw [List.getElem?_take,if_pos (by omega)] at e
  rw [←Array.getElem?_toList,e]
  simp [List.getElem?_eq_getElem hk,List.getD]

theorem infoByte:(Tryz.prog.info? 5).map (fun i=>(i.zero,i.size,i.bytes))=Option.some (Option.some (.int .u8 0),1,1):=by kernel_rfl

theorem strFrom_end {s:ByteArray}{n x:Nat}{acc:List Int}(h:x=s.size):strFrom s n x acc=Option.none:=by
 subst h
 cases n <;> simp [strFrom]

set_option maxHeartbeats 1000000 in
theorem quoted_any (B p i:Nat) (s:ByteArray) (a0:Addr) (w:World) (h:At p s i w) (hlt:i<s.size) (hp:p<w.heap.size) (hBp:B≤p) (hgB:3<B) (hg:w.cell? ⟨3,0,none⟩=some (.iface 214 (.pointer (some a0)))) :
  Calls Tryz.prog 108 #[.pointer (some ⟨p,0,none⟩)] w fun ev w'=>QPost B p s i a0 w ev w':=by
 have hmf:∀ (fn:Fn) (first cap:Array Value) (w:World),(Instr.makeFunc fn first cap).run Tryz.prog w = .ok (.func fn first cap) w:=fun _ _ _ _=>rfl
 have hb0:Below w.heap.size w ((w.alloc (.cells #[.pointer (some ⟨p,0,none⟩)] 131)).alloc (.cells #[.int .i64 i] 3)):=((Below.refl _ _).alloc (Nat.le_refl _) _).alloc (by simp) _
 have hA0:=h.below hb0 hp
 have hN0:Nx p w.heap.size (w.heap.size+1) i a0 ((w.alloc (.cells #[.pointer (some ⟨p,0,none⟩)] 131)).alloc (.cells #[.int .i64 i] 3)):=
  ⟨by rw [World.cell?_alloc_past _ _ _ (by simp),World.cell?_alloc_at _ _ _ _ rfl];rfl,by rw [World.cell?_alloc_at _ _ _ _ (by simp)];rfl,(hb0.cell (p:=⟨3,0,none⟩) (by simp;omega)).trans hg,by omega,by omega,by omega⟩
 have hsz0:((w.alloc (.cells #[.pointer (some ⟨p,0,none⟩)] 131)).alloc (.cells #[.int .i64 i] 3)).heap.size=w.heap.size+1+1:=by simp
 obtain ⟨hs,hat,c0,c1,f1⟩:=h
 go_enter Tryz.func108,Tryz.ntmps108
 go_wp2_with fail
 refine (next_some p _ _ s i _ hA0 hlt hN0.hr hN0.nr).mono ?_
 rintro ev w1 ⟨rfl,hm1⟩
 have q1:QS p i s a0 w (i+1) [] (.slice Option.none 0 0) w1:=
  ⟨hA0.moved hm1 (by omega),hN0.moved hm1,World.ownsRow_nil _ _ _ _,(Went.ofBelow hb0 hp c1).trans hm1.went,by rw [hm1.size,hsz0];exact Nat.le_refl _⟩
 clear hA0 hN0 hb0 hsz0 c0 c1 f1 hm1
 by_cases h2:i+1<s.size
 rotate_left
 ·have hnone:strAt s i=Option.none:=by unfold strAt;exact strFrom_end (by omega)
  have HN:Hid (strAt s i=Option.none):=hnone
  clear hnone
  go_wp2_with fail
  refine (next_none B p _ _ s (i+1) i a0 _ q1.hA (by have:=q1.big;omega) (by omega) q1.nx.hr q1.nx.hf q1.nx.hg).mono ?_
  rintro ev w2 ⟨b,rfl,t1,t2,t3⟩
  go_wp2
  exact ⟨rfl,QPost.none HN.out ⟨b,rfl,(q1.went.below hBp (by omega)).trans t1,t2,t3⟩⟩
 go_wp2_with fail
 refine (next_some p _ _ s (i+1) _ q1.hA h2 q1.nx.hr q1.nx.nr).mono ?_
 rintro ev w2 ⟨rfl,hm2⟩
 have q2:=q1.moved hp hm2 (by omega)
 go_wp2_with fail
 go_loopg [5,6] (s.size - (i+1)) (fun k v5 v6 wr => ∃ (x:Nat) (acc:List Int) (hx:x<s.size),k=s.size - x∧v6 = .int .u8 (s[x].toNat:Int)∧QS p i s a0 w (x+1) acc v5 wr∧acc.length≤x∧strFrom s (s.size+1 - x) x acc=strAt s i)
 case atStart=>exact ⟨i+1,[],h2,rfl,rfl,q2,Nat.zero_le _,rfl⟩
 case round =>
  obtain ⟨x,acc,hx,hk,hv6,q,hlen,hstr⟩:=hrel
  subst hv6
  have HS:Hid (strFrom s (s.size+1 - x) x acc=strAt s i):=hstr
  have HK:Hid (gk=s.size - x):=hk
  clear hstr hk q1 q2 hm2
  have hc0:(0:Int)≤(s[x].toNat:Int):=by omega
  have hc1:(s[x].toNat:Int)≤255:=by have:=s[x].toNat_lt;omega
  have hfu:s.size+1 - x=(s.size - x)+1:=by omega
  have HF:Hid (s.size+1 - x=(s.size - x)+1):=hfu
  clear hfu
  cases e34:((s[x].toNat:Int) == 34)
  rotate_left
  ·have hne:((s[x].toNat:Int) != 34)=false:=by simp [bne,e34]
   have hcv:=q.conv
   go_wp2
   go_ret
   exact QPost.some (HS.out.symm.trans (by rw [HF.out];simp [strFrom,hx,e34])) q.went (by omega)
  have hne:((s[x].toNat:Int) != 34)=true:=by simp [bne,e34]
  by_cases l32:(s[x].toNat:Int)<32
  ·have HN:Hid (strAt s i=Option.none):=HS.out.symm.trans (by rw [HF.out];simp [strFrom,hx,e34,l32])
   have hfr:=q.nx.hf
   go_wp2_with fail
   refine (none_any _ a0 _ q.nx.hg).mono ?_
   rintro ev w3 ⟨rfl,rfl⟩
   go_wp2
   exact ⟨rfl,QPost.none HN.out ⟨_,rfl,(q.went.below hBp (by omega)).alloc (by have:=q.big;omega) _,cell_new rfl rfl,cell_new rfl rfl⟩⟩
  by_cases g126:126<(s[x].toNat:Int)
  ·have HN:Hid (strAt s i=Option.none):=HS.out.symm.trans (by rw [HF.out];simp [strFrom,hx,e34,l32,g126])
   have hfr:=q.nx.hf
   go_wp2_with fail
   refine (none_any _ a0 _ q.nx.hg).mono ?_
   rintro ev w3 ⟨rfl,rfl⟩
   go_wp2
   exact ⟨rfl,QPost.none HN.out ⟨_,rfl,(q.went.below hBp (by omega)).alloc (by have:=q.big;omega) _,cell_new rfl rfl,cell_new rfl rfl⟩⟩
  obtain ⟨i0,hi,hz0,hz1,hz2⟩:=info_parts infoByte
  cases e92:((s[x].toNat:Int) == 92)
  ·have HS2:Hid (strFrom s (s.size - x) (x+1) (acc ++ [(s[x].toNat:Int)])=strAt s i):=Eq.trans (by rw [HF.out];simp [strFrom,hx,e34,l32,g126,e92]) HS.out
   have hown:=q.own
   have hbig:=q.big
   go_wp2_with (first | (at_builtin;refine wpList_append_own _ rfl _ _ 75 rfl (w.heap.size+1+1) 5 i0 (.int .u8 0) 1 1 Tryz.underlying75 hi hz0 hz1 hz2 rfl (by decide) _ _ _ rfl (hown.alloc _) ⟨wr.heap.size,0,none⟩ 1 1 [.int .u8 (s[x].toNat:Int)] rfl rfl (cell_one_new _ _ _) (fun y hy=>by simp at hy;subst hy;rfl) (by unfold maxLen;omega) (by omega) (by simp;omega) ?_))
   intro v7 w3 hown3 hgrow3 _
   have q3:QS p i s a0 w (x+1) (acc ++ [(s[x].toNat:Int)]) v7 w3:=q.grown hp (by omega) hown3 hgrow3
   clear hown hown3 hgrow3 q hbig
   by_cases h3:x+1<s.size
   ·go_wp2_with fail
    refine (next_some p _ _ s (x+1) _ q3.hA h3 q3.nx.hr q3.nx.nr).mono ?_
    rintro ev w4 ⟨rfl,hm4⟩
    have q4:=q3.moved hp hm4 (by omega)
    go_wp2_with fail
    go_roundg (s.size - (x+1))
    case measure=>have:=HK.out;omega
    case rel=>exact ⟨x+1,_,h3,rfl,rfl,q4,by simp;omega,by rw [show s.size+1 - (x+1)=s.size - x by omega];exact HS2.out⟩
   ·have HN:Hid (strAt s i=Option.none):=HS2.out.symm.trans (strFrom_end (by omega))
    go_wp2_with fail
    refine (next_none B p _ _ s (x+1) i a0 _ q3.hA (by have:=q3.big;omega) (by omega) q3.nx.hr q3.nx.hf q3.nx.hg).mono ?_
    rintro ev w4 ⟨b,rfl,t1,t2,t3⟩
    go_wp2
    exact ⟨rfl,QPost.none HN.out ⟨b,rfl,(q3.went.below hBp (by omega)).trans t1,t2,t3⟩⟩
  ·have hfr:=q.nx.hf
   cases hesc:escAt s (x+1) with
   | none =>
    have HN:Hid (strAt s i=Option.none):=HS.out.symm.trans (by rw [HF.out];simp [strFrom,hx,e34,l32,g126,e92,hesc])
    have HE:Hid (escAt s (x+1)=Option.none):=hesc
    clear hesc
    go_wp2_with fail
    refine (esc_none B p _ _ i a0 s (x+1) _ q.hA q.nx hBp (by have:=q.big;omega) HE.out).mono ?_
    rintro ev w3 ⟨b,rfl,t1,t2,t3⟩
    go_wp2
    exact ⟨rfl,QPost.none HN.out ⟨b,rfl,(q.went.below hBp (by omega)).trans t1,t2,t3⟩⟩
   | some vj =>
    obtain ⟨v,j⟩:=vj
    have hle:=escAt_le s (x+1) j v hesc
    have HS2:Hid (strFrom s (s.size - x) j (acc ++ [v])=strAt s i):=Eq.trans (by rw [HF.out];simp [strFrom,hx,e34,l32,g126,e92,hesc]) HS.out
    have HE:Hid (escAt s (x+1)=Option.some (v,j)):=hesc
    clear hesc
    go_wp2_with fail
    refine (esc_some p _ _ i a0 s (x+1) j v _ q.hA q.nx HE.out).mono ?_
    rintro ev w2' ⟨rfl,hmv⟩
    have qv:=q.moved hp hmv hle.2.1
    have hown:=qv.own
    have hbig:=qv.big
    clear q hmv hfr
    go_wp2_with (first | (at_builtin;refine wpList_append_own _ rfl _ _ 75 rfl (w.heap.size+1+1) 5 i0 (.int .u8 0) 1 1 Tryz.underlying75 hi hz0 hz1 hz2 rfl (by decide) _ _ _ rfl (hown.alloc _) ⟨w2'.heap.size,0,none⟩ 1 1 [.int .u8 v] rfl rfl (cell_one_new _ _ _) (fun y hy=>by simp at hy;subst hy;rfl) (by unfold maxLen;omega) (by omega) (by simp;omega) ?_))
    intro v7 w3 hown3 hgrow3 _
    have q3:QS p i s a0 w j (acc ++ [v]) v7 w3:=qv.grown hp (by omega) hown3 hgrow3
    clear hown hown3 hgrow3 qv hbig
    by_cases h3:j<s.size
    ·go_wp2_with fail
     refine (next_some p _ _ s j _ q3.hA h3 q3.nx.hr q3.nx.nr).mono ?_
     rintro ev w4 ⟨rfl,hm4⟩
     have q4:=q3.moved hp hm4 (by omega)
     go_wp2_with fail
     go_roundg (s.size - j)
     case measure=>have:=HK.out;omega
     case rel=>exact ⟨j,_,h3,rfl,rfl,q4,by simp;omega,(strFrom_fuel s _ _ _ _ (by omega) (by omega)).trans HS2.out⟩
    ·have HN:Hid (strAt s i=Option.none):=HS2.out.symm.trans (strFrom_end (by omega))
     go_wp2_with fail
     refine (next_none B p _ _ s j i a0 _ q3.hA (by have:=q3.big;omega) (by omega) q3.nx.hr q3.nx.hf q3.nx.hg).mono ?_
     rintro ev w4 ⟨b,rfl,t1,t2,t3⟩
     go_wp2
     exact ⟨rfl,QPost.none HN.out ⟨b,rfl,(q3.went.below hBp (by omega)).trans t1,t2,t3⟩⟩
end Go.Proofs.YtemapnogjepokaaGreatDoor
