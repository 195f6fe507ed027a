/- Places in order, those of the old space first (oldFirst), by a contract. -/
import Derived.Test.YtlkcbdinlfeoiaaGreatDoorKnAM
import Derived.Test.YtlkcbdinlfeoiaaGreatDoorGShelf
import Derived.Sort.OwnSortedInts
import Derived.Deep.Onto
import Derived.Test.YtlkcbdinlfeoiaaGreatDoorMkA
namespace Go.Proofs.YtlkcbdinlfeoiaaGreatDoor
open Go.Proofs.Tryz Go.RowKit
set_option maxHeartbeats 8000000
set_option maxRecDepth 100000
set_option linter.unusedSimpArgs false
def Z4e (l:List Nat):List Nat:=l.mergeSort fun x y=>decide (x<=y)
theorem Z4f (l:List Nat):(Z4e l).Perm l:=List.mergeSort_perm ..
theorem Zci (l:List Nat):(Z4e l).length=l.length:=(Z4f l).length_eq
theorem Z77 (l:List Nat):(Z4e l).Pairwise (fun a b=>a<=b):=by
 have h:=List.pairwise_mergeSort (le:=fun (x y:Nat)=>decide (x<=y)) (fun a b c h1 h2=>by simp at h1 h2 ⊢;omega) (fun a b=>by simp;omega) l
 exact h.imp fun h=>by simpa using h
def oldF (m0:Nat) (l:List Nat):List Nat:=l.filter (fun f=>decide (m0<=f))++l.filter (fun f=>decide (f<m0))
def Z5v (l:List Nat):List Int:=l.map fun i:Nat=>(i:Int)
theorem Zhe (l:List Nat):(Z5v l).map (Value.int .i64)=ivN l:=U2h
theorem Z1s (l:List Nat):(Z5v l).length=l.length:=U0v ..
theorem Zi3 (l:List Nat):((Z5v l).mergeSort fun x y=>decide (x<=y))=Z5v (Z4e l):=by
 refine (List.map_mergeSort (fun a _ b _ => ?_)).symm
 simp
theorem Zq8 (m0:Nat):∀ {l:List Nat},l.Pairwise (fun a b=>a<=b)->l.take (l.countP (fun f=>decide (f<m0)))=l.filter (fun f=>decide (f<m0))/\l.drop (l.countP (fun f=>decide (f<m0)))=l.filter (fun f=>decide (m0<=f))
 | [],_=>⟨rfl,rfl⟩
 | x::l,h=>by
  obtain ⟨h1,h2⟩:=List.pairwise_cons.1 h
  obtain ⟨i1,i2⟩:=Zq8 m0 h2
  by_cases hx:x<m0
  ·have e1:decide (x<m0)=true:=by simpa using hx
   have e2:¬ decide (m0<=x)=true:=by simp;omega
   rw [List.countP_cons_of_pos (p:=fun f=>decide (f<m0)) e1,List.filter_cons_of_pos (p:=fun f=>decide (f<m0)) e1,List.filter_cons_of_neg (p:=fun f=>decide (m0<=f)) e2,List.take_succ_cons,List.drop_succ_cons,i1,i2]
   exact ⟨rfl,rfl⟩
  ·have e1:¬ decide (x<m0)=true:=by simpa using hx
   have e2:decide (m0<=x)=true:=by simp;omega
   have z:l.countP (fun f=>decide (f<m0))=0:=List.countP_eq_zero.2 fun a ha=>by have:=h1 a ha;simp;omega
   rw [z] at i1 i2
   rw [List.countP_cons_of_neg (p:=fun f=>decide (f<m0)) e1,List.filter_cons_of_neg (p:=fun f=>decide (f<m0)) e1,List.filter_cons_of_pos (p:=fun f=>decide (m0<=f)) e2,z,<-i1,<-i2]
   exact ⟨rfl,rfl⟩
theorem Zor (rr:List Nat) (B:Nat) (ao:Option Addr) (cap:Nat) (w:World) (hl:rr.length<=300000) (own:w.ownsRow B 3 1 (.slice ao rr.length cap) rr.length (ivN rr)) :
  Calls prog 240 #[.slice ao rr.length cap] w fun ev w'=>ev = .returned (.tuple #[])/\w'.ownsRow B 3 1 (.slice ao rr.length cap) rr.length (ivN (Z4e rr))/\Aside (fun k=>ao.map Addr.block=some k) w w':=by
 rcases rr with _ | ⟨x,rr⟩
 ·refine (Z4y ao cap w).mono ?_
  rintro ev w' ⟨rfl,rfl⟩
  refine ⟨rfl,?_,Aside.refl _ _⟩
  rw [show Z4e [] = [] by simp [Z4e]]
  exact own
 ·rcases own.2 with ⟨e,_⟩ | ⟨g,c,cur,e,e2,e3,e4,e5,e6,e7⟩
  ·cases e
  cases e
  have hg:g<w.heap.size:=Z01 e3
  have hH:=holds_of_blockI (ss:=Z5v (x::rr)) e3 (by rw [Zhe,Z1s];simpa using e7)
  have k:=Z7r g 0 cap (Z5v (x::rr)) w hH hg (by rw [Z1s];omega)
  rw [Z1s,Zi3] at k
  refine k.mono ?_
  rintro ev w' ⟨rfl,n,os,rfl⟩
  have hgr:=grownBy_sortedI (w:=w) (g:=g) (n:=n) (os:=os) (Z5v (Z4e (x::rr))).toArray
  refine ⟨rfl,?_,⟨hgr.os,hgr.tape,hgr.output,hgr.size,fun k hk hx=>hgr.block k hk fun e=>hx e.symm⟩⟩
  have h:=ownsRow_sortedI (w:=w) (base:=B) (g:=g) (cap:=cap) (n:=n) (os:=os) (ss:=Z5v (x::rr)) (ts:=Z5v (Z4e (x::rr))) (by rw [Z1s,Z1s,Zci]) e2 e3 (by rw [Z1s];exact e4) e5 e6
  rw [Zhe,Z1s] at h
  exact h
theorem Zj9 (L:List Nat) (m0 B:Nat) (ao:Option Addr) (cap:Nat) (w:World) (hl:L.length<=300000) (own:w.ownsRow B 3 1 (.slice ao L.length cap) L.length (ivN L)) (hs:L.Pairwise (fun a b=>a<=b)) :
  Calls prog 241 #[.slice ao L.length cap,.int .i64 (m0:Int)] w fun ev w' => ∃ b q,ev = .returned (.tuple #[.int .i64 ((L.countP (fun f=>decide (f<m0)):Nat):Int),.bool b])/\w'=w.drewN q:=by
 rcases L with _ | ⟨x,L⟩
 ·refine (Z2r ao cap m0 w).mono ?_
  rintro ev w' ⟨rfl,rfl⟩
  exact ⟨_,0,rfl,rfl⟩
 ·rcases own.2 with ⟨e,_⟩ | ⟨g,c,cur,e,e2,e3,e4,e5,e6,e7⟩
  ·cases e
  cases e
  have k:=Z45 g 0 (x::L).length cap (Z5v (x::L)) m0 w (by rw [Z1s];exact U02 _) (by omega) (fun j hj=>by
   rw [Z1s] at hj
   rw [U1p,own.cellAt j (by rw [U57];exact hj)]
   unfold ivN Z5v
   rw [U07,U0g,U0g,U03 hj]
   rfl) (by
   rw [U13 (by rw [Z1s];exact U02 _)]
   unfold Z5v
   rw [U3s]
   exact hs.imp fun h=>by omega)
  rw [U13 (by rw [Z1s];exact U02 _)] at k
  refine k.mono ?_
  rintro ev w' ⟨rfl,q,rfl⟩
  refine ⟨(Z5v (x::L)).contains (m0:Int),q,?_,rfl⟩
  have e:List.countP (fun x=>decide (x<(m0:Int))) (Z5v (x::L))=(x::L).countP (fun f=>decide (f<m0)):=by
   unfold Z5v
   rw [List.countP_map]
   congr 1
   funext f
   simp
  rw [e]
theorem Zfy {w:World}{B:Nat}{ao:Option Addr}{cap:Nat}{L:List Nat} (own:w.ownsRow B 3 1 (.slice ao L.length cap) L.length (ivN L)) :
  (ao=none/\L = []/\cap=0) \/ ∃ g,ao=some ⟨g,0,none⟩/\B<=g/\g<w.heap.size/\L.length<=cap/\cap<=maxLen /\ ∀ j u,(ivN L)[j]?=some u->w.cell? ⟨g,j,none⟩=some u:=by
 rcases own.2 with ⟨e,_⟩ | ⟨g,c,cur,e,e2,e3,e4,e5,e6,e7⟩
 ·injection e with a1 a2 a3
  exact .inl ⟨a1,List.length_eq_zero_iff.1 a2,a3⟩
 ·injection e with a1 a2 a3
  subst a3
  refine .inr ⟨g,a1,e2,Z01 e3,e4,e5,fun j u hj => ?_⟩
  have hlt:j<L.length:=by
   have:=(U0e.1 hj).1
   rwa [Zew] at this
  rw [a1] at own
  rw [own.cellAt j (by rw [U57];exact hlt),hj]
theorem Zai (v1 v2:Value) (xs ys:List Nat) (hl:(xs++ys).length<=300000) (W:World) (S1:Src W v1 xs) (S2:Src W v2 ys) :
  Calls prog 242 #[.slice (some ⟨W.heap.size,0,none⟩) 2 2] (W.alloc (.cells #[v1,v2] 100)) fun ev w' => ∃ v',ev = .returned v'/\w'.ownsRow W.heap.size 3 1 v' (xs++ys).length (ivN (xs++ys))/\Below W.heap.size W w':=by
 obtain ⟨W1,hW1⟩:∃ W1,W1=W.alloc (.cells #[v1,v2] 100):=⟨_,rfl⟩
 have b1:Below W.heap.size W W1:=by rw [hW1];exact (U01 _ _).alloc (U02 _) _
 have n1:W1.heap[W.heap.size]?=some (.cells #[v1,v2] 100):=by rw [hW1];exact U0b _ _
 rw [<-hW1]
 have k:=Zir 2 W.heap.size (fun i=>if i=0 then v1 else v2) (fun i=>if i=0 then xs else ys) (by omega) hl W1 (Z01 n1) (fun i hi=>by
  rcases i with _ | _ | i
  ·exact ⟨by rw [U06 _ _ _ _ _ _ n1];rfl,S1.below b1⟩
  ·exact ⟨by rw [U06 _ _ _ _ _ _ n1];rfl,S2.below b1⟩
  ·omega)
 refine k.mono ?_
 rintro ev w' ⟨v',rfl,o,b⟩
 exact ⟨v',rfl,o.mono b1.size,b1.trans (b.mono b1.size)⟩
theorem Zcj (rr:List Nat) (m0 B:Nat) (ao:Option Addr) (cap:Nat) (w:World) (hl:rr.length<=300000) (own:w.ownsRow B 3 1 (.slice ao rr.length cap) rr.length (ivN rr)) :
  Calls prog 206 #[.slice ao rr.length cap,.int .i64 (m0:Int)] w fun ev w' => ∃ v',ev = .returned v'/\w'.ownsRow w.heap.size 3 1 v' (oldF m0 (Z4e rr)).length (ivN (oldF m0 (Z4e rr)))/\Aside (fun k=>ao.map Addr.block=some k) w w':=by
 have ks:=Zor rr B ao cap w hl own
 obtain ⟨X,hX⟩:∃ X:Nat->Prop,X=fun k=>ao.map Addr.block=some k:=⟨_,rfl⟩
 rw [<-hX] at ks ⊢
 clear hX
 clear own
 obtain ⟨L,hL⟩:∃ L,L=Z4e rr:=⟨_,rfl⟩
 have hll:rr.length=L.length:=by rw [hL,Zci]
 have hp:L.Pairwise (fun a b=>a<=b):=by rw [hL];exact Z77 _
 rw [<-hL,hll] at ks
 rw [<-hL,hll]
 rw [hll] at hl
 clear hL hll
 go_enter func206,ntmps206
 go_wp2_with fail
 refine ks.mono ?_
 clear ks
 rintro ev w1 ⟨rfl,own1,b1⟩
 have kq:=Zj9 L m0 B ao cap w1 hl own1 hp
 have HO:=Z00 own1
 have HB1:=Z00 b1
 have HP:=Z00 hp
 clear own1 b1 hp
 go_wp2_with fail
 refine kq.mono ?_
 clear kq
 rintro ev w2 ⟨bb,q,rfl,rfl⟩
 obtain ⟨e1,e2⟩:=Zq8 m0 HP.out
 have hcl:L.countP (fun f=>decide (f<m0))<=L.length:=List.countP_le_length
 have hF:oldF m0 L=L.drop (L.countP (fun f=>decide (f<m0)))++L.take (L.countP (fun f=>decide (f<m0))):=by rw [e1,e2];rfl
 obtain ⟨c,hc⟩:∃ c,c=L.countP (fun f=>decide (f<m0)):=⟨_,rfl⟩
 rw [<-hc] at hcl hF ⊢
 have HF:=Z00 hF
 clear e1 e2 hF hc
 have hlen:(L.drop c++L.take c).length<=300000:=by rw [U0f,U29,U1k];omega
 have HL:=Z00 hlen
 rcases Zfy HO.out with ⟨rfl,rfl,rfl⟩ | ⟨g,rfl,hg,hgl,hcap,hmax,hcell⟩
 ·obtain rfl:c=0:=by simpa using hcl
  have kc:Hid (∀ W,Below w1.heap.size w1 W->Calls prog 242 #[.slice (some ⟨W.heap.size,0,none⟩) 2 2] (W.alloc (.cells #[.slice none 0 0,.slice none 0 0] 100)) fun ev w' => ∃ v',ev = .returned v'/\w'.ownsRow w.heap.size 3 1 v' 0 []/\Aside X w w'):=fun W hW=>by
   refine (Zai _ _ [] [] (by simp) W (.inl ⟨rfl,rfl⟩) (.inl ⟨rfl,rfl⟩)).mono ?_
   rintro ev w' ⟨v',rfl,o,b⟩
   have hs:=U0n HB1.out.size hW.size
   exact ⟨v',rfl,o.mono hs,(HB1.out.trans (Aside.of_below hW)).trans (Aside.of_below b)⟩
  go_wp2_with fail
  go_region_with ((go_at_call 242;refine (kc.out _ (by first | exact (Z03 (U01 _ _)).drew | exact Z03 (U01 _ _))).mono ?_;rintro ev w7 ⟨v7,rfl,o7,b7⟩))
  go_wp2_with fail
  go_ret
  exact ⟨_,rfl,by rw [HF.out];exact o7,b7⟩
 ·have kc:Hid (∀ W f,(cap=c\/f=c)->Below w1.heap.size w1 W->Calls prog 242 #[.slice (some ⟨W.heap.size,0,none⟩) 2 2] (W.alloc (.cells #[.slice (some ⟨g,f,none⟩) (L.length - c) (cap - c),.slice (some ⟨g,0,none⟩) c cap] 100)) fun ev w' => ∃ v',ev = .returned v'/\w'.ownsRow w.heap.size 3 1 v' (L.drop c++L.take c).length (ivN (L.drop c++L.take c))/\Aside X w w'):=fun W f hf hW=>by
   refine (Zai _ _ (L.drop c) (L.take c) HL.out W (.inr ⟨g,f,cap - c,by rw [U29],U0r hgl hW.size,fun j u hj => ?_⟩) (.inr ⟨g,0,cap,by rw [U1k,U3a hcl],U0r hgl hW.size,fun j u hj => ?_⟩)).mono ?_
   ·obtain rfl:f=c:=by
     rcases hf with h | h
     ·have:=(U0e.1 hj).1
      rw [Zew,U29] at this
      omega
     ·exact h
    refine (hW.cell (p:=⟨g,f+j,none⟩) hgl).trans (hcell _ _ ?_)
    unfold ivN at hj ⊢
    rw [List.map_drop,U2o] at hj
    exact hj
   ·rw [U1p]
    refine (hW.cell (p:=⟨g,j,none⟩) hgl).trans (hcell _ _ ?_)
    unfold ivN at hj ⊢
    rw [U2y,U1j] at hj
    split at hj
    ·exact hj
    ·cases hj
   rintro ev w' ⟨v',rfl,o,b⟩
   have hs:=U0n HB1.out.size hW.size
   exact ⟨v',rfl,o.mono hs,(HB1.out.trans (Aside.of_below hW)).trans (Aside.of_below b)⟩
  have i0:(0:Int)<=(c:Int):=by omega
  have i1:(c:Int)<=(L.length:Int):=by omega
  have i2:(L.length:Int)<=(cap:Int):=by omega
  have i3:(c:Int)<=(cap:Int):=by omega
  clear hcell
  by_cases hcc:cap=c
  ·have kd:=Z00 fun W hW=>kc.out W 0 (.inl hcc) hW
   obtain rfl:L.length=cap:=by omega
   subst hcc
   rw [U28] at kd
   clear kc
   go_wp2_with fail
   go_region_with ((go_at_call 242;refine (kd.out _ (by first | exact (Z03 (U01 _ _)).drew | exact Z03 (U01 _ _))).mono ?_;rintro ev w7 ⟨v7,rfl,o7,b7⟩))
   go_wp2_with fail
   go_ret
   exact ⟨_,rfl,by rw [HF.out];exact o7,b7⟩
  ·have kd:=Z00 fun W hW=>kc.out W c (.inr rfl) hW
   have hcd:¬ (cap:Int)=(c:Int):=by omega
   have hce:¬ c=cap:=by omega
   clear kc
   go_wp2_with fail
   go_region_with ((go_at_call 242;refine (kd.out _ (by first | exact (Z03 (U01 _ _)).drew | exact Z03 (U01 _ _))).mono ?_;rintro ev w7 ⟨v7,rfl,o7,b7⟩))
   go_wp2_with fail
   go_ret
   exact ⟨_,rfl,by rw [HF.out];exact o7,b7⟩
section
def Z17 (nW:Nat) (φ:Nat->Option Nat) (W:List Int) (P:List (Nat × Nat)):List Int:=P.foldl (fun W p=>Z2g nW φ W p.1 p.2 (W.getD p.1 0)) W
theorem Z8x (nW:Nat) (φ:Nat->Option Nat) (W:List Int) (P:List (Nat × Nat)) (p:Nat × Nat):Z17 nW φ W (P ++ [p])=Z2g nW φ (Z17 nW φ W P) p.1 p.2 ((Z17 nW φ W P).getD p.1 0):=by unfold Z17;rw [U4g];rfl
variable {m:MD}{l1 l2:List Nat}{P:List (Nat × Nat)}{e:Nat}{φ:Nat->Option Nat}
theorem JX.carried (X:JX m l1 l2 P e φ):∀ (i:Nat),i<=P.length -> ∃ c,Z0l m.F m.m0 (P.take i) c/\JI m φ (P.take i) c (Z17 m.W.length φ m.W (P.take i))
 | 0,_=>⟨m.m0,rfl,X.start⟩
 | i+1,hi=>by
  obtain ⟨c,t,I⟩:=X.carried i (by omega)
  obtain ⟨p,hp⟩:∃ p,P[i]?=some p:=⟨_,U03 (by omega)⟩
  have hP:P=P.take i++p::P.drop (i+1):=by
   have h1:=U3v i P
   have h2:P.drop i=p::P.drop (i+1):=by
    rw [U49 (by omega)]
    congr 1
    rw [U03 (by omega)] at hp
    exact U1h hp
   rw [<-h2];exact h1.symm
  have hc:p.2=c:=by
   have ht:=X.t
   rw [hP] at ht
   obtain ⟨c',t1,t2⟩:=ht.split
   rw [t.uniq t1];exact t2.1
  rw [<-hc] at I
  obtain ⟨a1,a2,a3,a4⟩:=JI.step X hP I
  have e1:P.take (i+1)=P.take i ++ [p]:=by rw [U1g,hp];rfl
  rw [e1,Z8x,a1]
  exact ⟨_,t.append ⟨hc,rfl⟩,by rw [hc] at a4 ⊢;exact a4⟩
theorem JX.fin (X:JX m l1 l2 P e φ):JI m φ P e (Z17 m.W.length φ m.W P):=by
 obtain ⟨c,t,I⟩:=X.carried P.length (U02 _)
 rw [U3y] at t I
 rw [X.t.uniq t];exact I
theorem JX.one (X:JX m l1 l2 P e φ) {i:Nat}{p:Nat × Nat} (hp:P[i]?=some p):(Z17 m.W.length φ m.W (P.take i)).length=m.W.length/\U64 (Z17 m.W.length φ m.W (P.take i))/\(Z17 m.W.length φ m.W (P.take i)).getD p.1 0=m.F p.1/\p.1+(1+szN (m.F p.1))<=m.W.length/\p.2+(1+szN (m.F p.1))<=m.W.length/\Z0t (m.F p.1)=true:=by
 have hi:i<P.length:=(U0e.1 hp).1
 obtain ⟨c,t,I⟩:=X.carried i (by omega)
 have hP:P=P.take i++p::P.drop (i+1):=by
  have h1:=U3v i P
  have h2:P.drop i=p::P.drop (i+1):=by
   rw [U49 (by omega)]
   congr 1
   rw [U03 (by omega)] at hp
   exact U1h hp
  rw [<-h2];exact h1.symm
 have hc:p.2=c:=by
  have ht:=X.t
  rw [hP] at ht
  obtain ⟨c',t1,t2⟩:=ht.split
  rw [t.uniq t1];exact t2.1
 rw [<-hc] at I
 obtain ⟨a1,a2,a3,_⟩:=JI.step X hP I
 exact ⟨I.len,I.u64,a1,a2,a3,(X.S.fine _ (X.sub p (U0a hp))).1⟩
structure Slid (n:MD) (us:List Nat):Prop where
 S:n.Shape us
 h64:MD64 n
 top:n.top=0
 all:∀ f∈us,f∈n.reach us
 weak:∀ x∈n.K,Z4r (fun f=>f∈us) x
 cf:n.C=List.replicate n.C.length false
theorem Zj5 {L L':List Int} (hl:L.length=L'.length) (h:∀ i,L.getD i 0=L'.getD i 0):L=L':=by
 refine U24 fun i => ?_
 by_cases hi:i<L.length
 ·have:=h i
  rw [U07,U07,U03 hi,U03 (by omega)] at this
  rw [U03 hi,U03 (by omega)]
  exact congrArg some this
 ·rw [U14 (by omega),U14 (by omega)]
theorem Zon {x:Int} (h:Z0t x=true) (ha:x / 1024 % 16=0):hdW x 0=x:=by
 obtain ⟨e1,e2,e3⟩:=U0j h
 unfold hdW
 omega
theorem Slid.again {n:MD}{us l1 l2:List Nat} (h:Slid n us) (hus:us=l1++l2) (w1:Z09 n.F (G0 n.F) (n.n1 - n.n0) n.n0 n.n1=some l1) (w2:Z09 n.F (G0 n.F) (n.m1 - n.m0) n.m0 n.m1=some l2) {P:List (Nat × Nat)}{e:Nat}{φ:Nat->Option Nat} (X:JX n l1 l2 P e φ) (hP:P.map Prod.fst=us):Zmf n φ (Z17 n.W.length φ n.W P) e=n/\e=n.m1:=by
 have Q:=MD.parts h.S.1
 have hl1:l1 = []:=by
  have h0:=Q.n0
  have h1:=Q.n1
  have ht:=h.top
  rw [ht] at h1
  rw [show n.n1=n.n0 by omega] at w1
  rw [Z3b (by omega)] at w1
  exact (U1h w1).symm
 have hl2:us=l2:=by rw [hus,hl1];rfl
 have t2:=X.t2
 have tP:=X.t
 have key:∀ (l:List Nat) (Q:List (Nat × Nat)) (a b c:Nat),Q.map Prod.fst=l->Z0l n.F a (l.map fun f=>(f,f)) b->Z0l n.F a Q c->Q=l.map (fun f=>(f,f))/\b=c:=fun l=>by
  induction l with
  | nil =>
   intro Q a b c hQ h1 h2
   have:Q = []:=List.map_eq_nil_iff.1 hQ
   rw [this] at h2 ⊢
   have h1:a=b:=h1
   have h2:a=c:=h2
   exact ⟨rfl,by omega⟩
  | cons f l ih =>
   intro Q a b c hQ h1 h2
   cases Q with
   | nil=>simp at hQ
   | cons q Q =>
    rw [U1f] at hQ
    obtain ⟨e1,e2⟩:=List.cons.inj hQ
    have a1:f=a:=h1.1
    have a2:q.2=a:=h2.1
    have h3:Z0l n.F (a+1+szN (n.F q.1)) Q c:=h2.2
    rw [e1] at h3
    obtain ⟨i1,i2⟩:=ih Q _ b c e2 h1.2 h3
    refine ⟨?_,i2⟩
    rw [U1f,<-i1]
    congr 1
    exact Prod.ext e1 (by rw [a2,<-a1])
 obtain ⟨k1,k2⟩:=key us P n.m0 n.m1 e hP (by rw [hl2];exact t2) tP
 have hφ:∀ f∈us,φ f=some f:=fun f hf=>(X.φ f f).2 (by rw [k1];exact U0l.2 ⟨f,hf,rfl⟩)
 have hnow:∀ x,Z0b n.W.length (fun i=>decide (i∈l1++l2)) x=true->Z4r (fun f=>f∈us) x->Z0g 0 n.W.length φ x=(x,true):=fun x hx hp=>by
  unfold Z0g
  split
  ·rename_i hc
   have hin:=hp hc.1
   have h4:x=(ptI x+1)*4:=by
    have:=hc.1
    unfold ptI at this ⊢
    split at this
    ·rename_i c;rw [U09 c];omega
    ·omega
   rw [hφ _ hin]
   show ((((ptI x).toNat:Int)+1)*4,true)=(x,true)
   congr 1
   omega
  ·rfl
 have hptin:∀ f∈us,¬ n.F f / 4 % 256<8 -> ∀ k,k<szN (n.F f)->Z4r (fun f=>f∈us) (n.F (f+1+k)):=fun f hf hr k hk h0=>by
  have:=X.fields (f,f) (by rw [k1];exact U0l.2 ⟨f,hf,rfl⟩) hr k hk h0
  rw [hP] at this
  exact this
 have hages:∀ f∈us,n.F f / 1024 % 16=0:=fun f hf=>by
  have ho:=h.S.2.1
  unfold MD.objs at ho
  split at ho
  ·rename_i a1 a2 b1 b2
   have c2:=Z0h.1 b2
   have e2:a2=l2:=by
    have:=(Z0h.1 w2).1
    rw [c2.1] at this
    exact U1h this
   have g:=U0m.1 c2.2 f (by rw [e2,<-hl2];exact hf)
   unfold G1 at g
   rw [U0i,U47] at g
   rcases g.2 with g | g
   ·have g:=U0j g
    have:=X.in2 (by rw [<-hl2];exact hf:f∈l2)
    have:=Q.m0
    omega
   ·exact U0j g
  ·cases ho
 have hone:∀ f∈us,Z2g n.W.length φ n.W f f (n.F f)=n.W:=fun f hf=>by
  have hfl:f+(1+szN (n.F f))<=n.W.length:=by have:=(h.S.fine f hf).2;omega
  refine Zj5 (Zaz hfl hfl) (fun i => ?_)
  rw [Zdz hfl hfl]
  by_cases hi:i=f
  ·rw [U09 hi,hi,Zon (h.S.fine f hf).1 (hages f hf)];rfl
  ·rw [U08 hi]
   by_cases h2:f<=i/\i<f+1+szN (n.F f)
   ·rw [U09 h2]
    have ei:f+(i - f)=i:=by omega
    rw [ei]
    split
    ·rfl
    ·rename_i hr
     have ek:i=f+1+(i - f - 1):=by omega
     have hb:=h.S.held hf (k:=i - f - 1) (by omega) hr
     have hp:=hptin f hf hr (i - f - 1) (by omega)
     rw [<-ek] at hb hp
     have:=hnow (n.F i) (by rw [<-hus];exact hb) hp
     show (Z0g 0 n.W.length φ (n.F i)).1=n.F i
     rw [this]
   ·rw [U08 h2]
 have hL:Z17 n.W.length φ n.W P=n.W:=by
  rw [k1]
  unfold Z17
  have:∀ l:List Nat,(∀ f∈l,f∈us)->(l.map fun f=>(f,f)).foldl (fun W p=>Z2g n.W.length φ W p.1 p.2 (W.getD p.1 0)) n.W=n.W:=fun l=>by
   induction l with
   | nil=>intro _;rfl
   | cons f l ih =>
    intro hl
    rw [U1f,List.foldl_cons]
    have:=hone f (hl f (by simp))
    show (l.map fun f=>(f,f)).foldl _ (Z2g n.W.length φ n.W f f (n.F f))=n.W
    rw [this]
    exact ih (fun g hg=>hl g (by simp [hg]))
  exact this us (fun _ h=>h)
 obtain ⟨rR,rK,rI⟩:=h.S.rest'
 have hR:n.R.map (fun x=>(Z0g 0 n.W.length φ x).1)=n.R:=by
  have:n.R.map (fun x=>(Z0g 0 n.W.length φ x).1)=n.R.map id:=U15 fun x hx=>by
   have:=hnow x (by rw [<-hus];exact rR x hx) (fun h0=>by have:=X.roots x hx h0;rw [hP] at this;exact this)
   rw [this];rfl
  rw [this,List.map_id]
 have hK:n.K.map (fun x=>(Z0g 0 n.W.length φ x).1)=n.K:=by
  have:n.K.map (fun x=>(Z0g 0 n.W.length φ x).1)=n.K.map id:=U15 fun x hx=>by
   have:=hnow x (by rw [<-hus];exact rK x hx) (h.weak x hx)
   rw [this];rfl
  rw [this,List.map_id]
 have hI:Z32 (Z0g 0 n.W.length φ) n.I=n.I:=by
  unfold Z32
  obtain ⟨i1,_⟩:=Z64.1 rI
  have:∀ l:List (Int × Int),(∀ x∈l,x∈n.I)->(l.filterMap fun x=>if (Z0g 0 n.W.length φ x.1).2=true then some ((Z0g 0 n.W.length φ x.1).1,x.2) else none)=l:=fun l=>by
   induction l with
   | nil=>intro _;rfl
   | cons x l ih =>
    intro hl
    have hb:=Z48 (i1 x (hl x (by simp))).1
    have hn3:n.W.length<=300000:=by obtain ⟨_,_,_,_,_,_,_,_,h8⟩:=X.num;exact h8
    have:=hnow x.1 (by rw [<-hus];exact hb) (fun h0=>Z8v hb h0)
    rw [U43,this,ih (fun y hy=>hl y (by simp [hy]))]
    rfl
  exact this n.I (fun _ h=>h)
 refine ⟨?_,k2.symm⟩
 have h1:=Q.m1
 have h0:=Q.m0
 have ht:=h.top
 have hcf:=h.cf
 unfold Zmf
 rw [hL,hR,hK,hI,<-hcf]
 have hot:(e:Int) - (n.m0:Int)=n.oldTop:=by omega
 rw [hot,<-ht]
end
section
open Go.Maps
theorem Zpc (a:Nat->Addr) (e:CE) (s0:CS) (w:World) (H:CopAt e s0 w) (F:Fits e.half e.old e.card e.nW e.nC e.used e.top e.oldTop) (E:∀ w',Aside e.own w w'->WErr a w') (Inv:CS->Prop) (μ:CS->Nat) (h0:Inv s0)
  (hY:∀ s,Inv s->s.yd<=300000/\s.yt<=300000/\(s.yd<s.yt->ObjOK e s s.yd/\Inv (s.scanY e)/\μ (s.scanY e)<μ s))
  (hG:∀ s,Inv s->s.gd<=300000/\s.gt<=300000/\(s.gd<s.gt->ObjOK e s s.gd/\Inv (s.scanG e)/\μ (s.scanG e)<μ s)) :
  Calls prog 203 #[.pointer (some ⟨e.q,0,none⟩)] w fun ev w'=>ev = .returned (.tuple #[]) /\ ∃ s,Inv s /\ ¬ s.yd<s.yt /\ ¬ s.gd<s.gt/\CopAt e s w'/\Aside e.own w w':=by
 have kY:Hid (∀ s wx,Inv s->CopAt e s wx->Aside e.own w wx->Calls prog 238 #[.pointer (some ⟨e.q,0,none⟩),.pointer (some ⟨e.q,5,none⟩)] wx fun ev w'=>ev = .returned (.tuple #[]) /\ ∃ s',(Inv s'/\(s'=s\/μ s'<μ s)) /\ ¬ s'.yd<s'.yt/\CopAt e s' w'/\Aside e.own w w'):=fun s wx hi hH hA=>by
  refine (Zna a e s wx hH F (fun w' h=>E w' (hA.trans h)) (fun s'=>Inv s'/\(s'=s\/μ s'<μ s)) μ ⟨hi,Or.inl rfl⟩ (fun s' hs' => ?_)).mono ?_
  ·obtain ⟨b1,b2,b3⟩:=hY s' hs'.1
   refine ⟨b1,b2,fun hlt => ?_⟩
   obtain ⟨c1,c2,c3⟩:=b3 hlt
   refine ⟨c1,⟨c2,Or.inr ?_⟩,c3⟩
   rcases hs'.2 with h | h
   ·rw [h] at c3 ⊢;exact c3
   ·omega
  ·rintro ev w' ⟨rfl,s',h1,h2,h3,h4⟩
   exact ⟨rfl,s',h1,h2,h3,hA.trans h4⟩
 have kG:Hid (∀ s wx,Inv s->CopAt e s wx->Aside e.own w wx->Calls prog 238 #[.pointer (some ⟨e.q,0,none⟩),.pointer (some ⟨e.q,7,none⟩)] wx fun ev w'=>ev = .returned (.tuple #[]) /\ ∃ s',(Inv s'/\(s'=s\/μ s'<μ s)) /\ ¬ s'.gd<s'.gt/\CopAt e s' w'/\Aside e.own w w'):=fun s wx hi hH hA=>by
  refine (Zjy a e s wx hH F (fun w' h=>E w' (hA.trans h)) (fun s'=>Inv s'/\(s'=s\/μ s'<μ s)) μ ⟨hi,Or.inl rfl⟩ (fun s' hs' => ?_)).mono ?_
  ·obtain ⟨b1,b2,b3⟩:=hG s' hs'.1
   refine ⟨b1,b2,fun hlt => ?_⟩
   obtain ⟨c1,c2,c3⟩:=b3 hlt
   refine ⟨c1,⟨c2,Or.inr ?_⟩,c3⟩
   rcases hs'.2 with h | h
   ·rw [h] at c3 ⊢;exact c3
   ·omega
  ·rintro ev w' ⟨rfl,s',h1,h2,h3,h4⟩
   exact ⟨rfl,s',h1,h2,h3,hA.trans h4⟩
 have HI0:=Z00 h0
 have H0:=Z00 H
 have HB:Hid (∀ s,Inv s->s.yd<=300000/\s.yt<=300000/\s.gd<=300000/\s.gt<=300000):=fun s hs=>⟨(hY s hs).1,(hY s hs).2.1,(hG s hs).1,(hG s hs).2.1⟩
 clear H F E hY hG h0
 go_enter func203,ntmps203
 go_wp2_with fail
 go_loopg [] (μ s0+1) (fun gk wr => ∃ s,gk=μ s+1/\Hid (Inv s)/\Hid (CopAt e s wr)/\Hid (Aside e.own w wr))
 case atStart=>exact ⟨s0,rfl,HI0,H0,Aside.refl _ _⟩
 case round =>
  obtain ⟨s,hgk,hi,hH,hA⟩:=hrel
  have HGK:=Z00 hgk
  clear hgk
  obtain ⟨b1,b2,b3,b4⟩:=HB.out s hi.out
  obtain ⟨c0,c1,c2,c3,c4,c5,c6,c7,c8,cm⟩:=hH.out.cells
  have hcase:(s.yd<s.yt\/(¬ s.yd<s.yt/\s.gd<s.gt))\/(¬ s.yd<s.yt /\ ¬ s.gd<s.gt):=by omega
  rcases hcase with hgo | ⟨hy,hg⟩
  ·have HGO:=Z00 hgo
   have HRest:Hid (∀ wq,Below wr.heap.size wr wq->Calls prog 238 #[.pointer (some ⟨e.q,0,none⟩),.pointer (some ⟨e.q,5,none⟩)] wq fun ev w'=>ev = .returned (.tuple #[]) /\ ∃ s',(Inv s'/\(s'=s\/μ s'<μ s)) /\ ¬ s'.yd<s'.yt/\CopAt e s' w'/\Aside e.own w w'):=fun wq hb=>kY.out s wq hi.out (hH.out.below hb) (hA.out.trans (Aside.of_below hb))
   rcases hgo with hlt | ⟨hy,hlt⟩
   ·have hlI:(s.yd:Int)<(s.yt:Int):=by omega
    clear hlt
    go_wp2_with fail
    go_quiet (fail)
    have k1:=HRest.out (wr.drewN nq) (Z03 (U01 _ _))
    obtain ⟨w1,hw1⟩:∃ w1,w1=wr.drewN nq:=⟨_,rfl⟩
    rw [<-hw1] at k1 ⊢
    clear hw1 c0 c1 c2 c3 c4 c5 c6 c7 c8 cm
    go_wp2_with fail
    refine k1.mono ?_
    clear k1
    rintro ev w2 ⟨rfl,s1,⟨hi1,hd1⟩,hny,hH1,hA1⟩
    have k2:=kG.out s1 w2 hi1 hH1 hA1
    have HD1:=Z00 hd1
    have HNY:=Z00 hny
    clear hi1 hd1 hny hH1 hA1
    go_wp2_with fail
    refine k2.mono ?_
    clear k2
    rintro ev w3 ⟨rfl,s2,⟨hi2,hd2⟩,hng,hH2,hA2⟩
    have HI2:=Z00 hi2
    have HD2:=Z00 hd2
    have HNG:=Z00 hng
    have HH2:=Z00 hH2
    have HA2:=Z00 hA2
    clear hi2 hd2 hng hH2 hA2
    go_wp2_with fail
    go_roundg (μ s2+1)
    case measure =>
     have g:=HGK.out
     have d1:=HD1.out
     have d2:=HD2.out
     have o:=HGO.out
     have n1:=HNY.out
     have n2:=HNG.out
     rcases d1 with rfl | d1
     ·rcases d2 with rfl | d2
      ·omega
      ·omega
     ·rcases d2 with rfl | d2 <;> omega
    case rel=>exact ⟨s2,rfl,HI2,HH2,HA2⟩
   ·have hyI:¬ (s.yd:Int)<(s.yt:Int):=by omega
    have hyD:decide (s.yd<s.yt)=false:=U0k (by omega)
    have hlI:(s.gd:Int)<(s.gt:Int):=by omega
    clear hlt hy
    go_wp2_with fail
    go_quiet (fail)
    have k1:=HRest.out (wr.drewN nq) (Z03 (U01 _ _))
    obtain ⟨w1,hw1⟩:∃ w1,w1=wr.drewN nq:=⟨_,rfl⟩
    rw [<-hw1] at k1 ⊢
    clear hw1 c0 c1 c2 c3 c4 c5 c6 c7 c8 cm
    go_wp2_with fail
    refine k1.mono ?_
    clear k1
    rintro ev w2 ⟨rfl,s1,⟨hi1,hd1⟩,hny,hH1,hA1⟩
    have k2:=kG.out s1 w2 hi1 hH1 hA1
    have HD1:=Z00 hd1
    have HNY:=Z00 hny
    clear hi1 hd1 hny hH1 hA1
    go_wp2_with fail
    refine k2.mono ?_
    clear k2
    rintro ev w3 ⟨rfl,s2,⟨hi2,hd2⟩,hng,hH2,hA2⟩
    have HI2:=Z00 hi2
    have HD2:=Z00 hd2
    have HNG:=Z00 hng
    have HH2:=Z00 hH2
    have HA2:=Z00 hA2
    clear hi2 hd2 hng hH2 hA2
    go_wp2_with fail
    go_roundg (μ s2+1)
    case measure =>
     have g:=HGK.out
     have d1:=HD1.out
     have d2:=HD2.out
     have o:=HGO.out
     have n1:=HNY.out
     have n2:=HNG.out
     rcases d1 with rfl | d1
     ·rcases d2 with rfl | d2
      ·omega
      ·omega
     ·rcases d2 with rfl | d2 <;> omega
    case rel=>exact ⟨s2,rfl,HI2,HH2,HA2⟩
  ·have hyI:¬ (s.yd:Int)<(s.yt:Int):=by omega
   have hyD:decide (s.yd<s.yt)=false:=U0k (by omega)
   have hgI:¬ (s.gd:Int)<(s.gt:Int):=by omega
   have HHY:=Z00 hy
   have HHG:=Z00 hg
   clear hy hg
   go_wp2_with fail
   go_quiet (fail)
   go_wp2_with fail
   go_end0
   have hb:=Z03 (q:=nq) (U01 wr.heap.size wr)
   exact ⟨rfl,s,hi.out,HHY.out,HHG.out,hH.out.below hb,hA.out.trans (Aside.of_below hb)⟩
end
section
variable {e:CE}{m:MD}{l1 l2:List Nat}{o0:Nat}{Y G:List (Nat × Nat)}{D:Nat->Prop}{s:CS}
def CS.start (m:MD) (o0:Nat):CS:=⟨m.W,List.replicate m.C.length false,fun _=>none,o0,o0,m.m1,m.m1⟩
def D0 (m:MD) (l2:List Nat) (y:Nat):Prop:=∃ f∈l2,∃ k,y=f+1+k/\k<szN (m.F f) /\ ¬ m.F f / 4 % 256<8/\m.Cf (Z35 m.half m.card y)=false
theorem CX.start (X:CX e m l1 l2 o0):CI e m l1 l2 o0 [] [] (D0 m l2) (CS.start m o0):=by
 obtain ⟨h,N⟩:=X.num
 refine ⟨rfl,rfl,by simp,by simp,by simp,by simp,fun f t=>⟨fun h=>(by cases h),fun h=>(by simp at h)⟩,by rw [X.nW];rfl,by rw [X.nC];exact U17,X.h64.w,by simp,by simp,by simp,fun _ _ _=>rfl,fun _ _ _ _=>rfl,fun y hy => ?_⟩
 obtain ⟨f,hf,k,rfl,hk,hr,hc⟩:=hy
 have hin:=X.in2 hf
 have hny:Z14 m.half (m.F (f+1+k))=false:=by
  cases hy:Z14 m.half (m.F (f+1+k)) with
  | false=>rfl
  | true =>
   have:=X.S.carded X.cards (U0c.2 (Or.inr hf)) hk hr (by have:=N.m0;have:=N.half;omega) hy
   rw [this] at hc;cases hc
 have hno:Z0g e.lo e.hi (CS.start m o0).φ (m.F (f+1+k))=(m.F (f+1+k),true):=by
  unfold Z0g
  rw [U08]
  rintro ⟨h1,h2,h3⟩
  have hp:m.F (f+1+k) % 4=0/\4<=m.F (f+1+k)/\ptI (m.F (f+1+k))=m.F (f+1+k) / 4 - 1:=by
   unfold ptI at h1 ⊢
   split at h1
   ·rename_i c;rw [U09 c];exact ⟨c.1,c.2.1,rfl⟩
   ·omega
  have:Z14 m.half (m.F (f+1+k))=true:=by
   unfold Z14
   refine U0d ⟨hp.1,hp.2.1,?_⟩
   have:=N.hi
   have:=N.sep
   have:=N.half
   omega
  rw [this] at hny;cases hny
 refine ⟨(f,f),k,rfl,Or.inr ⟨hf,rfl⟩,hk,hr,by rw [hno],by rw [hno];rfl,fun _ h2 => ?_⟩
 have h2:Z14 m.half (m.F (f+1+k))=true:=h2
 rw [h2] at hny;cases hny
theorem CI.followN (I:CI e m l1 l2 o0 Y G D s) (X:CX e m l1 l2 o0) {R:List Int} (hR:∀ x∈R,Z0b m.W.length (fun i=>decide (i∈l1++l2)) x=true):∀ i,i<=R.length ->
  ∃ Y' G',CI e m l1 l2 o0 (Y++Y') (G++G') D (s.followN e R i)/\Same s (s.followN e R i)/\(∀ j,j<i->(Z0g e.lo e.hi (s.followN e R i).φ (R.getD j 0)).2=true) /\ ∀ j,j<i->(s.rowN e R i).getD j 0=(Z0g e.lo e.hi (s.followN e R i).φ (R.getD j 0)).1
 | 0,_=>⟨[],[],by rw [U16,U16];exact I,Same.refl s,fun j hj=>by omega,fun j hj=>by omega⟩
 | i+1,hi=>by
  obtain ⟨Y1,G1,I1,S1,h1,h2⟩:=I.followN X hR i (by omega)
  have hx:Z0b m.W.length (fun i=>decide (i∈l1++l2)) (R.getD i 0)=true:=hR _ (by rw [U07,U03 (by omega)];exact U1w _)
  obtain ⟨_,Y2,G2,I2,S2,_,ho,_⟩:=I1.follow X hx
  rw [U0y,U0y] at I2
  have hmono:∀ j,j<i->Z0g e.lo e.hi (s.followN e R (i+1)).φ (R.getD j 0)=Z0g e.lo e.hi (s.followN e R i).φ (R.getD j 0):=fun j hj=>Z9c S2.φ (h1 j hj)
  refine ⟨Y1++Y2,G1++G2,I2,S1.trans S2,fun j hj => ?_,fun j hj => ?_⟩
  ·by_cases hji:j<i
   ·rw [hmono j hji];exact h1 j hji
   ·obtain rfl:j=i:=by omega
    exact ho
  ·have hl:=Z69 e s R i
   show ((s.rowN e R i).set i ((s.followN e R i).word e (R.getD i 0))).getD j 0=_
   rw [Z81 _ _ _ _ (by omega)]
   by_cases hji:j<i
   ·rw [U08 (by omega),hmono j hji];exact h2 j hji
   ·obtain rfl:j=i:=by omega
    rw [U09 rfl];rfl
theorem CI.followOK (I:CI e m l1 l2 o0 Y G D s) (X:CX e m l1 l2 o0) {R:List Int} (hR:∀ x∈R,Z0b m.W.length (fun i=>decide (i∈l1++l2)) x=true) (i:Nat) (hi:i<R.length) :
  CSOK e (s.followN e R i)/\((Z0g e.lo e.hi (s.followN e R i).φ (R.getD i 0)).2=false->CanCopy e (s.followN e R i) (ptI (R.getD i 0)).toNat /\ ∀ f t,((s.followN e R i).copy e (ptI (R.getD i 0)).toNat).φ f=some t->t<=300000):=by
 obtain ⟨Y1,G1,I1,S1,h1,h2⟩:=I.followN X hR i (by omega)
 have hx:Z0b m.W.length (fun i=>decide (i∈l1++l2)) (R.getD i 0)=true:=hR _ (by rw [U07,U03 (by omega)];exact U1w _)
 exact ⟨CSOK.of I1 X,(I1.follow X hx).1⟩
theorem Zpq {R:List Int}{φ:Nat->Option Nat} (h:∀ j,j<R.length->(s.rowN e R R.length).getD j 0=(Z0g e.lo e.hi φ (R.getD j 0)).1):s.rowN e R R.length=R.map (fun x=>(Z0g e.lo e.hi φ x).1):=by
 refine U24 fun j => ?_
 have hl:=Z69 e s R R.length
 by_cases hj:j<R.length
 ·have:=h j hj
  rw [U07,U03 (by omega),U07,U03 hj] at this
  rw [U03 (by omega),U0g,U03 hj]
  exact congrArg some this
 ·rw [U14 (by omega),U14 (by rw [U0v];omega)]
def CS.fieldL (e:CE) (s:CS) (l:List Nat):Nat->CS
 | 0=>s
 | i+1=>(s.fieldL e l i).field e (l.getD i 0)
theorem CI.fieldL (I:CI e m l1 l2 o0 Y G D s) (X:CX e m l1 l2 o0) {l:List Nat} (hn:l.Nodup) (hl:∀ y∈l,¬ D y /\ ∃ f∈l2,∃ k,y=f+1+k/\k<szN (m.F f) /\ ¬ m.F f / 4 % 256<8):∀ i,i<=l.length ->
  ∃ Y' G',CI e m l1 l2 o0 (Y++Y') (G++G') (fun z=>D z\/z∈l.take i) (s.fieldL e l i)/\Same s (s.fieldL e l i)/\(i<l.length->FieldOK e (s.fieldL e l i) (l.getD i 0))
 | 0,_=>by
  have e1:(fun z=>D z\/z∈l.take 0)=D:=by
   funext z;apply propext;simp
  refine ⟨[],[],by rw [U16,U16,e1];exact I,Same.refl s,fun h0 => ?_⟩
  have hy:l.getD 0 0∈l:=by rw [U07,U03 h0];exact U1w _
  obtain ⟨hD,f,hf,k,hk1,hk2,hk3⟩:=hl _ hy
  exact (I.field X (p:=(f,f)) ⟨hk1,Or.inr ⟨hf,rfl⟩,hk2,hk3⟩ hD).1
 | i+1,hi=>by
  obtain ⟨Y1,G1,I1,S1,_⟩:=I.fieldL X hn hl i (by omega)
  have hg:l[i]?=some (l.getD i 0):=by rw [U07,U03 (by omega)];rfl
  have hy:l.getD i 0∈l:=U0a hg
  have hnt:l.getD i 0 ∉ l.take i:=fun h=>by
   obtain ⟨j,hj⟩:=U21.1 h
   rw [U1j] at hj
   split at hj
   ·rename_i hji
    have:=(List.getElem?_inj (by omega) hn).1 (hj.trans hg.symm)
    omega
   ·cases hj
  obtain ⟨hD,f,hf,k,hk1,hk2,hk3⟩:=hl _ hy
  obtain ⟨_,Y2,G2,I2,S2,_⟩:=I1.field X (p:=(f,f)) ⟨hk1,Or.inr ⟨hf,rfl⟩,hk2,hk3⟩ (by
   rintro (h | h)
   ·exact hD h
   ·exact hnt h)
  have e1:(fun z=>(D z\/z∈l.take i)\/z=l.getD i 0)=(fun z=>D z\/z∈l.take (i+1)):=by
   funext z;apply propext
   rw [U1g,hg]
   simp only [U0c,Option.toList_some,U2p,or_assoc]
  rw [e1,U0y,U0y] at I2
  refine ⟨Y1++Y2,G1++G2,I2,S1.trans S2,fun h0 => ?_⟩
  have hg':l[i+1]?=some (l.getD (i+1) 0):=by rw [U07,U03 (by omega)];rfl
  have hnt':l.getD (i+1) 0 ∉ l.take (i+1):=fun h=>by
   obtain ⟨j,hj⟩:=U21.1 h
   rw [U1j] at hj
   split at hj
   ·rename_i hji
    have:=(List.getElem?_inj (by omega) hn).1 (hj.trans hg'.symm)
    omega
   ·cases hj
  obtain ⟨hD',f',hf',k',h1',h2',h3'⟩:=hl _ (U0a hg')
  exact (I2.field X (p:=(f',f')) ⟨h1',Or.inr ⟨hf',rfl⟩,h2',h3'⟩ (by
   rintro (h | h)
   ·exact hD' h
   ·exact hnt' h)).1
def mkF (m:MD) (f:Nat):List Nat:=if m.F f / 4 % 256<8 then [] else ((List.range (szN (m.F f))).map fun k=>f+1+k).filter fun y=>m.Cf (Z35 m.half m.card y)
def Z2j (m:MD) (l2:List Nat):List Nat:=l2.flatMap (mkF m)
theorem Z96 {m:MD}{f y:Nat} : y∈mkF m f ↔ ∃ k,y=f+1+k/\k<szN (m.F f) /\ ¬ m.F f / 4 % 256<8/\m.Cf (Z35 m.half m.card y)=true:=by
 unfold mkF
 by_cases h:m.F f / 4 % 256<8
 ·rw [U09 h]
  exact ⟨fun h=>(by simp at h),fun ⟨k,_,_,h1,_⟩=>absurd h h1⟩
 ·rw [U08 h]
  constructor
  ·intro hy
   obtain ⟨h1,h2⟩:=U1l.1 hy
   obtain ⟨k,hk,rfl⟩:=U0l.1 h1
   exact ⟨k,rfl,U0u.1 hk,h,h2⟩
  ·rintro ⟨k,rfl,hk,_,hc⟩
   exact U1l.2 ⟨U0l.2 ⟨k,U0u.2 hk,rfl⟩,hc⟩
theorem Z0l.pw {F:Nat->Int} : ∀ {L:List (Nat × Nat)}{a b:Nat},Z0l F a L b->L.Pairwise (fun p q=>p.2+1+szN (F p.1)<=q.2)
 | [],_,_,_=>List.Pairwise.nil
 | p::L,a,b,h=>by
  refine List.Pairwise.cons (fun q hq => ?_) (Z0l.pw h.2)
  have:=Z0l.mem h.2 q hq
  have:=h.1
  omega
theorem CX.marked (X:CX e m l1 l2 o0):(Z2j m l2).Nodup/\(∀ y∈Z2j m l2,¬ D0 m l2 y /\ ∃ f∈l2,∃ k,y=f+1+k/\k<szN (m.F f) /\ ¬ m.F f / 4 % 256<8)/\Zg5 m.F (fun z=>D0 m l2 z\/z∈Z2j m l2) (l2.map fun f=>(f,f)):=by
 refine ⟨?_,fun y hy => ?_,fun p hp hr k hk => ?_⟩
 ·unfold Z2j
  have hp:=X.t2.pw
  rw [U3s] at hp
  refine List.pairwise_flatMap.2 ⟨fun f _ => ?_,hp.imp fun {a b} hab x hx y hy => ?_⟩
  ·unfold mkF
   split
   ·exact List.Pairwise.nil
   ·refine List.Pairwise.filter _ (U3s.2 ?_)
    exact (List.nodup_range (n:=szN (m.F f))).imp (fun h e=>h (by omega))
  ·obtain ⟨k,rfl,hk,_⟩:=Z96.1 hx
   obtain ⟨j,rfl,_⟩:=Z96.1 hy
   have hab:a+1+szN (m.F a)<=b:=hab
   omega
 ·obtain ⟨f,hf,hy⟩:=U4o.1 hy
  obtain ⟨k,h1,h2,h3,h4⟩:=Z96.1 hy
  refine ⟨?_,f,hf,k,h1,h2,h3⟩
  rintro ⟨_,_,_,_,_,_,h5⟩
  rw [h4] at h5;cases h5
 ·obtain ⟨f,hf,rfl⟩:=U0l.1 hp
  show D0 m l2 (f+1+k)\/f+1+k∈Z2j m l2
  cases hc:m.Cf (Z35 m.half m.card (f+1+k)) with
  | false=>exact Or.inl ⟨f,hf,k,rfl,hk,hr,hc⟩
  | true=>exact Or.inr (U4o.2 ⟨f,hf,Z96.2 ⟨k,rfl,hk,hr,hc⟩⟩)
theorem CI.scan (I:CI e m l1 l2 o0 Y G D s) (X:CX e m l1 l2 o0) (hD:∀ z,D z->m.m0<=z/\z<m.m1) (hA:Zg5 m.F D (l2.map fun f=>(f,f))) (hy:s.yd=o0) (hg:s.gd=m.m1):SI e m l1 l2 o0 s:=by
 obtain ⟨h,N⟩:=X.num
 obtain ⟨b1,b2,b3,b4⟩:=I.place X N
 have s1:=N.sep
 have s2:=N.m0
 have s3:=N.m1
 refine ⟨[],Y,[],G,D,I,hy.symm,hg.symm,fun p hp=>by simp at hp,fun p hp k hk hd => ?_,hA⟩
 have:=hD _ hd
 rcases U0c.1 hp with hp | hp
 ·have:=I.tY.mem p hp;omega
 ·have:=I.tG.mem p hp;omega
theorem CX.dOld (X:CX e m l1 l2 o0):∀ z,D0 m l2 z\/z∈Z2j m l2->m.m0<=z/\z<m.m1:=fun z hz=>by
 have:∃ f∈l2,∃ k,z=f+1+k/\k<szN (m.F f):=by
  rcases hz with ⟨f,hf,k,h1,h2,_⟩ | hz
  ·exact ⟨f,hf,k,h1,h2⟩
  ·obtain ⟨f,hf,hy⟩:=U4o.1 hz
   obtain ⟨k,h1,h2,_⟩:=Z96.1 hy
   exact ⟨f,hf,k,h1,h2⟩
 obtain ⟨f,hf,k,rfl,hk⟩:=this
 have:=X.in2 hf
 omega
end
section
open Go.Maps
theorem Zkb (lo hi:Int) (w:World) :
  Calls prog 199 #[.int .i64 lo,.int .i64 hi] w fun ev w' => ∃ bm,ev = .returned (.agg #[.int .i64 lo,.int .i64 hi,.map (some bm)])/\w'.ownsMap prog 3 (plainElem prog 3) bm 0 ((.map []):DataW Unit)/\w.heap.size<=bm/\Below w.heap.size w w':=by
 have hmm:=@run_makeMap prog
 go_enter func199,ntmps199
 go_wp2_with fail
 have e:(w.alloc (.cells #[.int .i64 lo,.int .i64 hi,.map (some (w.heap.size+1))] 238)).heap.size=w.heap.size+1:=by simp
 have m2:=U4a (w.alloc (.cells #[.int .i64 lo,.int .i64 hi,.map (some (w.heap.size+1))] 238)) prog 3 (plainElem (H:=Unit) prog 3)
 rw [e] at m2
 have n1:((w.alloc (.cells #[.int .i64 lo,.int .i64 hi,.map (some (w.heap.size+1))] 238)).alloc (.map #[] 0)).heap[w.heap.size]?=some (.cells #[.int .i64 lo,.int .i64 hi,.map (some (w.heap.size+1))] 238):=by rw [Z0u _ _ _ (by simp)];exact U0b w _
 refine U2n (v:=.agg #[.int .i64 lo,.int .i64 hi,.map (some (w.heap.size+1))]) ?_ rfl ?_
 ·have c0:((w.alloc (.cells #[.int .i64 lo,.int .i64 hi,.map (some (w.heap.size+1))] 238)).alloc (.map #[] 0)).cell? ⟨w.heap.size,0,none⟩=some (.int .i64 lo):=by rw [U06 _ _ _ _ _ _ n1];rfl
  have c1:((w.alloc (.cells #[.int .i64 lo,.int .i64 hi,.map (some (w.heap.size+1))] 238)).alloc (.map #[] 0)).cell? ⟨w.heap.size,1,none⟩=some (.int .i64 hi):=by rw [U06 _ _ _ _ _ _ n1];rfl
  have c2:((w.alloc (.cells #[.int .i64 lo,.int .i64 hi,.map (some (w.heap.size+1))] 238)).alloc (.map #[] 0)).cell? ⟨w.heap.size,2,none⟩=some (.map (some (w.heap.size+1))):=by rw [U06 _ _ _ _ _ _ n1];rfl
  simp [results,Tryz.results199,go_sem,c0,c1,c2]
 ·exact ⟨_,rfl,m2,by omega,((U01 _ _).alloc (U02 _) _).alloc (by simp) _⟩
theorem Z7j {g:Nat}{t:TypeId} : ∀ (vs pre mid:List Value) (w:World),Blk g t (pre++mid) w->mid.length=vs.length->Blk g t (pre++vs) (w.setCells g pre.length vs)
 | [],pre,mid,w,h,hl=>by
  obtain rfl:mid = []:=List.length_eq_zero_iff.1 hl
  exact h
 | v::vs,pre,[],w,h,hl=>by simp at hl
 | v::vs,pre,x::mid,w,h,hl=>by
  have h1:=h.set (j:=pre.length) (by simp) v
  have e1:(pre++x::mid).set pre.length v=(pre ++ [v])++mid:=by simp
  rw [e1] at h1
  have h2:=Z7j vs (pre ++ [v]) mid _ h1 (by simpa using hl)
  rw [U0y] at h2
  have e2:(pre ++ [v]).length=pre.length+1:=by simp
  rw [e2] at h2
  exact h2
theorem Z5q {g:Nat} : ∀ (vs:List Value) (o:Nat) (w:World),Aside (· = g) w (w.setCells g o vs)
 | [],_,w=>Aside.refl _ w
 | v::vs,o,w=>((Aside.refl (fun k=>k=g) w).setCell (g:=g) rfl v).trans (Z5q vs (o+1) _)
theorem Zco {bC cC:Nat}{C:List Bool}{w:World} (h:Blk bC 4 (Z0s C) w) (h0:0<C.length):∃ w',(∀ ty,(Builtin.clear_ #[34] ty #[.slice (some ⟨bC,0,none⟩) C.length cC]).run prog w = .ok (.tuple #[]) w')/\Blk bC 4 (Z0s (List.replicate C.length false)) w'/\Aside (· = bC) w w':=by
 refine ⟨w.setCells bC 0 (List.replicate C.length (.bool false)),fun ty=>Lib.run_clear_slice w _ _ ty (.bool false) underlying34 (fun _=>by kernel_rfl) rfl rfl bC 0 C.length cC h0 (fun j hj => ?_) (fun j hj => ?_),?_,Z5q _ _ _⟩
 ·rw [U1p,h.cell (Zgo (U03 hj))];rfl
 ·rw [U1p];exact h.frozen j
 ·have:=Z7j (List.replicate C.length (.bool false)) [] (Z0s C) w h (by rw [lenB,U17])
  have e:Z0s (List.replicate C.length false)=List.replicate C.length (.bool false):=by unfold Z0s;rw [List.map_replicate]
  rw [e]
  exact this
theorem Z9v (e:CE) (ao:Option Addr) (cap:Nat) (w:World) :
  Calls prog 201 #[.pointer (some ⟨e.q,0,none⟩),.slice ao 0 cap] w fun ev w'=>ev = .returned (.tuple #[])/\w'=w:=by
 go_enter func201,ntmps201
 go_wp2_with fail
 go_loopg [8] 1 (fun gk v8 wr=>gk=1/\v8 = .int .i64 0/\wr=w)
 case atStart=>exact ⟨rfl,rfl,rfl⟩
 case round =>
  obtain ⟨_,rfl,rfl⟩:=hrel
  go_wp2_with fail
  go_end0
  exact ⟨rfl,rfl⟩
theorem Zc1 (a:Nat->Addr) (e:CE) (s:CS) (R:List Int) (v:Value) (w:World) (H:CopAt e s w) (hU:U64 R) (hR:R.length<=300000) (B:Z20 81 1 v R.length (Z05 R) w) (hg:∀ g,Z1n v g -> ¬ (g=e.q\/g=e.p\/g=e.bm\/g=e.bW\/g=e.bC)) (E:∀ w',Aside (fun k=>e.own k\/Z1n v k) w w'->WErr a w')
  (hO:∀ i,i<R.length->CSOK e (s.followN e R i))
  (hc:∀ i,i<R.length->(Z0g e.lo e.hi (s.followN e R i).φ (R.getD i 0)).2=false->CanCopy e (s.followN e R i) (ptI (R.getD i 0)).toNat /\ ∀ f t,((s.followN e R i).copy e (ptI (R.getD i 0)).toNat).φ f=some t->t<=300000) :
  Calls prog 201 #[.pointer (some ⟨e.q,0,none⟩),v] w fun ev w'=>ev = .returned (.tuple #[])/\CopAt e (s.followN e R R.length) w'/\Z20 81 1 v R.length (Z05 (s.rowN e R R.length)) w'/\Aside (fun k=>e.own k\/Z1n v k) w w':=by
 obtain ⟨ao,cap,rfl,hc1,hl,hf⟩:=id B
 by_cases h0:0<R.length
 ·obtain ⟨g,rfl,hb⟩:=hf h0
  have ho:Z1n (.slice (some ⟨g,0,none⟩) R.length cap) g:=⟨0,R.length,cap,h0,rfl⟩
  refine (Zbn a e s R g cap w H hU hR hb (hg g ho) (fun w' h=>E w' (h.mono (fun k hk => ?_))) hO hc).mono ?_
  ·rcases hk with hk | rfl
   ·exact Or.inl hk
   ·exact Or.inr ho
  ·rintro ev w' ⟨rfl,h1,h2,h3⟩
   refine ⟨rfl,h1,⟨_,cap,rfl,hc1,by rw [Z3y,Z69];omega,fun _=>⟨g,rfl,h2⟩⟩,h3.mono (fun k hk => ?_)⟩
   rcases hk with hk | rfl
   ·exact Or.inl hk
   ·exact Or.inr ho
 ·have hz:R.length=0:=by omega
  have e1:s.followN e R R.length=s:=by rw [hz];rfl
  have e2:s.rowN e R R.length=R:=by rw [hz];rfl
  rw [e1,e2,hz]
  refine (Z9v e ao cap w).mono ?_
  rintro ev w' ⟨rfl,rfl⟩
  rw [hz] at B
  exact ⟨rfl,H,B,Aside.refl _ _⟩
end
end Go.Proofs.YtlkcbdinlfeoiaaGreatDoor
