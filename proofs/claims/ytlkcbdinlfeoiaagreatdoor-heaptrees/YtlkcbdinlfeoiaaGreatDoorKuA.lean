/- A tree that grows in a heap, plainly: what the model is behind each step. -/
import Derived.Test.YtlkcbdinlfeoiaaGreatDoorKsA
import Derived.Test.YtlkcbdinlfeoiaaGreatDoorKrC
import Derived.Test.YtlkcbdinlfeoiaaGreatDoorKrA
import Derived.Test.YtlkcbdinlfeoiaaGreatDoorKtA
import Derived.Deep.RegionHeld3
namespace Go.Proofs.YtlkcbdinlfeoiaaGreatDoor
open Go.RowKit
structure Grown (M M':MO) (d:Nat):Prop where
 N:M'.N=M.N++treeT d M.N.length
 rl:M'.R.length=M.R.length
 r:M'.R[d]?=some (tcT d M.N.length)
 up:∀ j,d<j→M'.R[j]?=M.R[j]?
variable {M M1 M2 M3 M4 M5 M6 M7:MO}{d:Nat}
theorem Grown.zero (h:0<M.R.length):Grown M (M.set 0 (clK 0)) 0:=by
 refine ⟨?_,?_,?_,fun j hj => ?_⟩
 ·show M.N=M.N ++ []
  rw [List.append_nil]
 ·show (M.R.set 0 _).length=_
  rw [List.length_set]
 ·show (M.R.set 0 _)[0]?=_
  rw [List.getElem?_set_self h]
  rfl
 ·show (M.R.set 0 _)[j]?=_
  rw [List.getElem?_set_ne (by omega)]
theorem at_mid {α:Type} (l r:List α) (x:α):(l++x::r)[l.length]?=some x:=by rw [List.getElem?_append_right (Nat.le_refl _),Nat.sub_self];rfl
theorem set_mid {α:Type} (l r:List α) (x y:α):(l++x::r).set l.length y=l++y::r:=by rw [List.set_append,if_neg (by omega),Nat.sub_self];rfl
structure Grow1 (M M1:MO) (d:Nat):Prop where
 N:M1.N=M.N ++ [mkN 8 3]
 rl:M1.R.length=M.R.length
 r:M1.R[d+1]?=some ⟨4,0,M.N.length⟩
 up:∀ j,d+1<j→M1.R[j]?=M.R[j]?
theorem Grow1.of (h:d+1<M.R.length):Grow1 M (M.made (d+1) (mkN 8 3)) d:=by
 refine ⟨rfl,?_,?_,fun j hj => ?_⟩
 ·show (M.R.set _ _).length=_
  rw [List.length_set]
 ·show (M.R.set _ _)[d+1]?=_
  rw [List.getElem?_set_self h]
 ·show (M.R.set _ _)[j]?=_
  rw [List.getElem?_set_ne (by omega)]
structure Grow2 (M M3:MO) (d k:Nat) (f:List CL) (t:List ND):Prop where
 N:M3.N=M.N++⟨8,[],f⟩::t
 rl:M3.R.length=M.R.length
 r:M3.R[d+1]?=some ⟨4,0,M.N.length⟩
 up:∀ j,d+1<j→M3.R[j]?=M.R[j]?
theorem Grow1.two (h:Grow1 M M1 d):Grow2 M M1 d 0 (List.replicate 3 cl0) []:=⟨h.N,h.rl,h.r,h.up⟩
theorem Grow2.grown {k:Nat}{f:List CL}{t:List ND} (h:Grow2 M M1 d k f t) (g:Grown M1 M2 d):Grow2 M M2 d k f (t++treeT d (M.N.length+1+t.length))∧M2.R[d]?=some (tcT d (M.N.length+1+t.length)):=by
 have e:M1.N.length=M.N.length+1+t.length:=by rw [h.N,List.length_append,List.length_cons];omega
 refine ⟨⟨?_,g.rl.trans h.rl,(g.up (d+1) (by omega)).trans h.r,fun j hj=>(g.up j (by omega)).trans (h.up j hj)⟩,?_⟩
 ·rw [g.N,e,h.N];simp
 ·rw [g.r,e]
theorem Grow2.put {k:Nat}{f:List CL}{t:List ND} (h:Grow2 M M2 d k f t) (j:Nat) (v:CL):Grow2 M (M2.putN M.N.length ⟨8,[],f⟩ j v) d k (f.set j v) t:=by
 refine ⟨?_,h.rl,h.r,h.up⟩
 show M2.N.set M.N.length ⟨8,[],f.set j v⟩=_
 rw [h.N,set_mid]
theorem Grow2.node {k:Nat}{f:List CL}{t:List ND} (h:Grow2 M M2 d k f t):M2.N[M.N.length]?=some ⟨8,[],f⟩:=by rw [h.N,at_mid]
theorem Grow2.set {k:Nat}{f:List CL}{t:List ND} (h:Grow2 M M2 d k f t) (c:CL):Grow2 M (M2.set d c) d k f t:=by
 refine ⟨h.N,?_,?_,fun j hj => ?_⟩
 ·show (M2.R.set _ _).length=_
  rw [List.length_set];exact h.rl
 ·show (M2.R.set _ _)[d+1]?=_
  rw [List.getElem?_set_ne (by omega)];exact h.r
 ·show (M2.R.set _ _)[j]?=_
  rw [List.getElem?_set_ne (by omega)];exact h.up j hj
theorem Grow2.done (h:Grow2 M M7 d 0 ((((List.replicate 3 cl0).set 0 (tcT d (M.N.length+1))).set 1 (tcT d (M.N.length+1+szT d))).set 2 (clI ((d+1:Nat):Int))) (treeT d (M.N.length+1)++treeT d (M.N.length+1+szT d))):Grown M M7 (d+1):=by
 refine ⟨?_,h.rl,?_,h.up⟩
 ·rw [h.N];rfl
 ·rw [h.r];rfl
def fT (d b:Nat):Nat→List CL
 | 0=>List.replicate 3 cl0
 | 1=>(List.replicate 3 cl0).set 0 (tcT d (b+1))
 | _+2=>((List.replicate 3 cl0).set 0 (tcT d (b+1))).set 1 (tcT d (b+1+szT d))
def tT (d b:Nat):Nat→List ND
 | 0 => []
 | 1=>treeT d (b+1)
 | _+2=>treeT d (b+1)++treeT d (b+1+szT d)
theorem tT_len (d b k:Nat) (hk:k≤2):(tT d b k).length=k*szT d:=by
 rcases (by omega:k=0∨k=1∨k=2) with rfl | rfl | rfl
 ·simp [tT]
 ·simp [tT,treeT_len]
 ·simp [tT,treeT_len];omega
theorem fT_len (d b k:Nat) (hk:k≤2):(fT d b k).length=3:=by
 rcases (by omega:k=0∨k=1∨k=2) with rfl | rfl | rfl
 ·rfl
 ·rfl
 ·rfl
def GrowK (M M':MO) (d k:Nat):Prop:=Grow2 M M' d 0 (fT d M.N.length k) (tT d M.N.length k)
theorem Grow1.k (h:Grow1 M M1 d):GrowK M M1 d 0:=h.two
theorem GrowK.len {k:Nat} (h:GrowK M M1 d k) (hk:k≤2):M1.N.length=M.N.length+1+k*szT d:=by
 rw [h.N,List.length_append,List.length_cons,tT_len _ _ _ hk];omega
theorem GrowK.next {k:Nat} (h:GrowK M M1 d k) (hk:k<2) (g:Grown M1 M2 d):∃ v,M2.R[d]?=some v∧M2.R[d+1]?=some ⟨4,0,M.N.length⟩∧M2.N[M.N.length]?=some ⟨8,[],fT d M.N.length k⟩∧GrowK M (M2.putN M.N.length ⟨8,[],fT d M.N.length k⟩ k v) d (k+1):=by
 obtain ⟨q1,q2⟩:=Grow2.grown h g
 refine ⟨_,q2,q1.r,q1.node,?_⟩
 have p:=q1.put k (tcT d (M.N.length+1+(tT d M.N.length k).length))
 rw [tT_len _ _ _ (by omega)] at p ⊢
 rcases (by omega:k=0∨k=1) with rfl | rfl
 ·rw [Nat.zero_mul,Nat.add_zero] at p ⊢
  exact ⟨p.N,p.rl,p.r,p.up⟩
 ·rw [Nat.one_mul] at p ⊢
  exact ⟨p.N,p.rl,p.r,p.up⟩
theorem GrowK.last (h:GrowK M M1 d 2) (hd:d+1<M.R.length):(M1.set d (clI ((d+1:Nat):Int))).R[d]?=some (clI ((d+1:Nat):Int))∧(M1.set d (clI ((d+1:Nat):Int))).R[d+1]?=some ⟨4,0,M.N.length⟩∧(M1.set d (clI ((d+1:Nat):Int))).N[M.N.length]?=some ⟨8,[],fT d M.N.length 2⟩ ∧
  Grown M ((M1.set d (clI ((d+1:Nat):Int))).putN M.N.length ⟨8,[],fT d M.N.length 2⟩ 2 (clI ((d+1:Nat):Int))) (d+1):=by
 have s:=Grow2.set h (clI ((d+1:Nat):Int))
 refine ⟨?_,s.r,s.node,?_⟩
 ·show (M1.R.set d _)[d]?=_
  rw [List.getElem?_set_self (by rw [h.rl];omega)]
 ·have p:=s.put 2 (clI ((d+1:Nat):Int))
  exact Grow2.done ⟨p.N,p.rl,p.r,p.up⟩
def Four (M:MO):Prop:=∀ x∈M.N,ndW x=4
theorem Four.grown (h:Four M) (g:Grown M M1 d):Four M1:=fun x hx=>by
 rw [g.N] at hx
 rcases List.mem_append.1 hx with q | q
 ·exact h x q
 ·obtain ⟨e,c,rfl,_⟩:=treeT_node _ _ _ q
  rfl
theorem Four.growK {k:Nat} (h:Four M) (hk:k≤2) (g:GrowK M M1 d k):Four M1:=fun x hx=>by
 rw [g.N] at hx
 rcases List.mem_append.1 hx with q | q
 ·exact h x q
 ·rcases List.mem_cons.1 q with rfl | q
  ·show 1+(fT d M.N.length k).length=4
   rw [fT_len _ _ _ hk]
  ·have:x∈treeT d (M.N.length+1)∨x∈treeT d (M.N.length+1+szT d):=by
    rcases (by omega:k=0∨k=1∨k=2) with rfl | rfl | rfl
    ·cases q
    ·exact .inl q
    ·exact List.mem_append.1 q
   rcases this with q | q
   ·obtain ⟨e,c,rfl,_⟩:=treeT_node _ _ _ q;rfl
   ·obtain ⟨e,c,rfl,_⟩:=treeT_node _ _ _ q;rfl
theorem four_total {M:MO} (h:Four M):(M.N.map ndW).sum=4*M.N.length:=by
 have:∀ l:List ND,(∀ d∈l,ndW d=4)→(l.map ndW).sum=4*l.length:=fun l hl=>by
  induction l with
  | nil=>rfl
  | cons x l ih =>
   rw [List.map_cons,List.sum_cons,hl x (by simp),ih (fun d hd=>hl d (by simp [hd])),List.length_cons]
   omega
 exact this M.N h
end Go.Proofs.YtlkcbdinlfeoiaaGreatDoor
namespace Go.Proofs.YtlkcbdinlfeoiaaGreatDoor
open Go.RowKit Go.Maps

variable {a:Nat→Addr}{w0:World}
theorem HM.words4 {m:MD}{sr:Int}{M:MO}{X:MXtra} (hm:HM m sr M X) (F:Four M):M.words≤4*M.N.length:=by
 have h:=hm.few
 have e:M.total=4*M.N.length:=four_total F
 omega
def GrowC (a:Nat→Addr) (w0:World) (d:Nat):Prop:=∀ (h:HP) (sr:Int) (m:MD) (M:MO) (X:MXtra) (w:World),HS a w0 h sr m M X w→d<M.R.length→d≤6→Four M→M.N.length+szT d≤100→m.old=1000 →
  Calls Tryz.prog 36 #[.pointer (some ⟨h.q,0,none⟩),.int .i64 (d:Int),.int .i64 (d:Int)] w fun ev w'=>ev = .returned (.bool true) ∧ ∃ M',Grown M M' d∧Stp a w0 h m M' X w w'
set_option maxHeartbeats 4000000 in
set_option maxRecDepth 100000 in
theorem growT_any (d:Nat):GrowC a w0 d:=by
 induction d with
 | zero =>
  intro h sr m M X w s hr hd hF hN ho
  have kc:=hconst_any s 0 0 (by rw [s.hm.roots];exact hr) (by omega)
  have hG:=toHid (Grown.zero hr)
  clear s hr hd hF hN ho
  go_enter Tryz.func36,Tryz.ntmps36
  go_wp2_with fail
  refine kc.mono ?_
  clear kc
  rintro ev w1 ⟨rfl,hP⟩
  have HP':=toHid hP
  clear hP
  go_wp2_with fail
  go_ret
  exact ⟨rfl,_,hG.out,HP'.out⟩
 | succ d ih =>
  intro h sr m M X w s hr hd hF hN ho
  have hs:szT (d+1)=1+(szT d+szT d):=rfl
  obtain ⟨D,hD⟩:∃ D:Int,D=((d+1:Nat):Int):=⟨_,rfl⟩
  rw [←hD]
  have HD:=toHid hD
  have z0:(D == 0)=false:=by rw [beq_eq_false_iff_ne];omega
  have zw:IntKind.i64.wrap (D - 1)=(d:Int):=by rw [wrapI _ (by omega) (by omega)];omega
  have hm8:M.words≤4*M.N.length:=s.hm.words4 hF
  have km:=hmake_any s (d+1) 3 8 (by rw [s.hm.roots];exact hr) (by omega) (by omega) (by omega)
  rw [←hD] at km
  have hdw:(d:Int)≤5:=by omega
  have hd0:(0:Int)≤(d:Int):=by omega
  have HR:=toHid hr
  have HF:=toHid hF
  have HNN:Hid (M.N.length+(1+(szT d+szT d))≤100):=by show _≤_;omega
  have HO:=toHid ho
  have HQ:Hid (m.old<(M.words:Int)+(1+((3:Nat):Int))→False):=fun hf=>by omega
  have HIH:=toHid ih
  obtain ⟨q,hq⟩:∃ q,q=h.q:=⟨_,rfl⟩
  rw [←hq] at km ⊢
  have HQQ:=toHid hq
  clear s hr hF hN ho hm8 ih hs hq hD hd
  go_enter Tryz.func36,Tryz.ntmps36
  go_wp2_with fail
  refine km.mono ?_
  clear km
  rintro ev w1 (⟨rfl,hP⟩ | ⟨rfl,_,hf⟩)
  rotate_left
  ·exact (HQ.out hf).elim
  obtain ⟨h1,sr1,m1,N1,D1,s1⟩:=hP
  have HK0:Hid (GrowK M (M.made (d+1) (mkN 8 3)) d 0):=(Grow1.of HR.out).k
  have HS1:=toHid s1
  have HN1:Hid (Nxt h h1 w w1∧Dim m m1):=⟨N1,D1⟩
  clear s1 N1 D1 HQ
  go_wp2_with fail
  go_loopg [7] 3 (fun gk v7 wr => ∃ k:Nat,gk=3 - k∧k≤2∧v7 = .int .i64 (k:Int) ∧ ∃ Mk h' sr' m',Hid (GrowK M Mk d k)∧Hid (HS a w0 h' sr' m' Mk X wr)∧Hid (Nxt h h' w wr∧Dim m m'))
  case atStart=>exact ⟨0,rfl,by omega,rfl,_,h1,sr1,m1,HK0,HS1,HN1⟩
  case round =>
   clear HK0 HS1 HN1
   obtain ⟨k,hgk,hk,rfl,Mk,h2,sr2,m2,HK,HS2,HN2⟩:=hrel
   have HG:=toHid hgk
   clear hgk
   have hk0:(0:Int)≤(k:Int):=by omega
   have hq2:Hid (h2.q=q):=by show _=_;rw [HN2.out.1.q,HQQ.out]
   have hrl:Mk.R.length=M.R.length:=HK.out.rl
   by_cases hlt:k<2
   ·have hI:(k:Int)<2:=by omega
    have hln:=HK.out.len hk
    have hks:k*szT d≤szT d:=by rcases (by omega:k=0∨k=1) with rfl | rfl <;> omega
    have kg:=HIH.out _ _ _ _ _ _ HS2.out (by rw [hrl];have:=HR.out;show d<_;have h:d+1<M.R.length:=HR.out;omega) (by omega) (HF.out.growK hk HK.out) (by have:=HNN.out;omega) (by rw [HN2.out.2.old];exact HO.out)
    rw [hq2.out] at kg
    clear hrl hln hks
    go_wp2_with fail
    refine kg.mono ?_
    clear kg
    rintro ev w3 ⟨rfl,M3,hG,h3,sr3,m3,N3,D3,s3⟩
    obtain ⟨v,p3,p1,p2,p4⟩:=HK.out.next hlt hG
    have kp:=hput_any s3 (r:=d+1) (k:=k) (j:=d) (c:=⟨4,0,M.N.length⟩) (v:=v) (d:=⟨8,[],fT d M.N.length k⟩) p1 rfl p2 (by show ¬ (8:Int)<8;decide) (by show k<(fT d M.N.length k).length;rw [fT_len _ _ _ hk];omega) p3
    have hq3:Hid (h3.q=q):=by show _=_;rw [N3.q,hq2.out]
    rw [hq3.out,←HD.out] at kp
    have HK4:Hid (GrowK M (M3.putN M.N.length ⟨8,[],fT d M.N.length k⟩ k v) d (k+1)):=p4
    have HN3:Hid (Nxt h h3 w w3∧Dim m m3):=⟨HN2.out.1.trans N3,HN2.out.2.trans D3⟩
    clear hG N3 D3 s3 p1 p2 p3 p4
    go_wp2_with fail
    refine kp.mono ?_
    clear kp
    rintro ev w4 ⟨rfl,h4,sr4,m4,N4,D4,s4⟩
    have HS4:=toHid s4
    have HN4:Hid (Nxt h h4 w w4∧Dim m m4):=⟨HN3.out.1.trans N4,HN3.out.2.trans D4⟩
    clear N4 D4 s4
    go_wp2_with fail
    go_roundg (3 - (k+1))
    case measure=>have:=HG.out;omega
    case rel=>exact ⟨k+1,rfl,by omega,by go_num,_,h4,sr4,m4,HK4,HS4,HN4⟩
   ·have hI:¬ (k:Int)<2:=by omega
    obtain rfl:k=2:=by omega
    have hr':d+1<M.R.length:=HR.out
    have hDD:=HD.out
    have ki:=hint_ok HS2.out d D (by rw [HS2.out.hm.roots,hrl];omega) (by omega) (by omega)
    clear hDD
    rw [hq2.out] at ki
    obtain ⟨p3,p1,p2,p4⟩:=HK.out.last hr'
    rw [←HD.out] at p1 p2 p3 p4
    have HP:Hid ((Mk.set d (clI D)).R[d]?=some (clI D)∧(Mk.set d (clI D)).R[d+1]?=some ⟨4,0,M.N.length⟩∧(Mk.set d (clI D)).N[M.N.length]?=some ⟨8,[],fT d M.N.length 2⟩∧Grown M ((Mk.set d (clI D)).putN M.N.length ⟨8,[],fT d M.N.length 2⟩ 2 (clI D)) (d+1)):=⟨p3,p1,p2,p4⟩
    clear p1 p2 p3 p4 hrl hr'
    go_wp2_with fail
    refine ki.mono ?_
    clear ki
    rintro ev w3 ⟨rfl,h3,sr3,m3,N3,D3,s3⟩
    have kp:=hput_any s3 (r:=d+1) (k:=2) (j:=d) (c:=⟨4,0,M.N.length⟩) (v:=clI D) (d:=⟨8,[],fT d M.N.length 2⟩) HP.out.2.1 rfl HP.out.2.2.1 (by show ¬ (8:Int)<8;decide) (by show 2<(fT d M.N.length 2).length;rw [fT_len _ _ _ (by omega)];omega) HP.out.1
    have hq3:Hid (h3.q=q):=by show _=_;rw [N3.q,hq2.out]
    rw [hq3.out,←HD.out] at kp
    have HN3:Hid (Nxt h h3 w w3∧Dim m m3):=⟨HN2.out.1.trans N3,HN2.out.2.trans D3⟩
    clear N3 D3 s3
    go_wp2_with fail
    refine kp.mono ?_
    clear kp
    rintro ev w4 ⟨rfl,h4,sr4,m4,N4,D4,s4⟩
    have HE:Hid (∃ M',Grown M M' (d+1)∧Stp a w0 h m M' X w w4):=⟨_,HP.out.2.2.2,h4,sr4,m4,HN3.out.1.trans N4,HN3.out.2.trans D4,s4⟩
    clear N4 D4 s4
    go_wp2_with fail
    go_ret
    exact ⟨rfl,HE.out⟩
end Go.Proofs.YtlkcbdinlfeoiaaGreatDoor
namespace Go.Proofs.YtlkcbdinlfeoiaaGreatDoor
open Go.RowKit

theorem cells9 (w:World):(Instr.makeSlice 70 (.int .i64 3) (.int .i64 3)).run Tryz.prog w = .ok (.slice (some ⟨w.heap.size,0,none⟩) 3 3) (w.alloc (.cells #[.int .i64 0,.int .i64 0,.pointer none,.int .i64 0,.int .i64 0,.pointer none,.int .i64 0,.int .i64 0,.pointer none] 69)):=by
 have h:=make_cellsT 3 (by decide) w
 have e:madeCells #[Value.int .i64 0,.int .i64 0,.pointer none] (3*3) = #[.int .i64 0,.int .i64 0,.pointer none,.int .i64 0,.int .i64 0,.pointer none,.int .i64 0,.int .i64 0,.pointer none]:=(made_rep 3).trans rfl
 rw [e] at h
 exact h
structure TrN (n0 f0:Nat) (cs:Array Value) (w0 w:World):Prop where
 below:Below f0 w0 w
 node:w.heap[n0]?=some (.cells #[.int .i64 8,.slice (some ⟨f0,0,none⟩) 3 3,.int .i64 0,.string ⟨#[]⟩,.int .i64 0] 93)
 flds:w.heap[f0]?=some (.cells cs 69)
 ne:n0≠f0
variable {n0 f0:Nat}{cs:Array Value}{w0 w w':World}
theorem TrN.c1 (h:TrN n0 f0 cs w0 w):w.cell? ⟨n0,1,none⟩=some (.slice (some ⟨f0,0,none⟩) 3 3):=by rw [cell_of_row _ _ _ _ _ _ h.node];rfl
theorem TrN.at (h:TrN n0 f0 cs w0 w) (j:Nat):w.cell? ⟨f0,j,none⟩=cs[j]?:=cell_of_row _ _ _ _ _ _ h.flds
theorem TrN.fz (h:TrN n0 f0 cs w0 w) (j:Nat):w.frozen? ⟨f0,j,none⟩=false:=by simp [World.frozen?,h.flds]
theorem TrN.keep (h:TrN n0 f0 cs w0 w) (hb:Below w.heap.size w w'):TrN n0 f0 cs w0 w':=⟨h.below.trans (hb.mono (Nat.le_of_lt (lt_of_heap h.flds))),(hb.block _ (lt_of_heap h.node)).trans h.node,(hb.block _ (lt_of_heap h.flds)).trans h.flds,h.ne⟩
theorem TrN.set (h:TrN n0 f0 cs w0 w) (j:Nat) (v:Value):TrN n0 f0 (cs.setIfInBounds j v) w0 (w.setCell ⟨f0,j,none⟩ v):=⟨h.below.setCell (Nat.le_refl _) _,(heap_set _ _ _ _ _ h.ne).trans h.node,heap_set_same h.flds,h.ne⟩
theorem TrN.size (w:World) (f0 j:Nat) (v:Value):(w.setCell ⟨f0,j,none⟩ v).heap.size=w.heap.size:=by simp [World.setCell]
theorem TrAt.set {ν φ:Nat→Nat}{d b lo hi:Nat} (h:TrAt ν φ d b lo hi w) (hl:f0<lo) (j:Nat) (v:Value):TrAt ν φ d b lo hi (w.setCell ⟨f0,j,none⟩ v):=h.keep (fun k h1 _=>heap_set _ _ _ _ _ (by omega))
theorem TrN.three (h:TrN n0 f0 cs w0 w) (i j k:Nat) (u v x:Value):TrN n0 f0 (((cs.setIfInBounds i u).setIfInBounds j v).setIfInBounds k x) w0 (((w.setCell ⟨f0,i,none⟩ u).setCell ⟨f0,j,none⟩ v).setCell ⟨f0,k,none⟩ x):=((h.set i u).set j v).set k x
theorem TrN.first {ν φ:Nat→Nat}{d b lo:Nat} (t:TrAt ν φ d b lo w.heap.size w) (N:TrN n0 f0 cs w0 w) (hl:f0<lo) (i j k:Nat) (u v x:Value) (W:World) (hW:W=((w.setCell ⟨f0,i,none⟩ u).setCell ⟨f0,j,none⟩ v).setCell ⟨f0,k,none⟩ x) :
  TrAt ν φ d b lo W.heap.size W∧TrN n0 f0 (((cs.setIfInBounds i u).setIfInBounds j v).setIfInBounds k x) w0 W∧W.heap.size=w.heap.size:=by
 have hs:W.heap.size=w.heap.size:=by rw [hW,TrN.size,TrN.size,TrN.size]
 refine ⟨?_,by rw [hW];exact N.three i j k u v x,hs⟩
 rw [hs,hW]
 exact ((t.set hl i u).set hl j v).set hl k x
def TreePost (d b:Nat) (w:World) (ev:Ending) (w':World):Prop:=∃ ν φ:Nat→Nat,ev = .returned (.pointer (some ⟨ν b,0,none⟩))∧TrAt ν φ d b w.heap.size w'.heap.size w'∧Below w.heap.size w w'
def TreeC (d:Nat):Prop:=∀ (b:Nat) (w:World),Calls Tryz.prog 37 #[.int .i64 ((d+1:Nat):Int)] w (TreePost (d+1) b w)
theorem trn_new (w:World):TrN (w.heap.size+1) w.heap.size #[.int .i64 0,.int .i64 0,.pointer none,.int .i64 0,.int .i64 0,.pointer none,.int .i64 0,.int .i64 0,.pointer none] w ((w.alloc (.cells #[.int .i64 0,.int .i64 0,.pointer none,.int .i64 0,.int .i64 0,.pointer none,.int .i64 0,.int .i64 0,.pointer none] 69)).alloc (.cells #[.int .i64 8,.slice (some ⟨w.heap.size,0,none⟩) 3 3,.int .i64 0,.string ⟨#[]⟩,.int .i64 0] 93)):=by
 obtain ⟨n1,n2⟩:=two_new w (.cells #[.int .i64 0,.int .i64 0,.pointer none,.int .i64 0,.int .i64 0,.pointer none,.int .i64 0,.int .i64 0,.pointer none] 69) (.cells #[.int .i64 8,.slice (some ⟨w.heap.size,0,none⟩) 3 3,.int .i64 0,.string ⟨#[]⟩,.int .i64 0] 93)
 exact ⟨((Below.refl _ _).alloc (Nat.le_refl _) _).alloc (by simp) _,n2,n1,by omega⟩
set_option maxHeartbeats 4000000 in
set_option maxRecDepth 100000 in
theorem treeOf_any (d:Nat):d≤5→TreeC d:=by
 induction d with
 | zero =>
  intro _ b w
  have hm:=cells9
  obtain ⟨D,hD⟩:∃ D:Int,D=((0+1:Nat):Int):=⟨_,rfl⟩
  rw [←hD]
  have HD:=toHid hD
  have z1:¬ 1<D:=by omega
  obtain ⟨w1,hw1⟩:∃ w1,w1=(w.alloc (.cells #[.int .i64 0,.int .i64 0,.pointer none,.int .i64 0,.int .i64 0,.pointer none,.int .i64 0,.int .i64 0,.pointer none] 69)).alloc (.cells #[.int .i64 8,.slice (some ⟨w.heap.size,0,none⟩) 3 3,.int .i64 0,.string ⟨#[]⟩,.int .i64 0] 93):=⟨_,rfl⟩
  have T1:=trn_new w
  rw [←hw1] at T1
  have HT:=toHid T1
  have HW:Hid (w1.heap.size=w.heap.size+2):=by show _=_;rw [hw1];simp
  have c1:=T1.c1
  have f6:w1.cell? ⟨w.heap.size,6,none⟩=some (.int .i64 0):=(T1.at 6).trans rfl
  have f7:w1.cell? ⟨w.heap.size,7,none⟩=some (.int .i64 0):=(T1.at 7).trans rfl
  have f8:w1.cell? ⟨w.heap.size,8,none⟩=some (.pointer none):=(T1.at 8).trans rfl
  have z6:=T1.fz 6
  have z7:=T1.fz 7
  have z8:=T1.fz 8
  have HE:Hid (∀ W:World,W=((w1.setCell ⟨w.heap.size,6,none⟩ (.int .i64 3)).setCell ⟨w.heap.size,7,none⟩ (.int .i64 D)).setCell ⟨w.heap.size,8,none⟩ (.pointer none)→TreePost (0+1) b w (.returned (.pointer (some ⟨w.heap.size+1,0,none⟩))) W):=fun W hW=>by
   have T2:=HT.out.three 6 7 8 (.int .i64 3) (.int .i64 D) (.pointer none)
   rw [←hW] at T2
   have hs:W.heap.size=w.heap.size+2:=by rw [hW,TrN.size,TrN.size,TrN.size];exact HW.out
   refine ⟨joinT b (szT 0) (w.heap.size+1) (fun _=>0) (fun _=>0),joinT b (szT 0) w.heap.size (fun _=>0) (fun _=>0),by rw [joinT_root],?_,T2.below⟩
   refine TrAt.join (lo:=w.heap.size+2) (mi:=w.heap.size+2) (TrAt.empty _ _ _ _ _ _) (TrAt.empty _ _ _ _ _ _) ⟨by omega,by omega⟩ (by omega) (by omega) (by omega) (by omega) T2.node ?_
   rw [T2.flds,HD.out]
   rfl
  clear hD T1
  go_enter Tryz.func37,Tryz.ntmps37
  go_upto_region 5 with fail
  rw [←hw1]
  clear hw1 hm
  go_wp2_with fail
  go_ret
  exact HE.out _ rfl
 | succ d ih => 
  intro hd b w
  have hm:=cells9
  have HI:=toHid (ih (by omega))
  obtain ⟨D,hD⟩:∃ D:Int,D=((d+1+1:Nat):Int):=⟨_,rfl⟩
  rw [←hD]
  have HD:=toHid hD
  have z1:1<D:=by omega
  have zw:IntKind.i64.wrap (D - 1)=((d+1:Nat):Int):=by rw [wrapI _ (by omega) (by omega)];omega
  obtain ⟨E,hE⟩:∃ E:Int,E=((d+1:Nat):Int):=⟨_,rfl⟩
  rw [←hE] at zw
  obtain ⟨w1,hw1⟩:∃ w1,w1=(w.alloc (.cells #[.int .i64 0,.int .i64 0,.pointer none,.int .i64 0,.int .i64 0,.pointer none,.int .i64 0,.int .i64 0,.pointer none] 69)).alloc (.cells #[.int .i64 8,.slice (some ⟨w.heap.size,0,none⟩) 3 3,.int .i64 0,.string ⟨#[]⟩,.int .i64 0] 93):=⟨_,rfl⟩
  have T1:=trn_new w
  rw [←hw1] at T1
  have HT:=toHid T1
  have HW:Hid (w1.heap.size=w.heap.size+2):=by show _=_;rw [hw1];simp
  have KC:Hid (∀ (b:Nat) (W0 W:World),Below W0.heap.size W0 W→W.heap.size=W0.heap.size→Calls Tryz.prog 37 #[.int .i64 E] W fun ev w' => ∃ ν φ:Nat→Nat,ev = .returned (.pointer (some ⟨ν b,0,none⟩))∧Hid (TrAt ν φ (d+1) b W0.heap.size w'.heap.size w')∧Hid (Below W0.heap.size W0 w')):=fun b W0 W hW hs=>by
   rw [hE]
   refine (HI.out b W).mono ?_
   rintro ev w' ⟨ν,φ,e,t,hb⟩
   exact ⟨ν,φ,e,by rw [←hs];exact t,hW.trans (hb.mono hW.size)⟩
  have c1:=T1.c1
  clear hD hE HI ih hd
  go_enter Tryz.func37,Tryz.ntmps37
  go_upto_region 3 with fail
  rw [←hw1]
  clear hw1 hm
  go_cut [] from 9 to 18 (fun wx => ∃ ν1 φ1:Nat→Nat,Hid (TrAt ν1 φ1 (d+1) (b+1) w1.heap.size wx.heap.size wx)∧Hid (TrN (w.heap.size+1) w.heap.size #[.int .i64 4,.int .i64 0,.pointer (some ⟨ν1 (b+1),0,none⟩),.int .i64 0,.int .i64 0,.pointer none,.int .i64 0,.int .i64 0,.pointer none] w wx)∧Hid (w1.heap.size≤wx.heap.size))
  case first =>
   go_region_held3 (fun W=>W.cell? ⟨w.heap.size+1,1,none⟩=some (.slice (some ⟨w.heap.size,0,none⟩) 3 3)) (first | with_reducible exact c1 | with_reducible exact c3 | with_reducible exact (HT.out.keep (Below.refl _ _).drew).c1 | with_reducible exact (N3.keep (Below.refl _ _).drew).c1 | exact (N3.three 0 1 2 _ _ _).c1) (first
    | (go_at_call 37;refine (KC.out (b+1) w1 _ (by first | exact Below.refl _ _ | exact (Below.refl _ _).drew) (by rfl)).mono ?_;rintro ev w3 ⟨ν1,φ1,rfl,t3,b3⟩;have N3:=HT.out.keep b3.out;have c3:=N3.c1;have g0:w3.cell? ⟨w.heap.size,0,none⟩=some (.int .i64 0):=(N3.at 0).trans rfl;have g1:w3.cell? ⟨w.heap.size,1,none⟩=some (.int .i64 0):=(N3.at 1).trans rfl;have g2:w3.cell? ⟨w.heap.size,2,none⟩=some (.pointer none):=(N3.at 2).trans rfl;have y0:=N3.fz 0;have y1:=N3.fz 1;have y2:=N3.fz 2))
   all_goals (
    go_wp2_with fail
    go_meet
    obtain ⟨q1,q2,q3⟩:=TrN.first t3.out N3 (by have:=HW.out;omega) 0 1 2 (.int .i64 4) (.int .i64 0) (.pointer (some ⟨ν1 (b+1),0,none⟩)) _ rfl
    exact ⟨ν1,φ1,q1,q2,by show _≤_;rw [q3];exact b3.out.size⟩)
  case rest =>
   obtain ⟨ν1,φ1,HT1,HN1,HS1⟩:=hcut
   obtain ⟨w4,hw4⟩:∃ w4,w4=wc:=⟨_,rfl⟩
   subst hw4
   have c4:=HN1.out.c1
   clear c1
   go_upto_region 4 with fail
   go_region_held3 (fun W=>W.cell? ⟨w.heap.size+1,1,none⟩=some (.slice (some ⟨w.heap.size,0,none⟩) 3 3)) (first | with_reducible exact c4 | with_reducible exact c5 | with_reducible exact (HN1.out.keep (Below.refl _ _).drew).c1 | with_reducible exact (N5.keep (Below.refl _ _).drew).c1 | exact (N5.three 3 4 5 _ _ _).c1) (first
    | (go_at_call 37;refine (KC.out (b+1+szT (d+1)) w4 _ (by first | exact Below.refl _ _ | exact (Below.refl _ _).drew) (by rfl)).mono ?_;rintro ev w5 ⟨ν2,φ2,rfl,t5,b5⟩;have N5:=HN1.out.keep b5.out;have c5:=N5.c1;have g3:w5.cell? ⟨w.heap.size,3,none⟩=some (.int .i64 0):=(N5.at 3).trans rfl;have g4:w5.cell? ⟨w.heap.size,4,none⟩=some (.int .i64 0):=(N5.at 4).trans rfl;have g5:w5.cell? ⟨w.heap.size,5,none⟩=some (.pointer none):=(N5.at 5).trans rfl;have y3:=N5.fz 3;have y4:=N5.fz 4;have y5:=N5.fz 5))
   all_goals (
    have ht1:TrAt ν1 φ1 (d+1) (b+1) w1.heap.size w4.heap.size w5:=HT1.out.keep (fun k _ h2=>b5.out.block k h2)
    obtain ⟨w6,hw6⟩:∃ w6,w6=((w5.setCell ⟨w.heap.size,3,none⟩ (.int .i64 4)).setCell ⟨w.heap.size,4,none⟩ (.int .i64 0)).setCell ⟨w.heap.size,5,none⟩ (.pointer (some ⟨ν2 (b+1+szT (d+1)),0,none⟩)):=⟨_,rfl⟩
    obtain ⟨q1,q2,q3⟩:=TrN.first t5.out N5 (by have:=HW.out;have:=HS1.out;omega) 3 4 5 (.int .i64 4) (.int .i64 0) (.pointer (some ⟨ν2 (b+1+szT (d+1)),0,none⟩)) w6 hw6
    have p1:TrAt ν1 φ1 (d+1) (b+1) w1.heap.size w4.heap.size w6:=by
     have hl:w.heap.size<w1.heap.size:=by have:=HW.out;omega
     rw [hw6];exact ((ht1.set hl 3 _).set hl 4 _).set hl 5 _
    have e1:=q2.c1
    have e6:w6.cell? ⟨w.heap.size,6,none⟩=some (.int .i64 0):=(q2.at 6).trans rfl
    have e7:w6.cell? ⟨w.heap.size,7,none⟩=some (.int .i64 0):=(q2.at 7).trans rfl
    have e8:w6.cell? ⟨w.heap.size,8,none⟩=some (.pointer none):=(q2.at 8).trans rfl
    have z6:=q2.fz 6
    have z7:=q2.fz 7
    have z8:=q2.fz 8
    have hb56:w4.heap.size≤w5.heap.size:=b5.out.size
    have HE:Hid (∀ W:World,W=((w6.setCell ⟨w.heap.size,6,none⟩ (.int .i64 3)).setCell ⟨w.heap.size,7,none⟩ (.int .i64 D)).setCell ⟨w.heap.size,8,none⟩ (.pointer none)→TreePost (d+1+1) b w (.returned (.pointer (some ⟨w.heap.size+1,0,none⟩))) W):=fun W hW=>by
     have hl:w.heap.size<w1.heap.size:=by have:=HW.out;omega
     have hl4:w.heap.size<w4.heap.size:=by have:=HS1.out;omega
     obtain ⟨r1,r2,r3⟩:=TrN.first q1 q2 hl4 6 7 8 (.int .i64 3) (.int .i64 D) (.pointer none) W hW
     have p2:TrAt ν1 φ1 (d+1) (b+1) w1.heap.size w4.heap.size W:=by rw [hW];exact ((p1.set hl 6 _).set hl 7 _).set hl 8 _
     refine ⟨joinT b (szT (d+1)) (w.heap.size+1) ν1 ν2,joinT b (szT (d+1)) w.heap.size φ1 φ2,by rw [joinT_root],?_,r2.below⟩
     refine TrAt.join (lo:=w1.heap.size) (mi:=w4.heap.size) p2 r1 ⟨by omega,by omega⟩ (by have:=HW.out;omega) hl HS1.out (by rw [r3,q3];exact hb56) r2.node ?_
     have hsz:=szT_pos (e:=d+1) (by omega)
     have j1:joinT b (szT (d+1)) (w.heap.size+1) ν1 ν2 (b+1)=ν1 (b+1):=joinT_l (by omega) (by omega)
     have j2:joinT b (szT (d+1)) (w.heap.size+1) ν1 ν2 (b+1+szT (d+1))=ν2 (b+1+szT (d+1)):=joinT_r (by omega)
     rw [r2.flds,HD.out,←j1,←j2]
     rfl
    clear t5 b5 N5 c5 g3 g4 g5 y3 y4 y5 ht1 q1 q2 q3 p1 c4 hb56
    rw [←hw6]
    clear hw6
    go_wp2_with fail
    go_ret
    exact HE.out _ rfl)
end Go.Proofs.YtlkcbdinlfeoiaaGreatDoor
namespace Go.Proofs.YtlkcbdinlfeoiaaGreatDoor
open Go.RowKit

theorem cellB_szH (out:List Nat) (ho:out.length≤300000) {c:CL} (hk:CLok c):(cellB out c).size≤22:=by
 have hr:=objI_range out (c.ref:Int)
 unfold cellB
 split
 ·split
  ·decide
  ·rw [ByteArray.size_append]
   have:=decB_size (objI out (c.ref:Int)) (by omega) (by omega)
   show 1+_≤22
   omega
 ·split
  ·rename_i h3
   have h1:=hk.lo h3
   have h2:=hk.hi h3
   have:=decB_size c.n (by omega) (by omega)
   omega
  ·unfold constB
   split
   ·decide
   ·split <;> decide
theorem text_few (T:Int→List Int→ByteArray) {M:MO} (W:MWf M) (F t:Nat) (hF:∀ d∈M.N,d.f.length≤F) (hk:∀ d∈M.N,0≤d.kind∧d.kind≤255) (hT:∀ d∈M.N,d.kind<8→(T d.kind d.raw).size≤t):(M.text T).size≤28*M.R.length+M.N.length*(50+t+23*F):=by
 have ha:=W.all.len
 have hn:=W.nfew
 have h1:=flat_lenH (mRootL M.all) 28 M.R (fun c hc=>by
  have:=cellB_szH M.all (by omega) (W.roots c hc).1
  unfold mRootL
  rw [List.length_append,List.length_append,lsB_size,lsB_size]
  show 5+_+1≤28
  omega)
 have h2:=flat_lenH (mObjL T M M.all) (50+t+23*F) (List.range M.all.length) (fun i hi=>by
  have hi:=List.mem_range.1 hi
  unfold mObjL
  split
  ·rename_i d hd
   have hdm:=List.mem_of_getElem? hd
   have q1:=decB_size (i:Int) (by omega) (by omega)
   have q2:=decB_size d.kind (by have:=hk d hdm;omega) (by have:=hk d hdm;omega)
   have q3:=flat_lenH (mFldL M.all) 23 d.f (fun c hc=>by
    have:=cellB_szH M.all (by omega) (W.flds d hdm c hc).1
    unfold mFldL
    rw [List.length_append,lsB_size]
    show 1+_≤23
    omega)
   have q4:=hF d hdm
   have q5:(if d.kind<8 then lsB (T d.kind d.raw) else []).length≤t:=by
    split
    ·rename_i h8;exact hT d hdm h8
    ·simp
   unfold mHeadL
   rw [List.length_append,List.length_append,List.length_append,List.length_append,List.length_append,lsB_size,lsB_size]
   simp only [List.length_cons,List.length_nil]
   omega
  ·simp)
 rw [List.length_range] at h2
 have h3:(50+t+23*F)*M.all.length≤M.N.length*(50+t+23*F):=by rw [Nat.mul_comm];exact Nat.mul_le_mul_right _ ha
 have h:=congrArg List.length (text_lt (T:=T) W)
 rw [lsB_size,List.length_append] at h
 unfold mObjLs at h
 omega
def docT (D:Nat):MO:=⟨[⟨4,0,0⟩],treeT D 0⟩
def endT (D:Nat):MO:=⟨⟨4,0,0⟩::List.replicate (D+1) ⟨0,0,0⟩,treeT D 0⟩
theorem end_all (D:Nat):(endT D).all=(docT D).all:=all_more _ _ _ (fun x hx=>by rw [(List.mem_replicate.1 hx).2];decide)
theorem doc_first (D:Nat):∃ r,(docT D).all=0::r:=by
 obtain ⟨r,hr⟩:=reachM_pre (docT D) ((docT D).N.length+1) (meetsM [] (docT D).R) 0
 exact ⟨r,hr⟩
theorem doc_root (D:Nat):mRootL (docT D).all ⟨4,0,0⟩=atL:=by
 obtain ⟨r,hr⟩:=doc_first D
 have h0:objI (docT D).all ((0:Nat):Int)=((0:Nat):Int):=by
  rw [hr]
  exact objI_at (f:=0) rfl rfl (fun i g hi=>by omega)
 have hc:cellB (docT D).all ⟨4,0,0⟩=⟨#[64]⟩++decB 0:=by
  show (if (4:Nat)=4 then (if objI (docT D).all ((0:Nat):Int)<0 then _ else _++decB (objI (docT D).all ((0:Nat):Int))) else _)=_
  rw [if_pos rfl,h0,if_neg (by decide)]
  rfl
 have hd:lsB (decB 0) = [48]:=by
  show Lib.itoa 0 = [48]
  unfold Lib.itoa Lib.decDigits
  decide
 unfold mRootL
 rw [hc,lsB_app,hd]
 rfl
theorem doc_wf (D:Nat) (hD:1≤D) (h6:D≤6):MWf (docT D) where
 roots c hc:=by
  have hc:c ∈ [(⟨4,0,0⟩:CL)]:=hc
  rw [List.mem_singleton.1 hc]
  refine ⟨⟨Nat.le_refl 4,fun h=>absurd (show (4:Nat)=3 from h) (by decide),fun h=>absurd (show (4:Nat)=3 from h) (by decide)⟩,fun _ => ?_⟩
  show 0<(treeT D 0).length
  rw [treeT_len]
  exact szT_pos (by omega)
 flds d hd c hc:=by
  have hd:d∈treeT D 0:=hd
  refine ⟨?_,fun h4 => ?_⟩
  ·obtain ⟨e,b,rfl,he,_,_⟩:=treeT_node D 0 d hd
   have hc:c ∈ [tcT e (b+1),tcT e (b+1+szT e),(⟨3,((e+1:Nat):Int),0⟩:CL)]:=hc
   simp only [List.mem_cons,List.not_mem_nil,or_false] at hc
   rcases hc with rfl | rfl | rfl
   ·exact tcT_ok _ _
   ·exact tcT_ok _ _
   ·exact ⟨by show 3≤4;omega,fun _=>by show _≤((e+1:Nat):Int);omega,fun _=>by show ((e+1:Nat):Int)<_;omega⟩
  ·have:=(tree_refs hd c hc h4).2
   show c.ref<(treeT D 0).length
   rw [treeT_len];omega
 raw d hd h:=by
  obtain ⟨e,b,rfl,_⟩:=treeT_node D 0 d hd
  exact absurd h (by show ¬ (8:Int)<8;decide)
 rfew:=by show 1≤5000;omega
 nfew:=by
  show (treeT D 0).length≤5000
  rw [treeT_len]
  have:=szT_le D h6
  omega
 ffew d hd:=by
  obtain ⟨e,b,rfl,_⟩:=treeT_node D 0 d hd
  show 3≤5000
  omega
theorem doc_kind {D:Nat}{d:ND} (hd:d∈treeT D 0):d.kind=8∧d.f.length=3:=by
 obtain ⟨e,b,rfl,_⟩:=treeT_node D 0 d hd
 exact ⟨rfl,rfl⟩
theorem doc_few (T:Int→List Int→ByteArray) (D:Nat) (hD:1≤D) (h6:D≤6):((docT D).text T).size≤10000:=by
 have h:=text_few T (doc_wf D hD h6) 3 0 (fun d hd=>by rw [(doc_kind hd).2];omega) (fun d hd=>by rw [(doc_kind hd).1];omega) (fun d hd h8=>by rw [(doc_kind hd).1] at h8;omega)
 have h1:(docT D).N.length=szT D:=treeT_len D 0
 have h2:=szT_le D h6
 have h3:(docT D).R.length=1:=rfl
 rw [h1,h3] at h
 omega
def docO (T:Int→List Int→ByteArray) (D:Nat):List UInt8:=mObjLs T (docT D) (docT D).all (docT D).all.length
theorem doc_text (T:Int→List Int→ByteArray) (D:Nat) (hD:1≤D) (h6:D≤6):lsB ((docT D).text T)=atL++docO T D:=by
 rw [text_lt (doc_wf D hD h6)]
 show ([(⟨4,0,0⟩:CL)].map (mRootL (docT D).all)).flatten++_=_
 rw [List.map_cons,doc_root]
 simp [docO]
theorem end_text (T:Int→List Int→ByteArray) (D:Nat) (hout:∀ i∈(endT D).all,i<(endT D).N.length):lsB ((endT D).text T)=atL++((List.replicate (D+1) noneL).flatten++docO T D):=by
 rw [text_ls T (fun d hd h=>by rw [(doc_kind (D:=D) hd).1] at h;omega) hout,end_all]
 show ((⟨4,0,0⟩::List.replicate (D+1) (⟨0,0,0⟩:CL)).map (mRootL (docT D).all)).flatten++_=_
 rw [List.map_cons,doc_root,List.map_replicate,noneL_root,List.flatten_cons,List.append_assoc]
 rfl
theorem want_next (O:List UInt8) (r:Nat) {A B:ByteArray} (hA:lsB A=atL++((List.replicate r noneL).flatten++O)) (hB:lsB B=(atL++noneL)++(lsB A).drop 8):lsB B=atL++((List.replicate (r+1) noneL).flatten++O):=by
 have hd:(lsB A).drop 8=(List.replicate r noneL).flatten++O:=by
  rw [hA,List.drop_append_of_le_length (by show 8≤8;omega)]
  rfl
 rw [hB,hd,List.replicate_succ,List.flatten_cons,List.append_assoc,List.append_assoc]
end Go.Proofs.YtlkcbdinlfeoiaaGreatDoor
namespace Go.Proofs.YtlkcbdinlfeoiaaGreatDoor
open Go.RowKit

variable {g:GP}{w w':World}
def GP.tree (g:GP) (ν φ:Nat→Nat):GP:={ g with ν:=ν,φ:=φ,fa:=fun i=>some ⟨φ i,0,none⟩,xn:=fun _=>0,xs:=fun _=>⟨#[]⟩ }
theorem tree_gat {ν φ:Nat→Nat}{D:Nat}{w5 w6 W:World} (G:GAt g (MO.new 1) MXtra.new w5) (T:TrAt ν φ D 0 w5.heap.size w6.heap.size w6) (hb:Below w5.heap.size w5 w6)
  (hW:W=((w6.setCell ⟨g.b,0,none⟩ (.int .i64 4)).setCell ⟨g.b,1,none⟩ (.int .i64 0)).setCell ⟨g.b,2,none⟩ (.pointer (some ⟨ν 0,0,none⟩))):GAt (g.tree ν φ) (docT D) MXtra.new W:=by
 have G6:=G.below hb
 have tb:=gty_b G6
 have tb5:=(gty_b G).lt
 have hfar:∀ k,k≠g.b→W.heap[k]?=w6.heap[k]?:=fun k hk=>by
  rw [hW,heap_set _ _ _ _ _ hk,heap_set _ _ _ _ _ hk,heap_set _ _ _ _ _ hk]
 have hroot:W.heap[g.b]?=some (.cells #[.int .i64 4,.int .i64 0,.pointer (some ⟨ν 0,0,none⟩)] 69):=by
  have h:=heap_set_same (o:=2) (v:=.pointer (some ⟨ν 0,0,none⟩)) (heap_set_same (o:=1) (v:=.int .i64 0) (heap_set_same (o:=0) (v:=.int .i64 4) G6.roots))
  rw [hW]
  exact h
 have hlen:∀ i d,(treeT D 0)[i]?=some d→i<szT D∧d.kind=8∧d.f.length=3:=fun i d hd=>by
  have h:=(List.getElem?_eq_some_iff.1 hd).1
  rw [treeT_len] at h
  exact ⟨h,doc_kind (List.mem_of_getElem? hd)⟩
 have hne:∀ i,i<szT D→ν i≠g.b∧φ i≠g.b:=fun i hi=>by
  have r:=T.rng i hi
  rw [Nat.zero_add] at r
  omega
 refine ⟨(hfar _ ((gty_q G6).ne tb (by decide))).trans G6.model,hroot,fun i d hd => ?_,fun i j hi hj e => ?_,fun i j d e h1 h2 _ _ e' => ?_,fun i d hd _ => ?_,?_⟩
 ·obtain ⟨h1,h2,h3⟩:=hlen i d hd
  obtain ⟨n1,n2⟩:=T.node i d hd
  rw [Nat.zero_add] at n1 n2
  refine ⟨?_,fun _=>⟨rfl,(hfar _ (hne i h1).2).trans n2⟩⟩
  rw [h2,h3]
  exact (hfar _ (hne i h1).1).trans n1
 ·have hi:i<(treeT D 0).length:=hi
  have hj:j<(treeT D 0).length:=hj
  rw [treeT_len] at hi hj
  exact T.inj i j hi hj (.inl (by rw [Nat.zero_add,Nat.zero_add];exact e))
 ·exact T.inj i j (hlen i d h1).1 (hlen j e h2).1 (.inr (by rw [Nat.zero_add,Nat.zero_add];exact e'))
 ·exact (hne i (hlen i d hd).1).2
 ·have h:W.ownsRow 0 66 1 g.wv 0 []:=ownsRow_far' G6.weak (fun k hk=>hfar k ((own_ty G6.weak hk).ne tb (by decide)))
  exact h
theorem tree_below {ν:Nat→Nat}{w4 w5 w6 W:World} (h45:Below w4.heap.size w4 w5) (hb:Below w5.heap.size w5 w6) (hg:w4.heap.size≤g.b)
  (hW:W=((w6.setCell ⟨g.b,0,none⟩ (.int .i64 4)).setCell ⟨g.b,1,none⟩ (.int .i64 0)).setCell ⟨g.b,2,none⟩ (.pointer (some ⟨ν 0,0,none⟩))):Below w4.heap.size w4 W:=by
 rw [hW]
 exact (((h45.trans (hb.mono h45.size)).setCell hg _).setCell hg _).setCell hg _
structure Clr (M:MO) (D r:Nat):Prop where
 N:M.N=treeT D 0
 rl:M.R.length=D+2
 at':M.R[D]?=some ⟨4,0,0⟩
 low:∀ j,j<r→j≠D→M.R[j]?=some ⟨0,0,0⟩
variable {M:MO}{D r:Nat}
theorem Clr.begin (hD:1≤D) {M1:MO} (G:Grown (MO.new (D+2)) M1 D):Clr M1 D 0 where
 N:=by rw [G.N];rfl
 rl:=by rw [G.rl];show (List.replicate (D+2) _).length=_;rw [List.length_replicate]
 at':=by
  rw [G.r]
  show some (tcT D 0)=_
  unfold tcT
  rw [if_neg (by omega)]
 low j hj:=by omega
theorem Clr.skip (C:Clr M D r) (e:r=D):Clr M D (r+1):=⟨C.N,C.rl,C.at',fun j hj hn=>C.low j (by omega) hn⟩
theorem Clr.next (C:Clr M D r) (hr:r<D+2) (e:r≠D):Clr (M.set r (clK 0)) D (r+1) where
 N:=C.N
 rl:=by show (M.R.set _ _).length=_;rw [List.length_set];exact C.rl
 at':=by show (M.R.set _ _)[D]?=_;rw [List.getElem?_set_ne e];exact C.at'
 low j hj hn:=by
  show (M.R.set _ _)[j]?=_
  by_cases h:r=j
  ·subst h;rw [List.getElem?_set_self (by rw [C.rl];exact hr)];rfl
  ·rw [List.getElem?_set_ne h];exact C.low j (by omega) hn
theorem Clr.done (C:Clr M D (D+2)) (hD:1≤D):(M.set 0 ⟨4,0,0⟩).set D (clK 0)=endT D:=by
 have hR:((M.set 0 ⟨4,0,0⟩).set D (clK 0)).R=(endT D).R:=by
  show (M.R.set 0 ⟨4,0,0⟩).set D (clK 0)=⟨4,0,0⟩::List.replicate (D+1) ⟨0,0,0⟩
  apply List.ext_getElem?
  intro j
  have hl:=C.rl
  by_cases hj:j<D+2
  ·by_cases h0:j=0
   ·subst h0
    rw [List.getElem?_set_ne (by omega),List.getElem?_set_self (by omega)]
    rfl
   ·obtain ⟨i,rfl⟩:∃ i,j=i+1:=⟨j - 1,by omega⟩
    rw [List.getElem?_cons_succ,List.getElem?_replicate,if_pos (by omega)]
    by_cases hd:D=i+1
    ·rw [hd,List.getElem?_set_self (by rw [List.length_set];omega)];rfl
    ·rw [List.getElem?_set_ne hd,List.getElem?_set_ne (by omega)]
     exact C.low (i+1) (by omega) (fun e=>hd e.symm)
  ·rw [List.getElem?_eq_none (by rw [List.length_set,List.length_set];omega),List.getElem?_eq_none (by simp;omega)]
 have hN:((M.set 0 ⟨4,0,0⟩).set D (clK 0)).N=(endT D).N:=C.N
 revert hR hN
 generalize (M.set 0 ⟨4,0,0⟩).set D (clK 0)=A
 intro hR hN
 cases A with
 | mk R N=>exact congr (congrArg MO.mk (show R=(endT D).R from hR)) (show N=(endT D).N from hN)
end Go.Proofs.YtlkcbdinlfeoiaaGreatDoor
namespace Go.Proofs.YtlkcbdinlfeoiaaGreatDoor
open Go.RowKit Go.Maps

set_option maxHeartbeats 4000000 in
set_option maxRecDepth 100000 in
theorem heapTrees_skip (deep half card tn:Int) (w:World) (kh:Calls Tryz.prog 9 #[] w fun ev w'=>ev = .returned (.bool true)∧Below w.heap.size w w')
  (hc:deep<1∨(¬ deep<1∧6<deep)∨(¬ deep<1 ∧ ¬ 6<deep∧half<1)∨(¬ deep<1 ∧ ¬ 6<deep ∧ ¬ half<1∧300<half)∨(¬ deep<1 ∧ ¬ 6<deep ∧ ¬ half<1 ∧ ¬ 300<half∧card<1)∨(¬ deep<1 ∧ ¬ 6<deep ∧ ¬ half<1 ∧ ¬ 300<half ∧ ¬ card<1∧64<card)∨(¬ deep<1 ∧ ¬ 6<deep ∧ ¬ half<1 ∧ ¬ 300<half ∧ ¬ card<1 ∧ ¬ 64<card∧tn<0)∨(¬ deep<1 ∧ ¬ 6<deep ∧ ¬ half<1 ∧ ¬ 300<half ∧ ¬ card<1 ∧ ¬ 64<card ∧ ¬ tn<0∧15<tn)) :
  Calls Tryz.prog 8 #[.int .i64 deep,.int .i64 half,.int .i64 card,.int .i64 tn] w fun ev w'=>ev = .returned (.bool true)∧Below w.heap.size w w':=by
 rcases hc with c1 | ⟨c1,c2⟩ | ⟨c1,c2,c3⟩ | ⟨c1,c2,c3,c4⟩ | ⟨c1,c2,c3,c4,c5⟩ | ⟨c1,c2,c3,c4,c5,c6⟩ | ⟨c1,c2,c3,c4,c5,c6,c7⟩ | ⟨c1,c2,c3,c4,c5,c6,c7,c8⟩
 all_goals (
  go_enter Tryz.func8,Tryz.ntmps8
  go_wp2_with fail
  refine kh.mono ?_
  clear kh
  rintro ev w1 ⟨rfl,b1⟩
  have HB:=toHid b1
  clear b1
  go_wp2_with fail
  go_ret
  exact ⟨rfl,HB.out⟩)
def noT:Int→List Int→ByteArray:=fun _ _=>⟨#[]⟩
set_option maxHeartbeats 8000000 in
set_option maxRecDepth 100000 in
theorem heapTrees_good (a:Nat→Addr) (D:Nat) (half card tn:Int) (n0:1≤D) (n1:D≤6) (h0:1≤half) (h1:half≤300) (o0:1≤card) (o1:card≤64) (t0:0≤tn) (t1:tn≤15) (w:World) (E:HEnv a w) (kh:Calls Tryz.prog 9 #[] w fun ev w'=>ev = .returned (.bool true)∧Below w.heap.size w w') :
  Calls Tryz.prog 8 #[.int .i64 (D:Int),.int .i64 half,.int .i64 card,.int .i64 tn] w fun ev w'=>ev = .returned (.bool true)∧Below w.heap.size w w':=by
 have HE:=toHid E
 have c1:¬ (D:Int)<1:=by omega
 have c2:¬ 6<(D:Int):=by omega
 have c3:¬ half<1:=by omega
 have c4:¬ 300<half:=by omega
 have c5:¬ card<1:=by omega
 have c6:¬ 64<card:=by omega
 have c7:¬ tn<0:=by omega
 have c8:¬ 15<tn:=by omega
 obtain ⟨L,hL⟩:∃ L:Nat,L=D+2:=⟨_,rfl⟩
 have HL:=toHid hL
 have hwL:IntKind.i64.wrap ((D:Int)+2)=(L:Int):=by rw [wrapI _ (by omega) (by omega)];omega
 have hL8:(L:Int)≤8:=by omega
 have hD0:(0:Int)<(D:Int):=by omega
 have HDD:Hid (1≤D∧D≤6):=⟨n0,n1⟩
 have hnums:Hid (heapOK half 1000 card tn L):=⟨⟨by omega,by omega,by omega,by omega,by omega,by omega⟩,by omega,by omega,by omega,by omega⟩
 clear E hL h0 h1 o0 o1 t0 t1
 go_enter Tryz.func8,Tryz.ntmps8
 go_wp2_with fail
 refine kh.mono ?_
 clear kh
 rintro ev w1 ⟨rfl,b1⟩
 have kn:=hnew_hs a half 1000 card tn L w1 (HE.out.below b1) hnums.out
 have HB1:=toHid b1
 clear b1 HE hnums
 go_wp2_with fail
 refine kn.mono ?_
 clear kn
 rintro ev w2 ⟨h,m,rfl,s,_,e2,_⟩
 have kg:=growT_any (a:=a) (w0:=w1) D h 0 m (MO.new L) MXtra.new w2 s (by show D<(List.replicate L _).length;rw [List.length_replicate,HL.out];omega) n1 (fun x hx=>(by cases hx)) (by show 0+szT D≤100;have:=szT_le D n1;omega) e2
 obtain ⟨q,hq⟩:∃ q,q=h.q:=⟨_,rfl⟩
 rw [←hq] at kg ⊢
 have HQ:=toHid hq
 have HO:=toHid e2
 clear s e2 hq
 go_wp2_with fail
 refine kg.mono ?_
 clear kg
 rintro ev w3 ⟨rfl,M1,hG,h3,sr3,m3,N3,D3,s3⟩
 have HC3:Hid (Clr M1 D 0):=by
  rw [HL.out] at hG
  exact Clr.begin HDD.out.1 hG
 have hfew:¬ m3.old<(M1.words:Int):=by
  have hF:Four M1:=Four.grown (M:=MO.new L) (fun x hx=>(by cases hx)) hG
  have h4:=s3.hm.words4 hF
  have hN:=HC3.out.N
  rw [hN,treeT_len] at h4
  have:=szT_le D HDD.out.2
  have:=HO.out
  have:=D3.old
  omega
 have kj:=hmajor_any s3
 have HQ3:Hid (h3.q=q∧m3.old=1000):=⟨N3.q.trans HQ.out.symm,D3.old.trans HO.out⟩
 rw [HQ3.out.1] at kj
 have HF:=toHid hfew
 clear hG hfew N3 D3 s3 HQ HO
 go_wp2_with fail
 refine kj.mono ?_
 clear kj
 rintro ev w4 (⟨rfl,_,hf⟩ | ⟨rfl,h4,sr4,m4,N4,D4,s4,_⟩)
 ·exact absurd hf (Int.not_lt.2 HF.out)
 have HQ4:Hid (h4.q=q∧m4.old=1000):=⟨N4.q.trans HQ3.out.1,D4.old.trans HQ3.out.2⟩
 have HS4:=toHid s4
 have kg:=gnew_any 1 (by omega) w4
 clear N4 D4 s4 HF HQ3
 go_wp2_with fail
 refine kg.mono ?_
 clear kg
 rintro ev w5 ⟨g,rfl,G,b5,hown⟩
 obtain ⟨d,hd⟩:∃ d,D=d+1:=⟨D - 1,by omega⟩
 have KT:Hid (∀ W,Below w5.heap.size w5 W→W.heap.size=w5.heap.size→Calls Tryz.prog 37 #[.int .i64 (D:Int)] W fun ev w' => ∃ ν φ:Nat→Nat,ev = .returned (.pointer (some ⟨ν 0,0,none⟩))∧Hid (TrAt ν φ D 0 w5.heap.size w'.heap.size w')∧Hid (Below w5.heap.size w5 w')):=fun W hW hs=>by
  rw [hd]
  refine (treeOf_any d (by omega) 0 W).mono ?_
  rintro ev w' ⟨ν,φ,e,t,hb⟩
  exact ⟨ν,φ,e,by rw [←hs];exact t,hW.trans (hb.mono hW.size)⟩
 have HGA:=toHid G
 have HB5:=toHid b5
 obtain ⟨gq,hgq⟩:∃ gq,gq=g.q:=⟨_,rfl⟩
 obtain ⟨gb,hgb⟩:∃ gb,gb=g.b:=⟨_,rfl⟩
 have HGB:Hid (w4.heap.size≤gb):=by rw [hgb];exact hown _ (.inr (.inl rfl))
 have HGQ:Hid (gq=g.q∧gb=g.b):=⟨hgq,hgb⟩
 have C1:Hid (∀ W,Below w5.heap.size w5 W→W.cell? ⟨gq,0,none⟩=some (.slice (some ⟨gb,0,none⟩) 1 1)∧W.cell? ⟨gb,0,none⟩=some (.int .i64 0)∧W.cell? ⟨gb,1,none⟩=some (.int .i64 0)∧W.cell? ⟨gb,2,none⟩=some (.pointer none) ∧ ∀ j,W.frozen? ⟨gb,j,none⟩=false):=fun W hW=>by
  have G':=HGA.out.below hW
  rw [hgq,hgb]
  exact ⟨G'.c0,(G'.root (k:=0) rfl).1,(G'.root (k:=0) rfl).2.1,(G'.root (k:=0) rfl).2.2,fun j=>by simp [World.frozen?,G'.roots]⟩
 rw [←hgq]
 clear G b5 hown hd hgq hgb
 have c0:=(C1.out w5 (Below.refl _ _)).1
 go_upto_region 10 with fail
 go_cut [] from 78 to 86 (fun wx => ∃ g':GP,Hid (g'.q=gq∧GAt g' (docT D) MXtra.new wx)∧Hid (Below w4.heap.size w4 wx))
 case first =>
  go_region_held3 (fun W=>W.cell? ⟨gq,0,none⟩=some (.slice (some ⟨gb,0,none⟩) 1 1)) (first | with_reducible exact c0 | with_reducible exact c6x | with_reducible exact (C1.out _ (Below.refl _ _).drew).1 | with_reducible exact (C1.out _ b6.out.drew).1 | exact cEnd) (first
   | (go_at_call 37;refine (KT.out _ (by first | exact Below.refl _ _ | exact (Below.refl _ _).drew) (by rfl)).mono ?_;rintro ev w6 ⟨ν,φ,rfl,t6,b6⟩;obtain ⟨c6x,g0,g1,g2,fz⟩:=C1.out w6 b6.out;have y0:=fz 0;have y1:=fz 1;have y2:=fz 2;have cEnd:(((w6.setCell ⟨gb,0,none⟩ (.int .i64 4)).setCell ⟨gb,1,none⟩ (.int .i64 0)).setCell ⟨gb,2,none⟩ (.pointer (some ⟨ν 0,0,none⟩))).cell? ⟨gq,0,none⟩=some (.slice (some ⟨gb,0,none⟩) 1 1):=(by have T:=tree_gat HGA.out t6.out b6.out (W:=((w6.setCell ⟨g.b,0,none⟩ (.int .i64 4)).setCell ⟨g.b,1,none⟩ (.int .i64 0)).setCell ⟨g.b,2,none⟩ (.pointer (some ⟨ν 0,0,none⟩))) rfl;rw [HGQ.out.1,HGQ.out.2];exact T.c0)))
  all_goals (
   go_wp2_with fail
   go_meet
   refine ⟨g.tree ν φ,⟨HGQ.out.1.symm,?_⟩,?_⟩
   ·rw [HGQ.out.2]
    exact tree_gat HGA.out t6.out b6.out rfl
   ·show Below _ _ _
    rw [HGQ.out.2]
    exact tree_below (g:=g) HB5.out b6.out (by rw [←HGQ.out.2];exact HGB.out) rfl)
 case rest =>
 obtain ⟨g',HG',HB6⟩:=hcut
 clear c0 C1 KT HGA HB5 HGB HGQ
 have HS6:Hid (HS a w1 h4 sr4 m4 M1 MXtra.new wc):=HS4.out.below HB6.out
 have HQG:Hid (g'.q=gq):=HG'.out.1
 have HG6:Hid (GAt g' (docT D) MXtra.new wc):=HG'.out.2
 clear HG' HB6 HS4
 go_wp2_with fail
 go_loopg [13] (L+1) (fun gk v13 wr => ∃ r:Nat,gk=L+1 - r∧r≤L∧v13 = .int .i64 (r:Int) ∧ ∃ M h' sr' m',Hid (Clr M D r)∧Hid (HS a w1 h' sr' m' M MXtra.new wr)∧Hid (h'.q=q∧m'.old=1000)∧Hid (GAt g' (docT D) MXtra.new wr))
 case atStart=>exact ⟨0,rfl,Nat.zero_le _,rfl,M1,h4,sr4,m4,HC3,HS6,HQ4,HG6⟩
 case round =>
  clear HC3 HS6 HQ4 HG6
  obtain ⟨r,hgk,hr,rfl,M,h5,sr5,m5,HC,HSr,HQr,HGr⟩:=hrel
  have HG:=toHid hgk
  have hr0:(0:Int)≤(r:Int):=by omega
  clear hgk
  have hR:m5.R.length=D+2:=HSr.out.hm.roots.trans HC.out.rl
  by_cases hlt:r<L
  ·have hI:(r:Int)<(L:Int):=by omega
   by_cases hrD:r=D
   ·have HC2:Hid (Clr M D (r+1)):=HC.out.skip hrD
    have hz:((r:Int) != (D:Int))=false:=by rw [hrD];simp
    clear hR hrD
    go_wp2_with fail
    go_roundg (L+1 - (r+1))
    case measure=>have:=HG.out;omega
    case rel=>exact ⟨r+1,rfl,by omega,by go_num,M,h5,sr5,m5,HC2,HSr,HQr,HGr⟩
   ·have HC2:Hid (Clr (M.set r (clK 0)) D (r+1)):=HC.out.next (by have:=HL.out;omega) hrD
    have hz:((r:Int) != (D:Int))=true:=by rw [bne_iff_ne];omega
    have kc:=hconst_any HSr.out r 0 (by have:=HL.out;omega) (by omega)
    rw [HQr.out.1] at kc
    clear hR hrD
    go_wp2_with fail
    refine kc.mono ?_
    clear kc
    rintro ev w7 ⟨rfl,h7,sr7,m7,N7,D7,s7⟩
    have HS7:Hid (HS a w1 h7 sr7 m7 (M.set r (clK 0)) MXtra.new w7):=s7
    have HQ7:Hid (h7.q=q∧m7.old=1000):=⟨N7.q.trans HQr.out.1,D7.old.trans HQr.out.2⟩
    have HG7:Hid (GAt g' (docT D) MXtra.new w7):=HGr.out.over HSr.out.at' N7
    clear N7 D7 s7
    go_wp2_with fail
    go_roundg (L+1 - (r+1))
    case measure=>have:=HG.out;omega
    case rel=>exact ⟨r+1,rfl,by omega,by go_num,_,h7,sr7,m7,HC2,HS7,HQ7,HG7⟩
  ·have hI:¬ (r:Int)<(L:Int):=by omega
   obtain rfl:r=L:=by omega
   have kc:=hcopy_any HSr.out 0 D ⟨4,0,0⟩ (by omega) HC.out.at'
   rw [HQr.out.1] at kc
   clear hR
   go_wp2_with fail
   refine kc.mono ?_
   clear kc
   rintro ev w7 ⟨rfl,h7,sr7,m7,N7,D7,s7⟩
   have kc:=hconst_any s7 D 0 (by rw [s7.hm.roots];show D<(M.R.set 0 _).length;rw [List.length_set,HC.out.rl];omega) (by omega)
   have HQ7:Hid (h7.q=q∧m7.old=1000):=⟨N7.q.trans HQr.out.1,D7.old.trans HQr.out.2⟩
   have HG7:Hid (GAt g' (docT D) MXtra.new w7):=HGr.out.over HSr.out.at' N7
   have HA7:=toHid s7.at'
   rw [HQ7.out.1] at kc
   clear N7 D7 s7
   go_wp2_with fail
   refine kc.mono ?_
   clear kc
   rintro ev w8 ⟨rfl,h8,sr8,m8,N8,D8,s8⟩
   rw [Clr.done (by have h:=HC.out;rw [HL.out] at h;exact h) HDD.out.1] at s8
   have HQ8:Hid (h8.q=q∧m8.old=1000):=⟨N8.q.trans HQ7.out.1,D8.old.trans HQ7.out.2⟩
   have HG8:Hid (GAt g' (docT D) MXtra.new w8):=HG7.out.over HA7.out N8
   have ks:=hshow_box noT s8 (fun d hd h=>by
    have hd:d∈treeT D 0:=hd
    rw [(doc_kind hd).1] at h;exact absurd h (by decide))
   rw [HQ8.out.1] at ks
   have HS8:=toHid s8
   obtain ⟨_,q2,q3,q4⟩:=s8.hm.all
   have HZ:Hid (lsB ((endT D).text noT)=atL++((List.replicate (D+1) noneL).flatten++docO noT D)):=end_text noT D q2
   have HCL:Hid (MClosed (docT D)):=⟨fun c hc h4=>by
    have hc:c ∈ [(⟨4,0,0⟩:CL)]:=hc
    rw [←end_all]
    exact q3 c (by show c∈⟨4,0,0⟩::List.replicate (D+1) (⟨0,0,0⟩:CL);rw [List.mem_singleton.1 hc];simp) h4,fun i hi d hd c hc h4=>by
    rw [←end_all] at hi ⊢
    exact q4 i hi d hd (by rw [(doc_kind (List.mem_of_getElem? hd)).1];decide) c hc h4⟩
   obtain ⟨Z,hZ⟩:∃ Z,Z=(endT D).text noT:=⟨_,rfl⟩
   rw [←hZ] at ks HZ
   clear hZ q2 q3 q4 N8 D8 s8 HQ7 HG7 HA7 HC HSr HQr HGr
   go_wp2_with fail
   refine ks.mono ?_
   clear ks
   rintro ev w9 ⟨rfl,b9⟩
   have HB9:=toHid b9
   have km:=gshow_any noT (HG8.out.below b9) (doc_wf D HDD.out.1 HDD.out.2) HCL.out ⟨fun i d hd h=>by
    rw [(doc_kind (List.mem_of_getElem? hd)).1] at h;exact absurd h (by decide),fun d hd=>by
    rw [(doc_kind hd).1];exact ⟨by decide,by decide⟩⟩ (Nat.le_trans (doc_few noT D HDD.out.1 HDD.out.2) (by decide))
   rw [HQG.out] at km
   have HW0:Hid (lsB ((docT D).text noT)=atL++((List.replicate 0 noneL).flatten++docO noT D)):=doc_text noT D HDD.out.1 HDD.out.2
   have HW1:Hid (((docT D).text noT).size≤10000):=doc_few noT D HDD.out.1 HDD.out.2
   obtain ⟨Y,hY⟩:∃ Y,Y=(docT D).text noT:=⟨_,rfl⟩
   rw [←hY] at km HW0 HW1
   clear b9 hY HCL
   go_wp2_with fail
   refine km.mono ?_
   clear km
   rintro ev w10 ⟨rfl,b10⟩
   have HB10:Hid (Below w8.heap.size w8 w10):=HB9.out.trans (b10.mono HB9.out.size)
   clear b10 HB9
   go_wp2_with fail
   go_loopg [15,16] r (fun gk v15 v16 wz => ∃ (k:Nat) (A:ByteArray),gk=r+1 - k∧1≤k∧k≤r∧v15 = .string A∧v16 = .int .i64 (k:Int)∧Hid (lsB A=atL++((List.replicate (k - 1) noneL).flatten++docO noT D))∧A.size≤10000+10*k∧8≤A.size∧wz=w10)
   case atStart =>
    refine ⟨1,Y,by omega,Nat.le_refl _,by have:=HL.out;omega,rfl,rfl,HW0,by have:=HW1.out;omega,?_,rfl⟩
    have h:=congrArg List.length HW0.out
    rw [lsB_size,List.length_append] at h
    have:atL.length=8:=rfl
    omega
   case round =>
    clear HG
    obtain ⟨k,A,hgk,hk1,hkr,rfl,rfl,hA,hs1,hs2,rfl⟩:=hrel
    have HG:=toHid hgk
    have hk0:(0:Int)≤(k:Int):=by omega
    clear hgk
    by_cases hlt:k<r
    ·have hI2:(k:Int)<(r:Int):=by omega
     have hz8:(8:Int)≤(A.size:Int):=by omega
     obtain ⟨C,hC⟩:∃ C,C=A.extract 8 A.size:=⟨_,rfl⟩
     have hCl:lsB C=(lsB A).drop 8:=by rw [hC];exact Lib.extract_to_end _ _
     have hCt:C.size+8=A.size:=by rw [hC,ByteArray.size_extract];omega
     obtain ⟨B,hB⟩:∃ B,B=(⟨#[114,111,111,116,32,64,48,10,114,111,111,116,32,110,111,110,101,10]⟩:ByteArray)++C:=⟨_,rfl⟩
     have hBl:lsB B=(atL++noneL)++(lsB A).drop 8:=by rw [hB,lsB_app,hCl];rfl
     have HN:Hid (lsB B=atL++((List.replicate (k+1 - 1) noneL).flatten++docO noT D)):=by
      have h:=want_next (docO noT D) (k - 1) hA.out hBl
      rw [show k - 1+1=k+1 - 1 by omega] at h
      exact h
     have HBs:Hid (B.size≤10000+10*(k+1)∧8≤B.size):=by
      have:B.size=18+C.size:=by rw [hB,ByteArray.size_append];rfl
      constructor <;> omega
     clear hCt
     have HBe:Hid ((⟨#[114,111,111,116,32,64,48,10,114,111,111,116,32,110,111,110,101,10]⟩:ByteArray)++A.extract 8 A.size=B):=by show _=_;rw [hB,hC]
     clear hBl hB hCl hC
     go_wp2_with fail
     go_roundg (r+1 - (k+1))
     case measure=>have:=HG.out;omega
     case rel=>exact ⟨k+1,B,rfl,by omega,by omega,by rw [HBe.out],by go_num,HN,HBs.out.1,HBs.out.2,rfl⟩
    ·have hI2:¬ (k:Int)<(r:Int):=by omega
     have hZA:Z=A:=lsB_inj (by
      rw [HZ.out,hA.out,show k - 1=D+1 by have:=HL.out;omega])
     subst hZA
     have s10:=HS8.out.below HB10.out
     have kw:=hwords_hs s10
     have hold:m8.oldTop≤1000:=by
      obtain ⟨_,_,_,_,_,_,_,_,o1,_⟩:=s10.nums
      have:=HQ8.out.2
      omega
     rw [HQ8.out.1] at kw
     have HBF:Hid (Below w.heap.size w wr):=HB1.out.trans (s10.base.mono HB1.out.size)
     clear s10 hs1 hs2 hA
     go_wp2_with fail
     refine kw.mono ?_
     clear kw
     rintro ev w11 ⟨rfl,b11⟩
     have HBE:Hid (Below w.heap.size w w11):=HBF.out.trans (b11.mono HBF.out.size)
     clear b11
     go_wp2_with fail
     go_ret
     exact ⟨by simp,HBE.out⟩
theorem heapTrees_any (a:Nat→Addr) (deep half card tn:Int) (w:World) (E:HEnv a w) :
  Calls Tryz.prog 8 #[.int .i64 deep,.int .i64 half,.int .i64 card,.int .i64 tn] w fun ev w'=>ev = .returned (.bool true)∧Below w.heap.size w w':=by
 have kh:=hold_any a w E
 by_cases hc:1≤deep∧deep≤6∧1≤half∧half≤300∧1≤card∧card≤64∧0≤tn∧tn≤15
 ·obtain ⟨a1,a2,a3,a4,a5,a6,a7,a8⟩:=hc
  obtain ⟨D,rfl⟩:∃ D:Nat,deep=(D:Int):=⟨deep.toNat,by omega⟩
  exact heapTrees_good a D half card tn (by omega) (by omega) a3 a4 a5 a6 a7 a8 w E kh
 ·exact heapTrees_skip deep half card tn w kh (by omega)
end Go.Proofs.YtlkcbdinlfeoiaaGreatDoor
