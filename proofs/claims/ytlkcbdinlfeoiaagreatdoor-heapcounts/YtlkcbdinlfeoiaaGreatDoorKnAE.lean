/- The document's memory: what CheckOf answers is what survey says (plain laws). -/
import Derived.Test.YtlkcbdinlfeoiaaGreatDoorKnAD
import Derived.Lib.AppendIntMem
import Derived.Lib.SmallJoins
import Derived.Laws.Concat
import Derived.Deep.RegionHeld3
import Derived.Deep.DrawnRows
import Derived.Lib.Itoa
import Derived.Deep.CutBlock
import Derived.Deep.QuietTactic
import Derived.BigQuiet
namespace Go.Proofs.YtlkcbdinlfeoiaaGreatDoor
open Go.Proofs.Tryz
open Go.RowKit

def okO (F:Nat→Int) (h:Int) (vs:List Nat) (v:Nat):Bool:=(decide ((v:Int)<2*h) || decide (F v / 1024 % 16=0)) && (decide (F v / 4 % 256<8) || (Z07 F v).all (Z5q vs))
def Zlh (F:Nat→Int) (C:Nat→Bool) (h c:Int) (v:Nat):Bool:=decide ((v:Int)<2*h) || (decide (F v / 4 % 256<8) || (List.range (szN (F v))).all fun j=>Z5o F C h c (v+1+j))
def idR (vs:List Nat) (l:List (Int × Int)) (i:Nat):Bool:=match l[i]? with
 | some x=>decide (0≤ptI x.1) && (decide (0≤objI vs (ptI x.1)) && (decide (1≤x.2) && (l.take i).all fun y => !(y.1 == x.1) && !(y.2 == x.2)))
 | none=>true
def MD.fine (m:MD) (vs:List Nat):Bool:=m.R.all (Z5q vs) && (m.K.all (Z5q vs) && (vs.all (okO m.F m.half vs) && (List.range m.I.length).all (idR vs m.I)))
def MD.chk (m:MD) (vs:List Nat):Int:=if m.fine vs then (if vs.all (Zlh m.F m.Cf m.half m.card) then 0 else 5) else 3
def ChkP (m:MD) (n:Int):Prop:=(∃ l1 l2,Z0a m.F (G0 m.F) (m.n1 - m.n0) m.n0 m.n1=some l1∧Z0a m.F (G0 m.F) (m.m1 - m.m0) m.m0 m.m1=some l2∧n=m.chk (l1++l2))∨((Z0a m.F (G0 m.F) (m.n1 - m.n0) m.n0 m.n1=none∨Z0a m.F (G0 m.F) (m.m1 - m.m0) m.m0 m.m1=none)∧n=3)
theorem Z2v {α:Type}{l:List α}{f g:α→Bool} (h:∀ x∈l,f x=g x):l.all f=l.all g:=by
 induction l with
 | nil=>rfl
 | cons a l ih=>rw [List.all_cons,List.all_cons,h a (List.mem_cons_self ..),ih fun x hx=>h x (List.mem_cons_of_mem _ hx)]
theorem Zt5 {vs:List Nat}{nW:Nat} (hv:∀ v∈vs,v<nW) (hn:nW≤300000) {x:Int} : (decide (0≤ptI x) && decide (0≤objI vs (ptI x)))=Z33 nW (fun i=>decide (i∈vs)) x:=by
 unfold Z33
 by_cases hc:x % 4=0∧4≤x
 ·rw [decide_eq_true hc,Bool.true_and]
  show _=(decide ((x / 4 - 1).toNat<nW) && decide ((x / 4 - 1).toNat∈vs))
  by_cases hm:(x / 4 - 1).toNat∈vs
  ·have hlt:=hv _ hm
   have hp:ptI x=x / 4 - 1:=by unfold ptI;rw [if_pos ⟨hc.1,hc.2,by omega⟩]
   rw [hp,decide_eq_true hlt,decide_eq_true hm,decide_eq_true (by omega:0≤x / 4 - 1),decide_eq_true (Z81.2 ⟨_,hm,by omega⟩)]
  ·rw [decide_eq_false hm,Bool.and_false]
   by_cases hp:0≤ptI x
   ·have hp2:ptI x=x / 4 - 1:=by
     unfold ptI at hp ⊢
     split at hp
     ·rename_i hc
      rw [if_pos hc]
     ·omega
    have hno:¬ 0≤objI vs (ptI x):=fun h=>by
     obtain ⟨v,hvm,e⟩:=Z81.1 h
     rw [hp2] at e
     exact hm (by rw [←e];simpa using hvm)
    rw [decide_eq_false hno,Bool.and_false]
   ·rw [decide_eq_false hp,Bool.false_and]
 ·rw [decide_eq_false hc,Bool.false_and]
  have hp:ptI x = -1:=by unfold ptI;rw [if_neg (fun h=>hc ⟨h.1,h.2.1⟩)]
  rw [hp]
  rfl
theorem Z5m {l:List Int}{i:Nat}{x:Int} (h:l[i]?=some x):decide ((l.take (i+1)).count x≤1)=(l.take i).all fun y => !(y == x):=by
 rw [List.take_add_one,h,List.count_append]
 show decide ((l.take i).count x + [x].count x≤1)=_
 rw [List.count_singleton_self]
 by_cases hx:x∈l.take i
 ·have:=List.count_pos_iff.2 hx
  rw [decide_eq_false (by omega)]
  symm
  rw [List.all_eq_false]
  exact ⟨x,hx,by simp⟩
 ·rw [List.count_eq_zero.2 hx,decide_eq_true (by omega)]
  symm
  rw [List.all_eq_true]
  intro y hy
  simp only [Bool.not_eq_true',beq_eq_false_iff_ne]
  rintro rfl
  exact hx hy
theorem Z3t {α:Type}{l:List α}{f g:α→Bool} : l.all (fun y=>f y && g y)=(l.all f && l.all g):=by
 induction l with
 | nil=>rfl
 | cons a l ih=>rw [List.all_cons,List.all_cons,List.all_cons,ih];cases f a <;> cases g a <;> cases l.all f <;> rfl
theorem id_eq {vs:List Nat}{nW:Nat} (hv:∀ v∈vs,v<nW) (hn:nW≤300000) (l:List (Int × Int)) (i:Nat):idR vs l i=idB nW (fun i=>decide (i∈vs)) l i:=by
 unfold idR idB
 cases h:l[i]? with
 | none=>rfl
 | some x =>
  show (decide (0≤ptI x.1) && (decide (0≤objI vs (ptI x.1)) && _))=(Z33 _ _ x.1 && _)
  rw [←Bool.and_assoc,Zt5 hv hn,List.map_take,List.map_take,Z5m (l:=l.map (·.1)) (i:=i) (x:=x.1) (by rw [List.getElem?_map,h];rfl),Z5m (l:=l.map (·.2)) (i:=i) (x:=x.2) (by rw [List.getElem?_map,h];rfl),←List.map_take,←List.map_take,List.all_map,List.all_map,Z3t]
  rfl
theorem ok_eq {m:MD} (h64:MD64 m) {vs:List Nat} (hv:∀ v∈vs,v+1+szN (m.F v)≤m.W.length) (hn:m.W.length≤300000):∀ v∈vs,okO m.F m.half vs v=((decide ((v:Int)<2*m.half) || decide (m.F v / 1024 % 16=0)) && G2 m.F m.W.length (fun i=>decide (i∈vs)) v):=fun v hvm=>by
 have hv1:∀ v∈vs,v<m.W.length:=fun v h=>by have:=hv v h;omega
 unfold okO G2
 have:(Z07 m.F v).all (Z5q vs)=(Z07 m.F v).all (Z0b m.W.length fun i=>decide (i∈vs)):=by
  apply Z2v
  intro x hx
  obtain ⟨j,hj,rfl⟩:=List.mem_map.1 hx
  have hj:=List.mem_range.1 hj
  have hb:=hv v hvm
  apply Z5h hv1 hn
  unfold MD.F
  rw [List.getD_eq_getElem?_getD,List.getElem?_eq_getElem (by omega)]
  exact (h64.w _ (List.getElem_mem _)).1
 rw [this]
theorem ChkP.out {m:MD}{n:Int} (h:ChkP m n) (hF:m.FitsM) (h64:MD64 m):(∃ vs,m.Shape vs∧m.cardsB=true∧n=0)∨(∃ vs,m.Shape vs∧m.cardsB=false∧n=5)∨((∀ vs,¬ m.Shape vs)∧n=3):=by
 have P:=MD.parts hF
 have hle:=P.le hF
 have hnW:m.W.length≤300000:=by obtain ⟨⟨a0,a1,a2,a3,a4,a5⟩,hw,_⟩:=hF;omega
 have hn1:(m.n1:Int)≤2*m.half:=by
  obtain ⟨⟨a0,a1,a2,a3,a4,a5⟩,hw,_,u0,u1,t0,t1,o0,o1⟩:=hF
  have b1:=P.n1
  obtain e | e:m.used=0∨m.used=1:=by omega
  ·rw [e,Int.zero_mul] at b1;omega
  ·rw [e,Int.one_mul] at b1;omega
 have hm0:=P.m0
 rcases h with ⟨l1,l2,e1,e2,rfl⟩ | ⟨hno,rfl⟩
 ·have b1:=(Z0h.1 e1)
  have b2:=(Z0h.1 e2)
  obtain ⟨vs,hvs⟩:∃ vs,vs=l1++l2:=⟨_,rfl⟩
  have hv:∀ v∈vs,v+1+szN (m.F v)≤m.W.length:=fun v hv=>by
   rw [hvs] at hv
   rcases List.mem_append.1 hv with h | h
   ·have:=(Z0q e1 v h).2;omega
   ·have:=(Z0q e2 v h).2;omega
  have hv1:∀ v∈vs,v<m.W.length:=fun v h=>by have:=hv v h;omega
  have hO:∀ us,m.objs=some us ↔ us=vs∧vs.all (fun f:Nat=>decide ((f:Int)<2*m.half) || decide (m.F f / 1024 % 16=0))=true:=fun us=>by
   have k1:Z0a m.F (G1 m.F m.half) (m.n1 - m.n0) m.n0 m.n1=if l1.all (fun f:Nat=>decide ((f:Int)<2*m.half) || decide (m.F f / 1024 % 16=0)) then some l1 else none:=by
    rw [Z1u,b1.1]
    show (if l1.all (G1 m.F m.half) then some l1 else none)=_
    have:l1.all (G1 m.F m.half)=(l1.all (G0 m.F) && l1.all (fun f:Nat=>decide ((f:Int)<2*m.half) || decide (m.F f / 1024 % 16=0))):=Z3t
    rw [this,b1.2,Bool.true_and]
   have k2:Z0a m.F (G1 m.F m.half) (m.m1 - m.m0) m.m0 m.m1=if l2.all (fun f:Nat=>decide ((f:Int)<2*m.half) || decide (m.F f / 1024 % 16=0)) then some l2 else none:=by
    rw [Z1u,b2.1]
    show (if l2.all (G1 m.F m.half) then some l2 else none)=_
    have:l2.all (G1 m.F m.half)=(l2.all (G0 m.F) && l2.all (fun f:Nat=>decide ((f:Int)<2*m.half) || decide (m.F f / 1024 % 16=0))):=Z3t
    rw [this,b2.2,Bool.true_and]
   unfold MD.objs
   rw [k1,k2,hvs,List.all_append]
   cases l1.all _ <;> cases l2.all _ <;> simp
   exact eq_comm
  have hH:m.holdB vs=vs.all (G2 m.F m.W.length fun i=>decide (i∈vs)):=by
   unfold MD.holdB
   rw [Z0t b1.1,Z0t b2.1,←List.all_append,←hvs]
  have hok:vs.all (okO m.F m.half vs)=(vs.all (fun f:Nat=>decide ((f:Int)<2*m.half) || decide (m.F f / 1024 % 16=0)) && m.holdB vs):=by
   rw [hH,←Z3t]
   exact Z2v (ok_eq h64 hv hnW)
  have hre:(m.R.all (Z5q vs) && (m.K.all (Z5q vs) && (List.range m.I.length).all (idR vs m.I)))=m.restB vs:=by
   unfold MD.restB Z67
   rw [Z2v (l:=m.R) fun x hx=>Z5h hv1 hnW (h64.r x hx).1,Z2v (l:=m.K) fun x hx=>Z5h hv1 hnW (h64.k x hx).1,Z2v (l:=List.range m.I.length) fun i _=>id_eq hv1 hnW m.I i]
  have hca:m.cardsB=vs.all (Zlh m.F m.Cf m.half m.card):=by
   unfold MD.cardsB
   rw [Z0t b2.1,hvs,List.all_append]
   have c1:l1.all (Zlh m.F m.Cf m.half m.card)=true:=by
    rw [List.all_eq_true]
    intro v hv
    have:=(Z0q e1 v hv).2
    unfold Zlh
    rw [decide_eq_true (by omega:(v:Int)<2*m.half),Bool.true_or]
   rw [c1,Bool.true_and]
   apply Z2v
   intro v hv
   have:=(Z0q e2 v hv).1
   unfold Zlh G3
   rw [decide_eq_false (by omega:¬ (v:Int)<2*m.half),Bool.false_or]
  have hfi:m.fine vs=(vs.all (fun f:Nat=>decide ((f:Int)<2*m.half) || decide (m.F f / 1024 % 16=0)) && (m.holdB vs && m.restB vs)):=by
   unfold MD.fine
   rw [←hre,hok]
   cases m.R.all _ <;> cases m.K.all _ <;> cases vs.all (fun f:Nat=>decide ((f:Int)<2*m.half) || decide (m.F f / 1024 % 16=0)) <;> cases m.holdB vs <;> rfl
  rw [←hvs]
  unfold MD.chk
  rw [←hca]
  cases hf:m.fine vs with
  | true =>
   rw [hfi] at hf
   simp only [Bool.and_eq_true] at hf
   have S:m.Shape vs:=⟨hF,(hO vs).2 ⟨rfl,hf.1⟩,hf.2.1,hf.2.2⟩
   cases hc:m.cardsB with
   | true=>exact .inl ⟨vs,S,rfl,rfl⟩
   | false=>exact .inr (.inl ⟨vs,S,rfl,rfl⟩)
  | false =>
   refine .inr (.inr ⟨fun us S => ?_,rfl⟩)
   obtain ⟨rfl,ha⟩:=(hO us).1 S.2.1
   rw [hfi,ha,S.2.2.1,S.2.2.2] at hf
   cases hf
 ·refine .inr (.inr ⟨fun vs S => ?_,rfl⟩)
  have ho:=S.2.1
  unfold MD.objs at ho
  split at ho
  ·rename_i a1 a2 k1 k2
   have c1:=Z0h.1 k1
   have c2:=Z0h.1 k2
   have d1:a1.all (G0 m.F)=true:=by
    have:a1.all (G1 m.F m.half)=(a1.all (G0 m.F) && _):=Z3t
    rw [this,Bool.and_eq_true] at c1
    exact c1.2.1
   have d2:a2.all (G0 m.F)=true:=by
    have:a2.all (G1 m.F m.half)=(a2.all (G0 m.F) && _):=Z3t
    rw [this,Bool.and_eq_true] at c2
    exact c2.2.1
   rcases hno with h | h
   ·rw [Z0h.2 ⟨c1.1,d1⟩] at h;cases h
   ·rw [Z0h.2 ⟨c2.1,d2⟩] at h;cases h
  ·cases ho
theorem Z6z {F:Nat→Int}{G:Nat→Bool} : ∀ {n f t:Nat}{l:List Nat},Z0a F G n f t=some l → ∀ v∈l,Z0u (F v)=true
 | 0,f,t,l,h=>by unfold Z0a at h;cases h;intro v hv;cases hv
 | n+1,f,t,l,h=>by
  unfold Z0a at h
  split at h
  ·split at h
   ·rename_i h1 h2
    obtain ⟨l',h',rfl⟩:=Option.map_eq_some_iff.1 h
    have h3:Z0u (F f)=true:=by
     simp only [Bool.and_eq_true,decide_eq_true_eq] at h2
     exact h2.1
    intro v hv
    rcases List.mem_cons.1 hv with rfl | hv
    ·exact h3
    ·exact Z6z h' v hv
   ·cases h
  ·cases h;intro v hv;cases hv
theorem Zby {m:MD} (hF:m.FitsM) {i:Nat} (h1:2*m.half≤(i:Int)) (h2:i<m.W.length):∃ d j:Nat,(i:Int) - 2*m.half=(d:Int)∧(d:Int) / m.card=(j:Int)∧j<m.C.length∧Z3a m.half m.card i=j:=by
 have hw:=hF.w
 have hc:=hF.c
 have hnum:=hF.nums
 unfold Z0c at hnum
 have g0:0≤((i:Int) - 2*m.half) / m.card:=Int.ediv_nonneg (by omega) (by omega)
 refine ⟨((i:Int) - 2*m.half).toNat,(((i:Int) - 2*m.half) / m.card).toNat,by omega,?_,?_,rfl⟩
 ·rw [show ((((i:Int) - 2*m.half).toNat:Nat):Int)=(i:Int) - 2*m.half by omega]
  omega
 ·have:((i:Int) - 2*m.half) / m.card<(m.old+m.card - 1) / m.card:=by
   have e:(m.old+m.card - 1)=(m.old - 1)+1*m.card:=by omega
   rw [e,Int.add_mul_ediv_right _ _ (by omega)]
   have:=Int.ediv_le_ediv (c:=m.card) (by omega) (show (i:Int) - 2*m.half≤m.old - 1 by omega)
   omega
  omega
theorem MD.Shape.fine {m:MD}{vs:List Nat} (S:m.Shape vs):∀ v∈vs,Z0u (m.F v)=true∧v+1+szN (m.F v)≤m.W.length:=fun v hv=>by
 have hle:=(MD.parts S.1).le S.1
 have ho:=S.2.1
 unfold MD.objs at ho
 split at ho
 ·rename_i l1 l2 e1 e2
  cases ho
  rcases List.mem_append.1 hv with h | h
  ·exact ⟨Z6z e1 v h,by have:=(Z0q e1 v h).2;omega⟩
  ·exact ⟨Z6z e2 v h,by have:=(Z0q e2 v h).2;omega⟩
 ·cases ho
theorem MD.Shape.one {m:MD}{vs us:List Nat} (S:m.Shape vs) (S':m.Shape us):us=vs:=by
 have a:=S.2.1
 rw [S'.2.1] at a
 cases a
 rfl
theorem MD.Shape.carded {m:MD}{vs:List Nat} (S:m.Shape vs) (hC:m.cardsB=true) {f k:Nat} (hf:f∈vs) (hk:k<szN (m.F f)) (hkd:¬ m.F f / 4 % 256<8) (ho:2*m.half≤((f+1+k:Nat):Int)) (hy:Z14 m.half (m.F (f+1+k))=true):m.Cf (Z3a m.half m.card (f+1+k))=true:=by
 have P:=MD.parts S.1
 have hn1:(m.n1:Int)≤2*m.half:=by
  obtain ⟨⟨a0,a1,a2,a3,a4,a5⟩,hw,_,u0,u1,t0,t1,o0,o1⟩:=S.1
  have b1:=P.n1
  obtain e | e:m.used=0∨m.used=1:=by omega
  ·rw [e,Int.zero_mul] at b1;omega
  ·rw [e,Int.one_mul] at b1;omega
 have hobj:=S.2.1
 unfold MD.objs at hobj
 split at hobj
 ·rename_i l1 l2 e1 e2
  cases hobj
  rcases List.mem_append.1 hf with h | h
  ·have:=(Z0q e1 f h).2
   omega
  ·have b2:=Z0h.1 e2
   unfold MD.cardsB at hC
   rw [Z0t b2.1] at hC
   have g:=List.all_eq_true.1 hC f h
   unfold G3 at g
   rw [decide_eq_false hkd,Bool.false_or] at g
   have c:=List.all_eq_true.1 g k (List.mem_range.2 hk)
   unfold Z5o at c
   rw [hy,Bool.true_and,Bool.not_not] at c
   exact c
 ·cases hobj
theorem MD.Shape.bare {m:MD}{vs:List Nat} (S:m.Shape vs):∃ l1 l2,vs=l1++l2∧Z0a m.F (G0 m.F) (m.n1 - m.n0) m.n0 m.n1=some l1∧Z0a m.F (G0 m.F) (m.m1 - m.m0) m.m0 m.m1=some l2:=by
 have ho:=S.2.1
 unfold MD.objs at ho
 split at ho
 ·rename_i a1 a2 k1 k2
  cases ho
  have c1:=Z0h.1 k1
  have c2:=Z0h.1 k2
  have d1:a1.all (G0 m.F)=true:=by
   have:a1.all (G1 m.F m.half)=(a1.all (G0 m.F) && _):=Z3t
   rw [this,Bool.and_eq_true] at c1
   exact c1.2.1
  have d2:a2.all (G0 m.F)=true:=by
   have:a2.all (G1 m.F m.half)=(a2.all (G0 m.F) && _):=Z3t
   rw [this,Bool.and_eq_true] at c2
   exact c2.2.1
  exact ⟨a1,a2,rfl,Z0h.2 ⟨c1.1,d1⟩,Z0h.2 ⟨c2.1,d2⟩⟩
 ·cases ho
theorem MD.Shape.few {m:MD}{vs:List Nat} (S:m.Shape vs):vs.length≤300000:=by
 obtain ⟨l1,l2,e,e1,e2⟩:=S.bare
 have a1:=Z5a e1
 have a2:=Z5a e2
 obtain ⟨b0,b1,b2,b3⟩:=MD.parts S.1
 obtain ⟨⟨a0,a1',a2',a3,a4,a5⟩,hw,_,u0,u1,t0,t1,o0,o1⟩:=S.1
 rw [e,List.length_append]
 omega
theorem MD.Shape.held {m:MD}{vs:List Nat} (S:m.Shape vs) {f k:Nat} (hf:f∈vs) (hk:k<szN (m.F f)) (hkd:¬ m.F f / 4 % 256<8):Z0b m.W.length (fun i=>decide (i∈vs)) (m.F (f+1+k))=true:=by
 obtain ⟨l1,l2,e,e1,e2⟩:=S.bare
 have b1:=Z0h.1 e1
 have b2:=Z0h.1 e2
 have h:=S.2.2.1
 unfold MD.holdB at h
 rw [Z0t b1.1,Z0t b2.1,←List.all_append,←e] at h
 have g:=List.all_eq_true.1 h f hf
 unfold G2 at g
 rw [decide_eq_false hkd,Bool.false_or] at g
 exact List.all_eq_true.1 g _ (List.mem_map.2 ⟨k,List.mem_range.2 hk,rfl⟩)
end Go.Proofs.YtlkcbdinlfeoiaaGreatDoor
namespace Go.Proofs.YtlkcbdinlfeoiaaGreatDoor
open Go.Proofs.Tryz
open Go.RowKit

theorem Z46 {m:MD}{vs:List Nat} (S:m.Shape vs):0<m.W.length∧m.W.length≤300000∧0<m.C.length:=by
 have hnum:=S.1.nums
 have hw:=S.1.w
 have hc:=S.1.c
 unfold Z0c at hnum
 have:1≤(m.old+m.card - 1) / m.card:=(Int.le_ediv_iff_mul_le (by omega)).2 (by omega)
 omega
theorem Z4q {m:MD} (h64:MD64 m):∀ i,i<m.W.length→0≤m.F i∧m.F i<18446744073709551616:=fun i hi=>by
 unfold MD.F
 rw [List.getD_eq_getElem?_getD,List.getElem?_eq_getElem hi]
 exact h64.w _ (List.getElem_mem hi)
theorem MD.Shape.reachy {m:MD}{vs:List Nat} (S:m.Shape vs) (h64:MD64 m):Reachy m.F vs where
 held f hf hkd x hx:=by
  obtain ⟨j,hj⟩:=List.mem_iff_getElem?.1 hx
  have hl:=(List.getElem?_eq_some_iff.1 hj).1
  rw [Z11] at hl
  rw [Z4e hl] at hj
  cases hj
  have hfi:=(S.fine f hf).2
  refine Za7 ?_
  rw [Z5h (nW:=m.W.length) (fun v hv=>by have:=(S.fine v hv).2;omega) (Z46 S).2.1 (Z4q h64 _ (by omega)).1]
  exact S.held hf hl hkd
theorem MD.Shape.roots {m:MD}{vs:List Nat} (S:m.Shape vs) (h64:MD64 m):∀ x∈m.R,Zqr vs x:=fun x hx=>by
 have h:=S.2.2.2
 unfold MD.restB at h
 rw [Bool.and_eq_true] at h
 refine Za7 ?_
 rw [Z5h (nW:=m.W.length) (fun v hv=>by have:=(S.fine v hv).2;omega) (Z46 S).2.1 (h64.r x hx).1]
 exact List.all_eq_true.1 h.1 x hx
def MD.reach (m:MD) (vs:List Nat):List Nat:=Z0z m.F (vs.length+1) (Z0o [] m.R) 0
theorem Z5k (vs:List Nat):Outs vs []:=⟨fun f h=>by simp at h,List.nodup_nil⟩
theorem Zkt {F:Nat→Int}{l:List Nat}{k f:Nat} (h:l[k]?=some f):((l.take (k+1)).map (fun f=>1+szN (F f))).sum=((l.take k).map (fun f=>1+szN (F f))).sum+(1+szN (F f)):=by
 rw [List.take_add_one,h,List.map_append,List.sum_append]
 simp
def MD.live (m:MD) (vs:List Nat):Nat:=((m.reach vs).map (fun f=>1+szN (m.F f))).sum
end Go.Proofs.YtlkcbdinlfeoiaaGreatDoor
namespace Go.Proofs.YtlkcbdinlfeoiaaGreatDoor
open Go.Proofs.Tryz
open Go.RowKit

theorem Z15 {m:MD}{vs:List Nat} (S:m.Shape vs) (h64:MD64 m):Outs vs (m.reach vs):=by
 have go:∀ (n:Nat) (out:List Nat) (k:Nat),Outs vs out→Outs vs (Z0z m.F n out k):=by
  intro n
  induction n with
  | zero=>intro out k h;exact h
  | succ n ih =>
   intro out k h
   unfold Z0z
   cases hk:out[k]? with
   | none=>exact h
   | some f=>exact ih _ _ (h.step (S.reachy h64) (h.sub f (List.mem_of_getElem? hk)))
 exact go _ _ _ ((Z5k vs).comes (S.roots h64))
end Go.Proofs.YtlkcbdinlfeoiaaGreatDoor
namespace Go.Proofs.YtlkcbdinlfeoiaaGreatDoor
open Go.Proofs.Tryz
open Go.RowKit

theorem Zbz {w:World}{c:Array Value}{t:TypeId}{n i:Nat}{v:Value} (hn:n=w.heap.size) (h:c[i]?=some v):(w.alloc (.cells c t)).cell? ⟨n,i,none⟩=some v:=by
 rw [World.cell?_alloc_at _ _ _ _ hn];exact h
theorem Z39 (n:Nat) (hn:n≤255) (w:World) :
  Calls prog 113 #[.int .i64 (n:Int)] w fun ev w'=>ev = .returned (.string (strOfNums [(n:Int)]))∧Below w.heap.size w w':=by
 have hI:(n:Int)≤255:=by omega
 have hm:(n:Int) % 256=(n:Int):=by omega
 have hcv:=run_convert_bytes_arg (P:=prog) (w.alloc (.cells #[.int .u8 (n:Int)] 5)) 161 5 underlying161 underlying5 w.heap.size 0 1 1 [(n:Int)] rfl (fun k hk=>by
  obtain rfl:k=0:=by omega
  exact Zbz rfl rfl) 9 underlying9
 go_enter func113,ntmps113
 go_wp2
 go_ret
 exact ⟨rfl,(Below.refl _ _).alloc (Nat.le_refl _) _⟩

theorem Zaz:∀ (k u:Nat),u<10 ^ (k+1)→Lib.nDigits u≤k+1
 | 0,u,h=>by rw [Lib.nDigits_small (by simpa using h)];exact Nat.le_refl _
 | k+1,u,h=>by
  by_cases h':u<10
  ·rw [Lib.nDigits_small h']
   omega
  ·rw [Lib.nDigits_big h']
   have:=Zaz k (u / 10) (by rw [Nat.pow_succ] at h;omega)
   omega
def Z1c (n:Int):ByteArray:=⟨(Lib.itoa n).toArray⟩
theorem Zlc {a b:ByteArray} (h:a=b):Ending.returned (.string a) = .returned (.string b):=by rw [h]

theorem Z6o (u:Nat) (h:u≤9223372036854775808):(Lib.decDigits u).length≤20:=by
 rw [Lib.decDigits_length]
 exact Zaz 19 u (by omega)
end Go.Proofs.YtlkcbdinlfeoiaaGreatDoor
namespace Go.Proofs.YtlkcbdinlfeoiaaGreatDoor
open Go.Proofs.Tryz
open Go.RowKit

def Z8r (n:Int):ByteArray:=if n=0 then ⟨#[110,111,110,101]⟩ else if n=1 then ⟨#[102,97,108,115,101]⟩ else ⟨#[116,114,117,101]⟩
def Z10 (out:List Nat) (x:Int):ByteArray:=if x % 4=1 then Z1c (wrap64 x / 4) else if x % 4=2 then Z8r (x / 4) else if x=0 then ⟨#[110,111,119,104,101,114,101]⟩ else if objI out (ptI x)<0 then ⟨#[64]⟩ else ⟨#[64]⟩++Z1c (objI out (ptI x))
theorem Z0s (n:Int) (h0 : -9223372036854775808≤n) (h1:n≤9223372036854775807):(Z1c n).size≤21:=by
 unfold Z1c
 show (Lib.itoa n).toArray.size≤21
 rw [List.size_toArray]
 by_cases hn:n<0
 ·obtain ⟨u,rfl⟩:∃ u:Nat,n = -(u:Int):=⟨n.natAbs,by omega⟩
  rw [Lib.itoa_neg u (by omega)]
  have:=Z6o u (by omega)
  simp
  omega
 ·obtain ⟨u,rfl⟩:∃ u:Nat,n=(u:Int):=⟨n.toNat,by omega⟩
  rw [Lib.itoa_nonneg u]
  have:=Z6o u (by omega)
  omega
theorem Zb3 {vs:List Nat}{x:Int} (hn:vs.length≤300000) : -1≤objI vs x∧objI vs x≤300000:=by
 rcases Int.lt_or_le (objI vs x) 0 with h | h
 ·rw [Zh5 (by omega)];omega
 ·obtain ⟨k,_,e,_,_,hk⟩:=Z6i h
  omega
end Go.Proofs.YtlkcbdinlfeoiaaGreatDoor
namespace Go.Proofs.YtlkcbdinlfeoiaaGreatDoor
open Go.Proofs.Tryz
open Go.RowKit

def Zpg (d:Nat):UInt8:=([48,49,50,51,52,53,54,55,56,57,97,98,99,100,101,102]:List UInt8).getD d 0
def Z50 (x:Nat):Nat→List UInt8
 | 0 => []
 | k+1=>Zpg (x / 16 ^ k % 16)::Z50 x k
theorem Z5j (x:Nat):∀ k,(Z50 x k).length=k
 | 0=>rfl
 | k+1=>by rw [Z50,List.length_cons,Z5j x k]
theorem Zo9 (x k:Nat):x / 16 ^ k / 16=x / 16 ^ (k+1):=by rw [Nat.div_div_eq_div_mul,Nat.pow_succ]
end Go.Proofs.YtlkcbdinlfeoiaaGreatDoor
namespace Go.Proofs.YtlkcbdinlfeoiaaGreatDoor
open Go.Proofs.Tryz
open Go.RowKit

def Z3r (n:Nat):Code→Option Code
 | .block i c=>bif Nat.beq i n then some (.block i c) else Z3r n c
 | .loop c=>Z3r n c
 | .seq a b=>match Z3r n a with
  | some c=>some c
  | none=>Z3r n b
 | .scope c=>Z3r n c
 | .cond _ a b=>match Z3r n a with
  | some c=>some c
  | none=>Z3r n b
 | _=>none
def Z3z (s:ByteArray) (out:List Nat) (acc:ByteArray) (x:Int):ByteArray:=((acc++s)++Z10 out x)++⟨#[10]⟩
def Z0d (s:ByteArray) (out:List Nat) (acc:ByteArray) (l:List Int):ByteArray:=l.foldl (Z3z s out) acc
theorem Z9f {s:ByteArray}{out:List Nat}{acc:ByteArray}{l:List Int}{k:Nat}{x:Int} (h:l[k]?=some x):Z0d s out acc (l.take (k+1))=Z3z s out (Z0d s out acc (l.take k)) x:=by
 unfold Z0d
 rw [List.take_add_one,h,List.foldl_append]
 rfl
theorem Z3e (out:List Nat) (hn:out.length≤300000) (x:Int):(Z10 out x).size≤22:=by
 have hw:wrap64 x=(x+9223372036854775808) % 18446744073709551616 - 9223372036854775808:=Z51 x
 have hb:=Zb3 (vs:=out) (x:=ptI x) hn
 unfold Z10
 split
 ·have:=Z0s (wrap64 x / 4) (by omega) (by omega)
  omega
 ·split
  ·unfold Z8r
   split
   ·decide
   ·split <;> decide
  ·split
   ·decide
   ·split
    ·decide
    ·have:=Z0s (objI out (ptI x)) (by omega) (by omega)
     rw [ByteArray.size_append]
     show 1+(Z1c (objI out (ptI x))).size≤22
     omega
def sRoot:ByteArray:=⟨#[114,111,111,116,32]⟩
def sWeak:ByteArray:=⟨#[119,101,97,107,32]⟩
end Go.Proofs.YtlkcbdinlfeoiaaGreatDoor
namespace Go.Proofs.YtlkcbdinlfeoiaaGreatDoor
open Go.Proofs.Tryz
open Go.RowKit

def Z20 (kd:Int) (out:List Nat) (acc:ByteArray) (x:Int):ByteArray:=if kd<8 then (acc++⟨#[32,48,120]⟩)++⟨(Z50 x.toNat 16).toArray⟩ else (acc++⟨#[32]⟩)++Z10 out x
def Z1d (kd:Int) (out:List Nat) (acc:ByteArray) (l:List Int):ByteArray:=l.foldl (Z20 kd out) acc
end Go.Proofs.YtlkcbdinlfeoiaaGreatDoor
namespace Go.Proofs.YtlkcbdinlfeoiaaGreatDoor
open Go.Proofs.Tryz
open Go.RowKit

def Z4z (F:Nat→Int) (out:List Nat) (i f:Nat) (acc:ByteArray):ByteArray:=Z1d (F f / 4 % 256) out (((acc++Z1c (i:Int))++⟨#[32]⟩)++Z1c (F f / 4 % 256)) (Z07 F f)++⟨#[10]⟩
def Z0l (F:Nat→Int) (out:List Nat) (acc:ByteArray):Nat→ByteArray
 | 0=>acc
 | k+1=>match out[k]? with
  | some f=>Z4z F out k f (Z0l F out acc k)
  | none=>Z0l F out acc k
theorem Z9g {F:Nat→Int}{out:List Nat}{acc:ByteArray}{k f:Nat} (h:out[k]?=some f):Z0l F out acc (k+1)=Z4z F out k f (Z0l F out acc k):=by
 conv=>lhs;unfold Z0l
 rw [h]
theorem Zfw (kd:Int) (out:List Nat) (hn:out.length≤300000) (acc:ByteArray) (x:Int):(Z20 kd out acc x).size≤acc.size+28:=by
 unfold Z20
 have:=Z3e out hn x
 split
 ·rw [ByteArray.size_append,ByteArray.size_append]
  have:(⟨(Z50 x.toNat 16).toArray⟩:ByteArray).size=16:=by show (Z50 x.toNat 16).toArray.size=16;rw [List.size_toArray,Z5j]
  show acc.size+3+_≤_
  omega
 ·rw [ByteArray.size_append,ByteArray.size_append]
  show acc.size+1+_≤_
  omega
theorem Z7l (kd:Int) (out:List Nat) (hn:out.length≤300000):∀ (l:List Int) (acc:ByteArray),(Z1d kd out acc l).size≤acc.size+28*l.length
 | [],acc=>by simp [Z1d]
 | x::l,acc=>by
  have h1:=Zfw kd out hn acc x
  have h2:=Z7l kd out hn l (Z20 kd out acc x)
  show (Z1d kd out (Z20 kd out acc x) l).size≤_
  rw [List.length_cons]
  omega
end Go.Proofs.YtlkcbdinlfeoiaaGreatDoor
namespace Go.Proofs.YtlkcbdinlfeoiaaGreatDoor
open Go.Proofs.Tryz
open Go.RowKit

def Z9o (I:List (Int × Int)):List (Int × Int):=I.mergeSort (fun x y=>decide (x.2≤y.2))
structure IdsOK (I:List (Int × Int)):Prop where
 pos:∀ x∈I,1≤x.2
 nodup:I.Pairwise (fun x y=>x.2≠y.2)
theorem Z5g (I:List (Int × Int)):(Z9o I).Perm I:=List.mergeSort_perm _ _
theorem Znl (I:List (Int × Int)):(Z9o I).Pairwise (fun x y=>x.2≤y.2):=by
 have h:=List.pairwise_mergeSort (le:=fun x y:Int × Int=>decide (x.2≤y.2)) (fun a b c h1 h2=>by simp at *;omega) (fun a b=>by simp;omega) I
 exact h.imp (fun h=>of_decide_eq_true h)
theorem Zqy {I:List (Int × Int)} (h:IdsOK I):(Z9o I).Pairwise (fun x y=>x.2<y.2):=by
 have h1:=Znl I
 have h2:(Z9o I).Pairwise (fun x y=>x.2≠y.2):=h.nodup.perm (Z5g I).symm (fun h=>h.symm)
 exact (h1.and h2).imp (fun ⟨a,b⟩=>by omega)
theorem Zog (I:List (Int × Int)):(Z9o I).length=I.length:=(Z5g I).length_eq
theorem Ztb {L:List (Int × Int)} (h:L.Pairwise (fun x y=>x.2<y.2)) {i j:Nat}{x y:Int × Int} (hi:L[i]?=some x) (hj:L[j]?=some y) (hij:i<j):x.2<y.2:=by
 obtain ⟨h1,rfl⟩:=List.getElem?_eq_some_iff.1 hi
 obtain ⟨h2,rfl⟩:=List.getElem?_eq_some_iff.1 hj
 exact List.pairwise_iff_getElem.1 h i j h1 h2 hij
theorem Zif {I M:List (Int × Int)} (h:IdsOK I) (p:Int × Int→Bool) (hM:M.Perm (I.filter p)) (hs:M.Pairwise (fun x y => ¬ y.2<x.2)):M=(Z9o I).filter p:=by
 have hp2:M.Perm ((Z9o I).filter p):=hM.trans ((Z5g I).filter p).symm
 refine List.Perm.eq_of_pairwise (le:=fun x y:Int × Int=>x.2≤y.2) (fun a b ha hb h1 h2 => ?_) (hs.imp (fun h=>by omega)) ((Znl I).filter p) hp2
 have ha':a∈Z9o I:=(List.mem_filter.1 (hp2.mem_iff.1 ha)).1
 have hb':b∈Z9o I:=(List.mem_filter.1 hb).1
 obtain ⟨i,hi⟩:=List.getElem?_of_mem ha'
 obtain ⟨j,hj⟩:=List.getElem?_of_mem hb'
 have hL:=Zqy h
 by_cases e:i=j
 ·subst e
  rw [hi] at hj
  cases hj
  rfl
 ·rcases Nat.lt_or_gt_of_ne e with c | c
  ·have:=Ztb hL hi hj c
   omega
  ·have:=Ztb hL hj hi c
   omega
theorem Z8f {nH:Nat}{hb:Nat→Bool}{l:List (Int × Int)} (h:Z67 nH hb l=true) {i:Nat}{x:Int × Int} (hi:l[i]?=some x):Z33 nH hb x.1=true∧1≤x.2∧((l.take (i+1)).map (·.2)).count x.2≤1:=by
 have hl:i<l.length:=(List.getElem?_eq_some_iff.1 hi).1
 have h1:=List.all_eq_true.1 h i (List.mem_range.2 hl)
 unfold idB at h1
 rw [hi] at h1
 simp only [Bool.and_eq_true,decide_eq_true_eq] at h1
 exact ⟨h1.1,h1.2.1,h1.2.2.2⟩
theorem Zsn {nH:Nat}{hb:Nat→Bool}{l:List (Int × Int)} (h:Z67 nH hb l=true):IdsOK l where
 pos:=fun x hx=>by
  obtain ⟨i,hi⟩:=List.getElem?_of_mem hx
  exact (Z8f h hi).2.1
 nodup:=by
  rw [List.pairwise_iff_getElem]
  intro i j hi hj hij he
  have h3:=(Z8f h (List.getElem?_eq_getElem hj)).2.2
  rw [List.take_add_one,List.getElem?_eq_getElem hj,List.map_append,List.count_append] at h3
  have h4:l[j].2∈(l.take j).map (·.2):=by
   rw [←he]
   exact List.mem_map.2 ⟨l[i],List.mem_of_getElem? (i:=i) (by rw [List.getElem?_take,if_pos hij,List.getElem?_eq_getElem hi]),rfl⟩
  have h5:=List.count_pos_iff.2 h4
  have h6:(List.map (fun x:Int × Int=>x.2) (some l[j]).toList).count l[j].2=1:=by simp
  omega
theorem Z9b {nH:Nat}{hb:Nat→Bool}{l:List (Int × Int)} (h:Z67 nH hb l=true):∀ x∈l,Z33 nH hb x.1=true:=fun x hx=>by
 obtain ⟨i,hi⟩:=List.getElem?_of_mem hx
 exact (Z8f h hi).1
def gId (out:List Nat) (acc:ByteArray) (x:Int × Int):ByteArray:=if objI out (ptI x.1)<0 then acc else ((((acc++⟨#[105,100,32]⟩)++Z1c x.2)++⟨#[32,64]⟩)++Z1c (objI out (ptI x.1)))++⟨#[10]⟩
def Z6u (out:List Nat) (acc:ByteArray) (l:List (Int × Int)):ByteArray:=l.foldl (gId out) acc
theorem Zl4 {out:List Nat}{acc:ByteArray}{l:List (Int × Int)}{k:Nat}{x:Int × Int} (h:l[k]?=some x):Z6u out acc (l.take (k+1))=gId out (Z6u out acc (l.take k)) x:=by
 unfold Z6u
 rw [List.take_add_one,h,List.foldl_append]
 rfl
theorem ord64 {I:List (Int × Int)} (h:Zd7 I):Zd7 (Z9o I):=fun x hx=>h x ((Z5g I).mem_iff.1 hx)
end Go.Proofs.YtlkcbdinlfeoiaaGreatDoor
namespace Go.Proofs.YtlkcbdinlfeoiaaGreatDoor
open Go.Proofs.Tryz
open Go.RowKit

def mvI (φ:Nat→Nat) (x:Int):Int:=if 0≤ptI x then ((φ (ptI x).toNat:Int)+1)*4 else x
def Z4y (S:Nat→Prop) (x:Int):Prop:=0≤ptI x→S (ptI x).toNat
structure Iso (F G:Nat→Int) (S:Nat→Prop) (φ:Nat→Nat):Prop where
 inj:∀ f g,S f→S g→φ f=φ g→f=g
 few:∀ f,S f→φ f<1099511627776
 kind:∀ f,S f→G (φ f) / 4 % 256=F f / 4 % 256
 size:∀ f,S f→szN (G (φ f))=szN (F f)
 fld:∀ f,S f → ∀ k,k<szN (F f)→G (φ f+1+k)=if F f / 4 % 256<8 then F (f+1+k) else mvI φ (F (f+1+k))
 cl:∀ f,S f → ¬ F f / 4 % 256<8 → ∀ k,k<szN (F f)→Z4y S (F (f+1+k))
theorem Z86 {f:Nat} (h:f<1099511627776):ptI (((f:Int)+1)*4)=(f:Int):=by unfold ptI;rw [if_pos (by omega)];omega
theorem Zt9 {S:Nat→Prop}{φ:Nat→Nat} (hf:∀ f,S f→φ f<1099511627776) {x:Int} (hx:Z4y S x) (h:0≤ptI x):ptI (mvI φ x)=(φ (ptI x).toNat:Int):=by
 unfold mvI
 rw [if_pos h,Z86 (hf _ (hx h))]
theorem Zcg {φ:Nat→Nat}{x:Int} (h:¬ 0≤ptI x):mvI φ x=x:=by unfold mvI;rw [if_neg h]
theorem Zec {vs:List Nat}{x:Int} (h:x<0):objI vs x = -1:=by
 unfold objI
 rw [List.findIdx?_eq_none_iff.2]
 intro v _
 rw [beq_eq_false_iff_ne]
 omega
theorem Z83 {S:Nat→Prop}{φ:Nat→Nat} (hi:∀ f g,S f→S g→φ f=φ g→f=g) {f:Nat} (hf:S f):∀ {out:List Nat},(∀ g∈out,S g)→objI (out.map φ) (φ f:Int)=objI out (f:Int):=fun {out} h=>by
 unfold objI
 rw [List.findIdx?_map]
 have e:out.findIdx? ((fun v:Nat=>((v:Int) == (φ f:Int))) ∘ φ)=out.findIdx? (fun v:Nat=>((v:Int) == (f:Int))):=by
  induction out with
  | nil=>rfl
  | cons a l ih =>
   have ih:=ih (fun g hg=>h g (by simp [hg]))
   have ha:(((fun v:Nat=>((v:Int) == (φ f:Int))) ∘ φ) a)=((a:Int) == (f:Int)):=by
    show ((φ a:Int) == (φ f:Int))=((a:Int) == (f:Int))
    rw [Bool.eq_iff_iff,beq_iff_eq,beq_iff_eq]
    constructor
    ·intro e
     have:=hi a f (h a (by simp)) hf (by omega)
     omega
    ·intro e
     obtain rfl:a=f:=by omega
     rfl
   rw [List.findIdx?_cons,List.findIdx?_cons,ha,ih]
 rw [e]
theorem Zhc {S:Nat→Prop}{φ:Nat→Nat} (hi:∀ f g,S f→S g→φ f=φ g→f=g) (hf:∀ f,S f→φ f<1099511627776) {out:List Nat} (ho:∀ g∈out,S g) {x:Int} (hx:Z4y S x):Z10 (out.map φ) (mvI φ x)=Z10 out x:=by
 by_cases h:0≤ptI x
 ·have hp:=Zt9 hf hx h
  have hb:=hx h
  have hx4:x % 4=0∧4≤x:=by
   unfold ptI at h
   split at h
   ·rename_i c;exact ⟨c.1,c.2.1⟩
   ·omega
  obtain ⟨g,hg⟩:∃ g,g=(ptI x).toNat:=⟨_,rfl⟩
  have hgi:ptI x=(g:Int):=by omega
  have he:mvI φ x=((φ g:Int)+1)*4:=by unfold mvI;rw [if_pos h,hg]
  rw [←hg] at hp hb
  have ho':objI (out.map φ) (φ g:Int)=objI out (g:Int):=Z83 hi hb ho
  unfold Z10
  have e1:¬ ((φ g:Int)+1)*4 % 4=1:=by omega
  have e2:¬ ((φ g:Int)+1)*4 % 4=2:=by omega
  have e3:¬ ((φ g:Int)+1)*4=0:=by omega
  have d1:¬ x % 4=1:=by omega
  have d2:¬ x % 4=2:=by omega
  have d3:¬ x=0:=by omega
  rw [hp,hgi,ho',he,if_neg e1,if_neg e2,if_neg e3,if_neg d1,if_neg d2,if_neg d3]
 ·rw [Zcg h]
  unfold Z10
  rw [Zec (vs:=out.map φ) (by omega),Zec (vs:=out) (by omega)]
theorem Zpj {S:Nat→Prop}{φ:Nat→Nat} (hi:∀ f g,S f→S g→φ f=φ g→f=g) (hf:∀ f,S f→φ f<1099511627776) {out:List Nat} (ho:∀ g∈out,S g) {x:Int} (hx:Z4y S x):Z2b (out.map φ) (mvI φ x)=(Z2b out x).map φ ∧ ∀ g∈Z2b out x,S g:=by
 by_cases h:0≤ptI x
 ·have hp:=Zt9 hf hx h
  have hb:=hx h
  obtain ⟨g,hg⟩:∃ g,g=(ptI x).toNat:=⟨_,rfl⟩
  have hgi:ptI x=(g:Int):=by omega
  rw [←hg] at hp hb
  have ho':objI (out.map φ) (φ g:Int)=objI out (g:Int):=Z83 hi hb ho
  unfold Z2b
  rw [hp,hgi,ho']
  by_cases hc:objI out (g:Int)<0
  ·rw [if_pos ⟨by omega,hc⟩,if_pos ⟨by omega,hc⟩,List.map_append]
   refine ⟨by simp,fun k hk => ?_⟩
   rcases List.mem_append.1 hk with hk | hk
   ·exact ho k hk
   ·simp at hk;rw [hk];exact hb
  ·rw [if_neg (fun h=>hc h.2),if_neg (fun h=>hc h.2)]
   exact ⟨rfl,ho⟩
 ·rw [Zcg h]
  unfold Z2b
  rw [if_neg (fun c=>h c.1),if_neg (fun c=>h c.1)]
  exact ⟨rfl,ho⟩
theorem Z96 {S:Nat→Prop}{φ:Nat→Nat} (hi:∀ f g,S f→S g→φ f=φ g→f=g) (hf:∀ f,S f→φ f<1099511627776):∀ {l:List Int}{out:List Nat},(∀ g∈out,S g)→(∀ x∈l,Z4y S x)→Z0o (out.map φ) (l.map (mvI φ))=(Z0o out l).map φ ∧ ∀ g∈Z0o out l,S g
 | [],out,ho,_=>⟨rfl,ho⟩
 | x::l,out,ho,hl=>by
  obtain ⟨e,h⟩:=Zpj hi hf ho (hl x (by simp))
  have ih:=Z96 hi hf (l:=l) h (fun y hy=>hl y (by simp [hy]))
  show Z0o (Z2b (out.map φ) (mvI φ x)) (l.map (mvI φ))=(Z0o (Z2b out x) l).map φ∧_
  rw [e]
  exact ih
variable {F G:Nat→Int}{S:Nat→Prop}{φ:Nat→Nat}
theorem Iso.fields (h:Iso F G S φ) {f:Nat} (hf:S f):Z07 G (φ f)=if F f / 4 % 256<8 then Z07 F f else (Z07 F f).map (mvI φ):=by
 have h1:=h.fld f hf
 unfold Z07
 rw [h.size f hf]
 by_cases hk:F f / 4 % 256<8
 ·rw [if_pos hk]
  refine List.map_congr_left fun j hj => ?_
  rw [h1 j (List.mem_range.1 hj),if_pos hk]
 ·rw [if_neg hk,List.map_map]
  refine List.map_congr_left fun j hj => ?_
  rw [h1 j (List.mem_range.1 hj),if_neg hk]
  rfl
theorem Iso.ptIn (h:Iso F G S φ) {f:Nat} (hf:S f) (hk:¬ F f / 4 % 256<8):∀ x∈Z07 F f,Z4y S x:=fun x hx=>by
 unfold Z07 at hx
 obtain ⟨j,hj,rfl⟩:=List.mem_map.1 hx
 exact h.cl f hf hk j (List.mem_range.1 hj)
theorem Iso.step (h:Iso F G S φ) {out:List Nat} (ho:∀ g∈out,S g) {f:Nat} (hf:S f):Z36 G (out.map φ) (φ f)=(Z36 F out f).map φ ∧ ∀ g∈Z36 F out f,S g:=by
 unfold Z36
 rw [h.kind f hf,h.fields hf]
 by_cases hk:F f / 4 % 256<8
 ·rw [if_pos hk,if_pos hk];exact ⟨rfl,ho⟩
 ·rw [if_neg hk,if_neg hk,if_neg hk]
  exact Z96 h.inj h.few ho (h.ptIn hf hk)
theorem Iso.reach (h:Iso F G S φ):∀ (n:Nat) (out:List Nat) (k:Nat),(∀ g∈out,S g)→Z0z G n (out.map φ) k=(Z0z F n out k).map φ ∧ ∀ g∈Z0z F n out k,S g
 | 0,out,_,ho=>⟨rfl,ho⟩
 | n+1,out,k,ho=>by
  unfold Z0z
  rw [List.getElem?_map]
  cases e:out[k]? with
  | none=>exact ⟨rfl,ho⟩
  | some f =>
   have hf:=ho f (List.mem_of_getElem? e)
   obtain ⟨e1,h1⟩:=h.step ho hf
   show Z0z G n (Z36 G (out.map φ) (φ f)) (k+1)=_∧_
   rw [e1]
   exact h.reach n _ (k+1) h1
theorem Z4r {F:Nat→Int}{vs:List Nat} (hR:Reachy F vs) (j:Nat):∀ (n:Nat) (out:List Nat) (k:Nat),Outs vs out→vs.length+1≤n+k→Z0z F (n+j) out k=Z0z F n out k
 | 0,out,k,ho,hk=>by
  have:=ho.len
  rw [Z42 (by omega),Z42 (by omega)]
 | n+1,out,k,ho,hk=>by
  rw [Nat.succ_add]
  conv=>lhs;unfold Z0z
  conv=>rhs;unfold Z0z
  cases e:out[k]? with
  | none=>rfl
  | some f=>exact Z4r hR j n _ (k+1) (ho.step hR (ho.sub f (List.mem_of_getElem? e))) (by omega)
end Go.Proofs.YtlkcbdinlfeoiaaGreatDoor
namespace Go.Proofs.YtlkcbdinlfeoiaaGreatDoor
open Go.Proofs.Tryz
open Go.RowKit

variable {F G:Nat→Int}{S:Nat→Prop}{φ:Nat→Nat}
theorem Zar (hi:∀ f g,S f→S g→φ f=φ g→f=g) (hf:∀ f,S f→φ f<1099511627776) {out:List Nat} (ho:∀ g∈out,S g) (s:ByteArray):∀ {l:List Int}{acc:ByteArray},(∀ x∈l,Z4y S x)→Z0d s (out.map φ) acc (l.map (mvI φ))=Z0d s out acc l
 | [],_,_=>rfl
 | x::l,acc,hl=>by
  show Z0d s (out.map φ) (Z3z s (out.map φ) acc (mvI φ x)) (l.map (mvI φ))=Z0d s out (Z3z s out acc x) l
  have e:Z3z s (out.map φ) acc (mvI φ x)=Z3z s out acc x:=by unfold Z3z;rw [Zhc hi hf ho (hl x (by simp))]
  rw [e]
  exact Zar hi hf ho s (fun y hy=>hl y (by simp [hy]))
theorem Z89 (hi:∀ f g,S f→S g→φ f=φ g→f=g) (hf:∀ f,S f→φ f<1099511627776) {out:List Nat} (ho:∀ g∈out,S g) {kd:Int} (hk:¬ kd<8):∀ {l:List Int}{acc:ByteArray},(∀ x∈l,Z4y S x)→Z1d kd (out.map φ) acc (l.map (mvI φ))=Z1d kd out acc l
 | [],_,_=>rfl
 | x::l,acc,hl=>by
  show Z1d kd (out.map φ) (Z20 kd (out.map φ) acc (mvI φ x)) (l.map (mvI φ))=Z1d kd out (Z20 kd out acc x) l
  have e:Z20 kd (out.map φ) acc (mvI φ x)=Z20 kd out acc x:=by unfold Z20;rw [if_neg hk,if_neg hk,Zhc hi hf ho (hl x (by simp))]
  rw [e]
  exact Z89 hi hf ho hk (fun y hy=>hl y (by simp [hy]))
theorem Z8z {out out':List Nat}{kd:Int} (hk:kd<8):∀ {l:List Int}{acc:ByteArray},Z1d kd out' acc l=Z1d kd out acc l
 | [],_=>rfl
 | x::l,acc=>by
  show Z1d kd out' (Z20 kd out' acc x) l=Z1d kd out (Z20 kd out acc x) l
  have e:Z20 kd out' acc x=Z20 kd out acc x:=by unfold Z20;rw [if_pos hk,if_pos hk]
  rw [e]
  exact Z8z hk
theorem Iso.objT (h:Iso F G S φ) {out:List Nat} (ho:∀ g∈out,S g) {f:Nat} (hf:S f) (i:Nat) (acc:ByteArray):Z4z G (out.map φ) i (φ f) acc=Z4z F out i f acc:=by
 unfold Z4z
 rw [h.kind f hf,h.fields hf]
 by_cases hk:F f / 4 % 256<8
 ·rw [if_pos hk,Z8z (out:=out) hk]
 ·rw [if_neg hk,Z89 h.inj h.few ho hk (h.ptIn hf hk)]
theorem Iso.objs (h:Iso F G S φ) {out:List Nat} (ho:∀ g∈out,S g) (acc:ByteArray):∀ k,Z0l G (out.map φ) acc k=Z0l F out acc k
 | 0=>rfl
 | k+1=>by
  unfold Z0l
  rw [List.getElem?_map]
  cases e:out[k]? with
  | none=>exact h.objs ho acc k
  | some f =>
   show Z4z G (out.map φ) k (φ f) (Z0l G (out.map φ) acc k)=Z4z F out k f (Z0l F out acc k)
   rw [h.objs ho acc k]
   exact h.objT ho (ho f (List.mem_of_getElem? e)) k _
theorem Z4c {m n:MD}{vs us:List Nat} (Sm:m.Shape vs) (h6:MD64 m) (Sn:n.Shape us) (h6n:MD64 n) (I:Iso m.F n.F S φ) (hR:n.R=m.R.map (mvI φ)) (hr:∀ x∈m.R,Z4y S x) :
  n.reach us=(m.reach vs).map φ ∧ ∀ g∈m.reach vs,S g:=by
 have hm:=Z4r (Sm.reachy h6) (us.length+1) (vs.length+1) (Z0o [] m.R) 0 ((Z5k vs).comes (Sm.roots h6)) (by omega)
 have hn:=Z4r (Sn.reachy h6n) (vs.length+1) (us.length+1) (Z0o [] n.R) 0 ((Z5k us).comes (Sn.roots h6n)) (by omega)
 obtain ⟨e,hS⟩:=Z96 I.inj I.few (l:=m.R) (out:=[]) (by simp) hr
 obtain ⟨e2,hS2⟩:=I.reach (vs.length+1+(us.length+1)) (Z0o [] m.R) 0 hS
 unfold MD.reach
 rw [hm] at e2 hS2
 refine ⟨?_,hS2⟩
 rw [←hn,hR,←e2,Nat.add_comm (us.length+1)]
 rw [show Z0o [] (m.R.map (mvI φ))=(Z0o [] m.R).map φ from e]
def MD.mainText (m:MD) (vs:List Nat):ByteArray:=Z0l m.F (m.reach vs) (Z0d sRoot (m.reach vs) ⟨#[]⟩ m.R) (m.reach vs).length
theorem Zdz {m n:MD}{vs us:List Nat} (I:Iso m.F n.F S φ) (hR:n.R=m.R.map (mvI φ)) (hr:∀ x∈m.R,Z4y S x) (he:n.reach us=(m.reach vs).map φ) (hs:∀ g∈m.reach vs,S g):n.mainText us=m.mainText vs:=by
 unfold MD.mainText
 rw [he,hR,Zar I.inj I.few hs sRoot hr,I.objs hs,List.length_map]
def Z9d (F:Nat→Int) (l:List Nat):Nat:=(l.map fun f=>1+szN (F f)).sum
theorem Zeb (I:Iso F G S φ) {l:List Nat} (hs:∀ g∈l,S g):Z9d G (l.map φ)=Z9d F l:=by
 unfold Z9d
 rw [List.map_map]
 congr 1
 refine List.map_congr_left fun f hf => ?_
 show 1+szN (G (φ f))=_
 rw [I.size f (hs f hf)]
end Go.Proofs.YtlkcbdinlfeoiaaGreatDoor
namespace Go.Proofs.YtlkcbdinlfeoiaaGreatDoor
open Go.Proofs.Tryz
open Go.RowKit

theorem Z8u (w:World) (e size:Nat):(w.alloc (.cells #[] e)).ownsRow w.heap.size e size (.slice (some ⟨w.heap.size,0,none⟩) 0 0) 0 []:=
 ⟨by simp,.inr ⟨w.heap.size,0,#[],rfl,Nat.le_refl _,heap_alloc_new w _,Nat.le_refl _,by unfold maxLen;omega,by simp,by simp⟩⟩

theorem nilYW (n c:Nat) (w:World):(binOp .eql 79 (.slice none n c) (.slice none 0 0)).run prog w = .ok (.bool true) w:=by kernel_rfl
theorem nilNW (ad:Addr) (n c:Nat) (w:World):(binOp .eql 79 (.slice (some ad) n c) (.slice none 0 0)).run prog w = .ok (.bool false) w:=by kernel_rfl
set_option maxHeartbeats 2000000 in
set_option maxRecDepth 100000 in
theorem Z2j (ao:Option Addr) (n c:Nat) (w:World) (xs:List Value) (hl:xs.length=n*1) (hsrc:0<n → ∃ ad:Addr,ao=some ad∧ad.block<w.heap.size ∧ ∀ j v,xs[j]?=some v→w.cell? (ad.add j)=some v) (h1:∀ v∈xs,v.oneCell'=true) (hn:n≤300000) :
  Calls prog 96 #[.slice ao n c] w fun ev w' => ∃ ao' c',ev = .returned (.slice ao' n c')∧w'.ownsRow w.heap.size 81 1 (.slice ao' n c') n xs∧Below w.heap.size w w':=by
 obtain ⟨i0,hi0,hz0,hz1,hz2⟩:=Zll
 cases ao with
 | none =>
  obtain rfl:n=0:=by
   rcases Nat.eq_zero_or_pos n with h | h
   ·exact h
   ·obtain ⟨_,e,_⟩:=hsrc h;cases e
  obtain rfl:xs = []:=List.eq_nil_of_length_eq_zero (by omega)
  have hq:=nilYW
  go_enter func96,ntmps96
  go_wp2_with fail
  go_ret
  exact ⟨none,0,rfl,⟨rfl,.inl ⟨rfl,rfl⟩⟩,Below.refl _ _⟩
 | some ad =>
  have HS:Hid (∀ j v,xs[j]?=some v→w.cell? (ad.add j)=some v):=fun j v hj=>by
   rcases Nat.eq_zero_or_pos n with h | h
   ·subst h;have:=(List.getElem?_eq_some_iff.1 hj).1;omega
   ·obtain ⟨_,e,_,h⟩:=hsrc h;cases e;exact h j v hj
  clear hsrc
  have hq:=nilNW
  go_enter func96,ntmps96
  go_wp2_with (at_builtin;refine wpList_append_own _ rfl _ _ _ rfl w.heap.size 81 i0 (.int .u64 0) 1 8 underlying79 hi0 hz0 hz1 hz2 rfl (by decide) (.slice (some ⟨w.heap.size,0,none⟩) 0 0) 0 [] rfl (Z8u w 81 1) ad n c xs rfl hl (fun j v hj=>(((Below.refl _ _).alloc (Nat.le_refl _) _).cell (p:=ad.add j) (Z03 (HS.out j v hj))).trans (HS.out j v hj)) h1 (by unfold maxLen;omega) (by omega) (by simp) ?_;intro v' w' hown hgrow hnil)
  rw [Nat.zero_add,List.nil_append] at hown
  obtain ⟨ao',c',rfl⟩:=Z1s hown
  go_ret
  exact ⟨ao',c',rfl,hown,((Below.refl _ _).alloc (Nat.le_refl _) _).grown hgrow (by simp) (fun k hk=>by cases hk;exact Nat.le_refl _)⟩
theorem nilYI (n c:Nat) (w:World):(binOp .eql 82 (.slice none n c) (.slice none 0 0)).run prog w = .ok (.bool true) w:=by kernel_rfl
theorem nilNI (ad:Addr) (n c:Nat) (w:World):(binOp .eql 82 (.slice (some ad) n c) (.slice none 0 0)).run prog w = .ok (.bool false) w:=by kernel_rfl
set_option maxHeartbeats 2000000 in
set_option maxRecDepth 100000 in
theorem Ziu (ao:Option Addr) (n c:Nat) (w:World) (xs:List Value) (hl:xs.length=n*2) (hsrc:0<n → ∃ ad:Addr,ao=some ad∧ad.block<w.heap.size ∧ ∀ j v,xs[j]?=some v→w.cell? (ad.add j)=some v) (h1:∀ v∈xs,v.oneCell'=true) (hn:n≤300000) :
  Calls prog 97 #[.slice ao n c] w fun ev w' => ∃ ao' c',ev = .returned (.slice ao' n c')∧w'.ownsRow w.heap.size 123 2 (.slice ao' n c') n xs∧Below w.heap.size w w':=by
 obtain ⟨i0,hi0,hz0,hz1,hz2⟩:=Zr0
 cases ao with
 | none =>
  obtain rfl:n=0:=by
   rcases Nat.eq_zero_or_pos n with h | h
   ·exact h
   ·obtain ⟨_,e,_⟩:=hsrc h;cases e
  obtain rfl:xs = []:=List.eq_nil_of_length_eq_zero (by omega)
  have hq:=nilYI
  go_enter func97,ntmps97
  go_wp2_with fail
  go_ret
  exact ⟨none,0,rfl,⟨rfl,.inl ⟨rfl,rfl⟩⟩,Below.refl _ _⟩
 | some ad =>
  have HS:Hid (∀ j v,xs[j]?=some v→w.cell? (ad.add j)=some v):=fun j v hj=>by
   rcases Nat.eq_zero_or_pos n with h | h
   ·subst h;have:=(List.getElem?_eq_some_iff.1 hj).1;omega
   ·obtain ⟨_,e,_,h⟩:=hsrc h;cases e;exact h j v hj
  clear hsrc
  have hq:=nilNI
  go_enter func97,ntmps97
  go_wp2_with (at_builtin;refine wpList_append_own _ rfl _ _ _ rfl w.heap.size 123 i0 (.agg #[.int .u64 0,.int .i64 0]) 2 16 underlying82 hi0 hz0 hz1 hz2 rfl (by decide) (.slice (some ⟨w.heap.size,0,none⟩) 0 0) 0 [] rfl (Z8u w 123 2) ad n c xs rfl hl (fun j v hj=>(((Below.refl _ _).alloc (Nat.le_refl _) _).cell (p:=ad.add j) (Z03 (HS.out j v hj))).trans (HS.out j v hj)) h1 (by unfold maxLen;omega) (by omega) (by simp) ?_;intro v' w' hown hgrow hnil)
  rw [Nat.zero_add,List.nil_append] at hown
  obtain ⟨ao',c',rfl⟩:=Z1s hown
  go_ret
  exact ⟨ao',c',rfl,hown,((Below.refl _ _).alloc (Nat.le_refl _) _).grown hgrow (by simp) (fun k hk=>by cases hk;exact Nat.le_refl _)⟩
theorem nilYB (n c:Nat) (w:World):(binOp .eql 34 (.slice none n c) (.slice none 0 0)).run prog w = .ok (.bool true) w:=by kernel_rfl
theorem nilNB (ad:Addr) (n c:Nat) (w:World):(binOp .eql 34 (.slice (some ad) n c) (.slice none 0 0)).run prog w = .ok (.bool false) w:=by kernel_rfl
set_option maxHeartbeats 2000000 in
set_option maxRecDepth 100000 in
theorem Zj8 (ao:Option Addr) (n c:Nat) (w:World) (xs:List Value) (hl:xs.length=n*1) (hsrc:0<n → ∃ ad:Addr,ao=some ad∧ad.block<w.heap.size ∧ ∀ j v,xs[j]?=some v→w.cell? (ad.add j)=some v) (h1:∀ v∈xs,v.oneCell'=true) (hn:n≤300000) :
  Calls prog 98 #[.slice ao n c] w fun ev w' => ∃ ao' c',ev = .returned (.slice ao' n c')∧w'.ownsRow w.heap.size 4 1 (.slice ao' n c') n xs∧Below w.heap.size w w':=by
 obtain ⟨i0,hi0,hz0,hz1,hz2⟩:=Zch
 cases ao with
 | none =>
  obtain rfl:n=0:=by
   rcases Nat.eq_zero_or_pos n with h | h
   ·exact h
   ·obtain ⟨_,e,_⟩:=hsrc h;cases e
  obtain rfl:xs = []:=List.eq_nil_of_length_eq_zero (by omega)
  have hq:=nilYB
  go_enter func98,ntmps98
  go_wp2_with fail
  go_ret
  exact ⟨none,0,rfl,⟨rfl,.inl ⟨rfl,rfl⟩⟩,Below.refl _ _⟩
 | some ad =>
  have HS:Hid (∀ j v,xs[j]?=some v→w.cell? (ad.add j)=some v):=fun j v hj=>by
   rcases Nat.eq_zero_or_pos n with h | h
   ·subst h;have:=(List.getElem?_eq_some_iff.1 hj).1;omega
   ·obtain ⟨_,e,_,h⟩:=hsrc h;cases e;exact h j v hj
  clear hsrc
  have hq:=nilNB
  go_enter func98,ntmps98
  go_wp2_with (at_builtin;refine wpList_append_own _ rfl _ _ _ rfl w.heap.size 4 i0 (.bool false) 1 1 underlying34 hi0 hz0 hz1 hz2 rfl (by decide) (.slice (some ⟨w.heap.size,0,none⟩) 0 0) 0 [] rfl (Z8u w 4 1) ad n c xs rfl hl (fun j v hj=>(((Below.refl _ _).alloc (Nat.le_refl _) _).cell (p:=ad.add j) (Z03 (HS.out j v hj))).trans (HS.out j v hj)) h1 (by unfold maxLen;omega) (by omega) (by simp) ?_;intro v' w' hown hgrow hnil)
  rw [Nat.zero_add,List.nil_append] at hown
  obtain ⟨ao',c',rfl⟩:=Z1s hown
  go_ret
  exact ⟨ao',c',rfl,hown,((Below.refl _ _).alloc (Nat.le_refl _) _).grown hgrow (by simp) (fun k hk=>by cases hk;exact Nat.le_refl _)⟩
theorem Zis (w:World) (h ol c u t ot:Int) (v3 v7 v8 v9 v10:Value):Zbx 84 w w.heap.size h ol c v3 u t ot v7 v8 v9 v10 [] (w.alloc (.cells #[.int .i64 h,.int .i64 ol,.int .i64 c,v3,.int .i64 u,.int .i64 t,.int .i64 ot,v7,v8,v9,v10] 84)):=
 ⟨(Below.refl _ _).alloc (Nat.le_refl _) _,Nat.le_refl _,heap_alloc_new w _,show w.heap.size+1≤(w.alloc _).heap.size by simp⟩
set_option maxHeartbeats 4000000 in
set_option maxRecDepth 100000 in
theorem Zok (p:Nat) (m:MD) (w:World) (R:Zqk p 0 m w) (b1:m.W.length≤300000) (b2:m.R.length≤300000) (b3:m.K.length≤300000) (b4:m.I.length≤300000) (b5:m.C.length≤300000) :
  Calls prog 51 #[.pointer (some ⟨p,0,none⟩)] w fun ev w' => ∃ (a3 a7 a8 a9 a10:Option Addr) (k3 k7 k8 k9 k10:Nat),ev = .returned (.pointer (some ⟨w.heap.size,0,none⟩)) ∧
   Zbx 84 w w.heap.size m.half m.old m.card (.slice a3 m.W.length k3) m.used m.top m.oldTop (.slice a7 m.R.length k7) (.slice a8 m.K.length k8) (.slice a9 m.I.length k9) (.slice a10 m.C.length k10) [(81,1,.slice a3 m.W.length k3,m.W.length,Z04 m.W),(81,1,.slice a7 m.R.length k7,m.R.length,Z04 m.R),(81,1,.slice a8 m.K.length k8,m.K.length,Z04 m.K),(123,2,.slice a9 m.I.length k9,m.I.length,Z23 m.I),(4,1,.slice a10 m.C.length k10,m.C.length,Z0n m.C)] w':=by
 obtain ⟨_,_,_,_,_,hp,M,⟨aW,cW,rfl,rW⟩,⟨aR,cR,rfl,rR⟩,⟨aK,cK,rfl,rK⟩,⟨aI,cI,rfl,rI⟩,⟨aC,cC,rfl,rC⟩⟩:=R
 have HW:Hid (Z3m w (.slice aW m.W.length cW) m.W.length (Z04 m.W)):=⟨_,_,rfl,rW⟩
 have HR:Hid (Z3m w (.slice aR m.R.length cR) m.R.length (Z04 m.R)):=⟨_,_,rfl,rR⟩
 have HK:Hid (Z3m w (.slice aK m.K.length cK) m.K.length (Z04 m.K)):=⟨_,_,rfl,rK⟩
 have HI:Hid (Z3m w (.slice aI m.I.length cI) m.I.length (Z23 m.I)):=⟨_,_,rfl,rI⟩
 have HC:Hid (Z3m w (.slice aC m.C.length cC) m.C.length (Z0n m.C)):=⟨_,_,rfl,rC⟩
 have M':MemAt p m.half m.old m.card (.slice aW m.W.length cW) m.used m.top m.oldTop (.slice aR m.R.length cR) (.slice aK m.K.length cK) (.slice aI m.I.length cI) (.slice aC m.C.length cC) w:=⟨M.c0,M.c1,M.c2,M.c3,M.c4,M.c5,M.c6,M.c7,M.c8,M.c9,M.c10⟩
 have HM:=Z00 M'
 obtain ⟨c0,c1,c2,c3,c4,c5,c6,c7,c8,c9,c10⟩:=M'
 have hne:p≠w.heap.size:=by omega
 have hne2:w.heap.size≠p:=by omega
 clear M rW rR rK rI rC
 go_enter func51,ntmps51
 go_wp2_with fail
 have hS:=Zis w m.half m.old m.card m.used m.top m.oldTop (.slice aW m.W.length cW) (.slice aR m.R.length cR) (.slice aK m.K.length cK) (.slice aI m.I.length cI) (.slice aC m.C.length cC)
 clear c0 c1 c2 c3 c4 c5 c6 c7 c8 c9 c10
 have hS0:=hS.1
 refine (Z2j aW m.W.length cW _ (Z04 m.W) (by rw [Z3n];omega) (HW.out.below hS.1).src (Z22 _) b1).mono ?_
 rintro ev w3 ⟨a3,k3,rfl,hown,hb⟩
 obtain ⟨hbk,hS⟩:=Zni hS (Z0i hb) hown
 obtain ⟨⟨r0,r1,r2,r3,r4,r5,r6,r7,r8,r9,r10⟩,rf⟩:=OB.mem hbk
 have rf3:=rf 3
 have hlx:=Z01 hbk
 have hzb:Below w.heap.size w w3:=⟨hb.os.trans hS0.os,hb.tape.trans hS0.tape,hb.output.trans hS0.output,Nat.le_trans hS0.size hb.size,fun k hk=>(hb.block k (Nat.lt_of_lt_of_le hk hS0.size)).trans (hS0.block k hk)⟩
 have hnx:=(HM.out.below hzb hp).c7
 clear hown hb hbk rf r0 r1 r2 r4 r5 r6 hzb hS0
 go_wp2_with fail
 have hS0:=hS.1
 refine (Z2j aR m.R.length cR _ (Z04 m.R) (by rw [Z3n];omega) (HR.out.below hS.1).src (Z22 _) b2).mono ?_
 rintro ev w7 ⟨a7,k7,rfl,hown,hb⟩
 obtain ⟨hbk,hS⟩:=Zmi hS (Z0i hb) hown
 obtain ⟨⟨r0,r1,r2,r3,r4,r5,r6,r7,r8,r9,r10⟩,rf⟩:=OB.mem hbk
 have rf7:=rf 7
 have hlx:=Z01 hbk
 have hzb:Below w.heap.size w w7:=⟨hb.os.trans hS0.os,hb.tape.trans hS0.tape,hb.output.trans hS0.output,Nat.le_trans hS0.size hb.size,fun k hk=>(hb.block k (Nat.lt_of_lt_of_le hk hS0.size)).trans (hS0.block k hk)⟩
 have hnx:=(HM.out.below hzb hp).c8
 clear hown hb hbk rf r0 r1 r2 r4 r5 r6 hzb hS0
 go_wp2_with fail
 have hS0:=hS.1
 refine (Z2j aK m.K.length cK _ (Z04 m.K) (by rw [Z3n];omega) (HK.out.below hS.1).src (Z22 _) b3).mono ?_
 rintro ev w8 ⟨a8,k8,rfl,hown,hb⟩
 obtain ⟨hbk,hS⟩:=Zmg hS (Z0i hb) hown
 obtain ⟨⟨r0,r1,r2,r3,r4,r5,r6,r7,r8,r9,r10⟩,rf⟩:=OB.mem hbk
 have rf8:=rf 8
 have hlx:=Z01 hbk
 have hzb:Below w.heap.size w w8:=⟨hb.os.trans hS0.os,hb.tape.trans hS0.tape,hb.output.trans hS0.output,Nat.le_trans hS0.size hb.size,fun k hk=>(hb.block k (Nat.lt_of_lt_of_le hk hS0.size)).trans (hS0.block k hk)⟩
 have hnx:=(HM.out.below hzb hp).c9
 clear hown hb hbk rf r0 r1 r2 r4 r5 r6 hzb hS0
 go_wp2_with fail
 have hS0:=hS.1
 refine (Ziu aI m.I.length cI _ (Z23 m.I) (by rw [lenI]) (HI.out.below hS.1).src (Zrb _) b4).mono ?_
 rintro ev w9 ⟨a9,k9,rfl,hown,hb⟩
 obtain ⟨hbk,hS⟩:=Zkr hS (Z0i hb) hown
 obtain ⟨⟨r0,r1,r2,r3,r4,r5,r6,r7,r8,r9,r10⟩,rf⟩:=OB.mem hbk
 have rf9:=rf 9
 have hlx:=Z01 hbk
 have hzb:Below w.heap.size w w9:=⟨hb.os.trans hS0.os,hb.tape.trans hS0.tape,hb.output.trans hS0.output,Nat.le_trans hS0.size hb.size,fun k hk=>(hb.block k (Nat.lt_of_lt_of_le hk hS0.size)).trans (hS0.block k hk)⟩
 have hnx:=(HM.out.below hzb hp).c10
 clear hown hb hbk rf r0 r1 r2 r4 r5 r6 hzb hS0
 go_wp2_with fail
 have hS0:=hS.1
 refine (Zj8 aC m.C.length cC _ (Z0n m.C) (by rw [lenB];omega) (HC.out.below hS.1).src (Zn0 _) b5).mono ?_
 rintro ev w10 ⟨a10,k10,rfl,hown,hb⟩
 obtain ⟨hbk,hS⟩:=Zjb hS (Z0i hb) hown
 obtain ⟨⟨r0,r1,r2,r3,r4,r5,r6,r7,r8,r9,r10⟩,rf⟩:=OB.mem hbk
 have rf10:=rf 10
 have hlx:=Z01 hbk
 have hzb:Below w.heap.size w w10:=⟨hb.os.trans hS0.os,hb.tape.trans hS0.tape,hb.output.trans hS0.output,Nat.le_trans hS0.size hb.size,fun k hk=>(hb.block k (Nat.lt_of_lt_of_le hk hS0.size)).trans (hS0.block k hk)⟩
 have hnx:=(HM.out.below hzb hp).c10
 clear hown hb hbk rf r0 r1 r2 r4 r5 r6 hzb hS0
 go_wp2_with fail
 go_ret
 exact ⟨a3,a7,a8,a9,a10,k3,k7,k8,k9,k10,rfl,hS⟩
end Go.Proofs.YtlkcbdinlfeoiaaGreatDoor
