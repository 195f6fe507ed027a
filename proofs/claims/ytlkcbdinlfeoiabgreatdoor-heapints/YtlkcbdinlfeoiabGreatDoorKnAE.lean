/- The document's memory: what CheckOf answers is what survey says (plain laws). -/
import Derived.Test.YtlkcbdinlfeoiabGreatDoorKnAD
import Derived.Lib.AppendIntMem
import Derived.Lib.SmallJoins
import Derived.Laws.Concat
import Derived.Deep.RegionHeld3
import Derived.Deep.DrawnRows
import Derived.Lib.Itoa
import Derived.Deep.CutBlock
import Derived.Deep.QuietTactic
import Derived.BigQuiet
namespace Go.Proofs.YtlkcbdinlfeoiabGreatDoor
open Go.RowKit

def okO (F:Nat→Int) (h:Int) (vs:List Nat) (v:Nat):Bool:=(decide ((v:Int)<2*h) || decide (F v / 1024 % 16=0)) && (decide (F v / 4 % 256<8) || (fieldsP F v).all (fieldR vs))
def cardO (F:Nat→Int) (C:Nat→Bool) (h c:Int) (v:Nat):Bool:=decide ((v:Int)<2*h) || (decide (F v / 4 % 256<8) || (List.range (szN (F v))).all fun j=>cardB F C h c (v+1+j))
def idR (vs:List Nat) (l:List (Int × Int)) (i:Nat):Bool:=match l[i]? with
 | some x=>decide (0≤ptI x.1) && (decide (0≤objI vs (ptI x.1)) && (decide (1≤x.2) && (l.take i).all fun y => !(y.1 == x.1) && !(y.2 == x.2)))
 | none=>true
def MD.fine (m:MD) (vs:List Nat):Bool:=m.R.all (fieldR vs) && (m.K.all (fieldR vs) && (vs.all (okO m.F m.half vs) && (List.range m.I.length).all (idR vs m.I)))
def MD.chk (m:MD) (vs:List Nat):Int:=if m.fine vs then (if vs.all (cardO m.F m.Cf m.half m.card) then 0 else 5) else 3
def ChkP (m:MD) (n:Int):Prop:=(∃ l1 l2,walkP m.F (G0 m.F) (m.n1 - m.n0) m.n0 m.n1=some l1∧walkP m.F (G0 m.F) (m.m1 - m.m0) m.m0 m.m1=some l2∧n=m.chk (l1++l2))∨((walkP m.F (G0 m.F) (m.n1 - m.n0) m.n0 m.n1=none∨walkP m.F (G0 m.F) (m.m1 - m.m0) m.m0 m.m1=none)∧n=3)
theorem all_congr {α:Type}{l:List α}{f g:α→Bool} (h:∀ x∈l,f x=g x):l.all f=l.all g:=by
 induction l with
 | nil=>rfl
 | cons a l ih=>rw [List.all_cons,List.all_cons,h a (List.mem_cons_self ..),ih fun x hx=>h x (List.mem_cons_of_mem _ hx)]
theorem ptr_eq {vs:List Nat}{nW:Nat} (hv:∀ v∈vs,v<nW) (hn:nW≤300000) {x:Int} : (decide (0≤ptI x) && decide (0≤objI vs (ptI x)))=ptrB nW (fun i=>decide (i∈vs)) x:=by
 unfold ptrB
 by_cases hc:x % 4=0∧4≤x
 ·rw [decide_eq_true hc,Bool.true_and]
  show _=(decide ((x / 4 - 1).toNat<nW) && decide ((x / 4 - 1).toNat∈vs))
  by_cases hm:(x / 4 - 1).toNat∈vs
  ·have hlt:=hv _ hm
   have hp:ptI x=x / 4 - 1:=by unfold ptI;rw [if_pos ⟨hc.1,hc.2,by omega⟩]
   rw [hp,decide_eq_true hlt,decide_eq_true hm,decide_eq_true (by omega:0≤x / 4 - 1),decide_eq_true (objI_pos.2 ⟨_,hm,by omega⟩)]
  ·rw [decide_eq_false hm,Bool.and_false]
   by_cases hp:0≤ptI x
   ·have hp2:ptI x=x / 4 - 1:=by
     unfold ptI at hp ⊢
     split at hp
     ·rename_i hc
      rw [if_pos hc]
     ·omega
    have hno:¬ 0≤objI vs (ptI x):=fun h=>by
     obtain ⟨v,hvm,e⟩:=objI_pos.1 h
     rw [hp2] at e
     exact hm (by rw [←e];simpa using hvm)
    rw [decide_eq_false hno,Bool.and_false]
   ·rw [decide_eq_false hp,Bool.false_and]
 ·rw [decide_eq_false hc,Bool.false_and]
  have hp:ptI x = -1:=by unfold ptI;rw [if_neg (fun h=>hc ⟨h.1,h.2.1⟩)]
  rw [hp]
  rfl
theorem count_last {l:List Int}{i:Nat}{x:Int} (h:l[i]?=some x):decide ((l.take (i+1)).count x≤1)=(l.take i).all fun y => !(y == x):=by
 rw [List.take_add_one,h,List.count_append]
 show decide ((l.take i).count x + [x].count x≤1)=_
 rw [List.count_singleton_self]
 by_cases hx:x∈l.take i
 ·have:=List.count_pos_iff.2 hx
  rw [decide_eq_false (by omega)]
  symm
  rw [List.all_eq_false]
  exact ⟨x,hx,by simp⟩
 ·rw [List.count_eq_zero.2 hx,decide_eq_true (by omega)]
  symm
  rw [List.all_eq_true]
  intro y hy
  simp only [Bool.not_eq_true',beq_eq_false_iff_ne]
  rintro rfl
  exact hx hy
theorem all_both {α:Type}{l:List α}{f g:α→Bool} : l.all (fun y=>f y && g y)=(l.all f && l.all g):=by
 induction l with
 | nil=>rfl
 | cons a l ih=>rw [List.all_cons,List.all_cons,List.all_cons,ih];cases f a <;> cases g a <;> cases l.all f <;> rfl
theorem id_eq {vs:List Nat}{nW:Nat} (hv:∀ v∈vs,v<nW) (hn:nW≤300000) (l:List (Int × Int)) (i:Nat):idR vs l i=idB nW (fun i=>decide (i∈vs)) l i:=by
 unfold idR idB
 cases h:l[i]? with
 | none=>rfl
 | some x =>
  show (decide (0≤ptI x.1) && (decide (0≤objI vs (ptI x.1)) && _))=(ptrB _ _ x.1 && _)
  rw [←Bool.and_assoc,ptr_eq hv hn,List.map_take,List.map_take,count_last (l:=l.map (·.1)) (i:=i) (x:=x.1) (by rw [List.getElem?_map,h];rfl),count_last (l:=l.map (·.2)) (i:=i) (x:=x.2) (by rw [List.getElem?_map,h];rfl),←List.map_take,←List.map_take,List.all_map,List.all_map,all_both]
  rfl
theorem ok_eq {m:MD} (h64:MD64 m) {vs:List Nat} (hv:∀ v∈vs,v+1+szN (m.F v)≤m.W.length) (hn:m.W.length≤300000):∀ v∈vs,okO m.F m.half vs v=((decide ((v:Int)<2*m.half) || decide (m.F v / 1024 % 16=0)) && G2 m.F m.W.length (fun i=>decide (i∈vs)) v):=fun v hvm=>by
 have hv1:∀ v∈vs,v<m.W.length:=fun v h=>by have:=hv v h;omega
 unfold okO G2
 have:(fieldsP m.F v).all (fieldR vs)=(fieldsP m.F v).all (fieldB m.W.length fun i=>decide (i∈vs)):=by
  apply all_congr
  intro x hx
  obtain ⟨j,hj,rfl⟩:=List.mem_map.1 hx
  have hj:=List.mem_range.1 hj
  have hb:=hv v hvm
  apply fieldR_eq hv1 hn
  unfold MD.F
  rw [List.getD_eq_getElem?_getD,List.getElem?_eq_getElem (by omega)]
  exact (h64.w _ (List.getElem_mem _)).1
 rw [this]
theorem ChkP.out {m:MD}{n:Int} (h:ChkP m n) (hF:m.FitsM) (h64:MD64 m):(∃ vs,m.Shape vs∧m.cardsB=true∧n=0)∨(∃ vs,m.Shape vs∧m.cardsB=false∧n=5)∨((∀ vs,¬ m.Shape vs)∧n=3):=by
 have P:=MD.parts hF
 have hle:=P.le hF
 have hnW:m.W.length≤300000:=by obtain ⟨⟨a0,a1,a2,a3,a4,a5⟩,hw,_⟩:=hF;omega
 have hn1:(m.n1:Int)≤2*m.half:=by
  obtain ⟨⟨a0,a1,a2,a3,a4,a5⟩,hw,_,u0,u1,t0,t1,o0,o1⟩:=hF
  have b1:=P.n1
  obtain e | e:m.used=0∨m.used=1:=by omega
  ·rw [e,Int.zero_mul] at b1;omega
  ·rw [e,Int.one_mul] at b1;omega
 have hm0:=P.m0
 rcases h with ⟨l1,l2,e1,e2,rfl⟩ | ⟨hno,rfl⟩
 ·have b1:=(walkP_some.1 e1)
  have b2:=(walkP_some.1 e2)
  obtain ⟨vs,hvs⟩:∃ vs,vs=l1++l2:=⟨_,rfl⟩
  have hv:∀ v∈vs,v+1+szN (m.F v)≤m.W.length:=fun v hv=>by
   rw [hvs] at hv
   rcases List.mem_append.1 hv with h | h
   ·have:=(walkP_lt e1 v h).2;omega
   ·have:=(walkP_lt e2 v h).2;omega
  have hv1:∀ v∈vs,v<m.W.length:=fun v h=>by have:=hv v h;omega
  have hO:∀ us,m.objs=some us ↔ us=vs∧vs.all (fun f:Nat=>decide ((f:Int)<2*m.half) || decide (m.F f / 1024 % 16=0))=true:=fun us=>by
   have k1:walkP m.F (G1 m.F m.half) (m.n1 - m.n0) m.n0 m.n1=if l1.all (fun f:Nat=>decide ((f:Int)<2*m.half) || decide (m.F f / 1024 % 16=0)) then some l1 else none:=by
    rw [walkP_all,b1.1]
    show (if l1.all (G1 m.F m.half) then some l1 else none)=_
    have:l1.all (G1 m.F m.half)=(l1.all (G0 m.F) && l1.all (fun f:Nat=>decide ((f:Int)<2*m.half) || decide (m.F f / 1024 % 16=0))):=all_both
    rw [this,b1.2,Bool.true_and]
   have k2:walkP m.F (G1 m.F m.half) (m.m1 - m.m0) m.m0 m.m1=if l2.all (fun f:Nat=>decide ((f:Int)<2*m.half) || decide (m.F f / 1024 % 16=0)) then some l2 else none:=by
    rw [walkP_all,b2.1]
    show (if l2.all (G1 m.F m.half) then some l2 else none)=_
    have:l2.all (G1 m.F m.half)=(l2.all (G0 m.F) && l2.all (fun f:Nat=>decide ((f:Int)<2*m.half) || decide (m.F f / 1024 % 16=0))):=all_both
    rw [this,b2.2,Bool.true_and]
   unfold MD.objs
   rw [k1,k2,hvs,List.all_append]
   cases l1.all _ <;> cases l2.all _ <;> simp
   exact eq_comm
  have hH:m.holdB vs=vs.all (G2 m.F m.W.length fun i=>decide (i∈vs)):=by
   unfold MD.holdB
   rw [walkP_isSome b1.1,walkP_isSome b2.1,←List.all_append,←hvs]
  have hok:vs.all (okO m.F m.half vs)=(vs.all (fun f:Nat=>decide ((f:Int)<2*m.half) || decide (m.F f / 1024 % 16=0)) && m.holdB vs):=by
   rw [hH,←all_both]
   exact all_congr (ok_eq h64 hv hnW)
  have hre:(m.R.all (fieldR vs) && (m.K.all (fieldR vs) && (List.range m.I.length).all (idR vs m.I)))=m.restB vs:=by
   unfold MD.restB idsB
   rw [all_congr (l:=m.R) fun x hx=>fieldR_eq hv1 hnW (h64.r x hx).1,all_congr (l:=m.K) fun x hx=>fieldR_eq hv1 hnW (h64.k x hx).1,all_congr (l:=List.range m.I.length) fun i _=>id_eq hv1 hnW m.I i]
  have hca:m.cardsB=vs.all (cardO m.F m.Cf m.half m.card):=by
   unfold MD.cardsB
   rw [walkP_isSome b2.1,hvs,List.all_append]
   have c1:l1.all (cardO m.F m.Cf m.half m.card)=true:=by
    rw [List.all_eq_true]
    intro v hv
    have:=(walkP_lt e1 v hv).2
    unfold cardO
    rw [decide_eq_true (by omega:(v:Int)<2*m.half),Bool.true_or]
   rw [c1,Bool.true_and]
   apply all_congr
   intro v hv
   have:=(walkP_lt e2 v hv).1
   unfold cardO G3
   rw [decide_eq_false (by omega:¬ (v:Int)<2*m.half),Bool.false_or]
  have hfi:m.fine vs=(vs.all (fun f:Nat=>decide ((f:Int)<2*m.half) || decide (m.F f / 1024 % 16=0)) && (m.holdB vs && m.restB vs)):=by
   unfold MD.fine
   rw [←hre,hok]
   cases m.R.all _ <;> cases m.K.all _ <;> cases vs.all (fun f:Nat=>decide ((f:Int)<2*m.half) || decide (m.F f / 1024 % 16=0)) <;> cases m.holdB vs <;> rfl
  rw [←hvs]
  unfold MD.chk
  rw [←hca]
  cases hf:m.fine vs with
  | true =>
   rw [hfi] at hf
   simp only [Bool.and_eq_true] at hf
   have S:m.Shape vs:=⟨hF,(hO vs).2 ⟨rfl,hf.1⟩,hf.2.1,hf.2.2⟩
   cases hc:m.cardsB with
   | true=>exact .inl ⟨vs,S,rfl,rfl⟩
   | false=>exact .inr (.inl ⟨vs,S,rfl,rfl⟩)
  | false =>
   refine .inr (.inr ⟨fun us S => ?_,rfl⟩)
   obtain ⟨rfl,ha⟩:=(hO us).1 S.2.1
   rw [hfi,ha,S.2.2.1,S.2.2.2] at hf
   cases hf
 ·refine .inr (.inr ⟨fun vs S => ?_,rfl⟩)
  have ho:=S.2.1
  unfold MD.objs at ho
  split at ho
  ·rename_i a1 a2 k1 k2
   have c1:=walkP_some.1 k1
   have c2:=walkP_some.1 k2
   have d1:a1.all (G0 m.F)=true:=by
    have:a1.all (G1 m.F m.half)=(a1.all (G0 m.F) && _):=all_both
    rw [this,Bool.and_eq_true] at c1
    exact c1.2.1
   have d2:a2.all (G0 m.F)=true:=by
    have:a2.all (G1 m.F m.half)=(a2.all (G0 m.F) && _):=all_both
    rw [this,Bool.and_eq_true] at c2
    exact c2.2.1
   rcases hno with h | h
   ·rw [walkP_some.2 ⟨c1.1,d1⟩] at h;cases h
   ·rw [walkP_some.2 ⟨c2.1,d2⟩] at h;cases h
  ·cases ho
theorem walkP_head {F:Nat→Int}{G:Nat→Bool} : ∀ {n f t:Nat}{l:List Nat},walkP F G n f t=some l → ∀ v∈l,headB (F v)=true
 | 0,f,t,l,h=>by unfold walkP at h;cases h;intro v hv;cases hv
 | n+1,f,t,l,h=>by
  unfold walkP at h
  split at h
  ·split at h
   ·rename_i h1 h2
    obtain ⟨l',h',rfl⟩:=Option.map_eq_some_iff.1 h
    have h3:headB (F f)=true:=by
     simp only [Bool.and_eq_true,decide_eq_true_eq] at h2
     exact h2.1
    intro v hv
    rcases List.mem_cons.1 hv with rfl | hv
    ·exact h3
    ·exact walkP_head h' v hv
   ·cases h
  ·cases h;intro v hv;cases hv
theorem card_ix {m:MD} (hF:m.FitsM) {i:Nat} (h1:2*m.half≤(i:Int)) (h2:i<m.W.length):∃ d j:Nat,(i:Int) - 2*m.half=(d:Int)∧(d:Int) / m.card=(j:Int)∧j<m.C.length∧cardN m.half m.card i=j:=by
 have hw:=hF.w
 have hc:=hF.c
 have hnum:=hF.nums
 unfold numsOK at hnum
 have g0:0≤((i:Int) - 2*m.half) / m.card:=Int.ediv_nonneg (by omega) (by omega)
 refine ⟨((i:Int) - 2*m.half).toNat,(((i:Int) - 2*m.half) / m.card).toNat,by omega,?_,?_,rfl⟩
 ·rw [show ((((i:Int) - 2*m.half).toNat:Nat):Int)=(i:Int) - 2*m.half by omega]
  omega
 ·have:((i:Int) - 2*m.half) / m.card<(m.old+m.card - 1) / m.card:=by
   have e:(m.old+m.card - 1)=(m.old - 1)+1*m.card:=by omega
   rw [e,Int.add_mul_ediv_right _ _ (by omega)]
   have:=Int.ediv_le_ediv (c:=m.card) (by omega) (show (i:Int) - 2*m.half≤m.old - 1 by omega)
   omega
  omega
theorem MD.Shape.fine {m:MD}{vs:List Nat} (S:m.Shape vs):∀ v∈vs,headB (m.F v)=true∧v+1+szN (m.F v)≤m.W.length:=fun v hv=>by
 have hle:=(MD.parts S.1).le S.1
 have ho:=S.2.1
 unfold MD.objs at ho
 split at ho
 ·rename_i l1 l2 e1 e2
  cases ho
  rcases List.mem_append.1 hv with h | h
  ·exact ⟨walkP_head e1 v h,by have:=(walkP_lt e1 v h).2;omega⟩
  ·exact ⟨walkP_head e2 v h,by have:=(walkP_lt e2 v h).2;omega⟩
 ·cases ho
theorem MD.Shape.one {m:MD}{vs us:List Nat} (S:m.Shape vs) (S':m.Shape us):us=vs:=by
 have a:=S.2.1
 rw [S'.2.1] at a
 cases a
 rfl
theorem MD.Shape.carded {m:MD}{vs:List Nat} (S:m.Shape vs) (hC:m.cardsB=true) {f k:Nat} (hf:f∈vs) (hk:k<szN (m.F f)) (hkd:¬ m.F f / 4 % 256<8) (ho:2*m.half≤((f+1+k:Nat):Int)) (hy:youngB m.half (m.F (f+1+k))=true):m.Cf (cardN m.half m.card (f+1+k))=true:=by
 have P:=MD.parts S.1
 have hn1:(m.n1:Int)≤2*m.half:=by
  obtain ⟨⟨a0,a1,a2,a3,a4,a5⟩,hw,_,u0,u1,t0,t1,o0,o1⟩:=S.1
  have b1:=P.n1
  obtain e | e:m.used=0∨m.used=1:=by omega
  ·rw [e,Int.zero_mul] at b1;omega
  ·rw [e,Int.one_mul] at b1;omega
 have hobj:=S.2.1
 unfold MD.objs at hobj
 split at hobj
 ·rename_i l1 l2 e1 e2
  cases hobj
  rcases List.mem_append.1 hf with h | h
  ·have:=(walkP_lt e1 f h).2
   omega
  ·have b2:=walkP_some.1 e2
   unfold MD.cardsB at hC
   rw [walkP_isSome b2.1] at hC
   have g:=List.all_eq_true.1 hC f h
   unfold G3 at g
   rw [decide_eq_false hkd,Bool.false_or] at g
   have c:=List.all_eq_true.1 g k (List.mem_range.2 hk)
   unfold cardB at c
   rw [hy,Bool.true_and,Bool.not_not] at c
   exact c
 ·cases hobj
theorem MD.Shape.bare {m:MD}{vs:List Nat} (S:m.Shape vs):∃ l1 l2,vs=l1++l2∧walkP m.F (G0 m.F) (m.n1 - m.n0) m.n0 m.n1=some l1∧walkP m.F (G0 m.F) (m.m1 - m.m0) m.m0 m.m1=some l2:=by
 have ho:=S.2.1
 unfold MD.objs at ho
 split at ho
 ·rename_i a1 a2 k1 k2
  cases ho
  have c1:=walkP_some.1 k1
  have c2:=walkP_some.1 k2
  have d1:a1.all (G0 m.F)=true:=by
   have:a1.all (G1 m.F m.half)=(a1.all (G0 m.F) && _):=all_both
   rw [this,Bool.and_eq_true] at c1
   exact c1.2.1
  have d2:a2.all (G0 m.F)=true:=by
   have:a2.all (G1 m.F m.half)=(a2.all (G0 m.F) && _):=all_both
   rw [this,Bool.and_eq_true] at c2
   exact c2.2.1
  exact ⟨a1,a2,rfl,walkP_some.2 ⟨c1.1,d1⟩,walkP_some.2 ⟨c2.1,d2⟩⟩
 ·cases ho
theorem MD.Shape.few {m:MD}{vs:List Nat} (S:m.Shape vs):vs.length≤300000:=by
 obtain ⟨l1,l2,e,e1,e2⟩:=S.bare
 have a1:=walkP_len e1
 have a2:=walkP_len e2
 obtain ⟨b0,b1,b2,b3⟩:=MD.parts S.1
 obtain ⟨⟨a0,a1',a2',a3,a4,a5⟩,hw,_,u0,u1,t0,t1,o0,o1⟩:=S.1
 rw [e,List.length_append]
 omega
theorem MD.Shape.held {m:MD}{vs:List Nat} (S:m.Shape vs) {f k:Nat} (hf:f∈vs) (hk:k<szN (m.F f)) (hkd:¬ m.F f / 4 % 256<8):fieldB m.W.length (fun i=>decide (i∈vs)) (m.F (f+1+k))=true:=by
 obtain ⟨l1,l2,e,e1,e2⟩:=S.bare
 have b1:=walkP_some.1 e1
 have b2:=walkP_some.1 e2
 have h:=S.2.2.1
 unfold MD.holdB at h
 rw [walkP_isSome b1.1,walkP_isSome b2.1,←List.all_append,←e] at h
 have g:=List.all_eq_true.1 h f hf
 unfold G2 at g
 rw [decide_eq_false hkd,Bool.false_or] at g
 exact List.all_eq_true.1 g _ (List.mem_map.2 ⟨k,List.mem_range.2 hk,rfl⟩)
end Go.Proofs.YtlkcbdinlfeoiabGreatDoor
namespace Go.Proofs.YtlkcbdinlfeoiabGreatDoor
open Go.RowKit

theorem shape_len {m:MD}{vs:List Nat} (S:m.Shape vs):0<m.W.length∧m.W.length≤300000∧0<m.C.length:=by
 have hnum:=S.1.nums
 have hw:=S.1.w
 have hc:=S.1.c
 unfold numsOK at hnum
 have:1≤(m.old+m.card - 1) / m.card:=(Int.le_ediv_iff_mul_le (by omega)).2 (by omega)
 omega
theorem md_range {m:MD} (h64:MD64 m):∀ i,i<m.W.length→0≤m.F i∧m.F i<18446744073709551616:=fun i hi=>by
 unfold MD.F
 rw [List.getD_eq_getElem?_getD,List.getElem?_eq_getElem hi]
 exact h64.w _ (List.getElem_mem hi)
theorem MD.Shape.reachy {m:MD}{vs:List Nat} (S:m.Shape vs) (h64:MD64 m):Reachy m.F vs where
 held f hf hkd x hx:=by
  obtain ⟨j,hj⟩:=List.mem_iff_getElem?.1 hx
  have hl:=(List.getElem?_eq_some_iff.1 hj).1
  rw [fieldsP_len] at hl
  rw [fieldsP_at hl] at hj
  cases hj
  have hfi:=(S.fine f hf).2
  refine held_field ?_
  rw [fieldR_eq (nW:=m.W.length) (fun v hv=>by have:=(S.fine v hv).2;omega) (shape_len S).2.1 (md_range h64 _ (by omega)).1]
  exact S.held hf hl hkd
theorem MD.Shape.roots {m:MD}{vs:List Nat} (S:m.Shape vs) (h64:MD64 m):∀ x∈m.R,Held vs x:=fun x hx=>by
 have h:=S.2.2.2
 unfold MD.restB at h
 rw [Bool.and_eq_true] at h
 refine held_field ?_
 rw [fieldR_eq (nW:=m.W.length) (fun v hv=>by have:=(S.fine v hv).2;omega) (shape_len S).2.1 (h64.r x hx).1]
 exact List.all_eq_true.1 h.1 x hx
def MD.reach (m:MD) (vs:List Nat):List Nat:=reachP m.F (vs.length+1) (comesP [] m.R) 0
theorem outs_nil (vs:List Nat):Outs vs []:=⟨fun f h=>by simp at h,List.nodup_nil⟩
def MD.live (m:MD) (vs:List Nat):Nat:=((m.reach vs).map (fun f=>1+szN (m.F f))).sum
end Go.Proofs.YtlkcbdinlfeoiabGreatDoor
namespace Go.Proofs.YtlkcbdinlfeoiabGreatDoor
open Go.RowKit

theorem reach_outs {m:MD}{vs:List Nat} (S:m.Shape vs) (h64:MD64 m):Outs vs (m.reach vs):=by
 have go:∀ (n:Nat) (out:List Nat) (k:Nat),Outs vs out→Outs vs (reachP m.F n out k):=by
  intro n
  induction n with
  | zero=>intro out k h;exact h
  | succ n ih =>
   intro out k h
   unfold reachP
   cases hk:out[k]? with
   | none=>exact h
   | some f=>exact ih _ _ (h.step (S.reachy h64) (h.sub f (List.mem_of_getElem? hk)))
 exact go _ _ _ ((outs_nil vs).comes (S.roots h64))
end Go.Proofs.YtlkcbdinlfeoiabGreatDoor
namespace Go.Proofs.YtlkcbdinlfeoiabGreatDoor
open Go.RowKit

theorem cell_new {w:World}{c:Array Value}{t:TypeId}{n i:Nat}{v:Value} (hn:n=w.heap.size) (h:c[i]?=some v):(w.alloc (.cells c t)).cell? ⟨n,i,none⟩=some v:=by
 rw [World.cell?_alloc_at _ _ _ _ hn];exact h
theorem byte_any (n:Nat) (hn:n≤255) (w:World) :
  Calls Tryz.prog 75 #[.int .i64 (n:Int)] w fun ev w'=>ev = .returned (.string (strOfNums [(n:Int)]))∧Below w.heap.size w w':=by
 have hI:(n:Int)≤255:=by omega
 have hm:(n:Int) % 256=(n:Int):=by omega
 have hcv:=run_convert_bytes_arg (P:=Tryz.prog) (w.alloc (.cells #[.int .u8 (n:Int)] 5)) 112 5 Tryz.underlying112 Tryz.underlying5 w.heap.size 0 1 1 [(n:Int)] rfl (fun k hk=>by
  obtain rfl:k=0:=by omega
  exact cell_new rfl rfl) 9 Tryz.underlying9
 go_enter Tryz.func75,Tryz.ntmps75
 go_wp2
 go_ret
 exact ⟨rfl,(Below.refl _ _).alloc (Nat.le_refl _) _⟩

theorem nDigits_le:∀ (k u:Nat),u<10 ^ (k+1)→Lib.nDigits u≤k+1
 | 0,u,h=>by rw [Lib.nDigits_small (by simpa using h)];exact Nat.le_refl _
 | k+1,u,h=>by
  by_cases h':u<10
  ·rw [Lib.nDigits_small h']
   omega
  ·rw [Lib.nDigits_big h']
   have:=nDigits_le k (u / 10) (by rw [Nat.pow_succ] at h;omega)
   omega
def decB (n:Int):ByteArray:=⟨(Lib.itoa n).toArray⟩
theorem ret_str {a b:ByteArray} (h:a=b):Ending.returned (.string a) = .returned (.string b):=by rw [h]

theorem dec_step {u:Nat} (h:¬ u<10):Lib.decDigits u=Lib.decDigits (u / 10) ++ [UInt8.ofNat (48+u % 10)]:=by
 rw [Lib.decDigits,dif_neg h]
theorem nums_dig (d:Nat) (h:d<10):strOfNums [((48+d:Nat):Int)]=⟨#[UInt8.ofNat (48+d)]⟩:=by
 iterate 10 (rcases d with _ | d;· rfl)
 omega
theorem byte_dig (d:Nat) (h:d<10) (w:World) :
  Calls Tryz.prog 75 #[.int .i64 (48+(d:Int))] w fun ev w'=>ev = .returned (.string ⟨#[UInt8.ofNat (48+d)]⟩)∧Below w.heap.size w w':=by
 rw [←nums_dig d h]
 have:=byte_any (48+d) (by omega) w
 rw [show ((48+d:Nat):Int)=48+(d:Int) by omega] at this
 exact this
theorem tdiv_neg_nat (u:Nat):Int.tdiv (-(u:Int)) 10 = -((u / 10:Nat):Int):=by
 rw [Int.neg_tdiv]
 rfl
theorem tmod_neg_nat (u:Nat):Int.tmod (-(u:Int)) 10 = -((u % 10:Nat):Int):=by
 rw [Int.neg_tmod]
 rfl
theorem decDigits_few (u:Nat) (h:u≤9223372036854775808):(Lib.decDigits u).length≤20:=by
 rw [Lib.decDigits_length]
 exact nDigits_le 19 u (by omega)
set_option maxHeartbeats 1000000 in
theorem below_any:∀ (u:Nat),u≤9223372036854775808 → ∀ w:World,
  Calls Tryz.prog 74 #[.int .i64 (-(u:Int))] w fun ev w'=>ev = .returned (.string ⟨(Lib.decDigits u).toArray⟩)∧Below w.heap.size w w':=by
 intro u
 induction u using Nat.strongRecOn with
 | _ u ih =>
 intro hu w
 by_cases h:u<10
 ·have hI:(-10:Int) < -(u:Int):=by omega
  have kx:=byte_dig u h w
  have e:Lib.decDigits u = [UInt8.ofNat (48+u)]:=Lib.decDigits_one h
  rw [e]
  clear ih
  go_enter Tryz.func74,Tryz.ntmps74
  go_wp2_with fail
  refine kx.mono ?_
  rintro ev w' ⟨rfl,hb⟩
  go_wp2_with fail
  go_ret
  exact ⟨by simp,hb⟩
 ·have hI:¬ (-10:Int) < -(u:Int):=by omega
  have hd:=tdiv_neg_nat u
  have hm:=tmod_neg_nat u
  have kx:=ih (u / 10) (by omega) (by omega) w
  rw [show ((u / 10:Nat):Int)=(u:Int) / 10 by omega] at kx
  have HX:=toHid kx
  have HB:Hid (∀ w,Calls Tryz.prog 75 #[.int .i64 (48+(u:Int) % 10)] w fun ev w'=>ev = .returned (.string ⟨#[UInt8.ofNat (48+u % 10)]⟩)∧Below w.heap.size w w'):=fun w=>by
   have:=byte_dig (u % 10) (by omega) w
   rw [show ((u % 10:Nat):Int)=(u:Int) % 10 by omega] at this
   exact this
  have hl:=decDigits_few (u / 10) (by omega)
  have a1:=fun wx=>run_string_add_sum (P:=Tryz.prog) (w:=wx) ⟨(Lib.decDigits (u / 10)).toArray⟩ ⟨#[UInt8.ofNat (48+u % 10)]⟩ (by show (Lib.decDigits (u / 10)).toArray.size+1≤_;rw [List.size_toArray];omega)
  clear ih kx
  go_enter Tryz.func74,Tryz.ntmps74
  go_wp2_with fail
  refine HX.out.mono ?_
  rintro ev w1 ⟨rfl,hb⟩
  go_wp2_with fail
  refine (HB.out _).mono ?_
  rintro ev w2 ⟨rfl,hb2⟩
  go_wp2_with fail
  go_ret
  refine ⟨?_,hb.trans (hb2.mono hb.size)⟩
  rw [dec_step h]
  refine ret_str ?_
  apply ByteArray.ext
  simp
set_option maxHeartbeats 1000000 in
theorem decimal_any (n:Int) (h0 : -9223372036854775808≤n) (h1:n≤9223372036854775807) (w:World) :
  Calls Tryz.prog 40 #[.int .i64 n] w fun ev w'=>ev = .returned (.string (decB n))∧Below w.heap.size w w':=by
 by_cases hn:n<0
 ·obtain ⟨u,rfl⟩:∃ u:Nat,n = -(u:Int):=⟨n.natAbs,by omega⟩
  have HX:=toHid (below_any u (by omega) w)
  have e:decB (-(u:Int))=⟨#[45]⟩++⟨(Lib.decDigits u).toArray⟩:=by
   unfold decB
   rw [Lib.itoa_neg u (by omega)]
   apply ByteArray.ext
   simp
  have hl:=decDigits_few u (by omega)
  have a1:=fun wx=>run_string_add_sum (P:=Tryz.prog) (w:=wx) ⟨#[45]⟩ ⟨(Lib.decDigits u).toArray⟩ (by show 1+(Lib.decDigits u).toArray.size≤_;rw [List.size_toArray];omega)
  go_enter Tryz.func40,Tryz.ntmps40
  go_wp2_with fail
  refine HX.out.mono ?_
  rintro ev w1 ⟨rfl,hb⟩
  go_wp2_with fail
  go_ret
  exact ⟨ret_str e.symm,hb⟩
 ·obtain ⟨u,rfl⟩:∃ u:Nat,n=(u:Int):=⟨n.toNat,by omega⟩
  have HX:=toHid (below_any u (by omega) w)
  have e:decB (u:Int)=⟨(Lib.decDigits u).toArray⟩:=by
   unfold decB
   rw [Lib.itoa_nonneg u]
  rw [e]
  go_enter Tryz.func40,Tryz.ntmps40
  go_wp2_with fail
  refine HX.out.mono ?_
  rintro ev w1 ⟨rfl,hb⟩
  go_wp2_with fail
  go_ret
  exact ⟨rfl,hb⟩
end Go.Proofs.YtlkcbdinlfeoiabGreatDoor
namespace Go.Proofs.YtlkcbdinlfeoiabGreatDoor
open Go.RowKit

def constB (n:Int):ByteArray:=if n=0 then ⟨#[110,111,110,101]⟩ else if n=1 then ⟨#[102,97,108,115,101]⟩ else ⟨#[116,114,117,101]⟩
def tellB (out:List Nat) (x:Int):ByteArray:=if x % 4=1 then decB (wrap64 x / 4) else if x % 4=2 then constB (x / 4) else if x=0 then ⟨#[110,111,119,104,101,114,101]⟩ else if objI out (ptI x)<0 then ⟨#[64]⟩ else ⟨#[64]⟩++decB (objI out (ptI x))
theorem decB_size (n:Int) (h0 : -9223372036854775808≤n) (h1:n≤9223372036854775807):(decB n).size≤21:=by
 unfold decB
 show (Lib.itoa n).toArray.size≤21
 rw [List.size_toArray]
 by_cases hn:n<0
 ·obtain ⟨u,rfl⟩:∃ u:Nat,n = -(u:Int):=⟨n.natAbs,by omega⟩
  rw [Lib.itoa_neg u (by omega)]
  have:=decDigits_few u (by omega)
  simp
  omega
 ·obtain ⟨u,rfl⟩:∃ u:Nat,n=(u:Int):=⟨n.toNat,by omega⟩
  rw [Lib.itoa_nonneg u]
  have:=decDigits_few u (by omega)
  omega
theorem objI_bound {vs:List Nat}{x:Int} (hn:vs.length≤300000) : -1≤objI vs x∧objI vs x≤300000:=by
 rcases Int.lt_or_le (objI vs x) 0 with h | h
 ·rw [objI_neg (by omega)];omega
 ·obtain ⟨k,_,e,_,_,hk⟩:=objI_some h
  omega
end Go.Proofs.YtlkcbdinlfeoiabGreatDoor
namespace Go.Proofs.YtlkcbdinlfeoiabGreatDoor
open Go.RowKit

def digC (d:Nat):UInt8:=([48,49,50,51,52,53,54,55,56,57,97,98,99,100,101,102]:List UInt8).getD d 0
def hexL (x:Nat):Nat→List UInt8
 | 0 => []
 | k+1=>digC (x / 16 ^ k % 16)::hexL x k
theorem hexL_len (x:Nat):∀ k,(hexL x k).length=k
 | 0=>rfl
 | k+1=>by rw [hexL,List.length_cons,hexL_len x k]
theorem div_step (x k:Nat):x / 16 ^ k / 16=x / 16 ^ (k+1):=by rw [Nat.div_div_eq_div_mul,Nat.pow_succ]
end Go.Proofs.YtlkcbdinlfeoiabGreatDoor
namespace Go.Proofs.YtlkcbdinlfeoiabGreatDoor
open Go.RowKit

def gBlockIn (n:Nat):Code→Option Code
 | .block i c=>bif Nat.beq i n then some (.block i c) else gBlockIn n c
 | .loop c=>gBlockIn n c
 | .seq a b=>match gBlockIn n a with
  | some c=>some c
  | none=>gBlockIn n b
 | .scope c=>gBlockIn n c
 | .cond _ a b=>match gBlockIn n a with
  | some c=>some c
  | none=>gBlockIn n b
 | _=>none
def gLine (s:ByteArray) (out:List Nat) (acc:ByteArray) (x:Int):ByteArray:=((acc++s)++tellB out x)++⟨#[10]⟩
def gLines (s:ByteArray) (out:List Nat) (acc:ByteArray) (l:List Int):ByteArray:=l.foldl (gLine s out) acc
theorem gLines_take {s:ByteArray}{out:List Nat}{acc:ByteArray}{l:List Int}{k:Nat}{x:Int} (h:l[k]?=some x):gLines s out acc (l.take (k+1))=gLine s out (gLines s out acc (l.take k)) x:=by
 unfold gLines
 rw [List.take_add_one,h,List.foldl_append]
 rfl
theorem tellB_size (out:List Nat) (hn:out.length≤300000) (x:Int):(tellB out x).size≤22:=by
 have hw:wrap64 x=(x+9223372036854775808) % 18446744073709551616 - 9223372036854775808:=wrap64_eq x
 have hb:=objI_bound (vs:=out) (x:=ptI x) hn
 unfold tellB
 split
 ·have:=decB_size (wrap64 x / 4) (by omega) (by omega)
  omega
 ·split
  ·unfold constB
   split
   ·decide
   ·split <;> decide
  ·split
   ·decide
   ·split
    ·decide
    ·have:=decB_size (objI out (ptI x)) (by omega) (by omega)
     rw [ByteArray.size_append]
     show 1+(decB (objI out (ptI x))).size≤22
     omega
def sRoot:ByteArray:=⟨#[114,111,111,116,32]⟩
def sWeak:ByteArray:=⟨#[119,101,97,107,32]⟩
end Go.Proofs.YtlkcbdinlfeoiabGreatDoor
namespace Go.Proofs.YtlkcbdinlfeoiabGreatDoor
open Go.RowKit

def gField (kd:Int) (out:List Nat) (acc:ByteArray) (x:Int):ByteArray:=if kd<8 then (acc++⟨#[32,48,120]⟩)++⟨(hexL x.toNat 16).toArray⟩ else (acc++⟨#[32]⟩)++tellB out x
def gFields (kd:Int) (out:List Nat) (acc:ByteArray) (l:List Int):ByteArray:=l.foldl (gField kd out) acc
end Go.Proofs.YtlkcbdinlfeoiabGreatDoor
namespace Go.Proofs.YtlkcbdinlfeoiabGreatDoor
open Go.RowKit

def gObjT (F:Nat→Int) (out:List Nat) (i f:Nat) (acc:ByteArray):ByteArray:=gFields (F f / 4 % 256) out (((acc++decB (i:Int))++⟨#[32]⟩)++decB (F f / 4 % 256)) (fieldsP F f)++⟨#[10]⟩
def gObjsP (F:Nat→Int) (out:List Nat) (acc:ByteArray):Nat→ByteArray
 | 0=>acc
 | k+1=>match out[k]? with
  | some f=>gObjT F out k f (gObjsP F out acc k)
  | none=>gObjsP F out acc k
theorem gObjsP_next {F:Nat→Int}{out:List Nat}{acc:ByteArray}{k f:Nat} (h:out[k]?=some f):gObjsP F out acc (k+1)=gObjT F out k f (gObjsP F out acc k):=by
 conv=>lhs;unfold gObjsP
 rw [h]
theorem gField_size (kd:Int) (out:List Nat) (hn:out.length≤300000) (acc:ByteArray) (x:Int):(gField kd out acc x).size≤acc.size+28:=by
 unfold gField
 have:=tellB_size out hn x
 split
 ·rw [ByteArray.size_append,ByteArray.size_append]
  have:(⟨(hexL x.toNat 16).toArray⟩:ByteArray).size=16:=by show (hexL x.toNat 16).toArray.size=16;rw [List.size_toArray,hexL_len]
  show acc.size+3+_≤_
  omega
 ·rw [ByteArray.size_append,ByteArray.size_append]
  show acc.size+1+_≤_
  omega
theorem gFields_size (kd:Int) (out:List Nat) (hn:out.length≤300000):∀ (l:List Int) (acc:ByteArray),(gFields kd out acc l).size≤acc.size+28*l.length
 | [],acc=>by simp [gFields]
 | x::l,acc=>by
  have h1:=gField_size kd out hn acc x
  have h2:=gFields_size kd out hn l (gField kd out acc x)
  show (gFields kd out (gField kd out acc x) l).size≤_
  rw [List.length_cons]
  omega
end Go.Proofs.YtlkcbdinlfeoiabGreatDoor
namespace Go.Proofs.YtlkcbdinlfeoiabGreatDoor
open Go.RowKit

def ordI (I:List (Int × Int)):List (Int × Int):=I.mergeSort (fun x y=>decide (x.2≤y.2))
structure IdsOK (I:List (Int × Int)):Prop where
 pos:∀ x∈I,1≤x.2
 nodup:I.Pairwise (fun x y=>x.2≠y.2)
theorem ordI_perm (I:List (Int × Int)):(ordI I).Perm I:=List.mergeSort_perm _ _
theorem ordI_le (I:List (Int × Int)):(ordI I).Pairwise (fun x y=>x.2≤y.2):=by
 have h:=List.pairwise_mergeSort (le:=fun x y:Int × Int=>decide (x.2≤y.2)) (fun a b c h1 h2=>by simp at *;omega) (fun a b=>by simp;omega) I
 exact h.imp (fun h=>of_decide_eq_true h)
theorem ordI_lt {I:List (Int × Int)} (h:IdsOK I):(ordI I).Pairwise (fun x y=>x.2<y.2):=by
 have h1:=ordI_le I
 have h2:(ordI I).Pairwise (fun x y=>x.2≠y.2):=h.nodup.perm (ordI_perm I).symm (fun h=>h.symm)
 exact (h1.and h2).imp (fun ⟨a,b⟩=>by omega)
theorem ordI_len (I:List (Int × Int)):(ordI I).length=I.length:=(ordI_perm I).length_eq
theorem lt_at {L:List (Int × Int)} (h:L.Pairwise (fun x y=>x.2<y.2)) {i j:Nat}{x y:Int × Int} (hi:L[i]?=some x) (hj:L[j]?=some y) (hij:i<j):x.2<y.2:=by
 obtain ⟨h1,rfl⟩:=List.getElem?_eq_some_iff.1 hi
 obtain ⟨h2,rfl⟩:=List.getElem?_eq_some_iff.1 hj
 exact List.pairwise_iff_getElem.1 h i j h1 h2 hij
theorem ord_filter {I M:List (Int × Int)} (h:IdsOK I) (p:Int × Int→Bool) (hM:M.Perm (I.filter p)) (hs:M.Pairwise (fun x y => ¬ y.2<x.2)):M=(ordI I).filter p:=by
 have hp2:M.Perm ((ordI I).filter p):=hM.trans ((ordI_perm I).filter p).symm
 refine List.Perm.eq_of_pairwise (le:=fun x y:Int × Int=>x.2≤y.2) (fun a b ha hb h1 h2 => ?_) (hs.imp (fun h=>by omega)) ((ordI_le I).filter p) hp2
 have ha':a∈ordI I:=(List.mem_filter.1 (hp2.mem_iff.1 ha)).1
 have hb':b∈ordI I:=(List.mem_filter.1 hb).1
 obtain ⟨i,hi⟩:=List.getElem?_of_mem ha'
 obtain ⟨j,hj⟩:=List.getElem?_of_mem hb'
 have hL:=ordI_lt h
 by_cases e:i=j
 ·subst e
  rw [hi] at hj
  cases hj
  rfl
 ·rcases Nat.lt_or_gt_of_ne e with c | c
  ·have:=lt_at hL hi hj c
   omega
  ·have:=lt_at hL hj hi c
   omega
theorem ids_at_ok {nH:Nat}{hb:Nat→Bool}{l:List (Int × Int)} (h:idsB nH hb l=true) {i:Nat}{x:Int × Int} (hi:l[i]?=some x):ptrB nH hb x.1=true∧1≤x.2∧((l.take (i+1)).map (·.2)).count x.2≤1:=by
 have hl:i<l.length:=(List.getElem?_eq_some_iff.1 hi).1
 have h1:=List.all_eq_true.1 h i (List.mem_range.2 hl)
 unfold idB at h1
 rw [hi] at h1
 simp only [Bool.and_eq_true,decide_eq_true_eq] at h1
 exact ⟨h1.1,h1.2.1,h1.2.2.2⟩
theorem ids_ok {nH:Nat}{hb:Nat→Bool}{l:List (Int × Int)} (h:idsB nH hb l=true):IdsOK l where
 pos:=fun x hx=>by
  obtain ⟨i,hi⟩:=List.getElem?_of_mem hx
  exact (ids_at_ok h hi).2.1
 nodup:=by
  rw [List.pairwise_iff_getElem]
  intro i j hi hj hij he
  have h3:=(ids_at_ok h (List.getElem?_eq_getElem hj)).2.2
  rw [List.take_add_one,List.getElem?_eq_getElem hj,List.map_append,List.count_append] at h3
  have h4:l[j].2∈(l.take j).map (·.2):=by
   rw [←he]
   exact List.mem_map.2 ⟨l[i],List.mem_of_getElem? (i:=i) (by rw [List.getElem?_take,if_pos hij,List.getElem?_eq_getElem hi]),rfl⟩
  have h5:=List.count_pos_iff.2 h4
  have h6:(List.map (fun x:Int × Int=>x.2) (some l[j]).toList).count l[j].2=1:=by simp
  omega
theorem ids_ptr {nH:Nat}{hb:Nat→Bool}{l:List (Int × Int)} (h:idsB nH hb l=true):∀ x∈l,ptrB nH hb x.1=true:=fun x hx=>by
 obtain ⟨i,hi⟩:=List.getElem?_of_mem hx
 exact (ids_at_ok h hi).1
def gId (out:List Nat) (acc:ByteArray) (x:Int × Int):ByteArray:=if objI out (ptI x.1)<0 then acc else ((((acc++⟨#[105,100,32]⟩)++decB x.2)++⟨#[32,64]⟩)++decB (objI out (ptI x.1)))++⟨#[10]⟩
def gIds (out:List Nat) (acc:ByteArray) (l:List (Int × Int)):ByteArray:=l.foldl (gId out) acc
theorem gIds_take {out:List Nat}{acc:ByteArray}{l:List (Int × Int)}{k:Nat}{x:Int × Int} (h:l[k]?=some x):gIds out acc (l.take (k+1))=gId out (gIds out acc (l.take k)) x:=by
 unfold gIds
 rw [List.take_add_one,h,List.foldl_append]
 rfl
theorem ord64 {I:List (Int × Int)} (h:Ids64 I):Ids64 (ordI I):=fun x hx=>h x ((ordI_perm I).mem_iff.1 hx)
end Go.Proofs.YtlkcbdinlfeoiabGreatDoor
namespace Go.Proofs.YtlkcbdinlfeoiabGreatDoor
open Go.RowKit

def mvI (φ:Nat→Nat) (x:Int):Int:=if 0≤ptI x then ((φ (ptI x).toNat:Int)+1)*4 else x
def PtIn (S:Nat→Prop) (x:Int):Prop:=0≤ptI x→S (ptI x).toNat
structure Iso (F G:Nat→Int) (S:Nat→Prop) (φ:Nat→Nat):Prop where
 inj:∀ f g,S f→S g→φ f=φ g→f=g
 few:∀ f,S f→φ f<1099511627776
 kind:∀ f,S f→G (φ f) / 4 % 256=F f / 4 % 256
 size:∀ f,S f→szN (G (φ f))=szN (F f)
 fld:∀ f,S f → ∀ k,k<szN (F f)→G (φ f+1+k)=if F f / 4 % 256<8 then F (f+1+k) else mvI φ (F (f+1+k))
 cl:∀ f,S f → ¬ F f / 4 % 256<8 → ∀ k,k<szN (F f)→PtIn S (F (f+1+k))
theorem ptI_addr {f:Nat} (h:f<1099511627776):ptI (((f:Int)+1)*4)=(f:Int):=by unfold ptI;rw [if_pos (by omega)];omega
theorem mv_pt {S:Nat→Prop}{φ:Nat→Nat} (hf:∀ f,S f→φ f<1099511627776) {x:Int} (hx:PtIn S x) (h:0≤ptI x):ptI (mvI φ x)=(φ (ptI x).toNat:Int):=by
 unfold mvI
 rw [if_pos h,ptI_addr (hf _ (hx h))]
theorem mv_no {φ:Nat→Nat}{x:Int} (h:¬ 0≤ptI x):mvI φ x=x:=by unfold mvI;rw [if_neg h]
theorem objI_none {vs:List Nat}{x:Int} (h:x<0):objI vs x = -1:=by
 unfold objI
 rw [List.findIdx?_eq_none_iff.2]
 intro v _
 rw [beq_eq_false_iff_ne]
 omega
theorem objI_map {S:Nat→Prop}{φ:Nat→Nat} (hi:∀ f g,S f→S g→φ f=φ g→f=g) {f:Nat} (hf:S f):∀ {out:List Nat},(∀ g∈out,S g)→objI (out.map φ) (φ f:Int)=objI out (f:Int):=fun {out} h=>by
 unfold objI
 rw [List.findIdx?_map]
 have e:out.findIdx? ((fun v:Nat=>((v:Int) == (φ f:Int))) ∘ φ)=out.findIdx? (fun v:Nat=>((v:Int) == (f:Int))):=by
  induction out with
  | nil=>rfl
  | cons a l ih =>
   have ih:=ih (fun g hg=>h g (by simp [hg]))
   have ha:(((fun v:Nat=>((v:Int) == (φ f:Int))) ∘ φ) a)=((a:Int) == (f:Int)):=by
    show ((φ a:Int) == (φ f:Int))=((a:Int) == (f:Int))
    rw [Bool.eq_iff_iff,beq_iff_eq,beq_iff_eq]
    constructor
    ·intro e
     have:=hi a f (h a (by simp)) hf (by omega)
     omega
    ·intro e
     obtain rfl:a=f:=by omega
     rfl
   rw [List.findIdx?_cons,List.findIdx?_cons,ha,ih]
 rw [e]
theorem tell_iso {S:Nat→Prop}{φ:Nat→Nat} (hi:∀ f g,S f→S g→φ f=φ g→f=g) (hf:∀ f,S f→φ f<1099511627776) {out:List Nat} (ho:∀ g∈out,S g) {x:Int} (hx:PtIn S x):tellB (out.map φ) (mvI φ x)=tellB out x:=by
 by_cases h:0≤ptI x
 ·have hp:=mv_pt hf hx h
  have hb:=hx h
  have hx4:x % 4=0∧4≤x:=by
   unfold ptI at h
   split at h
   ·rename_i c;exact ⟨c.1,c.2.1⟩
   ·omega
  obtain ⟨g,hg⟩:∃ g,g=(ptI x).toNat:=⟨_,rfl⟩
  have hgi:ptI x=(g:Int):=by omega
  have he:mvI φ x=((φ g:Int)+1)*4:=by unfold mvI;rw [if_pos h,hg]
  rw [←hg] at hp hb
  have ho':objI (out.map φ) (φ g:Int)=objI out (g:Int):=objI_map hi hb ho
  unfold tellB
  have e1:¬ ((φ g:Int)+1)*4 % 4=1:=by omega
  have e2:¬ ((φ g:Int)+1)*4 % 4=2:=by omega
  have e3:¬ ((φ g:Int)+1)*4=0:=by omega
  have d1:¬ x % 4=1:=by omega
  have d2:¬ x % 4=2:=by omega
  have d3:¬ x=0:=by omega
  rw [hp,hgi,ho',he,if_neg e1,if_neg e2,if_neg e3,if_neg d1,if_neg d2,if_neg d3]
 ·rw [mv_no h]
  unfold tellB
  rw [objI_none (vs:=out.map φ) (by omega),objI_none (vs:=out) (by omega)]
theorem come_iso {S:Nat→Prop}{φ:Nat→Nat} (hi:∀ f g,S f→S g→φ f=φ g→f=g) (hf:∀ f,S f→φ f<1099511627776) {out:List Nat} (ho:∀ g∈out,S g) {x:Int} (hx:PtIn S x):comeP (out.map φ) (mvI φ x)=(comeP out x).map φ ∧ ∀ g∈comeP out x,S g:=by
 by_cases h:0≤ptI x
 ·have hp:=mv_pt hf hx h
  have hb:=hx h
  obtain ⟨g,hg⟩:∃ g,g=(ptI x).toNat:=⟨_,rfl⟩
  have hgi:ptI x=(g:Int):=by omega
  rw [←hg] at hp hb
  have ho':objI (out.map φ) (φ g:Int)=objI out (g:Int):=objI_map hi hb ho
  unfold comeP
  rw [hp,hgi,ho']
  by_cases hc:objI out (g:Int)<0
  ·rw [if_pos ⟨by omega,hc⟩,if_pos ⟨by omega,hc⟩,List.map_append]
   refine ⟨by simp,fun k hk => ?_⟩
   rcases List.mem_append.1 hk with hk | hk
   ·exact ho k hk
   ·simp at hk;rw [hk];exact hb
  ·rw [if_neg (fun h=>hc h.2),if_neg (fun h=>hc h.2)]
   exact ⟨rfl,ho⟩
 ·rw [mv_no h]
  unfold comeP
  rw [if_neg (fun c=>h c.1),if_neg (fun c=>h c.1)]
  exact ⟨rfl,ho⟩
theorem comes_iso {S:Nat→Prop}{φ:Nat→Nat} (hi:∀ f g,S f→S g→φ f=φ g→f=g) (hf:∀ f,S f→φ f<1099511627776):∀ {l:List Int}{out:List Nat},(∀ g∈out,S g)→(∀ x∈l,PtIn S x)→comesP (out.map φ) (l.map (mvI φ))=(comesP out l).map φ ∧ ∀ g∈comesP out l,S g
 | [],out,ho,_=>⟨rfl,ho⟩
 | x::l,out,ho,hl=>by
  obtain ⟨e,h⟩:=come_iso hi hf ho (hl x (by simp))
  have ih:=comes_iso hi hf (l:=l) h (fun y hy=>hl y (by simp [hy]))
  show comesP (comeP (out.map φ) (mvI φ x)) (l.map (mvI φ))=(comesP (comeP out x) l).map φ∧_
  rw [e]
  exact ih
variable {F G:Nat→Int}{S:Nat→Prop}{φ:Nat→Nat}
theorem Iso.fields (h:Iso F G S φ) {f:Nat} (hf:S f):fieldsP G (φ f)=if F f / 4 % 256<8 then fieldsP F f else (fieldsP F f).map (mvI φ):=by
 have h1:=h.fld f hf
 unfold fieldsP
 rw [h.size f hf]
 by_cases hk:F f / 4 % 256<8
 ·rw [if_pos hk]
  refine List.map_congr_left fun j hj => ?_
  rw [h1 j (List.mem_range.1 hj),if_pos hk]
 ·rw [if_neg hk,List.map_map]
  refine List.map_congr_left fun j hj => ?_
  rw [h1 j (List.mem_range.1 hj),if_neg hk]
  rfl
theorem Iso.ptIn (h:Iso F G S φ) {f:Nat} (hf:S f) (hk:¬ F f / 4 % 256<8):∀ x∈fieldsP F f,PtIn S x:=fun x hx=>by
 unfold fieldsP at hx
 obtain ⟨j,hj,rfl⟩:=List.mem_map.1 hx
 exact h.cl f hf hk j (List.mem_range.1 hj)
theorem Iso.step (h:Iso F G S φ) {out:List Nat} (ho:∀ g∈out,S g) {f:Nat} (hf:S f):stepP G (out.map φ) (φ f)=(stepP F out f).map φ ∧ ∀ g∈stepP F out f,S g:=by
 unfold stepP
 rw [h.kind f hf,h.fields hf]
 by_cases hk:F f / 4 % 256<8
 ·rw [if_pos hk,if_pos hk];exact ⟨rfl,ho⟩
 ·rw [if_neg hk,if_neg hk,if_neg hk]
  exact comes_iso h.inj h.few ho (h.ptIn hf hk)
theorem Iso.reach (h:Iso F G S φ):∀ (n:Nat) (out:List Nat) (k:Nat),(∀ g∈out,S g)→reachP G n (out.map φ) k=(reachP F n out k).map φ ∧ ∀ g∈reachP F n out k,S g
 | 0,out,_,ho=>⟨rfl,ho⟩
 | n+1,out,k,ho=>by
  unfold reachP
  rw [List.getElem?_map]
  cases e:out[k]? with
  | none=>exact ⟨rfl,ho⟩
  | some f =>
   have hf:=ho f (List.mem_of_getElem? e)
   obtain ⟨e1,h1⟩:=h.step ho hf
   show reachP G n (stepP G (out.map φ) (φ f)) (k+1)=_∧_
   rw [e1]
   exact h.reach n _ (k+1) h1
theorem reachP_more {F:Nat→Int}{vs:List Nat} (hR:Reachy F vs) (j:Nat):∀ (n:Nat) (out:List Nat) (k:Nat),Outs vs out→vs.length+1≤n+k→reachP F (n+j) out k=reachP F n out k
 | 0,out,k,ho,hk=>by
  have:=ho.len
  rw [reachP_end (by omega),reachP_end (by omega)]
 | n+1,out,k,ho,hk=>by
  rw [Nat.succ_add]
  conv=>lhs;unfold reachP
  conv=>rhs;unfold reachP
  cases e:out[k]? with
  | none=>rfl
  | some f=>exact reachP_more hR j n _ (k+1) (ho.step hR (ho.sub f (List.mem_of_getElem? e))) (by omega)
end Go.Proofs.YtlkcbdinlfeoiabGreatDoor
namespace Go.Proofs.YtlkcbdinlfeoiabGreatDoor
open Go.RowKit

variable {F G:Nat→Int}{S:Nat→Prop}{φ:Nat→Nat}
theorem gLines_iso (hi:∀ f g,S f→S g→φ f=φ g→f=g) (hf:∀ f,S f→φ f<1099511627776) {out:List Nat} (ho:∀ g∈out,S g) (s:ByteArray):∀ {l:List Int}{acc:ByteArray},(∀ x∈l,PtIn S x)→gLines s (out.map φ) acc (l.map (mvI φ))=gLines s out acc l
 | [],_,_=>rfl
 | x::l,acc,hl=>by
  show gLines s (out.map φ) (gLine s (out.map φ) acc (mvI φ x)) (l.map (mvI φ))=gLines s out (gLine s out acc x) l
  have e:gLine s (out.map φ) acc (mvI φ x)=gLine s out acc x:=by unfold gLine;rw [tell_iso hi hf ho (hl x (by simp))]
  rw [e]
  exact gLines_iso hi hf ho s (fun y hy=>hl y (by simp [hy]))
theorem gFields_iso (hi:∀ f g,S f→S g→φ f=φ g→f=g) (hf:∀ f,S f→φ f<1099511627776) {out:List Nat} (ho:∀ g∈out,S g) {kd:Int} (hk:¬ kd<8):∀ {l:List Int}{acc:ByteArray},(∀ x∈l,PtIn S x)→gFields kd (out.map φ) acc (l.map (mvI φ))=gFields kd out acc l
 | [],_,_=>rfl
 | x::l,acc,hl=>by
  show gFields kd (out.map φ) (gField kd (out.map φ) acc (mvI φ x)) (l.map (mvI φ))=gFields kd out (gField kd out acc x) l
  have e:gField kd (out.map φ) acc (mvI φ x)=gField kd out acc x:=by unfold gField;rw [if_neg hk,if_neg hk,tell_iso hi hf ho (hl x (by simp))]
  rw [e]
  exact gFields_iso hi hf ho hk (fun y hy=>hl y (by simp [hy]))
theorem gFields_raw {out out':List Nat}{kd:Int} (hk:kd<8):∀ {l:List Int}{acc:ByteArray},gFields kd out' acc l=gFields kd out acc l
 | [],_=>rfl
 | x::l,acc=>by
  show gFields kd out' (gField kd out' acc x) l=gFields kd out (gField kd out acc x) l
  have e:gField kd out' acc x=gField kd out acc x:=by unfold gField;rw [if_pos hk,if_pos hk]
  rw [e]
  exact gFields_raw hk
theorem Iso.objT (h:Iso F G S φ) {out:List Nat} (ho:∀ g∈out,S g) {f:Nat} (hf:S f) (i:Nat) (acc:ByteArray):gObjT G (out.map φ) i (φ f) acc=gObjT F out i f acc:=by
 unfold gObjT
 rw [h.kind f hf,h.fields hf]
 by_cases hk:F f / 4 % 256<8
 ·rw [if_pos hk,gFields_raw (out:=out) hk]
 ·rw [if_neg hk,gFields_iso h.inj h.few ho hk (h.ptIn hf hk)]
theorem Iso.objs (h:Iso F G S φ) {out:List Nat} (ho:∀ g∈out,S g) (acc:ByteArray):∀ k,gObjsP G (out.map φ) acc k=gObjsP F out acc k
 | 0=>rfl
 | k+1=>by
  unfold gObjsP
  rw [List.getElem?_map]
  cases e:out[k]? with
  | none=>exact h.objs ho acc k
  | some f =>
   show gObjT G (out.map φ) k (φ f) (gObjsP G (out.map φ) acc k)=gObjT F out k f (gObjsP F out acc k)
   rw [h.objs ho acc k]
   exact h.objT ho (ho f (List.mem_of_getElem? e)) k _
theorem reach_same {m n:MD}{vs us:List Nat} (Sm:m.Shape vs) (h6:MD64 m) (Sn:n.Shape us) (h6n:MD64 n) (I:Iso m.F n.F S φ) (hR:n.R=m.R.map (mvI φ)) (hr:∀ x∈m.R,PtIn S x) :
  n.reach us=(m.reach vs).map φ ∧ ∀ g∈m.reach vs,S g:=by
 have hm:=reachP_more (Sm.reachy h6) (us.length+1) (vs.length+1) (comesP [] m.R) 0 ((outs_nil vs).comes (Sm.roots h6)) (by omega)
 have hn:=reachP_more (Sn.reachy h6n) (vs.length+1) (us.length+1) (comesP [] n.R) 0 ((outs_nil us).comes (Sn.roots h6n)) (by omega)
 obtain ⟨e,hS⟩:=comes_iso I.inj I.few (l:=m.R) (out:=[]) (by simp) hr
 obtain ⟨e2,hS2⟩:=I.reach (vs.length+1+(us.length+1)) (comesP [] m.R) 0 hS
 unfold MD.reach
 rw [hm] at e2 hS2
 refine ⟨?_,hS2⟩
 rw [←hn,hR,←e2,Nat.add_comm (us.length+1)]
 rw [show comesP [] (m.R.map (mvI φ))=(comesP [] m.R).map φ from e]
def MD.mainText (m:MD) (vs:List Nat):ByteArray:=gObjsP m.F (m.reach vs) (gLines sRoot (m.reach vs) ⟨#[]⟩ m.R) (m.reach vs).length
theorem main_same {m n:MD}{vs us:List Nat} (I:Iso m.F n.F S φ) (hR:n.R=m.R.map (mvI φ)) (hr:∀ x∈m.R,PtIn S x) (he:n.reach us=(m.reach vs).map φ) (hs:∀ g∈m.reach vs,S g):n.mainText us=m.mainText vs:=by
 unfold MD.mainText
 rw [he,hR,gLines_iso I.inj I.few hs sRoot hr,I.objs hs,List.length_map]
def liveP (F:Nat→Int) (l:List Nat):Nat:=(l.map fun f=>1+szN (F f)).sum
theorem live_same (I:Iso F G S φ) {l:List Nat} (hs:∀ g∈l,S g):liveP G (l.map φ)=liveP F l:=by
 unfold liveP
 rw [List.map_map]
 congr 1
 refine List.map_congr_left fun f hf => ?_
 show 1+szN (G (φ f))=_
 rw [I.size f (hs f hf)]
end Go.Proofs.YtlkcbdinlfeoiabGreatDoor
namespace Go.Proofs.YtlkcbdinlfeoiabGreatDoor
open Go.RowKit

theorem empty_own (w:World) (e size:Nat):(w.alloc (.cells #[] e)).ownsRow w.heap.size e size (.slice (some ⟨w.heap.size,0,none⟩) 0 0) 0 []:=
 ⟨by simp,.inr ⟨w.heap.size,0,#[],rfl,Nat.le_refl _,heap_alloc_new w _,Nat.le_refl _,by unfold maxLen;omega,by simp,by simp⟩⟩

theorem nilYW (n c:Nat) (w:World):(binOp .eql 48 (.slice none n c) (.slice none 0 0)).run Tryz.prog w = .ok (.bool true) w:=by kernel_rfl
theorem nilNW (ad:Addr) (n c:Nat) (w:World):(binOp .eql 48 (.slice (some ad) n c) (.slice none 0 0)).run Tryz.prog w = .ok (.bool false) w:=by kernel_rfl
set_option maxHeartbeats 2000000 in
set_option maxRecDepth 100000 in
theorem cloneW_any (ao:Option Addr) (n c:Nat) (w:World) (xs:List Value) (hl:xs.length=n*1) (hsrc:0<n → ∃ ad:Addr,ao=some ad∧ad.block<w.heap.size ∧ ∀ j v,xs[j]?=some v→w.cell? (ad.add j)=some v) (h1:∀ v∈xs,v.oneCell'=true) (hn:n≤300000) :
  Calls Tryz.prog 113 #[.slice ao n c] w fun ev w' => ∃ ao' c',ev = .returned (.slice ao' n c')∧w'.ownsRow w.heap.size 50 1 (.slice ao' n c') n xs∧Below w.heap.size w w':=by
 obtain ⟨i0,hi0,hz0,hz1,hz2⟩:=infoU64
 cases ao with
 | none =>
  obtain rfl:n=0:=by
   rcases Nat.eq_zero_or_pos n with h | h
   ·exact h
   ·obtain ⟨_,e,_⟩:=hsrc h;cases e
  obtain rfl:xs = []:=List.eq_nil_of_length_eq_zero (by omega)
  have hq:=nilYW
  go_enter Tryz.func113,Tryz.ntmps113
  go_wp2_with fail
  go_ret
  exact ⟨none,0,rfl,⟨rfl,.inl ⟨rfl,rfl⟩⟩,Below.refl _ _⟩
 | some ad =>
  have HS:Hid (∀ j v,xs[j]?=some v→w.cell? (ad.add j)=some v):=fun j v hj=>by
   rcases Nat.eq_zero_or_pos n with h | h
   ·subst h;have:=(List.getElem?_eq_some_iff.1 hj).1;omega
   ·obtain ⟨_,e,_,h⟩:=hsrc h;cases e;exact h j v hj
  clear hsrc
  have hq:=nilNW
  go_enter Tryz.func113,Tryz.ntmps113
  go_wp2_with (at_builtin;refine wpList_append_own _ rfl _ _ _ rfl w.heap.size 50 i0 (.int .u64 0) 1 8 Tryz.underlying48 hi0 hz0 hz1 hz2 rfl (by decide) (.slice (some ⟨w.heap.size,0,none⟩) 0 0) 0 [] rfl (empty_own w 50 1) ad n c xs rfl hl (fun j v hj=>(((Below.refl _ _).alloc (Nat.le_refl _) _).cell (p:=ad.add j) (lt_of_cell (HS.out j v hj))).trans (HS.out j v hj)) h1 (by unfold maxLen;omega) (by omega) (by simp) ?_;intro v' w' hown hgrow hnil)
  rw [Nat.zero_add,List.nil_append] at hown
  obtain ⟨ao',c',rfl⟩:=own_slice hown
  go_ret
  exact ⟨ao',c',rfl,hown,((Below.refl _ _).alloc (Nat.le_refl _) _).grown hgrow (by simp) (fun k hk=>by cases hk;exact Nat.le_refl _)⟩
end Go.Proofs.YtlkcbdinlfeoiabGreatDoor
