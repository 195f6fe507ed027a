/- What both collections keep, plainly: weak references and serials. -/
import Derived.Test.YtnenggkgfhgcnaaGreatDoorKpE
import Derived.Test.YtnenggkgfhgcnaaGreatDoorJoJ
namespace Go.Proofs.YtnenggkgfhgcnaaGreatDoor
open Go.RowKit Go.Maps

structure KeptH (m n:MD) (l1 l2 us:List Nat) (S:Nat→Prop) (ψ:Nat→Nat):Prop where
 Sm:m.Shape (l1++l2)
 m64:MD64 m
 shape:n.Shape us
 h64:MD64 n
 iso:Iso m.F n.F S ψ
 roots:n.R=m.R.map (mvI ψ)
 rin:∀ x∈m.R,PtIn S x
 in':∀ f,S f→f∈l1++l2∧ψ f∈us
 half:n.half=m.half
 hold:n.old=m.old
 klen:n.K.length=m.K.length
 weak:∀ i,i<m.K.length→(PtIn S (m.K.getD i 0)∧n.K.getD i 0=mvI ψ (m.K.getD i 0))∨(0≤ptI (m.K.getD i 0) ∧ ¬ S (ptI (m.K.getD i 0)).toNat∧n.K.getD i 0=2)
 ids:∃ c:Int × Int→Bool,n.I=(m.I.filter c).map (fun x=>(mvI ψ x.1,x.2)) ∧ ∀ x∈m.I,c x=true ↔ S (ptI x.1).toNat
theorem Coll.kept {e:CE}{m n:MD}{l1 l2 us:List Nat}{S:Nat→Prop}{ψ:Nat→Nat}(h:Coll e m n l1 l2 us S ψ) (Sm:m.Shape (l1++l2)) (m64:MD64 m):KeptH m n l1 l2 us S ψ:=⟨Sm,m64,h.shape,h.h64,h.iso,h.roots,h.rin,h.in',h.half,h.hold,h.klen,h.weak,h.ids⟩
theorem MColl.kept {m n:MD}{l1 l2 us:List Nat}{S:Nat→Prop}{ψ:Nat→Nat}(h:MColl m n l1 l2 us S ψ) (Sm:m.Shape (l1++l2)) (m64:MD64 m):KeptH m n l1 l2 us S ψ:=⟨Sm,m64,h.shape,h.h64,h.iso,h.roots,h.rin,h.in',h.half,h.hold,h.klen,h.weak,h.ids⟩
variable {m n:MD}{l1 l2 us:List Nat}{S:Nat→Prop}{ψ:Nat→Nat}
theorem KeptH.wlen (h:KeptH m n l1 l2 us S ψ):n.W.length=m.W.length:=by
 have h1:=h.shape.1.w
 have h2:=h.Sm.1.w
 rw [h.half,h.hold] at h1
 omega
theorem KeptH.field (h:KeptH m n l1 l2 us S ψ) {x:Int}(hb:fieldB m.W.length (fun i=>decide (i∈l1++l2)) x=true) (hp:PtIn S x):fieldB n.W.length (fun i=>decide (i∈us)) (mvI ψ x)=true:=by
 have hl:=h.wlen
 rw [hl]
 refine fieldB_mv (fun f hf=>⟨(h.in' f hf).2,?_⟩) hb hp (fun v hv => ?_)
 ·have:=(h.shape.fine _ (h.in' f hf).2).2;omega
 ·have:=(h.Sm.fine v hv).2
  have:=(shape_pos h.Sm).2.2
  omega
theorem KeptH.range (h:KeptH m n l1 l2 us S ψ) {x:Int}(hx:0≤x∧x<18446744073709551616) (hp:PtIn S x):0≤mvI ψ x∧mvI ψ x<18446744073709551616:=mvI_range (fun f hf=>by have:=(h.shape.fine _ (h.in' f hf).2).2;have:=(shape_pos h.shape).2.2;omega) hx hp
theorem KeptH.more (h:KeptH m n l1 l2 us S ψ) {ws:List Int}(hb:∀ x∈ws,fieldB m.W.length (fun i=>decide (i∈l1++l2)) x=true) (hu:U64 ws) (hp:∀ x∈ws,PtIn S x) :
  (m.more ws).Shape (l1++l2)∧MD64 (m.more ws)∧(n.more (ws.map (mvI ψ))).Shape us∧MD64 (n.more (ws.map (mvI ψ)))∧(n.more (ws.map (mvI ψ))).textA us=(m.more ws).textA (l1++l2):=by
 have hb':∀ x∈ws.map (mvI ψ),fieldB n.W.length (fun i=>decide (i∈us)) x=true:=fun y hy=>by
  obtain ⟨x,hx,rfl⟩:=List.mem_map.1 hy
  exact h.field (hb x hx) (hp x hx)
 have hu':U64 (ws.map (mvI ψ)):=fun y hy=>by
  obtain ⟨x,hx,rfl⟩:=List.mem_map.1 hy
  exact h.range (hu x hx) (hp x hx)
 have hR:(n.more (ws.map (mvI ψ))).R=(m.more ws).R.map (mvI ψ):=by
  show n.R++ws.map (mvI ψ)=(m.R++ws).map (mvI ψ)
  rw [h.roots,List.map_append]
 have hr:∀ x∈(m.more ws).R,PtIn S x:=fun x hx=>by
  rcases List.mem_append.1 hx with hx | hx
  ·exact h.rin x hx
  ·exact hp x hx
 have I:Iso (m.more ws).F (n.more (ws.map (mvI ψ))).F S ψ:=h.iso
 have s1:=more_shape h.Sm hb
 have s2:=more_64 h.m64 hu
 have s3:=more_shape h.shape hb'
 have s4:=more_64 h.h64 hu'
 obtain ⟨h1,h2⟩:=reach_same s1 s2 s3 s4 I hR hr
 exact ⟨s1,s2,s3,s4,main_same I hR hr h1 h2⟩
theorem KeptH.led (h:KeptH m n l1 l2 us S ψ) {x:Int}(hl:ledB m (l1++l2) x=true):0≤ptI x∧S (ptI x).toNat:=by
 unfold ledB at hl
 rw [Bool.and_eq_true] at hl
 have h1:=of_decide_eq_true hl.1
 have h2:=of_decide_eq_true hl.2
 obtain ⟨v,hv,e1⟩:=objI_pos.1 h2
 have hs:=(reach_same h.Sm h.m64 h.shape h.h64 h.iso h.roots h.rin).2 v hv
 have:(ptI x).toNat=v:=by omega
 rw [this];exact ⟨h1,hs⟩
theorem ptI_pos {x:Int}(h:0≤ptI x):x % 4=0∧x≠0:=by
 unfold ptI at h
 split at h
 ·rename_i c;exact ⟨c.1,by omega⟩
 ·omega
theorem field_pt {nW:Nat}{hb:Nat→Bool}{x:Int}(hn:nW≤300000) (h:fieldB nW hb x=true) (h4:x % 4=0) (h0:x≠0):0≤ptI x:=by
 unfold fieldB at h
 rw [if_neg (by omega),if_neg (by omega),Bool.or_eq_true] at h
 rcases h with h | h
 ·exact absurd (by simpa using h) h0
 ·exact (ptrB_pt hn h).1
theorem KeptH.keptW (h:KeptH m n l1 l2 us S ψ):∀ i,i≤m.K.length→keptN m n i=(keptW m n i).map (mvI ψ) ∧ ∀ x∈Go.Proofs.YtnenggkgfhgcnaaGreatDoor.keptW m n i,x∈m.K∧PtIn S x
 | 0,_=>⟨rfl,fun x hx=>by simp [Go.Proofs.YtnenggkgfhgcnaaGreatDoor.keptW] at hx⟩
 | i+1,hi=>by
  obtain ⟨h1,h2⟩:=h.keptW i (by omega)
  unfold keptN Go.Proofs.YtnenggkgfhgcnaaGreatDoor.keptW
  by_cases hc:m.K.getD i 0 % 4=0∧m.K.getD i 0≠0∧n.K.getD i 0≠2
  ·rcases h.weak i (by omega) with hw | hw
   ·rw [if_pos hc,if_pos hc,List.map_append,h1,hw.2]
    refine ⟨rfl,fun x hx => ?_⟩
    rcases List.mem_append.1 hx with hx | hx
    ·exact h2 x hx
    ·obtain rfl:x=m.K.getD i 0:=by simpa using hx
     refine ⟨?_,hw.1⟩
     rw [List.getD_eq_getElem?_getD,List.getElem?_eq_getElem (by omega)];exact List.getElem_mem _
   ·exact absurd hw.2.2 hc.2.2
  ·rw [if_neg hc,if_neg hc,List.append_nil,List.append_nil]
   exact ⟨h1,h2⟩
theorem KeptH.weakH (h:KeptH m n l1 l2 us S ψ) (all:Bool) (hall:all=true → ∀ f,S f→f∈m.reach (l1++l2)):WeakH m n (l1++l2) us all:=by
 obtain ⟨_,rK,_⟩:=h.Sm.rest'
 have hW:=(shape_pos h.Sm).2.2
 have hin:∀ i,i<m.K.length→m.K.getD i 0∈m.K:=fun i hi=>by rw [List.getD_eq_getElem?_getD,List.getElem?_eq_getElem hi];exact List.getElem_mem _
 obtain ⟨k1,k2⟩:=h.keptW m.K.length (Nat.le_refl _)
 obtain ⟨m1,m2,m3,m4,m5⟩:=h.more (ws:=Go.Proofs.YtnenggkgfhgcnaaGreatDoor.keptW m n m.K.length) (fun x hx=>rK x (k2 x hx).1) (fun x hx=>h.m64.k x (k2 x hx).1) (fun x hx=>(k2 x hx).2)
 rw [←k1] at m3 m4 m5
 refine ⟨h.Sm,h.m64,h.h64,h.klen,fun i hi hn => ?_,fun i hi h2 hp => ?_,fun ha i hi h2 hp => ?_,m1,m2,m3,m4,m5⟩
 ·rcases h.weak i hi with hw | hw
  ·rw [hw.2]
   exact mv_no (fun h0=>hn (ptI_pos h0))
  ·exact absurd (ptI_pos hw.1) hn
 ·have hpt:=field_pt hW (rK _ (hin i hi)) hp.1 hp.2
  cases hl:ledB m (l1++l2) (m.K.getD i 0) with
  | false=>rfl
  | true =>
   exfalso
   have hs:=(h.led hl).2
   rcases h.weak i hi with hw | hw
   ·have:=hw.2
    rw [h2] at this
    unfold mvI at this
    rw [if_pos hpt] at this
    omega
   ·exact hw.2.1 hs
 ·have hpt:=field_pt hW (rK _ (hin i hi)) hp.1 hp.2
  rcases h.weak i hi with hw | hw
  ·have hs:=hall ha _ (hw.1 hpt)
   unfold ledB
   rw [decide_eq_true hpt,Bool.true_and]
   refine decide_eq_true (objI_pos.2 ⟨_,hs,by omega⟩)
  ·exact absurd hw.2.2 h2
theorem fkN_some {I:List (Int × Int)}{s:Int} : ∀ {L:Nat},0≤fkN I s L→(I.getD (fkN I s L).toNat (0,0)).2=s
 | 0,h=>by unfold fkN at h;omega
 | j+1,h=>by
  unfold fkN at h ⊢
  by_cases hc:(I.getD j (0,0)).2=s
  ·rw [if_pos hc] at h ⊢
   simpa using hc
  ·rw [if_neg hc] at h ⊢
   exact fkN_some h
theorem fkN_has {I:List (Int × Int)}{s:Int} : ∀ {L j:Nat},j<L→(I.getD j (0,0)).2=s→0≤fkN I s L
 | 0,_,h,_=>by omega
 | k+1,j,h,hs=>by
  unfold fkN
  by_cases hc:(I.getD k (0,0)).2=s
  ·rw [if_pos hc];omega
  ·rw [if_neg hc]
   refine fkN_has (j:=j) ?_ hs
   rcases Nat.lt_or_ge j k with h1 | h1
   ·exact h1
   ·obtain rfl:j=k:=by omega
    exact absurd hs hc
theorem getD_mem {I:List (Int × Int)}{j:Nat}(h:j<I.length):I.getD j (0,0)∈I:=by rw [List.getD_eq_getElem?_getD,List.getElem?_eq_getElem h];exact List.getElem_mem _
theorem serial_one {l:List (Int × Int)}(hp:l.Pairwise (fun x y=>x.1≠y.1∧x.2≠y.2)) {x y:Int × Int}(hx:x∈l) (hy:y∈l) (h:x.2=y.2):x=y:=by
 induction l with
 | nil=>simp at hx
 | cons a l ih =>
  obtain ⟨p1,p2⟩:=List.pairwise_cons.1 hp
  rcases List.mem_cons.1 hx with hx1 | hx1
  ·rcases List.mem_cons.1 hy with hy1 | hy1
   ·rw [hx1,hy1]
   ·rw [hx1] at h;exact absurd h (p1 y hy1).2
  ·rcases List.mem_cons.1 hy with hy1 | hy1
   ·rw [hy1] at h;exact absurd h.symm (p1 x hx1).2
   ·exact ih p2 hx1 hy1
theorem KeptH.found (h:KeptH m n l1 l2 us S ψ) {x:Int × Int}(hx:x∈m.I):(S (ptI x.1).toNat→0≤fkN n.I x.2 n.I.length)∧(0≤fkN n.I x.2 n.I.length→S (ptI x.1).toNat∧(n.I.getD (fkN n.I x.2 n.I.length).toNat (0,0)).1=mvI ψ x.1):=by
 obtain ⟨c,e1,e2⟩:=h.ids
 obtain ⟨_,_,rI⟩:=h.Sm.rest'
 obtain ⟨_,i2⟩:=idsB_iff.1 rI
 refine ⟨fun hs => ?_,fun h0 => ?_⟩
 ·have hm:(mvI ψ x.1,x.2)∈n.I:=by
   rw [e1]
   exact List.mem_map.2 ⟨x,List.mem_filter.2 ⟨hx,(e2 x hx).2 hs⟩,rfl⟩
  obtain ⟨j,hj,e⟩:=List.mem_iff_getElem.1 hm
  refine fkN_has hj ?_
  rw [List.getD_eq_getElem?_getD,List.getElem?_eq_getElem hj,e]
  rfl
 ·have hb:=fkN_lt n.I x.2 n.I.length
  have hm:=getD_mem (I:=n.I) (j:=(fkN n.I x.2 n.I.length).toNat) (by omega)
  have hs:=fkN_some h0
  obtain ⟨z,hz⟩:∃ z,z=n.I.getD (fkN n.I x.2 n.I.length).toNat (0,0):=⟨_,rfl⟩
  rw [←hz] at hm hs ⊢
  rw [e1] at hm
  obtain ⟨y,hy,rfl⟩:=List.mem_map.1 hm
  obtain ⟨hy1,hy2⟩:=List.mem_filter.1 hy
  have hyx:y=x:=serial_one i2 hy1 hx hs
  subst hyx
  exact ⟨(e2 y hy1).1 hy2,rfl⟩
theorem KeptH.keptI (h:KeptH m n l1 l2 us S ψ):∀ i,i≤m.I.length→keptJ m n i=(Go.Proofs.YtnenggkgfhgcnaaGreatDoor.keptI m n i).map (mvI ψ) ∧ ∀ x∈Go.Proofs.YtnenggkgfhgcnaaGreatDoor.keptI m n i,∃ y∈m.I,x=y.1∧S (ptI x).toNat
 | 0,_=>⟨rfl,fun x hx=>by simp [Go.Proofs.YtnenggkgfhgcnaaGreatDoor.keptI] at hx⟩
 | i+1,hi=>by
  obtain ⟨h1,h2⟩:=h.keptI i (by omega)
  have hm:=getD_mem (I:=m.I) (j:=i) (by omega)
  obtain ⟨f1,f2⟩:=h.found hm
  unfold keptJ Go.Proofs.YtnenggkgfhgcnaaGreatDoor.keptI
  by_cases hc:0≤fkN n.I (m.I.getD i (0,0)).2 n.I.length
  ·rw [if_pos hc,if_pos hc,List.map_append,h1,(f2 hc).2]
   refine ⟨rfl,fun x hx => ?_⟩
   rcases List.mem_append.1 hx with hx | hx
   ·exact h2 x hx
   ·obtain rfl:x=(m.I.getD i (0,0)).1:=by simpa using hx
    exact ⟨_,hm,rfl,(f2 hc).1⟩
  ·rw [if_neg hc,if_neg hc,List.append_nil,List.append_nil]
   exact ⟨h1,h2⟩
theorem KeptH.idsH (h:KeptH m n l1 l2 us S ψ):IdsH m n (l1++l2) us:=by
 obtain ⟨_,_,rI⟩:=h.Sm.rest'
 obtain ⟨i1,_⟩:=idsB_iff.1 rI
 obtain ⟨k1,k2⟩:=h.keptI m.I.length (Nat.le_refl _)
 obtain ⟨m1,m2,m3,m4,m5⟩:=h.more (ws:=Go.Proofs.YtnenggkgfhgcnaaGreatDoor.keptI m n m.I.length) (fun x hx=>by obtain ⟨y,hy,rfl,_⟩:=k2 x hx;exact fieldB_ptr (i1 y hy).1) (fun x hx=>by obtain ⟨y,hy,rfl,_⟩:=k2 x hx;exact (h.m64.i y hy).1) (fun x hx _=>by obtain ⟨y,hy,_,hs⟩:=k2 x hx;exact hs)
 rw [←k1] at m3 m4 m5
 refine ⟨h.Sm,h.m64,h.h64,?_,fun i hi hl => ?_,m1,m2,m3,m4,m5⟩
 ·obtain ⟨c,e1,_⟩:=h.ids
  rw [e1,List.length_map]
  exact List.length_filter_le _ _
 ·exact (h.found (getD_mem hi)).1 (h.led hl).2
end Go.Proofs.YtnenggkgfhgcnaaGreatDoor
