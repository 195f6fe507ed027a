/- Package tree: terms in memory; needMark, name, several, upTo, deeper, closed, by contracts over what they are handed. -/
import Derived.Test.YtemapnogjepokaaGreatDoorLineLToTreeA
namespace Go.Proofs.YtemapnogjepokaaGreatDoor
open Go.RowKit

def mkE (op:ByteArray) (z:Int) (s:ByteArray) (pl:List ByteArray) (el:List (DataW Unit)):DataW Unit:=
 .agg [.lit (.string op.data.toList),.lit (.int .i64 z),.lit (.string s.data.toList),.slice (pl.map fun x=>.lit (.string x.data.toList)) [],.slice el []]

def kIndex:ByteArray:=⟨#[105,110,100,101,120]⟩
def IxRow (S:Nat→Prop) (w:World) (op:ByteArray) (la:Option Addr) (lc n:Nat):Prop:=0<n→op=kIndex → ∃ b cur,la=some ⟨b,0,none⟩∧S b∧w.heap[b]?=some (.cells cur 72)∧lc=n∧cur.size=n*5
def repE (S:Nat→Prop) (w:World):Nat→List Value→DataW Unit→Prop
 | 0,_,_=>False
 | n+1,cs,d => ∃ (op s:ByteArray) (z:Int) (pl:List ByteArray) (el:List (DataW Unit)) (pa la:Option Addr) (pc lc:Nat),
   d=mkE op z s pl el∧cs = [.string op,.int .i64 z,.string s,.slice pa pl.length pc,.slice la el.length lc] ∧
   (0<pl.length → ∃ b o,pa=some ⟨b,o,none⟩∧S b∧TS w b o pl) ∧
   (0<el.length → ∃ b o,la=some ⟨b,o,none⟩∧S b ∧ ∀ (i:Nat) (e:DataW Unit),el[i]?=some e → ∃ c0 c1 c2 c3 c4,w.cell? ⟨b,o+i*5,none⟩=some c0∧w.cell? ⟨b,o+i*5+1,none⟩=some c1∧w.cell? ⟨b,o+i*5+2,none⟩=some c2∧w.cell? ⟨b,o+i*5+3,none⟩=some c3∧w.cell? ⟨b,o+i*5+4,none⟩=some c4∧repE S w n [c0,c1,c2,c3,c4] e)∧IxRow S w op la lc el.length∧el.length≤lc
def RepE (S:Nat→Prop) (w:World) (cs:List Value) (d:DataW Unit):Prop:=∃ n,repE S w n cs d

def Same (S:Nat→Prop) (w w':World):Prop:=∀ b,S b→b<w.heap.size→w'.heap[b]?=w.heap[b]?
theorem Same.cell {S:Nat→Prop}{w w':World}(h:Same S w w') {b o:Nat}(hb:S b) {v:Value}(hc:w.cell? ⟨b,o,none⟩=some v):w'.cell? ⟨b,o,none⟩=some v:=
 (World.cell?_of_block (a:=⟨b,o,none⟩) (h b hb (lt_of_cell hc))).trans hc
theorem Same.trans {S:Nat→Prop}{a b c:World}(h:Same S a b) (k:Same S b c) (hs:a.heap.size≤b.heap.size):Same S a c:=fun i hi hl=>(k i hi (Nat.lt_of_lt_of_le hl hs)).trans (h i hi hl)
theorem same_below {S:Nat→Prop}{w w':World}(h:Below w.heap.size w w'):Same S w w':=fun b _ hl=>h.block b hl
theorem same_set {S:Nat→Prop}{w:World}{b o:Nat}{v:Value}(h:¬ S b):Same S w (w.setCell ⟨b,o,none⟩ v):=fun _ hk _=>heap_set _ _ _ _ _ (fun e=>h (e ▸ hk))
theorem Keeps.same {p:Nat}{S:Nat→Prop}{w w':World}(h:Keeps p w w') (hp:¬ S p):Same S w w':=fun b hb hl=>h.block b (fun e=>hp (e ▸ hb)) hl

theorem Keeps.cell {p:Nat}{w w':World}(h:Keeps p w w') {b o:Nat}(hb:b≠p) {v:Value}(hc:w.cell? ⟨b,o,none⟩=some v):w'.cell? ⟨b,o,none⟩=some v:=
 (World.cell?_of_block (a:=⟨b,o,none⟩) (h.block b hb (lt_of_cell hc))).trans hc
theorem TS.keeps {p b o:Nat}{w w':World}{ts:List ByteArray}(h:TS w b o ts) (K:Keeps p w w') (hb:b≠p):TS w' b o ts:=fun j t hj=>K.cell hb (h j t hj)
theorem TS.same {S:Nat→Prop}{b o:Nat}{w w':World}{ts:List ByteArray}(h:TS w b o ts) (K:Same S w w') (hb:S b):TS w' b o ts:=fun j t hj=>K.cell hb (h j t hj)
theorem IxRow.same {S S':Nat→Prop}{w w':World}{op:ByteArray}{la:Option Addr}{lc n:Nat}(h:IxRow S w op la lc n) (K:Same S w w') (hS:∀ b,S b→b<w.heap.size→S' b):IxRow S' w' op la lc n:=fun h0 h1=>by
 obtain ⟨b,cur,e1,e2,e3,e4,e5⟩:=h h0 h1
 exact ⟨b,cur,e1,hS b e2 (lt_of_heap e3),(K b e2 (lt_of_heap e3)).trans e3,e4,e5⟩
theorem repE_same {S S':Nat→Prop}{w w':World}(K:Same S w w') (hS:∀ b,S b→b<w.heap.size→S' b):∀ (n:Nat) (cs:List Value) (d:DataW Unit),repE S w n cs d→repE S' w' n cs d
 | 0,_,_,h=>h.elim
 | n+1,cs,d,h=>by
  obtain ⟨op,s,z,pl,el,pa,la,pc,lc,hd,hcs,hp1,hl1,hix⟩:=h
  refine ⟨op,s,z,pl,el,pa,la,pc,lc,hd,hcs,fun h0 => ?_,fun h0 => ?_,hix.1.same K hS,hix.2⟩
  ·obtain ⟨b,o,e,hb,ht⟩:=hp1 h0
   exact ⟨b,o,e,hS b hb (lt_of_cell (ht 0 pl[0] (by simp))),ht.same K hb⟩
  ·obtain ⟨b,o,e,hb,hx⟩:=hl1 h0
   have hbl:b<w.heap.size:=by
    obtain ⟨c0,_,_,_,_,h1,_⟩:=hx 0 el[0] (by simp)
    exact lt_of_cell h1
   refine ⟨b,o,e,hS b hb hbl,fun i x hi => ?_⟩
   obtain ⟨c0,c1,c2,c3,c4,h0,h1,h2,h3,h4,hr⟩:=hx i x hi
   exact ⟨c0,c1,c2,c3,c4,K.cell hb h0,K.cell hb h1,K.cell hb h2,K.cell hb h3,K.cell hb h4,repE_same K hS n _ _ hr⟩
theorem RepE.same {S S':Nat→Prop}{w w':World}{cs:List Value}{d:DataW Unit}(h:RepE S w cs d) (K:Same S w w') (hS:∀ b,S b→b<w.heap.size→S' b):RepE S' w' cs d:=by
 obtain ⟨n,hn⟩:=h
 exact ⟨n,repE_same K hS n _ _ hn⟩
theorem repE_more {S:Nat→Prop}{w:World} : ∀ (n m:Nat) (cs:List Value) (d:DataW Unit),n≤m→repE S w n cs d→repE S w m cs d
 | 0,_,_,_,_,h=>h.elim
 | n+1,0,_,_,hle,_=>by omega
 | n+1,m+1,cs,d,hle,h=>by
  obtain ⟨op,s,z,pl,el,pa,la,pc,lc,hd,hcs,hp1,hl1,hix⟩:=h
  refine ⟨op,s,z,pl,el,pa,la,pc,lc,hd,hcs,hp1,fun h0 => ?_,hix⟩
  obtain ⟨b,o,e,hb,hx⟩:=hl1 h0
  refine ⟨b,o,e,hb,fun i x hi => ?_⟩
  obtain ⟨c0,c1,c2,c3,c4,h0,h1,h2,h3,h4,hr⟩:=hx i x hi
  exact ⟨c0,c1,c2,c3,c4,h0,h1,h2,h3,h4,repE_more n m _ _ (by omega) hr⟩

abbrev Out (α:Type):=Except (Nat × Bool) (α × Nat)

structure TErr (B:Nat) (a0 a1:Addr) (w:World):Prop where
 g0:w.cell? ⟨3,0,none⟩=some (.iface 214 (.pointer (some a0)))
 g1:w.cell? ⟨2,0,none⟩=some (.iface 214 (.pointer (some a1)))
 b0:3<B
 b1:2<B
theorem TErr.keeps {p:Nat}{a0 a1:Addr}{w w':World}(E:TErr p a0 a1 w) (K:Keeps p w w'):TErr p a0 a1 w':=⟨K.cell (by have:=E.b0;omega) E.g0,K.cell (by have:=E.b1;omega) E.g1,E.b0,E.b1⟩

def faultAt (l:List (ByteArray × ByteArray × Nat)) (p:Nat) (a0 a1:Addr) (w:World) (x:Nat × Bool) (ev:Ending) (w':World):Prop:=
 ∃ t,l[x.1]?=some t∧Thrown p w t.2.2 (if x.2 then a1 else a0) ev w'
theorem faultAt.after {l:List (ByteArray × ByteArray × Nat)}{p:Nat}{a0 a1:Addr}{w w1:World}{x:Nat × Bool}{ev:Ending}{w':World}(hb:Below p w w1) (h:faultAt l p a0 a1 w1 x ev w'):faultAt l p a0 a1 w x ev w':=by
 obtain ⟨t,h1,h2⟩:=h
 exact ⟨t,h1,h2.after hb⟩

set_option maxHeartbeats 1000000 in
theorem needMark_any {w:World}{p g cap:Nat}{rk:Value}{l:List (ByteArray × ByteArray × Nat)}{k bl dp:Nat}{a0 a1:Addr}(R:RD w p g cap rk l k bl dp) (E:TErr p a0 a1 w) {x:ByteArray × ByteArray × Nat}(hx:l[k]?=some x) (hl:l.length≤100000) (t:ByteArray) :
  Calls Tryz.prog 113 #[.pointer (some ⟨p,0,none⟩),.string t] w fun ev w'=>if markB x [t] then (ev = .returned (.tuple #[])∧RD w' p g cap rk l (k+1) bl dp∧Keeps p w w') else faultAt l p a0 a1 w (k,false) ev w':=by
 obtain ⟨m,hm⟩:∃ m,markB x [t]=m:=⟨_,rfl⟩
 rw [hm]
 have HM:=toHid hm
 clear hm
 go_enter Tryz.func113,Tryz.ntmps113
 go_wp2_with fail
 refine (passMark_any R hx hl t).mono ?_
 rintro ev w1 ⟨rfl,R1,K1⟩
 rw [HM.out] at R1 ⊢
 have E1:=E.keeps K1
 have hg0:=E1.g0
 cases m
 ·clear R
  go_wp2_with fail
  refine (tthrow_any R1 hx a0).mono ?_
  rintro ev w2 ⟨b,rfl,hbw,d0,d1⟩
  have HF:Hid (faultAt l p a0 a1 w (k,false) (.panicked [{ v:=.iface 61 (.pointer (some ⟨b,0,none⟩)),recovered:=false }]) w2):=⟨x,hx,b,rfl,K1.below.trans hbw,d0,d1⟩
  clear R1 hbw d0 d1 K1
  go_wp2_with fail
  exact ⟨rfl,HF.out⟩
 ·clear R
  go_wp2_with fail
  go_end0
  exact ⟨rfl,R1,K1⟩

def Ended (l:List (ByteArray × ByteArray × Nat)):Prop:=∃ x,l[l.length - 1]?=some x ∧ ∀ ts,markB x ts=false
theorem Ended.next {l:List (ByteArray × ByteArray × Nat)}(h:Ended l) {k:Nat}{x:ByteArray × ByteArray × Nat}{ts:List ByteArray}(hx:l[k]?=some x) (hm:markB x ts=true):k+1<l.length:=by
 obtain ⟨y,hy,hn⟩:=h
 have hk:=(List.getElem?_eq_some_iff.1 hx).1
 rcases Nat.lt_or_ge (k+1) l.length with h1 | h1
 ·exact h1
 ·have e:l.length - 1=k:=by omega
  rw [e,hx] at hy
  simp only [Option.some.injEq] at hy
  subst hy
  rw [hn ts] at hm
  cases hm
def markAt (l:List (ByteArray × ByteArray × Nat)) (k:Nat) (ts:List ByteArray):Bool:=match l[k]? with
 | some x=>markB x ts
 | none=>false
theorem markAt_of {l:List (ByteArray × ByteArray × Nat)}{k:Nat}{x:ByteArray × ByteArray × Nat}(hx:l[k]?=some x) (ts:List ByteArray):markAt l k ts=markB x ts:=by
 unfold markAt
 rw [hx]
def comma:ByteArray:=⟨#[44]⟩

def pMore {σ:Type}(l:List (ByteArray × ByteArray × Nat)) (step:σ→Nat→Out σ):Nat→σ→Nat→Out σ
 | 0,_,k=>.error (k,false)
 | f+1,s,k=>bif markAt l k [comma] then (match step s (k+1) with
  | .error x=>.error x
  | .ok (s',k')=>pMore l step f s' k') else .ok (s,k)
def pSeveral {σ:Type}(l:List (ByteArray × ByteArray × Nat)) (step:σ→Nat→Out σ) (f:Nat) (s:σ) (k:Nat):Out σ:=match step s k with
 | .error x=>.error x
 | .ok (s',k')=>pMore l step f s' k'
theorem pMore_stop {σ:Type}{l:List (ByteArray × ByteArray × Nat)}{step:σ→Nat→Out σ}{f:Nat}{s:σ}{k:Nat}(h:markAt l k [comma]=false):pMore l step (f+1) s k = .ok (s,k):=by
 unfold pMore
 rw [h]
 rfl
theorem pMore_err {σ:Type}{l:List (ByteArray × ByteArray × Nat)}{step:σ→Nat→Out σ}{f:Nat}{s:σ}{k:Nat}{x:Nat × Bool}(h:markAt l k [comma]=true) (hs:step s (k+1) = .error x):pMore l step (f+1) s k = .error x:=by
 unfold pMore
 rw [h,hs]
 rfl
theorem pMore_go {σ:Type}{l:List (ByteArray × ByteArray × Nat)}{step:σ→Nat→Out σ}{f:Nat}{s s':σ}{k k':Nat}(h:markAt l k [comma]=true) (hs:step s (k+1) = .ok (s',k')):pMore l step (f+1) s k=pMore l step f s' k':=by
 conv=>lhs;unfold pMore
 rw [h,hs]
 rfl

def Steps (K:FuncId) (caps:Array Value) (p g cap:Nat) (rk:Value) (l:List (ByteArray × ByteArray × Nat)) (bl dp:Nat) (a0 a1:Addr) {σ:Type}(J:σ→Nat→World→Prop) (s:σ) (k:Nat) (o:Out σ):Prop:=
 ∀ w,RD w p g cap rk l k bl dp→J s k w→TErr p a0 a1 w→Calls Tryz.prog K caps w fun ev w'=>match o with
  | .ok (s',k')=>ev = .returned (.tuple #[])∧RD w' p g cap rk l k' bl dp∧J s' k' w'∧Below p w w'∧k<k'∧k'<l.length
  | .error x=>faultAt l p a0 a1 w x ev w'

theorem TErr.below {p:Nat}{a0 a1:Addr}{w w':World}(E:TErr p a0 a1 w) (hb:Below p w w'):TErr p a0 a1 w':=⟨(hb.cell (p:=⟨3,0,none⟩) E.b0).trans E.g0,(hb.cell (p:=⟨2,0,none⟩) E.b1).trans E.g1,E.b0,E.b1⟩

set_option maxHeartbeats 1000000 in
theorem several_any {σ:Type}(K:FuncId) (caps:Array Value) (hE:∀ args w,(callFunc K args).run Tryz.prog w = .ok (.enter K args) w) {p g cap:Nat}{rk:Value}{l:List (ByteArray × ByteArray × Nat)}{bl dp:Nat}{a0 a1:Addr}(J:σ→Nat→World→Prop) (hJ:∀ s k k' w w',k≤k'→J s k w→Keeps p w w'→J s k' w') (step:σ→Nat→Out σ)
  (lo:Nat) (hstep:∀ s k,lo≤k→k<l.length→Steps K caps p g cap rk l bl dp a0 a1 J s k (step s k)) (hl:l.length≤100000) (hen:Ended l) (s:σ) (k f:Nat) (hlo:lo≤k) (hk:k<l.length) (hf:l.length - k≤f) (w:World) (R:RD w p g cap rk l k bl dp) (hs:J s k w) (E:TErr p a0 a1 w) :
  Calls Tryz.prog 118 #[.pointer (some ⟨p,0,none⟩),.func (.func K) #[] caps] w fun ev w'=>match pSeveral l step f s k with
   | .ok (s',k')=>ev = .returned (.tuple #[])∧RD w' p g cap rk l k' bl dp∧J s' k' w'∧Below p w w'∧k<k'∧k'<l.length
   | .error x=>faultAt l p a0 a1 w x ev w':=by
 have HST:=toHid hstep
 have HJ:=toHid hJ
 clear hstep hJ
 have HE:=toHid hE
 unfold pSeveral
 cases ho:step s k with
 | error x =>
  go_enter Tryz.func118,Tryz.ntmps118
  go_wp2_with fail
  refine (HST.out s k hlo hk w R hs E).mono ?_
  intro ev w1 hT
  rw [ho] at hT
  obtain ⟨t,h1,b,rfl,h2⟩:=hT
  have HF:Hid (faultAt l p a0 a1 w x (.panicked [{ v:=.iface 61 (.pointer (some ⟨b,0,none⟩)),recovered:=false }]) w1):=⟨t,h1,b,rfl,h2⟩
  clear ho R hs E h1 h2
  go_wp2_with fail
  exact ⟨rfl,HF.out⟩
 | ok y =>
  obtain ⟨s1,k1⟩:=y
  simp only
  obtain ⟨o,hoo⟩:∃ o,o=pMore l step f s1 k1:=⟨_,rfl⟩
  rw [←hoo]
  have HOO:=toHid hoo
  clear hoo
  go_enter Tryz.func118,Tryz.ntmps118
  go_wp2_with fail
  refine (HST.out s k hlo hk w R hs E).mono ?_
  intro ev w1 hT
  rw [ho] at hT
  obtain ⟨rfl,R1,hs1,hb1,hk1,hk1l⟩:=hT
  have H0:Hid (RD w1 p g cap rk l k1 bl dp∧J s1 k1 w1∧Below p w w1∧k<k1∧k1<l.length):=⟨R1,hs1,hb1,hk1,hk1l⟩
  have HEW:=toHid E
  clear ho R R1 hs1 hb1 hk1 hk1l hs E hE
  go_wp2_with fail
  go_loopg [] f (fun gk wx => ∃ (s2:σ) (k2:Nat),RD wx p g cap rk l k2 bl dp∧J s2 k2 wx∧Below p w wx∧k<k2∧k2<l.length∧l.length - k2<gk∧pMore l step gk s2 k2=o)
  case atStart =>
   obtain ⟨h1,h2,h3,h4,h5⟩:=H0.out
   exact ⟨s1,k1,h1,h2,h3,h4,h5,by omega,HOO.out.symm⟩
  case round =>
   obtain ⟨s2,k2,R2,hs2,hb2,hk2,hk2l,hgk,hpm⟩:=hrel
   obtain ⟨x,hx⟩:∃ x,l[k2]?=some x:=⟨l[k2],by simp [hk2l]⟩
   have HPM:=toHid hpm
   have HX:=toHid hx
   have hlp:=lt_of_heap R2.blk
   have E2:=HEW.out.below hb2
   obtain ⟨gj,hgj⟩:∃ gj,gk=gj+1:=⟨gk - 1,by omega⟩
   have HGJ:=toHid hgj
   have HMA:=toHid (markAt_of hx [comma])
   obtain ⟨m,hm⟩:∃ m,markB x [comma]=m:=⟨_,rfl⟩
   have HM:=toHid hm
   clear hpm hgj hm H0
   go_wp2_with fail
   refine (passMark_any R2 hx hl comma).mono ?_
   rintro ev w3 ⟨rfl,R3,K3⟩
   rw [HM.out] at R3 ⊢
   have hs3:=fun k' (hk':k2≤k')=>HJ.out s2 k2 k' wr w3 hk' hs2 K3
   have hb3:=hb2.trans K3.below
   have E3:=HEW.out.below hb3
   cases m
   ·have ho2:o = .ok (s2,k2):=by rw [←HPM.out,HGJ.out];exact pMore_stop (by rw [HMA.out];exact HM.out)
    subst ho2
    have HF:Hid (RD w3 p g cap rk l k2 bl dp∧J s2 k2 w3∧Below p w w3∧k<k2∧k2<l.length):=⟨R3,hs3 k2 (Nat.le_refl _),hb3,hk2,hk2l⟩
    clear R2 hs2 hb2 R3 hs3 hb3 K3 E2 E3 HPM
    go_wp2_with fail
    go_end0
    exact ⟨rfl,HF.out.1,HF.out.2.1,HF.out.2.2.1⟩
   ·have hk3:k2+1<l.length:=hen.next HX.out HM.out
    have HMT:Hid (markAt l k2 [comma]=true):=by show _=_;rw [HMA.out];exact HM.out
    have hE3:=HE.out
    have HC:=toHid (HST.out s2 (k2+1) (by omega) hk3 w3 R3 (hs3 (k2+1) (by omega)) E3)
    cases ho3:step s2 (k2+1) with
    | error y =>
     have ho2:o = .error y:=by rw [←HPM.out,HGJ.out];exact pMore_err HMT.out ho3
     subst ho2
     rw [ho3] at HC
     clear ho3 R2 hs2 R3 hs3 E2 E3 HPM
     go_wp2_with fail
     refine HC.out.mono ?_
     intro ev w4 hT
     obtain ⟨t,h1,b,rfl,h2⟩:=hT
     have HF:Hid (faultAt l p a0 a1 w y (.panicked [{ v:=.iface 61 (.pointer (some ⟨b,0,none⟩)),recovered:=false }]) w4):=faultAt.after hb3 ⟨t,h1,b,rfl,h2⟩
     clear h1 h2 hb2 hb3 K3
     go_wp2_with fail
     exact ⟨rfl,HF.out⟩
    | ok y =>
     obtain ⟨s4,k4⟩:=y
     have HP4:Hid (pMore l step gj s4 k4=o):=by show _=_;rw [←HPM.out,HGJ.out];exact (pMore_go HMT.out ho3).symm
     rw [ho3] at HC
     clear ho3 R2 hs2 R3 hs3 E2 E3 HPM
     go_wp2_with fail
     refine HC.out.mono ?_
     intro ev w4 hT
     obtain ⟨rfl,R4,hs4,hb4,hk4,hk4l⟩:=hT
     have HF:Hid (RD w4 p g cap rk l k4 bl dp∧J s4 k4 w4∧Below p w w4):=⟨R4,hs4,hb3.trans hb4⟩
     clear R4 hs4 hb4 hb2 hb3 K3
     go_wp2_with fail
     go_roundg gj
     case measure=>have:=HGJ.out;omega
     case rel =>
      obtain ⟨h1,h2,h3⟩:=HF.out
      exact ⟨s4,k4,h1,h2,h3,by omega,hk4l,by have:=HGJ.out;omega,HP4.out⟩

def pUpTo {σ:Type}(l:List (ByteArray × ByteArray × Nat)) (step:σ→Nat→Out σ) (closing:ByteArray) (f:Nat) (s:σ) (k:Nat):Out σ:=
 bif markAt l k [closing] then .ok (s,k+1) else match pSeveral l step f s k with
  | .error x=>.error x
  | .ok (s',k')=>bif markAt l k' [closing] then .ok (s',k'+1) else .error (k',false)

set_option maxHeartbeats 1000000 in
theorem upTo_any {σ:Type}(K:FuncId) (caps:Array Value) (hE:∀ args w,(callFunc K args).run Tryz.prog w = .ok (.enter K args) w) {p g cap:Nat}{rk:Value}{l:List (ByteArray × ByteArray × Nat)}{bl dp:Nat}{a0 a1:Addr}(J:σ→Nat→World→Prop) (hJ:∀ s k k' w w',k≤k'→J s k w→Keeps p w w'→J s k' w') (step:σ→Nat→Out σ)
  (lo:Nat) (hstep:∀ s k,lo≤k→k<l.length→Steps K caps p g cap rk l bl dp a0 a1 J s k (step s k)) (hl:l.length≤100000) (hen:Ended l) (closing:ByteArray) (s:σ) (k f:Nat) (hlo:lo≤k) (hk:k<l.length) (hf:l.length - k≤f) (w:World) (R:RD w p g cap rk l k bl dp) (hs:J s k w) (E:TErr p a0 a1 w) :
  Calls Tryz.prog 116 #[.pointer (some ⟨p,0,none⟩),.string closing,.func (.func K) #[] caps] w fun ev w'=>match pUpTo l step closing f s k with
   | .ok (s',k')=>ev = .returned (.tuple #[])∧RD w' p g cap rk l k' bl dp∧J s' k' w'∧Below p w w'∧k<k'∧k'<l.length
   | .error x=>faultAt l p a0 a1 w x ev w':=by
 obtain ⟨x,hx⟩:∃ x,l[k]?=some x:=⟨l[k],by simp [hk]⟩
 have HJ:=toHid hJ
 have HST:=toHid hstep
 have HX:=toHid hx
 obtain ⟨m,hm⟩:∃ m,markB x [closing]=m:=⟨_,rfl⟩
 have hma:markAt l k [closing]=m:=(markAt_of hx [closing]).trans hm
 unfold pUpTo
 rw [hma]
 have HM:=toHid hm
 clear hJ hstep hm hma
 cases m
 ·simp only [cond_false]
  have HC:=toHid (fun (w1:World) (R1:RD w1 p g cap rk l k bl dp) (h1:J s k w1) (E1:TErr p a0 a1 w1)=>several_any K caps hE J HJ.out step lo HST.out hl hen s k f hlo hk hf w1 R1 h1 E1)
  cases ho:pSeveral l step f s k with
  | error y =>
   rw [ho] at HC
   clear ho
   go_enter Tryz.func116,Tryz.ntmps116
   go_wp2_with fail
   refine (passMark_any R hx hl closing).mono ?_
   rintro ev w1 ⟨rfl,R1,K1⟩
   rw [HM.out] at R1 ⊢
   have h1:=HJ.out s k k w w1 (Nat.le_refl _) hs K1
   have E1:=E.keeps K1
   have hR1:RD w1 p g cap rk l k bl dp:=by simpa using R1
   clear R R1 hs hx
   go_wp2_with fail
   refine (HC.out w1 hR1 h1 E1).mono ?_
   intro ev w2 hT
   obtain ⟨t,g1,b,rfl,g2⟩:=hT
   have HF:Hid (faultAt l p a0 a1 w y (.panicked [{ v:=.iface 61 (.pointer (some ⟨b,0,none⟩)),recovered:=false }]) w2):=faultAt.after K1.below ⟨t,g1,b,rfl,g2⟩
   clear g1 g2 K1 hR1 h1 E1
   go_wp2_with fail
   exact ⟨rfl,HF.out⟩
  | ok y =>
   obtain ⟨s',k'⟩:=y
   simp only
   rw [ho] at HC
   clear ho
   obtain ⟨m2,hm2⟩:∃ m2,markAt l k' [closing]=m2:=⟨_,rfl⟩
   rw [hm2]
   have HM2:=toHid hm2
   clear hm2
   cases m2
   ·simp only [cond_false]
    go_enter Tryz.func116,Tryz.ntmps116
    go_wp2_with fail
    refine (passMark_any R hx hl closing).mono ?_
    rintro ev w1 ⟨rfl,R1,K1⟩
    rw [HM.out] at R1 ⊢
    have h1:=HJ.out s k k w w1 (Nat.le_refl _) hs K1
    have E1:=E.keeps K1
    have hR1:RD w1 p g cap rk l k bl dp:=by simpa using R1
    clear R R1 hs hx
    go_wp2_with fail
    refine (HC.out w1 hR1 h1 E1).mono ?_
    intro ev w2 hT
    obtain ⟨rfl,R2,h2,hb2,hk2,hk2l⟩:=hT
    have hb2w:=K1.below.trans hb2
    have E2:=E.below hb2w
    obtain ⟨x2,hx2⟩:∃ x2,l[k']?=some x2:=⟨l[k'],by simp [hk2l]⟩
    have HX2:=toHid hx2
    have hmm:=(markAt_of hx2 [closing]).symm.trans HM2.out
    have HMM:=toHid hmm
    clear hR1 h1 E1 hmm
    go_wp2_with fail
    refine (needMark_any R2 E2 hx2 hl closing).mono ?_
    intro ev w3 hT
    rw [HMM.out] at hT
    have hT':faultAt l p a0 a1 w2 (k',false) ev w3:=by simpa using hT
    obtain ⟨t,g1,b,rfl,g2⟩:=hT'
    have HF:Hid (faultAt l p a0 a1 w (k',false) (.panicked [{ v:=.iface 61 (.pointer (some ⟨b,0,none⟩)),recovered:=false }]) w3):=faultAt.after hb2w ⟨t,g1,b,rfl,g2⟩
    clear g1 g2 hT K1 R2 h2 hb2 hb2w E2 hx2
    go_wp2_with fail
    exact ⟨rfl,HF.out⟩
   ·simp only [cond_true]
    go_enter Tryz.func116,Tryz.ntmps116
    go_wp2_with fail
    refine (passMark_any R hx hl closing).mono ?_
    rintro ev w1 ⟨rfl,R1,K1⟩
    rw [HM.out] at R1 ⊢
    have h1:=HJ.out s k k w w1 (Nat.le_refl _) hs K1
    have E1:=E.keeps K1
    have hR1:RD w1 p g cap rk l k bl dp:=by simpa using R1
    clear R R1 hs hx
    go_wp2_with fail
    refine (HC.out w1 hR1 h1 E1).mono ?_
    intro ev w2 hT
    obtain ⟨rfl,R2,h2,hb2,hk2,hk2l⟩:=hT
    have hb2w:=K1.below.trans hb2
    have E2:=E.below hb2w
    obtain ⟨x2,hx2⟩:∃ x2,l[k']?=some x2:=⟨l[k'],by simp [hk2l]⟩
    have HX2:=toHid hx2
    have hmm:=(markAt_of hx2 [closing]).symm.trans HM2.out
    have HMM:=toHid hmm
    clear hR1 h1 E1 hmm
    go_wp2_with fail
    refine (needMark_any R2 E2 hx2 hl closing).mono ?_
    intro ev w3 hT
    rw [HMM.out] at hT
    have hT':ev = .returned (.tuple #[])∧RD w3 p g cap rk l (k'+1) bl dp∧Keeps p w2 w3:=by simpa using hT
    obtain ⟨rfl,R3,K3⟩:=hT'
    have hk3:=hen.next HX2.out HMM.out
    have HF:Hid (RD w3 p g cap rk l (k'+1) bl dp∧J s' (k'+1) w3∧Below p w w3):=⟨R3,HJ.out s' k' (k'+1) w2 w3 (by omega) h2 K3,hb2w.trans K3.below⟩
    have hkk:k<k'+1:=by omega
    clear hT R2 R3 K3 K1 h2 hb2 hb2w E2 hx2
    go_wp2_with fail
    go_end0
    exact ⟨rfl,HF.out.1,HF.out.2.1,HF.out.2.2,hkk,hk3⟩
 ·simp only [cond_true]
  have hk3:=hen.next HX.out HM.out
  go_enter Tryz.func116,Tryz.ntmps116
  go_wp2_with fail
  refine (passMark_any R hx hl closing).mono ?_
  rintro ev w1 ⟨rfl,R1,K1⟩
  rw [HM.out] at R1 ⊢
  have HF:Hid (RD w1 p g cap rk l (k+1) bl dp∧J s (k+1) w1∧Below p w w1):=⟨by simpa using R1,HJ.out s k (k+1) w w1 (by omega) hs K1,K1.below⟩
  clear R R1 hs hx K1
  go_wp2_with fail
  exact bodyPost_ret (v:=.tuple #[]) (by simp [results,Tryz.results116,go_sem]) rfl ⟨rfl,HF.out.1,HF.out.2.1,HF.out.2.2,by omega,hk3⟩
end Go.Proofs.YtemapnogjepokaaGreatDoor
