/- Package scope: spaces in memory, and what their marks say. -/
import Derived.Test.YtemapnogjepokaaGreatDoorTreeB
import Derived.Maps.OwnOps
import Derived.Maps.Views
import Derived.Deep.Upon
namespace Go.Proofs.YtemapnogjepokaaGreatDoor
open Go.RowKit Go.Maps

theorem lawS:Keyed Tryz.prog 9:=string_keyed Tryz.underlying9
theorem zeroInt (w:World):(zeroValue 3).run Tryz.prog w = .ok (.int .i64 0) w:=by kernel_rfl
structure SD where
 b:Nat
 m:Nat
 k:Nat
 nm:ByteArray
 ar:Int
 pn:Nat
 D:DataW Unit
 v:Value
 od:List ByteArray
def SD.mk' (x:SD) (s:ByteArray) (n:Nat):Prop:=x.D.atKey (.string s.data.toList) (.lit (.int .i64 0)) = .lit (.int .i64 (n:Int))
def bdB (n:Nat):Bool:=n.testBit 0
def glB (n:Nat):Bool:=n.testBit 2
def nlB (n:Nat):Bool:=n.testBit 3
def shB (n:Nat):Bool:=n.testBit 4
def frB (n:Nat):Bool:=n.testBit 5
def beB (n:Nat):Bool:=bdB n && !(glB n || nlB n)
structure SpOK (x:SD):Prop where
 map:IsMap x.D
 all:∀ s,∃ n,n<64∧x.mk' s n∧(bdB n=true→s∈x.od)
 ods:∀ s∈x.od,s.size≤maxLen
theorem mk_one {x:SD}{s:ByteArray}{n n':Nat}(h:x.mk' s n) (h':x.mk' s n'):n=n':=by
 have e:=h.symm.trans h'
 simp only [DataW.lit.injEq,Lit.int.injEq,true_and] at e
 omega
structure SpAt (B:Nat) (w:World) (x:SD):Prop where
 blk:w.heap[x.b]?=some (.cells #[.string x.nm,.int .i64 x.ar,.int .i64 (x.pn:Int),.slice none 0 0,.slice none 0 0,.slice none 0 0,.map (some x.m),x.v] 68)
 own:w.ownsMap Tryz.prog 9 (plainElem Tryz.prog 3) x.m x.k x.D
 row:w.ownsRow B 9 1 x.v x.od.length (x.od.map Value.string)
 hb:B≤x.b
 hm:B≤x.m
 ok:SpOK x
theorem SpAt.mapblk {B:Nat}{w:World}{x:SD}(h:SpAt B w x):∃ es clock,w.heap[x.m]?=some (.map es clock):=by
 obtain ⟨es,clock,e,_⟩:=h.own
 exact ⟨es,clock,e⟩
theorem row_kept {w w':World}{B t c n:Nat}{v:Value}{xs:List Value}(h:w.ownsRow B t c v n xs) (hw:∀ g,v.ownBlock=some g→w'.heap[g]?=w.heap[g]?):w'.ownsRow B t c v n xs:=by
 refine ⟨h.1,?_⟩
 rcases h.2 with h | ⟨g,cap,cur,rfl,e2,e3,e4⟩
 ·exact .inl h
 ·exact .inr ⟨g,cap,cur,rfl,e2,(hw g rfl).trans e3,e4⟩
theorem row_block {w:World}{B t c n g:Nat}{v:Value}{xs:List Value}(h:w.ownsRow B t c v n xs) (hg:v.ownBlock=some g):B≤g ∧ ∃ cur,w.heap[g]?=some (.cells cur t (0,0)):=by
 rcases h.2 with ⟨rfl,_⟩ | ⟨g',cap,cur,rfl,e2,e3,e4⟩
 ·simp [Value.ownBlock] at hg
 ·simp [Value.ownBlock] at hg
  subst hg
  exact ⟨e2,cur,e3⟩
theorem own_kept {w w':World}{k:TypeId}{R:Value→Option (DataW Unit × List MemPlace)}{b n:Nat}{D:DataW Unit}(h:w.ownsMap Tryz.prog k R b n D) (hw:w'.heap[b]?=w.heap[b]?):w'.ownsMap Tryz.prog k R b n D:=by
 obtain ⟨es,clock,e1,e2⟩:=h
 exact ⟨es,clock,hw.trans e1,e2⟩
theorem SpAt.kept {B:Nat}{w w':World}{x:SD}(h:SpAt B w x) (h1:w'.heap[x.b]?=w.heap[x.b]?) (h2:w'.heap[x.m]?=w.heap[x.m]?) (h3:∀ g,x.v.ownBlock=some g→w'.heap[g]?=w.heap[g]?):SpAt B w' x:=
 ⟨h1.trans h.blk,own_kept h.own h2,row_kept h.row h3,h.hb,h.hm,h.ok⟩
structure Ex (S:Nat→Prop) (w w':World):Prop where
 os:w'.os=w.os
 tape:w'.tape=w.tape
 output:w'.output=w.output
 size:w.heap.size≤w'.heap.size
 block:∀ k,k<w.heap.size → ¬ S k→w'.heap[k]?=w.heap[k]?
theorem Ex.refl (S:Nat→Prop) (w:World):Ex S w w:=⟨rfl,rfl,rfl,Nat.le_refl _,fun _ _ _=>rfl⟩
theorem Ex.trans {S:Nat→Prop}{a b c:World}(h:Ex S a b) (k:Ex S b c):Ex S a c:=⟨k.os.trans h.os,k.tape.trans h.tape,k.output.trans h.output,Nat.le_trans h.size k.size,fun q hq hs=>(k.block q (Nat.lt_of_lt_of_le hq h.size) hs).trans (h.block q hq hs)⟩
theorem Ex.join {S T:Nat→Prop}{a b c:World}(h:Ex S a b) (k:Ex T b c) (ht:∀ q,T q→S q∨a.heap.size≤q):Ex S a c:=⟨k.os.trans h.os,k.tape.trans h.tape,k.output.trans h.output,Nat.le_trans h.size k.size,fun q hq hs=>(k.block q (Nat.lt_of_lt_of_le hq h.size) (fun t=>(ht q t).elim hs (fun e=>by omega))).trans (h.block q hq hs)⟩
theorem Ex.mono {S T:Nat→Prop}{a b:World}(h:Ex S a b) (hs:∀ k,S k→T k):Ex T a b:=⟨h.os,h.tape,h.output,h.size,fun q hq ht=>h.block q hq (fun h=>ht (hs q h))⟩
theorem Ex.below {S:Nat→Prop}{B:Nat}{a b:World}(h:Ex S a b) (hs:∀ k,S k→B≤k) (hB:B≤a.heap.size):Below B a b:=⟨h.os,h.tape,h.output,h.size,fun q hq=>h.block q (by omega) (fun h=>by have:=hs q h;omega)⟩
theorem Ex.alloc {S:Nat→Prop}{a b:World}(h:Ex S a b) (o:Obj):Ex S a (b.alloc o):=h.trans ⟨rfl,rfl,rfl,by simp,fun q hq _=>Below.heap_alloc _ _ _ hq⟩
theorem Ex.drew {S:Nat→Prop}{a b:World}(h:Ex S a b):Ex S a b.drew:=⟨h.os,h.tape,h.output,h.size,h.block⟩
theorem Ex.drewN {S:Nat→Prop}{n:Nat}{a b:World}(h:Ex S a b):Ex S a (b.drewN n):=⟨h.os,h.tape,h.output,h.size,h.block⟩
theorem Ex.set {S:Nat→Prop}{a b:World}(h:Ex S a b) {p o:Nat}(hp:S p) (v:Value):Ex S a (b.setCell ⟨p,o,none⟩ v):=h.trans ⟨rfl,rfl,rfl,by simp [World.setCell],fun q _ hs=>heap_set _ _ _ _ _ (fun e=>hs (e ▸ hp))⟩
theorem Ex.grown {S:Nat→Prop}{a b c:World}{r:Option Nat}(h:Ex S a b) (hg:b.grownBy c r) (hr:∀ g,r=some g→S g):Ex S a c:=h.trans ⟨hg.os,hg.tape,hg.output,hg.size,fun q hq hs=>hg.block q hq (fun e=>hs (hr q e.symm))⟩
theorem Ex.of_below {S:Nat→Prop}{a b c:World}(h:Ex S a b) (hb:Below b.heap.size b c):Ex S a c:=h.trans ⟨hb.os,hb.tape,hb.output,hb.size,fun q hq _=>hb.block q hq⟩
def SD.has (x:SD) (q:Nat):Prop:=q=x.b∨q=x.m∨x.v.ownBlock=some q
def SD.apart (x y:SD):Prop:=x.b≠y.b∧x.m≠y.m ∧ ∀ g,x.v.ownBlock=some g→y.v.ownBlock≠some g
theorem SD.apart.symm {x y:SD}(h:x.apart y):y.apart x:=⟨fun e=>h.1 e.symm,fun e=>h.2.1 e.symm,fun g h1 h2=>h.2.2 g h2 h1⟩
theorem apart_no {B:Nat}{w:World}{x y:SD}(hx:SpAt B w x) (hy:SpAt B w y) (ha:x.apart y) (q:Nat) (h1:x.has q) (h2:y.has q):False:=by
 have bx:=hx.blk
 have by':=hy.blk
 obtain ⟨e1,c1,mx⟩:=hx.mapblk
 obtain ⟨e2,c2,my⟩:=hy.mapblk
 rcases h1 with rfl | rfl | h1
 ·rcases h2 with h2 | h2 | h2
  ·exact ha.1 h2
  ·rw [h2,my] at bx
   cases bx
  ·obtain ⟨_,cur,e⟩:=row_block hy.row h2
   rw [e] at bx
   simp at bx
 ·rcases h2 with h2 | h2 | h2
  ·rw [h2,by'] at mx
   cases mx
  ·exact ha.2.1 h2
  ·obtain ⟨_,cur,e⟩:=row_block hy.row h2
   rw [e] at mx
   cases mx
 ·obtain ⟨_,cur,e⟩:=row_block hx.row h1
  rcases h2 with h2 | h2 | h2
  ·rw [h2,by'] at e
   simp at e
  ·rw [h2,my] at e
   cases e
  ·exact ha.2.2 q h1 h2
theorem SpAt.lt {B:Nat}{w:World}{x:SD}(h:SpAt B w x) {q:Nat}(hq:x.has q):q<w.heap.size∧B≤q:=by
 rcases hq with rfl | rfl | hq
 ·exact ⟨lt_of_heap h.blk,h.hb⟩
 ·obtain ⟨es,clock,e⟩:=h.mapblk
  exact ⟨lt_of_heap e,h.hm⟩
 ·obtain ⟨h1,cur,e⟩:=row_block h.row hq
  exact ⟨lt_of_heap e,h1⟩
theorem SpAt.ex {B:Nat}{w w':World}{x:SD}{S:Nat→Prop}(h:SpAt B w x) (he:Ex S w w') (hs:∀ q,x.has q → ¬ S q):SpAt B w' x:=
 h.kept (he.block _ (h.lt (.inl rfl)).1 (hs _ (.inl rfl))) (he.block _ (h.lt (.inr (.inl rfl))).1 (hs _ (.inr (.inl rfl)))) (fun _ hg=>he.block _ (h.lt (.inr (.inr hg))).1 (hs _ (.inr (.inr hg))))
structure SpL (B:Nat) (w:World) (l:List SD):Prop where
 all:∀ (i:Nat) (x:SD),l[i]?=some x→SpAt B w x
 two:∀ (i j:Nat) (x y:SD),l[i]?=some x→l[j]?=some y→i≠j→x.apart y
theorem SpL.ex {B:Nat}{w w':World}{l:List SD}{S:Nat→Prop}(h:SpL B w l) (he:Ex S w w') (hs:∀ (i:Nat) (x:SD),l[i]?=some x → ∀ q,x.has q → ¬ S q):SpL B w' l:=
 ⟨fun i x hi=>(h.all i x hi).ex he (hs i x hi),h.two⟩
theorem SpL.turn {B:Nat}{w w':World}{l:List SD}{i:Nat}{x x':SD}(h:SpL B w l) (hi:l[i]?=some x) (he:Ex x.has w w') (hx:SpAt B w' x') (h1:x'.b=x.b) (h2:x'.m=x.m) (h3:∀ g,x'.v.ownBlock=some g→x.v.ownBlock=some g∨w.heap.size≤g):SpL B w' (l.set i x'):=by
 have hil:=(List.getElem?_eq_some_iff.1 hi).1
 have apart:∀ (j:Nat) (y:SD),l[j]?=some y→i≠j→x'.apart y:=fun j y hj hne=>by
  have ha:=h.two i j x y hi hj hne
  refine ⟨h1 ▸ ha.1,h2 ▸ ha.2.1,fun g hg hy => ?_⟩
  rcases h3 g hg with h4 | h4
  ·exact ha.2.2 g h4 hy
  ·have:=((h.all j y hj).lt (.inr (.inr hy))).1
   omega
 refine ⟨fun j y hj => ?_,fun j k y z hj hk hne => ?_⟩
 ·by_cases e:i=j
  ·subst e
   rw [List.getElem?_set_self hil] at hj
   cases hj
   exact hx
  ·rw [List.getElem?_set_ne e] at hj
   exact (h.all j y hj).ex he (fun q hq hx2=>apart_no (h.all i x hi) (h.all j y hj) (h.two i j x y hi hj e) q hx2 hq)
 ·by_cases e:i=j
  ·subst e
   rw [List.getElem?_set_self hil] at hj
   cases hj
   rw [List.getElem?_set_ne hne] at hk
   exact apart k z hk hne
  ·rw [List.getElem?_set_ne e] at hj
   by_cases e2:i=k
   ·subst e2
    rw [List.getElem?_set_self hil] at hk
    cases hk
    exact (apart j y hj e).symm
   ·rw [List.getElem?_set_ne e2] at hk
    exact h.two j k y z hj hk hne
theorem SpL.more {B:Nat}{w:World}{l:List SD}{x:SD}(h:SpL B w l) (hx:SpAt B w x) (ha:∀ (i:Nat) (y:SD),l[i]?=some y→y.apart x):SpL B w (l ++ [x]):=by
 have get:∀ (i:Nat) (y:SD),(l ++ [x])[i]?=some y→l[i]?=some y∨(i=l.length∧y=x):=fun i y hi=>by
  rcases Nat.lt_or_ge i l.length with h1 | h1
  ·rw [List.getElem?_append_left h1] at hi
   exact .inl hi
  ·rw [List.getElem?_append_right h1] at hi
   have hlt:=(List.getElem?_eq_some_iff.1 hi).1
   simp at hlt
   have e:i=l.length:=by omega
   subst e
   simp at hi
   exact .inr ⟨rfl,hi.symm⟩
 refine ⟨fun i y hi => ?_,fun i j y z hi hj hne => ?_⟩
 ·rcases get i y hi with h1 | ⟨_,rfl⟩
  ·exact h.all i y h1
  ·exact hx
 ·rcases get i y hi with h1 | ⟨rfl,rfl⟩
  ·rcases get j z hj with h2 | ⟨rfl,rfl⟩
   ·exact h.two i j y z h1 h2 hne
   ·exact ha i y h1
  ·rcases get j z hj with h2 | ⟨rfl,rfl⟩
   ·exact (ha j z h2).symm
   ·exact absurd rfl hne
def KT (w w':World):Prop:=∀ (q:Nat) (cs:Array Value) (t:TypeId) (fz:Nat × Nat),w.heap[q]?=some (.cells cs t fz)→t=72∨t=52→w'.heap[q]?=some (.cells cs t fz)
structure Fr (B:Nat) (w w':World):Prop where
 below:Below B w w'
 kt:KT w w'
theorem Fr.refl (B:Nat) (w:World):Fr B w w:=⟨Below.refl _ _,fun _ _ _ _ h _=>h⟩
theorem Fr.trans {B:Nat}{a b c:World}(h:Fr B a b) (k:Fr B b c):Fr B a c:=⟨h.below.trans k.below,fun q cs t fz h1 h2=>k.kt q cs t fz (h.kt q cs t fz h1 h2) h2⟩
theorem Fr.of_below {B:Nat}{a b:World}(h:Below a.heap.size a b) (hB:B≤a.heap.size):Fr B a b:=⟨h.mono hB,fun q _ _ _ h1 _=>(h.block q (lt_of_heap h1)).trans h1⟩
theorem Ex.fr {B:Nat}{a b:World}(h:Ex (fun _=>False) a b) (hB:B≤a.heap.size):Fr B a b:=⟨h.below (fun _ h=>h.elim) hB,fun q _ _ _ h1 _=>(h.block q (lt_of_heap h1) (fun h=>h)).trans h1⟩
theorem SpAt.fr {B:Nat}{w w':World}{x:SD}(h:SpAt B w x) (he:Ex x.has w w') (hB:B≤w.heap.size):Fr B w w':=⟨he.below (fun q hq=>(h.lt hq).2) hB,fun q cs t fz h1 h2=>(he.block q (lt_of_heap h1) (fun hh=>by
 rcases hh with rfl | rfl | hh
 ·rw [h.blk] at h1
  simp at h1
  rcases h2 with rfl | rfl <;> exact absurd h1.2.1 (by decide)
 ·obtain ⟨es,clock,e⟩:=h.mapblk
  rw [e] at h1
  cases h1
 ·obtain ⟨_,cur,e⟩:=row_block h.row hh
  rw [e] at h1
  simp at h1
  rcases h2 with rfl | rfl <;> exact absurd h1.2.1 (by decide))).trans h1⟩
/-! Marks that are put. -/
theorem ml {s:ByteArray}(h:s.size≤2000000):s.size≤maxLen:=by unfold maxLen;omega
theorem key_str (s:ByteArray) (hs:s.size≤maxLen):keyOf Tryz.prog 9 (.string s)=some (.string s.data.toList):=by
 simp [keyOf,Tryz.underlying9,mapKey]
 exact hs
theorem ok_put {x:SD}{s:ByteArray}{n m:Nat}{od:List ByteArray}(h:SpOK x) (hn:x.mk' s n) (hm:n ||| m<64) (ho:∀ t∈x.od,t∈od) (hb:bdB (n ||| m)=true→s∈od) (hod:∀ t∈od,t.size≤maxLen) (k:Nat) (v:Value) :
  SpOK ⟨x.b,x.m,k,x.nm,x.ar,x.pn,x.D.put (.string s.data.toList) (.lit (.int .i64 ((n ||| m:Nat):Int))),v,od⟩:=by
 refine ⟨h.map.put _ _,fun t => ?_,hod⟩
 by_cases e:t=s
 ·subst e
  exact ⟨n ||| m,hm,atKey_put_same h.map (by trivial) _ _,hb⟩
 ·obtain ⟨q,h1,h2,h3⟩:=h.all t
  refine ⟨q,h1,?_,fun hq=>ho t (h3 hq)⟩
  show DataW.atKey (DataW.put _ _ _) _ _=_
  rw [atKey_put_other (fun h=>e (by
   simp only [Lit.string.injEq] at h
   exact WideShapes.bytes_inj h))]
  exact h2
end Go.Proofs.YtemapnogjepokaaGreatDoor

/- Package scope: is, use, bind, belongs, by contracts. -/
namespace Go.Proofs.YtemapnogjepokaaGreatDoor
open Go.RowKit Go.Maps

theorem and_bd:∀ n:Fin 64,bits .and .i64 (n.val:Int) 1=if bdB n.val then 1 else 0:=by decide
theorem and_gl:∀ n:Fin 64,bits .and .i64 (n.val:Int) 4=if glB n.val then 4 else 0:=by decide
theorem and_gn:∀ n:Fin 64,(bits .and .i64 (n.val:Int) 12=0)=((glB n.val || nlB n.val)=false):=by decide
theorem and_sh:∀ n:Fin 64,bits .and .i64 (n.val:Int) 16=if shB n.val then 16 else 0:=by decide
theorem and_fr:∀ n:Fin 64,bits .and .i64 (n.val:Int) 32=if frB n.val then 32 else 0:=by decide
theorem or_one:∀ n:Fin 64,bits .or .i64 (n.val:Int) 1=((n.val ||| 1:Nat):Int)∧bits .or .i64 (n.val:Int) 2=((n.val ||| 2:Nat):Int)∧bits .or .i64 (n.val:Int) 4=((n.val ||| 4:Nat):Int)∧bits .or .i64 (n.val:Int) 8=((n.val ||| 8:Nat):Int)∧bits .or .i64 (n.val:Int) 16=((n.val ||| 16:Nat):Int)∧bits .or .i64 (n.val:Int) 32=((n.val ||| 32:Nat):Int):=by decide
theorem or_lt:∀ n:Fin 64,(n.val ||| 1)<64∧(n.val ||| 2)<64∧(n.val ||| 4)<64∧(n.val ||| 8)<64∧(n.val ||| 16)<64∧(n.val ||| 32)<64:=by decide
theorem or_lt16:∀ n:Fin 16,(n.val ||| 1)<16∧(n.val ||| 2)<16∧(n.val ||| 4)<16∧(n.val ||| 8)<16:=by decide
theorem or_bd:∀ n:Fin 64,bdB (n.val ||| 2)=bdB n.val∧bdB (n.val ||| 4)=bdB n.val∧bdB (n.val ||| 8)=bdB n.val∧bdB (n.val ||| 16)=bdB n.val∧bdB (n.val ||| 32)=bdB n.val:=by decide
theorem sp_cells {B:Nat}{w:World}{x:SD}(h:SpAt B w x):w.cell? ⟨x.b,0,none⟩=some (.string x.nm)∧w.cell? ⟨x.b,1,none⟩=some (.int .i64 x.ar)∧w.cell? ⟨x.b,2,none⟩=some (.int .i64 (x.pn:Int))∧w.cell? ⟨x.b,6,none⟩=some (.map (some x.m))∧w.cell? ⟨x.b,7,none⟩=some x.v ∧ ∀ o,w.frozen? ⟨x.b,o,none⟩=false:=by
 have hb:=h.blk
 refine ⟨?_,?_,?_,?_,?_,fun o=>by simp [World.frozen?,hb]⟩
 ·rw [cell_of_row w x.b 0 _ _ _ hb];rfl
 ·rw [cell_of_row w x.b 1 _ _ _ hb];rfl
 ·rw [cell_of_row w x.b 2 _ _ _ hb];rfl
 ·rw [cell_of_row w x.b 6 _ _ _ hb];rfl
 ·rw [cell_of_row w x.b 7 _ _ _ hb];rfl
theorem lit_one {D:DataW Unit}{k:Lit}{n:Nat}{c:Int}(h:D.atKey k (.lit (.int .i64 0)) = .lit (.int .i64 (n:Int))) (hat:D.atKey k (.lit (.int .i64 0)) = .lit (.int .i64 c)):c=(n:Int):=by
 have e:=hat.symm.trans h
 simp only [DataW.lit.injEq,Lit.int.injEq,true_and] at e
 exact e
set_option maxHeartbeats 2000000 in
set_option maxRecDepth 100000 in
theorem is_any {B:Nat}{w:World}{x:SD}(h:SpAt B w x) (s:ByteArray) (hs:s.size≤maxLen) {n:Nat}(hn:x.mk' s n) (mark c:Int) (hc:bits .and .i64 (n:Int) mark=c) (r:Bool) (hr:(c=0)=(r=false)) :
  Calls Tryz.prog 22 #[.pointer (some ⟨x.b,0,none⟩),.string s,.int .i64 mark] w fun ev w'=>ev = .returned (.bool r)∧w'=w:=by
 obtain ⟨_,_,_,c6,_,_⟩:=sp_cells h
 obtain ⟨c',hrun,hat,_⟩:=h.own.lookup_int lawS Tryz.underlying66 Tryz.underlying3 (zeroInt w) (key_str s hs)
 obtain rfl:=lit_one hn hat
 have hbl:=lt_of_cell c6
 clear hat h hn
 cases r with
 | false =>
  have h0:c=0:=by rw [hr]
  subst h0
  clear hr
  go_enter Tryz.func22,Tryz.ntmps22
  go_wp2_with fail
  go_ret
  exact ⟨rfl,rfl⟩
 | true =>
  have h0:(c != 0)=true:=by rw [bne_iff_ne];intro e;rw [hr] at e;cases e
  clear hr
  go_enter Tryz.func22,Tryz.ntmps22
  go_wp2_with fail
  go_ret
  exact ⟨rfl,rfl⟩
theorem is_bd {B:Nat}{w:World}{x:SD}(h:SpAt B w x) (s:ByteArray) (hs:s.size≤maxLen) {n:Nat}(hn:x.mk' s n) (h64:n<64):Calls Tryz.prog 22 #[.pointer (some ⟨x.b,0,none⟩),.string s,.int .i64 1] w fun ev w'=>ev = .returned (.bool (bdB n))∧w'=w:=
 is_any h s hs hn 1 _ (and_bd ⟨n,h64⟩) _ (by cases bdB n <;> simp)
theorem is_gl {B:Nat}{w:World}{x:SD}(h:SpAt B w x) (s:ByteArray) (hs:s.size≤maxLen) {n:Nat}(hn:x.mk' s n) (h64:n<64):Calls Tryz.prog 22 #[.pointer (some ⟨x.b,0,none⟩),.string s,.int .i64 4] w fun ev w'=>ev = .returned (.bool (glB n))∧w'=w:=
 is_any h s hs hn 4 _ (and_gl ⟨n,h64⟩) _ (by cases glB n <;> simp)
theorem is_sh {B:Nat}{w:World}{x:SD}(h:SpAt B w x) (s:ByteArray) (hs:s.size≤maxLen) {n:Nat}(hn:x.mk' s n) (h64:n<64):Calls Tryz.prog 22 #[.pointer (some ⟨x.b,0,none⟩),.string s,.int .i64 16] w fun ev w'=>ev = .returned (.bool (shB n))∧w'=w:=
 is_any h s hs hn 16 _ (and_sh ⟨n,h64⟩) _ (by cases shB n <;> simp)
theorem is_fr {B:Nat}{w:World}{x:SD}(h:SpAt B w x) (s:ByteArray) (hs:s.size≤maxLen) {n:Nat}(hn:x.mk' s n) (h64:n<64):Calls Tryz.prog 22 #[.pointer (some ⟨x.b,0,none⟩),.string s,.int .i64 32] w fun ev w'=>ev = .returned (.bool (frB n))∧w'=w:=
 is_any h s hs hn 32 _ (and_fr ⟨n,h64⟩) _ (by cases frB n <;> simp)
theorem is_gn {B:Nat}{w:World}{x:SD}(h:SpAt B w x) (s:ByteArray) (hs:s.size≤maxLen) {n:Nat}(hn:x.mk' s n) (h64:n<64):Calls Tryz.prog 22 #[.pointer (some ⟨x.b,0,none⟩),.string s,.int .i64 12] w fun ev w'=>ev = .returned (.bool (glB n || nlB n))∧w'=w:=
 is_any h s hs hn 12 _ rfl _ (and_gn ⟨n,h64⟩)
set_option maxHeartbeats 2000000 in
set_option maxRecDepth 100000 in
theorem belongs_any {B:Nat}{w:World}{x:SD}(h:SpAt B w x) (s:ByteArray) (hs:s.size≤maxLen) {n:Nat}(hn:x.mk' s n) (h64:n<64):Calls Tryz.prog 21 #[.pointer (some ⟨x.b,0,none⟩),.string s] w fun ev w'=>ev = .returned (.bool (beB n))∧w'=w:=by
 have H1:=toHid (is_bd h s hs hn h64)
 have H2:=toHid (is_gn h s hs hn h64)
 unfold beB
 clear h hn
 go_enter Tryz.func21,Tryz.ntmps21
 go_wp2_with fail
 refine H1.out.mono ?_
 rintro ev w1 ⟨rfl,rfl⟩
 cases hb:bdB n with
 | false =>
  go_wp2_with fail
  go_ret
  exact ⟨by rw [hb];rfl,rfl⟩
 | true =>
  go_wp2_with fail
  refine H2.out.mono ?_
  rintro ev w1 ⟨rfl,rfl⟩
  cases hg:glB n || nlB n with
  | false =>
   go_wp2_with fail
   go_ret
   exact ⟨by rw [hb,hg];rfl,rfl⟩
  | true =>
   go_wp2_with fail
   go_ret
   exact ⟨by rw [hb,hg];rfl,rfl⟩
def SD.put (x:SD) (s:ByteArray) (n:Nat):SD:=⟨x.b,x.m,x.k+1,x.nm,x.ar,x.pn,x.D.put (.string s.data.toList) (.lit (.int .i64 (n:Int))),x.v,x.od⟩
theorem put_at {B:Nat}{w w':World}{x:SD}{s:ByteArray}{n m:Nat}(h:SpAt B w x) (hn:x.mk' s n) (hm:n ||| m<64) (hb:bdB (n ||| m)=true→s∈x.od) (ho:w'.ownsMap Tryz.prog 9 (plainElem Tryz.prog 3) x.m (x.k+1) (x.D.put (.string s.data.toList) (.lit (.int .i64 ((n ||| m:Nat):Int))))) (hg:w.grownBy w' (some x.m)):SpAt B w' (x.put s (n ||| m))∧Ex x.has w w':=by
 obtain ⟨es,clock,e⟩:=h.mapblk
 have hbk:w'.heap[x.b]?=w.heap[x.b]?:=hg.block _ (lt_of_heap h.blk) (fun q=>by
  simp only [Option.some.injEq] at q
  have:=h.blk
  rw [q,e] at this
  cases this)
 refine ⟨⟨hbk.trans h.blk,ho,row_kept h.row (fun g hq => ?_),h.hb,h.hm,ok_put h.ok hn hm (fun t h=>h) hb h.ok.ods _ _⟩,hg.os,hg.tape,hg.output,hg.size,fun k hk hs=>hg.block k hk (fun q=>hs (.inr (.inl (by simpa using q))))⟩
 obtain ⟨_,cur,e2⟩:=row_block h.row hq
 refine hg.block g (lt_of_heap e2) (fun q => ?_)
 simp only [Option.some.injEq] at q
 rw [q,e] at e2
 cases e2
theorem wf_small {n:Nat}(h:n<64):(Lit.int .i64 (n:Int)).wf=true:=by
 have:∀ n:Fin 64,(Lit.int .i64 (n.val:Int)).wf=true:=by decide
 exact this ⟨n,h⟩
set_option maxHeartbeats 4000000 in
set_option maxRecDepth 100000 in
theorem use_any {B:Nat}{w:World}{x:SD}(h:SpAt B w x) (s:ByteArray) (hs:s.size≤maxLen) {n:Nat}(hn:x.mk' s n) (h64:n<64) (hk:x.k≤1000000000000):Calls Tryz.prog 62 #[.pointer (some ⟨x.b,0,none⟩),.string s] w fun ev w'=>ev = .returned (.tuple #[])∧SpAt B w' (x.put s (n ||| 2))∧Ex x.has w w':=by
 obtain ⟨_,_,_,c6,_,_⟩:=sp_cells h
 have hbl:=lt_of_cell c6
 have ho:=(or_one ⟨n,h64⟩).2.1
 simp only at ho
 have hl:=(or_lt ⟨n,h64⟩).2.1
 simp only at hl
 have H:=toHid h
 have HN:=toHid hn
 have HO:=toHid h.own
 have HK:=toHid (key_str s hs)
 have HP:=toHid (plainElem_int (H:=Unit) (P:=Tryz.prog) Tryz.underlying3 (wf_small hl))
 have HB:Hid (bdB (n ||| 2)=true→s∈x.od):=fun hb=>by
  obtain ⟨q,_,h2,h3⟩:=h.ok.all s
  obtain rfl:=mk_one hn h2
  exact h3 (by rw [←(or_bd ⟨n,h64⟩).1];exact hb)
 clear h hn hs
 go_enter Tryz.func62,Tryz.ntmps62
 go_wp2_with (first
  | (at_lookup;refine wpList_lookup_own_int _ rfl _ _ 66 rfl 9 3 .i64 lawS Tryz.underlying66 Tryz.underlying3 (zeroInt _) x.m x.k _ rfl HO.out _ _ rfl HK.out ?_;intro c hat hwc;obtain rfl:=lit_one HN.out hat;clear hat hwc)
  | (at_mapUpdate;refine wpList_mapUpdate_own _ rfl _ _ _ 66 rfl 9 3 lawS Tryz.underlying66 _ x.m x.k _ rfl HO.out (by unfold maxLen;omega) _ _ _ rfl rfl HK.out _ [] HP.out ?_;intro w1 hown1 hgrow1;have HR:=toHid (put_at H.out HN.out hl HB.out hown1 hgrow1);clear hown1 hgrow1))
 go_end0
 exact ⟨rfl,HR.out⟩
structure Turned (x x':SD) (z:Nat) (s:ByteArray) (a:Nat):Prop where
 b:x'.b=x.b
 m:x'.m=x.m
 nm:x'.nm=x.nm
 ar:x'.ar=x.ar
 pn:x'.pn=x.pn
 k:x'.k≤x.k+1
 od:x'.od.length≤x.od.length+1
 mks:∀ t q,x.mk' t q→x'.mk' t (if t=s then q ||| a else q)
 own:∀ g,x'.v.ownBlock=some g→x.v.ownBlock=some g∨z≤g
theorem mk_put {x:SD}(h:IsMap x.D) {s:ByteArray}{n m:Nat}(hn:x.mk' s n) (x':SD) (hx:x'.D=x.D.put (.string s.data.toList) (.lit (.int .i64 ((n ||| m:Nat):Int)))) (t:ByteArray) (q:Nat) (hq:x.mk' t q):x'.mk' t (if t=s then q ||| m else q):=by
 unfold SD.mk'
 rw [hx]
 by_cases e:t=s
 ·subst e
  obtain rfl:=mk_one hn hq
  rw [if_pos rfl]
  exact atKey_put_same h (by trivial) _ _
 ·rw [if_neg e,atKey_put_other (fun h=>e (by
   simp only [Lit.string.injEq] at h
   exact WideShapes.bytes_inj h))]
  exact hq
theorem put_turned {x:SD}(h:IsMap x.D) {s:ByteArray}{n m z:Nat}(hn:x.mk' s n):Turned x (x.put s (n ||| m)) z s m:=⟨rfl,rfl,rfl,rfl,rfl,Nat.le_refl _,Nat.le_succ _,mk_put h hn _ rfl,fun _ h=>.inl h⟩
def SD.push (x:SD) (s:ByteArray) (gn capn:Nat):SD:=⟨x.b,x.m,x.k,x.nm,x.ar,x.pn,x.D,.slice (some ⟨gn,0,none⟩) (x.od.length+1) capn,x.od ++ [s]⟩
theorem push_at {B:Nat}{w w2:World}{x:SD}{s:ByteArray}{gn capn:Nat}{o:Obj}(h:SpAt B w x) (hsz':s.size≤maxLen) (hg:(w.alloc o).grownBy w2 x.v.ownBlock) (hat:x.v.ownBlock=some gn∨gn=(w.alloc o).heap.size) (hown:w2.ownsRow B 9 1 (.slice (some ⟨gn,0,none⟩) (x.od.length+1) capn) (x.od.length+1) (x.od.map Value.string ++ [.string s])) :
  w2.heap[x.b]?=w.heap[x.b]?∧SpAt B (w2.setCell ⟨x.b,7,none⟩ (.slice (some ⟨gn,0,none⟩) (x.od.length+1) capn)) (x.push s gn capn)∧Ex x.has w (w2.setCell ⟨x.b,7,none⟩ (.slice (some ⟨gn,0,none⟩) (x.od.length+1) capn)) ∧ ∀ g,(x.push s gn capn).v.ownBlock=some g→x.v.ownBlock=some g∨w.heap.size≤g:=by
 have hbl:=lt_of_heap h.blk
 have hsz:(w.alloc o).heap.size=w.heap.size+1:=by simp
 obtain ⟨es,clock,em⟩:=h.mapblk
 have hml:=lt_of_heap em
 have key:∀ q,q<w.heap.size→x.v.ownBlock≠some q→w2.heap[q]?=w.heap[q]?:=fun q hq hn=>(hg.block q (by omega) (fun e=>hn e.symm)).trans (Below.heap_alloc _ _ _ hq)
 have nb:x.v.ownBlock≠some x.b:=fun e=>by
  obtain ⟨_,cur,e2⟩:=row_block h.row e
  have:=h.blk
  rw [e2] at this
  simp at this
 have nm:x.v.ownBlock≠some x.m:=fun e=>by
  obtain ⟨_,cur,e2⟩:=row_block h.row e
  rw [e2] at em
  cases em
 have hb2:=key x.b hbl nb
 have hm2:=key x.m hml nm
 obtain ⟨_,cur,eg⟩:=row_block hown (g:=gn) rfl
 have gb:gn≠x.b:=fun e=>by
  rw [e,hb2,h.blk] at eg
  simp at eg
 have mb:x.m≠x.b:=fun e=>by
  rw [e,h.blk] at em
  cases em
 refine ⟨hb2,⟨?_,own_kept h.own ((heap_set _ _ _ _ _ mb).trans hm2),?_,h.hb,h.hm,⟨h.ok.map,fun t => ?_,fun t ht=>(List.mem_append.1 ht).elim (h.ok.ods t) (fun e=>by rw [List.mem_singleton.1 e];exact hsz')⟩⟩,⟨hg.os,hg.tape,hg.output,?_,fun k hk hs => ?_⟩,fun g e => ?_⟩
 ·show (w2.setCell ⟨x.b,7,none⟩ (.slice (some ⟨gn,0,none⟩) (x.od.length+1) capn)).heap[x.b]?=_
  rw [heap_set_same (hb2.trans h.blk)]
  rfl
 ·have:=row_kept (w':=w2.setCell ⟨x.b,7,none⟩ (.slice (some ⟨gn,0,none⟩) (x.od.length+1) capn)) hown (fun g e=>by
   simp [Value.ownBlock] at e
   subst e
   exact heap_set _ _ _ _ _ gb)
  show World.ownsRow _ _ _ _ _ (x.od ++ [s]).length ((x.od ++ [s]).map Value.string)
  rw [List.length_append,List.map_append]
  exact this
 ·obtain ⟨q,h1,h2,h3⟩:=h.ok.all t
  exact ⟨q,h1,h2,fun hb=>List.mem_append_left _ (h3 hb)⟩
 ·have:=hg.size
  simp [World.setCell]
  omega
 ·rw [heap_set _ _ _ _ _ (fun e=>hs (.inl e))]
  exact key k hk (fun e=>hs (.inr (.inr e)))
 ·simp [SD.push,Value.ownBlock] at e
  subst e
  rcases hat with h1 | h1
  ·exact .inl h1
  ·exact .inr (by omega)
theorem infoStrS:(Tryz.prog.info? 9).map (fun i=>(i.zero,i.size,i.bytes))=some (some (.string ⟨#[]⟩),1,16):=by kernel_rfl
theorem one_str (s:ByteArray):∀ u ∈ [Value.string s],u.oneCell'=true:=fun u hu=>by
 simp at hu
 rw [hu]
 rfl
set_option maxHeartbeats 4000000 in
set_option maxRecDepth 100000 in
theorem bind_any {B:Nat}{w:World}{x:SD}(h:SpAt B w x) (s:ByteArray) (hs:s.size≤maxLen) {n:Nat}(hn:x.mk' s n) (h64:n<64) (hk:x.k≤1000000000000) (hod:x.od.length≤1000000000) (hBw:B≤w.heap.size):Calls Tryz.prog 30 #[.pointer (some ⟨x.b,0,none⟩),.string s] w fun ev w'=>ev = .returned (.tuple #[])∧Ex x.has w w' ∧ ∃ x',SpAt B w' x'∧Turned x x' w.heap.size s 1:=by
 have ho:=(or_one ⟨n,h64⟩).1
 simp only at ho
 have hl:=(or_lt ⟨n,h64⟩).1
 simp only at hl
 have HK:=toHid (key_str s hs)
 have HSZ:=toHid hs
 have HP:=toHid (plainElem_int (H:=Unit) (P:=Tryz.prog) Tryz.underlying3 (wf_small hl))
 have H1:=toHid (is_bd h s hs hn h64)
 have HN:=toHid hn
 have HM:=toHid h.ok.map
 obtain ⟨_,_,_,c6,c7,cf⟩:=sp_cells h
 have f7:=cf 7
 have hbl:=lt_of_cell c6
 have H:=toHid h
 clear hs hn cf
 go_enter Tryz.func30,Tryz.ntmps30
 go_wp2_with fail
 refine H1.out.mono ?_
 rintro ev w1 ⟨rfl,rfl⟩
 cases hb:bdB n with
 | true =>
  have HB:Hid (bdB (n ||| 1)=true→s∈x.od):=fun _=>by
   obtain ⟨q,_,h2,h3⟩:=H.out.ok.all s
   obtain rfl:=mk_one HN.out h2
   exact h3 hb
  have HO:=toHid H.out.own
  clear h
  go_wp2_with (first
   | (at_lookup;refine wpList_lookup_own_int _ rfl _ _ 66 rfl 9 3 .i64 lawS Tryz.underlying66 Tryz.underlying3 (zeroInt _) x.m x.k _ rfl HO.out _ _ rfl HK.out ?_;intro c hat hwc;obtain rfl:=lit_one HN.out hat;clear hat hwc)
   | (at_mapUpdate;refine wpList_mapUpdate_own _ rfl _ _ _ 66 rfl 9 3 lawS Tryz.underlying66 _ x.m x.k _ rfl HO.out (by unfold maxLen;omega) _ _ _ rfl rfl HK.out _ [] HP.out ?_;intro w1 hown1 hgrow1;have HR:=toHid (put_at H.out HN.out hl HB.out hown1 hgrow1);clear hown1 hgrow1))
  go_end0
  exact ⟨rfl,HR.out.2,_,HR.out.1,put_turned HM.out HN.out⟩
 | false =>
  obtain ⟨i0,hi0,hz0,hz1,hz2⟩:=info_parts infoStrS
  have HRW:=toHid h.row
  have hlen:(x.od.map Value.string).length=x.od.length:=by simp
  clear h
  go_wp2_with (first
   | (at_builtin;refine wpList_append_lies _ rfl _ _ _ rfl B 9 i0 (.string ⟨#[]⟩) 1 16 Tryz.underlying32 hi0 hz0 hz1 hz2 rfl (by decide) _ x.od.length (x.od.map Value.string) rfl (HRW.out.alloc _) ⟨w1.heap.size,0,none⟩ 1 1 [.string s] rfl rfl (World.news_of_block (cs:=#[.string s]) (t:=9) (heap_alloc_new _ _)) (one_str s) (by decide) (by unfold maxLen;omega) (by omega) (by simp;omega) _ rfl ?_;intro gn capn w2 hown2 hgrow hat hlt2;obtain ⟨e2,hP2,hE2,hO2⟩:=push_at H.out HSZ.out hgrow hat hown2;have q7:=(World.cell?_of_block (a:=⟨x.b,7,none⟩) e2).trans c7;have q6:=(World.cell?_of_block (a:=⟨x.b,6,none⟩) e2).trans c6;have qf:=(World.frozen?_of_block (a:=⟨x.b,7,none⟩) e2).trans f7;have ql:=lt_of_cell q7;have HP2:=toHid hP2;have HE2:=toHid hE2;have HO2:=toHid hO2;clear hown2 hgrow hat e2 hP2 hE2 hO2 c6 c7 f7)
   | (at_lookup;refine wpList_lookup_own_int _ rfl _ _ 66 rfl 9 3 .i64 lawS Tryz.underlying66 Tryz.underlying3 (zeroInt _) x.m x.k _ rfl HP2.out.own _ _ rfl HK.out ?_;intro c hat hwc;obtain rfl:=lit_one HN.out hat;clear hat hwc)
   | (at_mapUpdate;refine wpList_mapUpdate_own _ rfl _ _ _ 66 rfl 9 3 lawS Tryz.underlying66 _ x.m x.k _ rfl HP2.out.own (by unfold maxLen;omega) _ _ _ rfl rfl HK.out _ [] HP.out ?_;intro w3 hown1 hgrow1;have HR:=toHid (put_at (m:=1) HP2.out HN.out hl (fun _=>by simp [SD.push]) hown1 hgrow1);clear hown1 hgrow1))
  go_end0
  refine ⟨rfl,HE2.out.join HR.out.2 (fun q hq => ?_),_,HR.out.1,⟨rfl,rfl,rfl,rfl,rfl,Nat.le_refl _,by simp [SD.put,SD.push],mk_put HM.out HN.out _ rfl,HO2.out⟩⟩
  ·rcases hq with rfl | rfl | hq
   ·exact .inl (.inl rfl)
   ·exact .inl (.inr (.inl rfl))
   ·exact (HO2.out q hq).imp (fun h=>.inr (.inr h)) id
end Go.Proofs.YtemapnogjepokaaGreatDoor

/- Package scope: how the finder stands; refuse, a mark of one of its spaces. -/
namespace Go.Proofs.YtemapnogjepokaaGreatDoor
open Go.RowKit Go.Maps

abbrev spPtr (x:SD):Value:=.pointer (some ⟨x.b,0,none⟩)
abbrev clCells (y:Int × Int × ByteArray):List Value:=[.int .i64 y.1,.int .i64 y.2.1,.string y.2.2]
structure FS (B p c:Nat) (l:List SD) (w:World):Prop where
 blk:∃ (vs:Value) (bg wr:Int) (vc:Value) (cl:List (Int × Int × ByteArray)),w.heap[p]?=some (.cells #[vs,.int .i64 bg,.int .i64 wr,vc] 58)∧w.ownsRow B 47 1 vs l.length (l.map spPtr)∧w.ownsRow B 88 3 vc cl.length (cl.flatMap clCells)∧(0≤bg∧bg≤c)∧(-1≤wr∧wr≤c)∧cl.length≤c ∧ ∀ y∈cl,(0≤y.1∧y.1≤c)∧(0≤y.2.1∧y.2.1<l.length)∧y.2.2.size≤2000000
 sp:SpL B w l
 ar:∀ (i:Nat) (x:SD),l[i]?=some x→(i=0→x.ar = -1)∧(0<i → ∃ u:Nat,u<i∧x.ar=u)
 lo:∀ (i:Nat) (x:SD),l[i]?=some x→x.k≤c∧x.od.length≤c∧x.pn≤c ∧ ∀ s n,x.mk' s n→n<16
 len:l.length≤c
 hp:B≤p
theorem FS.more {B p c c':Nat}{l:List SD}{w:World}(h:FS B p c l w) (hc:c≤c'):FS B p c' l w:=by
 obtain ⟨vs,bg,wr,vc,cl,h1,h2,h3,h4,h5,h6,h7⟩:=h.blk
 refine ⟨⟨vs,bg,wr,vc,cl,h1,h2,h3,by omega,by omega,by omega,fun y hy => ?_⟩,h.sp,h.ar,fun i x hi => ?_,by have:=h.len;omega,h.hp⟩
 ·obtain ⟨a,b,d⟩:=h7 y hy
  exact ⟨by omega,b,d⟩
 ·obtain ⟨a,b,d,e⟩:=h.lo i x hi
  exact ⟨by omega,by omega,by omega,e⟩
theorem FS.lt {B p c:Nat}{l:List SD}{w:World}(h:FS B p c l w):p<w.heap.size:=by
 obtain ⟨vs,bg,wr,vc,cl,h1,_⟩:=h.blk
 exact lt_of_heap h1
theorem fin_cells {p:Nat}{w:World}{v0 v1 v2 v3:Value}(h:w.heap[p]?=some (.cells #[v0,v1,v2,v3] 58)):w.cell? ⟨p,0,none⟩=some v0∧w.cell? ⟨p,1,none⟩=some v1∧w.cell? ⟨p,2,none⟩=some v2∧w.cell? ⟨p,3,none⟩=some v3 ∧ ∀ o,w.frozen? ⟨p,o,none⟩=false:=by
 refine ⟨?_,?_,?_,?_,fun o=>by simp [World.frozen?,h]⟩
 ·rw [cell_of_row w p 0 _ _ _ h];rfl
 ·rw [cell_of_row w p 1 _ _ _ h];rfl
 ·rw [cell_of_row w p 2 _ _ _ h];rfl
 ·rw [cell_of_row w p 3 _ _ _ h];rfl
theorem sp_types {B:Nat}{w:World}{x:SD}(h:SpAt B w x) {q:Nat}{cs:Array Value}{t:TypeId}{fz:Nat × Nat}(hq:w.heap[q]?=some (.cells cs t fz)) (h1:t≠68) (h2:t≠9):¬ x.has q:=fun hh=>by
 rcases hh with rfl | rfl | hh
 ·rw [h.blk] at hq
  simp at hq
  exact h1 hq.2.1.symm
 ·obtain ⟨es,clock,e⟩:=h.mapblk
  rw [e] at hq
  cases hq
 ·obtain ⟨_,cur,e⟩:=row_block h.row hh
  rw [e] at hq
  simp at hq
  exact h2 hq.2.1.symm
theorem FS.ex {B p c:Nat}{l:List SD}{w w':World}{S:Nat→Prop}(h:FS B p c l w) (he:Ex S w w') (hs:∀ q,q<w.heap.size→B≤q → ¬ S q):FS B p c l w':=by
 obtain ⟨vs,bg,wr,vc,cl,h1,h2,h3,h4⟩:=h.blk
 have key:∀ q,q<w.heap.size→B≤q→w'.heap[q]?=w.heap[q]?:=fun q hq hB=>he.block q hq (hs q hq hB)
 refine ⟨⟨vs,bg,wr,vc,cl,(key p (lt_of_heap h1) h.hp).trans h1,row_kept h2 (fun g hg => ?_),row_kept h3 (fun g hg => ?_),h4⟩,h.sp.ex he (fun i x hi q hq => ?_),h.ar,h.lo,h.len,h.hp⟩
 ·obtain ⟨a,cur,e⟩:=row_block h2 hg
  exact key g (lt_of_heap e) a
 ·obtain ⟨a,cur,e⟩:=row_block h3 hg
  exact key g (lt_of_heap e) a
 ·obtain ⟨a,b⟩:=(h.sp.all i x hi).lt hq
  exact hs q a b
theorem FS.below {B p c:Nat}{l:List SD}{w w':World}(h:FS B p c l w) (hb:Below w.heap.size w w'):FS B p c l w':=h.ex (S:=fun _=>False) ⟨hb.os,hb.tape,hb.output,hb.size,fun q hq _=>hb.block q hq⟩ (fun _ _ _ h=>h)
theorem map_set_same {α β:Type}(f:α→β) {l:List α}{i:Nat}{x x':α}(hi:l[i]?=some x) (he:f x'=f x):(l.set i x').map f=l.map f:=by
 apply List.ext_getElem?
 intro j
 rw [List.getElem?_map,List.getElem?_map]
 by_cases e:i=j
 ·subst e
  rw [List.getElem?_set_self (List.getElem?_eq_some_iff.1 hi).1,hi,Option.map_some,Option.map_some,he]
 ·rw [List.getElem?_set_ne e]
theorem or16 {n m:Nat}(h:n<16) (hm:m=1∨m=2∨m=4∨m=8):n ||| m<16:=by
 have:=or_lt16 ⟨n,h⟩
 rcases hm with rfl | rfl | rfl | rfl
 ·exact this.1
 ·exact this.2.1
 ·exact this.2.2.1
 ·exact this.2.2.2
theorem FS.turn {B p c i:Nat}{l:List SD}{w w':World}{x x':SD}{s:ByteArray}{m:Nat}(h:FS B p c l w) (hi:l[i]?=some x) (hx:SpAt B w' x') (ht:Turned x x' w.heap.size s m) (hm:m=1∨m=2∨m=4∨m=8) (he:Ex x.has w w'):FS B p (c+1) (l.set i x') w':=by
 obtain ⟨vs,bg,wr,vc,cl,h1,h2,h3,h4,h5,h6,h7⟩:=h.blk
 have hX:=h.sp.all i x hi
 have hlen:(l.set i x').length=l.length:=List.length_set
 refine ⟨⟨vs,bg,wr,vc,cl,(he.block p (lt_of_heap h1) (sp_types hX h1 (by decide) (by decide))).trans h1,?_,row_kept h3 (fun g hg => ?_),by omega,by omega,by omega,fun y hy => ?_⟩,h.sp.turn hi he hx ht.b ht.m ht.own,fun j y hj => ?_,fun j y hj => ?_,by rw [hlen];have:=h.len;omega,h.hp⟩
 ·rw [hlen,map_set_same spPtr hi (by simp only [spPtr,ht.b])]
  refine row_kept h2 (fun g hg => ?_)
  obtain ⟨_,cur,e⟩:=row_block h2 hg
  exact he.block g (lt_of_heap e) (sp_types hX e (by decide) (by decide))
 ·obtain ⟨_,cur,e⟩:=row_block h3 hg
  exact he.block g (lt_of_heap e) (sp_types hX e (by decide) (by decide))
 ·rw [hlen]
  obtain ⟨a,b,d⟩:=h7 y hy
  exact ⟨by omega,b,d⟩
 ·by_cases e:i=j
  ·subst e
   rw [List.getElem?_set_self (List.getElem?_eq_some_iff.1 hi).1] at hj
   cases hj
   rw [ht.ar]
   exact h.ar i x hi
  ·rw [List.getElem?_set_ne e] at hj
   exact h.ar j y hj
 ·by_cases e:i=j
  ·subst e
   rw [List.getElem?_set_self (List.getElem?_eq_some_iff.1 hi).1] at hj
   cases hj
   obtain ⟨a,b,d,e⟩:=h.lo i x hi
   refine ⟨by have:=ht.k;omega,by have:=ht.od;omega,by rw [ht.pn];omega,fun t q hq => ?_⟩
   obtain ⟨r,_,hr,_⟩:=hX.ok.all t
   obtain rfl:=mk_one (ht.mks t r hr) hq
   have hr16:=e t r hr
   split
   ·exact or16 hr16 hm
   ·exact hr16
  ·rw [List.getElem?_set_ne e] at hj
   obtain ⟨a,b,d,e⟩:=h.lo j y hj
   exact ⟨by omega,by omega,by omega,e⟩
theorem FS.at {B p c i:Nat}{l:List SD}{w:World}(h:FS B p c l w) (hi:i<l.length):∃ (g cap:Nat) (x:SD),l[i]?=some x∧SpAt B w x∧w.cell? ⟨p,0,none⟩=some (.slice (some ⟨g,0,none⟩) l.length cap)∧w.cell? ⟨g,i,none⟩=some (.pointer (some ⟨x.b,0,none⟩)):=by
 obtain ⟨vs,bg,wr,vc,cl,h1,h2,_⟩:=h.blk
 obtain ⟨c0,_⟩:=fin_cells h1
 obtain ⟨x,hx⟩:∃ x,l[i]?=some x:=⟨l[i],by simp [hi]⟩
 rcases h2.2 with ⟨_,h0⟩ | ⟨g,cap,cur,rfl,_,hg,_,_,_,htk⟩
 ·omega
 ·refine ⟨g,cap,x,hx,h.sp.all i x hx,c0,?_⟩
  rw [cell_of_row w g i cur _ _ hg,←Array.getElem?_toList]
  have e:(cur.toList.take (l.length*1))[i]?=(l.map spPtr)[i]?:=by rw [htk]
  rw [List.getElem?_take,if_pos (by omega)] at e
  rw [e,List.getElem?_map,hx]
  rfl
theorem FS.nums {B p c:Nat}{l:List SD}{w:World}(h:FS B p c l w) (o:Nat) (z:Int) (ho:o=1∨o=2) (h0:(if o=1 then 0 else -1)≤z) (h1:z≤c):FS B p c l (w.setCell ⟨p,o,none⟩ (.int .i64 z)):=by
 obtain ⟨vs,bg,wr,vc,cl,b1,b2,b3,b4,b5,b6⟩:=h.blk
 have np:∀ {g:Nat}{cs:Array Value}{t:TypeId}{fz:Nat × Nat},w.heap[g]?=some (.cells cs t fz)→t≠58→g≠p:=fun hg ht e=>by
  rw [e,b1] at hg
  simp at hg
  exact ht hg.2.1.symm
 have hex:Ex (fun q=>q=p) w (w.setCell ⟨p,o,none⟩ (.int .i64 z)):=(Ex.refl (fun q=>q=p) w).set (S:=fun q=>q=p) (p:=p) rfl _
 have rest:w.ownsRow B 47 1 vs l.length (l.map spPtr)→(w.setCell ⟨p,o,none⟩ (.int .i64 z)).ownsRow B 47 1 vs l.length (l.map spPtr):=fun h2=>row_kept h2 (fun g hg=>by
  obtain ⟨_,cur,e⟩:=row_block h2 hg
  exact heap_set _ _ _ _ _ (np e (by decide)))
 have rest2:(w.setCell ⟨p,o,none⟩ (.int .i64 z)).ownsRow B 88 3 vc cl.length (cl.flatMap clCells):=row_kept b3 (fun g hg=>by
  obtain ⟨_,cur,e⟩:=row_block b3 hg
  exact heap_set _ _ _ _ _ (np e (by decide)))
 have spx:=h.sp.ex hex (fun i x hi q hq e=>by
  subst e
  exact sp_types (h.sp.all i x hi) b1 (by decide) (by decide) hq)
 rcases ho with rfl | rfl
 ·exact ⟨⟨vs,z,wr,vc,cl,by rw [heap_set_same b1];rfl,rest b2,rest2,⟨by simpa using h0,h1⟩,b5,b6⟩,spx,h.ar,h.lo,h.len,h.hp⟩
 ·exact ⟨⟨vs,bg,z,vc,cl,by rw [heap_set_same b1];rfl,rest b2,rest2,b4,⟨by simpa using h0,h1⟩,b6⟩,spx,h.ar,h.lo,h.len,h.hp⟩
set_option maxHeartbeats 2000000 in
set_option maxRecDepth 100000 in
theorem refuse_any {B p c:Nat}{l:List SD}{w:World}(h:FS B p c l w) (at_:Nat) (ha:at_≤c):Calls Tryz.prog 29 #[.pointer (some ⟨p,0,none⟩),.int .i64 (at_:Int)] w fun ev w'=>ev = .returned (.tuple #[])∧FS B p c l w'∧Ex (fun q=>q=p) w w':=by
 obtain ⟨vs,bg,wr,vc,cl,b1,_,_,_,b5,_⟩:=h.blk
 obtain ⟨c0,c1,c2,c3,cf⟩:=fin_cells b1
 have f2:=cf 2
 have hpl:=h.lt
 have H:=toHid h
 have HS:Hid (FS B p c l (w.setCell ⟨p,2,none⟩ (.int .i64 (at_:Int)))):=h.nums 2 _ (.inr rfl) (by first | (simp;done) | (simp;omega)) (by omega)
 have HB:Hid (Ex (fun q=>q=p) w (w.setCell ⟨p,2,none⟩ (.int .i64 (at_:Int)))):=(Ex.refl (fun q=>q=p) w).set (S:=fun q=>q=p) (p:=p) rfl _
 clear h cf
 by_cases h0:wr<0
 ·go_enter Tryz.func29,Tryz.ntmps29
  go_wp2_with fail
  go_end0
  exact ⟨rfl,HS.out,HB.out⟩
 ·by_cases h1:(at_:Int)<wr
  ·go_enter Tryz.func29,Tryz.ntmps29
   go_wp2_with fail
   go_end0
   exact ⟨rfl,HS.out,HB.out⟩
  ·go_enter Tryz.func29,Tryz.ntmps29
   go_wp2_with fail
   go_end0
   exact ⟨rfl,H.out,Ex.refl _ _⟩
theorem FS.other {B p c:Nat}{l:List SD}{w w':World}{x:SD}(h:FS B p c l w) (hx:SpAt B w x) (he:Ex (fun q=>q=p) w w'):SpAt B w' x:=hx.ex he (fun q hq e=>by
 obtain ⟨vs,bg,wr,vc,cl,b1,_⟩:=h.blk
 rw [e] at hq
 exact sp_types hx b1 (by decide) (by decide) hq)
theorem FS.exb {B p c:Nat}{l:List SD}{w w':World}(h:FS B p c l w) (he:Ex (fun q=>q=p) w w'):Fr B w w':=⟨he.below (fun q e=>by rw [e];exact h.hp) (by have:=h.lt;have:=h.hp;omega),fun q cs t fz h1 h2=>(he.block q (lt_of_heap h1) (fun e=>by
 obtain ⟨vs,bg,wr,vc,cl,b1,_⟩:=h.blk
 subst e
 rw [b1] at h1
 simp at h1
 rcases h2 with rfl | rfl <;> exact absurd h1.2.1 (by decide))).trans h1⟩
end Go.Proofs.YtemapnogjepokaaGreatDoor

/- Package scope: a space that is being made; open. -/
namespace Go.Proofs.YtemapnogjepokaaGreatDoor
open Go.RowKit Go.Maps

theorem FS.aside {B p c:Nat}{l:List SD}{w w':World}{x:SD}(h:FS B p c l w) (hx:SpAt B w x) (ha:∀ (i:Nat) (y:SD),l[i]?=some y→y.apart x) (he:Ex x.has w w'):FS B p c l w':=by
 obtain ⟨vs,bg,wr,vc,cl,h1,h2,h3,h4⟩:=h.blk
 refine ⟨⟨vs,bg,wr,vc,cl,(he.block p (lt_of_heap h1) (sp_types hx h1 (by decide) (by decide))).trans h1,row_kept h2 (fun g hg => ?_),row_kept h3 (fun g hg => ?_),h4⟩,h.sp.ex he (fun i y hi q hq hxq=>apart_no (h.sp.all i y hi) hx (ha i y hi) q hq hxq),h.ar,h.lo,h.len,h.hp⟩
 ·obtain ⟨_,cur,e⟩:=row_block h2 hg
  exact he.block g (lt_of_heap e) (sp_types hx e (by decide) (by decide))
 ·obtain ⟨_,cur,e⟩:=row_block h3 hg
  exact he.block g (lt_of_heap e) (sp_types hx e (by decide) (by decide))
structure New (B p c:Nat) (l:List SD) (b m j:Nat) (nm:ByteArray) (ar:Int) (pn:Nat) (w:World):Prop where
 fs:FS B p c l w
 ex:∃ x:SD,SpAt B w x∧x.b=b∧x.m=m∧x.nm=nm∧x.ar=ar∧x.pn=pn∧x.k≤j∧x.od.length≤j∧(∀ s n,x.mk' s n→n<16) ∧ ∀ (i:Nat) (y:SD),l[i]?=some y→y.apart x
theorem New.start {B p c:Nat}{l:List SD}{w:World}(h:FS B p c l w) (hBw:B≤w.heap.size) (nm:ByteArray) (ar:Int) (pn:Nat) (w2:World) (hw:w2=(w.alloc (.map #[] 0)).alloc (.cells #[.string nm,.int .i64 ar,.int .i64 (pn:Int),.slice none 0 0,.slice none 0 0,.slice none 0 0,.map (some w.heap.size),.slice none 0 0] 68)):New B p c l (w.heap.size+1) w.heap.size 0 nm ar pn w2∧Fr B w w2:=by
 have hb:Below w.heap.size w w2:=by rw [hw];exact ((Below.refl _ _).alloc (Nat.le_refl _) _).alloc (by simp) _
 have hm:w2.ownsMap Tryz.prog 9 (plainElem (H:=Unit) Tryz.prog 3) w.heap.size 0 (.map []):=by
  rw [hw]
  exact (World.ownsMap_made w Tryz.prog 9 (plainElem (H:=Unit) Tryz.prog 3)).alloc _
 have hk:w2.heap[w.heap.size+1]?=some (.cells #[.string nm,.int .i64 ar,.int .i64 (pn:Int),.slice none 0 0,.slice none 0 0,.slice none 0 0,.map (some w.heap.size),.slice none 0 0] 68):=by
  rw [hw]
  have h:=heap_alloc_new (w.alloc (.map #[] 0)) (.cells #[.string nm,.int .i64 ar,.int .i64 (pn:Int),.slice none 0 0,.slice none 0 0,.slice none 0 0,.map (some w.heap.size),.slice none 0 0] 68)
  simpa using h
 refine ⟨⟨h.below hb,⟨⟨w.heap.size+1,w.heap.size,0,nm,ar,pn,.map [],.slice none 0 0,[]⟩,⟨hk,hm,⟨rfl,.inl ⟨rfl,rfl⟩⟩,by show B≤w.heap.size+1;omega,hBw,⟨⟨[],rfl⟩,fun s=>⟨0,by omega,rfl,fun h=>by simp [bdB] at h⟩,fun s hs=>by simp at hs⟩⟩,rfl,rfl,rfl,rfl,rfl,Nat.le_refl _,Nat.le_refl _,fun s n hn => ?_,fun i y hi => ?_⟩⟩,Fr.of_below hb hBw⟩
 ·have e:(0:Nat)=n:=mk_one (x:=⟨w.heap.size+1,w.heap.size,0,nm,ar,pn,.map [],.slice none 0 0,[]⟩) (s:=s) rfl hn
  omega
 ·have hy:=h.sp.all i y hi
  have h1:=(hy.lt (.inl rfl)).1
  have h2:=(hy.lt (.inr (.inl rfl))).1
  exact ⟨by show y.b≠w.heap.size+1;omega,by show y.m≠w.heap.size;omega,fun g _ e=>by simp [Value.ownBlock] at e⟩
theorem New.bound {B p c:Nat}{l:List SD}{b m j:Nat}{nm:ByteArray}{ar:Int}{pn:Nat}{w w':World}{x x':SD}{s:ByteArray}(hf:FS B p c l w) (hx:SpAt B w x) (h1:x.b=b) (h2:x.m=m) (h3:x.nm=nm) (h4:x.ar=ar) (h5:x.pn=pn) (h6:x.k≤j) (h7:x.od.length≤j) (h8:∀ s n,x.mk' s n→n<16) (ha:∀ (i:Nat) (y:SD),l[i]?=some y→y.apart x) (hx':SpAt B w' x') (ht:Turned x x' w.heap.size s 1) (he:Ex x.has w w'):New B p c l b m (j+1) nm ar pn w':=by
 refine ⟨hf.aside hx ha he,x',hx',ht.b.trans h1,ht.m.trans h2,ht.nm.trans h3,ht.ar.trans h4,ht.pn.trans h5,by have:=ht.k;omega,by have:=ht.od;omega,fun t q hq => ?_,fun i y hi => ?_⟩
 ·obtain ⟨r,_,hr,_⟩:=hx.ok.all t
  obtain rfl:=mk_one (ht.mks t r hr) hq
  have:=h8 t r hr
  split
  ·exact or16 this (.inl rfl)
  ·exact this
 ·have hy:=ha i y hi
  refine ⟨fun e=>hy.1 (e.trans ht.b),fun e=>hy.2.1 (e.trans ht.m),fun g h1 h2 => ?_⟩
  rcases ht.own g h2 with h3 | h3
  ·exact hy.2.2 g h1 h3
  ·have:=((hf.sp.all i y hi).lt (.inr (.inr h1))).1
   omega
theorem FS.push {B p c:Nat}{l:List SD}{w w2:World}{x:SD}{o:Obj}{vs:Value}{gn capn:Nat}(h:FS B p c l w) (hx:SpAt B w x) (ha:∀ (i:Nat) (y:SD),l[i]?=some y→y.apart x) (h0:w.cell? ⟨p,0,none⟩=some vs) (hg:(w.alloc o).grownBy w2 vs.ownBlock) (hown:w2.ownsRow B 47 1 (.slice (some ⟨gn,0,none⟩) (l.length+1) capn) (l.length+1) (l.map spPtr ++ [spPtr x]))
  (har:(l.length=0→x.ar = -1)∧(0<l.length → ∃ u:Nat,u<l.length∧x.ar=u)) {c':Nat}(hc:c≤c') (hlo:x.k≤c'∧x.od.length≤c'∧x.pn≤c' ∧ ∀ s n,x.mk' s n→n<16) (hlc:l.length+1≤c') :
  w2.heap[p]?=w.heap[p]?∧FS B p c' (l ++ [x]) (w2.setCell ⟨p,0,none⟩ (.slice (some ⟨gn,0,none⟩) (l.length+1) capn))∧Fr B w (w2.setCell ⟨p,0,none⟩ (.slice (some ⟨gn,0,none⟩) (l.length+1) capn)):=by
 obtain ⟨vs',bg,wr,vc,cl,h1,h2,h3,h4,h5,h6,h7⟩:=h.blk
 obtain rfl:vs'=vs:=by
  have:=(fin_cells h1).1
  rw [h0] at this
  simpa using this.symm
 have hsz:(w.alloc o).heap.size=w.heap.size+1:=by simp
 have key:∀ q,q<w.heap.size→vs'.ownBlock≠some q→w2.heap[q]?=w.heap[q]?:=fun q hq hn=>(hg.block q (by omega) (fun e=>hn e.symm)).trans (Below.heap_alloc _ _ _ hq)
 have typ:∀ {q:Nat}{cs:Array Value}{t:TypeId}{fz:Nat × Nat},w.heap[q]?=some (.cells cs t fz)→t≠47→vs'.ownBlock≠some q:=fun hq ht e=>by
  obtain ⟨_,cur,e2⟩:=row_block h2 e
  rw [hq] at e2
  simp at e2
  exact ht e2.2.1
 have npo:∀ {q:Nat}{cs:Array Value}{t:TypeId}{fz:Nat × Nat},w.heap[q]?=some (.cells cs t fz)→t≠58→q≠p:=fun hq ht e=>by
  rw [e,h1] at hq
  simp at hq
  exact ht hq.2.1.symm
 have hp2:=key p (lt_of_heap h1) (typ h1 (by decide))
 have sp1:∀ y,SpAt B w y → ∀ q,y.has q→(w2.setCell ⟨p,0,none⟩ (.slice (some ⟨gn,0,none⟩) (l.length+1) capn)).heap[q]?=w.heap[q]?:=fun y hy q hq=>by
  have hl:=(hy.lt hq).1
  have n1:q≠p:=fun e=>sp_types hy h1 (by decide) (by decide) (e ▸ hq)
  rw [heap_set _ _ _ _ _ n1]
  refine key q hl (fun e => ?_)
  obtain ⟨_,cur,e2⟩:=row_block h2 e
  exact sp_types hy e2 (by decide) (by decide) hq
 have keep:∀ y,SpAt B w y→SpAt B (w2.setCell ⟨p,0,none⟩ (.slice (some ⟨gn,0,none⟩) (l.length+1) capn)) y:=fun y hy=>hy.kept (sp1 y hy _ (.inl rfl)) (sp1 y hy _ (.inr (.inl rfl))) (fun g hg=>sp1 y hy _ (.inr (.inr hg)))
 have hL:SpL B (w2.setCell ⟨p,0,none⟩ (.slice (some ⟨gn,0,none⟩) (l.length+1) capn)) (l ++ [x]):=SpL.more ⟨fun i y hi=>keep y (h.sp.all i y hi),h.sp.two⟩ (keep x hx) ha
 have get:∀ (i:Nat) (y:SD),(l ++ [x])[i]?=some y→l[i]?=some y∨(i=l.length∧y=x):=fun i y hi=>by
  rcases Nat.lt_or_ge i l.length with h1 | h1
  ·rw [List.getElem?_append_left h1] at hi
   exact .inl hi
  ·rw [List.getElem?_append_right h1] at hi
   have hlt:=(List.getElem?_eq_some_iff.1 hi).1
   simp at hlt
   have e:i=l.length:=by omega
   subst e
   simp at hi
   exact .inr ⟨rfl,hi.symm⟩
 obtain ⟨_,cur,eg⟩:=row_block hown (g:=gn) rfl
 have gp:gn≠p:=fun e=>by
  rw [e,hp2,h1] at eg
  simp at eg
 refine ⟨hp2,⟨⟨_,bg,wr,vc,cl,by rw [heap_set_same (hp2.trans h1)];rfl,?_,row_kept h3 (fun g hgo => ?_),by omega,by omega,by omega,fun y hy => ?_⟩,hL,fun i y hi => ?_,fun i y hi => ?_,by rw [List.length_append];simpa using hlc,h.hp⟩,⟨⟨hg.os,hg.tape,hg.output,?_,fun k hk => ?_⟩,fun q cs t fz hq ht => ?_⟩⟩
 ·have:=row_kept (w':=w2.setCell ⟨p,0,none⟩ (.slice (some ⟨gn,0,none⟩) (l.length+1) capn)) hown (fun g e=>by
   simp [Value.ownBlock] at e
   subst e
   exact heap_set _ _ _ _ _ gp)
  rw [List.length_append,List.map_append]
  exact this
 ·obtain ⟨_,cur,e⟩:=row_block h3 hgo
  rw [heap_set _ _ _ _ _ (npo e (by decide))]
  exact key g (lt_of_heap e) (typ e (by decide))
 ·obtain ⟨a,b,d⟩:=h7 y hy
  rw [List.length_append]
  exact ⟨by omega,⟨b.1,by have:=b.2;simp;omega⟩,d⟩
 ·rcases get i y hi with h8 | ⟨rfl,rfl⟩
  ·exact h.ar i y h8
  ·exact har
 ·rcases get i y hi with h8 | ⟨rfl,rfl⟩
  ·obtain ⟨a,b,d,e⟩:=h.lo i y h8
   exact ⟨by omega,by omega,by omega,e⟩
  ·exact hlo
 ·have:=hg.size
  simp [World.setCell]
  omega
 ·have hkp:=h.hp
  rw [heap_set _ _ _ _ _ (by omega)]
  rcases Nat.lt_or_ge k w.heap.size with hl | hl
  ·refine key k hl (fun e => ?_)
   have:=(row_block h2 e).1
   omega
  ·have:=h.lt
   omega
 ·rw [heap_set _ _ _ _ _ (npo hq (by rcases ht with rfl | rfl <;> decide))]
  exact (key q (lt_of_heap hq) (typ hq (by rcases ht with rfl | rfl <;> decide))).trans hq
theorem row_shape {w:World}{B t c n:Nat}{v:Value}{xs:List Value}(h:w.ownsRow B t c v n xs):∃ (a:Option Addr) (cap:Nat),v = .slice a n cap:=by
 rcases h.2 with ⟨rfl,rfl⟩ | ⟨g,cap,cur,rfl,_⟩
 ·exact ⟨none,0,rfl⟩
 ·exact ⟨_,cap,rfl⟩
theorem infoSpp:(Tryz.prog.info? 47).map (fun i=>(i.zero,i.size,i.bytes))=some (some (.pointer none),1,8):=by kernel_rfl
theorem one_ptr (x:SD):∀ u ∈ [spPtr x],u.oneCell'=true:=fun u hu=>by
 simp at hu
 rw [hu]
 rfl
end Go.Proofs.YtemapnogjepokaaGreatDoor
