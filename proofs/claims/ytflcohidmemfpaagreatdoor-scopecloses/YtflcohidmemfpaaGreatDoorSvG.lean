/- Package scope: spaces in memory, and what their marks say. -/
import Derived.Test.YtflcohidmemfpaaGreatDoorSsF
import Derived.Maps.OwnOps
import Derived.Maps.Views
import Derived.Deep.Upon
set_option linter.all false
namespace Go.Proofs.YtflcohidmemfpaaGreatDoor
open Go.Proofs.Tryz
open Go.RowKit Go.Maps

theorem Zff:Keyed prog 9:=string_keyed underlying9
theorem Z5j (w:World):(zeroValue 3).run prog w = .ok (.int .i64 0) w:=by kernel_rfl
structure SD where
 b:Nat
 m:Nat
 k:Nat
 nm:ByteArray
 ar:Int
 pn:Nat
 D:DataW Unit
 v:Value
 od:List ByteArray
def SD.mk' (x:SD) (s:ByteArray) (n:Nat):Prop:=x.D.atKey (.string s.data.toList) (.lit (.int .i64 0)) = .lit (.int .i64 (n:Int))
def bdB (n:Nat):Bool:=n.testBit 0
def glB (n:Nat):Bool:=n.testBit 2
def nlB (n:Nat):Bool:=n.testBit 3
def shB (n:Nat):Bool:=n.testBit 4
def frB (n:Nat):Bool:=n.testBit 5
def beB (n:Nat):Bool:=bdB n && !(glB n || nlB n)
structure SpOK (x:SD):Prop where
 map:IsMap x.D
 all:∀ s,∃ n,n<64∧x.mk' s n∧(bdB n=true→s∈x.od)
 ods:∀ s∈x.od,s.size≤maxLen
theorem Zek {x:SD}{s:ByteArray}{n n':Nat} (h:x.mk' s n) (h':x.mk' s n'):n=n':=by
 have e:=h.symm.trans h'
 simp only [DataW.lit.injEq,Lit.int.injEq,true_and] at e
 omega
structure SpAt (B:Nat) (w:World) (x:SD):Prop where
 blk:w.heap[x.b]?=some (.cells #[.string x.nm,.int .i64 x.ar,.int .i64 (x.pn:Int),.slice none 0 0,.slice none 0 0,.slice none 0 0,.map (some x.m),x.v] 68)
 own:w.ownsMap prog 9 (plainElem prog 3) x.m x.k x.D
 row:w.ownsRow B 9 1 x.v x.od.length (x.od.map Value.string)
 hb:B≤x.b
 hm:B≤x.m
 ok:SpOK x
theorem SpAt.mapblk {B:Nat}{w:World}{x:SD} (h:SpAt B w x):∃ es clock,w.heap[x.m]?=some (.map es clock):=by
 obtain ⟨es,clock,e,_⟩:=h.own
 exact ⟨es,clock,e⟩
theorem Z1a {w w':World}{B t c n:Nat}{v:Value}{xs:List Value} (h:w.ownsRow B t c v n xs) (hw:∀ g,v.ownBlock=some g→w'.heap[g]?=w.heap[g]?):w'.ownsRow B t c v n xs:=by
 refine ⟨h.1,?_⟩
 rcases h.2 with h | ⟨g,cap,cur,rfl,e2,e3,e4⟩
 ·exact .inl h
 ·exact .inr ⟨g,cap,cur,rfl,e2,(hw g rfl).trans e3,e4⟩
theorem Z0d {w:World}{B t c n g:Nat}{v:Value}{xs:List Value} (h:w.ownsRow B t c v n xs) (hg:v.ownBlock=some g):B≤g ∧ ∃ cur,w.heap[g]?=some (.cells cur t (0,0)):=by
 rcases h.2 with ⟨rfl,_⟩ | ⟨g',cap,cur,rfl,e2,e3,e4⟩
 ·simp [Value.ownBlock] at hg
 ·simp [Value.ownBlock] at hg
  subst hg
  exact ⟨e2,cur,e3⟩
theorem Zlw {w w':World}{k:TypeId}{R:Value→Option (DataW Unit × List MemPlace)}{b n:Nat}{D:DataW Unit} (h:w.ownsMap prog k R b n D) (hw:w'.heap[b]?=w.heap[b]?):w'.ownsMap prog k R b n D:=by
 obtain ⟨es,clock,e1,e2⟩:=h
 exact ⟨es,clock,hw.trans e1,e2⟩
theorem SpAt.kept {B:Nat}{w w':World}{x:SD} (h:SpAt B w x) (h1:w'.heap[x.b]?=w.heap[x.b]?) (h2:w'.heap[x.m]?=w.heap[x.m]?) (h3:∀ g,x.v.ownBlock=some g→w'.heap[g]?=w.heap[g]?):SpAt B w' x:=
 ⟨h1.trans h.blk,Zlw h.own h2,Z1a h.row h3,h.hb,h.hm,h.ok⟩
structure Ex (S:Nat→Prop) (w w':World):Prop where
 os:w'.os=w.os
 tape:w'.tape=w.tape
 output:w'.output=w.output
 size:w.heap.size≤w'.heap.size
 block:∀ k,k<w.heap.size → ¬ S k→w'.heap[k]?=w.heap[k]?
theorem Ex.refl (S:Nat→Prop) (w:World):Ex S w w:=⟨rfl,rfl,rfl,Nat.le_refl _,fun _ _ _=>rfl⟩
theorem Ex.trans {S:Nat→Prop}{a b c:World} (h:Ex S a b) (k:Ex S b c):Ex S a c:=⟨k.os.trans h.os,k.tape.trans h.tape,k.output.trans h.output,Nat.le_trans h.size k.size,fun q hq hs=>(k.block q (Nat.lt_of_lt_of_le hq h.size) hs).trans (h.block q hq hs)⟩
theorem Ex.join {S T:Nat→Prop}{a b c:World} (h:Ex S a b) (k:Ex T b c) (ht:∀ q,T q→S q∨a.heap.size≤q):Ex S a c:=⟨k.os.trans h.os,k.tape.trans h.tape,k.output.trans h.output,Nat.le_trans h.size k.size,fun q hq hs=>(k.block q (Nat.lt_of_lt_of_le hq h.size) (fun t=>(ht q t).elim hs (fun e=>by omega))).trans (h.block q hq hs)⟩
theorem Ex.mono {S T:Nat→Prop}{a b:World} (h:Ex S a b) (hs:∀ k,S k→T k):Ex T a b:=⟨h.os,h.tape,h.output,h.size,fun q hq ht=>h.block q hq (fun h=>ht (hs q h))⟩
theorem Ex.below {S:Nat→Prop}{B:Nat}{a b:World} (h:Ex S a b) (hs:∀ k,S k→B≤k) (hB:B≤a.heap.size):Below B a b:=⟨h.os,h.tape,h.output,h.size,fun q hq=>h.block q (by omega) (fun h=>by have:=hs q h;omega)⟩
theorem Ex.alloc {S:Nat→Prop}{a b:World} (h:Ex S a b) (o:Obj):Ex S a (b.alloc o):=h.trans ⟨rfl,rfl,rfl,by simp,fun q hq _=>Below.heap_alloc _ _ _ hq⟩
theorem Ex.drew {S:Nat→Prop}{a b:World} (h:Ex S a b):Ex S a b.drew:=⟨h.os,h.tape,h.output,h.size,h.block⟩
theorem Ex.drewN {S:Nat→Prop}{n:Nat}{a b:World} (h:Ex S a b):Ex S a (b.drewN n):=⟨h.os,h.tape,h.output,h.size,h.block⟩
theorem Ex.set {S:Nat→Prop}{a b:World} (h:Ex S a b) {p o:Nat} (hp:S p) (v:Value):Ex S a (b.setCell ⟨p,o,none⟩ v):=h.trans ⟨rfl,rfl,rfl,by simp [World.setCell],fun q _ hs=>Z07 _ _ _ _ _ (fun e=>hs (e ▸ hp))⟩
theorem Ex.grown {S:Nat→Prop}{a b c:World}{r:Option Nat} (h:Ex S a b) (hg:b.grownBy c r) (hr:∀ g,r=some g→S g):Ex S a c:=h.trans ⟨hg.os,hg.tape,hg.output,hg.size,fun q hq hs=>hg.block q hq (fun e=>hs (hr q e.symm))⟩
theorem Ex.of_below {S:Nat→Prop}{a b c:World} (h:Ex S a b) (hb:Below b.heap.size b c):Ex S a c:=h.trans ⟨hb.os,hb.tape,hb.output,hb.size,fun q hq _=>hb.block q hq⟩
def SD.has (x:SD) (q:Nat):Prop:=q=x.b∨q=x.m∨x.v.ownBlock=some q
def SD.apart (x y:SD):Prop:=x.b≠y.b∧x.m≠y.m ∧ ∀ g,x.v.ownBlock=some g→y.v.ownBlock≠some g
theorem SD.apart.symm {x y:SD} (h:x.apart y):y.apart x:=⟨fun e=>h.1 e.symm,fun e=>h.2.1 e.symm,fun g h1 h2=>h.2.2 g h2 h1⟩
theorem Zlq {B:Nat}{w:World}{x y:SD} (hx:SpAt B w x) (hy:SpAt B w y) (ha:x.apart y) (q:Nat) (h1:x.has q) (h2:y.has q):False:=by
 have bx:=hx.blk
 have by':=hy.blk
 obtain ⟨e1,c1,mx⟩:=hx.mapblk
 obtain ⟨e2,c2,my⟩:=hy.mapblk
 rcases h1 with rfl | rfl | h1
 ·rcases h2 with h2 | h2 | h2
  ·exact ha.1 h2
  ·rw [h2,my] at bx
   cases bx
  ·obtain ⟨_,cur,e⟩:=Z0d hy.row h2
   rw [e] at bx
   simp at bx
 ·rcases h2 with h2 | h2 | h2
  ·rw [h2,by'] at mx
   cases mx
  ·exact ha.2.1 h2
  ·obtain ⟨_,cur,e⟩:=Z0d hy.row h2
   rw [e] at mx
   cases mx
 ·obtain ⟨_,cur,e⟩:=Z0d hx.row h1
  rcases h2 with h2 | h2 | h2
  ·rw [h2,by'] at e
   simp at e
  ·rw [h2,my] at e
   cases e
  ·exact ha.2.2 q h1 h2
theorem SpAt.lt {B:Nat}{w:World}{x:SD} (h:SpAt B w x) {q:Nat} (hq:x.has q):q<w.heap.size∧B≤q:=by
 rcases hq with rfl | rfl | hq
 ·exact ⟨Z00 h.blk,h.hb⟩
 ·obtain ⟨es,clock,e⟩:=h.mapblk
  exact ⟨Z00 e,h.hm⟩
 ·obtain ⟨h1,cur,e⟩:=Z0d h.row hq
  exact ⟨Z00 e,h1⟩
theorem SpAt.ex {B:Nat}{w w':World}{x:SD}{S:Nat→Prop} (h:SpAt B w x) (he:Ex S w w') (hs:∀ q,x.has q → ¬ S q):SpAt B w' x:=
 h.kept (he.block _ (h.lt (.inl rfl)).1 (hs _ (.inl rfl))) (he.block _ (h.lt (.inr (.inl rfl))).1 (hs _ (.inr (.inl rfl)))) (fun _ hg=>he.block _ (h.lt (.inr (.inr hg))).1 (hs _ (.inr (.inr hg))))
structure SpL (B:Nat) (w:World) (l:List SD):Prop where
 all:∀ (i:Nat) (x:SD),l[i]?=some x→SpAt B w x
 two:∀ (i j:Nat) (x y:SD),l[i]?=some x→l[j]?=some y→i≠j→x.apart y
theorem SpL.ex {B:Nat}{w w':World}{l:List SD}{S:Nat→Prop} (h:SpL B w l) (he:Ex S w w') (hs:∀ (i:Nat) (x:SD),l[i]?=some x → ∀ q,x.has q → ¬ S q):SpL B w' l:=
 ⟨fun i x hi=>(h.all i x hi).ex he (hs i x hi),h.two⟩
theorem SpL.turn {B:Nat}{w w':World}{l:List SD}{i:Nat}{x x':SD} (h:SpL B w l) (hi:l[i]?=some x) (he:Ex x.has w w') (hx:SpAt B w' x') (h1:x'.b=x.b) (h2:x'.m=x.m) (h3:∀ g,x'.v.ownBlock=some g→x.v.ownBlock=some g∨w.heap.size≤g):SpL B w' (l.set i x'):=by
 have hil:=(List.getElem?_eq_some_iff.1 hi).1
 have apart:∀ (j:Nat) (y:SD),l[j]?=some y→i≠j→x'.apart y:=fun j y hj hne=>by
  have ha:=h.two i j x y hi hj hne
  refine ⟨h1 ▸ ha.1,h2 ▸ ha.2.1,fun g hg hy => ?_⟩
  rcases h3 g hg with h4 | h4
  ·exact ha.2.2 g h4 hy
  ·have:=((h.all j y hj).lt (.inr (.inr hy))).1
   omega
 refine ⟨fun j y hj => ?_,fun j k y z hj hk hne => ?_⟩
 ·by_cases e:i=j
  ·subst e
   rw [List.getElem?_set_self hil] at hj
   cases hj
   exact hx
  ·rw [List.getElem?_set_ne e] at hj
   exact (h.all j y hj).ex he (fun q hq hx2=>Zlq (h.all i x hi) (h.all j y hj) (h.two i j x y hi hj e) q hx2 hq)
 ·by_cases e:i=j
  ·subst e
   rw [List.getElem?_set_self hil] at hj
   cases hj
   rw [List.getElem?_set_ne hne] at hk
   exact apart k z hk hne
  ·rw [List.getElem?_set_ne e] at hj
   by_cases e2:i=k
   ·subst e2
    rw [List.getElem?_set_self hil] at hk
    cases hk
    exact (apart j y hj e).symm
   ·rw [List.getElem?_set_ne e2] at hk
    exact h.two j k y z hj hk hne
theorem SpL.more {B:Nat}{w:World}{l:List SD}{x:SD} (h:SpL B w l) (hx:SpAt B w x) (ha:∀ (i:Nat) (y:SD),l[i]?=some y→y.apart x):SpL B w (l ++ [x]):=by
 have get:∀ (i:Nat) (y:SD),(l ++ [x])[i]?=some y→l[i]?=some y∨(i=l.length∧y=x):=fun i y hi=>by
  rcases Nat.lt_or_ge i l.length with h1 | h1
  ·rw [List.getElem?_append_left h1] at hi
   exact .inl hi
  ·rw [List.getElem?_append_right h1] at hi
   have hlt:=(List.getElem?_eq_some_iff.1 hi).1
   simp at hlt
   have e:i=l.length:=by omega
   subst e
   simp at hi
   exact .inr ⟨rfl,hi.symm⟩
 refine ⟨fun i y hi => ?_,fun i j y z hi hj hne => ?_⟩
 ·rcases get i y hi with h1 | ⟨_,rfl⟩
  ·exact h.all i y h1
  ·exact hx
 ·rcases get i y hi with h1 | ⟨rfl,rfl⟩
  ·rcases get j z hj with h2 | ⟨rfl,rfl⟩
   ·exact h.two i j y z h1 h2 hne
   ·exact ha i y h1
  ·rcases get j z hj with h2 | ⟨rfl,rfl⟩
   ·exact (ha j z h2).symm
   ·exact absurd rfl hne
def KT (w w':World):Prop:=∀ (q:Nat) (cs:Array Value) (t:TypeId) (fz:Nat × Nat),w.heap[q]?=some (.cells cs t fz)→t=72∨t=52→w'.heap[q]?=some (.cells cs t fz)
structure Fr (B:Nat) (w w':World):Prop where
 below:Below B w w'
 kt:KT w w'
theorem Fr.refl (B:Nat) (w:World):Fr B w w:=⟨Below.refl _ _,fun _ _ _ _ h _=>h⟩
theorem Fr.trans {B:Nat}{a b c:World} (h:Fr B a b) (k:Fr B b c):Fr B a c:=⟨h.below.trans k.below,fun q cs t fz h1 h2=>k.kt q cs t fz (h.kt q cs t fz h1 h2) h2⟩
theorem Fr.of_below {B:Nat}{a b:World} (h:Below a.heap.size a b) (hB:B≤a.heap.size):Fr B a b:=⟨h.mono hB,fun q _ _ _ h1 _=>(h.block q (Z00 h1)).trans h1⟩
theorem Ex.fr {B:Nat}{a b:World} (h:Ex (fun _=>False) a b) (hB:B≤a.heap.size):Fr B a b:=⟨h.below (fun _ h=>h.elim) hB,fun q _ _ _ h1 _=>(h.block q (Z00 h1) (fun h=>h)).trans h1⟩
theorem SpAt.fr {B:Nat}{w w':World}{x:SD} (h:SpAt B w x) (he:Ex x.has w w') (hB:B≤w.heap.size):Fr B w w':=⟨he.below (fun q hq=>(h.lt hq).2) hB,fun q cs t fz h1 h2=>(he.block q (Z00 h1) (fun hh=>by
 rcases hh with rfl | rfl | hh
 ·rw [h.blk] at h1
  simp at h1
  rcases h2 with rfl | rfl <;> exact absurd h1.2.1 (by decide)
 ·obtain ⟨es,clock,e⟩:=h.mapblk
  rw [e] at h1
  cases h1
 ·obtain ⟨_,cur,e⟩:=Z0d h.row hh
  rw [e] at h1
  simp at h1
  rcases h2 with rfl | rfl <;> exact absurd h1.2.1 (by decide))).trans h1⟩
/-! Marks that are put. -/
theorem ml {s:ByteArray} (h:s.size≤140737488355328):s.size≤maxLen:=by unfold maxLen;omega
theorem Z9h (s:ByteArray) (hs:s.size≤maxLen):keyOf prog 9 (.string s)=some (.string s.data.toList):=by
 simp [keyOf,underlying9,mapKey]
 exact hs
theorem Y0f {x:SD}{s:ByteArray}{n m:Nat}{od:List ByteArray} (h:SpOK x) (hn:x.mk' s n) (hm:n ||| m<64) (ho:∀ t∈x.od,t∈od) (hb:bdB (n ||| m)=true→s∈od) (hod:∀ t∈od,t.size≤maxLen) (k:Nat) (v:Value) :
  SpOK ⟨x.b,x.m,k,x.nm,x.ar,x.pn,x.D.put (.string s.data.toList) (.lit (.int .i64 ((n ||| m:Nat):Int))),v,od⟩:=by
 refine ⟨h.map.put _ _,fun t => ?_,hod⟩
 by_cases e:t=s
 ·subst e
  exact ⟨n ||| m,hm,atKey_put_same h.map (by trivial) _ _,hb⟩
 ·obtain ⟨q,h1,h2,h3⟩:=h.all t
  refine ⟨q,h1,?_,fun hq=>ho t (h3 hq)⟩
  show DataW.atKey (DataW.put _ _ _) _ _=_
  rw [atKey_put_other (fun h=>e (by
   simp only [Lit.string.injEq] at h
   exact WideShapes.bytes_inj h))]
  exact h2
end Go.Proofs.YtflcohidmemfpaaGreatDoor
namespace Go.Proofs.YtflcohidmemfpaaGreatDoor
open Go.Proofs.Tryz
open Go.RowKit Go.Maps

theorem Zzf:∀ n:Fin 64,bits .and .i64 (n.val:Int) 1=if bdB n.val then 1 else 0:=by decide
theorem Zzw:∀ n:Fin 64,bits .and .i64 (n.val:Int) 4=if glB n.val then 4 else 0:=by decide
theorem Y0c:∀ n:Fin 64,(bits .and .i64 (n.val:Int) 12=0)=((glB n.val || nlB n.val)=false):=by decide
theorem Y06:∀ n:Fin 64,bits .and .i64 (n.val:Int) 16=if shB n.val then 16 else 0:=by decide
theorem Zzv:∀ n:Fin 64,bits .and .i64 (n.val:Int) 32=if frB n.val then 32 else 0:=by decide
theorem Zpa:∀ n:Fin 64,bits .or .i64 (n.val:Int) 1=((n.val ||| 1:Nat):Int)∧bits .or .i64 (n.val:Int) 2=((n.val ||| 2:Nat):Int)∧bits .or .i64 (n.val:Int) 4=((n.val ||| 4:Nat):Int)∧bits .or .i64 (n.val:Int) 8=((n.val ||| 8:Nat):Int)∧bits .or .i64 (n.val:Int) 16=((n.val ||| 16:Nat):Int)∧bits .or .i64 (n.val:Int) 32=((n.val ||| 32:Nat):Int):=by decide
theorem Zve:∀ n:Fin 64,(n.val ||| 1)<64∧(n.val ||| 2)<64∧(n.val ||| 4)<64∧(n.val ||| 8)<64∧(n.val ||| 16)<64∧(n.val ||| 32)<64:=by decide
theorem Zxz:∀ n:Fin 16,(n.val ||| 1)<16∧(n.val ||| 2)<16∧(n.val ||| 4)<16∧(n.val ||| 8)<16:=by decide
theorem Zy5:∀ n:Fin 64,bdB (n.val ||| 2)=bdB n.val∧bdB (n.val ||| 4)=bdB n.val∧bdB (n.val ||| 8)=bdB n.val∧bdB (n.val ||| 16)=bdB n.val∧bdB (n.val ||| 32)=bdB n.val:=by decide
theorem Z2t {B:Nat}{w:World}{x:SD} (h:SpAt B w x):w.cell? ⟨x.b,0,none⟩=some (.string x.nm)∧w.cell? ⟨x.b,1,none⟩=some (.int .i64 x.ar)∧w.cell? ⟨x.b,2,none⟩=some (.int .i64 (x.pn:Int))∧w.cell? ⟨x.b,6,none⟩=some (.map (some x.m))∧w.cell? ⟨x.b,7,none⟩=some x.v ∧ ∀ o,w.frozen? ⟨x.b,o,none⟩=false:=by
 have hb:=h.blk
 refine ⟨?_,?_,?_,?_,?_,fun o=>by simp [World.frozen?,hb]⟩
 ·rw [cell_of_row w x.b 0 _ _ _ hb];rfl
 ·rw [cell_of_row w x.b 1 _ _ _ hb];rfl
 ·rw [cell_of_row w x.b 2 _ _ _ hb];rfl
 ·rw [cell_of_row w x.b 6 _ _ _ hb];rfl
 ·rw [cell_of_row w x.b 7 _ _ _ hb];rfl
theorem Z5g {D:DataW Unit}{k:Lit}{n:Nat}{c:Int} (h:D.atKey k (.lit (.int .i64 0)) = .lit (.int .i64 (n:Int))) (hat:D.atKey k (.lit (.int .i64 0)) = .lit (.int .i64 c)):c=(n:Int):=by
 have e:=hat.symm.trans h
 simp only [DataW.lit.injEq,Lit.int.injEq,true_and] at e
 exact e
set_option maxHeartbeats 2000000 in
set_option maxRecDepth 100000 in
theorem Zhe {B:Nat}{w:World}{x:SD} (h:SpAt B w x) (s:ByteArray) (hs:s.size≤maxLen) {n:Nat} (hn:x.mk' s n) (mark c:Int) (hc:bits .and .i64 (n:Int) mark=c) (r:Bool) (hr:(c=0)=(r=false)) :
  Calls prog 22 #[.pointer (some ⟨x.b,0,none⟩),.string s,.int .i64 mark] w fun ev w'=>ev = .returned (.bool r)∧w'=w:=by
 obtain ⟨_,_,_,c6,_,_⟩:=Z2t h
 obtain ⟨c',hrun,hat,_⟩:=h.own.lookup_int Zff underlying66 underlying3 (Z5j w) (Z9h s hs)
 obtain rfl:=Z5g hn hat
 have hbl:=Z02 c6
 clear hat h hn
 cases r with
 | false =>
  have h0:c=0:=by rw [hr]
  subst h0
  clear hr
  go_enter func22,ntmps22
  go_wp2_with fail
  go_ret
  exact ⟨rfl,rfl⟩
 | true =>
  have h0:(c != 0)=true:=by rw [bne_iff_ne];intro e;rw [hr] at e;cases e
  clear hr
  go_enter func22,ntmps22
  go_wp2_with fail
  go_ret
  exact ⟨rfl,rfl⟩
theorem Zyz {B:Nat}{w:World}{x:SD} (h:SpAt B w x) (s:ByteArray) (hs:s.size≤maxLen) {n:Nat} (hn:x.mk' s n) (h64:n<64):Calls prog 22 #[.pointer (some ⟨x.b,0,none⟩),.string s,.int .i64 1] w fun ev w'=>ev = .returned (.bool (bdB n))∧w'=w:=
 Zhe h s hs hn 1 _ (Zzf ⟨n,h64⟩) _ (by cases bdB n <;> simp)
theorem Zzk {B:Nat}{w:World}{x:SD} (h:SpAt B w x) (s:ByteArray) (hs:s.size≤maxLen) {n:Nat} (hn:x.mk' s n) (h64:n<64):Calls prog 22 #[.pointer (some ⟨x.b,0,none⟩),.string s,.int .i64 4] w fun ev w'=>ev = .returned (.bool (glB n))∧w'=w:=
 Zhe h s hs hn 4 _ (Zzw ⟨n,h64⟩) _ (by cases glB n <;> simp)
theorem is_sh {B:Nat}{w:World}{x:SD} (h:SpAt B w x) (s:ByteArray) (hs:s.size≤maxLen) {n:Nat} (hn:x.mk' s n) (h64:n<64):Calls prog 22 #[.pointer (some ⟨x.b,0,none⟩),.string s,.int .i64 16] w fun ev w'=>ev = .returned (.bool (shB n))∧w'=w:=
 Zhe h s hs hn 16 _ (Y06 ⟨n,h64⟩) _ (by cases shB n <;> simp)
theorem is_fr {B:Nat}{w:World}{x:SD} (h:SpAt B w x) (s:ByteArray) (hs:s.size≤maxLen) {n:Nat} (hn:x.mk' s n) (h64:n<64):Calls prog 22 #[.pointer (some ⟨x.b,0,none⟩),.string s,.int .i64 32] w fun ev w'=>ev = .returned (.bool (frB n))∧w'=w:=
 Zhe h s hs hn 32 _ (Zzv ⟨n,h64⟩) _ (by cases frB n <;> simp)
theorem is_gn {B:Nat}{w:World}{x:SD} (h:SpAt B w x) (s:ByteArray) (hs:s.size≤maxLen) {n:Nat} (hn:x.mk' s n) (h64:n<64):Calls prog 22 #[.pointer (some ⟨x.b,0,none⟩),.string s,.int .i64 12] w fun ev w'=>ev = .returned (.bool (glB n || nlB n))∧w'=w:=
 Zhe h s hs hn 12 _ rfl _ (Y0c ⟨n,h64⟩)
set_option maxHeartbeats 2000000 in
set_option maxRecDepth 100000 in
theorem Z85 {B:Nat}{w:World}{x:SD} (h:SpAt B w x) (s:ByteArray) (hs:s.size≤maxLen) {n:Nat} (hn:x.mk' s n) (h64:n<64):Calls prog 21 #[.pointer (some ⟨x.b,0,none⟩),.string s] w fun ev w'=>ev = .returned (.bool (beB n))∧w'=w:=by
 have H1:=Z01 (Zyz h s hs hn h64)
 have H2:=Z01 (is_gn h s hs hn h64)
 unfold beB
 clear h hn
 go_enter func21,ntmps21
 go_wp2_with fail
 refine H1.out.mono ?_
 rintro ev w1 ⟨rfl,rfl⟩
 cases hb:bdB n with
 | false =>
  go_wp2_with fail
  go_ret
  exact ⟨by rw [hb];rfl,rfl⟩
 | true =>
  go_wp2_with fail
  refine H2.out.mono ?_
  rintro ev w1 ⟨rfl,rfl⟩
  cases hg:glB n || nlB n with
  | false =>
   go_wp2_with fail
   go_ret
   exact ⟨by rw [hb,hg];rfl,rfl⟩
  | true =>
   go_wp2_with fail
   go_ret
   exact ⟨by rw [hb,hg];rfl,rfl⟩
def SD.put (x:SD) (s:ByteArray) (n:Nat):SD:=⟨x.b,x.m,x.k+1,x.nm,x.ar,x.pn,x.D.put (.string s.data.toList) (.lit (.int .i64 (n:Int))),x.v,x.od⟩
theorem Zhq {B:Nat}{w w':World}{x:SD}{s:ByteArray}{n m:Nat} (h:SpAt B w x) (hn:x.mk' s n) (hm:n ||| m<64) (hb:bdB (n ||| m)=true→s∈x.od) (ho:w'.ownsMap prog 9 (plainElem prog 3) x.m (x.k+1) (x.D.put (.string s.data.toList) (.lit (.int .i64 ((n ||| m:Nat):Int))))) (hg:w.grownBy w' (some x.m)):SpAt B w' (x.put s (n ||| m))∧Ex x.has w w':=by
 obtain ⟨es,clock,e⟩:=h.mapblk
 have hbk:w'.heap[x.b]?=w.heap[x.b]?:=hg.block _ (Z00 h.blk) (fun q=>by
  simp only [Option.some.injEq] at q
  have:=h.blk
  rw [q,e] at this
  cases this)
 refine ⟨⟨hbk.trans h.blk,ho,Z1a h.row (fun g hq => ?_),h.hb,h.hm,Y0f h.ok hn hm (fun t h=>h) hb h.ok.ods _ _⟩,hg.os,hg.tape,hg.output,hg.size,fun k hk hs=>hg.block k hk (fun q=>hs (.inr (.inl (by simpa using q))))⟩
 obtain ⟨_,cur,e2⟩:=Z0d h.row hq
 refine hg.block g (Z00 e2) (fun q => ?_)
 simp only [Option.some.injEq] at q
 rw [q,e] at e2
 cases e2
theorem Z91 {n:Nat} (h:n<64):(Lit.int .i64 (n:Int)).wf=true:=by
 have:∀ n:Fin 64,(Lit.int .i64 (n.val:Int)).wf=true:=by decide
 exact this ⟨n,h⟩
set_option maxHeartbeats 4000000 in
set_option maxRecDepth 100000 in
theorem Zxo {B:Nat}{w:World}{x:SD} (h:SpAt B w x) (s:ByteArray) (hs:s.size≤maxLen) {n:Nat} (hn:x.mk' s n) (h64:n<64) (hk:x.k≤1000000000000):Calls prog 62 #[.pointer (some ⟨x.b,0,none⟩),.string s] w fun ev w'=>ev = .returned (.tuple #[])∧SpAt B w' (x.put s (n ||| 2))∧Ex x.has w w':=by
 obtain ⟨_,_,_,c6,_,_⟩:=Z2t h
 have hbl:=Z02 c6
 have ho:=(Zpa ⟨n,h64⟩).2.1
 simp only at ho
 have hl:=(Zve ⟨n,h64⟩).2.1
 simp only at hl
 have H:=Z01 h
 have HN:=Z01 hn
 have HO:=Z01 h.own
 have HK:=Z01 (Z9h s hs)
 have HP:=Z01 (plainElem_int (H:=Unit) (P:=prog) underlying3 (Z91 hl))
 have HB:Hid (bdB (n ||| 2)=true→s∈x.od):=fun hb=>by
  obtain ⟨q,_,h2,h3⟩:=h.ok.all s
  obtain rfl:=Zek hn h2
  exact h3 (by rw [←(Zy5 ⟨n,h64⟩).1];exact hb)
 clear h hn hs
 go_enter func62,ntmps62
 go_wp2_with (first
  | (at_lookup;refine wpList_lookup_own_int _ rfl _ _ 66 rfl 9 3 .i64 Zff underlying66 underlying3 (Z5j _) x.m x.k _ rfl HO.out _ _ rfl HK.out ?_;intro c hat hwc;obtain rfl:=Z5g HN.out hat;clear hat hwc)
  | (at_mapUpdate;refine wpList_mapUpdate_own _ rfl _ _ _ 66 rfl 9 3 Zff underlying66 _ x.m x.k _ rfl HO.out (by unfold maxLen;omega) _ _ _ rfl rfl HK.out _ [] HP.out ?_;intro w1 hown1 hgrow1;have HR:=Z01 (Zhq H.out HN.out hl HB.out hown1 hgrow1);clear hown1 hgrow1))
 go_end0
 exact ⟨rfl,HR.out⟩
structure Turned (x x':SD) (z:Nat) (s:ByteArray) (a:Nat):Prop where
 b:x'.b=x.b
 m:x'.m=x.m
 nm:x'.nm=x.nm
 ar:x'.ar=x.ar
 pn:x'.pn=x.pn
 k:x'.k≤x.k+1
 od:x'.od.length≤x.od.length+1
 mks:∀ t q,x.mk' t q→x'.mk' t (if t=s then q ||| a else q)
 own:∀ g,x'.v.ownBlock=some g→x.v.ownBlock=some g∨z≤g
theorem Zqj {x:SD} (h:IsMap x.D) {s:ByteArray}{n m:Nat} (hn:x.mk' s n) (x':SD) (hx:x'.D=x.D.put (.string s.data.toList) (.lit (.int .i64 ((n ||| m:Nat):Int)))) (t:ByteArray) (q:Nat) (hq:x.mk' t q):x'.mk' t (if t=s then q ||| m else q):=by
 unfold SD.mk'
 rw [hx]
 by_cases e:t=s
 ·subst e
  obtain rfl:=Zek hn hq
  rw [if_pos rfl]
  exact atKey_put_same h (by trivial) _ _
 ·rw [if_neg e,atKey_put_other (fun h=>e (by
   simp only [Lit.string.injEq] at h
   exact WideShapes.bytes_inj h))]
  exact hq
theorem Z9o {x:SD} (h:IsMap x.D) {s:ByteArray}{n m z:Nat} (hn:x.mk' s n):Turned x (x.put s (n ||| m)) z s m:=⟨rfl,rfl,rfl,rfl,rfl,Nat.le_refl _,Nat.le_succ _,Zqj h hn _ rfl,fun _ h=>.inl h⟩
def SD.push (x:SD) (s:ByteArray) (gn capn:Nat):SD:=⟨x.b,x.m,x.k,x.nm,x.ar,x.pn,x.D,.slice (some ⟨gn,0,none⟩) (x.od.length+1) capn,x.od ++ [s]⟩
theorem Zy9 {B:Nat}{w w2:World}{x:SD}{s:ByteArray}{gn capn:Nat}{o:Obj} (h:SpAt B w x) (hsz':s.size≤maxLen) (hg:(w.alloc o).grownBy w2 x.v.ownBlock) (hat:x.v.ownBlock=some gn∨gn=(w.alloc o).heap.size) (hown:w2.ownsRow B 9 1 (.slice (some ⟨gn,0,none⟩) (x.od.length+1) capn) (x.od.length+1) (x.od.map Value.string ++ [.string s])) :
  w2.heap[x.b]?=w.heap[x.b]?∧SpAt B (w2.setCell ⟨x.b,7,none⟩ (.slice (some ⟨gn,0,none⟩) (x.od.length+1) capn)) (x.push s gn capn)∧Ex x.has w (w2.setCell ⟨x.b,7,none⟩ (.slice (some ⟨gn,0,none⟩) (x.od.length+1) capn)) ∧ ∀ g,(x.push s gn capn).v.ownBlock=some g→x.v.ownBlock=some g∨w.heap.size≤g:=by
 have hbl:=Z00 h.blk
 have hsz:(w.alloc o).heap.size=w.heap.size+1:=by simp
 obtain ⟨es,clock,em⟩:=h.mapblk
 have hml:=Z00 em
 have key:∀ q,q<w.heap.size→x.v.ownBlock≠some q→w2.heap[q]?=w.heap[q]?:=fun q hq hn=>(hg.block q (by omega) (fun e=>hn e.symm)).trans (Below.heap_alloc _ _ _ hq)
 have nb:x.v.ownBlock≠some x.b:=fun e=>by
  obtain ⟨_,cur,e2⟩:=Z0d h.row e
  have:=h.blk
  rw [e2] at this
  simp at this
 have nm:x.v.ownBlock≠some x.m:=fun e=>by
  obtain ⟨_,cur,e2⟩:=Z0d h.row e
  rw [e2] at em
  cases em
 have hb2:=key x.b hbl nb
 have hm2:=key x.m hml nm
 obtain ⟨_,cur,eg⟩:=Z0d hown (g:=gn) rfl
 have gb:gn≠x.b:=fun e=>by
  rw [e,hb2,h.blk] at eg
  simp at eg
 have mb:x.m≠x.b:=fun e=>by
  rw [e,h.blk] at em
  cases em
 refine ⟨hb2,⟨?_,Zlw h.own ((Z07 _ _ _ _ _ mb).trans hm2),?_,h.hb,h.hm,⟨h.ok.map,fun t => ?_,fun t ht=>(List.mem_append.1 ht).elim (h.ok.ods t) (fun e=>by rw [List.mem_singleton.1 e];exact hsz')⟩⟩,⟨hg.os,hg.tape,hg.output,?_,fun k hk hs => ?_⟩,fun g e => ?_⟩
 ·show (w2.setCell ⟨x.b,7,none⟩ (.slice (some ⟨gn,0,none⟩) (x.od.length+1) capn)).heap[x.b]?=_
  rw [Z0a (hb2.trans h.blk)]
  rfl
 ·have:=Z1a (w':=w2.setCell ⟨x.b,7,none⟩ (.slice (some ⟨gn,0,none⟩) (x.od.length+1) capn)) hown (fun g e=>by
   simp [Value.ownBlock] at e
   subst e
   exact Z07 _ _ _ _ _ gb)
  show World.ownsRow _ _ _ _ _ (x.od ++ [s]).length ((x.od ++ [s]).map Value.string)
  rw [List.length_append,List.map_append]
  exact this
 ·obtain ⟨q,h1,h2,h3⟩:=h.ok.all t
  exact ⟨q,h1,h2,fun hb=>List.mem_append_left _ (h3 hb)⟩
 ·have:=hg.size
  simp [World.setCell]
  omega
 ·rw [Z07 _ _ _ _ _ (fun e=>hs (.inl e))]
  exact key k hk (fun e=>hs (.inr (.inr e)))
 ·simp [SD.push,Value.ownBlock] at e
  subst e
  rcases hat with h1 | h1
  ·exact .inl h1
  ·exact .inr (by omega)
theorem Zl7:(prog.info? 9).map (fun i=>(i.zero,i.size,i.bytes))=some (some (.string ⟨#[]⟩),1,16):=by kernel_rfl
theorem Zfs (s:ByteArray):∀ u ∈ [Value.string s],u.oneCell'=true:=fun u hu=>by
 simp at hu
 rw [hu]
 rfl
set_option maxHeartbeats 4000000 in
set_option maxRecDepth 100000 in
theorem Z7h {B:Nat}{w:World}{x:SD} (h:SpAt B w x) (s:ByteArray) (hs:s.size≤maxLen) {n:Nat} (hn:x.mk' s n) (h64:n<64) (hk:x.k≤1000000000000) (hod:x.od.length≤1000000000) (hBw:B≤w.heap.size):Calls prog 30 #[.pointer (some ⟨x.b,0,none⟩),.string s] w fun ev w'=>ev = .returned (.tuple #[])∧Ex x.has w w' ∧ ∃ x',SpAt B w' x'∧Turned x x' w.heap.size s 1:=by
 have ho:=(Zpa ⟨n,h64⟩).1
 simp only at ho
 have hl:=(Zve ⟨n,h64⟩).1
 simp only at hl
 have HK:=Z01 (Z9h s hs)
 have HSZ:=Z01 hs
 have HP:=Z01 (plainElem_int (H:=Unit) (P:=prog) underlying3 (Z91 hl))
 have H1:=Z01 (Zyz h s hs hn h64)
 have HN:=Z01 hn
 have HM:=Z01 h.ok.map
 obtain ⟨_,_,_,c6,c7,cf⟩:=Z2t h
 have f7:=cf 7
 have hbl:=Z02 c6
 have H:=Z01 h
 clear hs hn cf
 go_enter func30,ntmps30
 go_wp2_with fail
 refine H1.out.mono ?_
 rintro ev w1 ⟨rfl,rfl⟩
 cases hb:bdB n with
 | true =>
  have HB:Hid (bdB (n ||| 1)=true→s∈x.od):=fun _=>by
   obtain ⟨q,_,h2,h3⟩:=H.out.ok.all s
   obtain rfl:=Zek HN.out h2
   exact h3 hb
  have HO:=Z01 H.out.own
  clear h
  go_wp2_with (first
   | (at_lookup;refine wpList_lookup_own_int _ rfl _ _ 66 rfl 9 3 .i64 Zff underlying66 underlying3 (Z5j _) x.m x.k _ rfl HO.out _ _ rfl HK.out ?_;intro c hat hwc;obtain rfl:=Z5g HN.out hat;clear hat hwc)
   | (at_mapUpdate;refine wpList_mapUpdate_own _ rfl _ _ _ 66 rfl 9 3 Zff underlying66 _ x.m x.k _ rfl HO.out (by unfold maxLen;omega) _ _ _ rfl rfl HK.out _ [] HP.out ?_;intro w1 hown1 hgrow1;have HR:=Z01 (Zhq H.out HN.out hl HB.out hown1 hgrow1);clear hown1 hgrow1))
  go_end0
  exact ⟨rfl,HR.out.2,_,HR.out.1,Z9o HM.out HN.out⟩
 | false =>
  obtain ⟨i0,hi0,hz0,hz1,hz2⟩:=info_parts Zl7
  have HRW:=Z01 h.row
  have hlen:(x.od.map Value.string).length=x.od.length:=by simp
  clear h
  go_wp2_with (first
   | (at_builtin;refine wpList_append_lies _ rfl _ _ _ rfl B 9 i0 (.string ⟨#[]⟩) 1 16 underlying32 hi0 hz0 hz1 hz2 rfl (by decide) _ x.od.length (x.od.map Value.string) rfl (HRW.out.alloc _) ⟨w1.heap.size,0,none⟩ 1 1 [.string s] rfl rfl (World.news_of_block (cs:=#[.string s]) (t:=9) (heap_alloc_new _ _)) (Zfs s) (by decide) (by unfold maxLen;omega) (by omega) (by simp;omega) _ rfl ?_;intro gn capn w2 hown2 hgrow hat hlt2;obtain ⟨e2,hP2,hE2,hO2⟩:=Zy9 H.out HSZ.out hgrow hat hown2;have q7:=(World.cell?_of_block (a:=⟨x.b,7,none⟩) e2).trans c7;have q6:=(World.cell?_of_block (a:=⟨x.b,6,none⟩) e2).trans c6;have qf:=(World.frozen?_of_block (a:=⟨x.b,7,none⟩) e2).trans f7;have ql:=Z02 q7;have HP2:=Z01 hP2;have HE2:=Z01 hE2;have HO2:=Z01 hO2;clear hown2 hgrow hat e2 hP2 hE2 hO2 c6 c7 f7)
   | (at_lookup;refine wpList_lookup_own_int _ rfl _ _ 66 rfl 9 3 .i64 Zff underlying66 underlying3 (Z5j _) x.m x.k _ rfl HP2.out.own _ _ rfl HK.out ?_;intro c hat hwc;obtain rfl:=Z5g HN.out hat;clear hat hwc)
   | (at_mapUpdate;refine wpList_mapUpdate_own _ rfl _ _ _ 66 rfl 9 3 Zff underlying66 _ x.m x.k _ rfl HP2.out.own (by unfold maxLen;omega) _ _ _ rfl rfl HK.out _ [] HP.out ?_;intro w3 hown1 hgrow1;have HR:=Z01 (Zhq (m:=1) HP2.out HN.out hl (fun _=>by simp [SD.push]) hown1 hgrow1);clear hown1 hgrow1))
  go_end0
  refine ⟨rfl,HE2.out.join HR.out.2 (fun q hq => ?_),_,HR.out.1,⟨rfl,rfl,rfl,rfl,rfl,Nat.le_refl _,by simp [SD.put,SD.push],Zqj HM.out HN.out _ rfl,HO2.out⟩⟩
  ·rcases hq with rfl | rfl | hq
   ·exact .inl (.inl rfl)
   ·exact .inl (.inr (.inl rfl))
   ·exact (HO2.out q hq).imp (fun h=>.inr (.inr h)) id
end Go.Proofs.YtflcohidmemfpaaGreatDoor
