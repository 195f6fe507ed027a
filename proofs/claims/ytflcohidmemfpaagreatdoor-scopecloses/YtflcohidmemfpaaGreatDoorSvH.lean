/- Package scope: how the finder stands; refuse, a mark of one of its spaces. -/
import Derived.Test.YtflcohidmemfpaaGreatDoorSvG
set_option linter.all false
namespace Go.Proofs.YtflcohidmemfpaaGreatDoor
open Go.Proofs.Tryz
open Go.RowKit Go.Maps

abbrev Z4m (x:SD):Value:=.pointer (some ⟨x.b,0,none⟩)
abbrev Z33 (y:Int × Int × ByteArray):List Value:=[.int .i64 y.1,.int .i64 y.2.1,.string y.2.2]
structure FS (B p c:Nat) (l:List SD) (w:World):Prop where
 blk:∃ (vs:Value) (bg wr:Int) (vc:Value) (cl:List (Int × Int × ByteArray)),w.heap[p]?=some (.cells #[vs,.int .i64 bg,.int .i64 wr,vc] 58)∧w.ownsRow B 47 1 vs l.length (l.map Z4m)∧w.ownsRow B 88 3 vc cl.length (cl.flatMap Z33)∧(0≤bg∧bg≤c)∧(-1≤wr∧wr≤c)∧cl.length≤c ∧ ∀ y∈cl,(0≤y.1∧y.1≤c)∧(0≤y.2.1∧y.2.1<l.length)∧y.2.2.size≤140737488355328
 sp:SpL B w l
 ar:∀ (i:Nat) (x:SD),l[i]?=some x→(i=0→x.ar = -1)∧(0<i → ∃ u:Nat,u<i∧x.ar=u)
 lo:∀ (i:Nat) (x:SD),l[i]?=some x→x.k≤c∧x.od.length≤c∧x.pn≤c ∧ ∀ s n,x.mk' s n→n<16
 len:l.length≤c
 hp:B≤p
theorem FS.more {B p c c':Nat}{l:List SD}{w:World} (h:FS B p c l w) (hc:c≤c'):FS B p c' l w:=by
 obtain ⟨vs,bg,wr,vc,cl,h1,h2,h3,h4,h5,h6,h7⟩:=h.blk
 refine ⟨⟨vs,bg,wr,vc,cl,h1,h2,h3,by omega,by omega,by omega,fun y hy => ?_⟩,h.sp,h.ar,fun i x hi => ?_,by have:=h.len;omega,h.hp⟩
 ·obtain ⟨a,b,d⟩:=h7 y hy
  exact ⟨by omega,b,d⟩
 ·obtain ⟨a,b,d,e⟩:=h.lo i x hi
  exact ⟨by omega,by omega,by omega,e⟩
theorem FS.lt {B p c:Nat}{l:List SD}{w:World} (h:FS B p c l w):p<w.heap.size:=by
 obtain ⟨vs,bg,wr,vc,cl,h1,_⟩:=h.blk
 exact Z00 h1
theorem Z2e {p:Nat}{w:World}{v0 v1 v2 v3:Value} (h:w.heap[p]?=some (.cells #[v0,v1,v2,v3] 58)):w.cell? ⟨p,0,none⟩=some v0∧w.cell? ⟨p,1,none⟩=some v1∧w.cell? ⟨p,2,none⟩=some v2∧w.cell? ⟨p,3,none⟩=some v3 ∧ ∀ o,w.frozen? ⟨p,o,none⟩=false:=by
 refine ⟨?_,?_,?_,?_,fun o=>by simp [World.frozen?,h]⟩
 ·rw [cell_of_row w p 0 _ _ _ h];rfl
 ·rw [cell_of_row w p 1 _ _ _ h];rfl
 ·rw [cell_of_row w p 2 _ _ _ h];rfl
 ·rw [cell_of_row w p 3 _ _ _ h];rfl
theorem Z1r {B:Nat}{w:World}{x:SD} (h:SpAt B w x) {q:Nat}{cs:Array Value}{t:TypeId}{fz:Nat × Nat} (hq:w.heap[q]?=some (.cells cs t fz)) (h1:t≠68) (h2:t≠9):¬ x.has q:=fun hh=>by
 rcases hh with rfl | rfl | hh
 ·rw [h.blk] at hq
  simp at hq
  exact h1 hq.2.1.symm
 ·obtain ⟨es,clock,e⟩:=h.mapblk
  rw [e] at hq
  cases hq
 ·obtain ⟨_,cur,e⟩:=Z0d h.row hh
  rw [e] at hq
  simp at hq
  exact h2 hq.2.1.symm
theorem FS.ex {B p c:Nat}{l:List SD}{w w':World}{S:Nat→Prop} (h:FS B p c l w) (he:Ex S w w') (hs:∀ q,q<w.heap.size→B≤q → ¬ S q):FS B p c l w':=by
 obtain ⟨vs,bg,wr,vc,cl,h1,h2,h3,h4⟩:=h.blk
 have key:∀ q,q<w.heap.size→B≤q→w'.heap[q]?=w.heap[q]?:=fun q hq hB=>he.block q hq (hs q hq hB)
 refine ⟨⟨vs,bg,wr,vc,cl,(key p (Z00 h1) h.hp).trans h1,Z1a h2 (fun g hg => ?_),Z1a h3 (fun g hg => ?_),h4⟩,h.sp.ex he (fun i x hi q hq => ?_),h.ar,h.lo,h.len,h.hp⟩
 ·obtain ⟨a,cur,e⟩:=Z0d h2 hg
  exact key g (Z00 e) a
 ·obtain ⟨a,cur,e⟩:=Z0d h3 hg
  exact key g (Z00 e) a
 ·obtain ⟨a,b⟩:=(h.sp.all i x hi).lt hq
  exact hs q a b
theorem FS.below {B p c:Nat}{l:List SD}{w w':World} (h:FS B p c l w) (hb:Below w.heap.size w w'):FS B p c l w':=h.ex (S:=fun _=>False) ⟨hb.os,hb.tape,hb.output,hb.size,fun q hq _=>hb.block q hq⟩ (fun _ _ _ h=>h)
theorem Za6 {α β:Type} (f:α→β) {l:List α}{i:Nat}{x x':α} (hi:l[i]?=some x) (he:f x'=f x):(l.set i x').map f=l.map f:=by
 apply List.ext_getElem?
 intro j
 rw [List.getElem?_map,List.getElem?_map]
 by_cases e:i=j
 ·subst e
  rw [List.getElem?_set_self (List.getElem?_eq_some_iff.1 hi).1,hi,Option.map_some,Option.map_some,he]
 ·rw [List.getElem?_set_ne e]
theorem or16 {n m:Nat} (h:n<16) (hm:m=1∨m=2∨m=4∨m=8):n ||| m<16:=by
 have:=Zxz ⟨n,h⟩
 rcases hm with rfl | rfl | rfl | rfl
 ·exact this.1
 ·exact this.2.1
 ·exact this.2.2.1
 ·exact this.2.2.2
theorem FS.turn {B p c i:Nat}{l:List SD}{w w':World}{x x':SD}{s:ByteArray}{m:Nat} (h:FS B p c l w) (hi:l[i]?=some x) (hx:SpAt B w' x') (ht:Turned x x' w.heap.size s m) (hm:m=1∨m=2∨m=4∨m=8) (he:Ex x.has w w'):FS B p (c+1) (l.set i x') w':=by
 obtain ⟨vs,bg,wr,vc,cl,h1,h2,h3,h4,h5,h6,h7⟩:=h.blk
 have hX:=h.sp.all i x hi
 have hlen:(l.set i x').length=l.length:=List.length_set
 refine ⟨⟨vs,bg,wr,vc,cl,(he.block p (Z00 h1) (Z1r hX h1 (by decide) (by decide))).trans h1,?_,Z1a h3 (fun g hg => ?_),by omega,by omega,by omega,fun y hy => ?_⟩,h.sp.turn hi he hx ht.b ht.m ht.own,fun j y hj => ?_,fun j y hj => ?_,by rw [hlen];have:=h.len;omega,h.hp⟩
 ·rw [hlen,Za6 Z4m hi (by simp only [Z4m,ht.b])]
  refine Z1a h2 (fun g hg => ?_)
  obtain ⟨_,cur,e⟩:=Z0d h2 hg
  exact he.block g (Z00 e) (Z1r hX e (by decide) (by decide))
 ·obtain ⟨_,cur,e⟩:=Z0d h3 hg
  exact he.block g (Z00 e) (Z1r hX e (by decide) (by decide))
 ·rw [hlen]
  obtain ⟨a,b,d⟩:=h7 y hy
  exact ⟨by omega,b,d⟩
 ·by_cases e:i=j
  ·subst e
   rw [List.getElem?_set_self (List.getElem?_eq_some_iff.1 hi).1] at hj
   cases hj
   rw [ht.ar]
   exact h.ar i x hi
  ·rw [List.getElem?_set_ne e] at hj
   exact h.ar j y hj
 ·by_cases e:i=j
  ·subst e
   rw [List.getElem?_set_self (List.getElem?_eq_some_iff.1 hi).1] at hj
   cases hj
   obtain ⟨a,b,d,e⟩:=h.lo i x hi
   refine ⟨by have:=ht.k;omega,by have:=ht.od;omega,by rw [ht.pn];omega,fun t q hq => ?_⟩
   obtain ⟨r,_,hr,_⟩:=hX.ok.all t
   obtain rfl:=Zek (ht.mks t r hr) hq
   have hr16:=e t r hr
   split
   ·exact or16 hr16 hm
   ·exact hr16
  ·rw [List.getElem?_set_ne e] at hj
   obtain ⟨a,b,d,e⟩:=h.lo j y hj
   exact ⟨by omega,by omega,by omega,e⟩
theorem FS.at {B p c i:Nat}{l:List SD}{w:World} (h:FS B p c l w) (hi:i<l.length):∃ (g cap:Nat) (x:SD),l[i]?=some x∧SpAt B w x∧w.cell? ⟨p,0,none⟩=some (.slice (some ⟨g,0,none⟩) l.length cap)∧w.cell? ⟨g,i,none⟩=some (.pointer (some ⟨x.b,0,none⟩)):=by
 obtain ⟨vs,bg,wr,vc,cl,h1,h2,_⟩:=h.blk
 obtain ⟨c0,_⟩:=Z2e h1
 obtain ⟨x,hx⟩:∃ x,l[i]?=some x:=⟨l[i],by simp [hi]⟩
 rcases h2.2 with ⟨_,h0⟩ | ⟨g,cap,cur,rfl,_,hg,_,_,_,htk⟩
 ·omega
 ·refine ⟨g,cap,x,hx,h.sp.all i x hx,c0,?_⟩
  rw [cell_of_row w g i cur _ _ hg,←Array.getElem?_toList]
  have e:(cur.toList.take (l.length*1))[i]?=(l.map Z4m)[i]?:=by rw [htk]
  rw [List.getElem?_take,if_pos (by omega)] at e
  rw [e,List.getElem?_map,hx]
  rfl
theorem FS.nums {B p c:Nat}{l:List SD}{w:World} (h:FS B p c l w) (o:Nat) (z:Int) (ho:o=1∨o=2) (h0:(if o=1 then 0 else -1)≤z) (h1:z≤c):FS B p c l (w.setCell ⟨p,o,none⟩ (.int .i64 z)):=by
 obtain ⟨vs,bg,wr,vc,cl,b1,b2,b3,b4,b5,b6⟩:=h.blk
 have np:∀ {g:Nat}{cs:Array Value}{t:TypeId}{fz:Nat × Nat},w.heap[g]?=some (.cells cs t fz)→t≠58→g≠p:=fun hg ht e=>by
  rw [e,b1] at hg
  simp at hg
  exact ht hg.2.1.symm
 have hex:Ex (fun q=>q=p) w (w.setCell ⟨p,o,none⟩ (.int .i64 z)):=(Ex.refl (fun q=>q=p) w).set (S:=fun q=>q=p) (p:=p) rfl _
 have rest:w.ownsRow B 47 1 vs l.length (l.map Z4m)→(w.setCell ⟨p,o,none⟩ (.int .i64 z)).ownsRow B 47 1 vs l.length (l.map Z4m):=fun h2=>Z1a h2 (fun g hg=>by
  obtain ⟨_,cur,e⟩:=Z0d h2 hg
  exact Z07 _ _ _ _ _ (np e (by decide)))
 have rest2:(w.setCell ⟨p,o,none⟩ (.int .i64 z)).ownsRow B 88 3 vc cl.length (cl.flatMap Z33):=Z1a b3 (fun g hg=>by
  obtain ⟨_,cur,e⟩:=Z0d b3 hg
  exact Z07 _ _ _ _ _ (np e (by decide)))
 have spx:=h.sp.ex hex (fun i x hi q hq e=>by
  subst e
  exact Z1r (h.sp.all i x hi) b1 (by decide) (by decide) hq)
 rcases ho with rfl | rfl
 ·exact ⟨⟨vs,z,wr,vc,cl,by rw [Z0a b1];rfl,rest b2,rest2,⟨by simpa using h0,h1⟩,b5,b6⟩,spx,h.ar,h.lo,h.len,h.hp⟩
 ·exact ⟨⟨vs,bg,z,vc,cl,by rw [Z0a b1];rfl,rest b2,rest2,b4,⟨by simpa using h0,h1⟩,b6⟩,spx,h.ar,h.lo,h.len,h.hp⟩
set_option maxHeartbeats 2000000 in
set_option maxRecDepth 100000 in
theorem Z5q {B p c:Nat}{l:List SD}{w:World} (h:FS B p c l w) (at_:Nat) (ha:at_≤c):Calls prog 29 #[.pointer (some ⟨p,0,none⟩),.int .i64 (at_:Int)] w fun ev w'=>ev = .returned (.tuple #[])∧FS B p c l w'∧Ex (fun q=>q=p) w w':=by
 obtain ⟨vs,bg,wr,vc,cl,b1,_,_,_,b5,_⟩:=h.blk
 obtain ⟨c0,c1,c2,c3,cf⟩:=Z2e b1
 have f2:=cf 2
 have hpl:=h.lt
 have H:=Z01 h
 have HS:Hid (FS B p c l (w.setCell ⟨p,2,none⟩ (.int .i64 (at_:Int)))):=h.nums 2 _ (.inr rfl) (by first | (simp;done) | (simp;omega)) (by omega)
 have HB:Hid (Ex (fun q=>q=p) w (w.setCell ⟨p,2,none⟩ (.int .i64 (at_:Int)))):=(Ex.refl (fun q=>q=p) w).set (S:=fun q=>q=p) (p:=p) rfl _
 clear h cf
 by_cases h0:wr<0
 ·go_enter func29,ntmps29
  go_wp2_with fail
  go_end0
  exact ⟨rfl,HS.out,HB.out⟩
 ·by_cases h1:(at_:Int)<wr
  ·go_enter func29,ntmps29
   go_wp2_with fail
   go_end0
   exact ⟨rfl,HS.out,HB.out⟩
  ·go_enter func29,ntmps29
   go_wp2_with fail
   go_end0
   exact ⟨rfl,H.out,Ex.refl _ _⟩
theorem FS.other {B p c:Nat}{l:List SD}{w w':World}{x:SD} (h:FS B p c l w) (hx:SpAt B w x) (he:Ex (fun q=>q=p) w w'):SpAt B w' x:=hx.ex he (fun q hq e=>by
 obtain ⟨vs,bg,wr,vc,cl,b1,_⟩:=h.blk
 rw [e] at hq
 exact Z1r hx b1 (by decide) (by decide) hq)
theorem FS.exb {B p c:Nat}{l:List SD}{w w':World} (h:FS B p c l w) (he:Ex (fun q=>q=p) w w'):Fr B w w':=⟨he.below (fun q e=>by rw [e];exact h.hp) (by have:=h.lt;have:=h.hp;omega),fun q cs t fz h1 h2=>(he.block q (Z00 h1) (fun e=>by
 obtain ⟨vs,bg,wr,vc,cl,b1,_⟩:=h.blk
 subst e
 rw [b1] at h1
 simp at h1
 rcases h2 with rfl | rfl <;> exact absurd h1.2.1 (by decide))).trans h1⟩
end Go.Proofs.YtflcohidmemfpaaGreatDoor
namespace Go.Proofs.YtflcohidmemfpaaGreatDoor
open Go.Proofs.Tryz
open Go.RowKit Go.Maps

theorem FS.aside {B p c:Nat}{l:List SD}{w w':World}{x:SD} (h:FS B p c l w) (hx:SpAt B w x) (ha:∀ (i:Nat) (y:SD),l[i]?=some y→y.apart x) (he:Ex x.has w w'):FS B p c l w':=by
 obtain ⟨vs,bg,wr,vc,cl,h1,h2,h3,h4⟩:=h.blk
 refine ⟨⟨vs,bg,wr,vc,cl,(he.block p (Z00 h1) (Z1r hx h1 (by decide) (by decide))).trans h1,Z1a h2 (fun g hg => ?_),Z1a h3 (fun g hg => ?_),h4⟩,h.sp.ex he (fun i y hi q hq hxq=>Zlq (h.sp.all i y hi) hx (ha i y hi) q hq hxq),h.ar,h.lo,h.len,h.hp⟩
 ·obtain ⟨_,cur,e⟩:=Z0d h2 hg
  exact he.block g (Z00 e) (Z1r hx e (by decide) (by decide))
 ·obtain ⟨_,cur,e⟩:=Z0d h3 hg
  exact he.block g (Z00 e) (Z1r hx e (by decide) (by decide))
structure New (B p c:Nat) (l:List SD) (b m j:Nat) (nm:ByteArray) (ar:Int) (pn:Nat) (w:World):Prop where
 fs:FS B p c l w
 ex:∃ x:SD,SpAt B w x∧x.b=b∧x.m=m∧x.nm=nm∧x.ar=ar∧x.pn=pn∧x.k≤j∧x.od.length≤j∧(∀ s n,x.mk' s n→n<16) ∧ ∀ (i:Nat) (y:SD),l[i]?=some y→y.apart x
theorem New.start {B p c:Nat}{l:List SD}{w:World} (h:FS B p c l w) (hBw:B≤w.heap.size) (nm:ByteArray) (ar:Int) (pn:Nat) (w2:World) (hw:w2=(w.alloc (.map #[] 0)).alloc (.cells #[.string nm,.int .i64 ar,.int .i64 (pn:Int),.slice none 0 0,.slice none 0 0,.slice none 0 0,.map (some w.heap.size),.slice none 0 0] 68)):New B p c l (w.heap.size+1) w.heap.size 0 nm ar pn w2∧Fr B w w2:=by
 have hb:Below w.heap.size w w2:=by rw [hw];exact ((Below.refl _ _).alloc (Nat.le_refl _) _).alloc (by simp) _
 have hm:w2.ownsMap prog 9 (plainElem (H:=Unit) prog 3) w.heap.size 0 (.map []):=by
  rw [hw]
  exact (World.ownsMap_made w prog 9 (plainElem (H:=Unit) prog 3)).alloc _
 have hk:w2.heap[w.heap.size+1]?=some (.cells #[.string nm,.int .i64 ar,.int .i64 (pn:Int),.slice none 0 0,.slice none 0 0,.slice none 0 0,.map (some w.heap.size),.slice none 0 0] 68):=by
  rw [hw]
  have h:=heap_alloc_new (w.alloc (.map #[] 0)) (.cells #[.string nm,.int .i64 ar,.int .i64 (pn:Int),.slice none 0 0,.slice none 0 0,.slice none 0 0,.map (some w.heap.size),.slice none 0 0] 68)
  simpa using h
 refine ⟨⟨h.below hb,⟨⟨w.heap.size+1,w.heap.size,0,nm,ar,pn,.map [],.slice none 0 0,[]⟩,⟨hk,hm,⟨rfl,.inl ⟨rfl,rfl⟩⟩,by show B≤w.heap.size+1;omega,hBw,⟨⟨[],rfl⟩,fun s=>⟨0,by omega,rfl,fun h=>by simp [bdB] at h⟩,fun s hs=>by simp at hs⟩⟩,rfl,rfl,rfl,rfl,rfl,Nat.le_refl _,Nat.le_refl _,fun s n hn => ?_,fun i y hi => ?_⟩⟩,Fr.of_below hb hBw⟩
 ·have e:(0:Nat)=n:=Zek (x:=⟨w.heap.size+1,w.heap.size,0,nm,ar,pn,.map [],.slice none 0 0,[]⟩) (s:=s) rfl hn
  omega
 ·have hy:=h.sp.all i y hi
  have h1:=(hy.lt (.inl rfl)).1
  have h2:=(hy.lt (.inr (.inl rfl))).1
  exact ⟨by show y.b≠w.heap.size+1;omega,by show y.m≠w.heap.size;omega,fun g _ e=>by simp [Value.ownBlock] at e⟩
theorem New.bound {B p c:Nat}{l:List SD}{b m j:Nat}{nm:ByteArray}{ar:Int}{pn:Nat}{w w':World}{x x':SD}{s:ByteArray} (hf:FS B p c l w) (hx:SpAt B w x) (h1:x.b=b) (h2:x.m=m) (h3:x.nm=nm) (h4:x.ar=ar) (h5:x.pn=pn) (h6:x.k≤j) (h7:x.od.length≤j) (h8:∀ s n,x.mk' s n→n<16) (ha:∀ (i:Nat) (y:SD),l[i]?=some y→y.apart x) (hx':SpAt B w' x') (ht:Turned x x' w.heap.size s 1) (he:Ex x.has w w'):New B p c l b m (j+1) nm ar pn w':=by
 refine ⟨hf.aside hx ha he,x',hx',ht.b.trans h1,ht.m.trans h2,ht.nm.trans h3,ht.ar.trans h4,ht.pn.trans h5,by have:=ht.k;omega,by have:=ht.od;omega,fun t q hq => ?_,fun i y hi => ?_⟩
 ·obtain ⟨r,_,hr,_⟩:=hx.ok.all t
  obtain rfl:=Zek (ht.mks t r hr) hq
  have:=h8 t r hr
  split
  ·exact or16 this (.inl rfl)
  ·exact this
 ·have hy:=ha i y hi
  refine ⟨fun e=>hy.1 (e.trans ht.b),fun e=>hy.2.1 (e.trans ht.m),fun g h1 h2 => ?_⟩
  rcases ht.own g h2 with h3 | h3
  ·exact hy.2.2 g h1 h3
  ·have:=((hf.sp.all i y hi).lt (.inr (.inr h1))).1
   omega
theorem FS.push {B p c:Nat}{l:List SD}{w w2:World}{x:SD}{o:Obj}{vs:Value}{gn capn:Nat} (h:FS B p c l w) (hx:SpAt B w x) (ha:∀ (i:Nat) (y:SD),l[i]?=some y→y.apart x) (h0:w.cell? ⟨p,0,none⟩=some vs) (hg:(w.alloc o).grownBy w2 vs.ownBlock) (hown:w2.ownsRow B 47 1 (.slice (some ⟨gn,0,none⟩) (l.length+1) capn) (l.length+1) (l.map Z4m ++ [Z4m x]))
  (har:(l.length=0→x.ar = -1)∧(0<l.length → ∃ u:Nat,u<l.length∧x.ar=u)) {c':Nat} (hc:c≤c') (hlo:x.k≤c'∧x.od.length≤c'∧x.pn≤c' ∧ ∀ s n,x.mk' s n→n<16) (hlc:l.length+1≤c') :
  w2.heap[p]?=w.heap[p]?∧FS B p c' (l ++ [x]) (w2.setCell ⟨p,0,none⟩ (.slice (some ⟨gn,0,none⟩) (l.length+1) capn))∧Fr B w (w2.setCell ⟨p,0,none⟩ (.slice (some ⟨gn,0,none⟩) (l.length+1) capn)):=by
 obtain ⟨vs',bg,wr,vc,cl,h1,h2,h3,h4,h5,h6,h7⟩:=h.blk
 obtain rfl:vs'=vs:=by
  have:=(Z2e h1).1
  rw [h0] at this
  simpa using this.symm
 have hsz:(w.alloc o).heap.size=w.heap.size+1:=by simp
 have key:∀ q,q<w.heap.size→vs'.ownBlock≠some q→w2.heap[q]?=w.heap[q]?:=fun q hq hn=>(hg.block q (by omega) (fun e=>hn e.symm)).trans (Below.heap_alloc _ _ _ hq)
 have typ:∀ {q:Nat}{cs:Array Value}{t:TypeId}{fz:Nat × Nat},w.heap[q]?=some (.cells cs t fz)→t≠47→vs'.ownBlock≠some q:=fun hq ht e=>by
  obtain ⟨_,cur,e2⟩:=Z0d h2 e
  rw [hq] at e2
  simp at e2
  exact ht e2.2.1
 have npo:∀ {q:Nat}{cs:Array Value}{t:TypeId}{fz:Nat × Nat},w.heap[q]?=some (.cells cs t fz)→t≠58→q≠p:=fun hq ht e=>by
  rw [e,h1] at hq
  simp at hq
  exact ht hq.2.1.symm
 have hp2:=key p (Z00 h1) (typ h1 (by decide))
 have sp1:∀ y,SpAt B w y → ∀ q,y.has q→(w2.setCell ⟨p,0,none⟩ (.slice (some ⟨gn,0,none⟩) (l.length+1) capn)).heap[q]?=w.heap[q]?:=fun y hy q hq=>by
  have hl:=(hy.lt hq).1
  have n1:q≠p:=fun e=>Z1r hy h1 (by decide) (by decide) (e ▸ hq)
  rw [Z07 _ _ _ _ _ n1]
  refine key q hl (fun e => ?_)
  obtain ⟨_,cur,e2⟩:=Z0d h2 e
  exact Z1r hy e2 (by decide) (by decide) hq
 have keep:∀ y,SpAt B w y→SpAt B (w2.setCell ⟨p,0,none⟩ (.slice (some ⟨gn,0,none⟩) (l.length+1) capn)) y:=fun y hy=>hy.kept (sp1 y hy _ (.inl rfl)) (sp1 y hy _ (.inr (.inl rfl))) (fun g hg=>sp1 y hy _ (.inr (.inr hg)))
 have hL:SpL B (w2.setCell ⟨p,0,none⟩ (.slice (some ⟨gn,0,none⟩) (l.length+1) capn)) (l ++ [x]):=SpL.more ⟨fun i y hi=>keep y (h.sp.all i y hi),h.sp.two⟩ (keep x hx) ha
 have get:∀ (i:Nat) (y:SD),(l ++ [x])[i]?=some y→l[i]?=some y∨(i=l.length∧y=x):=fun i y hi=>by
  rcases Nat.lt_or_ge i l.length with h1 | h1
  ·rw [List.getElem?_append_left h1] at hi
   exact .inl hi
  ·rw [List.getElem?_append_right h1] at hi
   have hlt:=(List.getElem?_eq_some_iff.1 hi).1
   simp at hlt
   have e:i=l.length:=by omega
   subst e
   simp at hi
   exact .inr ⟨rfl,hi.symm⟩
 obtain ⟨_,cur,eg⟩:=Z0d hown (g:=gn) rfl
 have gp:gn≠p:=fun e=>by
  rw [e,hp2,h1] at eg
  simp at eg
 refine ⟨hp2,⟨⟨_,bg,wr,vc,cl,by rw [Z0a (hp2.trans h1)];rfl,?_,Z1a h3 (fun g hgo => ?_),by omega,by omega,by omega,fun y hy => ?_⟩,hL,fun i y hi => ?_,fun i y hi => ?_,by rw [List.length_append];simpa using hlc,h.hp⟩,⟨⟨hg.os,hg.tape,hg.output,?_,fun k hk => ?_⟩,fun q cs t fz hq ht => ?_⟩⟩
 ·have:=Z1a (w':=w2.setCell ⟨p,0,none⟩ (.slice (some ⟨gn,0,none⟩) (l.length+1) capn)) hown (fun g e=>by
   simp [Value.ownBlock] at e
   subst e
   exact Z07 _ _ _ _ _ gp)
  rw [List.length_append,List.map_append]
  exact this
 ·obtain ⟨_,cur,e⟩:=Z0d h3 hgo
  rw [Z07 _ _ _ _ _ (npo e (by decide))]
  exact key g (Z00 e) (typ e (by decide))
 ·obtain ⟨a,b,d⟩:=h7 y hy
  rw [List.length_append]
  exact ⟨by omega,⟨b.1,by have:=b.2;simp;omega⟩,d⟩
 ·rcases get i y hi with h8 | ⟨rfl,rfl⟩
  ·exact h.ar i y h8
  ·exact har
 ·rcases get i y hi with h8 | ⟨rfl,rfl⟩
  ·obtain ⟨a,b,d,e⟩:=h.lo i y h8
   exact ⟨by omega,by omega,by omega,e⟩
  ·exact hlo
 ·have:=hg.size
  simp [World.setCell]
  omega
 ·have hkp:=h.hp
  rw [Z07 _ _ _ _ _ (by omega)]
  rcases Nat.lt_or_ge k w.heap.size with hl | hl
  ·refine key k hl (fun e => ?_)
   have:=(Z0d h2 e).1
   omega
  ·have:=h.lt
   omega
 ·rw [Z07 _ _ _ _ _ (npo hq (by rcases ht with rfl | rfl <;> decide))]
  exact (key q (Z00 hq) (typ hq (by rcases ht with rfl | rfl <;> decide))).trans hq
theorem Z1o {w:World}{B t c n:Nat}{v:Value}{xs:List Value} (h:w.ownsRow B t c v n xs):∃ (a:Option Addr) (cap:Nat),v = .slice a n cap:=by
 rcases h.2 with ⟨rfl,rfl⟩ | ⟨g,cap,cur,rfl,_⟩
 ·exact ⟨none,0,rfl⟩
 ·exact ⟨_,cap,rfl⟩
theorem Zqp:(prog.info? 47).map (fun i=>(i.zero,i.size,i.bytes))=some (some (.pointer none),1,8):=by kernel_rfl
theorem Zr8 (x:SD):∀ u ∈ [Z4m x],u.oneCell'=true:=fun u hu=>by
 simp at hu
 rw [hu]
 rfl
end Go.Proofs.YtflcohidmemfpaaGreatDoor
