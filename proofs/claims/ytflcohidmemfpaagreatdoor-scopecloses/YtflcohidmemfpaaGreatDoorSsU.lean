/- Package tree's writer at one statement: put, by a contract. -/
import Derived.Test.YtflcohidmemfpaaGreatDoorSsA
import Derived.Lib.AppendStr
import Derived.Laws.BytesArg
import Derived.Laws.Rows
import Derived.Deep.RegionWith
import Derived.Deep.QuietTactic
import Derived.BigQuiet
import Derived.Test.YtflcohidmemfpaaGreatDoorSsT
import Derived.Deep.RegionHeld3
import Derived.Deep.LoopGhost
import Derived.Lib.OthersKept
import Derived.Test.YtflcohidmemfpaaGreatDoorSsG
set_option linter.all false
namespace Go.Proofs.YtflcohidmemfpaaGreatDoor
open Go.Proofs.Tryz
open Go.RowKit Go.Lib

structure WS (w0:World) (p:Nat) (t:ByteArray) (w:World):Prop where
 blk:∃ rk v tm,w.heap[p]?=some (.cells #[rk,v,.int .i64 tm,.bool false] 77)∧w.ownsRow w0.heap.size 5 1 v t.size (strCells t)∧v.ownBlock≠some p
 hp:w0.heap.size≤p
 bl:Below w0.heap.size w0 w
theorem Z7g {w:World}{b t:Nat}{u0 u1 u2 u3:Value} (h:w.heap[b]?=some (.cells #[u0,u1,u2,u3] t)) :
  w.cell? ⟨b,0,none⟩=some u0∧w.cell? ⟨b,1,none⟩=some u1∧w.cell? ⟨b,2,none⟩=some u2∧w.cell? ⟨b,3,none⟩=some u3 ∧ ∀ o,w.frozen? ⟨b,o,none⟩=false:=by
 refine ⟨?_,?_,?_,?_,fun o=>by simp [World.frozen?,h]⟩
 ·rw [cell_of_row w b 0 _ _ _ h];rfl
 ·rw [cell_of_row w b 1 _ _ _ h];rfl
 ·rw [cell_of_row w b 2 _ _ _ h];rfl
 ·rw [cell_of_row w b 3 _ _ _ h];rfl

theorem Zbd {w:World}{base e size n:Nat}{v:Value}{xs:List Value} (h:w.ownsRow base e size v n xs):∃ pa pc,v = .slice pa n pc:=by
 rcases h.2 with ⟨h,h2⟩ | ⟨g,cap,cur,h,_⟩
 ·exact ⟨none,0,by rw [h,h2]⟩
 ·exact ⟨_,_,h⟩
theorem Z03 {p:Prop} (h:p):Hid p:=h
theorem Y05:∃ i,prog.info? 5=some i∧i.zero=some (.int .u8 0)∧i.size=1∧i.bytes=1:=by
 have h:(prog.info? 5).map (fun i=>(i.zero,i.size,i.bytes))=some (some (.int .u8 0),1,1):=by kernel_rfl
 cases hi:prog.info? 5 with
 | none=>rw [hi] at h;cases h
 | some i =>
  rw [hi] at h
  simp only [Option.map_some,Option.some.injEq,Prod.mk.injEq] at h
  exact ⟨i,rfl,h.1,h.2.1,h.2.2⟩
theorem Z6u (a b:ByteArray):strCells (a++b)=strCells a++strCells b:=by
 simp [strCells]
theorem WS.after {w0 w w':World}{p:Nat}{t s:ByteArray}{rk v v':Value}{tm:Int} (C:WS w0 p t w) (hb:w.heap[p]?=some (.cells #[rk,v,.int .i64 tm,.bool false] 77)) (ho:w.ownsRow w0.heap.size 5 1 v t.size (strCells t)) (hv:v.ownBlock≠some p)
  (hown:w'.ownsRow w0.heap.size 5 1 v' (t.size+s.size) (strCells t++strCells s)) (hg:w.grownBy w' v.ownBlock):w'.heap[p]?=some (.cells #[rk,v,.int .i64 tm,.bool false] 77)∧WS w0 p (t++s) (w'.setCell ⟨p,1,none⟩ v'):=by
 have hpl:=Z00 hb
 have hb':w'.heap[p]?=some (.cells #[rk,v,.int .i64 tm,.bool false] 77):=(hg.block p hpl (fun e=>hv e.symm)).trans hb
 refine ⟨hb',⟨rk,v',tm,?_,?_,?_⟩,C.hp,?_⟩
 ·simp [World.setCell,Array.getElem?_modify,hb']
 ·refine ⟨by rw [strCells_length,ByteArray.size_append,Nat.mul_one],?_⟩
  rw [ByteArray.size_append,Z6u]
  rcases hown.2 with h | ⟨g,cap,cur,e1,e2,e3,e4⟩
  ·exact .inl h
  ·refine .inr ⟨g,cap,cur,e1,e2,?_,e4⟩
   have hne:g≠p:=fun h=>by
    rw [h,hb'] at e3
    simp at e3
   exact (Below.heap_setCell _ _ _ _ hne).trans e3
 ·intro h
  rcases hown.2 with ⟨e,_⟩ | ⟨g,cap,cur,e1,e2,e3,e4⟩
  ·rw [e] at h
   simp [Value.ownBlock] at h
  ·rw [e1] at h
   simp [Value.ownBlock] at h
   rw [h,hb'] at e3
   simp at e3
 ·exact (Below.grown C.bl hg C.bl.size (fun k hk=>by
   rcases ho.2 with ⟨e,_⟩ | ⟨g,cap,cur,e1,e2,e3,e4⟩
   ·rw [e] at hk
    simp [Value.ownBlock] at hk
   ·rw [e1] at hk
    simp [Value.ownBlock] at hk
    omega)).setCell C.hp _

theorem WS.more {w0 w w':World}{p:Nat}{t:ByteArray} (C:WS w0 p t w) (hb:Below w.heap.size w w'):WS w0 p t w':=by
 obtain ⟨rk,v,tm,h1,h2,h3⟩:=C.blk
 refine ⟨⟨rk,v,tm,(hb.block p (Z00 h1)).trans h1,⟨h2.1,?_⟩,h3⟩,C.hp,C.bl.trans (hb.mono C.bl.size)⟩
 rcases h2.2 with h | ⟨g,cap,cur,e1,e2,e3,e4⟩
 ·exact .inl h
 ·exact .inr ⟨g,cap,cur,e1,e2,(hb.block g (Z00 e3)).trans e3,e4⟩
theorem WS.drewN {w0 w:World}{p n:Nat}{t:ByteArray} (C:WS w0 p t w):WS w0 p t (w.drewN n):=by
 have h:=Below.refl w.heap.size w
 exact C.more ⟨h.os,h.tape,h.output,h.size,h.block⟩
theorem WS.alloc {w0 w:World}{p:Nat}{t:ByteArray} (C:WS w0 p t w) (o:Obj):WS w0 p t (w.alloc o):=C.more ((Below.refl _ _).alloc (Nat.le_refl _) _)
end Go.Proofs.YtflcohidmemfpaaGreatDoor
namespace Go.Proofs.YtflcohidmemfpaaGreatDoor
open Go.Proofs.Tryz
open Go.RowKit Go.Lib

structure WT (p:Nat) (rk:Value) (w1 w:World):Prop where
 blk:∃ (v:Value) (t:ByteArray) (tm:Int) (lost:Bool),w.heap[p]?=some (.cells #[rk,v,.int .i64 tm,.bool lost] 77)∧w.ownsRow (p+1) 5 1 v t.size (strCells t)∧t.size≤6000
 bl:Below p w1 w
theorem WT.more {p:Nat}{rk:Value}{w1 w w':World} (C:WT p rk w1 w) (hb:Below w.heap.size w w'):WT p rk w1 w':=by
 obtain ⟨v,t,tm,lost,h1,h2,h3⟩:=C.blk
 have hp:=Z00 h1
 refine ⟨⟨v,t,tm,lost,(hb.block p hp).trans h1,⟨h2.1,?_⟩,h3⟩,C.bl.trans (hb.mono (Nat.le_of_lt hp))⟩
 rcases h2.2 with h | ⟨g,cap,cur,e1,e2,e3,e4⟩
 ·exact .inl h
 ·exact .inr ⟨g,cap,cur,e1,e2,(hb.block g (Z00 e3)).trans e3,e4⟩
theorem WT.alloc {p:Nat}{rk:Value}{w1 w:World} (C:WT p rk w1 w) (o:Obj):WT p rk w1 (w.alloc o):=C.more ((Below.refl _ _).alloc (Nat.le_refl _) _)
theorem WT.drew {p:Nat}{rk:Value}{w1 w:World} (C:WT p rk w1 w):WT p rk w1 w.drew:=C.more (Below.refl _ _).drew
theorem WT.drewN {p n:Nat}{rk:Value}{w1 w:World} (C:WT p rk w1 w):WT p rk w1 (w.drewN n):=by
 have h:=Below.refl w.heap.size w
 exact C.more ⟨h.os,h.tape,h.output,h.size,h.block⟩
theorem WT.lt {p:Nat}{rk:Value}{w1 w:World} (C:WT p rk w1 w):p<w.heap.size:=by
 obtain ⟨v,t,tm,lost,h1,_⟩:=C.blk
 exact Z00 h1
theorem WT.old {p:Nat}{rk:Value}{w1 w:World} (C:WT p rk w1 w) {a:Addr}{v:Value} (ha:a.block<p) (h:w1.cell? a=some v):w.cell? a=some v:=(C.bl.cell (p:=a) ha).trans h
theorem WT.cells {p:Nat}{rk:Value}{w1 w:World} (C:WT p rk w1 w):∃ (pa:Option Addr) (n pc:Nat) (tm:Int) (lost:Bool),n≤6000∧w.cell? ⟨p,0,none⟩=some rk∧w.cell? ⟨p,1,none⟩=some (.slice pa n pc)∧w.cell? ⟨p,2,none⟩=some (.int .i64 tm)∧w.cell? ⟨p,3,none⟩=some (.bool lost) ∧ ∀ o,w.frozen? ⟨p,o,none⟩=false:=by
 obtain ⟨v,t,tm,lost,h1,h2,h3⟩:=C.blk
 obtain ⟨pa,pc,rfl⟩:=Zbd h2
 exact ⟨pa,t.size,pc,tm,lost,h3,Z7g h1⟩
theorem Zhm {p:Nat}{w w':World}{v:Value}{n:Nat}{xs:List Value} (h:w.ownsRow (p+1) 5 1 v n xs) (hw:∀ g,p<g→w'.heap[g]?=w.heap[g]?):w'.ownsRow (p+1) 5 1 v n xs:=by
 refine ⟨h.1,?_⟩
 rcases h.2 with h | ⟨g,cap,cur,e1,e2,e3,e4⟩
 ·exact .inl h
 ·exact .inr ⟨g,cap,cur,e1,e2,(hw g (by omega)).trans e3,e4⟩
theorem Z3k {w:World}{b k o:Nat}{v:Value} (h:k≠b):(w.setCell ⟨b,o,none⟩ v).heap[k]?=w.heap[k]?:=Below.heap_setCell _ _ _ _ h
def GN (P:Prop) (d:ByteArray):Prop:=P→Z5z 0 d.data.toList=some 0
theorem Y01 (P:Prop):GN P ⟨#[]⟩:=fun _=>rfl
theorem GN.app {P:Prop}{a b:ByteArray} (h:GN P a) (k:GN P b):GN P (a++b):=fun p=>by
 have e:(a++b).data.toList=a.data.toList++b.data.toList:=by simp [ByteArray.data_append]
 rw [e]
 exact Zo9.app (h p) (k p)
theorem Zvg {d:ByteArray} : GN False d:=fun h=>h.elim
def WAt (p:Nat) (w:World) (t:ByteArray):Prop:=∃ (rk v:Value) (tm:Int) (lost:Bool),w.heap[p]?=some (.cells #[rk,v,.int .i64 tm,.bool lost] 77)∧w.ownsRow (p+1) 5 1 v t.size (strCells t)
theorem Zgc {a b:ByteArray} (h:strCells a=strCells b):a=b:=by
 have e:∀ l m:List UInt8,l.map (fun c=>Value.int .u8 (c.toNat:Int))=m.map (fun c=>Value.int .u8 (c.toNat:Int))→l=m:=fun l=>by
  induction l with
  | nil=>intro m h;cases m with
   | nil=>rfl
   | cons c m=>cases h
  | cons c l ih=>intro m h;cases m with
   | nil=>cases h
   | cons d m =>
    simp only [List.map_cons,List.cons.injEq,Value.int.injEq,true_and] at h
    rw [UInt8.toNat_inj.mp (show c.toNat=d.toNat by omega),ih m h.2]
 apply ByteArray.ext
 apply Array.toList_inj.1
 exact e _ _ h
theorem WAt.one {p:Nat}{w:World}{t t':ByteArray} (h:WAt p w t) (h':WAt p w t'):t=t':=by
 obtain ⟨rk,v,tm,lost,h1,h2⟩:=h
 obtain ⟨rk',v',tm',lost',h3,h4⟩:=h'
 rw [h1] at h3
 have h3:=Option.some.inj h3
 injection h3 with h3
 have hv:v=v':=by
  have:=congrArg (fun a=>a[1]?) h3
  simpa using this
 subst hv
 apply Zgc
 rcases h2.2 with ⟨e1,e2⟩ | ⟨g,cap,cur,e1,_,e3,_,_,_,e7⟩
 ·rcases h4.2 with ⟨f1,f2⟩ | ⟨g',cap',cur',f1,_⟩
  ·have a1:(strCells t).length=t.size:=by rw [strCells_length]
   have a2:(strCells t').length=t'.size:=by rw [strCells_length]
   rw [e2] at a1
   rw [f2] at a2
   rw [List.eq_nil_of_length_eq_zero a1,List.eq_nil_of_length_eq_zero a2]
  ·rw [e1] at f1
   cases f1
 ·rcases h4.2 with ⟨f1,f2⟩ | ⟨g',cap',cur',f1,_,f3,_,_,_,f7⟩
  ·rw [e1] at f1
   cases f1
  ·rw [e1] at f1
   simp only [Value.slice.injEq,Option.some.injEq,Addr.mk.injEq] at f1
   obtain ⟨⟨rfl,_⟩,hn,_⟩:=f1
   rw [e3] at f3
   have f3:=Option.some.inj f3
   injection f3 with f3
   rw [←e7,←f7,f3,hn]
theorem WAt.more {p:Nat}{w w':World}{t:ByteArray} (C:WAt p w t) (hb:Below w.heap.size w w'):WAt p w' t:=by
 obtain ⟨rk,v,tm,lost,h1,h2⟩:=C
 have hp:=Z00 h1
 refine ⟨rk,v,tm,lost,(hb.block p hp).trans h1,⟨h2.1,?_⟩⟩
 rcases h2.2 with h | ⟨g,cap,cur,e1,e2,e3,e4⟩
 ·exact .inl h
 ·exact .inr ⟨g,cap,cur,e1,e2,(hb.block g (Z00 e3)).trans e3,e4⟩
theorem WAt.lose {p:Nat}{w:World}{t:ByteArray} (C:WAt p w t) (b:Bool):WAt p (w.setCell ⟨p,3,none⟩ (.bool b)) t:=by
 obtain ⟨rk,v,tm,lost,h1,h2⟩:=C
 exact ⟨rk,v,tm,b,by simp [World.setCell,Array.getElem?_modify,h1],Zhm h2 (fun g hg=>Z3k (by omega))⟩
theorem WAt.count {p:Nat}{w:World}{t:ByteArray} (C:WAt p w t) (z:Int):WAt p (w.setCell ⟨p,2,none⟩ (.int .i64 z)) t:=by
 obtain ⟨rk,v,tm,lost,h1,h2⟩:=C
 exact ⟨rk,v,z,lost,by simp [World.setCell,Array.getElem?_modify,h1],Zhm h2 (fun g hg=>Z3k (by omega))⟩
theorem Zur (t:ByteArray):t++⟨#[]⟩=t:=by
 apply ByteArray.ext
 simp
theorem WT.lose {p:Nat}{rk:Value}{w1 w:World} (C:WT p rk w1 w) (b:Bool):WT p rk w1 (w.setCell ⟨p,3,none⟩ (.bool b)):=by
 obtain ⟨v,t,tm,lost,h1,h2,h3⟩:=C.blk
 exact ⟨⟨v,t,tm,b,by simp [World.setCell,Array.getElem?_modify,h1],Zhm h2 (fun g hg=>Z3k (by omega)),h3⟩,C.bl.setCell (Nat.le_refl _) _⟩
theorem WT.count {p:Nat}{rk:Value}{w1 w:World} (C:WT p rk w1 w) (z:Int):WT p rk w1 (w.setCell ⟨p,2,none⟩ (.int .i64 z)):=by
 obtain ⟨v,t,tm,lost,h1,h2,h3⟩:=C.blk
 exact ⟨⟨v,t,z,lost,by simp [World.setCell,Array.getElem?_modify,h1],Zhm h2 (fun g hg=>Z3k (by omega)),h3⟩,C.bl.setCell (Nat.le_refl _) _⟩
theorem Zth {p:Nat}{rk v v':Value}{w1 w w':World}{t s:ByteArray}{tm:Int}{lost:Bool} (hbl:Below p w1 w) (hb:w.heap[p]?=some (.cells #[rk,v,.int .i64 tm,.bool lost] 77)) (ho:w.ownsRow (p+1) 5 1 v t.size (strCells t)) (hs:t.size+s.size≤6000)
  (hown:w'.ownsRow (p+1) 5 1 v' (t.size+s.size) (strCells t++strCells s)) (hg:w.grownBy w' v.ownBlock):w'.heap[p]?=some (.cells #[rk,v,.int .i64 tm,.bool lost] 77)∧WT p rk w1 (w'.setCell ⟨p,1,none⟩ v')∧WAt p (w'.setCell ⟨p,1,none⟩ v') (t++s):=by
 have hpl:=Z00 hb
 have no:∀ k,k≤p→some k≠v.ownBlock:=fun k hk e=>by
  rcases ho.2 with ⟨e1,_⟩ | ⟨g,cap,cur,e1,e2,_⟩
  ·rw [e1] at e
   simp [Value.ownBlock] at e
  ·rw [e1] at e
   simp [Value.ownBlock] at e
   omega
 have hb':w'.heap[p]?=some (.cells #[rk,v,.int .i64 tm,.bool lost] 77):=(hg.block p hpl (no p (Nat.le_refl _))).trans hb
 have q1:(w'.setCell ⟨p,1,none⟩ v').heap[p]?=some (.cells #[rk,v',.int .i64 tm,.bool lost] 77):=by simp [World.setCell,Array.getElem?_modify,hb']
 have q2:(w'.setCell ⟨p,1,none⟩ v').ownsRow (p+1) 5 1 v' (t++s).size (strCells (t++s)):=by
  rw [ByteArray.size_append,Z6u]
  exact Zhm hown (fun g hg=>Z3k (by omega))
 exact ⟨hb',⟨⟨v',t++s,tm,lost,q1,q2,by rw [ByteArray.size_append];exact hs⟩,Below.setCell ⟨hg.os.trans hbl.os,hg.tape.trans hbl.tape,hg.output.trans hbl.output,Nat.le_trans hbl.size hg.size,fun k hk=>(hg.block k (by omega) (no k (by omega))).trans (hbl.block k hk)⟩ (Nat.le_refl _) _⟩,rk,v',tm,lost,q1,q2⟩
structure WX (P:Prop) (p:Nat) (rk:Value) (w1 wa w:World):Prop where
 wt:WT p rk w1 w
 kept:OthersKept 5 (some p) wa w
 grow:∀ t,WAt p wa t → ∃ d,GN P d∧WAt p w (t++d)
variable {P:Prop}
theorem WX.start {p:Nat}{rk:Value}{w1 w:World} (C:WT p rk w1 w):WX P p rk w1 w w:=⟨C,OthersKept.refl _ _ _,fun t h=>⟨⟨#[]⟩,Y01 P,by rw [Zur];exact h⟩⟩
theorem WX.trans {p:Nat}{rk:Value}{w1 wa wb w:World} (h:WX P p rk w1 wa wb) (k:WX P p rk w1 wb w):WX P p rk w1 wa w:=⟨k.wt,h.kept.trans k.kept,fun t ht=>by
 obtain ⟨d,hd,h1⟩:=h.grow t ht
 obtain ⟨e,he,h2⟩:=k.grow _ h1
 exact ⟨d++e,hd.app he,by rw [←ByteArray.append_assoc];exact h2⟩⟩
theorem WX.same {p:Nat}{rk:Value}{w1 wa w w':World} (h:WX P p rk w1 wa w) (k1:WT p rk w1 w') (k2:OthersKept 5 (some p) wa w') (k3:∀ t,WAt p w t→WAt p w' t):WX P p rk w1 wa w':=⟨k1,k2,fun t ht=>by
 obtain ⟨d,hd,h1⟩:=h.grow t ht
 exact ⟨d,hd,k3 _ h1⟩⟩
theorem WX.alloc {p:Nat}{rk:Value}{w1 wa w:World} (h:WX P p rk w1 wa w) (o:Obj):WX P p rk w1 wa (w.alloc o):=h.same (h.wt.alloc o) (h.kept.alloc o) (fun _ k=>k.more ((Below.refl _ _).alloc (Nat.le_refl _) _))
theorem WX.drew {p:Nat}{rk:Value}{w1 wa w:World} (h:WX P p rk w1 wa w):WX P p rk w1 wa w.drew:=h.same h.wt.drew h.kept.drew (fun _ k=>k)
theorem WX.drewN {p n:Nat}{rk:Value}{w1 wa w:World} (h:WX P p rk w1 wa w):WX P p rk w1 wa (w.drewN n):=h.same h.wt.drewN h.kept (fun _ k=>k)
theorem WX.lose {p:Nat}{rk:Value}{w1 wa w:World} (h:WX P p rk w1 wa w) (b:Bool):WX P p rk w1 wa (w.setCell ⟨p,3,none⟩ (.bool b)):=h.same (h.wt.lose b) (h.kept.setCell _ rfl _) (fun _ k=>k.lose b)
theorem WX.count {p:Nat}{rk:Value}{w1 wa w:World} (h:WX P p rk w1 wa w) (z:Int):WX P p rk w1 wa (w.setCell ⟨p,2,none⟩ (.int .i64 z)):=h.same (h.wt.count z) (h.kept.setCell _ rfl _) (fun _ k=>k.count z)
theorem WX.more {p:Nat}{rk:Value}{w1 wa w w':World} (h:WX P p rk w1 wa w) (hb:Below w.heap.size w w'):WX P p rk w1 wa w':=h.same (h.wt.more hb) (fun k o hk h1 h2=>by
 have:=h.kept k o hk h1 h2
 exact (hb.block k (Z00 this)).trans this) (fun _ k=>k.more hb)
theorem WX.block {p k:Nat}{rk:Value}{w1 wa w:World} (h:WX P p rk w1 wa w) {cs:Array Value}{t:TypeId}{fz:Nat × Nat} (hk:wa.heap[k]?=some (.cells cs t fz)) (hp:k≠p) (ht:t≠5):w.heap[k]?=some (.cells cs t fz):=h.kept k _ hk (by simpa using hp) (by intro c f x;cases x;exact ht rfl)
theorem Zuq {w:World}{base n g q:Nat}{v:Value}{xs:List Value}{cs:Array Value}{t:TypeId}{fz:Nat × Nat} (ho:w.ownsRow base 5 1 v n xs) (hq:w.heap[q]?=some (.cells cs t fz)) (ht:t≠5) (hg:v.ownBlock=some g):g≠q:=fun e=>by
 rcases ho.2 with ⟨e1,_⟩ | ⟨g',cap,cur,e1,_,e3,_⟩
 ·rw [e1] at hg
  simp [Value.ownBlock] at hg
 ·rw [e1] at hg
  simp [Value.ownBlock] at hg
  rw [hg,e,hq] at e3
  simp at e3
  exact ht e3.2.1
theorem Zpq {w:World}{base n g:Nat}{v:Value}{xs:List Value} (ho:w.ownsRow base 5 1 v n xs) (hg:v.ownBlock=some g):∃ cs fz,w.heap[g]?=some (.cells cs 5 fz):=by
 rcases ho.2 with ⟨e1,_⟩ | ⟨g',cap,cur,e1,_,e3,_⟩
 ·rw [e1] at hg
  simp [Value.ownBlock] at hg
 ·rw [e1] at hg
  simp [Value.ownBlock] at hg
  rw [←hg]
  exact ⟨_,_,e3⟩
def LAt (p:Nat) (w:World):Prop:=∃ (rk v:Value) (tm:Int),w.heap[p]?=some (.cells #[rk,v,.int .i64 tm,.bool true] 77)
theorem WT.lostAt {p:Nat}{rk:Value}{w1 w:World} (C:WT p rk w1 w):LAt p (w.setCell ⟨p,3,none⟩ (.bool true)):=by
 obtain ⟨v,t,tm,lost,h1,h2,h3⟩:=C.blk
 exact ⟨rk,v,tm,by simp [World.setCell,Array.getElem?_modify,h1]⟩
theorem WAt.size {p:Nat}{rk:Value}{w1 w:World}{t:ByteArray} (A:WAt p w t) (C:WT p rk w1 w):t.size≤6000:=by
 obtain ⟨v,t',tm,lost,h1,h2,h3⟩:=C.blk
 have A2:WAt p w t':=⟨rk,v,tm,lost,h1,h2⟩
 rw [A.one A2]
 exact h3
def Zi6 (t:ByteArray) (ss:List ByteArray):ByteArray:=ss.foldl (· ++ ·) t
theorem Zsn:∀ (ss:List ByteArray) (t:ByteArray),t.size≤(Zi6 t ss).size
 | [],_=>Nat.le_refl _
 | s::ss,t=>Nat.le_trans (by rw [ByteArray.size_append];omega) (Zsn ss (t++s))
theorem Zh5 {ss:List ByteArray}{i:Nat}{s:ByteArray} (h:ss[i]?=some s) (t:ByteArray):Zi6 t (ss.take (i+1))=Zi6 t (ss.take i)++s:=by
 unfold Zi6
 rw [List.take_add_one,h]
 simp
theorem Zqt (ss:List ByteArray) (t:ByteArray) (i:Nat):(Zi6 t (ss.take i)).size≤(Zi6 t ss).size:=by
 have e:Zi6 t ss=Zi6 (Zi6 t (ss.take i)) (ss.drop i):=by
  unfold Zi6
  rw [←List.foldl_append,List.take_append_drop]
 rw [e]
 exact Zsn _ _
theorem Zr7 {ss:List ByteArray}{i:Nat}{s:ByteArray} (h:ss[i]?=some s) (t:ByteArray):(Zi6 t (ss.take i)).size+s.size≤(Zi6 t ss).size:=by
 have:=Zqt ss t (i+1)
 rw [Zh5 h,ByteArray.size_append] at this
 exact this
def PutE (p:Nat) (w w':World) (ss:List ByteArray):Prop:=∀ t,WAt p w t→WAt p w' (Zi6 t ss)∨LAt p w'∧6000<(Zi6 t ss).size
set_option maxHeartbeats 4000000 in
set_option maxRecDepth 100000 in
theorem Zz6 {p:Nat}{rk:Value}{w1:World} (q:Nat) (ss:List ByteArray) (hn:ss.length≤1000) (hz:∀ s∈ss,s.size≤4611686018427387904) (hg:∀ s∈ss,GN P s) (w:World) (C:WT p rk w1 w) (hq:w.heap[q]?=some (.cells (ss.map Value.string).toArray 9)) (hqp:q≠p) :
  Calls prog 49 #[.pointer (some ⟨p,0,none⟩),.slice (some ⟨q,0,none⟩) ss.length ss.length] w fun ev w'=>ev = .returned (.tuple #[])∧WX P p rk w1 w w'∧PutE p w w' ss:=by
 obtain ⟨i0,hi0,hz0,hz1,hz2⟩:=Y05
 have HC:=Z03 C
 have HQ:=Z03 hq
 have HZ:=Z03 hz
 have HGN:=Z03 hg
 clear C hq hz hg
 go_enter func49,ntmps49
 go_wp2_with fail
 go_loopg [8] (ss.length+1) (fun gk v8 wr => ∃ i:Nat,gk=ss.length+1 - i∧i≤ss.length∧v8 = .int .i64 (i:Int)∧WX P p rk w1 w wr∧wr.heap[q]?=some (.cells (ss.map Value.string).toArray 9) ∧ ∀ t0,WAt p w t0→WAt p wr (Zi6 t0 (ss.take i)))
 case atStart=>exact ⟨0,rfl,Nat.zero_le _,rfl,.start HC.out,HQ.out,fun _ h=>h⟩
 case round =>
  obtain ⟨i,hgk,hi,rfl,hC,hq,hfo⟩:=hrel
  have HG:=Z03 hgk
  have HFO:=Z03 hfo
  clear hfo
  have HCR:=Z03 hC
  have HQR:=Z03 hq
  by_cases hlt:i<ss.length
  ·have hJ:(i:Int)<(ss.length:Int):=by omega
   have hJ0:(0:Int)≤(i:Int):=by omega
   obtain ⟨s,hs⟩:∃ s,ss[i]?=some s:=⟨ss[i],by simp [hlt]⟩
   have x0:wr.cell? ⟨q,i,none⟩=some (.string s):=by
    rw [cell_of_row _ _ i _ _ _ hq]
    simp [hs]
   have hsz:=HZ.out s (List.mem_of_getElem? hs)
   have HSI:=Z03 hs
   have HGS:=Z03 (HGN.out s (List.mem_of_getElem? hs))
   obtain ⟨v,t,tm,lost,hb,ho,h6⟩:=hC.wt.blk
   have HTX:Hid (WAt p wr t):=⟨rk,v,tm,lost,hb,ho⟩
   obtain ⟨pa,pc,rfl⟩:=Zbd ho
   obtain ⟨c0,c1,c2,c3,cf⟩:=Z7g hb
   have f1:=cf 1
   have f3:=cf 3
   have hpl:=Z00 hb
   have HO:=Z03 ho
   have HBK:=Z03 hb
   have hbase:p+1≤wr.heap.size:=hpl
   clear hgk hC hq hb ho cf hs
   by_cases hbig:(6000:Int)<(t.size:Int)+(s.size:Int)
   ·have e1:IntKind.i64.wrap ((t.size:Int)+(s.size:Int))=(t.size:Int)+(s.size:Int):=by rw [IntKind.wrap_i64];omega
    have HL:=Z03 (HCR.out.lose true)
    have HLA:=Z03 HCR.out.wt.lostAt
    have HOV:Hid (∀ t0,WAt p w t0→6000<(Zi6 t0 ss).size):=fun t0 h0=>by
     have h1:=Zr7 HSI.out t0
     rw [(HFO.out t0 h0).one HTX.out] at h1
     omega
    go_wp2_with fail
    refine bodyPost_ret (results_none rfl _ _ _) rfl ?_
    exact ⟨rfl,HL.out,fun t0 h0=>.inr ⟨HLA.out,HOV.out t0 h0⟩⟩
   ·have hss:t.size+s.size≤6000:=by omega
    have HA:Hid (∀ v' w',w'.ownsRow (p+1) 5 1 v' (t.size+s.size) (strCells t++strCells s)→wr.grownBy w' (Value.slice pa t.size pc).ownBlock→w'.heap[p]?=some (.cells #[rk,.slice pa t.size pc,.int .i64 tm,.bool lost] 77)∧WX P p rk w1 w (w'.setCell ⟨p,1,none⟩ v')∧(w'.setCell ⟨p,1,none⟩ v').heap[q]?=some (.cells (ss.map Value.string).toArray 9) ∧ ∀ t0,WAt p w t0→WAt p (w'.setCell ⟨p,1,none⟩ v') (Zi6 t0 (ss.take (i+1)))):=fun v' w' h1 h2=>by
     obtain ⟨k1,k2,k3⟩:=Zth HCR.out.wt.bl HBK.out HO.out hss h1 h2
     refine ⟨k1,⟨k2,(HCR.out.kept.grown h2 (fun g hg=>Zpq HO.out hg)).setCell _ rfl _,fun t0 h0=>by
      obtain ⟨d,hd,h3⟩:=HCR.out.grow t0 h0
      refine ⟨d++s,hd.app HGS.out,?_⟩
      rw [←ByteArray.append_assoc,h3.one HTX.out]
      exact k3⟩,(Z3k hqp).trans ((h2.block q (Z00 HQR.out) (fun e=>Zuq HO.out HQR.out (by decide) e.symm rfl)).trans HQR.out),fun t0 h0=>by
      rw [Zh5 HSI.out,(HFO.out t0 h0).one HTX.out]
      exact k3⟩
    go_wp2_with (first | (at_builtin;refine wpList_append_own_string _ rfl _ _ _ _ rfl (p+1) 5 i0 underlying75 underlying9 hi0 hz0 hz1 hz2 _ t.size (strCells t) rfl HO.out s rfl (by unfold maxLen;omega) (by omega) hbase ?_;intro v' w' hown' hgrow _;obtain ⟨pa2,pc2,hv2⟩:=Zbd hown';subst hv2;obtain ⟨hb2,hws,hq2,hfo2⟩:=HA.out _ w' hown' hgrow;obtain ⟨d0,d1,d2,d3,df⟩:=Z7g hb2;have df1:=df 1;have HW:=Z03 hws;have HQ2:=Z03 hq2;have HF2:=Z03 hfo2;clear hfo2 hown' hgrow hb2 hws hq2 df c0 c1 c2 c3 f1 f3))
    go_roundg (ss.length+1 - (i+1))
    case measure=>have:=HG.out;omega
    case rel=>exact ⟨i+1,rfl,by omega,by go_num,HW.out,HQ2.out,HF2.out⟩
  ·obtain rfl:i=ss.length:=by omega
   clear hgk hC hq
   go_wp2_with fail
   go_end0
   exact ⟨rfl,HCR.out,fun t0 h0=>.inl (by have h:=HFO.out t0 h0;rw [List.take_length] at h;exact h)⟩
theorem Z8d {p:Nat}{rk:Value}{w1 wa w:World} (C:WX P p rk w1 wa w) (ss:List ByteArray) (hn:ss.length≤1000) (hz:∀ s∈ss,s.size≤4611686018427387904) (hg:∀ s∈ss,GN P s) :
  Calls prog 49 #[.pointer (some ⟨p,0,none⟩),.slice (some ⟨w.heap.size,0,none⟩) ss.length ss.length] (w.alloc (.cells (ss.map Value.string).toArray 9)) fun ev w'=>ev = .returned (.tuple #[])∧WX P p rk w1 wa w':=
 (Zz6 w.heap.size ss hn hz hg _ (C.alloc _).wt (heap_alloc_new _ _) (by have:=C.wt.lt;omega)).mono fun _ _ h=>⟨h.1,(C.alloc _).trans h.2.1⟩
theorem Z58 {p:Nat}{rk:Value}{w1 wa w:World} (C:WX P p rk w1 wa w) (s:ByteArray) (hs:s.size≤4611686018427387904) (gs:GN P s) :
  Calls prog 49 #[.pointer (some ⟨p,0,none⟩),.slice (some ⟨w.heap.size,0,none⟩) 1 1] (w.alloc (.cells #[.string s] 9)) fun ev w'=>ev = .returned (.tuple #[])∧WX P p rk w1 wa w':=Z8d C [s] (by simp) (by simpa using hs) (by simpa using gs)
theorem Zzm {p:Nat}{rk:Value}{w1 wa w:World} (C:WX P p rk w1 wa w) (s t u:ByteArray) (hs:s.size≤4611686018427387904) (ht:t.size≤4611686018427387904) (hu:u.size≤4611686018427387904) (gs:GN P s) (gt:GN P t) (gu:GN P u) :
  Calls prog 49 #[.pointer (some ⟨p,0,none⟩),.slice (some ⟨w.heap.size,0,none⟩) 3 3] (w.alloc (.cells #[.string s,.string t,.string u] 9)) fun ev w'=>ev = .returned (.tuple #[])∧WX P p rk w1 wa w':=Z8d C [s,t,u] (by simp) (by simp;exact ⟨hs,ht,hu⟩) (by simp;exact ⟨gs,gt,gu⟩)
theorem Zig {p:Nat}{rk:Value}{w1 wa w:World} (C:WX False p rk w1 wa w) (s:ByteArray) (hs:s.size≤4611686018427387904) :
  Calls prog 49 #[.pointer (some ⟨p,0,none⟩),.slice (some ⟨w.heap.size,0,none⟩) 1 1] (w.alloc (.cells #[.string s] 9)) fun ev w'=>ev = .returned (.tuple #[])∧WX False p rk w1 wa w':=Z8d C [s] (by simp) (by simpa using hs) (fun _ _=>Zvg)
theorem put2 {p:Nat}{rk:Value}{w1 wa w:World} (C:WX False p rk w1 wa w) (s t:ByteArray) (hs:s.size≤4611686018427387904) (ht:t.size≤4611686018427387904) :
  Calls prog 49 #[.pointer (some ⟨p,0,none⟩),.slice (some ⟨w.heap.size,0,none⟩) 2 2] (w.alloc (.cells #[.string s,.string t] 9)) fun ev w'=>ev = .returned (.tuple #[])∧WX False p rk w1 wa w':=Z8d C [s,t] (by simp) (by simp;exact ⟨hs,ht⟩) (fun _ _=>Zvg)
theorem put3 {p:Nat}{rk:Value}{w1 wa w:World} (C:WX False p rk w1 wa w) (s t u:ByteArray) (hs:s.size≤4611686018427387904) (ht:t.size≤4611686018427387904) (hu:u.size≤4611686018427387904) :
  Calls prog 49 #[.pointer (some ⟨p,0,none⟩),.slice (some ⟨w.heap.size,0,none⟩) 3 3] (w.alloc (.cells #[.string s,.string t,.string u] 9)) fun ev w'=>ev = .returned (.tuple #[])∧WX False p rk w1 wa w':=Z8d C [s,t,u] (by simp) (by simp;exact ⟨hs,ht,hu⟩) (fun _ _=>Zvg)
set_option maxHeartbeats 4000000 in
set_option maxRecDepth 100000 in
theorem Za3 {p:Nat}{rk:Value}{w1:World} (K:FuncId) (cap:Array Value) (n:Nat) (hn:n≤4611686018427387904) (hcall:∀ (args:Array Value) (w:World),(callFunc K args).run prog w = .ok (.enter K args) w) (w:World) (C:WT p rk w1 w)
  (hK:∀ (i:Nat) (w':World),i<n→WX P p rk w1 w w'→Calls prog K (#[.int .i64 (i:Int)]++cap) w' fun ev w''=>ev = .returned (.tuple #[])∧WX P p rk w1 w' w'') :
  Calls prog 68 #[.pointer (some ⟨p,0,none⟩),.int .i64 (n:Int),.func (.func K) #[] cap] w fun ev w'=>ev = .returned (.tuple #[])∧WX P p rk w1 w w':=by
 have HC:=Z03 C
 have HK:=Z03 hK
 clear C hK
 go_enter func68,ntmps68
 go_wp2_with fail
 go_loopg [8] (n+1) (fun gk v8 wr => ∃ i:Nat,gk=n+1 - i∧i≤n∧v8 = .int .i64 (i:Int)∧WX P p rk w1 w wr)
 case atStart=>exact ⟨0,rfl,Nat.zero_le _,rfl,.start HC.out⟩
 case round =>
  obtain ⟨i,hgk,hi,rfl,hC⟩:=hrel
  have HG:=Z03 hgk
  have HCR:=Z03 hC
  by_cases hlt:i<n
  ·have hI:(i:Int)<(n:Int):=by omega
   obtain ⟨pa,m,pc,tm,lost,_,c0,c1,c2,c3,cf⟩:=hC.wt.cells
   clear hgk hC cf
   cases lost with
   | true =>
    go_wp2_with fail
    refine bodyPost_ret (results_none rfl _ _ _) rfl ?_
    exact ⟨rfl,HCR.out⟩
   | false =>
    by_cases h0:i=0
    ·subst h0
     clear c0 c1 c2
     go_wp2_with fail
     refine (HK.out 0 wr hlt HCR.out).mono ?_
     rintro ev w3 ⟨rfl,h3⟩
     have H3:=Z03 (HCR.out.trans h3)
     clear h3 c3
     go_wp2_with fail
     go_roundg (n+1 - (0+1))
     case measure=>have:=HG.out;omega
     case rel=>exact ⟨0+1,rfl,by omega,by go_num,H3.out⟩
    ·have hI0:(0:Int)<(i:Int):=by omega
     have hp0:0<i:=by omega
     clear c0 c1 c2
     go_wp2_with fail
     refine (Z58 HCR.out ⟨#[44,32]⟩ (by decide) (fun _=>by decide)).mono ?_
     rintro ev w2 ⟨rfl,h2⟩
     have H2:=Z03 h2
     clear h2 c3
     go_wp2_with fail
     refine (HK.out i w2 hlt H2.out).mono ?_
     rintro ev w3 ⟨rfl,h3⟩
     have H3:=Z03 (H2.out.trans h3)
     clear h3
     go_wp2_with fail
     go_roundg (n+1 - (i+1))
     case measure=>have:=HG.out;omega
     case rel=>exact ⟨i+1,rfl,by omega,by go_num,H3.out⟩
  ·obtain rfl:i=n:=by omega
   clear hgk hC
   go_wp2_with fail
   go_end0
   exact ⟨rfl,HCR.out⟩
end Go.Proofs.YtflcohidmemfpaaGreatDoor
namespace Go.Proofs.YtflcohidmemfpaaGreatDoor
open Go.Proofs.Tryz
open Go.RowKit Go.Lib
variable {P:Prop}

set_option maxHeartbeats 4000000 in
set_option maxRecDepth 100000 in
theorem Zvv {p:Nat}{rk:Value}{w1:World} (d:Nat) (hd:d≤9223372036854775807) (w:World) (C:WT p rk w1 w) :
  Calls prog 36 #[.pointer (some ⟨p,0,none⟩),.int .i64 (d:Int)] w fun ev w'=>ev = .returned (.tuple #[])∧WX P p rk w1 w w':=by
 have HC:=Z03 C
 clear C
 go_enter func36,ntmps36
 go_wp2_with fail
 go_loopg [5] (d+1) (fun gk v5 wr => ∃ i:Nat,gk=d+1 - i∧i≤d∧v5 = .int .i64 (i:Int)∧WX P p rk w1 w wr)
 case atStart=>exact ⟨0,rfl,Nat.zero_le _,rfl,.start HC.out⟩
 case round =>
  obtain ⟨i,hgk,hi,rfl,hC⟩:=hrel
  have HG:=Z03 hgk
  have HCR:=Z03 hC
  clear hgk hC
  by_cases hlt:i<d
  ·have hI:(i:Int)<(d:Int):=by omega
   go_wp2_with fail
   refine (Z58 HCR.out ⟨#[32,32,32,32]⟩ (by decide) (fun _=>by decide)).mono ?_
   rintro ev w2 ⟨rfl,h2⟩
   have H2:=Z03 h2
   clear h2
   go_wp2_with fail
   go_roundg (d+1 - (i+1))
   case measure=>have:=HG.out;omega
   case rel=>exact ⟨i+1,rfl,by omega,by go_num,H2.out⟩
  ·obtain rfl:i=d:=by omega
   go_wp2_with fail
   go_end0
   exact ⟨rfl,HCR.out⟩
abbrev I64 (z:Int):Prop:=-9223372036854775808≤z∧z≤9223372036854775807
theorem Zjr (z:Int):I64 (IntKind.i64.wrap z):=by
 rw [IntKind.wrap_i64]
 unfold I64
 omega
theorem Zpv {p:Nat} (z:Int) (hz:z<0) (w:World):Calls prog 36 #[.pointer (some ⟨p,0,none⟩),.int .i64 z] w fun ev w'=>ev = .returned (.tuple #[])∧w'=w:=by
 go_enter func36,ntmps36
 have h0:¬ 0<z:=by omega
 go_wp2_with fail
 refine wp_loop_rounds 1 ?_
 rw [rounds_succ]
 go_wp2
 go_end0
 exact ⟨rfl,rfl⟩
theorem Zd5 {p:Nat}{rk:Value}{w1:World} (z:Int) (hz:I64 z) (w:World) (C:WT p rk w1 w) :
  Calls prog 36 #[.pointer (some ⟨p,0,none⟩),.int .i64 z] w fun ev w'=>ev = .returned (.tuple #[])∧WX P p rk w1 w w':=by
 by_cases h:0≤z
 ·obtain ⟨d,rfl⟩:∃ d:Nat,z=(d:Int):=⟨z.toNat,by omega⟩
  exact Zvv d (by have:=hz.2;omega) w C
 ·refine (Zpv z (by omega) w).mono ?_
  rintro ev w2 ⟨rfl,rfl⟩
  exact ⟨rfl,.start C⟩
def Zcn (P:Prop) (w1:World) (p:Nat) (a:Option Addr) (n:Nat) (f:Nat→ByteArray):Prop:=∀ i,i<n → ∃ b o,a=some ⟨b,o,none⟩∧b<p∧w1.cell? ⟨b,o+i,none⟩=some (.string (f i))∧(f i).size≤4611686018427387904∧GN P (f i)
theorem Zis (args:Array Value) (w:World):(callFunc 69 args).run prog w = .ok (.enter 69 args) w:=by kernel_rfl
set_option maxHeartbeats 4000000 in
set_option maxRecDepth 100000 in
theorem Zou {p:Nat}{rk:Value}{w1:World} (a:Option Addr) (n c:Nat) (f:Nat→ByteArray) (h:Zcn P w1 p a n f) (b1 b2:Nat) (n1:b1≠p) (n2:b2≠p) (i:Nat) (hi:i<n) (w:World) (C:WT p rk w1 w) (x1:w.heap[b1]?=some (.cells #[.pointer (some ⟨p,0,none⟩)] 95)) (x2:w.heap[b2]?=some (.cells #[.slice a n c] 32)) :
  Calls prog 69 #[.int .i64 (i:Int),.pointer (some ⟨b1,0,none⟩),.pointer (some ⟨b2,0,none⟩)] w fun ev w'=>ev = .returned (.tuple #[])∧WX P p rk w1 w w':=by
 obtain ⟨b,o,rfl,hb,hc,hz⟩:=h i hi
 have c1:=Z0c x1 rfl
 have c2:=Z0c x2 rfl
 have c3:=C.old (a:=⟨b,o+i,none⟩) hb hc
 have hI:(i:Int)<(n:Int):=by omega
 have hI0:(0:Int)≤(i:Int):=by omega
 have hC:=WX.start (P:=P) C
 have HK:Hid (∀ w',WX P p rk w1 w w'→w'.cell? ⟨b1,0,none⟩=some (.pointer (some ⟨p,0,none⟩))∧w'.cell? ⟨b2,0,none⟩=some (.slice (some ⟨b,o,none⟩) n c)∧w'.cell? ⟨b,o+i,none⟩=some (.string (f i))):=fun w' h=>⟨Z0c (h.block x1 n1 (by decide)) rfl,Z0c (h.block x2 n2 (by decide)) rfl,h.wt.old (a:=⟨b,o+i,none⟩) hb hc⟩
 clear x1 x2 hc h C
 go_enter func69,ntmps69
 go_wp2_with fail
 go_region_held3 (fun w'=>w'.cell? ⟨b1,0,none⟩=some (.pointer (some ⟨p,0,none⟩))∧w'.cell? ⟨b2,0,none⟩=some (.slice (some ⟨b,o,none⟩) n c)∧w'.cell? ⟨b,o+i,none⟩=some (.string (f i))) (first | with_reducible exact HK.out _ hC | with_reducible exact HK.out _ hC.drew | exact HK.out _ (hC.drew.alloc _)) ((go_at_call 49;refine (Z58 hC.drew _ hz.1 hz.2).mono ?_;rintro ev wx ⟨rfl,hx⟩;replace hC:=hx;clear hx))
 go_wp2_with fail
 go_end0
 exact ⟨rfl,hC⟩
set_option maxHeartbeats 4000000 in
set_option maxRecDepth 100000 in
theorem Zax {p:Nat}{rk:Value}{w1:World} (a:Option Addr) (n c:Nat) (f:Nat→ByteArray) (h:Zcn P w1 p a n f) (hn:n≤4611686018427387904) (w:World) (C:WT p rk w1 w) :
  Calls prog 54 #[.pointer (some ⟨p,0,none⟩),.slice a n c] w fun ev w'=>ev = .returned (.tuple #[])∧WX P p rk w1 w w':=by
 obtain ⟨w2,hw2⟩:∃ w2,w2=(w.alloc (.cells #[.pointer (some ⟨p,0,none⟩)] 95)).alloc (.cells #[.slice a n c] 32):=⟨_,rfl⟩
 have hC2:WX P p rk w1 w w2:=by rw [hw2];exact ((WX.start C).alloc _).alloc _
 have hs:(w.alloc (.cells #[.pointer (some ⟨p,0,none⟩)] 95)).heap.size=w.heap.size+1:=by simp
 have k1:w2.heap[w.heap.size]?=some (.cells #[.pointer (some ⟨p,0,none⟩)] 95):=by
  rw [hw2]
  exact (Below.heap_alloc _ _ _ (by omega)).trans (heap_alloc_new w _)
 have k2:w2.heap[w.heap.size+1]?=some (.cells #[.slice a n c] 32):=by
  have:=heap_alloc_new (w.alloc (.cells #[.pointer (some ⟨p,0,none⟩)] 95)) (.cells #[.slice a n c] 32)
  rw [hs] at this
  rw [hw2]
  exact this
 have hp:=C.lt
 have HV:=Z03 (Za3 69 #[.pointer (some ⟨w.heap.size,0,none⟩),.pointer (some ⟨w.heap.size+1,0,none⟩)] n hn Zis w2 hC2.wt (fun i w' hi hx=>Zou a n c f h w.heap.size (w.heap.size+1) (by omega) (by omega) i hi w' hx.wt (hx.block k1 (by omega) (by decide)) (hx.block k2 (by omega) (by decide))))
 have HC2:=Z03 hC2
 have HW2:=Z03 hw2
 have hmf:∀ (fn:Fn) (first cap:Array Value) (w:World),(Instr.makeFunc fn first cap).run prog w = .ok (.func fn first cap) w:=fun _ _ _ _=>rfl
 clear hC2 hw2 k1 k2 hs C h
 go_enter func54,ntmps54
 go_wp2_with fail
 rw [←HW2.out]
 refine HV.out.mono ?_
 rintro ev w3 ⟨rfl,h3⟩
 have H3:=Z03 (HC2.out.trans h3)
 clear h3
 go_wp2_with fail
 go_end0
 exact ⟨rfl,H3.out⟩
def RKL (p:Nat) (rk:Value) (w1:World):Prop:=∃ rb c,rk = .slice (some ⟨rb,0,none⟩) 8 c∧rb<p ∧ ∀ i,i<8 → ∃ b c',w1.cell? ⟨rb,i,none⟩=some (.slice (some ⟨b,0,none⟩) (Z0y i).length c')∧b<p∧TS w1 b 0 (Z0y i)
def Zh6 (s:ByteArray):Nat→Nat→Nat
 | 0,_=>8
 | f+1,i=>bif Zin (Z0y i) s then i else Zh6 s f (i+1)
def Zid (s:ByteArray):Nat:=Zh6 s 8 0
theorem Zkm (s:ByteArray):∀ f i,i+f≤8→Zh6 s f i≤8
 | 0,_,_=>Nat.le_refl _
 | f+1,i,h=>by
  unfold Zh6
  cases Zin (Z0y i) s
  ·exact Zkm s f (i+1) (by omega)
  ·show i≤8
   omega
set_option maxHeartbeats 4000000 in
set_option maxRecDepth 100000 in
theorem Zmv {p:Nat}{rk:Value}{w1:World} (s:ByteArray) (w:World) (C:WT p rk w1 w) (R:RKL p rk w1) :
  Calls prog 97 #[.pointer (some ⟨p,0,none⟩),.string s] w fun ev w'=>ev = .returned (.int .i64 (Zid s:Nat))∧w'=w:=by
 obtain ⟨rb,c,rfl,hrb,hr⟩:=R
 obtain ⟨pa,m,pc,tm,lost,_,c0,_,_,_,_⟩:=C.cells
 have HC:=Z03 C
 have HR:=Z03 hr
 clear C hr
 go_enter func97,ntmps97
 go_wp2_with fail
 go_loopg [12] 9 (fun gk v12 wr => ∃ i:Nat,gk=9 - i∧i≤8∧v12 = .int .i64 (i:Int)∧Zid s=Zh6 s (8 - i) i∧wr=w)
 case atStart=>exact ⟨0,rfl,Nat.zero_le _,rfl,rfl,rfl⟩
 case round =>
  obtain ⟨i,hgk,hi,rfl,hrn,rfl⟩:=hrel
  have HG:=Z03 hgk
  have HN:=Z03 hrn
  clear hgk hrn
  by_cases hlt:i<8
  ·have hI:(i:Int)<8:=by omega
   have hI0:(0:Int)≤(i:Int):=by omega
   obtain ⟨b,c',x0,hb,ht⟩:=HR.out i hlt
   have x1:=HC.out.old (a:=⟨rb,i,none⟩) hrb x0
   have HT:Hid (TS wr b 0 (Z0y i)):=fun j t hj=>HC.out.old (a:=⟨b,0+j,none⟩) hb (ht j t hj)
   have hlen:(Z0y i).length≤100:=by
    obtain rfl | rfl | rfl | rfl | rfl | rfl | rfl | rfl:i=0∨i=1∨i=2∨i=3∨i=4∨i=5∨i=6∨i=7:=by omega
    all_goals decide
   have HNX:Hid (Zh6 s (8 - i) i=bif Zin (Z0y i) s then i else Zh6 s (8 - (i+1)) (i+1)):=by
    obtain ⟨f,hf⟩:∃ f,8 - i=f+1:=⟨8 - i - 1,by omega⟩
    have e:8 - (i+1)=f:=by omega
    show _=_
    rw [hf,e]
    rfl
   clear x0 ht
   go_wp2_with fail
   refine (Z7b (Z0y i) s b 0 c' hlen wr HT.out).mono ?_
   rintro ev w2 ⟨rfl,rfl⟩
   cases hh:Zin (Z0y i) s with
   | true =>
    have HE:Hid (Zid s=i):=by show _=_;rw [HN.out,HNX.out,hh];rfl
    go_wp2_with fail
    go_ret
    exact ⟨by rw [HE.out];rfl,rfl⟩
   | false =>
    have HE:Hid (Zid s=Zh6 s (8 - (i+1)) (i+1)):=by show _=_;rw [HN.out,HNX.out,hh];rfl
    go_wp2_with fail
    go_roundg (9 - (i+1))
    case measure=>have:=HG.out;omega
    case rel=>exact ⟨i+1,rfl,by omega,by go_num,HE.out,rfl⟩
  ·obtain rfl:i=8:=by omega
   go_wp2_with fail
   go_ret
   exact ⟨by rw [HN.out];rfl,rfl⟩
end Go.Proofs.YtflcohidmemfpaaGreatDoor
namespace Go.Proofs.YtflcohidmemfpaaGreatDoor
open Go.Proofs.Tryz
open Go.RowKit

theorem Z0x {s:ByteArray}{l:List UInt8} (h:s.toList=l):s=⟨l.toArray⟩:=by
 apply ByteArray.ext
 rw [←h,ByteArray.toList_eq]
def partsL:List (List UInt8 × Nat):=[([105,110,116],0),([115,116,114],0),([78,111,110,101],0),([84,114,117,101],0),([70,97,108,115,101],0),([110,97,109,101],0),([108,105,115,116],0),([100,105,99,116],0),([110,101,103],1),([110,111,116],1),([99,97,108,108],1),([108,97,109,98,100,97],1)]
def Z1i (s:ByteArray):Nat:=((partsL.find? fun x=>s.toList == x.1).map (·.2)).getD 2
theorem Zx4 (w:World):Calls prog 96 #[.string ⟨#[105,110,116]⟩] w fun ev w'=>ev = .returned (.int .i64 (Z1i ⟨#[105,110,116]⟩:Nat))∧w'=w:=by
 have e:Z1i ⟨#[105,110,116]⟩=0:=by kernel_rfl
 rw [e]
 go_enter func96,ntmps96
 go_wp2
 go_ret
 exact ⟨rfl,rfl⟩
theorem Zxk (w:World):Calls prog 96 #[.string ⟨#[115,116,114]⟩] w fun ev w'=>ev = .returned (.int .i64 (Z1i ⟨#[115,116,114]⟩:Nat))∧w'=w:=by
 have e:Z1i ⟨#[115,116,114]⟩=0:=by kernel_rfl
 rw [e]
 go_enter func96,ntmps96
 go_wp2
 go_ret
 exact ⟨rfl,rfl⟩
theorem Zx8 (w:World):Calls prog 96 #[.string ⟨#[78,111,110,101]⟩] w fun ev w'=>ev = .returned (.int .i64 (Z1i ⟨#[78,111,110,101]⟩:Nat))∧w'=w:=by
 have e:Z1i ⟨#[78,111,110,101]⟩=0:=by kernel_rfl
 rw [e]
 go_enter func96,ntmps96
 go_wp2
 go_ret
 exact ⟨rfl,rfl⟩
theorem Zx6 (w:World):Calls prog 96 #[.string ⟨#[84,114,117,101]⟩] w fun ev w'=>ev = .returned (.int .i64 (Z1i ⟨#[84,114,117,101]⟩:Nat))∧w'=w:=by
 have e:Z1i ⟨#[84,114,117,101]⟩=0:=by kernel_rfl
 rw [e]
 go_enter func96,ntmps96
 go_wp2
 go_ret
 exact ⟨rfl,rfl⟩
theorem Zwo (w:World):Calls prog 96 #[.string ⟨#[70,97,108,115,101]⟩] w fun ev w'=>ev = .returned (.int .i64 (Z1i ⟨#[70,97,108,115,101]⟩:Nat))∧w'=w:=by
 have e:Z1i ⟨#[70,97,108,115,101]⟩=0:=by kernel_rfl
 rw [e]
 go_enter func96,ntmps96
 go_wp2
 go_ret
 exact ⟨rfl,rfl⟩
theorem Zys (w:World):Calls prog 96 #[.string ⟨#[110,97,109,101]⟩] w fun ev w'=>ev = .returned (.int .i64 (Z1i ⟨#[110,97,109,101]⟩:Nat))∧w'=w:=by
 have e:Z1i ⟨#[110,97,109,101]⟩=0:=by kernel_rfl
 rw [e]
 go_enter func96,ntmps96
 go_wp2
 go_ret
 exact ⟨rfl,rfl⟩
theorem Zy2 (w:World):Calls prog 96 #[.string ⟨#[108,105,115,116]⟩] w fun ev w'=>ev = .returned (.int .i64 (Z1i ⟨#[108,105,115,116]⟩:Nat))∧w'=w:=by
 have e:Z1i ⟨#[108,105,115,116]⟩=0:=by kernel_rfl
 rw [e]
 go_enter func96,ntmps96
 go_wp2
 go_ret
 exact ⟨rfl,rfl⟩
theorem Zws (w:World):Calls prog 96 #[.string ⟨#[100,105,99,116]⟩] w fun ev w'=>ev = .returned (.int .i64 (Z1i ⟨#[100,105,99,116]⟩:Nat))∧w'=w:=by
 have e:Z1i ⟨#[100,105,99,116]⟩=0:=by kernel_rfl
 rw [e]
 go_enter func96,ntmps96
 go_wp2
 go_ret
 exact ⟨rfl,rfl⟩
theorem Zyg (w:World):Calls prog 96 #[.string ⟨#[110,101,103]⟩] w fun ev w'=>ev = .returned (.int .i64 (Z1i ⟨#[110,101,103]⟩:Nat))∧w'=w:=by
 have e:Z1i ⟨#[110,101,103]⟩=1:=by kernel_rfl
 rw [e]
 go_enter func96,ntmps96
 go_wp2
 go_ret
 exact ⟨rfl,rfl⟩
theorem Zye (w:World):Calls prog 96 #[.string ⟨#[110,111,116]⟩] w fun ev w'=>ev = .returned (.int .i64 (Z1i ⟨#[110,111,116]⟩:Nat))∧w'=w:=by
 have e:Z1i ⟨#[110,111,116]⟩=1:=by kernel_rfl
 rw [e]
 go_enter func96,ntmps96
 go_wp2
 go_ret
 exact ⟨rfl,rfl⟩
theorem Zv2 (w:World):Calls prog 96 #[.string ⟨#[99,97,108,108]⟩] w fun ev w'=>ev = .returned (.int .i64 (Z1i ⟨#[99,97,108,108]⟩:Nat))∧w'=w:=by
 have e:Z1i ⟨#[99,97,108,108]⟩=1:=by kernel_rfl
 rw [e]
 go_enter func96,ntmps96
 go_wp2
 go_ret
 exact ⟨rfl,rfl⟩
theorem Ztf (w:World):Calls prog 96 #[.string ⟨#[108,97,109,98,100,97]⟩] w fun ev w'=>ev = .returned (.int .i64 (Z1i ⟨#[108,97,109,98,100,97]⟩:Nat))∧w'=w:=by
 have e:Z1i ⟨#[108,97,109,98,100,97]⟩=1:=by kernel_rfl
 rw [e]
 go_enter func96,ntmps96
 go_wp2
 go_ret
 exact ⟨rfl,rfl⟩
theorem Zk6 (s:ByteArray) (w:World) (n0:(s.toList == [105,110,116])=false) (n1:(s.toList == [115,116,114])=false) (n2:(s.toList == [78,111,110,101])=false) (n3:(s.toList == [84,114,117,101])=false) (n4:(s.toList == [70,97,108,115,101])=false) (n5:(s.toList == [110,97,109,101])=false) (n6:(s.toList == [108,105,115,116])=false) (n7:(s.toList == [100,105,99,116])=false) (n8:(s.toList == [110,101,103])=false) (n9:(s.toList == [110,111,116])=false) (n10:(s.toList == [99,97,108,108])=false) (n11:(s.toList == [108,97,109,98,100,97])=false):Calls prog 96 #[.string s] w fun ev w'=>ev = .returned (.int .i64 (Z1i s:Nat))∧w'=w:=by
 have e:Z1i s=2:=by simp [Z1i,partsL,List.find?,n0,n1,n2,n3,n4,n5,n6,n7,n8,n9,n10,n11]
 rw [e]
 go_enter func96,ntmps96
 go_wp2
 go_ret
 exact ⟨rfl,rfl⟩
theorem Zbz (s:ByteArray) (w:World):Calls prog 96 #[.string s] w fun ev w'=>ev = .returned (.int .i64 (Z1i s:Nat))∧w'=w:=by
 by_cases n0:(s.toList == [105,110,116])=true
 ·rw [Z0x (beq_iff_eq.1 n0)]
  exact Zx4 w
 rw [Bool.not_eq_true] at n0
 by_cases n1:(s.toList == [115,116,114])=true
 ·rw [Z0x (beq_iff_eq.1 n1)]
  exact Zxk w
 rw [Bool.not_eq_true] at n1
 by_cases n2:(s.toList == [78,111,110,101])=true
 ·rw [Z0x (beq_iff_eq.1 n2)]
  exact Zx8 w
 rw [Bool.not_eq_true] at n2
 by_cases n3:(s.toList == [84,114,117,101])=true
 ·rw [Z0x (beq_iff_eq.1 n3)]
  exact Zx6 w
 rw [Bool.not_eq_true] at n3
 by_cases n4:(s.toList == [70,97,108,115,101])=true
 ·rw [Z0x (beq_iff_eq.1 n4)]
  exact Zwo w
 rw [Bool.not_eq_true] at n4
 by_cases n5:(s.toList == [110,97,109,101])=true
 ·rw [Z0x (beq_iff_eq.1 n5)]
  exact Zys w
 rw [Bool.not_eq_true] at n5
 by_cases n6:(s.toList == [108,105,115,116])=true
 ·rw [Z0x (beq_iff_eq.1 n6)]
  exact Zy2 w
 rw [Bool.not_eq_true] at n6
 by_cases n7:(s.toList == [100,105,99,116])=true
 ·rw [Z0x (beq_iff_eq.1 n7)]
  exact Zws w
 rw [Bool.not_eq_true] at n7
 by_cases n8:(s.toList == [110,101,103])=true
 ·rw [Z0x (beq_iff_eq.1 n8)]
  exact Zyg w
 rw [Bool.not_eq_true] at n8
 by_cases n9:(s.toList == [110,111,116])=true
 ·rw [Z0x (beq_iff_eq.1 n9)]
  exact Zye w
 rw [Bool.not_eq_true] at n9
 by_cases n10:(s.toList == [99,97,108,108])=true
 ·rw [Z0x (beq_iff_eq.1 n10)]
  exact Zv2 w
 rw [Bool.not_eq_true] at n10
 by_cases n11:(s.toList == [108,97,109,98,100,97])=true
 ·rw [Z0x (beq_iff_eq.1 n11)]
  exact Ztf w
 rw [Bool.not_eq_true] at n11
 exact Zk6 s w n0 n1 n2 n3 n4 n5 n6 n7 n8 n9 n10 n11
def termsL:List (List UInt8 × Nat):=[([101,120,112,114],1),([115,101,116],1),([105,102],1),([119,104,105,108,101],1),([102,111,114],1),([114,97,105,115,101],1),([100,101,108],2),([112,117,116],3)]
def Z1b (s:ByteArray):Nat:=((termsL.find? fun x=>s.toList == x.1).map (·.2)).getD 0
theorem Zp4 (w:World):Calls prog 50 #[.string ⟨#[101,120,112,114]⟩] w fun ev w'=>ev = .returned (.int .i64 (Z1b ⟨#[101,120,112,114]⟩:Nat))∧w'=w:=by
 have e:Z1b ⟨#[101,120,112,114]⟩=1:=by kernel_rfl
 rw [e]
 go_enter func50,ntmps50
 go_wp2
 go_ret
 exact ⟨rfl,rfl⟩
theorem Zpp (w:World):Calls prog 50 #[.string ⟨#[115,101,116]⟩] w fun ev w'=>ev = .returned (.int .i64 (Z1b ⟨#[115,101,116]⟩:Nat))∧w'=w:=by
 have e:Z1b ⟨#[115,101,116]⟩=1:=by kernel_rfl
 rw [e]
 go_enter func50,ntmps50
 go_wp2
 go_ret
 exact ⟨rfl,rfl⟩
theorem Zs3 (w:World):Calls prog 50 #[.string ⟨#[105,102]⟩] w fun ev w'=>ev = .returned (.int .i64 (Z1b ⟨#[105,102]⟩:Nat))∧w'=w:=by
 have e:Z1b ⟨#[105,102]⟩=1:=by kernel_rfl
 rw [e]
 go_enter func50,ntmps50
 go_wp2
 go_ret
 exact ⟨rfl,rfl⟩
theorem Zq3 (w:World):Calls prog 50 #[.string ⟨#[119,104,105,108,101]⟩] w fun ev w'=>ev = .returned (.int .i64 (Z1b ⟨#[119,104,105,108,101]⟩:Nat))∧w'=w:=by
 have e:Z1b ⟨#[119,104,105,108,101]⟩=1:=by kernel_rfl
 rw [e]
 go_enter func50,ntmps50
 go_wp2
 go_ret
 exact ⟨rfl,rfl⟩
theorem Zrq (w:World):Calls prog 50 #[.string ⟨#[102,111,114]⟩] w fun ev w'=>ev = .returned (.int .i64 (Z1b ⟨#[102,111,114]⟩:Nat))∧w'=w:=by
 have e:Z1b ⟨#[102,111,114]⟩=1:=by kernel_rfl
 rw [e]
 go_enter func50,ntmps50
 go_wp2
 go_ret
 exact ⟨rfl,rfl⟩
theorem Zoo (w:World):Calls prog 50 #[.string ⟨#[114,97,105,115,101]⟩] w fun ev w'=>ev = .returned (.int .i64 (Z1b ⟨#[114,97,105,115,101]⟩:Nat))∧w'=w:=by
 have e:Z1b ⟨#[114,97,105,115,101]⟩=1:=by kernel_rfl
 rw [e]
 go_enter func50,ntmps50
 go_wp2
 go_ret
 exact ⟨rfl,rfl⟩
theorem Zol (w:World):Calls prog 50 #[.string ⟨#[100,101,108]⟩] w fun ev w'=>ev = .returned (.int .i64 (Z1b ⟨#[100,101,108]⟩:Nat))∧w'=w:=by
 have e:Z1b ⟨#[100,101,108]⟩=2:=by kernel_rfl
 rw [e]
 go_enter func50,ntmps50
 go_wp2
 go_ret
 exact ⟨rfl,rfl⟩
theorem Zok (w:World):Calls prog 50 #[.string ⟨#[112,117,116]⟩] w fun ev w'=>ev = .returned (.int .i64 (Z1b ⟨#[112,117,116]⟩:Nat))∧w'=w:=by
 have e:Z1b ⟨#[112,117,116]⟩=3:=by kernel_rfl
 rw [e]
 go_enter func50,ntmps50
 go_wp2
 go_ret
 exact ⟨rfl,rfl⟩
theorem Zfh (s:ByteArray) (w:World) (n0:(s.toList == [101,120,112,114])=false) (n1:(s.toList == [115,101,116])=false) (n2:(s.toList == [105,102])=false) (n3:(s.toList == [119,104,105,108,101])=false) (n4:(s.toList == [102,111,114])=false) (n5:(s.toList == [114,97,105,115,101])=false) (n6:(s.toList == [100,101,108])=false) (n7:(s.toList == [112,117,116])=false):Calls prog 50 #[.string s] w fun ev w'=>ev = .returned (.int .i64 (Z1b s:Nat))∧w'=w:=by
 have e:Z1b s=0:=by simp [Z1b,termsL,List.find?,n0,n1,n2,n3,n4,n5,n6,n7]
 rw [e]
 go_enter func50,ntmps50
 go_wp2
 go_ret
 exact ⟨rfl,rfl⟩
theorem Z2c (s:ByteArray) (w:World):Calls prog 50 #[.string s] w fun ev w'=>ev = .returned (.int .i64 (Z1b s:Nat))∧w'=w:=by
 by_cases n0:(s.toList == [101,120,112,114])=true
 ·rw [Z0x (beq_iff_eq.1 n0)]
  exact Zp4 w
 rw [Bool.not_eq_true] at n0
 by_cases n1:(s.toList == [115,101,116])=true
 ·rw [Z0x (beq_iff_eq.1 n1)]
  exact Zpp w
 rw [Bool.not_eq_true] at n1
 by_cases n2:(s.toList == [105,102])=true
 ·rw [Z0x (beq_iff_eq.1 n2)]
  exact Zs3 w
 rw [Bool.not_eq_true] at n2
 by_cases n3:(s.toList == [119,104,105,108,101])=true
 ·rw [Z0x (beq_iff_eq.1 n3)]
  exact Zq3 w
 rw [Bool.not_eq_true] at n3
 by_cases n4:(s.toList == [102,111,114])=true
 ·rw [Z0x (beq_iff_eq.1 n4)]
  exact Zrq w
 rw [Bool.not_eq_true] at n4
 by_cases n5:(s.toList == [114,97,105,115,101])=true
 ·rw [Z0x (beq_iff_eq.1 n5)]
  exact Zoo w
 rw [Bool.not_eq_true] at n5
 by_cases n6:(s.toList == [100,101,108])=true
 ·rw [Z0x (beq_iff_eq.1 n6)]
  exact Zol w
 rw [Bool.not_eq_true] at n6
 by_cases n7:(s.toList == [112,117,116])=true
 ·rw [Z0x (beq_iff_eq.1 n7)]
  exact Zok w
 rw [Bool.not_eq_true] at n7
 exact Zfh s w n0 n1 n2 n3 n4 n5 n6 n7
end Go.Proofs.YtflcohidmemfpaaGreatDoor
