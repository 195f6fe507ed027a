/- Rows of one's own; Own of the document's memory, by a walk. -/
import Derived.Test.YtlkcbdinlfeoiaaGreatDoorKnAA
import Derived.Deep.RegionLawGrows
import Derived.Deep.CutRange
import Derived.Laws.AppendOwnNone
namespace Go.Proofs.YtlkcbdinlfeoiaaGreatDoor
open Go.Proofs.Tryz Go.RowKit
set_option maxHeartbeats 8000000
set_option maxRecDepth 100000
theorem Z00 {p:Prop} (h:p):Hid p:=h
theorem Z0a (w:World) (b k o:Nat) (v:Value) (h:k≠b):(w.setCell ⟨b,o,none⟩ v).heap[k]?=w.heap[k]?:=by
 simp only [World.setCell,U3c]
 rw [U08 (fun e=>h e.symm)]
theorem Z06 {w:World}{b t o:Nat}{cs:Array Value}{fr:Nat × Nat}{v:Value} (h:w.heap[b]?=some (.cells cs t fr)):(w.setCell ⟨b,o,none⟩ v).heap[b]?=some (.cells (cs.setIfInBounds o v) t fr):=by
 simp [World.setCell,U3c,h]
theorem Z04 {w w':World}{base e size n:Nat}{v:Value}{xs:List Value} (h:w.ownsRow base e size v n xs) (hf:∀ k,v.ownBlock=some k->w'.heap[k]?=w.heap[k]?):w'.ownsRow base e size v n xs:=by
 obtain ⟨h1,h2⟩:=h
 refine ⟨h1,?_⟩
 rcases h2 with h2 | ⟨g,cap,cur,e1,hb,hg,r⟩
 ·exact .inl h2
 ·exact .inr ⟨g,cap,cur,e1,hb,by rw [hf g (by rw [e1];rfl)];exact hg,r⟩
theorem Z08 {w:World}{base e size n:Nat}{v:Value}{xs:List Value} (h:w.ownsRow base e size v n xs):∀ k,v.ownBlock=some k->base<=k/\k<w.heap.size:=by
 intro k hk
 rcases h.2 with ⟨rfl,_⟩ | ⟨g,cap,cur,rfl,hb,hg,_⟩
 ·cases hk
 ·cases hk
  exact ⟨hb,Z01 hg⟩
theorem Z2w {w:World}{base e size n:Nat}{v:Value}{xs:List Value} (h:w.ownsRow base e size v n xs):∃ ao cap,v = .slice ao n cap:=by
 rcases h.2 with ⟨rfl,h0⟩ | ⟨g,cap,cur,rfl,_⟩
 ·exact ⟨none,0,by rw [h0]⟩
 ·exact ⟨_,_,rfl⟩
def Zrn (w:World) (lo hi:Nat) (e size:Nat) (v:Value) (n:Nat) (xs:List Value):Prop:=w.ownsRow lo e size v n xs /\ ∀ g,v.ownBlock=some g->g<hi
def Rows (w:World):Nat->List (Nat × Nat × Value × Nat × List Value)->Prop
 | lo,[]=>lo<=w.heap.size
 | lo,(e,size,v,n,xs)::l => ∃ hi,lo<=hi/\Zrn w lo hi e size v n xs/\Rows w hi l
theorem Rows.le {w:World} : ∀ {l:List (Nat × Nat × Value × Nat × List Value)}{lo:Nat},Rows w lo l->lo<=w.heap.size
 | [],_,h=>h
 | _::_,_,⟨_,h1,_,h2⟩=>U0n h1 h2.le
theorem Rows.keep {w w':World} (hs:w.heap.size<=w'.heap.size):∀ {l:List (Nat × Nat × Value × Nat × List Value)}{lo:Nat},Rows w lo l->(∀ g,lo<=g->g<w.heap.size->w'.heap[g]?=w.heap[g]?)->Rows w' lo l
 | [],_,h,_=>U0n h hs
 | _::_,_,⟨hi,h1,⟨h2,h3⟩,h4⟩,hf=>⟨hi,h1,⟨Z04 h2 (fun k hk=>hf k (Z08 h2 k hk).1 (Z08 h2 k hk).2),h3⟩,h4.keep hs (fun g hg hl=>hf g (U0n h1 hg) hl)⟩
theorem Rows.snoc {w w':World} (hs:w.heap.size<=w'.heap.size) {e size n:Nat}{v:Value}{xs:List Value} (ho:w'.ownsRow w.heap.size e size v n xs):∀ {l:List (Nat × Nat × Value × Nat × List Value)}{lo:Nat},Rows w lo l->(∀ g,lo<=g->g<w.heap.size->w'.heap[g]?=w.heap[g]?)->Rows w' lo (l ++ [(e,size,v,n,xs)])
 | [],_,h,_=>⟨w'.heap.size,U0n h hs,⟨⟨ho.1,ho.2.imp id fun ⟨g,cap,cur,a,b,r⟩=>⟨g,cap,cur,a,U0n h b,r⟩⟩,fun g hg=>(Z08 ho g hg).2⟩,U02 _⟩
 | _::_,_,⟨hi,h1,⟨h2,h3⟩,h4⟩,hf=>⟨hi,h1,⟨Z04 h2 (fun k hk=>hf k (Z08 h2 k hk).1 (Z08 h2 k hk).2),h3⟩,h4.snoc hs ho (fun g hg hl=>hf g (U0n h1 hg) hl)⟩
abbrev OB (T:TypeId) (bx:Nat) (h ol c:Int) (v3:Value) (u t ot:Int) (v7 v8 v9 v10:Value) (w:World):Prop:=w.heap[bx]?=some (.cells #[.int .i64 h,.int .i64 ol,.int .i64 c,v3,.int .i64 u,.int .i64 t,.int .i64 ot,v7,v8,v9,v10] T)
theorem OB.mem {T:TypeId}{bx:Nat}{h ol c:Int}{v3:Value}{u t ot:Int}{v7 v8 v9 v10:Value}{w:World} (H:OB T bx h ol c v3 u t ot v7 v8 v9 v10 w):MemAt bx h ol c v3 u t ot v7 v8 v9 v10 w /\ ∀ o,w.frozen? ⟨bx,o,none⟩=false:=by
 refine ⟨⟨?_,?_,?_,?_,?_,?_,?_,?_,?_,?_,?_⟩,fun o=>by simp [World.frozen?,H]⟩ <;> (rw [U06 w bx _ _ _ _ H];rfl)
def Zqp (T:TypeId) (w0:World) (bx:Nat) (h ol c:Int) (v3:Value) (u t ot:Int) (v7 v8 v9 v10:Value) (l:List (Nat × Nat × Value × Nat × List Value)) (w:World):Prop:=
 Below w0.heap.size w0 w/\w0.heap.size<=bx/\OB T bx h ol c v3 u t ot v7 v8 v9 v10 w/\Rows w (bx+1) l
theorem Zm1 {w w':World} (hh:w'.heap=w.heap):∀ {l:List (Nat × Nat × Value × Nat × List Value)}{lo:Nat},Rows w lo l->Rows w' lo l:=fun h=>h.keep (by rw [hh];exact U02 _) (fun g _ _=>by rw [hh])
theorem Zqp.drew {T:TypeId}{w0:World}{bx:Nat}{h ol c:Int}{v3:Value}{u t ot:Int}{v7 v8 v9 v10:Value}{l:List (Nat × Nat × Value × Nat × List Value)}{w:World} (H:Zqp T w0 bx h ol c v3 u t ot v7 v8 v9 v10 l w):Zqp T w0 bx h ol c v3 u t ot v7 v8 v9 v10 l w.drew:=
 ⟨H.1.drew,H.2.1,H.2.2.1,Zm1 (w:=w) (w':=w.drew) rfl H.2.2.2⟩
structure MemO (p o:Nat) (half old card:Int) (W:Value) (used top oldTop:Int) (roots weak ids cards:Value) (w:World):Prop where
 c0:w.cell? ⟨p,o,none⟩=some (.int .i64 half)
 c1:w.cell? ⟨p,o+1,none⟩=some (.int .i64 old)
 c2:w.cell? ⟨p,o+2,none⟩=some (.int .i64 card)
 c3:w.cell? ⟨p,o+3,none⟩=some W
 c4:w.cell? ⟨p,o+4,none⟩=some (.int .i64 used)
 c5:w.cell? ⟨p,o+5,none⟩=some (.int .i64 top)
 c6:w.cell? ⟨p,o+6,none⟩=some (.int .i64 oldTop)
 c7:w.cell? ⟨p,o+7,none⟩=some roots
 c8:w.cell? ⟨p,o+8,none⟩=some weak
 c9:w.cell? ⟨p,o+9,none⟩=some ids
 c10:w.cell? ⟨p,o+10,none⟩=some cards
theorem MemO.below {p o B:Nat}{half old card:Int}{W:Value}{used top oldTop:Int}{roots weak ids cards:Value}{w w':World} (M:MemO p o half old card W used top oldTop roots weak ids cards w) (hb:Below B w w') (hp:p<B):MemO p o half old card W used top oldTop roots weak ids cards w' where
 c0:=(hb.cell (p:=⟨p,o,none⟩) hp).trans M.c0
 c1:=(hb.cell (p:=⟨p,o+1,none⟩) hp).trans M.c1
 c2:=(hb.cell (p:=⟨p,o+2,none⟩) hp).trans M.c2
 c3:=(hb.cell (p:=⟨p,o+3,none⟩) hp).trans M.c3
 c4:=(hb.cell (p:=⟨p,o+4,none⟩) hp).trans M.c4
 c5:=(hb.cell (p:=⟨p,o+5,none⟩) hp).trans M.c5
 c6:=(hb.cell (p:=⟨p,o+6,none⟩) hp).trans M.c6
 c7:=(hb.cell (p:=⟨p,o+7,none⟩) hp).trans M.c7
 c8:=(hb.cell (p:=⟨p,o+8,none⟩) hp).trans M.c8
 c9:=(hb.cell (p:=⟨p,o+9,none⟩) hp).trans M.c9
 c10:=(hb.cell (p:=⟨p,o+10,none⟩) hp).trans M.c10
end Go.Proofs.YtlkcbdinlfeoiaaGreatDoor
