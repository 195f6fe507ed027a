/- Package tree: where its reader stands; next, pass, throw, need, isMark, passMark, needMark, name, by contracts. -/
import Derived.Test.YtflcohidmemfpaaGreatDoorSsE
import Derived.Deep.CutBlock
import Derived.Deep.RegionHeld3
set_option linter.all false
namespace Go.Proofs.YtflcohidmemfpaaGreatDoor
open Go.Proofs.Tryz
open Go.RowKit

structure Keeps (p:Nat) (w w':World):Prop where
 below:Below p w w'
 block:∀ k,k≠p→k<w.heap.size→w'.heap[k]?=w.heap[k]?
theorem Keeps.refl (p:Nat) (w:World):Keeps p w w:=⟨Below.refl _ _,fun _ _ _=>rfl⟩
theorem Keeps.trans {p:Nat}{a b c:World} (h:Keeps p a b) (k:Keeps p b c):Keeps p a c:=
 ⟨h.below.trans k.below,fun i hi hl=>(k.block i hi (Nat.lt_of_lt_of_le hl h.below.size)).trans (h.block i hi hl)⟩
theorem Keeps.of {p:Nat}{w w':World} (h:Below w.heap.size w w') (hp:p≤w.heap.size):Keeps p w w':=⟨h.mono hp,fun k _ hk=>h.block k hk⟩
theorem Keeps.set {p o:Nat}{w w':World}{v:Value} (h:Keeps p w w'):Keeps p w (w'.setCell ⟨p,o,none⟩ v):=
 ⟨h.below.setCell (Nat.le_refl _) _,fun k hk hl=>(Z07 _ _ _ _ _ hk).trans (h.block k hk hl)⟩

structure RD (w:World) (p g cap:Nat) (rk:Value) (l:List (ByteArray × ByteArray × Nat)) (k bl dp:Nat):Prop where
 blk:w.heap[p]?=some (.cells #[.slice (some ⟨g,0,none⟩) l.length cap,.int .i64 (k:Int),rk,.int .i64 (bl:Int),.int .i64 (dp:Int)] 102)
 toks:∀ j v,(cellsOf l)[j]?=some v→w.cell? ⟨g,j,none⟩=some v
 gp:g≠p
 gl:g<w.heap.size
theorem RD.more {w w':World}{p g cap:Nat}{rk:Value}{l:List (ByteArray × ByteArray × Nat)}{k bl dp:Nat} (h:RD w p g cap rk l k bl dp) (hb:Below w.heap.size w w'):RD w' p g cap rk l k bl dp:=
 ⟨(hb.block _ (Z00 h.blk)).trans h.blk,fun j v hj=>(hb.cell (p:=⟨g,j,none⟩) h.gl).trans (h.toks j v hj),h.gp,Nat.lt_of_lt_of_le h.gl hb.size⟩
theorem RD.cells {w:World}{p g cap:Nat}{rk:Value}{l:List (ByteArray × ByteArray × Nat)}{k bl dp:Nat} (h:RD w p g cap rk l k bl dp) :
  w.cell? ⟨p,0,none⟩=some (.slice (some ⟨g,0,none⟩) l.length cap)∧w.cell? ⟨p,1,none⟩=some (.int .i64 (k:Int))∧w.cell? ⟨p,2,none⟩=some rk∧w.cell? ⟨p,3,none⟩=some (.int .i64 (bl:Int))∧w.cell? ⟨p,4,none⟩=some (.int .i64 (dp:Int)):=by
 refine ⟨?_,?_,?_,?_,?_⟩
 ·rw [cell_of_row w p 0 _ _ _ h.blk];rfl
 ·rw [cell_of_row w p 1 _ _ _ h.blk];rfl
 ·rw [cell_of_row w p 2 _ _ _ h.blk];rfl
 ·rw [cell_of_row w p 3 _ _ _ h.blk];rfl
 ·rw [cell_of_row w p 4 _ _ _ h.blk];rfl
theorem RD.open_ {w:World}{p g cap:Nat}{rk:Value}{l:List (ByteArray × ByteArray × Nat)}{k bl dp:Nat} (h:RD w p g cap rk l k bl dp) (o:Nat):w.frozen? ⟨p,o,none⟩=false:=by
 simp [World.frozen?,h.blk]
theorem RD.tok {w:World}{p g cap:Nat}{rk:Value}{l:List (ByteArray × ByteArray × Nat)}{k bl dp j:Nat} (h:RD w p g cap rk l k bl dp) {x:ByteArray × ByteArray × Nat} (hx:l[j]?=some x) :
  w.cell? ⟨g,j*3,none⟩=some (.string x.1)∧w.cell? ⟨g,j*3+1,none⟩=some (.string x.2.1)∧w.cell? ⟨g,j*3+2,none⟩=some (.int .i64 (x.2.2:Int)):=by
 obtain ⟨e1,e2,e3⟩:=Zhr l j x hx
 exact ⟨h.toks _ _ e1,h.toks _ _ e2,h.toks _ _ e3⟩
theorem Z0a {w:World}{p o:Nat}{v:Value}{cs:Array Value}{t:TypeId}{fr:Nat × Nat} (h:w.heap[p]?=some (.cells cs t fr)):(w.setCell ⟨p,o,none⟩ v).heap[p]?=some (.cells (cs.setIfInBounds o v) t fr):=by
 simp [World.setCell,Array.getElem?_modify,h]

theorem RD.other {w:World}{p g cap:Nat}{rk:Value}{l:List (ByteArray × ByteArray × Nat)}{k bl dp b o:Nat}{v:Value} (R:RD w p g cap rk l k bl dp) (hp:p≠b) (hg:g≠b):RD (w.setCell ⟨b,o,none⟩ v) p g cap rk l k bl dp:=
 ⟨(Z07 _ _ _ _ _ hp).trans R.blk,fun j u hj=>by rw [World.cell?_of_block (w:=w) (a:=⟨g,j,none⟩) (Z07 _ _ _ _ _ hg)];exact R.toks j u hj,R.gp,by rw [Z1x];exact R.gl⟩
theorem Keeps.other {p b o:Nat}{w w':World}{v:Value} (h:Keeps p w w') (hp:p≤b) (hb:w.heap.size≤b):Keeps p w (w'.setCell ⟨b,o,none⟩ v):=
 ⟨h.below.setCell hp _,fun k hk hl=>(Z07 _ _ _ _ _ (by omega)).trans (h.block k hk hl)⟩
theorem Znj {w:World}{b:Nat} (h:w.heap[b]?=some (.cells #[.string ⟨#[]⟩,.string ⟨#[]⟩,.int .i64 0] 121)) :
  w.cell? ⟨b,0,none⟩=some (.string ⟨#[]⟩)∧w.cell? ⟨b,1,none⟩=some (.string ⟨#[]⟩)∧w.cell? ⟨b,2,none⟩=some (.int .i64 0)∧w.frozen? ⟨b,0,none⟩=false∧w.frozen? ⟨b,1,none⟩=false∧w.frozen? ⟨b,2,none⟩=false:=by
 refine ⟨?_,?_,?_,?_,?_,?_⟩
 ·rw [cell_of_row w b 0 _ _ _ h];rfl
 ·rw [cell_of_row w b 1 _ _ _ h];rfl
 ·rw [cell_of_row w b 2 _ _ _ h];rfl
 ·simp [World.frozen?,h]
 ·simp [World.frozen?,h]
 ·simp [World.frozen?,h]
theorem Ztc {w:World}{b:Nat}{u0 u1 u2:Value} (r0:w.cell? ⟨b,0,none⟩=some u0) (r1:w.cell? ⟨b,1,none⟩=some u1) (r2:w.cell? ⟨b,2,none⟩=some u2) (v0 v1 v2:Value) :
  (((w.setCell ⟨b,0,none⟩ v0).setCell ⟨b,1,none⟩ v1).setCell ⟨b,2,none⟩ v2).cell? ⟨b,0,none⟩=some v0∧(((w.setCell ⟨b,0,none⟩ v0).setCell ⟨b,1,none⟩ v1).setCell ⟨b,2,none⟩ v2).cell? ⟨b,1,none⟩=some v1∧(((w.setCell ⟨b,0,none⟩ v0).setCell ⟨b,1,none⟩ v1).setCell ⟨b,2,none⟩ v2).cell? ⟨b,2,none⟩=some v2:=by
 refine ⟨?_,?_,?_⟩
 ·rw [Z2b _ _ _ _ _ (by decide),Z2b _ _ _ _ _ (by decide)]
  exact World.cell?_setCell_same _ _ _ r0
 ·rw [Z2b _ _ _ _ _ (by decide)]
  exact World.cell?_setCell_same _ _ _ ((Z2b _ _ _ _ _ (by decide)).trans r1)
 ·exact World.cell?_setCell_same _ _ _ ((Z2b _ _ _ _ _ (by decide)).trans ((Z2b _ _ _ _ _ (by decide)).trans r2))
theorem Z7w (f:Func) (r:Nat) (hr:f.results = #[.cell r 121]) (tmps:Array Value) (W:World) (b:Nat) (v0 v1 v2:Value) (h2:tmps[r]?.getD undef = .pointer (some ⟨b,0,none⟩)) (c0:W.cell? ⟨b,0,none⟩=some v0) (c1:W.cell? ⟨b,1,none⟩=some v1) (c2:W.cell? ⟨b,2,none⟩=some v2) :
  (results f tmps).run prog W = .ok (.agg #[v0,v1,v2]) W:=by
 simp [results,hr,go_sem,h2,c0,c1,c2]

theorem Z9g (w:World) (a b c:Value) (o:Nat) {v:Value} (h:(#[a,b,c]:Array Value)[o]?=some v):((w.alloc (.cells #[a,b,c] 121)).drew).cell? ⟨w.heap.size,o,none⟩=some v:=by
 show (w.alloc (.cells #[a,b,c] 121)).cell? ⟨w.heap.size,o,none⟩=some v
 rw [cell_of_row _ _ o _ _ _ (heap_alloc_new w _)]
 exact h
theorem Z01 {p:Prop} (h:p):Hid p:=h

set_option maxHeartbeats 1000000 in
theorem Z1k {w:World}{p g cap:Nat}{rk:Value}{l:List (ByteArray × ByteArray × Nat)}{k bl dp:Nat} (R:RD w p g cap rk l k bl dp) {x:ByteArray × ByteArray × Nat} (hx:l[k]?=some x) :
  Calls prog 60 #[.pointer (some ⟨p,0,none⟩)] w fun ev w'=>ev = .returned (.agg #[.string x.1,.string x.2.1,.int .i64 (x.2.2:Int)])∧Below w.heap.size w w':=by
 obtain ⟨r0,r1,_,_,_⟩:=R.cells
 obtain ⟨t0,t1,t2⟩:=R.tok hx
 have hk:=(List.getElem?_eq_some_iff.1 hx).1
 have hI0:(0:Int)≤(k:Int):=by omega
 have hI1:(k:Int)<(l.length:Int):=by omega
 have hpl:=Z00 R.blk
 have hgl:=R.gl
 obtain ⟨a,b,c⟩:=x
 simp only at t0 t1 t2
 clear R hx
 go_enter func60,ntmps60
 go_wp2_with fail
 go_region_held3 (fun w'=>w'.cell? ⟨p,0,none⟩=some (.slice (some ⟨g,0,none⟩) l.length cap)∧w'.cell? ⟨p,1,none⟩=some (.int .i64 (k:Int))∧w'.cell? ⟨g,k*3,none⟩=some (.string a)∧w'.cell? ⟨g,k*3+1,none⟩=some (.string b)∧w'.cell? ⟨g,k*3+2,none⟩=some (.int .i64 (c:Int))) (go_keep) (fail)
 go_wp2
 refine bodyPost_ret (Z7w _ 2 rfl _ _ w.heap.size _ _ _ rfl (Z9g w _ _ _ 0 rfl) (Z9g w _ _ _ 1 rfl) (Z9g w _ _ _ 2 rfl)) rfl ?_
 exact ⟨rfl,((Below.refl _ _).alloc (Nat.le_refl _) _).drew⟩

theorem RD.set {w:World}{p g cap:Nat}{rk:Value}{l:List (ByteArray × ByteArray × Nat)}{k bl dp:Nat} (R:RD w p g cap rk l k bl dp) (k':Nat):RD (w.setCell ⟨p,1,none⟩ (.int .i64 (k':Int))) p g cap rk l k' bl dp:=by
 refine ⟨?_,fun j v hj => ?_,R.gp,by rw [Z1x];exact R.gl⟩
 ·rw [Z0a R.blk]
  rfl
 ·rw [World.cell?_of_block (w:=w) (a:=⟨g,j,none⟩) (Z07 _ _ _ _ _ R.gp)]
  exact R.toks j v hj
theorem RD.deep {w:World}{p g cap:Nat}{rk:Value}{l:List (ByteArray × ByteArray × Nat)}{k bl dp:Nat} (R:RD w p g cap rk l k bl dp) (dp':Nat):RD (w.setCell ⟨p,4,none⟩ (.int .i64 (dp':Int))) p g cap rk l k bl dp':=by
 refine ⟨?_,fun j v hj => ?_,R.gp,by rw [Z1x];exact R.gl⟩
 ·rw [Z0a R.blk]
  rfl
 ·rw [World.cell?_of_block (w:=w) (a:=⟨g,j,none⟩) (Z07 _ _ _ _ _ R.gp)]
  exact R.toks j v hj
theorem RD.blocks {w:World}{p g cap:Nat}{rk:Value}{l:List (ByteArray × ByteArray × Nat)}{k bl dp:Nat} (R:RD w p g cap rk l k bl dp) (bl':Nat):RD (w.setCell ⟨p,3,none⟩ (.int .i64 (bl':Int))) p g cap rk l k bl' dp:=by
 refine ⟨?_,fun j v hj => ?_,R.gp,by rw [Z1x];exact R.gl⟩
 ·rw [Z0a R.blk]
  rfl
 ·rw [World.cell?_of_block (w:=w) (a:=⟨g,j,none⟩) (Z07 _ _ _ _ _ R.gp)]
  exact R.toks j v hj

set_option maxHeartbeats 1000000 in
theorem Z23 {w:World}{p g cap:Nat}{rk:Value}{l:List (ByteArray × ByteArray × Nat)}{k bl dp:Nat} (R:RD w p g cap rk l k bl dp) {x:ByteArray × ByteArray × Nat} (hx:l[k]?=some x) (hl:l.length≤100000) :
  Calls prog 111 #[.pointer (some ⟨p,0,none⟩)] w fun ev w'=>ev = .returned (.agg #[.string x.1,.string x.2.1,.int .i64 (x.2.2:Int)])∧RD w' p g cap rk l (k+1) bl dp∧Keeps p w w':=by
 have hk:=(List.getElem?_eq_some_iff.1 hx).1
 have hpl:=Z00 R.blk
 have hgl:=R.gl
 obtain ⟨p0,p1,_,_,_⟩:=R.cells
 have pf:=R.open_ 1
 have e1:((k+1:Nat):Int)=(k:Int)+1:=by omega
 have R1:RD (w.setCell ⟨p,1,none⟩ (.int .i64 ((k:Int)+1))) p g cap rk l (k+1) bl dp:=by rw [←e1];exact R.set (k+1)
 have K1:Keeps p w (w.setCell ⟨p,1,none⟩ (.int .i64 ((k:Int)+1))):=(Keeps.refl p w).set
 have hI0:(0:Int)≤(k:Int):=by omega
 have hI1:(k:Int)<(l.length:Int):=by omega
 have hwr:IntKind.i64.wrap (k:Int)=(k:Int):=wrap_small _ (by omega) (by omega)
 have HS:=Z01 (Z1x w ⟨p,1,none⟩ (.int .i64 ((k:Int)+1)))
 clear R
 go_enter func111,ntmps111
 go_wp2_with fail
 generalize w.setCell ⟨p,1,none⟩ (.int .i64 ((k:Int)+1))=w1 at R1 K1 HS ⊢
 rw [←HS.out]
 obtain ⟨r0,r1,_,_,_⟩:=R1.cells
 obtain ⟨t0,t1,t2⟩:=R1.tok hx
 have hp1:=Z00 R1.blk
 have hg1:=R1.gl
 rw [e1] at r1
 have HR1:=Z01 R1
 have HK1:=Z01 K1
 clear R1 K1 e1 p0 p1 pf hpl hgl hx
 obtain ⟨a,b,c⟩:=x
 simp only at t0 t1 t2
 go_region_held3 (fun w'=>w'.cell? ⟨p,0,none⟩=some (.slice (some ⟨g,0,none⟩) l.length cap)∧w'.cell? ⟨p,1,none⟩=some (.int .i64 ((k:Int)+1))∧w'.cell? ⟨g,k*3,none⟩=some (.string a)∧w'.cell? ⟨g,k*3+1,none⟩=some (.string b)∧w'.cell? ⟨g,k*3+2,none⟩=some (.int .i64 (c:Int))) (go_keep) (fail)
 go_wp2
 refine bodyPost_ret (Z7w _ 2 rfl _ _ w1.heap.size _ _ _ rfl (Z9g w1 _ _ _ 0 rfl) (Z9g w1 _ _ _ 1 rfl) (Z9g w1 _ _ _ 2 rfl)) rfl ?_
 have hb:Below w1.heap.size w1 (w1.alloc (.cells #[.string a,.string b,.int .i64 (c:Int)] 121)).drew:=((Below.refl _ _).alloc (Nat.le_refl _) _).drew
 exact ⟨rfl,HR1.out.more hb,HK1.out.trans (Keeps.of hb (by omega))⟩

theorem Z5s (a b c:Value) (w:World):(Instr.field 121 (.agg #[a,b,c]) 0).run prog w = .ok a w:=by kernel_rfl
theorem Z4v (a b c:Value) (w:World):(Instr.field 121 (.agg #[a,b,c]) 1).run prog w = .ok b w:=by kernel_rfl
theorem Zzu (a b c:Value) (w:World):(Instr.field 121 (.agg #[a,b,c]) 2).run prog w = .ok c w:=by kernel_rfl

set_option maxRecDepth 100000 in
theorem Z4o {w:World}{p g cap:Nat}{rk:Value}{l:List (ByteArray × ByteArray × Nat)}{k bl dp:Nat} (R:RD w p g cap rk l k bl dp) {x:ByteArray × ByteArray × Nat} (hx:l[k]?=some x) (a:Addr) :
  Calls prog 120 #[.pointer (some ⟨p,0,none⟩),.iface 214 (.pointer (some a))] w fun ev w'=>Z3h p w x.2.2 a ev w':=by
 have hpl:=Z00 R.blk
 go_enter func120,ntmps120
 go_wp2_with fail
 refine (Z1k R hx).mono ?_
 rintro ev w1 ⟨rfl,hb⟩
 have hsz:=hb.size
 obtain ⟨kd,tx,at_⟩:=x
 simp only
 have F2:=Zzu (.string kd) (.string tx) (.int .i64 (at_:Int))
 clear R hx
 go_wp2
 exact ⟨rfl,w1.heap.size,rfl,(hb.mono (by omega)).alloc (by omega) _,Z18 rfl rfl,Z18 rfl rfl⟩

def TS (w:World) (b o:Nat) (ts:List ByteArray):Prop:=∀ (j:Nat) (t:ByteArray),ts[j]?=some t→w.cell? ⟨b,o+j,none⟩=some (.string t)
theorem TS.more {w w':World}{b o:Nat}{ts:List ByteArray} (h:TS w b o ts) (hb:Below w.heap.size w w'):TS w' b o ts:=fun j t hj=>(hb.cell (p:=⟨b,o+j,none⟩) (Z02 (h j t hj))).trans (h j t hj)

def Zin (ts:List ByteArray) (t:ByteArray):Bool:=ts.any fun x=>t.toList == x.toList

theorem Zru {ts:List ByteArray}{j:Nat}{x t:ByteArray} (h:ts[j]?=some x):Zin (ts.drop j) t=((t.toList == x.toList) || Zin (ts.drop (j+1)) t):=by
 obtain ⟨hj,e⟩:=List.getElem?_eq_some_iff.1 h
 unfold Zin
 rw [List.drop_eq_getElem_cons hj,e]
 rfl

set_option maxHeartbeats 1000000 in
theorem Zm9 (ts:List ByteArray) (t:ByteArray) (b o cap:Nat) (hn:ts.length≤100) (w:World) (h:TS w b o ts) :
  Calls prog 143 #[.slice (some ⟨b,o,none⟩) ts.length cap,.string t] w fun ev w' => ∃ i:Int,ev = .returned (.int .i64 i)∧decide (0≤i)=Zin ts t∧w'=w:=by
 have HT:=Z01 h
 clear h
 go_enter func143,ntmps143
 go_wp2
 go_loopg [8] (ts.length+1) (fun gk v8 wr => ∃ j:Nat,gk=ts.length+1 - j∧j≤ts.length∧v8 = .int .i64 (j:Int)∧Zin (ts.drop j) t=Zin ts t∧wr=w)
 case atStart=>exact ⟨0,rfl,Nat.zero_le _,rfl,rfl,rfl⟩
 case round =>
  obtain ⟨j,hg,hj,hv,hh,rfl⟩:=hrel
  subst hv
  have HG:=Z01 hg
  have HH:=Z01 hh
  clear hg hh
  have hj0:(0:Int)≤(j:Int):=by omega
  by_cases hlt:j<ts.length
  ·have hI:(j:Int)<(ts.length:Int):=by omega
   obtain ⟨x,hx⟩:∃ x,ts[j]?=some x:=⟨ts[j],by simp [hlt]⟩
   have hc:=HT.out j x hx
   have HD:=Z01 (Zru (t:=t) hx)
   clear hx
   cases he:(t.toList == x.toList)
   ·go_wp2
    go_roundg (ts.length+1 - (j+1))
    case measure=>have:=HG.out;omega
    case rel=>exact ⟨j+1,rfl,by omega,by go_num,by rw [←HH.out,HD.out,he];rfl,rfl⟩
   ·go_wp2
    go_ret
    exact ⟨_,rfl,by rw [←HH.out,HD.out,he];simp,rfl⟩
  ·have hI:¬ (j:Int)<(ts.length:Int):=by omega
   go_wp2
   go_ret
   exact ⟨-1,rfl,by rw [←HH.out,List.drop_eq_nil_of_le (by omega)];rfl,rfl⟩
theorem Z7b (ts:List ByteArray) (t:ByteArray) (b o cap:Nat) (hn:ts.length≤100) (w:World) (h:TS w b o ts) :
  Calls prog 128 #[.slice (some ⟨b,o,none⟩) ts.length cap,.string t] w fun ev w'=>ev = .returned (.bool (Zin ts t))∧w'=w:=by
 go_enter func128,ntmps128
 go_wp2_with fail
 refine (Zm9 ts t b o cap hn w h).mono ?_
 rintro ev w1 ⟨i,rfl,hi,rfl⟩
 go_wp2_with fail
 go_ret
 exact ⟨by rw [←hi];rfl,rfl⟩

def Z0i (x:ByteArray × ByteArray × Nat) (ts:List ByteArray):Bool:=((x.1.toList == [111,112]) || (x.1.toList == [119,111,114,100])) && Zin ts x.2.1

set_option maxHeartbeats 1000000 in
theorem Z10 {w:World}{p g cap:Nat}{rk:Value}{l:List (ByteArray × ByteArray × Nat)}{k bl dp:Nat} (R:RD w p g cap rk l k bl dp) {x:ByteArray × ByteArray × Nat} (hx:l[k]?=some x) (ts:List ByteArray) (b o c:Nat) (hn:ts.length≤100) (h:TS w b o ts) :
  Calls prog 110 #[.pointer (some ⟨p,0,none⟩),.slice (some ⟨b,o,none⟩) ts.length c] w fun ev w'=>ev = .returned (.bool (Z0i x ts))∧Below w.heap.size w w':=by
 obtain ⟨kd,tx,at_⟩:=x
 go_enter func110,ntmps110
 go_wp2_with fail
 refine (Z1k R hx).mono ?_
 rintro ev w1 ⟨rfl,hb⟩
 have hT1:=(h.more hb).more ((Below.refl _ _).alloc (Nat.le_refl _) (.cells #[.string kd,.string tx,.int .i64 (at_:Int)] 121))
 have hba:=hb.alloc hb.size (.cells #[.string kd,.string tx,.int .i64 (at_:Int)] 121)
 have HM:Hid (Z0i (kd,tx,at_) ts=(((kd.toList == [111,112]) || (kd.toList == [119,111,114,100])) && Zin ts tx)):=rfl
 clear R hx h
 cases k1:(kd.toList == [111,112])
 ·cases k2:(kd.toList == [119,111,114,100])
  ·rw [k1,k2] at HM
   go_wp2_with fail
   go_ret
   exact ⟨by rw [HM.out];rfl,hba⟩
  ·rw [k1,k2] at HM
   go_wp2_with fail
   refine (Z7b ts tx b o c hn _ hT1).mono ?_
   rintro ev w2 ⟨rfl,rfl⟩
   go_wp2_with fail
   go_ret
   exact ⟨by rw [HM.out];rfl,hba⟩
 ·rw [k1] at HM
  go_wp2_with fail
  refine (Z7b ts tx b o c hn _ hT1).mono ?_
  rintro ev w2 ⟨rfl,rfl⟩
  go_wp2_with fail
  go_ret
  exact ⟨by rw [HM.out];simp,hba⟩

theorem Zkk (w:World) (t:ByteArray):TS (w.alloc (.cells #[.string t] 9)) w.heap.size 0 [t]:=fun j x hj=>by
 cases j with
 | zero =>
  simp at hj
  subst hj
  rw [cell_of_row _ _ _ _ _ _ (heap_alloc_new w _)]
  rfl
 | succ j=>simp at hj

set_option maxHeartbeats 1000000 in
theorem Z0u {w:World}{p g cap:Nat}{rk:Value}{l:List (ByteArray × ByteArray × Nat)}{k bl dp:Nat} (R:RD w p g cap rk l k bl dp) {x:ByteArray × ByteArray × Nat} (hx:l[k]?=some x) (hl:l.length≤100000) (t:ByteArray) :
  Calls prog 76 #[.pointer (some ⟨p,0,none⟩),.string t] w fun ev w'=>ev = .returned (.bool (Z0i x [t]))∧RD w' p g cap rk l (if Z0i x [t] then k+1 else k) bl dp∧Keeps p w w':=by
 have hpl:=Z00 R.blk
 have hb0:Below w.heap.size w (w.alloc (.cells #[.string t] 9)):=(Below.refl _ _).alloc (Nat.le_refl _) _
 have R0:=R.more hb0
 obtain ⟨m,hm⟩:∃ m,Z0i x [t]=m:=⟨_,rfl⟩
 rw [hm]
 have HM:=Z01 hm
 clear hm
 go_enter func76,ntmps76
 go_wp2_with fail
 refine (Z10 R0 hx [t] w.heap.size 0 1 (by simp) (Zkk w t)).mono ?_
 rintro ev w1 ⟨rfl,hb1⟩
 have R1:=R0.more hb1
 have K1:Keeps p w w1:=Keeps.of (hb0.trans (hb1.mono hb0.size)) (by omega)
 clear R R0
 rw [HM.out]
 cases m
 ·go_wp2_with fail
  go_ret
  exact ⟨rfl,R1,K1⟩
 ·go_wp2_with fail
  refine (Z23 R1 hx hl).mono ?_
  rintro ev w2 ⟨rfl,R2,K2⟩
  go_wp2_with fail
  go_ret
  exact ⟨rfl,R2,K1.trans K2⟩

set_option maxHeartbeats 1000000 in
theorem Z9c {w:World}{p g cap:Nat}{rk:Value}{l:List (ByteArray × ByteArray × Nat)}{k bl dp:Nat} (R:RD w p g cap rk l k bl dp) {x:ByteArray × ByteArray × Nat} (hx:l[k]?=some x) (hl:l.length≤100000) (kd:ByteArray) (he:(x.1.toList == kd.toList)=true) :
  Calls prog 84 #[.pointer (some ⟨p,0,none⟩),.string kd] w fun ev w'=>ev = .returned (.agg #[.string x.1,.string x.2.1,.int .i64 (x.2.2:Int)])∧RD w' p g cap rk l (k+1) bl dp∧Keeps p w w':=by
 have hpl:=Z00 R.blk
 have HG2:=Z01 R.gl
 have hb0:Below w.heap.size w (w.alloc (.cells #[.string ⟨#[]⟩,.string ⟨#[]⟩,.int .i64 0] 121)):=(Below.refl _ _).alloc (Nat.le_refl _) _
 have R0:=R.more hb0
 obtain ⟨ka,ta,at_⟩:=x
 have hne:(ka.toList != kd.toList)=false:=by simp only at he;simp [bne,he]
 have F0:=Z5s (.string ka) (.string ta) (.int .i64 (at_:Int))
 go_enter func84,ntmps84
 go_wp2_with fail
 refine (Z1k R0 hx).mono ?_
 rintro ev w1 ⟨rfl,hb1⟩
 have R1:=R0.more hb1
 have K1:Keeps p w w1:=Keeps.of (hb0.trans (hb1.mono hb0.size)) (by omega)
 have hT1:=(hb1.block w.heap.size (by simp)).trans (heap_alloc_new w (.cells #[.string ⟨#[]⟩,.string ⟨#[]⟩,.int .i64 0] 121))
 clear R R0
 go_wp2_with fail
 refine (Z23 R1 hx hl).mono ?_
 rintro ev w2 ⟨rfl,R2,K2⟩
 have hT2:=(K2.block w.heap.size (by omega) (Z00 hT1)).trans hT1
 have HK:=Z01 (K1.trans K2)
 have HR:=Z01 R2
 obtain ⟨q0,q1,q2,f0,f1,f2⟩:=Znj hT2
 have hp2:=Z00 hT2
 clear R1 R2 K1 K2 hT1 hT2 hx
 go_wp2
 obtain ⟨s0,s1,s2⟩:=Ztc q0 q1 q2 (.string ka) (.string ta) (.int .i64 (at_:Int))
 refine bodyPost_ret (Z7w _ 4 rfl _ _ w.heap.size _ _ _ rfl s0 s1 s2) rfl ?_
 have hgg:=HG2.out
 exact ⟨rfl,((HR.out.other (by omega) (by omega)).other (by omega) (by omega)).other (by omega) (by omega),((HK.out.other (by omega) (Nat.le_refl _)).other (by omega) (Nat.le_refl _)).other (by omega) (Nat.le_refl _)⟩
end Go.Proofs.YtflcohidmemfpaaGreatDoor
namespace Go.Proofs.YtflcohidmemfpaaGreatDoor
open Go.Proofs.Tryz
open Go.RowKit

def mkE (op:ByteArray) (z:Int) (s:ByteArray) (pl:List ByteArray) (el:List (DataW Unit)):DataW Unit:=
 .agg [.lit (.string op.data.toList),.lit (.int .i64 z),.lit (.string s.data.toList),.slice (pl.map fun x=>.lit (.string x.data.toList)) [],.slice el []]

def kIndex:ByteArray:=⟨#[105,110,100,101,120]⟩
def Zqq (S:Nat→Prop) (w:World) (op:ByteArray) (la:Option Addr) (lc n:Nat):Prop:=0<n→op=kIndex → ∃ b cur,la=some ⟨b,0,none⟩∧S b∧w.heap[b]?=some (.cells cur 72)∧lc=n∧cur.size=n*5
def Zwe (S:Nat→Prop) (w:World):Nat→List Value→DataW Unit→Prop
 | 0,_,_=>False
 | n+1,cs,d => ∃ (op s:ByteArray) (z:Int) (pl:List ByteArray) (el:List (DataW Unit)) (pa la:Option Addr) (pc lc:Nat),
   d=mkE op z s pl el∧cs = [.string op,.int .i64 z,.string s,.slice pa pl.length pc,.slice la el.length lc] ∧
   (0<pl.length → ∃ b o,pa=some ⟨b,o,none⟩∧S b∧TS w b o pl) ∧
   (0<el.length → ∃ b o,la=some ⟨b,o,none⟩∧S b ∧ ∀ (i:Nat) (e:DataW Unit),el[i]?=some e → ∃ c0 c1 c2 c3 c4,w.cell? ⟨b,o+i*5,none⟩=some c0∧w.cell? ⟨b,o+i*5+1,none⟩=some c1∧w.cell? ⟨b,o+i*5+2,none⟩=some c2∧w.cell? ⟨b,o+i*5+3,none⟩=some c3∧w.cell? ⟨b,o+i*5+4,none⟩=some c4∧Zwe S w n [c0,c1,c2,c3,c4] e)∧Zqq S w op la lc el.length∧el.length≤lc
def Z2l (S:Nat→Prop) (w:World) (cs:List Value) (d:DataW Unit):Prop:=∃ n,Zwe S w n cs d

def Z5i (S:Nat→Prop) (w w':World):Prop:=∀ b,S b→b<w.heap.size→w'.heap[b]?=w.heap[b]?
theorem Z5i.cell {S:Nat→Prop}{w w':World} (h:Z5i S w w') {b o:Nat} (hb:S b) {v:Value} (hc:w.cell? ⟨b,o,none⟩=some v):w'.cell? ⟨b,o,none⟩=some v:=
 (World.cell?_of_block (a:=⟨b,o,none⟩) (h b hb (Z02 hc))).trans hc
theorem Z5i.trans {S:Nat→Prop}{a b c:World} (h:Z5i S a b) (k:Z5i S b c) (hs:a.heap.size≤b.heap.size):Z5i S a c:=fun i hi hl=>(k i hi (Nat.lt_of_lt_of_le hl hs)).trans (h i hi hl)
theorem Z06 {S:Nat→Prop}{w w':World} (h:Below w.heap.size w w'):Z5i S w w':=fun b _ hl=>h.block b hl
theorem Z1z {S:Nat→Prop}{w:World}{b o:Nat}{v:Value} (h:¬ S b):Z5i S w (w.setCell ⟨b,o,none⟩ v):=fun _ hk _=>Z07 _ _ _ _ _ (fun e=>h (e ▸ hk))
theorem Keeps.same {p:Nat}{S:Nat→Prop}{w w':World} (h:Keeps p w w') (hp:¬ S p):Z5i S w w':=fun b hb hl=>h.block b (fun e=>hp (e ▸ hb)) hl

theorem Keeps.cell {p:Nat}{w w':World} (h:Keeps p w w') {b o:Nat} (hb:b≠p) {v:Value} (hc:w.cell? ⟨b,o,none⟩=some v):w'.cell? ⟨b,o,none⟩=some v:=
 (World.cell?_of_block (a:=⟨b,o,none⟩) (h.block b hb (Z02 hc))).trans hc
theorem TS.keeps {p b o:Nat}{w w':World}{ts:List ByteArray} (h:TS w b o ts) (K:Keeps p w w') (hb:b≠p):TS w' b o ts:=fun j t hj=>K.cell hb (h j t hj)
theorem TS.same {S:Nat→Prop}{b o:Nat}{w w':World}{ts:List ByteArray} (h:TS w b o ts) (K:Z5i S w w') (hb:S b):TS w' b o ts:=fun j t hj=>K.cell hb (h j t hj)
theorem Zqq.same {S S':Nat→Prop}{w w':World}{op:ByteArray}{la:Option Addr}{lc n:Nat} (h:Zqq S w op la lc n) (K:Z5i S w w') (hS:∀ b,S b→b<w.heap.size→S' b):Zqq S' w' op la lc n:=fun h0 h1=>by
 obtain ⟨b,cur,e1,e2,e3,e4,e5⟩:=h h0 h1
 exact ⟨b,cur,e1,hS b e2 (Z00 e3),(K b e2 (Z00 e3)).trans e3,e4,e5⟩
theorem Zgp {S S':Nat→Prop}{w w':World} (K:Z5i S w w') (hS:∀ b,S b→b<w.heap.size→S' b):∀ (n:Nat) (cs:List Value) (d:DataW Unit),Zwe S w n cs d→Zwe S' w' n cs d
 | 0,_,_,h=>h.elim
 | n+1,cs,d,h=>by
  obtain ⟨op,s,z,pl,el,pa,la,pc,lc,hd,hcs,hp1,hl1,hix⟩:=h
  refine ⟨op,s,z,pl,el,pa,la,pc,lc,hd,hcs,fun h0 => ?_,fun h0 => ?_,hix.1.same K hS,hix.2⟩
  ·obtain ⟨b,o,e,hb,ht⟩:=hp1 h0
   exact ⟨b,o,e,hS b hb (Z02 (ht 0 pl[0] (by simp))),ht.same K hb⟩
  ·obtain ⟨b,o,e,hb,hx⟩:=hl1 h0
   have hbl:b<w.heap.size:=by
    obtain ⟨c0,_,_,_,_,h1,_⟩:=hx 0 el[0] (by simp)
    exact Z02 h1
   refine ⟨b,o,e,hS b hb hbl,fun i x hi => ?_⟩
   obtain ⟨c0,c1,c2,c3,c4,h0,h1,h2,h3,h4,hr⟩:=hx i x hi
   exact ⟨c0,c1,c2,c3,c4,K.cell hb h0,K.cell hb h1,K.cell hb h2,K.cell hb h3,K.cell hb h4,Zgp K hS n _ _ hr⟩
theorem Z2l.same {S S':Nat→Prop}{w w':World}{cs:List Value}{d:DataW Unit} (h:Z2l S w cs d) (K:Z5i S w w') (hS:∀ b,S b→b<w.heap.size→S' b):Z2l S' w' cs d:=by
 obtain ⟨n,hn⟩:=h
 exact ⟨n,Zgp K hS n _ _ hn⟩
theorem Zia {S:Nat→Prop}{w:World} : ∀ (n m:Nat) (cs:List Value) (d:DataW Unit),n≤m→Zwe S w n cs d→Zwe S w m cs d
 | 0,_,_,_,_,h=>h.elim
 | n+1,0,_,_,hle,_=>by omega
 | n+1,m+1,cs,d,hle,h=>by
  obtain ⟨op,s,z,pl,el,pa,la,pc,lc,hd,hcs,hp1,hl1,hix⟩:=h
  refine ⟨op,s,z,pl,el,pa,la,pc,lc,hd,hcs,hp1,fun h0 => ?_,hix⟩
  obtain ⟨b,o,e,hb,hx⟩:=hl1 h0
  refine ⟨b,o,e,hb,fun i x hi => ?_⟩
  obtain ⟨c0,c1,c2,c3,c4,h0,h1,h2,h3,h4,hr⟩:=hx i x hi
  exact ⟨c0,c1,c2,c3,c4,h0,h1,h2,h3,h4,Zia n m _ _ (by omega) hr⟩

abbrev Out (α:Type):=Except (Nat × Bool) (α × Nat)

structure TErr (B:Nat) (a0 a1:Addr) (w:World):Prop where
 g0:w.cell? ⟨3,0,none⟩=some (.iface 214 (.pointer (some a0)))
 g1:w.cell? ⟨2,0,none⟩=some (.iface 214 (.pointer (some a1)))
 b0:3<B
 b1:2<B
theorem TErr.keeps {p:Nat}{a0 a1:Addr}{w w':World} (E:TErr p a0 a1 w) (K:Keeps p w w'):TErr p a0 a1 w':=⟨K.cell (by have:=E.b0;omega) E.g0,K.cell (by have:=E.b1;omega) E.g1,E.b0,E.b1⟩

def Z04 (l:List (ByteArray × ByteArray × Nat)) (p:Nat) (a0 a1:Addr) (w:World) (x:Nat × Bool) (ev:Ending) (w':World):Prop:=
 ∃ t,l[x.1]?=some t∧Z3h p w t.2.2 (if x.2 then a1 else a0) ev w'
theorem Z04.after {l:List (ByteArray × ByteArray × Nat)}{p:Nat}{a0 a1:Addr}{w w1:World}{x:Nat × Bool}{ev:Ending}{w':World} (hb:Below p w w1) (h:Z04 l p a0 a1 w1 x ev w'):Z04 l p a0 a1 w x ev w':=by
 obtain ⟨t,h1,h2⟩:=h
 exact ⟨t,h1,h2.after hb⟩

set_option maxHeartbeats 1000000 in
theorem Z2q {w:World}{p g cap:Nat}{rk:Value}{l:List (ByteArray × ByteArray × Nat)}{k bl dp:Nat}{a0 a1:Addr} (R:RD w p g cap rk l k bl dp) (E:TErr p a0 a1 w) {x:ByteArray × ByteArray × Nat} (hx:l[k]?=some x) (hl:l.length≤100000) (t:ByteArray) :
  Calls prog 113 #[.pointer (some ⟨p,0,none⟩),.string t] w fun ev w'=>if Z0i x [t] then (ev = .returned (.tuple #[])∧RD w' p g cap rk l (k+1) bl dp∧Keeps p w w') else Z04 l p a0 a1 w (k,false) ev w':=by
 obtain ⟨m,hm⟩:∃ m,Z0i x [t]=m:=⟨_,rfl⟩
 rw [hm]
 have HM:=Z01 hm
 clear hm
 go_enter func113,ntmps113
 go_wp2_with fail
 refine (Z0u R hx hl t).mono ?_
 rintro ev w1 ⟨rfl,R1,K1⟩
 rw [HM.out] at R1 ⊢
 have E1:=E.keeps K1
 have hg0:=E1.g0
 cases m
 ·clear R
  go_wp2_with fail
  refine (Z4o R1 hx a0).mono ?_
  rintro ev w2 ⟨b,rfl,hbw,d0,d1⟩
  have HF:Hid (Z04 l p a0 a1 w (k,false) (.panicked [{ v:=.iface 61 (.pointer (some ⟨b,0,none⟩)),recovered:=false }]) w2):=⟨x,hx,b,rfl,K1.below.trans hbw,d0,d1⟩
  clear R1 hbw d0 d1 K1
  go_wp2_with fail
  exact ⟨rfl,HF.out⟩
 ·clear R
  go_wp2_with fail
  go_end0
  exact ⟨rfl,R1,K1⟩

def Z57 (l:List (ByteArray × ByteArray × Nat)):Prop:=∃ x,l[l.length - 1]?=some x ∧ ∀ ts,Z0i x ts=false
theorem Z57.next {l:List (ByteArray × ByteArray × Nat)} (h:Z57 l) {k:Nat}{x:ByteArray × ByteArray × Nat}{ts:List ByteArray} (hx:l[k]?=some x) (hm:Z0i x ts=true):k+1<l.length:=by
 obtain ⟨y,hy,hn⟩:=h
 have hk:=(List.getElem?_eq_some_iff.1 hx).1
 rcases Nat.lt_or_ge (k+1) l.length with h1 | h1
 ·exact h1
 ·have e:l.length - 1=k:=by omega
  rw [e,hx] at hy
  simp only [Option.some.injEq] at hy
  subst hy
  rw [hn ts] at hm
  cases hm
def Z09 (l:List (ByteArray × ByteArray × Nat)) (k:Nat) (ts:List ByteArray):Bool:=match l[k]? with
 | some x=>Z0i x ts
 | none=>false
theorem Z0r {l:List (ByteArray × ByteArray × Nat)}{k:Nat}{x:ByteArray × ByteArray × Nat} (hx:l[k]?=some x) (ts:List ByteArray):Z09 l k ts=Z0i x ts:=by
 unfold Z09
 rw [hx]
def Z8s:ByteArray:=⟨#[44]⟩

def Z4q {σ:Type} (l:List (ByteArray × ByteArray × Nat)) (step:σ→Nat→Out σ):Nat→σ→Nat→Out σ
 | 0,_,k=>.error (k,false)
 | f+1,s,k=>bif Z09 l k [Z8s] then (match step s (k+1) with
  | .error x=>.error x
  | .ok (s',k')=>Z4q l step f s' k') else .ok (s,k)
def Z1w {σ:Type} (l:List (ByteArray × ByteArray × Nat)) (step:σ→Nat→Out σ) (f:Nat) (s:σ) (k:Nat):Out σ:=match step s k with
 | .error x=>.error x
 | .ok (s',k')=>Z4q l step f s' k'
theorem Zm6 {σ:Type}{l:List (ByteArray × ByteArray × Nat)}{step:σ→Nat→Out σ}{f:Nat}{s:σ}{k:Nat} (h:Z09 l k [Z8s]=false):Z4q l step (f+1) s k = .ok (s,k):=by
 unfold Z4q
 rw [h]
 rfl
theorem Zqs {σ:Type}{l:List (ByteArray × ByteArray × Nat)}{step:σ→Nat→Out σ}{f:Nat}{s:σ}{k:Nat}{x:Nat × Bool} (h:Z09 l k [Z8s]=true) (hs:step s (k+1) = .error x):Z4q l step (f+1) s k = .error x:=by
 unfold Z4q
 rw [h,hs]
 rfl
theorem Zvb {σ:Type}{l:List (ByteArray × ByteArray × Nat)}{step:σ→Nat→Out σ}{f:Nat}{s s':σ}{k k':Nat} (h:Z09 l k [Z8s]=true) (hs:step s (k+1) = .ok (s',k')):Z4q l step (f+1) s k=Z4q l step f s' k':=by
 conv=>lhs;unfold Z4q
 rw [h,hs]
 rfl

def Zjb (K:FuncId) (caps:Array Value) (p g cap:Nat) (rk:Value) (l:List (ByteArray × ByteArray × Nat)) (bl dp:Nat) (a0 a1:Addr) {σ:Type} (J:σ→Nat→World→Prop) (s:σ) (k:Nat) (o:Out σ):Prop:=
 ∀ w,RD w p g cap rk l k bl dp→J s k w→TErr p a0 a1 w→Calls prog K caps w fun ev w'=>match o with
  | .ok (s',k')=>ev = .returned (.tuple #[])∧RD w' p g cap rk l k' bl dp∧J s' k' w'∧Below p w w'∧k<k'∧k'<l.length
  | .error x=>Z04 l p a0 a1 w x ev w'

theorem TErr.below {p:Nat}{a0 a1:Addr}{w w':World} (E:TErr p a0 a1 w) (hb:Below p w w'):TErr p a0 a1 w':=⟨(hb.cell (p:=⟨3,0,none⟩) E.b0).trans E.g0,(hb.cell (p:=⟨2,0,none⟩) E.b1).trans E.g1,E.b0,E.b1⟩

set_option maxHeartbeats 1000000 in
theorem Zbf {σ:Type} (K:FuncId) (caps:Array Value) (hE:∀ args w,(callFunc K args).run prog w = .ok (.enter K args) w) {p g cap:Nat}{rk:Value}{l:List (ByteArray × ByteArray × Nat)}{bl dp:Nat}{a0 a1:Addr} (J:σ→Nat→World→Prop) (hJ:∀ s k k' w w',k≤k'→J s k w→Keeps p w w'→J s k' w') (step:σ→Nat→Out σ)
  (lo:Nat) (hstep:∀ s k,lo≤k→k<l.length→Zjb K caps p g cap rk l bl dp a0 a1 J s k (step s k)) (hl:l.length≤100000) (hen:Z57 l) (s:σ) (k f:Nat) (hlo:lo≤k) (hk:k<l.length) (hf:l.length - k≤f) (w:World) (R:RD w p g cap rk l k bl dp) (hs:J s k w) (E:TErr p a0 a1 w) :
  Calls prog 118 #[.pointer (some ⟨p,0,none⟩),.func (.func K) #[] caps] w fun ev w'=>match Z1w l step f s k with
   | .ok (s',k')=>ev = .returned (.tuple #[])∧RD w' p g cap rk l k' bl dp∧J s' k' w'∧Below p w w'∧k<k'∧k'<l.length
   | .error x=>Z04 l p a0 a1 w x ev w':=by
 have HST:=Z01 hstep
 have HJ:=Z01 hJ
 clear hstep hJ
 have HE:=Z01 hE
 unfold Z1w
 cases ho:step s k with
 | error x =>
  go_enter func118,ntmps118
  go_wp2_with fail
  refine (HST.out s k hlo hk w R hs E).mono ?_
  intro ev w1 hT
  rw [ho] at hT
  obtain ⟨t,h1,b,rfl,h2⟩:=hT
  have HF:Hid (Z04 l p a0 a1 w x (.panicked [{ v:=.iface 61 (.pointer (some ⟨b,0,none⟩)),recovered:=false }]) w1):=⟨t,h1,b,rfl,h2⟩
  clear ho R hs E h1 h2
  go_wp2_with fail
  exact ⟨rfl,HF.out⟩
 | ok y =>
  obtain ⟨s1,k1⟩:=y
  simp only
  obtain ⟨o,hoo⟩:∃ o,o=Z4q l step f s1 k1:=⟨_,rfl⟩
  rw [←hoo]
  have HOO:=Z01 hoo
  clear hoo
  go_enter func118,ntmps118
  go_wp2_with fail
  refine (HST.out s k hlo hk w R hs E).mono ?_
  intro ev w1 hT
  rw [ho] at hT
  obtain ⟨rfl,R1,hs1,hb1,hk1,hk1l⟩:=hT
  have H0:Hid (RD w1 p g cap rk l k1 bl dp∧J s1 k1 w1∧Below p w w1∧k<k1∧k1<l.length):=⟨R1,hs1,hb1,hk1,hk1l⟩
  have HEW:=Z01 E
  clear ho R R1 hs1 hb1 hk1 hk1l hs E hE
  go_wp2_with fail
  go_loopg [] f (fun gk wx => ∃ (s2:σ) (k2:Nat),RD wx p g cap rk l k2 bl dp∧J s2 k2 wx∧Below p w wx∧k<k2∧k2<l.length∧l.length - k2<gk∧Z4q l step gk s2 k2=o)
  case atStart =>
   obtain ⟨h1,h2,h3,h4,h5⟩:=H0.out
   exact ⟨s1,k1,h1,h2,h3,h4,h5,by omega,HOO.out.symm⟩
  case round =>
   obtain ⟨s2,k2,R2,hs2,hb2,hk2,hk2l,hgk,hpm⟩:=hrel
   obtain ⟨x,hx⟩:∃ x,l[k2]?=some x:=⟨l[k2],by simp [hk2l]⟩
   have HPM:=Z01 hpm
   have HX:=Z01 hx
   have hlp:=Z00 R2.blk
   have E2:=HEW.out.below hb2
   obtain ⟨gj,hgj⟩:∃ gj,gk=gj+1:=⟨gk - 1,by omega⟩
   have HGJ:=Z01 hgj
   have HMA:=Z01 (Z0r hx [Z8s])
   obtain ⟨m,hm⟩:∃ m,Z0i x [Z8s]=m:=⟨_,rfl⟩
   have HM:=Z01 hm
   clear hpm hgj hm H0
   go_wp2_with fail
   refine (Z0u R2 hx hl Z8s).mono ?_
   rintro ev w3 ⟨rfl,R3,K3⟩
   rw [HM.out] at R3 ⊢
   have hs3:=fun k' (hk':k2≤k')=>HJ.out s2 k2 k' wr w3 hk' hs2 K3
   have hb3:=hb2.trans K3.below
   have E3:=HEW.out.below hb3
   cases m
   ·have ho2:o = .ok (s2,k2):=by rw [←HPM.out,HGJ.out];exact Zm6 (by rw [HMA.out];exact HM.out)
    subst ho2
    have HF:Hid (RD w3 p g cap rk l k2 bl dp∧J s2 k2 w3∧Below p w w3∧k<k2∧k2<l.length):=⟨R3,hs3 k2 (Nat.le_refl _),hb3,hk2,hk2l⟩
    clear R2 hs2 hb2 R3 hs3 hb3 K3 E2 E3 HPM
    go_wp2_with fail
    go_end0
    exact ⟨rfl,HF.out.1,HF.out.2.1,HF.out.2.2.1⟩
   ·have hk3:k2+1<l.length:=hen.next HX.out HM.out
    have HMT:Hid (Z09 l k2 [Z8s]=true):=by show _=_;rw [HMA.out];exact HM.out
    have hE3:=HE.out
    have HC:=Z01 (HST.out s2 (k2+1) (by omega) hk3 w3 R3 (hs3 (k2+1) (by omega)) E3)
    cases ho3:step s2 (k2+1) with
    | error y =>
     have ho2:o = .error y:=by rw [←HPM.out,HGJ.out];exact Zqs HMT.out ho3
     subst ho2
     rw [ho3] at HC
     clear ho3 R2 hs2 R3 hs3 E2 E3 HPM
     go_wp2_with fail
     refine HC.out.mono ?_
     intro ev w4 hT
     obtain ⟨t,h1,b,rfl,h2⟩:=hT
     have HF:Hid (Z04 l p a0 a1 w y (.panicked [{ v:=.iface 61 (.pointer (some ⟨b,0,none⟩)),recovered:=false }]) w4):=Z04.after hb3 ⟨t,h1,b,rfl,h2⟩
     clear h1 h2 hb2 hb3 K3
     go_wp2_with fail
     exact ⟨rfl,HF.out⟩
    | ok y =>
     obtain ⟨s4,k4⟩:=y
     have HP4:Hid (Z4q l step gj s4 k4=o):=by show _=_;rw [←HPM.out,HGJ.out];exact (Zvb HMT.out ho3).symm
     rw [ho3] at HC
     clear ho3 R2 hs2 R3 hs3 E2 E3 HPM
     go_wp2_with fail
     refine HC.out.mono ?_
     intro ev w4 hT
     obtain ⟨rfl,R4,hs4,hb4,hk4,hk4l⟩:=hT
     have HF:Hid (RD w4 p g cap rk l k4 bl dp∧J s4 k4 w4∧Below p w w4):=⟨R4,hs4,hb3.trans hb4⟩
     clear R4 hs4 hb4 hb2 hb3 K3
     go_wp2_with fail
     go_roundg gj
     case measure=>have:=HGJ.out;omega
     case rel =>
      obtain ⟨h1,h2,h3⟩:=HF.out
      exact ⟨s4,k4,h1,h2,h3,by omega,hk4l,by have:=HGJ.out;omega,HP4.out⟩

def Z1g {σ:Type} (l:List (ByteArray × ByteArray × Nat)) (step:σ→Nat→Out σ) (closing:ByteArray) (f:Nat) (s:σ) (k:Nat):Out σ:=
 bif Z09 l k [closing] then .ok (s,k+1) else match Z1w l step f s k with
  | .error x=>.error x
  | .ok (s',k')=>bif Z09 l k' [closing] then .ok (s',k'+1) else .error (k',false)

set_option maxHeartbeats 1000000 in
theorem Zay {σ:Type} (K:FuncId) (caps:Array Value) (hE:∀ args w,(callFunc K args).run prog w = .ok (.enter K args) w) {p g cap:Nat}{rk:Value}{l:List (ByteArray × ByteArray × Nat)}{bl dp:Nat}{a0 a1:Addr} (J:σ→Nat→World→Prop) (hJ:∀ s k k' w w',k≤k'→J s k w→Keeps p w w'→J s k' w') (step:σ→Nat→Out σ)
  (lo:Nat) (hstep:∀ s k,lo≤k→k<l.length→Zjb K caps p g cap rk l bl dp a0 a1 J s k (step s k)) (hl:l.length≤100000) (hen:Z57 l) (closing:ByteArray) (s:σ) (k f:Nat) (hlo:lo≤k) (hk:k<l.length) (hf:l.length - k≤f) (w:World) (R:RD w p g cap rk l k bl dp) (hs:J s k w) (E:TErr p a0 a1 w) :
  Calls prog 116 #[.pointer (some ⟨p,0,none⟩),.string closing,.func (.func K) #[] caps] w fun ev w'=>match Z1g l step closing f s k with
   | .ok (s',k')=>ev = .returned (.tuple #[])∧RD w' p g cap rk l k' bl dp∧J s' k' w'∧Below p w w'∧k<k'∧k'<l.length
   | .error x=>Z04 l p a0 a1 w x ev w':=by
 obtain ⟨x,hx⟩:∃ x,l[k]?=some x:=⟨l[k],by simp [hk]⟩
 have HJ:=Z01 hJ
 have HST:=Z01 hstep
 have HX:=Z01 hx
 obtain ⟨m,hm⟩:∃ m,Z0i x [closing]=m:=⟨_,rfl⟩
 have hma:Z09 l k [closing]=m:=(Z0r hx [closing]).trans hm
 unfold Z1g
 rw [hma]
 have HM:=Z01 hm
 clear hJ hstep hm hma
 cases m
 ·simp only [cond_false]
  have HC:=Z01 (fun (w1:World) (R1:RD w1 p g cap rk l k bl dp) (h1:J s k w1) (E1:TErr p a0 a1 w1)=>Zbf K caps hE J HJ.out step lo HST.out hl hen s k f hlo hk hf w1 R1 h1 E1)
  cases ho:Z1w l step f s k with
  | error y =>
   rw [ho] at HC
   clear ho
   go_enter func116,ntmps116
   go_wp2_with fail
   refine (Z0u R hx hl closing).mono ?_
   rintro ev w1 ⟨rfl,R1,K1⟩
   rw [HM.out] at R1 ⊢
   have h1:=HJ.out s k k w w1 (Nat.le_refl _) hs K1
   have E1:=E.keeps K1
   have hR1:RD w1 p g cap rk l k bl dp:=by simpa using R1
   clear R R1 hs hx
   go_wp2_with fail
   refine (HC.out w1 hR1 h1 E1).mono ?_
   intro ev w2 hT
   obtain ⟨t,g1,b,rfl,g2⟩:=hT
   have HF:Hid (Z04 l p a0 a1 w y (.panicked [{ v:=.iface 61 (.pointer (some ⟨b,0,none⟩)),recovered:=false }]) w2):=Z04.after K1.below ⟨t,g1,b,rfl,g2⟩
   clear g1 g2 K1 hR1 h1 E1
   go_wp2_with fail
   exact ⟨rfl,HF.out⟩
  | ok y =>
   obtain ⟨s',k'⟩:=y
   simp only
   rw [ho] at HC
   clear ho
   obtain ⟨m2,hm2⟩:∃ m2,Z09 l k' [closing]=m2:=⟨_,rfl⟩
   rw [hm2]
   have HM2:=Z01 hm2
   clear hm2
   cases m2
   ·simp only [cond_false]
    go_enter func116,ntmps116
    go_wp2_with fail
    refine (Z0u R hx hl closing).mono ?_
    rintro ev w1 ⟨rfl,R1,K1⟩
    rw [HM.out] at R1 ⊢
    have h1:=HJ.out s k k w w1 (Nat.le_refl _) hs K1
    have E1:=E.keeps K1
    have hR1:RD w1 p g cap rk l k bl dp:=by simpa using R1
    clear R R1 hs hx
    go_wp2_with fail
    refine (HC.out w1 hR1 h1 E1).mono ?_
    intro ev w2 hT
    obtain ⟨rfl,R2,h2,hb2,hk2,hk2l⟩:=hT
    have hb2w:=K1.below.trans hb2
    have E2:=E.below hb2w
    obtain ⟨x2,hx2⟩:∃ x2,l[k']?=some x2:=⟨l[k'],by simp [hk2l]⟩
    have HX2:=Z01 hx2
    have hmm:=(Z0r hx2 [closing]).symm.trans HM2.out
    have HMM:=Z01 hmm
    clear hR1 h1 E1 hmm
    go_wp2_with fail
    refine (Z2q R2 E2 hx2 hl closing).mono ?_
    intro ev w3 hT
    rw [HMM.out] at hT
    have hT':Z04 l p a0 a1 w2 (k',false) ev w3:=by simpa using hT
    obtain ⟨t,g1,b,rfl,g2⟩:=hT'
    have HF:Hid (Z04 l p a0 a1 w (k',false) (.panicked [{ v:=.iface 61 (.pointer (some ⟨b,0,none⟩)),recovered:=false }]) w3):=Z04.after hb2w ⟨t,g1,b,rfl,g2⟩
    clear g1 g2 hT K1 R2 h2 hb2 hb2w E2 hx2
    go_wp2_with fail
    exact ⟨rfl,HF.out⟩
   ·simp only [cond_true]
    go_enter func116,ntmps116
    go_wp2_with fail
    refine (Z0u R hx hl closing).mono ?_
    rintro ev w1 ⟨rfl,R1,K1⟩
    rw [HM.out] at R1 ⊢
    have h1:=HJ.out s k k w w1 (Nat.le_refl _) hs K1
    have E1:=E.keeps K1
    have hR1:RD w1 p g cap rk l k bl dp:=by simpa using R1
    clear R R1 hs hx
    go_wp2_with fail
    refine (HC.out w1 hR1 h1 E1).mono ?_
    intro ev w2 hT
    obtain ⟨rfl,R2,h2,hb2,hk2,hk2l⟩:=hT
    have hb2w:=K1.below.trans hb2
    have E2:=E.below hb2w
    obtain ⟨x2,hx2⟩:∃ x2,l[k']?=some x2:=⟨l[k'],by simp [hk2l]⟩
    have HX2:=Z01 hx2
    have hmm:=(Z0r hx2 [closing]).symm.trans HM2.out
    have HMM:=Z01 hmm
    clear hR1 h1 E1 hmm
    go_wp2_with fail
    refine (Z2q R2 E2 hx2 hl closing).mono ?_
    intro ev w3 hT
    rw [HMM.out] at hT
    have hT':ev = .returned (.tuple #[])∧RD w3 p g cap rk l (k'+1) bl dp∧Keeps p w2 w3:=by simpa using hT
    obtain ⟨rfl,R3,K3⟩:=hT'
    have hk3:=hen.next HX2.out HMM.out
    have HF:Hid (RD w3 p g cap rk l (k'+1) bl dp∧J s' (k'+1) w3∧Below p w w3):=⟨R3,HJ.out s' k' (k'+1) w2 w3 (by omega) h2 K3,hb2w.trans K3.below⟩
    have hkk:k<k'+1:=by omega
    clear hT R2 R3 K3 K1 h2 hb2 hb2w E2 hx2
    go_wp2_with fail
    go_end0
    exact ⟨rfl,HF.out.1,HF.out.2.1,HF.out.2.2,hkk,hk3⟩
 ·simp only [cond_true]
  have hk3:=hen.next HX.out HM.out
  go_enter func116,ntmps116
  go_wp2_with fail
  refine (Z0u R hx hl closing).mono ?_
  rintro ev w1 ⟨rfl,R1,K1⟩
  rw [HM.out] at R1 ⊢
  have HF:Hid (RD w1 p g cap rk l (k+1) bl dp∧J s (k+1) w1∧Below p w w1):=⟨by simpa using R1,HJ.out s k (k+1) w w1 (by omega) hs K1,K1.below⟩
  clear R R1 hs hx K1
  go_wp2_with fail
  exact bodyPost_ret (v:=.tuple #[]) (by simp [results,Tryz.results116,go_sem]) rfl ⟨rfl,HF.out.1,HF.out.2.1,HF.out.2.2,by omega,hk3⟩
end Go.Proofs.YtflcohidmemfpaaGreatDoor
namespace Go.Proofs.YtflcohidmemfpaaGreatDoor
open Go.Proofs.Tryz
open Go.RowKit

theorem Z05 {w:World}{b:Nat}{u0 u1 u2 u3 u4:Value} (h:w.heap[b]?=some (.cells #[u0,u1,u2,u3,u4] 72)) :
  w.cell? ⟨b,0,none⟩=some u0∧w.cell? ⟨b,1,none⟩=some u1∧w.cell? ⟨b,2,none⟩=some u2∧w.cell? ⟨b,3,none⟩=some u3∧w.cell? ⟨b,4,none⟩=some u4 ∧ ∀ o,w.frozen? ⟨b,o,none⟩=false:=by
 refine ⟨?_,?_,?_,?_,?_,fun o=>by simp [World.frozen?,h]⟩
 ·rw [cell_of_row w b 0 _ _ _ h];rfl
 ·rw [cell_of_row w b 1 _ _ _ h];rfl
 ·rw [cell_of_row w b 2 _ _ _ h];rfl
 ·rw [cell_of_row w b 3 _ _ _ h];rfl
 ·rw [cell_of_row w b 4 _ _ _ h];rfl
def set5 (w:World) (b:Nat) (v0 v1 v2 v3 v4:Value):World:=((((w.setCell ⟨b,0,none⟩ v0).setCell ⟨b,1,none⟩ v1).setCell ⟨b,2,none⟩ v2).setCell ⟨b,3,none⟩ v3).setCell ⟨b,4,none⟩ v4
theorem Z63 {w:World}{b:Nat}{u0 u1 u2 u3 u4:Value}{fr:Nat × Nat} (h:w.heap[b]?=some (.cells #[u0,u1,u2,u3,u4] 72 fr)) (v0 v1 v2 v3 v4:Value):(set5 w b v0 v1 v2 v3 v4).heap[b]?=some (.cells #[v0,v1,v2,v3,v4] 72 fr):=by
 unfold set5
 rw [Z0a (Z0a (Z0a (Z0a (Z0a h))))]
 rfl
theorem Z5n {w:World}{b k:Nat} (h:k≠b) (v0 v1 v2 v3 v4:Value):(set5 w b v0 v1 v2 v3 v4).heap[k]?=w.heap[k]?:=by
 unfold set5
 rw [Z07 _ _ _ _ _ h,Z07 _ _ _ _ _ h,Z07 _ _ _ _ _ h,Z07 _ _ _ _ _ h,Z07 _ _ _ _ _ h]
theorem Z7a (w:World) (b:Nat) (v0 v1 v2 v3 v4:Value):(set5 w b v0 v1 v2 v3 v4).heap.size=w.heap.size:=by
 unfold set5
 simp only [Z1x]
theorem RD.set5 {w:World}{p g cap:Nat}{rk:Value}{l:List (ByteArray × ByteArray × Nat)}{k bl dp b:Nat} (R:RD w p g cap rk l k bl dp) (hp:p≠b) (hg:g≠b) (v0 v1 v2 v3 v4:Value):RD (Go.Proofs.YtflcohidmemfpaaGreatDoor.set5 w b v0 v1 v2 v3 v4) p g cap rk l k bl dp:=
 ((((R.other hp hg).other hp hg).other hp hg).other hp hg).other hp hg
theorem Keeps.set5 {p b:Nat}{w w':World} (h:Keeps p w w') (hp:p≤b) (hb:w.heap.size≤b) (v0 v1 v2 v3 v4:Value):Keeps p w (Go.Proofs.YtflcohidmemfpaaGreatDoor.set5 w' b v0 v1 v2 v3 v4):=
 ((((h.other hp hb).other hp hb).other hp hb).other hp hb).other hp hb
theorem Zcp {S:Nat→Prop}{w:World}{b:Nat} (h:¬ S b) (v0 v1 v2 v3 v4:Value):Z5i S w (set5 w b v0 v1 v2 v3 v4):=fun k hk _=>Z5n (b:=b) (k:=k) (fun e=>h (by rw [←e];exact hk)) _ _ _ _ _
theorem Z0b (f:Func) (r:Nat) (hr:f.results = #[.cell r 72]) (tmps:Array Value) (W:World) (b:Nat) (v0 v1 v2 v3 v4:Value) (h2:tmps[r]?.getD undef = .pointer (some ⟨b,0,none⟩)) (hb:W.heap[b]?=some (.cells #[v0,v1,v2,v3,v4] 72)) :
  (results f tmps).run prog W = .ok (.agg #[v0,v1,v2,v3,v4]) W:=by
 obtain ⟨c0,c1,c2,c3,c4,_⟩:=Z05 hb
 simp [results,hr,go_sem,h2,c0,c1,c2,c3,c4]

theorem Z2l.form {S:Nat→Prop}{w:World}{c0 c1 c2 c3 c4:Value}{e:DataW Unit} (h:Z2l S w [c0,c1,c2,c3,c4] e):∃ (op:ByteArray) (z:Int) (s:ByteArray) (pa:Option Addr) (pn pc:Nat) (la:Option Addr) (ln lc:Nat),c0 = .string op∧c1 = .int .i64 z∧c2 = .string s∧c3 = .slice pa pn pc∧c4 = .slice la ln lc:=by
 obtain ⟨n,hn⟩:=h
 cases n with
 | zero=>exact hn.elim
 | succ n =>
  obtain ⟨op,s,z,pl,el,pa,la,pc,lc,_,hcs,_,_⟩:=hn
  simp only [List.cons.injEq,and_true] at hcs
  exact ⟨op,z,s,pa,pl.length,pc,la,el.length,lc,hcs.1,hcs.2.1,hcs.2.2.1,hcs.2.2.2.1,hcs.2.2.2.2⟩

def Z0p (S:Nat→Prop) (p g cap:Nat) (rk:Value) (l:List (ByteArray × ByteArray × Nat)) (k bl dp:Nat) (a0 a1:Addr) (w:World) (o:Out (DataW Unit)) (ev:Ending) (w':World):Prop:=match o with
 | .ok (e,k') => ∃ c0 c1 c2 c3 c4,ev = .returned (.agg #[c0,c1,c2,c3,c4])∧Z2l S w' [c0,c1,c2,c3,c4] e∧RD w' p g cap rk l k' bl dp∧Keeps p w w'∧k<k'∧k'<l.length
 | .error x=>Z04 l p a0 a1 w x ev w'

set_option maxHeartbeats 2000000 in
set_option maxRecDepth 100000 in
theorem Z2o {p g cap:Nat}{rk:Value}{l:List (ByteArray × ByteArray × Nat)}{k bl:Nat}{a0 a1:Addr} (fv:Value) (hk:k<l.length) (w:World) (R:RD w p g cap rk l k bl 12) (E:TErr p a0 a1 w) :
  Calls prog 170 #[.pointer (some ⟨p,0,none⟩),fv] w fun ev w'=>Z04 l p a0 a1 w (k,true) ev w':=by
 obtain ⟨x,hx⟩:∃ x,l[k]?=some x:=⟨l[k],by simp [hk]⟩
 have hb0:Below w.heap.size w (w.alloc (.cells #[.string ⟨#[]⟩,.int .i64 0,.string ⟨#[]⟩,.slice none 0 0,.slice none 0 0] 72)):=(Below.refl _ _).alloc (Nat.le_refl _) _
 have hpl:=Z00 R.blk
 have R0:=R.more hb0
 have E0:=E.below (hb0.mono (by omega))
 obtain ⟨_,_,_,_,r4⟩:=R.cells
 have hg1:=E.g1
 have hgl:=Z02 E.g1
 have e12:((12:Nat):Int)=12:=rfl
 rw [e12] at r4
 go_enter func170,ntmps170
 go_wp2_with fail
 refine (Z4o R0 hx a1).mono ?_
 rintro ev w2 ⟨b,rfl,hbw,d0,d1⟩
 have HF:Hid (Z04 l p a0 a1 w (k,true) (.panicked [{ v:=.iface 61 (.pointer (some ⟨b,0,none⟩)),recovered:=false }]) w2):=⟨x,hx,b,rfl,(hb0.mono (by omega)).trans hbw,d0,d1⟩
 clear R0 hbw d0 d1 R E E0
 go_wp2_with fail
 exact ⟨rfl,HF.out⟩

theorem Z65 {S:Nat→Prop}{p g cap:Nat}{rk:Value}{l:List (ByteArray × ByteArray × Nat)}{k bl dp b:Nat}{w w4:World}{cs:List Value}{e:DataW Unit}{u0 u1 u2 u3 u4:Value} (hrep:Z2l S w4 cs e) (R:RD w4 p g cap rk l k bl dp) (K:Keeps p w w4) (hB:w4.heap[b]?=some (.cells #[u0,u1,u2,u3,u4] 72)) (hS:¬ S b) (hpb:p<b) (hwb:w.heap.size≤b) (hgb:g≠b) (v0 v1 v2 v3 v4:Value) :
  Z2l S (set5 w4 b v0 v1 v2 v3 v4) cs e∧RD (set5 w4 b v0 v1 v2 v3 v4) p g cap rk l k bl dp∧Keeps p w (set5 w4 b v0 v1 v2 v3 v4)∧(set5 w4 b v0 v1 v2 v3 v4).heap[b]?=some (.cells #[v0,v1,v2,v3,v4] 72):=
 ⟨hrep.same (Zcp hS _ _ _ _ _) (fun _ h _=>h),R.set5 (by omega) hgb _ _ _ _ _,K.set5 (by omega) hwb _ _ _ _ _,Z63 hB _ _ _ _ _⟩

theorem Zph {w:World}{p g cap:Nat}{rk:Value}{l:List (ByteArray × ByteArray × Nat)}{k bl dp:Nat} (R:RD w p g cap rk l k bl dp) {z:Int}{n:Nat} (hz:z=(n:Int)):RD (w.setCell ⟨p,4,none⟩ (.int .i64 z)) p g cap rk l k bl n:=by
 rw [hz]
 exact R.deep n

set_option maxHeartbeats 2000000 in
set_option maxRecDepth 100000 in
theorem Z4w (K:FuncId) (caps:Array Value) (hE:∀ args w,(callFunc K args).run prog w = .ok (.enter K args) w) {p g cap:Nat}{rk:Value}{l:List (ByteArray × ByteArray × Nat)}{k bl dp:Nat}{a0 a1:Addr} (hk:k+1<l.length) (hl:l.length≤100000) (hdp:dp<12) (w:World) (S:Nat→Prop) (hS:¬ S w.heap.size) (hSp:¬ S p) (o:Out (DataW Unit))
  (hK:∀ w1,RD w1 p g cap rk l (k+1) bl (dp+1)→Keeps p w w1→w.heap.size<w1.heap.size→TErr p a0 a1 w1→Calls prog K caps w1 fun ev w'=>Z0p S p g cap rk l (k+1) bl (dp+1) a0 a1 w1 o ev w')
  (R:RD w p g cap rk l k bl dp) (E:TErr p a0 a1 w) :
  Calls prog 170 #[.pointer (some ⟨p,0,none⟩),.func (.func K) #[] caps] w fun ev w'=>Z0p S p g cap rk l k bl dp a0 a1 w o ev w':=by
 obtain ⟨x,hx⟩:∃ x,l[k]?=some x:=⟨l[k],by simp [show k<l.length by omega]⟩
 have hb0:Below w.heap.size w (w.alloc (.cells #[.string ⟨#[]⟩,.int .i64 0,.string ⟨#[]⟩,.slice none 0 0,.slice none 0 0] 72)):=(Below.refl _ _).alloc (Nat.le_refl _) _
 have hpl:=Z00 R.blk
 have hgl:=R.gl
 have R0:=R.more hb0
 obtain ⟨_,_,_,_,r4⟩:=R.cells
 have hd12:((dp:Int) == 12)=false:=by simp;omega
 have hd0:(0:Int)≤(dp:Int):=by omega
 have hd1:(dp:Int)≤12:=by omega
 have HKK:=Z01 hK
 have HW:=Z01 (heap_alloc_new w (.cells #[.string ⟨#[]⟩,.int .i64 0,.string ⟨#[]⟩,.slice none 0 0,.slice none 0 0] 72))
 clear hK
 go_enter func170,ntmps170
 go_wp2_with fail
 refine (Z23 R0 hx hl).mono ?_
 rintro ev w1 ⟨rfl,R1,K1⟩
 have hK1:Keeps p w w1:=(Keeps.of hb0 (by omega)).trans K1
 have hB1:=(K1.block w.heap.size (by omega) (by simp)).trans HW.out
 obtain ⟨_,_,_,_,q4⟩:=R1.cells
 have qf:=R1.open_ 4
 have R2:RD (w1.setCell ⟨p,4,none⟩ (.int .i64 ((dp:Int)+1))) p g cap rk l (k+1) bl (dp+1):=Zph R1 (by omega)
 have K2:Keeps p w (w1.setCell ⟨p,4,none⟩ (.int .i64 ((dp:Int)+1))):=hK1.set
 have hB2:(w1.setCell ⟨p,4,none⟩ (.int .i64 ((dp:Int)+1))).heap[w.heap.size]?=_:=(Z07 _ _ _ _ _ (by omega)).trans hB1
 have hs2:w.heap.size<(w1.setCell ⟨p,4,none⟩ (.int .i64 ((dp:Int)+1))).heap.size:=Z00 hB2
 have HC:=Z01 (HKK.out _ R2 K2 hs2 (E.keeps K2))
 have H2:Hid (RD (w1.setCell ⟨p,4,none⟩ (.int .i64 ((dp:Int)+1))) p g cap rk l (k+1) bl (dp+1)∧Keeps p w (w1.setCell ⟨p,4,none⟩ (.int .i64 ((dp:Int)+1)))):=⟨R2,K2⟩
 have HB2:=Z01 hB2
 clear R R0 R1 K1 hK1 hB1 R2 K2 hB2 hx
 go_wp2_with fail
 generalize w1.setCell ⟨p,4,none⟩ (.int .i64 ((dp:Int)+1))=w2 at HC H2 HB2 hs2 ⊢
 obtain ⟨R2,K2⟩:=H2.out
 refine HC.out.mono ?_
 intro ev w3 hP
 unfold Z0p at hP
 cases o with
 | error y =>
  obtain ⟨t,g1,b,rfl,g2⟩:=hP
  have HF:Hid (Z0p S p g cap rk l k bl dp a0 a1 w (.error y) (.panicked [{ v:=.iface 61 (.pointer (some ⟨b,0,none⟩)),recovered:=false }]) w3):=Z04.after K2.below ⟨t,g1,b,rfl,g2⟩
  clear g1 g2 R2 K2 H2 HC
  go_wp2_with fail
  exact ⟨rfl,HF.out⟩
 | ok y =>
  obtain ⟨e,k'⟩:=y
  obtain ⟨c0,c1,c2,c3,c4,rfl,hrep,R3,K3,hk3,hk3l⟩:=hP
  obtain ⟨op,z,sx,pa,pn,pc,la,ln,lc,rfl,rfl,rfl,rfl,rfl⟩:=hrep.form
  have hB3:=(K3.block w.heap.size (by omega) hs2).trans HB2.out
  obtain ⟨_,_,_,_,s4⟩:=R3.cells
  have sf:=R3.open_ 4
  have hs3:=Z00 hB3
  have hp3:=Z00 R3.blk
  have HR:=Z01 (And.intro hrep (And.intro R3 (K2.trans K3)))
  have hd2:((dp+1:Nat):Int)=(dp:Int)+1:=by omega
  rw [hd2] at s4
  have R4:RD (w3.setCell ⟨p,4,none⟩ (.int .i64 (dp:Int))) p g cap rk l k' bl dp:=R3.deep dp
  have K4:Keeps p w (w3.setCell ⟨p,4,none⟩ (.int .i64 (dp:Int))):=(K2.trans K3).set
  have hrep4:Z2l S (w3.setCell ⟨p,4,none⟩ (.int .i64 (dp:Int))) _ e:=hrep.same (Z1z hSp) (fun b h _=>h)
  have hB4:(w3.setCell ⟨p,4,none⟩ (.int .i64 (dp:Int))).heap[w.heap.size]?=_:=(Z07 _ _ _ _ _ (by omega)).trans hB3
  have H4:Hid (Z2l S (w3.setCell ⟨p,4,none⟩ (.int .i64 (dp:Int))) [.string op,.int .i64 z,.string sx,.slice pa pn pc,.slice la ln lc] e∧RD (w3.setCell ⟨p,4,none⟩ (.int .i64 (dp:Int))) p g cap rk l k' bl dp∧Keeps p w (w3.setCell ⟨p,4,none⟩ (.int .i64 (dp:Int)))):=⟨hrep4,R4,K4⟩
  have HB4:=Z01 hB4
  obtain ⟨t0,t1,t2,t3,t4,tf⟩:=Z05 hB4
  have tf0:=tf 0
  have tf1:=tf 1
  have tf2:=tf 2
  have tf3:=tf 3
  have tf4:=tf 4
  have hs4:w.heap.size<(w3.setCell ⟨p,4,none⟩ (.int .i64 (dp:Int))).heap.size:=Z00 hB4
  have hsz4:=Z1x w3 ⟨p,4,none⟩ (.int .i64 (dp:Int))
  have HSZ:=Z01 hsz4
  clear R2 K2 R3 K3 hrep H2 HC HB2 HKK R4 K4 hrep4 hB4 hB3 tf hsz4 HR
  go_wp2_with fail
  generalize w3.setCell ⟨p,4,none⟩ (.int .i64 (dp:Int))=w4 at H4 HB4 hs4 ⊢
  obtain ⟨hrep,R4,K4⟩:=H4.out
  obtain ⟨f1,f2,f3,f4⟩:=Z65 hrep R4 K4 HB4.out hS (by omega) (Nat.le_refl _) (by omega) (.string op) (.int .i64 z) (.string sx) (.slice pa pn pc) (.slice la ln lc)
  have hba:Below (set5 w4 w.heap.size (.string op) (.int .i64 z) (.string sx) (.slice pa pn pc) (.slice la ln lc)).heap.size (set5 w4 w.heap.size (.string op) (.int .i64 z) (.string sx) (.slice pa pn pc) (.slice la ln lc)) ((set5 w4 w.heap.size (.string op) (.int .i64 z) (.string sx) (.slice pa pn pc) (.slice la ln lc)).alloc (.cells #[.string op,.int .i64 z,.string sx,.slice pa pn pc,.slice la ln lc] 72)):=(Below.refl _ _).alloc (Nat.le_refl _) _
  refine bodyPost_ret (Z0b _ 4 rfl _ _ w.heap.size _ _ _ _ _ rfl ((hba.block _ (Z00 f4)).trans f4)) rfl ?_
  exact ⟨_,_,_,_,_,rfl,f1.same (Z06 hba) (fun b h _=>h),f2.more hba,f3.trans (Keeps.of hba (by have:=Z00 f2.blk;omega)),by omega,hk3l⟩
end Go.Proofs.YtflcohidmemfpaaGreatDoor
