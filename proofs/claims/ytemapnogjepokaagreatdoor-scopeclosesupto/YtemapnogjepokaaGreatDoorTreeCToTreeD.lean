/- Package tree: name, deeper, closed, by contracts over what they are handed. -/
import Derived.Test.YtemapnogjepokaaGreatDoorTreeB
namespace Go.Proofs.YtemapnogjepokaaGreatDoor
open Go.RowKit

theorem expr_block {w:World}{b:Nat}{u0 u1 u2 u3 u4:Value}(h:w.heap[b]?=some (.cells #[u0,u1,u2,u3,u4] 72)) :
  w.cell? ⟨b,0,none⟩=some u0∧w.cell? ⟨b,1,none⟩=some u1∧w.cell? ⟨b,2,none⟩=some u2∧w.cell? ⟨b,3,none⟩=some u3∧w.cell? ⟨b,4,none⟩=some u4 ∧ ∀ o,w.frozen? ⟨b,o,none⟩=false:=by
 refine ⟨?_,?_,?_,?_,?_,fun o=>by simp [World.frozen?,h]⟩
 ·rw [cell_of_row w b 0 _ _ _ h];rfl
 ·rw [cell_of_row w b 1 _ _ _ h];rfl
 ·rw [cell_of_row w b 2 _ _ _ h];rfl
 ·rw [cell_of_row w b 3 _ _ _ h];rfl
 ·rw [cell_of_row w b 4 _ _ _ h];rfl
def set5 (w:World) (b:Nat) (v0 v1 v2 v3 v4:Value):World:=((((w.setCell ⟨b,0,none⟩ v0).setCell ⟨b,1,none⟩ v1).setCell ⟨b,2,none⟩ v2).setCell ⟨b,3,none⟩ v3).setCell ⟨b,4,none⟩ v4
theorem set5_block {w:World}{b:Nat}{u0 u1 u2 u3 u4:Value}{fr:Nat × Nat}(h:w.heap[b]?=some (.cells #[u0,u1,u2,u3,u4] 72 fr)) (v0 v1 v2 v3 v4:Value):(set5 w b v0 v1 v2 v3 v4).heap[b]?=some (.cells #[v0,v1,v2,v3,v4] 72 fr):=by
 unfold set5
 rw [heap_set_same (heap_set_same (heap_set_same (heap_set_same (heap_set_same h))))]
 rfl
theorem set5_other {w:World}{b k:Nat}(h:k≠b) (v0 v1 v2 v3 v4:Value):(set5 w b v0 v1 v2 v3 v4).heap[k]?=w.heap[k]?:=by
 unfold set5
 rw [heap_set _ _ _ _ _ h,heap_set _ _ _ _ _ h,heap_set _ _ _ _ _ h,heap_set _ _ _ _ _ h,heap_set _ _ _ _ _ h]
theorem set5_size (w:World) (b:Nat) (v0 v1 v2 v3 v4:Value):(set5 w b v0 v1 v2 v3 v4).heap.size=w.heap.size:=by
 unfold set5
 simp only [size_set]
theorem RD.set5 {w:World}{p g cap:Nat}{rk:Value}{l:List (ByteArray × ByteArray × Nat)}{k bl dp b:Nat}(R:RD w p g cap rk l k bl dp) (hp:p≠b) (hg:g≠b) (v0 v1 v2 v3 v4:Value):RD (Go.Proofs.YtemapnogjepokaaGreatDoor.set5 w b v0 v1 v2 v3 v4) p g cap rk l k bl dp:=
 ((((R.other hp hg).other hp hg).other hp hg).other hp hg).other hp hg
theorem Keeps.set5 {p b:Nat}{w w':World}(h:Keeps p w w') (hp:p≤b) (hb:w.heap.size≤b) (v0 v1 v2 v3 v4:Value):Keeps p w (Go.Proofs.YtemapnogjepokaaGreatDoor.set5 w' b v0 v1 v2 v3 v4):=
 ((((h.other hp hb).other hp hb).other hp hb).other hp hb).other hp hb
theorem same_set5 {S:Nat→Prop}{w:World}{b:Nat}(h:¬ S b) (v0 v1 v2 v3 v4:Value):Same S w (set5 w b v0 v1 v2 v3 v4):=fun k hk _=>set5_other (b:=b) (k:=k) (fun e=>h (by rw [←e];exact hk)) _ _ _ _ _
theorem results_expr (f:Func) (r:Nat) (hr:f.results = #[.cell r 72]) (tmps:Array Value) (W:World) (b:Nat) (v0 v1 v2 v3 v4:Value) (h2:tmps[r]?.getD undef = .pointer (some ⟨b,0,none⟩)) (hb:W.heap[b]?=some (.cells #[v0,v1,v2,v3,v4] 72)) :
  (results f tmps).run Tryz.prog W = .ok (.agg #[v0,v1,v2,v3,v4]) W:=by
 obtain ⟨c0,c1,c2,c3,c4,_⟩:=expr_block hb
 simp [results,hr,go_sem,h2,c0,c1,c2,c3,c4]

theorem RepE.form {S:Nat→Prop}{w:World}{c0 c1 c2 c3 c4:Value}{e:DataW Unit}(h:RepE S w [c0,c1,c2,c3,c4] e):∃ (op:ByteArray) (z:Int) (s:ByteArray) (pa:Option Addr) (pn pc:Nat) (la:Option Addr) (ln lc:Nat),c0 = .string op∧c1 = .int .i64 z∧c2 = .string s∧c3 = .slice pa pn pc∧c4 = .slice la ln lc:=by
 obtain ⟨n,hn⟩:=h
 cases n with
 | zero=>exact hn.elim
 | succ n =>
  obtain ⟨op,s,z,pl,el,pa,la,pc,lc,_,hcs,_,_⟩:=hn
  simp only [List.cons.injEq,and_true] at hcs
  exact ⟨op,z,s,pa,pl.length,pc,la,el.length,lc,hcs.1,hcs.2.1,hcs.2.2.1,hcs.2.2.2.1,hcs.2.2.2.2⟩

def PostE (S:Nat→Prop) (p g cap:Nat) (rk:Value) (l:List (ByteArray × ByteArray × Nat)) (k bl dp:Nat) (a0 a1:Addr) (w:World) (o:Out (DataW Unit)) (ev:Ending) (w':World):Prop:=match o with
 | .ok (e,k') => ∃ c0 c1 c2 c3 c4,ev = .returned (.agg #[c0,c1,c2,c3,c4])∧RepE S w' [c0,c1,c2,c3,c4] e∧RD w' p g cap rk l k' bl dp∧Keeps p w w'∧k<k'∧k'<l.length
 | .error x=>faultAt l p a0 a1 w x ev w'

set_option maxHeartbeats 2000000 in
set_option maxRecDepth 100000 in
theorem deeper_bound {p g cap:Nat}{rk:Value}{l:List (ByteArray × ByteArray × Nat)}{k bl:Nat}{a0 a1:Addr}(fv:Value) (hk:k<l.length) (w:World) (R:RD w p g cap rk l k bl 12) (E:TErr p a0 a1 w) :
  Calls Tryz.prog 170 #[.pointer (some ⟨p,0,none⟩),fv] w fun ev w'=>faultAt l p a0 a1 w (k,true) ev w':=by
 obtain ⟨x,hx⟩:∃ x,l[k]?=some x:=⟨l[k],by simp [hk]⟩
 have hb0:Below w.heap.size w (w.alloc (.cells #[.string ⟨#[]⟩,.int .i64 0,.string ⟨#[]⟩,.slice none 0 0,.slice none 0 0] 72)):=(Below.refl _ _).alloc (Nat.le_refl _) _
 have hpl:=lt_of_heap R.blk
 have R0:=R.more hb0
 have E0:=E.below (hb0.mono (by omega))
 obtain ⟨_,_,_,_,r4⟩:=R.cells
 have hg1:=E.g1
 have hgl:=lt_of_cell E.g1
 have e12:((12:Nat):Int)=12:=rfl
 rw [e12] at r4
 go_enter Tryz.func170,Tryz.ntmps170
 go_wp2_with fail
 refine (tthrow_any R0 hx a1).mono ?_
 rintro ev w2 ⟨b,rfl,hbw,d0,d1⟩
 have HF:Hid (faultAt l p a0 a1 w (k,true) (.panicked [{ v:=.iface 61 (.pointer (some ⟨b,0,none⟩)),recovered:=false }]) w2):=⟨x,hx,b,rfl,(hb0.mono (by omega)).trans hbw,d0,d1⟩
 clear R0 hbw d0 d1 R E E0
 go_wp2_with fail
 exact ⟨rfl,HF.out⟩

theorem laid5 {S:Nat→Prop}{p g cap:Nat}{rk:Value}{l:List (ByteArray × ByteArray × Nat)}{k bl dp b:Nat}{w w4:World}{cs:List Value}{e:DataW Unit}{u0 u1 u2 u3 u4:Value}(hrep:RepE S w4 cs e) (R:RD w4 p g cap rk l k bl dp) (K:Keeps p w w4) (hB:w4.heap[b]?=some (.cells #[u0,u1,u2,u3,u4] 72)) (hS:¬ S b) (hpb:p<b) (hwb:w.heap.size≤b) (hgb:g≠b) (v0 v1 v2 v3 v4:Value) :
  RepE S (set5 w4 b v0 v1 v2 v3 v4) cs e∧RD (set5 w4 b v0 v1 v2 v3 v4) p g cap rk l k bl dp∧Keeps p w (set5 w4 b v0 v1 v2 v3 v4)∧(set5 w4 b v0 v1 v2 v3 v4).heap[b]?=some (.cells #[v0,v1,v2,v3,v4] 72):=
 ⟨hrep.same (same_set5 hS _ _ _ _ _) (fun _ h _=>h),R.set5 (by omega) hgb _ _ _ _ _,K.set5 (by omega) hwb _ _ _ _ _,set5_block hB _ _ _ _ _⟩

theorem rd_deep {w:World}{p g cap:Nat}{rk:Value}{l:List (ByteArray × ByteArray × Nat)}{k bl dp:Nat}(R:RD w p g cap rk l k bl dp) {z:Int}{n:Nat}(hz:z=(n:Int)):RD (w.setCell ⟨p,4,none⟩ (.int .i64 z)) p g cap rk l k bl n:=by
 rw [hz]
 exact R.deep n

set_option maxHeartbeats 2000000 in
set_option maxRecDepth 100000 in
theorem deeper_go (K:FuncId) (caps:Array Value) (hE:∀ args w,(callFunc K args).run Tryz.prog w = .ok (.enter K args) w) {p g cap:Nat}{rk:Value}{l:List (ByteArray × ByteArray × Nat)}{k bl dp:Nat}{a0 a1:Addr}(hk:k+1<l.length) (hl:l.length≤100000) (hdp:dp<12) (w:World) (S:Nat→Prop) (hS:¬ S w.heap.size) (hSp:¬ S p) (o:Out (DataW Unit))
  (hK:∀ w1,RD w1 p g cap rk l (k+1) bl (dp+1)→Keeps p w w1→w.heap.size<w1.heap.size→TErr p a0 a1 w1→Calls Tryz.prog K caps w1 fun ev w'=>PostE S p g cap rk l (k+1) bl (dp+1) a0 a1 w1 o ev w')
  (R:RD w p g cap rk l k bl dp) (E:TErr p a0 a1 w) :
  Calls Tryz.prog 170 #[.pointer (some ⟨p,0,none⟩),.func (.func K) #[] caps] w fun ev w'=>PostE S p g cap rk l k bl dp a0 a1 w o ev w':=by
 obtain ⟨x,hx⟩:∃ x,l[k]?=some x:=⟨l[k],by simp [show k<l.length by omega]⟩
 have hb0:Below w.heap.size w (w.alloc (.cells #[.string ⟨#[]⟩,.int .i64 0,.string ⟨#[]⟩,.slice none 0 0,.slice none 0 0] 72)):=(Below.refl _ _).alloc (Nat.le_refl _) _
 have hpl:=lt_of_heap R.blk
 have hgl:=R.gl
 have R0:=R.more hb0
 obtain ⟨_,_,_,_,r4⟩:=R.cells
 have hd12:((dp:Int) == 12)=false:=by simp;omega
 have hd0:(0:Int)≤(dp:Int):=by omega
 have hd1:(dp:Int)≤12:=by omega
 have HKK:=toHid hK
 have HW:=toHid (heap_alloc_new w (.cells #[.string ⟨#[]⟩,.int .i64 0,.string ⟨#[]⟩,.slice none 0 0,.slice none 0 0] 72))
 clear hK
 go_enter Tryz.func170,Tryz.ntmps170
 go_wp2_with fail
 refine (tpass_any R0 hx hl).mono ?_
 rintro ev w1 ⟨rfl,R1,K1⟩
 have hK1:Keeps p w w1:=(Keeps.of hb0 (by omega)).trans K1
 have hB1:=(K1.block w.heap.size (by omega) (by simp)).trans HW.out
 obtain ⟨_,_,_,_,q4⟩:=R1.cells
 have qf:=R1.open_ 4
 have R2:RD (w1.setCell ⟨p,4,none⟩ (.int .i64 ((dp:Int)+1))) p g cap rk l (k+1) bl (dp+1):=rd_deep R1 (by omega)
 have K2:Keeps p w (w1.setCell ⟨p,4,none⟩ (.int .i64 ((dp:Int)+1))):=hK1.set
 have hB2:(w1.setCell ⟨p,4,none⟩ (.int .i64 ((dp:Int)+1))).heap[w.heap.size]?=_:=(heap_set _ _ _ _ _ (by omega)).trans hB1
 have hs2:w.heap.size<(w1.setCell ⟨p,4,none⟩ (.int .i64 ((dp:Int)+1))).heap.size:=lt_of_heap hB2
 have HC:=toHid (HKK.out _ R2 K2 hs2 (E.keeps K2))
 have H2:Hid (RD (w1.setCell ⟨p,4,none⟩ (.int .i64 ((dp:Int)+1))) p g cap rk l (k+1) bl (dp+1)∧Keeps p w (w1.setCell ⟨p,4,none⟩ (.int .i64 ((dp:Int)+1)))):=⟨R2,K2⟩
 have HB2:=toHid hB2
 clear R R0 R1 K1 hK1 hB1 R2 K2 hB2 hx
 go_wp2_with fail
 generalize w1.setCell ⟨p,4,none⟩ (.int .i64 ((dp:Int)+1))=w2 at HC H2 HB2 hs2 ⊢
 obtain ⟨R2,K2⟩:=H2.out
 refine HC.out.mono ?_
 intro ev w3 hP
 unfold PostE at hP
 cases o with
 | error y =>
  obtain ⟨t,g1,b,rfl,g2⟩:=hP
  have HF:Hid (PostE S p g cap rk l k bl dp a0 a1 w (.error y) (.panicked [{ v:=.iface 61 (.pointer (some ⟨b,0,none⟩)),recovered:=false }]) w3):=faultAt.after K2.below ⟨t,g1,b,rfl,g2⟩
  clear g1 g2 R2 K2 H2 HC
  go_wp2_with fail
  exact ⟨rfl,HF.out⟩
 | ok y =>
  obtain ⟨e,k'⟩:=y
  obtain ⟨c0,c1,c2,c3,c4,rfl,hrep,R3,K3,hk3,hk3l⟩:=hP
  obtain ⟨op,z,sx,pa,pn,pc,la,ln,lc,rfl,rfl,rfl,rfl,rfl⟩:=hrep.form
  have hB3:=(K3.block w.heap.size (by omega) hs2).trans HB2.out
  obtain ⟨_,_,_,_,s4⟩:=R3.cells
  have sf:=R3.open_ 4
  have hs3:=lt_of_heap hB3
  have hp3:=lt_of_heap R3.blk
  have HR:=toHid (And.intro hrep (And.intro R3 (K2.trans K3)))
  have hd2:((dp+1:Nat):Int)=(dp:Int)+1:=by omega
  rw [hd2] at s4
  have R4:RD (w3.setCell ⟨p,4,none⟩ (.int .i64 (dp:Int))) p g cap rk l k' bl dp:=R3.deep dp
  have K4:Keeps p w (w3.setCell ⟨p,4,none⟩ (.int .i64 (dp:Int))):=(K2.trans K3).set
  have hrep4:RepE S (w3.setCell ⟨p,4,none⟩ (.int .i64 (dp:Int))) _ e:=hrep.same (same_set hSp) (fun b h _=>h)
  have hB4:(w3.setCell ⟨p,4,none⟩ (.int .i64 (dp:Int))).heap[w.heap.size]?=_:=(heap_set _ _ _ _ _ (by omega)).trans hB3
  have H4:Hid (RepE S (w3.setCell ⟨p,4,none⟩ (.int .i64 (dp:Int))) [.string op,.int .i64 z,.string sx,.slice pa pn pc,.slice la ln lc] e∧RD (w3.setCell ⟨p,4,none⟩ (.int .i64 (dp:Int))) p g cap rk l k' bl dp∧Keeps p w (w3.setCell ⟨p,4,none⟩ (.int .i64 (dp:Int)))):=⟨hrep4,R4,K4⟩
  have HB4:=toHid hB4
  obtain ⟨t0,t1,t2,t3,t4,tf⟩:=expr_block hB4
  have tf0:=tf 0
  have tf1:=tf 1
  have tf2:=tf 2
  have tf3:=tf 3
  have tf4:=tf 4
  have hs4:w.heap.size<(w3.setCell ⟨p,4,none⟩ (.int .i64 (dp:Int))).heap.size:=lt_of_heap hB4
  have hsz4:=size_set w3 ⟨p,4,none⟩ (.int .i64 (dp:Int))
  have HSZ:=toHid hsz4
  clear R2 K2 R3 K3 hrep H2 HC HB2 HKK R4 K4 hrep4 hB4 hB3 tf hsz4 HR
  go_wp2_with fail
  generalize w3.setCell ⟨p,4,none⟩ (.int .i64 (dp:Int))=w4 at H4 HB4 hs4 ⊢
  obtain ⟨hrep,R4,K4⟩:=H4.out
  obtain ⟨f1,f2,f3,f4⟩:=laid5 hrep R4 K4 HB4.out hS (by omega) (Nat.le_refl _) (by omega) (.string op) (.int .i64 z) (.string sx) (.slice pa pn pc) (.slice la ln lc)
  have hba:Below (set5 w4 w.heap.size (.string op) (.int .i64 z) (.string sx) (.slice pa pn pc) (.slice la ln lc)).heap.size (set5 w4 w.heap.size (.string op) (.int .i64 z) (.string sx) (.slice pa pn pc) (.slice la ln lc)) ((set5 w4 w.heap.size (.string op) (.int .i64 z) (.string sx) (.slice pa pn pc) (.slice la ln lc)).alloc (.cells #[.string op,.int .i64 z,.string sx,.slice pa pn pc,.slice la ln lc] 72)):=(Below.refl _ _).alloc (Nat.le_refl _) _
  refine bodyPost_ret (results_expr _ 4 rfl _ _ w.heap.size _ _ _ _ _ rfl ((hba.block _ (lt_of_heap f4)).trans f4)) rfl ?_
  exact ⟨_,_,_,_,_,rfl,f1.same (same_below hba) (fun b h _=>h),f2.more hba,f3.trans (Keeps.of hba (by have:=lt_of_heap f2.blk;omega)),by omega,hk3l⟩
end Go.Proofs.YtemapnogjepokaaGreatDoor

/- Package tree: calls of its reader that hand a term on, by contracts over what they call. -/
namespace Go.Proofs.YtemapnogjepokaaGreatDoor
open Go.RowKit

def kLambda:ByteArray:=⟨#[108,97,109,98,100,97]⟩
def kNot:ByteArray:=⟨#[110,111,116]⟩
def kMinus:ByteArray:=⟨#[45]⟩
def kNeg:ByteArray:=⟨#[110,101,103]⟩
def rankOps:Nat→List ByteArray
 | 0 => [kLambda]
 | 1 => [⟨#[111,114]⟩]
 | 2 => [⟨#[97,110,100]⟩]
 | 3 => [kNot]
 | 4 => [⟨#[61,61]⟩,⟨#[33,61]⟩,⟨#[60]⟩,⟨#[60,61]⟩,⟨#[62]⟩,⟨#[62,61]⟩,⟨#[105,115]⟩,⟨#[105,110]⟩]
 | 5 => [⟨#[43]⟩,⟨#[45]⟩]
 | 6 => [⟨#[42]⟩,⟨#[47,47]⟩,⟨#[37]⟩]
 | _ => [⟨#[110,101,103]⟩]
def RK (p:Nat) (rk:Value) (w:World):Prop:=∃ rb c,rk = .slice (some ⟨rb,0,none⟩) 8 c∧rb≠p ∧ ∀ i,i<8 → ∃ b c',w.cell? ⟨rb,i,none⟩=some (.slice (some ⟨b,0,none⟩) (rankOps i).length c')∧b≠p∧TS w b 0 (rankOps i)
theorem RK.keeps {p:Nat}{rk:Value}{w w':World}(h:RK p rk w) (K:Keeps p w w'):RK p rk w':=by
 obtain ⟨rb,c,e,hn,hx⟩:=h
 refine ⟨rb,c,e,hn,fun i hi => ?_⟩
 obtain ⟨b,c',h1,h2,h3⟩:=hx i hi
 exact ⟨b,c',K.cell hn h1,h2,h3.keeps K h2⟩

def ReadsE (f:FuncId) (args:Array Value) (p g cap:Nat) (rk:Value) (l:List (ByteArray × ByteArray × Nat)) (k bl dp:Nat) (a0 a1:Addr) (o:Out (DataW Unit)):Prop:=
 ∀ w,RD w p g cap rk l k bl dp→TErr p a0 a1 w→RK p rk w→Calls Tryz.prog f args w fun ev w'=>PostE (fun b=>w.heap.size≤b) p g cap rk l k bl dp a0 a1 w o ev w'

set_option maxHeartbeats 2000000 in
set_option maxRecDepth 100000 in
theorem deeper_go' (K:FuncId) (caps:Array Value) (hE:∀ args w,(callFunc K args).run Tryz.prog w = .ok (.enter K args) w) {p g cap:Nat}{rk:Value}{l:List (ByteArray × ByteArray × Nat)}{k bl dp:Nat}{a0 a1:Addr}(hk:k+1<l.length) (hl:l.length≤100000) (hdp:dp<12) (w:World) (S:Nat→Prop) (hS:¬ S w.heap.size) (hSp:¬ S p) (o:Out (DataW Unit))
  (hK:∀ w1,RD w1 p g cap rk l (k+1) bl (dp+1)→Keeps p w w1→w.heap.size<w1.heap.size→TErr p a0 a1 w1→Calls Tryz.prog K caps w1 fun ev w'=>PostE S p g cap rk l (k+1) bl (dp+1) a0 a1 w1 o ev w')
  (R:RD w p g cap rk l k bl dp) (E:TErr p a0 a1 w) :
  Calls Tryz.prog 170 #[.pointer (some ⟨p,0,none⟩),.func (.func K) caps #[]] w fun ev w'=>PostE S p g cap rk l k bl dp a0 a1 w o ev w':=by
 obtain ⟨x,hx⟩:∃ x,l[k]?=some x:=⟨l[k],by simp [show k<l.length by omega]⟩
 have hb0:Below w.heap.size w (w.alloc (.cells #[.string ⟨#[]⟩,.int .i64 0,.string ⟨#[]⟩,.slice none 0 0,.slice none 0 0] 72)):=(Below.refl _ _).alloc (Nat.le_refl _) _
 have hpl:=lt_of_heap R.blk
 have hgl:=R.gl
 have R0:=R.more hb0
 obtain ⟨_,_,_,_,r4⟩:=R.cells
 have hd12:((dp:Int) == 12)=false:=by simp;omega
 have hd0:(0:Int)≤(dp:Int):=by omega
 have hd1:(dp:Int)≤12:=by omega
 have HKK:=toHid hK
 have HW:=toHid (heap_alloc_new w (.cells #[.string ⟨#[]⟩,.int .i64 0,.string ⟨#[]⟩,.slice none 0 0,.slice none 0 0] 72))
 clear hK
 go_enter Tryz.func170,Tryz.ntmps170
 go_wp2_with fail
 refine (tpass_any R0 hx hl).mono ?_
 rintro ev w1 ⟨rfl,R1,K1⟩
 have hK1:Keeps p w w1:=(Keeps.of hb0 (by omega)).trans K1
 have hB1:=(K1.block w.heap.size (by omega) (by simp)).trans HW.out
 obtain ⟨_,_,_,_,q4⟩:=R1.cells
 have qf:=R1.open_ 4
 have R2:RD (w1.setCell ⟨p,4,none⟩ (.int .i64 ((dp:Int)+1))) p g cap rk l (k+1) bl (dp+1):=rd_deep R1 (by omega)
 have K2:Keeps p w (w1.setCell ⟨p,4,none⟩ (.int .i64 ((dp:Int)+1))):=hK1.set
 have hB2:(w1.setCell ⟨p,4,none⟩ (.int .i64 ((dp:Int)+1))).heap[w.heap.size]?=_:=(heap_set _ _ _ _ _ (by omega)).trans hB1
 have hs2:w.heap.size<(w1.setCell ⟨p,4,none⟩ (.int .i64 ((dp:Int)+1))).heap.size:=lt_of_heap hB2
 have HC:=toHid (HKK.out _ R2 K2 hs2 (E.keeps K2))
 have H2:Hid (RD (w1.setCell ⟨p,4,none⟩ (.int .i64 ((dp:Int)+1))) p g cap rk l (k+1) bl (dp+1)∧Keeps p w (w1.setCell ⟨p,4,none⟩ (.int .i64 ((dp:Int)+1)))):=⟨R2,K2⟩
 have HB2:=toHid hB2
 clear R R0 R1 K1 hK1 hB1 R2 K2 hB2 hx
 go_wp2_with fail
 generalize w1.setCell ⟨p,4,none⟩ (.int .i64 ((dp:Int)+1))=w2 at HC H2 HB2 hs2 ⊢
 obtain ⟨R2,K2⟩:=H2.out
 refine HC.out.mono ?_
 intro ev w3 hP
 unfold PostE at hP
 cases o with
 | error y =>
  obtain ⟨t,g1,b,rfl,g2⟩:=hP
  have HF:Hid (PostE S p g cap rk l k bl dp a0 a1 w (.error y) (.panicked [{ v:=.iface 61 (.pointer (some ⟨b,0,none⟩)),recovered:=false }]) w3):=faultAt.after K2.below ⟨t,g1,b,rfl,g2⟩
  clear g1 g2 R2 K2 H2 HC
  go_wp2_with fail
  exact ⟨rfl,HF.out⟩
 | ok y =>
  obtain ⟨e,k'⟩:=y
  obtain ⟨c0,c1,c2,c3,c4,rfl,hrep,R3,K3,hk3,hk3l⟩:=hP
  obtain ⟨op,z,sx,pa,pn,pc,la,ln,lc,rfl,rfl,rfl,rfl,rfl⟩:=hrep.form
  have hB3:=(K3.block w.heap.size (by omega) hs2).trans HB2.out
  obtain ⟨_,_,_,_,s4⟩:=R3.cells
  have sf:=R3.open_ 4
  have hs3:=lt_of_heap hB3
  have hp3:=lt_of_heap R3.blk
  have HR:=toHid (And.intro hrep (And.intro R3 (K2.trans K3)))
  have hd2:((dp+1:Nat):Int)=(dp:Int)+1:=by omega
  rw [hd2] at s4
  have R4:RD (w3.setCell ⟨p,4,none⟩ (.int .i64 (dp:Int))) p g cap rk l k' bl dp:=R3.deep dp
  have K4:Keeps p w (w3.setCell ⟨p,4,none⟩ (.int .i64 (dp:Int))):=(K2.trans K3).set
  have hrep4:RepE S (w3.setCell ⟨p,4,none⟩ (.int .i64 (dp:Int))) _ e:=hrep.same (same_set hSp) (fun b h _=>h)
  have hB4:(w3.setCell ⟨p,4,none⟩ (.int .i64 (dp:Int))).heap[w.heap.size]?=_:=(heap_set _ _ _ _ _ (by omega)).trans hB3
  have H4:Hid (RepE S (w3.setCell ⟨p,4,none⟩ (.int .i64 (dp:Int))) [.string op,.int .i64 z,.string sx,.slice pa pn pc,.slice la ln lc] e∧RD (w3.setCell ⟨p,4,none⟩ (.int .i64 (dp:Int))) p g cap rk l k' bl dp∧Keeps p w (w3.setCell ⟨p,4,none⟩ (.int .i64 (dp:Int)))):=⟨hrep4,R4,K4⟩
  have HB4:=toHid hB4
  obtain ⟨t0,t1,t2,t3,t4,tf⟩:=expr_block hB4
  have tf0:=tf 0
  have tf1:=tf 1
  have tf2:=tf 2
  have tf3:=tf 3
  have tf4:=tf 4
  have hs4:w.heap.size<(w3.setCell ⟨p,4,none⟩ (.int .i64 (dp:Int))).heap.size:=lt_of_heap hB4
  have hsz4:=size_set w3 ⟨p,4,none⟩ (.int .i64 (dp:Int))
  have HSZ:=toHid hsz4
  clear R2 K2 R3 K3 hrep H2 HC HB2 HKK R4 K4 hrep4 hB4 hB3 tf hsz4 HR
  go_wp2_with fail
  generalize w3.setCell ⟨p,4,none⟩ (.int .i64 (dp:Int))=w4 at H4 HB4 hs4 ⊢
  obtain ⟨hrep,R4,K4⟩:=H4.out
  obtain ⟨f1,f2,f3,f4⟩:=laid5 hrep R4 K4 HB4.out hS (by omega) (Nat.le_refl _) (by omega) (.string op) (.int .i64 z) (.string sx) (.slice pa pn pc) (.slice la ln lc)
  have hba:Below (set5 w4 w.heap.size (.string op) (.int .i64 z) (.string sx) (.slice pa pn pc) (.slice la ln lc)).heap.size (set5 w4 w.heap.size (.string op) (.int .i64 z) (.string sx) (.slice pa pn pc) (.slice la ln lc)) ((set5 w4 w.heap.size (.string op) (.int .i64 z) (.string sx) (.slice pa pn pc) (.slice la ln lc)).alloc (.cells #[.string op,.int .i64 z,.string sx,.slice pa pn pc,.slice la ln lc] 72)):=(Below.refl _ _).alloc (Nat.le_refl _) _
  refine bodyPost_ret (results_expr _ 4 rfl _ _ w.heap.size _ _ _ _ _ rfl ((hba.block _ (lt_of_heap f4)).trans f4)) rfl ?_
  exact ⟨_,_,_,_,_,rfl,f1.same (same_below hba) (fun b h _=>h),f2.more hba,f3.trans (Keeps.of hba (by have:=lt_of_heap f2.blk;omega)),by omega,hk3l⟩
set_option maxHeartbeats 1000000 in
set_option maxRecDepth 100000 in
theorem term_any {p g cap:Nat}{rk:Value}{l:List (ByteArray × ByteArray × Nat)}{k bl dp:Nat}{a0 a1:Addr}{o:Out (DataW Unit)}(h:ReadsE 141 #[.pointer (some ⟨p,0,none⟩),.int .i64 0] p g cap rk l k bl dp a0 a1 o):ReadsE 112 #[.pointer (some ⟨p,0,none⟩)] p g cap rk l k bl dp a0 a1 o:=by
 intro w R E X
 have hpl:=lt_of_heap R.blk
 have hgl:=R.gl
 have hb0:Below w.heap.size w (w.alloc (.cells #[.string ⟨#[]⟩,.int .i64 0,.string ⟨#[]⟩,.slice none 0 0,.slice none 0 0] 72)):=(Below.refl _ _).alloc (Nat.le_refl _) _
 have K1:Keeps p w (w.alloc (.cells #[.string ⟨#[]⟩,.int .i64 0,.string ⟨#[]⟩,.slice none 0 0,.slice none 0 0] 72)):=Keeps.of hb0 (by omega)
 have R1:=R.more hb0
 have hB1:=heap_alloc_new w (.cells #[.string ⟨#[]⟩,.int .i64 0,.string ⟨#[]⟩,.slice none 0 0,.slice none 0 0] 72)
 have hsz:(w.alloc (.cells #[.string ⟨#[]⟩,.int .i64 0,.string ⟨#[]⟩,.slice none 0 0,.slice none 0 0] 72)).heap.size=w.heap.size+1:=by simp
 have HC:=toHid (h _ R1 (E.keeps K1) (X.keeps K1))
 clear R
 go_enter Tryz.func112,Tryz.ntmps112
 go_wp2_with fail
 refine HC.out.mono ?_
 intro ev w3 hP
 unfold PostE at hP
 cases o with
 | error y =>
  obtain ⟨t,g1,b,rfl,g2⟩:=hP
  have HF:Hid (faultAt l p a0 a1 w y (.panicked [{ v:=.iface 61 (.pointer (some ⟨b,0,none⟩)),recovered:=false }]) w3):=faultAt.after K1.below ⟨t,g1,b,rfl,g2⟩
  clear g1 g2 R1 K1 HC
  go_wp2_with fail
  exact ⟨rfl,HF.out⟩
 | ok y =>
  obtain ⟨e,k'⟩:=y
  rw [hsz] at hP
  obtain ⟨c0,c1,c2,c3,c4,rfl,hrep,R3,K3,hk3,hk3l⟩:=hP
  obtain ⟨op,z,sx,pa,pn,pc,la,ln,lc,rfl,rfl,rfl,rfl,rfl⟩:=hrep.form
  have hB3:=(K3.block w.heap.size (by omega) (lt_of_heap hB1)).trans hB1
  have hs1:=lt_of_heap hB1
  obtain ⟨t0,t1,t2,t3,t4,tf⟩:=expr_block hB3
  have tf0:=tf 0
  have tf1:=tf 1
  have tf2:=tf 2
  have tf3:=tf 3
  have tf4:=tf 4
  have hp3:=lt_of_heap R3.blk
  have H3:=toHid (And.intro hrep (And.intro R3 (And.intro (K1.trans K3) hB3)))
  have hw1:=K1.below.size
  clear R1 K1 R3 K3 hrep hB1 hB3 tf HC
  go_wp2_with fail
  obtain ⟨hrep,R3,K3,hB3⟩:=H3.out
  obtain ⟨f1,f2,f3,f4⟩:=laid5 hrep R3 K3 hB3 (by omega) (by omega) (by omega) (by omega) (.string op) (.int .i64 z) (.string sx) (.slice pa pn pc) (.slice la ln lc)
  refine bodyPost_ret (results_expr _ 2 rfl _ _ w.heap.size _ _ _ _ _ rfl f4) rfl ?_
  exact ⟨_,_,_,_,_,rfl,f1.same (fun _ _ _=>rfl) (fun b h _=>by omega),f2,f3,by omega,hk3l⟩
def pClosed (l:List (ByteArray × ByteArray × Nat)) (closing:ByteArray) (o:Out (DataW Unit)):Out (DataW Unit):=match o with
 | .error x=>.error x
 | .ok (e,k')=>bif markAt l k' [closing] then .ok (e,k'+1) else .error (k',false)
set_option maxHeartbeats 2000000 in
set_option maxRecDepth 100000 in
theorem closed_any {p g cap:Nat}{rk:Value}{l:List (ByteArray × ByteArray × Nat)}{k bl dp:Nat}{a0 a1:Addr}{o:Out (DataW Unit)}(closing:ByteArray) (hl:l.length≤100000) (hen:Ended l) (h:ReadsE 112 #[.pointer (some ⟨p,0,none⟩)] p g cap rk l k bl dp a0 a1 o):ReadsE 176 #[.pointer (some ⟨p,0,none⟩),.string closing] p g cap rk l k bl dp a0 a1 (pClosed l closing o):=by
 intro w R E X
 have hpl:=lt_of_heap R.blk
 have hgl:=R.gl
 have hb0:Below w.heap.size w (w.alloc (.cells #[.string ⟨#[]⟩,.int .i64 0,.string ⟨#[]⟩,.slice none 0 0,.slice none 0 0] 72)):=(Below.refl _ _).alloc (Nat.le_refl _) _
 have K1:Keeps p w (w.alloc (.cells #[.string ⟨#[]⟩,.int .i64 0,.string ⟨#[]⟩,.slice none 0 0,.slice none 0 0] 72)):=Keeps.of hb0 (by omega)
 have R1:=R.more hb0
 have hB1:=heap_alloc_new w (.cells #[.string ⟨#[]⟩,.int .i64 0,.string ⟨#[]⟩,.slice none 0 0,.slice none 0 0] 72)
 have hsz:(w.alloc (.cells #[.string ⟨#[]⟩,.int .i64 0,.string ⟨#[]⟩,.slice none 0 0,.slice none 0 0] 72)).heap.size=w.heap.size+1:=by simp
 have HC:=toHid (h _ R1 (E.keeps K1) (X.keeps K1))
 clear R
 cases o with
 | error y =>
  show Calls _ _ _ _ fun ev w'=>PostE _ p g cap rk l k bl dp a0 a1 w (.error y) ev w'
  go_enter Tryz.func176,Tryz.ntmps176
  go_wp2_with fail
  refine HC.out.mono ?_
  intro ev w3 hP
  unfold PostE at hP
  obtain ⟨t,g1,b,rfl,g2⟩:=hP
  have HF:Hid (faultAt l p a0 a1 w y (.panicked [{ v:=.iface 61 (.pointer (some ⟨b,0,none⟩)),recovered:=false }]) w3):=faultAt.after K1.below ⟨t,g1,b,rfl,g2⟩
  clear g1 g2 R1 K1 HC
  go_wp2_with fail
  exact ⟨rfl,HF.out⟩
 | ok y =>
  obtain ⟨e,k'⟩:=y
  obtain ⟨m,hm⟩:∃ m,markAt l k' [closing]=m:=⟨_,rfl⟩
  unfold pClosed
  simp only
  rw [hm]
  have HM:=toHid hm
  clear hm
  cases m
  all_goals
   simp only [cond_true,cond_false]
   go_enter Tryz.func176,Tryz.ntmps176
   go_wp2_with fail
   refine HC.out.mono ?_
   intro ev w3 hP
   unfold PostE at hP
   rw [hsz] at hP
   obtain ⟨c0,c1,c2,c3,c4,rfl,hrep,R3,K3,hk3,hk3l⟩:=hP
   obtain ⟨op,z,sx,pa,pn,pc,la,ln,lc,rfl,rfl,rfl,rfl,rfl⟩:=hrep.form
   have hB3:=(K3.block w.heap.size (by omega) (lt_of_heap hB1)).trans hB1
   have hB3s:=lt_of_heap hB3
   have hba:Below w3.heap.size w3 (w3.alloc (.cells #[.string op,.int .i64 z,.string sx,.slice pa pn pc,.slice la ln lc] 72)):=(Below.refl _ _).alloc (Nat.le_refl _) _
   have R4:=R3.more hba
   have K4:=(K1.trans K3).trans (Keeps.of hba (by omega))
   have hB4:=(hba.block _ hB3s).trans hB3
   have hrep4:=hrep.same (same_below hba) (fun b h _=>h)
   have hE4:=heap_alloc_new w3 (.cells #[.string op,.int .i64 z,.string sx,.slice pa pn pc,.slice la ln lc] 72)
   obtain ⟨x,hx⟩:∃ x,l[k']?=some x:=⟨l[k'],by simp [hk3l]⟩
   have HX:=toHid hx
   have HMM:=toHid ((markAt_of hx [closing]).symm.trans HM.out)
   have E4:=E.keeps K4
   clear R1 K1 R3 K3 hrep hB1 hB3 HC
   go_wp2_with fail
   refine (needMark_any R4 E4 hx hl closing).mono ?_
   intro ev w5 hT
   rw [HMM.out] at hT
  ·have hT':faultAt l p a0 a1 (w3.alloc (.cells #[.string op,.int .i64 z,.string sx,.slice pa pn pc,.slice la ln lc] 72)) (k',false) ev w5:=by simpa using hT
   obtain ⟨t,g1,b,rfl,g2⟩:=hT'
   have HF:Hid (faultAt l p a0 a1 w (k',false) (.panicked [{ v:=.iface 61 (.pointer (some ⟨b,0,none⟩)),recovered:=false }]) w5):=faultAt.after K4.below ⟨t,g1,b,rfl,g2⟩
   clear g1 g2 hT R4 K4 hB4 hrep4 hE4 E4 hx
   go_wp2_with fail
   exact ⟨rfl,HF.out⟩
  ·have hT':ev = .returned (.tuple #[])∧RD w5 p g cap rk l (k'+1) bl dp∧Keeps p (w3.alloc (.cells #[.string op,.int .i64 z,.string sx,.slice pa pn pc,.slice la ln lc] 72)) w5:=by simpa using hT
   obtain ⟨rfl,R5,K5⟩:=hT'
   have hk5:=hen.next HX.out HMM.out
   have hB5:=(K5.block w.heap.size (by omega) (lt_of_heap hB4)).trans hB4
   have hE5:=(K5.block w3.heap.size (by have:=lt_of_heap R4.blk;omega) (by simp)).trans hE4
   have hrep5:=hrep4.same (K5.same (by omega)) (fun b h _=>h)
   obtain ⟨t0,t1,t2,t3,t4,tf⟩:=expr_block hB5
   have tf0:=tf 0
   have tf1:=tf 1
   have tf2:=tf 2
   have tf3:=tf 3
   have tf4:=tf 4
   obtain ⟨q0,q1,q2,q3,q4,_⟩:=expr_block hE5
   have hp5:=lt_of_heap R5.blk
   have H5:=toHid (And.intro hrep5 (And.intro R5 (And.intro (K4.trans K5) hB5)))
   clear hT R4 K4 hB4 hrep4 hE4 E4 hx R5 K5 hB5 hE5 hrep5 tf hba
   go_wp2_with fail
   obtain ⟨hrep,R3,K3,hB3⟩:=H5.out
   obtain ⟨f1,f2,f3,f4⟩:=laid5 hrep R3 K3 hB3 (by omega) (by omega) (by omega) (by omega) (.string op) (.int .i64 z) (.string sx) (.slice pa pn pc) (.slice la ln lc)
   refine bodyPost_ret (results_expr _ 4 rfl _ _ w.heap.size _ _ _ _ _ rfl f4) rfl ?_
   exact ⟨_,_,_,_,_,rfl,f1.same (fun _ _ _=>rfl) (fun b h _=>by omega),f2,f3,by omega,hk5⟩
end Go.Proofs.YtemapnogjepokaaGreatDoor
