/- Package tree: terms. -/
import Derived.Test.YtpcjcgkpjapbpaaGreatDoorTreeP
set_option linter.all false
namespace Go.Proofs.YtpcjcgkpjapbpaaGreatDoor
open Go.RowKit

theorem repL_row {S S':Nat→Prop}{w:World}{base:Nat}{la:Option Addr}{lc:Nat}{cs:List Value}{es:List (DataW Unit)} (hO:w.ownsRow base 71 5 (.slice la es.length lc) es.length cs) (hCE:CellsE S w cs es) (hS:∀ b,S b→S' b) (hB:∀ b,base≤b→S' b):RepL S' w la es:=by
 intro h0
 obtain ⟨hl,⟨e1,e2⟩ | ⟨g',cap',cur,e1,hb,hg,h1,h2,h3,h4⟩⟩:=hO
 ·omega
 ·simp at e1
  obtain ⟨rfl,rfl⟩:=e1
  refine ⟨g',0,rfl,hB _ hb,fun i e hi => ?_⟩
  obtain ⟨c0,c1,c2,c3,c4,q0,q1,q2,q3,q4,hr⟩:=hCE.2 i e hi
  have hi':=(List.getElem?_eq_some_iff.1 hi).1
  have hc:∀ j v,cs[j]?=some v→j<es.length*5→w.cell? ⟨g',j,none⟩=some v:=fun j v hj hlt=>by
   rw [cell_of_row w g' _ _ _ _ hg]
   rw [←h4,List.getElem?_take_of_lt hlt] at hj
   simpa using hj
  refine ⟨c0,c1,c2,c3,c4,?_,?_,?_,?_,?_,hr.same (fun _ _ _=>rfl) (fun b h _=>hS b h)⟩ <;> rw [Nat.zero_add] <;> exact hc _ _ (by assumption) (by omega)

theorem own_cap {w:World}{base n lc:Nat}{la:Option Addr}{xs:List Value} (hO:w.ownsRow base 71 5 (.slice la n lc) n xs):n≤lc:=by
 obtain ⟨_,⟨e1,e2⟩ | ⟨g',cap',cur,e1,_,_,h1,_⟩⟩:=hO
 ·omega
 ·simp at e1
  omega

def tStart (w:World) (p:Nat) (v:Value):World:=(w.alloc (.cells #[.pointer (some ⟨p,0,none⟩)] 77)).alloc (.cells #[v] 37)
theorem tStart_below (w:World) (p:Nat) (v:Value):Below w.heap.size w (tStart w p v):=((Below.refl _ _).alloc (Nat.le_refl _) _).alloc (by simp) _
theorem tStart_r (w:World) (p:Nat) (v:Value):(tStart w p v).heap[w.heap.size]?=some (.cells #[.pointer (some ⟨p,0,none⟩)] 77):=
 (Below.heap_alloc _ _ _ (by simp)).trans (heap_alloc_new w _)
theorem tStart_l (w:World) (p:Nat) (v:Value):(tStart w p v).heap[w.heap.size+1]?=some (.cells #[v] 37):=by
 have:=heap_alloc_new (w.alloc (.cells #[.pointer (some ⟨p,0,none⟩)] 77)) (.cells #[v] 37)
 simpa [tStart] using this
theorem tStart_C {S0:Nat→Prop}{p g:Nat}{rk:Value}{a0 a1:Addr}{w0 w:World}{v:Value}{cs:List Value}{es:List (DataW Unit)} (K0:Keeps p w0 w) (E:TErr p a0 a1 w0) (X:RK p rk w0) (hp:p<w0.heap.size) (hg:g<w0.heap.size) (hO:w.ownsRow w0.heap.size 71 5 v es.length cs) (hCE:CellsE (fun b=>S0 b∨(w0.heap.size≤b∧v.ownBlock≠some b)) w cs es) (hs0:∀ b,S0 b→b<w0.heap.size∧b≠p) :
  TermC S0 p g (w.heap.size+1) w.heap.size rk a0 a1 w0 es (tStart w p v):=by
 have hsz:=K0.below.size
 have hb:=tStart_below w p v
 refine ⟨⟨v,cs,tStart_l w p v,ownsRow_far' hO (fun k hk=>hb.block k (own_lt hO k hk)),hCE.same (same_below hb) (fun b h hl => ?_),fun h=>by have:=own_lt hO _ h;omega,fun h=>by have:=own_lt hO _ h;omega⟩,tStart_r w p v,(Old.below ⟨hsz,fun k hk hl=>K0.block k hk hl⟩ hb),E,X,hp,hg,by omega,by omega,by omega,hs0⟩
 rcases h with h | ⟨h1,h2⟩
 ·exact .inl h
 ·exact .inr ⟨h1,by omega,by omega,h2⟩

set_option maxHeartbeats 2000000 in
set_option maxRecDepth 100000 in
theorem terms_any {S0:Nat→Prop}{p g cap:Nat}{rk:Value}{l:List (ByteArray × ByteArray × Nat)}{k bl dp:Nat}{a0 a1:Addr} (closing:ByteArray) (hl:l.length≤100000) (hen:Ended l) (hk:k<l.length) (term:Nat→Out (DataW Unit))
  (hterm:∀ k',k≤k'→k'<l.length→ReadsE 72 #[.pointer (some ⟨p,0,none⟩)] p g cap rk l k' bl dp a0 a1 (term k')) (w0 w:World) (v:Value) (cs:List Value) (es:List (DataW Unit)) (R:RD w p g cap rk l k bl dp) (K0:Keeps p w0 w) (E:TErr p a0 a1 w0) (X:RK p rk w0) (hp:p<w0.heap.size) (hg:g<w0.heap.size)
  (hO:w.ownsRow w0.heap.size 71 5 v es.length cs) (hCE:CellsE (fun b=>S0 b∨(w0.heap.size≤b∧v.ownBlock≠some b)) w cs es) (hs0:∀ b,S0 b→b<w0.heap.size∧b≠p) (hlen:es.length≤k+1) :
  Calls Tryz.prog 124 #[.pointer (some ⟨p,0,none⟩),.string closing,v] w fun ev w'=>PostL (fun b=>S0 b∨w0.heap.size≤b) p g cap rk l k bl dp a0 a1 w0 (pUpTo l (pTermStep term) closing l.length es k) ev w':=by
 obtain ⟨pa,pc,rfl⟩:∃ pa pc,v = .slice pa es.length pc:=by
  rcases hO.2 with ⟨e,h0⟩ | ⟨g',c',cur,e,_⟩
  ·exact ⟨none,0,by rw [h0];exact e⟩
  ·exact ⟨_,_,e⟩
 have hb:=tStart_below w p (.slice pa es.length pc)
 have hpl:=lt_of_heap R.blk
 have HU:=toHid (upTo_any 144 #[.pointer (some ⟨w.heap.size+1,0,none⟩),.pointer (some ⟨w.heap.size,0,none⟩)] (fun _ _=>rfl) (fun s k w'=>TermC S0 p g (w.heap.size+1) w.heap.size rk a0 a1 w0 s w'∧s.length≤k+1) (fun s k k' w1 w2 h1 h2 h3=>⟨h2.1.keeps h3,by have:=h2.2;omega⟩) (pTermStep term) k (fun s k' hk1 hk2=>termsStep_any _ _ _ hl term s k' hk2 (hterm k' hk1 hk2)) hl hen closing es k l.length (Nat.le_refl _) hk (by omega) (tStart w p (.slice pa es.length pc)) (R.more hb) ⟨tStart_C K0 E X hp hg hO hCE hs0,hlen⟩ ((E.keeps K0).below (hb.mono (by omega))))
 have hbp:Below p w0 (tStart w p (.slice pa es.length pc)):=K0.below.trans (hb.mono (by omega))
 obtain ⟨o,ho⟩:∃ o,pUpTo l (pTermStep term) closing l.length es k=o:=⟨_,rfl⟩
 rw [ho] at HU ⊢
 clear R E X hO hCE hs0 hterm ho
 go_enter Tryz.func124,Tryz.ntmps124
 go_wp2_with fail
 refine HU.out.mono ?_
 intro ev w1 hP
 cases o with
 | error y =>
  obtain ⟨t,g1,b,rfl,g2⟩:=hP
  have HF:Hid (faultAt l p a0 a1 w0 y (.panicked [{ v:=.iface 58 (.pointer (some ⟨b,0,none⟩)),recovered:=false }]) w1):=faultAt.after hbp ⟨t,g1,b,rfl,g2⟩
  clear g1 g2 HU hbp
  go_wp2_with fail
  exact ⟨rfl,HF.out⟩
 | ok y =>
  obtain ⟨es1,k1⟩:=y
  obtain ⟨rfl,R1,⟨C1,_⟩,hb1,hk1,hk1l⟩:=hP
  obtain ⟨v1,cs1,hV,hO,hCE,hn1,hn2⟩:=C1.l
  have c0:w1.cell? ⟨w.heap.size+1,0,none⟩=some v1:=by rw [cell_of_row _ _ 0 _ _ _ hV];rfl
  have l0:=lt_of_cell c0
  obtain ⟨la,lc,rfl⟩:∃ la lc,v1 = .slice la es1.length lc:=by
   rcases hO.2 with ⟨e,h0⟩ | ⟨g',c',cur,e,_⟩
   ·exact ⟨none,0,by rw [h0];exact e⟩
   ·exact ⟨_,_,e⟩
  have HF:Hid (RepL (fun b=>S0 b∨w0.heap.size≤b) w1 la es1∧RD w1 p g cap rk l k1 bl dp∧Keeps p w0 w1):=⟨repL_row hO hCE (fun b h=>h.imp id (fun h=>h.1)) (fun b h=>.inr h),R1,hbp.trans hb1,C1.old.block⟩
  have hcap:=own_cap hO
  clear R1 C1 hO hCE hV hb1 HU hbp
  go_wp2_with fail
  go_ret
  exact ⟨_,_,rfl,HF.out.1,HF.out.2.1,HF.out.2.2,hk1,hk1l,hcap⟩
end Go.Proofs.YtpcjcgkpjapbpaaGreatDoor
namespace Go.Proofs.YtpcjcgkpjapbpaaGreatDoor
open Go.RowKit

def kCall:ByteArray:=⟨#[99,97,108,108]⟩
def rpar:ByteArray:=⟨#[41]⟩
theorem call_done {S:Nat→Prop}{p g cap:Nat}{rk:Value}{l:List (ByteArray × ByteArray × Nat)}{k3 bl dp:Nat}{w w3:World}{el:List (DataW Unit)}{la:Option Addr}{lc:Nat} (op:ByteArray) (hop:op≠kIndex) (hpl:p<w.heap.size) (hgl:g<w.heap.size) (hSp:∀ b,S b→b≠p∧b<w.heap.size) (K3:Keeps p (w.alloc (.cells #[.string ⟨#[]⟩,.int .i64 0,.string ⟨#[]⟩,.slice none 0 0,.slice none 0 0] 71)) w3) (R3:RD w3 p g cap rk l k3 bl dp) (hL:RepL (fun b=>S b∨w.heap.size+1≤b) w3 la el) (hcap:el.length≤lc) :
  (set5 w3 w.heap.size (.string op) (.int .i64 0) (.string ⟨#[]⟩) (.slice none 0 0) (.slice la el.length lc)).heap[w.heap.size]?=some (.cells #[.string op,.int .i64 0,.string ⟨#[]⟩,.slice none 0 0,.slice la el.length lc] 71)∧RepE (fun b=>S b∨w.heap.size≤b) (set5 w3 w.heap.size (.string op) (.int .i64 0) (.string ⟨#[]⟩) (.slice none 0 0) (.slice la el.length lc)) [.string op,.int .i64 0,.string ⟨#[]⟩,.slice none 0 0,.slice la el.length lc] (mkE op 0 ⟨#[]⟩ [] el)∧RD (set5 w3 w.heap.size (.string op) (.int .i64 0) (.string ⟨#[]⟩) (.slice none 0 0) (.slice la el.length lc)) p g cap rk l k3 bl dp∧Keeps p w (set5 w3 w.heap.size (.string op) (.int .i64 0) (.string ⟨#[]⟩) (.slice none 0 0) (.slice la el.length lc)):=by
 have hb0:Below w.heap.size w (w.alloc (.cells #[.string ⟨#[]⟩,.int .i64 0,.string ⟨#[]⟩,.slice none 0 0,.slice none 0 0] 71)):=(Below.refl _ _).alloc (Nat.le_refl _) _
 have K0:Keeps p w (w.alloc (.cells #[.string ⟨#[]⟩,.int .i64 0,.string ⟨#[]⟩,.slice none 0 0,.slice none 0 0] 71)):=Keeps.of hb0 (by omega)
 have hs0:(w.alloc (.cells #[.string ⟨#[]⟩,.int .i64 0,.string ⟨#[]⟩,.slice none 0 0,.slice none 0 0] 71)).heap.size=w.heap.size+1:=by simp
 have hB:=(K3.block w.heap.size (by omega) (by omega)).trans (heap_alloc_new w (.cells #[.string ⟨#[]⟩,.int .i64 0,.string ⟨#[]⟩,.slice none 0 0,.slice none 0 0] 71))
 have hsame:Same (fun b=>S b∨w.heap.size+1≤b) w3 (set5 w3 w.heap.size (.string op) (.int .i64 0) (.string ⟨#[]⟩) (.slice none 0 0) (.slice la el.length lc)):=same_set5 (by rintro (h | h) <;> first | omega | (have h2:=(hSp _ h).2;omega)) _ _ _ _ _
 have r:RepL (fun b=>S b∨w.heap.size≤b) (set5 w3 w.heap.size (.string op) (.int .i64 0) (.string ⟨#[]⟩) (.slice none 0 0) (.slice la el.length lc)) la el:=hL.same hsame (fun b hb _=>hb.imp id (fun h=>by omega))
 exact ⟨set5_block hB _ _ _ _ _,mkRep (pl:=[]) (by simp) r (fun _ h=>absurd h hop),R3.set5 (by omega) (by omega) _ _ _ _ _,(K0.trans K3).set5 (by omega) (by omega) _ _ _ _ _⟩

theorem row_one (w:World) (c0 c1 c2 c3 c4:Value):(w.alloc (.cells #[c0,c1,c2,c3,c4] 71)).ownsRow w.heap.size 71 5 (.slice (some ⟨w.heap.size,0,none⟩) 1 1) 1 [c0,c1,c2,c3,c4]:=
 ⟨by simp,.inr ⟨w.heap.size,1,#[c0,c1,c2,c3,c4],rfl,Nat.le_refl _,heap_alloc_new w _,Nat.le_refl _,by unfold maxLen;omega,by simp,by simp⟩⟩

set_option maxHeartbeats 2000000 in
set_option maxRecDepth 100000 in
theorem postCall_any {S:Nat→Prop}{p g cap:Nat}{rk:Value}{l:List (ByteArray × ByteArray × Nat)}{k bl dp:Nat}{a0 a1:Addr}{e:DataW Unit}{op:ByteArray}{z:Int}{sx:ByteArray}{pa:Option Addr}{pn pc:Nat}{la:Option Addr}{ln lc:Nat} (ce cr:Nat) (hl:l.length≤100000) (hen:Ended l) (hk:k<l.length) (term:Nat→Out (DataW Unit))
  (hterm:∀ k',k≤k'→k'<l.length→ReadsE 72 #[.pointer (some ⟨p,0,none⟩)] p g cap rk l k' bl dp a0 a1 (term k')) (w:World) (R:RD w p g cap rk l k bl dp) (E:TErr p a0 a1 w) (X:RK p rk w) (hSp:∀ b,S b→b≠p∧b<w.heap.size) (hrep0:RepE S w [.string op,.int .i64 z,.string sx,.slice pa pn pc,.slice la ln lc] e)
  (hce:w.heap[ce]?=some (.cells #[.string op,.int .i64 z,.string sx,.slice pa pn pc,.slice la ln lc] 71)) (hcr:w.cell? ⟨cr,0,none⟩=some (.pointer (some ⟨p,0,none⟩))) :
  Calls Tryz.prog 123 #[.pointer (some ⟨cr,0,none⟩),.pointer (some ⟨ce,0,none⟩)] w fun ev w'=>PostE (fun b=>S b∨w.heap.size≤b) p g cap rk l k bl dp a0 a1 w (pList kCall (pUpTo l (pTermStep term) rpar l.length [e] k)) ev w':=by
 have hpl:=lt_of_heap R.blk
 have hgl:=R.gl
 have hcl:=lt_of_heap hce
 have hrl:=lt_of_cell hcr
 have hb0:Below w.heap.size w (w.alloc (.cells #[.string ⟨#[]⟩,.int .i64 0,.string ⟨#[]⟩,.slice none 0 0,.slice none 0 0] 71)):=(Below.refl _ _).alloc (Nat.le_refl _) _
 have K0:Keeps p w (w.alloc (.cells #[.string ⟨#[]⟩,.int .i64 0,.string ⟨#[]⟩,.slice none 0 0,.slice none 0 0] 71)):=Keeps.of hb0 (by omega)
 have hs0:(w.alloc (.cells #[.string ⟨#[]⟩,.int .i64 0,.string ⟨#[]⟩,.slice none 0 0,.slice none 0 0] 71)).heap.size=w.heap.size+1:=by simp
 have HT:Hid (∀ W,Below (w.heap.size+1) (w.alloc (.cells #[.string ⟨#[]⟩,.int .i64 0,.string ⟨#[]⟩,.slice none 0 0,.slice none 0 0] 71)) W→W.heap.size=w.heap.size+1→Calls Tryz.prog 124 #[.pointer (some ⟨p,0,none⟩),.string ⟨#[41]⟩,.slice (some ⟨w.heap.size+1,0,none⟩) 1 1] (W.alloc (.cells #[.string op,.int .i64 z,.string sx,.slice pa pn pc,.slice la ln lc] 71)) fun ev w'=>PostL (fun b=>S b∨w.heap.size+1≤b) p g cap rk l k bl dp a0 a1 (w.alloc (.cells #[.string ⟨#[]⟩,.int .i64 0,.string ⟨#[]⟩,.slice none 0 0,.slice none 0 0] 71)) (pUpTo l (pTermStep term) rpar l.length [e] k) ev w'):=by
  intro W hbW hsW
  have hbA:Below W.heap.size W (W.alloc (.cells #[.string op,.int .i64 z,.string sx,.slice pa pn pc,.slice la ln lc] 71)):=(Below.refl _ _).alloc (Nat.le_refl _) _
  have hbT:Below (w.heap.size+1) (w.alloc (.cells #[.string ⟨#[]⟩,.int .i64 0,.string ⟨#[]⟩,.slice none 0 0,.slice none 0 0] 71)) (W.alloc (.cells #[.string op,.int .i64 z,.string sx,.slice pa pn pc,.slice la ln lc] 71)):=hbW.trans (hbA.mono (by omega))
  have hrow:=row_one W (.string op) (.int .i64 z) (.string sx) (.slice pa pn pc) (.slice la ln lc)
  rw [hsW] at hrow
  have r1:RepE (fun b=>S b∨(w.heap.size+1≤b∧(Value.slice (some ⟨w.heap.size+1,0,none⟩) 1 1).ownBlock≠some b)) (W.alloc (.cells #[.string op,.int .i64 z,.string sx,.slice pa pn pc,.slice la ln lc] 71)) [.string op,.int .i64 z,.string sx,.slice pa pn pc,.slice la ln lc] e:=
   hrep0.same (fun b hb hlt=>(hbT.block b (by omega)).trans (hb0.block b hlt)) (fun b hb _=>.inl hb)
  have hT:=terms_any (S0:=S) rpar hl hen hk term hterm (w.alloc (.cells #[.string ⟨#[]⟩,.int .i64 0,.string ⟨#[]⟩,.slice none 0 0,.slice none 0 0] 71)) (W.alloc (.cells #[.string op,.int .i64 z,.string sx,.slice pa pn pc,.slice la ln lc] 71)) (.slice (some ⟨w.heap.size+1,0,none⟩) 1 1) [.string op,.int .i64 z,.string sx,.slice pa pn pc,.slice la ln lc] [e]
   ((R.more hb0).more (by rw [hs0];exact hbT)) (Keeps.of (by rw [hs0];exact hbT) (by omega)) (E.keeps K0) (X.keeps K0) (by omega) (by omega) (by rw [hs0];exact hrow) (by rw [hs0];exact (CellsE.nil _ _).snoc r1) (fun b hb=>by have:=hSp b hb;rw [hs0];omega) (by simp)
  rw [hs0] at hT
  exact hT
 have HB0:=toHid (heap_alloc_new w (.cells #[.string ⟨#[]⟩,.int .i64 0,.string ⟨#[]⟩,.slice none 0 0,.slice none 0 0] 71))
 obtain ⟨t0,t1,t2,t3,t4,_⟩:=expr_block hce
 obtain ⟨o,ho⟩:∃ o,pUpTo l (pTermStep term) rpar l.length [e] k=o:=⟨_,rfl⟩
 rw [ho] at HT ⊢
 have HSP:=toHid hSp
 clear hterm R E X ho hrep0 hSp hce
 go_enter Tryz.func123,Tryz.ntmps123
 go_wp2_with fail
 refine (HT.out _ (Below.refl _ _) hs0).mono ?_
 intro ev w3 hP
 unfold PostL at hP
 cases o with
 | error y =>
  obtain ⟨t,g1,b,rfl,g2⟩:=hP
  have HF:Hid (faultAt l p a0 a1 w y (.panicked [{ v:=.iface 58 (.pointer (some ⟨b,0,none⟩)),recovered:=false }]) w3):=faultAt.after K0.below ⟨t,g1,b,rfl,g2⟩
  clear g1 g2 K0 HT
  go_wp2_with fail
  exact ⟨rfl,HF.out⟩
 | ok y =>
  obtain ⟨el,k'⟩:=y
  obtain ⟨la,lc,rfl,hL,R3,K3,hk3,hk3l,hcap⟩:=hP
  have hB3:=(K3.block w.heap.size (by omega) (by omega)).trans HB0.out
  obtain ⟨u0,u1,u2,u3,u4,uf⟩:=expr_block hB3
  have uf0:=uf 0
  have uf1:=uf 1
  have uf2:=uf 2
  have uf3:=uf 3
  have uf4:=uf 4
  have ul:=lt_of_heap hB3
  have HZ:=toHid (call_done (lc:=lc) kCall (by decide) hpl hgl HSP.out K3 R3 hL hcap)
  clear hL R3 K3 K0 hB3 uf HT
  go_wp2_with fail
  obtain ⟨z1,z2,z3,z4⟩:=HZ.out
  refine bodyPost_ret (results_expr _ 2 rfl _ _ w.heap.size _ _ _ _ _ rfl z1) rfl ?_
  exact ⟨_,_,_,_,_,rfl,z2,z3,z4,by omega,hk3l⟩
end Go.Proofs.YtpcjcgkpjapbpaaGreatDoor
