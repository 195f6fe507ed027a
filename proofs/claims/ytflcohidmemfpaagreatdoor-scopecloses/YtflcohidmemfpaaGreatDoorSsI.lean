/- Package tree: terms. -/
import Derived.Test.YtflcohidmemfpaaGreatDoorTreeP
set_option linter.all false
namespace Go.Proofs.YtflcohidmemfpaaGreatDoor
open Go.Proofs.Tryz
open Go.RowKit

theorem Zf3 {S S':Nat→Prop}{w:World}{base:Nat}{la:Option Addr}{lc:Nat}{cs:List Value}{es:List (DataW Unit)} (hO:w.ownsRow base 72 5 (.slice la es.length lc) es.length cs) (hCE:Z2j S w cs es) (hS:∀ b,S b→S' b) (hB:∀ b,base≤b→S' b):Z89 S' w la es:=by
 intro h0
 obtain ⟨hl,⟨e1,e2⟩ | ⟨g',cap',cur,e1,hb,hg,h1,h2,h3,h4⟩⟩:=hO
 ·omega
 ·simp at e1
  obtain ⟨rfl,rfl⟩:=e1
  refine ⟨g',0,rfl,hB _ hb,fun i e hi => ?_⟩
  obtain ⟨c0,c1,c2,c3,c4,q0,q1,q2,q3,q4,hr⟩:=hCE.2 i e hi
  have hi':=(List.getElem?_eq_some_iff.1 hi).1
  have hc:∀ j v,cs[j]?=some v→j<es.length*5→w.cell? ⟨g',j,none⟩=some v:=fun j v hj hlt=>by
   rw [cell_of_row w g' _ _ _ _ hg]
   rw [←h4,List.getElem?_take_of_lt hlt] at hj
   simpa using hj
  refine ⟨c0,c1,c2,c3,c4,?_,?_,?_,?_,?_,hr.same (fun _ _ _=>rfl) (fun b h _=>hS b h)⟩ <;> rw [Nat.zero_add] <;> exact hc _ _ (by assumption) (by omega)

theorem Zcm {w:World}{base n lc:Nat}{la:Option Addr}{xs:List Value} (hO:w.ownsRow base 72 5 (.slice la n lc) n xs):n≤lc:=by
 obtain ⟨_,⟨e1,e2⟩ | ⟨g',cap',cur,e1,_,_,h1,_⟩⟩:=hO
 ·omega
 ·simp at e1
  omega

def Z8n (w:World) (p:Nat) (v:Value):World:=(w.alloc (.cells #[.pointer (some ⟨p,0,none⟩)] 119)).alloc (.cells #[v] 49)
theorem Z6x (w:World) (p:Nat) (v:Value):Below w.heap.size w (Z8n w p v):=((Below.refl _ _).alloc (Nat.le_refl _) _).alloc (by simp) _
theorem Zv3 (w:World) (p:Nat) (v:Value):(Z8n w p v).heap[w.heap.size]?=some (.cells #[.pointer (some ⟨p,0,none⟩)] 119):=
 (Below.heap_alloc _ _ _ (by simp)).trans (heap_alloc_new w _)
theorem Zup (w:World) (p:Nat) (v:Value):(Z8n w p v).heap[w.heap.size+1]?=some (.cells #[v] 49):=by
 have:=heap_alloc_new (w.alloc (.cells #[.pointer (some ⟨p,0,none⟩)] 119)) (.cells #[v] 49)
 simpa [Z8n] using this
theorem Zlc {S0:Nat→Prop}{p g:Nat}{rk:Value}{a0 a1:Addr}{w0 w:World}{v:Value}{cs:List Value}{es:List (DataW Unit)} (K0:Keeps p w0 w) (E:TErr p a0 a1 w0) (X:RK p rk w0) (hp:p<w0.heap.size) (hg:g<w0.heap.size) (hO:w.ownsRow w0.heap.size 72 5 v es.length cs) (hCE:Z2j (fun b=>S0 b∨(w0.heap.size≤b∧v.ownBlock≠some b)) w cs es) (hs0:∀ b,S0 b→b<w0.heap.size∧b≠p) :
  TermC S0 p g (w.heap.size+1) w.heap.size rk a0 a1 w0 es (Z8n w p v):=by
 have hsz:=K0.below.size
 have hb:=Z6x w p v
 refine ⟨⟨v,cs,Zup w p v,Z0j hO (fun k hk=>hb.block k (own_lt hO k hk)),hCE.same (Z06 hb) (fun b h hl => ?_),fun h=>by have:=own_lt hO _ h;omega,fun h=>by have:=own_lt hO _ h;omega⟩,Zv3 w p v,(Old.below ⟨hsz,fun k hk hl=>K0.block k hk hl⟩ hb),E,X,hp,hg,by omega,by omega,by omega,hs0⟩
 rcases h with h | ⟨h1,h2⟩
 ·exact .inl h
 ·exact .inr ⟨h1,by omega,by omega,h2⟩

set_option maxHeartbeats 2000000 in
set_option maxRecDepth 100000 in
theorem Zi1 {S0:Nat→Prop}{p g cap:Nat}{rk:Value}{l:List (ByteArray × ByteArray × Nat)}{k bl dp:Nat}{a0 a1:Addr} (closing:ByteArray) (hl:l.length≤100000) (hen:Z57 l) (hk:k<l.length) (term:Nat→Out (DataW Unit))
  (hterm:∀ k',k≤k'→k'<l.length→Z0w 112 #[.pointer (some ⟨p,0,none⟩)] p g cap rk l k' bl dp a0 a1 (term k')) (w0 w:World) (v:Value) (cs:List Value) (es:List (DataW Unit)) (R:RD w p g cap rk l k bl dp) (K0:Keeps p w0 w) (E:TErr p a0 a1 w0) (X:RK p rk w0) (hp:p<w0.heap.size) (hg:g<w0.heap.size)
  (hO:w.ownsRow w0.heap.size 72 5 v es.length cs) (hCE:Z2j (fun b=>S0 b∨(w0.heap.size≤b∧v.ownBlock≠some b)) w cs es) (hs0:∀ b,S0 b→b<w0.heap.size∧b≠p) (hlen:es.length≤k+1) :
  Calls prog 174 #[.pointer (some ⟨p,0,none⟩),.string closing,v] w fun ev w'=>Z9t (fun b=>S0 b∨w0.heap.size≤b) p g cap rk l k bl dp a0 a1 w0 (Z1g l (Z0n term) closing l.length es k) ev w':=by
 obtain ⟨pa,pc,rfl⟩:∃ pa pc,v = .slice pa es.length pc:=by
  rcases hO.2 with ⟨e,h0⟩ | ⟨g',c',cur,e,_⟩
  ·exact ⟨none,0,by rw [h0];exact e⟩
  ·exact ⟨_,_,e⟩
 have hb:=Z6x w p (.slice pa es.length pc)
 have hpl:=Z00 R.blk
 have HU:=Z01 (Zay 192 #[.pointer (some ⟨w.heap.size+1,0,none⟩),.pointer (some ⟨w.heap.size,0,none⟩)] (fun _ _=>rfl) (fun s k w'=>TermC S0 p g (w.heap.size+1) w.heap.size rk a0 a1 w0 s w'∧s.length≤k+1) (fun s k k' w1 w2 h1 h2 h3=>⟨h2.1.keeps h3,by have:=h2.2;omega⟩) (Z0n term) k (fun s k' hk1 hk2=>Zeo _ _ _ hl term s k' hk2 (hterm k' hk1 hk2)) hl hen closing es k l.length (Nat.le_refl _) hk (by omega) (Z8n w p (.slice pa es.length pc)) (R.more hb) ⟨Zlc K0 E X hp hg hO hCE hs0,hlen⟩ ((E.keeps K0).below (hb.mono (by omega))))
 have hbp:Below p w0 (Z8n w p (.slice pa es.length pc)):=K0.below.trans (hb.mono (by omega))
 obtain ⟨o,ho⟩:∃ o,Z1g l (Z0n term) closing l.length es k=o:=⟨_,rfl⟩
 rw [ho] at HU ⊢
 clear R E X hO hCE hs0 hterm ho
 go_enter func174,ntmps174
 go_wp2_with fail
 refine HU.out.mono ?_
 intro ev w1 hP
 cases o with
 | error y =>
  obtain ⟨t,g1,b,rfl,g2⟩:=hP
  have HF:Hid (Z04 l p a0 a1 w0 y (.panicked [{ v:=.iface 61 (.pointer (some ⟨b,0,none⟩)),recovered:=false }]) w1):=Z04.after hbp ⟨t,g1,b,rfl,g2⟩
  clear g1 g2 HU hbp
  go_wp2_with fail
  exact ⟨rfl,HF.out⟩
 | ok y =>
  obtain ⟨es1,k1⟩:=y
  obtain ⟨rfl,R1,⟨C1,_⟩,hb1,hk1,hk1l⟩:=hP
  obtain ⟨v1,cs1,hV,hO,hCE,hn1,hn2⟩:=C1.l
  have c0:w1.cell? ⟨w.heap.size+1,0,none⟩=some v1:=by rw [cell_of_row _ _ 0 _ _ _ hV];rfl
  have l0:=Z02 c0
  obtain ⟨la,lc,rfl⟩:∃ la lc,v1 = .slice la es1.length lc:=by
   rcases hO.2 with ⟨e,h0⟩ | ⟨g',c',cur,e,_⟩
   ·exact ⟨none,0,by rw [h0];exact e⟩
   ·exact ⟨_,_,e⟩
  have HF:Hid (Z89 (fun b=>S0 b∨w0.heap.size≤b) w1 la es1∧RD w1 p g cap rk l k1 bl dp∧Keeps p w0 w1):=⟨Zf3 hO hCE (fun b h=>h.imp id (fun h=>h.1)) (fun b h=>.inr h),R1,hbp.trans hb1,C1.old.block⟩
  have hcap:=Zcm hO
  clear R1 C1 hO hCE hV hb1 HU hbp
  go_wp2_with fail
  go_ret
  exact ⟨_,_,rfl,HF.out.1,HF.out.2.1,HF.out.2.2,hk1,hk1l,hcap⟩
end Go.Proofs.YtflcohidmemfpaaGreatDoor
namespace Go.Proofs.YtflcohidmemfpaaGreatDoor
open Go.Proofs.Tryz
open Go.RowKit

def Z8w:ByteArray:=⟨#[99,97,108,108]⟩
def Za7:ByteArray:=⟨#[41]⟩
theorem Zpx {S:Nat→Prop}{p g cap:Nat}{rk:Value}{l:List (ByteArray × ByteArray × Nat)}{k3 bl dp:Nat}{w w3:World}{el:List (DataW Unit)}{la:Option Addr}{lc:Nat} (op:ByteArray) (hop:op≠kIndex) (hpl:p<w.heap.size) (hgl:g<w.heap.size) (hSp:∀ b,S b→b≠p∧b<w.heap.size) (K3:Keeps p (w.alloc (.cells #[.string ⟨#[]⟩,.int .i64 0,.string ⟨#[]⟩,.slice none 0 0,.slice none 0 0] 72)) w3) (R3:RD w3 p g cap rk l k3 bl dp) (hL:Z89 (fun b=>S b∨w.heap.size+1≤b) w3 la el) (hcap:el.length≤lc) :
  (set5 w3 w.heap.size (.string op) (.int .i64 0) (.string ⟨#[]⟩) (.slice none 0 0) (.slice la el.length lc)).heap[w.heap.size]?=some (.cells #[.string op,.int .i64 0,.string ⟨#[]⟩,.slice none 0 0,.slice la el.length lc] 72)∧Z2l (fun b=>S b∨w.heap.size≤b) (set5 w3 w.heap.size (.string op) (.int .i64 0) (.string ⟨#[]⟩) (.slice none 0 0) (.slice la el.length lc)) [.string op,.int .i64 0,.string ⟨#[]⟩,.slice none 0 0,.slice la el.length lc] (mkE op 0 ⟨#[]⟩ [] el)∧RD (set5 w3 w.heap.size (.string op) (.int .i64 0) (.string ⟨#[]⟩) (.slice none 0 0) (.slice la el.length lc)) p g cap rk l k3 bl dp∧Keeps p w (set5 w3 w.heap.size (.string op) (.int .i64 0) (.string ⟨#[]⟩) (.slice none 0 0) (.slice la el.length lc)):=by
 have hb0:Below w.heap.size w (w.alloc (.cells #[.string ⟨#[]⟩,.int .i64 0,.string ⟨#[]⟩,.slice none 0 0,.slice none 0 0] 72)):=(Below.refl _ _).alloc (Nat.le_refl _) _
 have K0:Keeps p w (w.alloc (.cells #[.string ⟨#[]⟩,.int .i64 0,.string ⟨#[]⟩,.slice none 0 0,.slice none 0 0] 72)):=Keeps.of hb0 (by omega)
 have hs0:(w.alloc (.cells #[.string ⟨#[]⟩,.int .i64 0,.string ⟨#[]⟩,.slice none 0 0,.slice none 0 0] 72)).heap.size=w.heap.size+1:=by simp
 have hB:=(K3.block w.heap.size (by omega) (by omega)).trans (heap_alloc_new w (.cells #[.string ⟨#[]⟩,.int .i64 0,.string ⟨#[]⟩,.slice none 0 0,.slice none 0 0] 72))
 have hsame:Z5i (fun b=>S b∨w.heap.size+1≤b) w3 (set5 w3 w.heap.size (.string op) (.int .i64 0) (.string ⟨#[]⟩) (.slice none 0 0) (.slice la el.length lc)):=Zcp (by rintro (h | h) <;> first | omega | (have h2:=(hSp _ h).2;omega)) _ _ _ _ _
 have r:Z89 (fun b=>S b∨w.heap.size≤b) (set5 w3 w.heap.size (.string op) (.int .i64 0) (.string ⟨#[]⟩) (.slice none 0 0) (.slice la el.length lc)) la el:=hL.same hsame (fun b hb _=>hb.imp id (fun h=>by omega))
 exact ⟨Z63 hB _ _ _ _ _,Zne (pl:=[]) (by simp) r (fun _ h=>absurd h hop),R3.set5 (by omega) (by omega) _ _ _ _ _,(K0.trans K3).set5 (by omega) (by omega) _ _ _ _ _⟩

theorem Zwl (w:World) (c0 c1 c2 c3 c4:Value):(w.alloc (.cells #[c0,c1,c2,c3,c4] 72)).ownsRow w.heap.size 72 5 (.slice (some ⟨w.heap.size,0,none⟩) 1 1) 1 [c0,c1,c2,c3,c4]:=
 ⟨by simp,.inr ⟨w.heap.size,1,#[c0,c1,c2,c3,c4],rfl,Nat.le_refl _,heap_alloc_new w _,Nat.le_refl _,by unfold maxLen;omega,by simp,by simp⟩⟩

set_option maxHeartbeats 2000000 in
set_option maxRecDepth 100000 in
theorem Zhx {S:Nat→Prop}{p g cap:Nat}{rk:Value}{l:List (ByteArray × ByteArray × Nat)}{k bl dp:Nat}{a0 a1:Addr}{e:DataW Unit}{op:ByteArray}{z:Int}{sx:ByteArray}{pa:Option Addr}{pn pc:Nat}{la:Option Addr}{ln lc:Nat} (ce cr:Nat) (hl:l.length≤100000) (hen:Z57 l) (hk:k<l.length) (term:Nat→Out (DataW Unit))
  (hterm:∀ k',k≤k'→k'<l.length→Z0w 112 #[.pointer (some ⟨p,0,none⟩)] p g cap rk l k' bl dp a0 a1 (term k')) (w:World) (R:RD w p g cap rk l k bl dp) (E:TErr p a0 a1 w) (X:RK p rk w) (hSp:∀ b,S b→b≠p∧b<w.heap.size) (hrep0:Z2l S w [.string op,.int .i64 z,.string sx,.slice pa pn pc,.slice la ln lc] e)
  (hce:w.heap[ce]?=some (.cells #[.string op,.int .i64 z,.string sx,.slice pa pn pc,.slice la ln lc] 72)) (hcr:w.cell? ⟨cr,0,none⟩=some (.pointer (some ⟨p,0,none⟩))) :
  Calls prog 173 #[.pointer (some ⟨cr,0,none⟩),.pointer (some ⟨ce,0,none⟩)] w fun ev w'=>Z0p (fun b=>S b∨w.heap.size≤b) p g cap rk l k bl dp a0 a1 w (Z4u Z8w (Z1g l (Z0n term) Za7 l.length [e] k)) ev w':=by
 have hpl:=Z00 R.blk
 have hgl:=R.gl
 have hcl:=Z00 hce
 have hrl:=Z02 hcr
 have hb0:Below w.heap.size w (w.alloc (.cells #[.string ⟨#[]⟩,.int .i64 0,.string ⟨#[]⟩,.slice none 0 0,.slice none 0 0] 72)):=(Below.refl _ _).alloc (Nat.le_refl _) _
 have K0:Keeps p w (w.alloc (.cells #[.string ⟨#[]⟩,.int .i64 0,.string ⟨#[]⟩,.slice none 0 0,.slice none 0 0] 72)):=Keeps.of hb0 (by omega)
 have hs0:(w.alloc (.cells #[.string ⟨#[]⟩,.int .i64 0,.string ⟨#[]⟩,.slice none 0 0,.slice none 0 0] 72)).heap.size=w.heap.size+1:=by simp
 have HT:Hid (∀ W,Below (w.heap.size+1) (w.alloc (.cells #[.string ⟨#[]⟩,.int .i64 0,.string ⟨#[]⟩,.slice none 0 0,.slice none 0 0] 72)) W→W.heap.size=w.heap.size+1→Calls prog 174 #[.pointer (some ⟨p,0,none⟩),.string ⟨#[41]⟩,.slice (some ⟨w.heap.size+1,0,none⟩) 1 1] (W.alloc (.cells #[.string op,.int .i64 z,.string sx,.slice pa pn pc,.slice la ln lc] 72)) fun ev w'=>Z9t (fun b=>S b∨w.heap.size+1≤b) p g cap rk l k bl dp a0 a1 (w.alloc (.cells #[.string ⟨#[]⟩,.int .i64 0,.string ⟨#[]⟩,.slice none 0 0,.slice none 0 0] 72)) (Z1g l (Z0n term) Za7 l.length [e] k) ev w'):=by
  intro W hbW hsW
  have hbA:Below W.heap.size W (W.alloc (.cells #[.string op,.int .i64 z,.string sx,.slice pa pn pc,.slice la ln lc] 72)):=(Below.refl _ _).alloc (Nat.le_refl _) _
  have hbT:Below (w.heap.size+1) (w.alloc (.cells #[.string ⟨#[]⟩,.int .i64 0,.string ⟨#[]⟩,.slice none 0 0,.slice none 0 0] 72)) (W.alloc (.cells #[.string op,.int .i64 z,.string sx,.slice pa pn pc,.slice la ln lc] 72)):=hbW.trans (hbA.mono (by omega))
  have hrow:=Zwl W (.string op) (.int .i64 z) (.string sx) (.slice pa pn pc) (.slice la ln lc)
  rw [hsW] at hrow
  have r1:Z2l (fun b=>S b∨(w.heap.size+1≤b∧(Value.slice (some ⟨w.heap.size+1,0,none⟩) 1 1).ownBlock≠some b)) (W.alloc (.cells #[.string op,.int .i64 z,.string sx,.slice pa pn pc,.slice la ln lc] 72)) [.string op,.int .i64 z,.string sx,.slice pa pn pc,.slice la ln lc] e:=
   hrep0.same (fun b hb hlt=>(hbT.block b (by omega)).trans (hb0.block b hlt)) (fun b hb _=>.inl hb)
  have hT:=Zi1 (S0:=S) Za7 hl hen hk term hterm (w.alloc (.cells #[.string ⟨#[]⟩,.int .i64 0,.string ⟨#[]⟩,.slice none 0 0,.slice none 0 0] 72)) (W.alloc (.cells #[.string op,.int .i64 z,.string sx,.slice pa pn pc,.slice la ln lc] 72)) (.slice (some ⟨w.heap.size+1,0,none⟩) 1 1) [.string op,.int .i64 z,.string sx,.slice pa pn pc,.slice la ln lc] [e]
   ((R.more hb0).more (by rw [hs0];exact hbT)) (Keeps.of (by rw [hs0];exact hbT) (by omega)) (E.keeps K0) (X.keeps K0) (by omega) (by omega) (by rw [hs0];exact hrow) (by rw [hs0];exact (Z2j.nil _ _).snoc r1) (fun b hb=>by have:=hSp b hb;rw [hs0];omega) (by simp)
  rw [hs0] at hT
  exact hT
 have HB0:=Z01 (heap_alloc_new w (.cells #[.string ⟨#[]⟩,.int .i64 0,.string ⟨#[]⟩,.slice none 0 0,.slice none 0 0] 72))
 obtain ⟨t0,t1,t2,t3,t4,_⟩:=Z05 hce
 obtain ⟨o,ho⟩:∃ o,Z1g l (Z0n term) Za7 l.length [e] k=o:=⟨_,rfl⟩
 rw [ho] at HT ⊢
 have HSP:=Z01 hSp
 clear hterm R E X ho hrep0 hSp hce
 go_enter func173,ntmps173
 go_wp2_with fail
 refine (HT.out _ (Below.refl _ _) hs0).mono ?_
 intro ev w3 hP
 unfold Z9t at hP
 cases o with
 | error y =>
  obtain ⟨t,g1,b,rfl,g2⟩:=hP
  have HF:Hid (Z04 l p a0 a1 w y (.panicked [{ v:=.iface 61 (.pointer (some ⟨b,0,none⟩)),recovered:=false }]) w3):=Z04.after K0.below ⟨t,g1,b,rfl,g2⟩
  clear g1 g2 K0 HT
  go_wp2_with fail
  exact ⟨rfl,HF.out⟩
 | ok y =>
  obtain ⟨el,k'⟩:=y
  obtain ⟨la,lc,rfl,hL,R3,K3,hk3,hk3l,hcap⟩:=hP
  have hB3:=(K3.block w.heap.size (by omega) (by omega)).trans HB0.out
  obtain ⟨u0,u1,u2,u3,u4,uf⟩:=Z05 hB3
  have uf0:=uf 0
  have uf1:=uf 1
  have uf2:=uf 2
  have uf3:=uf 3
  have uf4:=uf 4
  have ul:=Z00 hB3
  have HZ:=Z01 (Zpx (lc:=lc) Z8w (by decide) hpl hgl HSP.out K3 R3 hL hcap)
  clear hL R3 K3 K0 hB3 uf HT
  go_wp2_with fail
  obtain ⟨z1,z2,z3,z4⟩:=HZ.out
  refine bodyPost_ret (Z0b _ 2 rfl _ _ w.heap.size _ _ _ _ _ rfl z1) rfl ?_
  exact ⟨_,_,_,_,_,rfl,z2,z3,z4,by omega,hk3l⟩
end Go.Proofs.YtflcohidmemfpaaGreatDoor
