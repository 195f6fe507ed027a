/- Package tree: post (written by tools/tree/post.py). -/
import Derived.Test.YtflcohidmemfpaaGreatDoorSsI
set_option linter.all false
namespace Go.Proofs.YtflcohidmemfpaaGreatDoor
open Go.Proofs.Tryz
open Go.RowKit

def Z7n:ByteArray:=⟨#[40]⟩
def Zaj:ByteArray:=⟨#[91]⟩
def Zc1:ByteArray:=⟨#[93]⟩
def Z2n (dp k:Nat) (o:Out (DataW Unit)):Out (DataW Unit):=if dp=12 then .error (k,true) else o
def Z22 (l:List (ByteArray × ByteArray × Nat)) (dp:Nat) (term:Nat→Out (DataW Unit)):Nat→DataW Unit→Nat→Out (DataW Unit)
 | 0,_,k=>.error (k,false)
 | f+1,e,k=>bif Z09 l k [Z7n] then (match Z2n dp k (Z4u Z8w (Z1g l (Z0n term) Za7 l.length [e] (k+1))) with
   | .error x=>.error x
   | .ok (e',k')=>Z22 l dp term f e' k')
  else bif Z09 l k [Zaj] then (match Z2n dp k (Z3t e (Z1c l Zc1 (term (k+1)))) with
   | .error x=>.error x
   | .ok (e',k')=>Z22 l dp term f e' k')
  else .ok (e,k)
def Zde (l:List (ByteArray × ByteArray × Nat)) (dp:Nat) (term:Nat→Out (DataW Unit)) (atom:Out (DataW Unit)):Out (DataW Unit):=match atom with
 | .error x=>.error x
 | .ok (e,k')=>Z22 l dp term (l.length+1) e k'

theorem Z0p.wide {S S':Nat→Prop}{p g cap:Nat}{rk:Value}{l:List (ByteArray × ByteArray × Nat)}{k bl dp:Nat}{a0 a1:Addr}{w:World}{o:Out (DataW Unit)}{ev:Ending}{w':World} (h:Z0p S p g cap rk l k bl dp a0 a1 w o ev w') (hS:∀ b,S b→S' b):Z0p S' p g cap rk l k bl dp a0 a1 w o ev w':=by
 unfold Z0p at h ⊢
 cases o with
 | error y=>exact h
 | ok y =>
  obtain ⟨c0,c1,c2,c3,c4,h1,h2,h3⟩:=h
  exact ⟨c0,c1,c2,c3,c4,h1,h2.same (fun _ _ _=>rfl) (fun b hb _=>hS b hb),h3⟩
theorem Z52 {w:World}{p g cap:Nat}{rk:Value}{l:List (ByteArray × ByteArray × Nat)}{k bl dp:Nat} (R:RD w p g cap rk l k bl dp) {x:ByteArray × ByteArray × Nat} (hx:l[k]?=some x) (t:ByteArray) :
  Calls prog 110 #[.pointer (some ⟨p,0,none⟩),.slice (some ⟨w.heap.size,0,none⟩) 1 1] (w.alloc (.cells #[.string t] 9)) fun ev w'=>ev = .returned (.bool (Z0i x [t]))∧Below w.heap.size w w':=by
 have hb0:Below w.heap.size w (w.alloc (.cells #[.string t] 9)):=(Below.refl _ _).alloc (Nat.le_refl _) _
 refine (Z10 (R.more hb0) hx [t] w.heap.size 0 1 (by simp) (Zkk w t)).mono ?_
 rintro ev w1 ⟨rfl,hb1⟩
 exact ⟨rfl,hb0.trans (hb1.mono hb0.size)⟩

set_option maxRecDepth 100000 in
theorem Zgt {S:Nat→Prop}{p g cap:Nat}{rk:Value}{l:List (ByteArray × ByteArray × Nat)}{k bl dp:Nat}{a0 a1:Addr}{e:DataW Unit}{op:ByteArray}{z:Int}{sx:ByteArray}{pa:Option Addr}{pn pc:Nat}{la:Option Addr}{ln lc:Nat} (ce cr:Nat) (hl:l.length≤100000) (hen:Z57 l) (hk:k+1<l.length) (hdp:dp≤12) (term:Nat→Out (DataW Unit))
  (hterm:∀ k',k+1≤k'→k'<l.length→dp<12→Z0w 112 #[.pointer (some ⟨p,0,none⟩)] p g cap rk l k' bl (dp+1) a0 a1 (term k')) (w:World) (R:RD w p g cap rk l k bl dp) (E:TErr p a0 a1 w) (X:RK p rk w) (hSp:∀ b,S b→b≠p∧b<w.heap.size) (hrep0:Z2l S w [.string op,.int .i64 z,.string sx,.slice pa pn pc,.slice la ln lc] e)
  (hce:w.heap[ce]?=some (.cells #[.string op,.int .i64 z,.string sx,.slice pa pn pc,.slice la ln lc] 72)) (hcp:ce≠p) (hcr:w.cell? ⟨cr,0,none⟩=some (.pointer (some ⟨p,0,none⟩))) (hrp:cr≠p) :
  Calls prog 170 #[.pointer (some ⟨p,0,none⟩),.func (.func 173) #[] #[.pointer (some ⟨cr,0,none⟩),.pointer (some ⟨ce,0,none⟩)]] w fun ev w'=>Z0p (fun b=>S b∨w.heap.size<b) p g cap rk l k bl dp a0 a1 w (Z2n dp k (Z4u Z8w (Z1g l (Z0n term) Za7 l.length [e] (k+1)))) ev w':=by
 unfold Z2n
 by_cases h12:dp=12
 ·subst h12
  rw [if_pos rfl]
  exact Z2o _ (by omega) w R E
 ·rw [if_neg h12]
  have hterm:=fun k' h1 h2=>hterm k' h1 h2 (by omega)
  have hpl:=Z00 R.blk
  refine Z4w 173 _ (fun _ _=>rfl) hk hl (by omega) w (fun b=>S b∨w.heap.size<b) ?_ ?_ _ (fun w1 R1 K1 hs1 E1 => ?_) R E
  ·rintro (h | h)
   ·have:=(hSp _ h).2
    omega
   ·omega
  ·rintro (h | h)
   ·exact (hSp _ h).1 rfl
   ·omega
  ·have h1:∀ b,S b→b≠p∧b<w1.heap.size:=fun b hb=>⟨(hSp b hb).1,by have:=(hSp b hb).2;omega⟩
   have h2:=hrep0.same (K1.same (fun h=>(hSp p h).1 rfl)) (fun b hb _=>hb)
   have h3:=(K1.block ce hcp (Z00 hce)).trans hce
   have h4:=K1.cell hrp hcr
   exact (Zhx ce cr hl hen hk term hterm w1 R1 E1 (X.keeps K1) h1 h2 h3 h4).mono (fun ev w' h=>h.wide (fun b hb=>hb.imp id (fun h=>by omega)))

set_option maxRecDepth 100000 in
theorem Zfu {S:Nat→Prop}{p g cap:Nat}{rk:Value}{l:List (ByteArray × ByteArray × Nat)}{k bl dp:Nat}{a0 a1:Addr}{e:DataW Unit}{op:ByteArray}{z:Int}{sx:ByteArray}{pa:Option Addr}{pn pc:Nat}{la:Option Addr}{ln lc:Nat} (ce cr:Nat) (hl:l.length≤100000) (hen:Z57 l) (hk:k+1<l.length) (hdp:dp≤12) (term:Nat→Out (DataW Unit))
  (hterm:∀ k',k+1≤k'→k'<l.length→dp<12→Z0w 112 #[.pointer (some ⟨p,0,none⟩)] p g cap rk l k' bl (dp+1) a0 a1 (term k')) (w:World) (R:RD w p g cap rk l k bl dp) (E:TErr p a0 a1 w) (X:RK p rk w) (hSp:∀ b,S b→b≠p∧b<w.heap.size) (hrep0:Z2l S w [.string op,.int .i64 z,.string sx,.slice pa pn pc,.slice la ln lc] e)
  (hce:w.heap[ce]?=some (.cells #[.string op,.int .i64 z,.string sx,.slice pa pn pc,.slice la ln lc] 72)) (hcp:ce≠p) (hcr:w.cell? ⟨cr,0,none⟩=some (.pointer (some ⟨p,0,none⟩))) (hrp:cr≠p) :
  Calls prog 170 #[.pointer (some ⟨p,0,none⟩),.func (.func 175) #[] #[.pointer (some ⟨ce,0,none⟩),.pointer (some ⟨cr,0,none⟩)]] w fun ev w'=>Z0p (fun b=>S b∨w.heap.size<b) p g cap rk l k bl dp a0 a1 w (Z2n dp k (Z3t e (Z1c l Zc1 (term (k+1))))) ev w':=by
 unfold Z2n
 by_cases h12:dp=12
 ·subst h12
  rw [if_pos rfl]
  exact Z2o _ (by omega) w R E
 ·rw [if_neg h12]
  have hterm:=fun k' h1 h2=>hterm k' h1 h2 (by omega)
  have hpl:=Z00 R.blk
  refine Z4w 175 _ (fun _ _=>rfl) hk hl (by omega) w (fun b=>S b∨w.heap.size<b) ?_ ?_ _ (fun w1 R1 K1 hs1 E1 => ?_) R E
  ·rintro (h | h)
   ·have:=(hSp _ h).2
    omega
   ·omega
  ·rintro (h | h)
   ·exact (hSp _ h).1 rfl
   ·omega
  ·have h1:∀ b,S b→b≠p∧b<w1.heap.size:=fun b hb=>⟨(hSp b hb).1,by have:=(hSp b hb).2;omega⟩
   have h2:=hrep0.same (K1.same (fun h=>(hSp p h).1 rfl)) (fun b hb _=>hb)
   have h3:=(K1.block ce hcp (Z00 hce)).trans hce
   have h4:=K1.cell hrp hcr
   exact (Zfo ce cr (Z9f Zc1 hl hen (hterm (k+1) (Nat.le_refl _) hk)) w1 R1 E1 (X.keeps K1) h1 h2 h3 hcp h4).mono (fun ev w' h=>h.wide (fun b hb=>hb.imp id (fun h=>by omega)))

structure PostAt (p g cap:Nat) (rk:Value) (l:List (ByteArray × ByteArray × Nat)) (bl dp:Nat) (w:World) (B:Nat) (e:DataW Unit) (k2:Nat) (op:ByteArray) (z:Int) (sx:ByteArray) (pa:Option Addr) (pn pc:Nat) (la:Option Addr) (ln lc:Nat) (wx:World):Prop where
 rd:RD wx p g cap rk l k2 bl dp
 ks:Keeps p w wx
 br:wx.cell? ⟨w.heap.size,0,none⟩=some (.pointer (some ⟨p,0,none⟩))
 b4:wx.heap[w.heap.size+1]?=some (.cells #[.string ⟨#[]⟩,.int .i64 0,.string ⟨#[]⟩,.slice none 0 0,.slice none 0 0] 72)
 b5:wx.heap[B]?=some (.cells #[.string op,.int .i64 z,.string sx,.slice pa pn pc,.slice la ln lc] 72)
 rep:Z2l (fun b=>w.heap.size+1<b∧b≠B∧b<wx.heap.size) wx [.string op,.int .i64 z,.string sx,.slice pa pn pc,.slice la ln lc] e
 wB:w.heap.size+1<B
 kl:k2<l.length
theorem PostAt.more {p g cap:Nat}{rk:Value}{l:List (ByteArray × ByteArray × Nat)}{k2 bl dp B:Nat}{w wx w':World}{e:DataW Unit}{op:ByteArray}{z:Int}{sx:ByteArray}{pa:Option Addr}{pn pc:Nat}{la:Option Addr}{ln lc:Nat} (A:PostAt p g cap rk l bl dp w B e k2 op z sx pa pn pc la ln lc wx) (hpl:p<w.heap.size) (hb:Below wx.heap.size wx w'):PostAt p g cap rk l bl dp w B e k2 op z sx pa pn pc la ln lc w':=by
 have hs:=A.ks.below.size
 have hs2:=hb.size
 exact ⟨A.rd.more hb,A.ks.trans (Keeps.of hb (by omega)),(hb.cell (p:=⟨w.heap.size,0,none⟩) (Z02 A.br)).trans A.br,(hb.block _ (Z00 A.b4)).trans A.b4,(hb.block _ (Z00 A.b5)).trans A.b5,A.rep.same (Z06 hb) (fun b h _=>⟨h.1,h.2.1,by omega⟩),A.wB,A.kl⟩
theorem Zo0 {p g cap:Nat}{rk:Value}{l:List (ByteArray × ByteArray × Nat)}{k2 bl dp:Nat}{w w1:World}{e:DataW Unit}{op:ByteArray}{z:Int}{sx:ByteArray}{pa:Option Addr}{pn pc:Nat}{la:Option Addr}{ln lc:Nat} (hpl:p<w.heap.size) (hrep:Z2l (fun b=>w.heap.size+2≤b) w1 [.string op,.int .i64 z,.string sx,.slice pa pn pc,.slice la ln lc] e) (R1:RD w1 p g cap rk l k2 bl dp) (K1:Keeps p ((w.alloc (.cells #[.pointer (some ⟨p,0,none⟩)] 119)).alloc (.cells #[.string ⟨#[]⟩,.int .i64 0,.string ⟨#[]⟩,.slice none 0 0,.slice none 0 0] 72)) w1) (hk:k2<l.length) :
  PostAt p g cap rk l bl dp w w1.heap.size e k2 op z sx pa pn pc la ln lc (w1.alloc (.cells #[.string op,.int .i64 z,.string sx,.slice pa pn pc,.slice la ln lc] 72)):=by
 have hb0:Below w.heap.size w ((w.alloc (.cells #[.pointer (some ⟨p,0,none⟩)] 119)).alloc (.cells #[.string ⟨#[]⟩,.int .i64 0,.string ⟨#[]⟩,.slice none 0 0,.slice none 0 0] 72)):=((Below.refl _ _).alloc (Nat.le_refl _) _).alloc (by simp) _
 have K0:Keeps p w ((w.alloc (.cells #[.pointer (some ⟨p,0,none⟩)] 119)).alloc (.cells #[.string ⟨#[]⟩,.int .i64 0,.string ⟨#[]⟩,.slice none 0 0,.slice none 0 0] 72)):=Keeps.of hb0 (by omega)
 have hba:Below w1.heap.size w1 (w1.alloc (.cells #[.string op,.int .i64 z,.string sx,.slice pa pn pc,.slice la ln lc] 72)):=(Below.refl _ _).alloc (Nat.le_refl _) _
 have hs:=K1.below.size
 have hs0:((w.alloc (.cells #[.pointer (some ⟨p,0,none⟩)] 119)).alloc (.cells #[.string ⟨#[]⟩,.int .i64 0,.string ⟨#[]⟩,.slice none 0 0,.slice none 0 0] 72)).heap.size=w.heap.size+2:=by simp
 have hsa:(w1.alloc (.cells #[.string op,.int .i64 z,.string sx,.slice pa pn pc,.slice la ln lc] 72)).heap.size=w1.heap.size+1:=by simp
 have hB0:((w.alloc (.cells #[.pointer (some ⟨p,0,none⟩)] 119)).alloc (.cells #[.string ⟨#[]⟩,.int .i64 0,.string ⟨#[]⟩,.slice none 0 0,.slice none 0 0] 72)).heap[w.heap.size+1]?=some (.cells #[.string ⟨#[]⟩,.int .i64 0,.string ⟨#[]⟩,.slice none 0 0,.slice none 0 0] 72):=by
  have:=heap_alloc_new (w.alloc (.cells #[.pointer (some ⟨p,0,none⟩)] 119)) (.cells #[.string ⟨#[]⟩,.int .i64 0,.string ⟨#[]⟩,.slice none 0 0,.slice none 0 0] 72)
  simpa using this
 have hR0:((w.alloc (.cells #[.pointer (some ⟨p,0,none⟩)] 119)).alloc (.cells #[.string ⟨#[]⟩,.int .i64 0,.string ⟨#[]⟩,.slice none 0 0,.slice none 0 0] 72)).heap[w.heap.size]?=some (.cells #[.pointer (some ⟨p,0,none⟩)] 119):=(Below.heap_alloc _ _ _ (by simp)).trans (heap_alloc_new w _)
 have hR1:=(hba.block _ (by omega)).trans ((K1.block _ (by omega) (by omega)).trans hR0)
 refine ⟨R1.more hba,(K0.trans K1).trans (Keeps.of hba (by omega)),by rw [cell_of_row _ _ 0 _ _ _ hR1];rfl,(hba.block _ (by omega)).trans ((K1.block _ (by omega) (by omega)).trans hB0),heap_alloc_new _ _,hrep.same (Z06 hba) (fun b hb hl => ?_),by omega,hk⟩
 refine ⟨?_,?_,?_⟩ <;> omega
theorem Zh4 {p g cap:Nat}{rk:Value}{l:List (ByteArray × ByteArray × Nat)}{k2 k3 bl dp B:Nat}{w wx w4:World}{e e2:DataW Unit}{op:ByteArray}{z:Int}{sx:ByteArray}{pa:Option Addr}{pn pc:Nat}{la:Option Addr}{ln lc:Nat}{op2:ByteArray}{z2:Int}{sx2:ByteArray}{pa2:Option Addr}{pn2 pc2:Nat}{la2:Option Addr}{ln2 lc2:Nat}
  (hpl:p<w.heap.size) (hgl:g<w.heap.size) (A:PostAt p g cap rk l bl dp w B e k2 op z sx pa pn pc la ln lc wx) (K4:Keeps p wx w4) (R4:RD w4 p g cap rk l k3 bl dp) (hrep:Z2l (fun b=>(w.heap.size+1<b∧b≠B∧b<wx.heap.size)∨wx.heap.size<b) w4 [.string op2,.int .i64 z2,.string sx2,.slice pa2 pn2 pc2,.slice la2 ln2 lc2] e2) (hk:k3<l.length) :
  PostAt p g cap rk l bl dp w B e2 k3 op2 z2 sx2 pa2 pn2 pc2 la2 ln2 lc2 (set5 w4 B (.string op2) (.int .i64 z2) (.string sx2) (.slice pa2 pn2 pc2) (.slice la2 ln2 lc2)):=by
 have hBx:=Z00 A.b5
 have hwB:=A.wB
 have hs4:=K4.below.size
 have hB4:=(K4.block B (by omega) hBx).trans A.b5
 obtain ⟨f1,f2,f3,f4⟩:=Z65 hrep R4 (A.ks.trans K4) hB4 (fun h=>by omega) (by omega) (by omega) (by omega) (.string op2) (.int .i64 z2) (.string sx2) (.slice pa2 pn2 pc2) (.slice la2 ln2 lc2)
 have hz:=Z7a w4 B (.string op2) (.int .i64 z2) (.string sx2) (.slice pa2 pn2 pc2) (.slice la2 ln2 lc2)
 have hrB:(set5 w4 B (.string op2) (.int .i64 z2) (.string sx2) (.slice pa2 pn2 pc2) (.slice la2 ln2 lc2)).cell? ⟨w.heap.size,0,none⟩=some (.pointer (some ⟨p,0,none⟩)):=(World.cell?_of_block (a:=⟨w.heap.size,0,none⟩) (Z5n (show w.heap.size≠B by omega) _ _ _ _ _)).trans (K4.cell (by omega) A.br)
 refine ⟨f2,f3,hrB,(Z5n (by omega) _ _ _ _ _).trans ((K4.block _ (by omega) (Z00 A.b4)).trans A.b4),f4,f1.same (fun _ _ _=>rfl) (fun b hb hl => ?_),hwB,hk⟩
 rw [hz] at hl ⊢
 refine ⟨?_,?_,?_⟩ <;> omega
theorem Zsj {p g cap:Nat}{rk:Value}{l:List (ByteArray × ByteArray × Nat)}{k2 bl dp B:Nat}{w wx:World}{e:DataW Unit}{op:ByteArray}{z:Int}{sx:ByteArray}{pa:Option Addr}{pn pc:Nat}{la:Option Addr}{ln lc:Nat} (hpl:p<w.heap.size) (hgl:g<w.heap.size) (A:PostAt p g cap rk l bl dp w B e k2 op z sx pa pn pc la ln lc wx) :
  (set5 wx (w.heap.size+1) (.string op) (.int .i64 z) (.string sx) (.slice pa pn pc) (.slice la ln lc)).heap[w.heap.size+1]?=some (.cells #[.string op,.int .i64 z,.string sx,.slice pa pn pc,.slice la ln lc] 72)∧Z2l (fun b=>w.heap.size≤b) (set5 wx (w.heap.size+1) (.string op) (.int .i64 z) (.string sx) (.slice pa pn pc) (.slice la ln lc)) [.string op,.int .i64 z,.string sx,.slice pa pn pc,.slice la ln lc] e∧RD (set5 wx (w.heap.size+1) (.string op) (.int .i64 z) (.string sx) (.slice pa pn pc) (.slice la ln lc)) p g cap rk l k2 bl dp∧Keeps p w (set5 wx (w.heap.size+1) (.string op) (.int .i64 z) (.string sx) (.slice pa pn pc) (.slice la ln lc)):=by
 obtain ⟨f1,f2,f3,f4⟩:=Z65 A.rep A.rd A.ks A.b4 (fun h=>by omega) (by omega) (by omega) (by omega) (.string op) (.int .i64 z) (.string sx) (.slice pa pn pc) (.slice la ln lc)
 exact ⟨f4,f1.same (fun _ _ _=>rfl) (fun b h _=>by omega),f2,f3⟩

set_option maxHeartbeats 4000000 in
set_option maxRecDepth 100000 in
theorem Zsy {p g cap:Nat}{rk:Value}{l:List (ByteArray × ByteArray × Nat)}{k bl dp:Nat}{a0 a1:Addr} (hl:l.length≤100000) (hen:Z57 l) (hdp:dp≤12) (term:Nat→Out (DataW Unit)) (atom:Out (DataW Unit))
  (hterm:∀ k',k+1≤k'→k'<l.length→dp<12→Z0w 112 #[.pointer (some ⟨p,0,none⟩)] p g cap rk l k' bl (dp+1) a0 a1 (term k')) (ha:Z0w 172 #[.pointer (some ⟨p,0,none⟩)] p g cap rk l k bl dp a0 a1 atom):Z0w 155 #[.pointer (some ⟨p,0,none⟩)] p g cap rk l k bl dp a0 a1 (Zde l dp term atom):=by
 intro w R E X
 have hpl:=Z00 R.blk
 have hgl:=R.gl
 have hb0:Below w.heap.size w ((w.alloc (.cells #[.pointer (some ⟨p,0,none⟩)] 119)).alloc (.cells #[.string ⟨#[]⟩,.int .i64 0,.string ⟨#[]⟩,.slice none 0 0,.slice none 0 0] 72)):=((Below.refl _ _).alloc (Nat.le_refl _) _).alloc (by simp) _
 have K0:Keeps p w ((w.alloc (.cells #[.pointer (some ⟨p,0,none⟩)] 119)).alloc (.cells #[.string ⟨#[]⟩,.int .i64 0,.string ⟨#[]⟩,.slice none 0 0,.slice none 0 0] 72)):=Keeps.of hb0 (by omega)
 have hsz:((w.alloc (.cells #[.pointer (some ⟨p,0,none⟩)] 119)).alloc (.cells #[.string ⟨#[]⟩,.int .i64 0,.string ⟨#[]⟩,.slice none 0 0,.slice none 0 0] 72)).heap.size=w.heap.size+2:=by simp
 have HC:=Z01 (ha _ (R.more hb0) (E.keeps K0) (X.keeps K0))
 have HH:=Z01 hterm
 have HE:=Z01 E
 have HX:=Z01 X
 clear R E X hterm ha
 unfold Zde
 cases atom with
 | error y =>
  show Calls _ _ _ _ fun ev w'=>Z0p _ p g cap rk l k bl dp a0 a1 w (.error y) ev w'
  clear HH HE HX
  go_enter func155,ntmps155
  go_wp2_with fail
  refine HC.out.mono ?_
  intro ev w1 hP
  unfold Z0p at hP
  obtain ⟨t,g1,b,rfl,g2⟩:=hP
  have HF:Hid (Z04 l p a0 a1 w y (.panicked [{ v:=.iface 61 (.pointer (some ⟨b,0,none⟩)),recovered:=false }]) w1):=Z04.after K0.below ⟨t,g1,b,rfl,g2⟩
  clear g1 g2 K0 HC
  go_wp2_with fail
  exact ⟨rfl,HF.out⟩
 | ok y =>
  obtain ⟨e,k1⟩:=y
  simp only
  obtain ⟨o,hoo⟩:∃ o,Z22 l dp term (l.length+1) e k1=o:=⟨_,rfl⟩
  rw [hoo]
  have HOO:=Z01 hoo
  have HPE:Hid (∀ y ev w',o = .error y→Z04 l p a0 a1 w y ev w'→Z0p (fun b=>w.heap.size≤b) p g cap rk l k bl dp a0 a1 w o ev w'):=by
   rintro y ev w' rfl h
   exact h
  clear hoo
  go_enter func155,ntmps155
  go_wp2_with fail
  refine HC.out.mono ?_
  intro ev w1 hP
  rw [hsz] at hP
  rcases hP.parts with ⟨e',k',op,z,sx,pa,pn,pc,la,ln,lc,q,rfl,hrep,R1,K1,hk1,hk1l⟩ | ⟨y,b,q,_⟩
  rotate_left
  ·cases q
  cases q
  have HA:=Z01 (Zo0 hpl hrep R1 K1 hk1l)
  clear hP hrep R1 K1 HC
  go_wp2_with fail
  go_loopg [] (l.length+1) (fun gk wx => ∃ (e2:DataW Unit) (k2:Nat) (op:ByteArray) (z:Int) (sx:ByteArray) (pa:Option Addr) (pn pc:Nat) (la:Option Addr) (ln lc:Nat),PostAt p g cap rk l bl dp w w1.heap.size e2 k2 op z sx pa pn pc la ln lc wx∧k<k2∧l.length - k2<gk∧Z22 l dp term gk e2 k2=o)
  case atStart=>exact ⟨_,_,_,_,_,_,_,_,_,_,_,HA.out,by omega,by omega,HOO.out⟩
  case round =>
   obtain ⟨e2,k2,op,z,sx,pa,pn,pc,la,ln,lc,A,hk2,hgk,hpm⟩:=hrel
   have hk2l:=A.kl
   obtain ⟨x,hx⟩:∃ x,l[k2]?=some x:=⟨l[k2],by simp [hk2l]⟩
   obtain ⟨gj,hgj⟩:∃ gj,gk=gj+1:=⟨gk - 1,by omega⟩
   have HGJ:=Z01 hgj
   rw [hgj] at hpm
   unfold Z22 at hpm
   rw [Z0r hx,Z0r hx] at hpm
   have HXX:=Z01 hx
   obtain ⟨m,hm⟩:∃ m,Z0i x [Z7n]=m:=⟨_,rfl⟩
   obtain ⟨m2,hm2⟩:∃ m,Z0i x [Zaj]=m:=⟨_,rfl⟩
   rw [hm,hm2] at hpm
   have HM:=Z01 hm
   have HM2:=Z01 hm2
   have HPM:=Z01 hpm
   have hwB:=A.wB
   have cr0:=A.br
   have HC1:=Z01 (Z52 A.rd hx Z7n)
   have HAA:=Z01 A
   clear hpm hgj hm hm2 A HA
   go_wp2_with fail
   refine HC1.out.mono ?_
   rintro ev w3 ⟨rfl,hb3⟩
   rw [HM.out]
   have A3:=HAA.out.more hpl hb3
   clear hb3 HC1
   cases m
   ·have HC2:=Z01 (Z52 A3.rd hx Zaj)
    have HA3:=Z01 A3
    have cr3:=A3.br
    clear A3
    go_wp2_with fail
    refine HC2.out.mono ?_
    rintro ev w4 ⟨rfl,hb4⟩
    rw [HM2.out]
    have A4:=HA3.out.more hpl hb4
    clear hb4 HC2
    cases m2
    ·have ho2:o = .ok (e2,k2):=HPM.out.symm
     subst ho2
     obtain ⟨t0,t1,t2,t3,t4,_⟩:=Z05 A4.b5
     obtain ⟨u0,u1,u2,u3,u4,uf⟩:=Z05 A4.b4
     have uf0:=uf 0
     have uf1:=uf 1
     have uf2:=uf 2
     have uf3:=uf 3
     have uf4:=uf 4
     have HZ:=Z01 (Zsj hpl hgl A4)
     clear A4 uf hx HPM HPE
     go_wp2_with fail
     obtain ⟨z1,z2,z3,z4⟩:=HZ.out
     refine bodyPost_ret (Z0b _ 2 rfl _ _ (w.heap.size+1) _ _ _ _ _ rfl z1) rfl ?_
     exact ⟨_,_,_,_,_,rfl,z2,z3,z4,hk2,hk2l⟩
    ·have hk3:k2+1<l.length:=hen.next HXX.out HM2.out
     have hBx:=Z00 A4.b5
     have hsw:=A4.ks.below.size
     have HD:=Z01 (Zfu w1.heap.size w.heap.size hl hen hk3 hdp term (fun k' h1 h2=>HH.out k' (by omega) h2) _ A4.rd (HE.out.keeps A4.ks) (HX.out.keeps A4.ks) (fun b hb=>⟨by omega,hb.2.2⟩) A4.rep A4.b5 (by omega) A4.br (by omega))
     have H4:=Z01 A4
     have cr4:=A4.br
     clear A4 hx
     go_wp2_with fail
     refine HD.out.mono ?_
     intro ev w5 hP
     rcases hP.parts with ⟨e5,k5,op5,z5,sx5,pa5,pn5,pc5,la5,ln5,lc5,q5,rfl,hrep5,R5,K5,hk5,hk5l⟩ | ⟨y,b,q5,rfl,hf⟩
     rotate_left
     ·have ho2:o = .error y:=by
       rw [←HPM.out]
       simp only [cond_true,cond_false,q5]
      have HF:=Z01 (HPE.out y _ _ ho2 (Z04.after H4.out.ks.below hf))
      clear hP HD hf HPE
      go_wp2_with fail
      exact ⟨rfl,HF.out⟩
     have ho2:Z22 l dp term gj e5 k5=o:=by
      rw [←HPM.out]
      simp only [cond_true,cond_false,q5]
     have HO2:=Z01 ho2
     obtain ⟨s0,s1,s2,s3,s4,sf⟩:=Z05 ((K5.block _ (by omega) (Z00 H4.out.b5)).trans H4.out.b5)
     have sf0:=sf 0
     have sf1:=sf 1
     have sf2:=sf 2
     have sf3:=sf 3
     have sf4:=sf 4
     have sl:=Z02 s0
     have HA6:=Z01 (Zh4 hpl hgl H4.out K5 R5 hrep5 hk5l)
     clear hP q5 hrep5 R5 K5 sf HD ho2
     go_wp2_with fail
     go_roundg gj
     case measure=>have:=HGJ.out;omega
     case rel=>exact ⟨_,_,_,_,_,_,_,_,_,_,_,HA6.out,by omega,by have:=HGJ.out;omega,HO2.out⟩
   ·have hk3:k2+1<l.length:=hen.next HXX.out HM.out
    have hBx:=Z00 A3.b5
    have hsw:=A3.ks.below.size
    have HD:=Z01 (Zgt w1.heap.size w.heap.size hl hen hk3 hdp term (fun k' h1 h2=>HH.out k' (by omega) h2) _ A3.rd (HE.out.keeps A3.ks) (HX.out.keeps A3.ks) (fun b hb=>⟨by omega,hb.2.2⟩) A3.rep A3.b5 (by omega) A3.br (by omega))
    have H4:=Z01 A3
    have cr4:=A3.br
    clear A3 hx
    go_wp2_with fail
    refine HD.out.mono ?_
    intro ev w5 hP
    rcases hP.parts with ⟨e5,k5,op5,z5,sx5,pa5,pn5,pc5,la5,ln5,lc5,q5,rfl,hrep5,R5,K5,hk5,hk5l⟩ | ⟨y,b,q5,rfl,hf⟩
    rotate_left
    ·have ho2:o = .error y:=by
      rw [←HPM.out]
      simp only [cond_true,q5]
     have HF:=Z01 (HPE.out y _ _ ho2 (Z04.after H4.out.ks.below hf))
     clear hP HD hf HPE
     go_wp2_with fail
     exact ⟨rfl,HF.out⟩
    have ho2:Z22 l dp term gj e5 k5=o:=by
     rw [←HPM.out]
     simp only [cond_true,q5]
    have HO2:=Z01 ho2
    obtain ⟨s0,s1,s2,s3,s4,sf⟩:=Z05 ((K5.block _ (by omega) (Z00 H4.out.b5)).trans H4.out.b5)
    have sf0:=sf 0
    have sf1:=sf 1
    have sf2:=sf 2
    have sf3:=sf 3
    have sf4:=sf 4
    have sl:=Z02 s0
    have HA6:=Z01 (Zh4 hpl hgl H4.out K5 R5 hrep5 hk5l)
    clear hP q5 hrep5 R5 K5 sf HD ho2
    go_wp2_with fail
    go_roundg gj
    case measure=>have:=HGJ.out;omega
    case rel=>exact ⟨_,_,_,_,_,_,_,_,_,_,_,HA6.out,by omega,by have:=HGJ.out;omega,HO2.out⟩

end Go.Proofs.YtflcohidmemfpaaGreatDoor
namespace Go.Proofs.YtflcohidmemfpaaGreatDoor
open Go.Proofs.Tryz
open Go.RowKit

def kIntT:ByteArray:=⟨#[105,110,116]⟩
def Z6v:ByteArray:=⟨#[78,111,110,101]⟩
def Z78:ByteArray:=⟨#[84,114,117,101]⟩
def Z48:ByteArray:=⟨#[70,97,108,115,101]⟩
def Zsr:ByteArray:=⟨#[123]⟩
def Z6o (x:ByteArray × ByteArray × Nat):Bool:=x.1.toList == [105,110,116]
def Z4h (x:ByteArray × ByteArray × Nat):Bool:=x.1.toList == [115,116,114]
def Zuj (t:ByteArray):Int:=match Lib.parseIntB 64 t.data.toList with
 | .ok v=>v
 | _=>0
def Z79 (l:List (ByteArray × ByteArray × Nat)) (dp:Nat) (term:Nat→Out (DataW Unit)) (terms pairs:Nat→Out (List (DataW Unit))) (k:Nat):Out (DataW Unit):=match l[k]? with
 | none=>.error (k,false)
 | some x=>bif Z6o x then .ok (mkE kIntT (Zuj x.2.1) ⟨#[]⟩ [] [],k+1)
  else bif Z4h x || Z19 x then .ok (mkE x.1 0 x.2.1 [] [],k+1)
  else bif Z0i x [Z6v,Z78,Z48] then .ok (mkE x.2.1 0 ⟨#[]⟩ [] [],k+1)
  else bif Z0i x [Z7n] then Z2n dp k (Z1c l Za7 (term (k+1)))
  else bif Z0i x [Zaj] then Z2n dp k (Z4u Zv7 (terms (k+1)))
  else bif Z0i x [Zsr] then Z2n dp k (Z4u Zv8 (pairs (k+1)))
  else .error (k,false)

theorem Zlb (w:World) (a b c:ByteArray):TS (w.alloc (.cells #[.string a,.string b,.string c] 9)) w.heap.size 0 [a,b,c]:=fun j x hj=>by
 rw [cell_of_row _ _ _ _ _ _ (heap_alloc_new w _)]
 match j with
 | 0=>simp at hj;subst hj;rfl
 | 1=>simp at hj;subst hj;rfl
 | 2=>simp at hj;subst hj;rfl
 | j+3=>simp at hj
theorem Zbc {w:World}{p g cap:Nat}{rk:Value}{l:List (ByteArray × ByteArray × Nat)}{k bl dp:Nat} (R:RD w p g cap rk l k bl dp) {x:ByteArray × ByteArray × Nat} (hx:l[k]?=some x) (a b c:ByteArray) :
  Calls prog 110 #[.pointer (some ⟨p,0,none⟩),.slice (some ⟨w.heap.size,0,none⟩) 3 3] (w.alloc (.cells #[.string a,.string b,.string c] 9)) fun ev w'=>ev = .returned (.bool (Z0i x [a,b,c]))∧Below w.heap.size w w':=by
 have hb0:Below w.heap.size w (w.alloc (.cells #[.string a,.string b,.string c] 9)):=(Below.refl _ _).alloc (Nat.le_refl _) _
 refine (Z10 (R.more hb0) hx [a,b,c] w.heap.size 0 3 (by simp) (Zlb w a b c)).mono ?_
 rintro ev w1 ⟨rfl,hb1⟩
 exact ⟨rfl,hb0.trans (hb1.mono hb0.size)⟩

structure AtomAt (p g cap:Nat) (rk:Value) (l:List (ByteArray × ByteArray × Nat)) (bl dp:Nat) (w:World) (k2:Nat) (wx:World):Prop where
 rd:RD wx p g cap rk l k2 bl dp
 ks:Keeps p w wx
 br:wx.cell? ⟨w.heap.size,0,none⟩=some (.pointer (some ⟨p,0,none⟩))
 b4:wx.heap[w.heap.size+1]?=some (.cells #[.string ⟨#[]⟩,.int .i64 0,.string ⟨#[]⟩,.slice none 0 0,.slice none 0 0] 72)
 pl:p<w.heap.size
 gl:g<w.heap.size
theorem AtomAt.more {p g cap:Nat}{rk:Value}{l:List (ByteArray × ByteArray × Nat)}{k2 bl dp:Nat}{w wx w':World} (A:AtomAt p g cap rk l bl dp w k2 wx) (hb:Below wx.heap.size wx w'):AtomAt p g cap rk l bl dp w k2 w':=by
 have hs:=A.ks.below.size
 have hp:=A.pl
 exact ⟨A.rd.more hb,A.ks.trans (Keeps.of hb (by omega)),(hb.cell (p:=⟨w.heap.size,0,none⟩) (Z02 A.br)).trans A.br,(hb.block _ (Z00 A.b4)).trans A.b4,A.pl,A.gl⟩
theorem AtomAt.go {p g cap:Nat}{rk:Value}{l:List (ByteArray × ByteArray × Nat)}{k2 k3 bl dp:Nat}{w wx w':World} (A:AtomAt p g cap rk l bl dp w k2 wx) (R:RD w' p g cap rk l k3 bl dp) (K:Keeps p wx w'):AtomAt p g cap rk l bl dp w k3 w':=by
 have hp:=A.pl
 exact ⟨R,A.ks.trans K,K.cell (by omega) A.br,(K.block _ (by omega) (Z00 A.b4)).trans A.b4,A.pl,A.gl⟩
theorem Z3g {p g cap:Nat}{rk:Value}{l:List (ByteArray × ByteArray × Nat)}{k bl dp:Nat}{w:World} (R:RD w p g cap rk l k bl dp):AtomAt p g cap rk l bl dp w k ((w.alloc (.cells #[.pointer (some ⟨p,0,none⟩)] 119)).alloc (.cells #[.string ⟨#[]⟩,.int .i64 0,.string ⟨#[]⟩,.slice none 0 0,.slice none 0 0] 72)):=by
 have hpl:=Z00 R.blk
 have hb0:Below w.heap.size w ((w.alloc (.cells #[.pointer (some ⟨p,0,none⟩)] 119)).alloc (.cells #[.string ⟨#[]⟩,.int .i64 0,.string ⟨#[]⟩,.slice none 0 0,.slice none 0 0] 72)):=((Below.refl _ _).alloc (Nat.le_refl _) _).alloc (by simp) _
 have hB0:((w.alloc (.cells #[.pointer (some ⟨p,0,none⟩)] 119)).alloc (.cells #[.string ⟨#[]⟩,.int .i64 0,.string ⟨#[]⟩,.slice none 0 0,.slice none 0 0] 72)).heap[w.heap.size+1]?=some (.cells #[.string ⟨#[]⟩,.int .i64 0,.string ⟨#[]⟩,.slice none 0 0,.slice none 0 0] 72):=by
  have:=heap_alloc_new (w.alloc (.cells #[.pointer (some ⟨p,0,none⟩)] 119)) (.cells #[.string ⟨#[]⟩,.int .i64 0,.string ⟨#[]⟩,.slice none 0 0,.slice none 0 0] 72)
  simpa using this
 have hR0:((w.alloc (.cells #[.pointer (some ⟨p,0,none⟩)] 119)).alloc (.cells #[.string ⟨#[]⟩,.int .i64 0,.string ⟨#[]⟩,.slice none 0 0,.slice none 0 0] 72)).heap[w.heap.size]?=some (.cells #[.pointer (some ⟨p,0,none⟩)] 119):=(Below.heap_alloc _ _ _ (by simp)).trans (heap_alloc_new w _)
 exact ⟨R.more hb0,Keeps.of hb0 (by omega),by rw [cell_of_row _ _ 0 _ _ _ hR0];rfl,hB0,hpl,R.gl⟩
theorem Zch {p g cap:Nat}{rk:Value}{l:List (ByteArray × ByteArray × Nat)}{k2 bl dp:Nat}{w wx:World} (A:AtomAt p g cap rk l bl dp w k2 wx) (op:ByteArray) (z:Int) (s:ByteArray) :
  (set5 wx (w.heap.size+1) (.string op) (.int .i64 z) (.string s) (.slice none 0 0) (.slice none 0 0)).heap[w.heap.size+1]?=some (.cells #[.string op,.int .i64 z,.string s,.slice none 0 0,.slice none 0 0] 72)∧Z2l (fun b=>w.heap.size≤b) (set5 wx (w.heap.size+1) (.string op) (.int .i64 z) (.string s) (.slice none 0 0) (.slice none 0 0)) [.string op,.int .i64 z,.string s,.slice none 0 0,.slice none 0 0] (mkE op z s [] [])∧RD (set5 wx (w.heap.size+1) (.string op) (.int .i64 z) (.string s) (.slice none 0 0) (.slice none 0 0)) p g cap rk l k2 bl dp∧Keeps p w (set5 wx (w.heap.size+1) (.string op) (.int .i64 z) (.string s) (.slice none 0 0) (.slice none 0 0)):=by
 have hp:=A.pl
 have hg:=A.gl
 exact ⟨Z63 A.b4 _ _ _ _ _,Zne (pl:=[]) (el:=[]) (by simp) (by simp) (fun h=>absurd h (by simp)),A.rd.set5 (by omega) (by omega) _ _ _ _ _,A.ks.set5 (by omega) (by omega) _ _ _ _ _⟩
theorem Ze8 {p g cap:Nat}{rk:Value}{l:List (ByteArray × ByteArray × Nat)}{k2 bl dp:Nat}{w wx:World} (A:AtomAt p g cap rk l bl dp w k2 wx) (op:ByteArray) (z:Int) (s:ByteArray) (o:Obj) :
  ((set5 wx (w.heap.size+1) (.string op) (.int .i64 z) (.string s) (.slice none 0 0) (.slice none 0 0)).alloc o).heap[w.heap.size+1]?=some (.cells #[.string op,.int .i64 z,.string s,.slice none 0 0,.slice none 0 0] 72)∧Z2l (fun b=>w.heap.size≤b) ((set5 wx (w.heap.size+1) (.string op) (.int .i64 z) (.string s) (.slice none 0 0) (.slice none 0 0)).alloc o) [.string op,.int .i64 z,.string s,.slice none 0 0,.slice none 0 0] (mkE op z s [] [])∧RD ((set5 wx (w.heap.size+1) (.string op) (.int .i64 z) (.string s) (.slice none 0 0) (.slice none 0 0)).alloc o) p g cap rk l k2 bl dp∧Keeps p w ((set5 wx (w.heap.size+1) (.string op) (.int .i64 z) (.string s) (.slice none 0 0) (.slice none 0 0)).alloc o):=by
 obtain ⟨z1,z2,z3,z4⟩:=Zch A op z s
 have hba:Below (set5 wx (w.heap.size+1) (.string op) (.int .i64 z) (.string s) (.slice none 0 0) (.slice none 0 0)).heap.size (set5 wx (w.heap.size+1) (.string op) (.int .i64 z) (.string s) (.slice none 0 0) (.slice none 0 0)) ((set5 wx (w.heap.size+1) (.string op) (.int .i64 z) (.string s) (.slice none 0 0) (.slice none 0 0)).alloc o):=(Below.refl _ _).alloc (Nat.le_refl _) _
 have hp:=A.pl
 have hs:=z4.below.size
 exact ⟨(hba.block _ (Z00 z1)).trans z1,z2.same (Z06 hba) (fun b h _=>h),z3.more hba,z4.trans (Keeps.of hba (by omega))⟩
theorem Zcd {p g cap:Nat}{rk:Value}{l:List (ByteArray × ByteArray × Nat)}{k2 k3 bl dp:Nat}{w wx w4:World}{e:DataW Unit}{op:ByteArray}{z:Int}{sx:ByteArray}{pa:Option Addr}{pn pc:Nat}{la:Option Addr}{ln lc:Nat} (A:AtomAt p g cap rk l bl dp w k2 wx) (K4:Keeps p wx w4) (R4:RD w4 p g cap rk l k3 bl dp) (hrep:Z2l (fun b=>wx.heap.size<b) w4 [.string op,.int .i64 z,.string sx,.slice pa pn pc,.slice la ln lc] e) :
  (set5 w4 (w.heap.size+1) (.string op) (.int .i64 z) (.string sx) (.slice pa pn pc) (.slice la ln lc)).heap[w.heap.size+1]?=some (.cells #[.string op,.int .i64 z,.string sx,.slice pa pn pc,.slice la ln lc] 72)∧Z2l (fun b=>w.heap.size≤b) (set5 w4 (w.heap.size+1) (.string op) (.int .i64 z) (.string sx) (.slice pa pn pc) (.slice la ln lc)) [.string op,.int .i64 z,.string sx,.slice pa pn pc,.slice la ln lc] e∧RD (set5 w4 (w.heap.size+1) (.string op) (.int .i64 z) (.string sx) (.slice pa pn pc) (.slice la ln lc)) p g cap rk l k3 bl dp∧Keeps p w (set5 w4 (w.heap.size+1) (.string op) (.int .i64 z) (.string sx) (.slice pa pn pc) (.slice la ln lc)):=by
 have hp:=A.pl
 have hg:=A.gl
 have hl4:=Z00 A.b4
 have A4:=A.go R4 K4
 obtain ⟨f1,f2,f3,f4⟩:=Z65 hrep R4 A4.ks A4.b4 (fun h=>by omega) (by omega) (by omega) (by omega) (.string op) (.int .i64 z) (.string sx) (.slice pa pn pc) (.slice la ln lc)
 exact ⟨f4,f1.same (fun _ _ _=>rfl) (fun b h _=>by omega),f2,f3⟩

set_option maxRecDepth 100000 in
theorem Zd9 {p g cap:Nat}{rk:Value}{l:List (ByteArray × ByteArray × Nat)}{k bl dp:Nat}{a0 a1:Addr}{o:Out (DataW Unit)} (hl:l.length≤100000) (hen:Z57 l) (hk:k+1<l.length) (hdp:dp≤12) (h:dp<12→Z0w 112 #[.pointer (some ⟨p,0,none⟩)] p g cap rk l (k+1) bl (dp+1) a0 a1 o) (cr:Nat) (w:World) (R:RD w p g cap rk l k bl dp) (E:TErr p a0 a1 w) (X:RK p rk w) (hcr:w.cell? ⟨cr,0,none⟩=some (.pointer (some ⟨p,0,none⟩))) (hrp:cr≠p) :
  Calls prog 170 #[.pointer (some ⟨p,0,none⟩),.func (.func 188) #[] #[.pointer (some ⟨cr,0,none⟩)]] w fun ev w'=>Z0p (fun b=>w.heap.size<b) p g cap rk l k bl dp a0 a1 w (Z2n dp k (Z1c l Za7 o)) ev w':=by
 unfold Z2n
 by_cases h12:dp=12
 ·subst h12
  rw [if_pos rfl]
  exact Z2o _ (by omega) w R E
 ·rw [if_neg h12]
  have hpl:=Z00 R.blk
  refine Z4w 188 _ (fun _ _=>rfl) hk hl (by omega) w (fun b=>w.heap.size<b) (by show ¬ w.heap.size<w.heap.size;omega) (by show ¬ w.heap.size<p;omega) _ (fun w1 R1 K1 hs1 E1 => ?_) R E
  have h4:=K1.cell hrp hcr
  exact (Zdf cr (Z9f Za7 hl hen (h (by omega))) w1 R1 E1 (X.keeps K1) h4).mono (fun ev w' h=>h.wide (fun b hb=>by omega))

set_option maxRecDepth 100000 in
theorem Zhh {p g cap:Nat}{rk:Value}{l:List (ByteArray × ByteArray × Nat)}{k bl dp:Nat}{a0 a1:Addr}{o:Out (List (DataW Unit))} (hl:l.length≤100000) (hk:k+1<l.length) (hdp:dp≤12) (h:dp<12→Z4r 174 #[.pointer (some ⟨p,0,none⟩),.string ⟨#[93]⟩,.slice none 0 0] p g cap rk l (k+1) bl (dp+1) a0 a1 o) (cr:Nat) (w:World) (R:RD w p g cap rk l k bl dp) (E:TErr p a0 a1 w) (X:RK p rk w) (hcr:w.cell? ⟨cr,0,none⟩=some (.pointer (some ⟨p,0,none⟩))) (hrp:cr≠p) :
  Calls prog 170 #[.pointer (some ⟨p,0,none⟩),.func (.func 189) #[] #[.pointer (some ⟨cr,0,none⟩)]] w fun ev w'=>Z0p (fun b=>w.heap.size<b) p g cap rk l k bl dp a0 a1 w (Z2n dp k (Z4u Zv7 o)) ev w':=by
 unfold Z2n
 by_cases h12:dp=12
 ·subst h12
  rw [if_pos rfl]
  exact Z2o _ (by omega) w R E
 ·rw [if_neg h12]
  have hpl:=Z00 R.blk
  refine Z4w 189 _ (fun _ _=>rfl) hk hl (by omega) w (fun b=>w.heap.size<b) (by show ¬ w.heap.size<w.heap.size;omega) (by show ¬ w.heap.size<p;omega) _ (fun w1 R1 K1 hs1 E1 => ?_) R E
  have h4:=K1.cell hrp hcr
  exact (Zgw cr (h (by omega)) w1 R1 E1 (X.keeps K1) h4).mono (fun ev w' h=>h.wide (fun b hb=>by omega))

set_option maxRecDepth 100000 in
theorem Zg5 {p g cap:Nat}{rk:Value}{l:List (ByteArray × ByteArray × Nat)}{k bl dp:Nat}{a0 a1:Addr}{o:Out (List (DataW Unit))} (hl:l.length≤100000) (hk:k+1<l.length) (hdp:dp≤12) (h:dp<12→Z4r 191 #[.pointer (some ⟨p,0,none⟩)] p g cap rk l (k+1) bl (dp+1) a0 a1 o) (cr:Nat) (w:World) (R:RD w p g cap rk l k bl dp) (E:TErr p a0 a1 w) (X:RK p rk w) (hcr:w.cell? ⟨cr,0,none⟩=some (.pointer (some ⟨p,0,none⟩))) (hrp:cr≠p) :
  Calls prog 170 #[.pointer (some ⟨p,0,none⟩),.func (.func 190) #[] #[.pointer (some ⟨cr,0,none⟩)]] w fun ev w'=>Z0p (fun b=>w.heap.size<b) p g cap rk l k bl dp a0 a1 w (Z2n dp k (Z4u Zv8 o)) ev w':=by
 unfold Z2n
 by_cases h12:dp=12
 ·subst h12
  rw [if_pos rfl]
  exact Z2o _ (by omega) w R E
 ·rw [if_neg h12]
  have hpl:=Z00 R.blk
  refine Z4w 190 _ (fun _ _=>rfl) hk hl (by omega) w (fun b=>w.heap.size<b) (by show ¬ w.heap.size<w.heap.size;omega) (by show ¬ w.heap.size<p;omega) _ (fun w1 R1 K1 hs1 E1 => ?_) R E
  have h4:=K1.cell hrp hcr
  exact (Zgl cr (h (by omega)) w1 R1 E1 (X.keeps K1) h4).mono (fun ev w' h=>h.wide (fun b hb=>by omega))

end Go.Proofs.YtflcohidmemfpaaGreatDoor
namespace Go.Proofs.YtflcohidmemfpaaGreatDoor
open Go.Proofs.Tryz
open Go.RowKit

set_option maxHeartbeats 2000000 in
set_option maxRecDepth 100000 in
theorem Zuk {p g cap:Nat}{rk:Value}{l:List (ByteArray × ByteArray × Nat)}{k bl dp:Nat}{a0 a1:Addr} (hl:l.length≤100000) {x:ByteArray × ByteArray × Nat} (hx:l[k]?=some x) (hk:k+1<l.length) (c1:(x.1.toList == [105,110,116])=true) (hsz:x.2.1.size≤9223372036854775806) (v:Int) (hv:Lib.parseIntB 64 x.2.1.data.toList = .ok v) (w:World) (R:RD w p g cap rk l k bl dp) :
  Calls prog 172 #[.pointer (some ⟨p,0,none⟩)] w fun ev w'=>Z0p (fun b=>w.heap.size≤b) p g cap rk l k bl dp a0 a1 w (.ok (mkE kIntT v ⟨#[]⟩ [] [],k+1)) ev w':=by
 have A0:=Z3g R
 have F0:=Z5s (.string x.1) (.string x.2.1) (.int .i64 (x.2.2:Int))
 have F1:=Z4v (.string x.1) (.string x.2.1) (.int .i64 (x.2.2:Int))
 have hpl:=Z00 R.blk
 have HC0:=Z01 (Z1k A0.rd hx)
 have HA0:=Z01 A0
 have cr0:=A0.br
 clear A0 R
 go_enter func172,ntmps172
 go_wp2_with fail
 refine HC0.out.mono ?_
 rintro ev w1 ⟨rfl,hb1⟩
 have A1:=HA0.out.more hb1
 have HA1:=Z01 A1
 have R1:=A1.rd
 have cr1:=A1.br
 clear A1 hb1 HC0 HA0
 go_wp2_with fail
 refine (Z23 R1 hx hl).mono ?_
 rintro ev w2 ⟨rfl,R2,K2⟩
 have A2:=HA1.out.go R2 K2
 have HA2:=Z01 A2
 have cr2:=A2.br
 clear R1 R2 K2
 clear A2
 go_wp2_with fail
 refine (Zl4 _ hsz v hv _).mono ?_
 rintro ev w3 ⟨rfl,hw3⟩
 have hb3:Below w2.heap.size w2 w3:=by
  rcases hw3 with rfl | ⟨t,rfl⟩
  ·exact Below.refl _ _
  ·exact Zb9 _ _
 have A3:=HA2.out.more hb3
 clear hw3 hb3 HA2 HA1
 obtain ⟨u0,u1,u2,u3,u4,uf⟩:=Z05 A3.b4
 have uf0:=uf 0
 have uf1:=uf 1
 have uf2:=uf 2
 have uf3:=uf 3
 have uf4:=uf 4
 have ul:=Z00 A3.b4
 have HZ:=Z01 (Zch A3 kIntT v ⟨#[]⟩)
 clear A3 uf
 go_wp2_with fail
 obtain ⟨z1,z2,z3,z4⟩:=HZ.out
 refine bodyPost_ret (Z0b _ 2 rfl _ _ (w.heap.size+1) _ _ _ _ _ rfl z1) rfl ?_
 exact ⟨_,_,_,_,_,rfl,z2,z3,z4,by omega,hk⟩

set_option maxHeartbeats 2000000 in
set_option maxRecDepth 100000 in
theorem Zuh {p g cap:Nat}{rk:Value}{l:List (ByteArray × ByteArray × Nat)}{k bl dp:Nat}{a0 a1:Addr} (hl:l.length≤100000) {x:ByteArray × ByteArray × Nat} (hx:l[k]?=some x) (hk:k+1<l.length) (c1:(x.1.toList == [105,110,116])=false) (c2:(x.1.toList == [115,116,114])=true) (w:World) (R:RD w p g cap rk l k bl dp) :
  Calls prog 172 #[.pointer (some ⟨p,0,none⟩)] w fun ev w'=>Z0p (fun b=>w.heap.size≤b) p g cap rk l k bl dp a0 a1 w (.ok (mkE x.1 0 x.2.1 [] [],k+1)) ev w':=by
 have A0:=Z3g R
 have F0:=Z5s (.string x.1) (.string x.2.1) (.int .i64 (x.2.2:Int))
 have F1:=Z4v (.string x.1) (.string x.2.1) (.int .i64 (x.2.2:Int))
 have hpl:=Z00 R.blk
 have HC0:=Z01 (Z1k A0.rd hx)
 have HA0:=Z01 A0
 have cr0:=A0.br
 clear A0 R
 go_enter func172,ntmps172
 go_wp2_with fail
 refine HC0.out.mono ?_
 rintro ev w1 ⟨rfl,hb1⟩
 have A1:=HA0.out.more hb1
 have HA1:=Z01 A1
 have R1:=A1.rd
 have cr1:=A1.br
 clear A1 hb1 HC0 HA0
 go_wp2_with fail
 refine (Z23 R1 hx hl).mono ?_
 rintro ev w2 ⟨rfl,R2,K2⟩
 have A2:=HA1.out.go R2 K2
 have HA2:=Z01 A2
 have cr2:=A2.br
 clear R1 R2 K2
 clear HA2 HA1
 obtain ⟨u0,u1,u2,u3,u4,uf⟩:=Z05 A2.b4
 have uf0:=uf 0
 have uf1:=uf 1
 have uf2:=uf 2
 have uf3:=uf 3
 have uf4:=uf 4
 have ul:=Z00 A2.b4
 have HZ:=Z01 (Ze8 A2 x.1 0 x.2.1 (.cells #[.string x.1,.string x.2.1,.int .i64 (x.2.2:Int)] 121))
 clear A2 uf
 go_wp2_with fail
 obtain ⟨z1,z2,z3,z4⟩:=HZ.out
 refine bodyPost_ret (Z0b _ 2 rfl _ _ (w.heap.size+1) _ _ _ _ _ rfl z1) rfl ?_
 exact ⟨_,_,_,_,_,rfl,z2,z3,z4,by omega,hk⟩

set_option maxHeartbeats 2000000 in
set_option maxRecDepth 100000 in
theorem Zqo {p g cap:Nat}{rk:Value}{l:List (ByteArray × ByteArray × Nat)}{k bl dp:Nat}{a0 a1:Addr} (hl:l.length≤100000) {x:ByteArray × ByteArray × Nat} (hx:l[k]?=some x) (hk:k+1<l.length) (c1:(x.1.toList == [105,110,116])=false) (c2:(x.1.toList == [115,116,114])=false) (c3:(x.1.toList == [110,97,109,101])=true) (w:World) (R:RD w p g cap rk l k bl dp) :
  Calls prog 172 #[.pointer (some ⟨p,0,none⟩)] w fun ev w'=>Z0p (fun b=>w.heap.size≤b) p g cap rk l k bl dp a0 a1 w (.ok (mkE x.1 0 x.2.1 [] [],k+1)) ev w':=by
 have A0:=Z3g R
 have F0:=Z5s (.string x.1) (.string x.2.1) (.int .i64 (x.2.2:Int))
 have F1:=Z4v (.string x.1) (.string x.2.1) (.int .i64 (x.2.2:Int))
 have hpl:=Z00 R.blk
 have HC0:=Z01 (Z1k A0.rd hx)
 have HA0:=Z01 A0
 have cr0:=A0.br
 clear A0 R
 go_enter func172,ntmps172
 go_wp2_with fail
 refine HC0.out.mono ?_
 rintro ev w1 ⟨rfl,hb1⟩
 have A1:=HA0.out.more hb1
 have HA1:=Z01 A1
 have R1:=A1.rd
 have cr1:=A1.br
 clear A1 hb1 HC0 HA0
 go_wp2_with fail
 refine (Z23 R1 hx hl).mono ?_
 rintro ev w2 ⟨rfl,R2,K2⟩
 have A2:=HA1.out.go R2 K2
 have HA2:=Z01 A2
 have cr2:=A2.br
 clear R1 R2 K2
 clear HA2 HA1
 obtain ⟨u0,u1,u2,u3,u4,uf⟩:=Z05 A2.b4
 have uf0:=uf 0
 have uf1:=uf 1
 have uf2:=uf 2
 have uf3:=uf 3
 have uf4:=uf 4
 have ul:=Z00 A2.b4
 have HZ:=Z01 (Ze8 A2 x.1 0 x.2.1 (.cells #[.string x.1,.string x.2.1,.int .i64 (x.2.2:Int)] 121))
 clear A2 uf
 go_wp2_with fail
 obtain ⟨z1,z2,z3,z4⟩:=HZ.out
 refine bodyPost_ret (Z0b _ 2 rfl _ _ (w.heap.size+1) _ _ _ _ _ rfl z1) rfl ?_
 exact ⟨_,_,_,_,_,rfl,z2,z3,z4,by omega,hk⟩

set_option maxHeartbeats 2000000 in
set_option maxRecDepth 100000 in
theorem Zqf {p g cap:Nat}{rk:Value}{l:List (ByteArray × ByteArray × Nat)}{k bl dp:Nat}{a0 a1:Addr} (hl:l.length≤100000) {x:ByteArray × ByteArray × Nat} (hx:l[k]?=some x) (hk:k+1<l.length) (c1:(x.1.toList == [105,110,116])=false) (c2:(x.1.toList == [115,116,114])=false) (c3:(x.1.toList == [110,97,109,101])=false) (m0:Z0i x [Z6v,Z78,Z48]=true) (w:World) (R:RD w p g cap rk l k bl dp) :
  Calls prog 172 #[.pointer (some ⟨p,0,none⟩)] w fun ev w'=>Z0p (fun b=>w.heap.size≤b) p g cap rk l k bl dp a0 a1 w (.ok (mkE x.2.1 0 ⟨#[]⟩ [] [],k+1)) ev w':=by
 have A0:=Z3g R
 have F0:=Z5s (.string x.1) (.string x.2.1) (.int .i64 (x.2.2:Int))
 have F1:=Z4v (.string x.1) (.string x.2.1) (.int .i64 (x.2.2:Int))
 have hpl:=Z00 R.blk
 have HC0:=Z01 (Z1k A0.rd hx)
 have HA0:=Z01 A0
 have cr0:=A0.br
 clear A0 R
 go_enter func172,ntmps172
 go_wp2_with fail
 refine HC0.out.mono ?_
 rintro ev w1 ⟨rfl,hb1⟩
 have A1:=HA0.out.more hb1
 have HA1:=Z01 A1
 have R1:=A1.rd
 have cr1:=A1.br
 clear A1 hb1 HC0 HA0
 have HM3:=Z01 (Zbc R1 hx Z6v Z78 Z48)
 go_wp2_with fail
 refine HM3.out.mono ?_
 rintro ev w2 ⟨rfl,hb2⟩
 rw [m0]
 have A2:=HA1.out.more hb2
 have HA2:=Z01 A2
 have R2:=A2.rd
 have cr2:=A2.br
 clear A2 hb2 HM3 HA1 R1 cr1
 go_wp2_with fail
 refine (Z23 R2 hx hl).mono ?_
 rintro ev w3 ⟨rfl,R3,K3⟩
 have A3:=HA2.out.go R3 K3
 have HA3:=Z01 A3
 have cr3:=A3.br
 clear R2 R3 K3
 clear HA3 HA2
 obtain ⟨u0,u1,u2,u3,u4,uf⟩:=Z05 A3.b4
 have uf0:=uf 0
 have uf1:=uf 1
 have uf2:=uf 2
 have uf3:=uf 3
 have uf4:=uf 4
 have ul:=Z00 A3.b4
 have HZ:=Z01 (Zch A3 x.2.1 0 ⟨#[]⟩)
 clear A3 uf
 go_wp2_with fail
 obtain ⟨z1,z2,z3,z4⟩:=HZ.out
 refine bodyPost_ret (Z0b _ 2 rfl _ _ (w.heap.size+1) _ _ _ _ _ rfl z1) rfl ?_
 exact ⟨_,_,_,_,_,rfl,z2,z3,z4,by omega,hk⟩

set_option maxHeartbeats 2000000 in
set_option maxRecDepth 100000 in
theorem Zue {p g cap:Nat}{rk:Value}{l:List (ByteArray × ByteArray × Nat)}{k bl dp:Nat}{a0 a1:Addr}{x:ByteArray × ByteArray × Nat} (hx:l[k]?=some x) {o:Out (DataW Unit)} (c1:(x.1.toList == [105,110,116])=false) (c2:(x.1.toList == [115,116,114])=false) (c3:(x.1.toList == [110,97,109,101])=false) (m0:Z0i x [Z6v,Z78,Z48]=false) (m1:Z0i x [Z7n]=true) (w:World) (R:RD w p g cap rk l k bl dp) (E:TErr p a0 a1 w) (X:RK p rk w)
  (hdeep:∀ w',RD w' p g cap rk l k bl dp→TErr p a0 a1 w'→RK p rk w'→w'.cell? ⟨w.heap.size,0,none⟩=some (.pointer (some ⟨p,0,none⟩))→Calls prog 170 #[.pointer (some ⟨p,0,none⟩),.func (.func 188) #[] #[.pointer (some ⟨w.heap.size,0,none⟩)]] w' fun ev w''=>Z0p (fun b=>w'.heap.size<b) p g cap rk l k bl dp a0 a1 w' o ev w'') :
  Calls prog 172 #[.pointer (some ⟨p,0,none⟩)] w fun ev w'=>Z0p (fun b=>w.heap.size≤b) p g cap rk l k bl dp a0 a1 w (o) ev w':=by
 have A0:=Z3g R
 have F0:=Z5s (.string x.1) (.string x.2.1) (.int .i64 (x.2.2:Int))
 have F1:=Z4v (.string x.1) (.string x.2.1) (.int .i64 (x.2.2:Int))
 have hpl:=Z00 R.blk
 have HC0:=Z01 (Z1k A0.rd hx)
 have HA0:=Z01 A0
 have cr0:=A0.br
 clear A0 R
 go_enter func172,ntmps172
 go_wp2_with fail
 refine HC0.out.mono ?_
 rintro ev w1 ⟨rfl,hb1⟩
 have A1:=HA0.out.more hb1
 have HA1:=Z01 A1
 have R1:=A1.rd
 have cr1:=A1.br
 clear A1 hb1 HC0 HA0
 have HM3:=Z01 (Zbc R1 hx Z6v Z78 Z48)
 go_wp2_with fail
 refine HM3.out.mono ?_
 rintro ev w2 ⟨rfl,hb2⟩
 rw [m0]
 have A2:=HA1.out.more hb2
 have HA2:=Z01 A2
 have R2:=A2.rd
 have cr2:=A2.br
 clear A2 hb2 HM3 HA1 R1 cr1
 have HM2:=Z01 (Z52 R2 hx Z7n)
 go_wp2_with fail
 refine HM2.out.mono ?_
 rintro ev w3 ⟨rfl,hb3⟩
 rw [m1]
 have A3:=HA2.out.more hb3
 have HA3:=Z01 A3
 have R3:=A3.rd
 have cr3:=A3.br
 clear A3 hb3 HM2 HA2 R2 cr2
 have HD:=Z01 (hdeep _ R3 (E.keeps HA3.out.ks) (X.keeps HA3.out.ks) cr3)
 clear R3 E X
 go_wp2_with fail
 refine HD.out.mono ?_
 intro ev w9 hP
 rcases hP.parts with ⟨e5,k5,op5,z5,sx5,pa5,pn5,pc5,la5,ln5,lc5,q5,rfl,hrep5,R5,K5,hk5,hk5l⟩ | ⟨y,b,q5,rfl,hf⟩
 rotate_left
 ·have HF:Hid (Z04 l p a0 a1 w y (.panicked [{ v:=.iface 61 (.pointer (some ⟨b,0,none⟩)),recovered:=false }]) w9):=Z04.after HA3.out.ks.below hf
  subst q5
  clear hP HD hf
  go_wp2_with fail
  exact ⟨rfl,HF.out⟩
 subst q5
 have A9:=HA3.out.go R5 K5
 obtain ⟨u0,u1,u2,u3,u4,uf⟩:=Z05 A9.b4
 have uf0:=uf 0
 have uf1:=uf 1
 have uf2:=uf 2
 have uf3:=uf 3
 have uf4:=uf 4
 have ul:=Z00 A9.b4
 have HZ:=Z01 (Zcd HA3.out K5 R5 hrep5)
 clear A9 uf hP HD hrep5 R5 K5
 go_wp2_with fail
 obtain ⟨z1,z2,z3,z4⟩:=HZ.out
 refine bodyPost_ret (Z0b _ 2 rfl _ _ (w.heap.size+1) _ _ _ _ _ rfl z1) rfl ?_
 exact ⟨_,_,_,_,_,rfl,z2,z3,z4,hk5,hk5l⟩

set_option maxHeartbeats 2000000 in
set_option maxRecDepth 100000 in
theorem Zv0 {p g cap:Nat}{rk:Value}{l:List (ByteArray × ByteArray × Nat)}{k bl dp:Nat}{a0 a1:Addr}{x:ByteArray × ByteArray × Nat} (hx:l[k]?=some x) {o:Out (DataW Unit)} (c1:(x.1.toList == [105,110,116])=false) (c2:(x.1.toList == [115,116,114])=false) (c3:(x.1.toList == [110,97,109,101])=false) (m0:Z0i x [Z6v,Z78,Z48]=false) (m1:Z0i x [Z7n]=false) (m2:Z0i x [Zaj]=true) (w:World) (R:RD w p g cap rk l k bl dp) (E:TErr p a0 a1 w) (X:RK p rk w)
  (hdeep:∀ w',RD w' p g cap rk l k bl dp→TErr p a0 a1 w'→RK p rk w'→w'.cell? ⟨w.heap.size,0,none⟩=some (.pointer (some ⟨p,0,none⟩))→Calls prog 170 #[.pointer (some ⟨p,0,none⟩),.func (.func 189) #[] #[.pointer (some ⟨w.heap.size,0,none⟩)]] w' fun ev w''=>Z0p (fun b=>w'.heap.size<b) p g cap rk l k bl dp a0 a1 w' o ev w'') :
  Calls prog 172 #[.pointer (some ⟨p,0,none⟩)] w fun ev w'=>Z0p (fun b=>w.heap.size≤b) p g cap rk l k bl dp a0 a1 w (o) ev w':=by
 have A0:=Z3g R
 have F0:=Z5s (.string x.1) (.string x.2.1) (.int .i64 (x.2.2:Int))
 have F1:=Z4v (.string x.1) (.string x.2.1) (.int .i64 (x.2.2:Int))
 have hpl:=Z00 R.blk
 have HC0:=Z01 (Z1k A0.rd hx)
 have HA0:=Z01 A0
 have cr0:=A0.br
 clear A0 R
 go_enter func172,ntmps172
 go_wp2_with fail
 refine HC0.out.mono ?_
 rintro ev w1 ⟨rfl,hb1⟩
 have A1:=HA0.out.more hb1
 have HA1:=Z01 A1
 have R1:=A1.rd
 have cr1:=A1.br
 clear A1 hb1 HC0 HA0
 have HM3:=Z01 (Zbc R1 hx Z6v Z78 Z48)
 go_wp2_with fail
 refine HM3.out.mono ?_
 rintro ev w2 ⟨rfl,hb2⟩
 rw [m0]
 have A2:=HA1.out.more hb2
 have HA2:=Z01 A2
 have R2:=A2.rd
 have cr2:=A2.br
 clear A2 hb2 HM3 HA1 R1 cr1
 have HM2:=Z01 (Z52 R2 hx Z7n)
 go_wp2_with fail
 refine HM2.out.mono ?_
 rintro ev w3 ⟨rfl,hb3⟩
 rw [m1]
 have A3:=HA2.out.more hb3
 have HA3:=Z01 A3
 have R3:=A3.rd
 have cr3:=A3.br
 clear A3 hb3 HM2 HA2 R2 cr2
 have HM3:=Z01 (Z52 R3 hx Zaj)
 go_wp2_with fail
 refine HM3.out.mono ?_
 rintro ev w4 ⟨rfl,hb4⟩
 rw [m2]
 have A4:=HA3.out.more hb4
 have HA4:=Z01 A4
 have R4:=A4.rd
 have cr4:=A4.br
 clear A4 hb4 HM3 HA3 R3 cr3
 have HD:=Z01 (hdeep _ R4 (E.keeps HA4.out.ks) (X.keeps HA4.out.ks) cr4)
 clear R4 E X
 go_wp2_with fail
 refine HD.out.mono ?_
 intro ev w9 hP
 rcases hP.parts with ⟨e5,k5,op5,z5,sx5,pa5,pn5,pc5,la5,ln5,lc5,q5,rfl,hrep5,R5,K5,hk5,hk5l⟩ | ⟨y,b,q5,rfl,hf⟩
 rotate_left
 ·have HF:Hid (Z04 l p a0 a1 w y (.panicked [{ v:=.iface 61 (.pointer (some ⟨b,0,none⟩)),recovered:=false }]) w9):=Z04.after HA4.out.ks.below hf
  subst q5
  clear hP HD hf
  go_wp2_with fail
  exact ⟨rfl,HF.out⟩
 subst q5
 have A9:=HA4.out.go R5 K5
 obtain ⟨u0,u1,u2,u3,u4,uf⟩:=Z05 A9.b4
 have uf0:=uf 0
 have uf1:=uf 1
 have uf2:=uf 2
 have uf3:=uf 3
 have uf4:=uf 4
 have ul:=Z00 A9.b4
 have HZ:=Z01 (Zcd HA4.out K5 R5 hrep5)
 clear A9 uf hP HD hrep5 R5 K5
 go_wp2_with fail
 obtain ⟨z1,z2,z3,z4⟩:=HZ.out
 refine bodyPost_ret (Z0b _ 2 rfl _ _ (w.heap.size+1) _ _ _ _ _ rfl z1) rfl ?_
 exact ⟨_,_,_,_,_,rfl,z2,z3,z4,hk5,hk5l⟩

set_option maxHeartbeats 2000000 in
set_option maxRecDepth 100000 in
theorem Zvt {p g cap:Nat}{rk:Value}{l:List (ByteArray × ByteArray × Nat)}{k bl dp:Nat}{a0 a1:Addr}{x:ByteArray × ByteArray × Nat} (hx:l[k]?=some x) {o:Out (DataW Unit)} (c1:(x.1.toList == [105,110,116])=false) (c2:(x.1.toList == [115,116,114])=false) (c3:(x.1.toList == [110,97,109,101])=false) (m0:Z0i x [Z6v,Z78,Z48]=false) (m1:Z0i x [Z7n]=false) (m2:Z0i x [Zaj]=false) (m3:Z0i x [Zsr]=true) (w:World) (R:RD w p g cap rk l k bl dp) (E:TErr p a0 a1 w) (X:RK p rk w)
  (hdeep:∀ w',RD w' p g cap rk l k bl dp→TErr p a0 a1 w'→RK p rk w'→w'.cell? ⟨w.heap.size,0,none⟩=some (.pointer (some ⟨p,0,none⟩))→Calls prog 170 #[.pointer (some ⟨p,0,none⟩),.func (.func 190) #[] #[.pointer (some ⟨w.heap.size,0,none⟩)]] w' fun ev w''=>Z0p (fun b=>w'.heap.size<b) p g cap rk l k bl dp a0 a1 w' o ev w'') :
  Calls prog 172 #[.pointer (some ⟨p,0,none⟩)] w fun ev w'=>Z0p (fun b=>w.heap.size≤b) p g cap rk l k bl dp a0 a1 w (o) ev w':=by
 have A0:=Z3g R
 have F0:=Z5s (.string x.1) (.string x.2.1) (.int .i64 (x.2.2:Int))
 have F1:=Z4v (.string x.1) (.string x.2.1) (.int .i64 (x.2.2:Int))
 have hpl:=Z00 R.blk
 have HC0:=Z01 (Z1k A0.rd hx)
 have HA0:=Z01 A0
 have cr0:=A0.br
 clear A0 R
 go_enter func172,ntmps172
 go_wp2_with fail
 refine HC0.out.mono ?_
 rintro ev w1 ⟨rfl,hb1⟩
 have A1:=HA0.out.more hb1
 have HA1:=Z01 A1
 have R1:=A1.rd
 have cr1:=A1.br
 clear A1 hb1 HC0 HA0
 have HM3:=Z01 (Zbc R1 hx Z6v Z78 Z48)
 go_wp2_with fail
 refine HM3.out.mono ?_
 rintro ev w2 ⟨rfl,hb2⟩
 rw [m0]
 have A2:=HA1.out.more hb2
 have HA2:=Z01 A2
 have R2:=A2.rd
 have cr2:=A2.br
 clear A2 hb2 HM3 HA1 R1 cr1
 have HM2:=Z01 (Z52 R2 hx Z7n)
 go_wp2_with fail
 refine HM2.out.mono ?_
 rintro ev w3 ⟨rfl,hb3⟩
 rw [m1]
 have A3:=HA2.out.more hb3
 have HA3:=Z01 A3
 have R3:=A3.rd
 have cr3:=A3.br
 clear A3 hb3 HM2 HA2 R2 cr2
 have HM3:=Z01 (Z52 R3 hx Zaj)
 go_wp2_with fail
 refine HM3.out.mono ?_
 rintro ev w4 ⟨rfl,hb4⟩
 rw [m2]
 have A4:=HA3.out.more hb4
 have HA4:=Z01 A4
 have R4:=A4.rd
 have cr4:=A4.br
 clear A4 hb4 HM3 HA3 R3 cr3
 have HM4:=Z01 (Z52 R4 hx Zsr)
 go_wp2_with fail
 refine HM4.out.mono ?_
 rintro ev w5 ⟨rfl,hb5⟩
 rw [m3]
 have A5:=HA4.out.more hb5
 have HA5:=Z01 A5
 have R5:=A5.rd
 have cr5:=A5.br
 clear A5 hb5 HM4 HA4 R4 cr4
 have HD:=Z01 (hdeep _ R5 (E.keeps HA5.out.ks) (X.keeps HA5.out.ks) cr5)
 clear R5 E X
 go_wp2_with fail
 refine HD.out.mono ?_
 intro ev w9 hP
 rcases hP.parts with ⟨e5,k5,op5,z5,sx5,pa5,pn5,pc5,la5,ln5,lc5,q5,rfl,hrep5,R5,K5,hk5,hk5l⟩ | ⟨y,b,q5,rfl,hf⟩
 rotate_left
 ·have HF:Hid (Z04 l p a0 a1 w y (.panicked [{ v:=.iface 61 (.pointer (some ⟨b,0,none⟩)),recovered:=false }]) w9):=Z04.after HA5.out.ks.below hf
  subst q5
  clear hP HD hf
  go_wp2_with fail
  exact ⟨rfl,HF.out⟩
 subst q5
 have A9:=HA5.out.go R5 K5
 obtain ⟨u0,u1,u2,u3,u4,uf⟩:=Z05 A9.b4
 have uf0:=uf 0
 have uf1:=uf 1
 have uf2:=uf 2
 have uf3:=uf 3
 have uf4:=uf 4
 have ul:=Z00 A9.b4
 have HZ:=Z01 (Zcd HA5.out K5 R5 hrep5)
 clear A9 uf hP HD hrep5 R5 K5
 go_wp2_with fail
 obtain ⟨z1,z2,z3,z4⟩:=HZ.out
 refine bodyPost_ret (Z0b _ 2 rfl _ _ (w.heap.size+1) _ _ _ _ _ rfl z1) rfl ?_
 exact ⟨_,_,_,_,_,rfl,z2,z3,z4,hk5,hk5l⟩

set_option maxHeartbeats 2000000 in
set_option maxRecDepth 100000 in
theorem Zsl {p g cap:Nat}{rk:Value}{l:List (ByteArray × ByteArray × Nat)}{k bl dp:Nat}{a0 a1:Addr}{x:ByteArray × ByteArray × Nat} (hx:l[k]?=some x) (c1:(x.1.toList == [105,110,116])=false) (c2:(x.1.toList == [115,116,114])=false) (c3:(x.1.toList == [110,97,109,101])=false) (m0:Z0i x [Z6v,Z78,Z48]=false) (m1:Z0i x [Z7n]=false) (m2:Z0i x [Zaj]=false) (m3:Z0i x [Zsr]=false) (w:World) (R:RD w p g cap rk l k bl dp) (E:TErr p a0 a1 w) :
  Calls prog 172 #[.pointer (some ⟨p,0,none⟩)] w fun ev w'=>Z0p (fun b=>w.heap.size≤b) p g cap rk l k bl dp a0 a1 w (.error (k,false)) ev w':=by
 have A0:=Z3g R
 have F0:=Z5s (.string x.1) (.string x.2.1) (.int .i64 (x.2.2:Int))
 have F1:=Z4v (.string x.1) (.string x.2.1) (.int .i64 (x.2.2:Int))
 have hpl:=Z00 R.blk
 have HC0:=Z01 (Z1k A0.rd hx)
 have HA0:=Z01 A0
 have cr0:=A0.br
 clear A0 R
 go_enter func172,ntmps172
 go_wp2_with fail
 refine HC0.out.mono ?_
 rintro ev w1 ⟨rfl,hb1⟩
 have A1:=HA0.out.more hb1
 have HA1:=Z01 A1
 have R1:=A1.rd
 have cr1:=A1.br
 clear A1 hb1 HC0 HA0
 have HM3:=Z01 (Zbc R1 hx Z6v Z78 Z48)
 go_wp2_with fail
 refine HM3.out.mono ?_
 rintro ev w2 ⟨rfl,hb2⟩
 rw [m0]
 have A2:=HA1.out.more hb2
 have HA2:=Z01 A2
 have R2:=A2.rd
 have cr2:=A2.br
 clear A2 hb2 HM3 HA1 R1 cr1
 have HM2:=Z01 (Z52 R2 hx Z7n)
 go_wp2_with fail
 refine HM2.out.mono ?_
 rintro ev w3 ⟨rfl,hb3⟩
 rw [m1]
 have A3:=HA2.out.more hb3
 have HA3:=Z01 A3
 have R3:=A3.rd
 have cr3:=A3.br
 clear A3 hb3 HM2 HA2 R2 cr2
 have HM3:=Z01 (Z52 R3 hx Zaj)
 go_wp2_with fail
 refine HM3.out.mono ?_
 rintro ev w4 ⟨rfl,hb4⟩
 rw [m2]
 have A4:=HA3.out.more hb4
 have HA4:=Z01 A4
 have R4:=A4.rd
 have cr4:=A4.br
 clear A4 hb4 HM3 HA3 R3 cr3
 have HM4:=Z01 (Z52 R4 hx Zsr)
 go_wp2_with fail
 refine HM4.out.mono ?_
 rintro ev w5 ⟨rfl,hb5⟩
 rw [m3]
 have A5:=HA4.out.more hb5
 have HA5:=Z01 A5
 have R5:=A5.rd
 have cr5:=A5.br
 clear A5 hb5 HM4 HA4 R4 cr4
 have E5:=E.keeps HA5.out.ks
 have hg0:=E5.g0
 have hgl:=Z02 E5.g0
 clear E5
 go_wp2_with fail
 refine (Z4o R5 hx a0).mono ?_
 rintro ev w6 ⟨b,rfl,hbw,d0,d1⟩
 have HF:Hid (Z04 l p a0 a1 w (k,false) (.panicked [{ v:=.iface 61 (.pointer (some ⟨b,0,none⟩)),recovered:=false }]) w6):=⟨x,hx,b,rfl,HA5.out.ks.below.trans hbw,d0,d1⟩
 clear R5 hbw d0 d1 E HA5
 go_wp2_with fail
 exact ⟨rfl,HF.out⟩
end Go.Proofs.YtflcohidmemfpaaGreatDoor
