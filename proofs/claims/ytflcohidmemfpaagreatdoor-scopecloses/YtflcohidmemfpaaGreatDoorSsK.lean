/- Package tree: pairs; lists of terms. -/
import Derived.Test.YtflcohidmemfpaaGreatDoorTreeS
import Derived.Test.YtflcohidmemfpaaGreatDoorSsJ
set_option linter.all false
namespace Go.Proofs.YtflcohidmemfpaaGreatDoor
open Go.Proofs.Tryz
open Go.RowKit

theorem Z9t.wide {S S':Nat→Prop}{p g cap:Nat}{rk:Value}{l:List (ByteArray × ByteArray × Nat)}{k bl dp:Nat}{a0 a1:Addr}{w:World}{o:Out (List (DataW Unit))}{ev:Ending}{w':World} (h:Z9t S p g cap rk l k bl dp a0 a1 w o ev w') (hS:∀ b,S b→S' b):Z9t S' p g cap rk l k bl dp a0 a1 w o ev w':=by
 unfold Z9t at h ⊢
 cases o with
 | error y=>exact h
 | ok y =>
  obtain ⟨la,lc,h1,h2,h3⟩:=h
  exact ⟨la,lc,h1,h2.same (fun _ _ _=>rfl) (fun b hb _=>hS b hb),h3⟩
theorem Zni {p g cap:Nat}{rk:Value}{l:List (ByteArray × ByteArray × Nat)}{k bl dp:Nat}{a0 a1:Addr} (closing:ByteArray) (hl:l.length≤100000) (hen:Z57 l) (hk:k<l.length) (term:Nat→Out (DataW Unit))
  (hterm:∀ k',k≤k'→k'<l.length→Z0w 112 #[.pointer (some ⟨p,0,none⟩)] p g cap rk l k' bl dp a0 a1 (term k')):Z4r 174 #[.pointer (some ⟨p,0,none⟩),.string closing,.slice none 0 0] p g cap rk l k bl dp a0 a1 (Z1g l (Z0n term) closing l.length [] k):=by
 intro w R E X
 exact (Zi1 (S0:=fun _=>False) closing hl hen hk term hterm w w (.slice none 0 0) [] [] R (Keeps.refl _ _) E X (Z00 R.blk) R.gl (World.ownsRow_nil _ _ _ _) (Z2j.nil _ _) (fun b h=>h.elim) (by simp)).mono (fun ev w' h=>h.wide (fun b hb=>hb.resolve_left id))

set_option maxHeartbeats 2000000 in
set_option maxRecDepth 100000 in
theorem Zsh {p g cap:Nat}{rk:Value}{l:List (ByteArray × ByteArray × Nat)}{k bl dp:Nat}{a0 a1:Addr} (hl:l.length≤100000) (hen:Z57 l) (hk:k<l.length) (term:Nat→Out (DataW Unit))
  (hterm:∀ k',k≤k'→k'<l.length→Z0w 112 #[.pointer (some ⟨p,0,none⟩)] p g cap rk l k' bl dp a0 a1 (term k')):Z4r 191 #[.pointer (some ⟨p,0,none⟩)] p g cap rk l k bl dp a0 a1 (Z1g l (Z13 l term) Zo7 l.length [] k):=by
 intro w R E X
 have hb:=Z6x w p (.slice none 0 0)
 have hpl:=Z00 R.blk
 have HU:=Z01 (Zay 197 #[.pointer (some ⟨w.heap.size+1,0,none⟩),.pointer (some ⟨w.heap.size,0,none⟩)] (fun _ _=>rfl) (fun s k w'=>TermC (fun _=>False) p g (w.heap.size+1) w.heap.size rk a0 a1 w s w'∧s.length≤k+1) (fun s k k' w1 w2 h1 h2 h3=>⟨h2.1.keeps h3,by have:=h2.2;omega⟩) (Z13 l term) k (fun s k' hk1 hk2=>Zfc _ _ _ hl term s k' hk2 (Z9f Z4a hl hen (hterm k' hk1 hk2)) (fun k2 h1 h2=>hterm k2 (by omega) h2)) hl hen Zo7 [] k l.length (Nat.le_refl _) hk (by omega) (Z8n w p (.slice none 0 0)) (R.more hb) ⟨Zlc (cs:=[]) (Keeps.refl _ _) E X hpl R.gl (World.ownsRow_nil _ _ _ _) (Z2j.nil _ _) (fun b h=>h.elim),by simp⟩ (E.below (hb.mono (by omega))))
 have hbp:Below p w (Z8n w p (.slice none 0 0)):=hb.mono (by omega)
 obtain ⟨o,ho⟩:∃ o,Z1g l (Z13 l term) Zo7 l.length [] k=o:=⟨_,rfl⟩
 rw [ho] at HU ⊢
 clear R E X hterm ho
 go_enter func191,ntmps191
 go_wp2_with fail
 refine HU.out.mono ?_
 intro ev w1 hP
 cases o with
 | error y =>
  obtain ⟨t,g1,b,rfl,g2⟩:=hP
  have HF:Hid (Z04 l p a0 a1 w y (.panicked [{ v:=.iface 61 (.pointer (some ⟨b,0,none⟩)),recovered:=false }]) w1):=Z04.after hbp ⟨t,g1,b,rfl,g2⟩
  clear g1 g2 HU hbp
  go_wp2_with fail
  exact ⟨rfl,HF.out⟩
 | ok y =>
  obtain ⟨es1,k1⟩:=y
  obtain ⟨rfl,R1,⟨C1,_⟩,hb1,hk1,hk1l⟩:=hP
  obtain ⟨v1,cs1,hV,hO,hCE,hn1,hn2⟩:=C1.l
  have c0:w1.cell? ⟨w.heap.size+1,0,none⟩=some v1:=by rw [cell_of_row _ _ 0 _ _ _ hV];rfl
  have l0:=Z02 c0
  obtain ⟨la,lc,rfl⟩:∃ la lc,v1 = .slice la es1.length lc:=by
   rcases hO.2 with ⟨e,h0⟩ | ⟨g',c',cur,e,_⟩
   ·exact ⟨none,0,by rw [h0];exact e⟩
   ·exact ⟨_,_,e⟩
  have HF:Hid (Z89 (fun b=>w.heap.size≤b) w1 la es1∧RD w1 p g cap rk l k1 bl dp∧Keeps p w w1):=⟨Zf3 hO hCE (fun b h=>(h.resolve_left id).1) (fun b h=>h),R1,hbp.trans hb1,C1.old.block⟩
  have hcap:=Zcm hO
  clear R1 C1 hO hCE hV hb1 HU hbp
  go_wp2_with fail
  go_ret
  exact ⟨_,_,rfl,HF.out.1,HF.out.2.1,HF.out.2.2,hk1,hk1l,hcap⟩
end Go.Proofs.YtflcohidmemfpaaGreatDoor
namespace Go.Proofs.YtflcohidmemfpaaGreatDoor
open Go.Proofs.Tryz
open Go.RowKit

theorem Z2w {p g cap:Nat}{rk:Value}{l:List (ByteArray × ByteArray × Nat)}{k bl dp:Nat}{w:World} (n:Nat) (zn:Int) (hzn:zn=(n:Int)) (R:RD w p g cap rk l k bl dp):RD (((w.alloc (.cells #[.pointer (some ⟨p,0,none⟩)] 119)).alloc (.cells #[.int .i64 zn] 3)).alloc (.cells #[.string ⟨#[]⟩,.int .i64 0,.string ⟨#[]⟩,.slice none 0 0,.slice none 0 0] 72)) p g cap rk l k bl dp∧Keeps p w (((w.alloc (.cells #[.pointer (some ⟨p,0,none⟩)] 119)).alloc (.cells #[.int .i64 zn] 3)).alloc (.cells #[.string ⟨#[]⟩,.int .i64 0,.string ⟨#[]⟩,.slice none 0 0,.slice none 0 0] 72))∧Capt p w.heap.size (w.heap.size+1) n (((w.alloc (.cells #[.pointer (some ⟨p,0,none⟩)] 119)).alloc (.cells #[.int .i64 zn] 3)).alloc (.cells #[.string ⟨#[]⟩,.int .i64 0,.string ⟨#[]⟩,.slice none 0 0,.slice none 0 0] 72))∧(((w.alloc (.cells #[.pointer (some ⟨p,0,none⟩)] 119)).alloc (.cells #[.int .i64 zn] 3)).alloc (.cells #[.string ⟨#[]⟩,.int .i64 0,.string ⟨#[]⟩,.slice none 0 0,.slice none 0 0] 72)).heap[w.heap.size+2]?=some (.cells #[.string ⟨#[]⟩,.int .i64 0,.string ⟨#[]⟩,.slice none 0 0,.slice none 0 0] 72)∧(((w.alloc (.cells #[.pointer (some ⟨p,0,none⟩)] 119)).alloc (.cells #[.int .i64 zn] 3)).alloc (.cells #[.string ⟨#[]⟩,.int .i64 0,.string ⟨#[]⟩,.slice none 0 0,.slice none 0 0] 72)).heap.size=w.heap.size+3:=by
 have hpl:=Z00 R.blk
 have hb0:Below w.heap.size w (((w.alloc (.cells #[.pointer (some ⟨p,0,none⟩)] 119)).alloc (.cells #[.int .i64 zn] 3)).alloc (.cells #[.string ⟨#[]⟩,.int .i64 0,.string ⟨#[]⟩,.slice none 0 0,.slice none 0 0] 72)):=(((Below.refl _ _).alloc (Nat.le_refl _) _).alloc (by simp) _).alloc (by simp;omega) _
 have hB0:(((w.alloc (.cells #[.pointer (some ⟨p,0,none⟩)] 119)).alloc (.cells #[.int .i64 zn] 3)).alloc (.cells #[.string ⟨#[]⟩,.int .i64 0,.string ⟨#[]⟩,.slice none 0 0,.slice none 0 0] 72)).heap[w.heap.size+2]?=some (.cells #[.string ⟨#[]⟩,.int .i64 0,.string ⟨#[]⟩,.slice none 0 0,.slice none 0 0] 72):=by
  have:=heap_alloc_new ((w.alloc (.cells #[.pointer (some ⟨p,0,none⟩)] 119)).alloc (.cells #[.int .i64 zn] 3)) (.cells #[.string ⟨#[]⟩,.int .i64 0,.string ⟨#[]⟩,.slice none 0 0,.slice none 0 0] 72)
  simpa using this
 have hK0:(((w.alloc (.cells #[.pointer (some ⟨p,0,none⟩)] 119)).alloc (.cells #[.int .i64 zn] 3)).alloc (.cells #[.string ⟨#[]⟩,.int .i64 0,.string ⟨#[]⟩,.slice none 0 0,.slice none 0 0] 72)).heap[w.heap.size+1]?=some (.cells #[.int .i64 zn] 3):=by
  have:=heap_alloc_new (w.alloc (.cells #[.pointer (some ⟨p,0,none⟩)] 119)) (.cells #[.int .i64 zn] 3)
  refine (Below.heap_alloc _ _ _ (by simp)).trans ?_
  simpa using this
 have hR0:(((w.alloc (.cells #[.pointer (some ⟨p,0,none⟩)] 119)).alloc (.cells #[.int .i64 zn] 3)).alloc (.cells #[.string ⟨#[]⟩,.int .i64 0,.string ⟨#[]⟩,.slice none 0 0,.slice none 0 0] 72)).heap[w.heap.size]?=some (.cells #[.pointer (some ⟨p,0,none⟩)] 119):=(Below.heap_alloc _ _ _ (by simp;omega)).trans ((Below.heap_alloc _ _ _ (by simp)).trans (heap_alloc_new w _))
 exact ⟨R.more hb0,Keeps.of hb0 (by omega),by rw [Capt];refine ⟨?_,?_,?_,?_⟩ <;> first | omega | (rw [cell_of_row _ _ 0 _ _ _ hR0];rfl) | (rw [cell_of_row _ _ 0 _ _ _ hK0,hzn];rfl),hB0,by simp⟩
theorem Z3s {p g cap:Nat}{rk:Value}{l:List (ByteArray × ByteArray × Nat)}{k3 bl dp:Nat}{w wx w4:World}{e:DataW Unit}{op:ByteArray}{z:Int}{sx:ByteArray}{pa:Option Addr}{pn pc:Nat}{la:Option Addr}{ln lc:Nat} (hpl:p<w.heap.size) (hgl:g<w.heap.size) (hs:wx.heap.size=w.heap.size+3) (K0:Keeps p w wx) (hB:wx.heap[w.heap.size+2]?=some (.cells #[.string ⟨#[]⟩,.int .i64 0,.string ⟨#[]⟩,.slice none 0 0,.slice none 0 0] 72)) (K4:Keeps p wx w4) (R4:RD w4 p g cap rk l k3 bl dp) (hrep:Z2l (fun b=>wx.heap.size≤b) w4 [.string op,.int .i64 z,.string sx,.slice pa pn pc,.slice la ln lc] e) :
  (set5 w4 (w.heap.size+2) (.string op) (.int .i64 z) (.string sx) (.slice pa pn pc) (.slice la ln lc)).heap[w.heap.size+2]?=some (.cells #[.string op,.int .i64 z,.string sx,.slice pa pn pc,.slice la ln lc] 72)∧Z2l (fun b=>w.heap.size≤b) (set5 w4 (w.heap.size+2) (.string op) (.int .i64 z) (.string sx) (.slice pa pn pc) (.slice la ln lc)) [.string op,.int .i64 z,.string sx,.slice pa pn pc,.slice la ln lc] e∧RD (set5 w4 (w.heap.size+2) (.string op) (.int .i64 z) (.string sx) (.slice pa pn pc) (.slice la ln lc)) p g cap rk l k3 bl dp∧Keeps p w (set5 w4 (w.heap.size+2) (.string op) (.int .i64 z) (.string sx) (.slice pa pn pc) (.slice la ln lc)):=by
 obtain ⟨f1,f2,f3,f4⟩:=Z65 hrep R4 (K0.trans K4) ((K4.block _ (by omega) (by omega)).trans hB) (fun h=>by omega) (by omega) (by omega) (by omega) (.string op) (.int .i64 z) (.string sx) (.slice pa pn pc) (.slice la ln lc)
 exact ⟨f4,f1.same (fun _ _ _=>rfl) (fun b h _=>by omega),f2,f3⟩

set_option maxHeartbeats 2000000 in
set_option maxRecDepth 100000 in
theorem Zwv {p g cap:Nat}{rk:Value}{l:List (ByteArray × ByteArray × Nat)}{k bl dp:Nat}{a0 a1:Addr}{o:Out (DataW Unit)} (h:∀ (w w':World),Capt p w.heap.size (w.heap.size+1) 0 w'→RD w' p g cap rk l k bl dp→TErr p a0 a1 w'→RK p rk w'→Calls prog 151 #[.pointer (some ⟨p,0,none⟩),.string kLambda,.int .i64 0,.func (.func 152) #[.pointer (some ⟨p,0,none⟩)] #[]] w' fun ev w''=>Z0p (fun b=>w'.heap.size≤b) p g cap rk l k bl dp a0 a1 w' o ev w'') :
  Z0w 141 #[.pointer (some ⟨p,0,none⟩),.int .i64 0] p g cap rk l k bl dp a0 a1 o:=by
 intro w R E X
 have hpl:=Z00 R.blk
 have hgl:=R.gl
 obtain ⟨R0,K0,C0,hB0,hs0⟩:=Z2w 0 0 rfl R
 have HC:=Z01 (h w _ C0 R0 (E.keeps K0) (X.keeps K0))
 have HK0:=Z01 K0
 have HB0:=Z01 hB0
 clear h R E X R0 K0 C0 hB0
 go_enter func141,ntmps141
 go_wp2_with fail
 refine HC.out.mono ?_
 intro ev w4 hP
 rcases hP.parts with ⟨e5,k5,op5,z5,sx5,pa5,pn5,pc5,la5,ln5,lc5,q5,rfl,hrep5,R5,K5,hk5,hk5l⟩ | ⟨y,b,q5,rfl,hf⟩
 rotate_left
 ·have HF:Hid (Z04 l p a0 a1 w y (.panicked [{ v:=.iface 61 (.pointer (some ⟨b,0,none⟩)),recovered:=false }]) w4):=Z04.after HK0.out.below hf
  subst q5
  clear hP HC hf
  go_wp2_with fail
  exact ⟨rfl,HF.out⟩
 subst q5
 obtain ⟨u0,u1,u2,u3,u4,uf⟩:=Z05 ((K5.block _ (by omega) (by omega)).trans HB0.out)
 have uf0:=uf 0
 have uf1:=uf 1
 have uf2:=uf 2
 have uf3:=uf 3
 have uf4:=uf 4
 have ul:=Z02 u0
 have HZ:=Z01 (Z3s hpl hgl hs0 HK0.out HB0.out K5 R5 hrep5)
 clear hP HC hrep5 R5 K5 uf
 go_wp2_with fail
 obtain ⟨z1,z2,z3,z4⟩:=HZ.out
 refine bodyPost_ret (Z0b _ 4 rfl _ _ (w.heap.size+2) _ _ _ _ _ rfl z1) rfl ?_
 exact ⟨_,_,_,_,_,rfl,z2,z3,z4,hk5,hk5l⟩

set_option maxHeartbeats 2000000 in
set_option maxRecDepth 100000 in
theorem Zyr {p g cap:Nat}{rk:Value}{l:List (ByteArray × ByteArray × Nat)}{k bl dp:Nat}{a0 a1:Addr}{o:Out (DataW Unit)} (h:∀ (w w':World),Capt p w.heap.size (w.heap.size+1) 1 w'→RD w' p g cap rk l k bl dp→TErr p a0 a1 w'→RK p rk w'→Calls prog 156 #[.pointer (some ⟨p,0,none⟩),.int .i64 1] w' fun ev w''=>Z0p (fun b=>w'.heap.size≤b) p g cap rk l k bl dp a0 a1 w' o ev w'') :
  Z0w 141 #[.pointer (some ⟨p,0,none⟩),.int .i64 1] p g cap rk l k bl dp a0 a1 o:=by
 intro w R E X
 have hpl:=Z00 R.blk
 have hgl:=R.gl
 obtain ⟨R0,K0,C0,hB0,hs0⟩:=Z2w 1 1 rfl R
 have HC:=Z01 (h w _ C0 R0 (E.keeps K0) (X.keeps K0))
 have HK0:=Z01 K0
 have HB0:=Z01 hB0
 clear h R E X R0 K0 C0 hB0
 go_enter func141,ntmps141
 go_wp2_with fail
 refine HC.out.mono ?_
 intro ev w4 hP
 rcases hP.parts with ⟨e5,k5,op5,z5,sx5,pa5,pn5,pc5,la5,ln5,lc5,q5,rfl,hrep5,R5,K5,hk5,hk5l⟩ | ⟨y,b,q5,rfl,hf⟩
 rotate_left
 ·have HF:Hid (Z04 l p a0 a1 w y (.panicked [{ v:=.iface 61 (.pointer (some ⟨b,0,none⟩)),recovered:=false }]) w4):=Z04.after HK0.out.below hf
  subst q5
  clear hP HC hf
  go_wp2_with fail
  exact ⟨rfl,HF.out⟩
 subst q5
 obtain ⟨u0,u1,u2,u3,u4,uf⟩:=Z05 ((K5.block _ (by omega) (by omega)).trans HB0.out)
 have uf0:=uf 0
 have uf1:=uf 1
 have uf2:=uf 2
 have uf3:=uf 3
 have uf4:=uf 4
 have ul:=Z02 u0
 have HZ:=Z01 (Z3s hpl hgl hs0 HK0.out HB0.out K5 R5 hrep5)
 clear hP HC hrep5 R5 K5 uf
 go_wp2_with fail
 obtain ⟨z1,z2,z3,z4⟩:=HZ.out
 refine bodyPost_ret (Z0b _ 4 rfl _ _ (w.heap.size+2) _ _ _ _ _ rfl z1) rfl ?_
 exact ⟨_,_,_,_,_,rfl,z2,z3,z4,hk5,hk5l⟩

set_option maxHeartbeats 2000000 in
set_option maxRecDepth 100000 in
theorem Zz2 {p g cap:Nat}{rk:Value}{l:List (ByteArray × ByteArray × Nat)}{k bl dp:Nat}{a0 a1:Addr}{o:Out (DataW Unit)} (h:∀ (w w':World),Capt p w.heap.size (w.heap.size+1) 2 w'→RD w' p g cap rk l k bl dp→TErr p a0 a1 w'→RK p rk w'→Calls prog 156 #[.pointer (some ⟨p,0,none⟩),.int .i64 2] w' fun ev w''=>Z0p (fun b=>w'.heap.size≤b) p g cap rk l k bl dp a0 a1 w' o ev w'') :
  Z0w 141 #[.pointer (some ⟨p,0,none⟩),.int .i64 2] p g cap rk l k bl dp a0 a1 o:=by
 intro w R E X
 have hpl:=Z00 R.blk
 have hgl:=R.gl
 obtain ⟨R0,K0,C0,hB0,hs0⟩:=Z2w 2 2 rfl R
 have HC:=Z01 (h w _ C0 R0 (E.keeps K0) (X.keeps K0))
 have HK0:=Z01 K0
 have HB0:=Z01 hB0
 clear h R E X R0 K0 C0 hB0
 go_enter func141,ntmps141
 go_wp2_with fail
 refine HC.out.mono ?_
 intro ev w4 hP
 rcases hP.parts with ⟨e5,k5,op5,z5,sx5,pa5,pn5,pc5,la5,ln5,lc5,q5,rfl,hrep5,R5,K5,hk5,hk5l⟩ | ⟨y,b,q5,rfl,hf⟩
 rotate_left
 ·have HF:Hid (Z04 l p a0 a1 w y (.panicked [{ v:=.iface 61 (.pointer (some ⟨b,0,none⟩)),recovered:=false }]) w4):=Z04.after HK0.out.below hf
  subst q5
  clear hP HC hf
  go_wp2_with fail
  exact ⟨rfl,HF.out⟩
 subst q5
 obtain ⟨u0,u1,u2,u3,u4,uf⟩:=Z05 ((K5.block _ (by omega) (by omega)).trans HB0.out)
 have uf0:=uf 0
 have uf1:=uf 1
 have uf2:=uf 2
 have uf3:=uf 3
 have uf4:=uf 4
 have ul:=Z02 u0
 have HZ:=Z01 (Z3s hpl hgl hs0 HK0.out HB0.out K5 R5 hrep5)
 clear hP HC hrep5 R5 K5 uf
 go_wp2_with fail
 obtain ⟨z1,z2,z3,z4⟩:=HZ.out
 refine bodyPost_ret (Z0b _ 4 rfl _ _ (w.heap.size+2) _ _ _ _ _ rfl z1) rfl ?_
 exact ⟨_,_,_,_,_,rfl,z2,z3,z4,hk5,hk5l⟩

set_option maxHeartbeats 2000000 in
set_option maxRecDepth 100000 in
theorem Zxc {p g cap:Nat}{rk:Value}{l:List (ByteArray × ByteArray × Nat)}{k bl dp:Nat}{a0 a1:Addr}{o:Out (DataW Unit)} (h:∀ (w w':World),Capt p w.heap.size (w.heap.size+1) 3 w'→RD w' p g cap rk l k bl dp→TErr p a0 a1 w'→RK p rk w'→Calls prog 151 #[.pointer (some ⟨p,0,none⟩),.string Zw5,.int .i64 3,.func (.func 153) #[] #[.pointer (some ⟨w.heap.size,0,none⟩),.pointer (some ⟨w.heap.size+1,0,none⟩)]] w' fun ev w''=>Z0p (fun b=>w'.heap.size≤b) p g cap rk l k bl dp a0 a1 w' o ev w'') :
  Z0w 141 #[.pointer (some ⟨p,0,none⟩),.int .i64 3] p g cap rk l k bl dp a0 a1 o:=by
 intro w R E X
 have hpl:=Z00 R.blk
 have hgl:=R.gl
 obtain ⟨R0,K0,C0,hB0,hs0⟩:=Z2w 3 3 rfl R
 have HC:=Z01 (h w _ C0 R0 (E.keeps K0) (X.keeps K0))
 have HK0:=Z01 K0
 have HB0:=Z01 hB0
 clear h R E X R0 K0 C0 hB0
 go_enter func141,ntmps141
 go_wp2_with fail
 refine HC.out.mono ?_
 intro ev w4 hP
 rcases hP.parts with ⟨e5,k5,op5,z5,sx5,pa5,pn5,pc5,la5,ln5,lc5,q5,rfl,hrep5,R5,K5,hk5,hk5l⟩ | ⟨y,b,q5,rfl,hf⟩
 rotate_left
 ·have HF:Hid (Z04 l p a0 a1 w y (.panicked [{ v:=.iface 61 (.pointer (some ⟨b,0,none⟩)),recovered:=false }]) w4):=Z04.after HK0.out.below hf
  subst q5
  clear hP HC hf
  go_wp2_with fail
  exact ⟨rfl,HF.out⟩
 subst q5
 obtain ⟨u0,u1,u2,u3,u4,uf⟩:=Z05 ((K5.block _ (by omega) (by omega)).trans HB0.out)
 have uf0:=uf 0
 have uf1:=uf 1
 have uf2:=uf 2
 have uf3:=uf 3
 have uf4:=uf 4
 have ul:=Z02 u0
 have HZ:=Z01 (Z3s hpl hgl hs0 HK0.out HB0.out K5 R5 hrep5)
 clear hP HC hrep5 R5 K5 uf
 go_wp2_with fail
 obtain ⟨z1,z2,z3,z4⟩:=HZ.out
 refine bodyPost_ret (Z0b _ 4 rfl _ _ (w.heap.size+2) _ _ _ _ _ rfl z1) rfl ?_
 exact ⟨_,_,_,_,_,rfl,z2,z3,z4,hk5,hk5l⟩

set_option maxHeartbeats 2000000 in
set_option maxRecDepth 100000 in
theorem Zxg {p g cap:Nat}{rk:Value}{l:List (ByteArray × ByteArray × Nat)}{k bl dp:Nat}{a0 a1:Addr}{o:Out (DataW Unit)} (h:∀ (w w':World),Capt p w.heap.size (w.heap.size+1) 4 w'→RD w' p g cap rk l k bl dp→TErr p a0 a1 w'→RK p rk w'→Calls prog 156 #[.pointer (some ⟨p,0,none⟩),.int .i64 4] w' fun ev w''=>Z0p (fun b=>w'.heap.size≤b) p g cap rk l k bl dp a0 a1 w' o ev w'') :
  Z0w 141 #[.pointer (some ⟨p,0,none⟩),.int .i64 4] p g cap rk l k bl dp a0 a1 o:=by
 intro w R E X
 have hpl:=Z00 R.blk
 have hgl:=R.gl
 obtain ⟨R0,K0,C0,hB0,hs0⟩:=Z2w 4 4 rfl R
 have HC:=Z01 (h w _ C0 R0 (E.keeps K0) (X.keeps K0))
 have HK0:=Z01 K0
 have HB0:=Z01 hB0
 clear h R E X R0 K0 C0 hB0
 go_enter func141,ntmps141
 go_wp2_with fail
 refine HC.out.mono ?_
 intro ev w4 hP
 rcases hP.parts with ⟨e5,k5,op5,z5,sx5,pa5,pn5,pc5,la5,ln5,lc5,q5,rfl,hrep5,R5,K5,hk5,hk5l⟩ | ⟨y,b,q5,rfl,hf⟩
 rotate_left
 ·have HF:Hid (Z04 l p a0 a1 w y (.panicked [{ v:=.iface 61 (.pointer (some ⟨b,0,none⟩)),recovered:=false }]) w4):=Z04.after HK0.out.below hf
  subst q5
  clear hP HC hf
  go_wp2_with fail
  exact ⟨rfl,HF.out⟩
 subst q5
 obtain ⟨u0,u1,u2,u3,u4,uf⟩:=Z05 ((K5.block _ (by omega) (by omega)).trans HB0.out)
 have uf0:=uf 0
 have uf1:=uf 1
 have uf2:=uf 2
 have uf3:=uf 3
 have uf4:=uf 4
 have ul:=Z02 u0
 have HZ:=Z01 (Z3s hpl hgl hs0 HK0.out HB0.out K5 R5 hrep5)
 clear hP HC hrep5 R5 K5 uf
 go_wp2_with fail
 obtain ⟨z1,z2,z3,z4⟩:=HZ.out
 refine bodyPost_ret (Z0b _ 4 rfl _ _ (w.heap.size+2) _ _ _ _ _ rfl z1) rfl ?_
 exact ⟨_,_,_,_,_,rfl,z2,z3,z4,hk5,hk5l⟩

set_option maxHeartbeats 2000000 in
set_option maxRecDepth 100000 in
theorem Zya {p g cap:Nat}{rk:Value}{l:List (ByteArray × ByteArray × Nat)}{k bl dp:Nat}{a0 a1:Addr}{o:Out (DataW Unit)} (h:∀ (w w':World),Capt p w.heap.size (w.heap.size+1) 5 w'→RD w' p g cap rk l k bl dp→TErr p a0 a1 w'→RK p rk w'→Calls prog 156 #[.pointer (some ⟨p,0,none⟩),.int .i64 5] w' fun ev w''=>Z0p (fun b=>w'.heap.size≤b) p g cap rk l k bl dp a0 a1 w' o ev w'') :
  Z0w 141 #[.pointer (some ⟨p,0,none⟩),.int .i64 5] p g cap rk l k bl dp a0 a1 o:=by
 intro w R E X
 have hpl:=Z00 R.blk
 have hgl:=R.gl
 obtain ⟨R0,K0,C0,hB0,hs0⟩:=Z2w 5 5 rfl R
 have HC:=Z01 (h w _ C0 R0 (E.keeps K0) (X.keeps K0))
 have HK0:=Z01 K0
 have HB0:=Z01 hB0
 clear h R E X R0 K0 C0 hB0
 go_enter func141,ntmps141
 go_wp2_with fail
 refine HC.out.mono ?_
 intro ev w4 hP
 rcases hP.parts with ⟨e5,k5,op5,z5,sx5,pa5,pn5,pc5,la5,ln5,lc5,q5,rfl,hrep5,R5,K5,hk5,hk5l⟩ | ⟨y,b,q5,rfl,hf⟩
 rotate_left
 ·have HF:Hid (Z04 l p a0 a1 w y (.panicked [{ v:=.iface 61 (.pointer (some ⟨b,0,none⟩)),recovered:=false }]) w4):=Z04.after HK0.out.below hf
  subst q5
  clear hP HC hf
  go_wp2_with fail
  exact ⟨rfl,HF.out⟩
 subst q5
 obtain ⟨u0,u1,u2,u3,u4,uf⟩:=Z05 ((K5.block _ (by omega) (by omega)).trans HB0.out)
 have uf0:=uf 0
 have uf1:=uf 1
 have uf2:=uf 2
 have uf3:=uf 3
 have uf4:=uf 4
 have ul:=Z02 u0
 have HZ:=Z01 (Z3s hpl hgl hs0 HK0.out HB0.out K5 R5 hrep5)
 clear hP HC hrep5 R5 K5 uf
 go_wp2_with fail
 obtain ⟨z1,z2,z3,z4⟩:=HZ.out
 refine bodyPost_ret (Z0b _ 4 rfl _ _ (w.heap.size+2) _ _ _ _ _ rfl z1) rfl ?_
 exact ⟨_,_,_,_,_,rfl,z2,z3,z4,hk5,hk5l⟩

set_option maxHeartbeats 2000000 in
set_option maxRecDepth 100000 in
theorem Zxr {p g cap:Nat}{rk:Value}{l:List (ByteArray × ByteArray × Nat)}{k bl dp:Nat}{a0 a1:Addr}{o:Out (DataW Unit)} (h:∀ (w w':World),Capt p w.heap.size (w.heap.size+1) 6 w'→RD w' p g cap rk l k bl dp→TErr p a0 a1 w'→RK p rk w'→Calls prog 156 #[.pointer (some ⟨p,0,none⟩),.int .i64 6] w' fun ev w''=>Z0p (fun b=>w'.heap.size≤b) p g cap rk l k bl dp a0 a1 w' o ev w'') :
  Z0w 141 #[.pointer (some ⟨p,0,none⟩),.int .i64 6] p g cap rk l k bl dp a0 a1 o:=by
 intro w R E X
 have hpl:=Z00 R.blk
 have hgl:=R.gl
 obtain ⟨R0,K0,C0,hB0,hs0⟩:=Z2w 6 6 rfl R
 have HC:=Z01 (h w _ C0 R0 (E.keeps K0) (X.keeps K0))
 have HK0:=Z01 K0
 have HB0:=Z01 hB0
 clear h R E X R0 K0 C0 hB0
 go_enter func141,ntmps141
 go_wp2_with fail
 refine HC.out.mono ?_
 intro ev w4 hP
 rcases hP.parts with ⟨e5,k5,op5,z5,sx5,pa5,pn5,pc5,la5,ln5,lc5,q5,rfl,hrep5,R5,K5,hk5,hk5l⟩ | ⟨y,b,q5,rfl,hf⟩
 rotate_left
 ·have HF:Hid (Z04 l p a0 a1 w y (.panicked [{ v:=.iface 61 (.pointer (some ⟨b,0,none⟩)),recovered:=false }]) w4):=Z04.after HK0.out.below hf
  subst q5
  clear hP HC hf
  go_wp2_with fail
  exact ⟨rfl,HF.out⟩
 subst q5
 obtain ⟨u0,u1,u2,u3,u4,uf⟩:=Z05 ((K5.block _ (by omega) (by omega)).trans HB0.out)
 have uf0:=uf 0
 have uf1:=uf 1
 have uf2:=uf 2
 have uf3:=uf 3
 have uf4:=uf 4
 have ul:=Z02 u0
 have HZ:=Z01 (Z3s hpl hgl hs0 HK0.out HB0.out K5 R5 hrep5)
 clear hP HC hrep5 R5 K5 uf
 go_wp2_with fail
 obtain ⟨z1,z2,z3,z4⟩:=HZ.out
 refine bodyPost_ret (Z0b _ 4 rfl _ _ (w.heap.size+2) _ _ _ _ _ rfl z1) rfl ?_
 exact ⟨_,_,_,_,_,rfl,z2,z3,z4,hk5,hk5l⟩

set_option maxHeartbeats 2000000 in
set_option maxRecDepth 100000 in
theorem Zx2 {p g cap:Nat}{rk:Value}{l:List (ByteArray × ByteArray × Nat)}{k bl dp:Nat}{a0 a1:Addr}{o:Out (DataW Unit)} (h:∀ (w w':World),Capt p w.heap.size (w.heap.size+1) 7 w'→RD w' p g cap rk l k bl dp→TErr p a0 a1 w'→RK p rk w'→Calls prog 151 #[.pointer (some ⟨p,0,none⟩),.string Zsa,.int .i64 7,.func (.func 154) #[] #[.pointer (some ⟨w.heap.size,0,none⟩),.pointer (some ⟨w.heap.size+1,0,none⟩)]] w' fun ev w''=>Z0p (fun b=>w'.heap.size≤b) p g cap rk l k bl dp a0 a1 w' o ev w'') :
  Z0w 141 #[.pointer (some ⟨p,0,none⟩),.int .i64 7] p g cap rk l k bl dp a0 a1 o:=by
 intro w R E X
 have hpl:=Z00 R.blk
 have hgl:=R.gl
 obtain ⟨R0,K0,C0,hB0,hs0⟩:=Z2w 7 7 rfl R
 have HC:=Z01 (h w _ C0 R0 (E.keeps K0) (X.keeps K0))
 have HK0:=Z01 K0
 have HB0:=Z01 hB0
 clear h R E X R0 K0 C0 hB0
 go_enter func141,ntmps141
 go_wp2_with fail
 refine HC.out.mono ?_
 intro ev w4 hP
 rcases hP.parts with ⟨e5,k5,op5,z5,sx5,pa5,pn5,pc5,la5,ln5,lc5,q5,rfl,hrep5,R5,K5,hk5,hk5l⟩ | ⟨y,b,q5,rfl,hf⟩
 rotate_left
 ·have HF:Hid (Z04 l p a0 a1 w y (.panicked [{ v:=.iface 61 (.pointer (some ⟨b,0,none⟩)),recovered:=false }]) w4):=Z04.after HK0.out.below hf
  subst q5
  clear hP HC hf
  go_wp2_with fail
  exact ⟨rfl,HF.out⟩
 subst q5
 obtain ⟨u0,u1,u2,u3,u4,uf⟩:=Z05 ((K5.block _ (by omega) (by omega)).trans HB0.out)
 have uf0:=uf 0
 have uf1:=uf 1
 have uf2:=uf 2
 have uf3:=uf 3
 have uf4:=uf 4
 have ul:=Z02 u0
 have HZ:=Z01 (Z3s hpl hgl hs0 HK0.out HB0.out K5 R5 hrep5)
 clear hP HC hrep5 R5 K5 uf
 go_wp2_with fail
 obtain ⟨z1,z2,z3,z4⟩:=HZ.out
 refine bodyPost_ret (Z0b _ 4 rfl _ _ (w.heap.size+2) _ _ _ _ _ rfl z1) rfl ?_
 exact ⟨_,_,_,_,_,rfl,z2,z3,z4,hk5,hk5l⟩

set_option maxHeartbeats 2000000 in
set_option maxRecDepth 100000 in
theorem Zyf {p g cap:Nat}{rk:Value}{l:List (ByteArray × ByteArray × Nat)}{k bl dp:Nat}{a0 a1:Addr}{o:Out (DataW Unit)} (h:∀ (w w':World),Capt p w.heap.size (w.heap.size+1) 8 w'→RD w' p g cap rk l k bl dp→TErr p a0 a1 w'→RK p rk w'→Calls prog 155 #[.pointer (some ⟨p,0,none⟩)] w' fun ev w''=>Z0p (fun b=>w'.heap.size≤b) p g cap rk l k bl dp a0 a1 w' o ev w'') :
  Z0w 141 #[.pointer (some ⟨p,0,none⟩),.int .i64 8] p g cap rk l k bl dp a0 a1 o:=by
 intro w R E X
 have hpl:=Z00 R.blk
 have hgl:=R.gl
 obtain ⟨R0,K0,C0,hB0,hs0⟩:=Z2w 8 8 rfl R
 have HC:=Z01 (h w _ C0 R0 (E.keeps K0) (X.keeps K0))
 have HK0:=Z01 K0
 have HB0:=Z01 hB0
 clear h R E X R0 K0 C0 hB0
 go_enter func141,ntmps141
 go_wp2_with fail
 refine HC.out.mono ?_
 intro ev w4 hP
 rcases hP.parts with ⟨e5,k5,op5,z5,sx5,pa5,pn5,pc5,la5,ln5,lc5,q5,rfl,hrep5,R5,K5,hk5,hk5l⟩ | ⟨y,b,q5,rfl,hf⟩
 rotate_left
 ·have HF:Hid (Z04 l p a0 a1 w y (.panicked [{ v:=.iface 61 (.pointer (some ⟨b,0,none⟩)),recovered:=false }]) w4):=Z04.after HK0.out.below hf
  subst q5
  clear hP HC hf
  go_wp2_with fail
  exact ⟨rfl,HF.out⟩
 subst q5
 obtain ⟨u0,u1,u2,u3,u4,uf⟩:=Z05 ((K5.block _ (by omega) (by omega)).trans HB0.out)
 have uf0:=uf 0
 have uf1:=uf 1
 have uf2:=uf 2
 have uf3:=uf 3
 have uf4:=uf 4
 have ul:=Z02 u0
 have HZ:=Z01 (Z3s hpl hgl hs0 HK0.out HB0.out K5 R5 hrep5)
 clear hP HC hrep5 R5 K5 uf
 go_wp2_with fail
 obtain ⟨z1,z2,z3,z4⟩:=HZ.out
 refine bodyPost_ret (Z0b _ 4 rfl _ _ (w.heap.size+2) _ _ _ _ _ rfl z1) rfl ?_
 exact ⟨_,_,_,_,_,rfl,z2,z3,z4,hk5,hk5l⟩

end Go.Proofs.YtflcohidmemfpaaGreatDoor
namespace Go.Proofs.YtflcohidmemfpaaGreatDoor
open Go.Proofs.Tryz
open Go.RowKit

structure TokOK (l:List (ByteArray × ByteArray × Nat)):Prop where
 hl:l.length≤100000
 hen:Z57 l
 last:∀ (k:Nat) (x:ByteArray × ByteArray × Nat),l[k]?=some x→(Z6o x || Z4h x || Z19 x)=true→k+1<l.length
 int:∀ (k:Nat) (x:ByteArray × ByteArray × Nat),l[k]?=some x→Z6o x=true→x.2.1.size≤9223372036854775806 ∧ ∃ v,Lib.parseIntB 64 x.2.1.data.toList = .ok v

theorem Zt4 {p g cap:Nat}{rk:Value}{l:List (ByteArray × ByteArray × Nat)}{k bl dp:Nat}{a0 a1:Addr} (T:TokOK l) (hk:k<l.length) (hdp:dp≤12) (term:Nat→Out (DataW Unit))
  (hterm:∀ k',k+1≤k'→k'<l.length→dp<12→Z0w 112 #[.pointer (some ⟨p,0,none⟩)] p g cap rk l k' bl (dp+1) a0 a1 (term k')) :
  Z0w 172 #[.pointer (some ⟨p,0,none⟩)] p g cap rk l k bl dp a0 a1 (Z79 l dp term (fun k1=>Z1g l (Z0n term) Zc1 l.length [] k1) (fun k1=>Z1g l (Z13 l term) Zo7 l.length [] k1) k):=by
 intro w R E X
 obtain ⟨x,hx⟩:∃ x,l[k]?=some x:=⟨l[k],by simp [hk]⟩
 have hpl:=Z00 R.blk
 unfold Z79
 rw [hx]
 simp only
 cases h1:Z6o x with
 | true =>
  obtain ⟨hsz,v,hv⟩:=T.int k x hx h1
  simp only [cond_true,Zuj,hv]
  exact Zuk T.hl hx (T.last k x hx (by rw [h1];rfl)) h1 hsz v hv w R
 | false =>
  cases h2:Z4h x with
  | true =>
   simp only [cond_true,cond_false,Bool.true_or]
   exact Zuh T.hl hx (T.last k x hx (by rw [h2];simp)) h1 h2 w R
  | false =>
   cases h3:Z19 x with
   | true =>
    simp only [cond_true,cond_false,Bool.or_true]
    exact Zqo T.hl hx (T.last k x hx (by rw [h3];simp)) h1 h2 h3 w R
   | false =>
    cases h4:Z0i x [Z6v,Z78,Z48] with
    | true =>
     simp only [cond_true,cond_false,Bool.or_false]
     exact Zqf T.hl hx (T.hen.next hx h4) h1 h2 h3 h4 w R
    | false =>
     cases h5:Z0i x [Z7n] with
     | true =>
      simp only [cond_true,cond_false,Bool.or_false]
      have hk1:=T.hen.next hx h5
      exact Zue hx h1 h2 h3 h4 h5 w R E X (fun w' R' E' X' hc=>Zd9 T.hl T.hen hk1 hdp (fun hd=>hterm (k+1) (Nat.le_refl _) hk1 hd) w.heap.size w' R' E' X' hc (by omega))
     | false =>
      cases h6:Z0i x [Zaj] with
      | true =>
       simp only [cond_true,cond_false,Bool.or_false]
       have hk1:=T.hen.next hx h6
       exact Zv0 hx h1 h2 h3 h4 h5 h6 w R E X (fun w' R' E' X' hc=>Zhh T.hl hk1 hdp (fun hd=>Zni Zc1 T.hl T.hen hk1 term (fun k' h7 h8=>hterm k' h7 h8 hd)) w.heap.size w' R' E' X' hc (by omega))
      | false =>
       cases h7:Z0i x [Zsr] with
       | true =>
        simp only [cond_true,cond_false,Bool.or_false]
        have hk1:=T.hen.next hx h7
        exact Zvt hx h1 h2 h3 h4 h5 h6 h7 w R E X (fun w' R' E' X' hc=>Zg5 T.hl hk1 hdp (fun hd=>Zsh T.hl T.hen hk1 term (fun k' h8 h9=>hterm k' h8 h9 hd)) w.heap.size w' R' E' X' hc (by omega))
       | false =>
        simp only [cond_false,Bool.or_false]
        exact Zsl hx h1 h2 h3 h4 h5 h6 h7 w R E

def Z0k (l:List (ByteArray × ByteArray × Nat)):Nat→Nat→Nat→Nat→Out (DataW Unit)
 | 0,_,_,k=>.error (k,false)
 | f+1,dp,rank,k =>
  if rank=0 then Z3u l kLambda k dp (Z0k l f dp 1 k) (Z3f l (fun k1=>Zjk (Z0k l f (dp+1) 0 k1)) (k+1))
  else if rank=3 then Z3u l Zw5 k dp (Z0k l f dp 4 k) (pOp Zw5 (Z0k l f (dp+1) 3 (k+1)))
  else if rank=7 then Z3u l Zsa k dp (Z0k l f dp 8 k) (pOp kNeg (Z0k l f (dp+1) 7 (k+1)))
  else if rank=8 then Zde l dp (Z0k l f (dp+1) 0) (Z79 l dp (Z0k l f (dp+1) 0) (fun k1=>Z1g l (Z0n (Z0k l f (dp+1) 0)) Zc1 l.length [] k1) (fun k1=>Z1g l (Z13 l (Z0k l f (dp+1) 0)) Zo7 l.length [] k1) k)
  else Z3l l rank (Z0k l f dp (rank+1)) k

set_option maxRecDepth 100000 in
theorem Z9x {p g cap:Nat}{rk:Value}{l:List (ByteArray × ByteArray × Nat)}{bl:Nat}{a0 a1:Addr} (T:TokOK l):∀ (f dp rank k:Nat) (zr:Int),zr=(rank:Int)→dp≤12→rank≤8→k<l.length→(l.length - k)*10+(9 - rank)≤f →
  Z0w 141 #[.pointer (some ⟨p,0,none⟩),.int .i64 zr] p g cap rk l k bl dp a0 a1 (Z0k l f dp rank k)
 | 0,dp,rank,k,zr,hz,hdp,hr,hk,hf=>by omega
 | f+1,dp,rank,k,zr,hz,hdp,hr,hk,hf=>by
  have hl:=T.hl
  have hen:=T.hen
  have IH:∀ (rank' k':Nat) (z':Int),z'=(rank':Int)→rank'≤8→k≤k'→k'<l.length→rank<rank'→Z0w 141 #[.pointer (some ⟨p,0,none⟩),.int .i64 z'] p g cap rk l k' bl dp a0 a1 (Z0k l f dp rank' k'):=
   fun rank' k' z' h1 h2 h3 h4 h5=>Z9x T f dp rank' k' z' h1 hdp h2 h4 (by omega)
  have ID:∀ (rank' k':Nat) (z':Int),z'=(rank':Int)→rank'≤8→k+1≤k'→k'<l.length→dp<12→Z0w 141 #[.pointer (some ⟨p,0,none⟩),.int .i64 z'] p g cap rk l k' bl (dp+1) a0 a1 (Z0k l f (dp+1) rank' k'):=
   fun rank' k' z' h1 h2 h3 h4 h5=>Z9x T f (dp+1) rank' k' z' h1 (by omega) h2 h4 (by omega)
  have IT:∀ k',k+1≤k'→k'<l.length→dp<12→Z0w 112 #[.pointer (some ⟨p,0,none⟩)] p g cap rk l k' bl (dp+1) a0 a1 (Z0k l f (dp+1) 0 k'):=
   fun k' h1 h2 h3=>Zl0 (ID 0 k' 0 rfl (by omega) h1 h2 h3)
  unfold Z0k
  match rank,hr,hz with
  | 0,_,hz =>
   subst hz
   exact Zwv (fun w w' C R E X=>Zn4 152 #[.pointer (some ⟨p,0,none⟩)] (fun _ _=>rfl) kLambda 0 (by omega) hk hl hen hdp (fun _=>True) (fun _ _ _ _=>trivial) (IH 1 k _ rfl (by omega) (Nat.le_refl _) hk (by omega)) (fun hk1 hd w2 R2 E2 X2 _=>Znt hl hen (fun k x hx hn=>T.last k x hx (by rw [hn];simp)) hk1 (fun k1=>Zjk (Z0k l f (dp+1) 0 k1)) (fun k1 h1 h2=>Zf5 (IT k1 (by omega) h2 hd)) w2 R2 E2 X2) w' R E X trivial)
  | 1,_,hz=>subst hz;exact Zyr (fun w w' C R E X=>Znn hl hen hk _ (fun k1 h1 h2=>IH 2 k1 _ rfl (by omega) h1 h2 (by omega)) w' R E X)
  | 2,_,hz=>subst hz;exact Zz2 (fun w w' C R E X=>Zmt hl hen hk _ (fun k1 h1 h2=>IH 3 k1 _ rfl (by omega) h1 h2 (by omega)) w' R E X)
  | 3,_,hz =>
   subst hz
   exact Zxc (fun w w' C R E X=>Zgm 153 _ (fun _ _=>rfl) Zw5 3 (by omega) hk hl hen hdp (Capt p w.heap.size (w.heap.size+1) 3) Capt.keeps (IH 4 k _ rfl (by omega) (Nat.le_refl _) hk (by omega)) (fun hk1 hd w2 R2 E2 X2 C2=>Zf4 _ _ 3 (ID 3 (k+1) _ rfl (by omega) (Nat.le_refl _) hk1 hd) w2 R2 E2 X2 C2) w' R E X C)
  | 4,_,hz=>subst hz;exact Zxg (fun w w' C R E X=>Zmh hl hen hk _ (fun k1 h1 h2=>IH 5 k1 _ rfl (by omega) h1 h2 (by omega)) w' R E X)
  | 5,_,hz=>subst hz;exact Zya (fun w w' C R E X=>Zo2 hl hen hk _ (fun k1 h1 h2=>IH 6 k1 _ rfl (by omega) h1 h2 (by omega)) w' R E X)
  | 6,_,hz=>subst hz;exact Zxr (fun w w' C R E X=>Zmk hl hen hk _ (fun k1 h1 h2=>IH 7 k1 _ rfl (by omega) h1 h2 (by omega)) w' R E X)
  | 7,_,hz =>
   subst hz
   exact Zx2 (fun w w' C R E X=>Zgm 154 _ (fun _ _=>rfl) Zsa 7 (by omega) hk hl hen hdp (Capt p w.heap.size (w.heap.size+1) 7) Capt.keeps (IH 8 k _ rfl (by omega) (Nat.le_refl _) hk (by omega)) (fun hk1 hd w2 R2 E2 X2 C2=>Zey _ _ 7 (ID 7 (k+1) _ rfl (by omega) (Nat.le_refl _) hk1 hd) w2 R2 E2 X2 C2) w' R E X C)
  | 8,_,hz=>subst hz;exact Zyf (fun w w' C R E X=>Zsy hl hen hdp _ _ IT (Zt4 T hk hdp _ IT) w' R E X)
  | n+9,hr,_=>omega

def Zsv (l:List (ByteArray × ByteArray × Nat)):Nat:=l.length*10+10
def Zau (l:List (ByteArray × ByteArray × Nat)) (k:Nat):Out (DataW Unit):=Z0k l (Zsv l) 0 0 k
theorem Zg8 {p g cap:Nat}{rk:Value}{l:List (ByteArray × ByteArray × Nat)}{bl:Nat}{a0 a1:Addr} (T:TokOK l) {k:Nat} (hk:k<l.length):Z0w 112 #[.pointer (some ⟨p,0,none⟩)] p g cap rk l k bl 0 a0 a1 (Zau l k):=
 Zl0 (Z9x T (Zsv l) 0 0 k 0 rfl (by omega) (by omega) hk (by unfold Zsv;omega))
theorem Zzi {p g cap:Nat}{rk:Value}{l:List (ByteArray × ByteArray × Nat)}{bl:Nat}{a0 a1:Addr} (T:TokOK l) {k:Nat} (hk:k<l.length):Z4r 78 #[.pointer (some ⟨p,0,none⟩)] p g cap rk l k bl 0 a0 a1 (Zjk (Zau l k)):=Zf5 (Zg8 T hk)
end Go.Proofs.YtflcohidmemfpaaGreatDoor
