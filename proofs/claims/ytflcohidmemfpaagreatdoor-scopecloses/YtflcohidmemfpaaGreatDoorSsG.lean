/- Package tree: calls of its reader that hand a term on, by contracts over what they call. -/
import Derived.Test.YtflcohidmemfpaaGreatDoorSsF
import Derived.Deep.Slices
import Derived.Deep.AppendLies
import Derived.Deep.RegionLaw
set_option linter.all false
namespace Go.Proofs.YtflcohidmemfpaaGreatDoor
open Go.Proofs.Tryz
open Go.RowKit

def kLambda:ByteArray:=⟨#[108,97,109,98,100,97]⟩
def Zw5:ByteArray:=⟨#[110,111,116]⟩
def Zsa:ByteArray:=⟨#[45]⟩
def kNeg:ByteArray:=⟨#[110,101,103]⟩
def Z0y:Nat→List ByteArray
 | 0 => [kLambda]
 | 1 => [⟨#[111,114]⟩]
 | 2 => [⟨#[97,110,100]⟩]
 | 3 => [Zw5]
 | 4 => [⟨#[61,61]⟩,⟨#[33,61]⟩,⟨#[60]⟩,⟨#[60,61]⟩,⟨#[62]⟩,⟨#[62,61]⟩,⟨#[105,115]⟩,⟨#[105,110]⟩]
 | 5 => [⟨#[43]⟩,⟨#[45]⟩]
 | 6 => [⟨#[42]⟩,⟨#[47,47]⟩,⟨#[37]⟩]
 | _ => [⟨#[110,101,103]⟩]
def RK (p:Nat) (rk:Value) (w:World):Prop:=∃ rb c,rk = .slice (some ⟨rb,0,none⟩) 8 c∧rb≠p ∧ ∀ i,i<8 → ∃ b c',w.cell? ⟨rb,i,none⟩=some (.slice (some ⟨b,0,none⟩) (Z0y i).length c')∧b≠p∧TS w b 0 (Z0y i)
theorem RK.keeps {p:Nat}{rk:Value}{w w':World} (h:RK p rk w) (K:Keeps p w w'):RK p rk w':=by
 obtain ⟨rb,c,e,hn,hx⟩:=h
 refine ⟨rb,c,e,hn,fun i hi => ?_⟩
 obtain ⟨b,c',h1,h2,h3⟩:=hx i hi
 exact ⟨b,c',K.cell hn h1,h2,h3.keeps K h2⟩

def Z0w (f:FuncId) (args:Array Value) (p g cap:Nat) (rk:Value) (l:List (ByteArray × ByteArray × Nat)) (k bl dp:Nat) (a0 a1:Addr) (o:Out (DataW Unit)):Prop:=
 ∀ w,RD w p g cap rk l k bl dp→TErr p a0 a1 w→RK p rk w→Calls prog f args w fun ev w'=>Z0p (fun b=>w.heap.size≤b) p g cap rk l k bl dp a0 a1 w o ev w'

set_option maxHeartbeats 2000000 in
set_option maxRecDepth 100000 in
theorem Zdo (K:FuncId) (caps:Array Value) (hE:∀ args w,(callFunc K args).run prog w = .ok (.enter K args) w) {p g cap:Nat}{rk:Value}{l:List (ByteArray × ByteArray × Nat)}{k bl dp:Nat}{a0 a1:Addr} (hk:k+1<l.length) (hl:l.length≤100000) (hdp:dp<12) (w:World) (S:Nat→Prop) (hS:¬ S w.heap.size) (hSp:¬ S p) (o:Out (DataW Unit))
  (hK:∀ w1,RD w1 p g cap rk l (k+1) bl (dp+1)→Keeps p w w1→w.heap.size<w1.heap.size→TErr p a0 a1 w1→Calls prog K caps w1 fun ev w'=>Z0p S p g cap rk l (k+1) bl (dp+1) a0 a1 w1 o ev w')
  (R:RD w p g cap rk l k bl dp) (E:TErr p a0 a1 w) :
  Calls prog 170 #[.pointer (some ⟨p,0,none⟩),.func (.func K) caps #[]] w fun ev w'=>Z0p S p g cap rk l k bl dp a0 a1 w o ev w':=by
 obtain ⟨x,hx⟩:∃ x,l[k]?=some x:=⟨l[k],by simp [show k<l.length by omega]⟩
 have hb0:Below w.heap.size w (w.alloc (.cells #[.string ⟨#[]⟩,.int .i64 0,.string ⟨#[]⟩,.slice none 0 0,.slice none 0 0] 72)):=(Below.refl _ _).alloc (Nat.le_refl _) _
 have hpl:=Z00 R.blk
 have hgl:=R.gl
 have R0:=R.more hb0
 obtain ⟨_,_,_,_,r4⟩:=R.cells
 have hd12:((dp:Int) == 12)=false:=by simp;omega
 have hd0:(0:Int)≤(dp:Int):=by omega
 have hd1:(dp:Int)≤12:=by omega
 have HKK:=Z01 hK
 have HW:=Z01 (heap_alloc_new w (.cells #[.string ⟨#[]⟩,.int .i64 0,.string ⟨#[]⟩,.slice none 0 0,.slice none 0 0] 72))
 clear hK
 go_enter func170,ntmps170
 go_wp2_with fail
 refine (Z23 R0 hx hl).mono ?_
 rintro ev w1 ⟨rfl,R1,K1⟩
 have hK1:Keeps p w w1:=(Keeps.of hb0 (by omega)).trans K1
 have hB1:=(K1.block w.heap.size (by omega) (by simp)).trans HW.out
 obtain ⟨_,_,_,_,q4⟩:=R1.cells
 have qf:=R1.open_ 4
 have R2:RD (w1.setCell ⟨p,4,none⟩ (.int .i64 ((dp:Int)+1))) p g cap rk l (k+1) bl (dp+1):=Zph R1 (by omega)
 have K2:Keeps p w (w1.setCell ⟨p,4,none⟩ (.int .i64 ((dp:Int)+1))):=hK1.set
 have hB2:(w1.setCell ⟨p,4,none⟩ (.int .i64 ((dp:Int)+1))).heap[w.heap.size]?=_:=(Z07 _ _ _ _ _ (by omega)).trans hB1
 have hs2:w.heap.size<(w1.setCell ⟨p,4,none⟩ (.int .i64 ((dp:Int)+1))).heap.size:=Z00 hB2
 have HC:=Z01 (HKK.out _ R2 K2 hs2 (E.keeps K2))
 have H2:Hid (RD (w1.setCell ⟨p,4,none⟩ (.int .i64 ((dp:Int)+1))) p g cap rk l (k+1) bl (dp+1)∧Keeps p w (w1.setCell ⟨p,4,none⟩ (.int .i64 ((dp:Int)+1)))):=⟨R2,K2⟩
 have HB2:=Z01 hB2
 clear R R0 R1 K1 hK1 hB1 R2 K2 hB2 hx
 go_wp2_with fail
 generalize w1.setCell ⟨p,4,none⟩ (.int .i64 ((dp:Int)+1))=w2 at HC H2 HB2 hs2 ⊢
 obtain ⟨R2,K2⟩:=H2.out
 refine HC.out.mono ?_
 intro ev w3 hP
 unfold Z0p at hP
 cases o with
 | error y =>
  obtain ⟨t,g1,b,rfl,g2⟩:=hP
  have HF:Hid (Z0p S p g cap rk l k bl dp a0 a1 w (.error y) (.panicked [{ v:=.iface 61 (.pointer (some ⟨b,0,none⟩)),recovered:=false }]) w3):=Z04.after K2.below ⟨t,g1,b,rfl,g2⟩
  clear g1 g2 R2 K2 H2 HC
  go_wp2_with fail
  exact ⟨rfl,HF.out⟩
 | ok y =>
  obtain ⟨e,k'⟩:=y
  obtain ⟨c0,c1,c2,c3,c4,rfl,hrep,R3,K3,hk3,hk3l⟩:=hP
  obtain ⟨op,z,sx,pa,pn,pc,la,ln,lc,rfl,rfl,rfl,rfl,rfl⟩:=hrep.form
  have hB3:=(K3.block w.heap.size (by omega) hs2).trans HB2.out
  obtain ⟨_,_,_,_,s4⟩:=R3.cells
  have sf:=R3.open_ 4
  have hs3:=Z00 hB3
  have hp3:=Z00 R3.blk
  have HR:=Z01 (And.intro hrep (And.intro R3 (K2.trans K3)))
  have hd2:((dp+1:Nat):Int)=(dp:Int)+1:=by omega
  rw [hd2] at s4
  have R4:RD (w3.setCell ⟨p,4,none⟩ (.int .i64 (dp:Int))) p g cap rk l k' bl dp:=R3.deep dp
  have K4:Keeps p w (w3.setCell ⟨p,4,none⟩ (.int .i64 (dp:Int))):=(K2.trans K3).set
  have hrep4:Z2l S (w3.setCell ⟨p,4,none⟩ (.int .i64 (dp:Int))) _ e:=hrep.same (Z1z hSp) (fun b h _=>h)
  have hB4:(w3.setCell ⟨p,4,none⟩ (.int .i64 (dp:Int))).heap[w.heap.size]?=_:=(Z07 _ _ _ _ _ (by omega)).trans hB3
  have H4:Hid (Z2l S (w3.setCell ⟨p,4,none⟩ (.int .i64 (dp:Int))) [.string op,.int .i64 z,.string sx,.slice pa pn pc,.slice la ln lc] e∧RD (w3.setCell ⟨p,4,none⟩ (.int .i64 (dp:Int))) p g cap rk l k' bl dp∧Keeps p w (w3.setCell ⟨p,4,none⟩ (.int .i64 (dp:Int)))):=⟨hrep4,R4,K4⟩
  have HB4:=Z01 hB4
  obtain ⟨t0,t1,t2,t3,t4,tf⟩:=Z05 hB4
  have tf0:=tf 0
  have tf1:=tf 1
  have tf2:=tf 2
  have tf3:=tf 3
  have tf4:=tf 4
  have hs4:w.heap.size<(w3.setCell ⟨p,4,none⟩ (.int .i64 (dp:Int))).heap.size:=Z00 hB4
  have hsz4:=Z1x w3 ⟨p,4,none⟩ (.int .i64 (dp:Int))
  have HSZ:=Z01 hsz4
  clear R2 K2 R3 K3 hrep H2 HC HB2 HKK R4 K4 hrep4 hB4 hB3 tf hsz4 HR
  go_wp2_with fail
  generalize w3.setCell ⟨p,4,none⟩ (.int .i64 (dp:Int))=w4 at H4 HB4 hs4 ⊢
  obtain ⟨hrep,R4,K4⟩:=H4.out
  obtain ⟨f1,f2,f3,f4⟩:=Z65 hrep R4 K4 HB4.out hS (by omega) (Nat.le_refl _) (by omega) (.string op) (.int .i64 z) (.string sx) (.slice pa pn pc) (.slice la ln lc)
  have hba:Below (set5 w4 w.heap.size (.string op) (.int .i64 z) (.string sx) (.slice pa pn pc) (.slice la ln lc)).heap.size (set5 w4 w.heap.size (.string op) (.int .i64 z) (.string sx) (.slice pa pn pc) (.slice la ln lc)) ((set5 w4 w.heap.size (.string op) (.int .i64 z) (.string sx) (.slice pa pn pc) (.slice la ln lc)).alloc (.cells #[.string op,.int .i64 z,.string sx,.slice pa pn pc,.slice la ln lc] 72)):=(Below.refl _ _).alloc (Nat.le_refl _) _
  refine bodyPost_ret (Z0b _ 4 rfl _ _ w.heap.size _ _ _ _ _ rfl ((hba.block _ (Z00 f4)).trans f4)) rfl ?_
  exact ⟨_,_,_,_,_,rfl,f1.same (Z06 hba) (fun b h _=>h),f2.more hba,f3.trans (Keeps.of hba (by have:=Z00 f2.blk;omega)),by omega,hk3l⟩
set_option maxHeartbeats 1000000 in
set_option maxRecDepth 100000 in
theorem Zl0 {p g cap:Nat}{rk:Value}{l:List (ByteArray × ByteArray × Nat)}{k bl dp:Nat}{a0 a1:Addr}{o:Out (DataW Unit)} (h:Z0w 141 #[.pointer (some ⟨p,0,none⟩),.int .i64 0] p g cap rk l k bl dp a0 a1 o):Z0w 112 #[.pointer (some ⟨p,0,none⟩)] p g cap rk l k bl dp a0 a1 o:=by
 intro w R E X
 have hpl:=Z00 R.blk
 have hgl:=R.gl
 have hb0:Below w.heap.size w (w.alloc (.cells #[.string ⟨#[]⟩,.int .i64 0,.string ⟨#[]⟩,.slice none 0 0,.slice none 0 0] 72)):=(Below.refl _ _).alloc (Nat.le_refl _) _
 have K1:Keeps p w (w.alloc (.cells #[.string ⟨#[]⟩,.int .i64 0,.string ⟨#[]⟩,.slice none 0 0,.slice none 0 0] 72)):=Keeps.of hb0 (by omega)
 have R1:=R.more hb0
 have hB1:=heap_alloc_new w (.cells #[.string ⟨#[]⟩,.int .i64 0,.string ⟨#[]⟩,.slice none 0 0,.slice none 0 0] 72)
 have hsz:(w.alloc (.cells #[.string ⟨#[]⟩,.int .i64 0,.string ⟨#[]⟩,.slice none 0 0,.slice none 0 0] 72)).heap.size=w.heap.size+1:=by simp
 have HC:=Z01 (h _ R1 (E.keeps K1) (X.keeps K1))
 clear R
 go_enter func112,ntmps112
 go_wp2_with fail
 refine HC.out.mono ?_
 intro ev w3 hP
 unfold Z0p at hP
 cases o with
 | error y =>
  obtain ⟨t,g1,b,rfl,g2⟩:=hP
  have HF:Hid (Z04 l p a0 a1 w y (.panicked [{ v:=.iface 61 (.pointer (some ⟨b,0,none⟩)),recovered:=false }]) w3):=Z04.after K1.below ⟨t,g1,b,rfl,g2⟩
  clear g1 g2 R1 K1 HC
  go_wp2_with fail
  exact ⟨rfl,HF.out⟩
 | ok y =>
  obtain ⟨e,k'⟩:=y
  rw [hsz] at hP
  obtain ⟨c0,c1,c2,c3,c4,rfl,hrep,R3,K3,hk3,hk3l⟩:=hP
  obtain ⟨op,z,sx,pa,pn,pc,la,ln,lc,rfl,rfl,rfl,rfl,rfl⟩:=hrep.form
  have hB3:=(K3.block w.heap.size (by omega) (Z00 hB1)).trans hB1
  have hs1:=Z00 hB1
  obtain ⟨t0,t1,t2,t3,t4,tf⟩:=Z05 hB3
  have tf0:=tf 0
  have tf1:=tf 1
  have tf2:=tf 2
  have tf3:=tf 3
  have tf4:=tf 4
  have hp3:=Z00 R3.blk
  have H3:=Z01 (And.intro hrep (And.intro R3 (And.intro (K1.trans K3) hB3)))
  have hw1:=K1.below.size
  clear R1 K1 R3 K3 hrep hB1 hB3 tf HC
  go_wp2_with fail
  obtain ⟨hrep,R3,K3,hB3⟩:=H3.out
  obtain ⟨f1,f2,f3,f4⟩:=Z65 hrep R3 K3 hB3 (by omega) (by omega) (by omega) (by omega) (.string op) (.int .i64 z) (.string sx) (.slice pa pn pc) (.slice la ln lc)
  refine bodyPost_ret (Z0b _ 2 rfl _ _ w.heap.size _ _ _ _ _ rfl f4) rfl ?_
  exact ⟨_,_,_,_,_,rfl,f1.same (fun _ _ _=>rfl) (fun b h _=>by omega),f2,f3,by omega,hk3l⟩
def Z1c (l:List (ByteArray × ByteArray × Nat)) (closing:ByteArray) (o:Out (DataW Unit)):Out (DataW Unit):=match o with
 | .error x=>.error x
 | .ok (e,k')=>bif Z09 l k' [closing] then .ok (e,k'+1) else .error (k',false)
set_option maxHeartbeats 2000000 in
set_option maxRecDepth 100000 in
theorem Z9f {p g cap:Nat}{rk:Value}{l:List (ByteArray × ByteArray × Nat)}{k bl dp:Nat}{a0 a1:Addr}{o:Out (DataW Unit)} (closing:ByteArray) (hl:l.length≤100000) (hen:Z57 l) (h:Z0w 112 #[.pointer (some ⟨p,0,none⟩)] p g cap rk l k bl dp a0 a1 o):Z0w 176 #[.pointer (some ⟨p,0,none⟩),.string closing] p g cap rk l k bl dp a0 a1 (Z1c l closing o):=by
 intro w R E X
 have hpl:=Z00 R.blk
 have hgl:=R.gl
 have hb0:Below w.heap.size w (w.alloc (.cells #[.string ⟨#[]⟩,.int .i64 0,.string ⟨#[]⟩,.slice none 0 0,.slice none 0 0] 72)):=(Below.refl _ _).alloc (Nat.le_refl _) _
 have K1:Keeps p w (w.alloc (.cells #[.string ⟨#[]⟩,.int .i64 0,.string ⟨#[]⟩,.slice none 0 0,.slice none 0 0] 72)):=Keeps.of hb0 (by omega)
 have R1:=R.more hb0
 have hB1:=heap_alloc_new w (.cells #[.string ⟨#[]⟩,.int .i64 0,.string ⟨#[]⟩,.slice none 0 0,.slice none 0 0] 72)
 have hsz:(w.alloc (.cells #[.string ⟨#[]⟩,.int .i64 0,.string ⟨#[]⟩,.slice none 0 0,.slice none 0 0] 72)).heap.size=w.heap.size+1:=by simp
 have HC:=Z01 (h _ R1 (E.keeps K1) (X.keeps K1))
 clear R
 cases o with
 | error y =>
  show Calls _ _ _ _ fun ev w'=>Z0p _ p g cap rk l k bl dp a0 a1 w (.error y) ev w'
  go_enter func176,ntmps176
  go_wp2_with fail
  refine HC.out.mono ?_
  intro ev w3 hP
  unfold Z0p at hP
  obtain ⟨t,g1,b,rfl,g2⟩:=hP
  have HF:Hid (Z04 l p a0 a1 w y (.panicked [{ v:=.iface 61 (.pointer (some ⟨b,0,none⟩)),recovered:=false }]) w3):=Z04.after K1.below ⟨t,g1,b,rfl,g2⟩
  clear g1 g2 R1 K1 HC
  go_wp2_with fail
  exact ⟨rfl,HF.out⟩
 | ok y =>
  obtain ⟨e,k'⟩:=y
  obtain ⟨m,hm⟩:∃ m,Z09 l k' [closing]=m:=⟨_,rfl⟩
  unfold Z1c
  simp only
  rw [hm]
  have HM:=Z01 hm
  clear hm
  cases m
  all_goals
   simp only [cond_true,cond_false]
   go_enter func176,ntmps176
   go_wp2_with fail
   refine HC.out.mono ?_
   intro ev w3 hP
   unfold Z0p at hP
   rw [hsz] at hP
   obtain ⟨c0,c1,c2,c3,c4,rfl,hrep,R3,K3,hk3,hk3l⟩:=hP
   obtain ⟨op,z,sx,pa,pn,pc,la,ln,lc,rfl,rfl,rfl,rfl,rfl⟩:=hrep.form
   have hB3:=(K3.block w.heap.size (by omega) (Z00 hB1)).trans hB1
   have hB3s:=Z00 hB3
   have hba:Below w3.heap.size w3 (w3.alloc (.cells #[.string op,.int .i64 z,.string sx,.slice pa pn pc,.slice la ln lc] 72)):=(Below.refl _ _).alloc (Nat.le_refl _) _
   have R4:=R3.more hba
   have K4:=(K1.trans K3).trans (Keeps.of hba (by omega))
   have hB4:=(hba.block _ hB3s).trans hB3
   have hrep4:=hrep.same (Z06 hba) (fun b h _=>h)
   have hE4:=heap_alloc_new w3 (.cells #[.string op,.int .i64 z,.string sx,.slice pa pn pc,.slice la ln lc] 72)
   obtain ⟨x,hx⟩:∃ x,l[k']?=some x:=⟨l[k'],by simp [hk3l]⟩
   have HX:=Z01 hx
   have HMM:=Z01 ((Z0r hx [closing]).symm.trans HM.out)
   have E4:=E.keeps K4
   clear R1 K1 R3 K3 hrep hB1 hB3 HC
   go_wp2_with fail
   refine (Z2q R4 E4 hx hl closing).mono ?_
   intro ev w5 hT
   rw [HMM.out] at hT
  ·have hT':Z04 l p a0 a1 (w3.alloc (.cells #[.string op,.int .i64 z,.string sx,.slice pa pn pc,.slice la ln lc] 72)) (k',false) ev w5:=by simpa using hT
   obtain ⟨t,g1,b,rfl,g2⟩:=hT'
   have HF:Hid (Z04 l p a0 a1 w (k',false) (.panicked [{ v:=.iface 61 (.pointer (some ⟨b,0,none⟩)),recovered:=false }]) w5):=Z04.after K4.below ⟨t,g1,b,rfl,g2⟩
   clear g1 g2 hT R4 K4 hB4 hrep4 hE4 E4 hx
   go_wp2_with fail
   exact ⟨rfl,HF.out⟩
  ·have hT':ev = .returned (.tuple #[])∧RD w5 p g cap rk l (k'+1) bl dp∧Keeps p (w3.alloc (.cells #[.string op,.int .i64 z,.string sx,.slice pa pn pc,.slice la ln lc] 72)) w5:=by simpa using hT
   obtain ⟨rfl,R5,K5⟩:=hT'
   have hk5:=hen.next HX.out HMM.out
   have hB5:=(K5.block w.heap.size (by omega) (Z00 hB4)).trans hB4
   have hE5:=(K5.block w3.heap.size (by have:=Z00 R4.blk;omega) (by simp)).trans hE4
   have hrep5:=hrep4.same (K5.same (by omega)) (fun b h _=>h)
   obtain ⟨t0,t1,t2,t3,t4,tf⟩:=Z05 hB5
   have tf0:=tf 0
   have tf1:=tf 1
   have tf2:=tf 2
   have tf3:=tf 3
   have tf4:=tf 4
   obtain ⟨q0,q1,q2,q3,q4,_⟩:=Z05 hE5
   have hp5:=Z00 R5.blk
   have H5:=Z01 (And.intro hrep5 (And.intro R5 (And.intro (K4.trans K5) hB5)))
   clear hT R4 K4 hB4 hrep4 hE4 E4 hx R5 K5 hB5 hE5 hrep5 tf hba
   go_wp2_with fail
   obtain ⟨hrep,R3,K3,hB3⟩:=H5.out
   obtain ⟨f1,f2,f3,f4⟩:=Z65 hrep R3 K3 hB3 (by omega) (by omega) (by omega) (by omega) (.string op) (.int .i64 z) (.string sx) (.slice pa pn pc) (.slice la ln lc)
   refine bodyPost_ret (Z0b _ 4 rfl _ _ w.heap.size _ _ _ _ _ rfl f4) rfl ?_
   exact ⟨_,_,_,_,_,rfl,f1.same (fun _ _ _=>rfl) (fun b h _=>by omega),f2,f3,by omega,hk5⟩
end Go.Proofs.YtflcohidmemfpaaGreatDoor
namespace Go.Proofs.YtflcohidmemfpaaGreatDoor
open Go.Proofs.Tryz
open Go.RowKit

def Z3u (l:List (ByteArray × ByteArray × Nat)) (mark:ByteArray) (k dp:Nat) (oR oW:Out (DataW Unit)):Out (DataW Unit):=bif Z09 l k [mark] then (if dp=12 then .error (k,true) else oW) else oR
set_option maxHeartbeats 2000000 in
set_option maxRecDepth 100000 in
theorem Zgm (K:FuncId) (caps:Array Value) (hE:∀ args w,(callFunc K args).run prog w = .ok (.enter K args) w) {p g cap:Nat}{rk:Value}{l:List (ByteArray × ByteArray × Nat)}{k bl dp:Nat}{a0 a1:Addr}{oR oW:Out (DataW Unit)} (mark:ByteArray) (rank:Nat) (hrank:rank≤8) (hk:k<l.length) (hl:l.length≤100000) (hen:Z57 l) (hdp:dp≤12) (Capt:World→Prop) (hCapt:∀ w w',Capt w→Keeps p w w'→Capt w')
  (hR:Z0w 141 #[.pointer (some ⟨p,0,none⟩),.int .i64 ((rank:Int)+1)] p g cap rk l k bl dp a0 a1 oR)
  (hW:k+1<l.length→dp<12 → ∀ w2,RD w2 p g cap rk l (k+1) bl (dp+1)→TErr p a0 a1 w2→RK p rk w2→Capt w2→Calls prog K caps w2 fun ev w'=>Z0p (fun b=>w2.heap.size≤b) p g cap rk l (k+1) bl (dp+1) a0 a1 w2 oW ev w') :
  ∀ w,RD w p g cap rk l k bl dp→TErr p a0 a1 w→RK p rk w→Capt w→Calls prog 151 #[.pointer (some ⟨p,0,none⟩),.string mark,.int .i64 (rank:Int),.func (.func K) #[] caps] w fun ev w'=>Z0p (fun b=>w.heap.size≤b) p g cap rk l k bl dp a0 a1 w (Z3u l mark k dp oR oW) ev w':=by
 intro w R E X C
 have hpl:=Z00 R.blk
 have hgl:=R.gl
 have hb0:Below w.heap.size w (w.alloc (.cells #[.string ⟨#[]⟩,.int .i64 0,.string ⟨#[]⟩,.slice none 0 0,.slice none 0 0] 72)):=(Below.refl _ _).alloc (Nat.le_refl _) _
 have hB0:=heap_alloc_new w (.cells #[.string ⟨#[]⟩,.int .i64 0,.string ⟨#[]⟩,.slice none 0 0,.slice none 0 0] 72)
 have hsz:(w.alloc (.cells #[.string ⟨#[]⟩,.int .i64 0,.string ⟨#[]⟩,.slice none 0 0,.slice none 0 0] 72)).heap.size=w.heap.size+1:=by simp
 have hb1:Below w.heap.size w ((w.alloc (.cells #[.string ⟨#[]⟩,.int .i64 0,.string ⟨#[]⟩,.slice none 0 0,.slice none 0 0] 72)).alloc (.cells #[.string mark] 9)):=hb0.alloc (by omega) _
 have K1:Keeps p w ((w.alloc (.cells #[.string ⟨#[]⟩,.int .i64 0,.string ⟨#[]⟩,.slice none 0 0,.slice none 0 0] 72)).alloc (.cells #[.string mark] 9)):=Keeps.of hb1 (by omega)
 have R1:=R.more hb1
 have hB1:((w.alloc (.cells #[.string ⟨#[]⟩,.int .i64 0,.string ⟨#[]⟩,.slice none 0 0,.slice none 0 0] 72)).alloc (.cells #[.string mark] 9)).heap[w.heap.size]?=_:=(Below.heap_alloc _ _ _ (by omega)).trans hB0
 have hT1:=Zkk (w.alloc (.cells #[.string ⟨#[]⟩,.int .i64 0,.string ⟨#[]⟩,.slice none 0 0,.slice none 0 0] 72)) mark
 rw [hsz] at hT1
 obtain ⟨x,hx⟩:∃ x,l[k]?=some x:=⟨l[k],by simp [hk]⟩
 have HX:=Z01 hx
 obtain ⟨m,hm⟩:∃ m,Z0i x [mark]=m:=⟨_,rfl⟩
 have hma:Z09 l k [mark]=m:=(Z0r hx [mark]).trans hm
 unfold Z3u
 rw [hma]
 have HM:=Z01 hm
 have HRR:=Z01 hR
 have HWW:=Z01 hW
 have HCC:=Z01 hCapt
 clear R hm hma hR hW hCapt
 cases m
 ·simp only [cond_false]
  cases oR with
  | error y =>
   go_enter func151,ntmps151
   go_wp2_with fail
   refine (Z10 R1 hx [mark] (w.heap.size+1) 0 1 (by simp) hT1).mono ?_
   rintro ev w2 ⟨rfl,hb2⟩
   rw [HM.out]
   have R2:=R1.more hb2
   have K2:Keeps p w w2:=K1.trans (Keeps.of hb2 (by have:=Z00 R1.blk;omega))
   have hB2:=(hb2.block _ (Z00 hB1)).trans hB1
   have hs2:=Z00 hB2
   have E2:=E.keeps K2
   have X2:=X.keeps K2
   have C2:=HCC.out w w2 C K2
   have HC:=Z01 (HRR.out w2 R2 E2 X2)
   clear R1 K1 hB1 hT1 hx C C2
   go_wp2_with fail
   refine HC.out.mono ?_
   intro ev w3 hP
   unfold Z0p at hP
   obtain ⟨t,g1,b,rfl,g2⟩:=hP
   have HF:Hid (Z04 l p a0 a1 w y (.panicked [{ v:=.iface 61 (.pointer (some ⟨b,0,none⟩)),recovered:=false }]) w3):=Z04.after K2.below ⟨t,g1,b,rfl,g2⟩
   clear g1 g2 R2 K2 HC hB2
   go_wp2_with fail
   exact ⟨rfl,HF.out⟩
  | ok y =>
   obtain ⟨e,k'⟩:=y
   go_enter func151,ntmps151
   go_wp2_with fail
   refine (Z10 R1 hx [mark] (w.heap.size+1) 0 1 (by simp) hT1).mono ?_
   rintro ev w2 ⟨rfl,hb2⟩
   rw [HM.out]
   have R2:=R1.more hb2
   have K2:Keeps p w w2:=K1.trans (Keeps.of hb2 (by have:=Z00 R1.blk;omega))
   have hB2:=(hb2.block _ (Z00 hB1)).trans hB1
   have hs2:=Z00 hB2
   have E2:=E.keeps K2
   have X2:=X.keeps K2
   have C2:=HCC.out w w2 C K2
   have HC:=Z01 (HRR.out w2 R2 E2 X2)
   clear R1 K1 hB1 hT1 hx C C2
   go_wp2_with fail
   refine HC.out.mono ?_
   intro ev w3 hP
   unfold Z0p at hP
   obtain ⟨c0,c1,c2,c3,c4,rfl,hrep,R3,K3,hk3,hk3l⟩:=hP
   obtain ⟨op,z,sx,pa,pn,pc,la,ln,lc,rfl,rfl,rfl,rfl,rfl⟩:=hrep.form
   have hB3:=(K3.block w.heap.size (by omega) (Z00 hB2)).trans hB2
   have hs1:=Z00 hB2
   obtain ⟨t0,t1,t2,t3,t4,tf⟩:=Z05 hB3
   have tf0:=tf 0
   have tf1:=tf 1
   have tf2:=tf 2
   have tf3:=tf 3
   have tf4:=tf 4
   have hp3:=Z00 R3.blk
   have H3:=Z01 (And.intro hrep (And.intro R3 (And.intro (K2.trans K3) hB3)))
   have hw1:=K2.below.size
   clear R3 K3 hrep hB3 tf HC R2 K2 hB2
   go_wp2_with fail
   obtain ⟨hrep,R3,K3,hB3⟩:=H3.out
   obtain ⟨f1,f2,f3,f4⟩:=Z65 hrep R3 K3 hB3 (by omega) (by omega) (by omega) (by omega) (.string op) (.int .i64 z) (.string sx) (.slice pa pn pc) (.slice la ln lc)
   refine bodyPost_ret (Z0b _ 8 rfl _ _ w.heap.size _ _ _ _ _ rfl f4) rfl ?_
   exact ⟨_,_,_,_,_,rfl,f1.same (fun _ _ _=>rfl) (fun b h _=>by omega),f2,f3,by omega,hk3l⟩
 ·simp only [cond_true]
  have hk1:=hen.next HX.out HM.out
  by_cases h12:dp=12
  ·rw [if_pos h12]
   subst h12
   go_enter func151,ntmps151
   go_wp2_with fail
   refine (Z10 R1 hx [mark] (w.heap.size+1) 0 1 (by simp) hT1).mono ?_
   rintro ev w2 ⟨rfl,hb2⟩
   rw [HM.out]
   have R2:=R1.more hb2
   have K2:Keeps p w w2:=K1.trans (Keeps.of hb2 (by have:=Z00 R1.blk;omega))
   have hB2:=(hb2.block _ (Z00 hB1)).trans hB1
   have hs2:=Z00 hB2
   have E2:=E.keeps K2
   have X2:=X.keeps K2
   have C2:=HCC.out w w2 C K2
   have HC:=Z01 (Z2o (.func (.func K) #[] caps) hk w2 R2 E2)
   clear R1 K1 hB1 hT1 hx C C2
   go_wp2_with fail
   refine HC.out.mono ?_
   intro ev w3 hP
   obtain ⟨t,g1,b,rfl,g2⟩:=hP
   have HF:Hid (Z04 l p a0 a1 w (k,true) (.panicked [{ v:=.iface 61 (.pointer (some ⟨b,0,none⟩)),recovered:=false }]) w3):=Z04.after K2.below ⟨t,g1,b,rfl,g2⟩
   clear g1 g2 R2 K2 HC hB2
   go_wp2_with fail
   exact ⟨rfl,HF.out⟩
  ·rw [if_neg h12]
   have hd:dp<12:=by omega
   cases oW with
   | error y =>
    go_enter func151,ntmps151
    go_wp2_with fail
    refine (Z10 R1 hx [mark] (w.heap.size+1) 0 1 (by simp) hT1).mono ?_
    rintro ev w2 ⟨rfl,hb2⟩
    rw [HM.out]
    have R2:=R1.more hb2
    have K2:Keeps p w w2:=K1.trans (Keeps.of hb2 (by have:=Z00 R1.blk;omega))
    have hB2:=(hb2.block _ (Z00 hB1)).trans hB1
    have hs2:=Z00 hB2
    have E2:=E.keeps K2
    have X2:=X.keeps K2
    have C2:=HCC.out w w2 C K2
    have HC:=Z01 (Z4w K caps hE hk1 hl hd w2 (fun b=>w2.heap.size<b) (by omega) (by have:=Z00 R2.blk;omega) (.error y) (fun w5 R5 K5 hs5 E5=>(HWW.out hk1 hd w5 R5 E5 (X2.keeps K5) (HCC.out w2 w5 C2 K5)).mono (fun ev w' h=>h)) R2 E2)
    clear R1 K1 hB1 hT1 hx C C2
    go_wp2_with fail
    refine HC.out.mono ?_
    intro ev w3 hP
    unfold Z0p at hP
    obtain ⟨t,g1,b,rfl,g2⟩:=hP
    have HF:Hid (Z04 l p a0 a1 w y (.panicked [{ v:=.iface 61 (.pointer (some ⟨b,0,none⟩)),recovered:=false }]) w3):=Z04.after K2.below ⟨t,g1,b,rfl,g2⟩
    clear g1 g2 R2 K2 HC hB2
    go_wp2_with fail
    exact ⟨rfl,HF.out⟩
   | ok y =>
    obtain ⟨e,k'⟩:=y
    go_enter func151,ntmps151
    go_wp2_with fail
    refine (Z10 R1 hx [mark] (w.heap.size+1) 0 1 (by simp) hT1).mono ?_
    rintro ev w2 ⟨rfl,hb2⟩
    rw [HM.out]
    have R2:=R1.more hb2
    have K2:Keeps p w w2:=K1.trans (Keeps.of hb2 (by have:=Z00 R1.blk;omega))
    have hB2:=(hb2.block _ (Z00 hB1)).trans hB1
    have hs2:=Z00 hB2
    have E2:=E.keeps K2
    have X2:=X.keeps K2
    have C2:=HCC.out w w2 C K2
    have HC:=Z01 (Z4w K caps hE hk1 hl hd w2 (fun b=>w2.heap.size<b) (by omega) (by have:=Z00 R2.blk;omega) (.ok (e,k')) (fun w5 R5 K5 hs5 E5=>(HWW.out hk1 hd w5 R5 E5 (X2.keeps K5) (HCC.out w2 w5 C2 K5)).mono (fun ev w' h=>by
     obtain ⟨c0,c1,c2,c3,c4,h1,h2,h3⟩:=h
     exact ⟨c0,c1,c2,c3,c4,h1,h2.same (fun _ _ _=>rfl) (fun b hb _=>by omega),h3⟩)) R2 E2)
    clear R1 K1 hB1 hT1 hx C C2
    go_wp2_with fail
    refine HC.out.mono ?_
    intro ev w3 hP
    unfold Z0p at hP
    obtain ⟨c0,c1,c2,c3,c4,rfl,hrep,R3,K3,hk3,hk3l⟩:=hP
    obtain ⟨op,z,sx,pa,pn,pc,la,ln,lc,rfl,rfl,rfl,rfl,rfl⟩:=hrep.form
    have hB3:=(K3.block w.heap.size (by omega) (Z00 hB2)).trans hB2
    have hs1:=Z00 hB2
    obtain ⟨t0,t1,t2,t3,t4,tf⟩:=Z05 hB3
    have tf0:=tf 0
    have tf1:=tf 1
    have tf2:=tf 2
    have tf3:=tf 3
    have tf4:=tf 4
    have hp3:=Z00 R3.blk
    have H3:=Z01 (And.intro hrep (And.intro R3 (And.intro (K2.trans K3) hB3)))
    have hw1:=K2.below.size
    clear R3 K3 hrep hB3 tf HC R2 K2 hB2
    go_wp2_with fail
    obtain ⟨hrep,R3,K3,hB3⟩:=H3.out
    obtain ⟨f1,f2,f3,f4⟩:=Z65 hrep R3 K3 hB3 (by omega) (by omega) (by omega) (by omega) (.string op) (.int .i64 z) (.string sx) (.slice pa pn pc) (.slice la ln lc)
    refine bodyPost_ret (Z0b _ 8 rfl _ _ w.heap.size _ _ _ _ _ rfl f4) rfl ?_
    exact ⟨_,_,_,_,_,rfl,f1.same (fun _ _ _=>rfl) (fun b h _=>by omega),f2,f3,by omega,hk3l⟩
set_option maxHeartbeats 2000000 in
set_option maxRecDepth 100000 in
theorem Zn4 (K:FuncId) (caps:Array Value) (hE:∀ args w,(callFunc K args).run prog w = .ok (.enter K args) w) {p g cap:Nat}{rk:Value}{l:List (ByteArray × ByteArray × Nat)}{k bl dp:Nat}{a0 a1:Addr}{oR oW:Out (DataW Unit)} (mark:ByteArray) (rank:Nat) (hrank:rank≤8) (hk:k<l.length) (hl:l.length≤100000) (hen:Z57 l) (hdp:dp≤12) (Capt:World→Prop) (hCapt:∀ w w',Capt w→Keeps p w w'→Capt w')
  (hR:Z0w 141 #[.pointer (some ⟨p,0,none⟩),.int .i64 ((rank:Int)+1)] p g cap rk l k bl dp a0 a1 oR)
  (hW:k+1<l.length→dp<12 → ∀ w2,RD w2 p g cap rk l (k+1) bl (dp+1)→TErr p a0 a1 w2→RK p rk w2→Capt w2→Calls prog K caps w2 fun ev w'=>Z0p (fun b=>w2.heap.size≤b) p g cap rk l (k+1) bl (dp+1) a0 a1 w2 oW ev w') :
  ∀ w,RD w p g cap rk l k bl dp→TErr p a0 a1 w→RK p rk w→Capt w→Calls prog 151 #[.pointer (some ⟨p,0,none⟩),.string mark,.int .i64 (rank:Int),.func (.func K) caps #[]] w fun ev w'=>Z0p (fun b=>w.heap.size≤b) p g cap rk l k bl dp a0 a1 w (Z3u l mark k dp oR oW) ev w':=by
 intro w R E X C
 have hpl:=Z00 R.blk
 have hgl:=R.gl
 have hb0:Below w.heap.size w (w.alloc (.cells #[.string ⟨#[]⟩,.int .i64 0,.string ⟨#[]⟩,.slice none 0 0,.slice none 0 0] 72)):=(Below.refl _ _).alloc (Nat.le_refl _) _
 have hB0:=heap_alloc_new w (.cells #[.string ⟨#[]⟩,.int .i64 0,.string ⟨#[]⟩,.slice none 0 0,.slice none 0 0] 72)
 have hsz:(w.alloc (.cells #[.string ⟨#[]⟩,.int .i64 0,.string ⟨#[]⟩,.slice none 0 0,.slice none 0 0] 72)).heap.size=w.heap.size+1:=by simp
 have hb1:Below w.heap.size w ((w.alloc (.cells #[.string ⟨#[]⟩,.int .i64 0,.string ⟨#[]⟩,.slice none 0 0,.slice none 0 0] 72)).alloc (.cells #[.string mark] 9)):=hb0.alloc (by omega) _
 have K1:Keeps p w ((w.alloc (.cells #[.string ⟨#[]⟩,.int .i64 0,.string ⟨#[]⟩,.slice none 0 0,.slice none 0 0] 72)).alloc (.cells #[.string mark] 9)):=Keeps.of hb1 (by omega)
 have R1:=R.more hb1
 have hB1:((w.alloc (.cells #[.string ⟨#[]⟩,.int .i64 0,.string ⟨#[]⟩,.slice none 0 0,.slice none 0 0] 72)).alloc (.cells #[.string mark] 9)).heap[w.heap.size]?=_:=(Below.heap_alloc _ _ _ (by omega)).trans hB0
 have hT1:=Zkk (w.alloc (.cells #[.string ⟨#[]⟩,.int .i64 0,.string ⟨#[]⟩,.slice none 0 0,.slice none 0 0] 72)) mark
 rw [hsz] at hT1
 obtain ⟨x,hx⟩:∃ x,l[k]?=some x:=⟨l[k],by simp [hk]⟩
 have HX:=Z01 hx
 obtain ⟨m,hm⟩:∃ m,Z0i x [mark]=m:=⟨_,rfl⟩
 have hma:Z09 l k [mark]=m:=(Z0r hx [mark]).trans hm
 unfold Z3u
 rw [hma]
 have HM:=Z01 hm
 have HRR:=Z01 hR
 have HWW:=Z01 hW
 have HCC:=Z01 hCapt
 clear R hm hma hR hW hCapt
 cases m
 ·simp only [cond_false]
  cases oR with
  | error y =>
   go_enter func151,ntmps151
   go_wp2_with fail
   refine (Z10 R1 hx [mark] (w.heap.size+1) 0 1 (by simp) hT1).mono ?_
   rintro ev w2 ⟨rfl,hb2⟩
   rw [HM.out]
   have R2:=R1.more hb2
   have K2:Keeps p w w2:=K1.trans (Keeps.of hb2 (by have:=Z00 R1.blk;omega))
   have hB2:=(hb2.block _ (Z00 hB1)).trans hB1
   have hs2:=Z00 hB2
   have E2:=E.keeps K2
   have X2:=X.keeps K2
   have C2:=HCC.out w w2 C K2
   have HC:=Z01 (HRR.out w2 R2 E2 X2)
   clear R1 K1 hB1 hT1 hx C C2
   go_wp2_with fail
   refine HC.out.mono ?_
   intro ev w3 hP
   unfold Z0p at hP
   obtain ⟨t,g1,b,rfl,g2⟩:=hP
   have HF:Hid (Z04 l p a0 a1 w y (.panicked [{ v:=.iface 61 (.pointer (some ⟨b,0,none⟩)),recovered:=false }]) w3):=Z04.after K2.below ⟨t,g1,b,rfl,g2⟩
   clear g1 g2 R2 K2 HC hB2
   go_wp2_with fail
   exact ⟨rfl,HF.out⟩
  | ok y =>
   obtain ⟨e,k'⟩:=y
   go_enter func151,ntmps151
   go_wp2_with fail
   refine (Z10 R1 hx [mark] (w.heap.size+1) 0 1 (by simp) hT1).mono ?_
   rintro ev w2 ⟨rfl,hb2⟩
   rw [HM.out]
   have R2:=R1.more hb2
   have K2:Keeps p w w2:=K1.trans (Keeps.of hb2 (by have:=Z00 R1.blk;omega))
   have hB2:=(hb2.block _ (Z00 hB1)).trans hB1
   have hs2:=Z00 hB2
   have E2:=E.keeps K2
   have X2:=X.keeps K2
   have C2:=HCC.out w w2 C K2
   have HC:=Z01 (HRR.out w2 R2 E2 X2)
   clear R1 K1 hB1 hT1 hx C C2
   go_wp2_with fail
   refine HC.out.mono ?_
   intro ev w3 hP
   unfold Z0p at hP
   obtain ⟨c0,c1,c2,c3,c4,rfl,hrep,R3,K3,hk3,hk3l⟩:=hP
   obtain ⟨op,z,sx,pa,pn,pc,la,ln,lc,rfl,rfl,rfl,rfl,rfl⟩:=hrep.form
   have hB3:=(K3.block w.heap.size (by omega) (Z00 hB2)).trans hB2
   have hs1:=Z00 hB2
   obtain ⟨t0,t1,t2,t3,t4,tf⟩:=Z05 hB3
   have tf0:=tf 0
   have tf1:=tf 1
   have tf2:=tf 2
   have tf3:=tf 3
   have tf4:=tf 4
   have hp3:=Z00 R3.blk
   have H3:=Z01 (And.intro hrep (And.intro R3 (And.intro (K2.trans K3) hB3)))
   have hw1:=K2.below.size
   clear R3 K3 hrep hB3 tf HC R2 K2 hB2
   go_wp2_with fail
   obtain ⟨hrep,R3,K3,hB3⟩:=H3.out
   obtain ⟨f1,f2,f3,f4⟩:=Z65 hrep R3 K3 hB3 (by omega) (by omega) (by omega) (by omega) (.string op) (.int .i64 z) (.string sx) (.slice pa pn pc) (.slice la ln lc)
   refine bodyPost_ret (Z0b _ 8 rfl _ _ w.heap.size _ _ _ _ _ rfl f4) rfl ?_
   exact ⟨_,_,_,_,_,rfl,f1.same (fun _ _ _=>rfl) (fun b h _=>by omega),f2,f3,by omega,hk3l⟩
 ·simp only [cond_true]
  have hk1:=hen.next HX.out HM.out
  by_cases h12:dp=12
  ·rw [if_pos h12]
   subst h12
   go_enter func151,ntmps151
   go_wp2_with fail
   refine (Z10 R1 hx [mark] (w.heap.size+1) 0 1 (by simp) hT1).mono ?_
   rintro ev w2 ⟨rfl,hb2⟩
   rw [HM.out]
   have R2:=R1.more hb2
   have K2:Keeps p w w2:=K1.trans (Keeps.of hb2 (by have:=Z00 R1.blk;omega))
   have hB2:=(hb2.block _ (Z00 hB1)).trans hB1
   have hs2:=Z00 hB2
   have E2:=E.keeps K2
   have X2:=X.keeps K2
   have C2:=HCC.out w w2 C K2
   have HC:=Z01 (Z2o (.func (.func K) caps #[]) hk w2 R2 E2)
   clear R1 K1 hB1 hT1 hx C C2
   go_wp2_with fail
   refine HC.out.mono ?_
   intro ev w3 hP
   obtain ⟨t,g1,b,rfl,g2⟩:=hP
   have HF:Hid (Z04 l p a0 a1 w (k,true) (.panicked [{ v:=.iface 61 (.pointer (some ⟨b,0,none⟩)),recovered:=false }]) w3):=Z04.after K2.below ⟨t,g1,b,rfl,g2⟩
   clear g1 g2 R2 K2 HC hB2
   go_wp2_with fail
   exact ⟨rfl,HF.out⟩
  ·rw [if_neg h12]
   have hd:dp<12:=by omega
   cases oW with
   | error y =>
    go_enter func151,ntmps151
    go_wp2_with fail
    refine (Z10 R1 hx [mark] (w.heap.size+1) 0 1 (by simp) hT1).mono ?_
    rintro ev w2 ⟨rfl,hb2⟩
    rw [HM.out]
    have R2:=R1.more hb2
    have K2:Keeps p w w2:=K1.trans (Keeps.of hb2 (by have:=Z00 R1.blk;omega))
    have hB2:=(hb2.block _ (Z00 hB1)).trans hB1
    have hs2:=Z00 hB2
    have E2:=E.keeps K2
    have X2:=X.keeps K2
    have C2:=HCC.out w w2 C K2
    have HC:=Z01 (Zdo K caps hE hk1 hl hd w2 (fun b=>w2.heap.size<b) (by omega) (by have:=Z00 R2.blk;omega) (.error y) (fun w5 R5 K5 hs5 E5=>(HWW.out hk1 hd w5 R5 E5 (X2.keeps K5) (HCC.out w2 w5 C2 K5)).mono (fun ev w' h=>h)) R2 E2)
    clear R1 K1 hB1 hT1 hx C C2
    go_wp2_with fail
    refine HC.out.mono ?_
    intro ev w3 hP
    unfold Z0p at hP
    obtain ⟨t,g1,b,rfl,g2⟩:=hP
    have HF:Hid (Z04 l p a0 a1 w y (.panicked [{ v:=.iface 61 (.pointer (some ⟨b,0,none⟩)),recovered:=false }]) w3):=Z04.after K2.below ⟨t,g1,b,rfl,g2⟩
    clear g1 g2 R2 K2 HC hB2
    go_wp2_with fail
    exact ⟨rfl,HF.out⟩
   | ok y =>
    obtain ⟨e,k'⟩:=y
    go_enter func151,ntmps151
    go_wp2_with fail
    refine (Z10 R1 hx [mark] (w.heap.size+1) 0 1 (by simp) hT1).mono ?_
    rintro ev w2 ⟨rfl,hb2⟩
    rw [HM.out]
    have R2:=R1.more hb2
    have K2:Keeps p w w2:=K1.trans (Keeps.of hb2 (by have:=Z00 R1.blk;omega))
    have hB2:=(hb2.block _ (Z00 hB1)).trans hB1
    have hs2:=Z00 hB2
    have E2:=E.keeps K2
    have X2:=X.keeps K2
    have C2:=HCC.out w w2 C K2
    have HC:=Z01 (Zdo K caps hE hk1 hl hd w2 (fun b=>w2.heap.size<b) (by omega) (by have:=Z00 R2.blk;omega) (.ok (e,k')) (fun w5 R5 K5 hs5 E5=>(HWW.out hk1 hd w5 R5 E5 (X2.keeps K5) (HCC.out w2 w5 C2 K5)).mono (fun ev w' h=>by
     obtain ⟨c0,c1,c2,c3,c4,h1,h2,h3⟩:=h
     exact ⟨c0,c1,c2,c3,c4,h1,h2.same (fun _ _ _=>rfl) (fun b hb _=>by omega),h3⟩)) R2 E2)
    clear R1 K1 hB1 hT1 hx C C2
    go_wp2_with fail
    refine HC.out.mono ?_
    intro ev w3 hP
    unfold Z0p at hP
    obtain ⟨c0,c1,c2,c3,c4,rfl,hrep,R3,K3,hk3,hk3l⟩:=hP
    obtain ⟨op,z,sx,pa,pn,pc,la,ln,lc,rfl,rfl,rfl,rfl,rfl⟩:=hrep.form
    have hB3:=(K3.block w.heap.size (by omega) (Z00 hB2)).trans hB2
    have hs1:=Z00 hB2
    obtain ⟨t0,t1,t2,t3,t4,tf⟩:=Z05 hB3
    have tf0:=tf 0
    have tf1:=tf 1
    have tf2:=tf 2
    have tf3:=tf 3
    have tf4:=tf 4
    have hp3:=Z00 R3.blk
    have H3:=Z01 (And.intro hrep (And.intro R3 (And.intro (K2.trans K3) hB3)))
    have hw1:=K2.below.size
    clear R3 K3 hrep hB3 tf HC R2 K2 hB2
    go_wp2_with fail
    obtain ⟨hrep,R3,K3,hB3⟩:=H3.out
    obtain ⟨f1,f2,f3,f4⟩:=Z65 hrep R3 K3 hB3 (by omega) (by omega) (by omega) (by omega) (.string op) (.int .i64 z) (.string sx) (.slice pa pn pc) (.slice la ln lc)
    refine bodyPost_ret (Z0b _ 8 rfl _ _ w.heap.size _ _ _ _ _ rfl f4) rfl ?_
    exact ⟨_,_,_,_,_,rfl,f1.same (fun _ _ _=>rfl) (fun b h _=>by omega),f2,f3,by omega,hk3l⟩
end Go.Proofs.YtflcohidmemfpaaGreatDoor
namespace Go.Proofs.YtflcohidmemfpaaGreatDoor
open Go.Proofs.Tryz
open Go.RowKit

theorem Zne {S:Nat→Prop}{w:World}{op s:ByteArray}{z:Int}{pl:List ByteArray}{el:List (DataW Unit)}{pa la:Option Addr}{pc lc:Nat} (hp:0<pl.length → ∃ b o,pa=some ⟨b,o,none⟩∧S b∧TS w b o pl)
  (hl:0<el.length → ∃ b o,la=some ⟨b,o,none⟩∧S b ∧ ∀ (i:Nat) (e:DataW Unit),el[i]?=some e → ∃ c0 c1 c2 c3 c4,w.cell? ⟨b,o+i*5,none⟩=some c0∧w.cell? ⟨b,o+i*5+1,none⟩=some c1∧w.cell? ⟨b,o+i*5+2,none⟩=some c2∧w.cell? ⟨b,o+i*5+3,none⟩=some c3∧w.cell? ⟨b,o+i*5+4,none⟩=some c4∧Z2l S w [c0,c1,c2,c3,c4] e) (hix:Zqq S w op la lc el.length) (hc:el.length≤lc:=by first | (simp;done) | omega) :
  Z2l S w [.string op,.int .i64 z,.string s,.slice pa pl.length pc,.slice la el.length lc] (mkE op z s pl el):=by
 by_cases h0:0<el.length
 ·obtain ⟨b,o,e,hb,hx⟩:=hl h0
  obtain ⟨n,hn⟩:=Go.Deep.fuel_lt (n:=el.length) (q:=fun i m => ∀ e,el[i]?=some e → ∃ c0 c1 c2 c3 c4,w.cell? ⟨b,o+i*5,none⟩=some c0∧w.cell? ⟨b,o+i*5+1,none⟩=some c1∧w.cell? ⟨b,o+i*5+2,none⟩=some c2∧w.cell? ⟨b,o+i*5+3,none⟩=some c3∧w.cell? ⟨b,o+i*5+4,none⟩=some c4∧Zwe S w m [c0,c1,c2,c3,c4] e)
   (fun i x y hxy h e he=>by
    obtain ⟨c0,c1,c2,c3,c4,h0,h1,h2,h3,h4,hr⟩:=h e he
    exact ⟨c0,c1,c2,c3,c4,h0,h1,h2,h3,h4,Zia x y _ _ hxy hr⟩)
   (fun i hi=>by
    obtain ⟨c0,c1,c2,c3,c4,h0,h1,h2,h3,h4,n,hr⟩:=hx i el[i] (by simp [hi])
    refine ⟨n,fun e he => ?_⟩
    have:el[i]=e:=by simpa [hi] using he
    subst this
    exact ⟨c0,c1,c2,c3,c4,h0,h1,h2,h3,h4,hr⟩)
  exact ⟨n+1,op,s,z,pl,el,pa,la,pc,lc,rfl,rfl,hp,fun _=>⟨b,o,e,hb,fun i x hi=>hn i (List.getElem?_eq_some_iff.1 hi).1 x hi⟩,hix,hc⟩
 ·exact ⟨1,op,s,z,pl,el,pa,la,pc,lc,rfl,rfl,hp,fun h=>absurd h h0,hix,hc⟩

theorem Zqk {S S':Nat→Prop}{w:World}{op:ByteArray}{c0 c1 c2 c3 c4:Value}{e:DataW Unit} (h:Z2l S w [c0,c1,c2,c3,c4] e) (hS:∀ b,S b→S' b) (hn:S' w.heap.size) :
  Z2l S' (w.alloc (.cells #[c0,c1,c2,c3,c4] 72)) [.string op,.int .i64 0,.string ⟨#[]⟩,.slice none 0 0,.slice (some ⟨w.heap.size,0,none⟩) 1 1] (mkE op 0 ⟨#[]⟩ [] [e]):=by
 have hb:Below w.heap.size w (w.alloc (.cells #[c0,c1,c2,c3,c4] 72)):=(Below.refl _ _).alloc (Nat.le_refl _) _
 have h2:Z2l S' (w.alloc (.cells #[c0,c1,c2,c3,c4] 72)) [c0,c1,c2,c3,c4] e:=h.same (Z06 hb) (fun b hb _=>hS b hb)
 obtain ⟨q0,q1,q2,q3,q4,_⟩:=Z05 (heap_alloc_new w (.cells #[c0,c1,c2,c3,c4] 72))
 refine Zne (pl:=[]) (el:=[e]) (by simp) (fun _=>⟨w.heap.size,0,rfl,hn,fun i x hi => ?_⟩) (fun _ _=>⟨w.heap.size,_,rfl,hn,heap_alloc_new w _,rfl,rfl⟩)
 cases i with
 | zero =>
  simp at hi
  subst hi
  exact ⟨c0,c1,c2,c3,c4,q0,q1,q2,q3,q4,h2⟩
 | succ i=>simp at hi

def pOp (op:ByteArray) (o:Out (DataW Unit)):Out (DataW Unit):=match o with
 | .error x=>.error x
 | .ok (e,k')=>.ok (mkE op 0 ⟨#[]⟩ [] [e],k')
def Capt (p cr ck rank:Nat) (w:World):Prop:=w.cell? ⟨cr,0,none⟩=some (.pointer (some ⟨p,0,none⟩))∧w.cell? ⟨ck,0,none⟩=some (.int .i64 (rank:Int))∧cr≠p∧ck≠p
theorem Capt.keeps {p cr ck rank:Nat} : ∀ w w',Capt p cr ck rank w→Keeps p w w'→Capt p cr ck rank w':=fun _ _ h K=>⟨K.cell h.2.2.1 h.1,K.cell h.2.2.2 h.2.1,h.2.2.1,h.2.2.2⟩

set_option maxHeartbeats 2000000 in
set_option maxRecDepth 100000 in
theorem Zf4 {p g cap:Nat}{rk:Value}{l:List (ByteArray × ByteArray × Nat)}{k bl dp:Nat}{a0 a1:Addr}{o:Out (DataW Unit)} (cr ck rank:Nat) (h:Z0w 141 #[.pointer (some ⟨p,0,none⟩),.int .i64 (rank:Int)] p g cap rk l k bl dp a0 a1 o):∀ w,RD w p g cap rk l k bl dp→TErr p a0 a1 w→RK p rk w→Capt p cr ck rank w→Calls prog 153 #[.pointer (some ⟨cr,0,none⟩),.pointer (some ⟨ck,0,none⟩)] w fun ev w'=>Z0p (fun b=>w.heap.size≤b) p g cap rk l k bl dp a0 a1 w (pOp Zw5 o) ev w':=by
 intro w R E X C
 have hpl:=Z00 R.blk
 have hgl:=R.gl
 have hb0:Below w.heap.size w (w.alloc (.cells #[.string ⟨#[]⟩,.int .i64 0,.string ⟨#[]⟩,.slice none 0 0,.slice none 0 0] 72)):=(Below.refl _ _).alloc (Nat.le_refl _) _
 have K1:Keeps p w (w.alloc (.cells #[.string ⟨#[]⟩,.int .i64 0,.string ⟨#[]⟩,.slice none 0 0,.slice none 0 0] 72)):=Keeps.of hb0 (by omega)
 have R1:=R.more hb0
 have hB1:=heap_alloc_new w (.cells #[.string ⟨#[]⟩,.int .i64 0,.string ⟨#[]⟩,.slice none 0 0,.slice none 0 0] 72)
 have hsz:(w.alloc (.cells #[.string ⟨#[]⟩,.int .i64 0,.string ⟨#[]⟩,.slice none 0 0,.slice none 0 0] 72)).heap.size=w.heap.size+1:=by simp
 have HC:=Z01 (h _ R1 (E.keeps K1) (X.keeps K1))
 obtain ⟨d0,d1,_,_⟩:=C
 have l0:=Z02 d0
 have l1:=Z02 d1
 clear R
 cases o with
 | error y =>
  show Calls _ _ _ _ fun ev w'=>Z0p _ p g cap rk l k bl dp a0 a1 w (.error y) ev w'
  go_enter func153,ntmps153
  go_wp2_with fail
  refine HC.out.mono ?_
  intro ev w3 hP
  unfold Z0p at hP
  obtain ⟨t,g1,b,rfl,g2⟩:=hP
  have HF:Hid (Z04 l p a0 a1 w y (.panicked [{ v:=.iface 61 (.pointer (some ⟨b,0,none⟩)),recovered:=false }]) w3):=Z04.after K1.below ⟨t,g1,b,rfl,g2⟩
  clear g1 g2 R1 K1 HC
  go_wp2_with fail
  exact ⟨rfl,HF.out⟩
 | ok y =>
  obtain ⟨e,k'⟩:=y
  show Calls _ _ _ _ fun ev w'=>Z0p _ p g cap rk l k bl dp a0 a1 w (.ok (mkE Zw5 0 ⟨#[]⟩ [] [e],k')) ev w'
  go_enter func153,ntmps153
  go_wp2_with fail
  refine HC.out.mono ?_
  intro ev w3 hP
  unfold Z0p at hP
  rw [hsz] at hP
  obtain ⟨c0,c1,c2,c3,c4,rfl,hrep,R3,K3,hk3,hk3l⟩:=hP
  obtain ⟨op,z,sx,pa,pn,pc,la,ln,lc,rfl,rfl,rfl,rfl,rfl⟩:=hrep.form
  have hB3:=(K3.block w.heap.size (by omega) (Z00 hB1)).trans hB1
  have hs3:=Z00 hB3
  have hp3:=Z00 R3.blk
  have hba:Below w3.heap.size w3 (w3.alloc (.cells #[.string op,.int .i64 z,.string sx,.slice pa pn pc,.slice la ln lc] 72)):=(Below.refl _ _).alloc (Nat.le_refl _) _
  obtain ⟨t0,t1,t2,t3,t4,tf⟩:=Z05 hB3
  have tf0:=tf 0
  have tf1:=tf 1
  have tf2:=tf 2
  have tf3:=tf 3
  have tf4:=tf 4
  have H4:=Z01 (And.intro hrep (And.intro R3 (And.intro (K1.trans K3) hB3)))
  clear R1 K1 R3 K3 hrep hB1 hB3 tf HC hba
  go_wp2_with fail
  obtain ⟨hrep,R4,K4,hB4⟩:=H4.out
  obtain ⟨f1,f2,f3,f4⟩:=Z65 hrep R4 K4 hB4 (by omega) (by omega) (by omega) (by omega) (.string ⟨#[110,111,116]⟩) (.int .i64 0) (.string ⟨#[]⟩) (.slice none 0 0) (.slice (some ⟨w3.heap.size,0,none⟩) 1 1)
  have hz:=Z7a w3 w.heap.size (.string ⟨#[110,111,116]⟩) (.int .i64 0) (.string ⟨#[]⟩) (.slice none 0 0) (.slice (some ⟨w3.heap.size,0,none⟩) 1 1)
  have hr:=Zqk (op:=Zw5) (S':=fun b=>w.heap.size<b) f1 (fun b hb=>by omega) (by omega)
  rw [hz] at hr
  have hbb:Below (set5 w3 w.heap.size (.string ⟨#[110,111,116]⟩) (.int .i64 0) (.string ⟨#[]⟩) (.slice none 0 0) (.slice (some ⟨w3.heap.size,0,none⟩) 1 1)).heap.size (set5 w3 w.heap.size (.string ⟨#[110,111,116]⟩) (.int .i64 0) (.string ⟨#[]⟩) (.slice none 0 0) (.slice (some ⟨w3.heap.size,0,none⟩) 1 1)) ((set5 w3 w.heap.size (.string ⟨#[110,111,116]⟩) (.int .i64 0) (.string ⟨#[]⟩) (.slice none 0 0) (.slice (some ⟨w3.heap.size,0,none⟩) 1 1)).alloc (.cells #[.string op,.int .i64 z,.string sx,.slice pa pn pc,.slice la ln lc] 72)):=(Below.refl _ _).alloc (Nat.le_refl _) _
  refine bodyPost_ret (Z0b _ 2 rfl _ _ w.heap.size _ _ _ _ _ rfl ((hbb.block _ (Z00 f4)).trans f4)) rfl ?_
  exact ⟨_,_,_,_,_,rfl,hr.same (fun _ _ _=>rfl) (fun b h _=>by omega),f2.more hbb,f3.trans (Keeps.of hbb (by have:=Z00 f2.blk;omega)),by omega,hk3l⟩
set_option maxHeartbeats 2000000 in
set_option maxRecDepth 100000 in
theorem Zey {p g cap:Nat}{rk:Value}{l:List (ByteArray × ByteArray × Nat)}{k bl dp:Nat}{a0 a1:Addr}{o:Out (DataW Unit)} (cr ck rank:Nat) (h:Z0w 141 #[.pointer (some ⟨p,0,none⟩),.int .i64 (rank:Int)] p g cap rk l k bl dp a0 a1 o):∀ w,RD w p g cap rk l k bl dp→TErr p a0 a1 w→RK p rk w→Capt p cr ck rank w→Calls prog 154 #[.pointer (some ⟨cr,0,none⟩),.pointer (some ⟨ck,0,none⟩)] w fun ev w'=>Z0p (fun b=>w.heap.size≤b) p g cap rk l k bl dp a0 a1 w (pOp kNeg o) ev w':=by
 intro w R E X C
 have hpl:=Z00 R.blk
 have hgl:=R.gl
 have hb0:Below w.heap.size w (w.alloc (.cells #[.string ⟨#[]⟩,.int .i64 0,.string ⟨#[]⟩,.slice none 0 0,.slice none 0 0] 72)):=(Below.refl _ _).alloc (Nat.le_refl _) _
 have K1:Keeps p w (w.alloc (.cells #[.string ⟨#[]⟩,.int .i64 0,.string ⟨#[]⟩,.slice none 0 0,.slice none 0 0] 72)):=Keeps.of hb0 (by omega)
 have R1:=R.more hb0
 have hB1:=heap_alloc_new w (.cells #[.string ⟨#[]⟩,.int .i64 0,.string ⟨#[]⟩,.slice none 0 0,.slice none 0 0] 72)
 have hsz:(w.alloc (.cells #[.string ⟨#[]⟩,.int .i64 0,.string ⟨#[]⟩,.slice none 0 0,.slice none 0 0] 72)).heap.size=w.heap.size+1:=by simp
 have HC:=Z01 (h _ R1 (E.keeps K1) (X.keeps K1))
 obtain ⟨d0,d1,_,_⟩:=C
 have l0:=Z02 d0
 have l1:=Z02 d1
 clear R
 cases o with
 | error y =>
  show Calls _ _ _ _ fun ev w'=>Z0p _ p g cap rk l k bl dp a0 a1 w (.error y) ev w'
  go_enter func154,ntmps154
  go_wp2_with fail
  refine HC.out.mono ?_
  intro ev w3 hP
  unfold Z0p at hP
  obtain ⟨t,g1,b,rfl,g2⟩:=hP
  have HF:Hid (Z04 l p a0 a1 w y (.panicked [{ v:=.iface 61 (.pointer (some ⟨b,0,none⟩)),recovered:=false }]) w3):=Z04.after K1.below ⟨t,g1,b,rfl,g2⟩
  clear g1 g2 R1 K1 HC
  go_wp2_with fail
  exact ⟨rfl,HF.out⟩
 | ok y =>
  obtain ⟨e,k'⟩:=y
  show Calls _ _ _ _ fun ev w'=>Z0p _ p g cap rk l k bl dp a0 a1 w (.ok (mkE kNeg 0 ⟨#[]⟩ [] [e],k')) ev w'
  go_enter func154,ntmps154
  go_wp2_with fail
  refine HC.out.mono ?_
  intro ev w3 hP
  unfold Z0p at hP
  rw [hsz] at hP
  obtain ⟨c0,c1,c2,c3,c4,rfl,hrep,R3,K3,hk3,hk3l⟩:=hP
  obtain ⟨op,z,sx,pa,pn,pc,la,ln,lc,rfl,rfl,rfl,rfl,rfl⟩:=hrep.form
  have hB3:=(K3.block w.heap.size (by omega) (Z00 hB1)).trans hB1
  have hs3:=Z00 hB3
  have hp3:=Z00 R3.blk
  have hba:Below w3.heap.size w3 (w3.alloc (.cells #[.string op,.int .i64 z,.string sx,.slice pa pn pc,.slice la ln lc] 72)):=(Below.refl _ _).alloc (Nat.le_refl _) _
  obtain ⟨t0,t1,t2,t3,t4,tf⟩:=Z05 hB3
  have tf0:=tf 0
  have tf1:=tf 1
  have tf2:=tf 2
  have tf3:=tf 3
  have tf4:=tf 4
  have H4:=Z01 (And.intro hrep (And.intro R3 (And.intro (K1.trans K3) hB3)))
  clear R1 K1 R3 K3 hrep hB1 hB3 tf HC hba
  go_wp2_with fail
  obtain ⟨hrep,R4,K4,hB4⟩:=H4.out
  obtain ⟨f1,f2,f3,f4⟩:=Z65 hrep R4 K4 hB4 (by omega) (by omega) (by omega) (by omega) (.string ⟨#[110,101,103]⟩) (.int .i64 0) (.string ⟨#[]⟩) (.slice none 0 0) (.slice (some ⟨w3.heap.size,0,none⟩) 1 1)
  have hz:=Z7a w3 w.heap.size (.string ⟨#[110,101,103]⟩) (.int .i64 0) (.string ⟨#[]⟩) (.slice none 0 0) (.slice (some ⟨w3.heap.size,0,none⟩) 1 1)
  have hr:=Zqk (op:=kNeg) (S':=fun b=>w.heap.size<b) f1 (fun b hb=>by omega) (by omega)
  rw [hz] at hr
  have hbb:Below (set5 w3 w.heap.size (.string ⟨#[110,101,103]⟩) (.int .i64 0) (.string ⟨#[]⟩) (.slice none 0 0) (.slice (some ⟨w3.heap.size,0,none⟩) 1 1)).heap.size (set5 w3 w.heap.size (.string ⟨#[110,101,103]⟩) (.int .i64 0) (.string ⟨#[]⟩) (.slice none 0 0) (.slice (some ⟨w3.heap.size,0,none⟩) 1 1)) ((set5 w3 w.heap.size (.string ⟨#[110,101,103]⟩) (.int .i64 0) (.string ⟨#[]⟩) (.slice none 0 0) (.slice (some ⟨w3.heap.size,0,none⟩) 1 1)).alloc (.cells #[.string op,.int .i64 z,.string sx,.slice pa pn pc,.slice la ln lc] 72)):=(Below.refl _ _).alloc (Nat.le_refl _) _
  refine bodyPost_ret (Z0b _ 2 rfl _ _ w.heap.size _ _ _ _ _ rfl ((hbb.block _ (Z00 f4)).trans f4)) rfl ?_
  exact ⟨_,_,_,_,_,rfl,hr.same (fun _ _ _=>rfl) (fun b h _=>by omega),f2.more hbb,f3.trans (Keeps.of hbb (by have:=Z00 f2.blk;omega)),by omega,hk3l⟩
end Go.Proofs.YtflcohidmemfpaaGreatDoor
namespace Go.Proofs.YtflcohidmemfpaaGreatDoor
open Go.Proofs.Tryz
open Go.RowKit

set_option maxHeartbeats 1000000 in
theorem Z6t {w:World}{p g cap:Nat}{rk:Value}{l:List (ByteArray × ByteArray × Nat)}{k bl dp:Nat}{a0 a1:Addr} (R:RD w p g cap rk l k bl dp) (E:TErr p a0 a1 w) {x:ByteArray × ByteArray × Nat} (hx:l[k]?=some x) (kd:ByteArray) (he:(x.1.toList == kd.toList)=false) :
  Calls prog 84 #[.pointer (some ⟨p,0,none⟩),.string kd] w fun ev w'=>Z04 l p a0 a1 w (k,false) ev w':=by
 have hpl:=Z00 R.blk
 have hb0:Below w.heap.size w (w.alloc (.cells #[.string ⟨#[]⟩,.string ⟨#[]⟩,.int .i64 0] 121)):=(Below.refl _ _).alloc (Nat.le_refl _) _
 have R0:=R.more hb0
 obtain ⟨ka,ta,at_⟩:=x
 have hne:(ka.toList != kd.toList)=true:=by simp only at he;simp [bne,he]
 have F0:=Z5s (.string ka) (.string ta) (.int .i64 (at_:Int))
 go_enter func84,ntmps84
 go_wp2_with fail
 refine (Z1k R0 hx).mono ?_
 rintro ev w1 ⟨rfl,hb1⟩
 have R1:=R0.more hb1
 have hb1w:=hb0.trans (hb1.mono hb0.size)
 have E1:=E.below (hb1w.mono (by omega))
 have hg0:=E1.g0
 clear R R0
 go_wp2_with fail
 refine (Z4o R1 hx a0).mono ?_
 rintro ev w2 ⟨b,rfl,hbw,d0,d1⟩
 have HF:Hid (Z04 l p a0 a1 w (k,false) (.panicked [{ v:=.iface 61 (.pointer (some ⟨b,0,none⟩)),recovered:=false }]) w2):=⟨_,hx,b,rfl,(hb1w.mono (by omega)).trans hbw,d0,d1⟩
 clear R1 hbw d0 d1 hx
 go_wp2_with fail
 exact ⟨rfl,HF.out⟩

theorem Zi3:(⟨#[110,97,109,101]⟩:ByteArray).toList = [110,97,109,101]:=by kernel_rfl
def Z19 (x:ByteArray × ByteArray × Nat):Bool:=x.1.toList == [110,97,109,101]
theorem Zxy {w:World}{p g cap:Nat}{rk:Value}{l:List (ByteArray × ByteArray × Nat)}{k bl dp:Nat} (R:RD w p g cap rk l k bl dp) {x:ByteArray × ByteArray × Nat} (hx:l[k]?=some x) (hl:l.length≤100000) (he:Z19 x=true) :
  Calls prog 115 #[.pointer (some ⟨p,0,none⟩)] w fun ev w'=>ev = .returned (.string x.2.1)∧RD w' p g cap rk l (k+1) bl dp∧Keeps p w w':=by
 have F1:=Z4v (.string x.1) (.string x.2.1) (.int .i64 (x.2.2:Int))
 go_enter func115,ntmps115
 go_wp2_with fail
 refine (Z9c R hx hl ⟨#[110,97,109,101]⟩ (by rw [Zi3];exact he)).mono ?_
 rintro ev w1 ⟨rfl,R1,K1⟩
 clear R
 go_wp2_with fail
 go_ret
 exact ⟨rfl,R1,K1⟩
theorem Zqi {w:World}{p g cap:Nat}{rk:Value}{l:List (ByteArray × ByteArray × Nat)}{k bl dp:Nat}{a0 a1:Addr} (R:RD w p g cap rk l k bl dp) (E:TErr p a0 a1 w) {x:ByteArray × ByteArray × Nat} (hx:l[k]?=some x) (he:Z19 x=false) :
  Calls prog 115 #[.pointer (some ⟨p,0,none⟩)] w fun ev w'=>Z04 l p a0 a1 w (k,false) ev w':=by
 go_enter func115,ntmps115
 go_wp2_with fail
 refine (Z6t R E hx ⟨#[110,97,109,101]⟩ (by rw [Zi3];exact he)).mono ?_
 rintro ev w1 ⟨t,g1,b,rfl,g2⟩
 have HF:Hid (Z04 l p a0 a1 w (k,false) (.panicked [{ v:=.iface 61 (.pointer (some ⟨b,0,none⟩)),recovered:=false }]) w1):=⟨t,g1,b,rfl,g2⟩
 clear R E g1 g2
 go_wp2_with fail
 exact ⟨rfl,HF.out⟩

theorem Zbo:(prog.info? 9).map (fun i=>(i.zero,i.size,i.bytes))=some (some (.string ⟨#[]⟩),1,16):=by kernel_rfl

theorem Z66 {w:World}{p g cap:Nat}{rk:Value}{l:List (ByteArray × ByteArray × Nat)}{k bl dp:Nat}{a0 a1:Addr} (R:RD w p g cap rk l k bl dp) (E:TErr p a0 a1 w) {x:ByteArray × ByteArray × Nat} (hx:l[k]?=some x) (hl:l.length≤100000) :
  Calls prog 115 #[.pointer (some ⟨p,0,none⟩)] w fun ev w'=>(Z19 x=true∧ev = .returned (.string x.2.1)∧RD w' p g cap rk l (k+1) bl dp∧Keeps p w w')∨(Z19 x=false∧Z04 l p a0 a1 w (k,false) ev w'):=by
 cases hm:Z19 x
 ·exact (Zqi R E hx hm).mono fun _ _ h=>.inr ⟨rfl,h⟩
 ·exact (Zxy R hx hl hm).mono fun _ _ h=>.inl ⟨rfl,h⟩

structure LamC (p g ce cr:Nat) (w0:World) (names:List ByteArray) (w:World):Prop where
 e:∃ va,w.heap[ce]?=some (.cells #[.string kLambda,.int .i64 0,.string ⟨#[]⟩,va,.slice none 0 0] 72)∧w.ownsRow w0.heap.size 9 1 va names.length (names.map Value.string)
 r:w.cell? ⟨cr,0,none⟩=some (.pointer (some ⟨p,0,none⟩))
 pe:p<ce
 pr:p<cr
 nec:ce≠cr
 neg:ce≠g
 le:ce<w0.heap.size
 lr:cr<w0.heap.size
 lg:g<w0.heap.size
 sz:w0.heap.size≤w.heap.size
 keep:∀ k,k≠p→k≠ce→k<w0.heap.size→w.heap[k]?=w0.heap[k]?
theorem LamC.keeps {p g ce cr:Nat}{w0:World} (s:List ByteArray) (w w':World) (h:LamC p g ce cr w0 s w) (K:Keeps p w w'):LamC p g ce cr w0 s w':=by
 have hpe:=h.pe
 have hpr:=h.pr
 have hle:=h.le
 obtain ⟨va,h1,h2⟩:=h.e
 refine ⟨⟨va,(K.block ce (by omega) (Z00 h1)).trans h1,Z0j h2 (fun k hk=>K.block k (by have:=Z20 h2 k hk;omega) ?_)⟩,K.cell (by omega) h.r,h.pe,h.pr,h.nec,h.neg,h.le,h.lr,h.lg,Nat.le_trans h.sz K.below.size,fun k h3 h4 h5=>(K.block k h3 (Nat.lt_of_lt_of_le h5 h.sz)).trans (h.keep k h3 h4 h5)⟩
 rcases h2.2 with ⟨e,_⟩ | ⟨g,c,cur,e,_,hg,_⟩
 ·rw [e] at hk
  simp [Value.ownBlock] at hk
 ·rw [e] at hk
  simp [Value.ownBlock] at hk
  subst hk
  exact Z00 hg

def Z2k (l:List (ByteArray × ByteArray × Nat)) (s:List ByteArray) (k:Nat):Out (List ByteArray):=match l[k]? with
 | some x=>bif Z19 x then .ok (s ++ [x.2.1],k+1) else .error (k,false)
 | none=>.error (k,false)

theorem Znx {w:World}{b:Nat}{u0 u1 u2 u3 u4:Value} (h:w.heap[b]?=some (.cells #[u0,u1,u2,u3,u4] 72)) (v:Value):(w.setCell ⟨b,3,none⟩ v).heap[b]?=some (.cells #[u0,u1,u2,v,u4] 72):=by
 rw [Z0a h]
 rfl
theorem Zq5 {p g cap:Nat}{rk:Value}{l:List (ByteArray × ByteArray × Nat)}{bl dp ce cr:Nat}{w0 w w1 w2:World}{s:List ByteArray}{k:Nat}{x:ByteArray}{va:Value}{gn capn:Nat}
  (C:LamC p g ce cr w0 s w) (h1:w.heap[ce]?=some (.cells #[.string kLambda,.int .i64 0,.string ⟨#[]⟩,va,.slice none 0 0] 72)) (h2:w.ownsRow w0.heap.size 9 1 va s.length (s.map Value.string))
  (R1:RD w1 p g cap rk l k bl dp) (K1:Keeps p w w1)
  (hown:w2.ownsRow w0.heap.size 9 1 (.slice (some ⟨gn,0,none⟩) (s.length+1) capn) (s.length+1) (s.map Value.string ++ [.string x]))
  (hgrow:(w1.alloc (.cells #[.string x] 9)).grownBy w2 va.ownBlock) :
  RD (w2.setCell ⟨ce,3,none⟩ (.slice (some ⟨gn,0,none⟩) (s.length+1) capn)) p g cap rk l k bl dp∧LamC p g ce cr w0 (s ++ [x]) (w2.setCell ⟨ce,3,none⟩ (.slice (some ⟨gn,0,none⟩) (s.length+1) capn))∧Below p w (w2.setCell ⟨ce,3,none⟩ (.slice (some ⟨gn,0,none⟩) (s.length+1) capn)):=by
 have hpe:=C.pe
 have hpr:=C.pr
 have hle:=C.le
 have hlr:=C.lr
 have hlg:=C.lg
 have hsz:=C.sz
 have hs1:=K1.below.size
 have hs2:w1.heap.size+1≤w2.heap.size:=by have:=hgrow.size;simpa using this
 have hold:∀ j,j<w0.heap.size→w2.heap[j]?=w1.heap[j]?:=fun j hj =>
  (hgrow.block j (by simp;omega) (fun e=>by have h3:=Z20 h2 j e.symm;omega)).trans (Below.heap_alloc _ _ _ (by omega))
 have hfar:∀ j,j<w0.heap.size→j≠ce→(w2.setCell ⟨ce,3,none⟩ (.slice (some ⟨gn,0,none⟩) (s.length+1) capn)).heap[j]?=w1.heap[j]?:=fun j hj hne=>(Z07 _ _ _ _ _ hne).trans (hold j hj)
 have hB:w2.heap[ce]?=some (.cells #[.string kLambda,.int .i64 0,.string ⟨#[]⟩,va,.slice none 0 0] 72):=(hold ce hle).trans ((K1.block ce (by omega) (Z00 h1)).trans h1)
 have hgn:w0.heap.size≤gn:=Z20 hown gn rfl
 refine ⟨⟨(hfar p (by omega) (by omega)).trans R1.blk,fun j v hj=>(World.cell?_of_block (hfar g hlg (fun e=>C.neg e.symm))).trans (R1.toks j v hj),R1.gp,by rw [Z1x];have:=R1.gl;omega⟩,⟨⟨.slice (some ⟨gn,0,none⟩) (s.length+1) capn,?_,?_⟩,(World.cell?_of_block (hfar cr hlr (fun e=>C.nec e.symm))).trans (K1.cell (by omega) C.r),C.pe,C.pr,C.nec,C.neg,C.le,C.lr,C.lg,by rw [Z1x];omega,fun j h3 h4 h5=>(hfar j h5 h4).trans ((K1.block j h3 (by omega)).trans (C.keep j h3 h4 h5))⟩,?_⟩
 ·exact Znx hB _
 ·rw [List.map_append,List.length_append]
  exact Z0j hown (fun j hj=>Z07 _ _ _ _ _ (by have:=Z20 hown j hj;omega))
 ·exact (Below.grown (K1.below.alloc (by have:=Z00 R1.blk;omega) _) hgrow (by simp;have:=Z00 R1.blk;omega) (fun j hj=>by have:=Z20 h2 j hj;omega)).setCell (by simp only;omega) _

theorem Zpb {p g ce cr:Nat}{w0 w w1:World}{s:List ByteArray}{va:Value} (C:LamC p g ce cr w0 s w) (h1:w.heap[ce]?=some (.cells #[.string kLambda,.int .i64 0,.string ⟨#[]⟩,va,.slice none 0 0] 72)) (K1:Keeps p w w1) :
  w1.cell? ⟨ce,3,none⟩=some va∧ce<w1.heap.size∧w1.frozen? ⟨ce,3,none⟩=false:=by
 have hpe:=C.pe
 have h1':=(K1.block ce (by omega) (Z00 h1)).trans h1
 obtain ⟨_,_,_,q3,_,qf⟩:=Z05 h1'
 exact ⟨q3,Z00 h1',qf 3⟩
theorem Zxv {p g ce cr:Nat}{w0 w w1 w2:World}{s:List ByteArray}{va:Value}{B:Obj} (C:LamC p g ce cr w0 s w) (h1:w.heap[ce]?=some (.cells #[.string kLambda,.int .i64 0,.string ⟨#[]⟩,va,.slice none 0 0] 72)) (h2:w.ownsRow w0.heap.size 9 1 va s.length (s.map Value.string)) (K1:Keeps p w w1)
  (hgrow:(w1.alloc B).grownBy w2 va.ownBlock):w2.cell? ⟨ce,3,none⟩=some va∧w2.frozen? ⟨ce,3,none⟩=false:=by
 obtain ⟨q1,q2,q3⟩:=Zpb C h1 K1
 have hne:some ce≠va.ownBlock:=fun e=>by have h3:=Z20 h2 ce e.symm;have h4:=C.le;omega
 exact ⟨(hgrow.cell_far ⟨ce,3,none⟩ (by simp;omega) hne).trans ((World.cell?_alloc_past _ _ _ q2).trans q1),(hgrow.frozen_far ⟨ce,3,none⟩ (by simp;omega) hne).trans ((World.frozen?_alloc_past _ _ _ q2).trans q3)⟩

theorem Zso {p g ce cr:Nat}{w0 w w1:World}{s:List ByteArray}{va:Value}{B:Obj} (h2:w.ownsRow w0.heap.size 9 1 va s.length (s.map Value.string)) (C:LamC p g ce cr w0 s w) (K:Keeps p w w1):(w1.alloc B).ownsRow w0.heap.size 9 1 va s.length (s.map Value.string):=by
 refine World.ownsRow.alloc (Z0j h2 (fun k hk=>K.block k (by have:=Z20 h2 k hk;have:=C.le;have:=C.pe;omega) ?_)) _
 rcases h2.2 with ⟨e,_⟩ | ⟨g,c,cur,e,_,hg,_⟩
 ·rw [e] at hk
  simp [Value.ownBlock] at hk
 ·rw [e] at hk
  simp [Value.ownBlock] at hk
  subst hk
  exact Z00 hg
theorem Zjv (w:World) (v:Value) (t:TypeId):∀ j u,[v][j]?=some u→(w.alloc (.cells #[v] t)).cell? ((⟨w.heap.size,0,none⟩:Addr).add j)=some u:=
 World.news_of_block (cs:=#[v]) (t:=t) (heap_alloc_new w _)
theorem Zfr (s:ByteArray):∀ u ∈ [Value.string s],u.oneCell'=true:=by
 intro u hu
 simp at hu
 subst hu
 rfl
set_option maxHeartbeats 2000000 in
set_option maxRecDepth 100000 in
theorem Zj9 {p g cap:Nat}{rk:Value}{l:List (ByteArray × ByteArray × Nat)}{bl dp:Nat}{a0 a1:Addr} (ce cr:Nat) (w0:World) (hl:l.length≤100000) (hen:∀ (k:Nat) (x:ByteArray × ByteArray × Nat),l[k]?=some x→Z19 x=true→k+1<l.length) (s:List ByteArray) (k:Nat) (hk:k<l.length) :
  Zjb 171 #[.pointer (some ⟨ce,0,none⟩),.pointer (some ⟨cr,0,none⟩)] p g cap rk l bl dp a0 a1 (fun s k w=>LamC p g ce cr w0 s w∧s.length≤k) s k (Z2k l s k):=by
 rintro w R ⟨C,hsk⟩ E
 have hsl:s.length≤100000:=by omega
 obtain ⟨x,hx⟩:∃ x,l[k]?=some x:=⟨l[k],by simp [hk]⟩
 unfold Z2k
 rw [hx]
 simp only
 refine Calls.mono (R:=fun ev w'=>(Z19 x=true∧ev = .returned (.tuple #[])∧RD w' p g cap rk l (k+1) bl dp∧LamC p g ce cr w0 (s ++ [x.2.1]) w'∧Below p w w')∨(Z19 x=false∧Z04 l p a0 a1 w (k,false) ev w')) ?_ ?_
 case refine_2 =>
  rintro ev w' (⟨hm,rfl,q1,q2,q3⟩ | ⟨hm,q⟩)
  ·rw [hm]
   exact ⟨rfl,q1,⟨q2,by simp;omega⟩,q3,Nat.lt_succ_self _,hen k x hx hm⟩
  ·rw [hm]
   exact q
 obtain ⟨va,h1,h2⟩:=C.e
 obtain ⟨_,_,_,q3,_,qf⟩:=Z05 h1
 have qf3:=qf 3
 have hr:=C.r
 have hlr:=Z02 hr
 have hle:=Z00 h1
 have hpe:=C.pe
 have hpr:=C.pr
 have hbd:Below w.heap.size w w.drew:=(Below.refl _ _).drew
 have hpl:=Z00 R.blk
 have hbp:Below p w w.drew:=hbd.mono (by omega)
 have HN:=Z01 (Z66 (R.more hbd) (E.below hbp) hx hl)
 have HC:=Z01 C
 have HO:=Z01 h2
 have HB:=Z01 h1
 obtain ⟨i0,hi,hz0,hz1,hz2⟩:=info_parts Zbo
 have Hi:=Z01 hi
 have hsz:=C.sz
 clear R E h2 h1 hx C hen qf hi
 go_enter func171,ntmps171
 go_wp2_with fail
 have q3d:w.drew.cell? ⟨ce,3,none⟩=some va:=q3
 have hKd:Keeps p w w.drew:=Keeps.of hbd (by omega)
 go_region_law (first
  | (refine step_append_lies _ (by rfl) _ _ _ (by rfl) w0.heap.size 9 i0 _ 1 16 underlying32 Hi.out hz0 hz1 hz2 rfl (by decide) va s.length (s.map Value.string) (by rfl) (Zso HO.out HC.out (hKd.trans HK1.out)) _ 1 1 [.string x.2.1] (by rfl) rfl (Zjv _ _ _) (Zfr _) (by decide) (by unfold maxLen;omega) (by omega) (by have:=(hKd.trans HK1.out).below.size;simp;omega) _ rfl ?_;intro gn capn w2 hown2 hgrow hat hlt;obtain ⟨u4,u5⟩:=Zxv HC.out HB.out HO.out (hKd.trans HK1.out) hgrow;have HG:=Z01 hgrow;have HW:=Z01 hown2;clear hgrow hown2 hat)
  | (go_simp;go_at_call 115;refine HN.out.mono ?_;rintro ev w1 (⟨hm,rfl,R1,K1⟩ | ⟨hm,t,g1,b,rfl,g2⟩);rotate_left;exact ⟨rfl,Or.inr ⟨hm,Z04.after hbp ⟨t,g1,b,rfl,g2⟩⟩⟩;obtain ⟨u1,u2,u3⟩:=Zpb HC.out HB.out (hKd.trans K1);have HR1:=Z01 R1;have HK1:=Z01 K1;clear R1 K1))
 all_goals (go_end0;exact Or.inl ⟨hm,rfl,Zq5 HC.out HB.out HO.out HR1.out (hKd.trans HK1.out) HW.out HG.out⟩)
end Go.Proofs.YtflcohidmemfpaaGreatDoor
namespace Go.Proofs.YtflcohidmemfpaaGreatDoor
open Go.Proofs.Tryz
open Go.RowKit

def Z89 (S:Nat→Prop) (w:World) (la:Option Addr) (el:List (DataW Unit)):Prop:=
 0<el.length → ∃ b o,la=some ⟨b,o,none⟩∧S b ∧ ∀ (i:Nat) (e:DataW Unit),el[i]?=some e → ∃ c0 c1 c2 c3 c4,w.cell? ⟨b,o+i*5,none⟩=some c0∧w.cell? ⟨b,o+i*5+1,none⟩=some c1∧w.cell? ⟨b,o+i*5+2,none⟩=some c2∧w.cell? ⟨b,o+i*5+3,none⟩=some c3∧w.cell? ⟨b,o+i*5+4,none⟩=some c4∧Z2l S w [c0,c1,c2,c3,c4] e
theorem Z89.same {S S':Nat→Prop}{w w':World}{la:Option Addr}{el:List (DataW Unit)} (h:Z89 S w la el) (K:Z5i S w w') (hS:∀ b,S b→b<w.heap.size→S' b):Z89 S' w' la el:=by
 intro h0
 obtain ⟨b,o,e,hb,hx⟩:=h h0
 have hbl:b<w.heap.size:=by
  obtain ⟨c0,_,_,_,_,h1,_⟩:=hx 0 el[0] (by simp)
  exact Z02 h1
 refine ⟨b,o,e,hS b hb hbl,fun i x hi => ?_⟩
 obtain ⟨c0,c1,c2,c3,c4,h0,h1,h2,h3,h4,hr⟩:=hx i x hi
 exact ⟨c0,c1,c2,c3,c4,K.cell hb h0,K.cell hb h1,K.cell hb h2,K.cell hb h3,K.cell hb h4,hr.same K hS⟩
theorem Z6k {S S':Nat→Prop}{w:World}{c0 c1 c2 c3 c4:Value}{e:DataW Unit} (h:Z2l S w [c0,c1,c2,c3,c4] e) (hS:∀ b,S b→S' b) (hn:S' w.heap.size) :
  Z89 S' (w.alloc (.cells #[c0,c1,c2,c3,c4] 72)) (some ⟨w.heap.size,0,none⟩) [e]:=by
 have hb:Below w.heap.size w (w.alloc (.cells #[c0,c1,c2,c3,c4] 72)):=(Below.refl _ _).alloc (Nat.le_refl _) _
 have h2:Z2l S' (w.alloc (.cells #[c0,c1,c2,c3,c4] 72)) [c0,c1,c2,c3,c4] e:=h.same (Z06 hb) (fun b hb _=>hS b hb)
 obtain ⟨q0,q1,q2,q3,q4,_⟩:=Z05 (heap_alloc_new w (.cells #[c0,c1,c2,c3,c4] 72))
 refine fun _=>⟨w.heap.size,0,rfl,hn,fun i x hi => ?_⟩
 cases i with
 | zero =>
  simp at hi
  subst hi
  exact ⟨c0,c1,c2,c3,c4,q0,q1,q2,q3,q4,h2⟩
 | succ i=>simp at hi

def Z9t (S:Nat→Prop) (p g cap:Nat) (rk:Value) (l:List (ByteArray × ByteArray × Nat)) (k bl dp:Nat) (a0 a1:Addr) (w:World) (o:Out (List (DataW Unit))) (ev:Ending) (w':World):Prop:=match o with
 | .ok (el,k') => ∃ la lc,ev = .returned (.slice la el.length lc)∧Z89 S w' la el∧RD w' p g cap rk l k' bl dp∧Keeps p w w'∧k<k'∧k'<l.length∧el.length≤lc
 | .error x=>Z04 l p a0 a1 w x ev w'
def Z4r (f:FuncId) (args:Array Value) (p g cap:Nat) (rk:Value) (l:List (ByteArray × ByteArray × Nat)) (k bl dp:Nat) (a0 a1:Addr) (o:Out (List (DataW Unit))):Prop:=
 ∀ w,RD w p g cap rk l k bl dp→TErr p a0 a1 w→RK p rk w→Calls prog f args w fun ev w'=>Z9t (fun b=>w.heap.size≤b) p g cap rk l k bl dp a0 a1 w o ev w'

def Zjk (o:Out (DataW Unit)):Out (List (DataW Unit)):=match o with
 | .ok (e,k')=>.ok ([e],k')
 | .error x=>.error x

set_option maxHeartbeats 2000000 in
set_option maxRecDepth 100000 in
theorem Zf5 {p g cap:Nat}{rk:Value}{l:List (ByteArray × ByteArray × Nat)}{k bl dp:Nat}{a0 a1:Addr}{o:Out (DataW Unit)} (h:Z0w 112 #[.pointer (some ⟨p,0,none⟩)] p g cap rk l k bl dp a0 a1 o):Z4r 78 #[.pointer (some ⟨p,0,none⟩)] p g cap rk l k bl dp a0 a1 (Zjk o):=by
 intro w R E X
 have HC:=Z01 (h _ R E X)
 clear R
 go_enter func78,ntmps78
 go_wp2_with fail
 refine HC.out.mono ?_
 intro ev w3 hP
 unfold Z0p at hP
 cases o with
 | error y =>
  obtain ⟨t,g1,b,rfl,g2⟩:=hP
  have HF:Hid (Z04 l p a0 a1 w y (.panicked [{ v:=.iface 61 (.pointer (some ⟨b,0,none⟩)),recovered:=false }]) w3):=⟨t,g1,b,rfl,g2⟩
  clear g1 g2 HC
  go_wp2_with fail
  exact ⟨rfl,HF.out⟩
 | ok y =>
  obtain ⟨e,k'⟩:=y
  obtain ⟨c0,c1,c2,c3,c4,rfl,hrep,R3,K3,hk3,hk3l⟩:=hP
  obtain ⟨op,z,sx,pa,pn,pc,la,ln,lc,rfl,rfl,rfl,rfl,rfl⟩:=hrep.form
  have hba:Below w3.heap.size w3 (w3.alloc (.cells #[.string op,.int .i64 z,.string sx,.slice pa pn pc,.slice la ln lc] 72)):=(Below.refl _ _).alloc (Nat.le_refl _) _
  have HR:=Z01 (And.intro hrep (And.intro R3 (And.intro K3 hba)))
  have hsz:=K3.below.size
  have hp3:=Z00 R3.blk
  clear hrep R3 K3 hba HC
  go_wp2_with fail
  go_ret
  obtain ⟨hrep,R3,K3,hba⟩:=HR.out
  exact ⟨_,_,rfl,Z6k hrep (fun b hb=>hb) hsz,R3.more hba,K3.trans (Keeps.of hba (by omega)),hk3,hk3l,Nat.le_refl _⟩
end Go.Proofs.YtflcohidmemfpaaGreatDoor
namespace Go.Proofs.YtflcohidmemfpaaGreatDoor
open Go.Proofs.Tryz
open Go.RowKit

def Z4a:ByteArray:=⟨#[58]⟩
def Z3f (l:List (ByteArray × ByteArray × Nat)) (one:Nat→Out (List (DataW Unit))) (k:Nat):Out (DataW Unit):=match Z1g l (Z2k l) Z4a l.length [] k with
 | .error x=>.error x
 | .ok (names,k1)=>match one k1 with
  | .error x=>.error x
  | .ok (el,k2)=>.ok (mkE kLambda 0 ⟨#[]⟩ names el,k2)

theorem Zfx {w:World}{base t:Nat}{va:Value}{names:List ByteArray} (h:w.ownsRow base t 1 va names.length (names.map Value.string)) :
  ∃ pa pc,va = .slice pa names.length pc∧(0<names.length → ∃ b,pa=some ⟨b,0,none⟩∧base≤b∧TS w b 0 names):=by
 rcases h.2 with ⟨e,h0⟩ | ⟨g,cap,cur,rfl,hB,hg,_,_,hsz,htk⟩
 ·exact ⟨none,0,by rw [h0];exact e,fun h1=>by omega⟩
 ·refine ⟨some ⟨g,0,none⟩,cap,rfl,fun _=>⟨g,rfl,hB,fun j t hj => ?_⟩⟩
  rw [Nat.zero_add,h.cellAt j (by obtain ⟨h1,_⟩:=List.getElem?_eq_some_iff.1 hj;omega)]
  simp [hj]

def Z2i (w:World) (p:Nat):World:=((w.alloc (.cells #[.pointer (some ⟨p,0,none⟩)] 119)).alloc (.cells #[.string ⟨#[]⟩,.int .i64 0,.string ⟨#[]⟩,.slice none 0 0,.slice none 0 0] 72)).alloc (.cells #[.string kLambda,.int .i64 0,.string ⟨#[]⟩,.slice none 0 0,.slice none 0 0] 72)
theorem Z4l (w:World) (p:Nat):(Z2i w p).heap.size=w.heap.size+3:=by simp [Z2i]
theorem Z7r (w:World) (p:Nat):Below w.heap.size w (Z2i w p):=
 (((Below.refl _ _).alloc (Nat.le_refl _) _).alloc (by simp) _).alloc (by simp <;> omega) _
theorem Z7s (w:World) (p:Nat):(Z2i w p).heap[w.heap.size]?=some (.cells #[.pointer (some ⟨p,0,none⟩)] 119)∧(Z2i w p).heap[w.heap.size+1]?=some (.cells #[.string ⟨#[]⟩,.int .i64 0,.string ⟨#[]⟩,.slice none 0 0,.slice none 0 0] 72)∧(Z2i w p).heap[w.heap.size+2]?=some (.cells #[.string kLambda,.int .i64 0,.string ⟨#[]⟩,.slice none 0 0,.slice none 0 0] 72):=by
 unfold Z2i
 refine ⟨?_,?_,?_⟩
 ·rw [Below.heap_alloc _ _ _ (by simp <;> omega),Below.heap_alloc _ _ _ (by simp)]
  exact heap_alloc_new _ _
 ·rw [Below.heap_alloc _ _ _ (by simp)]
  have:=heap_alloc_new (w.alloc (.cells #[.pointer (some ⟨p,0,none⟩)] 119)) (.cells #[.string ⟨#[]⟩,.int .i64 0,.string ⟨#[]⟩,.slice none 0 0,.slice none 0 0] 72)
  simpa using this
 ·have:=heap_alloc_new ((w.alloc (.cells #[.pointer (some ⟨p,0,none⟩)] 119)).alloc (.cells #[.string ⟨#[]⟩,.int .i64 0,.string ⟨#[]⟩,.slice none 0 0,.slice none 0 0] 72)) (.cells #[.string kLambda,.int .i64 0,.string ⟨#[]⟩,.slice none 0 0,.slice none 0 0] 72)
  simpa using this
theorem Zlz {w:World}{p g:Nat} (hp:p<w.heap.size) (hg:g<w.heap.size):LamC p g (w.heap.size+2) w.heap.size (Z2i w p) [] (Z2i w p):=by
 obtain ⟨h0,h1,h2⟩:=Z7s w p
 have hz:=Z4l w p
 refine ⟨⟨.slice none 0 0,h2,rfl,.inl ⟨rfl,rfl⟩⟩,?_,by omega,by omega,by omega,by omega,by omega,by omega,by omega,Nat.le_refl _,fun _ _ _ _=>rfl⟩
 rw [cell_of_row _ _ 0 _ _ _ h0]
 rfl
theorem LamC.step {p g ce cr:Nat}{w0:World} (s:List ByteArray) (k k':Nat) (w w':World) (hk:k≤k') (h:LamC p g ce cr w0 s w∧s.length≤k) (K:Keeps p w w'):LamC p g ce cr w0 s w'∧s.length≤k':=⟨h.1.keeps s w w' K,by omega⟩
theorem Zhs {w w1:World}{p g:Nat}{names:List ByteArray} (hp:p<w.heap.size) (C:LamC p g (w.heap.size+2) w.heap.size (Z2i w p) names w1) (hb:Below p (Z2i w p) w1) :
  Keeps p w w1∧w1.heap[w.heap.size+1]?=some (.cells #[.string ⟨#[]⟩,.int .i64 0,.string ⟨#[]⟩,.slice none 0 0,.slice none 0 0] 72):=by
 obtain ⟨h0,h1,h2⟩:=Z7s w p
 have hz:=Z4l w p
 have hb0:=Z7r w p
 refine ⟨⟨(hb0.mono (by omega)).trans hb,fun k hk hl=>(C.keep k hk (by omega) (by omega)).trans (hb0.block k hl)⟩,(C.keep _ (by omega) (by omega) (by omega)).trans h1⟩

theorem Zua {w w1 w2:World}{p g cap:Nat}{rk:Value}{l:List (ByteArray × ByteArray × Nat)}{k2 bl dp:Nat}{names:List ByteArray}{el:List (DataW Unit)}{pa la:Option Addr}{pc lc:Nat} (hp:p<w.heap.size) (hgl:g<w.heap.size) (K1:Keeps p w w1) (K2:Keeps p w1 w2) (R2:RD w2 p g cap rk l k2 bl dp)
  (hB:w2.heap[w.heap.size+1]?=some (.cells #[.string ⟨#[]⟩,.int .i64 0,.string ⟨#[]⟩,.slice none 0 0,.slice none 0 0] 72))
  (hN:0<names.length → ∃ b,pa=some ⟨b,0,none⟩∧w.heap.size+3≤b∧TS w1 b 0 names) (hs1:w.heap.size+3≤w1.heap.size) (hL:Z89 (fun b=>w1.heap.size≤b) w2 la el) (hcap:el.length≤lc) (w3:World)
  (hw3:w3=set5 (w2.setCell ⟨w.heap.size+2,4,none⟩ (.slice la el.length lc)) (w.heap.size+1) (.string kLambda) (.int .i64 0) (.string ⟨#[]⟩) (.slice pa names.length pc) (.slice la el.length lc)) :
  w3.heap[w.heap.size+1]?=some (.cells #[.string kLambda,.int .i64 0,.string ⟨#[]⟩,.slice pa names.length pc,.slice la el.length lc] 72)∧Z2l (fun b=>w.heap.size≤b) w3 [.string kLambda,.int .i64 0,.string ⟨#[]⟩,.slice pa names.length pc,.slice la el.length lc] (mkE kLambda 0 ⟨#[]⟩ names el)∧RD w3 p g cap rk l k2 bl dp∧Keeps p w w3:=by
 have hs2:=K2.below.size
 have hne:w.heap.size+1≠w.heap.size+2:=by omega
 have hother:∀ j,j≠w.heap.size+1→j≠w.heap.size+2→w3.heap[j]?=w2.heap[j]?:=fun j h1 h2=>by
  rw [hw3,Z5n h1,Z07 _ _ _ _ _ h2]
 have hsame:Z5i (fun b=>w.heap.size+3≤b) w2 w3:=fun b hb _=>hother b (by omega) (by omega)
 refine ⟨?_,Zne (fun h0 => ?_) (fun h0 => ?_) (fun _ h=>absurd h (by decide)),?_,?_⟩
 ·rw [hw3]
  exact Z63 ((Z07 _ _ _ _ _ hne).trans hB) _ _ _ _ _
 ·obtain ⟨b,e,hb,ht⟩:=hN h0
  exact ⟨b,0,e,by omega,(ht.keeps K2 (by omega)).same hsame hb⟩
 ·obtain ⟨b,o,e,hb,hx⟩:=hL.same (S':=fun b=>w.heap.size+3≤b) (fun b hb hl=>rfl) (fun b hb _=>by omega) h0
  refine ⟨b,o,e,by omega,fun i x hi => ?_⟩
  obtain ⟨c0,c1,c2,c3,c4,h0,h1,h2,h3,h4,hr⟩:=hx i x hi
  exact ⟨c0,c1,c2,c3,c4,hsame.cell hb h0,hsame.cell hb h1,hsame.cell hb h2,hsame.cell hb h3,hsame.cell hb h4,hr.same hsame (fun b hb _=>by omega)⟩
 ·rw [hw3]
  exact (R2.other (by omega) (by omega)).set5 (by omega) (by omega) _ _ _ _ _
 ·rw [hw3]
  exact ((K1.trans K2).other (by omega) (by omega)).set5 (by omega) (by omega) _ _ _ _ _

set_option maxHeartbeats 2000000 in
set_option maxRecDepth 100000 in
theorem Znt {p g cap:Nat}{rk:Value}{l:List (ByteArray × ByteArray × Nat)}{k bl dp:Nat}{a0 a1:Addr} (hl:l.length≤100000) (hen:Z57 l) (hnm:∀ (k:Nat) (x:ByteArray × ByteArray × Nat),l[k]?=some x→Z19 x=true→k+1<l.length) (hk:k<l.length) (one:Nat→Out (List (DataW Unit)))
  (h:∀ k1,k<k1→k1<l.length→Z4r 78 #[.pointer (some ⟨p,0,none⟩)] p g cap rk l k1 bl dp a0 a1 (one k1)):Z0w 152 #[.pointer (some ⟨p,0,none⟩)] p g cap rk l k bl dp a0 a1 (Z3f l one k):=by
 intro w R E X
 have hpl:=Z00 R.blk
 have hgl:=R.gl
 have hb0:=Z7r w p
 have HU:=Z01 (Zay 171 #[.pointer (some ⟨w.heap.size+2,0,none⟩),.pointer (some ⟨w.heap.size,0,none⟩)] (fun _ _=>rfl) (fun s k w'=>LamC p g (w.heap.size+2) w.heap.size (Z2i w p) s w'∧s.length≤k) (fun s k k' w1 w2 h1 h2 h3=>LamC.step s k k' w1 w2 h1 h2 h3) (Z2k l) 0 (fun s k _ hk=>Zj9 _ _ _ hl hnm s k hk) hl hen Z4a [] k l.length (Nat.zero_le _) hk (by omega) (Z2i w p) (R.more hb0) ⟨Zlz hpl hgl,by simp⟩ (E.below (hb0.mono (by omega))))
 have HH:=Z01 h
 have HE:=Z01 E
 have HX:=Z01 X
 have hbp:Below p w (Z2i w p):=hb0.mono (by omega)
 clear h R E X
 unfold Z3f
 cases ho:Z1g l (Z2k l) Z4a l.length [] k with
 | error y =>
  rw [ho] at HU
  show Calls _ _ _ _ fun ev w'=>Z0p _ p g cap rk l k bl dp a0 a1 w (.error y) ev w'
  clear ho HH HE HX
  go_enter func152,ntmps152
  go_wp2_with fail
  refine HU.out.mono ?_
  intro ev w1 hP
  obtain ⟨t,g1,b,rfl,g2⟩:=hP
  have HF:Hid (Z04 l p a0 a1 w y (.panicked [{ v:=.iface 61 (.pointer (some ⟨b,0,none⟩)),recovered:=false }]) w1):=Z04.after hbp ⟨t,g1,b,rfl,g2⟩
  clear g1 g2 HU hbp
  go_wp2_with fail
  exact ⟨rfl,HF.out⟩
 | ok y =>
  obtain ⟨names,k1⟩:=y
  rw [ho] at HU
  simp only
  clear ho
  cases ho1:one k1 with
  | error y =>
   simp only
   show Calls _ _ _ _ fun ev w'=>Z0p _ p g cap rk l k bl dp a0 a1 w (.error y) ev w'
   have HO1:=Z01 ho1
   clear ho1
   go_enter func152,ntmps152
   go_wp2_with fail
   refine HU.out.mono ?_
   intro ev w1 hP
   obtain ⟨rfl,R1,⟨C1,_⟩,hb1,hk1,hk1l⟩:=hP
   obtain ⟨K1,hB1⟩:=Zhs hpl C1 hb1
   have cr:=C1.r
   have HC:=Z01 (HH.out k1 hk1 hk1l w1 R1 (HE.out.keeps K1) (HX.out.keeps K1))
   clear R1 C1 hb1 HU hbp
   go_wp2_with fail
   refine HC.out.mono ?_
   intro ev w2 hP
   rw [HO1.out] at hP
   obtain ⟨t,g1,b,rfl,g2⟩:=hP
   have HF:Hid (Z04 l p a0 a1 w y (.panicked [{ v:=.iface 61 (.pointer (some ⟨b,0,none⟩)),recovered:=false }]) w2):=Z04.after K1.below ⟨t,g1,b,rfl,g2⟩
   clear g1 g2 HC K1
   go_wp2_with fail
   exact ⟨rfl,HF.out⟩
  | ok y =>
   obtain ⟨el,k2⟩:=y
   simp only
   show Calls _ _ _ _ fun ev w'=>Z0p _ p g cap rk l k bl dp a0 a1 w (.ok (mkE kLambda 0 ⟨#[]⟩ names el,k2)) ev w'
   have HO1:=Z01 ho1
   clear ho1
   go_enter func152,ntmps152
   go_wp2_with fail
   refine HU.out.mono ?_
   intro ev w1 hP
   obtain ⟨rfl,R1,⟨C1,_⟩,hb1,hk1,hk1l⟩:=hP
   obtain ⟨K1,hB1⟩:=Zhs hpl C1 hb1
   have cr:=C1.r
   have hs1:=C1.sz
   rw [Z4l] at hs1
   obtain ⟨va,hV,hO⟩:=C1.e
   rw [Z4l] at hO
   obtain ⟨pa,pc,rfl,hN⟩:=Zfx hO
   have HN:=Z01 hN
   have HC:=Z01 (HH.out k1 hk1 hk1l w1 R1 (HE.out.keeps K1) (HX.out.keeps K1))
   clear R1 C1 hb1 HU hbp hO hN
   go_wp2_with fail
   refine HC.out.mono ?_
   intro ev w2 hP
   rw [HO1.out] at hP
   obtain ⟨la,lc,rfl,hL,R2,K2,hk2,hk2l,hcap⟩:=hP
   have hV2:=(K2.block (w.heap.size+2) (by omega) (Z00 hV)).trans hV
   have hB2:=(K2.block (w.heap.size+1) (by omega) (Z00 hB1)).trans hB1
   obtain ⟨t0,t1,t2,t3,t4,tf⟩:=Z05 hB2
   obtain ⟨v0,v1,v2,v3,v4,vf⟩:=Z05 hV2
   have tf0:=tf 0
   have tf1:=tf 1
   have tf2:=tf 2
   have tf3:=tf 3
   have tf4:=tf 4
   have vf4:=vf 4
   have HZ:=Z01 (Zua (pa:=pa) (pc:=pc) (lc:=lc) hpl hgl K1 K2 R2 hB2 HN.out hs1 hL hcap _ rfl)
   clear hL R2 K2 K1 hV2 hB2 tf vf hV hB1 HC
   go_wp2_with fail
   obtain ⟨z1,z2,z3,z4⟩:=HZ.out
   refine bodyPost_ret (Z0b _ 2 rfl _ _ (w.heap.size+1) _ _ _ _ _ rfl z1) rfl ?_
   exact ⟨_,_,_,_,_,rfl,z2,z3,z4,by omega,hk2l⟩
end Go.Proofs.YtflcohidmemfpaaGreatDoor
namespace Go.Proofs.YtflcohidmemfpaaGreatDoor
open Go.Proofs.Tryz
open Go.RowKit

theorem Z0p.parts {S:Nat→Prop}{p g cap:Nat}{rk:Value}{l:List (ByteArray × ByteArray × Nat)}{k bl dp:Nat}{a0 a1:Addr}{w:World}{o:Out (DataW Unit)}{ev:Ending}{w':World} (h:Z0p S p g cap rk l k bl dp a0 a1 w o ev w') :
  (∃ e k' op z sx pa pn pc la ln lc,o = .ok (e,k')∧ev = .returned (.agg #[.string op,.int .i64 z,.string sx,.slice pa pn pc,.slice la ln lc])∧Z2l S w' [.string op,.int .i64 z,.string sx,.slice pa pn pc,.slice la ln lc] e∧RD w' p g cap rk l k' bl dp∧Keeps p w w'∧k<k'∧k'<l.length) ∨
  (∃ y b,o = .error y∧ev = .panicked [{ v:=.iface 61 (.pointer (some ⟨b,0,none⟩)),recovered:=false }]∧Z04 l p a0 a1 w y (.panicked [{ v:=.iface 61 (.pointer (some ⟨b,0,none⟩)),recovered:=false }]) w'):=by
 unfold Z0p at h
 cases o with
 | error y =>
  obtain ⟨t,g1,b,rfl,g2⟩:=h
  exact .inr ⟨y,b,rfl,rfl,t,g1,b,rfl,g2⟩
 | ok y =>
  obtain ⟨e,k'⟩:=y
  obtain ⟨c0,c1,c2,c3,c4,rfl,hrep,h1,h2,h3,h4⟩:=h
  obtain ⟨op,z,sx,pa,pn,pc,la,ln,lc,rfl,rfl,rfl,rfl,rfl⟩:=hrep.form
  exact .inl ⟨e,k',op,z,sx,pa,pn,pc,la,ln,lc,rfl,rfl,hrep,h1,h2,h3,h4⟩

theorem Zq9 {S S':Nat→Prop}{w:World}{op:ByteArray}{c0 c1 c2 c3 c4 d0 d1 d2 d3 d4:Value}{e e':DataW Unit} (h:Z2l S w [c0,c1,c2,c3,c4] e) (h':Z2l S w [d0,d1,d2,d3,d4] e') (hS:∀ b,S b→S' b) (hn:S' w.heap.size) :
  Z2l S' (w.alloc (.cells #[c0,c1,c2,c3,c4,d0,d1,d2,d3,d4] 72)) [.string op,.int .i64 0,.string ⟨#[]⟩,.slice none 0 0,.slice (some ⟨w.heap.size,0,none⟩) 2 2] (mkE op 0 ⟨#[]⟩ [] [e,e']):=by
 have hb:Below w.heap.size w (w.alloc (.cells #[c0,c1,c2,c3,c4,d0,d1,d2,d3,d4] 72)):=(Below.refl _ _).alloc (Nat.le_refl _) _
 have h2:=h.same (S':=S') (Z06 hb) (fun b hb _=>hS b hb)
 have h2':=h'.same (S':=S') (Z06 hb) (fun b hb _=>hS b hb)
 have hB:=heap_alloc_new w (.cells #[c0,c1,c2,c3,c4,d0,d1,d2,d3,d4] 72)
 have hc:∀ j v,#[c0,c1,c2,c3,c4,d0,d1,d2,d3,d4][j]?=some v→(w.alloc (.cells #[c0,c1,c2,c3,c4,d0,d1,d2,d3,d4] 72)).cell? ⟨w.heap.size,j,none⟩=some v:=fun j v hj=>by
  rw [cell_of_row _ _ j _ _ _ hB]
  exact hj
 refine Zne (pl:=[]) (el:=[e,e']) (by simp) (fun _=>⟨w.heap.size,0,rfl,hn,fun i x hi => ?_⟩) (fun _ _=>⟨w.heap.size,_,rfl,hn,hB,rfl,rfl⟩)
 match i,hi with
 | 0,hi =>
  simp at hi
  subst hi
  exact ⟨c0,c1,c2,c3,c4,hc 0 _ rfl,hc 1 _ rfl,hc 2 _ rfl,hc 3 _ rfl,hc 4 _ rfl,h2⟩
 | 1,hi =>
  simp at hi
  subst hi
  exact ⟨d0,d1,d2,d3,d4,hc 5 _ rfl,hc 6 _ rfl,hc 7 _ rfl,hc 8 _ rfl,hc 9 _ rfl,h2'⟩
 | i+2,hi=>simp at hi

def Z0s (l:List (ByteArray × ByteArray × Nat)) (rank:Nat) (sub:Nat→Out (DataW Unit)):Nat→DataW Unit→Nat→Out (DataW Unit)
 | 0,e,k=>.ok (e,k)
 | f+1,e,k=>match l[k]? with
  | none=>.ok (e,k)
  | some x=>bif Z0i x (Z0y rank) then (match sub (k+1) with
   | .error y=>.error y
   | .ok (e2,k2)=>bif rank == 4 then .ok (mkE x.2.1 0 ⟨#[]⟩ [] [e,e2],k2) else Z0s l rank sub f (mkE x.2.1 0 ⟨#[]⟩ [] [e,e2]) k2) else .ok (e,k)
def Z3l (l:List (ByteArray × ByteArray × Nat)) (rank:Nat) (sub:Nat→Out (DataW Unit)) (k:Nat):Out (DataW Unit):=match sub k with
 | .error y=>.error y
 | .ok (e,k1)=>Z0s l rank sub (l.length+1) e k1
theorem Z5o {l:List (ByteArray × ByteArray × Nat)}{rank:Nat}{sub:Nat→Out (DataW Unit)}{f k:Nat}{e:DataW Unit}{x:ByteArray × ByteArray × Nat} (hx:l[k]?=some x) (hm:Z0i x (Z0y rank)=false):Z0s l rank sub (f+1) e k = .ok (e,k):=by
 simp [Z0s,hx,hm]
theorem Z7d {l:List (ByteArray × ByteArray × Nat)}{rank:Nat}{sub:Nat→Out (DataW Unit)}{f k:Nat}{e:DataW Unit}{x:ByteArray × ByteArray × Nat}{y:Nat × Bool} (hx:l[k]?=some x) (hm:Z0i x (Z0y rank)=true) (hs:sub (k+1) = .error y):Z0s l rank sub (f+1) e k = .error y:=by
 simp [Z0s,hx,hm,hs]
theorem Z96 {l:List (ByteArray × ByteArray × Nat)}{rank:Nat}{sub:Nat→Out (DataW Unit)}{f k k2:Nat}{e e2:DataW Unit}{x:ByteArray × ByteArray × Nat} (hx:l[k]?=some x) (hm:Z0i x (Z0y rank)=true) (hs:sub (k+1) = .ok (e2,k2)):Z0s l rank sub (f+1) e k=bif rank == 4 then .ok (mkE x.2.1 0 ⟨#[]⟩ [] [e,e2],k2) else Z0s l rank sub f (mkE x.2.1 0 ⟨#[]⟩ [] [e,e2]) k2:=by
 simp [Z0s,hx,hm,hs]
end Go.Proofs.YtflcohidmemfpaaGreatDoor
