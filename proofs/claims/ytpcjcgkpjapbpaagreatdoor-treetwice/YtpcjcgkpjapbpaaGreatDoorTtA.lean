/- Small facts on cells and blocks (a program that does not reach plain.Code). -/
import Derived.Test.YtpcjcgkpjapbpaaGreatDoorProg
import Derived.WalkKit
import Derived.LaidEql
import Derived.Stop.Asserts
import Derived.RowKitTokens
import Derived.Carry
import Derived.Test.YtpcjcgkpjapbpaaGreatDoorRows
import Derived.Stop.LaidTwo
import Derived.Deep.RegionWith
import Derived.Deep.QuietTactic
import Derived.BigQuiet
import Derived.WalkSmall
import Derived.WalkSpells
import Derived.Deep.LoopGhost
set_option linter.all false
namespace Go.Proofs.YtpcjcgkpjapbpaaGreatDoor
open Go.RowKit Go.Extern.Stop Go.Stop Go.Extern

theorem lt_of_cell {w:World}{a:Addr}{v:Value} (h:w.cell? a=some v):a.block<w.heap.size:=by
 rcases Nat.lt_or_ge a.block w.heap.size with h1 | h1
 ·exact h1
 ·simp [World.cell?,Array.getElem?_eq_none h1] at h
theorem lt_of_heap {w:World}{k:Nat}{o:Obj} (h:w.heap[k]?=some o):k<w.heap.size:=by
 rcases Nat.lt_or_ge k w.heap.size with h1 | h1
 ·exact h1
 ·rw [Array.getElem?_eq_none h1] at h;cases h
end Go.Proofs.YtpcjcgkpjapbpaaGreatDoor
namespace Go.Proofs.YtpcjcgkpjapbpaaGreatDoor
open Go.RowKit

theorem laidVars_sub {P:Program}{w:World}{l l':List (String × DataW Unit)} (h:l'.Sublist l):∀ ps,DataW.LaidVars P w l ps → ∃ qs,DataW.LaidVars P w l' qs∧qs.Sublist ps:=by
 induction h with
 | slnil=>intro ps hp;exact ⟨ps,hp,List.Sublist.refl _⟩
 | cons x _ ih =>
  intro ps hp
  obtain ⟨n,d⟩:=x
  obtain ⟨g,t,cs,fuel,p,q,_,_,_,_,hq,rfl⟩:=hp
  obtain ⟨qs,h1,h2⟩:=ih q hq
  exact ⟨qs,h1,h2.trans (List.sublist_append_right _ _)⟩
 | cons_cons x _ ih =>
  intro ps hp
  obtain ⟨n,d⟩:=x
  obtain ⟨g,t,cs,fuel,p,q,e1,e2,e3,e4,hq,rfl⟩:=hp
  obtain ⟨qs,h1,h2⟩:=ih q hq
  exact ⟨_,⟨g,t,cs,fuel,p,qs,e1,e2,e3,e4,h1,rfl⟩,(List.Sublist.refl _).append h2⟩

theorem laidMet_sub {P:Program}{w:World}{l l':List (String × DataW Unit)} (h:l'.Sublist l) (hl:laidMet P l w):laidMet P l' w:=by
 obtain ⟨ps,h1,h2,h3⟩:=hl
 obtain ⟨qs,k1,k2⟩:=laidVars_sub h ps h1
 exact ⟨qs,k1,h2.sublist k2,fun b off hm=>h3 b off (k2.subset hm)⟩

theorem star : "*" ++ "errors.errorString" = "*errors.errorString" := by decide
theorem rowSp (u : TypeId) (h : Tryz.prog.typeName? 3 u = some "*errors.errorString") : u = 163 :=
 typeName_ptr_named (nm := "errors.errorString") (by rw [star]; kernel_rfl) (by kernel_rfl) (by decide) u (by rw [star]; exact h)
theorem cellsS:Tryz.prog.cellsOf 165=1:=by kernel_rfl
theorem cellsStr:Tryz.prog.cellsOf 9=1:=by kernel_rfl

def sentName:Nat→String
 | 0 => "nurserypy/api.ErrText"
 | 1 => "nurserypy/api.ErrBound"
 | _ => "nurserypy/api.ErrShape"
def sentGlobal:Nat→Nat
 | 0=>2
 | 1=>1
 | _=>0
def sentTail:Nat→List UInt8
 | 0 => [116,101,120,116]
 | 1 => [98,111,117,110,100]
 | _ => [115,104,97,112,101]
def sentText (i:Nat):ByteArray:=⟨([110,117,114,115,101,114,121,112,121,58,32]++sentTail i).toArray⟩
def sentLaid (i : Nat) : String × DataW Unit := (sentName i, .iface "*errors.errorString" (.ptr (.agg [.lit (.string ([110, 117, 114, 115, 101, 114, 121, 112, 121, 58, 32] ++ sentTail i))])))

theorem sent_named (i:Nat) (hi:i<3):Tryz.prog.globalNamed (sentName i)=some (sentGlobal i):=by
 iterate 3 (rcases i with _ | i;· kernel_rfl)
 omega
theorem sent_type (i:Nat) (hi:i<3):(Tryz.prog.globals[sentGlobal i]?).map (·.type)=some 26:=by
 iterate 3 (rcases i with _ | i;· kernel_rfl)
 omega

theorem sent_one {W:World} (i:Nat) (hi:i<3) (h:laidMet Tryz.prog [sentLaid i] W):∃ a:Addr,W.var? Tryz.prog (sentName i)=some #[.iface 163 (.pointer (some a))]∧W.cell? a=some (.string (sentText i)):=by
 obtain ⟨a,s,h1,h2,h3,_⟩:=laid_sentinel h (sent_named i hi) (sent_type i hi) Tryz.underlying26 rowSp Tryz.underlying163 Tryz.underlying165 rfl rfl Tryz.underlying9 cellsS cellsStr
 refine ⟨a,h1,?_⟩
 rw [h2]
 congr 2
 apply ByteArray.ext
 show s.data=_
 rw [←Array.toList_inj,h3]
 simp [sentText]

theorem sent_cell {W:World} (i:Nat) (hi:i<3) (a:Addr) (ha:W.var? Tryz.prog (sentName i)=some #[.iface 163 (.pointer (some a))]):W.cell? ⟨sentGlobal i,0,none⟩=some (.iface 163 (.pointer (some a))):=by
 simpa using World.var?_cell (sent_named i hi) ha 0

end Go.Proofs.YtpcjcgkpjapbpaaGreatDoor
namespace Go.Proofs.YtpcjcgkpjapbpaaGreatDoor
open Go.RowKit

theorem none_any (at_:Int) (a0:Addr) (w:World) (h:w.cell? ⟨2,0,none⟩=some (.iface 163 (.pointer (some a0)))) :
  Calls Tryz.prog 46 #[.int .i64 at_] w fun ev w'=>ev = .returned (.pointer (some ⟨w.heap.size,0,none⟩))∧w'=w.alloc (.cells #[.int .i64 at_,.iface 163 (.pointer (some a0))] 105):=by
 go_enter Tryz.func46,Tryz.ntmps46
 go_wp2
 go_ret
 exact ⟨rfl,rfl⟩

def smallB (b:Int):Bool:=(decide (97≤b) && decide (b≤122)) || b == 95
def capitalB (b:Int):Bool:=decide (65≤b) && decide (b≤90)
def digitB (b:Int):Bool:=decide (48≤b) && decide (b≤57)
def nameB (b:Int):Bool:=smallB b || digitB b
def blankB (b:Int):Bool:=b == 32
def lineB (b:Int):Bool:=b != 10

theorem ret_bool {x y:Bool} (h:x=y):Ending.returned (.bool x) = .returned (.bool y):=by rw [h]

theorem small_any (b:Int) (w:World):Calls Tryz.prog 63 #[.int .u8 b] w fun ev w'=>ev = .returned (.bool (smallB b))∧w'=w:=by
 go_enter Tryz.func63,Tryz.ntmps63
 go_wp2
 all_goals go_ret
 all_goals refine ⟨ret_bool ?_,rfl⟩
 all_goals rw [Bool.eq_iff_iff]
 all_goals simp [smallB]
 all_goals omega
theorem capital_any (b:Int) (w:World):Calls Tryz.prog 64 #[.int .u8 b] w fun ev w'=>ev = .returned (.bool (capitalB b))∧w'=w:=by
 go_enter Tryz.func64,Tryz.ntmps64
 go_wp2
 all_goals go_ret
 all_goals refine ⟨ret_bool ?_,rfl⟩
 all_goals rw [Bool.eq_iff_iff]
 all_goals simp [capitalB]
 all_goals omega
theorem digit_any (b:Int) (w:World):Calls Tryz.prog 66 #[.int .u8 b] w fun ev w'=>ev = .returned (.bool (digitB b))∧w'=w:=by
 go_enter Tryz.func66,Tryz.ntmps66
 go_wp2
 all_goals go_ret
 all_goals refine ⟨ret_bool ?_,rfl⟩
 all_goals rw [Bool.eq_iff_iff]
 all_goals simp [digitB]
 all_goals omega
theorem blank_any (b:Int) (w:World):Calls Tryz.prog 61 #[.int .u8 b] w fun ev w'=>ev = .returned (.bool (blankB b))∧w'=w:=by
 go_enter Tryz.func61,Tryz.ntmps61
 go_wp2
 go_ret
 exact ⟨rfl,rfl⟩
theorem comment_any (b:Int) (w:World):Calls Tryz.prog 62 #[.int .u8 b] w fun ev w'=>ev = .returned (.bool (lineB b))∧w'=w:=by
 go_enter Tryz.func62,Tryz.ntmps62
 go_wp2
 go_ret
 exact ⟨rfl,rfl⟩
theorem name_any (b:Int) (w:World):Calls Tryz.prog 86 #[.int .u8 b] w fun ev w'=>ev = .returned (.bool (nameB b))∧w'=w:=by
 cases h:smallB b
 all_goals
  go_enter Tryz.func86,Tryz.ntmps86
  go_wp2_with (first | (go_at_call 63;refine (small_any _ _).mono ?_;rintro e w' ⟨rfl,rfl⟩) | (go_at_call 66;refine (digit_any _ _).mono ?_;rintro e w' ⟨rfl,rfl⟩))
  go_ret
  exact ⟨ret_bool (by simp [nameB,h]),rfl⟩

structure Moved (p:Nat) (w w':World) (j:Nat):Prop where
 os:w'.os=w.os
 tape:w'.tape=w.tape
 output:w'.output=w.output
 size:w'.heap.size=w.heap.size
 far:∀ k,k≠p→w'.heap[k]?=w.heap[k]?
 at_:w'.cell? ⟨p,1,none⟩=some (.int .i64 j)
 near:∀ o,o≠1→w'.cell? ⟨p,o,none⟩=w.cell? ⟨p,o,none⟩
 fz:∀ o,w'.frozen? ⟨p,o,none⟩=w.frozen? ⟨p,o,none⟩

theorem Moved.refl {p:Nat}{w:World}{j:Nat} (h:w.cell? ⟨p,1,none⟩=some (.int .i64 j)):Moved p w w j:=
 ⟨rfl,rfl,rfl,rfl,fun _ _=>rfl,h,fun _ _=>rfl,fun _=>rfl⟩
theorem Moved.trans {p:Nat}{w w1 w2:World}{i j:Nat} (h:Moved p w w1 i) (k:Moved p w1 w2 j):Moved p w w2 j:=
 ⟨k.os.trans h.os,k.tape.trans h.tape,k.output.trans h.output,k.size.trans h.size,fun x hx=>(k.far x hx).trans (h.far x hx),k.at_,fun o ho=>(k.near o ho).trans (h.near o ho),fun o=>(k.fz o).trans (h.fz o)⟩
theorem Moved.drewN {p:Nat}{w w1:World}{i:Nat} (h:Moved p w w1 i) (q:Nat):Moved p w (w1.drewN q) i:=
 ⟨h.os,h.tape,h.output,h.size,h.far,h.at_,h.near,h.fz⟩
theorem Moved.drew {p:Nat}{w w1:World}{i:Nat} (h:Moved p w w1 i):Moved p w w1.drew i:=
 ⟨h.os,h.tape,h.output,h.size,h.far,h.at_,h.near,h.fz⟩
theorem Moved.set {p:Nat}{w:World}{u:Value} (h:w.cell? ⟨p,1,none⟩=some u) (j:Nat):Moved p w (w.setCell ⟨p,1,none⟩ (.int .i64 j)) j where
 os:=rfl
 tape:=rfl
 output:=rfl
 size:=by simp [World.setCell]
 far:=fun k hk=>Below.heap_setCell _ _ _ _ hk
 at_:=World.cell?_setCell_same _ _ _ h
 near:=fun o ho=>World.cell?_setCell_other _ _ _ _ (by intro e;exact ho (by simpa using e.symm))
 fz:=fun o=>by
  simp only [World.setCell,World.frozen?,Array.getElem?_modify]
  simp only [if_true]
  cases w.heap[p]? with
  | none=>rfl
  | some x=>cases x <;> rfl
theorem Moved.below {p B:Nat}{w w':World}{j:Nat} (h:Moved p w w' j) (hp:B≤p):Below B w w':=
 ⟨h.os,h.tape,h.output,Nat.le_of_eq h.size.symm,fun k hk=>h.far k (by omega)⟩

def passTo (P:Int→Bool) (s:ByteArray):Nat→Nat→Nat
 | 0,i=>i
 | n+1,i=>if h:i<s.size then (if P (s[i].toNat:Int) then passTo P s n (i+1) else i) else i

theorem passTo_le (P:Int→Bool) (s:ByteArray):∀ n i,i≤passTo P s n i∧(i≤s.size→passTo P s n i≤s.size)
 | 0,i=>⟨Nat.le_refl _,fun h=>h⟩
 | n+1,i=>by
  unfold passTo
  split
  ·split
   ·have:=passTo_le P s n (i+1)
    exact ⟨by omega,fun h=>this.2 (by omega)⟩
   ·exact ⟨Nat.le_refl _,fun h=>h⟩
  ·exact ⟨Nat.le_refl _,fun h=>h⟩

theorem passTo_go {P:Int→Bool}{s:ByteArray}{i:Nat} (h:i<s.size) (hP:P (s[i].toNat:Int)=true):passTo P s (s.size - i) i=passTo P s (s.size - (i+1)) (i+1):=by
 obtain ⟨n,hn⟩:∃ n,s.size - i=n+1:=⟨s.size - i - 1,by omega⟩
 rw [hn,show s.size - (i+1)=n by omega]
 simp [passTo,h,hP]
theorem passTo_stop {P:Int→Bool}{s:ByteArray}{i:Nat} (h:i<s.size) (hP:P (s[i].toNat:Int)=false):passTo P s (s.size - i) i=i:=by
 obtain ⟨n,hn⟩:∃ n,s.size - i=n+1:=⟨s.size - i - 1,by omega⟩
 rw [hn]
 simp [passTo,h,hP]
theorem passTo_end {P:Int→Bool}{s:ByteArray}{i:Nat} (h:i=s.size):passTo P s (s.size - i) i=i:=by
 subst h
 simp [passTo]

theorem enter46 (args:Array Value) (w:World):(callFunc 61 args).run Tryz.prog w = .ok (.enter 61 args) w:=by kernel_rfl

set_option maxHeartbeats 400000 in
theorem pass_any (K:FuncId) (P:Int→Bool) (hE:∀ args w,(callFunc K args).run Tryz.prog w = .ok (.enter K args) w) (hK:∀ b w,Calls Tryz.prog K #[.int .u8 b] w fun ev w'=>ev = .returned (.bool (P b))∧w'=w)
  (p:Nat) (s:ByteArray) (at_:Nat) (w:World) (hs:s.size≤6000) (hat:at_≤s.size) (c0:w.cell? ⟨p,0,none⟩=some (.string s)) (c1:w.cell? ⟨p,1,none⟩=some (.int .i64 at_)) (f1:w.frozen? ⟨p,1,none⟩=false) :
  Calls Tryz.prog 60 #[.pointer (some ⟨p,0,none⟩),.func (.func K) #[] #[]] w fun ev w'=>ev = .returned (.int .i64 ((passTo P s (s.size - at_) at_:Nat) - (at_:Int)))∧Moved p w w' (passTo P s (s.size - at_) at_):=by
 have HK:Hid (∀ b w,Calls Tryz.prog K #[.int .u8 b] w fun ev w'=>ev = .returned (.bool (P b))∧w'=w):=hK
 clear hK
 have hM:=Moved.refl c1
 go_enter Tryz.func60,Tryz.ntmps60
 go_wp2
 go_loopg [] (s.size - at_) (fun k wr => ∃ i:Nat,k=s.size - i∧at_≤i∧i≤s.size∧passTo P s (s.size - i) i=passTo P s (s.size - at_) at_∧Moved p w wr i)
 case atStart=>exact ⟨at_,rfl,Nat.le_refl _,hat,rfl,hM⟩
 case round =>
  obtain ⟨i,hk,hi1,hi2,hpass,hm⟩:=hrel
  have HP:Hid (passTo P s (s.size - i) i=passTo P s (s.size - at_) at_):=hpass
  have HG:Hid (gk=s.size - i):=hk
  clear hpass hk hM c1
  have d0:wr.cell? ⟨p,0,none⟩=some (.string s):=(hm.near 0 (by decide)).trans c0
  have d1:=hm.at_
  have g1:wr.frozen? ⟨p,1,none⟩=false:=(hm.fz 1).trans f1
  by_cases hlt:i<s.size
  ·have hI:(i:Int)<(s.size:Int):=by omega
   have hI0:(0:Int)≤(i:Int):=by omega
   cases hP:P (s[i].toNat:Int)
   ·go_wp2
    go_quiet ((exact Calls.quiet_of_same (HK.out _ _)))
    go_wp2
    go_ret
    have e:passTo P s (s.size - at_) at_=i:=HP.out.symm.trans (passTo_stop hlt hP)
    rw [e]
    exact ⟨rfl,hm.drewN _⟩
   ·go_wp2
    go_quiet ((exact Calls.quiet_of_same (HK.out _ _)))
    go_wp2
    go_roundg (s.size - (i+1))
    case measure=>have:=HG.out;omega
    case rel=>exact ⟨i+1,rfl,by omega,by omega,(passTo_go hlt hP).symm.trans HP.out,(hm.drewN _).trans (Moved.set (hm.drewN _).at_ (i+1))⟩
  ·have hEq:i=s.size:=by omega
   have hd:decide ((i:Int)<(s.size:Int))=false:=by simp;omega
   have HQ:Hid (i=s.size):=hEq
   clear hEq
   go_wp2
   go_quiet (fail)
   go_wp2
   go_ret
   have e:passTo P s (s.size - at_) at_=i:=HP.out.symm.trans (passTo_end HQ.out)
   rw [e]
   exact ⟨rfl,hm.drewN _⟩
end Go.Proofs.YtpcjcgkpjapbpaaGreatDoor
namespace Go.Proofs.YtpcjcgkpjapbpaaGreatDoor
open Go.RowKit

theorem enterComment (args:Array Value) (w:World):(callFunc 62 args).run Tryz.prog w = .ok (.enter 62 args) w:=by kernel_rfl
theorem enterName (args:Array Value) (w:World):(callFunc 86 args).run Tryz.prog w = .ok (.enter 86 args) w:=by kernel_rfl
theorem enterDigit (args:Array Value) (w:World):(callFunc 66 args).run Tryz.prog w = .ok (.enter 66 args) w:=by kernel_rfl

def blanksTo (s:ByteArray) (i:Nat):Nat:=passTo blankB s (s.size - i) i
def commentTo (s:ByteArray) (i:Nat):Nat:=if h:i<s.size then (if (s[i].toNat:Int) == 35 then passTo lineB s (s.size - i) i else i) else i
def endsB (s:ByteArray) (i:Nat):Bool:=if h:i<s.size then (s[i].toNat:Int) == 10 else true

theorem blanksTo_le (s:ByteArray) (i:Nat) (h:i≤s.size):i≤blanksTo s i∧blanksTo s i≤s.size:=⟨(passTo_le _ _ _ _).1,(passTo_le _ _ _ _).2 h⟩
theorem commentTo_le (s:ByteArray) (i:Nat) (h:i≤s.size):i≤commentTo s i∧commentTo s i≤s.size:=by
 unfold commentTo
 split
 ·split
  ·exact ⟨(passTo_le _ _ _ _).1,(passTo_le _ _ _ _).2 h⟩
  ·exact ⟨Nat.le_refl _,h⟩
 ·exact ⟨Nat.le_refl _,h⟩

structure At (p:Nat) (s:ByteArray) (at_:Nat) (w:World):Prop where
 hs:s.size≤6000
 hat:at_≤s.size
 c0:w.cell? ⟨p,0,none⟩=some (.string s)
 c1:w.cell? ⟨p,1,none⟩=some (.int .i64 at_)
 f1:w.frozen? ⟨p,1,none⟩=false

theorem At.moved {p:Nat}{s:ByteArray}{i j:Nat}{w w':World} (h:At p s i w) (hm:Moved p w w' j) (hj:j≤s.size):At p s j w':=
 ⟨h.hs,hj,(hm.near 0 (by decide)).trans h.c0,hm.at_,(hm.fz 1).trans h.f1⟩

theorem passBlanks_any (p:Nat) (s:ByteArray) (i:Nat) (w:World) (h:At p s i w) :
  Calls Tryz.prog 42 #[.pointer (some ⟨p,0,none⟩)] w fun ev w'=>ev = .returned (.int .i64 ((blanksTo s i:Nat) - (i:Int)))∧Moved p w w' (blanksTo s i):=by
 go_enter Tryz.func42,Tryz.ntmps42
 go_wp2_with fail
 refine (pass_any 61 blankB enter46 blank_any p s i _ h.hs h.hat h.c0 h.c1 h.f1).mono ?_
 rintro ev w1 ⟨rfl,hm⟩
 go_wp2_with fail
 go_ret
 exact ⟨rfl,hm⟩

set_option maxHeartbeats 400000 in
theorem lineEnds_plain (p:Nat) (s:ByteArray) (i:Nat) (w:World) (h:At p s i w) (hc:∀ hi:i<s.size,((s[i].toNat:Int) == 35)=false) :
  Calls Tryz.prog 43 #[.pointer (some ⟨p,0,none⟩)] w fun ev w'=>ev = .returned (.bool (endsB s i))∧Moved p w w' i:=by
 have hM:=Moved.refl h.c1
 obtain ⟨hs,hat,c0,c1,f1⟩:=h
 by_cases hlt:i<s.size
 ·have hI:(i:Int)<(s.size:Int):=by omega
  have hI0:(0:Int)≤(i:Int):=by omega
  have hne:((i:Int) == (s.size:Int))=false:=by simp;omega
  have hc':=hc hlt
  clear hc
  go_enter Tryz.func43,Tryz.ntmps43
  go_wp2
  go_quiet (fail)
  go_wp2
  go_quiet (fail)
  go_wp2
  go_ret
  exact ⟨ret_bool (by simp [endsB,hlt]),(hM.drewN _).drewN _⟩
 ·have hd:decide ((i:Int)<(s.size:Int))=false:=by simp;omega
  have heq:((i:Int) == (s.size:Int))=true:=by simp;omega
  clear hc
  go_enter Tryz.func43,Tryz.ntmps43
  go_wp2
  go_quiet (fail)
  go_wp2
  go_quiet (fail)
  go_wp2
  go_ret
  exact ⟨ret_bool (by simp [endsB,hlt]),(hM.drewN _).drewN _⟩

theorem below_drewN' {B:Nat}{a w:World}{o:Obj}{q:Nat} (h:Below B a (w.alloc o)):Below B a ((w.drewN q).alloc o):=⟨h.os,h.tape,h.output,h.size,h.block⟩
theorem cell_new {w:World}{c:Array Value}{t:TypeId}{n i:Nat}{v:Value} (hn:n=w.heap.size) (h:c[i]?=some v):(w.alloc (.cells c t)).cell? ⟨n,i,none⟩=some v:=by
 rw [World.cell?_alloc_at _ _ _ _ hn];exact h
theorem At.drewN {p:Nat}{s:ByteArray}{i:Nat}{w:World} (h:At p s i w) (q:Nat):At p s i (w.drewN q):=⟨h.hs,h.hat,h.c0,h.c1,h.f1⟩

set_option maxHeartbeats 400000 in
theorem lineEnds_comment (p:Nat) (s:ByteArray) (i:Nat) (w:World) (h:At p s i w) (hlt:i<s.size) (hc:((s[i].toNat:Int) == 35)=true) :
  Calls Tryz.prog 43 #[.pointer (some ⟨p,0,none⟩)] w fun ev w'=>ev = .returned (.bool (endsB s (passTo lineB s (s.size - i) i)))∧Moved p w w' (passTo lineB s (s.size - i) i):=by
 have hM:=Moved.refl h.c1
 have hA:=h
 have hle:=(passTo_le lineB s (s.size - i) i).2 h.hat
 obtain ⟨hs,hat,c0,c1,f1⟩:=h
 have hI:(i:Int)<(s.size:Int):=by omega
 have hI0:(0:Int)≤(i:Int):=by omega
 go_enter Tryz.func43,Tryz.ntmps43
 go_wp2
 go_quiet (fail)
 go_wp2_with fail
 refine (pass_any 62 lineB enterComment comment_any p s i _ hs hat (hA.drewN _).c0 (hA.drewN _).c1 (hA.drewN _).f1).mono ?_
 rintro ev w1 ⟨rfl,hm⟩
 generalize hjj:passTo lineB s (s.size - i) i=j at hm hle ⊢
 have HJ:Hid (passTo lineB s (s.size - i) i=j):=hjj
 clear hjj
 have hB:=(hA.drewN nq).moved hm hle
 obtain ⟨_,_,d0,d1,_⟩:=hB
 clear c0 c1 f1 hc
 by_cases hj:j<s.size
 ·have hJ:(j:Int)<(s.size:Int):=by omega
  have hJ0:(0:Int)≤(j:Int):=by omega
  have hne:((j:Int) == (s.size:Int))=false:=by simp;omega
  go_wp2
  go_quiet (fail)
  go_wp2
  go_ret
  rw [HJ.out]
  exact ⟨ret_bool (by simp [endsB,hj]),((hM.drewN _).trans hm).drewN _⟩
 ·have heq:((j:Int) == (s.size:Int))=true:=by simp;omega
  go_wp2
  go_quiet (fail)
  go_wp2
  go_ret
  rw [HJ.out]
  exact ⟨ret_bool (by simp [endsB,hj]),((hM.drewN _).trans hm).drewN _⟩

theorem lineEnds_any (p:Nat) (s:ByteArray) (i:Nat) (w:World) (h:At p s i w) :
  Calls Tryz.prog 43 #[.pointer (some ⟨p,0,none⟩)] w fun ev w'=>ev = .returned (.bool (endsB s (commentTo s i)))∧Moved p w w' (commentTo s i):=by
 by_cases hlt:i<s.size
 ·cases hc:((s[i].toNat:Int) == 35)
  ·have e:commentTo s i=i:=by simp [commentTo,hlt,hc]
   rw [e]
   exact lineEnds_plain p s i w h (fun _=>hc)
  ·have e:commentTo s i=passTo lineB s (s.size - i) i:=by simp [commentTo,hlt,hc]
   rw [e]
   exact lineEnds_comment p s i w h hlt hc
 ·have e:commentTo s i=i:=by simp [commentTo,hlt]
  rw [e]
  exact lineEnds_plain p s i w h (fun hi=>absurd hi hlt)

theorem innermost_any (p:Nat) (w:World) (g n cap:Nat) (z:Int) (hn:n≤100000) (c2:w.cell? ⟨p,2,none⟩=some (.slice (some ⟨g,0,none⟩) (n+1) cap)) (hz:w.cell? ⟨g,n,none⟩=some (.int .i64 z)) :
  Calls Tryz.prog 45 #[.pointer (some ⟨p,0,none⟩)] w fun ev w'=>ev = .returned (.int .i64 z) ∧ ∃ q,w'=w.drewN q:=by
 have hI:(n:Int)<((n+1:Nat):Int):=by omega
 have hI0:(0:Int)≤(n:Int):=by omega
 go_enter Tryz.func45,Tryz.ntmps45
 go_wp2
 go_quiet (fail)
 go_wp2
 go_ret
 exact ⟨rfl,_,rfl⟩

def Thrown (B:Nat) (w:World) (i:Nat) (a0:Addr) (ev:Ending) (w':World):Prop:=
 ∃ b,ev = .panicked [{ v:=.iface 58 (.pointer (some ⟨b,0,none⟩)),recovered:=false }]∧Below B w w'∧w'.cell? ⟨b,0,none⟩=some (.int .i64 i)∧w'.cell? ⟨b,1,none⟩=some (.iface 163 (.pointer (some a0)))

theorem Thrown.after {B:Nat}{w w1:World}{i:Nat}{a0:Addr}{ev:Ending}{w':World} (hb:Below B w w1) (h:Thrown B w1 i a0 ev w'):Thrown B w i a0 ev w':=by
 obtain ⟨b,h1,h2,h3,h4⟩:=h
 exact ⟨b,h1,hb.trans h2,h3,h4⟩

set_option maxHeartbeats 400000 in
theorem next_some (p br bf:Nat) (s:ByteArray) (i:Nat) (w:World) (h:At p s i w) (hlt:i<s.size) (hr:w.cell? ⟨br,0,none⟩=some (.pointer (some ⟨p,0,none⟩))) (hbr:br≠p) :
  Calls Tryz.prog 89 #[.pointer (some ⟨br,0,none⟩),.pointer (some ⟨bf,0,none⟩)] w fun ev w'=>ev = .returned (.int .u8 (s[i].toNat:Int))∧Moved p w w' (i+1):=by
 have hM:=Moved.refl h.c1
 obtain ⟨hs,hat,c0,c1,f1⟩:=h
 have hI:(i:Int)<(s.size:Int):=by omega
 have hI0:(0:Int)≤(i:Int):=by omega
 have hne:((i:Int) == (s.size:Int))=false:=by simp;omega
 go_enter Tryz.func89,Tryz.ntmps89
 go_wp2
 go_quiet (fail)
 go_wp2
 have hm2:Moved p w ((w.drewN nq).setCell ⟨p,1,none⟩ (.int .i64 ((i:Int)+1))) (i+1):=(hM.drewN nq).trans (Moved.set (hM.drewN nq).at_ (i+1))
 generalize (w.drewN nq).setCell ⟨p,1,none⟩ (.int .i64 ((i:Int)+1))=w2 at hm2 ⊢
 have d0:w2.cell? ⟨p,0,none⟩=some (.string s):=(hm2.near 0 (by decide)).trans c0
 have d1:w2.cell? ⟨p,1,none⟩=some (.int .i64 ((i:Int)+1)):=hm2.at_
 have dr:w2.cell? ⟨br,0,none⟩=some (.pointer (some ⟨p,0,none⟩)):=(World.cell?_of_block (w:=w) (hm2.far br hbr)).trans hr
 clear c0 c1 f1 hr
 go_quiet (fail)
 go_wp2
 go_ret
 exact ⟨rfl,hm2.drewN _⟩

set_option maxHeartbeats 400000 in
theorem next_none (B p br bf:Nat) (s:ByteArray) (i from_:Nat) (a0:Addr) (w:World) (h:At p s i w) (hB:B≤w.heap.size) (hend:i=s.size) (hr:w.cell? ⟨br,0,none⟩=some (.pointer (some ⟨p,0,none⟩))) (hf:w.cell? ⟨bf,0,none⟩=some (.int .i64 from_)) (hg:w.cell? ⟨2,0,none⟩=some (.iface 163 (.pointer (some a0)))) :
  Calls Tryz.prog 89 #[.pointer (some ⟨br,0,none⟩),.pointer (some ⟨bf,0,none⟩)] w fun ev w'=>Thrown B w from_ a0 ev w':=by
 have hM:=Moved.refl h.c1
 obtain ⟨hs,hat,c0,c1,f1⟩:=h
 have heq:((i:Int) == (s.size:Int))=true:=by simp;omega
 clear hend
 go_enter Tryz.func89,Tryz.ntmps89
 go_wp2
 go_quiet (fail)
 go_wp2_with fail
 refine (none_any _ a0 _ (by exact hg)).mono ?_
 rintro ev w1 ⟨rfl,rfl⟩
 go_wp2_with fail
 exact ⟨rfl,w.heap.size,rfl,below_drewN' ((Below.refl _ _).alloc hB _),cell_new rfl rfl,cell_new rfl rfl⟩
end Go.Proofs.YtpcjcgkpjapbpaaGreatDoor
