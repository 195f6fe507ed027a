/- Small facts on cells and blocks (a program that does not reach plain.Code). -/
import Derived.Test.YtflcohidmemfpaaGreatDoorProg
import Derived.WalkKit
import Derived.LaidEql
import Derived.Stop.Asserts
import Derived.RowKitTokens
import Derived.Carry
import Derived.Test.YtflcohidmemfpaaGreatDoorRows
import Derived.Stop.LaidTwo
import Derived.Deep.RegionWith
import Derived.Deep.QuietTactic
import Derived.BigQuiet
import Derived.WalkSmall
import Derived.WalkSpells
import Derived.Deep.LoopGhost
set_option linter.all false
namespace Go.Proofs.YtflcohidmemfpaaGreatDoor
open Go.Proofs.Tryz
open Go.RowKit Go.Extern.Stop Go.Stop Go.Extern

theorem Z02 {w:World}{a:Addr}{v:Value} (h:w.cell? a=some v):a.block<w.heap.size:=by
 rcases Nat.lt_or_ge a.block w.heap.size with h1 | h1
 ·exact h1
 ·simp [World.cell?,Array.getElem?_eq_none h1] at h
theorem Z00 {w:World}{k:Nat}{o:Obj} (h:w.heap[k]?=some o):k<w.heap.size:=by
 rcases Nat.lt_or_ge k w.heap.size with h1 | h1
 ·exact h1
 ·rw [Array.getElem?_eq_none h1] at h;cases h
end Go.Proofs.YtflcohidmemfpaaGreatDoor
namespace Go.Proofs.YtflcohidmemfpaaGreatDoor
open Go.Proofs.Tryz
open Go.RowKit

theorem Zi9 {P:Program}{w:World}{l l':List (String × DataW Unit)} (h:l'.Sublist l):∀ ps,DataW.LaidVars P w l ps → ∃ qs,DataW.LaidVars P w l' qs∧qs.Sublist ps:=by
 induction h with
 | slnil=>intro ps hp;exact ⟨ps,hp,List.Sublist.refl _⟩
 | cons x _ ih =>
  intro ps hp
  obtain ⟨n,d⟩:=x
  obtain ⟨g,t,cs,fuel,p,q,_,_,_,_,hq,rfl⟩:=hp
  obtain ⟨qs,h1,h2⟩:=ih q hq
  exact ⟨qs,h1,h2.trans (List.sublist_append_right _ _)⟩
 | cons_cons x _ ih =>
  intro ps hp
  obtain ⟨n,d⟩:=x
  obtain ⟨g,t,cs,fuel,p,q,e1,e2,e3,e4,hq,rfl⟩:=hp
  obtain ⟨qs,h1,h2⟩:=ih q hq
  exact ⟨_,⟨g,t,cs,fuel,p,qs,e1,e2,e3,e4,h1,rfl⟩,(List.Sublist.refl _).append h2⟩

theorem Z3e {P:Program}{w:World}{l l':List (String × DataW Unit)} (h:l'.Sublist l) (hl:laidMet P l w):laidMet P l' w:=by
 obtain ⟨ps,h1,h2,h3⟩:=hl
 obtain ⟨qs,k1,k2⟩:=Zi9 h ps h1
 exact ⟨qs,k1,h2.sublist k2,fun b off hm=>h3 b off (k2.subset hm)⟩

theorem star : "*" ++ "errors.errorString" = "*errors.errorString" := by decide
theorem Zxj (u : TypeId) (h : prog.typeName? 3 u = some "*errors.errorString") : u = 214 :=
 typeName_ptr_named (nm := "errors.errorString") (by rw [star]; kernel_rfl) (by kernel_rfl) (by decide) u (by rw [star]; exact h)
theorem Zsf:prog.cellsOf 216=1:=by kernel_rfl
theorem Z9e:prog.cellsOf 9=1:=by kernel_rfl

def Zb3:Nat→String
 | 0 => "nurserypy/api.ErrText"
 | 1 => "nurserypy/api.ErrBound"
 | _ => "nurserypy/api.ErrShape"
def Z9w:Nat→Nat
 | 0=>3
 | 1=>2
 | _=>1
def Zkz:Nat→List UInt8
 | 0 => [116,101,120,116]
 | 1 => [98,111,117,110,100]
 | _ => [115,104,97,112,101]
def Zlk (i:Nat):ByteArray:=⟨([110,117,114,115,101,114,121,112,121,58,32]++Zkz i).toArray⟩
def Zfp (i : Nat) : String × DataW Unit := (Zb3 i, .iface "*errors.errorString" (.ptr (.agg [.lit (.string ([110, 117, 114, 115, 101, 114, 121, 112, 121, 58, 32] ++ Zkz i))])))

theorem Ze4 (i:Nat) (hi:i<3):prog.globalNamed (Zb3 i)=some (Z9w i):=by
 iterate 3 (rcases i with _ | i;· kernel_rfl)
 omega
theorem Zpl (i:Nat) (hi:i<3):(prog.globals[Z9w i]?).map (·.type)=some 27:=by
 iterate 3 (rcases i with _ | i;· kernel_rfl)
 omega

theorem Zeu {W:World} (i:Nat) (hi:i<3) (h:laidMet prog [Zfp i] W):∃ a:Addr,W.var? prog (Zb3 i)=some #[.iface 214 (.pointer (some a))]∧W.cell? a=some (.string (Zlk i)):=by
 obtain ⟨a,s,h1,h2,h3,_⟩:=laid_sentinel h (Ze4 i hi) (Zpl i hi) underlying27 Zxj underlying214 underlying216 rfl rfl underlying9 Zsf Z9e
 refine ⟨a,h1,?_⟩
 rw [h2]
 congr 2
 apply ByteArray.ext
 show s.data=_
 rw [←Array.toList_inj,h3]
 simp [Zlk]

theorem Zcu {W:World} (i:Nat) (hi:i<3) (a:Addr) (ha:W.var? prog (Zb3 i)=some #[.iface 214 (.pointer (some a))]):W.cell? ⟨Z9w i,0,none⟩=some (.iface 214 (.pointer (some a))):=by
 simpa using World.var?_cell (Ze4 i hi) ha 0

end Go.Proofs.YtflcohidmemfpaaGreatDoor
namespace Go.Proofs.YtflcohidmemfpaaGreatDoor
open Go.Proofs.Tryz
open Go.RowKit

theorem Z3a (at_:Int) (a0:Addr) (w:World) (h:w.cell? ⟨3,0,none⟩=some (.iface 214 (.pointer (some a0)))) :
  Calls prog 75 #[.int .i64 at_] w fun ev w'=>ev = .returned (.pointer (some ⟨w.heap.size,0,none⟩))∧w'=w.alloc (.cells #[.int .i64 at_,.iface 214 (.pointer (some a0))] 63):=by
 go_enter func75,ntmps75
 go_wp2
 go_ret
 exact ⟨rfl,rfl⟩

def Z32 (b:Int):Bool:=(decide (97≤b) && decide (b≤122)) || b == 95
def Z1n (b:Int):Bool:=decide (65≤b) && decide (b≤90)
def Z1f (b:Int):Bool:=decide (48≤b) && decide (b≤57)
def Z55 (b:Int):Bool:=Z32 b || Z1f b
def Zhy (b:Int):Bool:=b == 32
def Z87 (b:Int):Bool:=b != 10

theorem Z3c {x y:Bool} (h:x=y):Ending.returned (.bool x) = .returned (.bool y):=by rw [h]

theorem Z5k (b:Int) (w:World):Calls prog 103 #[.int .u8 b] w fun ev w'=>ev = .returned (.bool (Z32 b))∧w'=w:=by
 go_enter func103,ntmps103
 go_wp2
 all_goals go_ret
 all_goals refine ⟨Z3c ?_,rfl⟩
 all_goals rw [Bool.eq_iff_iff]
 all_goals simp [Z32]
 all_goals omega
theorem Z40 (b:Int) (w:World):Calls prog 104 #[.int .u8 b] w fun ev w'=>ev = .returned (.bool (Z1n b))∧w'=w:=by
 go_enter func104,ntmps104
 go_wp2
 all_goals go_ret
 all_goals refine ⟨Z3c ?_,rfl⟩
 all_goals rw [Bool.eq_iff_iff]
 all_goals simp [Z1n]
 all_goals omega
theorem Z4x (b:Int) (w:World):Calls prog 106 #[.int .u8 b] w fun ev w'=>ev = .returned (.bool (Z1f b))∧w'=w:=by
 go_enter func106,ntmps106
 go_wp2
 all_goals go_ret
 all_goals refine ⟨Z3c ?_,rfl⟩
 all_goals rw [Bool.eq_iff_iff]
 all_goals simp [Z1f]
 all_goals omega
theorem Zs4 (b:Int) (w:World):Calls prog 101 #[.int .u8 b] w fun ev w'=>ev = .returned (.bool (Zhy b))∧w'=w:=by
 go_enter func101,ntmps101
 go_wp2
 go_ret
 exact ⟨rfl,rfl⟩
theorem Ziz (b:Int) (w:World):Calls prog 102 #[.int .u8 b] w fun ev w'=>ev = .returned (.bool (Z87 b))∧w'=w:=by
 go_enter func102,ntmps102
 go_wp2
 go_ret
 exact ⟨rfl,rfl⟩
theorem Zvd (b:Int) (w:World):Calls prog 135 #[.int .u8 b] w fun ev w'=>ev = .returned (.bool (Z55 b))∧w'=w:=by
 cases h:Z32 b
 all_goals
  go_enter func135,ntmps135
  go_wp2_with (first | (go_at_call 103;refine (Z5k _ _).mono ?_;rintro e w' ⟨rfl,rfl⟩) | (go_at_call 106;refine (Z4x _ _).mono ?_;rintro e w' ⟨rfl,rfl⟩))
  go_ret
  exact ⟨Z3c (by simp [Z55,h]),rfl⟩

structure Moved (p:Nat) (w w':World) (j:Nat):Prop where
 os:w'.os=w.os
 tape:w'.tape=w.tape
 output:w'.output=w.output
 size:w'.heap.size=w.heap.size
 far:∀ k,k≠p→w'.heap[k]?=w.heap[k]?
 at_:w'.cell? ⟨p,1,none⟩=some (.int .i64 j)
 near:∀ o,o≠1→w'.cell? ⟨p,o,none⟩=w.cell? ⟨p,o,none⟩
 fz:∀ o,w'.frozen? ⟨p,o,none⟩=w.frozen? ⟨p,o,none⟩

theorem Moved.refl {p:Nat}{w:World}{j:Nat} (h:w.cell? ⟨p,1,none⟩=some (.int .i64 j)):Moved p w w j:=
 ⟨rfl,rfl,rfl,rfl,fun _ _=>rfl,h,fun _ _=>rfl,fun _=>rfl⟩
theorem Moved.trans {p:Nat}{w w1 w2:World}{i j:Nat} (h:Moved p w w1 i) (k:Moved p w1 w2 j):Moved p w w2 j:=
 ⟨k.os.trans h.os,k.tape.trans h.tape,k.output.trans h.output,k.size.trans h.size,fun x hx=>(k.far x hx).trans (h.far x hx),k.at_,fun o ho=>(k.near o ho).trans (h.near o ho),fun o=>(k.fz o).trans (h.fz o)⟩
theorem Moved.drewN {p:Nat}{w w1:World}{i:Nat} (h:Moved p w w1 i) (q:Nat):Moved p w (w1.drewN q) i:=
 ⟨h.os,h.tape,h.output,h.size,h.far,h.at_,h.near,h.fz⟩
theorem Moved.drew {p:Nat}{w w1:World}{i:Nat} (h:Moved p w w1 i):Moved p w w1.drew i:=
 ⟨h.os,h.tape,h.output,h.size,h.far,h.at_,h.near,h.fz⟩
theorem Moved.set {p:Nat}{w:World}{u:Value} (h:w.cell? ⟨p,1,none⟩=some u) (j:Nat):Moved p w (w.setCell ⟨p,1,none⟩ (.int .i64 j)) j where
 os:=rfl
 tape:=rfl
 output:=rfl
 size:=by simp [World.setCell]
 far:=fun k hk=>Below.heap_setCell _ _ _ _ hk
 at_:=World.cell?_setCell_same _ _ _ h
 near:=fun o ho=>World.cell?_setCell_other _ _ _ _ (by intro e;exact ho (by simpa using e.symm))
 fz:=fun o=>by
  simp only [World.setCell,World.frozen?,Array.getElem?_modify]
  simp only [if_true]
  cases w.heap[p]? with
  | none=>rfl
  | some x=>cases x <;> rfl
theorem Moved.below {p B:Nat}{w w':World}{j:Nat} (h:Moved p w w' j) (hp:B≤p):Below B w w':=
 ⟨h.os,h.tape,h.output,Nat.le_of_eq h.size.symm,fun k hk=>h.far k (by omega)⟩

def Z16 (P:Int→Bool) (s:ByteArray):Nat→Nat→Nat
 | 0,i=>i
 | n+1,i=>if h:i<s.size then (if P (s[i].toNat:Int) then Z16 P s n (i+1) else i) else i

theorem Z29 (P:Int→Bool) (s:ByteArray):∀ n i,i≤Z16 P s n i∧(i≤s.size→Z16 P s n i≤s.size)
 | 0,i=>⟨Nat.le_refl _,fun h=>h⟩
 | n+1,i=>by
  unfold Z16
  split
  ·split
   ·have:=Z29 P s n (i+1)
    exact ⟨by omega,fun h=>this.2 (by omega)⟩
   ·exact ⟨Nat.le_refl _,fun h=>h⟩
  ·exact ⟨Nat.le_refl _,fun h=>h⟩

theorem Z8k {P:Int→Bool}{s:ByteArray}{i:Nat} (h:i<s.size) (hP:P (s[i].toNat:Int)=true):Z16 P s (s.size - i) i=Z16 P s (s.size - (i+1)) (i+1):=by
 obtain ⟨n,hn⟩:∃ n,s.size - i=n+1:=⟨s.size - i - 1,by omega⟩
 rw [hn,show s.size - (i+1)=n by omega]
 simp [Z16,h,hP]
theorem Z84 {P:Int→Bool}{s:ByteArray}{i:Nat} (h:i<s.size) (hP:P (s[i].toNat:Int)=false):Z16 P s (s.size - i) i=i:=by
 obtain ⟨n,hn⟩:∃ n,s.size - i=n+1:=⟨s.size - i - 1,by omega⟩
 rw [hn]
 simp [Z16,h,hP]
theorem Zea {P:Int→Bool}{s:ByteArray}{i:Nat} (h:i=s.size):Z16 P s (s.size - i) i=i:=by
 subst h
 simp [Z16]

theorem Zxl (args:Array Value) (w:World):(callFunc 101 args).run prog w = .ok (.enter 101 args) w:=by kernel_rfl

set_option maxHeartbeats 400000 in
theorem Zaz (K:FuncId) (P:Int→Bool) (hE:∀ args w,(callFunc K args).run prog w = .ok (.enter K args) w) (hK:∀ b w,Calls prog K #[.int .u8 b] w fun ev w'=>ev = .returned (.bool (P b))∧w'=w)
  (p:Nat) (s:ByteArray) (at_:Nat) (w:World) (hs:s.size≤6000) (hat:at_≤s.size) (c0:w.cell? ⟨p,0,none⟩=some (.string s)) (c1:w.cell? ⟨p,1,none⟩=some (.int .i64 at_)) (f1:w.frozen? ⟨p,1,none⟩=false) :
  Calls prog 100 #[.pointer (some ⟨p,0,none⟩),.func (.func K) #[] #[]] w fun ev w'=>ev = .returned (.int .i64 ((Z16 P s (s.size - at_) at_:Nat) - (at_:Int)))∧Moved p w w' (Z16 P s (s.size - at_) at_):=by
 have HK:Hid (∀ b w,Calls prog K #[.int .u8 b] w fun ev w'=>ev = .returned (.bool (P b))∧w'=w):=hK
 clear hK
 have hM:=Moved.refl c1
 go_enter func100,ntmps100
 go_wp2
 go_loopg [] (s.size - at_) (fun k wr => ∃ i:Nat,k=s.size - i∧at_≤i∧i≤s.size∧Z16 P s (s.size - i) i=Z16 P s (s.size - at_) at_∧Moved p w wr i)
 case atStart=>exact ⟨at_,rfl,Nat.le_refl _,hat,rfl,hM⟩
 case round =>
  obtain ⟨i,hk,hi1,hi2,hpass,hm⟩:=hrel
  have HP:Hid (Z16 P s (s.size - i) i=Z16 P s (s.size - at_) at_):=hpass
  have HG:Hid (gk=s.size - i):=hk
  clear hpass hk hM c1
  have d0:wr.cell? ⟨p,0,none⟩=some (.string s):=(hm.near 0 (by decide)).trans c0
  have d1:=hm.at_
  have g1:wr.frozen? ⟨p,1,none⟩=false:=(hm.fz 1).trans f1
  by_cases hlt:i<s.size
  ·have hI:(i:Int)<(s.size:Int):=by omega
   have hI0:(0:Int)≤(i:Int):=by omega
   cases hP:P (s[i].toNat:Int)
   ·go_wp2
    go_quiet ((exact Calls.quiet_of_same (HK.out _ _)))
    go_wp2
    go_ret
    have e:Z16 P s (s.size - at_) at_=i:=HP.out.symm.trans (Z84 hlt hP)
    rw [e]
    exact ⟨rfl,hm.drewN _⟩
   ·go_wp2
    go_quiet ((exact Calls.quiet_of_same (HK.out _ _)))
    go_wp2
    go_roundg (s.size - (i+1))
    case measure=>have:=HG.out;omega
    case rel=>exact ⟨i+1,rfl,by omega,by omega,(Z8k hlt hP).symm.trans HP.out,(hm.drewN _).trans (Moved.set (hm.drewN _).at_ (i+1))⟩
  ·have hEq:i=s.size:=by omega
   have hd:decide ((i:Int)<(s.size:Int))=false:=by simp;omega
   have HQ:Hid (i=s.size):=hEq
   clear hEq
   go_wp2
   go_quiet (fail)
   go_wp2
   go_ret
   have e:Z16 P s (s.size - at_) at_=i:=HP.out.symm.trans (Zea HQ.out)
   rw [e]
   exact ⟨rfl,hm.drewN _⟩
end Go.Proofs.YtflcohidmemfpaaGreatDoor
namespace Go.Proofs.YtflcohidmemfpaaGreatDoor
open Go.Proofs.Tryz
open Go.RowKit

theorem Zgq (args:Array Value) (w:World):(callFunc 102 args).run prog w = .ok (.enter 102 args) w:=by kernel_rfl
theorem Zqe (args:Array Value) (w:World):(callFunc 135 args).run prog w = .ok (.enter 135 args) w:=by kernel_rfl
theorem Zmu (args:Array Value) (w:World):(callFunc 106 args).run prog w = .ok (.enter 106 args) w:=by kernel_rfl

def Z1d (s:ByteArray) (i:Nat):Nat:=Z16 Zhy s (s.size - i) i
def Z17 (s:ByteArray) (i:Nat):Nat:=if h:i<s.size then (if (s[i].toNat:Int) == 35 then Z16 Z87 s (s.size - i) i else i) else i
def Z2d (s:ByteArray) (i:Nat):Bool:=if h:i<s.size then (s[i].toNat:Int) == 10 else true

theorem Z4p (s:ByteArray) (i:Nat) (h:i≤s.size):i≤Z1d s i∧Z1d s i≤s.size:=⟨(Z29 _ _ _ _).1,(Z29 _ _ _ _).2 h⟩
theorem Zga (s:ByteArray) (i:Nat) (h:i≤s.size):i≤Z17 s i∧Z17 s i≤s.size:=by
 unfold Z17
 split
 ·split
  ·exact ⟨(Z29 _ _ _ _).1,(Z29 _ _ _ _).2 h⟩
  ·exact ⟨Nat.le_refl _,h⟩
 ·exact ⟨Nat.le_refl _,h⟩

structure At (p:Nat) (s:ByteArray) (at_:Nat) (w:World):Prop where
 hs:s.size≤6000
 hat:at_≤s.size
 c0:w.cell? ⟨p,0,none⟩=some (.string s)
 c1:w.cell? ⟨p,1,none⟩=some (.int .i64 at_)
 f1:w.frozen? ⟨p,1,none⟩=false

theorem At.moved {p:Nat}{s:ByteArray}{i j:Nat}{w w':World} (h:At p s i w) (hm:Moved p w w' j) (hj:j≤s.size):At p s j w':=
 ⟨h.hs,hj,(hm.near 0 (by decide)).trans h.c0,hm.at_,(hm.fz 1).trans h.f1⟩

theorem Z44 (p:Nat) (s:ByteArray) (i:Nat) (w:World) (h:At p s i w) :
  Calls prog 71 #[.pointer (some ⟨p,0,none⟩)] w fun ev w'=>ev = .returned (.int .i64 ((Z1d s i:Nat) - (i:Int)))∧Moved p w w' (Z1d s i):=by
 go_enter func71,ntmps71
 go_wp2_with fail
 refine (Zaz 101 Zhy Zxl Zs4 p s i _ h.hs h.hat h.c0 h.c1 h.f1).mono ?_
 rintro ev w1 ⟨rfl,hm⟩
 go_wp2_with fail
 go_ret
 exact ⟨rfl,hm⟩

set_option maxHeartbeats 400000 in
theorem Z7q (p:Nat) (s:ByteArray) (i:Nat) (w:World) (h:At p s i w) (hc:∀ hi:i<s.size,((s[i].toNat:Int) == 35)=false) :
  Calls prog 72 #[.pointer (some ⟨p,0,none⟩)] w fun ev w'=>ev = .returned (.bool (Z2d s i))∧Moved p w w' i:=by
 have hM:=Moved.refl h.c1
 obtain ⟨hs,hat,c0,c1,f1⟩:=h
 by_cases hlt:i<s.size
 ·have hI:(i:Int)<(s.size:Int):=by omega
  have hI0:(0:Int)≤(i:Int):=by omega
  have hne:((i:Int) == (s.size:Int))=false:=by simp;omega
  have hc':=hc hlt
  clear hc
  go_enter func72,ntmps72
  go_wp2
  go_quiet (fail)
  go_wp2
  go_quiet (fail)
  go_wp2
  go_ret
  exact ⟨Z3c (by simp [Z2d,hlt]),(hM.drewN _).drewN _⟩
 ·have hd:decide ((i:Int)<(s.size:Int))=false:=by simp;omega
  have heq:((i:Int) == (s.size:Int))=true:=by simp;omega
  clear hc
  go_enter func72,ntmps72
  go_wp2
  go_quiet (fail)
  go_wp2
  go_quiet (fail)
  go_wp2
  go_ret
  exact ⟨Z3c (by simp [Z2d,hlt]),(hM.drewN _).drewN _⟩

theorem Z5c {B:Nat}{a w:World}{o:Obj}{q:Nat} (h:Below B a (w.alloc o)):Below B a ((w.drewN q).alloc o):=⟨h.os,h.tape,h.output,h.size,h.block⟩
theorem Z18 {w:World}{c:Array Value}{t:TypeId}{n i:Nat}{v:Value} (hn:n=w.heap.size) (h:c[i]?=some v):(w.alloc (.cells c t)).cell? ⟨n,i,none⟩=some v:=by
 rw [World.cell?_alloc_at _ _ _ _ hn];exact h
theorem At.drewN {p:Nat}{s:ByteArray}{i:Nat}{w:World} (h:At p s i w) (q:Nat):At p s i (w.drewN q):=⟨h.hs,h.hat,h.c0,h.c1,h.f1⟩

set_option maxHeartbeats 400000 in
theorem Zaq (p:Nat) (s:ByteArray) (i:Nat) (w:World) (h:At p s i w) (hlt:i<s.size) (hc:((s[i].toNat:Int) == 35)=true) :
  Calls prog 72 #[.pointer (some ⟨p,0,none⟩)] w fun ev w'=>ev = .returned (.bool (Z2d s (Z16 Z87 s (s.size - i) i)))∧Moved p w w' (Z16 Z87 s (s.size - i) i):=by
 have hM:=Moved.refl h.c1
 have hA:=h
 have hle:=(Z29 Z87 s (s.size - i) i).2 h.hat
 obtain ⟨hs,hat,c0,c1,f1⟩:=h
 have hI:(i:Int)<(s.size:Int):=by omega
 have hI0:(0:Int)≤(i:Int):=by omega
 go_enter func72,ntmps72
 go_wp2
 go_quiet (fail)
 go_wp2_with fail
 refine (Zaz 102 Z87 Zgq Ziz p s i _ hs hat (hA.drewN _).c0 (hA.drewN _).c1 (hA.drewN _).f1).mono ?_
 rintro ev w1 ⟨rfl,hm⟩
 generalize hjj:Z16 Z87 s (s.size - i) i=j at hm hle ⊢
 have HJ:Hid (Z16 Z87 s (s.size - i) i=j):=hjj
 clear hjj
 have hB:=(hA.drewN nq).moved hm hle
 obtain ⟨_,_,d0,d1,_⟩:=hB
 clear c0 c1 f1 hc
 by_cases hj:j<s.size
 ·have hJ:(j:Int)<(s.size:Int):=by omega
  have hJ0:(0:Int)≤(j:Int):=by omega
  have hne:((j:Int) == (s.size:Int))=false:=by simp;omega
  go_wp2
  go_quiet (fail)
  go_wp2
  go_ret
  rw [HJ.out]
  exact ⟨Z3c (by simp [Z2d,hj]),((hM.drewN _).trans hm).drewN _⟩
 ·have heq:((j:Int) == (s.size:Int))=true:=by simp;omega
  go_wp2
  go_quiet (fail)
  go_wp2
  go_ret
  rw [HJ.out]
  exact ⟨Z3c (by simp [Z2d,hj]),((hM.drewN _).trans hm).drewN _⟩

theorem Z6w (p:Nat) (s:ByteArray) (i:Nat) (w:World) (h:At p s i w) :
  Calls prog 72 #[.pointer (some ⟨p,0,none⟩)] w fun ev w'=>ev = .returned (.bool (Z2d s (Z17 s i)))∧Moved p w w' (Z17 s i):=by
 by_cases hlt:i<s.size
 ·cases hc:((s[i].toNat:Int) == 35)
  ·have e:Z17 s i=i:=by simp [Z17,hlt,hc]
   rw [e]
   exact Z7q p s i w h (fun _=>hc)
  ·have e:Z17 s i=Z16 Z87 s (s.size - i) i:=by simp [Z17,hlt,hc]
   rw [e]
   exact Zaq p s i w h hlt hc
 ·have e:Z17 s i=i:=by simp [Z17,hlt]
  rw [e]
  exact Z7q p s i w h (fun hi=>absurd hi hlt)

theorem Zfv (p:Nat) (w:World) (g n cap:Nat) (z:Int) (hn:n≤100000) (c2:w.cell? ⟨p,2,none⟩=some (.slice (some ⟨g,0,none⟩) (n+1) cap)) (hz:w.cell? ⟨g,n,none⟩=some (.int .i64 z)) :
  Calls prog 74 #[.pointer (some ⟨p,0,none⟩)] w fun ev w'=>ev = .returned (.int .i64 z) ∧ ∃ q,w'=w.drewN q:=by
 have hI:(n:Int)<((n+1:Nat):Int):=by omega
 have hI0:(0:Int)≤(n:Int):=by omega
 go_enter func74,ntmps74
 go_wp2
 go_quiet (fail)
 go_wp2
 go_ret
 exact ⟨rfl,_,rfl⟩

def Z3h (B:Nat) (w:World) (i:Nat) (a0:Addr) (ev:Ending) (w':World):Prop:=
 ∃ b,ev = .panicked [{ v:=.iface 61 (.pointer (some ⟨b,0,none⟩)),recovered:=false }]∧Below B w w'∧w'.cell? ⟨b,0,none⟩=some (.int .i64 i)∧w'.cell? ⟨b,1,none⟩=some (.iface 214 (.pointer (some a0)))

theorem Z3h.after {B:Nat}{w w1:World}{i:Nat}{a0:Addr}{ev:Ending}{w':World} (hb:Below B w w1) (h:Z3h B w1 i a0 ev w'):Z3h B w i a0 ev w':=by
 obtain ⟨b,h1,h2,h3,h4⟩:=h
 exact ⟨b,h1,hb.trans h2,h3,h4⟩

set_option maxHeartbeats 400000 in
theorem Z1p (p br bf:Nat) (s:ByteArray) (i:Nat) (w:World) (h:At p s i w) (hlt:i<s.size) (hr:w.cell? ⟨br,0,none⟩=some (.pointer (some ⟨p,0,none⟩))) (hbr:br≠p) :
  Calls prog 138 #[.pointer (some ⟨br,0,none⟩),.pointer (some ⟨bf,0,none⟩)] w fun ev w'=>ev = .returned (.int .u8 (s[i].toNat:Int))∧Moved p w w' (i+1):=by
 have hM:=Moved.refl h.c1
 obtain ⟨hs,hat,c0,c1,f1⟩:=h
 have hI:(i:Int)<(s.size:Int):=by omega
 have hI0:(0:Int)≤(i:Int):=by omega
 have hne:((i:Int) == (s.size:Int))=false:=by simp;omega
 go_enter func138,ntmps138
 go_wp2
 go_quiet (fail)
 go_wp2
 have hm2:Moved p w ((w.drewN nq).setCell ⟨p,1,none⟩ (.int .i64 ((i:Int)+1))) (i+1):=(hM.drewN nq).trans (Moved.set (hM.drewN nq).at_ (i+1))
 generalize (w.drewN nq).setCell ⟨p,1,none⟩ (.int .i64 ((i:Int)+1))=w2 at hm2 ⊢
 have d0:w2.cell? ⟨p,0,none⟩=some (.string s):=(hm2.near 0 (by decide)).trans c0
 have d1:w2.cell? ⟨p,1,none⟩=some (.int .i64 ((i:Int)+1)):=hm2.at_
 have dr:w2.cell? ⟨br,0,none⟩=some (.pointer (some ⟨p,0,none⟩)):=(World.cell?_of_block (w:=w) (hm2.far br hbr)).trans hr
 clear c0 c1 f1 hr
 go_quiet (fail)
 go_wp2
 go_ret
 exact ⟨rfl,hm2.drewN _⟩

set_option maxHeartbeats 400000 in
theorem Z5p (B p br bf:Nat) (s:ByteArray) (i from_:Nat) (a0:Addr) (w:World) (h:At p s i w) (hB:B≤w.heap.size) (hend:i=s.size) (hr:w.cell? ⟨br,0,none⟩=some (.pointer (some ⟨p,0,none⟩))) (hf:w.cell? ⟨bf,0,none⟩=some (.int .i64 from_)) (hg:w.cell? ⟨3,0,none⟩=some (.iface 214 (.pointer (some a0)))) :
  Calls prog 138 #[.pointer (some ⟨br,0,none⟩),.pointer (some ⟨bf,0,none⟩)] w fun ev w'=>Z3h B w from_ a0 ev w':=by
 have hM:=Moved.refl h.c1
 obtain ⟨hs,hat,c0,c1,f1⟩:=h
 have heq:((i:Int) == (s.size:Int))=true:=by simp;omega
 clear hend
 go_enter func138,ntmps138
 go_wp2
 go_quiet (fail)
 go_wp2_with fail
 refine (Z3a _ a0 _ (by exact hg)).mono ?_
 rintro ev w1 ⟨rfl,rfl⟩
 go_wp2_with fail
 exact ⟨rfl,w.heap.size,rfl,Z5c ((Below.refl _ _).alloc hB _),Z18 rfl rfl,Z18 rfl rfl⟩
end Go.Proofs.YtflcohidmemfpaaGreatDoor
