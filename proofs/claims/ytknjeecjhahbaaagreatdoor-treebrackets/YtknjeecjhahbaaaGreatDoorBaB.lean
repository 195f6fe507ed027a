/- errors.Is, at the errors that this program makes, by contracts. -/
import Derived.Test.YtknjeecjhahbaaaGreatDoorBaA
import Derived.Carry
import Derived.Test.YtknjeecjhahbaaaGreatDoorRows
import Derived.Stop.LaidTwo
import Derived.LaidHandle
set_option linter.all false
namespace Go.Proofs.YtknjeecjhahbaaaGreatDoor
open Go.RowKit Go.Extern.Stop Go.Stop Go.Extern

theorem is_wrap_same (p:Addr) (b:Addr) (w:World) (hp:p.spot=none) (h1:w.cell? ⟨p.block,p.off+1,none⟩=some (.iface 199 (.pointer (some b)))) :
  Calls Tryz.prog 60 #[.iface 59 (.pointer (some p)),.iface 199 (.pointer (some b))] w fun e w'=>e = .returned (.bool true)∧w'=w:=by
 obtain ⟨pb,po,pk⟩:=p
 obtain rfl:pk=none:=hp
 obtain ⟨i,hi,hcmp⟩:=Option.map_eq_some_iff.1 infoSp
 obtain ⟨j,hj,hjs⟩:=Option.map_eq_some_iff.1 infoS
 have hTO:=@run_callFunc_extern Tryz.prog 91 _ ReflectliteType.typeOf Tryz.func91 (by kernel_rfl) (by kernel_rfl) (by kernel_rfl) (by kernel_rfl)
 have hRC := @run_callFunc_extern Tryz.prog 193 _ (ReflectliteType.method fun t => do Rtype.noPackHeld "Comparable" t; pure (.bool (← typeInfo t).comparable)) Tryz.func193 (by kernel_rfl) (by kernel_rfl) (by kernel_rfl) (by kernel_rfl)
 have c1:=tOfSent
 have c2:=cmpSent
 have c3:=mCmp
 have c4:=noIsFault
 have c5:=hasUnFault
 have c6:=mUnFault
 have heq:=run_eql_iface_ptr_same (P:=Tryz.prog) w b Tryz.underlying32 Tryz.underlying199 hi hcmp hj
 have hty:=run_eql_iface_types (P:=Tryz.prog) 59 199 (.pointer (some ⟨pb,po,none⟩)) (.pointer (some b)) Tryz.underlying32 (by decide) w
 go_enter Tryz.func60,Tryz.ntmps60
 go_wp2
 refine wp_loop_rounds 2 ?_
 rw [rounds_succ]
 go_wp2
 rw [rounds_succ]
 go_wp2
 go_ret
 exact ⟨rfl,rfl⟩

theorem is_wrap_other (p:Addr) (b a:Addr) (ca cb:Array Value) (ta tb:TypeId) (w:World) (hp:p.spot=none) (h1:w.cell? ⟨p.block,p.off+1,none⟩=some (.iface 199 (.pointer (some a)))) (hne:a≠b) (ha:w.heap[a.block]?=some (.cells ca ta (0,0))) (hb:w.heap[b.block]?=some (.cells cb tb (0,0))) :
  Calls Tryz.prog 60 #[.iface 59 (.pointer (some p)),.iface 199 (.pointer (some b))] w fun e w'=>e = .returned (.bool false)∧w'=w:=by
 obtain ⟨pb,po,pk⟩:=p
 obtain rfl:pk=none:=hp
 obtain ⟨i,hi,hcmp⟩:=Option.map_eq_some_iff.1 infoSp
 obtain ⟨j,hj,hjs⟩:=Option.map_eq_some_iff.1 infoS
 have hTO:=@run_callFunc_extern Tryz.prog 91 _ ReflectliteType.typeOf Tryz.func91 (by kernel_rfl) (by kernel_rfl) (by kernel_rfl) (by kernel_rfl)
 have hRC := @run_callFunc_extern Tryz.prog 193 _ (ReflectliteType.method fun t => do Rtype.noPackHeld "Comparable" t; pure (.bool (← typeInfo t).comparable)) Tryz.func193 (by kernel_rfl) (by kernel_rfl) (by kernel_rfl) (by kernel_rfl)
 have c1:=tOfSent
 have c2:=cmpSent
 have c3:=mCmp
 have c4:=noIsSent
 have c5:=noUnSent
 have c6:=noUnsSent
 have c7:=noIsFault
 have c8:=hasUnFault
 have c9:=mUnFault
 have heq:=run_eql_iface_ptr_other (P:=Tryz.prog) w Tryz.underlying32 Tryz.underlying199 hi hcmp hj (by rw [hjs];decide) hne ha hb
 have hty:=run_eql_iface_types (P:=Tryz.prog) 59 199 (.pointer (some ⟨pb,po,none⟩)) (.pointer (some b)) Tryz.underlying32 (by decide) w
 go_enter Tryz.func60,Tryz.ntmps60
 go_wp2
 refine wp_loop_rounds 2 ?_
 rw [rounds_succ]
 go_wp2
 rw [rounds_succ]
 go_wp2
 go_ret
 exact ⟨rfl,rfl⟩
end Go.Proofs.YtknjeecjhahbaaaGreatDoor
namespace Go.Proofs.YtknjeecjhahbaaaGreatDoor
open Go.RowKit Go.Extern.Stop Go.Stop Go.Extern

structure Errs (a:Nat→Addr) (w:World):Prop where
 h:w.cell? ⟨7,0,none⟩=some (.iface 143 (.agg #[.pointer (some ⟨16,32,none⟩)]))
 c0:w.cell? ⟨2,0,none⟩=some (.iface 199 (.pointer (some (a 0))))
 c1:w.cell? ⟨1,0,none⟩=some (.iface 199 (.pointer (some (a 1))))
 c2:w.cell? ⟨0,0,none⟩=some (.iface 199 (.pointer (some (a 2))))
 c3:w.cell? ⟨3,0,none⟩=some (.iface 199 (.pointer (some (a 3))))
 c4:w.cell? ⟨4,0,none⟩=some (.iface 199 (.pointer (some (a 4))))
 c5:w.cell? ⟨5,0,none⟩=some (.iface 199 (.pointer (some (a 5))))
 c6:w.cell? ⟨6,0,none⟩=some (.iface 199 (.pointer (some (a 6))))
 b:∀ i,i<7 → ∃ c t,w.heap[(a i).block]?=some (.cells c t (0,0))
 ne:∀ i j,i<7→j<7→i≠j→a i≠a j

theorem lt_of_heap {w:World}{k:Nat}{o:Obj} (h:w.heap[k]?=some o):k<w.heap.size:=by
 rcases Nat.lt_or_ge k w.heap.size with h1 | h1
 ·exact h1
 ·rw [Array.getElem?_eq_none h1] at h;cases h

theorem Errs.below {a:Nat→Addr}{w w':World} (E:Errs a w) (hb:Below w.heap.size w w'):Errs a w' where
 h:=(hb.cell (p:=⟨7,0,none⟩) (lt_of_cell E.h)).trans E.h
 c0:=(hb.cell (p:=⟨2,0,none⟩) (lt_of_cell E.c0)).trans E.c0
 c1:=(hb.cell (p:=⟨1,0,none⟩) (lt_of_cell E.c1)).trans E.c1
 c2:=(hb.cell (p:=⟨0,0,none⟩) (lt_of_cell E.c2)).trans E.c2
 c3:=(hb.cell (p:=⟨3,0,none⟩) (lt_of_cell E.c3)).trans E.c3
 c4:=(hb.cell (p:=⟨4,0,none⟩) (lt_of_cell E.c4)).trans E.c4
 c5:=(hb.cell (p:=⟨5,0,none⟩) (lt_of_cell E.c5)).trans E.c5
 c6:=(hb.cell (p:=⟨6,0,none⟩) (lt_of_cell E.c6)).trans E.c6
 b:=fun i hi=>by
  obtain ⟨c,t,h⟩:=E.b i hi
  exact ⟨c,t,(hb.block _ (lt_of_heap h)).trans h⟩
 ne:=E.ne

def codeOf (is:Nat→Bool):Int:=if is 0 then 1 else if is 1 then 2 else if is 2 then 3 else if is 3 then 4 else if is 4 then 5 else if is 5 then 6 else if is 6 then 7 else -1

theorem as_hit' (e t:Addr) (old:Value) (w:World) (hg:w.cell? ⟨7,0,none⟩=some (.iface 143 (.agg #[.pointer (some ⟨16,32,none⟩)]))) (ht0:w.cell? t=some old) (hf0:w.frozen? t=false) :
  Calls Tryz.prog 59 #[.iface 59 (.pointer (some e)),.iface 100 (.pointer (some t))] w fun ev w'=>ev = .returned (.bool true)∧Below t.block w w'∧w'.cell? t=some (.pointer (some e)):=by
 have htl:t.block<w.heap.size:=lt_of_cell ht0
 refine (as_hit e t old w hg ht0 hf0).mono ?_
 rintro ev w' ⟨h1,h2⟩
 subst h2
 refine ⟨h1,?_,?_⟩
 ·exact (((((Below.refl _ _).alloc (by omega) _).alloc (by simp;omega) _).alloc (by simp;omega) _).alloc (by simp;omega) _).setCell (Nat.le_refl _) _
 ·refine World.cell?_setCell_same _ _ _ (u:=old) ?_
  rw [World.cell?_alloc_lt _ _ t (by simp;omega),World.cell?_alloc_lt _ _ t (by simp;omega),World.cell?_alloc_lt _ _ t (by simp;omega),World.cell?_alloc_lt _ _ t htl];exact ht0

set_option maxHeartbeats 4000000 in
theorem code_hit (a:Nat→Addr) (pb po:Nat) (at_:Int) (is:Nat→Bool) (w:World) (E:Errs a w) (hat:w.cell? ⟨pb,po,none⟩=some (.int .i64 at_))
  (hIs:∀ i,i<7 → ∀ w1,Below w.heap.size w w1→Calls Tryz.prog 60 #[.iface 59 (.pointer (some ⟨pb,po,none⟩)),.iface 199 (.pointer (some (a i)))] w1 fun ev w'=>ev = .returned (.bool (is i))∧w'=w1) :
  Calls Tryz.prog 36 #[.iface 59 (.pointer (some ⟨pb,po,none⟩))] w fun ev w'=>ev = .returned (.tuple #[.int .i64 (codeOf is),.int .i64 at_])∧Below w.heap.size w w':=by
 have HI:Hid (∀ i,i<7 → ∀ w1,Below w.heap.size w w1→Calls Tryz.prog 60 #[.iface 59 (.pointer (some ⟨pb,po,none⟩)),.iface 199 (.pointer (some (a i)))] w1 fun ev w'=>ev = .returned (.bool (is i))∧w'=w1):=hIs
 clear hIs
 go_enter Tryz.func36,Tryz.ntmps36
 go_wp2_with fail
 refine (as_hit' _ _ (.pointer none) _ (E.below ((Below.refl _ _).alloc (Nat.le_refl _) _)).h (by simp) (by simp)).mono ?_
 rintro ev w2 ⟨rfl,hb,ht⟩
 have hbw:Below w.heap.size w w2:=((Below.refl _ _).alloc (Nat.le_refl _) _).trans hb
 have hat2:w2.cell? ⟨pb,po,none⟩=some (.int .i64 at_):=(hbw.cell (p:=⟨pb,po,none⟩) (lt_of_cell hat)).trans hat
 have E2:=E.below hbw
 have hsz:w.heap.size≤w2.heap.size:=hbw.size
 have k0:=E2.c0
 have k1:=E2.c1
 have k2:=E2.c2
 have k3:=E2.c3
 have k4:=E2.c4
 have k5:=E2.c5
 have k6:=E2.c6
 go_wp2_with fail
 refine wp_loop_rounds 8 ?_
 clear k0 k1 k2 k3 k4 k5 k6
 rw [rounds_succ]
 go_wp2_with fail
 refine (HI.out 0 (by decide) _ (hbw.alloc hsz _)).mono ?_
 rintro ev w3 ⟨rfl,rfl⟩
 cases j0:is 0
 rotate_left
 ·go_wp2_with fail
  go_ret2
  exact ⟨by simp [codeOf,j0],hbw.alloc hsz _⟩
 go_wp2_with fail
 rw [rounds_succ]
 go_wp2_with fail
 refine (HI.out 1 (by decide) _ (hbw.alloc hsz _)).mono ?_
 rintro ev w3 ⟨rfl,rfl⟩
 cases j1:is 1
 rotate_left
 ·go_wp2_with fail
  go_ret2
  exact ⟨by simp [codeOf,j0,j1],hbw.alloc hsz _⟩
 go_wp2_with fail
 rw [rounds_succ]
 go_wp2_with fail
 refine (HI.out 2 (by decide) _ (hbw.alloc hsz _)).mono ?_
 rintro ev w3 ⟨rfl,rfl⟩
 cases j2:is 2
 rotate_left
 ·go_wp2_with fail
  go_ret2
  exact ⟨by simp [codeOf,j0,j1,j2],hbw.alloc hsz _⟩
 go_wp2_with fail
 rw [rounds_succ]
 go_wp2_with fail
 refine (HI.out 3 (by decide) _ (hbw.alloc hsz _)).mono ?_
 rintro ev w3 ⟨rfl,rfl⟩
 cases j3:is 3
 rotate_left
 ·go_wp2_with fail
  go_ret2
  exact ⟨by simp [codeOf,j0,j1,j2,j3],hbw.alloc hsz _⟩
 go_wp2_with fail
 rw [rounds_succ]
 go_wp2_with fail
 refine (HI.out 4 (by decide) _ (hbw.alloc hsz _)).mono ?_
 rintro ev w3 ⟨rfl,rfl⟩
 cases j4:is 4
 rotate_left
 ·go_wp2_with fail
  go_ret2
  exact ⟨by simp [codeOf,j0,j1,j2,j3,j4],hbw.alloc hsz _⟩
 go_wp2_with fail
 rw [rounds_succ]
 go_wp2_with fail
 refine (HI.out 5 (by decide) _ (hbw.alloc hsz _)).mono ?_
 rintro ev w3 ⟨rfl,rfl⟩
 cases j5:is 5
 rotate_left
 ·go_wp2_with fail
  go_ret2
  exact ⟨by simp [codeOf,j0,j1,j2,j3,j4,j5],hbw.alloc hsz _⟩
 go_wp2_with fail
 rw [rounds_succ]
 go_wp2_with fail
 refine (HI.out 6 (by decide) _ (hbw.alloc hsz _)).mono ?_
 rintro ev w3 ⟨rfl,rfl⟩
 cases j6:is 6
 rotate_left
 ·go_wp2_with fail
  go_ret2
  exact ⟨by simp [codeOf,j0,j1,j2,j3,j4,j5,j6],hbw.alloc hsz _⟩
 go_wp2_with fail
 rw [rounds_succ]
 go_wp2_with fail
 go_ret2
 exact ⟨by simp [codeOf,j0,j1,j2,j3,j4,j5,j6],hbw.alloc hsz _⟩

theorem codeOf_eq (k:Nat) (hk:k<7):codeOf (fun i=>i == k)=k+1:=by
 obtain rfl | rfl | rfl | rfl | rfl | rfl | rfl:k=0∨k=1∨k=2∨k=3∨k=4∨k=5∨k=6:=by omega
 all_goals rfl

theorem code_fault (a:Nat→Addr) (k:Nat) (hk:k<7) (pb po:Nat) (at_:Int) (w:World) (E:Errs a w) (hat:w.cell? ⟨pb,po,none⟩=some (.int .i64 at_)) (her:w.cell? ⟨pb,po+1,none⟩=some (.iface 199 (.pointer (some (a k))))) :
  Calls Tryz.prog 36 #[.iface 59 (.pointer (some ⟨pb,po,none⟩))] w fun ev w'=>ev = .returned (.tuple #[.int .i64 (k+1),.int .i64 at_])∧Below w.heap.size w w':=by
 have h:=code_hit a pb po at_ (fun i=>i == k) w E hat (fun i hi w1 hb=>by
  have her1:w1.cell? ⟨pb,po+1,none⟩=some (.iface 199 (.pointer (some (a k)))):=(hb.cell (p:=⟨pb,po+1,none⟩) (lt_of_cell her)).trans her
  by_cases e:i=k
  ·subst e
   refine (is_wrap_same ⟨pb,po,none⟩ (a i) w1 rfl her1).mono ?_
   rintro ev w' ⟨h1,h2⟩
   exact ⟨by rw [h1];simp,h2⟩
  ·obtain ⟨c1,t1,h1⟩:=(E.below hb).b k hk
   obtain ⟨c2,t2,h2⟩:=(E.below hb).b i hi
   refine (is_wrap_other ⟨pb,po,none⟩ (a i) (a k) c1 c2 t1 t2 w1 rfl her1 (E.ne k i hk hi (Ne.symm e)) h1 h2).mono ?_
   rintro ev w' ⟨h1,h2⟩
   exact ⟨by rw [h1];simp [e],h2⟩)
 rw [codeOf_eq k hk] at h
 exact h

end Go.Proofs.YtknjeecjhahbaaaGreatDoor
namespace Go.Proofs.YtknjeecjhahbaaaGreatDoor
open Go.RowKit

theorem laidVars_sub {P:Program}{w:World}{l l':List (String × DataW Unit)} (h:l'.Sublist l):∀ ps,DataW.LaidVars P w l ps → ∃ qs,DataW.LaidVars P w l' qs∧qs.Sublist ps:=by
 induction h with
 | slnil=>intro ps hp;exact ⟨ps,hp,List.Sublist.refl _⟩
 | cons x _ ih =>
  intro ps hp
  obtain ⟨n,d⟩:=x
  obtain ⟨g,t,cs,fuel,p,q,_,_,_,_,hq,rfl⟩:=hp
  obtain ⟨qs,h1,h2⟩:=ih q hq
  exact ⟨qs,h1,h2.trans (List.sublist_append_right _ _)⟩
 | cons_cons x _ ih =>
  intro ps hp
  obtain ⟨n,d⟩:=x
  obtain ⟨g,t,cs,fuel,p,q,e1,e2,e3,e4,hq,rfl⟩:=hp
  obtain ⟨qs,h1,h2⟩:=ih q hq
  exact ⟨_,⟨g,t,cs,fuel,p,qs,e1,e2,e3,e4,h1,rfl⟩,(List.Sublist.refl _).append h2⟩

theorem laidMet_sub {P:Program}{w:World}{l l':List (String × DataW Unit)} (h:l'.Sublist l) (hl:laidMet P l w):laidMet P l' w:=by
 obtain ⟨ps,h1,h2,h3⟩:=hl
 obtain ⟨qs,k1,k2⟩:=laidVars_sub h ps h1
 exact ⟨qs,k1,h2.sublist k2,fun b off hm=>h3 b off (k2.subset hm)⟩

theorem star : "*" ++ "errors.errorString" = "*errors.errorString" := by decide
theorem rowSp (u : TypeId) (h : Tryz.prog.typeName? 3 u = some "*errors.errorString") : u = 199 :=
 typeName_ptr_named (nm := "errors.errorString") (by rw [star]; kernel_rfl) (by kernel_rfl) (by decide) u (by rw [star]; exact h)
theorem cellsS:Tryz.prog.cellsOf 201=1:=by kernel_rfl
theorem cellsStr:Tryz.prog.cellsOf 9=1:=by kernel_rfl

def sentName:Nat→String
 | 0 => "nurserypy/api.ErrText"
 | 1 => "nurserypy/api.ErrBound"
 | 2 => "nurserypy/api.ErrShape"
 | 3 => "nurserypy/api.ErrName"
 | 4 => "nurserypy/api.ErrPlace"
 | 5 => "nurserypy/api.ErrFull"
 | _ => "nurserypy/api.ErrNone"
def sentGlobal:Nat→Nat
 | 0=>2
 | 1=>1
 | 2=>0
 | 3=>3
 | 4=>4
 | 5=>5
 | _=>6
def sentTail:Nat→List UInt8
 | 0 => [116,101,120,116]
 | 1 => [98,111,117,110,100]
 | 2 => [115,104,97,112,101]
 | 3 => [110,97,109,101]
 | 4 => [112,108,97,99,101]
 | 5 => [102,117,108,108]
 | _ => [110,111,110,101]
def sentText (i:Nat):ByteArray:=⟨([110,117,114,115,101,114,121,112,121,58,32]++sentTail i).toArray⟩
def sentLaid (i : Nat) : String × DataW Unit := (sentName i, .iface "*errors.errorString" (.ptr (.agg [.lit (.string ([110, 117, 114, 115, 101, 114, 121, 112, 121, 58, 32] ++ sentTail i))])))

theorem sent_named (i:Nat) (hi:i<7):Tryz.prog.globalNamed (sentName i)=some (sentGlobal i):=by
 iterate 7 (rcases i with _ | i;· kernel_rfl)
 omega
theorem sent_type (i:Nat) (hi:i<7):(Tryz.prog.globals[sentGlobal i]?).map (·.type)=some 32:=by
 iterate 7 (rcases i with _ | i;· kernel_rfl)
 omega

theorem sent_one {W:World} (i:Nat) (hi:i<7) (h:laidMet Tryz.prog [sentLaid i] W):∃ a:Addr,W.var? Tryz.prog (sentName i)=some #[.iface 199 (.pointer (some a))]∧W.cell? a=some (.string (sentText i)):=by
 obtain ⟨a,s,h1,h2,h3,_⟩:=laid_sentinel h (sent_named i hi) (sent_type i hi) Tryz.underlying32 rowSp Tryz.underlying199 Tryz.underlying201 rfl rfl Tryz.underlying9 cellsS cellsStr
 refine ⟨a,h1,?_⟩
 rw [h2]
 congr 2
 apply ByteArray.ext
 show s.data=_
 rw [←Array.toList_inj,h3]
 simp [sentText]

theorem sent_two {W:World} (i j:Nat) (hi:i<7) (hj:j<7) (h:laidMet Tryz.prog [sentLaid i,sentLaid j] W) (a b:Addr) (ha:W.var? Tryz.prog (sentName i)=some #[.iface 199 (.pointer (some a))]) (hb:W.var? Tryz.prog (sentName j)=some #[.iface 199 (.pointer (some b))]) :
  a≠b∧(∃ c t,W.heap[a.block]?=some (.cells c t (0,0))) ∧ ∃ c t,W.heap[b.block]?=some (.cells c t (0,0)):=by
 obtain ⟨a0,a1,s0,s1,c0,c1,t0,t1,hv0,hv1,hc0,hs0,hz0,hc1,hs1,hz1,hne,hb0,hb1⟩:=laid_sentinels2 h (sent_named i hi) (sent_type i hi) (sent_named j hj) (sent_type j hj) Tryz.underlying32 rowSp Tryz.underlying199 Tryz.underlying201 rfl rfl Tryz.underlying9 cellsS cellsStr
 rw [ha] at hv0
 rw [hb] at hv1
 simp at hv0 hv1
 subst hv0 hv1
 exact ⟨hne,⟨c0,t0,hb0⟩,⟨c1,t1,hb1⟩⟩

theorem sent_cell {W:World} (i:Nat) (hi:i<7) (a:Addr) (ha:W.var? Tryz.prog (sentName i)=some #[.iface 199 (.pointer (some a))]):W.cell? ⟨sentGlobal i,0,none⟩=some (.iface 199 (.pointer (some a))):=by
 simpa using World.var?_cell (sent_named i hi) ha 0

theorem gHandle : Tryz.prog.globalNamed "errors.errorType" = some 7 := by kernel_rfl
theorem rtRow : (Tryz.prog.cutTypes.find? (·.1 == "internal/reflectlite.rtype")).map (·.2) = some 143 := by kernel_rfl
theorem errRow:((List.range 232).filter fun t=>Tryz.prog.rowNamed t [101,114,114,111,114]) = [32]:=by kernel_rfl
theorem nTypes:Tryz.prog.types.size=232:=by kernel_rfl
theorem handle_cell {W : World} (h : handlesMet Tryz.prog [("errors.errorType", Rows.laid_errors_errorType)] W) : W.cell? ⟨7, 0, none⟩ = some (.iface 143 (.agg #[.pointer (some ⟨16, 32, none⟩)])) := by
 obtain ⟨name,u,ty,e1,e2,e3,e4,e5⟩:=h _ (List.mem_singleton.2 rfl)
 have en:name = [101,114,114,111,114]:=(Option.some.inj e1).symm
 subst en
 obtain rfl:=Option.some.inj (rtRow.symm.trans e2)
 have hm:ty∈(List.range 232).filter fun t=>Tryz.prog.rowNamed t [101,114,114,111,114]:=List.mem_filter.2 ⟨List.mem_range.2 (by rw [←nTypes];exact e3),e4⟩
 rw [errRow] at hm
 obtain rfl:=List.mem_singleton.1 hm
 have hh:typeHandle Tryz.prog 32 = .pointer (some ⟨16,32,none⟩):=by kernel_rfl
 rw [hh] at e5
 simpa using World.var?_cell gHandle e5 0

def pickA (a0 a1 a2 a3 a4 a5 a6:Addr):Nat→Addr
 | 0=>a0
 | 1=>a1
 | 2=>a2
 | 3=>a3
 | 4=>a4
 | 5=>a5
 | _=>a6

theorem errs_of {W : World} {l : List (String × DataW Unit)} (hl : laidMet Tryz.prog l W) (hh : handlesMet Tryz.prog [("errors.errorType", Rows.laid_errors_errorType)] W)
  (hsub:∀ i j,i<7→j<7→i≠j → [sentLaid i,sentLaid j].Sublist l ∨ [sentLaid j,sentLaid i].Sublist l) :
  ∃ a:Nat→Addr,Errs a W ∧ ∀ i,i<7→W.cell? (a i)=some (.string (sentText i)):=by
 have one:∀ i,i<7 → ∃ a:Addr,W.var? Tryz.prog (sentName i)=some #[.iface 199 (.pointer (some a))]∧W.cell? a=some (.string (sentText i)):=fun i hi=>by
  refine sent_one i hi ?_
  obtain ⟨j,hj,hne⟩:∃ j,j<7∧i≠j:=by
   by_cases h:i=0
   ·exact ⟨1,by omega,by omega⟩
   ·exact ⟨0,by omega,by omega⟩
  rcases hsub i j hi hj hne with h | h
  ·exact laidMet_sub ((List.Sublist.cons_cons _ (List.nil_sublist _)).trans h) hl
  ·exact laidMet_sub ((List.Sublist.cons _ (List.Sublist.refl _)).trans h) hl
 obtain ⟨a0,v0,x0⟩:=one 0 (by decide)
 obtain ⟨a1,v1,x1⟩:=one 1 (by decide)
 obtain ⟨a2,v2,x2⟩:=one 2 (by decide)
 obtain ⟨a3,v3,x3⟩:=one 3 (by decide)
 obtain ⟨a4,v4,x4⟩:=one 4 (by decide)
 obtain ⟨a5,v5,x5⟩:=one 5 (by decide)
 obtain ⟨a6,v6,x6⟩:=one 6 (by decide)
 have hf:∀ i,i<7→W.var? Tryz.prog (sentName i)=some #[.iface 199 (.pointer (some (pickA a0 a1 a2 a3 a4 a5 a6 i)))]∧W.cell? (pickA a0 a1 a2 a3 a4 a5 a6 i)=some (.string (sentText i)):=fun i hi=>by
  rcases i with _ | i;· exact ⟨v0,x0⟩
  rcases i with _ | i;· exact ⟨v1,x1⟩
  rcases i with _ | i;· exact ⟨v2,x2⟩
  rcases i with _ | i;· exact ⟨v3,x3⟩
  rcases i with _ | i;· exact ⟨v4,x4⟩
  rcases i with _ | i;· exact ⟨v5,x5⟩
  rcases i with _ | i;· exact ⟨v6,x6⟩
  omega
 generalize pickA a0 a1 a2 a3 a4 a5 a6=a at hf
 have two:∀ i j,i<7→j<7→i≠j→a i≠a j∧(∃ c t,W.heap[(a i).block]?=some (.cells c t (0,0))):=fun i j hi hj hne=>by
  rcases hsub i j hi hj hne with h | h
  ·obtain ⟨h1,h2,_⟩:=sent_two i j hi hj (laidMet_sub h hl) (a i) (a j) (hf i hi).1 (hf j hj).1
   exact ⟨h1,h2⟩
  ·obtain ⟨h1,_,h2⟩:=sent_two j i hj hi (laidMet_sub h hl) (a j) (a i) (hf j hj).1 (hf i hi).1
   exact ⟨h1.symm,h2⟩
 refine ⟨a,⟨handle_cell hh,?_,?_,?_,?_,?_,?_,?_,fun i hi => ?_,fun i j hi hj hne=>(two i j hi hj hne).1⟩,fun i hi=>(hf i hi).2⟩
 ·exact sent_cell 0 (by decide) (a 0) (hf 0 (by decide)).1
 ·exact sent_cell 1 (by decide) (a 1) (hf 1 (by decide)).1
 ·exact sent_cell 2 (by decide) (a 2) (hf 2 (by decide)).1
 ·exact sent_cell 3 (by decide) (a 3) (hf 3 (by decide)).1
 ·exact sent_cell 4 (by decide) (a 4) (hf 4 (by decide)).1
 ·exact sent_cell 5 (by decide) (a 5) (hf 5 (by decide)).1
 ·exact sent_cell 6 (by decide) (a 6) (hf 6 (by decide)).1
 ·obtain ⟨j,hj,hne⟩:∃ j,j<7∧i≠j:=by
   by_cases h:i=0
   ·exact ⟨1,by omega,by omega⟩
   ·exact ⟨0,by omega,by omega⟩
  exact (two i j hi hj hne).2
end Go.Proofs.YtknjeecjhahbaaaGreatDoor
