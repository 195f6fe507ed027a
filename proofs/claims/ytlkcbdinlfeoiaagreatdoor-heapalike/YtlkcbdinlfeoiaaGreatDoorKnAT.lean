/- What a row's list of variables gives a walk: the seven errors of package api, apart from each other, and the handle of the type error. -/
import Derived.Test.YtlkcbdinlfeoiaaGreatDoorRows
import Derived.Stop.LaidTwo
import Derived.LaidHandle
import Derived.Test.YtlkcbdinlfeoiaaGreatDoorKnBC
namespace Go.Proofs.YtlkcbdinlfeoiaaGreatDoor
open Go.Proofs.Tryz Go.RowKit
set_option maxHeartbeats 8000000
set_option maxRecDepth 100000
set_option linter.unusedSimpArgs false
theorem Zcu {P:Program}{w:World}{l l':List (String × DataW Unit)} (h:l'.Sublist l):∀ ps,DataW.LaidVars P w l ps -> ∃ qs,DataW.LaidVars P w l' qs/\qs.Sublist ps:=by
 induction h with
 | slnil=>intro ps hp;exact ⟨ps,hp,U5c _⟩
 | cons x _ ih =>
  intro ps hp
  obtain ⟨n,d⟩:=x
  obtain ⟨g,t,cs,fuel,p,q,_,_,_,_,hq,rfl⟩:=hp
  obtain ⟨qs,h1,h2⟩:=ih q hq
  exact ⟨qs,h1,h2.trans (List.sublist_append_right _ _)⟩
 | cons_cons x _ ih =>
  intro ps hp
  obtain ⟨n,d⟩:=x
  obtain ⟨g,t,cs,fuel,p,q,e1,e2,e3,e4,hq,rfl⟩:=hp
  obtain ⟨qs,h1,h2⟩:=ih q hq
  exact ⟨_,⟨g,t,cs,fuel,p,qs,e1,e2,e3,e4,h1,rfl⟩,(U5c _).append h2⟩
theorem Z4m {P:Program}{w:World}{l l':List (String × DataW Unit)} (h:l'.Sublist l) (hl:laidMet P l w):laidMet P l' w:=by
 obtain ⟨ps,h1,h2,h3⟩:=hl
 obtain ⟨qs,k1,k2⟩:=Zcu h ps h1
 exact ⟨qs,k1,h2.sublist k2,fun b off hm=>h3 b off (k2.subset hm)⟩
theorem star : "*" ++ "errors.errorString" = "*errors.errorString" := by decide
theorem Zt6 (u : TypeId) (h : prog.typeName? 3 u = some "*errors.errorString") : u = 338 :=
 typeName_ptr_named (nm := "errors.errorString") (by rw [star]; kernel_rfl) (by kernel_rfl) (by decide) u (by rw [star]; exact h)
theorem Zqi:prog.cellsOf 356=1:=by kernel_rfl
theorem Zh1:prog.cellsOf 9=1:=by kernel_rfl
theorem four_i64 {n:Int} (h:(Lit.int .i64 n).wf=true) : -9223372036854775808<=n/\n<9223372036854775808:=by
 simp only [Lit.wf,U0i,U1x] at h
 have e1:IntKind.i64.min = -9223372036854775808:=by decide
 have e2:IntKind.i64.max=9223372036854775807:=by decide
 omega
theorem Z9a:(prog.info? 81).map (·.size)=some 1:=by kernel_rfl
theorem Zed (args:Array Value) (w:World):(callFunc 82 args).run prog w = .ok (.enter 82 args) w:=by kernel_rfl
theorem Zbd (args:Array Value) (w:World):(callFunc 70 args).run prog w = .ok (.enter 70 args) w:=by kernel_rfl
def db64:List Int:=[0,1,56,2,57,49,28,3,61,58,42,50,38,29,17,4,62,47,59,36,45,43,51,22,53,39,33,30,24,18,12,5,63,55,48,27,60,41,37,16,46,35,44,21,52,32,23,11,54,26,40,15,34,20,31,10,25,14,19,9,13,8,7,6]
theorem tab_pow {W : World} {x y : String × DataW Unit} {r : List (String × DataW Unit)} (h : laidMet prog (x :: y :: ("internal/strconv.uint64pow10", Lib.tabData .u64 Lib.pow10Tab) :: r) W) : Z2b W :=
 Lib.tabIs_of_head (g:=9) (t:=301) (e:=81) (n:=20) (by kernel_rfl) (by kernel_rfl) underlying301 underlying81 (by kernel_rfl) (by kernel_rfl) (laidMet.tail (laidMet.tail h))
theorem tab_tz {W : World} {x : String × DataW Unit} {r : List (String × DataW Unit)} (h : laidMet prog (x :: ("math/bits.deBruijn64tab", Lib.tabData .u8 db64) :: r) W) : Zem W := by
 have h1 : Lib.TabIs prog W "math/bits.deBruijn64tab" .u8 db64 := Lib.tabIs_of_head (g := 13) (t := 329) (e := 5) (n := 64) (by kernel_rfl) (by kernel_rfl) underlying329 underlying5 (by kernel_rfl) (by kernel_rfl) (laidMet.tail h)
 exact h1.cell (g:=13) (by kernel_rfl) 15 (by decide)
end Go.Proofs.YtlkcbdinlfeoiaaGreatDoor
