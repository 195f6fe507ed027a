/-
 The law ScopeCloses holds for all statements: called in whatever memory in which the listed variables read as the program's text lays them,it returns true;nothing that was there has turned.
-/
import Derived.Test.YtflcohidmemfpaaGreatDoorCards
import Derived.Test.YtflcohidmemfpaaGreatDoorTie
import Derived.Test.YtflcohidmemfpaaGreatDoorSvP
import Derived.Test.YtflcohidmemfpaaGreatDoorSvE
import Derived.Test.YtflcohidmemfpaaGreatDoorSsD
import Derived.ProofKit
import Derived.OpenShut
import Derived.Deep.DeepHandedRow
import Derived.WideKeyArgs
import Derived.Deep.Frames
import Derived.SizedLaws
set_option linter.all false
namespace Go.Proofs.YtflcohidmemfpaaGreatDoor
open Go.Proofs.Tryz
open Go.ChangeShapes Go.WideShapes Go.ChangeAt Go.RowKit
open Go.ChangeMaps (open_string shut_string)

theorem scopeCloses_walk (W:World) (l:List (DataW Unit)) (xa:Option Addr) (xc B:Nat) (hR:Z31 Any W xa l) (hok:BSL l) (hz:ZSL B l) (h:laidMetH prog Rows.scopeClosesRow.laid W):Calls prog 3 #[.slice xa l.length xc] W fun ev W'=>ev = .returned (.bool true)∧Below W.heap.size W W':=by
 have h':laidMet prog Rows.scopeClosesRow.laid W:=h
 obtain ⟨a0,a1,E⟩:=Zwk h' (List.singleton_sublist.2 (.tail _ (.tail _ (.tail _ (.head _))))) (List.singleton_sublist.2 (.tail _ (.tail _ (.tail _ (.tail _ (.head _)))))) (List.singleton_sublist.2 (.tail _ (.tail _ (.tail _ (.tail _ (.tail _ (.tail _ (.tail _ (.head _))))))))) (List.singleton_sublist.2 (.tail _ (.tail _ (.tail _ (.tail _ (.tail _ (.tail _ (.tail _ (.tail _ (.tail _ (.head _))))))))))) (List.singleton_sublist.2 (.tail _ (.tail _ (.tail _ (.tail _ (.tail _ (.tail _ (.tail _ (.tail _ (.tail _ (.tail _ (.head _))))))))))))
 obtain ⟨a2,v2,_⟩:=Zeu 2 (by decide) (Z3e (List.singleton_sublist.2 (.tail _ (.tail _ (.tail _ (.tail _ (.tail _ (.head _))))))) h')
 have c2:=Zcu 2 (by decide) a2 v2
 obtain ⟨a3,c3⟩:=Zrz (Z3e (List.singleton_sublist.2 (.tail _ (.tail _ (.tail _ (.tail _ (.tail _ (.tail _ (.head _)))))))) h')
 have h2 : laidMet prog [("math/bits.deBruijn32tab", Rows.laid_math_bits_deBruijn32tab), ("math/bits.deBruijn64tab", Rows.laid_math_bits_deBruijn64tab), ("internal/strconv.uint64pow10", Lib.tabData .u64 Lib.pow10Tab), ("nurserypy/api.ErrText", Rows.laid_nurserypy_api_ErrText), ("nurserypy/api.ErrBound", Rows.laid_nurserypy_api_ErrBound), ("nurserypy/api.ErrShape", Rows.laid_nurserypy_api_ErrShape), ("nurserypy/api.ErrName", Rows.laid_nurserypy_api_ErrName), ("strconv.ErrRange", Rows.laid_strconv_ErrRange), ("strconv.ErrSyntax", Rows.laid_strconv_ErrSyntax), ("nurserypy/lex.words", Rows.laid_nurserypy_lex_words), ("nurserypy/lex.ops", Rows.laid_nurserypy_lex_ops)] W := h
 exact scopeCloses_any a0 a1 a2 _ _ W ⟨E,c2,Z02 c2⟩ (Zs2 h2) c3 Any xa xc l hR hok B hz

theorem Zx0:laidOutB prog=true:=by kernel_rfl
theorem cells3:prog.cellsOf 3=1:=by kernel_rfl
theorem own:ownKnob prog.godebug=none:=by kernel_rfl

set_option maxRecDepth 100000 in
theorem scopeCloses_contract (H:Type) (enc:TypeId × Value→H) (W:World) (base:Nat) (args:Array Value) (ds gs:List (DataW H)) (before:List MemPlace)
  (hval:∀ (j:Nat) t v,f3.params[j]?=some t→args[j]?=some v→Value.okWide prog W .any base t v)
  (hW:DataW.Whole enc prog f3.params.toList Rows.scopeClosesSpec.vars false W args.toList ds gs before) (hL:laidMetH prog Rows.scopeClosesRow.laid W) (hsz:(DataW.weightsEach prog (f3.params.toList++(OpenSpec.ofChange Rows.scopeClosesSpec).bare.plain.varTypes prog) (ds++gs)).all (· ≤ reachBytes)=true) :
  Calls prog 3 args W fun e W' => ∃ v,e = .returned v∧Rows.scopeClosesSpec.post enc prog f3 false true false false W args v W':=by
 have hW':=hW
 obtain ⟨p,q,hA0,hV,rfl,hfz,hnd⟩:=hW
 have hA:DataW.TrodAll enc prog W 0 (fun _=>true) true f3.params.toList args.toList ds p:=hA0
 rw [Tryz.params3] at hA hval hsz
 obtain ⟨v0,vs0,d0,ds0,p0,q0,hargs,rfl,rfl,h0,r0⟩:=trodAll_cons hA
 obtain ⟨rfl,rfl,rfl⟩:=trodAll_nil r0
 obtain rfl:args = #[v0]:=by cases args;simp_all
 obtain ⟨rfl,rfl⟩:=trodVars_none hV
 have h0k:=h0
 obtain ⟨xa0,l0,xc0,B0,rfl,hR0,hok0,hz0,hpc0⟩:=Zoh (hval 0 22 v0 rfl rfl) h0 (fun n hn=>by
  have:=List.all_eq_true.1 hsz n (DataW.weights_mem_each (j:=0) (t:=22) rfl rfl n hn)
  have h2:n≤reachBytes:=by simpa using this
  exact h2)
 clear hA0
 simp only [List.append_nil] at hW'
 have hlt0:∀ x∈p0,x.block<W.heap.size:=fun x hx=>by simpa using hW'.lt x (by simp [hx])
 refine (scopeCloses_walk W l0 xa0 xc0 B0 hR0 hok0 hz0 hL).mono fun e W' ⟨he,hg⟩ => ?_
 subst he
 refine ⟨_,rfl,_,_,_,[],(p0 ++ []),[],hW',?_,?_,?_,hg.frame _,fun h=>by cases h⟩
 ·exact trodAll_cons_mk (shut_bool underlying4 true) trodAll_mk0
 ·exact trodAll_cons_mk (WideElems.Trod_stays Zx0 (by kernel_rfl) (of_decide_eq_true (by kernel_rfl)) h0k (fun x hx=>World.keptBut.sameAt (hg.frame (fun _=>False)) (hlt0 x hx) (fun hm=>hm) (fun bb e=>absurd e (hpc0 x hx bb))) (fun x hx=>by simpa using hlt0 x hx)) trodAll_mk0
 ·rfl

def scopeClosesLow (P:Program):Nat:=(World.holding P default ⟨#[],#[],[]⟩).heap.size
def scopeClosesWorld (P:Program) (os:Os):World:=
 let w0:=World.holding P os ⟨#[.cells #[.string ⟨#[110,117,114,115,101,114,121,112,121,58,32,116,101,120,116]⟩] 216,.cells #[.string ⟨#[110,117,114,115,101,114,121,112,121,58,32,98,111,117,110,100]⟩] 216,.cells #[.string ⟨#[110,117,114,115,101,114,121,112,121,58,32,115,104,97,112,101]⟩] 216,.cells #[.string ⟨#[110,117,114,115,101,114,121,112,121,58,32,110,97,109,101]⟩] 216,.cells #[.string ⟨#[118,97,108,117,101,32,111,117,116,32,111,102,32,114,97,110,103,101]⟩] 216,.cells #[.string ⟨#[105,110,118,97,108,105,100,32,115,121,110,116,97,120]⟩] 216],#[],[]⟩
 let put (k:Nat) (v:Array Value) (h:Array Obj):Array Obj:=h.modify k fun | .cells _ t frozen=>.cells v t frozen | o=>o
 { w0 with heap:=(put 10 #[.int .u8 0,.int .u8 1,.int .u8 28,.int .u8 2,.int .u8 29,.int .u8 14,.int .u8 24,.int .u8 3,.int .u8 30,.int .u8 22,.int .u8 20,.int .u8 15,.int .u8 25,.int .u8 17,.int .u8 4,.int .u8 8,.int .u8 31,.int .u8 27,.int .u8 13,.int .u8 23,.int .u8 21,.int .u8 19,.int .u8 16,.int .u8 7,.int .u8 26,.int .u8 12,.int .u8 18,.int .u8 6,.int .u8 11,.int .u8 5,.int .u8 10,.int .u8 9] (put 11 #[.int .u8 0,.int .u8 1,.int .u8 56,.int .u8 2,.int .u8 57,.int .u8 49,.int .u8 28,.int .u8 3,.int .u8 61,.int .u8 58,.int .u8 42,.int .u8 50,.int .u8 38,.int .u8 29,.int .u8 17,.int .u8 4,.int .u8 62,.int .u8 47,.int .u8 59,.int .u8 36,.int .u8 45,.int .u8 43,.int .u8 51,.int .u8 22,.int .u8 53,.int .u8 39,.int .u8 33,.int .u8 30,.int .u8 24,.int .u8 18,.int .u8 12,.int .u8 5,.int .u8 63,.int .u8 55,.int .u8 48,.int .u8 27,.int .u8 60,.int .u8 41,.int .u8 37,.int .u8 16,.int .u8 46,.int .u8 35,.int .u8 44,.int .u8 21,.int .u8 52,.int .u8 32,.int .u8 23,.int .u8 11,.int .u8 54,.int .u8 26,.int .u8 40,.int .u8 15,.int .u8 34,.int .u8 20,.int .u8 31,.int .u8 10,.int .u8 25,.int .u8 14,.int .u8 19,.int .u8 9,.int .u8 13,.int .u8 8,.int .u8 7,.int .u8 6] (put 6 #[.int .u64 1,.int .u64 10,.int .u64 100,.int .u64 1000,.int .u64 10000,.int .u64 100000,.int .u64 1000000,.int .u64 10000000,.int .u64 100000000,.int .u64 1000000000,.int .u64 10000000000,.int .u64 100000000000,.int .u64 1000000000000,.int .u64 10000000000000,.int .u64 100000000000000,.int .u64 1000000000000000,.int .u64 10000000000000000,.int .u64 100000000000000000,.int .u64 1000000000000000000,.int .u64 10000000000000000000] (put 3 #[.iface 214 (.pointer (some ⟨scopeClosesLow P+0,0,none⟩))] (put 2 #[.iface 214 (.pointer (some ⟨scopeClosesLow P+1,0,none⟩))] (put 1 #[.iface 214 (.pointer (some ⟨scopeClosesLow P+2,0,none⟩))] (put 0 #[.iface 214 (.pointer (some ⟨scopeClosesLow P+3,0,none⟩))] (put 8 #[.iface 214 (.pointer (some ⟨scopeClosesLow P+4,0,none⟩))] (put 7 #[.iface 214 (.pointer (some ⟨scopeClosesLow P+5,0,none⟩))] (put 5 #[.string ⟨#[97,110,100]⟩,.string ⟨#[98,114,101,97,107]⟩,.string ⟨#[99,111,110,116,105,110,117,101]⟩,.string ⟨#[100,101,102]⟩,.string ⟨#[100,101,108]⟩,.string ⟨#[101,108,105,102]⟩,.string ⟨#[101,108,115,101]⟩,.string ⟨#[101,120,99,101,112,116]⟩,.string ⟨#[70,97,108,115,101]⟩,.string ⟨#[102,111,114]⟩,.string ⟨#[103,108,111,98,97,108]⟩,.string ⟨#[105,102]⟩,.string ⟨#[105,110]⟩,.string ⟨#[105,115]⟩,.string ⟨#[108,97,109,98,100,97]⟩,.string ⟨#[78,111,110,101]⟩,.string ⟨#[110,111,110,108,111,99,97,108]⟩,.string ⟨#[110,111,116]⟩,.string ⟨#[111,114]⟩,.string ⟨#[112,97,115,115]⟩,.string ⟨#[114,97,105,115,101]⟩,.string ⟨#[114,101,116,117,114,110]⟩,.string ⟨#[84,114,117,101]⟩,.string ⟨#[116,114,121]⟩,.string ⟨#[119,104,105,108,101]⟩] (put 4 #[.string ⟨#[61,61]⟩,.string ⟨#[33,61]⟩,.string ⟨#[60,61]⟩,.string ⟨#[62,61]⟩,.string ⟨#[47,47]⟩,.string ⟨#[60]⟩,.string ⟨#[62]⟩,.string ⟨#[61]⟩,.string ⟨#[43]⟩,.string ⟨#[45]⟩,.string ⟨#[42]⟩,.string ⟨#[37]⟩,.string ⟨#[40]⟩,.string ⟨#[41]⟩,.string ⟨#[91]⟩,.string ⟨#[93]⟩,.string ⟨#[123]⟩,.string ⟨#[125]⟩,.string ⟨#[44]⟩,.string ⟨#[58]⟩,.string ⟨#[46]⟩] w0.heap))))))))))) }
theorem scopeCloses_met (os:Os):laidMetH prog Rows.scopeClosesRow.laid ((scopeClosesWorld prog os).forCall (fun _ _=>0) ⟨#[],#[.slice none 0 0],[]⟩).memory:=
 laidMetH_of_parts (laidMet_of_run' 8 (by kernel_rfl) (by kernel_rfl)) (by kernel_rfl)
theorem scopeCloses_reads (os:Os) {H:Type} (enc:TypeId × Value→H):∃ places,DataW.whole enc prog ((scopeClosesWorld prog os).forCall (fun _ _=>0) ⟨#[],#[.slice none 0 0],[]⟩).memory f3.params.toList Rows.scopeClosesSpec.vars false (#[.slice none 0 0]:Array Value).toList 8=some ([.nil],[],places):=
 ⟨[],by kernel_rfl⟩

set_option maxRecDepth 100000 in
theorem scopeCloses_lifted (os:Os) (started:os.Started) (H:Type) (enc:TypeId × Value→H) (F:Stop.Interp) :
  ReturnsInHanded {} Tryz.checked os 3 .any ((OpenSpec.ofChange Rows.scopeClosesSpec).preRow enc prog f3 Rows.scopeClosesRow.domain false Rows.scopeClosesRow.laid) (((OpenSpec.ofChange Rows.scopeClosesSpec).at F).post enc prog f3 false true false false):=by
 obtain ⟨places,hx⟩:=scopeCloses_reads os enc
 refine returnsInHanded_of_row (C:=Tryz.checked) (s:=OpenSpec.ofChange Rows.scopeClosesSpec) own started (by kernel_rfl) func3
  (witness_row_at (enc:=enc) (C:=Tryz.checked) false (scopeClosesWorld prog os) #[.slice none 0 0] rfl (by kernel_rfl) (by kernel_rfl) (by kernel_rfl)
   (OpenSpec.preRow_of_cond 8 hx (by kernel_rfl) (fun k hk=>by cases hk) (by kernel_rfl) (scopeCloses_met os))) ?_
 intro W base args ds gs before hval hW _ _ hsz hL _ _
 exact scopeCloses_contract H enc W base args ds gs before hval hW hL hsz

theorem scopeCloses_said:Rows.ScopeClosesSaid:=
 OpenClaim.holds_of_cond 3 f3 rfl rfl rfl rfl rfl rfl rfl ⟨rfl,rfl,rfl,rfl,rfl⟩ rfl rfl rfl rfl rfl (by kernel_rfl) func3 (by kernel_rfl)
  (of_decide_eq_true (by kernel_rfl)) (by unfold Func.isWrapper;rw [if_neg (of_decide_eq_false (by kernel_rfl))];exact ⟨rfl,rfl⟩)
  (fun os started H enc _ F=>by rw [OpenClaim.pre_eq_preRow];exact scopeCloses_lifted os started H enc F)

theorem scopeCloses_plain (f : FuncId) (fn : Func) (hf : Tryz.pinned.checked.prog.funcNamed "nurserypy/nurserypylaw1.ScopeCloses" = some f) (hfn : Tryz.pinned.checked.prog.funcs[f]? = some fn) :
  true=Tryz.pinned.checked.prog.looks [] ∧ ∀ (j:Nat) t,fn.params[j]?=some t→Tryz.pinned.checked.prog.wantsStandIn t=false:=by
 obtain rfl : f = 3 := Option.some.inj ((show prog.funcNamed "nurserypy/nurserypylaw1.ScopeCloses" = some 3 by kernel_rfl).symm.trans hf) |>.symm
 obtain rfl:fn=f3:=(Option.some.inj (func3.symm.trans hfn)).symm
 refine ⟨by kernel_rfl,fun j t ht => ?_⟩
 rw [Tryz.params3] at ht
 have hm:=Array.mem_of_getElem? ht
 simp only [List.mem_toArray,List.mem_cons,List.not_mem_nil,or_false] at hm
 subst hm
 exact (show prog.wantsStandIn 22=false by kernel_rfl)

theorem scopeCloses_card:Rows.ScopeClosesCardSaid:=
 Claim7.holds_tied_plain_at .later [] _ _ _ _ scopeCloses_said (fun _ h=>by cases h) (by kernel_rfl) (fun _ h=>by cases h) scopeCloses_row_tie rfl ⟨rfl,rfl⟩ (by kernel_rfl) rfl scopeCloses_plain (by kernel_rfl)
#print axioms scopeCloses_card
end Go.Proofs.YtflcohidmemfpaaGreatDoor
