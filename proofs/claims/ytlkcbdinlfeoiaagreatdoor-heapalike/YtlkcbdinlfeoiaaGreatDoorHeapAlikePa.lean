/-
 The law HeapAlike holds for every five ints and every row of acts: called in whatever memory in which the listed variables read as the program's text lays them,it returns true;nothing that was there has turned.
-/
import Derived.Test.YtlkcbdinlfeoiaaGreatDoorCards
import Derived.Test.YtlkcbdinlfeoiaaGreatDoorTie
import Derived.Test.YtlkcbdinlfeoiaaGreatDoorKwL
import Derived.Test.YtlkcbdinlfeoiaaGreatDoorKnAT
import Derived.ProofKit
import Derived.OpenShut
import Derived.Deep.DeepHandedRow
import Derived.WideKeyArgs
import Derived.Deep.Frames
import Derived.SizedLaws
namespace Go.Proofs.YtlkcbdinlfeoiaaGreatDoor
open Go.Proofs.Tryz
open Go.ChangeShapes Go.WideShapes Go.ChangeAt Go.RowKit Go.Deep

theorem heapAlike_walk (W:World) (half:Int) (_:(Lit.int .i64 half).wf=true) (old:Int) (_:(Lit.int .i64 old).wf=true) (card:Int) (_:(Lit.int .i64 card).wf=true) (tn:Int) (_:(Lit.int .i64 tn).wf=true) (l:List ActD) (xa:Option Addr) (xb xo cap:Nat) (hll:l.length*64≤140737488351232) (_:∀ z∈l,z.s.size≤140737488351232) (hxa:0<l.length→xa=some ⟨xb,xo,none⟩) (hin:Zcx W xb xo l) (force:Int) (hfo:(Lit.int .i64 force).wf=true) (h:laidMetH prog Rows.heapAlikeRow.laid W):Calls prog 4 #[.int .i64 half,.int .i64 old,.int .i64 card,.int .i64 tn,.slice xa l.length cap,.int .i64 force] W fun ev W'=>ev = .returned (.bool true)∧Below W.heap.size W W':=by
 have h' : laidMet prog (("math/bits.deBruijn32tab", Rows.laid_math_bits_deBruijn32tab) :: ("math/bits.deBruijn64tab", Lib.tabData .u8 db64) :: ("internal/strconv.uint64pow10", Lib.tabData .u64 Lib.pow10Tab) :: ("unicode/utf8.acceptRanges", Rows.laid_unicode_utf8_acceptRanges) :: ([Z0r 0, Z0r 1, Z0r 2, Z0r 3, Z0r 4, Z0r 5, Z0r 6] ++ [("unicode/utf8.first", Rows.laid_unicode_utf8_first)])) W ∧ handlesMet prog [("errors.errorType", Rows.laid_errors_errorType)] W := h
 obtain ⟨a,E⟩:=Ztl ⟨Z4m (List.sublist_append_left _ _) (laidMet.tail (laidMet.tail (laidMet.tail (laidMet.tail h'.1)))),h'.2⟩
 exact heapAlike_any a half old card tn force xa xb xo cap l W ⟨E.me,tab_pow h'.1,tab_tz h'.1⟩ E (four_i64 hfo) hll hxa hin

theorem Zun:laidOutB prog=true:=by kernel_rfl
theorem cells3:prog.cellsOf 3=1:=by kernel_rfl
theorem own:ownKnob prog.godebug=none:=by kernel_rfl

set_option maxRecDepth 100000 in
theorem heapAlike_contract (H:Type) (enc:TypeId × Value→H) (W:World) (base:Nat) (args:Array Value) (ds gs:List (DataW H)) (before:List MemPlace)
  (hval:∀ (j:Nat) t v,f4.params[j]?=some t→args[j]?=some v→Value.okWide prog W .any base t v)
  (hW:DataW.Whole enc prog f4.params.toList Rows.heapAlikeSpec.vars false W args.toList ds gs before) (hL:laidMetH prog Rows.heapAlikeRow.laid W) (hsz:(DataW.weightsEach prog (f4.params.toList++(OpenSpec.ofChange Rows.heapAlikeSpec).bare.plain.varTypes prog) (ds++gs)).all (· ≤ reachBytes)=true) :
  Calls prog 4 args W fun e W' => ∃ v,e = .returned v∧Rows.heapAlikeSpec.post enc prog f4 false true false false W args v W':=by
 have hW':=hW
 obtain ⟨p,q,hA0,hV,rfl,hfz,hnd⟩:=hW
 have hA:DataW.TrodAll enc prog W 0 (fun _=>true) true f4.params.toList args.toList ds p:=hA0
 rw [Tryz.params4] at hA hval hsz
 obtain ⟨v0,vs0,d0,ds0,p0,q0,hargs,rfl,rfl,h0,r0⟩:=trodAll_cons hA
 obtain ⟨v1,vs1,d1,ds1,p1,q1,rfl,rfl,rfl,h1,r1⟩:=trodAll_cons r0
 obtain ⟨v2,vs2,d2,ds2,p2,q2,rfl,rfl,rfl,h2,r2⟩:=trodAll_cons r1
 obtain ⟨v3,vs3,d3,ds3,p3,q3,rfl,rfl,rfl,h3,r3⟩:=trodAll_cons r2
 obtain ⟨v4,vs4,d4,ds4,p4,q4,rfl,rfl,rfl,h4,r4⟩:=trodAll_cons r3
 obtain ⟨v5,vs5,d5,ds5,p5,q5,rfl,rfl,rfl,h5,r5⟩:=trodAll_cons r4
 obtain ⟨rfl,rfl,rfl⟩:=trodAll_nil r5
 obtain rfl:args = #[v0,v1,v2,v3,v4,v5]:=by cases args;simp_all
 obtain ⟨rfl,rfl⟩:=trodVars_none hV
 obtain ⟨n0,rfl,rfl,rfl,hn0⟩:=open_int underlying3 (hval 0 3 v0 rfl rfl) h0
 obtain ⟨n1,rfl,rfl,rfl,hn1⟩:=open_int underlying3 (hval 1 3 v1 rfl rfl) h1
 obtain ⟨n2,rfl,rfl,rfl,hn2⟩:=open_int underlying3 (hval 2 3 v2 rfl rfl) h2
 obtain ⟨n3,rfl,rfl,rfl,hn3⟩:=open_int underlying3 (hval 3 3 v3 rfl rfl) h3
 obtain ⟨x4,xl4,xc4,rfl⟩:=okWide_slice underlying22 (hval 4 22 v4 rfl rfl)
 have h4k:=h4
 obtain ⟨fu4,hf4⟩:=h4
 obtain ⟨xa4,xb4,xo4,cp4,l4,hcs4,hll4,hxa4,hin4,hsz4,hpc4⟩:=Zth hf4 (fun n hn=>by
  have:=List.all_eq_true.1 hsz n (DataW.weights_mem_each (j:=4) (t:=22) rfl rfl n hn)
  have h2:n≤reachBytes:=by simpa using this
  exact h2)
 simp [Value.cells] at hcs4
 obtain ⟨rfl,rfl,rfl⟩:=hcs4
 obtain ⟨n5,rfl,rfl,rfl,hn5⟩:=open_int underlying3 (hval 5 3 v5 rfl rfl) h5
 clear hA0
 simp only [List.append_nil] at hW'
 have hlt4:∀ x∈p4,x.block<W.heap.size:=fun x hx=>by simpa using hW'.lt x (by simp [hx])
 refine (heapAlike_walk W n0 hn0 n1 hn1 n2 hn2 n3 hn3 l4 x4 xb4 xo4 xc4 hll4 hsz4 hxa4 hin4 n5 hn5 hL).mono fun e W' ⟨he,hg⟩ => ?_
 subst he
 refine ⟨_,rfl,_,_,_,[],([]++([]++([]++([]++(p4++([] ++ [])))))),[],hW',?_,?_,?_,hg.frame _,fun h=>by cases h⟩
 ·exact trodAll_cons_mk (shut_bool underlying4 true) trodAll_mk0
 ·exact trodAll_cons_mk (shut_int underlying3 hn0) (trodAll_cons_mk (shut_int underlying3 hn1) (trodAll_cons_mk (shut_int underlying3 hn2) (trodAll_cons_mk (shut_int underlying3 hn3) (trodAll_cons_mk (WideElems.Trod_stays Zun (by kernel_rfl) (of_decide_eq_true (by kernel_rfl)) h4k (fun x hx=>World.keptBut.sameAt (hg.frame (fun _=>False)) (hlt4 x hx) (fun hm=>hm) (fun bb e=>absurd e (hpc4 x hx bb))) (fun x hx=>by simpa using hlt4 x hx)) (trodAll_cons_mk (shut_int underlying3 hn5) trodAll_mk0)))))
 ·rfl

def heapAlikeLow (P:Program):Nat:=(World.holding P default ⟨#[],#[],[]⟩).heap.size
def heapAlikeWorld (P:Program) (os:Os):World:=
 let w0:=World.holding P os ⟨#[.cells #[.string ⟨#[110,117,114,115,101,114,121,112,121,58,32,116,101,120,116]⟩] 356,.cells #[.string ⟨#[110,117,114,115,101,114,121,112,121,58,32,98,111,117,110,100]⟩] 356,.cells #[.string ⟨#[110,117,114,115,101,114,121,112,121,58,32,115,104,97,112,101]⟩] 356,.cells #[.string ⟨#[110,117,114,115,101,114,121,112,121,58,32,110,97,109,101]⟩] 356,.cells #[.string ⟨#[110,117,114,115,101,114,121,112,121,58,32,112,108,97,99,101]⟩] 356,.cells #[.string ⟨#[110,117,114,115,101,114,121,112,121,58,32,102,117,108,108]⟩] 356,.cells #[.string ⟨#[110,117,114,115,101,114,121,112,121,58,32,110,111,110,101]⟩] 356],#[],[]⟩
 let put (k:Nat) (v:Array Value) (h:Array Obj):Array Obj:=h.modify k fun | .cells _ t frozen=>.cells v t frozen | o=>o
 { w0 with heap:=(put 12 #[.int .u8 0,.int .u8 1,.int .u8 28,.int .u8 2,.int .u8 29,.int .u8 14,.int .u8 24,.int .u8 3,.int .u8 30,.int .u8 22,.int .u8 20,.int .u8 15,.int .u8 25,.int .u8 17,.int .u8 4,.int .u8 8,.int .u8 31,.int .u8 27,.int .u8 13,.int .u8 23,.int .u8 21,.int .u8 19,.int .u8 16,.int .u8 7,.int .u8 26,.int .u8 12,.int .u8 18,.int .u8 6,.int .u8 11,.int .u8 5,.int .u8 10,.int .u8 9] (put 13 #[.int .u8 0,.int .u8 1,.int .u8 56,.int .u8 2,.int .u8 57,.int .u8 49,.int .u8 28,.int .u8 3,.int .u8 61,.int .u8 58,.int .u8 42,.int .u8 50,.int .u8 38,.int .u8 29,.int .u8 17,.int .u8 4,.int .u8 62,.int .u8 47,.int .u8 59,.int .u8 36,.int .u8 45,.int .u8 43,.int .u8 51,.int .u8 22,.int .u8 53,.int .u8 39,.int .u8 33,.int .u8 30,.int .u8 24,.int .u8 18,.int .u8 12,.int .u8 5,.int .u8 63,.int .u8 55,.int .u8 48,.int .u8 27,.int .u8 60,.int .u8 41,.int .u8 37,.int .u8 16,.int .u8 46,.int .u8 35,.int .u8 44,.int .u8 21,.int .u8 52,.int .u8 32,.int .u8 23,.int .u8 11,.int .u8 54,.int .u8 26,.int .u8 40,.int .u8 15,.int .u8 34,.int .u8 20,.int .u8 31,.int .u8 10,.int .u8 25,.int .u8 14,.int .u8 19,.int .u8 9,.int .u8 13,.int .u8 8,.int .u8 7,.int .u8 6] (put 9 #[.int .u64 1,.int .u64 10,.int .u64 100,.int .u64 1000,.int .u64 10000,.int .u64 100000,.int .u64 1000000,.int .u64 10000000,.int .u64 100000000,.int .u64 1000000000,.int .u64 10000000000,.int .u64 100000000000,.int .u64 1000000000000,.int .u64 10000000000000,.int .u64 100000000000000,.int .u64 1000000000000000,.int .u64 10000000000000000,.int .u64 100000000000000000,.int .u64 1000000000000000000,.int .u64 10000000000000000000] (put 11 #[.int .u8 128,.int .u8 191,.int .u8 160,.int .u8 191,.int .u8 128,.int .u8 159,.int .u8 144,.int .u8 191,.int .u8 128,.int .u8 143,.int .u8 0,.int .u8 0,.int .u8 0,.int .u8 0,.int .u8 0,.int .u8 0,.int .u8 0,.int .u8 0,.int .u8 0,.int .u8 0,.int .u8 0,.int .u8 0,.int .u8 0,.int .u8 0,.int .u8 0,.int .u8 0,.int .u8 0,.int .u8 0,.int .u8 0,.int .u8 0,.int .u8 0,.int .u8 0] (put 7 #[.iface 247 (.agg #[.pointer (some ⟨14,27,none⟩)])] (put 2 #[.iface 338 (.pointer (some ⟨heapAlikeLow P+0,0,none⟩))] (put 0 #[.iface 338 (.pointer (some ⟨heapAlikeLow P+1,0,none⟩))] (put 3 #[.iface 338 (.pointer (some ⟨heapAlikeLow P+2,0,none⟩))] (put 4 #[.iface 338 (.pointer (some ⟨heapAlikeLow P+3,0,none⟩))] (put 1 #[.iface 338 (.pointer (some ⟨heapAlikeLow P+4,0,none⟩))] (put 5 #[.iface 338 (.pointer (some ⟨heapAlikeLow P+5,0,none⟩))] (put 6 #[.iface 338 (.pointer (some ⟨heapAlikeLow P+6,0,none⟩))] (put 10 (Go.Pinned.utf8FirstZ.map fun (n:Nat)=>Value.int .u8 (n:Int)).toArray w0.heap))))))))))))) }
theorem heapAlike_met (os:Os):laidMetH prog Rows.heapAlikeRow.laid ((heapAlikeWorld prog os).forCall (fun _ _=>0) ⟨#[],#[.int .i64 0,.int .i64 0,.int .i64 0,.int .i64 0,.slice none 0 0,.int .i64 0],[]⟩).memory:=
 laidMetH_of_parts (laidMet_of_run' 8 (by kernel_rfl) (by kernel_rfl)) (by kernel_rfl)
theorem heapAlike_reads (os:Os) {H:Type} (enc:TypeId × Value→H):∃ places,DataW.whole enc prog ((heapAlikeWorld prog os).forCall (fun _ _=>0) ⟨#[],#[.int .i64 0,.int .i64 0,.int .i64 0,.int .i64 0,.slice none 0 0,.int .i64 0],[]⟩).memory f4.params.toList Rows.heapAlikeSpec.vars false (#[.int .i64 0,.int .i64 0,.int .i64 0,.int .i64 0,.slice none 0 0,.int .i64 0]:Array Value).toList 8=some ([.lit (.int .i64 0),.lit (.int .i64 0),.lit (.int .i64 0),.lit (.int .i64 0),.nil,.lit (.int .i64 0)],[],places):=
 ⟨[],by kernel_rfl⟩

set_option maxRecDepth 100000 in
theorem heapAlike_lifted (os:Os) (started:os.Started) (H:Type) (enc:TypeId × Value→H) (F:Stop.Interp) :
  ReturnsInHanded {} Tryz.checked os 4 .any ((OpenSpec.ofChange Rows.heapAlikeSpec).preRow enc prog f4 Rows.heapAlikeRow.domain false Rows.heapAlikeRow.laid) (((OpenSpec.ofChange Rows.heapAlikeSpec).at F).post enc prog f4 false true false false):=by
 obtain ⟨places,hx⟩:=heapAlike_reads os enc
 refine returnsInHanded_of_row (C:=Tryz.checked) (s:=OpenSpec.ofChange Rows.heapAlikeSpec) own started (by kernel_rfl) func4
  (witness_row_at (enc:=enc) (C:=Tryz.checked) false (heapAlikeWorld prog os) #[.int .i64 0,.int .i64 0,.int .i64 0,.int .i64 0,.slice none 0 0,.int .i64 0] rfl (by kernel_rfl) (by kernel_rfl) (by kernel_rfl)
   (OpenSpec.preRow_of_cond 8 hx (by kernel_rfl) (fun k hk=>by cases hk) (by kernel_rfl) (heapAlike_met os))) ?_
 intro W base args ds gs before hval hW _ _ hsz hL _ _
 exact heapAlike_contract H enc W base args ds gs before hval hW hL hsz
end Go.Proofs.YtlkcbdinlfeoiaaGreatDoor
