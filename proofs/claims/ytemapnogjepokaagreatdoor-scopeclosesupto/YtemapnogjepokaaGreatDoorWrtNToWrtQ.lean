/- Package tree's writer, whatever it is handed: statements, of every depth. -/
import Derived.Test.YtemapnogjepokaaGreatDoorWrtM
import Derived.Shelf.Lays
import Derived.Shelf.LaysM
import Derived.Shelf.Strings.BuilderF
import Derived.Shelf.Strings.BuilderK
import Derived.Shelf.Strings.Builder1
import Derived.Shelf.Small.Strs
import Derived.Shelf.Strconv.Itoa0
import Derived.Shelf.Strconv.Itoa1
import Derived.Shelf.Strconv.Itoa2
import Derived.Shelf.Strconv.Itoa3
import Derived.Shelf.Strconv.Itoa4
import Derived.Shelf.Strconv.ParseIntEmpty
import Derived.Shelf.Strconv.Clone
import Derived.Shelf.Strconv.SyntaxError
import Derived.Shelf.LaysC
import Derived.Shelf.Strconv.ToError
import Derived.Shelf.Strconv.Lower
import Derived.Shelf.Strconv.ParseUint10
import Derived.Shelf.Strconv.ParseUint10Empty
import Derived.Shelf.Strconv.ParseUint10Any
import Derived.Shelf.Strconv.ParseInt10
import Derived.Shelf.Strconv.RangeError
import Derived.Shelf.Strconv.ToErrorRange
import Derived.Shelf.Strconv.ParseUintEmpty
import Derived.Shelf.Strconv.ParseUint10b64
import Derived.Shelf.Strconv.ParseUint10b32
import Derived.Shelf.Strconv.ParseUint10b16
import Derived.Shelf.Strconv.ParseUint10b8
import Derived.Shelf.Strconv.ParseUint10At
import Derived.Shelf.Strconv.ParseInt10At64
import Derived.Shelf.Strconv.ParseInt10At32
import Derived.Shelf.Strconv.ParseInt10At16
import Derived.Shelf.Strconv.ParseInt10At8
import Derived.Shelf.Strconv.ParseInt10All
import Derived.Shelf.Strconv.ParseIntPublic10
import Derived.Shelf.Strconv.ErrVarParseInt
import Derived.Shelf.Strings.Search1
import Derived.Shelf.Strings.Prefix
import Derived.Shelf.SortM.Plain
import Derived.Shelf.SortM.SortNone
import Derived.Test.YtemapnogjepokaaGreatDoorProg
import Derived.Test.YtemapnogjepokaaGreatDoorLineLToTreeA
import Derived.Test.YtemapnogjepokaaGreatDoorWrtFToWrtG
import Derived.Lib.AppendIntMem
import Derived.Lib.SmallJoins
namespace Go.Proofs.YtemapnogjepokaaGreatDoor
open Go.RowKit Go.Lib

set_option maxHeartbeats 4000000 in
set_option maxRecDepth 100000 in
theorem st_few {p:Nat}{rk:Value}{w1:World}{kd nm:ByteArray}{pa:Option Addr}{pn pc:Nat}{la:Option Addr}{ln lc:Nat}{ba:Option Addr}{bn bc:Nat}{ea:Option Addr}{en ec:Nat}(hl:(ln:Int)<(termsN kd:Int)) (d:Nat) (w:World) (C:WT p rk w1 w) :
  Calls Tryz.prog 37 #[.pointer (some ⟨p,0,none⟩),.agg #[.string kd,.string nm,.slice pa pn pc,.slice la ln lc,.slice ba bn bc,.slice ea en ec],.int .i64 (d:Int)] w fun ev w'=>ev = .returned (.tuple #[])∧WX p rk w1 w w':=by
 obtain ⟨wE,hE⟩:∃ wE,wE=w.alloc (.cells #[.string kd,.string nm,.slice pa pn pc,.slice la ln lc,.slice ba bn bc,.slice ea en ec] 52):=⟨_,rfl⟩
 have hWE:WX p rk w1 w wE:=by rw [hE];exact (WX.start C).alloc _
 have HE:=toHidP hE
 have HCA:=toHidP hWE
 clear C hE hWE
 go_enter Tryz.func37,Tryz.ntmps37
 go_wp2_with fail
 go_quiet ((go_at_call 50;exact Calls.quiet_of_same (termsOf_any _ _)))
 rw [←HE.out]
 obtain ⟨wD,hwD⟩:∃ wD,wD=wE.drewN nq:=⟨_,rfl⟩
 have HD:Hid (WX p rk w1 w wD):=by show WX _ _ _ _ _;rw [hwD];exact HCA.out.drewN
 rw [←hwD]
 obtain ⟨ta,tn,tc,tm,lost,_,d0,d1,d2,d3,df⟩:=HD.out.wt.cells
 have df3:=df 3
 have HL:=toHidP (HD.out.lose true)
 clear df hwD
 go_wp2_with fail
 refine bodyPost_ret (results_none rfl _ _ _) rfl ?_
 exact ⟨rfl,HL.out⟩
theorem st_wt {p:Nat}{rk:Value}{w1:World}{n k:Nat}(H:RW p rk w1 k) (S:SW p rk w1 k n) (CC:CH p rk w1 k (n+1)) {kd nm:ByteArray}{pa:Option Addr}{pn pc:Nat}{la:Option Addr}{ln lc:Nat}{ba:Option Addr}{bn bc:Nat}{ea:Option Addr}{en ec:Nat}(ht:sv w1 p k (n+1) kd nm pa pn pc la ln lc ba bn bc ea en ec) (d:Nat) (hd:d+(n+1)≤1152921504606846976) (w:World) (C:WT p rk w1 w) :
  Calls Tryz.prog 37 #[.pointer (some ⟨p,0,none⟩),.agg #[.string kd,.string nm,.slice pa pn pc,.slice la ln lc,.slice ba bn bc,.slice ea en ec],.int .i64 (d:Int)] w fun ev w'=>ev = .returned (.tuple #[])∧WX p rk w1 w w':=by
 by_cases hl0:(ln:Int)<(termsN kd:Int)
 ·exact st_few hl0 d w C
 have hl:termsN kd≤ln:=by omega
 by_cases n0:(kd.toList == [105,102])=true
 ·obtain rfl:=str_is (beq_iff_eq.1 n0)
  have e:termsN ⟨#[105,102]⟩=1:=by kernel_rfl
  exact stW_if H S CC ht (by omega) d hd w C
 rw [Bool.not_eq_true] at n0
 by_cases n1:(kd.toList == [119,104,105,108,101])=true
 ·obtain rfl:=str_is (beq_iff_eq.1 n1)
  have e:termsN ⟨#[119,104,105,108,101]⟩=1:=by kernel_rfl
  exact stW_while H S CC ht (by omega) d hd w C
 rw [Bool.not_eq_true] at n1
 by_cases n2:(kd.toList == [102,111,114])=true
 ·obtain rfl:=str_is (beq_iff_eq.1 n2)
  have e:termsN ⟨#[102,111,114]⟩=1:=by kernel_rfl
  exact stW_for H S CC ht (by omega) d hd w C
 rw [Bool.not_eq_true] at n2
 by_cases n3:(kd.toList == [100,101,102])=true
 ·obtain rfl:=str_is (beq_iff_eq.1 n3)
  have e:termsN ⟨#[100,101,102]⟩=0:=by kernel_rfl
  exact stW_def H S CC ht (by omega) d hd w C
 rw [Bool.not_eq_true] at n3
 by_cases n4:(kd.toList == [116,114,121])=true
 ·obtain rfl:=str_is (beq_iff_eq.1 n4)
  have e:termsN ⟨#[116,114,121]⟩=0:=by kernel_rfl
  exact stW_try H S CC ht (by omega) d hd w C
 rw [Bool.not_eq_true] at n4
 exact stW_other H S CC n0 n1 n2 n3 n4 ht hl d hd w C
set_option maxHeartbeats 4000000 in
set_option maxRecDepth 100000 in
theorem sts_step {p:Nat}{rk:Value}{w1:World}{n k:Nat}(H:RW p rk w1 k) (S:SW p rk w1 k n) (CC:CH p rk w1 k (n+1)):SW p rk w1 k (n+1):=by
 intro a m c h hm d hd w C
 have HC:=toHidP C
 have HR:=toHidP h
 have HST:=toHidP (fun (kd nm:ByteArray) (pa:Option Addr) (pn pc:Nat) (la:Option Addr) (ln lc:Nat) (ba:Option Addr) (bn bc:Nat) (ea:Option Addr) (en ec:Nat) (ht:sv w1 p k (n+1) kd nm pa pn pc la ln lc ba bn bc ea en ec) (w:World) (C:WT p rk w1 w)=>st_wt H S CC ht d hd w C)
 clear C h H S CC
 go_enter Tryz.func24,Tryz.ntmps24
 go_wp2_with fail
 go_loopg [10] (m+1) (fun gk v10 wr => ∃ i:Nat,gk=m+1 - i∧i≤m∧v10 = .int .i64 (i:Int)∧WX p rk w1 w wr)
 case atStart=>exact ⟨0,rfl,Nat.zero_le _,rfl,.start HC.out⟩
 case round =>
  obtain ⟨i,hgk,hi,rfl,hC⟩:=hrel
  have HG:=toHidP hgk
  have HCR:=toHidP hC
  by_cases hlt:i<m
  ·have hI:(i:Int)<(m:Int):=by omega
   have hI0:(0:Int)≤(i:Int):=by omega
   obtain ⟨b,o,rfl,hb,kd,nm,pa,pn,pc,la,ln,lc,ba,bn,bc,ea,en,ec,k0,k1,k2,k3,k4,k5,ht⟩:=HR.out i hlt
   have HT:=toHidP ht
   have y0:=hC.wt.old (a:=⟨b,o+i*6,none⟩) hb k0
   have y1:=hC.wt.old (a:=⟨b,o+i*6+1,none⟩) hb k1
   have y2:=hC.wt.old (a:=⟨b,o+i*6+2,none⟩) hb k2
   have y3:=hC.wt.old (a:=⟨b,o+i*6+3,none⟩) hb k3
   have y4:=hC.wt.old (a:=⟨b,o+i*6+4,none⟩) hb k4
   have y5:=hC.wt.old (a:=⟨b,o+i*6+5,none⟩) hb k5
   obtain ⟨ta,tn,tc,tm,lost,_,c0,c1,c2,c3,cf⟩:=hC.wt.cells
   have hbl:=lt_of_cell y0
   have hpl:=hC.wt.lt
   obtain ⟨wE,hE⟩:∃ wE,wE=wr.alloc (.cells #[.string kd,.string nm,.slice pa pn pc,.slice la ln lc,.slice ba bn bc,.slice ea en ec] 52):=⟨_,rfl⟩
   have hWE:WX p rk w1 w wE:=by rw [hE];exact hC.alloc _
   have hq:wE.heap[wr.heap.size]?=some (.cells #[.string kd,.string nm,.slice pa pn pc,.slice la ln lc,.slice ba bn bc,.slice ea en ec] 52):=by rw [hE];exact heap_alloc_new _ _
   have HK:Hid (∀ w',WX p rk w1 wE w'→w'.cell? ⟨wr.heap.size,0,none⟩=some (.string kd)∧w'.cell? ⟨wr.heap.size,1,none⟩=some (.string nm)∧w'.cell? ⟨wr.heap.size,2,none⟩=some (.slice pa pn pc)∧w'.cell? ⟨wr.heap.size,3,none⟩=some (.slice la ln lc)∧w'.cell? ⟨wr.heap.size,4,none⟩=some (.slice ba bn bc)∧w'.cell? ⟨wr.heap.size,5,none⟩=some (.slice ea en ec)):=fun w' h=>let e:=stmt_block (h.block hq (by omega) (by decide));⟨e.1,e.2.1,e.2.2.1,e.2.2.2.1,e.2.2.2.2.1,e.2.2.2.2.2.1⟩
   have HE:=toHidP hE
   have HWE:=toHidP hWE
   clear hgk hC cf k0 k1 k2 k3 k4 k5 ht hE hWE hq
   cases lost with
   | true =>
    go_wp2_with fail
    rw [←HE.out]
    refine bodyPost_ret (results_none rfl _ _ _) rfl ?_
    exact ⟨rfl,HWE.out⟩
   | false =>
    go_wp2_with fail
    rw [←HE.out]
    refine (begin_wt d (by omega) _ HWE.out.wt).mono ?_
    rintro ev v1 ⟨rfl,g1⟩
    have G1:=toHidP g1
    clear y0 y1 y2 y3 y4 y5 c0 c1 c2 c3
    obtain ⟨x0,x1,x2,x3,x4,x5⟩:=HK.out v1 g1
    clear g1
    go_wp2_with fail
    refine (HST.out _ _ _ _ _ _ _ _ _ _ _ _ _ _ HT.out v1 G1.out.wt).mono ?_
    rintro ev v2 ⟨rfl,g2⟩
    have G2:=toHidP (HWE.out.trans (G1.out.trans g2))
    clear g2 x0 x1 x2 x3 x4 x5
    go_wp2_with fail
    go_roundg (m+1 - (i+1))
    case measure=>have:=HG.out;omega
    case rel=>exact ⟨i+1,rfl,by omega,by go_num,G2.out⟩
  ·obtain rfl:i=m:=by omega
   clear hgk hC
   go_wp2_with fail
   go_end0
   exact ⟨rfl,HCR.out⟩
set_option maxHeartbeats 4000000 in
set_option maxRecDepth 100000 in
theorem sts_zero {p:Nat}{rk:Value}{w1:World}{k:Nat} : SW p rk w1 k 0:=by
 intro a m c h _ d _ w C
 have hm:m=0:=by
  by_cases h0:0<m
  ·obtain ⟨_,_,_,_,_,_,_,_,_,_,_,_,_,_,_,_,_,_,_,_,_,_,_,_,hx⟩:=h 0 h0
   exact hx.elim
  ·omega
 subst hm
 have HC:=toHidP (WX.start C)
 clear C h
 go_enter Tryz.func24,Tryz.ntmps24
 go_wp2_with fail
 refine wp_loop_rounds 1 ?_
 rw [rounds_succ]
 go_wp2
 go_end0
 exact ⟨rfl,HC.out⟩
theorem sts_all {p:Nat}{rk:Value}{w1:World}{k:Nat}(H:RW p rk w1 k):∀ n,SW p rk w1 k n∧CH p rk w1 k n
 | 0=>⟨sts_zero,fun _ _ _ _ _ _ _ _ _ _ _ _ _ _ _ _ ht=>ht.elim⟩
 | n+1=>have h:=sts_all H n
  have c:=choice_step H h.1 h.2
  ⟨sts_step H h.1 c,c⟩
end Go.Proofs.YtemapnogjepokaaGreatDoor

/- The library's strings.Builder and strconv.Itoa, FormatInt at this program: the shelf's layings, and their contracts. -/
namespace Go.Proofs.YtemapnogjepokaaGreatDoor
open Go.Shelf Go.RowKit Go.Sort
def laysM173_ren:Go.Shelf.Ren:=⟨fun | 173=>129 | 246=>144 | 283=>157 | 284=>158 | 285=>159 | 286=>160 | 129=>95 | 317=>177 | 318=>178 | 319=>179 | 320=>180 | 337=>193 | 338=>194 | n=>n,fun | 2=>2 | 3=>3 | 9=>9 | 4=>4 | 171=>183 | 0=>0 | 53=>149 | 37=>75 | 5=>5 | 173=>185 | 212=>204 | 51=>147 | 20=>20 | 213=>205 | 46=>127 | 232=>217 | 233=>218 | n=>n,fun | 17=>6 | 18=>10 | 19=>11 | n=>n⟩
theorem laysM173:Go.Proofs.LaysM.n173 Tryz.prog laysM173_ren:={
 mixed:=by kernel_rfl
 f129:=Tryz.func95.trans (congrArg some (by kernel_rfl))
 f173:=Tryz.func129.trans (congrArg some (by kernel_rfl))
 f246:=Tryz.func144.trans (congrArg some (by kernel_rfl))
 f283:=Tryz.func157.trans (congrArg some (by kernel_rfl))
 f284:=Tryz.func158.trans (congrArg some (by kernel_rfl))
 f285:=Tryz.func159.trans (congrArg some (by kernel_rfl))
 f286:=Tryz.func160.trans (congrArg some (by kernel_rfl))
 f317:=Tryz.func177.trans (congrArg some (by kernel_rfl))
 f318:=Tryz.func178.trans (congrArg some (by kernel_rfl))
 f319:=Tryz.func179.trans (congrArg some (by kernel_rfl))
 f320:=Tryz.func180.trans (congrArg some (by kernel_rfl))
 f337:=Tryz.func193.trans (congrArg some (by kernel_rfl))
 f338:=Tryz.func194.trans (congrArg some (by kernel_rfl))
 t0:=Tryz.underlying0
 a0:=Tryz.isAgg0
 z0:=Tryz.sizeOf0
 v0:=Tryz.zeroValue0
 t2:=Tryz.underlying2
 a2:=Tryz.isAgg2
 z2:=Tryz.sizeOf2
 v2:=Tryz.zeroValue2
 t3:=Tryz.underlying3
 a3:=Tryz.isAgg3
 z3:=Tryz.sizeOf3
 v3:=Tryz.zeroValue3
 t4:=Tryz.underlying4
 a4:=Tryz.isAgg4
 z4:=Tryz.sizeOf4
 v4:=Tryz.zeroValue4
 t5:=Tryz.underlying5
 a5:=Tryz.isAgg5
 z5:=Tryz.sizeOf5
 v5:=Tryz.zeroValue5
 t9:=Tryz.underlying9
 a9:=Tryz.isAgg9
 z9:=Tryz.sizeOf9
 v9:=Tryz.zeroValue9
 t20:=Tryz.underlying20
 a20:=Tryz.isAgg20
 z20:=Tryz.sizeOf20
 v20:=Tryz.zeroValue20
 t37:=Tryz.underlying75
 a37:=Tryz.isAgg75
 z37:=Tryz.sizeOf75
 v37:=Tryz.zeroValue75
 t46:=Tryz.underlying127
 a46:=Tryz.isAgg127
 z46:=Tryz.sizeOf127
 v46:=Tryz.zeroValue127
 t51:=Tryz.underlying147
 a51:=Tryz.isAgg147
 z51:=Tryz.sizeOf147
 v51:=Tryz.zeroValue147
 t53:=Tryz.underlying149
 a53:=Tryz.isAgg149
 z53:=Tryz.sizeOf149
 v53:=Tryz.zeroValue149
 t171:=Tryz.underlying183
 a171:=Tryz.isAgg183
 z171:=Tryz.sizeOf183
 v171:=Tryz.zeroValue183
 t173:=Tryz.underlying185
 a173:=Tryz.isAgg185
 z173:=Tryz.sizeOf185
 v173:=Tryz.zeroValue185
 t212:=Tryz.underlying204
 a212:=Tryz.isAgg204
 z212:=Tryz.sizeOf204
 v212:=Tryz.zeroValue204
 t213:=Tryz.underlying205
 a213:=Tryz.isAgg205
 z213:=Tryz.sizeOf205
 t232:=Tryz.underlying217
 a232:=Tryz.isAgg217
 z232:=Tryz.sizeOf217
 v232:=Tryz.zeroValue217
 t233:=Tryz.underlying218
 a233:=Tryz.isAgg218
 z233:=Tryz.sizeOf218
 v233:=Tryz.zeroValue218
 g17:=by kernel_rfl
 g18:=by kernel_rfl
 g19:=by kernel_rfl
 i0:=by kernel_rfl
 i2:=by kernel_rfl
 i3:=by kernel_rfl
 i4:=by kernel_rfl
 i5:=by kernel_rfl
 i9:=by kernel_rfl
 i20:=by kernel_rfl
 i37:=by kernel_rfl
 i46:=by kernel_rfl
 i51:=by kernel_rfl
 i53:=by kernel_rfl
 i171:=by kernel_rfl
 i173:=by kernel_rfl
 i212:=by kernel_rfl
 i232:=by kernel_rfl
 i233:=by kernel_rfl
 m17:=by kernel_rfl
 m18:=by kernel_rfl
 m19:=by kernel_rfl }
def bren:Go.Shelf.Ren:=⟨fun | 166=>162 | 167=>161 | 169=>163 | 240=>181 | 276=>195 | n=>n,fun | 0=>0 | 3=>3 | 4=>4 | 5=>5 | 9=>9 | 20=>20 | 37=>75 | 70=>187 | 72=>189 | 75=>27 | 80=>155 | 127=>207 | 164=>212 | n=>n,fun | n=>n⟩
theorem blays166:Go.Proofs.Lays.n166 Tryz.prog bren:={
 mixed:=by kernel_rfl
 f166:=Tryz.func162.trans (congrArg some (by kernel_rfl))
 f240:=Tryz.func181.trans (congrArg some (by kernel_rfl))
 f276:=Tryz.func195.trans (congrArg some (by kernel_rfl))
 t0:=Tryz.underlying0
 a0:=Tryz.isAgg0
 z0:=Tryz.sizeOf0
 v0:=Tryz.zeroValue0
 t3:=Tryz.underlying3
 a3:=Tryz.isAgg3
 z3:=Tryz.sizeOf3
 v3:=Tryz.zeroValue3
 t4:=Tryz.underlying4
 a4:=Tryz.isAgg4
 z4:=Tryz.sizeOf4
 v4:=Tryz.zeroValue4
 t9:=Tryz.underlying9
 a9:=Tryz.isAgg9
 z9:=Tryz.sizeOf9
 v9:=Tryz.zeroValue9
 t20:=Tryz.underlying20
 a20:=Tryz.isAgg20
 z20:=Tryz.sizeOf20
 v20:=Tryz.zeroValue20
 t37:=Tryz.underlying75
 a37:=Tryz.isAgg75
 z37:=Tryz.sizeOf75
 v37:=Tryz.zeroValue75
 t70:=Tryz.underlying187
 a70:=Tryz.isAgg187
 z70:=Tryz.sizeOf187
 v70:=Tryz.zeroValue187
 t72:=Tryz.underlying189
 a72:=Tryz.isAgg189
 z72:=Tryz.sizeOf189
 v72:=Tryz.zeroValue189
 t75:=Tryz.underlying27
 a75:=Tryz.isAgg27
 z75:=Tryz.sizeOf27
 v75:=Tryz.zeroValue27
 t164:=Tryz.underlying212
 a164:=Tryz.isAgg212
 z164:=Tryz.sizeOf212
 v164:=Tryz.zeroValue212 }
theorem blays167:Go.Proofs.Lays.n167 Tryz.prog bren:={
 mixed:=by kernel_rfl
 f167:=Tryz.func161.trans (congrArg some (by kernel_rfl))
 f240:=Tryz.func181.trans (congrArg some (by kernel_rfl))
 f276:=Tryz.func195.trans (congrArg some (by kernel_rfl))
 t0:=Tryz.underlying0
 a0:=Tryz.isAgg0
 z0:=Tryz.sizeOf0
 v0:=Tryz.zeroValue0
 t4:=Tryz.underlying4
 a4:=Tryz.isAgg4
 z4:=Tryz.sizeOf4
 v4:=Tryz.zeroValue4
 t5:=Tryz.underlying5
 a5:=Tryz.isAgg5
 z5:=Tryz.sizeOf5
 v5:=Tryz.zeroValue5
 t9:=Tryz.underlying9
 a9:=Tryz.isAgg9
 z9:=Tryz.sizeOf9
 v9:=Tryz.zeroValue9
 t20:=Tryz.underlying20
 a20:=Tryz.isAgg20
 z20:=Tryz.sizeOf20
 v20:=Tryz.zeroValue20
 t37:=Tryz.underlying75
 a37:=Tryz.isAgg75
 z37:=Tryz.sizeOf75
 v37:=Tryz.zeroValue75
 t70:=Tryz.underlying187
 a70:=Tryz.isAgg187
 z70:=Tryz.sizeOf187
 v70:=Tryz.zeroValue187
 t72:=Tryz.underlying189
 a72:=Tryz.isAgg189
 z72:=Tryz.sizeOf189
 v72:=Tryz.zeroValue189
 t75:=Tryz.underlying27
 a75:=Tryz.isAgg27
 z75:=Tryz.sizeOf27
 v75:=Tryz.zeroValue27
 t164:=Tryz.underlying212
 a164:=Tryz.isAgg212
 z164:=Tryz.sizeOf212
 v164:=Tryz.zeroValue212 }
theorem blays169:Go.Proofs.Lays.n169 Tryz.prog bren:={
 mixed:=by kernel_rfl
 f169:=Tryz.func163.trans (congrArg some (by kernel_rfl))
 t0:=Tryz.underlying0
 a0:=Tryz.isAgg0
 z0:=Tryz.sizeOf0
 v0:=Tryz.zeroValue0
 t3:=Tryz.underlying3
 a3:=Tryz.isAgg3
 z3:=Tryz.sizeOf3
 v3:=Tryz.zeroValue3
 t9:=Tryz.underlying9
 a9:=Tryz.isAgg9
 z9:=Tryz.sizeOf9
 v9:=Tryz.zeroValue9
 t37:=Tryz.underlying75
 a37:=Tryz.isAgg75
 z37:=Tryz.sizeOf75
 v37:=Tryz.zeroValue75
 t70:=Tryz.underlying187
 a70:=Tryz.isAgg187
 z70:=Tryz.sizeOf187
 v70:=Tryz.zeroValue187
 t72:=Tryz.underlying189
 a72:=Tryz.isAgg189
 z72:=Tryz.sizeOf189
 v72:=Tryz.zeroValue189
 t127:=Tryz.underlying207
 a127:=Tryz.isAgg207
 z127:=Tryz.sizeOf207
 v127:=Tryz.zeroValue207 }
theorem bextra:Builder.Extra Tryz.prog bren:={
 sizeBuilder:=by kernel_rfl
 liesBuilder:=by kernel_rfl
 t5:=Tryz.underlying5
 a5:=Tryz.isAgg5
 z5:=Tryz.sizeOf5
 v5:=Tryz.zeroValue5
 infoByte:=by kernel_rfl
 cellsByte:=by kernel_rfl
 sizeByte:=by kernel_rfl
 neB5:=by decide }

theorem wByte (B b:Nat) (bs:List Value) (c:Int) (w:World) (h:Lib.IsBuilderF 189 5 B b bs w) (hlen:bs.length+1≤140737488355328) (hBw:B≤w.heap.size) :
  Calls Tryz.prog 161 #[.pointer (some ⟨b,0,none⟩),.int .u8 c] w fun e w'=>e = .returned .nilIface∧Lib.IsBuilderF 189 5 B b (bs ++ [.int .u8 c]) w'∧Below B w w'∧Lib.OthersKept 5 (some b) w w':=
 (Any.Builder_WriteByte_k blays167 bextra B b bs c w h hlen hBw).mono fun _ _ ⟨h1,h2,h3,h4⟩=>⟨h1,.inr h2,h3,h4⟩
theorem wString (B b:Nat) (bs:List Value) (s:ByteArray) (w:World) (h:Lib.IsBuilderF 189 5 B b bs w) (hlen:bs.length+s.size≤140737488355328) (hBw:B≤w.heap.size) :
  Calls Tryz.prog 162 #[.pointer (some ⟨b,0,none⟩),.string s] w fun e w'=>e = .returned (.tuple #[.int .i64 s.size,.nilIface])∧Lib.IsBuilderF 189 5 B b (bs++Lib.strCells s) w'∧Below B w w'∧Lib.OthersKept 5 (some b) w w':=
 (Any.Builder_WriteString_k blays166 bextra B b bs s w h hlen hBw).mono fun _ _ ⟨h1,h2,h3,h4⟩=>⟨h1,.inr h2,h3,h4⟩
theorem bString (B b:Nat) (l:List UInt8) (w:World) (h:Lib.IsBuilderF 189 5 B b (Lib.byteCells l) w) (hBw:B≤w.heap.size) :
  Calls Tryz.prog 163 #[.pointer (some ⟨b,0,none⟩)] w fun e w'=>e = .returned (.string ⟨l.toArray⟩)∧Below B w w':=(Any.Builder_String_any_k blays169 bextra B b l w h hBw).mono fun _ _ ⟨h1,_,h3,_⟩=>⟨h1,h3⟩
theorem format_any (n : Int) (h0 : -9223372036854775808 ≤ n) (h1 : n ≤ 9223372036854775807) (w : World) (htab : Lib.TabIs Tryz.prog w "internal/strconv.uint64pow10" .u64 Lib.pow10Tab) :
  Calls Tryz.prog 129 #[.int .i64 n,.int .i64 10] w fun e w'=>e = .returned (.string ⟨(Lib.itoa n).toArray⟩) ∧ ∃ k os,w'=grow (w.drewN k) os:=Any.strconv_FormatInt_10 laysM173 n h0 h1 w htab
end Go.Proofs.YtemapnogjepokaaGreatDoor

/- Package lex: Quote by a contract. -/
namespace Go.Proofs.YtemapnogjepokaaGreatDoor
open Go.RowKit

theorem fresh_builder (w:World):Lib.IsBuilderF 189 5 w.heap.size w.heap.size [] (w.alloc (.cells #[.pointer none,.slice none 0 0] 189)):=
 Lib.IsBuilderF.of (.inl ⟨Nat.le_refl _,.slice none 0 0,heap_alloc_new _ _,World.ownsRow_nil _ _ _ _,by simp [Value.ownBlock]⟩)

theorem hex_at (n:Nat) (h:n<16) (h':n<(⟨#[48,49,50,51,52,53,54,55,56,57,97,98,99,100,101,102]⟩:ByteArray).size):(⟨#[48,49,50,51,52,53,54,55,56,57,97,98,99,100,101,102]⟩:ByteArray)[n].toNat=(hexDig n).toNat:=by
 iterate 16 (rcases n with _ | n;· rfl)
 omega

set_option maxHeartbeats 1000000 in
theorem quote_any (s:ByteArray) (hs:s.size≤6000) (w:World) :
  Calls Tryz.prog 145 #[.string s] w fun ev w'=>ev = .returned (.string (quotedB s.data.toList))∧Below w.heap.size w w':=by
 have hf:=fresh_builder w
 have hb0:Below w.heap.size w (w.alloc (.cells #[.pointer none,.slice none 0 0] 189)):=(Below.refl _ _).alloc (Nat.le_refl _) _
 go_enter Tryz.func145,Tryz.ntmps145
 go_wp2_with fail
 refine (wByte w.heap.size w.heap.size [] 34 _ hf (by simp) (by simp)).mono ?_
 rintro ev w1 ⟨rfl,hB1,hb1,_⟩
 have hb1w:Below w.heap.size w w1:=hb0.trans hb1
 clear hf hb0 hb1
 go_wp2_with fail
 go_loopg [9] (s.size+1) (fun gk v9 wr => ∃ k:Nat,gk=s.size+1 - k∧k≤s.size∧v9 = .int .i64 (k:Int)∧Lib.IsBuilderF 189 5 w.heap.size w.heap.size (Lib.byteCells ([34]++(s.data.toList.take k).flatMap escB)) wr∧Below w.heap.size w wr)
 case atStart=>exact ⟨0,rfl,Nat.zero_le _,rfl,hB1,hb1w⟩
 case round =>
  obtain ⟨k,hgk,hk,hv,hB,hb⟩:=hrel
  subst hv
  have HG:Hid (gk=s.size+1 - k):=hgk
  clear hgk hB1 hb1w
  have hk0:(0:Int)≤(k:Int):=by omega
  have hfl:=flat_len (s.data.toList.take k)
  have htl:(s.data.toList.take k).length≤k:=List.length_take_le _ _
  have hcl:(Lib.byteCells ([34]++(s.data.toList.take k).flatMap escB)).length≤24001:=by
   rw [Lib.byteCells_length,List.length_append]
   simp only [List.length_cons,List.length_nil]
   omega
  have hsz:=hb.size
  by_cases hlt:k<s.size
  ·have hI:(k:Int)<(s.size:Int):=by omega
   have hts:=take_snoc s k hlt
   have HSN:Hid (Lib.byteCells ([34]++(s.data.toList.take (k+1)).flatMap escB)=Lib.byteCells ([34]++(s.data.toList.take k).flatMap escB)++Lib.byteCells (escB s[k])):=by
    show _=_
    rw [hts,←Lib.byteCells_append]
    simp
   clear hts hfl htl
   have hc1:s[k].toNat≤255:=by have:=s[k].toNat_lt;omega
   have hC1:(s[k].toNat:Int)≤255:=by omega
   have hC0:(0:Int)≤(s[k].toNat:Int):=by omega
   generalize Lib.byteCells ([34]++(s.data.toList.take k).flatMap escB)=bs at hB hcl HSN
   cases e10:((s[k].toNat:Int) == 10)
   rotate_left
   ·go_wp2_with fail
    refine (wString w.heap.size w.heap.size bs ⟨#[92,110]⟩ _ hB (by have:(⟨#[92,110]⟩:ByteArray).size=2:=rfl;omega) hsz).mono ?_
    rintro ev w2 ⟨rfl,hB2,hb2,_⟩
    go_wp2_with fail
    go_roundg (s.size+1 - (k+1))
    case measure=>have:=HG.out;omega
    case rel =>
     refine ⟨k+1,rfl,by omega,by go_num,?_,hb.trans hb2⟩
     rw [HSN.out]
     have e:escB s[k] = [92,110]:=by simp [escB,show s[k].toNat=10 by have:=nat_of_beq e10;omega]
     rw [e]
     exact hB2
   have n10:¬ s[k].toNat=10:=by have:=nat_of_beqf e10;omega
   cases e34:((s[k].toNat:Int) == 34)
   rotate_left
   ·go_wp2_with fail
    refine (wByte w.heap.size w.heap.size bs 92 _ hB (by omega) hsz).mono ?_
    rintro ev w2 ⟨rfl,hB2,hb2,_⟩
    have hsz2:=(hb.trans hb2).size
    go_wp2_with fail
    refine (wByte w.heap.size w.heap.size _ (s[k].toNat:Int) _ hB2 (by simp;omega) hsz2).mono ?_
    rintro ev w3 ⟨rfl,hB3,hb3,_⟩
    go_wp2_with fail
    go_roundg (s.size+1 - (k+1))
    case measure=>have:=HG.out;omega
    case rel =>
     refine ⟨k+1,rfl,by omega,by go_num,?_,(hb.trans hb2).trans hb3⟩
     rw [HSN.out]
     have e:escB s[k] = [92,s[k]]:=by
      have h34:s[k].toNat=34:=by have:=nat_of_beq e34;omega
      have h34':s[k]=34:=UInt8.toNat_inj.mp h34
      rw [h34']
      rfl
     rw [e]
     have e2:bs++Lib.byteCells [92,s[k]]=bs ++ [.int .u8 92] ++ [.int .u8 (s[k].toNat:Int)]:=by simp [Lib.byteCells]
     rw [e2]
     exact hB3
   have n34:¬ s[k].toNat=34:=by have:=nat_of_beqf e34;omega
   cases e92:((s[k].toNat:Int) == 92)
   rotate_left
   ·go_wp2_with fail
    refine (wByte w.heap.size w.heap.size bs 92 _ hB (by omega) hsz).mono ?_
    rintro ev w2 ⟨rfl,hB2,hb2,_⟩
    have hsz2:=(hb.trans hb2).size
    go_wp2_with fail
    refine (wByte w.heap.size w.heap.size _ (s[k].toNat:Int) _ hB2 (by simp;omega) hsz2).mono ?_
    rintro ev w3 ⟨rfl,hB3,hb3,_⟩
    go_wp2_with fail
    go_roundg (s.size+1 - (k+1))
    case measure=>have:=HG.out;omega
    case rel =>
     refine ⟨k+1,rfl,by omega,by go_num,?_,(hb.trans hb2).trans hb3⟩
     rw [HSN.out]
     have e:escB s[k] = [92,s[k]]:=by
      have h92:s[k].toNat=92:=by have:=nat_of_beq e92;omega
      have h92':s[k]=92:=UInt8.toNat_inj.mp h92
      rw [h92']
      rfl
     rw [e]
     have e2:bs++Lib.byteCells [92,s[k]]=bs ++ [.int .u8 92] ++ [.int .u8 (s[k].toNat:Int)]:=by simp [Lib.byteCells]
     rw [e2]
     exact hB3
   have n92:¬ s[k].toNat=92:=by have:=nat_of_beqf e92;omega
   by_cases hout:s[k].toNat<32∨126<s[k].toNat
   ·have HE:Hid (escB s[k] = [92,120,hexDig (s[k].toNat / 16),hexDig (s[k].toNat % 16)]):=by
     show _=_
     rcases escB_cases s[k] with h | h | h | h | h
     ·omega
     ·omega
     ·omega
     ·exact h
     ·omega
    rcases hout with h32 | h126
    ·have hI32:(s[k].toNat:Int)<32:=by omega
     go_wp2_with fail
     refine (wString w.heap.size w.heap.size bs ⟨#[92,120]⟩ _ hB (by have:(⟨#[92,120]⟩:ByteArray).size=2:=rfl;omega) hsz).mono ?_
     rintro ev w2 ⟨rfl,hB2,hb2,_⟩
     have hsz2:=(hb.trans hb2).size
     have hl2:(bs++Lib.strCells ⟨#[92,120]⟩).length≤24003:=by rw [List.length_append,Lib.strCells_length];have:(⟨#[92,120]⟩:ByteArray).size=2:=rfl;omega
     go_wp2_with fail
     refine (wByte w.heap.size w.heap.size _ _ _ hB2 (by omega) hsz2).mono ?_
     rintro ev w3 ⟨rfl,hB3,hb3,_⟩
     have hb23:=hb2.trans hb3
     have hsz3:=(hb.trans hb23).size
     rw [hex_at _ (by omega)] at hB3
     go_wp2_with fail
     refine (wByte w.heap.size w.heap.size _ _ _ hB3 (by rw [List.length_append];simp only [List.length_cons,List.length_nil];omega) hsz3).mono ?_
     rintro ev w4 ⟨rfl,hB4,hb4,_⟩
     rw [hex_at _ (by omega)] at hB4
     go_wp2_with fail
     go_roundg (s.size+1 - (k+1))
     case measure=>have:=HG.out;omega
     case rel =>
      refine ⟨k+1,rfl,by omega,by go_num,?_,(hb.trans hb23).trans hb4⟩
      rw [HSN.out,HE.out]
      have e2:bs++Lib.byteCells [92,120,hexDig (s[k].toNat / 16),hexDig (s[k].toNat % 16)]=bs++Lib.strCells ⟨#[92,120]⟩ ++ [.int .u8 ((hexDig (s[k].toNat / 16)).toNat:Int)] ++ [.int .u8 ((hexDig (s[k].toNat % 16)).toNat:Int)]:=by simp [Lib.byteCells,Lib.strCells]
      rw [e2]
      exact hB4
    ·have hI32:¬ (s[k].toNat:Int)<32:=by omega
     have hI126:126<(s[k].toNat:Int):=by omega
     go_wp2_with fail
     refine (wString w.heap.size w.heap.size bs ⟨#[92,120]⟩ _ hB (by have:(⟨#[92,120]⟩:ByteArray).size=2:=rfl;omega) hsz).mono ?_
     rintro ev w2 ⟨rfl,hB2,hb2,_⟩
     have hsz2:=(hb.trans hb2).size
     have hl2:(bs++Lib.strCells ⟨#[92,120]⟩).length≤24003:=by rw [List.length_append,Lib.strCells_length];have:(⟨#[92,120]⟩:ByteArray).size=2:=rfl;omega
     go_wp2_with fail
     refine (wByte w.heap.size w.heap.size _ _ _ hB2 (by omega) hsz2).mono ?_
     rintro ev w3 ⟨rfl,hB3,hb3,_⟩
     have hb23:=hb2.trans hb3
     have hsz3:=(hb.trans hb23).size
     rw [hex_at _ (by omega)] at hB3
     go_wp2_with fail
     refine (wByte w.heap.size w.heap.size _ _ _ hB3 (by rw [List.length_append];simp only [List.length_cons,List.length_nil];omega) hsz3).mono ?_
     rintro ev w4 ⟨rfl,hB4,hb4,_⟩
     rw [hex_at _ (by omega)] at hB4
     go_wp2_with fail
     go_roundg (s.size+1 - (k+1))
     case measure=>have:=HG.out;omega
     case rel =>
      refine ⟨k+1,rfl,by omega,by go_num,?_,(hb.trans hb23).trans hb4⟩
      rw [HSN.out,HE.out]
      have e2:bs++Lib.byteCells [92,120,hexDig (s[k].toNat / 16),hexDig (s[k].toNat % 16)]=bs++Lib.strCells ⟨#[92,120]⟩ ++ [.int .u8 ((hexDig (s[k].toNat / 16)).toNat:Int)] ++ [.int .u8 ((hexDig (s[k].toNat % 16)).toNat:Int)]:=by simp [Lib.byteCells,Lib.strCells]
      rw [e2]
      exact hB4
   ·have hI32:¬ (s[k].toNat:Int)<32:=by omega
    have hI126:¬ 126<(s[k].toNat:Int):=by omega
    have HE:Hid (escB s[k] = [s[k]]):=by
     show _=_
     simp [escB,n10,n34,n92,hout]
    go_wp2_with fail
    refine (wByte w.heap.size w.heap.size bs (s[k].toNat:Int) _ hB (by omega) hsz).mono ?_
    rintro ev w2 ⟨rfl,hB2,hb2,_⟩
    go_wp2_with fail
    go_roundg (s.size+1 - (k+1))
    case measure=>have:=HG.out;omega
    case rel =>
     refine ⟨k+1,rfl,by omega,by go_num,?_,hb.trans hb2⟩
     rw [HSN.out,HE.out]
     exact hB2
  ·obtain rfl:k=s.size:=by omega
   have hI:¬ ((s.size:Nat):Int)<(s.size:Int):=by omega
   go_wp2_with fail
   refine (wByte w.heap.size w.heap.size _ 34 _ hB (by omega) hsz).mono ?_
   rintro ev w2 ⟨rfl,hB2,hb2,_⟩
   have hsz2:=(hb.trans hb2).size
   have HB:Lib.IsBuilderF 189 5 w.heap.size w.heap.size (Lib.byteCells ([34]++s.data.toList.flatMap escB ++ [34])) w2:=by
    rw [Lib.byteCells_append]
    rw [List.take_of_length_le (by simp)] at hB2
    exact hB2
   go_wp2_with fail
   refine (bString w.heap.size w.heap.size _ _ HB hsz2).mono ?_
   rintro ev w3 ⟨rfl,hb3⟩
   go_wp2_with fail
   go_ret
   exact ⟨rfl,(hb.trans hb2).trans hb3⟩
end Go.Proofs.YtemapnogjepokaaGreatDoor

/- Package tree's writer: what it asks of lex.Quote and strconv.FormatInt. -/
namespace Go.Proofs.YtemapnogjepokaaGreatDoor
open Go.RowKit

theorem quote_ok:QuoteOK:=fun s w hs=>(quote_any s hs w).mono fun ev w' ⟨h1,h2⟩=>⟨_,h1,by
 have h:=flat_len s.data.toList
 have e:s.data.toList.length=s.size:=by rw [Array.length_toList];rfl
 have e2:(quotedB s.data.toList).size=([34]++s.data.toList.flatMap escB ++ [34]).length:=by unfold quotedB;show Array.size _=_;rw [List.size_toArray]
 rw [e2]
 simp only [List.length_append,List.length_cons,List.length_nil]
 omega,h2⟩
def Tabbed (w : World) : Prop := Lib.TabIs Tryz.prog w "internal/strconv.uint64pow10" .u64 Lib.pow10Tab
theorem Tabbed.below {w w':World}{B:Nat}(h:Tabbed w) (hb:Below B w w') (hB:w.heap.size≤B):Tabbed w':=Go.Joins.tab_stays (g:=6) (by kernel_rfl) h hb hB
theorem nDigits_le:∀ (k u:Nat),u<10 ^ (k+1)→Lib.nDigits u≤k+1
 | 0,u,h=>by rw [Lib.nDigits_small (by simpa using h)];exact Nat.le_refl _
 | k+1,u,h=>by
  by_cases h':u<10
  ·rw [Lib.nDigits_small h']
   omega
  ·rw [Lib.nDigits_big h']
   have:=nDigits_le k (u / 10) (by rw [Nat.pow_succ] at h;omega)
   omega
theorem itoa_len (n:Int) (h0 : -9223372036854775808≤n) (h1:n≤9223372036854775807):(⟨(Lib.itoa n).toArray⟩:ByteArray).size≤100:=by
 show (Lib.itoa n).toArray.size≤100
 rw [List.size_toArray]
 unfold Lib.itoa
 split
 ·have:=nDigits_le 19 n.natAbs (by omega)
  rw [List.length_cons,Lib.decDigits_length]
  omega
 ·have:=nDigits_le 19 n.toNat (by omega)
  rw [Lib.decDigits_length]
  omega
theorem format_ok {p:Nat}{rk:Value}{w1 w0:World}(ht:Tabbed w0) (hb:Below w0.heap.size w0 w1) (hp:w0.heap.size≤p):FormatOK p rk w1:=fun z w h0 h1 C=>by
 have hT:Tabbed w:=ht.below (hb.trans (C.bl.mono hp)) (Nat.le_refl _)
 refine (format_any z h0 h1 w hT).mono ?_
 rintro ev w' ⟨rfl,k,os,rfl⟩
 exact ⟨_,rfl,by have:=itoa_len z h0 h1;omega,Lib.below_grow w.heap.size w (Nat.le_refl _) k os⟩
end Go.Proofs.YtemapnogjepokaaGreatDoor
