/- slices.Sorted(maps.Keys(m)) at this program: the shelf's layings, and their contracts. -/
import Derived.Shelf.SlIter.Nil
import Derived.Shelf.SortM.Plain
import Derived.Shelf.SortM.SortNone
import Derived.Ground.GgzProg
import Derived.Ground.SlgmProg
import Derived.Test.YtflcohidmemfpaaGreatDoorProg
set_option linter.all false
namespace Go.Proofs.YtflcohidmemfpaaGreatDoor
open Go.Proofs.Tryz
open Go.Proofs Go.RowKit Go.Maps Go.Sort Go.Shelf

def Zdm:Go.Shelf.Ren:=⟨fun | 7=>34 | 10=>48 | n=>n,fun | 23=>66 | 26=>9 | 3=>3 | 28=>93 | 0=>0 | 27=>92 | 33=>69 | 4=>4 | n=>n,fun | n=>n⟩
theorem Zw4:SlLaysZ.n7 prog Zdm:={
 mixed:=by kernel_rfl
 f7 := ⟨ "maps.Keys[map[string]int,string,int]", of_decide_eq_true (by kernel_rfl), func34.trans (congrArg some (by kernel_rfl))⟩
 f10 := ⟨ "maps.Keys[map[string]int,string,int]$1", of_decide_eq_true (by kernel_rfl), func48.trans (congrArg some (by kernel_rfl))⟩
 t0:=underlying0
 a0:=Tryz.isAgg0
 z0:=Tryz.sizeOf0
 v0:=Tryz.zeroValue0
 t4:=underlying4
 a4:=Tryz.isAgg4
 z4:=Tryz.sizeOf4
 v4:=Tryz.zeroValue4
 t23:=underlying66
 a23:=Tryz.isAgg66
 z23:=Tryz.sizeOf66
 v23:=Tryz.zeroValue66
 t26:=underlying9
 a26:=Tryz.isAgg9
 z26:=Tryz.sizeOf9
 v26:=Tryz.zeroValue9
 t27:=underlying92
 a27:=Tryz.isAgg92
 z27:=Tryz.sizeOf92
 v27:=Tryz.zeroValue92
 t28:=underlying93
 a28:=Tryz.isAgg93
 z28:=Tryz.sizeOf93
 v28:=Tryz.zeroValue93
 t33:=underlying69
 a33:=Tryz.isAgg69
 z33:=Tryz.sizeOf69
 v33:=Tryz.zeroValue69 }
def Za9:Go.Shelf.Ren:=⟨fun | 6=>33 | 8=>46 | 9=>47 | 11=>64 | 13=>66 | 12=>65 | 23=>94 | 24=>95 | 14=>85 | 15=>86 | 16=>87 | 17=>88 | 18=>89 | 19=>90 | 20=>91 | 21=>92 | 22=>93 | 25=>122 | 26=>123 | 27=>124 | 28=>125 | 29=>126 | 30=>127 | 31=>142 | n=>n,fun | 26=>9 | 28=>93 | 24=>32 | 0=>0 | 3=>3 | 37=>127 | 48=>147 | 50=>149 | 4=>4 | 40=>139 | 39=>138 | 45=>144 | 5=>5 | 9=>9 | 51=>161 | 55=>165 | 57=>174 | 58=>175 | 33=>69 | n=>n,fun | n=>n⟩
theorem Zvu:SlLaysZ.n6 prog Za9:={
 mixed:=by kernel_rfl
 f6 := ⟨ "slices.Sorted[string]", of_decide_eq_true (by kernel_rfl), func33.trans (congrArg some (by kernel_rfl))⟩
 f8 := ⟨ "slices.Collect[string]", of_decide_eq_true (by kernel_rfl), func46.trans (congrArg some (by kernel_rfl))⟩
 f11 := ⟨ "slices.AppendSeq[[]string,string]", of_decide_eq_true (by kernel_rfl), func64.trans (congrArg some (by kernel_rfl))⟩
 i26:=by kernel_rfl
 t0:=underlying0
 a0:=Tryz.isAgg0
 z0:=Tryz.sizeOf0
 v0:=Tryz.zeroValue0
 t24:=underlying32
 a24:=Tryz.isAgg32
 z24:=Tryz.sizeOf32
 v24:=Tryz.zeroValue32
 t26:=underlying9
 a26:=Tryz.isAgg9
 z26:=Tryz.sizeOf9
 v26:=Tryz.zeroValue9
 t28:=underlying93
 a28:=Tryz.isAgg93
 z28:=Tryz.sizeOf93
 v28:=Tryz.zeroValue93 }
def Zlx:Go.Shelf.Ren:=⟨fun | 6=>47 | 8=>66 | 9=>65 | 19=>94 | 20=>95 | 21=>85 | 22=>86 | 23=>87 | 24=>88 | 25=>89 | 26=>90 | 27=>91 | 28=>92 | 29=>93 | 36=>122 | 31=>123 | 32=>124 | 37=>125 | 38=>126 | 39=>127 | 41=>142 | n=>n,fun | 27=>32 | 29=>9 | 3=>3 | 32=>127 | 26=>32 | 0=>0 | 44=>147 | 46=>149 | 4=>4 | 36=>139 | 35=>138 | 41=>144 | 5=>5 | 9=>9 | 53=>161 | 57=>165 | 63=>174 | 64=>175 | n=>n,fun | n=>n⟩
theorem Zw9:SlLaysM.n6 prog Zlx:={
 mixed:=by kernel_rfl
 f6 := ⟨ "slices.Sort[[]string,string]", of_decide_eq_true (by kernel_rfl), func47.trans (congrArg some (by kernel_rfl))⟩
 f9 := ⟨ "slices.pdqsortOrdered[string]", of_decide_eq_true (by kernel_rfl), func65.trans (congrArg some (by kernel_rfl))⟩
 f21 := ⟨ "slices.insertionSortOrdered[string]", of_decide_eq_true (by kernel_rfl), func85.trans (congrArg some (by kernel_rfl))⟩
 f22 := ⟨ "slices.heapSortOrdered[string]", of_decide_eq_true (by kernel_rfl), func86.trans (congrArg some (by kernel_rfl))⟩
 f23 := ⟨ "slices.breakPatternsOrdered[string]", of_decide_eq_true (by kernel_rfl), func87.trans (congrArg some (by kernel_rfl))⟩
 f24 := ⟨ "slices.choosePivotOrdered[string]", of_decide_eq_true (by kernel_rfl), func88.trans (congrArg some (by kernel_rfl))⟩
 f25 := ⟨ "slices.reverseRangeOrdered[string]", of_decide_eq_true (by kernel_rfl), func89.trans (congrArg some (by kernel_rfl))⟩
 f26 := ⟨ "slices.partialInsertionSortOrdered[string]", of_decide_eq_true (by kernel_rfl), func90.trans (congrArg some (by kernel_rfl))⟩
 f27 := ⟨ "cmp.Less[string]", of_decide_eq_true (by kernel_rfl), func91.trans (congrArg some (by kernel_rfl))⟩
 f28 := ⟨ "slices.partitionEqualOrdered[string]", of_decide_eq_true (by kernel_rfl), func92.trans (congrArg some (by kernel_rfl))⟩
 f29 := ⟨ "slices.partitionOrdered[string]", of_decide_eq_true (by kernel_rfl), func93.trans (congrArg some (by kernel_rfl))⟩
 f36 := ⟨ "slices.siftDownOrdered[string]", of_decide_eq_true (by kernel_rfl), func122.trans (congrArg some (by kernel_rfl))⟩
 f37 := ⟨ "slices.medianAdjacentOrdered[string]", of_decide_eq_true (by kernel_rfl), func125.trans (congrArg some (by kernel_rfl))⟩
 f38 := ⟨ "slices.medianOrdered[string]", of_decide_eq_true (by kernel_rfl), func126.trans (congrArg some (by kernel_rfl))⟩
 f39 := ⟨ "cmp.isNaN[string]", of_decide_eq_true (by kernel_rfl), func127.trans (congrArg some (by kernel_rfl))⟩
 f41 := ⟨ "slices.order2Ordered[string]", of_decide_eq_true (by kernel_rfl), func142.trans (congrArg some (by kernel_rfl))⟩
 f8:=func66.trans (congrArg some (by kernel_rfl))
 f19:=func94.trans (congrArg some (by kernel_rfl))
 f20:=func95.trans (congrArg some (by kernel_rfl))
 f31:=func123.trans (congrArg some (by kernel_rfl))
 f32:=func124.trans (congrArg some (by kernel_rfl))
 t0:=underlying0
 a0:=Tryz.isAgg0
 z0:=Tryz.sizeOf0
 v0:=Tryz.zeroValue0
 t3:=underlying3
 a3:=Tryz.isAgg3
 z3:=Tryz.sizeOf3
 v3:=Tryz.zeroValue3
 t4:=underlying4
 a4:=Tryz.isAgg4
 z4:=Tryz.sizeOf4
 v4:=Tryz.zeroValue4
 t5:=underlying5
 a5:=Tryz.isAgg5
 z5:=Tryz.sizeOf5
 v5:=Tryz.zeroValue5
 t9:=underlying9
 a9:=Tryz.isAgg9
 z9:=Tryz.sizeOf9
 v9:=Tryz.zeroValue9
 t26:=underlying32
 a26:=Tryz.isAgg32
 z26:=Tryz.sizeOf32
 v26:=Tryz.zeroValue32
 t27:=underlying32
 a27:=Tryz.isAgg32
 z27:=Tryz.sizeOf32
 v27:=Tryz.zeroValue32
 t29:=underlying9
 a29:=Tryz.isAgg9
 z29:=Tryz.sizeOf9
 v29:=Tryz.zeroValue9
 t32:=underlying127
 a32:=Tryz.isAgg127
 z32:=Tryz.sizeOf127
 v32:=Tryz.zeroValue127
 t35:=underlying138
 a35:=Tryz.isAgg138
 z35:=Tryz.sizeOf138
 v35:=Tryz.zeroValue138
 t36:=underlying139
 a36:=Tryz.isAgg139
 z36:=Tryz.sizeOf139
 v36:=Tryz.zeroValue139
 t41:=underlying144
 a41:=Tryz.isAgg144
 z41:=Tryz.sizeOf144
 v41:=Tryz.zeroValue144
 t44:=underlying147
 a44:=Tryz.isAgg147
 z44:=Tryz.sizeOf147
 v44:=Tryz.zeroValue147
 t46:=underlying149
 a46:=Tryz.isAgg149
 z46:=Tryz.sizeOf149
 v46:=Tryz.zeroValue149
 t53:=underlying161
 a53:=Tryz.isAgg161
 z53:=Tryz.sizeOf161
 v53:=Tryz.zeroValue161
 t57:=underlying165
 a57:=Tryz.isAgg165
 z57:=Tryz.sizeOf165
 v57:=Tryz.zeroValue165
 t63:=underlying174
 a63:=Tryz.isAgg174
 z63:=Tryz.sizeOf174
 v63:=Tryz.zeroValue174
 t64:=underlying175
 a64:=Tryz.isAgg175
 z64:=Tryz.sizeOf175
 v64:=Tryz.zeroValue175 }
theorem Zwi (m:Nat):AnyZ.SortsIn prog Za9 Fence.wide m:=
 ⟨fun blk off cap ss W hH hblk hsz=>callsIn_wide.2 (AnyM.slices_Sort_string Zw9 blk off cap ss W hH hblk hsz),
  fun p cap W=>callsIn_wide.2 (AnyM.slices_Sort_string_none Zw9 p cap W)⟩

theorem Zem (mb:Option Nat) (W:World):CallsIn Fence.wide 5 prog 34 #[.map mb] W fun e w'=>e = .returned (.func (.func 48) #[] #[.pointer (some ⟨W.heap.size,0,none⟩)])∧w'=W.alloc (.cells #[.map mb] 66):=
 AnyZ.keys_in Zw4 Fence.wide 5 trivial rfl mb W

set_option maxHeartbeats 1000000 in
theorem Zc5 {H:Type} (b nn:Nat) (D0:DataW H) (R:Value→Option (DataW H × List MemPlace)) (w:World) (hown:w.ownsMap prog 9 R b nn D0) (hmax:Maps.size D0≤maxLen) (hbytes:Maps.size D0*16≤140737488355328) :
  CallsIn Fence.wide 5 prog 33 #[.func (.func 48) #[] #[.pointer (some ⟨w.heap.size,0,none⟩)]] (w.alloc (.cells #[.map (some b)] 66)) fun e w' => ∃ (v:Value) (ss:List (List UInt8)),e = .returned v∧ss.Perm (strKeys D0) ∧
   w'.ownsRow (w.alloc (.cells #[.map (some b)] 66)).heap.size 9 1 v ss.length ((ss.mergeSort (fun x y=>decide (x≤y))).map encStr)∧(v = .slice none 0 0 ↔ ss = [])∧Below (w.alloc (.cells #[.map (some b)] 66)).heap.size (w.alloc (.cells #[.map (some b)] 66)) w':=by
 have hbl:=hown.lt
 have hseq:SeqGives Fence.wide 2 prog 48 #[.pointer (some ⟨w.heap.size,0,none⟩)] encStr (fun ss=>ss.Perm (strKeys D0)) (Maps.size D0) (w.alloc (.cells #[.map (some b)] 66)):=
  AnyZ.keys_gives (ρ:=Zdm) { Zw4 with } Fence.wide _ trivial rfl (by omega) w.heap.size b nn D0 _ (by simp) (by simp) (by
   obtain ⟨es,clock,hb,Ft,hs,hD⟩:=hown
   exact ⟨es,clock,(Below.heap_alloc _ _ b hbl).trans hb,Ft,hs,hD⟩)
 exact AnyZ.sorted_in Zvu Fence.wide 5 trivial trivial trivial trivial rfl (by omega) (Zwi _) (enters_of func47 (by kernel_rfl) rfl) 48 #[.pointer (some ⟨w.heap.size,0,none⟩)] trivial (enters_of func48 (by kernel_rfl) rfl) _ _ hmax hbytes _ hseq
end Go.Proofs.YtflcohidmemfpaaGreatDoor
