/- slices.SortFunc at this program: the shelf's laying. -/
import Derived.Shelf.SlSortCmp.WholeK
import Derived.Test.YtlkcbdinlfeoiaaGreatDoorProg
namespace Go.Proofs.YtlkcbdinlfeoiaaGreatDoor
open Go.Proofs.Tryz
open Go.Shelf Go.RowKit

def Z8x:Go.Shelf.Ren:=⟨fun | 6=>151 | 15=>187 | 14=>186 | 28=>225 | 29=>226 | 20=>217 | 21=>218 | 22=>219 | 23=>220 | 24=>221 | 25=>222 | 26=>223 | 27=>224 | 46=>246 | 47=>247 | 48=>248 | 49=>249 | 50=>250 | 57=>261 | n=>n,fun | 22=>82 | 24=>123 | 25=>225 | 3=>3 | 39=>143 | 0=>0 | 53=>198 | 55=>81 | 4=>4 | 46=>294 | 45=>293 | 50=>194 | 5=>5 | 9=>9 | 66=>312 | 70=>316 | 76=>326 | 77=>60 | n=>n,fun | n=>n⟩
theorem Ztd:Go.Proofs.SlLaysF0.n6 prog Z8x:={
 mixed:=by kernel_rfl
 f6 := ⟨ "slices.SortFunc[[]nurserypy/mem.ID,nurserypy/mem.ID]", of_decide_eq_true (by kernel_rfl), func151.trans (congrArg some (by kernel_rfl))⟩
 f14 := ⟨ "slices.pdqsortCmpFunc[nurserypy/mem.ID]", of_decide_eq_true (by kernel_rfl), func186.trans (congrArg some (by kernel_rfl))⟩
 f20 := ⟨ "slices.insertionSortCmpFunc[nurserypy/mem.ID]", of_decide_eq_true (by kernel_rfl), func217.trans (congrArg some (by kernel_rfl))⟩
 f21 := ⟨ "slices.heapSortCmpFunc[nurserypy/mem.ID]", of_decide_eq_true (by kernel_rfl), func218.trans (congrArg some (by kernel_rfl))⟩
 f22 := ⟨ "slices.breakPatternsCmpFunc[nurserypy/mem.ID]", of_decide_eq_true (by kernel_rfl), func219.trans (congrArg some (by kernel_rfl))⟩
 f23 := ⟨ "slices.choosePivotCmpFunc[nurserypy/mem.ID]", of_decide_eq_true (by kernel_rfl), func220.trans (congrArg some (by kernel_rfl))⟩
 f24 := ⟨ "slices.reverseRangeCmpFunc[nurserypy/mem.ID]", of_decide_eq_true (by kernel_rfl), func221.trans (congrArg some (by kernel_rfl))⟩
 f25 := ⟨ "slices.partialInsertionSortCmpFunc[nurserypy/mem.ID]", of_decide_eq_true (by kernel_rfl), func222.trans (congrArg some (by kernel_rfl))⟩
 f26 := ⟨ "slices.partitionEqualCmpFunc[nurserypy/mem.ID]", of_decide_eq_true (by kernel_rfl), func223.trans (congrArg some (by kernel_rfl))⟩
 f27 := ⟨ "slices.partitionCmpFunc[nurserypy/mem.ID]", of_decide_eq_true (by kernel_rfl), func224.trans (congrArg some (by kernel_rfl))⟩
 f46 := ⟨ "slices.siftDownCmpFunc[nurserypy/mem.ID]", of_decide_eq_true (by kernel_rfl), func246.trans (congrArg some (by kernel_rfl))⟩
 f49 := ⟨ "slices.medianAdjacentCmpFunc[nurserypy/mem.ID]", of_decide_eq_true (by kernel_rfl), func249.trans (congrArg some (by kernel_rfl))⟩
 f50 := ⟨ "slices.medianCmpFunc[nurserypy/mem.ID]", of_decide_eq_true (by kernel_rfl), func250.trans (congrArg some (by kernel_rfl))⟩
 f57 := ⟨ "slices.order2CmpFunc[nurserypy/mem.ID]", of_decide_eq_true (by kernel_rfl), func261.trans (congrArg some (by kernel_rfl))⟩
 f15:=func187.trans (congrArg some (by kernel_rfl))
 f28:=func225.trans (congrArg some (by kernel_rfl))
 f29:=func226.trans (congrArg some (by kernel_rfl))
 f47:=func247.trans (congrArg some (by kernel_rfl))
 f48:=func248.trans (congrArg some (by kernel_rfl))
 t0:=underlying0
 a0:=Tryz.isAgg0
 z0:=Tryz.sizeOf0
 v0:=Tryz.zeroValue0
 t3:=underlying3
 a3:=Tryz.isAgg3
 z3:=Tryz.sizeOf3
 v3:=Tryz.zeroValue3
 t4:=underlying4
 a4:=Tryz.isAgg4
 z4:=Tryz.sizeOf4
 v4:=Tryz.zeroValue4
 t5:=underlying5
 a5:=Tryz.isAgg5
 z5:=Tryz.sizeOf5
 v5:=Tryz.zeroValue5
 t9:=underlying9
 a9:=Tryz.isAgg9
 z9:=Tryz.sizeOf9
 v9:=Tryz.zeroValue9
 t22:=underlying82
 a22:=Tryz.isAgg82
 z22:=Tryz.sizeOf82
 v22:=Tryz.zeroValue82
 t25:=underlying225
 a25:=Tryz.isAgg225
 z25:=Tryz.sizeOf225
 v25:=Tryz.zeroValue225
 t39:=underlying143
 a39:=Tryz.isAgg143
 z39:=Tryz.sizeOf143
 v39:=Tryz.zeroValue143
 t45:=underlying293
 a45:=Tryz.isAgg293
 z45:=Tryz.sizeOf293
 v45:=Tryz.zeroValue293
 t46:=underlying294
 a46:=Tryz.isAgg294
 z46:=Tryz.sizeOf294
 v46:=Tryz.zeroValue294
 t50:=underlying194
 a50:=Tryz.isAgg194
 z50:=Tryz.sizeOf194
 v50:=Tryz.zeroValue194
 t53:=underlying198
 a53:=Tryz.isAgg198
 z53:=Tryz.sizeOf198
 v53:=Tryz.zeroValue198
 t55:=underlying81
 a55:=Tryz.isAgg81
 z55:=Tryz.sizeOf81
 v55:=Tryz.zeroValue81
 t66:=underlying312
 a66:=Tryz.isAgg312
 z66:=Tryz.sizeOf312
 v66:=Tryz.zeroValue312
 t70:=underlying316
 a70:=Tryz.isAgg316
 z70:=Tryz.sizeOf316
 v70:=Tryz.zeroValue316
 t76:=underlying326
 a76:=Tryz.isAgg326
 z76:=Tryz.sizeOf326
 v76:=Tryz.zeroValue326
 t77:=underlying60
 a77:=Tryz.isAgg60
 z77:=Tryz.sizeOf60
 v77:=Tryz.zeroValue60 }
end Go.Proofs.YtlkcbdinlfeoiaaGreatDoor
