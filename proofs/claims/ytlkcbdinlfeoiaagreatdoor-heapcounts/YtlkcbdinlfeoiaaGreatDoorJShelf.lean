/- The library's slices.Sort and slices.BinarySearch of ints at this program: the shelf's layings, and their contracts. -/
import Derived.Shelf.Strings.Builder1
import Derived.Shelf.Strings.Builder2
import Derived.Shelf.Strings.OnBuilder
import Derived.Shelf.Small.Bits
import Derived.Shelf.Small.Wraps
import Derived.Shelf.Strings.BuilderF
import Derived.Shelf.Strings.BuilderK
import Derived.Shelf.Utf8.RuneCount
import Derived.Shelf.Strings.Builder2Cap
import Derived.Shelf.Strconv.Itoa0
import Derived.Shelf.Strconv.Itoa1
import Derived.Shelf.LaysM
import Derived.Shelf.Strconv.Itoa2
import Derived.Shelf.Strconv.Itoa3
import Derived.Shelf.Strconv.Itoa4
import Derived.Shelf.Strings.Search1
import Derived.Shelf.Strings.Search2
import Derived.Shelf.Strings.Search3
import Derived.Shelf.Strings.Count
import Derived.Shelf.Strings.Shaped
import Derived.Shelf.Sort.Plain
import Derived.Shelf.Strings.Prefix
import Derived.Shelf.Strings.Split
import Derived.Shelf.Unicode.Decode
import Derived.Shelf.Strings.RuneCount
import Derived.Shelf.Strings.Explode
import Derived.Shelf.Bits.Mul64
import Derived.Shelf.Strings.Repeat
import Derived.Shelf.Unicode.DecodeSlow
import Derived.Shelf.Unicode.DecodeAny
import Derived.Ground.Names2Prog
import Derived.Shelf.Slices.SearchI
import Derived.Shelf.Slices.In.SortNone
import Derived.Shelf.Slices.Empties
import Derived.Ground.SlgnProg
import Derived.Shelf.SlicesE.Clone
import Derived.Test.YtlkcbdinlfeoiaaGreatDoorProg
namespace Go.Proofs.YtlkcbdinlfeoiaaGreatDoor
open Go.Proofs.Tryz
open Go.Shelf Go.RowKit Go.Sort Go.Lib

def Zea:Go.Shelf.Ren:=⟨fun | 189=>240 | 125=>187 | 257=>257 | 128=>225 | 129=>226 | 294=>263 | 295=>264 | 296=>265 | 297=>266 | 298=>267 | 299=>268 | 216=>258 | 300=>269 | 301=>270 | 328=>271 | 329=>247 | 330=>248 | 331=>272 | 332=>273 | 215=>188 | 343=>274 | n=>n,fun | 28=>100 | 3=>3 | 46=>143 | 0=>0 | 51=>198 | 53=>81 | 4=>4 | 183=>294 | 182=>293 | 131=>194 | 5=>5 | 9=>9 | 218=>312 | 222=>316 | 228=>326 | 229=>60 | n=>n,fun | n=>n⟩
theorem Zh2:Go.Proofs.Lays.n189 prog Zea:={
 mixed:=by kernel_rfl
 f125:=func187.trans (congrArg some (by kernel_rfl))
 f128:=func225.trans (congrArg some (by kernel_rfl))
 f129:=func226.trans (congrArg some (by kernel_rfl))
 f189:=func240.trans (congrArg some (by kernel_rfl))
 f215:=func188.trans (congrArg some (by kernel_rfl))
 f216:=func258.trans (congrArg some (by kernel_rfl))
 f257:=func257.trans (congrArg some (by kernel_rfl))
 f294:=func263.trans (congrArg some (by kernel_rfl))
 f295:=func264.trans (congrArg some (by kernel_rfl))
 f296:=func265.trans (congrArg some (by kernel_rfl))
 f297:=func266.trans (congrArg some (by kernel_rfl))
 f298:=func267.trans (congrArg some (by kernel_rfl))
 f299:=func268.trans (congrArg some (by kernel_rfl))
 f300:=func269.trans (congrArg some (by kernel_rfl))
 f301:=func270.trans (congrArg some (by kernel_rfl))
 f328:=func271.trans (congrArg some (by kernel_rfl))
 f329:=func247.trans (congrArg some (by kernel_rfl))
 f330:=func248.trans (congrArg some (by kernel_rfl))
 f331:=func272.trans (congrArg some (by kernel_rfl))
 f332:=func273.trans (congrArg some (by kernel_rfl))
 f343:=func274.trans (congrArg some (by kernel_rfl))
 t0:=underlying0
 a0:=Tryz.isAgg0
 z0:=Tryz.sizeOf0
 v0:=Tryz.zeroValue0
 t3:=underlying3
 a3:=Tryz.isAgg3
 z3:=Tryz.sizeOf3
 v3:=Tryz.zeroValue3
 t4:=underlying4
 a4:=Tryz.isAgg4
 z4:=Tryz.sizeOf4
 v4:=Tryz.zeroValue4
 t5:=underlying5
 a5:=Tryz.isAgg5
 z5:=Tryz.sizeOf5
 v5:=Tryz.zeroValue5
 t9:=underlying9
 a9:=Tryz.isAgg9
 z9:=Tryz.sizeOf9
 v9:=Tryz.zeroValue9
 t28:=underlying100
 a28:=Tryz.isAgg100
 z28:=Tryz.sizeOf100
 v28:=Tryz.zeroValue100
 t46:=underlying143
 a46:=Tryz.isAgg143
 z46:=Tryz.sizeOf143
 v46:=Tryz.zeroValue143
 t51:=underlying198
 a51:=Tryz.isAgg198
 z51:=Tryz.sizeOf198
 v51:=Tryz.zeroValue198
 t53:=underlying81
 a53:=Tryz.isAgg81
 z53:=Tryz.sizeOf81
 v53:=Tryz.zeroValue81
 t131:=underlying194
 a131:=Tryz.isAgg194
 z131:=Tryz.sizeOf194
 v131:=Tryz.zeroValue194
 t182:=underlying293
 a182:=Tryz.isAgg293
 z182:=Tryz.sizeOf293
 v182:=Tryz.zeroValue293
 t183:=underlying294
 a183:=Tryz.isAgg294
 z183:=Tryz.sizeOf294
 v183:=Tryz.zeroValue294
 t218:=underlying312
 a218:=Tryz.isAgg312
 z218:=Tryz.sizeOf312
 v218:=Tryz.zeroValue312
 t222:=underlying316
 a222:=Tryz.isAgg316
 z222:=Tryz.sizeOf316
 v222:=Tryz.zeroValue316
 t228:=underlying326
 a228:=Tryz.isAgg326
 z228:=Tryz.sizeOf326
 v228:=Tryz.zeroValue326
 t229:=underlying60
 a229:=Tryz.isAgg60
 z229:=Tryz.sizeOf60
 v229:=Tryz.zeroValue60 }
theorem Z7s (blk off cap:Nat) (zs:List Int) (w:World) (hH:Holds (Value.int .i64) w blk off zs.toArray) (hblk:blk<w.heap.size) (hsz:zs.length<4611686018427387904) :
  Calls prog 240 #[.slice (some ⟨blk,off,none⟩) zs.length cap] w fun e w' =>
   e = .returned (.tuple #[]) ∧ ∃ n os,w'=grow (putRow (Value.int .i64) (Sort.ahead w n) blk off (zs.mergeSort fun x y=>decide (x≤y)).toArray) os:=Any.slices_Sort_int Zh2 blk off cap zs w hH hblk hsz
def Z9v:Go.Shelf.Ren:=⟨fun | 25=>241 | 31=>258 | 32=>259 | 37=>188 | n=>n,fun | 22=>100 | 3=>3 | 4=>4 | 40=>143 | 0=>0 | n=>n,fun | n=>n⟩
theorem Zal:Go.Proofs.Lays2.n25 prog Z9v:={
 mixed:=by kernel_rfl
 f25:=func241.trans (congrArg some (by kernel_rfl))
 f31:=func258.trans (congrArg some (by kernel_rfl))
 f32:=func259.trans (congrArg some (by kernel_rfl))
 f37:=func188.trans (congrArg some (by kernel_rfl))
 t0:=underlying0
 a0:=Tryz.isAgg0
 z0:=Tryz.sizeOf0
 v0:=Tryz.zeroValue0
 t3:=underlying3
 a3:=Tryz.isAgg3
 z3:=Tryz.sizeOf3
 v3:=Tryz.zeroValue3
 t4:=underlying4
 a4:=Tryz.isAgg4
 z4:=Tryz.sizeOf4
 v4:=Tryz.zeroValue4
 t22:=underlying100
 a22:=Tryz.isAgg100
 z22:=Tryz.sizeOf100
 v22:=Tryz.zeroValue100
 t40:=underlying143
 a40:=Tryz.isAgg143
 z40:=Tryz.sizeOf143
 v40:=Tryz.zeroValue143 }
theorem Z4d (b off n c:Nat) (zs:List Int) (x:Int) (w:World) (hz:n≤zs.length) (hbig:n<4611686018427387904) (hc:∀ j,j<zs.length→w.cell? ⟨b,off+j,none⟩=some (.int .i64 (zs.getD j 0))) (hs:(zs.take n).Pairwise (· ≤ ·)) :
  Calls prog 241 #[.slice (some ⟨b,off,none⟩) n c,.int .i64 x] w fun e w'=>e = .returned (.tuple #[.int .i64 ((zs.take n).countP (· < x):Nat),.bool ((zs.take n).contains x)]) ∧ ∃ q,w'=w.drewN q:=Any.slices_BinarySearch_int Zal b off n c zs x w hz hbig hc hs
theorem Z59 (p:Option Addr) (cap:Nat) (w:World) :
  Calls prog 240 #[.slice p 0 cap] w fun e w'=>e = .returned (.tuple #[])∧w'=w:=Any.slices_Sort_int_none Zh2 p cap w
theorem Z2w (a:Option Addr) (c:Nat) (x:Int) (w:World) :
  Calls prog 241 #[.slice a 0 c,.int .i64 x] w fun e w'=>e = .returned (.tuple #[.int .i64 0,.bool false])∧w'=w:=Any.slices_BinarySearch_int_empty Zal a c x w
end Go.Proofs.YtlkcbdinlfeoiaaGreatDoor
