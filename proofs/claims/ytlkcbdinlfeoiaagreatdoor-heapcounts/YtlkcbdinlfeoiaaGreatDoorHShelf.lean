/- The library's strings.genSplit and math/bits.Mul at this program: the shelf's layings, and their contracts. -/
import Derived.Shelf.Strings.Builder1
import Derived.Shelf.Strings.Builder2
import Derived.Shelf.Strings.OnBuilder
import Derived.Shelf.Small.Bits
import Derived.Shelf.Small.Wraps
import Derived.Shelf.Strings.BuilderF
import Derived.Shelf.Strings.BuilderK
import Derived.Shelf.Utf8.RuneCount
import Derived.Shelf.Strings.Builder2Cap
import Derived.Shelf.Strconv.Itoa0
import Derived.Shelf.Strconv.Itoa1
import Derived.Shelf.LaysM
import Derived.Shelf.Strconv.Itoa2
import Derived.Shelf.Strconv.Itoa3
import Derived.Shelf.Strconv.Itoa4
import Derived.Shelf.Strings.Search1
import Derived.Shelf.Strings.Search2
import Derived.Shelf.Strings.Search3
import Derived.Shelf.Strings.Count
import Derived.Shelf.Strings.Shaped
import Derived.Shelf.Sort.Plain
import Derived.Shelf.Strings.Prefix
import Derived.Shelf.Strings.Split
import Derived.Shelf.Unicode.Decode
import Derived.Shelf.Strings.RuneCount
import Derived.Shelf.Strings.Explode
import Derived.Shelf.Bits.Mul64
import Derived.Shelf.Strings.Repeat
import Derived.Shelf.Unicode.DecodeSlow
import Derived.Shelf.Unicode.DecodeAny
import Derived.Ground.Names2Prog
import Derived.Shelf.Slices.SearchI
import Derived.Shelf.Slices.In.SortNone
import Derived.Shelf.Slices.Empties
import Derived.Ground.SlgnProg
import Derived.Shelf.SlicesE.Clone
import Derived.Test.YtlkcbdinlfeoiaaGreatDoorProg
namespace Go.Proofs.YtlkcbdinlfeoiaaGreatDoor
open Go.Proofs.Tryz
open Go.Shelf Go.RowKit Go.Lib

def Zd6:Go.Shelf.Ren:=⟨fun | 143=>156 | 219=>192 | 217=>228 | 225=>229 | 224=>230 | 267=>231 | 266=>251 | 314=>252 | n=>n,fun | 9=>9 | 3=>3 | 4=>4 | 5=>5 | 46=>143 | 146=>199 | 51=>198 | n=>n,fun | 1=>8 | n=>n⟩
theorem Zou:Go.Proofs.Lays.n143 prog Zd6:={
 mixed:=by kernel_rfl
 f143:=func156.trans (congrArg some (by kernel_rfl))
 f217:=func228.trans (congrArg some (by kernel_rfl))
 f219:=func192.trans (congrArg some (by kernel_rfl))
 f224:=func230.trans (congrArg some (by kernel_rfl))
 f225:=func229.trans (congrArg some (by kernel_rfl))
 f266:=func251.trans (congrArg some (by kernel_rfl))
 f267:=func231.trans (congrArg some (by kernel_rfl))
 f314:=func252.trans (congrArg some (by kernel_rfl))
 t3:=underlying3
 a3:=Tryz.isAgg3
 z3:=Tryz.sizeOf3
 v3:=Tryz.zeroValue3
 t4:=underlying4
 a4:=Tryz.isAgg4
 z4:=Tryz.sizeOf4
 v4:=Tryz.zeroValue4
 t5:=underlying5
 a5:=Tryz.isAgg5
 z5:=Tryz.sizeOf5
 v5:=Tryz.zeroValue5
 t9:=underlying9
 a9:=Tryz.isAgg9
 z9:=Tryz.sizeOf9
 v9:=Tryz.zeroValue9
 t46:=underlying143
 a46:=Tryz.isAgg143
 z46:=Tryz.sizeOf143
 v46:=Tryz.zeroValue143
 t51:=underlying198
 a51:=Tryz.isAgg198
 z51:=Tryz.sizeOf198
 v51:=Tryz.zeroValue198
 t146:=underlying199
 a146:=Tryz.isAgg199
 z146:=Tryz.sizeOf199
 v146:=Tryz.zeroValue199
 g1:=by kernel_rfl }
theorem Z3q (s:ByteArray) (c:UInt8) (w:World) :
  Calls prog 156 #[.string s,.string ⟨#[c]⟩] w fun e w'=>e = .returned (.int .i64 (Lib.indexByte s.data.toList c))∧w'=w:=Any.strings_Index_one Zou s c w
def Zcq:Go.Shelf.Ren:=⟨fun | 138=>155 | 195=>189 | 218=>191 | 143=>156 | 219=>192 | 217=>228 | 225=>229 | 224=>230 | 267=>231 | 266=>251 | 314=>252 | n=>n,fun | 9=>9 | 3=>3 | 4=>4 | 5=>5 | 0=>0 | 46=>143 | 146=>199 | 51=>198 | n=>n,fun | 1=>8 | n=>n⟩
theorem Zoi:Go.Proofs.Lays.n138 prog Zcq:={
 mixed:=by kernel_rfl
 f138:=func155.trans (congrArg some (by kernel_rfl))
 f143:=func156.trans (congrArg some (by kernel_rfl))
 f195:=func189.trans (congrArg some (by kernel_rfl))
 f217:=func228.trans (congrArg some (by kernel_rfl))
 f218:=func191.trans (congrArg some (by kernel_rfl))
 f219:=func192.trans (congrArg some (by kernel_rfl))
 f224:=func230.trans (congrArg some (by kernel_rfl))
 f225:=func229.trans (congrArg some (by kernel_rfl))
 f266:=func251.trans (congrArg some (by kernel_rfl))
 f267:=func231.trans (congrArg some (by kernel_rfl))
 f314:=func252.trans (congrArg some (by kernel_rfl))
 t0:=underlying0
 a0:=Tryz.isAgg0
 z0:=Tryz.sizeOf0
 v0:=Tryz.zeroValue0
 t3:=underlying3
 a3:=Tryz.isAgg3
 z3:=Tryz.sizeOf3
 v3:=Tryz.zeroValue3
 t4:=underlying4
 a4:=Tryz.isAgg4
 z4:=Tryz.sizeOf4
 v4:=Tryz.zeroValue4
 t5:=underlying5
 a5:=Tryz.isAgg5
 z5:=Tryz.sizeOf5
 v5:=Tryz.zeroValue5
 t9:=underlying9
 a9:=Tryz.isAgg9
 z9:=Tryz.sizeOf9
 v9:=Tryz.zeroValue9
 t46:=underlying143
 a46:=Tryz.isAgg143
 z46:=Tryz.sizeOf143
 v46:=Tryz.zeroValue143
 t51:=underlying198
 a51:=Tryz.isAgg198
 z51:=Tryz.sizeOf198
 v51:=Tryz.zeroValue198
 t146:=underlying199
 a146:=Tryz.isAgg199
 z146:=Tryz.sizeOf199
 v146:=Tryz.zeroValue199
 g1:=by kernel_rfl }
theorem Z3u (s:ByteArray) (c:UInt8) (w:World) :
  Calls prog 155 #[.string s,.string ⟨#[c]⟩] w fun e w'=>e = .returned (.int .i64 (Lib.countByte s.data.toList c))∧w'=w:=Any.strings_Count_one Zoi s c w
def Ze3:Go.Shelf.Ren:=⟨fun | 221=>104 | 268=>154 | 138=>155 | 143=>156 | 195=>189 | 197=>190 | 218=>191 | 219=>192 | 260=>227 | 217=>228 | 225=>229 | 224=>230 | 267=>231 | 266=>251 | 314=>252 | n=>n,fun | 9=>9 | 3=>3 | 31=>90 | 4=>4 | 0=>0 | 105=>267 | 21=>21 | 5=>5 | 46=>143 | 119=>318 | 139=>321 | 138=>320 | 146=>199 | 51=>198 | n=>n,fun | 1=>8 | 3=>10 | 4=>11 | n=>n⟩
theorem Zgw:Go.Proofs.Lays.n221 prog Ze3:={
 mixed:=by kernel_rfl
 f138:=func155.trans (congrArg some (by kernel_rfl))
 f143:=func156.trans (congrArg some (by kernel_rfl))
 f195:=func189.trans (congrArg some (by kernel_rfl))
 f197:=func190.trans (congrArg some (by kernel_rfl))
 f217:=func228.trans (congrArg some (by kernel_rfl))
 f218:=func191.trans (congrArg some (by kernel_rfl))
 f219:=func192.trans (congrArg some (by kernel_rfl))
 f221:=func104.trans (congrArg some (by kernel_rfl))
 f224:=func230.trans (congrArg some (by kernel_rfl))
 f225:=func229.trans (congrArg some (by kernel_rfl))
 f260:=func227.trans (congrArg some (by kernel_rfl))
 f266:=func251.trans (congrArg some (by kernel_rfl))
 f267:=func231.trans (congrArg some (by kernel_rfl))
 f268:=func154.trans (congrArg some (by kernel_rfl))
 f314:=func252.trans (congrArg some (by kernel_rfl))
 t0:=underlying0
 a0:=Tryz.isAgg0
 z0:=Tryz.sizeOf0
 v0:=Tryz.zeroValue0
 t3:=underlying3
 a3:=Tryz.isAgg3
 z3:=Tryz.sizeOf3
 v3:=Tryz.zeroValue3
 t4:=underlying4
 a4:=Tryz.isAgg4
 z4:=Tryz.sizeOf4
 v4:=Tryz.zeroValue4
 t5:=underlying5
 a5:=Tryz.isAgg5
 z5:=Tryz.sizeOf5
 v5:=Tryz.zeroValue5
 t9:=underlying9
 a9:=Tryz.isAgg9
 z9:=Tryz.sizeOf9
 v9:=Tryz.zeroValue9
 t21:=underlying21
 a21:=Tryz.isAgg21
 z21:=Tryz.sizeOf21
 v21:=Tryz.zeroValue21
 t31:=underlying90
 a31:=Tryz.isAgg90
 z31:=Tryz.sizeOf90
 v31:=Tryz.zeroValue90
 t46:=underlying143
 a46:=Tryz.isAgg143
 z46:=Tryz.sizeOf143
 v46:=Tryz.zeroValue143
 t51:=underlying198
 a51:=Tryz.isAgg198
 z51:=Tryz.sizeOf198
 v51:=Tryz.zeroValue198
 t105:=underlying267
 a105:=Tryz.isAgg267
 z105:=Tryz.sizeOf267
 v105:=Tryz.zeroValue267
 t119:=underlying318
 a119:=Tryz.isAgg318
 z119:=Tryz.sizeOf318
 t138:=underlying320
 a138:=Tryz.isAgg320
 z138:=Tryz.sizeOf320
 v138:=Tryz.zeroValue320
 t139:=underlying321
 a139:=Tryz.isAgg321
 z139:=Tryz.sizeOf321
 v139:=Tryz.zeroValue321
 t146:=underlying199
 a146:=Tryz.isAgg199
 z146:=Tryz.sizeOf199
 v146:=Tryz.zeroValue199
 g1:=by kernel_rfl
 g3:=by kernel_rfl
 g4:=by kernel_rfl }
def Zed:Go.Shelf.Ren:=⟨fun | 212=>87 | 263=>137 | 264=>138 | n=>n,fun | 46=>143 | 51=>198 | 146=>199 | 53=>81 | 148=>201 | n=>n,fun | n=>n⟩
theorem Zq2:Go.Proofs.Lays.n212 prog Zed:={
 mixed:=by kernel_rfl
 f212:=func87.trans (congrArg some (by kernel_rfl))
 f263:=func137.trans (congrArg some (by kernel_rfl))
 f264:=func138.trans (congrArg some (by kernel_rfl))
 t46:=underlying143
 a46:=Tryz.isAgg143
 z46:=Tryz.sizeOf143
 v46:=Tryz.zeroValue143
 t51:=underlying198
 a51:=Tryz.isAgg198
 z51:=Tryz.sizeOf198
 v51:=Tryz.zeroValue198
 t53:=underlying81
 a53:=Tryz.isAgg81
 z53:=Tryz.sizeOf81
 v53:=Tryz.zeroValue81
 t146:=underlying199
 a146:=Tryz.isAgg199
 z146:=Tryz.sizeOf199
 v146:=Tryz.zeroValue199
 t148:=underlying201
 a148:=Tryz.isAgg201
 z148:=Tryz.sizeOf201
 v148:=Tryz.zeroValue201 }
theorem Zk7 (x y:Nat) (hx:x<18446744073709551616) (hy:y<18446744073709551616) (w:World) :
  Calls prog 87 #[.int .u64 x,.int .u64 y] w fun e w'=>e = .returned (.tuple #[.int .u64 ((x*y / 18446744073709551616:Nat):Int),.int .u64 ((x*y % 18446744073709551616:Nat):Int)])∧w'=w:=Any.bits_Mul Zq2 x y hx hy w
end Go.Proofs.YtlkcbdinlfeoiaaGreatDoor
