/- The library's strings.Join, cmp.Compare and strings.Repeat at this program: the shelf's layings, and their contracts. -/
import Derived.Shelf.Strings.OnBuilder
import Derived.Shelf.Small.Wraps
import Derived.Shelf.Strings.BuilderK
import Derived.Shelf.Utf8.RuneCount
import Derived.Shelf.Strings.Builder2Cap
import Derived.Shelf.Strconv.Itoa4
import Derived.Shelf.Strings.Shaped
import Derived.Shelf.Sort.Plain
import Derived.Shelf.Strings.Explode
import Derived.Shelf.Strings.Repeat
import Derived.Shelf.Unicode.DecodeAny
import Derived.Shelf.Slices.In.SortNone
import Derived.Shelf.Slices.Empties
import Derived.Shelf.SlicesE.Clone
import Derived.Test.YtlkcbdinlfeoiaaGreatDoorProg
import Derived.Shelf.SlSortCmp.WholeK
namespace Go.Proofs.YtlkcbdinlfeoiaaGreatDoor
open Go.Proofs.Tryz Go.RowKit
set_option maxHeartbeats 8000000
set_option maxRecDepth 100000
section
open Go.Shelf
def Z7h:Go.Shelf.Ren:=⟨fun | 156=>57 | 165=>110 | 166=>111 | 169=>103 | 240=>161 | 241=>162 | 276=>197 | 277=>198 | n=>n,fun | 31=>90 | 9=>9 | 3=>3 | 4=>4 | 0=>0 | 20=>20 | 72=>163 | 76=>54 | 70=>160 | 37=>161 | 75=>27 | 127=>226 | 164=>203 | 5=>5 | 80=>46 | n=>n,fun | n=>n⟩
theorem Zpa:Go.Proofs.Lays.n156 prog Z7h:={
 mixed:=by kernel_rfl
 f156:=func57.trans (congrArg some (by kernel_rfl))
 f165:=func110.trans (congrArg some (by kernel_rfl))
 f166:=func111.trans (congrArg some (by kernel_rfl))
 f169:=func103.trans (congrArg some (by kernel_rfl))
 f240:=func161.trans (congrArg some (by kernel_rfl))
 f241:=func162.trans (congrArg some (by kernel_rfl))
 f276:=func197.trans (congrArg some (by kernel_rfl))
 f277:=func198.trans (congrArg some (by kernel_rfl))
 t0:=underlying0
 a0:=Tryz.isAgg0
 z0:=Tryz.sizeOf0
 v0:=Tryz.zeroValue0
 t3:=underlying3
 a3:=Tryz.isAgg3
 z3:=Tryz.sizeOf3
 v3:=Tryz.zeroValue3
 t4:=underlying4
 a4:=Tryz.isAgg4
 z4:=Tryz.sizeOf4
 v4:=Tryz.zeroValue4
 t9:=underlying9
 a9:=Tryz.isAgg9
 z9:=Tryz.sizeOf9
 v9:=Tryz.zeroValue9
 t20:=underlying20
 a20:=Tryz.isAgg20
 z20:=Tryz.sizeOf20
 v20:=Tryz.zeroValue20
 t31:=underlying90
 a31:=Tryz.isAgg90
 z31:=Tryz.sizeOf90
 v31:=Tryz.zeroValue90
 t37:=underlying161
 a37:=Tryz.isAgg161
 z37:=Tryz.sizeOf161
 v37:=Tryz.zeroValue161
 t70:=underlying160
 a70:=Tryz.isAgg160
 z70:=Tryz.sizeOf160
 v70:=Tryz.zeroValue160
 t72:=underlying163
 a72:=Tryz.isAgg163
 z72:=Tryz.sizeOf163
 v72:=Tryz.zeroValue163
 t75:=underlying27
 a75:=Tryz.isAgg27
 z75:=Tryz.sizeOf27
 v75:=Tryz.zeroValue27
 t76:=underlying54
 a76:=Tryz.isAgg54
 z76:=Tryz.sizeOf54
 v76:=Tryz.zeroValue54
 t127:=underlying226
 a127:=Tryz.isAgg226
 z127:=Tryz.sizeOf226
 v127:=Tryz.zeroValue226
 t164:=underlying203
 a164:=Tryz.isAgg203
 z164:=Tryz.sizeOf203
 v164:=Tryz.zeroValue203 }
theorem Z6e:Builder.Extra prog Z7h:={
 sizeBuilder:=by kernel_rfl
 liesBuilder:=by kernel_rfl
 t5:=underlying5
 a5:=Tryz.isAgg5
 z5:=Tryz.sizeOf5
 v5:=Tryz.zeroValue5
 infoByte:=by kernel_rfl
 cellsByte:=by kernel_rfl
 sizeByte:=by kernel_rfl
 neB5:=by decide }
theorem Z6p (bk o c:Nat) (xs:List ByteArray) (sep:ByteArray) (w:World) (hcells:∀ (j:Nat) x,xs[j]?=some x->w.cell? ⟨bk,o+j,none⟩=some (.string x)) (hbk:bk<w.heap.size) (hN:xs.length<=140737488355328) (hcap:xs.length<=c) (hlen:(Lib.join (xs.map (·.data.toList)) sep.data.toList).length<=140737488355328) :
  Calls prog 57 #[.slice (some ⟨bk,o,none⟩) xs.length c,.string sep] w fun e w'=>e = .returned (.string ⟨(Lib.join (xs.map (·.data.toList)) sep.data.toList).toArray⟩)/\Below w.heap.size w w':=Any.strings_Join Zpa Z6e bk o c xs sep w hcells hbk hN hcap hlen
def Zcz:Go.Shelf.Ren:=⟨fun | 122=>153 | 215=>188 | n=>n,fun | 3=>3 | 4=>4 | n=>n,fun | n=>n⟩
theorem Zp8:Go.Proofs.Lays.n122 prog Zcz:={
 mixed:=by kernel_rfl
 f122:=func153.trans (congrArg some (by kernel_rfl))
 f215:=func188.trans (congrArg some (by kernel_rfl))
 t3:=underlying3
 a3:=Tryz.isAgg3
 z3:=Tryz.sizeOf3
 v3:=Tryz.zeroValue3
 t4:=underlying4
 a4:=Tryz.isAgg4
 z4:=Tryz.sizeOf4
 v4:=Tryz.zeroValue4 }
theorem Z7q (x y:Int) (w:World) :
  Calls prog 153 #[.int .i64 x,.int .i64 y] w fun e w'=>e = .returned (.int .i64 (Lib.compareInt x y))/\w'=w:=Any.cmp_Compare_int Zp8 x y w
def Z7e:Go.Shelf.Ren:=⟨fun | 105=>185 | 212=>87 | 99=>215 | 165=>110 | 166=>111 | 170=>216 | 169=>103 | 263=>137 | 264=>138 | 206=>245 | 240=>161 | 241=>162 | 276=>197 | 277=>198 | n=>n,fun | 9=>9 | 3=>3 | 4=>4 | 20=>20 | 0=>0 | 46=>143 | 109=>144 | 5=>5 | 72=>163 | 76=>54 | 51=>198 | 146=>199 | 53=>81 | 148=>201 | 70=>160 | 37=>161 | 75=>27 | 127=>226 | 164=>203 | 80=>46 | n=>n,fun | n=>n⟩
theorem Znt:Go.Proofs.Lays.n105 prog Z7e:={
 mixed:=by kernel_rfl
 f99:=func215.trans (congrArg some (by kernel_rfl))
 f105:=func185.trans (congrArg some (by kernel_rfl))
 f165:=func110.trans (congrArg some (by kernel_rfl))
 f166:=func111.trans (congrArg some (by kernel_rfl))
 f169:=func103.trans (congrArg some (by kernel_rfl))
 f170:=func216.trans (congrArg some (by kernel_rfl))
 f206:=func245.trans (congrArg some (by kernel_rfl))
 f212:=func87.trans (congrArg some (by kernel_rfl))
 f240:=func161.trans (congrArg some (by kernel_rfl))
 f241:=func162.trans (congrArg some (by kernel_rfl))
 f263:=func137.trans (congrArg some (by kernel_rfl))
 f264:=func138.trans (congrArg some (by kernel_rfl))
 f276:=func197.trans (congrArg some (by kernel_rfl))
 f277:=func198.trans (congrArg some (by kernel_rfl))
 t0:=underlying0
 a0:=Tryz.isAgg0
 z0:=Tryz.sizeOf0
 v0:=Tryz.zeroValue0
 t3:=underlying3
 a3:=Tryz.isAgg3
 z3:=Tryz.sizeOf3
 v3:=Tryz.zeroValue3
 t4:=underlying4
 a4:=Tryz.isAgg4
 z4:=Tryz.sizeOf4
 v4:=Tryz.zeroValue4
 t5:=underlying5
 a5:=Tryz.isAgg5
 z5:=Tryz.sizeOf5
 v5:=Tryz.zeroValue5
 t9:=underlying9
 a9:=Tryz.isAgg9
 z9:=Tryz.sizeOf9
 v9:=Tryz.zeroValue9
 t20:=underlying20
 a20:=Tryz.isAgg20
 z20:=Tryz.sizeOf20
 v20:=Tryz.zeroValue20
 t37:=underlying161
 a37:=Tryz.isAgg161
 z37:=Tryz.sizeOf161
 v37:=Tryz.zeroValue161
 t46:=underlying143
 a46:=Tryz.isAgg143
 z46:=Tryz.sizeOf143
 v46:=Tryz.zeroValue143
 t51:=underlying198
 a51:=Tryz.isAgg198
 z51:=Tryz.sizeOf198
 v51:=Tryz.zeroValue198
 t53:=underlying81
 a53:=Tryz.isAgg81
 z53:=Tryz.sizeOf81
 v53:=Tryz.zeroValue81
 t70:=underlying160
 a70:=Tryz.isAgg160
 z70:=Tryz.sizeOf160
 v70:=Tryz.zeroValue160
 t72:=underlying163
 a72:=Tryz.isAgg163
 z72:=Tryz.sizeOf163
 v72:=Tryz.zeroValue163
 t75:=underlying27
 a75:=Tryz.isAgg27
 z75:=Tryz.sizeOf27
 v75:=Tryz.zeroValue27
 t76:=underlying54
 a76:=Tryz.isAgg54
 z76:=Tryz.sizeOf54
 v76:=Tryz.zeroValue54
 t109:=underlying144
 a109:=Tryz.isAgg144
 z109:=Tryz.sizeOf144
 v109:=Tryz.zeroValue144
 t127:=underlying226
 a127:=Tryz.isAgg226
 z127:=Tryz.sizeOf226
 v127:=Tryz.zeroValue226
 t146:=underlying199
 a146:=Tryz.isAgg199
 z146:=Tryz.sizeOf199
 v146:=Tryz.zeroValue199
 t148:=underlying201
 a148:=Tryz.isAgg201
 z148:=Tryz.sizeOf201
 v148:=Tryz.zeroValue201
 t164:=underlying203
 a164:=Tryz.isAgg203
 z164:=Tryz.sizeOf203
 v164:=Tryz.zeroValue203 }
theorem Z6h:Builder.Extra prog Z7e:={
 sizeBuilder:=by kernel_rfl
 liesBuilder:=by kernel_rfl
 t5:=underlying5
 a5:=Tryz.isAgg5
 z5:=Tryz.sizeOf5
 v5:=Tryz.zeroValue5
 infoByte:=by kernel_rfl
 cellsByte:=by kernel_rfl
 sizeByte:=by kernel_rfl
 neB5:=by decide }
theorem Z9f (s:ByteArray) (c:Nat) (w:World) (hc:c<=9223372036854775807) (hlen:s.size*c<=140737488355328) :
  Calls prog 185 #[.string s,.int .i64 c] w fun e w'=>e = .returned (.string ⟨(Lib.repeatL s.data.toList c).toArray⟩)/\Below w.heap.size w w':=Any.strings_Repeat Znt Z6h s c w hc hlen
end
section
open Go.Shelf Go.Lib
def Zdk:Go.Shelf.Ren:=⟨fun | 143=>156 | 219=>192 | 217=>228 | 225=>229 | 224=>230 | 267=>231 | 266=>251 | 314=>252 | n=>n,fun | 9=>9 | 3=>3 | 4=>4 | 5=>5 | 46=>143 | 146=>199 | 51=>198 | n=>n,fun | 1=>8 | n=>n⟩
theorem Zoj:Go.Proofs.Lays.n143 prog Zdk:={
 mixed:=by kernel_rfl
 f143:=func156.trans (congrArg some (by kernel_rfl))
 f217:=func228.trans (congrArg some (by kernel_rfl))
 f219:=func192.trans (congrArg some (by kernel_rfl))
 f224:=func230.trans (congrArg some (by kernel_rfl))
 f225:=func229.trans (congrArg some (by kernel_rfl))
 f266:=func251.trans (congrArg some (by kernel_rfl))
 f267:=func231.trans (congrArg some (by kernel_rfl))
 f314:=func252.trans (congrArg some (by kernel_rfl))
 t3:=underlying3
 a3:=Tryz.isAgg3
 z3:=Tryz.sizeOf3
 v3:=Tryz.zeroValue3
 t4:=underlying4
 a4:=Tryz.isAgg4
 z4:=Tryz.sizeOf4
 v4:=Tryz.zeroValue4
 t5:=underlying5
 a5:=Tryz.isAgg5
 z5:=Tryz.sizeOf5
 v5:=Tryz.zeroValue5
 t9:=underlying9
 a9:=Tryz.isAgg9
 z9:=Tryz.sizeOf9
 v9:=Tryz.zeroValue9
 t46:=underlying143
 a46:=Tryz.isAgg143
 z46:=Tryz.sizeOf143
 v46:=Tryz.zeroValue143
 t51:=underlying198
 a51:=Tryz.isAgg198
 z51:=Tryz.sizeOf198
 v51:=Tryz.zeroValue198
 t146:=underlying199
 a146:=Tryz.isAgg199
 z146:=Tryz.sizeOf199
 v146:=Tryz.zeroValue199
 g1:=by kernel_rfl }
theorem Z6g (s:ByteArray) (c:UInt8) (w:World) :
  Calls prog 156 #[.string s,.string ⟨#[c]⟩] w fun e w'=>e = .returned (.int .i64 (Lib.indexByte s.data.toList c))/\w'=w:=Any.strings_Index_one Zoj s c w
def Zd1:Go.Shelf.Ren:=⟨fun | 138=>155 | 195=>189 | 218=>191 | 143=>156 | 219=>192 | 217=>228 | 225=>229 | 224=>230 | 267=>231 | 266=>251 | 314=>252 | n=>n,fun | 9=>9 | 3=>3 | 4=>4 | 5=>5 | 0=>0 | 46=>143 | 146=>199 | 51=>198 | n=>n,fun | 1=>8 | n=>n⟩
theorem Zop:Go.Proofs.Lays.n138 prog Zd1:={
 mixed:=by kernel_rfl
 f138:=func155.trans (congrArg some (by kernel_rfl))
 f143:=func156.trans (congrArg some (by kernel_rfl))
 f195:=func189.trans (congrArg some (by kernel_rfl))
 f217:=func228.trans (congrArg some (by kernel_rfl))
 f218:=func191.trans (congrArg some (by kernel_rfl))
 f219:=func192.trans (congrArg some (by kernel_rfl))
 f224:=func230.trans (congrArg some (by kernel_rfl))
 f225:=func229.trans (congrArg some (by kernel_rfl))
 f266:=func251.trans (congrArg some (by kernel_rfl))
 f267:=func231.trans (congrArg some (by kernel_rfl))
 f314:=func252.trans (congrArg some (by kernel_rfl))
 t0:=underlying0
 a0:=Tryz.isAgg0
 z0:=Tryz.sizeOf0
 v0:=Tryz.zeroValue0
 t3:=underlying3
 a3:=Tryz.isAgg3
 z3:=Tryz.sizeOf3
 v3:=Tryz.zeroValue3
 t4:=underlying4
 a4:=Tryz.isAgg4
 z4:=Tryz.sizeOf4
 v4:=Tryz.zeroValue4
 t5:=underlying5
 a5:=Tryz.isAgg5
 z5:=Tryz.sizeOf5
 v5:=Tryz.zeroValue5
 t9:=underlying9
 a9:=Tryz.isAgg9
 z9:=Tryz.sizeOf9
 v9:=Tryz.zeroValue9
 t46:=underlying143
 a46:=Tryz.isAgg143
 z46:=Tryz.sizeOf143
 v46:=Tryz.zeroValue143
 t51:=underlying198
 a51:=Tryz.isAgg198
 z51:=Tryz.sizeOf198
 v51:=Tryz.zeroValue198
 t146:=underlying199
 a146:=Tryz.isAgg199
 z146:=Tryz.sizeOf199
 v146:=Tryz.zeroValue199
 g1:=by kernel_rfl }
theorem Z63 (s:ByteArray) (c:UInt8) (w:World) :
  Calls prog 155 #[.string s,.string ⟨#[c]⟩] w fun e w'=>e = .returned (.int .i64 (Lib.countByte s.data.toList c))/\w'=w:=Any.strings_Count_one Zop s c w
def Zdj:Go.Shelf.Ren:=⟨fun | 221=>104 | 268=>154 | 138=>155 | 143=>156 | 195=>189 | 197=>190 | 218=>191 | 219=>192 | 260=>227 | 217=>228 | 225=>229 | 224=>230 | 267=>231 | 266=>251 | 314=>252 | n=>n,fun | 9=>9 | 3=>3 | 31=>90 | 4=>4 | 0=>0 | 105=>267 | 21=>21 | 5=>5 | 46=>143 | 119=>318 | 139=>321 | 138=>320 | 146=>199 | 51=>198 | n=>n,fun | 1=>8 | 3=>10 | 4=>11 | n=>n⟩
theorem Zow:Go.Proofs.Lays.n221 prog Zdj:={
 mixed:=by kernel_rfl
 f138:=func155.trans (congrArg some (by kernel_rfl))
 f143:=func156.trans (congrArg some (by kernel_rfl))
 f195:=func189.trans (congrArg some (by kernel_rfl))
 f197:=func190.trans (congrArg some (by kernel_rfl))
 f217:=func228.trans (congrArg some (by kernel_rfl))
 f218:=func191.trans (congrArg some (by kernel_rfl))
 f219:=func192.trans (congrArg some (by kernel_rfl))
 f221:=func104.trans (congrArg some (by kernel_rfl))
 f224:=func230.trans (congrArg some (by kernel_rfl))
 f225:=func229.trans (congrArg some (by kernel_rfl))
 f260:=func227.trans (congrArg some (by kernel_rfl))
 f266:=func251.trans (congrArg some (by kernel_rfl))
 f267:=func231.trans (congrArg some (by kernel_rfl))
 f268:=func154.trans (congrArg some (by kernel_rfl))
 f314:=func252.trans (congrArg some (by kernel_rfl))
 t0:=underlying0
 a0:=Tryz.isAgg0
 z0:=Tryz.sizeOf0
 v0:=Tryz.zeroValue0
 t3:=underlying3
 a3:=Tryz.isAgg3
 z3:=Tryz.sizeOf3
 v3:=Tryz.zeroValue3
 t4:=underlying4
 a4:=Tryz.isAgg4
 z4:=Tryz.sizeOf4
 v4:=Tryz.zeroValue4
 t5:=underlying5
 a5:=Tryz.isAgg5
 z5:=Tryz.sizeOf5
 v5:=Tryz.zeroValue5
 t9:=underlying9
 a9:=Tryz.isAgg9
 z9:=Tryz.sizeOf9
 v9:=Tryz.zeroValue9
 t21:=underlying21
 a21:=Tryz.isAgg21
 z21:=Tryz.sizeOf21
 v21:=Tryz.zeroValue21
 t31:=underlying90
 a31:=Tryz.isAgg90
 z31:=Tryz.sizeOf90
 v31:=Tryz.zeroValue90
 t46:=underlying143
 a46:=Tryz.isAgg143
 z46:=Tryz.sizeOf143
 v46:=Tryz.zeroValue143
 t51:=underlying198
 a51:=Tryz.isAgg198
 z51:=Tryz.sizeOf198
 v51:=Tryz.zeroValue198
 t105:=underlying267
 a105:=Tryz.isAgg267
 z105:=Tryz.sizeOf267
 v105:=Tryz.zeroValue267
 t119:=underlying318
 a119:=Tryz.isAgg318
 z119:=Tryz.sizeOf318
 t138:=underlying320
 a138:=Tryz.isAgg320
 z138:=Tryz.sizeOf320
 v138:=Tryz.zeroValue320
 t139:=underlying321
 a139:=Tryz.isAgg321
 z139:=Tryz.sizeOf321
 v139:=Tryz.zeroValue321
 t146:=underlying199
 a146:=Tryz.isAgg199
 z146:=Tryz.sizeOf199
 v146:=Tryz.zeroValue199
 g1:=by kernel_rfl
 g3:=by kernel_rfl
 g4:=by kernel_rfl }
def Zds:Go.Shelf.Ren:=⟨fun | 212=>87 | 263=>137 | 264=>138 | n=>n,fun | 46=>143 | 51=>198 | 146=>199 | 53=>81 | 148=>201 | n=>n,fun | n=>n⟩
theorem Zoa:Go.Proofs.Lays.n212 prog Zds:={
 mixed:=by kernel_rfl
 f212:=func87.trans (congrArg some (by kernel_rfl))
 f263:=func137.trans (congrArg some (by kernel_rfl))
 f264:=func138.trans (congrArg some (by kernel_rfl))
 t46:=underlying143
 a46:=Tryz.isAgg143
 z46:=Tryz.sizeOf143
 v46:=Tryz.zeroValue143
 t51:=underlying198
 a51:=Tryz.isAgg198
 z51:=Tryz.sizeOf198
 v51:=Tryz.zeroValue198
 t53:=underlying81
 a53:=Tryz.isAgg81
 z53:=Tryz.sizeOf81
 v53:=Tryz.zeroValue81
 t146:=underlying199
 a146:=Tryz.isAgg199
 z146:=Tryz.sizeOf199
 v146:=Tryz.zeroValue199
 t148:=underlying201
 a148:=Tryz.isAgg201
 z148:=Tryz.sizeOf201
 v148:=Tryz.zeroValue201 }
theorem Zmk (x y:Nat) (hx:x<18446744073709551616) (hy:y<18446744073709551616) (w:World) :
  Calls prog 87 #[.int .u64 x,.int .u64 y] w fun e w'=>e = .returned (.tuple #[.int .u64 ((x*y / 18446744073709551616:Nat):Int),.int .u64 ((x*y % 18446744073709551616:Nat):Int)])/\w'=w:=Any.bits_Mul Zoa x y hx hy w
end
section
open Go.Shelf Go.Sort Go.Lib
def Zd2:Go.Shelf.Ren:=⟨fun | 189=>240 | 125=>187 | 257=>257 | 128=>225 | 129=>226 | 294=>263 | 295=>264 | 296=>265 | 297=>266 | 298=>267 | 299=>268 | 216=>258 | 300=>269 | 301=>270 | 328=>271 | 329=>247 | 330=>248 | 331=>272 | 332=>273 | 215=>188 | 343=>274 | n=>n,fun | 28=>100 | 3=>3 | 46=>143 | 0=>0 | 51=>198 | 53=>81 | 4=>4 | 183=>294 | 182=>293 | 131=>194 | 5=>5 | 9=>9 | 218=>312 | 222=>316 | 228=>326 | 229=>60 | n=>n,fun | n=>n⟩
theorem Zgn:Go.Proofs.Lays.n189 prog Zd2:={
 mixed:=by kernel_rfl
 f125:=func187.trans (congrArg some (by kernel_rfl))
 f128:=func225.trans (congrArg some (by kernel_rfl))
 f129:=func226.trans (congrArg some (by kernel_rfl))
 f189:=func240.trans (congrArg some (by kernel_rfl))
 f215:=func188.trans (congrArg some (by kernel_rfl))
 f216:=func258.trans (congrArg some (by kernel_rfl))
 f257:=func257.trans (congrArg some (by kernel_rfl))
 f294:=func263.trans (congrArg some (by kernel_rfl))
 f295:=func264.trans (congrArg some (by kernel_rfl))
 f296:=func265.trans (congrArg some (by kernel_rfl))
 f297:=func266.trans (congrArg some (by kernel_rfl))
 f298:=func267.trans (congrArg some (by kernel_rfl))
 f299:=func268.trans (congrArg some (by kernel_rfl))
 f300:=func269.trans (congrArg some (by kernel_rfl))
 f301:=func270.trans (congrArg some (by kernel_rfl))
 f328:=func271.trans (congrArg some (by kernel_rfl))
 f329:=func247.trans (congrArg some (by kernel_rfl))
 f330:=func248.trans (congrArg some (by kernel_rfl))
 f331:=func272.trans (congrArg some (by kernel_rfl))
 f332:=func273.trans (congrArg some (by kernel_rfl))
 f343:=func274.trans (congrArg some (by kernel_rfl))
 t0:=underlying0
 a0:=Tryz.isAgg0
 z0:=Tryz.sizeOf0
 v0:=Tryz.zeroValue0
 t3:=underlying3
 a3:=Tryz.isAgg3
 z3:=Tryz.sizeOf3
 v3:=Tryz.zeroValue3
 t4:=underlying4
 a4:=Tryz.isAgg4
 z4:=Tryz.sizeOf4
 v4:=Tryz.zeroValue4
 t5:=underlying5
 a5:=Tryz.isAgg5
 z5:=Tryz.sizeOf5
 v5:=Tryz.zeroValue5
 t9:=underlying9
 a9:=Tryz.isAgg9
 z9:=Tryz.sizeOf9
 v9:=Tryz.zeroValue9
 t28:=underlying100
 a28:=Tryz.isAgg100
 z28:=Tryz.sizeOf100
 v28:=Tryz.zeroValue100
 t46:=underlying143
 a46:=Tryz.isAgg143
 z46:=Tryz.sizeOf143
 v46:=Tryz.zeroValue143
 t51:=underlying198
 a51:=Tryz.isAgg198
 z51:=Tryz.sizeOf198
 v51:=Tryz.zeroValue198
 t53:=underlying81
 a53:=Tryz.isAgg81
 z53:=Tryz.sizeOf81
 v53:=Tryz.zeroValue81
 t131:=underlying194
 a131:=Tryz.isAgg194
 z131:=Tryz.sizeOf194
 v131:=Tryz.zeroValue194
 t182:=underlying293
 a182:=Tryz.isAgg293
 z182:=Tryz.sizeOf293
 v182:=Tryz.zeroValue293
 t183:=underlying294
 a183:=Tryz.isAgg294
 z183:=Tryz.sizeOf294
 v183:=Tryz.zeroValue294
 t218:=underlying312
 a218:=Tryz.isAgg312
 z218:=Tryz.sizeOf312
 v218:=Tryz.zeroValue312
 t222:=underlying316
 a222:=Tryz.isAgg316
 z222:=Tryz.sizeOf316
 v222:=Tryz.zeroValue316
 t228:=underlying326
 a228:=Tryz.isAgg326
 z228:=Tryz.sizeOf326
 v228:=Tryz.zeroValue326
 t229:=underlying60
 a229:=Tryz.isAgg60
 z229:=Tryz.sizeOf60
 v229:=Tryz.zeroValue60 }
theorem Z7r (blk off cap:Nat) (zs:List Int) (w:World) (hH:Holds (Value.int .i64) w blk off zs.toArray) (hblk:blk<w.heap.size) (hsz:zs.length<4611686018427387904) :
  Calls prog 240 #[.slice (some ⟨blk,off,none⟩) zs.length cap] w fun e w' =>
   e = .returned (.tuple #[]) /\ ∃ n os,w'=grow (putRow (Value.int .i64) (Sort.ahead w n) blk off (zs.mergeSort fun x y=>decide (x<=y)).toArray) os:=Any.slices_Sort_int Zgn blk off cap zs w hH hblk hsz
def Z9s:Go.Shelf.Ren:=⟨fun | 25=>241 | 31=>258 | 32=>259 | 37=>188 | n=>n,fun | 22=>100 | 3=>3 | 4=>4 | 40=>143 | 0=>0 | n=>n,fun | n=>n⟩
theorem Z9y:Go.Proofs.Lays2.n25 prog Z9s:={
 mixed:=by kernel_rfl
 f25:=func241.trans (congrArg some (by kernel_rfl))
 f31:=func258.trans (congrArg some (by kernel_rfl))
 f32:=func259.trans (congrArg some (by kernel_rfl))
 f37:=func188.trans (congrArg some (by kernel_rfl))
 t0:=underlying0
 a0:=Tryz.isAgg0
 z0:=Tryz.sizeOf0
 v0:=Tryz.zeroValue0
 t3:=underlying3
 a3:=Tryz.isAgg3
 z3:=Tryz.sizeOf3
 v3:=Tryz.zeroValue3
 t4:=underlying4
 a4:=Tryz.isAgg4
 z4:=Tryz.sizeOf4
 v4:=Tryz.zeroValue4
 t22:=underlying100
 a22:=Tryz.isAgg100
 z22:=Tryz.sizeOf100
 v22:=Tryz.zeroValue100
 t40:=underlying143
 a40:=Tryz.isAgg143
 z40:=Tryz.sizeOf143
 v40:=Tryz.zeroValue143 }
theorem Z45 (b off n c:Nat) (zs:List Int) (x:Int) (w:World) (hz:n<=zs.length) (hbig:n<4611686018427387904) (hc:∀ j,j<zs.length->w.cell? ⟨b,off+j,none⟩=some (.int .i64 (zs.getD j 0))) (hs:(zs.take n).Pairwise (· <= ·)) :
  Calls prog 241 #[.slice (some ⟨b,off,none⟩) n c,.int .i64 x] w fun e w'=>e = .returned (.tuple #[.int .i64 ((zs.take n).countP (· < x):Nat),.bool ((zs.take n).contains x)]) /\ ∃ q,w'=w.drewN q:=Any.slices_BinarySearch_int Z9y b off n c zs x w hz hbig hc hs
theorem Z4y (p:Option Addr) (cap:Nat) (w:World) :
  Calls prog 240 #[.slice p 0 cap] w fun e w'=>e = .returned (.tuple #[])/\w'=w:=Any.slices_Sort_int_none Zgn p cap w
theorem Z2r (a:Option Addr) (c:Nat) (x:Int) (w:World) :
  Calls prog 241 #[.slice a 0 c,.int .i64 x] w fun e w'=>e = .returned (.tuple #[.int .i64 0,.bool false])/\w'=w:=Any.slices_BinarySearch_int_empty Z9y a c x w
end
section
open Go.Shelf
def Z87:Go.Shelf.Ren:=⟨fun | 6=>151 | 15=>187 | 14=>186 | 28=>225 | 29=>226 | 20=>217 | 21=>218 | 22=>219 | 23=>220 | 24=>221 | 25=>222 | 26=>223 | 27=>224 | 46=>246 | 47=>247 | 48=>248 | 49=>249 | 50=>250 | 57=>261 | n=>n,fun | 22=>82 | 24=>123 | 25=>225 | 3=>3 | 39=>143 | 0=>0 | 53=>198 | 55=>81 | 4=>4 | 46=>294 | 45=>293 | 50=>194 | 5=>5 | 9=>9 | 66=>312 | 70=>316 | 76=>326 | 77=>60 | n=>n,fun | n=>n⟩
theorem Zsu:Go.Proofs.SlLaysF0.n6 prog Z87:={
 mixed:=by kernel_rfl
 f6 := ⟨ "slices.SortFunc[[]nurserypy/mem.ID,nurserypy/mem.ID]", of_decide_eq_true (by kernel_rfl), func151.trans (congrArg some (by kernel_rfl))⟩
 f14 := ⟨ "slices.pdqsortCmpFunc[nurserypy/mem.ID]", of_decide_eq_true (by kernel_rfl), func186.trans (congrArg some (by kernel_rfl))⟩
 f20 := ⟨ "slices.insertionSortCmpFunc[nurserypy/mem.ID]", of_decide_eq_true (by kernel_rfl), func217.trans (congrArg some (by kernel_rfl))⟩
 f21 := ⟨ "slices.heapSortCmpFunc[nurserypy/mem.ID]", of_decide_eq_true (by kernel_rfl), func218.trans (congrArg some (by kernel_rfl))⟩
 f22 := ⟨ "slices.breakPatternsCmpFunc[nurserypy/mem.ID]", of_decide_eq_true (by kernel_rfl), func219.trans (congrArg some (by kernel_rfl))⟩
 f23 := ⟨ "slices.choosePivotCmpFunc[nurserypy/mem.ID]", of_decide_eq_true (by kernel_rfl), func220.trans (congrArg some (by kernel_rfl))⟩
 f24 := ⟨ "slices.reverseRangeCmpFunc[nurserypy/mem.ID]", of_decide_eq_true (by kernel_rfl), func221.trans (congrArg some (by kernel_rfl))⟩
 f25 := ⟨ "slices.partialInsertionSortCmpFunc[nurserypy/mem.ID]", of_decide_eq_true (by kernel_rfl), func222.trans (congrArg some (by kernel_rfl))⟩
 f26 := ⟨ "slices.partitionEqualCmpFunc[nurserypy/mem.ID]", of_decide_eq_true (by kernel_rfl), func223.trans (congrArg some (by kernel_rfl))⟩
 f27 := ⟨ "slices.partitionCmpFunc[nurserypy/mem.ID]", of_decide_eq_true (by kernel_rfl), func224.trans (congrArg some (by kernel_rfl))⟩
 f46 := ⟨ "slices.siftDownCmpFunc[nurserypy/mem.ID]", of_decide_eq_true (by kernel_rfl), func246.trans (congrArg some (by kernel_rfl))⟩
 f49 := ⟨ "slices.medianAdjacentCmpFunc[nurserypy/mem.ID]", of_decide_eq_true (by kernel_rfl), func249.trans (congrArg some (by kernel_rfl))⟩
 f50 := ⟨ "slices.medianCmpFunc[nurserypy/mem.ID]", of_decide_eq_true (by kernel_rfl), func250.trans (congrArg some (by kernel_rfl))⟩
 f57 := ⟨ "slices.order2CmpFunc[nurserypy/mem.ID]", of_decide_eq_true (by kernel_rfl), func261.trans (congrArg some (by kernel_rfl))⟩
 f15:=func187.trans (congrArg some (by kernel_rfl))
 f28:=func225.trans (congrArg some (by kernel_rfl))
 f29:=func226.trans (congrArg some (by kernel_rfl))
 f47:=func247.trans (congrArg some (by kernel_rfl))
 f48:=func248.trans (congrArg some (by kernel_rfl))
 t0:=underlying0
 a0:=Tryz.isAgg0
 z0:=Tryz.sizeOf0
 v0:=Tryz.zeroValue0
 t3:=underlying3
 a3:=Tryz.isAgg3
 z3:=Tryz.sizeOf3
 v3:=Tryz.zeroValue3
 t4:=underlying4
 a4:=Tryz.isAgg4
 z4:=Tryz.sizeOf4
 v4:=Tryz.zeroValue4
 t5:=underlying5
 a5:=Tryz.isAgg5
 z5:=Tryz.sizeOf5
 v5:=Tryz.zeroValue5
 t9:=underlying9
 a9:=Tryz.isAgg9
 z9:=Tryz.sizeOf9
 v9:=Tryz.zeroValue9
 t22:=underlying82
 a22:=Tryz.isAgg82
 z22:=Tryz.sizeOf82
 v22:=Tryz.zeroValue82
 t25:=underlying225
 a25:=Tryz.isAgg225
 z25:=Tryz.sizeOf225
 v25:=Tryz.zeroValue225
 t39:=underlying143
 a39:=Tryz.isAgg143
 z39:=Tryz.sizeOf143
 v39:=Tryz.zeroValue143
 t45:=underlying293
 a45:=Tryz.isAgg293
 z45:=Tryz.sizeOf293
 v45:=Tryz.zeroValue293
 t46:=underlying294
 a46:=Tryz.isAgg294
 z46:=Tryz.sizeOf294
 v46:=Tryz.zeroValue294
 t50:=underlying194
 a50:=Tryz.isAgg194
 z50:=Tryz.sizeOf194
 v50:=Tryz.zeroValue194
 t53:=underlying198
 a53:=Tryz.isAgg198
 z53:=Tryz.sizeOf198
 v53:=Tryz.zeroValue198
 t55:=underlying81
 a55:=Tryz.isAgg81
 z55:=Tryz.sizeOf81
 v55:=Tryz.zeroValue81
 t66:=underlying312
 a66:=Tryz.isAgg312
 z66:=Tryz.sizeOf312
 v66:=Tryz.zeroValue312
 t70:=underlying316
 a70:=Tryz.isAgg316
 z70:=Tryz.sizeOf316
 v70:=Tryz.zeroValue316
 t76:=underlying326
 a76:=Tryz.isAgg326
 z76:=Tryz.sizeOf326
 v76:=Tryz.zeroValue326
 t77:=underlying60
 a77:=Tryz.isAgg60
 z77:=Tryz.sizeOf60
 v77:=Tryz.zeroValue60 }
end
end Go.Proofs.YtlkcbdinlfeoiaaGreatDoor
