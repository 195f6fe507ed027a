/- slices.Grow of no ints, and slices.Concat of two rows of ints, by contracts. -/
import Derived.Test.YtnenggkgfhgcnaaGreatDoorJoD
import Derived.Lib.AppendZeros
import Derived.Test.YtnenggkgfhgcnaaGreatDoorMemD
import Derived.Shelf.Small.Bits
import Derived.Shelf.Small.Wraps
import Derived.Shelf.Strconv.Itoa0
import Derived.Shelf.Sort.Plain
import Derived.Ground.Names2Prog
import Derived.Shelf.Slices.SearchI
import Derived.Shelf.Slices.In.SortNone
import Derived.Shelf.Slices.Empties
import Derived.Test.YtnenggkgfhgcnaaGreatDoorProg
import Derived.Test.YtnenggkgfhgcnaaGreatDoorJnA
import Derived.Sort.OwnSortedInts
import Derived.Deep.Onto
namespace Go.Proofs.YtnenggkgfhgcnaaGreatDoor
open Go.RowKit

/-- Numbers as values. -/
def ivN (xs : List Nat) : List Value := xs.map fun i : Nat => Value.int .i64 (i : Int)
theorem infoIv : ∃ i0, Tryz.prog.info? 3 = some i0 ∧ i0.zero = some (.int .i64 0) ∧ i0.size = 1 ∧ i0.bytes = 8 := info_parts (by kernel_rfl)
set_option maxHeartbeats 1000000 in
theorem grow_none (w : World) : Calls Tryz.prog 117 #[.slice none 0 0, .int .i64 0] w fun ev w' => ev = .returned (.slice none 0 0) ∧ w' = w := by
  go_enter Tryz.func117, Tryz.ntmps117
  go_wp2_with fail
  go_ret
  exact ⟨rfl, rfl⟩
set_option maxHeartbeats 1000000 in
set_option maxRecDepth 100000 in
theorem grow_some (n : Nat) (h0 : 0 < n) (h1 : n ≤ 300000) (w : World) : Calls Tryz.prog 117 #[.slice none 0 0, .int .i64 (n : Int)] w fun ev w' => ∃ v, ev = .returned v ∧ w'.ownsRow w.heap.size 3 1 v 0 [] ∧ Below w.heap.size w w' := by
  have t1 : ¬ (n : Int) < 0 := by omega
  have t2 : (0 : Int) < (n : Int) := by omega
  obtain ⟨i0, hi0, hz0, hz1, hz2⟩ := infoIv
  obtain ⟨c, hc⟩ : ∃ c, c = grownCap w n 0 3 := ⟨_, rfl⟩
  have hge : n ≤ c := by rw [hc]; exact grownCap_ge _ _ _ _
  have hlm : c ≤ maxLen := by rw [hc]; exact grownCap_le_maxLen _ _ _ _ (by unfold maxLen; omega)
  obtain ⟨w1, hw1⟩ : ∃ w1, w1 = w.drew.alloc (.cells (Builtin.zeroCells (Value.int .i64 0).cells n ++ Builtin.zeroCells (Value.int .i64 0).cells (c - n)) 3) := ⟨_, rfl⟩
  have hr : ∀ ty, (Builtin.append_ #[65, 3] ty #[.slice none 0 0, .int .i64 (n : Int)]).run Tryz.prog w = .ok (.slice (some ⟨w.heap.size, 0, none⟩) n c) w1 := fun ty => by
    rw [hw1, hc]
    exact Lib.run_append_nil_zeros w 65 3 ty 3 i0 (.int .i64 0) .i64 .i64 Tryz.underlying65 Tryz.underlying3 hi0 hz0 n h0 (by omega) (by omega) (by rw [hz2]; omega)
  have HB1 : Hid (Below w.heap.size w w1) := by rw [hw1]; exact (Below.refl _ _).drew.alloc (Nat.le_refl _) _
  have HO : Hid (w1.ownsRow w.heap.size 3 1 (.slice (some ⟨w.heap.size, 0, none⟩) 0 c) 0 []) := by
    refine ⟨rfl, .inr ⟨w.heap.size, c, _, rfl, Nat.le_refl _, (by rw [hw1]; exact heap_alloc_new w.drew _), Nat.zero_le _, hlm, ?_, by simp⟩⟩
    have z : (Value.int .i64 0).cells = #[.int .i64 0] := rfl
    rw [Array.size_append]
    unfold Builtin.zeroCells
    rw [z]
    simp
    omega
  have hcI : (0 : Int) ≤ (c : Int) := by omega
  clear hc hw1
  go_enter Tryz.func117, Tryz.ntmps117
  go_upto_region 5 with fail
  go_wp2_with (at_builtin; refine Lib.wpList_append_run w rfl _ _ 65 3 rfl _ _ rfl rfl _ _ (hr _) ?_)
  go_wp2_with fail
  go_ret
  exact ⟨_, rfl, HO.out, HB1.out⟩
end Go.Proofs.YtnenggkgfhgcnaaGreatDoor

/- slices.Concat of rows of ints, by a contract. -/
namespace Go.Proofs.YtnenggkgfhgcnaaGreatDoor
open Go.RowKit

theorem grow_any (n : Nat) (h1 : n ≤ 300000) (w : World) : Calls Tryz.prog 117 #[.slice none 0 0, .int .i64 (n : Int)] w fun ev w' => ∃ v, ev = .returned v ∧ w'.ownsRow w.heap.size 3 1 v 0 [] ∧ Below w.heap.size w w' := by
  rcases Nat.eq_zero_or_pos n with rfl | h
  · refine (grow_none w).mono ?_
    rintro ev w' ⟨rfl, rfl⟩
    exact ⟨_, rfl, ⟨rfl, .inl ⟨rfl, rfl⟩⟩, Below.refl _ _⟩
  · exact grow_some n h h1 w
/-- Rows one behind the other. -/
def catN (xs : Nat → List Nat) : Nat → List Nat
  | 0 => []
  | i + 1 => catN xs i ++ xs i
theorem catN_le (xs : Nat → List Nat) : ∀ {k i : Nat}, i ≤ k → (catN xs i).length ≤ (catN xs k).length
  | 0, i, h => by obtain rfl : i = 0 := by omega
                  exact Nat.le_refl _
  | k + 1, i, h => by
    by_cases e : i = k + 1
    · rw [e]; exact Nat.le_refl _
    · refine Nat.le_trans (catN_le xs (k := k) (by omega)) ?_
      show _ ≤ (catN xs k ++ xs k).length
      rw [List.length_append]
      omega
theorem ivN_len (xs : List Nat) : (ivN xs).length = xs.length := List.length_map ..
theorem ivN_app (xs ys : List Nat) : ivN (xs ++ ys) = ivN xs ++ ivN ys := List.map_append ..
theorem ivN_one {xs : List Nat} : ∀ u ∈ ivN xs, u.oneCell' = true := fun u h => by
  obtain ⟨x, _, rfl⟩ := List.mem_map.1 h
  rfl
/-- A row of ints that is read. -/
def Src (w : World) (v : Value) (xs : List Nat) : Prop := (v = .slice none 0 0 ∧ xs = []) ∨ ∃ b o c, v = .slice (some ⟨b, o, none⟩) xs.length c ∧ b < w.heap.size ∧ ∀ j u, (ivN xs)[j]? = some u → w.cell? ⟨b, o + j, none⟩ = some u
theorem Src.below {w w' : World} {v : Value} {xs : List Nat} (h : Src w v xs) (hb : Below w.heap.size w w') : Src w' v xs := by
  rcases h with h | ⟨b, o, c, e, e2, e3⟩
  · exact .inl h
  · exact .inr ⟨b, o, c, e, Nat.lt_of_lt_of_le e2 hb.size, fun j u hj => (hb.cell (p := ⟨b, o + j, none⟩) e2).trans (e3 j u hj)⟩
theorem Src.len {w : World} {v : Value} {xs : List Nat} (h : Src w v xs) : ∃ ao c, v = .slice ao xs.length c := by
  rcases h with ⟨rfl, rfl⟩ | ⟨b, o, c, e, _⟩
  · exact ⟨_, _, rfl⟩
  · exact ⟨_, _, e⟩
theorem wpList_append_src {w : World} {ops : Array Oper} {rest : List Oper} {o : Oper} {a : Act} {Q : Exit → Act → World → Prop} (hgd : o.guard = none) (s x : Operand)
    (ho : o.op = .call { callee := .builtin .append, args := #[s, x], argTypes := #[65, 65] })
    (base : Nat) (v : Value) (xs : List Nat) (hs : a.eval s = v) (hown : w.ownsRow base 3 1 v xs.length (ivN xs)) (v2 : Value) (ys : List Nat) (hx : a.eval x = v2) (hsrc : Src w v2 ys) (hl : (xs ++ ys).length ≤ 300000) (hbase : base ≤ w.heap.size)
    (h : ∀ v' w', w'.ownsRow base 3 1 v' (xs ++ ys).length (ivN (xs ++ ys)) → Below base w w' → wpList Tryz.prog ops Q rest (a.put o.dst v') w') : wpList Tryz.prog ops Q (o :: rest) a w := by
  obtain ⟨i0, hi0, hz0, hz1, hz2⟩ := infoIv
  rcases hsrc with ⟨rfl, rfl⟩ | ⟨b, f, c, rfl, e2, e3⟩
  · refine wpList_append_own_none hgd s x 65 ho base 3 i0 1 Tryz.underlying65 hi0 v xs.length (ivN xs) hs hown hx ?_
    refine h v w ?_ (Below.refl _ _)
    rw [List.append_nil]
    exact hown
  · rw [List.length_append] at hl
    refine wpList_append_own w hgd s x 65 ho base 3 i0 (.int .i64 0) 1 8 Tryz.underlying65 hi0 hz0 hz1 hz2 rfl (by omega) v xs.length (ivN xs) hs hown ⟨b, f, none⟩ ys.length c (ivN ys) hx (by rw [ivN_len, Nat.mul_one]) (fun j u hj => ?_) ivN_one (by unfold maxLen; omega) (by omega) hbase (fun v' w' h2 h3 _ => ?_)
    · have e : (⟨b, f, none⟩ : Addr).add j = ⟨b, f + j, none⟩ := by unfold Addr.add; split <;> simp_all
      rw [e]
      exact e3 j u hj
    · refine h v' w' ?_ ((Below.refl _ _).grown h3 hbase (fun k hk => (own_lt2 hown k hk).1))
      rw [List.length_append, ivN_app]
      exact h2
set_option maxHeartbeats 4000000 in
set_option maxRecDepth 100000 in
theorem concat_any (k q : Nat) (v : Nat → Value) (xs : Nat → List Nat) (hk : k ≤ 10) (hs : (catN xs k).length ≤ 300000) (w : World) (hq : q < w.heap.size) (hv : ∀ i, i < k → w.cell? ⟨q, i, none⟩ = some (v i) ∧ Src w (v i) (xs i)) :
    Calls Tryz.prog 87 #[.slice (some ⟨q, 0, none⟩) k k] w fun ev w' => ∃ v', ev = .returned v' ∧ w'.ownsRow w.heap.size 3 1 v' (catN xs k).length (ivN (catN xs k)) ∧ Below w.heap.size w w' := by
  have HV := toHid hv
  clear hv
  go_enter Tryz.func87, Tryz.ntmps87
  go_wp2_with fail
  go_loopg [3, 11] (k + 1) (fun gk v3 v11 wr => ∃ i : Nat, gk = k + 1 - i ∧ i ≤ k ∧ v3 = .int .i64 ((catN xs i).length : Int) ∧ v11 = .int .i64 (i : Int) ∧ w = wr)
  case atStart => exact ⟨0, rfl, Nat.zero_le _, rfl, rfl, rfl⟩
  case round =>
    obtain ⟨i, hgk, hi', rfl, rfl, rfl⟩ := hrel
    have HG := toHid hgk
    clear hgk
    have hi0 : (0 : Int) ≤ (i : Int) := by omega
    by_cases hlt : i < k
    · have hI : (i : Int) < (k : Int) := by omega
      obtain ⟨c0, hsr⟩ := HV.out i hlt
      obtain ⟨ao, c, hao⟩ := hsr.len
      rw [hao] at c0
      have hle := catN_le xs (k := k) (i := i + 1) (by omega)
      have hl1 : (catN xs (i + 1)).length = (catN xs i).length + (xs i).length := List.length_append
      have e1 : IntKind.i64.wrap (((catN xs i).length : Int) + ((xs i).length : Int)) = ((catN xs (i + 1)).length : Int) := by
        rw [wrapI _ (by omega) (by omega)]
        omega
      have e2 : ¬ ((catN xs (i + 1)).length : Int) < 0 := by omega
      clear hl1 hle hsr hao
      go_wp2_with fail
      go_roundg (k + 1 - (i + 1))
      case measure => have := HG.out; omega
      case rel => exact ⟨i + 1, rfl, by omega, rfl, by go_num, rfl⟩
    · obtain rfl : i = k := by omega
      have hI : ¬ (i : Int) < (i : Int) := by omega
      go_wp2_with fail
      refine (grow_any _ hs w).mono ?_
      rintro ev w2 ⟨v2, rfl, own2, b2⟩
      have HO := toHid own2
      have HB := toHid b2
      clear own2 b2
      go_wp2_with fail
      go_loopg [6, 27] (i + 1) (fun gk v6 v27 wr => ∃ j : Nat, gk = i + 1 - j ∧ j ≤ i ∧ v27 = .int .i64 (j : Int) ∧ Hid (wr.ownsRow w.heap.size 3 1 v6 (catN xs j).length (ivN (catN xs j))) ∧ Hid (Below w.heap.size w wr))
      case atStart => exact ⟨0, rfl, Nat.zero_le _, rfl, HO, HB⟩
      case round =>
        obtain ⟨j, hgk, hj', rfl, hO, hB⟩ := hrel
        have HG2 := toHid hgk
        clear hgk
        have hj0 : (0 : Int) ≤ (j : Int) := by omega
        by_cases hlt2 : j < i
        · have hJ : (j : Int) < (i : Int) := by omega
          obtain ⟨c0, hsr⟩ := HV.out j hlt2
          have c1 := (hB.out.cell (p := ⟨q, j, none⟩) hq).trans c0
          have HS := toHid (hsr.below hB.out)
          have hle := catN_le xs (k := i) (i := j + 1) (by omega)
          clear c0 hsr
          go_upto_region 13 with fail
          go_wp2_with (at_builtin; refine wpList_append_src rfl _ _ rfl w.heap.size _ (catN xs j) rfl hO.out _ (xs j) rfl HS.out (Nat.le_trans hle hs) hB.out.size ?_; intro v' w' o' b'; have HO' := toHid o'; have HB' := toHid (hB.out.trans b'); clear o' b')
          go_roundg (i + 1 - (j + 1))
          case measure => have := HG2.out; omega
          case rel => exact ⟨j + 1, rfl, by omega, by go_num, HO', HB'⟩
        · obtain rfl : j = i := by omega
          have hJ : ¬ (j : Int) < (j : Int) := by omega
          go_wp2_with fail
          go_ret
          exact ⟨_, rfl, hO.out, hB.out⟩
end Go.Proofs.YtnenggkgfhgcnaaGreatDoor

/- The library's slices.Sort and slices.BinarySearch of ints at this program: the shelf's layings, and their contracts. -/
namespace Go.Proofs.YtnenggkgfhgcnaaGreatDoor
open Go.Shelf Go.RowKit Go.Sort Go.Lib

def slays189_ren : Go.Shelf.Ren := ⟨fun | 189 => 85 | 125 => 114 | 257 => 113 | 128 => 135 | 129 => 136 | 294 => 127 | 295 => 128 | 296 => 129 | 297 => 130 | 298 => 131 | 299 => 132 | 216 => 115 | 300 => 133 | 301 => 134 | 328 => 140 | 329 => 141 | 330 => 142 | 331 => 143 | 332 => 144 | 215 => 137 | 343 => 145 | n => n, fun | 28 => 65 | 3 => 3 | 46 => 139 | 0 => 0 | 51 => 206 | 53 => 50 | 4 => 4 | 183 => 200 | 182 => 199 | 131 => 145 | 5 => 5 | 9 => 9 | 218 => 208 | 222 => 212 | 228 => 214 | 229 => 76 | n => n, fun | n => n⟩
theorem slays189 : Go.Proofs.Lays.n189 Tryz.prog slays189_ren := {
  mixed := by kernel_rfl
  f125 := Tryz.func114.trans (congrArg some (by kernel_rfl))
  f128 := Tryz.func135.trans (congrArg some (by kernel_rfl))
  f129 := Tryz.func136.trans (congrArg some (by kernel_rfl))
  f189 := Tryz.func85.trans (congrArg some (by kernel_rfl))
  f215 := Tryz.func137.trans (congrArg some (by kernel_rfl))
  f216 := Tryz.func115.trans (congrArg some (by kernel_rfl))
  f257 := Tryz.func113.trans (congrArg some (by kernel_rfl))
  f294 := Tryz.func127.trans (congrArg some (by kernel_rfl))
  f295 := Tryz.func128.trans (congrArg some (by kernel_rfl))
  f296 := Tryz.func129.trans (congrArg some (by kernel_rfl))
  f297 := Tryz.func130.trans (congrArg some (by kernel_rfl))
  f298 := Tryz.func131.trans (congrArg some (by kernel_rfl))
  f299 := Tryz.func132.trans (congrArg some (by kernel_rfl))
  f300 := Tryz.func133.trans (congrArg some (by kernel_rfl))
  f301 := Tryz.func134.trans (congrArg some (by kernel_rfl))
  f328 := Tryz.func140.trans (congrArg some (by kernel_rfl))
  f329 := Tryz.func141.trans (congrArg some (by kernel_rfl))
  f330 := Tryz.func142.trans (congrArg some (by kernel_rfl))
  f331 := Tryz.func143.trans (congrArg some (by kernel_rfl))
  f332 := Tryz.func144.trans (congrArg some (by kernel_rfl))
  f343 := Tryz.func145.trans (congrArg some (by kernel_rfl))
  t0 := Tryz.underlying0
  a0 := Tryz.isAgg0
  z0 := Tryz.sizeOf0
  v0 := Tryz.zeroValue0
  t3 := Tryz.underlying3
  a3 := Tryz.isAgg3
  z3 := Tryz.sizeOf3
  v3 := Tryz.zeroValue3
  t4 := Tryz.underlying4
  a4 := Tryz.isAgg4
  z4 := Tryz.sizeOf4
  v4 := Tryz.zeroValue4
  t5 := Tryz.underlying5
  a5 := Tryz.isAgg5
  z5 := Tryz.sizeOf5
  v5 := Tryz.zeroValue5
  t9 := Tryz.underlying9
  a9 := Tryz.isAgg9
  z9 := Tryz.sizeOf9
  v9 := Tryz.zeroValue9
  t28 := Tryz.underlying65
  a28 := Tryz.isAgg65
  z28 := Tryz.sizeOf65
  v28 := Tryz.zeroValue65
  t46 := Tryz.underlying139
  a46 := Tryz.isAgg139
  z46 := Tryz.sizeOf139
  v46 := Tryz.zeroValue139
  t51 := Tryz.underlying206
  a51 := Tryz.isAgg206
  z51 := Tryz.sizeOf206
  v51 := Tryz.zeroValue206
  t53 := Tryz.underlying50
  a53 := Tryz.isAgg50
  z53 := Tryz.sizeOf50
  v53 := Tryz.zeroValue50
  t131 := Tryz.underlying145
  a131 := Tryz.isAgg145
  z131 := Tryz.sizeOf145
  v131 := Tryz.zeroValue145
  t182 := Tryz.underlying199
  a182 := Tryz.isAgg199
  z182 := Tryz.sizeOf199
  v182 := Tryz.zeroValue199
  t183 := Tryz.underlying200
  a183 := Tryz.isAgg200
  z183 := Tryz.sizeOf200
  v183 := Tryz.zeroValue200
  t218 := Tryz.underlying208
  a218 := Tryz.isAgg208
  z218 := Tryz.sizeOf208
  v218 := Tryz.zeroValue208
  t222 := Tryz.underlying212
  a222 := Tryz.isAgg212
  z222 := Tryz.sizeOf212
  v222 := Tryz.zeroValue212
  t228 := Tryz.underlying214
  a228 := Tryz.isAgg214
  z228 := Tryz.sizeOf214
  v228 := Tryz.zeroValue214
  t229 := Tryz.underlying76
  a229 := Tryz.isAgg76
  z229 := Tryz.sizeOf76
  v229 := Tryz.zeroValue76 }
theorem sslices_Sort_int (blk off cap : Nat) (zs : List Int) (w : World) (hH : Holds (Value.int .i64) w blk off zs.toArray) (hblk : blk < w.heap.size) (hsz : zs.length < 4611686018427387904) :
    Calls Tryz.prog 85 #[.slice (some ⟨blk, off, none⟩) zs.length cap] w fun e w' =>
      e = .returned (.tuple #[]) ∧ ∃ n os, w' = grow (putRow (Value.int .i64) (Sort.ahead w n) blk off (zs.mergeSort fun x y => decide (x ≤ y)).toArray) os := Any.slices_Sort_int slays189 blk off cap zs w hH hblk hsz
def slaysNm225_ren : Go.Shelf.Ren := ⟨fun | 25 => 86 | 31 => 115 | 32 => 116 | 37 => 137 | n => n, fun | 22 => 65 | 3 => 3 | 4 => 4 | 40 => 139 | 0 => 0 | n => n, fun | n => n⟩
theorem slaysNm225 : Go.Proofs.Lays2.n25 Tryz.prog slaysNm225_ren := {
  mixed := by kernel_rfl
  f25 := Tryz.func86.trans (congrArg some (by kernel_rfl))
  f31 := Tryz.func115.trans (congrArg some (by kernel_rfl))
  f32 := Tryz.func116.trans (congrArg some (by kernel_rfl))
  f37 := Tryz.func137.trans (congrArg some (by kernel_rfl))
  t0 := Tryz.underlying0
  a0 := Tryz.isAgg0
  z0 := Tryz.sizeOf0
  v0 := Tryz.zeroValue0
  t3 := Tryz.underlying3
  a3 := Tryz.isAgg3
  z3 := Tryz.sizeOf3
  v3 := Tryz.zeroValue3
  t4 := Tryz.underlying4
  a4 := Tryz.isAgg4
  z4 := Tryz.sizeOf4
  v4 := Tryz.zeroValue4
  t22 := Tryz.underlying65
  a22 := Tryz.isAgg65
  z22 := Tryz.sizeOf65
  v22 := Tryz.zeroValue65
  t40 := Tryz.underlying139
  a40 := Tryz.isAgg139
  z40 := Tryz.sizeOf139
  v40 := Tryz.zeroValue139 }
theorem sslices_BinarySearch_int (b off n c : Nat) (zs : List Int) (x : Int) (w : World) (hz : n ≤ zs.length) (hbig : n < 4611686018427387904) (hc : ∀ j, j < zs.length → w.cell? ⟨b, off + j, none⟩ = some (.int .i64 (zs.getD j 0))) (hs : (zs.take n).Pairwise (· ≤ ·)) :
    Calls Tryz.prog 86 #[.slice (some ⟨b, off, none⟩) n c, .int .i64 x] w fun e w' => e = .returned (.tuple #[.int .i64 ((zs.take n).countP (· < x) : Nat), .bool ((zs.take n).contains x)]) ∧ ∃ q, w' = w.drewN q := Any.slices_BinarySearch_int slaysNm225 b off n c zs x w hz hbig hc hs
theorem sslices_Sort_int_none (p : Option Addr) (cap : Nat) (w : World) :
    Calls Tryz.prog 85 #[.slice p 0 cap] w fun e w' => e = .returned (.tuple #[]) ∧ w' = w := Any.slices_Sort_int_none slays189 p cap w
theorem sslices_BinarySearch_int_empty (a : Option Addr) (c : Nat) (x : Int) (w : World) :
    Calls Tryz.prog 86 #[.slice a 0 c, .int .i64 x] w fun e w' => e = .returned (.tuple #[.int .i64 0, .bool false]) ∧ w' = w := Any.slices_BinarySearch_int_empty slaysNm225 a c x w
end Go.Proofs.YtnenggkgfhgcnaaGreatDoor

/- Places in order, those of the old space first (oldFirst), by a contract. -/
namespace Go.Proofs.YtnenggkgfhgcnaaGreatDoor
open Go.RowKit

/-- Places, sorted. -/
def sortN (l : List Nat) : List Nat := l.mergeSort fun x y => decide (x ≤ y)
theorem sortN_perm (l : List Nat) : (sortN l).Perm l := List.mergeSort_perm ..
theorem sortN_len (l : List Nat) : (sortN l).length = l.length := (sortN_perm l).length_eq
theorem sortN_pair (l : List Nat) : (sortN l).Pairwise (fun a b => a ≤ b) := by
  have h := List.pairwise_mergeSort (le := fun (x y : Nat) => decide (x ≤ y)) (fun a b c h1 h2 => by simp at h1 h2 ⊢; omega) (fun a b => by simp; omega) l
  exact h.imp fun h => by simpa using h
/-- Those of the old space first (oldFirstP). -/
def oldF (m0 : Nat) (l : List Nat) : List Nat := l.filter (fun f => decide (m0 ≤ f)) ++ l.filter (fun f => decide (f < m0))
def intsN (l : List Nat) : List Int := l.map fun i : Nat => (i : Int)
theorem intsN_iv (l : List Nat) : (intsN l).map (Value.int .i64) = ivN l := List.map_map
theorem intsN_len (l : List Nat) : (intsN l).length = l.length := List.length_map ..
theorem intsN_sort (l : List Nat) : ((intsN l).mergeSort fun x y => decide (x ≤ y)) = intsN (sortN l) := by
  refine (List.map_mergeSort (fun a _ b _ => ?_)).symm
  simp
theorem cut_lt (m0 : Nat) : ∀ {l : List Nat}, l.Pairwise (fun a b => a ≤ b) → l.take (l.countP (fun f => decide (f < m0))) = l.filter (fun f => decide (f < m0)) ∧ l.drop (l.countP (fun f => decide (f < m0))) = l.filter (fun f => decide (m0 ≤ f))
  | [], _ => ⟨rfl, rfl⟩
  | x :: l, h => by
    obtain ⟨h1, h2⟩ := List.pairwise_cons.1 h
    obtain ⟨i1, i2⟩ := cut_lt m0 h2
    by_cases hx : x < m0
    · have e1 : decide (x < m0) = true := by simpa using hx
      have e2 : ¬ decide (m0 ≤ x) = true := by simp; omega
      rw [List.countP_cons_of_pos (p := fun f => decide (f < m0)) e1, List.filter_cons_of_pos (p := fun f => decide (f < m0)) e1, List.filter_cons_of_neg (p := fun f => decide (m0 ≤ f)) e2, List.take_succ_cons, List.drop_succ_cons, i1, i2]
      exact ⟨rfl, rfl⟩
    · have e1 : ¬ decide (x < m0) = true := by simpa using hx
      have e2 : decide (m0 ≤ x) = true := by simp; omega
      have z : l.countP (fun f => decide (f < m0)) = 0 := List.countP_eq_zero.2 fun a ha => by have := h1 a ha; simp; omega
      rw [z] at i1 i2
      rw [List.countP_cons_of_neg (p := fun f => decide (f < m0)) e1, List.filter_cons_of_neg (p := fun f => decide (f < m0)) e1, List.filter_cons_of_pos (p := fun f => decide (m0 ≤ f)) e2, z, ← i1, ← i2]
      exact ⟨rfl, rfl⟩
set_option maxHeartbeats 1000000 in
theorem sort_own (rr : List Nat) (B : Nat) (ao : Option Addr) (cap : Nat) (w : World) (hl : rr.length ≤ 300000) (own : w.ownsRow B 3 1 (.slice ao rr.length cap) rr.length (ivN rr)) :
    Calls Tryz.prog 85 #[.slice ao rr.length cap] w fun ev w' => ev = .returned (.tuple #[]) ∧ w'.ownsRow B 3 1 (.slice ao rr.length cap) rr.length (ivN (sortN rr)) ∧ Aside (fun k => ao.map Addr.block = some k) w w' := by
  rcases rr with _ | ⟨x, rr⟩
  · refine (sslices_Sort_int_none ao cap w).mono ?_
    rintro ev w' ⟨rfl, rfl⟩
    refine ⟨rfl, ?_, Aside.refl _ _⟩
    rw [show sortN [] = [] by simp [sortN]]
    exact own
  · rcases own.2 with ⟨e, _⟩ | ⟨g, c, cur, e, e2, e3, e4, e5, e6, e7⟩
    · cases e
    cases e
    have hg : g < w.heap.size := lt_of_heap e3
    have hH := holds_of_blockI (ss := intsN (x :: rr)) e3 (by rw [intsN_iv, intsN_len]; simpa using e7)
    have k := sslices_Sort_int g 0 cap (intsN (x :: rr)) w hH hg (by rw [intsN_len]; omega)
    rw [intsN_len, intsN_sort] at k
    refine k.mono ?_
    rintro ev w' ⟨rfl, n, os, rfl⟩
    have hgr := grownBy_sortedI (w := w) (g := g) (n := n) (os := os) (intsN (sortN (x :: rr))).toArray
    refine ⟨rfl, ?_, ⟨hgr.os, hgr.tape, hgr.output, hgr.size, fun k hk hx => hgr.block k hk fun e => hx e.symm⟩⟩
    have h := ownsRow_sortedI (w := w) (base := B) (g := g) (cap := cap) (n := n) (os := os) (ss := intsN (x :: rr)) (ts := intsN (sortN (x :: rr))) (by rw [intsN_len, intsN_len, sortN_len]) e2 e3 (by rw [intsN_len]; exact e4) e5 e6
    rw [intsN_iv, intsN_len] at h
    exact h
set_option maxHeartbeats 1000000 in
theorem search_own (L : List Nat) (m0 B : Nat) (ao : Option Addr) (cap : Nat) (w : World) (hl : L.length ≤ 300000) (own : w.ownsRow B 3 1 (.slice ao L.length cap) L.length (ivN L)) (hs : L.Pairwise (fun a b => a ≤ b)) :
    Calls Tryz.prog 86 #[.slice ao L.length cap, .int .i64 (m0 : Int)] w fun ev w' => ∃ b q, ev = .returned (.tuple #[.int .i64 ((L.countP (fun f => decide (f < m0)) : Nat) : Int), .bool b]) ∧ w' = w.drewN q := by
  rcases L with _ | ⟨x, L⟩
  · refine (sslices_BinarySearch_int_empty ao cap m0 w).mono ?_
    rintro ev w' ⟨rfl, rfl⟩
    exact ⟨_, 0, rfl, rfl⟩
  · rcases own.2 with ⟨e, _⟩ | ⟨g, c, cur, e, e2, e3, e4, e5, e6, e7⟩
    · cases e
    cases e
    have k := sslices_BinarySearch_int g 0 (x :: L).length cap (intsN (x :: L)) m0 w (by rw [intsN_len]; exact Nat.le_refl _) (by omega) (fun j hj => by
      rw [intsN_len] at hj
      rw [Nat.zero_add, own.cellAt j (by rw [Nat.mul_one]; exact hj)]
      unfold ivN intsN
      rw [List.getD_eq_getElem?_getD, List.getElem?_map, List.getElem?_map, List.getElem?_eq_getElem hj]
      rfl) (by
      rw [List.take_of_length_le (by rw [intsN_len]; exact Nat.le_refl _)]
      unfold intsN
      rw [List.pairwise_map]
      exact hs.imp fun h => by omega)
    rw [List.take_of_length_le (by rw [intsN_len]; exact Nat.le_refl _)] at k
    refine k.mono ?_
    rintro ev w' ⟨rfl, q, rfl⟩
    refine ⟨(intsN (x :: L)).contains (m0 : Int), q, ?_, rfl⟩
    have e : List.countP (fun x => decide (x < (m0 : Int))) (intsN (x :: L)) = (x :: L).countP (fun f => decide (f < m0)) := by
      unfold intsN
      rw [List.countP_map]
      congr 1
      funext f
      simp
    rw [e]
theorem src_cut {w : World} {B : Nat} {ao : Option Addr} {cap : Nat} {L : List Nat} (own : w.ownsRow B 3 1 (.slice ao L.length cap) L.length (ivN L)) :
    (ao = none ∧ L = [] ∧ cap = 0) ∨ ∃ g, ao = some ⟨g, 0, none⟩ ∧ B ≤ g ∧ g < w.heap.size ∧ L.length ≤ cap ∧ cap ≤ maxLen ∧ ∀ j u, (ivN L)[j]? = some u → w.cell? ⟨g, j, none⟩ = some u := by
  rcases own.2 with ⟨e, _⟩ | ⟨g, c, cur, e, e2, e3, e4, e5, e6, e7⟩
  · injection e with a1 a2 a3
    exact .inl ⟨a1, List.length_eq_zero_iff.1 a2, a3⟩
  · injection e with a1 a2 a3
    subst a3
    refine .inr ⟨g, a1, e2, lt_of_heap e3, e4, e5, fun j u hj => ?_⟩
    have hlt : j < L.length := by
      have := (List.getElem?_eq_some_iff.1 hj).1
      rwa [ivN_len] at this
    rw [a1] at own
    rw [own.cellAt j (by rw [Nat.mul_one]; exact hlt), hj]
theorem concat_two (v1 v2 : Value) (xs ys : List Nat) (hl : (xs ++ ys).length ≤ 300000) (W : World) (S1 : Src W v1 xs) (S2 : Src W v2 ys) :
    Calls Tryz.prog 87 #[.slice (some ⟨W.heap.size, 0, none⟩) 2 2] (W.alloc (.cells #[v1, v2] 65)) fun ev w' => ∃ v', ev = .returned v' ∧ w'.ownsRow W.heap.size 3 1 v' (xs ++ ys).length (ivN (xs ++ ys)) ∧ Below W.heap.size W w' := by
  obtain ⟨W1, hW1⟩ : ∃ W1, W1 = W.alloc (.cells #[v1, v2] 65) := ⟨_, rfl⟩
  have b1 : Below W.heap.size W W1 := by rw [hW1]; exact (Below.refl _ _).alloc (Nat.le_refl _) _
  have n1 : W1.heap[W.heap.size]? = some (.cells #[v1, v2] 65) := by rw [hW1]; exact heap_alloc_new _ _
  rw [← hW1]
  have k := concat_any 2 W.heap.size (fun i => if i = 0 then v1 else v2) (fun i => if i = 0 then xs else ys) (by omega) hl W1 (lt_of_heap n1) (fun i hi => by
    rcases i with _ | _ | i
    · exact ⟨by rw [cell_of_row _ _ _ _ _ _ n1]; rfl, S1.below b1⟩
    · exact ⟨by rw [cell_of_row _ _ _ _ _ _ n1]; rfl, S2.below b1⟩
    · omega)
  refine k.mono ?_
  rintro ev w' ⟨v', rfl, o, b⟩
  exact ⟨v', rfl, o.mono b1.size, b1.trans (b.mono b1.size)⟩
set_option maxHeartbeats 4000000 in
set_option maxRecDepth 100000 in
theorem oldFirst_any (rr : List Nat) (m0 B : Nat) (ao : Option Addr) (cap : Nat) (w : World) (hl : rr.length ≤ 300000) (own : w.ownsRow B 3 1 (.slice ao rr.length cap) rr.length (ivN rr)) :
    Calls Tryz.prog 57 #[.slice ao rr.length cap, .int .i64 (m0 : Int)] w fun ev w' => ∃ v', ev = .returned v' ∧ w'.ownsRow w.heap.size 3 1 v' (oldF m0 (sortN rr)).length (ivN (oldF m0 (sortN rr))) ∧ Aside (fun k => ao.map Addr.block = some k) w w' := by
  have ks := sort_own rr B ao cap w hl own
  obtain ⟨X, hX⟩ : ∃ X : Nat → Prop, X = fun k => ao.map Addr.block = some k := ⟨_, rfl⟩
  rw [← hX] at ks ⊢
  clear hX
  clear own
  obtain ⟨L, hL⟩ : ∃ L, L = sortN rr := ⟨_, rfl⟩
  have hll : rr.length = L.length := by rw [hL, sortN_len]
  have hp : L.Pairwise (fun a b => a ≤ b) := by rw [hL]; exact sortN_pair _
  rw [← hL, hll] at ks
  rw [← hL, hll]
  rw [hll] at hl
  clear hL hll
  go_enter Tryz.func57, Tryz.ntmps57
  go_wp2_with fail
  refine ks.mono ?_
  clear ks
  rintro ev w1 ⟨rfl, own1, b1⟩
  have kq := search_own L m0 B ao cap w1 hl own1 hp
  have HO := toHid own1
  have HB1 := toHid b1
  have HP := toHid hp
  clear own1 b1 hp
  go_wp2_with fail
  refine kq.mono ?_
  clear kq
  rintro ev w2 ⟨bb, q, rfl, rfl⟩
  obtain ⟨e1, e2⟩ := cut_lt m0 HP.out
  have hcl : L.countP (fun f => decide (f < m0)) ≤ L.length := List.countP_le_length
  have hF : oldF m0 L = L.drop (L.countP (fun f => decide (f < m0))) ++ L.take (L.countP (fun f => decide (f < m0))) := by rw [e1, e2]; rfl
  obtain ⟨c, hc⟩ : ∃ c, c = L.countP (fun f => decide (f < m0)) := ⟨_, rfl⟩
  rw [← hc] at hcl hF ⊢
  have HF := toHid hF
  clear e1 e2 hF hc
  have hlen : (L.drop c ++ L.take c).length ≤ 300000 := by rw [List.length_append, List.length_drop, List.length_take]; omega
  have HL := toHid hlen
  rcases src_cut HO.out with ⟨rfl, rfl, rfl⟩ | ⟨g, rfl, hg, hgl, hcap, hmax, hcell⟩
  · obtain rfl : c = 0 := by simpa using hcl
    have kc : Hid (∀ W, Below w1.heap.size w1 W → Calls Tryz.prog 87 #[.slice (some ⟨W.heap.size, 0, none⟩) 2 2] (W.alloc (.cells #[.slice none 0 0, .slice none 0 0] 65)) fun ev w' => ∃ v', ev = .returned v' ∧ w'.ownsRow w.heap.size 3 1 v' 0 [] ∧ Aside X w w') := fun W hW => by
      refine (concat_two _ _ [] [] (by simp) W (.inl ⟨rfl, rfl⟩) (.inl ⟨rfl, rfl⟩)).mono ?_
      rintro ev w' ⟨v', rfl, o, b⟩
      have hs := Nat.le_trans HB1.out.size hW.size
      exact ⟨v', rfl, o.mono hs, (HB1.out.trans (Aside.of_below hW)).trans (Aside.of_below b)⟩
    go_wp2_with fail
    go_region_with ((go_at_call 87; refine (kc.out _ (by first | exact (below_drewN (Below.refl _ _)).drew | exact below_drewN (Below.refl _ _))).mono ?_; rintro ev w7 ⟨v7, rfl, o7, b7⟩))
    go_wp2_with fail
    go_ret
    exact ⟨_, rfl, by rw [HF.out]; exact o7, b7⟩
  · have kc : Hid (∀ W f, (cap = c ∨ f = c) → Below w1.heap.size w1 W → Calls Tryz.prog 87 #[.slice (some ⟨W.heap.size, 0, none⟩) 2 2] (W.alloc (.cells #[.slice (some ⟨g, f, none⟩) (L.length - c) (cap - c), .slice (some ⟨g, 0, none⟩) c cap] 65)) fun ev w' => ∃ v', ev = .returned v' ∧ w'.ownsRow w.heap.size 3 1 v' (L.drop c ++ L.take c).length (ivN (L.drop c ++ L.take c)) ∧ Aside X w w') := fun W f hf hW => by
      refine (concat_two _ _ (L.drop c) (L.take c) HL.out W (.inr ⟨g, f, cap - c, by rw [List.length_drop], Nat.lt_of_lt_of_le hgl hW.size, fun j u hj => ?_⟩) (.inr ⟨g, 0, cap, by rw [List.length_take, Nat.min_eq_left hcl], Nat.lt_of_lt_of_le hgl hW.size, fun j u hj => ?_⟩)).mono ?_
      · obtain rfl : f = c := by
          rcases hf with h | h
          · have := (List.getElem?_eq_some_iff.1 hj).1
            rw [ivN_len, List.length_drop] at this
            omega
          · exact h
        refine (hW.cell (p := ⟨g, f + j, none⟩) hgl).trans (hcell _ _ ?_)
        unfold ivN at hj ⊢
        rw [List.map_drop, List.getElem?_drop] at hj
        exact hj
      · rw [Nat.zero_add]
        refine (hW.cell (p := ⟨g, j, none⟩) hgl).trans (hcell _ _ ?_)
        unfold ivN at hj ⊢
        rw [List.map_take, List.getElem?_take] at hj
        split at hj
        · exact hj
        · cases hj
      rintro ev w' ⟨v', rfl, o, b⟩
      have hs := Nat.le_trans HB1.out.size hW.size
      exact ⟨v', rfl, o.mono hs, (HB1.out.trans (Aside.of_below hW)).trans (Aside.of_below b)⟩
    have i0 : (0 : Int) ≤ (c : Int) := by omega
    have i1 : (c : Int) ≤ (L.length : Int) := by omega
    have i2 : (L.length : Int) ≤ (cap : Int) := by omega
    have i3 : (c : Int) ≤ (cap : Int) := by omega
    clear hcell
    by_cases hcc : cap = c
    · have kd := toHid fun W hW => kc.out W 0 (.inl hcc) hW
      obtain rfl : L.length = cap := by omega
      subst hcc
      rw [Nat.sub_self] at kd
      clear kc
      go_wp2_with fail
      go_region_with ((go_at_call 87; refine (kd.out _ (by first | exact (below_drewN (Below.refl _ _)).drew | exact below_drewN (Below.refl _ _))).mono ?_; rintro ev w7 ⟨v7, rfl, o7, b7⟩))
      go_wp2_with fail
      go_ret
      exact ⟨_, rfl, by rw [HF.out]; exact o7, b7⟩
    · have kd := toHid fun W hW => kc.out W c (.inr rfl) hW
      have hcd : ¬ (cap : Int) = (c : Int) := by omega
      have hce : ¬ c = cap := by omega
      clear kc
      go_wp2_with fail
      go_region_with ((go_at_call 87; refine (kd.out _ (by first | exact (below_drewN (Below.refl _ _)).drew | exact below_drewN (Below.refl _ _))).mono ?_; rintro ev w7 ⟨v7, rfl, o7, b7⟩))
      go_wp2_with fail
      go_ret
      exact ⟨_, rfl, by rw [HF.out]; exact o7, b7⟩
end Go.Proofs.YtnenggkgfhgcnaaGreatDoor
