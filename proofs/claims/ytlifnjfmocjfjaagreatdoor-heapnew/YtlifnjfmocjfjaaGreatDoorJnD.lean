/- Decimal of the document's answer, in this seat. -/
import Derived.Test.YtlifnjfmocjfjaaGreatDoorMemGD
import Derived.Lib.AppendIntMem
import Derived.Lib.SmallJoins
import Derived.Laws.Concat
import Derived.Deep.RegionHeld3
import Derived.Deep.DrawnRows
import Derived.Lib.Itoa
import Derived.Test.YtlifnjfmocjfjaaGreatDoorJnC
import Derived.Laws.IdiomStrings
import Derived.Deep.CutBlock
import Derived.Deep.QuietTactic
import Derived.BigQuiet
import Derived.Test.YtlifnjfmocjfjaaGreatDoorMemGE
import Derived.Maps.OwnSet
namespace Go.Proofs.YtlifnjfmocjfjaaGreatDoor
open Go.RowKit

theorem cell_new {w : World} {c : Array Value} {t : TypeId} {n i : Nat} {v : Value} (hn : n = w.heap.size) (h : c[i]? = some v) : (w.alloc (.cells c t)).cell? ⟨n, i, none⟩ = some v := by
  rw [World.cell?_alloc_at _ _ _ _ hn]; exact h
theorem byte_any (n : Nat) (hn : n ≤ 255) (w : World) :
    Calls Tryz.prog 56 #[.int .i64 (n : Int)] w fun ev w' => ev = .returned (.string (strOfNums [(n : Int)])) ∧ Below w.heap.size w w' := by
  have hI : (n : Int) ≤ 255 := by omega
  have hm : (n : Int) % 256 = (n : Int) := by omega
  have hcv := run_convert_bytes_arg (P := Tryz.prog) (w.alloc (.cells #[.int .u8 (n : Int)] 5)) 98 5 Tryz.underlying98 Tryz.underlying5 w.heap.size 0 1 1 [(n : Int)] rfl (fun k hk => by
    obtain rfl : k = 0 := by omega
    exact cell_new rfl rfl) 9 Tryz.underlying9
  go_enter Tryz.func56, Tryz.ntmps56
  go_wp2
  go_ret
  exact ⟨rfl, (Below.refl _ _).alloc (Nat.le_refl _) _⟩

theorem nDigits_le : ∀ (k u : Nat), u < 10 ^ (k + 1) → Lib.nDigits u ≤ k + 1
  | 0, u, h => by rw [Lib.nDigits_small (by simpa using h)]; exact Nat.le_refl _
  | k + 1, u, h => by
    by_cases h' : u < 10
    · rw [Lib.nDigits_small h']
      omega
    · rw [Lib.nDigits_big h']
      have := nDigits_le k (u / 10) (by rw [Nat.pow_succ] at h; omega)
      omega
def decB (n : Int) : ByteArray := ⟨(Lib.itoa n).toArray⟩
theorem ret_str {a b : ByteArray} (h : a = b) : Ending.returned (.string a) = .returned (.string b) := by rw [h]


theorem dec_step {u : Nat} (h : ¬ u < 10) : Lib.decDigits u = Lib.decDigits (u / 10) ++ [UInt8.ofNat (48 + u % 10)] := by
  rw [Lib.decDigits, dif_neg h]
theorem nums_dig (d : Nat) (h : d < 10) : strOfNums [((48 + d : Nat) : Int)] = ⟨#[UInt8.ofNat (48 + d)]⟩ := by
  iterate 10 (rcases d with _ | d; · rfl)
  omega
theorem byte_dig (d : Nat) (h : d < 10) (w : World) :
    Calls Tryz.prog 56 #[.int .i64 (48 + (d : Int))] w fun ev w' => ev = .returned (.string ⟨#[UInt8.ofNat (48 + d)]⟩) ∧ Below w.heap.size w w' := by
  rw [← nums_dig d h]
  have := byte_any (48 + d) (by omega) w
  rw [show ((48 + d : Nat) : Int) = 48 + (d : Int) by omega] at this
  exact this
theorem tdiv_neg_nat (u : Nat) : Int.tdiv (-(u : Int)) 10 = -((u / 10 : Nat) : Int) := by
  rw [Int.neg_tdiv]
  rfl
theorem tmod_neg_nat (u : Nat) : Int.tmod (-(u : Int)) 10 = -((u % 10 : Nat) : Int) := by
  rw [Int.neg_tmod]
  rfl
theorem decDigits_few (u : Nat) (h : u ≤ 9223372036854775808) : (Lib.decDigits u).length ≤ 20 := by
  rw [Lib.decDigits_length]
  exact nDigits_le 19 u (by omega)
set_option maxHeartbeats 1000000 in
theorem below_any : ∀ (u : Nat), u ≤ 9223372036854775808 → ∀ w : World,
    Calls Tryz.prog 55 #[.int .i64 (-(u : Int))] w fun ev w' => ev = .returned (.string ⟨(Lib.decDigits u).toArray⟩) ∧ Below w.heap.size w w' := by
  intro u
  induction u using Nat.strongRecOn with
  | _ u ih =>
  intro hu w
  by_cases h : u < 10
  · have hI : (-10 : Int) < -(u : Int) := by omega
    have kx := byte_dig u h w
    have e : Lib.decDigits u = [UInt8.ofNat (48 + u)] := Lib.decDigits_one h
    rw [e]
    clear ih
    go_enter Tryz.func55, Tryz.ntmps55
    go_wp2_with fail
    refine kx.mono ?_
    rintro ev w' ⟨rfl, hb⟩
    go_wp2_with fail
    go_ret
    exact ⟨by simp, hb⟩
  · have hI : ¬ (-10 : Int) < -(u : Int) := by omega
    have hd := tdiv_neg_nat u
    have hm := tmod_neg_nat u
    have kx := ih (u / 10) (by omega) (by omega) w
    rw [show ((u / 10 : Nat) : Int) = (u : Int) / 10 by omega] at kx
    have HX := toHid kx
    have HB : Hid (∀ w, Calls Tryz.prog 56 #[.int .i64 (48 + (u : Int) % 10)] w fun ev w' => ev = .returned (.string ⟨#[UInt8.ofNat (48 + u % 10)]⟩) ∧ Below w.heap.size w w') := fun w => by
      have := byte_dig (u % 10) (by omega) w
      rw [show ((u % 10 : Nat) : Int) = (u : Int) % 10 by omega] at this
      exact this
    have hl := decDigits_few (u / 10) (by omega)
    have a1 := fun wx => run_string_add_sum (P := Tryz.prog) (w := wx) ⟨(Lib.decDigits (u / 10)).toArray⟩ ⟨#[UInt8.ofNat (48 + u % 10)]⟩ (by show (Lib.decDigits (u / 10)).toArray.size + 1 ≤ _; rw [List.size_toArray]; omega)
    clear ih kx
    go_enter Tryz.func55, Tryz.ntmps55
    go_wp2_with fail
    refine HX.out.mono ?_
    rintro ev w1 ⟨rfl, hb⟩
    go_wp2_with fail
    refine (HB.out _).mono ?_
    rintro ev w2 ⟨rfl, hb2⟩
    go_wp2_with fail
    go_ret
    refine ⟨?_, hb.trans (hb2.mono hb.size)⟩
    rw [dec_step h]
    refine ret_str ?_
    apply ByteArray.ext
    simp
set_option maxHeartbeats 1000000 in
/-- DECIMAL OF ANY INT. -/
theorem decimal_any (n : Int) (h0 : -9223372036854775808 ≤ n) (h1 : n ≤ 9223372036854775807) (w : World) :
    Calls Tryz.prog 25 #[.int .i64 n] w fun ev w' => ev = .returned (.string (decB n)) ∧ Below w.heap.size w w' := by
  by_cases hn : n < 0
  · obtain ⟨u, rfl⟩ : ∃ u : Nat, n = -(u : Int) := ⟨n.natAbs, by omega⟩
    have HX := toHid (below_any u (by omega) w)
    have e : decB (-(u : Int)) = ⟨#[45]⟩ ++ ⟨(Lib.decDigits u).toArray⟩ := by
      unfold decB
      rw [Lib.itoa_neg u (by omega)]
      apply ByteArray.ext
      simp
    have hl := decDigits_few u (by omega)
    have a1 := fun wx => run_string_add_sum (P := Tryz.prog) (w := wx) ⟨#[45]⟩ ⟨(Lib.decDigits u).toArray⟩ (by show 1 + (Lib.decDigits u).toArray.size ≤ _; rw [List.size_toArray]; omega)
    go_enter Tryz.func25, Tryz.ntmps25
    go_wp2_with fail
    refine HX.out.mono ?_
    rintro ev w1 ⟨rfl, hb⟩
    go_wp2_with fail
    go_ret
    exact ⟨ret_str e.symm, hb⟩
  · obtain ⟨u, rfl⟩ : ∃ u : Nat, n = (u : Int) := ⟨n.toNat, by omega⟩
    have HX := toHid (below_any u (by omega) w)
    have e : decB (u : Int) = ⟨(Lib.decDigits u).toArray⟩ := by
      unfold decB
      rw [Lib.itoa_nonneg u]
    rw [e]
    go_enter Tryz.func25, Tryz.ntmps25
    go_wp2_with fail
    refine HX.out.mono ?_
    rintro ev w1 ⟨rfl, hb⟩
    go_wp2_with fail
    go_ret
    exact ⟨rfl, hb⟩
end Go.Proofs.YtlifnjfmocjfjaaGreatDoor

/- The document's memory: a word as text (told), by a contract. -/
namespace Go.Proofs.YtlifnjfmocjfjaaGreatDoor
open Go.RowKit

def constB (n : Int) : ByteArray := if n = 0 then ⟨#[110, 111, 110, 101]⟩ else if n = 1 then ⟨#[102, 97, 108, 115, 101]⟩ else ⟨#[116, 114, 117, 101]⟩
/-- A word as text. -/
def tellB (out : List Nat) (x : Int) : ByteArray := if x % 4 = 1 then decB (wrap64 x / 4) else if x % 4 = 2 then constB (x / 4) else if x = 0 then ⟨#[110, 111, 119, 104, 101, 114, 101]⟩ else if objI out (ptI x) < 0 then ⟨#[64]⟩ else ⟨#[64]⟩ ++ decB (objI out (ptI x))
theorem decB_size (n : Int) (h0 : -9223372036854775808 ≤ n) (h1 : n ≤ 9223372036854775807) : (decB n).size ≤ 21 := by
  unfold decB
  show (Lib.itoa n).toArray.size ≤ 21
  rw [List.size_toArray]
  by_cases hn : n < 0
  · obtain ⟨u, rfl⟩ : ∃ u : Nat, n = -(u : Int) := ⟨n.natAbs, by omega⟩
    rw [Lib.itoa_neg u (by omega)]
    have := decDigits_few u (by omega)
    simp
    omega
  · obtain ⟨u, rfl⟩ : ∃ u : Nat, n = (u : Int) := ⟨n.toNat, by omega⟩
    rw [Lib.itoa_nonneg u]
    have := decDigits_few u (by omega)
    omega
theorem objI_bound {vs : List Nat} {x : Int} (hn : vs.length ≤ 300000) : -1 ≤ objI vs x ∧ objI vs x ≤ 300000 := by
  rcases Int.lt_or_le (objI vs x) 0 with h | h
  · rw [objI_neg (by omega)]; omega
  · obtain ⟨k, _, e, _, _, hk⟩ := objI_some h
    omega
end Go.Proofs.YtlifnjfmocjfjaaGreatDoor

/- The document's memory: the digits of a word (hex), by a contract. -/
namespace Go.Proofs.YtlifnjfmocjfjaaGreatDoor
open Go.RowKit

def digC (d : Nat) : UInt8 := ([48, 49, 50, 51, 52, 53, 54, 55, 56, 57, 97, 98, 99, 100, 101, 102] : List UInt8).getD d 0
/-- The lowest digits of a number, k of them. -/
def hexL (x : Nat) : Nat → List UInt8
  | 0 => []
  | k + 1 => digC (x / 16 ^ k % 16) :: hexL x k
theorem hexL_len (x : Nat) : ∀ k, (hexL x k).length = k
  | 0 => rfl
  | k + 1 => by rw [hexL, List.length_cons, hexL_len x k]
theorem hex_step {x k d : Nat} (h : x / 16 ^ k % 16 = d) : (⟨#[digC d]⟩ : ByteArray) ++ (⟨(hexL x k).toArray⟩ : ByteArray) = ⟨(hexL x (k + 1)).toArray⟩ := by
  rw [hexL, h]
  apply ByteArray.ext
  simp [ByteArray.data_append]
theorem div_step (x k : Nat) : x / 16 ^ k / 16 = x / 16 ^ (k + 1) := by rw [Nat.div_div_eq_div_mul, Nat.pow_succ]
def digsB : ByteArray := ⟨#[48, 49, 50, 51, 52, 53, 54, 55, 56, 57, 97, 98, 99, 100, 101, 102]⟩
theorem ext_dig (d : Nat) (h : d < 16) : digsB.extract d (d + 1) = ⟨#[digC d]⟩ := by
  iterate 16 (rcases d with _ | d; · rfl)
  omega
end Go.Proofs.YtlifnjfmocjfjaaGreatDoor

/- A word in sixteen digits: strconv.FormatUint with base 16, tellRaw, by contracts. -/
namespace Go.Proofs.YtlifnjfmocjfjaaGreatDoor
open Go.RowKit Go.Shelf

/-- The one place of the table that base 16 asks for. -/
def Tz16 (w : World) : Prop := w.cell? ⟨13, 15, none⟩ = some (.int .u8 4)
theorem Tz16.below {w w' : World} {B : Nat} (h : Tz16 w) (hb : Below B w w') (hB : w.heap.size ≤ B) : Tz16 w' := (hb.cell (p := ⟨13, 15, none⟩) (Nat.lt_of_lt_of_le (lt_of_cell h) hB)).trans h
set_option maxHeartbeats 1000000 in
set_option maxRecDepth 100000 in
theorem tz_16 (w : World) (h : Tz16 w) : Calls Tryz.prog 160 #[.int .u64 16] w fun ev w' => ev = .returned (.int .i64 4) ∧ w' = w := by
  unfold Tz16 at h
  have key : IntKind.u64.wrap (bits BinOp.and IntKind.u64 16 (IntKind.u64.wrap (-16)) * 285870213051353865) / 288230376151711744 = 15 := by kernel_rfl
  go_enter Tryz.func160, Tryz.ntmps160
  go_wp2
  go_ret
  exact ⟨rfl, rfl⟩
def digs36 : ByteArray := ⟨#[48, 49, 50, 51, 52, 53, 54, 55, 56, 57, 97, 98, 99, 100, 101, 102, 103, 104, 105, 106, 107, 108, 109, 110, 111, 112, 113, 114, 115, 116, 117, 118, 119, 120, 121, 122]⟩
theorem dig_at (d : Nat) (h : d < 16) (w : World) : (Instr.index 9 (.string digs36) (.int .u64 (d : Int))).run Tryz.prog w = .ok (.int .u8 ((digC d).toNat : Int)) w := by
  iterate 16 (rcases d with _ | d; · kernel_rfl)
  omega
def digV (l : List UInt8) : List Value := l.map fun b => Value.int .u8 (b.toNat : Int)
/-- A digit more, ahead of those that are there. -/
theorem dig_put {cur : Array Value} {x k d : Nat} (hs : cur.size = 65) (hk : k ≤ 16) (hd : x / 16 ^ k % 16 = d) (h : cur.toList.drop (65 - k) = digV (hexL x k)) : (cur.setIfInBounds (64 - k) (.int .u8 ((digC d).toNat : Int))).toList.drop (65 - (k + 1)) = digV (hexL x (k + 1)) := by
  rw [Array.toList_setIfInBounds, show 65 - (k + 1) = 64 - k by omega]
  have hl : 64 - k < cur.toList.length := by simp; omega
  rw [List.drop_eq_getElem_cons (by rw [List.length_set]; exact hl), List.getElem_set_self, List.drop_set_of_lt (by omega), show 64 - k + 1 = 65 - k by omega, h, hexL, hd]
  rfl
set_option maxHeartbeats 8000000 in
set_option maxRecDepth 100000 in
/-- The digits of a number, base 16. -/
theorem bits_16 (x : Nat) (hx : x < 18446744073709551616) (w : World) (hz : Tz16 w) :
    Calls Tryz.prog 129 #[.slice none 0 0, .int .u64 (x : Int), .int .i64 16, .bool false, .bool false] w fun ev w' => (∃ n, 1 ≤ n ∧ n ≤ 16 ∧ x < 16 ^ n ∧ ev = .returned (.tuple #[.slice none 0 0, .string ⟨(hexL x n).toArray⟩])) ∧ Below w.heap.size w w' := by
  have HZ := toHid hz
  clear hz
  go_enter Tryz.func129, Tryz.ntmps129
  go_upto_region 4 with fail
  obtain ⟨w1, hw1⟩ : ∃ w1, w1 = w.alloc (.cells Tryz.zeroCells227 227) := ⟨_, rfl⟩
  obtain ⟨q, hq⟩ : ∃ q, q = w.heap.size := ⟨_, rfl⟩
  have ob : w1.heap[q]? = some (.cells Tryz.zeroCells227 227) := by rw [hw1, hq]; exact heap_alloc_new _ _
  have b1 : Below w.heap.size w w1 := by rw [hw1]; exact (Below.refl _ _).alloc (Nat.le_refl _) _
  rw [← hw1, ← hq]
  have hz1 := HZ.out.below b1 (Nat.le_refl _)
  have hqw : w.heap.size ≤ q := by omega
  have HB1 := toHid b1
  have HOB := toHid ob
  have HZ1 := toHid hz1
  have HX := toHid hx
  have hpw : bits .and .i64 16 15 = 0 := by kernel_rfl
  clear hw1 hq ob b1 hz1 hx
  go_wp2_with (first | (go_at_call 160; refine (tz_16 _ HZ1.out).mono ?_; rintro ev w2 ⟨rfl, hw2⟩; rw [hw2]; clear hw2 w2) | go_in)
  have HI : Hid (∀ (d : Nat) (W : World), d < 16 → (Instr.index 9 (.string digs36) (.int .u64 (d : Int))).run Tryz.prog W = .ok (.int .u8 ((digC d).toNat : Int)) W) := fun d W h => dig_at d h W
  unfold digs36 at HI
  go_loopg [1, 13] 17 (fun gk vu vi wr => ∃ (k u j : Nat) (cur : Array Value), gk = 17 - k ∧ k ≤ 15 ∧ vu = .int .u64 (u : Int) ∧ vi = .int .i64 (j : Int) ∧ Below w.heap.size w wr ∧ wr.heap[q]? = some (.cells cur 227) ∧ cur.size = 65 ∧ Hid (j = 65 - k) ∧ Hid (u = x / 16 ^ k) ∧ Hid (cur.toList.drop (65 - k) = digV (hexL x k)))
  case atStart => exact ⟨0, x, 65, _, rfl, by omega, rfl, rfl, HB1.out, HOB.out, by kernel_rfl, rfl, by show _ = _; simp, (by kernel_rfl : List.drop (65 - 0) Tryz.zeroCells227.toList = digV (hexL x 0))⟩
  case round =>
    obtain ⟨k, u, j, cur, hgk, hk, rfl, rfl, hb, ho, hs, hj, hu, hcur⟩ := hrel
    have HG := toHid hgk
    have HB := toHid hb
    have HO := toHid ho
    have hu64 : u < 18446744073709551616 := by rw [hu.out]; exact Nat.lt_of_le_of_lt (Nat.div_le_self _ _) HX.out
    obtain ⟨j1, hj1⟩ : ∃ j1, j = j1 + 1 := ⟨j - 1, by have := hj.out; omega⟩
    have hjm : (j : Int) - 1 = (j1 : Int) := by omega
    have hj2 : j1 < 65 := by have := hj.out; omega
    have hj3 : (j1 : Int) < 65 := by omega
    have hj4 : (0 : Int) ≤ (j1 : Int) := by omega
    have HJ := toHid hj1
    have huI : (u : Int) < 18446744073709551616 := by omega
    have hu0 : (0 : Int) ≤ (u : Int) := by omega
    have HK := toHid hk
    clear hgk hb ho hj1 hk
    obtain ⟨v0, hv0⟩ : ∃ v0, cur[j1]? = some v0 := ⟨_, Array.getElem?_eq_getElem (by omega)⟩
    have c0 : wr.cell? ⟨q, j1, none⟩ = some v0 := by rw [cell_of_row _ _ _ _ _ _ HO.out]; exact hv0
    have z0 : wr.frozen? ⟨q, j1, none⟩ = false := Lib.frozen_of_heap HO.out j1
    by_cases hge : 16 ≤ u
    · have hgI : (16 : Int) ≤ (u : Int) := by omega
      obtain ⟨d, hd⟩ : ∃ d, d = u % 16 := ⟨_, rfl⟩
      have hd16 : d < 16 := by omega
      have hand : bits .and .u64 (u : Int) 15 = (d : Int) := by rw [and15 _ hu0 huI]; omega
      have i1 := fun W => HI.out d W hd16
      have HP : Hid ((cur.setIfInBounds j1 (.int .u8 ((digC d).toNat : Int))).toList.drop (65 - (k + 1)) = digV (hexL x (k + 1))) := by
        have h1 := dig_put (x := x) (d := d) hs (by have := HK.out; omega) (by rw [← hu.out, hd]) hcur.out
        have h2 : 64 - k = j1 := by have := hj.out; have := HJ.out; omega
        rw [h2] at h1
        exact h1
      have hk14 : k ≤ 14 := by
        have h1 := hu.out
        have h2 := HK.out
        have h3 := HX.out
        by_cases e : k = 15
        · subst e
          have : x / 16 ^ 15 < 16 := Nat.div_lt_of_lt_mul (by omega)
          omega
        · omega
      obtain ⟨u', hu'⟩ : ∃ u', u' = u / 16 := ⟨_, rfl⟩
      have hdiv : (u : Int) / 16 = (u' : Int) := by omega
      have HU : Hid (u' = x / 16 ^ (k + 1)) := by show _ = _; rw [hu', hu.out, div_step]
      have HD := toHid hd
      have HS := toHid hs
      have HK14 := toHid hk14
      have HJJ := toHid (show j1 = 65 - (k + 1) by have := hj.out; have := HJ.out; omega)
      generalize ((digC d).toNat : Int) = cd at *
      clear hd hs hk14 hcur hu hj hv0 hu'
      go_wp2_with fail
      go_roundg (17 - (k + 1))
      case measure => have := HG.out; have := HK14.out; omega
      case rel => exact ⟨k + 1, u', j1, _, rfl, by have := HK14.out; omega, rfl, rfl, HB.out.setCell (p := ⟨q, j1, none⟩) hqw _, heap_set_same HO.out, by rw [Array.size_setIfInBounds]; exact HS.out, HJJ.out, HU.out, HP.out⟩
    · have hgI : ¬ (16 : Int) ≤ (u : Int) := by omega
      obtain ⟨d, hd⟩ : ∃ d, d = u := ⟨_, rfl⟩
      have hd16 : u < 16 := by omega
      have i1 := fun W => HI.out u W hd16
      have HP : Hid ((cur.setIfInBounds j1 (.int .u8 ((digC u).toNat : Int))).toList.drop (65 - (k + 1)) = digV (hexL x (k + 1))) := by
        have h1 := dig_put (x := x) (d := u) hs (by have := HK.out; omega) (by rw [← hu.out]; omega) hcur.out
        have h2 : 64 - k = j1 := by have := hj.out; have := HJ.out; omega
        rw [h2] at h1
        exact h1
      have HXL : Hid (x < 16 ^ (k + 1)) := by
        have h1 := hu.out
        have h2 : x / 16 ^ k < 16 := by omega
        have h3 := (Nat.div_lt_iff_lt_mul (k := 16 ^ k) (Nat.pow_pos (by decide))).1 h2
        show x < 16 ^ (k + 1)
        rw [Nat.pow_succ, Nat.mul_comm]
        exact h3
      have HS := toHid hs
      have HJJ := toHid (show j1 = 65 - (k + 1) by have := hj.out; have := HJ.out; omega)
      generalize ((digC u).toNat : Int) = cd at *
      clear hd hs hcur hu hj hv0
      have hsl : ∀ W, (Instr.sliceAt 227 (.pointer (some ⟨q, 0, none⟩)) (some (.int .i64 (j1 : Int))) none none).run Tryz.prog W = .ok (.slice (some ⟨q, j1, none⟩) (65 - j1) (65 - j1)) W := fun W => by
        have hal : Tryz.prog.arrayLen 227 = 65 := by kernel_rfl
        rw [run_sliceAt_array_l W 227 ⟨q, 0, none⟩ (by kernel_rfl) .i64 (j1 : Int) (by omega) (by rw [hal]; omega)]
        go_simp
        omega
      obtain ⟨w2, hw2⟩ : ∃ w2, w2 = wr.setCell ⟨q, j1, none⟩ (.int .u8 cd) := ⟨_, rfl⟩
      have ob2 : w2.heap[q]? = some (.cells (cur.setIfInBounds j1 (.int .u8 cd)) 227) := by rw [hw2]; exact heap_set_same HO.out
      have b2 : Below w.heap.size w w2 := by rw [hw2]; exact HB.out.setCell (p := ⟨q, j1, none⟩) hqw _
      have hcv : (convert 98 9 (.slice (some ⟨q, j1, none⟩) (65 - j1) (65 - j1))).run Tryz.prog w2 = .ok (.string ⟨(hexL x (k + 1)).toArray⟩) w2 := by
        have h := run_convert_bytes_back (P := Tryz.prog) w2 98 9 5 ⟨q, j1, none⟩ (65 - j1) (hexL x (k + 1)) Tryz.underlying98 Tryz.underlying5 Tryz.underlying9 (fun i hi => by
          have e : (⟨q, j1, none⟩ : Addr).add i = ⟨q, j1 + i, none⟩ := by unfold Addr.add; split <;> simp_all
          rw [e, cell_of_row _ _ _ _ _ _ ob2, ← Array.getElem?_toList]
          have h1 := congrArg (fun l => l[i]?) HP.out
          simp only [List.getElem?_drop, digV, List.getElem?_map, List.getElem?_eq_getElem hi, Option.map_some] at h1
          rw [show j1 + i = 65 - (k + 1) + i by have := HJJ.out; omega]
          exact h1)
        have e2 : (hexL x (k + 1)).length = 65 - j1 := by rw [hexL_len, HJJ.out]; have := HK.out; omega
        rw [e2] at h
        exact h
      have HB2 := toHid b2
      clear ob2 b2
      go_upto_region 30 with fail
      rw [← hw2]
      clear hw2
      go_wp2_with fail
      refine bodyPost_ret (results_tmp2 rfl _ _ _) rfl ?_
      exact ⟨⟨k + 1, by omega, by have := HK.out; omega, HXL.out, rfl⟩, HB2.out⟩
set_option maxHeartbeats 1000000 in
set_option maxRecDepth 100000 in
theorem iformat_16 (x : Nat) (hx : x < 18446744073709551616) (w : World) (hz : Tz16 w) :
    Calls Tryz.prog 139 #[.int .u64 (x : Int), .int .i64 16] w fun ev w' => (∃ n, 1 ≤ n ∧ n ≤ 16 ∧ x < 16 ^ n ∧ ev = .returned (.string ⟨(hexL x n).toArray⟩)) ∧ Below w.heap.size w w' := by
  have kb := bits_16 x hx w hz
  clear hx hz
  go_enter Tryz.func139, Tryz.ntmps139
  go_wp2_with fail
  refine kb.mono ?_
  rintro ev w2 ⟨⟨n, h1, h2, h3, rfl⟩, hb⟩
  have HR := toHid (And.intro h1 (And.intro h2 (And.intro h3 hb)))
  clear h1 h2 h3 hb kb
  obtain ⟨l, hl⟩ : ∃ l, l = hexL x n := ⟨_, rfl⟩
  rw [← hl]
  have HL := toHid hl
  clear hl
  go_wp2_with fail
  go_ret
  obtain ⟨h1, h2, h3, hb⟩ := HR.out
  exact ⟨⟨n, h1, h2, h3, by rw [HL.out]; rfl⟩, hb⟩
set_option maxHeartbeats 1000000 in
set_option maxRecDepth 100000 in
theorem formatUint_16 (x : Nat) (hx : x < 18446744073709551616) (w : World) (hz : Tz16 w) :
    Calls Tryz.prog 117 #[.int .u64 (x : Int), .int .i64 16] w fun ev w' => (∃ n, 1 ≤ n ∧ n ≤ 16 ∧ x < 16 ^ n ∧ ev = .returned (.string ⟨(hexL x n).toArray⟩)) ∧ Below w.heap.size w w' := by
  have kb := iformat_16 x hx w hz
  clear hx hz
  go_enter Tryz.func117, Tryz.ntmps117
  go_wp2_with fail
  refine kb.mono ?_
  rintro ev w2 ⟨⟨n, h1, h2, h3, rfl⟩, hb⟩
  have HR := toHid (And.intro h1 (And.intro h2 (And.intro h3 hb)))
  clear h1 h2 h3 hb kb
  obtain ⟨l, hl⟩ : ∃ l, l = hexL x n := ⟨_, rfl⟩
  rw [← hl]
  have HL := toHid hl
  clear hl
  go_wp2_with fail
  go_ret
  obtain ⟨h1, h2, h3, hb⟩ := HR.out
  exact ⟨⟨n, h1, h2, h3, by rw [HL.out]; rfl⟩, hb⟩
theorem hex_pad (x n : Nat) (hx : x < 16 ^ n) : ∀ j, hexL x (n + j) = List.replicate j 48 ++ hexL x n
  | 0 => rfl
  | j + 1 => by
    have h0 : x / 16 ^ (n + j) = 0 := Nat.div_eq_of_lt (Nat.lt_of_lt_of_le hx (Nat.pow_le_pow_right (by decide) (by omega)))
    rw [← Nat.add_assoc, hexL, h0, hex_pad x n hx j, List.replicate_succ]
    rfl
def s0x : ByteArray := ⟨#[48, 120]⟩
set_option maxHeartbeats 1000000 in
set_option maxRecDepth 100000 in
/-- tellRaw. -/
theorem tellRaw_any (x : Nat) (hx : x < 18446744073709551616) (w : World) (hz : Tz16 w) :
    Calls Tryz.prog 84 #[.int .u64 (x : Int)] w fun ev w' => ev = .returned (.string (s0x ++ ⟨(hexL x 16).toArray⟩)) ∧ Below w.heap.size w w' := by
  have kf := formatUint_16 x hx w hz
  clear hx hz
  go_enter Tryz.func84, Tryz.ntmps84
  go_wp2_with fail
  refine kf.mono ?_
  rintro ev w2 ⟨⟨n, h1, h2, h3, rfl⟩, hb⟩
  obtain ⟨l, hl⟩ : ∃ l, l = hexL x n := ⟨_, rfl⟩
  obtain ⟨c, hc⟩ : ∃ c, n + c = 16 := ⟨16 - n, by omega⟩
  have hln : l.toArray.size = n := by rw [hl, List.size_toArray, hexL_len]
  have hsz : (⟨l.toArray⟩ : ByteArray).size = n := hln
  have hI : (16 : Int) - (n : Int) = (c : Int) := by omega
  have kr := sstrings_Repeat ⟨#[48]⟩ c w2 (by omega) (by show 1 * c ≤ _; omega)
  have hrep : (⟨(Lib.repeatL (ByteArray.mk #[48]).data.toList c).toArray⟩ : ByteArray) = ⟨(List.replicate c 48).toArray⟩ := by
    have : ∀ c, Lib.repeatL [48] c = List.replicate c (48 : UInt8) := fun c => by
      induction c with
      | zero => rfl
      | succ c ih => rw [Lib.repeatL, ih]; rfl
    show (⟨(Lib.repeatL [48] c).toArray⟩ : ByteArray) = _
    rw [this]
  rw [hrep] at kr
  obtain ⟨z, hzz⟩ : ∃ z : ByteArray, z = ⟨(List.replicate c 48).toArray⟩ := ⟨_, rfl⟩
  rw [← hzz] at kr
  have hzs : z.size = c := by rw [hzz]; show (List.replicate c (48 : UInt8)).toArray.size = c; simp
  have a1 := fun wx => run_string_add_sum (P := Tryz.prog) (w := wx) ⟨#[48, 120]⟩ z (by show 2 + z.size ≤ _; omega)
  have hs1 : ((⟨#[48, 120]⟩ : ByteArray) ++ z).size = 2 + z.size := by rw [ByteArray.size_append]; rfl
  have a2 := fun wx => run_string_add_sum (P := Tryz.prog) (w := wx) (⟨#[48, 120]⟩ ++ z) ⟨l.toArray⟩ (by rw [hs1, hsz]; omega)
  have HE : Hid ((⟨#[48, 120]⟩ ++ z) ++ ⟨l.toArray⟩ = s0x ++ ⟨(hexL x 16).toArray⟩) := by
    show _ = _
    have h := hex_pad x n h3 c
    rw [hc] at h
    rw [h, hzz, hl]
    unfold s0x
    apply ByteArray.ext
    simp [ByteArray.data_append]
  have HB := toHid hb
  rw [← hl]
  clear hb h3 hl kf hrep hzz hs1 hc
  go_wp2_with fail
  refine kr.mono ?_
  rintro ev w3 ⟨rfl, hb3⟩
  clear kr
  go_wp2_with fail
  go_ret
  exact ⟨by rw [← HE.out]; rfl, HB.out.trans (hb3.mono HB.out.size)⟩
end Go.Proofs.YtlifnjfmocjfjaaGreatDoor

/- The document's memory: lines of roots, and of weak ones (GraphOf's loops), by contracts. -/
namespace Go.Proofs.YtlifnjfmocjfjaaGreatDoor
open Go.RowKit

/-- A block of a function's code, by its number. -/
def gBlockIn (n : Nat) : Code → Option Code
  | .block i c => bif Nat.beq i n then some (.block i c) else gBlockIn n c
  | .loop c => gBlockIn n c
  | .seq a b => match gBlockIn n a with
    | some c => some c
    | none => gBlockIn n b
  | .scope c => gBlockIn n c
  | .cond _ a b => match gBlockIn n a with
    | some c => some c
    | none => gBlockIn n b
  | _ => none
/-- A line more. -/
def gLine (s : ByteArray) (out : List Nat) (acc : ByteArray) (x : Int) : ByteArray := ((acc ++ s) ++ tellB out x) ++ ⟨#[10]⟩
def gLines (s : ByteArray) (out : List Nat) (acc : ByteArray) (l : List Int) : ByteArray := l.foldl (gLine s out) acc
theorem gLines_take {s : ByteArray} {out : List Nat} {acc : ByteArray} {l : List Int} {k : Nat} {x : Int} (h : l[k]? = some x) : gLines s out acc (l.take (k + 1)) = gLine s out (gLines s out acc (l.take k)) x := by
  unfold gLines
  rw [List.take_add_one, h, List.foldl_append]
  rfl
theorem tellB_size (out : List Nat) (hn : out.length ≤ 300000) (x : Int) : (tellB out x).size ≤ 22 := by
  have hw : wrap64 x = (x + 9223372036854775808) % 18446744073709551616 - 9223372036854775808 := wrap64_eq x
  have hb := objI_bound (vs := out) (x := ptI x) hn
  unfold tellB
  split
  · have := decB_size (wrap64 x / 4) (by omega) (by omega)
    omega
  · split
    · unfold constB
      split
      · decide
      · split <;> decide
    · split
      · decide
      · split
        · decide
        · have := decB_size (objI out (ptI x)) (by omega) (by omega)
          rw [ByteArray.size_append]
          show 1 + (decB (objI out (ptI x))).size ≤ 22
          omega
def sRoot : ByteArray := ⟨#[114, 111, 111, 116, 32]⟩
def sWeak : ByteArray := ⟨#[119, 101, 97, 107, 32]⟩
/-- Words of a list that have a text. -/
structure Tells (l : List Int) : Prop where
  u64 : U64 l
  const : ∀ x ∈ l, x % 4 = 2 → x / 4 ≤ 2
  len : l.length ≤ 300000
end Go.Proofs.YtlifnjfmocjfjaaGreatDoor

/- The document's memory: the fields of an object as text (GraphOf's inner loop), by a contract. -/
namespace Go.Proofs.YtlifnjfmocjfjaaGreatDoor
open Go.RowKit

theorem belowQ {B : Nat} {a w : World} (n : Nat) (h : Below B a w) : Below B a (w.drewN n) := ⟨h.os, h.tape, h.output, h.size, h.block⟩
def sHex : ByteArray := ⟨#[32, 48, 120]⟩
/-- A field more. -/
def gField (kd : Int) (out : List Nat) (acc : ByteArray) (x : Int) : ByteArray := if kd < 8 then (acc ++ ⟨#[32, 48, 120]⟩) ++ ⟨(hexL x.toNat 16).toArray⟩ else (acc ++ ⟨#[32]⟩) ++ tellB out x
def gFields (kd : Int) (out : List Nat) (acc : ByteArray) (l : List Int) : ByteArray := l.foldl (gField kd out) acc
theorem gFields_take {kd : Int} {out : List Nat} {acc : ByteArray} {l : List Int} {k : Nat} {x : Int} (h : l[k]? = some x) : gFields kd out acc (l.take (k + 1)) = gField kd out (gFields kd out acc (l.take k)) x := by
  unfold gFields
  rw [List.take_add_one, h, List.foldl_append]
  rfl
end Go.Proofs.YtlifnjfmocjfjaaGreatDoor

/- The document's memory: the lines of objects (GraphOf's loop), by a contract. -/
namespace Go.Proofs.YtlifnjfmocjfjaaGreatDoor
open Go.RowKit

/-- An object's line. -/
def gObjT (F : Nat → Int) (out : List Nat) (i f : Nat) (acc : ByteArray) : ByteArray := gFields (F f / 4 % 256) out (((acc ++ decB (i : Int)) ++ ⟨#[32]⟩) ++ decB (F f / 4 % 256)) (fieldsP F f) ++ ⟨#[10]⟩
/-- The lines of the first k objects. -/
def gObjsP (F : Nat → Int) (out : List Nat) (acc : ByteArray) : Nat → ByteArray
  | 0 => acc
  | k + 1 => match out[k]? with
    | some f => gObjT F out k f (gObjsP F out acc k)
    | none => gObjsP F out acc k
theorem gObjsP_next {F : Nat → Int} {out : List Nat} {acc : ByteArray} {k f : Nat} (h : out[k]? = some f) : gObjsP F out acc (k + 1) = gObjT F out k f (gObjsP F out acc k) := by
  conv => lhs; unfold gObjsP
  rw [h]
theorem gField_size (kd : Int) (out : List Nat) (hn : out.length ≤ 300000) (acc : ByteArray) (x : Int) : (gField kd out acc x).size ≤ acc.size + 28 := by
  unfold gField
  have := tellB_size out hn x
  split
  · rw [ByteArray.size_append, ByteArray.size_append]
    have : (⟨(hexL x.toNat 16).toArray⟩ : ByteArray).size = 16 := by show (hexL x.toNat 16).toArray.size = 16; rw [List.size_toArray, hexL_len]
    show acc.size + 3 + _ ≤ _
    omega
  · rw [ByteArray.size_append, ByteArray.size_append]
    show acc.size + 1 + _ ≤ _
    omega
theorem gFields_size (kd : Int) (out : List Nat) (hn : out.length ≤ 300000) : ∀ (l : List Int) (acc : ByteArray), (gFields kd out acc l).size ≤ acc.size + 28 * l.length
  | [], acc => by simp [gFields]
  | x :: l, acc => by
    have h1 := gField_size kd out hn acc x
    have h2 := gFields_size kd out hn l (gField kd out acc x)
    show (gFields kd out (gField kd out acc x) l).size ≤ _
    rw [List.length_cons]
    omega
/-- Objects whose fields have a text. -/
structure ObjsT (F : Nat → Int) (out : List Nat) (nW : Nat) : Prop where
  fine : ∀ f ∈ out, headB (F f) = true ∧ f + 1 + szN (F f) ≤ nW
  range : ∀ i, i < nW → 0 ≤ F i ∧ F i < 18446744073709551616
  const : ∀ f ∈ out, ¬ F f / 4 % 256 < 8 → ∀ x ∈ fieldsP F f, x % 4 = 2 → x / 4 ≤ 2
end Go.Proofs.YtlifnjfmocjfjaaGreatDoor

/- Package mem: a word as text (tell), by a contract. -/
namespace Go.Proofs.YtlifnjfmocjfjaaGreatDoor
open Go.RowKit Go.Maps

/-- The table of powers of ten. -/
def TabbedM (w : World) : Prop := Lib.TabIs Tryz.prog w "internal/strconv.uint64pow10" .u64 Lib.pow10Tab
theorem toConst_oth (a : Nat → Addr) (x : Int) (h0 : 0 ≤ x) (h1 : x < 18446744073709551616) (hx : x % 4 ≠ 2) (w : World) (E : WErr a w) :
    Calls Tryz.prog 82 #[.int .u64 x] w fun ev w' => ev = .returned (.tuple #[.int .i64 0, errV a 2]) ∧ Below w.heap.size w w' := by
  by_cases h2 : x / 4 ≤ 2
  · have h := comesC_ok (x / 4) x (by omega) h2 w
    have hm : (x / 4 * 4 + 2 == x) = false := by
      rw [beq_eq_false_iff_ne]
      omega
    rw [hm] at h
    clear hm
    go_enter Tryz.func82, Tryz.ntmps82
    go_wp2_with fail
    refine h.mono ?_
    rintro ev w1 ⟨rfl, hb⟩
    have k2 := (E.below hb).c2
    go_wp2
    go_quiet (fail)
    go_wp2
    go_ret2
    exact ⟨rfl, below_drewN hb⟩
  · exact toConst_no a x h0 h1 (by omega) w E
theorem TabbedM.below {w w' : World} {B : Nat} (h : TabbedM w) (hb : Below B w w') (hB : w.heap.size ≤ B) : TabbedM w' := Go.Joins.tab_stays (g := 9) (by kernel_rfl) h hb hB
theorem cix0 (a b c : Value) (w : World) : (Instr.index 165 (.agg #[a, b, c]) (.int .i64 0)).run Tryz.prog w = .ok a w := by kernel_rfl
theorem cix1 (a b c : Value) (w : World) : (Instr.index 165 (.agg #[a, b, c]) (.int .i64 1)).run Tryz.prog w = .ok b w := by kernel_rfl
theorem cix2 (a b c : Value) (w : World) : (Instr.index 165 (.agg #[a, b, c]) (.int .i64 2)).run Tryz.prog w = .ok c w := by kernel_rfl
theorem own_kept3 {w w' : World} {k : TypeId} {R : Value → Option (DataW Unit × List MemPlace)} {b n : Nat} {D : DataW Unit} (h : w.ownsMap Tryz.prog k R b n D) (hb : Below w.heap.size w w') : w'.ownsMap Tryz.prog k R b n D := h.kept (grown_of_below hb) (by simp)
set_option maxHeartbeats 4000000 in
set_option maxRecDepth 100000 in
theorem tell_any (a : Nat → Addr) (bm n ol oc : Nat) (oo : Option Addr) (D : DataW Unit) (out : List Nat) (hn : out.length ≤ 300000) (hD : GNum D out) (x : Int) (x0 : 0 ≤ x) (x1 : x < 18446744073709551616) (hx : x % 4 = 2 → x / 4 ≤ 2) (h3 : x % 4 ≠ 3) (h40 : x / 4 ≤ 1099511627776 ∨ x % 4 = 1) (w : World) (E : WErr a w) (ht : TabbedM w) (hM : w.ownsMap Tryz.prog 45 (plainElem Tryz.prog 3) bm n D) :
    Calls Tryz.prog 41 #[.agg #[.slice oo ol oc, .map (some bm)], .int .u64 x] w fun ev w' => ev = .returned (.string (tellB out x)) ∧ Below w.heap.size w w' := by
  have hw64 : wrap64 x = (x + 9223372036854775808) % 18446744073709551616 - 9223372036854775808 := wrap64_eq x
  obtain ⟨w1, hw1⟩ : ∃ w1, w1 = w.alloc (.cells #[.slice oo ol oc, .map (some bm)] 106) := ⟨_, rfl⟩
  have b1 : Below w.heap.size w w1 := by rw [hw1]; exact (Below.refl _ _).alloc (Nat.le_refl _) _
  by_cases c1 : x % 4 = 1
  · have e : tellB out x = decB (wrap64 x / 4) := by unfold tellB; rw [if_pos c1]
    rw [e]
    unfold decB
    have ki := toInt_ok x x0 x1 c1 w1
    have HF : Hid (∀ W, Below w.heap.size w W → Calls Tryz.prog 47 #[.int .i64 (wrap64 x / 4), .int .i64 10] W fun ev w' => ev = .returned (.string ⟨(Lib.itoa (wrap64 x / 4)).toArray⟩) ∧ Below W.heap.size W w') := fun W hW => by
      refine (format_any (wrap64 x / 4) (by omega) (by omega) W (ht.below hW (Nat.le_refl _))).mono ?_
      rintro ev w' ⟨rfl, k, os, rfl⟩
      exact ⟨rfl, Lib.below_grow W.heap.size W (Nat.le_refl _) k os⟩
    generalize wrap64 x / 4 = v at *
    have HB1 := toHid b1
    have HW1 := toHid hw1
    clear hw64 e hx h3 h40 E ht hM b1 hw1
    go_enter Tryz.func41, Tryz.ntmps41
    go_wp2_with fail
    rw [← HW1.out]
    refine ki.mono ?_
    rintro ev w2 ⟨rfl, hb2⟩
    have b2 := HB1.out.trans (hb2.mono HB1.out.size)
    clear ki hb2
    go_wp2_with fail
    refine (HF.out _ b2).mono ?_
    rintro ev w3 ⟨rfl, hb3⟩
    go_wp2_with fail
    go_ret
    exact ⟨rfl, b2.trans (hb3.mono b2.size)⟩
  · have ki := toInt_no a x c1 w1 (E.below b1)
    have HE := toHid E
    have HB1 := toHid b1
    have HW1 := toHid hw1
    have HMM := toHid hM
    unfold errV at ki
    by_cases c2 : x % 4 = 2
    · have e : tellB out x = constB (x / 4) := by unfold tellB; rw [if_neg c1, if_pos c2]
      rw [e]
      have h2 := hx c2
      have HC : Hid (∀ W, Below w.heap.size w W → Calls Tryz.prog 82 #[.int .u64 x] W fun ev w' => ev = .returned (.tuple #[.int .i64 (x / 4), .nilIface]) ∧ Below W.heap.size W w') := fun W _ => toConst_ok x c2 x0 h2 W
      clear e hw64 hx h3 h40 E ht hM b1 hw1
      obtain rfl | rfl | rfl : x = 2 ∨ x = 6 ∨ x = 10 := by omega
      all_goals clear c1 c2 h2 x0 x1
      all_goals (have i0 := cix0; have i1 := cix1; have i2 := cix2)
      all_goals (
        go_enter Tryz.func41, Tryz.ntmps41
        go_wp2_with fail
        rw [← HW1.out]
        refine ki.mono ?_
        rintro ev w2 ⟨rfl, hb2⟩
        have b2 := HB1.out.trans (hb2.mono HB1.out.size)
        clear ki hb2
        go_wp2_with fail
        refine (HC.out _ b2).mono ?_
        rintro ev w3 ⟨rfl, hb3⟩
        have b3 := b2.trans (hb3.mono b2.size)
        clear hb3
        go_wp2_with fail
        go_ret
        exact ⟨rfl, b3⟩)
    · have HC : Hid (∀ W, Below w.heap.size w W → Calls Tryz.prog 82 #[.int .u64 x] W fun ev w' => ev = .returned (.tuple #[.int .i64 0, errV a 2]) ∧ Below W.heap.size W w') := fun W hW => toConst_oth a x x0 x1 c2 W (HE.out.below hW)
      unfold errV at HC
      have hkx : Hid (keyOf Tryz.prog 45 (.int .u64 x) = some (.int .u64 x)) := keyOf_int_mk Tryz.underlying45 (wf_u x0 x1)
      have gb : w1.heap[w.heap.size]? = some (.cells #[.slice oo ol oc, .map (some bm)] 106) := by rw [hw1]; exact heap_alloc_new _ _
      have g1 : w1.cell? ⟨w.heap.size, 1, none⟩ = some (.map (some bm)) := by rw [cell_of_row _ _ 1 _ _ _ gb]; rfl
      have lg : w.heap.size < w1.heap.size := lt_of_heap gb
      clear gb
      by_cases cz : x = 0
      · subst cz
        have e : tellB out 0 = ⟨#[110, 111, 119, 104, 101, 114, 101]⟩ := by unfold tellB; rw [if_neg (by decide), if_neg (by decide), if_pos rfl]
        rw [e]
        have hha : has D (.int .u64 0) = false := by
          cases hh : has D (.int .u64 0) with
          | false => rfl
          | true => obtain ⟨f, _, hf⟩ := hD.only 0 hh; omega
        clear e hw64 hx h3 h40 E ht hM b1 hw1 hD
        go_enter Tryz.func41, Tryz.ntmps41
        go_wp2_with fail
        rw [← HW1.out]
        refine ki.mono ?_
        rintro ev w2 ⟨rfl, hb2⟩
        have b2 := HB1.out.trans (hb2.mono HB1.out.size)
        have HB2 := toHid hb2
        clear ki hb2
        go_wp2_with fail
        refine (HC.out _ b2).mono ?_
        rintro ev w3 ⟨rfl, hb3⟩
        have b3 := b2.trans (hb3.mono b2.size)
        have HM3 := toHid (own_kept3 HMM.out b3)
        have g3 := (hb3.cell (p := ⟨w.heap.size, 1, none⟩) (lt_of_cell ((HB2.out.cell (p := ⟨w.heap.size, 1, none⟩) lg).trans g1))).trans ((HB2.out.cell (p := ⟨w.heap.size, 1, none⟩) lg).trans g1)
        clear hb3
        go_wp2_with (first | (at_lookup; refine wpList_lookup_own_ok_int _ rfl _ _ 104 rfl 45 3 .i64 lawU Tryz.underlying104 Tryz.underlying3 (zeroI _) bm n _ rfl HM3.out _ _ rfl hkx.out ?_; intro c0 hat hwc; clear hat hwc))
        go_ret
        exact ⟨rfl, b3⟩
      · have hz0 : (x == 0) = false := by rw [beq_eq_false_iff_ne]; exact cz
        obtain ⟨f, hf⟩ : ∃ f : Nat, x = ((f : Int) + 1) * 4 := ⟨(x / 4 - 1).toNat, by omega⟩
        have hpt : ptI x = (f : Int) := by unfold ptI; rw [if_pos (by omega)]; omega
        by_cases hfo : f ∈ out
        · obtain ⟨k, f', hk, hkf, hff, hkl⟩ := objI_some (objI_mem.2 hfo)
          obtain rfl : f' = f := by omega
          have e : tellB out x = ⟨#[64]⟩ ++ decB (k : Int) := by unfold tellB; rw [if_neg c1, if_neg c2, if_neg cz, hpt, hk, if_neg (by omega)]
          rw [e]
          have hha : has D (.int .u64 x) = true := by rw [hf, hD.has]; exact decide_eq_true hfo
          have HAT : Hid (D.atKey (.int .u64 x) (.lit (.int .i64 0)) = .lit (.int .i64 (k : Int))) := by show _ = _; rw [hf]; exact hD.num k _ hkf
          have hds := decB_size (k : Int) (by omega) (by omega)
          have a1 := fun wx => run_string_add_sum (P := Tryz.prog) (w := wx) ⟨#[64]⟩ (decB (k : Int)) (by show 1 + (decB (k : Int)).size ≤ _; omega)
          have HI : Hid (∀ W, Below w.heap.size w W → Calls Tryz.prog 21 #[.int .i64 (k : Int)] W fun ev w' => ev = .returned (.string (decB (k : Int))) ∧ Below W.heap.size W w') := fun W hW => by
            refine (itoa_any (k : Int) (by omega) (by omega) W (ht.below hW (Nat.le_refl _))).mono ?_
            rintro ev w' ⟨rfl, j, os, rfl⟩
            exact ⟨rfl, Lib.below_grow W.heap.size W (Nat.le_refl _) j os⟩
          generalize decB (k : Int) = dk at *
          clear e hw64 hx h3 h40 E ht hM b1 hw1 hD hf hpt hk hkf hff
          go_enter Tryz.func41, Tryz.ntmps41
          go_wp2_with fail
          rw [← HW1.out]
          refine ki.mono ?_
          rintro ev w2 ⟨rfl, hb2⟩
          have b2 := HB1.out.trans (hb2.mono HB1.out.size)
          have HB2 := toHid hb2
          clear ki hb2
          go_wp2_with fail
          refine (HC.out _ b2).mono ?_
          rintro ev w3 ⟨rfl, hb3⟩
          have b3 := b2.trans (hb3.mono b2.size)
          have HM3 := toHid (own_kept3 HMM.out b3)
          have g3 := (hb3.cell (p := ⟨w.heap.size, 1, none⟩) (lt_of_cell ((HB2.out.cell (p := ⟨w.heap.size, 1, none⟩) lg).trans g1))).trans ((HB2.out.cell (p := ⟨w.heap.size, 1, none⟩) lg).trans g1)
          clear hb3
          go_wp2_with (first | (at_lookup; refine wpList_lookup_own_ok_int _ rfl _ _ 104 rfl 45 3 .i64 lawU Tryz.underlying104 Tryz.underlying3 (zeroI _) bm n _ rfl HM3.out _ _ rfl hkx.out ?_; intro c0 hat hwc; obtain rfl : c0 = (k : Int) := (by have e := HAT.out.symm.trans hat; cases e; rfl); clear hat hwc))
          refine (HI.out _ b3).mono ?_
          rintro ev w4 ⟨rfl, hb4⟩
          go_wp2_with fail
          go_ret
          exact ⟨rfl, b3.trans (hb4.mono b3.size)⟩
        · have hno : objI out (f : Int) = -1 := objI_neg (fun h => hfo (objI_mem.1 h))
          have e : tellB out x = ⟨#[64]⟩ := by unfold tellB; rw [if_neg c1, if_neg c2, if_neg cz, hpt, hno, if_pos (by decide)]
          rw [e]
          have hha : has D (.int .u64 x) = false := by rw [hf, hD.has]; exact decide_eq_false hfo
          clear e hw64 hx h3 h40 E ht hM b1 hw1 hD hf hpt hno
          go_enter Tryz.func41, Tryz.ntmps41
          go_wp2_with fail
          rw [← HW1.out]
          refine ki.mono ?_
          rintro ev w2 ⟨rfl, hb2⟩
          have b2 := HB1.out.trans (hb2.mono HB1.out.size)
          have HB2 := toHid hb2
          clear ki hb2
          go_wp2_with fail
          refine (HC.out _ b2).mono ?_
          rintro ev w3 ⟨rfl, hb3⟩
          have b3 := b2.trans (hb3.mono b2.size)
          have HM3 := toHid (own_kept3 HMM.out b3)
          have g3 := (hb3.cell (p := ⟨w.heap.size, 1, none⟩) (lt_of_cell ((HB2.out.cell (p := ⟨w.heap.size, 1, none⟩) lg).trans g1))).trans ((HB2.out.cell (p := ⟨w.heap.size, 1, none⟩) lg).trans g1)
          clear hb3
          go_wp2_with (first | (at_lookup; refine wpList_lookup_own_ok_int _ rfl _ _ 104 rfl 45 3 .i64 lawU Tryz.underlying104 Tryz.underlying3 (zeroI _) bm n _ rfl HM3.out _ _ rfl hkx.out ?_; intro c0 hat hwc; clear hat hwc))
          go_ret
          exact ⟨rfl, b3⟩
end Go.Proofs.YtlifnjfmocjfjaaGreatDoor
