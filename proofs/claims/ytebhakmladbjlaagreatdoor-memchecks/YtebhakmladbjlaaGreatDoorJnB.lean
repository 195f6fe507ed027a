/- Decimal of the document's answer, in this seat. -/
import Derived.Test.YtebhakmladbjlaaGreatDoorMemGD
import Derived.Lib.AppendIntMem
import Derived.Lib.SmallJoins
import Derived.Laws.Concat
import Derived.Deep.RegionHeld3
import Derived.Deep.DrawnRows
import Derived.Lib.Itoa
import Derived.Deep.CutBlock
import Derived.Deep.QuietTactic
import Derived.BigQuiet
import Derived.Test.YtebhakmladbjlaaGreatDoorMemR
namespace Go.Proofs.YtebhakmladbjlaaGreatDoor
open Go.RowKit

theorem cell_new {w : World} {c : Array Value} {t : TypeId} {n i : Nat} {v : Value} (hn : n = w.heap.size) (h : c[i]? = some v) : (w.alloc (.cells c t)).cell? ⟨n, i, none⟩ = some v := by
  rw [World.cell?_alloc_at _ _ _ _ hn]; exact h
theorem byte_any (n : Nat) (hn : n ≤ 255) (w : World) :
    Calls Tryz.prog 102 #[.int .i64 (n : Int)] w fun ev w' => ev = .returned (.string (strOfNums [(n : Int)])) ∧ Below w.heap.size w w' := by
  have hI : (n : Int) ≤ 255 := by omega
  have hm : (n : Int) % 256 = (n : Int) := by omega
  have hcv := run_convert_bytes_arg (P := Tryz.prog) (w.alloc (.cells #[.int .u8 (n : Int)] 5)) 69 5 Tryz.underlying69 Tryz.underlying5 w.heap.size 0 1 1 [(n : Int)] rfl (fun k hk => by
    obtain rfl : k = 0 := by omega
    exact cell_new rfl rfl) 9 Tryz.underlying9
  go_enter Tryz.func102, Tryz.ntmps102
  go_wp2
  go_ret
  exact ⟨rfl, (Below.refl _ _).alloc (Nat.le_refl _) _⟩

theorem nDigits_le : ∀ (k u : Nat), u < 10 ^ (k + 1) → Lib.nDigits u ≤ k + 1
  | 0, u, h => by rw [Lib.nDigits_small (by simpa using h)]; exact Nat.le_refl _
  | k + 1, u, h => by
    by_cases h' : u < 10
    · rw [Lib.nDigits_small h']
      omega
    · rw [Lib.nDigits_big h']
      have := nDigits_le k (u / 10) (by rw [Nat.pow_succ] at h; omega)
      omega
def decB (n : Int) : ByteArray := ⟨(Lib.itoa n).toArray⟩
theorem ret_str {a b : ByteArray} (h : a = b) : Ending.returned (.string a) = .returned (.string b) := by rw [h]


theorem dec_step {u : Nat} (h : ¬ u < 10) : Lib.decDigits u = Lib.decDigits (u / 10) ++ [UInt8.ofNat (48 + u % 10)] := by
  rw [Lib.decDigits, dif_neg h]
theorem nums_dig (d : Nat) (h : d < 10) : strOfNums [((48 + d : Nat) : Int)] = ⟨#[UInt8.ofNat (48 + d)]⟩ := by
  iterate 10 (rcases d with _ | d; · rfl)
  omega
theorem byte_dig (d : Nat) (h : d < 10) (w : World) :
    Calls Tryz.prog 102 #[.int .i64 (48 + (d : Int))] w fun ev w' => ev = .returned (.string ⟨#[UInt8.ofNat (48 + d)]⟩) ∧ Below w.heap.size w w' := by
  rw [← nums_dig d h]
  have := byte_any (48 + d) (by omega) w
  rw [show ((48 + d : Nat) : Int) = 48 + (d : Int) by omega] at this
  exact this
theorem tdiv_neg_nat (u : Nat) : Int.tdiv (-(u : Int)) 10 = -((u / 10 : Nat) : Int) := by
  rw [Int.neg_tdiv]
  rfl
theorem tmod_neg_nat (u : Nat) : Int.tmod (-(u : Int)) 10 = -((u % 10 : Nat) : Int) := by
  rw [Int.neg_tmod]
  rfl
theorem decDigits_few (u : Nat) (h : u ≤ 9223372036854775808) : (Lib.decDigits u).length ≤ 20 := by
  rw [Lib.decDigits_length]
  exact nDigits_le 19 u (by omega)
set_option maxHeartbeats 1000000 in
theorem below_any : ∀ (u : Nat), u ≤ 9223372036854775808 → ∀ w : World,
    Calls Tryz.prog 68 #[.int .i64 (-(u : Int))] w fun ev w' => ev = .returned (.string ⟨(Lib.decDigits u).toArray⟩) ∧ Below w.heap.size w w' := by
  intro u
  induction u using Nat.strongRecOn with
  | _ u ih =>
  intro hu w
  by_cases h : u < 10
  · have hI : (-10 : Int) < -(u : Int) := by omega
    have kx := byte_dig u h w
    have e : Lib.decDigits u = [UInt8.ofNat (48 + u)] := Lib.decDigits_one h
    rw [e]
    clear ih
    go_enter Tryz.func68, Tryz.ntmps68
    go_wp2_with fail
    refine kx.mono ?_
    rintro ev w' ⟨rfl, hb⟩
    go_wp2_with fail
    go_ret
    exact ⟨by simp, hb⟩
  · have hI : ¬ (-10 : Int) < -(u : Int) := by omega
    have hd := tdiv_neg_nat u
    have hm := tmod_neg_nat u
    have kx := ih (u / 10) (by omega) (by omega) w
    rw [show ((u / 10 : Nat) : Int) = (u : Int) / 10 by omega] at kx
    have HX := toHid kx
    have HB : Hid (∀ w, Calls Tryz.prog 102 #[.int .i64 (48 + (u : Int) % 10)] w fun ev w' => ev = .returned (.string ⟨#[UInt8.ofNat (48 + u % 10)]⟩) ∧ Below w.heap.size w w') := fun w => by
      have := byte_dig (u % 10) (by omega) w
      rw [show ((u % 10 : Nat) : Int) = (u : Int) % 10 by omega] at this
      exact this
    have hl := decDigits_few (u / 10) (by omega)
    have a1 := fun wx => run_string_add_sum (P := Tryz.prog) (w := wx) ⟨(Lib.decDigits (u / 10)).toArray⟩ ⟨#[UInt8.ofNat (48 + u % 10)]⟩ (by show (Lib.decDigits (u / 10)).toArray.size + 1 ≤ _; rw [List.size_toArray]; omega)
    clear ih kx
    go_enter Tryz.func68, Tryz.ntmps68
    go_wp2_with fail
    refine HX.out.mono ?_
    rintro ev w1 ⟨rfl, hb⟩
    go_wp2_with fail
    refine (HB.out _).mono ?_
    rintro ev w2 ⟨rfl, hb2⟩
    go_wp2_with fail
    go_ret
    refine ⟨?_, hb.trans (hb2.mono hb.size)⟩
    rw [dec_step h]
    refine ret_str ?_
    apply ByteArray.ext
    simp
set_option maxHeartbeats 1000000 in
/-- DECIMAL OF ANY INT. -/
theorem decimal_any (n : Int) (h0 : -9223372036854775808 ≤ n) (h1 : n ≤ 9223372036854775807) (w : World) :
    Calls Tryz.prog 34 #[.int .i64 n] w fun ev w' => ev = .returned (.string (decB n)) ∧ Below w.heap.size w w' := by
  by_cases hn : n < 0
  · obtain ⟨u, rfl⟩ : ∃ u : Nat, n = -(u : Int) := ⟨n.natAbs, by omega⟩
    have HX := toHid (below_any u (by omega) w)
    have e : decB (-(u : Int)) = ⟨#[45]⟩ ++ ⟨(Lib.decDigits u).toArray⟩ := by
      unfold decB
      rw [Lib.itoa_neg u (by omega)]
      apply ByteArray.ext
      simp
    have hl := decDigits_few u (by omega)
    have a1 := fun wx => run_string_add_sum (P := Tryz.prog) (w := wx) ⟨#[45]⟩ ⟨(Lib.decDigits u).toArray⟩ (by show 1 + (Lib.decDigits u).toArray.size ≤ _; rw [List.size_toArray]; omega)
    go_enter Tryz.func34, Tryz.ntmps34
    go_wp2_with fail
    refine HX.out.mono ?_
    rintro ev w1 ⟨rfl, hb⟩
    go_wp2_with fail
    go_ret
    exact ⟨ret_str e.symm, hb⟩
  · obtain ⟨u, rfl⟩ : ∃ u : Nat, n = (u : Int) := ⟨n.toNat, by omega⟩
    have HX := toHid (below_any u (by omega) w)
    have e : decB (u : Int) = ⟨(Lib.decDigits u).toArray⟩ := by
      unfold decB
      rw [Lib.itoa_nonneg u]
    rw [e]
    go_enter Tryz.func34, Tryz.ntmps34
    go_wp2_with fail
    refine HX.out.mono ?_
    rintro ev w1 ⟨rfl, hb⟩
    go_wp2_with fail
    go_ret
    exact ⟨rfl, hb⟩
end Go.Proofs.YtebhakmladbjlaaGreatDoor

/- The document's memory: a word as text (told), by a contract. -/
namespace Go.Proofs.YtebhakmladbjlaaGreatDoor
open Go.RowKit

def constB (n : Int) : ByteArray := if n = 0 then ⟨#[110, 111, 110, 101]⟩ else if n = 1 then ⟨#[102, 97, 108, 115, 101]⟩ else ⟨#[116, 114, 117, 101]⟩
/-- A word as text. -/
def tellB (out : List Nat) (x : Int) : ByteArray := if x % 4 = 1 then decB (wrap64 x / 4) else if x % 4 = 2 then constB (x / 4) else if x = 0 then ⟨#[110, 111, 119, 104, 101, 114, 101]⟩ else if objI out (ptI x) < 0 then ⟨#[64]⟩ else ⟨#[64]⟩ ++ decB (objI out (ptI x))
theorem decB_size (n : Int) (h0 : -9223372036854775808 ≤ n) (h1 : n ≤ 9223372036854775807) : (decB n).size ≤ 21 := by
  unfold decB
  show (Lib.itoa n).toArray.size ≤ 21
  rw [List.size_toArray]
  by_cases hn : n < 0
  · obtain ⟨u, rfl⟩ : ∃ u : Nat, n = -(u : Int) := ⟨n.natAbs, by omega⟩
    rw [Lib.itoa_neg u (by omega)]
    have := decDigits_few u (by omega)
    simp
    omega
  · obtain ⟨u, rfl⟩ : ∃ u : Nat, n = (u : Int) := ⟨n.toNat, by omega⟩
    rw [Lib.itoa_nonneg u]
    have := decDigits_few u (by omega)
    omega
theorem objI_bound {vs : List Nat} {x : Int} (hn : vs.length ≤ 300000) : -1 ≤ objI vs x ∧ objI vs x ≤ 300000 := by
  rcases Int.lt_or_le (objI vs x) 0 with h | h
  · rw [objI_neg (by omega)]; omega
  · obtain ⟨k, _, e, _, _, hk⟩ := objI_some h
    omega
set_option maxHeartbeats 4000000 in
set_option maxRecDepth 100000 in
theorem told_any (F : Nat → Int) (out : List Nat) (oo : Option Addr) (oc : Nat) (hn : out.length ≤ 300000) (x : Int) (x0 : 0 ≤ x) (x1 : x < 18446744073709551616) (hx : x % 4 = 2 → x / 4 ≤ 2) (w : World) (hR : RowV w (.slice oo out.length oc) out.length (objsV F out)) :
    Calls Tryz.prog 33 #[.int .u64 x, .slice oo out.length oc] w fun ev w' => ev = .returned (.string (tellB out x)) ∧ Below w.heap.size w w' := by
  have hw64 : wrap64 x = (x + 9223372036854775808) % 18446744073709551616 - 9223372036854775808 := wrap64_eq x
  by_cases c1 : x % 4 = 1
  · have e : tellB out x = decB (wrap64 x / 4) := by unfold tellB; rw [if_pos c1]
    rw [e]
    have ki := intOf_any x w
    have kd := decimal_any (wrap64 x / 4) (by omega) (by omega) w
    generalize wrap64 x / 4 = v at *
    clear hw64 e hR hx
    go_enter Tryz.func33, Tryz.ntmps33
    go_wp2_with fail
    refine ki.mono ?_
    rintro ev w1 ⟨rfl, hq⟩
    rw [hq]
    clear hq w1
    go_wp2_with fail
    refine kd.mono ?_
    rintro ev w1 ⟨rfl, hb⟩
    go_wp2_with fail
    go_ret
    exact ⟨rfl, hb⟩
  · have z1 : (x % 4 == 1) = false := by rw [beq_eq_false_iff_ne]; exact c1
    by_cases c2 : x % 4 = 2
    · have e : tellB out x = constB (x / 4) := by unfold tellB; rw [if_neg c1, if_pos c2]
      rw [e]
      have h2 := hx c2
      clear hw64 e hR hx z1
      obtain rfl | rfl | rfl : x = 2 ∨ x = 6 ∨ x = 10 := by omega
      all_goals clear c1 c2 h2 x0 x1
      all_goals (
        go_enter Tryz.func33, Tryz.ntmps33
        go_wp2_with fail
        go_ret
        exact ⟨rfl, (Below.refl _ _).alloc (Nat.le_refl _) _⟩)
    · have z2 : (x % 4 == 2) = false := by rw [beq_eq_false_iff_ne]; exact c2
      by_cases c3 : x = 0
      · subst c3
        have e : tellB out 0 = ⟨#[110, 111, 119, 104, 101, 114, 101]⟩ := by unfold tellB; rw [if_neg (by decide), if_neg (by decide), if_pos rfl]
        rw [e]
        clear hw64 e hR hx
        go_enter Tryz.func33, Tryz.ntmps33
        go_wp2_with fail
        go_ret
        exact ⟨rfl, Below.refl _ _⟩
      · have z3 : (x == 0) = false := by rw [beq_eq_false_iff_ne]; exact c3
        have kp := points_any x x0 x1 w
        have ko := objectAt_any F out oo oc (ptI x) hn w hR
        have hbd := objI_bound (vs := out) (x := ptI x) hn
        have e : tellB out x = if objI out (ptI x) < 0 then ⟨#[64]⟩ else ⟨#[64]⟩ ++ decB (objI out (ptI x)) := by unfold tellB; rw [if_neg c1, if_neg c2, if_neg c3]
        rw [e]
        have kd := decimal_any (objI out (ptI x)) (by omega) (by omega) w
        have hds := decB_size (objI out (ptI x)) (by omega) (by omega)
        generalize objI out (ptI x) = k at *
        generalize ptI x = pt at *
        clear hw64 e hR hx
        by_cases ck : k < 0
        · rw [if_pos ck]
          go_enter Tryz.func33, Tryz.ntmps33
          go_wp2_with fail
          refine kp.mono ?_
          rintro ev w1 ⟨rfl, hq⟩
          rw [hq]
          clear hq w1
          go_wp2_with fail
          refine ko.mono ?_
          rintro ev w1 ⟨rfl, hq⟩
          rw [hq]
          clear hq w1
          go_wp2_with fail
          go_ret
          exact ⟨rfl, Below.refl _ _⟩
        · rw [if_neg ck]
          have a1 := fun wx => run_string_add_sum (P := Tryz.prog) (w := wx) ⟨#[64]⟩ (decB k) (by show 1 + (decB k).size ≤ _; omega)
          generalize decB k = dk at *
          go_enter Tryz.func33, Tryz.ntmps33
          go_wp2_with fail
          refine kp.mono ?_
          rintro ev w1 ⟨rfl, hq⟩
          rw [hq]
          clear hq w1
          go_wp2_with fail
          refine ko.mono ?_
          rintro ev w1 ⟨rfl, hq⟩
          rw [hq]
          clear hq w1
          go_wp2_with fail
          refine kd.mono ?_
          rintro ev w1 ⟨rfl, hb⟩
          go_wp2_with fail
          go_ret
          exact ⟨rfl, hb⟩
end Go.Proofs.YtebhakmladbjlaaGreatDoor

/- The document's memory: the digits of a word (hex), by a contract. -/
namespace Go.Proofs.YtebhakmladbjlaaGreatDoor
open Go.RowKit

def digC (d : Nat) : UInt8 := ([48, 49, 50, 51, 52, 53, 54, 55, 56, 57, 97, 98, 99, 100, 101, 102] : List UInt8).getD d 0
/-- The lowest digits of a number, k of them. -/
def hexL (x : Nat) : Nat → List UInt8
  | 0 => []
  | k + 1 => digC (x / 16 ^ k % 16) :: hexL x k
theorem hexL_len (x : Nat) : ∀ k, (hexL x k).length = k
  | 0 => rfl
  | k + 1 => by rw [hexL, List.length_cons, hexL_len x k]
theorem hex_step {x k d : Nat} (h : x / 16 ^ k % 16 = d) : (⟨#[digC d]⟩ : ByteArray) ++ (⟨(hexL x k).toArray⟩ : ByteArray) = ⟨(hexL x (k + 1)).toArray⟩ := by
  rw [hexL, h]
  apply ByteArray.ext
  simp [ByteArray.data_append]
theorem div_step (x k : Nat) : x / 16 ^ k / 16 = x / 16 ^ (k + 1) := by rw [Nat.div_div_eq_div_mul, Nat.pow_succ]
def digsB : ByteArray := ⟨#[48, 49, 50, 51, 52, 53, 54, 55, 56, 57, 97, 98, 99, 100, 101, 102]⟩
theorem ext_dig (d : Nat) (h : d < 16) : digsB.extract d (d + 1) = ⟨#[digC d]⟩ := by
  iterate 16 (rcases d with _ | d; · rfl)
  omega
set_option maxHeartbeats 8000000 in
set_option maxRecDepth 100000 in
theorem hex_any (x : Nat) (hx : x < 18446744073709551616) (w : World) :
    Calls Tryz.prog 35 #[.int .u64 (x : Int)] w fun ev w' => ev = .returned (.string ⟨(hexL x 16).toArray⟩) ∧ w' = w := by
  obtain ⟨r, hr⟩ : ∃ r : ByteArray, r = ⟨(hexL x 16).toArray⟩ := ⟨_, rfl⟩
  rw [← hr]
  have HR := toHid hr
  clear hr
  go_enter Tryz.func35, Tryz.ntmps35
  go_wp2_with fail
  go_loopg [0, 4, 5] 17 (fun gk v0 v4 v5 wr => ∃ (k y : Nat) (o : ByteArray), gk = 17 - k ∧ k ≤ 16 ∧ v5 = .int .i64 (k : Int) ∧ v0 = .int .u64 (y : Int) ∧ v4 = .string o ∧ y < 18446744073709551616 ∧ o.size ≤ 16 ∧ wr = w ∧ Hid (y = x / 16 ^ k) ∧ Hid (o = ⟨(hexL x k).toArray⟩))
  case atStart => exact ⟨0, x, ⟨#[]⟩, rfl, Nat.zero_le _, rfl, rfl, rfl, hx, by decide, rfl, by show _ = _; simp, rfl⟩
  case round =>
    obtain ⟨k, y, o, hgk, hk, rfl, rfl, rfl, hy, hos, rfl, hyx, ho⟩ := hrel
    have HG := toHid hgk
    have hk0 : (0 : Int) ≤ (k : Int) := by omega
    clear hgk
    by_cases hlt : k < 16
    · have hI : (k : Int) < 16 := by omega
      obtain ⟨d, hd⟩ : ∃ d, d = y % 16 := ⟨_, rfl⟩
      obtain ⟨q, hq⟩ : ∃ q, q = y / 16 := ⟨_, rfl⟩
      have hd16 : d < 16 := by omega
      have e1 : (y : Int) % 16 = (d : Int) := by omega
      have e2 : (y : Int) / 16 = (q : Int) := by omega
      have hqy : q < 18446744073709551616 := by omega
      have HQ : Hid (q = x / 16 ^ (k + 1)) := by show _ = _; rw [hq, hyx.out, div_step]
      have HD : Hid (x / 16 ^ k % 16 = d) := by show _ = _; rw [hd, hyx.out]
      have HO : Hid ((⟨#[digC d]⟩ : ByteArray) ++ o = ⟨(hexL x (k + 1)).toArray⟩) := by show _ = _; rw [ho.out]; exact hex_step HD.out
      have hos2 : Hid (o.size = k) := by show _ = _; rw [ho.out]; show (hexL x k).toArray.size = k; rw [List.size_toArray, hexL_len]
      have a1 := fun wx => run_string_add_sum (P := Tryz.prog) (w := wx) ⟨#[digC d]⟩ o (by show 1 + o.size ≤ _; omega)
      have HSZ : Hid (((⟨#[digC d]⟩ : ByteArray) ++ o).size ≤ 16) := by
        show _ ≤ _
        rw [ByteArray.size_append]
        have := hos2.out
        show 1 + o.size ≤ 16
        omega
      have HO2 : Hid (digsB.extract d (d + 1) ++ o = ⟨(hexL x (k + 1)).toArray⟩) := by show _ = _; rw [ext_dig d hd16]; exact HO.out
      have HSZ2 : Hid ((digsB.extract d (d + 1) ++ o).size ≤ 16) := by show _ ≤ _; rw [ext_dig d hd16]; exact HSZ.out
      have a2 : Hid (∀ wx, (Op.stringOp .add (digsB.extract d (d + 1)) o).run Tryz.prog wx = .ok (.string (digsB.extract d (d + 1) ++ o)) wx) := fun wx => by rw [ext_dig d hd16]; exact a1 wx
      clear hd hq HD ho hyx hos2 a1 HO HSZ
      obtain rfl | rfl | rfl | rfl | rfl | rfl | rfl | rfl | rfl | rfl | rfl | rfl | rfl | rfl | rfl | rfl : d = 0 ∨ d = 1 ∨ d = 2 ∨ d = 3 ∨ d = 4 ∨ d = 5 ∨ d = 6 ∨ d = 7 ∨ d = 8 ∨ d = 9 ∨ d = 10 ∨ d = 11 ∨ d = 12 ∨ d = 13 ∨ d = 14 ∨ d = 15 := by omega
      all_goals clear hd16
      all_goals (have a3 := a2.out; unfold digsB at a3; clear a2)
      all_goals go_wp2_with fail
      all_goals go_roundg (17 - (k + 1))
      all_goals first | (have := HG.out; omega) | exact ⟨k + 1, q, _, rfl, by omega, by go_num, rfl, rfl, hqy, HSZ2.out, rfl, HQ, HO2.out⟩
    · have hI : ¬ (k : Int) < 16 := by omega
      obtain rfl : k = 16 := by omega
      have HE : Hid (o = r) := ho.out.trans HR.out.symm
      go_wp2_with fail
      go_ret
      have e := HE.out
      subst e
      exact ⟨rfl, rfl⟩
end Go.Proofs.YtebhakmladbjlaaGreatDoor

/- The document's memory: lines of roots, and of weak ones (GraphOf's loops), by contracts. -/
namespace Go.Proofs.YtebhakmladbjlaaGreatDoor
open Go.RowKit

/-- A block of a function's code, by its number. -/
def gBlockIn (n : Nat) : Code → Option Code
  | .block i c => bif Nat.beq i n then some (.block i c) else gBlockIn n c
  | .loop c => gBlockIn n c
  | .seq a b => match gBlockIn n a with
    | some c => some c
    | none => gBlockIn n b
  | .scope c => gBlockIn n c
  | .cond _ a b => match gBlockIn n a with
    | some c => some c
    | none => gBlockIn n b
  | _ => none
noncomputable def gBlock (n : Nat) : Code := (Tryz.f12.body.bind (gBlockIn n)).getD .skip
/-- A line more. -/
def gLine (s : ByteArray) (out : List Nat) (acc : ByteArray) (x : Int) : ByteArray := ((acc ++ s) ++ tellB out x) ++ ⟨#[10]⟩
def gLines (s : ByteArray) (out : List Nat) (acc : ByteArray) (l : List Int) : ByteArray := l.foldl (gLine s out) acc
theorem gLines_take {s : ByteArray} {out : List Nat} {acc : ByteArray} {l : List Int} {k : Nat} {x : Int} (h : l[k]? = some x) : gLines s out acc (l.take (k + 1)) = gLine s out (gLines s out acc (l.take k)) x := by
  unfold gLines
  rw [List.take_add_one, h, List.foldl_append]
  rfl
theorem tellB_size (out : List Nat) (hn : out.length ≤ 300000) (x : Int) : (tellB out x).size ≤ 22 := by
  have hw : wrap64 x = (x + 9223372036854775808) % 18446744073709551616 - 9223372036854775808 := wrap64_eq x
  have hb := objI_bound (vs := out) (x := ptI x) hn
  unfold tellB
  split
  · have := decB_size (wrap64 x / 4) (by omega) (by omega)
    omega
  · split
    · unfold constB
      split
      · decide
      · split <;> decide
    · split
      · decide
      · split
        · decide
        · have := decB_size (objI out (ptI x)) (by omega) (by omega)
          rw [ByteArray.size_append]
          show 1 + (decB (objI out (ptI x))).size ≤ 22
          omega
def sRoot : ByteArray := ⟨#[114, 111, 111, 116, 32]⟩
def sWeak : ByteArray := ⟨#[119, 101, 97, 107, 32]⟩
/-- Words of a list that have a text. -/
structure Tells (l : List Int) : Prop where
  u64 : U64 l
  const : ∀ x ∈ l, x % 4 = 2 → x / 4 ≤ 2
  len : l.length ≤ 300000
set_option maxRecDepth 100000 in
set_option maxHeartbeats 2000000 in
theorem graph_b0 {p o oc cR : Nat} {oo aR : Option Addr} {F : Nat → Int} {out : List Nat} {a0 : ByteArray} {l : List Int} {wr : World} {u1 u2 u3 u7 u8 u9 u10 u11 u12 u13 u14 u15 u16 u17 u18 u19 u20 u21 u22 u23 u24 u25 u26 u27 u28 u29 u30 u31 u32 u33 u34 u35 u36 u37 u38 u39 u40 u41 u42 u43 u44 u45 u46 u47 u48 u49 u50 u51 u52 u53 u54 u55 u56 u57 u58 u59 u60 u61 u62 u63 u64 u65 u66 u67 u68 u69 u70 u71 u72 u73 u74 u75 u76 u77 u78 u79 u80 u81 u82 u83 u84 u85 u86 u87 u88 u89 u90 u91 u92 u93 u94 u95 u96 u97 u98 u99 u100 u101 u102 u103 u104 u105 u106 u107 u108 u109 u110 u111 u112 u113 u114 u115 u116 u117 u118 u119 u120 u121 u122 u123 u124 u125 u126 u127 u128 u129 u130 u131 u132 u133 u134 u135 u136 u137 u138 u139 u140 u141 u142 u143 u144 u145 u146 u147 u148 u149 u150 u151 u152 u153 u154 u155 u156 u157 u158 u159 u160 u161 u162 u163 u164 u165 u166 u167 u168 u169 u170 u171 u172 u173 u174 u175 u176 u177 u178 u179 u180 u181 u182 u183 u184 u185 u186 u187 u188 u189 u190 u191 u192 : Value} {K : Act → World → Prop} {Q : Exit → Act → World → Prop}
    (hn : out.length ≤ 300000) (hl : Tells l) (ha : a0.size ≤ 1000000000000) (hp : wr.cell? ⟨p, o + 7, none⟩ = some (.slice aR l.length cR)) (hrow : RowV wr (.slice aR l.length cR) l.length (wordsV l)) (hout : RowV wr (.slice oo out.length oc) out.length (objsV F out))
    (hrest : ∀ (v19 v20 v21 v22 v23 v24 v25 v26 v27 v28 v29 v30 v31 v32 v33 v34 v35 v36 v37 v38 v39 v40 v6 : Value) (wx : World), (Below wr.heap.size wr wx) → K ⟨#[.pointer (some ⟨p, o, none⟩), u1, u2, u3, .slice oo out.length oc, .string (gLines sRoot out a0 l), v6, u7, u8, u9, u10, u11, u12, u13, u14, u15, u16, u17, u18, v19, v20, v21, v22, v23, v24, v25, v26, v27, v28, v29, v30, v31, v32, v33, v34, v35, v36, v37, v38, v39, v40, u41, u42, u43, u44, u45, u46, u47, u48, u49, u50, u51, u52, u53, u54, u55, u56, u57, u58, u59, u60, u61, u62, u63, u64, u65, u66, u67, u68, u69, u70, u71, u72, u73, u74, u75, u76, u77, u78, u79, u80, u81, u82, u83, u84, u85, u86, u87, u88, u89, u90, u91, u92, u93, u94, u95, u96, u97, u98, u99, u100, u101, u102, u103, u104, u105, u106, u107, u108, u109, u110, u111, u112, u113, u114, u115, u116, u117, u118, u119, u120, u121, u122, u123, u124, u125, u126, u127, u128, u129, u130, u131, u132, u133, u134, u135, u136, u137, u138, u139, u140, u141, u142, u143, u144, u145, u146, u147, u148, u149, u150, u151, u152, u153, u154, u155, u156, u157, u158, u159, u160, u161, u162, u163, u164, u165, u166, u167, u168, u169, u170, u171, u172, u173, u174, u175, u176, u177, u178, u179, u180, u181, u182, u183, u184, u185, u186, u187, u188, u189, u190, u191, u192], []⟩ wx) :
    Code.wp Tryz.prog (gBlock 0) (Exit.then K Q) ⟨#[.pointer (some ⟨p, o, none⟩), u1, u2, u3, .slice oo out.length oc, .string a0, .int .i64 0, u7, u8, u9, u10, u11, u12, u13, u14, u15, u16, u17, u18, u19, u20, u21, u22, u23, u24, u25, u26, u27, u28, u29, u30, u31, u32, u33, u34, u35, u36, u37, u38, u39, u40, u41, u42, u43, u44, u45, u46, u47, u48, u49, u50, u51, u52, u53, u54, u55, u56, u57, u58, u59, u60, u61, u62, u63, u64, u65, u66, u67, u68, u69, u70, u71, u72, u73, u74, u75, u76, u77, u78, u79, u80, u81, u82, u83, u84, u85, u86, u87, u88, u89, u90, u91, u92, u93, u94, u95, u96, u97, u98, u99, u100, u101, u102, u103, u104, u105, u106, u107, u108, u109, u110, u111, u112, u113, u114, u115, u116, u117, u118, u119, u120, u121, u122, u123, u124, u125, u126, u127, u128, u129, u130, u131, u132, u133, u134, u135, u136, u137, u138, u139, u140, u141, u142, u143, u144, u145, u146, u147, u148, u149, u150, u151, u152, u153, u154, u155, u156, u157, u158, u159, u160, u161, u162, u163, u164, u165, u166, u167, u168, u169, u170, u171, u172, u173, u174, u175, u176, u177, u178, u179, u180, u181, u182, u183, u184, u185, u186, u187, u188, u189, u190, u191, u192], []⟩ wr := by
  have HR := toHid hrest
  have HL := toHid hl
  have HW := toHid hrow
  have HO := toHid hout
  have hll := hl.len
  obtain ⟨w, hw⟩ : ∃ w, w = wr := ⟨_, rfl⟩
  subst hw
  clear hrest hl hrow hout
  conv => arg 2; whnf
  go_wp2_with fail
  go_loopg [5, 6] (l.length + 1) (fun gk va vi wr => ∃ (k : Nat) (acc : ByteArray), gk = l.length + 1 - k ∧ k ≤ l.length ∧ vi = .int .i64 (k : Int) ∧ va = .string acc ∧ acc.size ≤ 1000000000000 + k * 28 ∧ Below w.heap.size w wr ∧ Hid (acc = gLines sRoot out a0 (l.take k)))
  case atStart => exact ⟨0, a0, rfl, Nat.zero_le _, rfl, rfl, by omega, Below.refl _ _, rfl⟩
  case round =>
    obtain ⟨k, acc, hgk, hk, rfl, rfl, hsz, hb, hacc⟩ := hrel
    have HG := toHid hgk
    have hk0 : (0 : Int) ≤ (k : Int) := by omega
    have hp1 := (hb.cell (p := ⟨p, o + 7, none⟩) (lt_of_cell hp)).trans hp
    have HB := toHid hb
    clear hgk hb
    by_cases hlt : k < l.length
    · have hI : (k : Int) < (l.length : Int) := by omega
      obtain ⟨x, hx⟩ : ∃ x, l[k]? = some x := ⟨_, List.getElem?_eq_getElem hlt⟩
      obtain ⟨_, _, e, _, f1⟩ := HW.out
      cases e
      obtain ⟨p1, o1, rfl, l1, g1⟩ := f1 (by omega)
      have rx : wr.cell? ⟨p1, o1 + k, none⟩ = some (.int .u64 x) := (HB.out.cell (p := ⟨p1, o1 + k, none⟩) l1).trans (g1 k _ (words_at hx))
      have hxr := HL.out.u64 x (List.mem_of_getElem? hx)
      have kt := told_any F out oo oc hn x hxr.1 hxr.2 (HL.out.const x (List.mem_of_getElem? hx)) wr (HO.out.below HB.out)
      have hts := tellB_size out hn x
      have HE : Hid (((acc ++ sRoot) ++ tellB out x) ++ ⟨#[10]⟩ = gLines sRoot out a0 (l.take (k + 1))) := by show _ = _; rw [gLines_take hx, ← hacc.out]; rfl
      unfold sRoot at HE
      generalize tellB out x = tx at *
      have a1 := fun wx => run_string_add_sum (P := Tryz.prog) (w := wx) acc sRoot (by show acc.size + 5 ≤ _; omega)
      have hs1 : (acc ++ sRoot).size = acc.size + 5 := by rw [ByteArray.size_append]; rfl
      unfold sRoot at a1 hs1
      have a2 := fun wx => run_string_add_sum (P := Tryz.prog) (w := wx) (acc ++ ⟨#[114, 111, 111, 116, 32]⟩) tx (by rw [hs1]; omega)
      have hs2 : ((acc ++ ⟨#[114, 111, 111, 116, 32]⟩) ++ tx).size = acc.size + 5 + tx.size := by rw [ByteArray.size_append, hs1]
      have a3 := fun wx => run_string_add_sum (P := Tryz.prog) (w := wx) ((acc ++ ⟨#[114, 111, 111, 116, 32]⟩) ++ tx) ⟨#[10]⟩ (by rw [hs2]; show _ + 1 ≤ _; omega)
      have hs3 : (((acc ++ ⟨#[114, 111, 111, 116, 32]⟩) ++ tx) ++ ⟨#[10]⟩).size ≤ 1000000000000 + (k + 1) * 28 := by rw [ByteArray.size_append, hs2]; show acc.size + 5 + tx.size + 1 ≤ _; omega
      clear f1 g1 hx hxr hacc hs1 hs2
      have HS3 := toHid hs3
      clear hs3
      go_wp2_with fail
      refine kt.mono ?_
      rintro ev w2 ⟨rfl, hb2⟩
      clear kt
      go_wp2_with fail
      go_roundg (l.length + 1 - (k + 1))
      case measure => have := HG.out; omega
      case rel => exact ⟨k + 1, _, rfl, by omega, by go_num, rfl, HS3.out, HB.out.trans (hb2.mono HB.out.size), HE.out⟩
    · have hI : ¬ (k : Int) < (l.length : Int) := by omega
      have HE : Hid (acc = gLines sRoot out a0 l) := by show _ = _; rw [hacc.out, List.take_of_length_le (by omega)]
      go_wp2_with fail
      have e := HE.out
      subst e
      exact HR.out _ _ _ _ _ _ _ _ _ _ _ _ _ _ _ _ _ _ _ _ _ _ _ _ HB.out
set_option maxRecDepth 100000 in
set_option maxHeartbeats 2000000 in
theorem graph_b6 {p o oc cR : Nat} {oo aR : Option Addr} {F : Nat → Int} {out : List Nat} {a0 : ByteArray} {l : List Int} {wr : World} {u1 u2 u3 u5 u6 u7 u8 u9 u10 u13 u14 u15 u16 u17 u18 u19 u20 u21 u22 u23 u24 u25 u26 u27 u28 u29 u30 u31 u32 u33 u34 u35 u36 u37 u38 u39 u40 u41 u42 u43 u44 u45 u46 u47 u48 u49 u50 u51 u52 u53 u54 u55 u56 u57 u58 u59 u60 u61 u62 u63 u64 u65 u66 u67 u68 u69 u70 u71 u72 u73 u74 u75 u76 u77 u78 u79 u80 u81 u82 u83 u84 u85 u86 u87 u88 u89 u90 u91 u92 u93 u94 u95 u96 u97 u98 u99 u100 u101 u102 u103 u104 u105 u106 u107 u108 u109 u110 u111 u112 u113 u114 u115 u116 u117 u118 u119 u120 u121 u122 u123 u124 u125 u126 u127 u128 u129 u130 u131 u132 u133 u134 u135 u136 u137 u138 u139 u140 u141 u142 u143 u144 u145 u146 u147 u148 u149 u150 u151 u152 u153 u154 u155 u156 u157 u158 u159 u160 u161 u162 u163 u164 u165 u166 u167 u168 u169 u170 u171 u172 u173 u174 u175 u176 u177 u178 u179 u180 u181 u182 u183 u184 u185 u186 u187 u188 u189 u190 u191 u192 : Value} {K : Act → World → Prop} {Q : Exit → Act → World → Prop}
    (hn : out.length ≤ 300000) (hl : Tells l) (ha : a0.size ≤ 1000000000000) (hp : wr.cell? ⟨p, o + 8, none⟩ = some (.slice aR l.length cR)) (hrow : RowV wr (.slice aR l.length cR) l.length (wordsV l)) (hout : RowV wr (.slice oo out.length oc) out.length (objsV F out))
    (hrest : ∀ (v93 v94 v95 v96 v97 v98 v99 v100 v101 v102 v103 v104 v105 v106 v107 v108 v109 v110 v111 v112 v113 v114 v12 : Value) (wx : World), (Below wr.heap.size wr wx) → K ⟨#[.pointer (some ⟨p, o, none⟩), u1, u2, u3, .slice oo out.length oc, u5, u6, u7, u8, u9, u10, .string (gLines sWeak out a0 l), v12, u13, u14, u15, u16, u17, u18, u19, u20, u21, u22, u23, u24, u25, u26, u27, u28, u29, u30, u31, u32, u33, u34, u35, u36, u37, u38, u39, u40, u41, u42, u43, u44, u45, u46, u47, u48, u49, u50, u51, u52, u53, u54, u55, u56, u57, u58, u59, u60, u61, u62, u63, u64, u65, u66, u67, u68, u69, u70, u71, u72, u73, u74, u75, u76, u77, u78, u79, u80, u81, u82, u83, u84, u85, u86, u87, u88, u89, u90, u91, u92, v93, v94, v95, v96, v97, v98, v99, v100, v101, v102, v103, v104, v105, v106, v107, v108, v109, v110, v111, v112, v113, v114, u115, u116, u117, u118, u119, u120, u121, u122, u123, u124, u125, u126, u127, u128, u129, u130, u131, u132, u133, u134, u135, u136, u137, u138, u139, u140, u141, u142, u143, u144, u145, u146, u147, u148, u149, u150, u151, u152, u153, u154, u155, u156, u157, u158, u159, u160, u161, u162, u163, u164, u165, u166, u167, u168, u169, u170, u171, u172, u173, u174, u175, u176, u177, u178, u179, u180, u181, u182, u183, u184, u185, u186, u187, u188, u189, u190, u191, u192], []⟩ wx) :
    Code.wp Tryz.prog (gBlock 6) (Exit.then K Q) ⟨#[.pointer (some ⟨p, o, none⟩), u1, u2, u3, .slice oo out.length oc, u5, u6, u7, u8, u9, u10, .string a0, .int .i64 0, u13, u14, u15, u16, u17, u18, u19, u20, u21, u22, u23, u24, u25, u26, u27, u28, u29, u30, u31, u32, u33, u34, u35, u36, u37, u38, u39, u40, u41, u42, u43, u44, u45, u46, u47, u48, u49, u50, u51, u52, u53, u54, u55, u56, u57, u58, u59, u60, u61, u62, u63, u64, u65, u66, u67, u68, u69, u70, u71, u72, u73, u74, u75, u76, u77, u78, u79, u80, u81, u82, u83, u84, u85, u86, u87, u88, u89, u90, u91, u92, u93, u94, u95, u96, u97, u98, u99, u100, u101, u102, u103, u104, u105, u106, u107, u108, u109, u110, u111, u112, u113, u114, u115, u116, u117, u118, u119, u120, u121, u122, u123, u124, u125, u126, u127, u128, u129, u130, u131, u132, u133, u134, u135, u136, u137, u138, u139, u140, u141, u142, u143, u144, u145, u146, u147, u148, u149, u150, u151, u152, u153, u154, u155, u156, u157, u158, u159, u160, u161, u162, u163, u164, u165, u166, u167, u168, u169, u170, u171, u172, u173, u174, u175, u176, u177, u178, u179, u180, u181, u182, u183, u184, u185, u186, u187, u188, u189, u190, u191, u192], []⟩ wr := by
  have HR := toHid hrest
  have HL := toHid hl
  have HW := toHid hrow
  have HO := toHid hout
  have hll := hl.len
  obtain ⟨w, hw⟩ : ∃ w, w = wr := ⟨_, rfl⟩
  subst hw
  clear hrest hl hrow hout
  conv => arg 2; whnf
  go_wp2_with fail
  go_loopg [11, 12] (l.length + 1) (fun gk va vi wr => ∃ (k : Nat) (acc : ByteArray), gk = l.length + 1 - k ∧ k ≤ l.length ∧ vi = .int .i64 (k : Int) ∧ va = .string acc ∧ acc.size ≤ 1000000000000 + k * 28 ∧ Below w.heap.size w wr ∧ Hid (acc = gLines sWeak out a0 (l.take k)))
  case atStart => exact ⟨0, a0, rfl, Nat.zero_le _, rfl, rfl, by omega, Below.refl _ _, rfl⟩
  case round =>
    obtain ⟨k, acc, hgk, hk, rfl, rfl, hsz, hb, hacc⟩ := hrel
    have HG := toHid hgk
    have hk0 : (0 : Int) ≤ (k : Int) := by omega
    have hp1 := (hb.cell (p := ⟨p, o + 8, none⟩) (lt_of_cell hp)).trans hp
    have HB := toHid hb
    clear hgk hb
    by_cases hlt : k < l.length
    · have hI : (k : Int) < (l.length : Int) := by omega
      obtain ⟨x, hx⟩ : ∃ x, l[k]? = some x := ⟨_, List.getElem?_eq_getElem hlt⟩
      obtain ⟨_, _, e, _, f1⟩ := HW.out
      cases e
      obtain ⟨p1, o1, rfl, l1, g1⟩ := f1 (by omega)
      have rx : wr.cell? ⟨p1, o1 + k, none⟩ = some (.int .u64 x) := (HB.out.cell (p := ⟨p1, o1 + k, none⟩) l1).trans (g1 k _ (words_at hx))
      have hxr := HL.out.u64 x (List.mem_of_getElem? hx)
      have kt := told_any F out oo oc hn x hxr.1 hxr.2 (HL.out.const x (List.mem_of_getElem? hx)) wr (HO.out.below HB.out)
      have hts := tellB_size out hn x
      have HE : Hid (((acc ++ sWeak) ++ tellB out x) ++ ⟨#[10]⟩ = gLines sWeak out a0 (l.take (k + 1))) := by show _ = _; rw [gLines_take hx, ← hacc.out]; rfl
      unfold sWeak at HE
      generalize tellB out x = tx at *
      have a1 := fun wx => run_string_add_sum (P := Tryz.prog) (w := wx) acc sWeak (by show acc.size + 5 ≤ _; omega)
      have hs1 : (acc ++ sWeak).size = acc.size + 5 := by rw [ByteArray.size_append]; rfl
      unfold sWeak at a1 hs1
      have a2 := fun wx => run_string_add_sum (P := Tryz.prog) (w := wx) (acc ++ ⟨#[119, 101, 97, 107, 32]⟩) tx (by rw [hs1]; omega)
      have hs2 : ((acc ++ ⟨#[119, 101, 97, 107, 32]⟩) ++ tx).size = acc.size + 5 + tx.size := by rw [ByteArray.size_append, hs1]
      have a3 := fun wx => run_string_add_sum (P := Tryz.prog) (w := wx) ((acc ++ ⟨#[119, 101, 97, 107, 32]⟩) ++ tx) ⟨#[10]⟩ (by rw [hs2]; show _ + 1 ≤ _; omega)
      have hs3 : (((acc ++ ⟨#[119, 101, 97, 107, 32]⟩) ++ tx) ++ ⟨#[10]⟩).size ≤ 1000000000000 + (k + 1) * 28 := by rw [ByteArray.size_append, hs2]; show acc.size + 5 + tx.size + 1 ≤ _; omega
      clear f1 g1 hx hxr hacc hs1 hs2
      have HS3 := toHid hs3
      clear hs3
      go_wp2_with fail
      refine kt.mono ?_
      rintro ev w2 ⟨rfl, hb2⟩
      clear kt
      go_wp2_with fail
      go_roundg (l.length + 1 - (k + 1))
      case measure => have := HG.out; omega
      case rel => exact ⟨k + 1, _, rfl, by omega, by go_num, rfl, HS3.out, HB.out.trans (hb2.mono HB.out.size), HE.out⟩
    · have hI : ¬ (k : Int) < (l.length : Int) := by omega
      have HE : Hid (acc = gLines sWeak out a0 l) := by show _ = _; rw [hacc.out, List.take_of_length_le (by omega)]
      go_wp2_with fail
      have e := HE.out
      subst e
      exact HR.out _ _ _ _ _ _ _ _ _ _ _ _ _ _ _ _ _ _ _ _ _ _ _ _ HB.out
end Go.Proofs.YtebhakmladbjlaaGreatDoor

/- The document's memory: the fields of an object as text (GraphOf's inner loop), by a contract. -/
namespace Go.Proofs.YtebhakmladbjlaaGreatDoor
open Go.RowKit

theorem belowQ {B : Nat} {a w : World} (n : Nat) (h : Below B a w) : Below B a (w.drewN n) := ⟨h.os, h.tape, h.output, h.size, h.block⟩
def sHex : ByteArray := ⟨#[32, 48, 120]⟩
/-- A field more. -/
def gField (kd : Int) (out : List Nat) (acc : ByteArray) (x : Int) : ByteArray := if kd < 8 then (acc ++ ⟨#[32, 48, 120]⟩) ++ ⟨(hexL x.toNat 16).toArray⟩ else (acc ++ ⟨#[32]⟩) ++ tellB out x
def gFields (kd : Int) (out : List Nat) (acc : ByteArray) (l : List Int) : ByteArray := l.foldl (gField kd out) acc
theorem gFields_take {kd : Int} {out : List Nat} {acc : ByteArray} {l : List Int} {k : Nat} {x : Int} (h : l[k]? = some x) : gFields kd out acc (l.take (k + 1)) = gField kd out (gFields kd out acc (l.take k)) x := by
  unfold gFields
  rw [List.take_add_one, h, List.foldl_append]
  rfl
set_option maxRecDepth 100000 in
set_option maxHeartbeats 2000000 in
theorem graph_b4 {p o oc q f sz nW cW bW oW : Nat} {oo : Option Addr} {F : Nat → Int} {out : List Nat} {a0 : ByteArray} {kd ag : Int} {wr : World} {u1 u2 u3 u6 u7 u10 u11 u12 u13 u14 u15 u16 u17 u18 u19 u20 u21 u22 u23 u24 u25 u26 u27 u28 u29 u30 u31 u32 u33 u34 u35 u36 u37 u38 u39 u40 u41 u42 u43 u44 u45 u46 u47 u48 u49 u50 u51 u52 u53 u54 u55 u56 u57 u58 u59 u60 u61 u62 u63 u64 u65 u66 u67 u68 u69 u70 u71 u72 u73 u74 u75 u76 u77 u78 u79 u80 u81 u82 u83 u84 u85 u86 u87 u88 u89 u90 u91 u92 u93 u94 u95 u96 u97 u98 u99 u100 u101 u102 u103 u104 u105 u106 u107 u108 u109 u110 u111 u112 u113 u114 u115 u116 u117 u118 u119 u120 u121 u122 u123 u124 u125 u126 u127 u128 u129 u130 u131 u132 u133 u134 u135 u136 u137 u138 u139 u140 u141 u142 u143 u144 u145 u146 u147 u148 u149 u150 u151 u152 u153 u154 u155 u156 u157 u158 u159 u160 u161 u162 u163 u164 u165 u166 u167 u168 u169 u170 u171 u172 u173 u174 u175 u176 u177 u178 u179 u180 u181 u182 u183 u184 u185 u186 u187 u188 u189 u190 u191 u192 : Value} {K : Act → World → Prop} {Q : Exit → Act → World → Prop}
    (hn : out.length ≤ 300000) (ha : a0.size ≤ 1000000000000000) (hsz : szN (F f) = sz) (hs4 : sz ≤ 4096) (hfs : f + 1 + sz ≤ nW) (hnW : nW ≤ 300000) (hx64 : U64 (fieldsP F f)) (hcon : ¬ kd < 8 → ∀ x ∈ fieldsP F f, x % 4 = 2 → x / 4 ≤ 2)
    (o0 : wr.cell? ⟨q, 0, none⟩ = some (.int .i64 (f : Int))) (o1 : wr.cell? ⟨q, 1, none⟩ = some (.int .i64 kd)) (o2 : wr.cell? ⟨q, 2, none⟩ = some (.int .i64 ag)) (o3 : wr.cell? ⟨q, 3, none⟩ = some (.int .i64 (sz : Int)))
    (c3 : wr.cell? ⟨p, o + 3, none⟩ = some (.slice (some ⟨bW, oW, none⟩) nW cW)) (hw : ∀ i, i < nW → wr.cell? ⟨bW, oW + i, none⟩ = some (.int .u64 (F i))) (hout : RowV wr (.slice oo out.length oc) out.length (objsV F out))
    (hrest : ∀ (v60 v61 v62 v63 v64 v65 v66 v67 v68 v69 v70 v71 v72 v73 v74 v75 v76 v77 v78 v79 v80 v81 v82 v83 v84 v85 v86 v87 v88 v89 v90 v9 v10 : Value) (wx : World), (Below wr.heap.size wr wx) → K ⟨#[.pointer (some ⟨p, o, none⟩), u1, u2, u3, .slice oo out.length oc, .string (gFields kd out a0 (fieldsP F f)), u6, u7, .pointer (some ⟨q, 0, none⟩), v9, v10, u11, u12, u13, u14, u15, u16, u17, u18, u19, u20, u21, u22, u23, u24, u25, u26, u27, u28, u29, u30, u31, u32, u33, u34, u35, u36, u37, u38, u39, u40, u41, u42, u43, u44, u45, u46, u47, u48, u49, u50, u51, u52, u53, u54, u55, u56, u57, u58, u59, v60, v61, v62, v63, v64, v65, v66, v67, v68, v69, v70, v71, v72, v73, v74, v75, v76, v77, v78, v79, v80, v81, v82, v83, v84, v85, v86, v87, v88, v89, v90, u91, u92, u93, u94, u95, u96, u97, u98, u99, u100, u101, u102, u103, u104, u105, u106, u107, u108, u109, u110, u111, u112, u113, u114, u115, u116, u117, u118, u119, u120, u121, u122, u123, u124, u125, u126, u127, u128, u129, u130, u131, u132, u133, u134, u135, u136, u137, u138, u139, u140, u141, u142, u143, u144, u145, u146, u147, u148, u149, u150, u151, u152, u153, u154, u155, u156, u157, u158, u159, u160, u161, u162, u163, u164, u165, u166, u167, u168, u169, u170, u171, u172, u173, u174, u175, u176, u177, u178, u179, u180, u181, u182, u183, u184, u185, u186, u187, u188, u189, u190, u191, u192], []⟩ wx) :
    Code.wp Tryz.prog (gBlock 4) (Exit.then K Q) ⟨#[.pointer (some ⟨p, o, none⟩), u1, u2, u3, .slice oo out.length oc, .string a0, u6, u7, .pointer (some ⟨q, 0, none⟩), .int .i64 0, u10, u11, u12, u13, u14, u15, u16, u17, u18, u19, u20, u21, u22, u23, u24, u25, u26, u27, u28, u29, u30, u31, u32, u33, u34, u35, u36, u37, u38, u39, u40, u41, u42, u43, u44, u45, u46, u47, u48, u49, u50, u51, u52, u53, u54, u55, u56, u57, u58, u59, u60, u61, u62, u63, u64, u65, u66, u67, u68, u69, u70, u71, u72, u73, u74, u75, u76, u77, u78, u79, u80, u81, u82, u83, u84, u85, u86, u87, u88, u89, u90, u91, u92, u93, u94, u95, u96, u97, u98, u99, u100, u101, u102, u103, u104, u105, u106, u107, u108, u109, u110, u111, u112, u113, u114, u115, u116, u117, u118, u119, u120, u121, u122, u123, u124, u125, u126, u127, u128, u129, u130, u131, u132, u133, u134, u135, u136, u137, u138, u139, u140, u141, u142, u143, u144, u145, u146, u147, u148, u149, u150, u151, u152, u153, u154, u155, u156, u157, u158, u159, u160, u161, u162, u163, u164, u165, u166, u167, u168, u169, u170, u171, u172, u173, u174, u175, u176, u177, u178, u179, u180, u181, u182, u183, u184, u185, u186, u187, u188, u189, u190, u191, u192], []⟩ wr := by
  have HR := toHid hrest
  have HX64 := toHid hx64
  have HCON := toHid hcon
  have HWW := toHid hw
  have HO := toHid hout
  have HLN : Hid ((fieldsP F f).length = sz) := by show _ = _; rw [fieldsP_len, hsz]
  have HAT : Hid (∀ k, k < sz → (fieldsP F f)[k]? = some (F (f + 1 + k))) := fun k hk => fieldsP_at (by rw [hsz]; exact hk)
  obtain ⟨w, hww⟩ : ∃ w, w = wr := ⟨_, rfl⟩
  subst hww
  have lq : q < w.heap.size := lt_of_cell o0
  clear hrest hx64 hcon hw hout hsz
  conv => arg 2; whnf
  go_wp2_with fail
  go_loopg [5, 9] (sz + 1) (fun gk va vi wr => ∃ (k : Nat) (acc : ByteArray), gk = sz + 1 - k ∧ k ≤ sz ∧ vi = .int .i64 (k : Int) ∧ va = .string acc ∧ acc.size ≤ 1000000000000000 + k * 28 ∧ Below w.heap.size w wr ∧ Hid (acc = gFields kd out a0 ((fieldsP F f).take k)))
  case atStart => exact ⟨0, a0, rfl, Nat.zero_le _, rfl, rfl, by omega, Below.refl _ _, rfl⟩
  case round =>
    obtain ⟨k, acc, hgk, hk, rfl, rfl, hsza, hb, hacc⟩ := hrel
    have HG := toHid hgk
    have hk0 : (0 : Int) ≤ (k : Int) := by omega
    have p0 := (hb.cell (p := ⟨q, 0, none⟩) lq).trans o0
    have p3 := (hb.cell (p := ⟨q, 3, none⟩) lq).trans o3
    have pc := (hb.cell (p := ⟨p, o + 3, none⟩) (lt_of_cell c3)).trans c3
    have HB := toHid hb
    clear hgk hb
    by_cases hlt : k < sz
    · have hI : (k : Int) < (sz : Int) := by omega
      obtain ⟨x, hx⟩ : ∃ x, x = F (f + 1 + k) := ⟨_, rfl⟩
      have hxf := HAT.out k hlt
      rw [← hx] at hxf
      have hwc := HWW.out (f + 1 + k) (by omega)
      have rx : wr.cell? ⟨bW, oW + (f + 1 + k), none⟩ = some (.int .u64 x) := by rw [hx]; exact (HB.out.cell (p := ⟨bW, oW + (f + 1 + k), none⟩) (lt_of_cell hwc)).trans hwc
      have hxr := HX64.out x (List.mem_of_getElem? hxf)
      have hts := tellB_size out hn x
      have e1 : IntKind.i64.wrap ((f : Int) + 1) = (f : Int) + 1 := wrapI _ (by omega) (by omega)
      have e2 : IntKind.i64.wrap ((f : Int) + 1 + (k : Int)) = (((f + 1 + k : Nat)) : Int) := by rw [wrapI _ (by omega) (by omega)]; omega
      have hy0 : (0 : Int) ≤ ((f + 1 + k : Nat) : Int) := by omega
      have hy1 : ((f + 1 + k : Nat) : Int) < (nW : Int) := by omega
      have HE : Hid (gField kd out acc x = gFields kd out a0 ((fieldsP F f).take (k + 1))) := by show _ = _; rw [gFields_take hxf, ← hacc.out]
      have HMEM := toHid (List.mem_of_getElem? hxf)
      clear hx hxf hwc hacc
      go_upto_region 15 with fail
      go_quiet (fail)
      go_upto_region 16 with fail
      obtain ⟨wv, hwv⟩ : ∃ wv, wv = wr.drewN nq := ⟨_, rfl⟩
      rw [← hwv]
      have hbv : Below w.heap.size w wv := by rw [hwv]; exact belowQ _ HB.out
      have r1 := (hbv.cell (p := ⟨q, 1, none⟩) lq).trans o1
      have HBV := toHid hbv
      clear hwv hbv rx p0 p3 pc
      by_cases hr : kd < 8
      · obtain ⟨xn, hxn⟩ : ∃ xn : Nat, (xn : Int) = x := ⟨x.toNat, by omega⟩
        have kh := hex_any xn (by omega) wv
        rw [hxn] at kh
        have HE2 : Hid ((acc ++ ⟨#[32, 48, 120]⟩) ++ ⟨(hexL xn 16).toArray⟩ = gFields kd out a0 ((fieldsP F f).take (k + 1))) := by
          show _ = _
          rw [← HE.out, ← hxn]
          unfold gField
          rw [if_pos hr]
          rfl
        have hhl : (⟨(hexL xn 16).toArray⟩ : ByteArray).size = 16 := by show (hexL xn 16).toArray.size = 16; rw [List.size_toArray, hexL_len]
        generalize (⟨(hexL xn 16).toArray⟩ : ByteArray) = hx at *
        have a1 := fun wx => run_string_add_sum (P := Tryz.prog) (w := wx) acc ⟨#[32, 48, 120]⟩ (by show acc.size + 3 ≤ _; omega)
        have hs1 : (acc ++ ⟨#[32, 48, 120]⟩).size = acc.size + 3 := by rw [ByteArray.size_append]; rfl
        have a2 := fun wx => run_string_add_sum (P := Tryz.prog) (w := wx) (acc ++ ⟨#[32, 48, 120]⟩) hx (by rw [hs1]; omega)
        have HS2 : Hid (((acc ++ ⟨#[32, 48, 120]⟩) ++ hx).size ≤ 1000000000000000 + (k + 1) * 28) := by show _ ≤ _; rw [ByteArray.size_append, hs1]; omega
        clear hs1 hhl HE hxn
        go_wp2_with fail
        refine kh.mono ?_
        rintro ev w2 ⟨rfl, hq⟩
        rw [hq]
        clear hq w2 kh
        go_wp2_with fail
        go_roundg (sz + 1 - (k + 1))
        case measure => have := HG.out; omega
        case rel => exact ⟨k + 1, _, rfl, by omega, by go_num, rfl, HS2.out, HBV.out, HE2.out⟩
      · have kt := told_any F out oo oc hn x hxr.1 hxr.2 (HCON.out (by omega) x HMEM.out) wv (HO.out.below HBV.out)
        have HE2 : Hid ((acc ++ ⟨#[32]⟩) ++ tellB out x = gFields kd out a0 ((fieldsP F f).take (k + 1))) := by
          show _ = _
          rw [← HE.out]
          unfold gField
          rw [if_neg hr]
        generalize tellB out x = tx at *
        have a1 := fun wx => run_string_add_sum (P := Tryz.prog) (w := wx) acc ⟨#[32]⟩ (by show acc.size + 1 ≤ _; omega)
        have hs1 : (acc ++ ⟨#[32]⟩).size = acc.size + 1 := by rw [ByteArray.size_append]; rfl
        have a2 := fun wx => run_string_add_sum (P := Tryz.prog) (w := wx) (acc ++ ⟨#[32]⟩) tx (by rw [hs1]; omega)
        have HS2 : Hid (((acc ++ ⟨#[32]⟩) ++ tx).size ≤ 1000000000000000 + (k + 1) * 28) := by show _ ≤ _; rw [ByteArray.size_append, hs1]; omega
        clear hs1 HE
        go_wp2_with fail
        refine kt.mono ?_
        rintro ev w2 ⟨rfl, hb2⟩
        clear kt
        go_wp2_with fail
        go_roundg (sz + 1 - (k + 1))
        case measure => have := HG.out; omega
        case rel => exact ⟨k + 1, _, rfl, by omega, by go_num, rfl, HS2.out, HBV.out.trans (hb2.mono HBV.out.size), HE2.out⟩
    · have hI : ¬ (k : Int) < (sz : Int) := by omega
      have HE : Hid (acc = gFields kd out a0 (fieldsP F f)) := by show _ = _; rw [hacc.out, List.take_of_length_le (by have := HLN.out; omega)]
      go_wp2_with fail
      have e := HE.out
      subst e
      exact HR.out _ _ _ _ _ _ _ _ _ _ _ _ _ _ _ _ _ _ _ _ _ _ _ _ _ _ _ _ _ _ _ _ _ _ HB.out
end Go.Proofs.YtebhakmladbjlaaGreatDoor

/- The document's memory: the lines of objects (GraphOf's loop), by a contract. -/
namespace Go.Proofs.YtebhakmladbjlaaGreatDoor
open Go.RowKit

/-- An object's line. -/
def gObjT (F : Nat → Int) (out : List Nat) (i f : Nat) (acc : ByteArray) : ByteArray := gFields (F f / 4 % 256) out (((acc ++ decB (i : Int)) ++ ⟨#[32]⟩) ++ decB (F f / 4 % 256)) (fieldsP F f) ++ ⟨#[10]⟩
/-- The lines of the first k objects. -/
def gObjsP (F : Nat → Int) (out : List Nat) (acc : ByteArray) : Nat → ByteArray
  | 0 => acc
  | k + 1 => match out[k]? with
    | some f => gObjT F out k f (gObjsP F out acc k)
    | none => gObjsP F out acc k
theorem gObjsP_next {F : Nat → Int} {out : List Nat} {acc : ByteArray} {k f : Nat} (h : out[k]? = some f) : gObjsP F out acc (k + 1) = gObjT F out k f (gObjsP F out acc k) := by
  conv => lhs; unfold gObjsP
  rw [h]
theorem gField_size (kd : Int) (out : List Nat) (hn : out.length ≤ 300000) (acc : ByteArray) (x : Int) : (gField kd out acc x).size ≤ acc.size + 28 := by
  unfold gField
  have := tellB_size out hn x
  split
  · rw [ByteArray.size_append, ByteArray.size_append]
    have : (⟨(hexL x.toNat 16).toArray⟩ : ByteArray).size = 16 := by show (hexL x.toNat 16).toArray.size = 16; rw [List.size_toArray, hexL_len]
    show acc.size + 3 + _ ≤ _
    omega
  · rw [ByteArray.size_append, ByteArray.size_append]
    show acc.size + 1 + _ ≤ _
    omega
theorem gFields_size (kd : Int) (out : List Nat) (hn : out.length ≤ 300000) : ∀ (l : List Int) (acc : ByteArray), (gFields kd out acc l).size ≤ acc.size + 28 * l.length
  | [], acc => by simp [gFields]
  | x :: l, acc => by
    have h1 := gField_size kd out hn acc x
    have h2 := gFields_size kd out hn l (gField kd out acc x)
    show (gFields kd out (gField kd out acc x) l).size ≤ _
    rw [List.length_cons]
    omega
/-- Objects whose fields have a text. -/
structure ObjsT (F : Nat → Int) (out : List Nat) (nW : Nat) : Prop where
  fine : ∀ f ∈ out, headB (F f) = true ∧ f + 1 + szN (F f) ≤ nW
  range : ∀ i, i < nW → 0 ≤ F i ∧ F i < 18446744073709551616
  const : ∀ f ∈ out, ¬ F f / 4 % 256 < 8 → ∀ x ∈ fieldsP F f, x % 4 = 2 → x / 4 ≤ 2
set_option maxRecDepth 100000 in
set_option maxHeartbeats 2000000 in
theorem graph_b2 {p o oc nW cW bW oW : Nat} {oo : Option Addr} {F : Nat → Int} {out : List Nat} {a0 : ByteArray} {wr : World} {u1 u2 u3 u6 u8 u9 u10 u11 u12 u13 u14 u15 u16 u17 u18 u19 u20 u21 u22 u23 u24 u25 u26 u27 u28 u29 u30 u31 u32 u33 u34 u35 u36 u37 u38 u39 u40 u41 u42 u43 u44 u45 u46 u47 u48 u49 u50 u51 u52 u53 u54 u55 u56 u57 u58 u59 u60 u61 u62 u63 u64 u65 u66 u67 u68 u69 u70 u71 u72 u73 u74 u75 u76 u77 u78 u79 u80 u81 u82 u83 u84 u85 u86 u87 u88 u89 u90 u91 u92 u93 u94 u95 u96 u97 u98 u99 u100 u101 u102 u103 u104 u105 u106 u107 u108 u109 u110 u111 u112 u113 u114 u115 u116 u117 u118 u119 u120 u121 u122 u123 u124 u125 u126 u127 u128 u129 u130 u131 u132 u133 u134 u135 u136 u137 u138 u139 u140 u141 u142 u143 u144 u145 u146 u147 u148 u149 u150 u151 u152 u153 u154 u155 u156 u157 u158 u159 u160 u161 u162 u163 u164 u165 u166 u167 u168 u169 u170 u171 u172 u173 u174 u175 u176 u177 u178 u179 u180 u181 u182 u183 u184 u185 u186 u187 u188 u189 u190 u191 u192 : Value} {K : Act → World → Prop} {Q : Exit → Act → World → Prop}
    (hn : out.length ≤ 300000) (ha : a0.size ≤ 10000000000000) (hnW : nW ≤ 300000) (hT : ObjsT F out nW) (c3 : wr.cell? ⟨p, o + 3, none⟩ = some (.slice (some ⟨bW, oW, none⟩) nW cW)) (hw : ∀ i, i < nW → wr.cell? ⟨bW, oW + i, none⟩ = some (.int .u64 (F i))) (hout : RowV wr (.slice oo out.length oc) out.length (objsV F out))
    (hrest : ∀ (v41 v42 v43 v44 v45 v46 v47 v48 v49 v50 v51 v52 v53 v54 v55 v56 v57 v58 v59 v60 v61 v62 v63 v64 v65 v66 v67 v68 v69 v70 v71 v72 v73 v74 v75 v76 v77 v78 v79 v80 v81 v82 v83 v84 v85 v86 v87 v88 v89 v90 v91 v92 v7 v8 v9 v10 : Value) (wx : World), (Below wr.heap.size wr wx) → K ⟨#[.pointer (some ⟨p, o, none⟩), u1, u2, u3, .slice oo out.length oc, .string (gObjsP F out a0 out.length), u6, v7, v8, v9, v10, u11, u12, u13, u14, u15, u16, u17, u18, u19, u20, u21, u22, u23, u24, u25, u26, u27, u28, u29, u30, u31, u32, u33, u34, u35, u36, u37, u38, u39, u40, v41, v42, v43, v44, v45, v46, v47, v48, v49, v50, v51, v52, v53, v54, v55, v56, v57, v58, v59, v60, v61, v62, v63, v64, v65, v66, v67, v68, v69, v70, v71, v72, v73, v74, v75, v76, v77, v78, v79, v80, v81, v82, v83, v84, v85, v86, v87, v88, v89, v90, v91, v92, u93, u94, u95, u96, u97, u98, u99, u100, u101, u102, u103, u104, u105, u106, u107, u108, u109, u110, u111, u112, u113, u114, u115, u116, u117, u118, u119, u120, u121, u122, u123, u124, u125, u126, u127, u128, u129, u130, u131, u132, u133, u134, u135, u136, u137, u138, u139, u140, u141, u142, u143, u144, u145, u146, u147, u148, u149, u150, u151, u152, u153, u154, u155, u156, u157, u158, u159, u160, u161, u162, u163, u164, u165, u166, u167, u168, u169, u170, u171, u172, u173, u174, u175, u176, u177, u178, u179, u180, u181, u182, u183, u184, u185, u186, u187, u188, u189, u190, u191, u192], []⟩ wx) :
    Code.wp Tryz.prog (gBlock 2) (Exit.then K Q) ⟨#[.pointer (some ⟨p, o, none⟩), u1, u2, u3, .slice oo out.length oc, .string a0, u6, .int .i64 0, u8, u9, u10, u11, u12, u13, u14, u15, u16, u17, u18, u19, u20, u21, u22, u23, u24, u25, u26, u27, u28, u29, u30, u31, u32, u33, u34, u35, u36, u37, u38, u39, u40, u41, u42, u43, u44, u45, u46, u47, u48, u49, u50, u51, u52, u53, u54, u55, u56, u57, u58, u59, u60, u61, u62, u63, u64, u65, u66, u67, u68, u69, u70, u71, u72, u73, u74, u75, u76, u77, u78, u79, u80, u81, u82, u83, u84, u85, u86, u87, u88, u89, u90, u91, u92, u93, u94, u95, u96, u97, u98, u99, u100, u101, u102, u103, u104, u105, u106, u107, u108, u109, u110, u111, u112, u113, u114, u115, u116, u117, u118, u119, u120, u121, u122, u123, u124, u125, u126, u127, u128, u129, u130, u131, u132, u133, u134, u135, u136, u137, u138, u139, u140, u141, u142, u143, u144, u145, u146, u147, u148, u149, u150, u151, u152, u153, u154, u155, u156, u157, u158, u159, u160, u161, u162, u163, u164, u165, u166, u167, u168, u169, u170, u171, u172, u173, u174, u175, u176, u177, u178, u179, u180, u181, u182, u183, u184, u185, u186, u187, u188, u189, u190, u191, u192], []⟩ wr := by
  have HR := toHid hrest
  have HT := toHid hT
  have HWW := toHid hw
  have HO := toHid hout
  have HC3 := toHid c3
  obtain ⟨w, hww⟩ : ∃ w, w = wr := ⟨_, rfl⟩
  subst hww
  clear hrest hT hw hout c3
  conv => arg 2; whnf
  go_wp2_with fail
  go_loopg [5, 7] (out.length + 1) (fun gk va vi wr => ∃ (i : Nat) (acc : ByteArray), gk = out.length + 1 - i ∧ i ≤ out.length ∧ vi = .int .i64 (i : Int) ∧ va = .string acc ∧ acc.size ≤ 10000000000000 + i * 200000 ∧ Below w.heap.size w wr ∧ Hid (acc = gObjsP F out a0 i))
  case atStart => exact ⟨0, a0, rfl, Nat.zero_le _, rfl, rfl, by omega, Below.refl _ _, rfl⟩
  case round =>
    obtain ⟨i, acc, hgk, hi, rfl, rfl, hsza, hb, hacc⟩ := hrel
    have HG := toHid hgk
    have hi0 : (0 : Int) ≤ (i : Int) := by omega
    have HB := toHid hb
    clear hgk hb
    by_cases hlt : i < out.length
    · have hI : (i : Int) < (out.length : Int) := by omega
      obtain ⟨f, hf⟩ : ∃ f, out[i]? = some f := ⟨_, List.getElem?_eq_getElem hlt⟩
      have hfm := List.mem_of_getElem? hf
      obtain ⟨hfh, hfl⟩ := HT.out.fine f hfm
      obtain ⟨sz, hsz⟩ : ∃ sz, sz = szN (F f) := ⟨_, rfl⟩
      have hszI : F f / 65536 = (sz : Int) := by
        have := HT.out.range f (by omega)
        rw [hsz]
        unfold szN
        omega
      have hs4 : sz ≤ 4096 := by
        unfold headB at hfh
        have := of_decide_eq_true hfh
        omega
      obtain ⟨_, _, e, _, f1⟩ := HO.out
      cases e
      obtain ⟨p1, o1, rfl, l1, g1⟩ := f1 (by omega)
      have r0 : wr.cell? ⟨p1, o1 + i * 4, none⟩ = some (.int .i64 (f : Int)) := (HB.out.cell (p := ⟨p1, o1 + i * 4, none⟩) l1).trans (g1 (i * 4) _ (objs_at hf 0 (by omega)))
      have r1 : wr.cell? ⟨p1, o1 + i * 4 + 1, none⟩ = some (.int .i64 (F f / 4 % 256)) := (HB.out.cell (p := ⟨p1, o1 + i * 4 + 1, none⟩) l1).trans (g1 (i * 4 + 1) _ (objs_at hf 1 (by omega)))
      have r2 : wr.cell? ⟨p1, o1 + i * 4 + 2, none⟩ = some (.int .i64 (F f / 1024 % 16)) := (HB.out.cell (p := ⟨p1, o1 + i * 4 + 2, none⟩) l1).trans (g1 (i * 4 + 2) _ (objs_at hf 2 (by omega)))
      have r3 : wr.cell? ⟨p1, o1 + i * 4 + 3, none⟩ = some (.int .i64 (sz : Int)) := by rw [← hszI]; exact (HB.out.cell (p := ⟨p1, o1 + i * 4 + 3, none⟩) l1).trans (g1 (i * 4 + 3) _ (objs_at hf 3 (by omega)))
      have hkb : 0 ≤ F f / 4 % 256 ∧ F f / 4 % 256 ≤ 255 := by omega
      obtain ⟨kd, hkd⟩ : ∃ kd, kd = F f / 4 % 256 := ⟨_, rfl⟩
      rw [← hkd] at r1 hkb
      have HKD := toHid hkd
      have HSZ := toHid hsz
      have HF := toHid hf
      have HFM := toHid hfm
      have HFL := toHid hfl
      generalize F f / 1024 % 16 = ag at *
      have hd1 := decB_size (i : Int) (by omega) (by omega)
      have hd2 := decB_size kd (by omega) (by omega)
      have kd1 : Hid (∀ W, Calls Tryz.prog 34 #[.int .i64 (i : Int)] W fun ev w' => ev = .returned (.string (decB (i : Int))) ∧ Below W.heap.size W w') := fun W => decimal_any (i : Int) (by omega) (by omega) W
      have kd2 : Hid (∀ W, Calls Tryz.prog 34 #[.int .i64 kd] W fun ev w' => ev = .returned (.string (decB kd)) ∧ Below W.heap.size W w') := fun W => decimal_any kd (by omega) (by omega) W
      obtain ⟨t1, ht1⟩ : ∃ t1, t1 = decB (i : Int) := ⟨_, rfl⟩
      obtain ⟨t2, ht2⟩ : ∃ t2, t2 = decB kd := ⟨_, rfl⟩
      rw [← ht1] at hd1 kd1
      rw [← ht2] at hd2 kd2
      have HT1 := toHid ht1
      have HT2 := toHid ht2
      have a1 := fun wx => run_string_add_sum (P := Tryz.prog) (w := wx) acc t1 (by omega)
      have hs1 : (acc ++ t1).size = acc.size + t1.size := ByteArray.size_append
      have a2 := fun wx => run_string_add_sum (P := Tryz.prog) (w := wx) (acc ++ t1) ⟨#[32]⟩ (by rw [hs1]; show _ + 1 ≤ _; omega)
      have hs2 : ((acc ++ t1) ++ ⟨#[32]⟩).size = acc.size + t1.size + 1 := by rw [ByteArray.size_append, hs1]; rfl
      have a3 := fun wx => run_string_add_sum (P := Tryz.prog) (w := wx) ((acc ++ t1) ++ ⟨#[32]⟩) t2 (by rw [hs2]; omega)
      have hs3 : (((acc ++ t1) ++ ⟨#[32]⟩) ++ t2).size = acc.size + t1.size + 1 + t2.size := by rw [ByteArray.size_append, hs2]
      have HS3 := toHid hs3
      clear f1 g1 hf hfm hfh hfl hkd hsz hszI ht1 ht2 hs1 hs2 hs3
      go_upto_region 11 with fail
      obtain ⟨w1, hw1⟩ : ∃ w1, w1 = wr.alloc (.cells #[.int .i64 (f : Int), .int .i64 kd, .int .i64 ag, .int .i64 (sz : Int)] 55) := ⟨_, rfl⟩
      rw [← hw1]
      obtain ⟨q, hq⟩ : ∃ q, q = wr.heap.size := ⟨_, rfl⟩
      have ob : w1.heap[q]? = some (.cells #[.int .i64 (f : Int), .int .i64 kd, .int .i64 ag, .int .i64 (sz : Int)] 55) := by rw [hw1, hq]; exact heap_alloc_new _ _
      rw [← hq]
      have b1 : Below w.heap.size w w1 := by rw [hw1]; exact HB.out.alloc HB.out.size _
      have q1 : w1.cell? ⟨q, 1, none⟩ = some (.int .i64 kd) := by rw [cell_of_row _ _ 1 _ _ _ ob]; rfl
      have lq : q < w1.heap.size := lt_of_heap ob
      have HOB := toHid ob
      have HB1 := toHid b1
      have HF1 : Hid (∀ W, Below w1.heap.size w1 W → W.cell? ⟨q, 1, none⟩ = some (.int .i64 kd)) := fun W hW => (hW.cell (p := ⟨q, 1, none⟩) lq).trans q1
      clear hw1 hq ob b1 r0 r1 r2 r3
      go_region_held3 (fun W => W.cell? ⟨q, 1, none⟩ = some (.int .i64 kd)) (first | go_keep | with_reducible exact HF1.out _ hb4 | with_reducible exact HF1.out _ hb3) (first
        | (go_at_call_of 34 kd; refine (kd2.out _).mono ?_; rintro ev w4 ⟨rfl, hb5⟩; have hb4 : Below w1.heap.size w1 w4 := hb3.trans (hb5.mono hb3.size))
        | (go_at_call 34; refine (kd1.out _).mono ?_; rintro ev w2 ⟨rfl, hb2⟩; have hb3 : Below w1.heap.size w1 w2 := ((Below.refl _ _).drew).trans (hb2.mono (by simp))))
      have B4 : Below w.heap.size w w4 := HB1.out.trans (hb4.mono HB1.out.size)
      have ob4 := (hb4.block q lq).trans HOB.out
      have o0 : w4.cell? ⟨q, 0, none⟩ = some (.int .i64 (f : Int)) := by rw [cell_of_row _ _ 0 _ _ _ ob4]; rfl
      have o1' : w4.cell? ⟨q, 1, none⟩ = some (.int .i64 kd) := by rw [cell_of_row _ _ 1 _ _ _ ob4]; rfl
      have o2 : w4.cell? ⟨q, 2, none⟩ = some (.int .i64 ag) := by rw [cell_of_row _ _ 2 _ _ _ ob4]; rfl
      have o3 : w4.cell? ⟨q, 3, none⟩ = some (.int .i64 (sz : Int)) := by rw [cell_of_row _ _ 3 _ _ _ ob4]; rfl
      have hfl := HFL.out
      rw [← HSZ.out] at hfl
      have hsz3 := HS3.out
      obtain ⟨base, hbase⟩ : ∃ base, base = ((acc ++ t1) ++ ⟨#[32]⟩) ++ t2 := ⟨_, rfl⟩
      rw [← hbase] at hsz3
      rw [← hbase]
      have HBASE := toHid hbase
      have hgs := gFields_size kd out hn (fieldsP F f) base
      rw [fieldsP_len, ← HSZ.out] at hgs
      obtain ⟨tot, htot⟩ : ∃ tot, tot = gFields kd out base (fieldsP F f) := ⟨_, rfl⟩
      rw [← htot] at hgs
      have HTOT := toHid htot
      have a4 := fun wx => run_string_add_sum (P := Tryz.prog) (w := wx) tot ⟨#[10]⟩ (by show tot.size + 1 ≤ _; omega)
      have HTS : Hid ((tot ++ ⟨#[10]⟩).size ≤ 10000000000000 + (i + 1) * 200000) := by show _ ≤ _; rw [ByteArray.size_append]; show tot.size + 1 ≤ _; omega
      have HE : Hid (tot ++ ⟨#[10]⟩ = gObjsP F out a0 (i + 1)) := by
        show _ = _
        rw [gObjsP_next HF.out, ← hacc.out, HTOT.out, HBASE.out, HT1.out, HT2.out]
        unfold gObjT
        rw [← HKD.out]
      have HAB : Hid (base.size ≤ 1000000000000000) := by show _ ≤ _; omega
      have HARGS := toHid (And.intro o0 (And.intro o1' (And.intro o2 o3)))
      have HB4 := toHid B4
      clear hbase htot a1 a2 a3 ob4 o0 o1' o2 o3 hb4 hb3 hb5 hb2 q1 B4 hgs hsz3 hd1 hd2 hacc
      go_upto_block 4 with fail
      obtain ⟨o0, o1', o2, o3⟩ := HARGS.out
      refine graph_b4 (F := F) (f := f) (kd := kd) (ag := ag) (sz := sz) (nW := nW) (cW := cW) (bW := bW) (oW := oW) hn HAB.out HSZ.out.symm hs4 hfl hnW (fieldsP_u64 HFL.out HT.out.range) (fun h => HT.out.const f HFM.out (by rw [← HKD.out]; exact h)) o0 o1' o2 o3 ((HB4.out.cell (p := ⟨p, o + 3, none⟩) (lt_of_cell HC3.out)).trans HC3.out) (fun j hj => (HB4.out.cell (p := ⟨bW, oW + j, none⟩) (lt_of_cell (HWW.out j hj))).trans (HWW.out j hj)) (HO.out.below HB4.out) ?_
      clear o0 o1' o2 o3 HARGS
      rw [← HTOT.out]
      intro v60 v61 v62 v63 v64 v65 v66 v67 v68 v69 v70 v71 v72 v73 v74 v75 v76 v77 v78 v79 v80 v81 v82 v83 v84 v85 v86 v87 v88 v89 v90 v9 v10 wx hwx
      have HWX := toHid hwx
      clear hwx
      go_wp2_with fail
      go_roundg (out.length + 1 - (i + 1))
      case measure => have := HG.out; omega
      case rel => exact ⟨i + 1, _, rfl, by omega, by go_num, rfl, HTS.out, HB4.out.trans (HWX.out.mono HB4.out.size), HE.out⟩
    · have hI : ¬ (i : Int) < (out.length : Int) := by omega
      have hii : i = out.length := by omega
      have HE : Hid (acc = gObjsP F out a0 out.length) := by show _ = _; rw [hacc.out, hii]
      clear hii
      go_wp2_with fail
      have e := HE.out
      subst e
      exact HR.out _ _ _ _ _ _ _ _ _ _ _ _ _ _ _ _ _ _ _ _ _ _ _ _ _ _ _ _ _ _ _ _ _ _ _ _ _ _ _ _ _ _ _ _ _ _ _ _ _ _ _ _ _ _ _ _ _ HB.out
end Go.Proofs.YtebhakmladbjlaaGreatDoor

/- IDs in the order of their serials, and their lines: plain laws. -/
namespace Go.Proofs.YtebhakmladbjlaaGreatDoor
open Go.RowKit

/-- The next serial: of the first i the least that is above the last one (its place; -1 if there is none). -/
def nxtP (I : List (Int × Int)) (last : Int) : Nat → Int
  | 0 => -1
  | i + 1 => match I[i]? with
    | some x => if x.2 > last ∧ (nxtP I last i < 0 ∨ x.2 < (I.getD (nxtP I last i).toNat (0, 0)).2) then (i : Int) else nxtP I last i
    | none => nxtP I last i
theorem nxtP_spec (I : List (Int × Int)) (last : Int) : ∀ i, i ≤ I.length → (nxtP I last i = -1 ∧ ∀ (j : Nat) x, j < i → I[j]? = some x → x.2 ≤ last) ∨ ∃ (n : Nat) (y : Int × Int), nxtP I last i = (n : Int) ∧ n < i ∧ I[n]? = some y ∧ last < y.2 ∧ ∀ (j : Nat) x, j < i → I[j]? = some x → last < x.2 → y.2 ≤ x.2
  | 0, _ => Or.inl ⟨rfl, fun j x h => absurd h (Nat.not_lt_zero _)⟩
  | i + 1, hi => by
    obtain ⟨x, hx⟩ : ∃ x, I[i]? = some x := ⟨_, List.getElem?_eq_getElem (by omega)⟩
    have e : nxtP I last (i + 1) = if x.2 > last ∧ (nxtP I last i < 0 ∨ x.2 < (I.getD (nxtP I last i).toNat (0, 0)).2) then (i : Int) else nxtP I last i := by
      conv => lhs; unfold nxtP
      rw [hx]
    rcases nxtP_spec I last i (by omega) with ⟨h1, h2⟩ | ⟨n, y, h1, h2, h3, h4, h5⟩
    · by_cases c : x.2 > last
      · rw [e, if_pos ⟨c, Or.inl (by omega)⟩]
        refine Or.inr ⟨i, x, rfl, Nat.lt_succ_self _, hx, c, fun j z hj hz hl => ?_⟩
        by_cases hji : j = i
        · subst hji
          rw [hx] at hz
          cases hz
          omega
        · have := h2 j z (by omega) hz
          omega
      · rw [e, if_neg (fun h => c h.1)]
        refine Or.inl ⟨h1, fun j z hj hz => ?_⟩
        by_cases hji : j = i
        · subst hji
          rw [hx] at hz
          cases hz
          omega
        · exact h2 j z (by omega) hz
    · have hg : (I.getD (nxtP I last i).toNat (0, 0)) = y := by
        rw [h1, Int.toNat_natCast, List.getD_eq_getElem?_getD, h3]
        rfl
      rw [hg] at e
      by_cases c : x.2 > last ∧ x.2 < y.2
      · rw [e, if_pos ⟨c.1, Or.inr c.2⟩]
        refine Or.inr ⟨i, x, rfl, Nat.lt_succ_self _, hx, c.1, fun j z hj hz hl => ?_⟩
        by_cases hji : j = i
        · subst hji
          rw [hx] at hz
          cases hz
          omega
        · have := h5 j z (by omega) hz hl
          omega
      · rw [e, if_neg (fun h => c ⟨h.1, h.2.resolve_left (by omega)⟩)]
        refine Or.inr ⟨n, y, h1, by omega, h3, h4, fun j z hj hz hl => ?_⟩
        by_cases hji : j = i
        · subst hji
          rw [hx] at hz
          cases hz
          omega
        · exact h5 j z (by omega) hz hl
/-- IDs in the order of their serials. -/
def ordI (I : List (Int × Int)) : List (Int × Int) := I.mergeSort (fun x y => decide (x.2 ≤ y.2))
structure IdsOK (I : List (Int × Int)) : Prop where
  pos : ∀ x ∈ I, 1 ≤ x.2
  nodup : I.Pairwise (fun x y => x.2 ≠ y.2)
theorem ordI_perm (I : List (Int × Int)) : (ordI I).Perm I := List.mergeSort_perm _ _
theorem ordI_le (I : List (Int × Int)) : (ordI I).Pairwise (fun x y => x.2 ≤ y.2) := by
  have h := List.pairwise_mergeSort (le := fun x y : Int × Int => decide (x.2 ≤ y.2)) (fun a b c h1 h2 => by simp at *; omega) (fun a b => by simp; omega) I
  exact h.imp (fun h => of_decide_eq_true h)
theorem ordI_lt {I : List (Int × Int)} (h : IdsOK I) : (ordI I).Pairwise (fun x y => x.2 < y.2) := by
  have h1 := ordI_le I
  have h2 : (ordI I).Pairwise (fun x y => x.2 ≠ y.2) := h.nodup.perm (ordI_perm I).symm (fun h => h.symm)
  exact (h1.and h2).imp (fun ⟨a, b⟩ => by omega)
theorem ordI_len (I : List (Int × Int)) : (ordI I).length = I.length := (ordI_perm I).length_eq
/-- The last serial, behind k of them. -/
def lastP (L : List (Int × Int)) : Nat → Int
  | 0 => 0
  | k + 1 => (L.getD k (0, 0)).2
theorem lt_at {L : List (Int × Int)} (h : L.Pairwise (fun x y => x.2 < y.2)) {i j : Nat} {x y : Int × Int} (hi : L[i]? = some x) (hj : L[j]? = some y) (hij : i < j) : x.2 < y.2 := by
  obtain ⟨h1, rfl⟩ := List.getElem?_eq_some_iff.1 hi
  obtain ⟨h2, rfl⟩ := List.getElem?_eq_some_iff.1 hj
  exact List.pairwise_iff_getElem.1 h i j h1 h2 hij
theorem last_next {L : List (Int × Int)} {k : Nat} {x : Int × Int} (h : L[k]? = some x) : lastP L (k + 1) = x.2 := by
  show (L.getD k (0, 0)).2 = _
  rw [List.getD_eq_getElem?_getD, h]
  rfl
/-- What lies above the last serial, behind k of them. -/
theorem above_last {L : List (Int × Int)} (h : L.Pairwise (fun x y => x.2 < y.2)) (hp : ∀ x ∈ L, 1 ≤ x.2) {k j : Nat} (hk : k ≤ L.length) {x : Int × Int} (hj : L[j]? = some x) : lastP L k < x.2 ↔ k ≤ j := by
  have hjl : j < L.length := (List.getElem?_eq_some_iff.1 hj).1
  cases k with
  | zero =>
    have := hp x (List.mem_of_getElem? hj)
    show (0 : Int) < _ ↔ _
    omega
  | succ k =>
    obtain ⟨y, hy⟩ : ∃ y, L[k]? = some y := ⟨_, List.getElem?_eq_getElem (by omega)⟩
    rw [last_next hy]
    by_cases c : k < j
    · have := lt_at h hy hj c
      omega
    · by_cases e : k = j
      · subst e
        rw [hy] at hj
        cases hj
        omega
      · have := lt_at h hj hy (by omega)
        omega
theorem next_at {I : List (Int × Int)} (h : IdsOK I) {k : Nat} {x : Int × Int} (hk : (ordI I)[k]? = some x) : ∃ n : Nat, nxtP I (lastP (ordI I) k) I.length = (n : Int) ∧ I[n]? = some x := by
  have hL := ordI_lt h
  have hp : ∀ y ∈ ordI I, 1 ≤ y.2 := fun y hy => h.pos y ((ordI_perm I).mem_iff.1 hy)
  have hkl : k < (ordI I).length := (List.getElem?_eq_some_iff.1 hk).1
  have hx : x ∈ I := (ordI_perm I).mem_iff.1 (List.mem_of_getElem? hk)
  obtain ⟨i, hi⟩ := List.getElem?_of_mem hx
  have hil : i < I.length := (List.getElem?_eq_some_iff.1 hi).1
  have ha := (above_last hL hp (Nat.le_of_lt hkl) hk).2 (Nat.le_refl _)
  rcases nxtP_spec I (lastP (ordI I) k) I.length (Nat.le_refl _) with ⟨_, h2⟩ | ⟨n, y, h1, _, h3, h4, h5⟩
  · have := h2 i x hil hi
    omega
  · refine ⟨n, h1, ?_⟩
    rw [h3]
    have hy : y ∈ ordI I := (ordI_perm I).mem_iff.2 (List.mem_of_getElem? h3)
    obtain ⟨j, hj⟩ := List.getElem?_of_mem hy
    have hkj := (above_last hL hp (Nat.le_of_lt hkl) hj).1 h4
    have hle := h5 i x hil hi ha
    by_cases e : k = j
    · subst e
      rw [hk] at hj
      exact hj.symm
    · have := lt_at hL hk hj (by omega)
      omega
theorem next_end {I : List (Int × Int)} (h : IdsOK I) {k : Nat} (hk : k = (ordI I).length) : nxtP I (lastP (ordI I) k) I.length = -1 := by
  have hL := ordI_lt h
  have hp : ∀ y ∈ ordI I, 1 ≤ y.2 := fun y hy => h.pos y ((ordI_perm I).mem_iff.1 hy)
  rcases nxtP_spec I (lastP (ordI I) k) I.length (Nat.le_refl _) with ⟨h1, _⟩ | ⟨n, y, h1, _, h3, h4, h5⟩
  · exact h1
  · have hy : y ∈ ordI I := (ordI_perm I).mem_iff.2 (List.mem_of_getElem? h3)
    obtain ⟨j, hj⟩ := List.getElem?_of_mem hy
    have := (above_last hL hp (Nat.le_of_eq hk) hj).1 h4
    have := (List.getElem?_eq_some_iff.1 hj).1
    omega
/-- Those that are kept, sorted: the same as sorted, then kept. -/
theorem ord_filter {I M : List (Int × Int)} (h : IdsOK I) (p : Int × Int → Bool) (hM : M.Perm (I.filter p)) (hs : M.Pairwise (fun x y => ¬ y.2 < x.2)) : M = (ordI I).filter p := by
  have hp2 : M.Perm ((ordI I).filter p) := hM.trans ((ordI_perm I).filter p).symm
  refine List.Perm.eq_of_pairwise (le := fun x y : Int × Int => x.2 ≤ y.2) (fun a b ha hb h1 h2 => ?_) (hs.imp (fun h => by omega)) ((ordI_le I).filter p) hp2
  have ha' : a ∈ ordI I := (List.mem_filter.1 (hp2.mem_iff.1 ha)).1
  have hb' : b ∈ ordI I := (List.mem_filter.1 hb).1
  obtain ⟨i, hi⟩ := List.getElem?_of_mem ha'
  obtain ⟨j, hj⟩ := List.getElem?_of_mem hb'
  have hL := ordI_lt h
  by_cases e : i = j
  · subst e
    rw [hi] at hj
    cases hj
    rfl
  · rcases Nat.lt_or_gt_of_ne e with c | c
    · have := lt_at hL hi hj c
      omega
    · have := lt_at hL hj hi c
      omega
theorem ids_at_ok {nH : Nat} {hb : Nat → Bool} {l : List (Int × Int)} (h : idsB nH hb l = true) {i : Nat} {x : Int × Int} (hi : l[i]? = some x) : ptrB nH hb x.1 = true ∧ 1 ≤ x.2 ∧ ((l.take (i + 1)).map (·.2)).count x.2 ≤ 1 := by
  have hl : i < l.length := (List.getElem?_eq_some_iff.1 hi).1
  have h1 := List.all_eq_true.1 h i (List.mem_range.2 hl)
  unfold idB at h1
  rw [hi] at h1
  simp only [Bool.and_eq_true, decide_eq_true_eq] at h1
  exact ⟨h1.1, h1.2.1, h1.2.2.2⟩
theorem ids_ok {nH : Nat} {hb : Nat → Bool} {l : List (Int × Int)} (h : idsB nH hb l = true) : IdsOK l where
  pos := fun x hx => by
    obtain ⟨i, hi⟩ := List.getElem?_of_mem hx
    exact (ids_at_ok h hi).2.1
  nodup := by
    rw [List.pairwise_iff_getElem]
    intro i j hi hj hij he
    have h3 := (ids_at_ok h (List.getElem?_eq_getElem hj)).2.2
    rw [List.take_add_one, List.getElem?_eq_getElem hj, List.map_append, List.count_append] at h3
    have h4 : l[j].2 ∈ (l.take j).map (·.2) := by
      rw [← he]
      exact List.mem_map.2 ⟨l[i], List.mem_of_getElem? (i := i) (by rw [List.getElem?_take, if_pos hij, List.getElem?_eq_getElem hi]), rfl⟩
    have h5 := List.count_pos_iff.2 h4
    have h6 : (List.map (fun x : Int × Int => x.2) (some l[j]).toList).count l[j].2 = 1 := by simp
    omega
theorem ids_ptr {nH : Nat} {hb : Nat → Bool} {l : List (Int × Int)} (h : idsB nH hb l = true) : ∀ x ∈ l, ptrB nH hb x.1 = true := fun x hx => by
  obtain ⟨i, hi⟩ := List.getElem?_of_mem hx
  exact (ids_at_ok h hi).1
theorem nxtP_next {I : List (Int × Int)} {last : Int} {k : Nat} {x : Int × Int} (h : I[k]? = some x) : nxtP I last (k + 1) = if x.2 > last ∧ (nxtP I last k < 0 ∨ x.2 < (I.getD (nxtP I last k).toNat (0, 0)).2) then (k : Int) else nxtP I last k := by
  conv => lhs; unfold nxtP
  rw [h]
/-- An ID's line, if its object was come to. -/
def gId (out : List Nat) (acc : ByteArray) (x : Int × Int) : ByteArray := if objI out (ptI x.1) < 0 then acc else ((((acc ++ ⟨#[105, 100, 32]⟩) ++ decB x.2) ++ ⟨#[32, 64]⟩) ++ decB (objI out (ptI x.1))) ++ ⟨#[10]⟩
def gIds (out : List Nat) (acc : ByteArray) (l : List (Int × Int)) : ByteArray := l.foldl (gId out) acc
theorem gIds_take {out : List Nat} {acc : ByteArray} {l : List (Int × Int)} {k : Nat} {x : Int × Int} (h : l[k]? = some x) : gIds out acc (l.take (k + 1)) = gId out (gIds out acc (l.take k)) x := by
  unfold gIds
  rw [List.take_add_one, h, List.foldl_append]
  rfl
theorem ord64 {I : List (Int × Int)} (h : Ids64 I) : Ids64 (ordI I) := fun x hx => h x ((ordI_perm I).mem_iff.1 hx)
end Go.Proofs.YtebhakmladbjlaaGreatDoor
