/- Decimal of the document's answer, in this seat. -/
import Derived.Test.YtnenggkgfhgcnaaGreatDoorJnI
import Derived.Lib.AppendIntMem
import Derived.Lib.SmallJoins
import Derived.Laws.Concat
import Derived.Deep.RegionHeld3
import Derived.Deep.DrawnRows
import Derived.Lib.Itoa
import Derived.Deep.CutBlock
namespace Go.Proofs.YtnenggkgfhgcnaaGreatDoor
open Go.RowKit

theorem cell_new {w : World} {c : Array Value} {t : TypeId} {n i : Nat} {v : Value} (hn : n = w.heap.size) (h : c[i]? = some v) : (w.alloc (.cells c t)).cell? ⟨n, i, none⟩ = some v := by
  rw [World.cell?_alloc_at _ _ _ _ hn]; exact h
theorem byte_any (n : Nat) (hn : n ≤ 255) (w : World) :
    Calls Tryz.prog 96 #[.int .i64 (n : Int)] w fun ev w' => ev = .returned (.string (strOfNums [(n : Int)])) ∧ Below w.heap.size w w' := by
  have hI : (n : Int) ≤ 255 := by omega
  have hm : (n : Int) % 256 = (n : Int) := by omega
  have hcv := run_convert_bytes_arg (P := Tryz.prog) (w.alloc (.cells #[.int .u8 (n : Int)] 5)) 195 5 Tryz.underlying195 Tryz.underlying5 w.heap.size 0 1 1 [(n : Int)] rfl (fun k hk => by
    obtain rfl : k = 0 := by omega
    exact cell_new rfl rfl) 9 Tryz.underlying9
  go_enter Tryz.func96, Tryz.ntmps96
  go_wp2
  go_ret
  exact ⟨rfl, (Below.refl _ _).alloc (Nat.le_refl _) _⟩

theorem nDigits_le : ∀ (k u : Nat), u < 10 ^ (k + 1) → Lib.nDigits u ≤ k + 1
  | 0, u, h => by rw [Lib.nDigits_small (by simpa using h)]; exact Nat.le_refl _
  | k + 1, u, h => by
    by_cases h' : u < 10
    · rw [Lib.nDigits_small h']
      omega
    · rw [Lib.nDigits_big h']
      have := nDigits_le k (u / 10) (by rw [Nat.pow_succ] at h; omega)
      omega
def decB (n : Int) : ByteArray := ⟨(Lib.itoa n).toArray⟩
theorem ret_str {a b : ByteArray} (h : a = b) : Ending.returned (.string a) = .returned (.string b) := by rw [h]


theorem dec_step {u : Nat} (h : ¬ u < 10) : Lib.decDigits u = Lib.decDigits (u / 10) ++ [UInt8.ofNat (48 + u % 10)] := by
  rw [Lib.decDigits, dif_neg h]
theorem nums_dig (d : Nat) (h : d < 10) : strOfNums [((48 + d : Nat) : Int)] = ⟨#[UInt8.ofNat (48 + d)]⟩ := by
  iterate 10 (rcases d with _ | d; · rfl)
  omega
theorem byte_dig (d : Nat) (h : d < 10) (w : World) :
    Calls Tryz.prog 96 #[.int .i64 (48 + (d : Int))] w fun ev w' => ev = .returned (.string ⟨#[UInt8.ofNat (48 + d)]⟩) ∧ Below w.heap.size w w' := by
  rw [← nums_dig d h]
  have := byte_any (48 + d) (by omega) w
  rw [show ((48 + d : Nat) : Int) = 48 + (d : Int) by omega] at this
  exact this
theorem tdiv_neg_nat (u : Nat) : Int.tdiv (-(u : Int)) 10 = -((u / 10 : Nat) : Int) := by
  rw [Int.neg_tdiv]
  rfl
theorem tmod_neg_nat (u : Nat) : Int.tmod (-(u : Int)) 10 = -((u % 10 : Nat) : Int) := by
  rw [Int.neg_tmod]
  rfl
theorem decDigits_few (u : Nat) (h : u ≤ 9223372036854775808) : (Lib.decDigits u).length ≤ 20 := by
  rw [Lib.decDigits_length]
  exact nDigits_le 19 u (by omega)
set_option maxHeartbeats 1000000 in
theorem below_any : ∀ (u : Nat), u ≤ 9223372036854775808 → ∀ w : World,
    Calls Tryz.prog 67 #[.int .i64 (-(u : Int))] w fun ev w' => ev = .returned (.string ⟨(Lib.decDigits u).toArray⟩) ∧ Below w.heap.size w w' := by
  intro u
  induction u using Nat.strongRecOn with
  | _ u ih =>
  intro hu w
  by_cases h : u < 10
  · have hI : (-10 : Int) < -(u : Int) := by omega
    have kx := byte_dig u h w
    have e : Lib.decDigits u = [UInt8.ofNat (48 + u)] := Lib.decDigits_one h
    rw [e]
    clear ih
    go_enter Tryz.func67, Tryz.ntmps67
    go_wp2_with fail
    refine kx.mono ?_
    rintro ev w' ⟨rfl, hb⟩
    go_wp2_with fail
    go_ret
    exact ⟨by simp, hb⟩
  · have hI : ¬ (-10 : Int) < -(u : Int) := by omega
    have hd := tdiv_neg_nat u
    have hm := tmod_neg_nat u
    have kx := ih (u / 10) (by omega) (by omega) w
    rw [show ((u / 10 : Nat) : Int) = (u : Int) / 10 by omega] at kx
    have HX := toHid kx
    have HB : Hid (∀ w, Calls Tryz.prog 96 #[.int .i64 (48 + (u : Int) % 10)] w fun ev w' => ev = .returned (.string ⟨#[UInt8.ofNat (48 + u % 10)]⟩) ∧ Below w.heap.size w w') := fun w => by
      have := byte_dig (u % 10) (by omega) w
      rw [show ((u % 10 : Nat) : Int) = (u : Int) % 10 by omega] at this
      exact this
    have hl := decDigits_few (u / 10) (by omega)
    have a1 := fun wx => run_string_add_sum (P := Tryz.prog) (w := wx) ⟨(Lib.decDigits (u / 10)).toArray⟩ ⟨#[UInt8.ofNat (48 + u % 10)]⟩ (by show (Lib.decDigits (u / 10)).toArray.size + 1 ≤ _; rw [List.size_toArray]; omega)
    clear ih kx
    go_enter Tryz.func67, Tryz.ntmps67
    go_wp2_with fail
    refine HX.out.mono ?_
    rintro ev w1 ⟨rfl, hb⟩
    go_wp2_with fail
    refine (HB.out _).mono ?_
    rintro ev w2 ⟨rfl, hb2⟩
    go_wp2_with fail
    go_ret
    refine ⟨?_, hb.trans (hb2.mono hb.size)⟩
    rw [dec_step h]
    refine ret_str ?_
    apply ByteArray.ext
    simp
set_option maxHeartbeats 1000000 in
/-- DECIMAL OF ANY INT. -/
theorem decimal_any (n : Int) (h0 : -9223372036854775808 ≤ n) (h1 : n ≤ 9223372036854775807) (w : World) :
    Calls Tryz.prog 35 #[.int .i64 n] w fun ev w' => ev = .returned (.string (decB n)) ∧ Below w.heap.size w w' := by
  by_cases hn : n < 0
  · obtain ⟨u, rfl⟩ : ∃ u : Nat, n = -(u : Int) := ⟨n.natAbs, by omega⟩
    have HX := toHid (below_any u (by omega) w)
    have e : decB (-(u : Int)) = ⟨#[45]⟩ ++ ⟨(Lib.decDigits u).toArray⟩ := by
      unfold decB
      rw [Lib.itoa_neg u (by omega)]
      apply ByteArray.ext
      simp
    have hl := decDigits_few u (by omega)
    have a1 := fun wx => run_string_add_sum (P := Tryz.prog) (w := wx) ⟨#[45]⟩ ⟨(Lib.decDigits u).toArray⟩ (by show 1 + (Lib.decDigits u).toArray.size ≤ _; rw [List.size_toArray]; omega)
    go_enter Tryz.func35, Tryz.ntmps35
    go_wp2_with fail
    refine HX.out.mono ?_
    rintro ev w1 ⟨rfl, hb⟩
    go_wp2_with fail
    go_ret
    exact ⟨ret_str e.symm, hb⟩
  · obtain ⟨u, rfl⟩ : ∃ u : Nat, n = (u : Int) := ⟨n.toNat, by omega⟩
    have HX := toHid (below_any u (by omega) w)
    have e : decB (u : Int) = ⟨(Lib.decDigits u).toArray⟩ := by
      unfold decB
      rw [Lib.itoa_nonneg u]
    rw [e]
    go_enter Tryz.func35, Tryz.ntmps35
    go_wp2_with fail
    refine HX.out.mono ?_
    rintro ev w1 ⟨rfl, hb⟩
    go_wp2_with fail
    go_ret
    exact ⟨rfl, hb⟩
end Go.Proofs.YtnenggkgfhgcnaaGreatDoor

/- The document's memory: a word as text (told), by a contract. -/
namespace Go.Proofs.YtnenggkgfhgcnaaGreatDoor
open Go.RowKit

def constB (n : Int) : ByteArray := if n = 0 then ⟨#[110, 111, 110, 101]⟩ else if n = 1 then ⟨#[102, 97, 108, 115, 101]⟩ else ⟨#[116, 114, 117, 101]⟩
/-- A word as text. -/
def tellB (out : List Nat) (x : Int) : ByteArray := if x % 4 = 1 then decB (wrap64 x / 4) else if x % 4 = 2 then constB (x / 4) else if x = 0 then ⟨#[110, 111, 119, 104, 101, 114, 101]⟩ else if objI out (ptI x) < 0 then ⟨#[64]⟩ else ⟨#[64]⟩ ++ decB (objI out (ptI x))
theorem decB_size (n : Int) (h0 : -9223372036854775808 ≤ n) (h1 : n ≤ 9223372036854775807) : (decB n).size ≤ 21 := by
  unfold decB
  show (Lib.itoa n).toArray.size ≤ 21
  rw [List.size_toArray]
  by_cases hn : n < 0
  · obtain ⟨u, rfl⟩ : ∃ u : Nat, n = -(u : Int) := ⟨n.natAbs, by omega⟩
    rw [Lib.itoa_neg u (by omega)]
    have := decDigits_few u (by omega)
    simp
    omega
  · obtain ⟨u, rfl⟩ : ∃ u : Nat, n = (u : Int) := ⟨n.toNat, by omega⟩
    rw [Lib.itoa_nonneg u]
    have := decDigits_few u (by omega)
    omega
theorem objI_bound {vs : List Nat} {x : Int} (hn : vs.length ≤ 300000) : -1 ≤ objI vs x ∧ objI vs x ≤ 300000 := by
  rcases Int.lt_or_le (objI vs x) 0 with h | h
  · rw [objI_neg (by omega)]; omega
  · obtain ⟨k, _, e, _, _, hk⟩ := objI_some h
    omega
set_option maxHeartbeats 4000000 in
set_option maxRecDepth 100000 in
theorem told_any (F : Nat → Int) (out : List Nat) (oo : Option Addr) (oc : Nat) (hn : out.length ≤ 300000) (x : Int) (x0 : 0 ≤ x) (x1 : x < 18446744073709551616) (hx : x % 4 = 2 → x / 4 ≤ 2) (w : World) (hR : RowV w (.slice oo out.length oc) out.length (objsV F out)) :
    Calls Tryz.prog 34 #[.int .u64 x, .slice oo out.length oc] w fun ev w' => ev = .returned (.string (tellB out x)) ∧ Below w.heap.size w w' := by
  have hw64 : wrap64 x = (x + 9223372036854775808) % 18446744073709551616 - 9223372036854775808 := wrap64_eq x
  by_cases c1 : x % 4 = 1
  · have e : tellB out x = decB (wrap64 x / 4) := by unfold tellB; rw [if_pos c1]
    rw [e]
    have ki := intOf_any x w
    have kd := decimal_any (wrap64 x / 4) (by omega) (by omega) w
    generalize wrap64 x / 4 = v at *
    clear hw64 e hR hx
    go_enter Tryz.func34, Tryz.ntmps34
    go_wp2_with fail
    refine ki.mono ?_
    rintro ev w1 ⟨rfl, hq⟩
    rw [hq]
    clear hq w1
    go_wp2_with fail
    refine kd.mono ?_
    rintro ev w1 ⟨rfl, hb⟩
    go_wp2_with fail
    go_ret
    exact ⟨rfl, hb⟩
  · have z1 : (x % 4 == 1) = false := by rw [beq_eq_false_iff_ne]; exact c1
    by_cases c2 : x % 4 = 2
    · have e : tellB out x = constB (x / 4) := by unfold tellB; rw [if_neg c1, if_pos c2]
      rw [e]
      have h2 := hx c2
      clear hw64 e hR hx z1
      obtain rfl | rfl | rfl : x = 2 ∨ x = 6 ∨ x = 10 := by omega
      all_goals clear c1 c2 h2 x0 x1
      all_goals (
        go_enter Tryz.func34, Tryz.ntmps34
        go_wp2_with fail
        go_ret
        exact ⟨rfl, (Below.refl _ _).alloc (Nat.le_refl _) _⟩)
    · have z2 : (x % 4 == 2) = false := by rw [beq_eq_false_iff_ne]; exact c2
      by_cases c3 : x = 0
      · subst c3
        have e : tellB out 0 = ⟨#[110, 111, 119, 104, 101, 114, 101]⟩ := by unfold tellB; rw [if_neg (by decide), if_neg (by decide), if_pos rfl]
        rw [e]
        clear hw64 e hR hx
        go_enter Tryz.func34, Tryz.ntmps34
        go_wp2_with fail
        go_ret
        exact ⟨rfl, Below.refl _ _⟩
      · have z3 : (x == 0) = false := by rw [beq_eq_false_iff_ne]; exact c3
        have kp := points_any x x0 x1 w
        have ko := objectAt_any F out oo oc (ptI x) hn w hR
        have hbd := objI_bound (vs := out) (x := ptI x) hn
        have e : tellB out x = if objI out (ptI x) < 0 then ⟨#[64]⟩ else ⟨#[64]⟩ ++ decB (objI out (ptI x)) := by unfold tellB; rw [if_neg c1, if_neg c2, if_neg c3]
        rw [e]
        have kd := decimal_any (objI out (ptI x)) (by omega) (by omega) w
        have hds := decB_size (objI out (ptI x)) (by omega) (by omega)
        generalize objI out (ptI x) = k at *
        generalize ptI x = pt at *
        clear hw64 e hR hx
        by_cases ck : k < 0
        · rw [if_pos ck]
          go_enter Tryz.func34, Tryz.ntmps34
          go_wp2_with fail
          refine kp.mono ?_
          rintro ev w1 ⟨rfl, hq⟩
          rw [hq]
          clear hq w1
          go_wp2_with fail
          refine ko.mono ?_
          rintro ev w1 ⟨rfl, hq⟩
          rw [hq]
          clear hq w1
          go_wp2_with fail
          go_ret
          exact ⟨rfl, Below.refl _ _⟩
        · rw [if_neg ck]
          have a1 := fun wx => run_string_add_sum (P := Tryz.prog) (w := wx) ⟨#[64]⟩ (decB k) (by show 1 + (decB k).size ≤ _; omega)
          generalize decB k = dk at *
          go_enter Tryz.func34, Tryz.ntmps34
          go_wp2_with fail
          refine kp.mono ?_
          rintro ev w1 ⟨rfl, hq⟩
          rw [hq]
          clear hq w1
          go_wp2_with fail
          refine ko.mono ?_
          rintro ev w1 ⟨rfl, hq⟩
          rw [hq]
          clear hq w1
          go_wp2_with fail
          refine kd.mono ?_
          rintro ev w1 ⟨rfl, hb⟩
          go_wp2_with fail
          go_ret
          exact ⟨rfl, hb⟩
end Go.Proofs.YtnenggkgfhgcnaaGreatDoor

/- The document's memory: the digits of a word (hex), by a contract. -/
namespace Go.Proofs.YtnenggkgfhgcnaaGreatDoor
open Go.RowKit

def digC (d : Nat) : UInt8 := ([48, 49, 50, 51, 52, 53, 54, 55, 56, 57, 97, 98, 99, 100, 101, 102] : List UInt8).getD d 0
/-- The lowest digits of a number, k of them. -/
def hexL (x : Nat) : Nat → List UInt8
  | 0 => []
  | k + 1 => digC (x / 16 ^ k % 16) :: hexL x k
theorem hexL_len (x : Nat) : ∀ k, (hexL x k).length = k
  | 0 => rfl
  | k + 1 => by rw [hexL, List.length_cons, hexL_len x k]
theorem hex_step {x k d : Nat} (h : x / 16 ^ k % 16 = d) : (⟨#[digC d]⟩ : ByteArray) ++ (⟨(hexL x k).toArray⟩ : ByteArray) = ⟨(hexL x (k + 1)).toArray⟩ := by
  rw [hexL, h]
  apply ByteArray.ext
  simp [ByteArray.data_append]
theorem div_step (x k : Nat) : x / 16 ^ k / 16 = x / 16 ^ (k + 1) := by rw [Nat.div_div_eq_div_mul, Nat.pow_succ]
def digsB : ByteArray := ⟨#[48, 49, 50, 51, 52, 53, 54, 55, 56, 57, 97, 98, 99, 100, 101, 102]⟩
theorem ext_dig (d : Nat) (h : d < 16) : digsB.extract d (d + 1) = ⟨#[digC d]⟩ := by
  iterate 16 (rcases d with _ | d; · rfl)
  omega
set_option maxHeartbeats 8000000 in
set_option maxRecDepth 100000 in
theorem hex_any (x : Nat) (hx : x < 18446744073709551616) (w : World) :
    Calls Tryz.prog 36 #[.int .u64 (x : Int)] w fun ev w' => ev = .returned (.string ⟨(hexL x 16).toArray⟩) ∧ w' = w := by
  obtain ⟨r, hr⟩ : ∃ r : ByteArray, r = ⟨(hexL x 16).toArray⟩ := ⟨_, rfl⟩
  rw [← hr]
  have HR := toHid hr
  clear hr
  go_enter Tryz.func36, Tryz.ntmps36
  go_wp2_with fail
  go_loopg [0, 4, 5] 17 (fun gk v0 v4 v5 wr => ∃ (k y : Nat) (o : ByteArray), gk = 17 - k ∧ k ≤ 16 ∧ v5 = .int .i64 (k : Int) ∧ v0 = .int .u64 (y : Int) ∧ v4 = .string o ∧ y < 18446744073709551616 ∧ o.size ≤ 16 ∧ wr = w ∧ Hid (y = x / 16 ^ k) ∧ Hid (o = ⟨(hexL x k).toArray⟩))
  case atStart => exact ⟨0, x, ⟨#[]⟩, rfl, Nat.zero_le _, rfl, rfl, rfl, hx, by decide, rfl, by show _ = _; simp, rfl⟩
  case round =>
    obtain ⟨k, y, o, hgk, hk, rfl, rfl, rfl, hy, hos, rfl, hyx, ho⟩ := hrel
    have HG := toHid hgk
    have hk0 : (0 : Int) ≤ (k : Int) := by omega
    clear hgk
    by_cases hlt : k < 16
    · have hI : (k : Int) < 16 := by omega
      obtain ⟨d, hd⟩ : ∃ d, d = y % 16 := ⟨_, rfl⟩
      obtain ⟨q, hq⟩ : ∃ q, q = y / 16 := ⟨_, rfl⟩
      have hd16 : d < 16 := by omega
      have e1 : (y : Int) % 16 = (d : Int) := by omega
      have e2 : (y : Int) / 16 = (q : Int) := by omega
      have hqy : q < 18446744073709551616 := by omega
      have HQ : Hid (q = x / 16 ^ (k + 1)) := by show _ = _; rw [hq, hyx.out, div_step]
      have HD : Hid (x / 16 ^ k % 16 = d) := by show _ = _; rw [hd, hyx.out]
      have HO : Hid ((⟨#[digC d]⟩ : ByteArray) ++ o = ⟨(hexL x (k + 1)).toArray⟩) := by show _ = _; rw [ho.out]; exact hex_step HD.out
      have hos2 : Hid (o.size = k) := by show _ = _; rw [ho.out]; show (hexL x k).toArray.size = k; rw [List.size_toArray, hexL_len]
      have a1 := fun wx => run_string_add_sum (P := Tryz.prog) (w := wx) ⟨#[digC d]⟩ o (by show 1 + o.size ≤ _; omega)
      have HSZ : Hid (((⟨#[digC d]⟩ : ByteArray) ++ o).size ≤ 16) := by
        show _ ≤ _
        rw [ByteArray.size_append]
        have := hos2.out
        show 1 + o.size ≤ 16
        omega
      have HO2 : Hid (digsB.extract d (d + 1) ++ o = ⟨(hexL x (k + 1)).toArray⟩) := by show _ = _; rw [ext_dig d hd16]; exact HO.out
      have HSZ2 : Hid ((digsB.extract d (d + 1) ++ o).size ≤ 16) := by show _ ≤ _; rw [ext_dig d hd16]; exact HSZ.out
      have a2 : Hid (∀ wx, (Op.stringOp .add (digsB.extract d (d + 1)) o).run Tryz.prog wx = .ok (.string (digsB.extract d (d + 1) ++ o)) wx) := fun wx => by rw [ext_dig d hd16]; exact a1 wx
      clear hd hq HD ho hyx hos2 a1 HO HSZ
      obtain rfl | rfl | rfl | rfl | rfl | rfl | rfl | rfl | rfl | rfl | rfl | rfl | rfl | rfl | rfl | rfl : d = 0 ∨ d = 1 ∨ d = 2 ∨ d = 3 ∨ d = 4 ∨ d = 5 ∨ d = 6 ∨ d = 7 ∨ d = 8 ∨ d = 9 ∨ d = 10 ∨ d = 11 ∨ d = 12 ∨ d = 13 ∨ d = 14 ∨ d = 15 := by omega
      all_goals clear hd16
      all_goals (have a3 := a2.out; unfold digsB at a3; clear a2)
      all_goals go_wp2_with fail
      all_goals go_roundg (17 - (k + 1))
      all_goals first | (have := HG.out; omega) | exact ⟨k + 1, q, _, rfl, by omega, by go_num, rfl, rfl, hqy, HSZ2.out, rfl, HQ, HO2.out⟩
    · have hI : ¬ (k : Int) < 16 := by omega
      obtain rfl : k = 16 := by omega
      have HE : Hid (o = r) := ho.out.trans HR.out.symm
      go_wp2_with fail
      go_ret
      have e := HE.out
      subst e
      exact ⟨rfl, rfl⟩
end Go.Proofs.YtnenggkgfhgcnaaGreatDoor

/- The document's memory: lines of roots, and of weak ones (GraphOf's loops), by contracts. -/
namespace Go.Proofs.YtnenggkgfhgcnaaGreatDoor
open Go.RowKit

/-- A block of a function's code, by its number. -/
def gBlockIn (n : Nat) : Code → Option Code
  | .block i c => bif Nat.beq i n then some (.block i c) else gBlockIn n c
  | .loop c => gBlockIn n c
  | .seq a b => match gBlockIn n a with
    | some c => some c
    | none => gBlockIn n b
  | .scope c => gBlockIn n c
  | .cond _ a b => match gBlockIn n a with
    | some c => some c
    | none => gBlockIn n b
  | _ => none
noncomputable def gBlock (n : Nat) : Code := (Tryz.f16.body.bind (gBlockIn n)).getD .skip
/-- A line more. -/
def gLine (s : ByteArray) (out : List Nat) (acc : ByteArray) (x : Int) : ByteArray := ((acc ++ s) ++ tellB out x) ++ ⟨#[10]⟩
def gLines (s : ByteArray) (out : List Nat) (acc : ByteArray) (l : List Int) : ByteArray := l.foldl (gLine s out) acc
theorem gLines_take {s : ByteArray} {out : List Nat} {acc : ByteArray} {l : List Int} {k : Nat} {x : Int} (h : l[k]? = some x) : gLines s out acc (l.take (k + 1)) = gLine s out (gLines s out acc (l.take k)) x := by
  unfold gLines
  rw [List.take_add_one, h, List.foldl_append]
  rfl
theorem tellB_size (out : List Nat) (hn : out.length ≤ 300000) (x : Int) : (tellB out x).size ≤ 22 := by
  have hw : wrap64 x = (x + 9223372036854775808) % 18446744073709551616 - 9223372036854775808 := wrap64_eq x
  have hb := objI_bound (vs := out) (x := ptI x) hn
  unfold tellB
  split
  · have := decB_size (wrap64 x / 4) (by omega) (by omega)
    omega
  · split
    · unfold constB
      split
      · decide
      · split <;> decide
    · split
      · decide
      · split
        · decide
        · have := decB_size (objI out (ptI x)) (by omega) (by omega)
          rw [ByteArray.size_append]
          show 1 + (decB (objI out (ptI x))).size ≤ 22
          omega
def sRoot : ByteArray := ⟨#[114, 111, 111, 116, 32]⟩
def sWeak : ByteArray := ⟨#[119, 101, 97, 107, 32]⟩
/-- Words of a list that have a text. -/
structure Tells (l : List Int) : Prop where
  u64 : U64 l
  const : ∀ x ∈ l, x % 4 = 2 → x / 4 ≤ 2
  len : l.length ≤ 300000
set_option maxRecDepth 100000 in
set_option maxHeartbeats 2000000 in
theorem graph_b0 {p o oc cR : Nat} {oo aR : Option Addr} {F : Nat → Int} {out : List Nat} {a0 : ByteArray} {l : List Int} {wr : World} {u1 u2 u3 u7 u8 u9 u10 u11 u12 u13 u14 u15 u16 u17 u18 u19 u20 u21 u22 u23 u24 u25 u26 u27 u28 u29 u30 u31 u32 u33 u34 u35 u36 u37 u38 u39 u40 u41 u42 u43 u44 u45 u46 u47 u48 u49 u50 u51 u52 u53 u54 u55 u56 u57 u58 u59 u60 u61 u62 u63 u64 u65 u66 u67 u68 u69 u70 u71 u72 u73 u74 u75 u76 u77 u78 u79 u80 u81 u82 u83 u84 u85 u86 u87 u88 u89 u90 u91 u92 u93 u94 u95 u96 u97 u98 u99 u100 u101 u102 u103 u104 u105 u106 u107 u108 u109 u110 u111 u112 u113 u114 u115 u116 u117 u118 u119 u120 u121 u122 u123 u124 u125 u126 u127 u128 u129 u130 u131 u132 u133 u134 u135 u136 u137 u138 u139 u140 u141 u142 u143 u144 u145 u146 u147 u148 u149 u150 u151 u152 u153 u154 u155 u156 u157 u158 u159 u160 u161 u162 u163 u164 u165 u166 u167 u168 u169 u170 u171 u172 u173 u174 u175 u176 u177 u178 u179 u180 u181 u182 u183 u184 u185 u186 u187 u188 u189 u190 u191 u192 : Value} {K : Act → World → Prop} {Q : Exit → Act → World → Prop}
    (hn : out.length ≤ 300000) (hl : Tells l) (ha : a0.size ≤ 1000000000000) (hp : wr.cell? ⟨p, o + 7, none⟩ = some (.slice aR l.length cR)) (hrow : RowV wr (.slice aR l.length cR) l.length (wordsV l)) (hout : RowV wr (.slice oo out.length oc) out.length (objsV F out))
    (hrest : ∀ (v19 v20 v21 v22 v23 v24 v25 v26 v27 v28 v29 v30 v31 v32 v33 v34 v35 v36 v37 v38 v39 v40 v6 : Value) (wx : World), (Below wr.heap.size wr wx) → K ⟨#[.pointer (some ⟨p, o, none⟩), u1, u2, u3, .slice oo out.length oc, .string (gLines sRoot out a0 l), v6, u7, u8, u9, u10, u11, u12, u13, u14, u15, u16, u17, u18, v19, v20, v21, v22, v23, v24, v25, v26, v27, v28, v29, v30, v31, v32, v33, v34, v35, v36, v37, v38, v39, v40, u41, u42, u43, u44, u45, u46, u47, u48, u49, u50, u51, u52, u53, u54, u55, u56, u57, u58, u59, u60, u61, u62, u63, u64, u65, u66, u67, u68, u69, u70, u71, u72, u73, u74, u75, u76, u77, u78, u79, u80, u81, u82, u83, u84, u85, u86, u87, u88, u89, u90, u91, u92, u93, u94, u95, u96, u97, u98, u99, u100, u101, u102, u103, u104, u105, u106, u107, u108, u109, u110, u111, u112, u113, u114, u115, u116, u117, u118, u119, u120, u121, u122, u123, u124, u125, u126, u127, u128, u129, u130, u131, u132, u133, u134, u135, u136, u137, u138, u139, u140, u141, u142, u143, u144, u145, u146, u147, u148, u149, u150, u151, u152, u153, u154, u155, u156, u157, u158, u159, u160, u161, u162, u163, u164, u165, u166, u167, u168, u169, u170, u171, u172, u173, u174, u175, u176, u177, u178, u179, u180, u181, u182, u183, u184, u185, u186, u187, u188, u189, u190, u191, u192], []⟩ wx) :
    Code.wp Tryz.prog (gBlock 0) (Exit.then K Q) ⟨#[.pointer (some ⟨p, o, none⟩), u1, u2, u3, .slice oo out.length oc, .string a0, .int .i64 0, u7, u8, u9, u10, u11, u12, u13, u14, u15, u16, u17, u18, u19, u20, u21, u22, u23, u24, u25, u26, u27, u28, u29, u30, u31, u32, u33, u34, u35, u36, u37, u38, u39, u40, u41, u42, u43, u44, u45, u46, u47, u48, u49, u50, u51, u52, u53, u54, u55, u56, u57, u58, u59, u60, u61, u62, u63, u64, u65, u66, u67, u68, u69, u70, u71, u72, u73, u74, u75, u76, u77, u78, u79, u80, u81, u82, u83, u84, u85, u86, u87, u88, u89, u90, u91, u92, u93, u94, u95, u96, u97, u98, u99, u100, u101, u102, u103, u104, u105, u106, u107, u108, u109, u110, u111, u112, u113, u114, u115, u116, u117, u118, u119, u120, u121, u122, u123, u124, u125, u126, u127, u128, u129, u130, u131, u132, u133, u134, u135, u136, u137, u138, u139, u140, u141, u142, u143, u144, u145, u146, u147, u148, u149, u150, u151, u152, u153, u154, u155, u156, u157, u158, u159, u160, u161, u162, u163, u164, u165, u166, u167, u168, u169, u170, u171, u172, u173, u174, u175, u176, u177, u178, u179, u180, u181, u182, u183, u184, u185, u186, u187, u188, u189, u190, u191, u192], []⟩ wr := by
  have HR := toHid hrest
  have HL := toHid hl
  have HW := toHid hrow
  have HO := toHid hout
  have hll := hl.len
  obtain ⟨w, hw⟩ : ∃ w, w = wr := ⟨_, rfl⟩
  subst hw
  clear hrest hl hrow hout
  conv => arg 2; whnf
  go_wp2_with fail
  go_loopg [5, 6] (l.length + 1) (fun gk va vi wr => ∃ (k : Nat) (acc : ByteArray), gk = l.length + 1 - k ∧ k ≤ l.length ∧ vi = .int .i64 (k : Int) ∧ va = .string acc ∧ acc.size ≤ 1000000000000 + k * 28 ∧ Below w.heap.size w wr ∧ Hid (acc = gLines sRoot out a0 (l.take k)))
  case atStart => exact ⟨0, a0, rfl, Nat.zero_le _, rfl, rfl, by omega, Below.refl _ _, rfl⟩
  case round =>
    obtain ⟨k, acc, hgk, hk, rfl, rfl, hsz, hb, hacc⟩ := hrel
    have HG := toHid hgk
    have hk0 : (0 : Int) ≤ (k : Int) := by omega
    have hp1 := (hb.cell (p := ⟨p, o + 7, none⟩) (lt_of_cell hp)).trans hp
    have HB := toHid hb
    clear hgk hb
    by_cases hlt : k < l.length
    · have hI : (k : Int) < (l.length : Int) := by omega
      obtain ⟨x, hx⟩ : ∃ x, l[k]? = some x := ⟨_, List.getElem?_eq_getElem hlt⟩
      obtain ⟨_, _, e, _, f1⟩ := HW.out
      cases e
      obtain ⟨p1, o1, rfl, l1, g1⟩ := f1 (by omega)
      have rx : wr.cell? ⟨p1, o1 + k, none⟩ = some (.int .u64 x) := (HB.out.cell (p := ⟨p1, o1 + k, none⟩) l1).trans (g1 k _ (words_at hx))
      have hxr := HL.out.u64 x (List.mem_of_getElem? hx)
      have kt := told_any F out oo oc hn x hxr.1 hxr.2 (HL.out.const x (List.mem_of_getElem? hx)) wr (HO.out.below HB.out)
      have hts := tellB_size out hn x
      have HE : Hid (((acc ++ sRoot) ++ tellB out x) ++ ⟨#[10]⟩ = gLines sRoot out a0 (l.take (k + 1))) := by show _ = _; rw [gLines_take hx, ← hacc.out]; rfl
      unfold sRoot at HE
      generalize tellB out x = tx at *
      have a1 := fun wx => run_string_add_sum (P := Tryz.prog) (w := wx) acc sRoot (by show acc.size + 5 ≤ _; omega)
      have hs1 : (acc ++ sRoot).size = acc.size + 5 := by rw [ByteArray.size_append]; rfl
      unfold sRoot at a1 hs1
      have a2 := fun wx => run_string_add_sum (P := Tryz.prog) (w := wx) (acc ++ ⟨#[114, 111, 111, 116, 32]⟩) tx (by rw [hs1]; omega)
      have hs2 : ((acc ++ ⟨#[114, 111, 111, 116, 32]⟩) ++ tx).size = acc.size + 5 + tx.size := by rw [ByteArray.size_append, hs1]
      have a3 := fun wx => run_string_add_sum (P := Tryz.prog) (w := wx) ((acc ++ ⟨#[114, 111, 111, 116, 32]⟩) ++ tx) ⟨#[10]⟩ (by rw [hs2]; show _ + 1 ≤ _; omega)
      have hs3 : (((acc ++ ⟨#[114, 111, 111, 116, 32]⟩) ++ tx) ++ ⟨#[10]⟩).size ≤ 1000000000000 + (k + 1) * 28 := by rw [ByteArray.size_append, hs2]; show acc.size + 5 + tx.size + 1 ≤ _; omega
      clear f1 g1 hx hxr hacc hs1 hs2
      have HS3 := toHid hs3
      clear hs3
      go_wp2_with fail
      refine kt.mono ?_
      rintro ev w2 ⟨rfl, hb2⟩
      clear kt
      go_wp2_with fail
      go_roundg (l.length + 1 - (k + 1))
      case measure => have := HG.out; omega
      case rel => exact ⟨k + 1, _, rfl, by omega, by go_num, rfl, HS3.out, HB.out.trans (hb2.mono HB.out.size), HE.out⟩
    · have hI : ¬ (k : Int) < (l.length : Int) := by omega
      have HE : Hid (acc = gLines sRoot out a0 l) := by show _ = _; rw [hacc.out, List.take_of_length_le (by omega)]
      go_wp2_with fail
      have e := HE.out
      subst e
      exact HR.out _ _ _ _ _ _ _ _ _ _ _ _ _ _ _ _ _ _ _ _ _ _ _ _ HB.out
set_option maxRecDepth 100000 in
set_option maxHeartbeats 2000000 in
theorem graph_b6 {p o oc cR : Nat} {oo aR : Option Addr} {F : Nat → Int} {out : List Nat} {a0 : ByteArray} {l : List Int} {wr : World} {u1 u2 u3 u5 u6 u7 u8 u9 u10 u13 u14 u15 u16 u17 u18 u19 u20 u21 u22 u23 u24 u25 u26 u27 u28 u29 u30 u31 u32 u33 u34 u35 u36 u37 u38 u39 u40 u41 u42 u43 u44 u45 u46 u47 u48 u49 u50 u51 u52 u53 u54 u55 u56 u57 u58 u59 u60 u61 u62 u63 u64 u65 u66 u67 u68 u69 u70 u71 u72 u73 u74 u75 u76 u77 u78 u79 u80 u81 u82 u83 u84 u85 u86 u87 u88 u89 u90 u91 u92 u93 u94 u95 u96 u97 u98 u99 u100 u101 u102 u103 u104 u105 u106 u107 u108 u109 u110 u111 u112 u113 u114 u115 u116 u117 u118 u119 u120 u121 u122 u123 u124 u125 u126 u127 u128 u129 u130 u131 u132 u133 u134 u135 u136 u137 u138 u139 u140 u141 u142 u143 u144 u145 u146 u147 u148 u149 u150 u151 u152 u153 u154 u155 u156 u157 u158 u159 u160 u161 u162 u163 u164 u165 u166 u167 u168 u169 u170 u171 u172 u173 u174 u175 u176 u177 u178 u179 u180 u181 u182 u183 u184 u185 u186 u187 u188 u189 u190 u191 u192 : Value} {K : Act → World → Prop} {Q : Exit → Act → World → Prop}
    (hn : out.length ≤ 300000) (hl : Tells l) (ha : a0.size ≤ 1000000000000) (hp : wr.cell? ⟨p, o + 8, none⟩ = some (.slice aR l.length cR)) (hrow : RowV wr (.slice aR l.length cR) l.length (wordsV l)) (hout : RowV wr (.slice oo out.length oc) out.length (objsV F out))
    (hrest : ∀ (v93 v94 v95 v96 v97 v98 v99 v100 v101 v102 v103 v104 v105 v106 v107 v108 v109 v110 v111 v112 v113 v114 v12 : Value) (wx : World), (Below wr.heap.size wr wx) → K ⟨#[.pointer (some ⟨p, o, none⟩), u1, u2, u3, .slice oo out.length oc, u5, u6, u7, u8, u9, u10, .string (gLines sWeak out a0 l), v12, u13, u14, u15, u16, u17, u18, u19, u20, u21, u22, u23, u24, u25, u26, u27, u28, u29, u30, u31, u32, u33, u34, u35, u36, u37, u38, u39, u40, u41, u42, u43, u44, u45, u46, u47, u48, u49, u50, u51, u52, u53, u54, u55, u56, u57, u58, u59, u60, u61, u62, u63, u64, u65, u66, u67, u68, u69, u70, u71, u72, u73, u74, u75, u76, u77, u78, u79, u80, u81, u82, u83, u84, u85, u86, u87, u88, u89, u90, u91, u92, v93, v94, v95, v96, v97, v98, v99, v100, v101, v102, v103, v104, v105, v106, v107, v108, v109, v110, v111, v112, v113, v114, u115, u116, u117, u118, u119, u120, u121, u122, u123, u124, u125, u126, u127, u128, u129, u130, u131, u132, u133, u134, u135, u136, u137, u138, u139, u140, u141, u142, u143, u144, u145, u146, u147, u148, u149, u150, u151, u152, u153, u154, u155, u156, u157, u158, u159, u160, u161, u162, u163, u164, u165, u166, u167, u168, u169, u170, u171, u172, u173, u174, u175, u176, u177, u178, u179, u180, u181, u182, u183, u184, u185, u186, u187, u188, u189, u190, u191, u192], []⟩ wx) :
    Code.wp Tryz.prog (gBlock 6) (Exit.then K Q) ⟨#[.pointer (some ⟨p, o, none⟩), u1, u2, u3, .slice oo out.length oc, u5, u6, u7, u8, u9, u10, .string a0, .int .i64 0, u13, u14, u15, u16, u17, u18, u19, u20, u21, u22, u23, u24, u25, u26, u27, u28, u29, u30, u31, u32, u33, u34, u35, u36, u37, u38, u39, u40, u41, u42, u43, u44, u45, u46, u47, u48, u49, u50, u51, u52, u53, u54, u55, u56, u57, u58, u59, u60, u61, u62, u63, u64, u65, u66, u67, u68, u69, u70, u71, u72, u73, u74, u75, u76, u77, u78, u79, u80, u81, u82, u83, u84, u85, u86, u87, u88, u89, u90, u91, u92, u93, u94, u95, u96, u97, u98, u99, u100, u101, u102, u103, u104, u105, u106, u107, u108, u109, u110, u111, u112, u113, u114, u115, u116, u117, u118, u119, u120, u121, u122, u123, u124, u125, u126, u127, u128, u129, u130, u131, u132, u133, u134, u135, u136, u137, u138, u139, u140, u141, u142, u143, u144, u145, u146, u147, u148, u149, u150, u151, u152, u153, u154, u155, u156, u157, u158, u159, u160, u161, u162, u163, u164, u165, u166, u167, u168, u169, u170, u171, u172, u173, u174, u175, u176, u177, u178, u179, u180, u181, u182, u183, u184, u185, u186, u187, u188, u189, u190, u191, u192], []⟩ wr := by
  have HR := toHid hrest
  have HL := toHid hl
  have HW := toHid hrow
  have HO := toHid hout
  have hll := hl.len
  obtain ⟨w, hw⟩ : ∃ w, w = wr := ⟨_, rfl⟩
  subst hw
  clear hrest hl hrow hout
  conv => arg 2; whnf
  go_wp2_with fail
  go_loopg [11, 12] (l.length + 1) (fun gk va vi wr => ∃ (k : Nat) (acc : ByteArray), gk = l.length + 1 - k ∧ k ≤ l.length ∧ vi = .int .i64 (k : Int) ∧ va = .string acc ∧ acc.size ≤ 1000000000000 + k * 28 ∧ Below w.heap.size w wr ∧ Hid (acc = gLines sWeak out a0 (l.take k)))
  case atStart => exact ⟨0, a0, rfl, Nat.zero_le _, rfl, rfl, by omega, Below.refl _ _, rfl⟩
  case round =>
    obtain ⟨k, acc, hgk, hk, rfl, rfl, hsz, hb, hacc⟩ := hrel
    have HG := toHid hgk
    have hk0 : (0 : Int) ≤ (k : Int) := by omega
    have hp1 := (hb.cell (p := ⟨p, o + 8, none⟩) (lt_of_cell hp)).trans hp
    have HB := toHid hb
    clear hgk hb
    by_cases hlt : k < l.length
    · have hI : (k : Int) < (l.length : Int) := by omega
      obtain ⟨x, hx⟩ : ∃ x, l[k]? = some x := ⟨_, List.getElem?_eq_getElem hlt⟩
      obtain ⟨_, _, e, _, f1⟩ := HW.out
      cases e
      obtain ⟨p1, o1, rfl, l1, g1⟩ := f1 (by omega)
      have rx : wr.cell? ⟨p1, o1 + k, none⟩ = some (.int .u64 x) := (HB.out.cell (p := ⟨p1, o1 + k, none⟩) l1).trans (g1 k _ (words_at hx))
      have hxr := HL.out.u64 x (List.mem_of_getElem? hx)
      have kt := told_any F out oo oc hn x hxr.1 hxr.2 (HL.out.const x (List.mem_of_getElem? hx)) wr (HO.out.below HB.out)
      have hts := tellB_size out hn x
      have HE : Hid (((acc ++ sWeak) ++ tellB out x) ++ ⟨#[10]⟩ = gLines sWeak out a0 (l.take (k + 1))) := by show _ = _; rw [gLines_take hx, ← hacc.out]; rfl
      unfold sWeak at HE
      generalize tellB out x = tx at *
      have a1 := fun wx => run_string_add_sum (P := Tryz.prog) (w := wx) acc sWeak (by show acc.size + 5 ≤ _; omega)
      have hs1 : (acc ++ sWeak).size = acc.size + 5 := by rw [ByteArray.size_append]; rfl
      unfold sWeak at a1 hs1
      have a2 := fun wx => run_string_add_sum (P := Tryz.prog) (w := wx) (acc ++ ⟨#[119, 101, 97, 107, 32]⟩) tx (by rw [hs1]; omega)
      have hs2 : ((acc ++ ⟨#[119, 101, 97, 107, 32]⟩) ++ tx).size = acc.size + 5 + tx.size := by rw [ByteArray.size_append, hs1]
      have a3 := fun wx => run_string_add_sum (P := Tryz.prog) (w := wx) ((acc ++ ⟨#[119, 101, 97, 107, 32]⟩) ++ tx) ⟨#[10]⟩ (by rw [hs2]; show _ + 1 ≤ _; omega)
      have hs3 : (((acc ++ ⟨#[119, 101, 97, 107, 32]⟩) ++ tx) ++ ⟨#[10]⟩).size ≤ 1000000000000 + (k + 1) * 28 := by rw [ByteArray.size_append, hs2]; show acc.size + 5 + tx.size + 1 ≤ _; omega
      clear f1 g1 hx hxr hacc hs1 hs2
      have HS3 := toHid hs3
      clear hs3
      go_wp2_with fail
      refine kt.mono ?_
      rintro ev w2 ⟨rfl, hb2⟩
      clear kt
      go_wp2_with fail
      go_roundg (l.length + 1 - (k + 1))
      case measure => have := HG.out; omega
      case rel => exact ⟨k + 1, _, rfl, by omega, by go_num, rfl, HS3.out, HB.out.trans (hb2.mono HB.out.size), HE.out⟩
    · have hI : ¬ (k : Int) < (l.length : Int) := by omega
      have HE : Hid (acc = gLines sWeak out a0 l) := by show _ = _; rw [hacc.out, List.take_of_length_le (by omega)]
      go_wp2_with fail
      have e := HE.out
      subst e
      exact HR.out _ _ _ _ _ _ _ _ _ _ _ _ _ _ _ _ _ _ _ _ _ _ _ _ HB.out
end Go.Proofs.YtnenggkgfhgcnaaGreatDoor
