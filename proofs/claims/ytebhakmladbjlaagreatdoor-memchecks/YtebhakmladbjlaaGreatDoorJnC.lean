/- A word in sixteen digits: strconv.FormatUint with base 16, tellRaw, by contracts. -/
import Derived.Test.YtebhakmladbjlaaGreatDoorJnA
import Derived.Test.YtebhakmladbjlaaGreatDoorJnB
import Derived.Laws.IdiomStrings
import Derived.Test.YtebhakmladbjlaaGreatDoorMemGE
import Derived.Maps.OwnSet
import Derived.Lib.AppendIntMem
import Derived.Lib.SmallJoins
namespace Go.Proofs.YtebhakmladbjlaaGreatDoor
open Go.RowKit Go.Shelf

/-- The one place of the table that base 16 asks for. -/
def Tz16 (w : World) : Prop := w.cell? ⟨11, 15, none⟩ = some (.int .u8 4)
theorem Tz16.below {w w' : World} {B : Nat} (h : Tz16 w) (hb : Below B w w') (hB : w.heap.size ≤ B) : Tz16 w' := (hb.cell (p := ⟨11, 15, none⟩) (Nat.lt_of_lt_of_le (lt_of_cell h) hB)).trans h
set_option maxHeartbeats 1000000 in
set_option maxRecDepth 100000 in
theorem tz_16 (w : World) (h : Tz16 w) : Calls Tryz.prog 139 #[.int .u64 16] w fun ev w' => ev = .returned (.int .i64 4) ∧ w' = w := by
  unfold Tz16 at h
  have key : IntKind.u64.wrap (bits BinOp.and IntKind.u64 16 (IntKind.u64.wrap (-16)) * 285870213051353865) / 288230376151711744 = 15 := by kernel_rfl
  go_enter Tryz.func139, Tryz.ntmps139
  go_wp2
  go_ret
  exact ⟨rfl, rfl⟩
def digs36 : ByteArray := ⟨#[48, 49, 50, 51, 52, 53, 54, 55, 56, 57, 97, 98, 99, 100, 101, 102, 103, 104, 105, 106, 107, 108, 109, 110, 111, 112, 113, 114, 115, 116, 117, 118, 119, 120, 121, 122]⟩
theorem dig_at (d : Nat) (h : d < 16) (w : World) : (Instr.index 9 (.string digs36) (.int .u64 (d : Int))).run Tryz.prog w = .ok (.int .u8 ((digC d).toNat : Int)) w := by
  iterate 16 (rcases d with _ | d; · kernel_rfl)
  omega
def digV (l : List UInt8) : List Value := l.map fun b => Value.int .u8 (b.toNat : Int)
/-- A digit more, ahead of those that are there. -/
theorem dig_put {cur : Array Value} {x k d : Nat} (hs : cur.size = 65) (hk : k ≤ 16) (hd : x / 16 ^ k % 16 = d) (h : cur.toList.drop (65 - k) = digV (hexL x k)) : (cur.setIfInBounds (64 - k) (.int .u8 ((digC d).toNat : Int))).toList.drop (65 - (k + 1)) = digV (hexL x (k + 1)) := by
  rw [Array.toList_setIfInBounds, show 65 - (k + 1) = 64 - k by omega]
  have hl : 64 - k < cur.toList.length := by simp; omega
  rw [List.drop_eq_getElem_cons (by rw [List.length_set]; exact hl), List.getElem_set_self, List.drop_set_of_lt (by omega), show 64 - k + 1 = 65 - k by omega, h, hexL, hd]
  rfl
set_option maxHeartbeats 8000000 in
set_option maxRecDepth 100000 in
/-- The digits of a number, base 16. -/
theorem bits_16 (x : Nat) (hx : x < 18446744073709551616) (w : World) (hz : Tz16 w) :
    Calls Tryz.prog 117 #[.slice none 0 0, .int .u64 (x : Int), .int .i64 16, .bool false, .bool false] w fun ev w' => (∃ n, 1 ≤ n ∧ n ≤ 16 ∧ x < 16 ^ n ∧ ev = .returned (.tuple #[.slice none 0 0, .string ⟨(hexL x n).toArray⟩])) ∧ Below w.heap.size w w' := by
  have HZ := toHid hz
  clear hz
  go_enter Tryz.func117, Tryz.ntmps117
  go_upto_region 4 with fail
  obtain ⟨w1, hw1⟩ : ∃ w1, w1 = w.alloc (.cells Tryz.zeroCells203 203) := ⟨_, rfl⟩
  obtain ⟨q, hq⟩ : ∃ q, q = w.heap.size := ⟨_, rfl⟩
  have ob : w1.heap[q]? = some (.cells Tryz.zeroCells203 203) := by rw [hw1, hq]; exact heap_alloc_new _ _
  have b1 : Below w.heap.size w w1 := by rw [hw1]; exact (Below.refl _ _).alloc (Nat.le_refl _) _
  rw [← hw1, ← hq]
  have hz1 := HZ.out.below b1 (Nat.le_refl _)
  have hqw : w.heap.size ≤ q := by omega
  have HB1 := toHid b1
  have HOB := toHid ob
  have HZ1 := toHid hz1
  have HX := toHid hx
  have hpw : bits .and .i64 16 15 = 0 := by kernel_rfl
  clear hw1 hq ob b1 hz1 hx
  go_wp2_with (first | (go_at_call 139; refine (tz_16 _ HZ1.out).mono ?_; rintro ev w2 ⟨rfl, hw2⟩; rw [hw2]; clear hw2 w2) | go_in)
  have HI : Hid (∀ (d : Nat) (W : World), d < 16 → (Instr.index 9 (.string digs36) (.int .u64 (d : Int))).run Tryz.prog W = .ok (.int .u8 ((digC d).toNat : Int)) W) := fun d W h => dig_at d h W
  unfold digs36 at HI
  go_loopg [1, 13] 17 (fun gk vu vi wr => ∃ (k u j : Nat) (cur : Array Value), gk = 17 - k ∧ k ≤ 15 ∧ vu = .int .u64 (u : Int) ∧ vi = .int .i64 (j : Int) ∧ Below w.heap.size w wr ∧ wr.heap[q]? = some (.cells cur 203) ∧ cur.size = 65 ∧ Hid (j = 65 - k) ∧ Hid (u = x / 16 ^ k) ∧ Hid (cur.toList.drop (65 - k) = digV (hexL x k)))
  case atStart => exact ⟨0, x, 65, _, rfl, by omega, rfl, rfl, HB1.out, HOB.out, by kernel_rfl, rfl, by show _ = _; simp, (by kernel_rfl : List.drop (65 - 0) Tryz.zeroCells203.toList = digV (hexL x 0))⟩
  case round =>
    obtain ⟨k, u, j, cur, hgk, hk, rfl, rfl, hb, ho, hs, hj, hu, hcur⟩ := hrel
    have HG := toHid hgk
    have HB := toHid hb
    have HO := toHid ho
    have hu64 : u < 18446744073709551616 := by rw [hu.out]; exact Nat.lt_of_le_of_lt (Nat.div_le_self _ _) HX.out
    obtain ⟨j1, hj1⟩ : ∃ j1, j = j1 + 1 := ⟨j - 1, by have := hj.out; omega⟩
    have hjm : (j : Int) - 1 = (j1 : Int) := by omega
    have hj2 : j1 < 65 := by have := hj.out; omega
    have hj3 : (j1 : Int) < 65 := by omega
    have hj4 : (0 : Int) ≤ (j1 : Int) := by omega
    have HJ := toHid hj1
    have huI : (u : Int) < 18446744073709551616 := by omega
    have hu0 : (0 : Int) ≤ (u : Int) := by omega
    have HK := toHid hk
    clear hgk hb ho hj1 hk
    obtain ⟨v0, hv0⟩ : ∃ v0, cur[j1]? = some v0 := ⟨_, Array.getElem?_eq_getElem (by omega)⟩
    have c0 : wr.cell? ⟨q, j1, none⟩ = some v0 := by rw [cell_of_row _ _ _ _ _ _ HO.out]; exact hv0
    have z0 : wr.frozen? ⟨q, j1, none⟩ = false := Lib.frozen_of_heap HO.out j1
    by_cases hge : 16 ≤ u
    · have hgI : (16 : Int) ≤ (u : Int) := by omega
      obtain ⟨d, hd⟩ : ∃ d, d = u % 16 := ⟨_, rfl⟩
      have hd16 : d < 16 := by omega
      have hand : bits .and .u64 (u : Int) 15 = (d : Int) := by rw [and15 _ hu0 huI]; omega
      have i1 := fun W => HI.out d W hd16
      have HP : Hid ((cur.setIfInBounds j1 (.int .u8 ((digC d).toNat : Int))).toList.drop (65 - (k + 1)) = digV (hexL x (k + 1))) := by
        have h1 := dig_put (x := x) (d := d) hs (by have := HK.out; omega) (by rw [← hu.out, hd]) hcur.out
        have h2 : 64 - k = j1 := by have := hj.out; have := HJ.out; omega
        rw [h2] at h1
        exact h1
      have hk14 : k ≤ 14 := by
        have h1 := hu.out
        have h2 := HK.out
        have h3 := HX.out
        by_cases e : k = 15
        · subst e
          have : x / 16 ^ 15 < 16 := Nat.div_lt_of_lt_mul (by omega)
          omega
        · omega
      obtain ⟨u', hu'⟩ : ∃ u', u' = u / 16 := ⟨_, rfl⟩
      have hdiv : (u : Int) / 16 = (u' : Int) := by omega
      have HU : Hid (u' = x / 16 ^ (k + 1)) := by show _ = _; rw [hu', hu.out, div_step]
      have HD := toHid hd
      have HS := toHid hs
      have HK14 := toHid hk14
      have HJJ := toHid (show j1 = 65 - (k + 1) by have := hj.out; have := HJ.out; omega)
      generalize ((digC d).toNat : Int) = cd at *
      clear hd hs hk14 hcur hu hj hv0 hu'
      go_wp2_with fail
      go_roundg (17 - (k + 1))
      case measure => have := HG.out; have := HK14.out; omega
      case rel => exact ⟨k + 1, u', j1, _, rfl, by have := HK14.out; omega, rfl, rfl, HB.out.setCell (p := ⟨q, j1, none⟩) hqw _, heap_set_same HO.out, by rw [Array.size_setIfInBounds]; exact HS.out, HJJ.out, HU.out, HP.out⟩
    · have hgI : ¬ (16 : Int) ≤ (u : Int) := by omega
      obtain ⟨d, hd⟩ : ∃ d, d = u := ⟨_, rfl⟩
      have hd16 : u < 16 := by omega
      have i1 := fun W => HI.out u W hd16
      have HP : Hid ((cur.setIfInBounds j1 (.int .u8 ((digC u).toNat : Int))).toList.drop (65 - (k + 1)) = digV (hexL x (k + 1))) := by
        have h1 := dig_put (x := x) (d := u) hs (by have := HK.out; omega) (by rw [← hu.out]; omega) hcur.out
        have h2 : 64 - k = j1 := by have := hj.out; have := HJ.out; omega
        rw [h2] at h1
        exact h1
      have HXL : Hid (x < 16 ^ (k + 1)) := by
        have h1 := hu.out
        have h2 : x / 16 ^ k < 16 := by omega
        have h3 := (Nat.div_lt_iff_lt_mul (k := 16 ^ k) (Nat.pow_pos (by decide))).1 h2
        show x < 16 ^ (k + 1)
        rw [Nat.pow_succ, Nat.mul_comm]
        exact h3
      have HS := toHid hs
      have HJJ := toHid (show j1 = 65 - (k + 1) by have := hj.out; have := HJ.out; omega)
      generalize ((digC u).toNat : Int) = cd at *
      clear hd hs hcur hu hj hv0
      have hsl : ∀ W, (Instr.sliceAt 203 (.pointer (some ⟨q, 0, none⟩)) (some (.int .i64 (j1 : Int))) none none).run Tryz.prog W = .ok (.slice (some ⟨q, j1, none⟩) (65 - j1) (65 - j1)) W := fun W => by
        have hal : Tryz.prog.arrayLen 203 = 65 := by kernel_rfl
        rw [run_sliceAt_array_l W 203 ⟨q, 0, none⟩ (by kernel_rfl) .i64 (j1 : Int) (by omega) (by rw [hal]; omega)]
        go_simp
        omega
      obtain ⟨w2, hw2⟩ : ∃ w2, w2 = wr.setCell ⟨q, j1, none⟩ (.int .u8 cd) := ⟨_, rfl⟩
      have ob2 : w2.heap[q]? = some (.cells (cur.setIfInBounds j1 (.int .u8 cd)) 203) := by rw [hw2]; exact heap_set_same HO.out
      have b2 : Below w.heap.size w w2 := by rw [hw2]; exact HB.out.setCell (p := ⟨q, j1, none⟩) hqw _
      have hcv : (convert 69 9 (.slice (some ⟨q, j1, none⟩) (65 - j1) (65 - j1))).run Tryz.prog w2 = .ok (.string ⟨(hexL x (k + 1)).toArray⟩) w2 := by
        have h := run_convert_bytes_back (P := Tryz.prog) w2 69 9 5 ⟨q, j1, none⟩ (65 - j1) (hexL x (k + 1)) Tryz.underlying69 Tryz.underlying5 Tryz.underlying9 (fun i hi => by
          have e : (⟨q, j1, none⟩ : Addr).add i = ⟨q, j1 + i, none⟩ := by unfold Addr.add; split <;> simp_all
          rw [e, cell_of_row _ _ _ _ _ _ ob2, ← Array.getElem?_toList]
          have h1 := congrArg (fun l => l[i]?) HP.out
          simp only [List.getElem?_drop, digV, List.getElem?_map, List.getElem?_eq_getElem hi, Option.map_some] at h1
          rw [show j1 + i = 65 - (k + 1) + i by have := HJJ.out; omega]
          exact h1)
        have e2 : (hexL x (k + 1)).length = 65 - j1 := by rw [hexL_len, HJJ.out]; have := HK.out; omega
        rw [e2] at h
        exact h
      have HB2 := toHid b2
      clear ob2 b2
      go_upto_region 30 with fail
      rw [← hw2]
      clear hw2
      go_wp2_with fail
      refine bodyPost_ret (results_tmp2 rfl _ _ _) rfl ?_
      exact ⟨⟨k + 1, by omega, by have := HK.out; omega, HXL.out, rfl⟩, HB2.out⟩
set_option maxHeartbeats 1000000 in
set_option maxRecDepth 100000 in
theorem iformat_16 (x : Nat) (hx : x < 18446744073709551616) (w : World) (hz : Tz16 w) :
    Calls Tryz.prog 119 #[.int .u64 (x : Int), .int .i64 16] w fun ev w' => (∃ n, 1 ≤ n ∧ n ≤ 16 ∧ x < 16 ^ n ∧ ev = .returned (.string ⟨(hexL x n).toArray⟩)) ∧ Below w.heap.size w w' := by
  have kb := bits_16 x hx w hz
  clear hx hz
  go_enter Tryz.func119, Tryz.ntmps119
  go_wp2_with fail
  refine kb.mono ?_
  rintro ev w2 ⟨⟨n, h1, h2, h3, rfl⟩, hb⟩
  have HR := toHid (And.intro h1 (And.intro h2 (And.intro h3 hb)))
  clear h1 h2 h3 hb kb
  obtain ⟨l, hl⟩ : ∃ l, l = hexL x n := ⟨_, rfl⟩
  rw [← hl]
  have HL := toHid hl
  clear hl
  go_wp2_with fail
  go_ret
  obtain ⟨h1, h2, h3, hb⟩ := HR.out
  exact ⟨⟨n, h1, h2, h3, by rw [HL.out]; rfl⟩, hb⟩
set_option maxHeartbeats 1000000 in
set_option maxRecDepth 100000 in
theorem formatUint_16 (x : Nat) (hx : x < 18446744073709551616) (w : World) (hz : Tz16 w) :
    Calls Tryz.prog 97 #[.int .u64 (x : Int), .int .i64 16] w fun ev w' => (∃ n, 1 ≤ n ∧ n ≤ 16 ∧ x < 16 ^ n ∧ ev = .returned (.string ⟨(hexL x n).toArray⟩)) ∧ Below w.heap.size w w' := by
  have kb := iformat_16 x hx w hz
  clear hx hz
  go_enter Tryz.func97, Tryz.ntmps97
  go_wp2_with fail
  refine kb.mono ?_
  rintro ev w2 ⟨⟨n, h1, h2, h3, rfl⟩, hb⟩
  have HR := toHid (And.intro h1 (And.intro h2 (And.intro h3 hb)))
  clear h1 h2 h3 hb kb
  obtain ⟨l, hl⟩ : ∃ l, l = hexL x n := ⟨_, rfl⟩
  rw [← hl]
  have HL := toHid hl
  clear hl
  go_wp2_with fail
  go_ret
  obtain ⟨h1, h2, h3, hb⟩ := HR.out
  exact ⟨⟨n, h1, h2, h3, by rw [HL.out]; rfl⟩, hb⟩
theorem hex_pad (x n : Nat) (hx : x < 16 ^ n) : ∀ j, hexL x (n + j) = List.replicate j 48 ++ hexL x n
  | 0 => rfl
  | j + 1 => by
    have h0 : x / 16 ^ (n + j) = 0 := Nat.div_eq_of_lt (Nat.lt_of_lt_of_le hx (Nat.pow_le_pow_right (by decide) (by omega)))
    rw [← Nat.add_assoc, hexL, h0, hex_pad x n hx j, List.replicate_succ]
    rfl
def s0x : ByteArray := ⟨#[48, 120]⟩
set_option maxHeartbeats 1000000 in
set_option maxRecDepth 100000 in
/-- tellRaw. -/
theorem tellRaw_any (x : Nat) (hx : x < 18446744073709551616) (w : World) (hz : Tz16 w) :
    Calls Tryz.prog 62 #[.int .u64 (x : Int)] w fun ev w' => ev = .returned (.string (s0x ++ ⟨(hexL x 16).toArray⟩)) ∧ Below w.heap.size w w' := by
  have kf := formatUint_16 x hx w hz
  clear hx hz
  go_enter Tryz.func62, Tryz.ntmps62
  go_wp2_with fail
  refine kf.mono ?_
  rintro ev w2 ⟨⟨n, h1, h2, h3, rfl⟩, hb⟩
  obtain ⟨l, hl⟩ : ∃ l, l = hexL x n := ⟨_, rfl⟩
  obtain ⟨c, hc⟩ : ∃ c, n + c = 16 := ⟨16 - n, by omega⟩
  have hln : l.toArray.size = n := by rw [hl, List.size_toArray, hexL_len]
  have hsz : (⟨l.toArray⟩ : ByteArray).size = n := hln
  have hI : (16 : Int) - (n : Int) = (c : Int) := by omega
  have kr := sstrings_Repeat ⟨#[48]⟩ c w2 (by omega) (by show 1 * c ≤ _; omega)
  have hrep : (⟨(Lib.repeatL (ByteArray.mk #[48]).data.toList c).toArray⟩ : ByteArray) = ⟨(List.replicate c 48).toArray⟩ := by
    have : ∀ c, Lib.repeatL [48] c = List.replicate c (48 : UInt8) := fun c => by
      induction c with
      | zero => rfl
      | succ c ih => rw [Lib.repeatL, ih]; rfl
    show (⟨(Lib.repeatL [48] c).toArray⟩ : ByteArray) = _
    rw [this]
  rw [hrep] at kr
  obtain ⟨z, hzz⟩ : ∃ z : ByteArray, z = ⟨(List.replicate c 48).toArray⟩ := ⟨_, rfl⟩
  rw [← hzz] at kr
  have hzs : z.size = c := by rw [hzz]; show (List.replicate c (48 : UInt8)).toArray.size = c; simp
  have a1 := fun wx => run_string_add_sum (P := Tryz.prog) (w := wx) ⟨#[48, 120]⟩ z (by show 2 + z.size ≤ _; omega)
  have hs1 : ((⟨#[48, 120]⟩ : ByteArray) ++ z).size = 2 + z.size := by rw [ByteArray.size_append]; rfl
  have a2 := fun wx => run_string_add_sum (P := Tryz.prog) (w := wx) (⟨#[48, 120]⟩ ++ z) ⟨l.toArray⟩ (by rw [hs1, hsz]; omega)
  have HE : Hid ((⟨#[48, 120]⟩ ++ z) ++ ⟨l.toArray⟩ = s0x ++ ⟨(hexL x 16).toArray⟩) := by
    show _ = _
    have h := hex_pad x n h3 c
    rw [hc] at h
    rw [h, hzz, hl]
    unfold s0x
    apply ByteArray.ext
    simp [ByteArray.data_append]
  have HB := toHid hb
  rw [← hl]
  clear hb h3 hl kf hrep hzz hs1 hc
  go_wp2_with fail
  refine kr.mono ?_
  rintro ev w3 ⟨rfl, hb3⟩
  clear kr
  go_wp2_with fail
  go_ret
  exact ⟨by rw [← HE.out]; rfl, HB.out.trans (hb3.mono HB.out.size)⟩
end Go.Proofs.YtebhakmladbjlaaGreatDoor

/- Package mem: a word as text (tell), by a contract. -/
namespace Go.Proofs.YtebhakmladbjlaaGreatDoor
open Go.RowKit Go.Maps

/-- The table of powers of ten. -/
def TabbedM (w : World) : Prop := Lib.TabIs Tryz.prog w "internal/strconv.uint64pow10" .u64 Lib.pow10Tab
theorem toConst_oth (a : Nat → Addr) (x : Int) (h0 : 0 ≤ x) (h1 : x < 18446744073709551616) (hx : x % 4 ≠ 2) (w : World) (E : WErr a w) :
    Calls Tryz.prog 59 #[.int .u64 x] w fun ev w' => ev = .returned (.tuple #[.int .i64 0, errV a 2]) ∧ Below w.heap.size w w' := by
  by_cases h2 : x / 4 ≤ 2
  · have h := comesC_ok (x / 4) x (by omega) h2 w
    have hm : (x / 4 * 4 + 2 == x) = false := by
      rw [beq_eq_false_iff_ne]
      omega
    rw [hm] at h
    clear hm
    go_enter Tryz.func59, Tryz.ntmps59
    go_wp2_with fail
    refine h.mono ?_
    rintro ev w1 ⟨rfl, hb⟩
    have k2 := (E.below hb).c2
    go_wp2
    go_quiet (fail)
    go_wp2
    go_ret2
    exact ⟨rfl, below_drewN hb⟩
  · exact toConst_no a x h0 h1 (by omega) w E
theorem TabbedM.below {w w' : World} {B : Nat} (h : TabbedM w) (hb : Below B w w') (hB : w.heap.size ≤ B) : TabbedM w' := Go.Joins.tab_stays (g := 8) (by kernel_rfl) h hb hB
theorem cix0 (a b c : Value) (w : World) : (Instr.index 120 (.agg #[a, b, c]) (.int .i64 0)).run Tryz.prog w = .ok a w := by kernel_rfl
theorem cix1 (a b c : Value) (w : World) : (Instr.index 120 (.agg #[a, b, c]) (.int .i64 1)).run Tryz.prog w = .ok b w := by kernel_rfl
theorem cix2 (a b c : Value) (w : World) : (Instr.index 120 (.agg #[a, b, c]) (.int .i64 2)).run Tryz.prog w = .ok c w := by kernel_rfl
theorem own_kept3 {w w' : World} {k : TypeId} {R : Value → Option (DataW Unit × List MemPlace)} {b n : Nat} {D : DataW Unit} (h : w.ownsMap Tryz.prog k R b n D) (hb : Below w.heap.size w w') : w'.ownsMap Tryz.prog k R b n D := h.kept (grown_of_below hb) (by simp)
set_option maxHeartbeats 4000000 in
set_option maxRecDepth 100000 in
theorem tell_any (a : Nat → Addr) (bm n ol oc : Nat) (oo : Option Addr) (D : DataW Unit) (out : List Nat) (hn : out.length ≤ 300000) (hD : GNum D out) (x : Int) (x0 : 0 ≤ x) (x1 : x < 18446744073709551616) (hx : x % 4 = 2 → x / 4 ≤ 2) (h3 : x % 4 ≠ 3) (h40 : x / 4 ≤ 1099511627776 ∨ x % 4 = 1) (w : World) (E : WErr a w) (ht : TabbedM w) (hM : w.ownsMap Tryz.prog 57 (plainElem Tryz.prog 3) bm n D) :
    Calls Tryz.prog 27 #[.agg #[.slice oo ol oc, .map (some bm)], .int .u64 x] w fun ev w' => ev = .returned (.string (tellB out x)) ∧ Below w.heap.size w w' := by
  have hw64 : wrap64 x = (x + 9223372036854775808) % 18446744073709551616 - 9223372036854775808 := wrap64_eq x
  obtain ⟨w1, hw1⟩ : ∃ w1, w1 = w.alloc (.cells #[.slice oo ol oc, .map (some bm)] 77) := ⟨_, rfl⟩
  have b1 : Below w.heap.size w w1 := by rw [hw1]; exact (Below.refl _ _).alloc (Nat.le_refl _) _
  by_cases c1 : x % 4 = 1
  · have e : tellB out x = decB (wrap64 x / 4) := by unfold tellB; rw [if_pos c1]
    rw [e]
    unfold decB
    have ki := toInt_ok x x0 x1 c1 w1
    have HF : Hid (∀ W, Below w.heap.size w W → Calls Tryz.prog 58 #[.int .i64 (wrap64 x / 4), .int .i64 10] W fun ev w' => ev = .returned (.string ⟨(Lib.itoa (wrap64 x / 4)).toArray⟩) ∧ Below W.heap.size W w') := fun W hW => by
      refine (format_any (wrap64 x / 4) (by omega) (by omega) W (ht.below hW (Nat.le_refl _))).mono ?_
      rintro ev w' ⟨rfl, k, os, rfl⟩
      exact ⟨rfl, Lib.below_grow W.heap.size W (Nat.le_refl _) k os⟩
    generalize wrap64 x / 4 = v at *
    have HB1 := toHid b1
    have HW1 := toHid hw1
    clear hw64 e hx h3 h40 E ht hM b1 hw1
    go_enter Tryz.func27, Tryz.ntmps27
    go_wp2_with fail
    rw [← HW1.out]
    refine ki.mono ?_
    rintro ev w2 ⟨rfl, hb2⟩
    have b2 := HB1.out.trans (hb2.mono HB1.out.size)
    clear ki hb2
    go_wp2_with fail
    refine (HF.out _ b2).mono ?_
    rintro ev w3 ⟨rfl, hb3⟩
    go_wp2_with fail
    go_ret
    exact ⟨rfl, b2.trans (hb3.mono b2.size)⟩
  · have ki := toInt_no a x c1 w1 (E.below b1)
    have HE := toHid E
    have HB1 := toHid b1
    have HW1 := toHid hw1
    have HMM := toHid hM
    unfold errV at ki
    by_cases c2 : x % 4 = 2
    · have e : tellB out x = constB (x / 4) := by unfold tellB; rw [if_neg c1, if_pos c2]
      rw [e]
      have h2 := hx c2
      have HC : Hid (∀ W, Below w.heap.size w W → Calls Tryz.prog 59 #[.int .u64 x] W fun ev w' => ev = .returned (.tuple #[.int .i64 (x / 4), .nilIface]) ∧ Below W.heap.size W w') := fun W _ => toConst_ok x c2 x0 h2 W
      clear e hw64 hx h3 h40 E ht hM b1 hw1
      obtain rfl | rfl | rfl : x = 2 ∨ x = 6 ∨ x = 10 := by omega
      all_goals clear c1 c2 h2 x0 x1
      all_goals (have i0 := cix0; have i1 := cix1; have i2 := cix2)
      all_goals (
        go_enter Tryz.func27, Tryz.ntmps27
        go_wp2_with fail
        rw [← HW1.out]
        refine ki.mono ?_
        rintro ev w2 ⟨rfl, hb2⟩
        have b2 := HB1.out.trans (hb2.mono HB1.out.size)
        clear ki hb2
        go_wp2_with fail
        refine (HC.out _ b2).mono ?_
        rintro ev w3 ⟨rfl, hb3⟩
        have b3 := b2.trans (hb3.mono b2.size)
        clear hb3
        go_wp2_with fail
        go_ret
        exact ⟨rfl, b3⟩)
    · have HC : Hid (∀ W, Below w.heap.size w W → Calls Tryz.prog 59 #[.int .u64 x] W fun ev w' => ev = .returned (.tuple #[.int .i64 0, errV a 2]) ∧ Below W.heap.size W w') := fun W hW => toConst_oth a x x0 x1 c2 W (HE.out.below hW)
      unfold errV at HC
      have hkx : Hid (keyOf Tryz.prog 57 (.int .u64 x) = some (.int .u64 x)) := keyOf_int_mk Tryz.underlying57 (wf_u x0 x1)
      have gb : w1.heap[w.heap.size]? = some (.cells #[.slice oo ol oc, .map (some bm)] 77) := by rw [hw1]; exact heap_alloc_new _ _
      have g1 : w1.cell? ⟨w.heap.size, 1, none⟩ = some (.map (some bm)) := by rw [cell_of_row _ _ 1 _ _ _ gb]; rfl
      have lg : w.heap.size < w1.heap.size := lt_of_heap gb
      clear gb
      by_cases cz : x = 0
      · subst cz
        have e : tellB out 0 = ⟨#[110, 111, 119, 104, 101, 114, 101]⟩ := by unfold tellB; rw [if_neg (by decide), if_neg (by decide), if_pos rfl]
        rw [e]
        have hha : has D (.int .u64 0) = false := by
          cases hh : has D (.int .u64 0) with
          | false => rfl
          | true => obtain ⟨f, _, hf⟩ := hD.only 0 hh; omega
        clear e hw64 hx h3 h40 E ht hM b1 hw1 hD
        go_enter Tryz.func27, Tryz.ntmps27
        go_wp2_with fail
        rw [← HW1.out]
        refine ki.mono ?_
        rintro ev w2 ⟨rfl, hb2⟩
        have b2 := HB1.out.trans (hb2.mono HB1.out.size)
        have HB2 := toHid hb2
        clear ki hb2
        go_wp2_with fail
        refine (HC.out _ b2).mono ?_
        rintro ev w3 ⟨rfl, hb3⟩
        have b3 := b2.trans (hb3.mono b2.size)
        have HM3 := toHid (own_kept3 HMM.out b3)
        have g3 := (hb3.cell (p := ⟨w.heap.size, 1, none⟩) (lt_of_cell ((HB2.out.cell (p := ⟨w.heap.size, 1, none⟩) lg).trans g1))).trans ((HB2.out.cell (p := ⟨w.heap.size, 1, none⟩) lg).trans g1)
        clear hb3
        go_wp2_with (first | (at_lookup; refine wpList_lookup_own_ok_int _ rfl _ _ 75 rfl 57 3 .i64 lawU Tryz.underlying75 Tryz.underlying3 (zeroI _) bm n _ rfl HM3.out _ _ rfl hkx.out ?_; intro c0 hat hwc; clear hat hwc))
        go_ret
        exact ⟨rfl, b3⟩
      · have hz0 : (x == 0) = false := by rw [beq_eq_false_iff_ne]; exact cz
        obtain ⟨f, hf⟩ : ∃ f : Nat, x = ((f : Int) + 1) * 4 := ⟨(x / 4 - 1).toNat, by omega⟩
        have hpt : ptI x = (f : Int) := by unfold ptI; rw [if_pos (by omega)]; omega
        by_cases hfo : f ∈ out
        · obtain ⟨k, f', hk, hkf, hff, hkl⟩ := objI_some (objI_mem.2 hfo)
          obtain rfl : f' = f := by omega
          have e : tellB out x = ⟨#[64]⟩ ++ decB (k : Int) := by unfold tellB; rw [if_neg c1, if_neg c2, if_neg cz, hpt, hk, if_neg (by omega)]
          rw [e]
          have hha : has D (.int .u64 x) = true := by rw [hf, hD.has]; exact decide_eq_true hfo
          have HAT : Hid (D.atKey (.int .u64 x) (.lit (.int .i64 0)) = .lit (.int .i64 (k : Int))) := by show _ = _; rw [hf]; exact hD.num k _ hkf
          have hds := decB_size (k : Int) (by omega) (by omega)
          have a1 := fun wx => run_string_add_sum (P := Tryz.prog) (w := wx) ⟨#[64]⟩ (decB (k : Int)) (by show 1 + (decB (k : Int)).size ≤ _; omega)
          have HI : Hid (∀ W, Below w.heap.size w W → Calls Tryz.prog 28 #[.int .i64 (k : Int)] W fun ev w' => ev = .returned (.string (decB (k : Int))) ∧ Below W.heap.size W w') := fun W hW => by
            refine (itoa_any (k : Int) (by omega) (by omega) W (ht.below hW (Nat.le_refl _))).mono ?_
            rintro ev w' ⟨rfl, j, os, rfl⟩
            exact ⟨rfl, Lib.below_grow W.heap.size W (Nat.le_refl _) j os⟩
          generalize decB (k : Int) = dk at *
          clear e hw64 hx h3 h40 E ht hM b1 hw1 hD hf hpt hk hkf hff
          go_enter Tryz.func27, Tryz.ntmps27
          go_wp2_with fail
          rw [← HW1.out]
          refine ki.mono ?_
          rintro ev w2 ⟨rfl, hb2⟩
          have b2 := HB1.out.trans (hb2.mono HB1.out.size)
          have HB2 := toHid hb2
          clear ki hb2
          go_wp2_with fail
          refine (HC.out _ b2).mono ?_
          rintro ev w3 ⟨rfl, hb3⟩
          have b3 := b2.trans (hb3.mono b2.size)
          have HM3 := toHid (own_kept3 HMM.out b3)
          have g3 := (hb3.cell (p := ⟨w.heap.size, 1, none⟩) (lt_of_cell ((HB2.out.cell (p := ⟨w.heap.size, 1, none⟩) lg).trans g1))).trans ((HB2.out.cell (p := ⟨w.heap.size, 1, none⟩) lg).trans g1)
          clear hb3
          go_wp2_with (first | (at_lookup; refine wpList_lookup_own_ok_int _ rfl _ _ 75 rfl 57 3 .i64 lawU Tryz.underlying75 Tryz.underlying3 (zeroI _) bm n _ rfl HM3.out _ _ rfl hkx.out ?_; intro c0 hat hwc; obtain rfl : c0 = (k : Int) := (by have e := HAT.out.symm.trans hat; cases e; rfl); clear hat hwc))
          refine (HI.out _ b3).mono ?_
          rintro ev w4 ⟨rfl, hb4⟩
          go_wp2_with fail
          go_ret
          exact ⟨rfl, b3.trans (hb4.mono b3.size)⟩
        · have hno : objI out (f : Int) = -1 := objI_neg (fun h => hfo (objI_mem.1 h))
          have e : tellB out x = ⟨#[64]⟩ := by unfold tellB; rw [if_neg c1, if_neg c2, if_neg cz, hpt, hno, if_pos (by decide)]
          rw [e]
          have hha : has D (.int .u64 x) = false := by rw [hf, hD.has]; exact decide_eq_false hfo
          clear e hw64 hx h3 h40 E ht hM b1 hw1 hD hf hpt hno
          go_enter Tryz.func27, Tryz.ntmps27
          go_wp2_with fail
          rw [← HW1.out]
          refine ki.mono ?_
          rintro ev w2 ⟨rfl, hb2⟩
          have b2 := HB1.out.trans (hb2.mono HB1.out.size)
          have HB2 := toHid hb2
          clear ki hb2
          go_wp2_with fail
          refine (HC.out _ b2).mono ?_
          rintro ev w3 ⟨rfl, hb3⟩
          have b3 := b2.trans (hb3.mono b2.size)
          have HM3 := toHid (own_kept3 HMM.out b3)
          have g3 := (hb3.cell (p := ⟨w.heap.size, 1, none⟩) (lt_of_cell ((HB2.out.cell (p := ⟨w.heap.size, 1, none⟩) lg).trans g1))).trans ((HB2.out.cell (p := ⟨w.heap.size, 1, none⟩) lg).trans g1)
          clear hb3
          go_wp2_with (first | (at_lookup; refine wpList_lookup_own_ok_int _ rfl _ _ 75 rfl 57 3 .i64 lawU Tryz.underlying75 Tryz.underlying3 (zeroI _) bm n _ rfl HM3.out _ _ rfl hkx.out ?_; intro c0 hat hwc; clear hat hwc))
          go_ret
          exact ⟨rfl, b3⟩
end Go.Proofs.YtebhakmladbjlaaGreatDoor

/- An object's fields as texts (tellFields), by a contract. -/
namespace Go.Proofs.YtebhakmladbjlaaGreatDoor
open Go.RowKit Go.Maps

theorem infoStr : ∃ i0, Tryz.prog.info? 9 = some i0 ∧ i0.zero = some (.string ⟨#[]⟩) ∧ i0.size = 1 ∧ i0.bytes = 16 := info_parts (by kernel_rfl)
theorem make_strs (n : Nat) (hn : n ≤ 300000) (w : World) :
    (Instr.makeSlice 83 (.int .i64 (n : Int)) (.int .i64 (n : Int))).run Tryz.prog w = .ok (.slice (some ⟨w.heap.size, 0, none⟩) n n) (w.alloc (.cells (Array.replicate n (.string ⟨#[]⟩)) 9)) := by
  obtain ⟨i, hi, hz, h1, h8⟩ := infoStr
  have h := run_make (P := Tryz.prog) w 83 9 i (.string ⟨#[]⟩) Tryz.underlying83 hi hz .i64 .i64 (n : Int) (n : Int) (by omega) (by omega) (by rw [h8]; omega) (by omega)
  rw [h, h1]
  have e : madeCells (Value.string ⟨#[]⟩).cells ((n : Int).toNat * 1) = Array.replicate n (.string ⟨#[]⟩) := by
    apply Array.ext
    · simp [madeCells]
    · intro i h1 h2
      have e0 : i % 1 = 0 := Nat.mod_one i
      simp [madeCells, Value.cells, e0]
  rw [e]
  simp
/-- A field as text. -/
def fieldT (kd : Int) (out : List Nat) (x : Int) : ByteArray := if kd < 8 then s0x ++ ⟨(hexL x.toNat 16).toArray⟩ else tellB out x
/-- What tellFields hands back. -/
def TellsPost (ts : List ByteArray) (w : World) (ev : Ending) (w' : World) : Prop := ∃ q, ev = .returned (.slice (some ⟨q, 0, none⟩) ts.length ts.length) ∧ w.heap.size ≤ q ∧ w'.heap[q]? = some (.cells (ts.map Value.string).toArray 9) ∧ Below w.heap.size w w'
theorem strs_set {cur : Array Value} {ts : List ByteArray} {k : Nat} {t : ByteArray} (hs : cur.size = ts.length) (ht : ts[k]? = some t) (h : cur.toList.take k = (ts.take k).map Value.string) : (cur.setIfInBounds k (.string t)).toList.take (k + 1) = (ts.take (k + 1)).map Value.string := by
  have hk : k < ts.length := (List.getElem?_eq_some_iff.1 ht).1
  rw [Array.toList_setIfInBounds, List.take_add_one, List.take_set_of_le (Nat.le_refl _), h, List.take_add_one, ht, List.map_append]
  congr 1
  rw [List.getElem?_set_self (by simp; omega)]
  rfl
set_option maxHeartbeats 4000000 in
set_option maxRecDepth 100000 in
theorem tellFields_raw  (f0 kd : Int) (hk0 : 0 ≤ kd) (bm ol oc fc : Nat) (oo fo : Option Addr) (out : List Nat) (xs : List Int) (h64 : U64 xs) (hl : xs.length ≤ 300000) (hk8 : kd < 8) (w : World) (hz : Tz16 w) (hR : RowV w (.slice fo xs.length fc) xs.length (wordsV xs)) :
    Calls Tryz.prog 29 #[.agg #[.slice oo ol oc, .map (some bm)], .agg #[.int .i64 f0, .int .i64 kd, .slice fo xs.length fc]] w (TellsPost (xs.map (fieldT kd out)) w) := by
  have HC : Hid (∀ x ∈ xs, ∀ W, Below w.heap.size w W → Calls Tryz.prog 62 #[.int .u64 x] W fun ev w' => ev = .returned (.string (fieldT kd out x)) ∧ Below W.heap.size W w') := fun x hx W hW => by
    obtain ⟨y, rfl⟩ : ∃ y : Nat, x = (y : Int) := ⟨x.toNat, by have := h64 x hx; omega⟩
    have h := tellRaw_any y (by have := h64 _ hx; omega) W (hz.below hW (Nat.le_refl _))
    have e : fieldT kd out (y : Int) = s0x ++ ⟨(hexL y 16).toArray⟩ := by unfold fieldT; rw [if_pos hk8, Int.toNat_natCast]
    rw [e]
    exact h
  obtain ⟨PP, hPP⟩ : ∃ PP, PP = TellsPost (xs.map (fieldT kd out)) w := ⟨_, rfl⟩
  rw [← hPP]
  have HPP := toHid hPP
  have HR := toHid hR
  have hrb : Hid (decide (kd < 8) = true) := decide_eq_true hk8
  have km := fun W => make_strs xs.length hl W
  clear h64 hz hR hPP hk8
  generalize fieldT kd out = T at *
  go_enter Tryz.func29, Tryz.ntmps29
  go_upto_block 0 with (go_at_call 61; refine (raw_any kd hk0 _).mono ?_; rintro ev wz ⟨rfl, hwz⟩; rw [hwz, hrb.out]; clear hwz wz)
  obtain ⟨w3, hw3⟩ : ∃ w3, w3 = ((w.alloc (.cells #[.slice oo ol oc, .map (some bm)] 77)).alloc (.cells #[.int .i64 f0, .int .i64 kd, .slice fo xs.length fc] 82)).alloc (.cells (Array.replicate xs.length (.string ⟨#[]⟩)) 9) := ⟨_, rfl⟩
  obtain ⟨q, hq⟩ : ∃ q, q = w.heap.size + 1 + 1 := ⟨_, rfl⟩
  have ob : w3.heap[q]? = some (.cells (Array.replicate xs.length (.string ⟨#[]⟩)) 9) := by
    rw [hw3, hq]
    have h := heap_alloc_new ((w.alloc (.cells #[.slice oo ol oc, .map (some bm)] 77)).alloc (.cells #[.int .i64 f0, .int .i64 kd, .slice fo xs.length fc] 82)) (.cells (Array.replicate xs.length (.string ⟨#[]⟩)) 9)
    simpa using h
  have b3 : Below w.heap.size w w3 := by rw [hw3]; exact (((Below.refl _ _).alloc (Nat.le_refl _) _).alloc (by simp) _).alloc (by simp; omega) _
  have hqw : w.heap.size ≤ q := by omega
  rw [← hw3, ← hq]
  have HOB := toHid ob
  have HB3 := toHid b3
  clear hw3 hq ob b3 km
  go_wp2_with fail
  go_loopg [21] (xs.length + 1) (fun gk vi wr => ∃ (k : Nat) (cur : Array Value), gk = xs.length + 1 - k ∧ k ≤ xs.length ∧ vi = .int .i64 (k : Int) ∧ Below w.heap.size w wr ∧ wr.heap[q]? = some (.cells cur 9) ∧ cur.size = xs.length ∧ Hid (cur.toList.take k = ((xs.map T).take k).map Value.string))
  case atStart => exact ⟨0, _, rfl, Nat.zero_le _, rfl, HB3.out, HOB.out, by simp, rfl⟩
  case round =>
    obtain ⟨k, cur, hgk, hk, rfl, hb, ho, hs, hcur⟩ := hrel
    have HG := toHid hgk
    have HB := toHid hb
    have HO := toHid ho
    have HS := toHid hs
    have hk0' : (0 : Int) ≤ (k : Int) := by omega
    clear hgk hb ho
    by_cases hlt : k < xs.length
    · have hI : (k : Int) < (xs.length : Int) := by omega
      obtain ⟨x, hx⟩ : ∃ x, xs[k]? = some x := ⟨_, List.getElem?_eq_getElem hlt⟩
      obtain ⟨_, _, e, _, f1⟩ := HR.out
      cases e
      obtain ⟨p1, o1, rfl, l1, g1⟩ := f1 (by omega)
      have r0 : wr.cell? ⟨p1, o1 + k, none⟩ = some (.int .u64 x) := (HB.out.cell (p := ⟨p1, o1 + k, none⟩) l1).trans (g1 k _ (words_at hx))
      have kt := HC.out x (List.mem_of_getElem? hx) wr HB.out
      have hT : (xs.map T)[k]? = some (T x) := by rw [List.getElem?_map, hx]; rfl
      have HP : Hid ((cur.setIfInBounds k (.string (T x))).toList.take (k + 1) = ((xs.map T).take (k + 1)).map Value.string) := strs_set (by rw [List.length_map]; exact hs) hT hcur.out
      generalize T x = tx at *
      clear f1 g1 hx hT hcur hs
      go_wp2_with fail
      refine kt.mono ?_
      rintro ev w4 ⟨rfl, hb4⟩
      have ho4 : w4.heap[q]? = some (.cells cur 9) := (hb4.block q (lt_of_heap HO.out)).trans HO.out
      obtain ⟨v0, hv0⟩ : ∃ v0, cur[k]? = some v0 := ⟨_, Array.getElem?_eq_getElem (by rw [HS.out]; exact hlt)⟩
      have c0 : w4.cell? ⟨q, k, none⟩ = some v0 := by rw [cell_of_row _ _ _ _ _ _ ho4]; exact hv0
      have z0 : w4.frozen? ⟨q, k, none⟩ = false := Lib.frozen_of_heap ho4 k
      have HO4 := toHid ho4
      have HB4 := toHid (HB.out.trans (hb4.mono HB.out.size))
      clear ho4 hb4 hv0 kt
      go_wp2_with fail
      go_roundg (xs.length + 1 - (k + 1))
      case measure => have := HG.out; omega
      case rel => exact ⟨k + 1, _, rfl, by omega, by go_num, HB4.out.setCell (p := ⟨q, k, none⟩) hqw _, heap_set_same HO4.out, by rw [Array.size_setIfInBounds]; exact HS.out, HP.out⟩
    · have hI : ¬ (k : Int) < (xs.length : Int) := by omega
      have HE : Hid (PP (.returned (.slice (some ⟨q, 0, none⟩) xs.length xs.length)) wr) := by
        rw [HPP.out]
        have hkk : k = xs.length := by omega
        have h1 := hcur.out
        rw [hkk, List.take_of_length_le (by simp [hs]), List.take_of_length_le (by simp)] at h1
        refine ⟨q, by rw [List.length_map], hqw, ?_, HB.out⟩
        rw [← h1]
        exact HO.out
      clear hcur
      go_wp2_with fail
      exact HE.out
set_option maxHeartbeats 4000000 in
set_option maxRecDepth 100000 in
theorem tellFields_not (a : Nat → Addr) (n : Nat) (D : DataW Unit) (f0 kd : Int) (hk0 : 0 ≤ kd) (bm ol oc fc : Nat) (oo fo : Option Addr) (out : List Nat) (xs : List Int) (h64 : U64 xs) (hl : xs.length ≤ 300000) (hn : out.length ≤ 300000) (hD : GNum D out) (hk8 : ¬ kd < 8) (hcon : ∀ x ∈ xs, (x % 4 = 2 → x / 4 ≤ 2) ∧ x % 4 ≠ 3 ∧ (x / 4 ≤ 1099511627776 ∨ x % 4 = 1)) (w : World) (E : WErr a w) (ht : TabbedM w) (hM : w.ownsMap Tryz.prog 57 (plainElem Tryz.prog 3) bm n D) (hR : RowV w (.slice fo xs.length fc) xs.length (wordsV xs)) :
    Calls Tryz.prog 29 #[.agg #[.slice oo ol oc, .map (some bm)], .agg #[.int .i64 f0, .int .i64 kd, .slice fo xs.length fc]] w (TellsPost (xs.map (fieldT kd out)) w) := by
  have HC : Hid (∀ x ∈ xs, ∀ W, Below w.heap.size w W → Calls Tryz.prog 27 #[.agg #[.slice oo ol oc, .map (some bm)], .int .u64 x] W fun ev w' => ev = .returned (.string (fieldT kd out x)) ∧ Below W.heap.size W w') := fun x hx W hW => by
    have e : fieldT kd out x = tellB out x := by unfold fieldT; rw [if_neg hk8]
    rw [e]
    obtain ⟨k1, k2, k3⟩ := hcon x hx
    exact tell_any a bm n ol oc oo D out hn hD x (h64 x hx).1 (h64 x hx).2 k1 k2 k3 W (E.below hW) (ht.below hW (Nat.le_refl _)) (own_kept3 hM hW)
  obtain ⟨PP, hPP⟩ : ∃ PP, PP = TellsPost (xs.map (fieldT kd out)) w := ⟨_, rfl⟩
  rw [← hPP]
  have HPP := toHid hPP
  have HR := toHid hR
  have hrb : Hid (decide (kd < 8) = false) := decide_eq_false hk8
  have km := fun W => make_strs xs.length hl W
  clear h64 hn hD hM E ht hR hPP hk8 hcon
  generalize fieldT kd out = T at *
  go_enter Tryz.func29, Tryz.ntmps29
  go_upto_block 0 with (go_at_call 61; refine (raw_any kd hk0 _).mono ?_; rintro ev wz ⟨rfl, hwz⟩; rw [hwz, hrb.out]; clear hwz wz)
  obtain ⟨w3, hw3⟩ : ∃ w3, w3 = ((w.alloc (.cells #[.slice oo ol oc, .map (some bm)] 77)).alloc (.cells #[.int .i64 f0, .int .i64 kd, .slice fo xs.length fc] 82)).alloc (.cells (Array.replicate xs.length (.string ⟨#[]⟩)) 9) := ⟨_, rfl⟩
  obtain ⟨q, hq⟩ : ∃ q, q = w.heap.size + 1 + 1 := ⟨_, rfl⟩
  have ob : w3.heap[q]? = some (.cells (Array.replicate xs.length (.string ⟨#[]⟩)) 9) := by
    rw [hw3, hq]
    have h := heap_alloc_new ((w.alloc (.cells #[.slice oo ol oc, .map (some bm)] 77)).alloc (.cells #[.int .i64 f0, .int .i64 kd, .slice fo xs.length fc] 82)) (.cells (Array.replicate xs.length (.string ⟨#[]⟩)) 9)
    simpa using h
  have b3 : Below w.heap.size w w3 := by rw [hw3]; exact (((Below.refl _ _).alloc (Nat.le_refl _) _).alloc (by simp) _).alloc (by simp; omega) _
  have hqw : w.heap.size ≤ q := by omega
  rw [← hw3, ← hq]
  have HOB := toHid ob
  have HB3 := toHid b3
  clear hw3 hq ob b3 km
  go_wp2_with fail
  go_loopg [21] (xs.length + 1) (fun gk vi wr => ∃ (k : Nat) (cur : Array Value), gk = xs.length + 1 - k ∧ k ≤ xs.length ∧ vi = .int .i64 (k : Int) ∧ Below w.heap.size w wr ∧ wr.heap[q]? = some (.cells cur 9) ∧ cur.size = xs.length ∧ Hid (cur.toList.take k = ((xs.map T).take k).map Value.string))
  case atStart => exact ⟨0, _, rfl, Nat.zero_le _, rfl, HB3.out, HOB.out, by simp, rfl⟩
  case round =>
    obtain ⟨k, cur, hgk, hk, rfl, hb, ho, hs, hcur⟩ := hrel
    have HG := toHid hgk
    have HB := toHid hb
    have HO := toHid ho
    have HS := toHid hs
    have hk0' : (0 : Int) ≤ (k : Int) := by omega
    clear hgk hb ho
    by_cases hlt : k < xs.length
    · have hI : (k : Int) < (xs.length : Int) := by omega
      obtain ⟨x, hx⟩ : ∃ x, xs[k]? = some x := ⟨_, List.getElem?_eq_getElem hlt⟩
      obtain ⟨_, _, e, _, f1⟩ := HR.out
      cases e
      obtain ⟨p1, o1, rfl, l1, g1⟩ := f1 (by omega)
      have r0 : wr.cell? ⟨p1, o1 + k, none⟩ = some (.int .u64 x) := (HB.out.cell (p := ⟨p1, o1 + k, none⟩) l1).trans (g1 k _ (words_at hx))
      have kt := HC.out x (List.mem_of_getElem? hx) wr HB.out
      have hT : (xs.map T)[k]? = some (T x) := by rw [List.getElem?_map, hx]; rfl
      have HP : Hid ((cur.setIfInBounds k (.string (T x))).toList.take (k + 1) = ((xs.map T).take (k + 1)).map Value.string) := strs_set (by rw [List.length_map]; exact hs) hT hcur.out
      generalize T x = tx at *
      clear f1 g1 hx hT hcur hs
      go_wp2_with fail
      refine kt.mono ?_
      rintro ev w4 ⟨rfl, hb4⟩
      have ho4 : w4.heap[q]? = some (.cells cur 9) := (hb4.block q (lt_of_heap HO.out)).trans HO.out
      obtain ⟨v0, hv0⟩ : ∃ v0, cur[k]? = some v0 := ⟨_, Array.getElem?_eq_getElem (by rw [HS.out]; exact hlt)⟩
      have c0 : w4.cell? ⟨q, k, none⟩ = some v0 := by rw [cell_of_row _ _ _ _ _ _ ho4]; exact hv0
      have z0 : w4.frozen? ⟨q, k, none⟩ = false := Lib.frozen_of_heap ho4 k
      have HO4 := toHid ho4
      have HB4 := toHid (HB.out.trans (hb4.mono HB.out.size))
      clear ho4 hb4 hv0 kt
      go_wp2_with fail
      go_roundg (xs.length + 1 - (k + 1))
      case measure => have := HG.out; omega
      case rel => exact ⟨k + 1, _, rfl, by omega, by go_num, HB4.out.setCell (p := ⟨q, k, none⟩) hqw _, heap_set_same HO4.out, by rw [Array.size_setIfInBounds]; exact HS.out, HP.out⟩
    · have hI : ¬ (k : Int) < (xs.length : Int) := by omega
      have HE : Hid (PP (.returned (.slice (some ⟨q, 0, none⟩) xs.length xs.length)) wr) := by
        rw [HPP.out]
        have hkk : k = xs.length := by omega
        have h1 := hcur.out
        rw [hkk, List.take_of_length_le (by simp [hs]), List.take_of_length_le (by simp)] at h1
        refine ⟨q, by rw [List.length_map], hqw, ?_, HB.out⟩
        rw [← h1]
        exact HO.out
      clear hcur
      go_wp2_with fail
      exact HE.out
/-- Every object's fields. -/
theorem tellFields_any (a : Nat → Addr) (n : Nat) (D : DataW Unit) (f0 kd : Int) (hk0 : 0 ≤ kd) (bm ol oc fc : Nat) (oo fo : Option Addr) (out : List Nat) (xs : List Int) (h64 : U64 xs) (hl : xs.length ≤ 300000) (hn : out.length ≤ 300000) (hD : GNum D out) (hcon : ¬ kd < 8 → ∀ x ∈ xs, (x % 4 = 2 → x / 4 ≤ 2) ∧ x % 4 ≠ 3 ∧ (x / 4 ≤ 1099511627776 ∨ x % 4 = 1)) (w : World) (E : WErr a w) (ht : TabbedM w) (hz : Tz16 w) (hM : w.ownsMap Tryz.prog 57 (plainElem Tryz.prog 3) bm n D) (hR : RowV w (.slice fo xs.length fc) xs.length (wordsV xs)) :
    Calls Tryz.prog 29 #[.agg #[.slice oo ol oc, .map (some bm)], .agg #[.int .i64 f0, .int .i64 kd, .slice fo xs.length fc]] w (TellsPost (xs.map (fieldT kd out)) w) := by
  by_cases hk : kd < 8
  · exact tellFields_raw f0 kd hk0 bm ol oc fc oo fo out xs h64 hl hk w hz hR
  · exact tellFields_not a n D f0 kd hk0 bm ol oc fc oo fo out xs h64 hl hn hD hk (hcon hk) w E ht hM hR
end Go.Proofs.YtebhakmladbjlaaGreatDoor
