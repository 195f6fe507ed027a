/- An object's fields as texts (tellFields), by a contract. -/
import Derived.Test.YtlifnjfmocjfjaaGreatDoorJnD
import Derived.Test.YtlifnjfmocjfjaaGreatDoorMemR
import Derived.Shelf.SlSortCmp.WholeK
import Derived.Test.YtlifnjfmocjfjaaGreatDoorProg
import Derived.Test.YtlifnjfmocjfjaaGreatDoorJnC
import Derived.Shelf.SlSortCmp.NoneTotal
import Derived.Deep.AppendLies
import Derived.Test.YtlifnjfmocjfjaaGreatDoorJnB
namespace Go.Proofs.YtlifnjfmocjfjaaGreatDoor
open Go.RowKit Go.Maps

theorem infoStr : ∃ i0, Tryz.prog.info? 9 = some i0 ∧ i0.zero = some (.string ⟨#[]⟩) ∧ i0.size = 1 ∧ i0.bytes = 16 := info_parts (by kernel_rfl)
theorem make_strs (n : Nat) (hn : n ≤ 300000) (w : World) :
    (Instr.makeSlice 60 (.int .i64 (n : Int)) (.int .i64 (n : Int))).run Tryz.prog w = .ok (.slice (some ⟨w.heap.size, 0, none⟩) n n) (w.alloc (.cells (Array.replicate n (.string ⟨#[]⟩)) 9)) := by
  obtain ⟨i, hi, hz, h1, h8⟩ := infoStr
  have h := run_make (P := Tryz.prog) w 60 9 i (.string ⟨#[]⟩) Tryz.underlying60 hi hz .i64 .i64 (n : Int) (n : Int) (by omega) (by omega) (by rw [h8]; omega) (by omega)
  rw [h, h1]
  have e : madeCells (Value.string ⟨#[]⟩).cells ((n : Int).toNat * 1) = Array.replicate n (.string ⟨#[]⟩) := by
    apply Array.ext
    · simp [madeCells]
    · intro i h1 h2
      have e0 : i % 1 = 0 := Nat.mod_one i
      simp [madeCells, Value.cells, e0]
  rw [e]
  simp
/-- A field as text. -/
def fieldT (kd : Int) (out : List Nat) (x : Int) : ByteArray := if kd < 8 then s0x ++ ⟨(hexL x.toNat 16).toArray⟩ else tellB out x
/-- What tellFields hands back. -/
def TellsPost (ts : List ByteArray) (w : World) (ev : Ending) (w' : World) : Prop := ∃ q, ev = .returned (.slice (some ⟨q, 0, none⟩) ts.length ts.length) ∧ w.heap.size ≤ q ∧ w'.heap[q]? = some (.cells (ts.map Value.string).toArray 9) ∧ Below w.heap.size w w'
theorem strs_set {cur : Array Value} {ts : List ByteArray} {k : Nat} {t : ByteArray} (hs : cur.size = ts.length) (ht : ts[k]? = some t) (h : cur.toList.take k = (ts.take k).map Value.string) : (cur.setIfInBounds k (.string t)).toList.take (k + 1) = (ts.take (k + 1)).map Value.string := by
  have hk : k < ts.length := (List.getElem?_eq_some_iff.1 ht).1
  rw [Array.toList_setIfInBounds, List.take_add_one, List.take_set_of_le (Nat.le_refl _), h, List.take_add_one, ht, List.map_append]
  congr 1
  rw [List.getElem?_set_self (by simp; omega)]
  rfl
set_option maxHeartbeats 4000000 in
set_option maxRecDepth 100000 in
theorem tellFields_raw  (f0 kd : Int) (hk0 : 0 ≤ kd) (bm ol oc fc : Nat) (oo fo : Option Addr) (out : List Nat) (xs : List Int) (h64 : U64 xs) (hl : xs.length ≤ 300000) (hk8 : kd < 8) (w : World) (hz : Tz16 w) (hR : RowV w (.slice fo xs.length fc) xs.length (wordsV xs)) :
    Calls Tryz.prog 42 #[.agg #[.slice oo ol oc, .map (some bm)], .agg #[.int .i64 f0, .int .i64 kd, .slice fo xs.length fc]] w (TellsPost (xs.map (fieldT kd out)) w) := by
  have HC : Hid (∀ x ∈ xs, ∀ W, Below w.heap.size w W → Calls Tryz.prog 84 #[.int .u64 x] W fun ev w' => ev = .returned (.string (fieldT kd out x)) ∧ Below W.heap.size W w') := fun x hx W hW => by
    obtain ⟨y, rfl⟩ : ∃ y : Nat, x = (y : Int) := ⟨x.toNat, by have := h64 x hx; omega⟩
    have h := tellRaw_any y (by have := h64 _ hx; omega) W (hz.below hW (Nat.le_refl _))
    have e : fieldT kd out (y : Int) = s0x ++ ⟨(hexL y 16).toArray⟩ := by unfold fieldT; rw [if_pos hk8, Int.toNat_natCast]
    rw [e]
    exact h
  obtain ⟨PP, hPP⟩ : ∃ PP, PP = TellsPost (xs.map (fieldT kd out)) w := ⟨_, rfl⟩
  rw [← hPP]
  have HPP := toHid hPP
  have HR := toHid hR
  have hrb : Hid (decide (kd < 8) = true) := decide_eq_true hk8
  have km := fun W => make_strs xs.length hl W
  clear h64 hz hR hPP hk8
  generalize fieldT kd out = T at *
  go_enter Tryz.func42, Tryz.ntmps42
  go_upto_block 0 with (go_at_call 83; refine (raw_any kd hk0 _).mono ?_; rintro ev wz ⟨rfl, hwz⟩; rw [hwz, hrb.out]; clear hwz wz)
  obtain ⟨w3, hw3⟩ : ∃ w3, w3 = ((w.alloc (.cells #[.slice oo ol oc, .map (some bm)] 106)).alloc (.cells #[.int .i64 f0, .int .i64 kd, .slice fo xs.length fc] 111)).alloc (.cells (Array.replicate xs.length (.string ⟨#[]⟩)) 9) := ⟨_, rfl⟩
  obtain ⟨q, hq⟩ : ∃ q, q = w.heap.size + 1 + 1 := ⟨_, rfl⟩
  have ob : w3.heap[q]? = some (.cells (Array.replicate xs.length (.string ⟨#[]⟩)) 9) := by
    rw [hw3, hq]
    have h := heap_alloc_new ((w.alloc (.cells #[.slice oo ol oc, .map (some bm)] 106)).alloc (.cells #[.int .i64 f0, .int .i64 kd, .slice fo xs.length fc] 111)) (.cells (Array.replicate xs.length (.string ⟨#[]⟩)) 9)
    simpa using h
  have b3 : Below w.heap.size w w3 := by rw [hw3]; exact (((Below.refl _ _).alloc (Nat.le_refl _) _).alloc (by simp) _).alloc (by simp; omega) _
  have hqw : w.heap.size ≤ q := by omega
  rw [← hw3, ← hq]
  have HOB := toHid ob
  have HB3 := toHid b3
  clear hw3 hq ob b3 km
  go_wp2_with fail
  go_loopg [21] (xs.length + 1) (fun gk vi wr => ∃ (k : Nat) (cur : Array Value), gk = xs.length + 1 - k ∧ k ≤ xs.length ∧ vi = .int .i64 (k : Int) ∧ Below w.heap.size w wr ∧ wr.heap[q]? = some (.cells cur 9) ∧ cur.size = xs.length ∧ Hid (cur.toList.take k = ((xs.map T).take k).map Value.string))
  case atStart => exact ⟨0, _, rfl, Nat.zero_le _, rfl, HB3.out, HOB.out, by simp, rfl⟩
  case round =>
    obtain ⟨k, cur, hgk, hk, rfl, hb, ho, hs, hcur⟩ := hrel
    have HG := toHid hgk
    have HB := toHid hb
    have HO := toHid ho
    have HS := toHid hs
    have hk0' : (0 : Int) ≤ (k : Int) := by omega
    clear hgk hb ho
    by_cases hlt : k < xs.length
    · have hI : (k : Int) < (xs.length : Int) := by omega
      obtain ⟨x, hx⟩ : ∃ x, xs[k]? = some x := ⟨_, List.getElem?_eq_getElem hlt⟩
      obtain ⟨_, _, e, _, f1⟩ := HR.out
      cases e
      obtain ⟨p1, o1, rfl, l1, g1⟩ := f1 (by omega)
      have r0 : wr.cell? ⟨p1, o1 + k, none⟩ = some (.int .u64 x) := (HB.out.cell (p := ⟨p1, o1 + k, none⟩) l1).trans (g1 k _ (words_at hx))
      have kt := HC.out x (List.mem_of_getElem? hx) wr HB.out
      have hT : (xs.map T)[k]? = some (T x) := by rw [List.getElem?_map, hx]; rfl
      have HP : Hid ((cur.setIfInBounds k (.string (T x))).toList.take (k + 1) = ((xs.map T).take (k + 1)).map Value.string) := strs_set (by rw [List.length_map]; exact hs) hT hcur.out
      generalize T x = tx at *
      clear f1 g1 hx hT hcur hs
      go_wp2_with fail
      refine kt.mono ?_
      rintro ev w4 ⟨rfl, hb4⟩
      have ho4 : w4.heap[q]? = some (.cells cur 9) := (hb4.block q (lt_of_heap HO.out)).trans HO.out
      obtain ⟨v0, hv0⟩ : ∃ v0, cur[k]? = some v0 := ⟨_, Array.getElem?_eq_getElem (by rw [HS.out]; exact hlt)⟩
      have c0 : w4.cell? ⟨q, k, none⟩ = some v0 := by rw [cell_of_row _ _ _ _ _ _ ho4]; exact hv0
      have z0 : w4.frozen? ⟨q, k, none⟩ = false := Lib.frozen_of_heap ho4 k
      have HO4 := toHid ho4
      have HB4 := toHid (HB.out.trans (hb4.mono HB.out.size))
      clear ho4 hb4 hv0 kt
      go_wp2_with fail
      go_roundg (xs.length + 1 - (k + 1))
      case measure => have := HG.out; omega
      case rel => exact ⟨k + 1, _, rfl, by omega, by go_num, HB4.out.setCell (p := ⟨q, k, none⟩) hqw _, heap_set_same HO4.out, by rw [Array.size_setIfInBounds]; exact HS.out, HP.out⟩
    · have hI : ¬ (k : Int) < (xs.length : Int) := by omega
      have HE : Hid (PP (.returned (.slice (some ⟨q, 0, none⟩) xs.length xs.length)) wr) := by
        rw [HPP.out]
        have hkk : k = xs.length := by omega
        have h1 := hcur.out
        rw [hkk, List.take_of_length_le (by simp [hs]), List.take_of_length_le (by simp)] at h1
        refine ⟨q, by rw [List.length_map], hqw, ?_, HB.out⟩
        rw [← h1]
        exact HO.out
      clear hcur
      go_wp2_with fail
      exact HE.out
set_option maxHeartbeats 4000000 in
set_option maxRecDepth 100000 in
theorem tellFields_not (a : Nat → Addr) (n : Nat) (D : DataW Unit) (f0 kd : Int) (hk0 : 0 ≤ kd) (bm ol oc fc : Nat) (oo fo : Option Addr) (out : List Nat) (xs : List Int) (h64 : U64 xs) (hl : xs.length ≤ 300000) (hn : out.length ≤ 300000) (hD : GNum D out) (hk8 : ¬ kd < 8) (hcon : ∀ x ∈ xs, (x % 4 = 2 → x / 4 ≤ 2) ∧ x % 4 ≠ 3 ∧ (x / 4 ≤ 1099511627776 ∨ x % 4 = 1)) (w : World) (E : WErr a w) (ht : TabbedM w) (hM : w.ownsMap Tryz.prog 45 (plainElem Tryz.prog 3) bm n D) (hR : RowV w (.slice fo xs.length fc) xs.length (wordsV xs)) :
    Calls Tryz.prog 42 #[.agg #[.slice oo ol oc, .map (some bm)], .agg #[.int .i64 f0, .int .i64 kd, .slice fo xs.length fc]] w (TellsPost (xs.map (fieldT kd out)) w) := by
  have HC : Hid (∀ x ∈ xs, ∀ W, Below w.heap.size w W → Calls Tryz.prog 41 #[.agg #[.slice oo ol oc, .map (some bm)], .int .u64 x] W fun ev w' => ev = .returned (.string (fieldT kd out x)) ∧ Below W.heap.size W w') := fun x hx W hW => by
    have e : fieldT kd out x = tellB out x := by unfold fieldT; rw [if_neg hk8]
    rw [e]
    obtain ⟨k1, k2, k3⟩ := hcon x hx
    exact tell_any a bm n ol oc oo D out hn hD x (h64 x hx).1 (h64 x hx).2 k1 k2 k3 W (E.below hW) (ht.below hW (Nat.le_refl _)) (own_kept3 hM hW)
  obtain ⟨PP, hPP⟩ : ∃ PP, PP = TellsPost (xs.map (fieldT kd out)) w := ⟨_, rfl⟩
  rw [← hPP]
  have HPP := toHid hPP
  have HR := toHid hR
  have hrb : Hid (decide (kd < 8) = false) := decide_eq_false hk8
  have km := fun W => make_strs xs.length hl W
  clear h64 hn hD hM E ht hR hPP hk8 hcon
  generalize fieldT kd out = T at *
  go_enter Tryz.func42, Tryz.ntmps42
  go_upto_block 0 with (go_at_call 83; refine (raw_any kd hk0 _).mono ?_; rintro ev wz ⟨rfl, hwz⟩; rw [hwz, hrb.out]; clear hwz wz)
  obtain ⟨w3, hw3⟩ : ∃ w3, w3 = ((w.alloc (.cells #[.slice oo ol oc, .map (some bm)] 106)).alloc (.cells #[.int .i64 f0, .int .i64 kd, .slice fo xs.length fc] 111)).alloc (.cells (Array.replicate xs.length (.string ⟨#[]⟩)) 9) := ⟨_, rfl⟩
  obtain ⟨q, hq⟩ : ∃ q, q = w.heap.size + 1 + 1 := ⟨_, rfl⟩
  have ob : w3.heap[q]? = some (.cells (Array.replicate xs.length (.string ⟨#[]⟩)) 9) := by
    rw [hw3, hq]
    have h := heap_alloc_new ((w.alloc (.cells #[.slice oo ol oc, .map (some bm)] 106)).alloc (.cells #[.int .i64 f0, .int .i64 kd, .slice fo xs.length fc] 111)) (.cells (Array.replicate xs.length (.string ⟨#[]⟩)) 9)
    simpa using h
  have b3 : Below w.heap.size w w3 := by rw [hw3]; exact (((Below.refl _ _).alloc (Nat.le_refl _) _).alloc (by simp) _).alloc (by simp; omega) _
  have hqw : w.heap.size ≤ q := by omega
  rw [← hw3, ← hq]
  have HOB := toHid ob
  have HB3 := toHid b3
  clear hw3 hq ob b3 km
  go_wp2_with fail
  go_loopg [21] (xs.length + 1) (fun gk vi wr => ∃ (k : Nat) (cur : Array Value), gk = xs.length + 1 - k ∧ k ≤ xs.length ∧ vi = .int .i64 (k : Int) ∧ Below w.heap.size w wr ∧ wr.heap[q]? = some (.cells cur 9) ∧ cur.size = xs.length ∧ Hid (cur.toList.take k = ((xs.map T).take k).map Value.string))
  case atStart => exact ⟨0, _, rfl, Nat.zero_le _, rfl, HB3.out, HOB.out, by simp, rfl⟩
  case round =>
    obtain ⟨k, cur, hgk, hk, rfl, hb, ho, hs, hcur⟩ := hrel
    have HG := toHid hgk
    have HB := toHid hb
    have HO := toHid ho
    have HS := toHid hs
    have hk0' : (0 : Int) ≤ (k : Int) := by omega
    clear hgk hb ho
    by_cases hlt : k < xs.length
    · have hI : (k : Int) < (xs.length : Int) := by omega
      obtain ⟨x, hx⟩ : ∃ x, xs[k]? = some x := ⟨_, List.getElem?_eq_getElem hlt⟩
      obtain ⟨_, _, e, _, f1⟩ := HR.out
      cases e
      obtain ⟨p1, o1, rfl, l1, g1⟩ := f1 (by omega)
      have r0 : wr.cell? ⟨p1, o1 + k, none⟩ = some (.int .u64 x) := (HB.out.cell (p := ⟨p1, o1 + k, none⟩) l1).trans (g1 k _ (words_at hx))
      have kt := HC.out x (List.mem_of_getElem? hx) wr HB.out
      have hT : (xs.map T)[k]? = some (T x) := by rw [List.getElem?_map, hx]; rfl
      have HP : Hid ((cur.setIfInBounds k (.string (T x))).toList.take (k + 1) = ((xs.map T).take (k + 1)).map Value.string) := strs_set (by rw [List.length_map]; exact hs) hT hcur.out
      generalize T x = tx at *
      clear f1 g1 hx hT hcur hs
      go_wp2_with fail
      refine kt.mono ?_
      rintro ev w4 ⟨rfl, hb4⟩
      have ho4 : w4.heap[q]? = some (.cells cur 9) := (hb4.block q (lt_of_heap HO.out)).trans HO.out
      obtain ⟨v0, hv0⟩ : ∃ v0, cur[k]? = some v0 := ⟨_, Array.getElem?_eq_getElem (by rw [HS.out]; exact hlt)⟩
      have c0 : w4.cell? ⟨q, k, none⟩ = some v0 := by rw [cell_of_row _ _ _ _ _ _ ho4]; exact hv0
      have z0 : w4.frozen? ⟨q, k, none⟩ = false := Lib.frozen_of_heap ho4 k
      have HO4 := toHid ho4
      have HB4 := toHid (HB.out.trans (hb4.mono HB.out.size))
      clear ho4 hb4 hv0 kt
      go_wp2_with fail
      go_roundg (xs.length + 1 - (k + 1))
      case measure => have := HG.out; omega
      case rel => exact ⟨k + 1, _, rfl, by omega, by go_num, HB4.out.setCell (p := ⟨q, k, none⟩) hqw _, heap_set_same HO4.out, by rw [Array.size_setIfInBounds]; exact HS.out, HP.out⟩
    · have hI : ¬ (k : Int) < (xs.length : Int) := by omega
      have HE : Hid (PP (.returned (.slice (some ⟨q, 0, none⟩) xs.length xs.length)) wr) := by
        rw [HPP.out]
        have hkk : k = xs.length := by omega
        have h1 := hcur.out
        rw [hkk, List.take_of_length_le (by simp [hs]), List.take_of_length_le (by simp)] at h1
        refine ⟨q, by rw [List.length_map], hqw, ?_, HB.out⟩
        rw [← h1]
        exact HO.out
      clear hcur
      go_wp2_with fail
      exact HE.out
/-- Every object's fields. -/
theorem tellFields_any (a : Nat → Addr) (n : Nat) (D : DataW Unit) (f0 kd : Int) (hk0 : 0 ≤ kd) (bm ol oc fc : Nat) (oo fo : Option Addr) (out : List Nat) (xs : List Int) (h64 : U64 xs) (hl : xs.length ≤ 300000) (hn : out.length ≤ 300000) (hD : GNum D out) (hcon : ¬ kd < 8 → ∀ x ∈ xs, (x % 4 = 2 → x / 4 ≤ 2) ∧ x % 4 ≠ 3 ∧ (x / 4 ≤ 1099511627776 ∨ x % 4 = 1)) (w : World) (E : WErr a w) (ht : TabbedM w) (hz : Tz16 w) (hM : w.ownsMap Tryz.prog 45 (plainElem Tryz.prog 3) bm n D) (hR : RowV w (.slice fo xs.length fc) xs.length (wordsV xs)) :
    Calls Tryz.prog 42 #[.agg #[.slice oo ol oc, .map (some bm)], .agg #[.int .i64 f0, .int .i64 kd, .slice fo xs.length fc]] w (TellsPost (xs.map (fieldT kd out)) w) := by
  by_cases hk : kd < 8
  · exact tellFields_raw f0 kd hk0 bm ol oc fc oo fo out xs h64 hl hk w hz hR
  · exact tellFields_not a n D f0 kd hk0 bm ol oc fc oo fo out xs h64 hl hn hD hk (hcon hk) w E ht hM hR
end Go.Proofs.YtlifnjfmocjfjaaGreatDoor

/- IDs in the order of their serials, and their lines: plain laws. -/
namespace Go.Proofs.YtlifnjfmocjfjaaGreatDoor
open Go.RowKit

/-- The next serial: of the first i the least that is above the last one (its place; -1 if there is none). -/
def nxtP (I : List (Int × Int)) (last : Int) : Nat → Int
  | 0 => -1
  | i + 1 => match I[i]? with
    | some x => if x.2 > last ∧ (nxtP I last i < 0 ∨ x.2 < (I.getD (nxtP I last i).toNat (0, 0)).2) then (i : Int) else nxtP I last i
    | none => nxtP I last i
theorem nxtP_spec (I : List (Int × Int)) (last : Int) : ∀ i, i ≤ I.length → (nxtP I last i = -1 ∧ ∀ (j : Nat) x, j < i → I[j]? = some x → x.2 ≤ last) ∨ ∃ (n : Nat) (y : Int × Int), nxtP I last i = (n : Int) ∧ n < i ∧ I[n]? = some y ∧ last < y.2 ∧ ∀ (j : Nat) x, j < i → I[j]? = some x → last < x.2 → y.2 ≤ x.2
  | 0, _ => Or.inl ⟨rfl, fun j x h => absurd h (Nat.not_lt_zero _)⟩
  | i + 1, hi => by
    obtain ⟨x, hx⟩ : ∃ x, I[i]? = some x := ⟨_, List.getElem?_eq_getElem (by omega)⟩
    have e : nxtP I last (i + 1) = if x.2 > last ∧ (nxtP I last i < 0 ∨ x.2 < (I.getD (nxtP I last i).toNat (0, 0)).2) then (i : Int) else nxtP I last i := by
      conv => lhs; unfold nxtP
      rw [hx]
    rcases nxtP_spec I last i (by omega) with ⟨h1, h2⟩ | ⟨n, y, h1, h2, h3, h4, h5⟩
    · by_cases c : x.2 > last
      · rw [e, if_pos ⟨c, Or.inl (by omega)⟩]
        refine Or.inr ⟨i, x, rfl, Nat.lt_succ_self _, hx, c, fun j z hj hz hl => ?_⟩
        by_cases hji : j = i
        · subst hji
          rw [hx] at hz
          cases hz
          omega
        · have := h2 j z (by omega) hz
          omega
      · rw [e, if_neg (fun h => c h.1)]
        refine Or.inl ⟨h1, fun j z hj hz => ?_⟩
        by_cases hji : j = i
        · subst hji
          rw [hx] at hz
          cases hz
          omega
        · exact h2 j z (by omega) hz
    · have hg : (I.getD (nxtP I last i).toNat (0, 0)) = y := by
        rw [h1, Int.toNat_natCast, List.getD_eq_getElem?_getD, h3]
        rfl
      rw [hg] at e
      by_cases c : x.2 > last ∧ x.2 < y.2
      · rw [e, if_pos ⟨c.1, Or.inr c.2⟩]
        refine Or.inr ⟨i, x, rfl, Nat.lt_succ_self _, hx, c.1, fun j z hj hz hl => ?_⟩
        by_cases hji : j = i
        · subst hji
          rw [hx] at hz
          cases hz
          omega
        · have := h5 j z (by omega) hz hl
          omega
      · rw [e, if_neg (fun h => c ⟨h.1, h.2.resolve_left (by omega)⟩)]
        refine Or.inr ⟨n, y, h1, by omega, h3, h4, fun j z hj hz hl => ?_⟩
        by_cases hji : j = i
        · subst hji
          rw [hx] at hz
          cases hz
          omega
        · exact h5 j z (by omega) hz hl
/-- IDs in the order of their serials. -/
def ordI (I : List (Int × Int)) : List (Int × Int) := I.mergeSort (fun x y => decide (x.2 ≤ y.2))
structure IdsOK (I : List (Int × Int)) : Prop where
  pos : ∀ x ∈ I, 1 ≤ x.2
  nodup : I.Pairwise (fun x y => x.2 ≠ y.2)
theorem ordI_perm (I : List (Int × Int)) : (ordI I).Perm I := List.mergeSort_perm _ _
theorem ordI_le (I : List (Int × Int)) : (ordI I).Pairwise (fun x y => x.2 ≤ y.2) := by
  have h := List.pairwise_mergeSort (le := fun x y : Int × Int => decide (x.2 ≤ y.2)) (fun a b c h1 h2 => by simp at *; omega) (fun a b => by simp; omega) I
  exact h.imp (fun h => of_decide_eq_true h)
theorem ordI_lt {I : List (Int × Int)} (h : IdsOK I) : (ordI I).Pairwise (fun x y => x.2 < y.2) := by
  have h1 := ordI_le I
  have h2 : (ordI I).Pairwise (fun x y => x.2 ≠ y.2) := h.nodup.perm (ordI_perm I).symm (fun h => h.symm)
  exact (h1.and h2).imp (fun ⟨a, b⟩ => by omega)
theorem ordI_len (I : List (Int × Int)) : (ordI I).length = I.length := (ordI_perm I).length_eq
/-- The last serial, behind k of them. -/
def lastP (L : List (Int × Int)) : Nat → Int
  | 0 => 0
  | k + 1 => (L.getD k (0, 0)).2
theorem lt_at {L : List (Int × Int)} (h : L.Pairwise (fun x y => x.2 < y.2)) {i j : Nat} {x y : Int × Int} (hi : L[i]? = some x) (hj : L[j]? = some y) (hij : i < j) : x.2 < y.2 := by
  obtain ⟨h1, rfl⟩ := List.getElem?_eq_some_iff.1 hi
  obtain ⟨h2, rfl⟩ := List.getElem?_eq_some_iff.1 hj
  exact List.pairwise_iff_getElem.1 h i j h1 h2 hij
theorem last_next {L : List (Int × Int)} {k : Nat} {x : Int × Int} (h : L[k]? = some x) : lastP L (k + 1) = x.2 := by
  show (L.getD k (0, 0)).2 = _
  rw [List.getD_eq_getElem?_getD, h]
  rfl
/-- What lies above the last serial, behind k of them. -/
theorem above_last {L : List (Int × Int)} (h : L.Pairwise (fun x y => x.2 < y.2)) (hp : ∀ x ∈ L, 1 ≤ x.2) {k j : Nat} (hk : k ≤ L.length) {x : Int × Int} (hj : L[j]? = some x) : lastP L k < x.2 ↔ k ≤ j := by
  have hjl : j < L.length := (List.getElem?_eq_some_iff.1 hj).1
  cases k with
  | zero =>
    have := hp x (List.mem_of_getElem? hj)
    show (0 : Int) < _ ↔ _
    omega
  | succ k =>
    obtain ⟨y, hy⟩ : ∃ y, L[k]? = some y := ⟨_, List.getElem?_eq_getElem (by omega)⟩
    rw [last_next hy]
    by_cases c : k < j
    · have := lt_at h hy hj c
      omega
    · by_cases e : k = j
      · subst e
        rw [hy] at hj
        cases hj
        omega
      · have := lt_at h hj hy (by omega)
        omega
theorem next_at {I : List (Int × Int)} (h : IdsOK I) {k : Nat} {x : Int × Int} (hk : (ordI I)[k]? = some x) : ∃ n : Nat, nxtP I (lastP (ordI I) k) I.length = (n : Int) ∧ I[n]? = some x := by
  have hL := ordI_lt h
  have hp : ∀ y ∈ ordI I, 1 ≤ y.2 := fun y hy => h.pos y ((ordI_perm I).mem_iff.1 hy)
  have hkl : k < (ordI I).length := (List.getElem?_eq_some_iff.1 hk).1
  have hx : x ∈ I := (ordI_perm I).mem_iff.1 (List.mem_of_getElem? hk)
  obtain ⟨i, hi⟩ := List.getElem?_of_mem hx
  have hil : i < I.length := (List.getElem?_eq_some_iff.1 hi).1
  have ha := (above_last hL hp (Nat.le_of_lt hkl) hk).2 (Nat.le_refl _)
  rcases nxtP_spec I (lastP (ordI I) k) I.length (Nat.le_refl _) with ⟨_, h2⟩ | ⟨n, y, h1, _, h3, h4, h5⟩
  · have := h2 i x hil hi
    omega
  · refine ⟨n, h1, ?_⟩
    rw [h3]
    have hy : y ∈ ordI I := (ordI_perm I).mem_iff.2 (List.mem_of_getElem? h3)
    obtain ⟨j, hj⟩ := List.getElem?_of_mem hy
    have hkj := (above_last hL hp (Nat.le_of_lt hkl) hj).1 h4
    have hle := h5 i x hil hi ha
    by_cases e : k = j
    · subst e
      rw [hk] at hj
      exact hj.symm
    · have := lt_at hL hk hj (by omega)
      omega
theorem next_end {I : List (Int × Int)} (h : IdsOK I) {k : Nat} (hk : k = (ordI I).length) : nxtP I (lastP (ordI I) k) I.length = -1 := by
  have hL := ordI_lt h
  have hp : ∀ y ∈ ordI I, 1 ≤ y.2 := fun y hy => h.pos y ((ordI_perm I).mem_iff.1 hy)
  rcases nxtP_spec I (lastP (ordI I) k) I.length (Nat.le_refl _) with ⟨h1, _⟩ | ⟨n, y, h1, _, h3, h4, h5⟩
  · exact h1
  · have hy : y ∈ ordI I := (ordI_perm I).mem_iff.2 (List.mem_of_getElem? h3)
    obtain ⟨j, hj⟩ := List.getElem?_of_mem hy
    have := (above_last hL hp (Nat.le_of_eq hk) hj).1 h4
    have := (List.getElem?_eq_some_iff.1 hj).1
    omega
/-- Those that are kept, sorted: the same as sorted, then kept. -/
theorem ord_filter {I M : List (Int × Int)} (h : IdsOK I) (p : Int × Int → Bool) (hM : M.Perm (I.filter p)) (hs : M.Pairwise (fun x y => ¬ y.2 < x.2)) : M = (ordI I).filter p := by
  have hp2 : M.Perm ((ordI I).filter p) := hM.trans ((ordI_perm I).filter p).symm
  refine List.Perm.eq_of_pairwise (le := fun x y : Int × Int => x.2 ≤ y.2) (fun a b ha hb h1 h2 => ?_) (hs.imp (fun h => by omega)) ((ordI_le I).filter p) hp2
  have ha' : a ∈ ordI I := (List.mem_filter.1 (hp2.mem_iff.1 ha)).1
  have hb' : b ∈ ordI I := (List.mem_filter.1 hb).1
  obtain ⟨i, hi⟩ := List.getElem?_of_mem ha'
  obtain ⟨j, hj⟩ := List.getElem?_of_mem hb'
  have hL := ordI_lt h
  by_cases e : i = j
  · subst e
    rw [hi] at hj
    cases hj
    rfl
  · rcases Nat.lt_or_gt_of_ne e with c | c
    · have := lt_at hL hi hj c
      omega
    · have := lt_at hL hj hi c
      omega
theorem ids_at_ok {nH : Nat} {hb : Nat → Bool} {l : List (Int × Int)} (h : idsB nH hb l = true) {i : Nat} {x : Int × Int} (hi : l[i]? = some x) : ptrB nH hb x.1 = true ∧ 1 ≤ x.2 ∧ ((l.take (i + 1)).map (·.2)).count x.2 ≤ 1 := by
  have hl : i < l.length := (List.getElem?_eq_some_iff.1 hi).1
  have h1 := List.all_eq_true.1 h i (List.mem_range.2 hl)
  unfold idB at h1
  rw [hi] at h1
  simp only [Bool.and_eq_true, decide_eq_true_eq] at h1
  exact ⟨h1.1, h1.2.1, h1.2.2.2⟩
theorem ids_ok {nH : Nat} {hb : Nat → Bool} {l : List (Int × Int)} (h : idsB nH hb l = true) : IdsOK l where
  pos := fun x hx => by
    obtain ⟨i, hi⟩ := List.getElem?_of_mem hx
    exact (ids_at_ok h hi).2.1
  nodup := by
    rw [List.pairwise_iff_getElem]
    intro i j hi hj hij he
    have h3 := (ids_at_ok h (List.getElem?_eq_getElem hj)).2.2
    rw [List.take_add_one, List.getElem?_eq_getElem hj, List.map_append, List.count_append] at h3
    have h4 : l[j].2 ∈ (l.take j).map (·.2) := by
      rw [← he]
      exact List.mem_map.2 ⟨l[i], List.mem_of_getElem? (i := i) (by rw [List.getElem?_take, if_pos hij, List.getElem?_eq_getElem hi]), rfl⟩
    have h5 := List.count_pos_iff.2 h4
    have h6 : (List.map (fun x : Int × Int => x.2) (some l[j]).toList).count l[j].2 = 1 := by simp
    omega
theorem ids_ptr {nH : Nat} {hb : Nat → Bool} {l : List (Int × Int)} (h : idsB nH hb l = true) : ∀ x ∈ l, ptrB nH hb x.1 = true := fun x hx => by
  obtain ⟨i, hi⟩ := List.getElem?_of_mem hx
  exact (ids_at_ok h hi).1
theorem nxtP_next {I : List (Int × Int)} {last : Int} {k : Nat} {x : Int × Int} (h : I[k]? = some x) : nxtP I last (k + 1) = if x.2 > last ∧ (nxtP I last k < 0 ∨ x.2 < (I.getD (nxtP I last k).toNat (0, 0)).2) then (k : Int) else nxtP I last k := by
  conv => lhs; unfold nxtP
  rw [h]
/-- An ID's line, if its object was come to. -/
def gId (out : List Nat) (acc : ByteArray) (x : Int × Int) : ByteArray := if objI out (ptI x.1) < 0 then acc else ((((acc ++ ⟨#[105, 100, 32]⟩) ++ decB x.2) ++ ⟨#[32, 64]⟩) ++ decB (objI out (ptI x.1))) ++ ⟨#[10]⟩
def gIds (out : List Nat) (acc : ByteArray) (l : List (Int × Int)) : ByteArray := l.foldl (gId out) acc
theorem gIds_take {out : List Nat} {acc : ByteArray} {l : List (Int × Int)} {k : Nat} {x : Int × Int} (h : l[k]? = some x) : gIds out acc (l.take (k + 1)) = gId out (gIds out acc (l.take k)) x := by
  unfold gIds
  rw [List.take_add_one, h, List.foldl_append]
  rfl
theorem ord64 {I : List (Int × Int)} (h : Ids64 I) : Ids64 (ordI I) := fun x hx => h x ((ordI_perm I).mem_iff.1 hx)
end Go.Proofs.YtlifnjfmocjfjaaGreatDoor

/- slices.SortFunc at this program: the shelf's laying. -/
namespace Go.Proofs.YtlifnjfmocjfjaaGreatDoor
open Go.Shelf Go.RowKit

def sortL_ren : Go.Shelf.Ren := ⟨fun | 6 => 85 | 15 => 120 | 14 => 119 | 28 => 150 | 29 => 151 | 20 => 142 | 21 => 143 | 22 => 144 | 23 => 145 | 24 => 146 | 25 => 147 | 26 => 148 | 27 => 149 | 46 => 167 | 47 => 168 | 48 => 169 | 49 => 170 | 50 => 171 | 57 => 185 | n => n, fun | 22 => 46 | 24 => 115 | 25 => 169 | 3 => 3 | 39 => 84 | 0 => 0 | 53 => 132 | 55 => 45 | 4 => 4 | 46 => 219 | 45 => 218 | 50 => 156 | 5 => 5 | 9 => 9 | 66 => 231 | 70 => 235 | 76 => 259 | 77 => 31 | n => n, fun | n => n⟩
theorem sortL : Go.Proofs.SlLaysF0.n6 Tryz.prog sortL_ren := {
  mixed := by kernel_rfl
  f6 := ⟨ "slices.SortFunc[[]nurserypy/mem.ID,nurserypy/mem.ID]", of_decide_eq_true (by kernel_rfl), Tryz.func85.trans (congrArg some (by kernel_rfl))⟩
  f14 := ⟨ "slices.pdqsortCmpFunc[nurserypy/mem.ID]", of_decide_eq_true (by kernel_rfl), Tryz.func119.trans (congrArg some (by kernel_rfl))⟩
  f20 := ⟨ "slices.insertionSortCmpFunc[nurserypy/mem.ID]", of_decide_eq_true (by kernel_rfl), Tryz.func142.trans (congrArg some (by kernel_rfl))⟩
  f21 := ⟨ "slices.heapSortCmpFunc[nurserypy/mem.ID]", of_decide_eq_true (by kernel_rfl), Tryz.func143.trans (congrArg some (by kernel_rfl))⟩
  f22 := ⟨ "slices.breakPatternsCmpFunc[nurserypy/mem.ID]", of_decide_eq_true (by kernel_rfl), Tryz.func144.trans (congrArg some (by kernel_rfl))⟩
  f23 := ⟨ "slices.choosePivotCmpFunc[nurserypy/mem.ID]", of_decide_eq_true (by kernel_rfl), Tryz.func145.trans (congrArg some (by kernel_rfl))⟩
  f24 := ⟨ "slices.reverseRangeCmpFunc[nurserypy/mem.ID]", of_decide_eq_true (by kernel_rfl), Tryz.func146.trans (congrArg some (by kernel_rfl))⟩
  f25 := ⟨ "slices.partialInsertionSortCmpFunc[nurserypy/mem.ID]", of_decide_eq_true (by kernel_rfl), Tryz.func147.trans (congrArg some (by kernel_rfl))⟩
  f26 := ⟨ "slices.partitionEqualCmpFunc[nurserypy/mem.ID]", of_decide_eq_true (by kernel_rfl), Tryz.func148.trans (congrArg some (by kernel_rfl))⟩
  f27 := ⟨ "slices.partitionCmpFunc[nurserypy/mem.ID]", of_decide_eq_true (by kernel_rfl), Tryz.func149.trans (congrArg some (by kernel_rfl))⟩
  f46 := ⟨ "slices.siftDownCmpFunc[nurserypy/mem.ID]", of_decide_eq_true (by kernel_rfl), Tryz.func167.trans (congrArg some (by kernel_rfl))⟩
  f49 := ⟨ "slices.medianAdjacentCmpFunc[nurserypy/mem.ID]", of_decide_eq_true (by kernel_rfl), Tryz.func170.trans (congrArg some (by kernel_rfl))⟩
  f50 := ⟨ "slices.medianCmpFunc[nurserypy/mem.ID]", of_decide_eq_true (by kernel_rfl), Tryz.func171.trans (congrArg some (by kernel_rfl))⟩
  f57 := ⟨ "slices.order2CmpFunc[nurserypy/mem.ID]", of_decide_eq_true (by kernel_rfl), Tryz.func185.trans (congrArg some (by kernel_rfl))⟩
  f15 := Tryz.func120.trans (congrArg some (by kernel_rfl))
  f28 := Tryz.func150.trans (congrArg some (by kernel_rfl))
  f29 := Tryz.func151.trans (congrArg some (by kernel_rfl))
  f47 := Tryz.func168.trans (congrArg some (by kernel_rfl))
  f48 := Tryz.func169.trans (congrArg some (by kernel_rfl))
  t0 := Tryz.underlying0
  a0 := Tryz.isAgg0
  z0 := Tryz.sizeOf0
  v0 := Tryz.zeroValue0
  t3 := Tryz.underlying3
  a3 := Tryz.isAgg3
  z3 := Tryz.sizeOf3
  v3 := Tryz.zeroValue3
  t4 := Tryz.underlying4
  a4 := Tryz.isAgg4
  z4 := Tryz.sizeOf4
  v4 := Tryz.zeroValue4
  t5 := Tryz.underlying5
  a5 := Tryz.isAgg5
  z5 := Tryz.sizeOf5
  v5 := Tryz.zeroValue5
  t9 := Tryz.underlying9
  a9 := Tryz.isAgg9
  z9 := Tryz.sizeOf9
  v9 := Tryz.zeroValue9
  t22 := Tryz.underlying46
  a22 := Tryz.isAgg46
  z22 := Tryz.sizeOf46
  v22 := Tryz.zeroValue46
  t25 := Tryz.underlying169
  a25 := Tryz.isAgg169
  z25 := Tryz.sizeOf169
  v25 := Tryz.zeroValue169
  t39 := Tryz.underlying84
  a39 := Tryz.isAgg84
  z39 := Tryz.sizeOf84
  v39 := Tryz.zeroValue84
  t45 := Tryz.underlying218
  a45 := Tryz.isAgg218
  z45 := Tryz.sizeOf218
  v45 := Tryz.zeroValue218
  t46 := Tryz.underlying219
  a46 := Tryz.isAgg219
  z46 := Tryz.sizeOf219
  v46 := Tryz.zeroValue219
  t50 := Tryz.underlying156
  a50 := Tryz.isAgg156
  z50 := Tryz.sizeOf156
  v50 := Tryz.zeroValue156
  t53 := Tryz.underlying132
  a53 := Tryz.isAgg132
  z53 := Tryz.sizeOf132
  v53 := Tryz.zeroValue132
  t55 := Tryz.underlying45
  a55 := Tryz.isAgg45
  z55 := Tryz.sizeOf45
  v55 := Tryz.zeroValue45
  t66 := Tryz.underlying231
  a66 := Tryz.isAgg231
  z66 := Tryz.sizeOf231
  v66 := Tryz.zeroValue231
  t70 := Tryz.underlying235
  a70 := Tryz.isAgg235
  z70 := Tryz.sizeOf235
  v70 := Tryz.zeroValue235
  t76 := Tryz.underlying259
  a76 := Tryz.isAgg259
  z76 := Tryz.sizeOf259
  v76 := Tryz.zeroValue259
  t77 := Tryz.underlying31
  a77 := Tryz.isAgg31
  z77 := Tryz.sizeOf31
  v77 := Tryz.zeroValue31 }
end Go.Proofs.YtlifnjfmocjfjaaGreatDoor

/- IDs by their serials (slices.SortFunc with known's closure), by a contract. -/
namespace Go.Proofs.YtlifnjfmocjfjaaGreatDoor
open Go.RowKit Go.Shelf Go.Sort

def idEnc (x : Int × Int) : List Value := [.int .u64 x.1, .int .i64 x.2]
def idCmp (x y : Int × Int) : Int := Lib.compareInt x.2 y.2
theorem idLt (x y : Int × Int) : ltOf idCmp x y = decide (x.2 < y.2) := by
  unfold ltOf idCmp Lib.compareInt
  by_cases h1 : x.2 < y.2
  · simp [h1]
  · by_cases h2 : y.2 < x.2 <;> simp [h1, h2]
theorem idSWO : SWO (ltOf idCmp) where
  irrefl x := by rw [idLt]; simp
  trans x y z h1 h2 := by rw [idLt] at *; simp at *; omega
  ntrans x y z h1 h2 := by rw [idLt] at *; simp at *; omega
set_option maxHeartbeats 1000000 in
set_option maxRecDepth 100000 in
/-- known's closure. -/
theorem known_cmp (x y : Int × Int) (W : World) : Calls Tryz.prog 86 #[.agg (idEnc x).toArray, .agg (idEnc y).toArray] W fun e w' => e = .returned (.int .i64 (idCmp x y)) ∧ ∃ q os, w' = grow (W.drewN q) os := by
  obtain ⟨xa, xs⟩ := x
  obtain ⟨ya, ys⟩ := y
  have kc := fun W => scmp_Compare_int xs ys W
  show Calls Tryz.prog 86 #[.agg #[.int .u64 xa, .int .i64 xs], .agg #[.int .u64 ya, .int .i64 ys]] W fun e w' => e = .returned (.int .i64 (Lib.compareInt xs ys)) ∧ ∃ q os, w' = grow (W.drewN q) os
  generalize Lib.compareInt xs ys = r at *
  obtain ⟨w1, hw1⟩ : ∃ w1, w1 = (W.alloc (.cells #[.int .u64 xa, .int .i64 xs] 115)).alloc (.cells #[.int .u64 ya, .int .i64 ys] 115) := ⟨_, rfl⟩
  go_enter Tryz.func86, Tryz.ntmps86
  go_wp2_with (go_at_call 87; refine (kc _).mono ?_; rintro ev w2 ⟨rfl, hw2⟩; rw [hw2]; clear hw2 w2)
  go_ret
  refine ⟨rfl, 0, #[.cells #[.int .u64 xa, .int .i64 xs] 115, .cells #[.int .u64 ya, .int .i64 ys] 115], ?_⟩
  rw [alloc_eq_grow, alloc_eq_grow, grow_grow]
  rfl
theorem flat_at (d : Array (Int × Int)) (j : Nat) (hj : j < d.size) : (flatK idEnc 2 d)[j * 2]! = .int .u64 d[j]!.1 ∧ (flatK idEnc 2 d)[j * 2 + 1]! = .int .i64 d[j]!.2 := by
  rw [get_flatK _ _ _ _ (by omega), get_flatK _ _ _ _ (by omega), show j * 2 / 2 = j by omega, show j * 2 % 2 = 0 by omega, show (j * 2 + 1) / 2 = j by omega, show (j * 2 + 1) % 2 = 1 by omega]
  exact ⟨rfl, rfl⟩
theorem flat_ids (l : List (Int × Int)) : (flatK idEnc 2 l.toArray).toList = idsV l := by
  apply List.ext_getElem?
  intro i
  have hlen : (flatK idEnc 2 l.toArray).toList.length = l.length * 2 := by simp
  by_cases hi : i < l.length * 2
  · obtain ⟨x, hx⟩ : ∃ x, l[i / 2]? = some x := ⟨_, List.getElem?_eq_getElem (by omega)⟩
    have hd : l.toArray[i / 2]! = x := by simp [hx]
    have h1 := flat_at l.toArray (i / 2) (by simp; omega)
    have h2 := ids_at hx
    rw [hd] at h1
    have hg : ∀ k, k < l.length * 2 → (flatK idEnc 2 l.toArray).toList[k]? = some (flatK idEnc 2 l.toArray)[k]! := fun k hk => by
      rw [Array.getElem?_toList, Array.getElem?_eq_getElem (by simp; omega)]
      congr 1
      rw [getElem!_pos]
    rw [hg i hi]
    rcases Nat.mod_two_eq_zero_or_one i with h | h
    · have e : i = i / 2 * 2 := by omega
      rw [e, h1.1, h2.1]
    · have e : i = i / 2 * 2 + 1 := by omega
      rw [e, h1.2, h2.2]
  · rw [List.getElem?_eq_none (by omega), List.getElem?_eq_none (by rw [lenI]; omega)]
/-- A row in memory, with its block's type. -/
def RowT (t : TypeId) (w : World) (v : Value) (n : Nat) (xs : List Value) : Prop := ∃ ao cap, v = .slice ao n cap ∧ n ≤ cap ∧ (0 < n → ∃ b o cur fz, ao = some ⟨b, o, none⟩ ∧ w.heap[b]? = some (.cells cur t fz) ∧ ∀ j u, xs[j]? = some u → cur[o + j]? = some u)
theorem rowT_of {t : TypeId} {w : World} {ao : Option Addr} {n cap : Nat} {xs : List Value} (h : RowV w (.slice ao n cap) n xs) (hb : 0 < n → ∀ b o, ao = some ⟨b, o, none⟩ → ∃ cur fz, w.heap[b]? = some (.cells cur t fz)) : RowT t w (.slice ao n cap) n xs := by
  obtain ⟨_, _, e, hc, f⟩ := h
  cases e
  refine ⟨ao, cap, rfl, hc, fun hn => ?_⟩
  obtain ⟨b, o, rfl, _, g⟩ := f hn
  obtain ⟨cur, fz, hk⟩ := hb hn b o rfl
  refine ⟨b, o, cur, fz, rfl, hk, fun j u hj => ?_⟩
  have h1 := g j u hj
  simp only [World.cell?, hk] at h1
  exact h1
theorem idAgg (w : World) : (isAgg 115).run Tryz.prog w = .ok true w := by kernel_rfl
theorem idSize (w : World) : (Go.sizeOf 115).run Tryz.prog w = .ok 2 w := by kernel_rfl
/-- IDs in a row of one's own, sorted. -/
theorem sort_ids (base : Nat) (v : Value) (l : List (Int × Int)) (hl : l.length ≤ 300000) (w : World) (hown : w.ownsRow base 115 2 v l.length (idsV l)) (hbw : base ≤ w.heap.size) :
    Calls Tryz.prog 85 #[v, .func (.func 86) #[] #[]] w fun ev w' => ev = .returned (.tuple #[]) ∧ ∃ l', l'.Perm l ∧ l'.Pairwise (fun x y => ¬ y.2 < x.2) ∧ RowT 115 w' v l'.length (idsV l') ∧ Below base w w' := by
  obtain ⟨h1, h2⟩ := hown
  rcases h2 with ⟨rfl, h0⟩ | ⟨g, cap, cur, rfl, hb, hg, hc, hcm, hs, ht⟩
  · have hnil : l = [] := List.eq_nil_of_length_eq_zero h0
    subst hnil
    have h := AnyF.slices_SortFunc_none (P := Tryz.prog) (ρ := sortL_ren) sortL none 0 (.func (.func 86) #[] #[]) w
    change Calls Tryz.prog 85 _ _ _ at h
    refine h.mono ?_
    rintro ev w' ⟨rfl, rfl⟩
    exact ⟨rfl, [], List.Perm.refl _, List.Pairwise.nil, ⟨none, 0, rfl, Nat.le_refl _, fun h => absurd h (by simp)⟩, Below.refl _ _⟩
  · have hcell : ∀ j u, (idsV l)[j]? = some u → w.cell? ⟨g, j, none⟩ = some u := fun j u hj => by
      rw [← ht, List.getElem?_take] at hj
      split at hj
      · rw [cell_of_row _ _ _ _ _ _ hg, ← Array.getElem?_toList]
        exact hj
      · cases hj
    have hH : HoldsK idEnc 2 w g 0 l.toArray := fun j hj => by
      refine ⟨?_, Lib.frozen_of_heap hg _⟩
      rw [Nat.zero_add]
      refine hcell j _ ?_
      rw [← flat_ids, Array.getElem?_toList, Array.getElem?_eq_getElem hj, getElem!_pos (flatK idEnc 2 l.toArray) j hj]
      rfl
    have eg : ∀ args w, (callFunc 86 args).run Tryz.prog w = .ok (.enter 86 args) w := fun args w => by kernel_rfl
    have h := AnyQ.slices_SortFunc (P := Tryz.prog) (ρ := sortL_ren) sortL 2 idAgg idSize idEnc (fun _ => rfl) (fun x v hv => by simp [idEnc] at hv; rcases hv with rfl | rfl <;> rfl) idCmp idSWO 86 #[] g 0 cap l.toArray w eg (fun m os dk _ x y => known_cmp x y _) hH (lt_of_heap hg) (by simp; omega)
    change Calls Tryz.prog 85 _ _ _ at h
    rw [List.size_toArray] at h
    refine h.mono ?_
    rintro ev w' ⟨rfl, d', n, os, hp, hsrt, rfl⟩
    have hds : d'.size = l.length := by rw [hp.1, List.size_toArray]
    have hperm : d'.toList.Perm l := by
      have h3 := hp.2.2
      rw [show d'.extract 0 l.length = d' by rw [← hds]; simp, show l.toArray.extract 0 l.length = l.toArray by simp] at h3
      exact h3
    have hpw : d'.toList.Pairwise (fun x y => ¬ y.2 < x.2) := by
      rw [List.pairwise_iff_getElem]
      intro i j hi hj hij hlt
      have h3 := hsrt i j (Nat.zero_le _) hij (by rw [← hds]; simpa using hj)
      rw [idLt] at h3
      have hi' : i < d'.size := by simpa using hi
      have hj' : j < d'.size := by simpa using hj
      rw [getElem!_pos d' i hi', getElem!_pos d' j hj'] at h3
      have := of_decide_eq_false h3
      simp only [Array.getElem_toList] at hlt
      omega
    refine ⟨rfl, d'.toList, hperm, hpw, ?_, ?_⟩
    · have hl' : d'.toList.length = l.length := by simpa using hds
      rw [hl']
      refine rowT_of ?_ (fun _ b o hbo => ?_)
      rotate_left
      · cases hbo
        refine ⟨putCells id 0 (flatK idEnc 2 d') cur, (0, 0), ?_⟩
        unfold sortWorldK
        rw [heap_grow_old _ _ (by rw [size_putRowK]; exact lt_of_heap hg)]
        simp [putRowK, putRow, mapBlock, Sort.ahead, Array.getElem?_modify, hg, onCells]
      refine ⟨_, _, rfl, hc, fun _ => ⟨g, 0, rfl, ?_, fun j u hj => ?_⟩⟩
      · unfold sortWorldK
        rw [size_grow, size_putRowK]
        have := lt_of_heap hg
        show g < w.heap.size + _
        omega
      · unfold sortWorldK
        rw [cell?_grow _ _ _ (by rw [size_putRowK]; exact lt_of_heap hg)]
        have hjl : j < (flatK idEnc 2 d').size := by
          have := (List.getElem?_eq_some_iff.1 hj).1
          rw [lenI, hl'] at this
          rw [size_flatK, hds]
          omega
        have h3 := cell?_putRow (id : Value → Value) (Sort.ahead w n) g 0 (flatK idEnc 2 l.toArray) (flatK idEnc 2 d') (fun j hj => hH j hj) (by simp [hds]) j hjl
        rw [show putRowK idEnc 2 (Sort.ahead w n) g 0 d' = putRow id (Sort.ahead w n) g 0 (flatK idEnc 2 d') from rfl, h3]
        rw [← flat_ids, Array.toArray_toList, Array.getElem?_toList, Array.getElem?_eq_getElem hjl] at hj
        rw [getElem!_pos (flatK idEnc 2 d') j hjl]
        cases hj
        rfl
    · unfold sortWorldK
      have hb1 : Below base w (putRowK idEnc 2 (Sort.ahead w n) g 0 d') := ⟨rfl, rfl, rfl, by rw [size_putRowK]; exact Nat.le_refl _, fun k hk => by
        simp [putRowK, putRow, mapBlock, Sort.ahead, Array.getElem?_modify, show g ≠ k by omega]⟩
      exact hb1.trans (Lib.below_grow base _ (by rw [size_putRowK]; exact hbw) 0 os)
end Go.Proofs.YtlifnjfmocjfjaaGreatDoor

/- IDs whose objects were come to, by their serials (known), by a contract. -/
namespace Go.Proofs.YtlifnjfmocjfjaaGreatDoor
open Go.RowKit Go.Maps

theorem infoID : ∃ i0, Tryz.prog.info? 115 = some i0 ∧ i0.zero = some (.agg #[.int .u64 0, .int .i64 0]) ∧ i0.size = 2 ∧ i0.bytes = 16 := info_parts (by kernel_rfl)
/-- Was its object come to? -/
def hasI (out : List Nat) (x : Int × Int) : Bool := decide (0 ≤ objI out (ptI x.1))
theorem has_of {D : DataW Unit} {out : List Nat} (hD : GNum D out) {nH : Nat} {hb : Nat → Bool} {x : Int} (hn : nH ≤ 300000) (h : ptrB nH hb x = true) : Maps.has D (.int .u64 x) = decide (0 ≤ objI out (ptI x)) := by
  unfold ptrB at h
  simp only [Bool.and_eq_true, decide_eq_true_eq] at h
  obtain ⟨f, hf⟩ : ∃ f : Nat, x = ((f : Int) + 1) * 4 := ⟨(x / 4 - 1).toNat, by omega⟩
  have hpt : ptI x = (f : Int) := by
    unfold ptI
    rw [if_pos (by omega)]
    omega
  rw [hpt, hf, hD.has]
  by_cases hm : f ∈ out
  · rw [decide_eq_true hm, decide_eq_true (objI_mem.2 hm)]
  · rw [decide_eq_false hm, decide_eq_false (fun h => hm (objI_mem.1 h))]
theorem idsV_snoc (l : List (Int × Int)) (x : Int × Int) : idsV (l ++ [x]) = idsV l ++ [.int .u64 x.1, .int .i64 x.2] := by simp [idsV]
theorem filter_step {I : List (Int × Int)} {p : Int × Int → Bool} {k : Nat} {x : Int × Int} (h : I[k]? = some x) : (I.take (k + 1)).filter p = (I.take k).filter p ++ (if p x then [x] else []) := by
  rw [List.take_add_one, h, List.filter_append]
  cases hp : p x <;> simp [hp]
/-- What known hands back. -/
def KnownPost (out : List Nat) (I : List (Int × Int)) (w : World) (ev : Ending) (w' : World) : Prop := ∃ v, ev = .returned v ∧ RowT 115 w' v ((ordI I).filter (hasI out)).length (idsV ((ordI I).filter (hasI out))) ∧ Below w.heap.size w w'
set_option maxHeartbeats 4000000 in
set_option maxRecDepth 100000 in
theorem known_any (bm n ol oc nH : Nat) (hbf : Nat → Bool) (hnH : nH ≤ 300000) (oo : Option Addr) (D : DataW Unit) (out : List Nat) (hD : GNum D out) (I : List (Int × Int)) (h64 : Ids64 I) (hok : idsB nH hbf I = true) (hl : I.length ≤ 300000) (ao : Option Addr) (cap : Nat) (w : World) (hM : w.ownsMap Tryz.prog 45 (plainElem Tryz.prog 3) bm n D) (hR : RowV w (.slice ao I.length cap) I.length (idsV I)) :
    Calls Tryz.prog 43 #[.agg #[.slice oo ol oc, .map (some bm)], .slice ao I.length cap] w (KnownPost out I w) := by
  have HD := toHid hD
  have HM := toHid hM
  have HR := toHid hR
  have H6 := toHid h64
  have HK := toHid hok
  obtain ⟨i0, hi0, hz0, hz1, hz2⟩ := infoID
  obtain ⟨PP, hPP⟩ : ∃ PP, PP = KnownPost out I w := ⟨_, rfl⟩
  rw [← hPP]
  have HPP := toHid hPP
  clear hD hM hR h64 hok hPP
  go_enter Tryz.func43, Tryz.ntmps43
  go_upto_block 0 with fail
  obtain ⟨w1, hw1⟩ : ∃ w1, w1 = w.alloc (.cells #[.slice oo ol oc, .map (some bm)] 106) := ⟨_, rfl⟩
  obtain ⟨q, hq⟩ : ∃ q, q = w.heap.size := ⟨_, rfl⟩
  have gb : w1.heap[q]? = some (.cells #[.slice oo ol oc, .map (some bm)] 106) := by rw [hw1, hq]; exact heap_alloc_new _ _
  have b1 : Below w.heap.size w w1 := by rw [hw1]; exact (Below.refl _ _).alloc (Nat.le_refl _) _
  have g1 : w1.cell? ⟨q, 1, none⟩ = some (.map (some bm)) := by rw [cell_of_row _ _ 1 _ _ _ gb]; rfl
  rw [← hw1, ← hq]
  have HG1 := toHid g1
  have HB1 := toHid b1
  have HM1 := toHid (own_kept3 HM.out b1)
  have HR1 := toHid (HR.out.below b1)
  clear hw1 hq gb b1 g1 HM HR
  go_wp2_with fail
  go_loopg [5, 12] (I.length + 1) (fun gk vo vi wr => ∃ (k ml cp : Nat) (oa : Option Addr), gk = I.length + 1 - k ∧ k ≤ I.length ∧ vi = .int .i64 (k : Int) ∧ vo = .slice oa ml cp ∧ Below w1.heap.size w1 wr ∧ Hid (ml = ((I.take k).filter (hasI out)).length) ∧ Hid (wr.ownsRow w1.heap.size 115 2 (.slice oa ml cp) ((I.take k).filter (hasI out)).length (idsV ((I.take k).filter (hasI out)))))
  case atStart => exact ⟨0, 0, 0, none, rfl, Nat.zero_le _, rfl, rfl, Below.refl _ _, rfl, World.ownsRow_nil _ _ _ _⟩
  case round =>
    obtain ⟨k, ml, cp, oa, hgk, hk, rfl, rfl, hb, hml0, hown⟩ := hrel
    have HG := toHid hgk
    have hk0 : (0 : Int) ≤ (k : Int) := by omega
    have HB := toHid hb
    clear hgk hb
    by_cases hlt : k < I.length
    · have hI : (k : Int) < (I.length : Int) := by omega
      obtain ⟨⟨xa, xs⟩, hx⟩ : ∃ x, I[k]? = some x := ⟨_, List.getElem?_eq_getElem hlt⟩
      obtain ⟨_, _, e, _, f1⟩ := HR1.out
      cases e
      obtain ⟨p1, o1, rfl, l1, g1⟩ := f1 (by omega)
      have r0 : wr.cell? ⟨p1, o1 + k * 2, none⟩ = some (.int .u64 xa) := (HB.out.cell (p := ⟨p1, o1 + k * 2, none⟩) l1).trans (g1 (k * 2) _ (ids_at hx).1)
      have r1 : wr.cell? ⟨p1, o1 + k * 2 + 1, none⟩ = some (.int .i64 xs) := (HB.out.cell (p := ⟨p1, o1 + k * 2 + 1, none⟩) l1).trans (g1 (k * 2 + 1) _ (ids_at hx).2)
      have hx64 := H6.out _ (List.mem_of_getElem? hx)
      simp only at hx64
      have hkx : Hid (keyOf Tryz.prog 45 (.int .u64 xa) = some (.int .u64 xa)) := keyOf_int_mk Tryz.underlying45 (wf_u hx64.1.1 hx64.1.2)
      have hhas := has_of HD.out hnH (ids_ptr HK.out _ (List.mem_of_getElem? hx))
      have HST : Hid ((I.take (k + 1)).filter (hasI out) = (I.take k).filter (hasI out) ++ (if hasI out (xa, xs) then [(xa, xs)] else [])) := filter_step hx
      have hml : ((I.take k).filter (hasI out)).length ≤ 300000 := Nat.le_trans (List.length_filter_le _ _) (by rw [List.length_take]; omega)
      generalize (I.take k).filter (hasI out) = M at *
      have hmm := hml0.out
      subst hmm
      go_upto_region 5 with fail
      obtain ⟨w2, hw2⟩ : ∃ w2, w2 = wr.alloc (.cells #[.int .u64 xa, .int .i64 xs] 115) := ⟨_, rfl⟩
      obtain ⟨q2, hq2⟩ : ∃ q2, q2 = wr.heap.size := ⟨_, rfl⟩
      have ob2 : w2.heap[q2]? = some (.cells #[.int .u64 xa, .int .i64 xs] 115) := by rw [hw2, hq2]; exact heap_alloc_new _ _
      have b2 : Below w1.heap.size w1 w2 := by rw [hw2]; exact HB.out.alloc HB.out.size _
      have own2 : Hid (w2.ownsRow w1.heap.size 115 2 (.slice oa M.length cp) M.length (idsV M)) := by rw [hw2]; exact hown.out.alloc _
      have c20 : w2.cell? ⟨q2, 0, none⟩ = some (.int .u64 xa) := by rw [cell_of_row _ _ 0 _ _ _ ob2]; rfl
      have c21 : w2.cell? ⟨q2, 1, none⟩ = some (.int .i64 xs) := by rw [cell_of_row _ _ 1 _ _ _ ob2]; rfl
      have gg : w2.cell? ⟨q, 1, none⟩ = some (.map (some bm)) := (b2.cell (p := ⟨q, 1, none⟩) (lt_of_cell HG1.out)).trans HG1.out
      rw [← hw2, ← hq2]
      have HM2 := toHid (own_kept3 HM1.out b2)
      have HB2 := toHid b2
      clear hw2 hq2 ob2 b2 f1 g1 hx hown r0 r1 hx64
      cases hh : decide (0 ≤ objI out (ptI xa)) with
      | true =>
        rw [hh] at hhas
        have hst : Hid (hasI out (xa, xs) = true) := hh
        clear hh
        go_wp2_with (first | (at_lookup; refine wpList_lookup_own_ok_int _ rfl _ _ 104 rfl 45 3 .i64 lawU Tryz.underlying104 Tryz.underlying3 (zeroI _) bm n _ rfl HM2.out _ _ rfl hkx.out ?_; intro c0 hat hwc; clear hat hwc) | (at_builtin; refine wpList_append_lies _ rfl _ _ _ rfl w1.heap.size 115 i0 (.agg #[.int .u64 0, .int .i64 0]) 2 16 Tryz.underlying46 hi0 hz0 hz1 hz2 rfl (by decide) (.slice oa M.length cp) M.length (idsV M) rfl (own2.out.alloc _) ⟨w2.heap.size, 0, none⟩ 1 1 [.int .u64 xa, .int .i64 xs] rfl rfl (World.news_of_block (cs := #[.int .u64 xa, .int .i64 xs]) (t := 115) (heap_alloc_new _ _)) (fun u hu => by simp at hu; rcases hu with rfl | rfl <;> rfl) (by decide) (by unfold maxLen; omega) (by omega) (by have := HB2.out.size; simp; omega) _ rfl ?_; intro g' cap' w3 hown3 hgrow3 hat3 hlt3))
        go_roundg (I.length + 1 - (k + 1))
        case measure => have := HG.out; omega
        case rel =>
          refine ⟨k + 1, M.length + 1, cap', some ⟨g', 0, none⟩, rfl, by omega, by go_num, rfl, (HB2.out.alloc HB2.out.size _).grown hgrow3 (by have := HB2.out.size; simp; omega) (fun k hk => (own_lt2 own2.out k hk).1), ?_, ?_⟩
          · show _ = _
            rw [HST.out, hst.out]
            simp
          · show World.ownsRow _ _ _ _ _ _ _
            rw [HST.out, hst.out, if_pos rfl, idsV_snoc, List.length_append]
            exact hown3
      | false =>
        rw [hh] at hhas
        have hst : Hid (hasI out (xa, xs) = false) := hh
        clear hh
        go_wp2_with (first | (at_lookup; refine wpList_lookup_own_ok_int _ rfl _ _ 104 rfl 45 3 .i64 lawU Tryz.underlying104 Tryz.underlying3 (zeroI _) bm n _ rfl HM2.out _ _ rfl hkx.out ?_; intro c0 hat hwc; clear hat hwc))
        go_roundg (I.length + 1 - (k + 1))
        case measure => have := HG.out; omega
        case rel => exact ⟨k + 1, M.length, cp, oa, rfl, by omega, by go_num, rfl, HB2.out, by show _ = _; rw [HST.out, hst.out]; simp, by show World.ownsRow _ _ _ _ _ _ _; rw [HST.out, hst.out]; simpa using own2.out⟩
    · have hI : ¬ (k : Int) < (I.length : Int) := by omega
      have hkk : k = I.length := by omega
      have hown2 := hown.out
      have hml2 := hml0.out
      rw [hkk, List.take_of_length_le (Nat.le_refl _)] at hown2 hml2
      have hfl : (I.filter (hasI out)).length ≤ 300000 := Nat.le_trans (List.length_filter_le _ _) hl
      have ks := sort_ids w1.heap.size _ (I.filter (hasI out)) hfl wr hown2 HB.out.size
      have HB3 := toHid (HB1.out.trans (HB.out.mono HB1.out.size))
      have hbs : w.heap.size ≤ w1.heap.size := HB1.out.size
      clear hown2 hml2 hkk hown hml0 hfl
      go_wp2_with fail
      refine ks.mono ?_
      rintro ev w4 ⟨rfl, l', hp, hs, hrow, hb4⟩
      have HE : Hid (PP (.returned (.slice oa ml cp)) w4) := by
        rw [HPP.out]
        have e := ord_filter (ids_ok HK.out) (hasI out) hp (hs.imp (fun h => by omega))
        rw [e] at hrow
        exact ⟨_, rfl, hrow, HB3.out.trans (hb4.mono hbs)⟩
      clear hp hs hrow hb4 ks
      go_wp2_with fail
      exact HE.out
end Go.Proofs.YtlifnjfmocjfjaaGreatDoor

/- Graph: how its lines and its graph stand; lines as lists of bytes. -/
namespace Go.Proofs.YtlifnjfmocjfjaaGreatDoor
open Go.RowKit Go.Maps

theorem others_cells {e b k : Nat} {w w' : World} {cs : Array Value} {t : TypeId} {fz : Nat × Nat} (h : Lib.OthersKept e (some b) w w') (hk : w.heap[k]? = some (.cells cs t fz)) (hb : k ≠ b) (ht : t ≠ e) : w'.heap[k]? = some (.cells cs t fz) :=
  h k _ hk (by simpa using hb) (by intro c f x; cases x; exact ht rfl)
/-- Lines so far, at bl; a graph at qg. -/
structure GW (qg bl bm n ol oc : Nat) (oo : Option Addr) (D : DataW Unit) (B : Nat) (xs : List (List Value)) (w0 : World) (acc : List UInt8) (w : World) : Prop where
  below : Below w0.heap.size w0 w
  lo : w0.heap.size ≤ bl
  bld : Lib.IsBuilderF 102 5 bl bl (Lib.byteCells acc) w
  nil : acc = [] → ∃ p, w.heap[bl]? = some (.cells #[p, .slice none 0 0] 102 (0, 0))
  gr : w.heap[qg]? = some (.cells #[.slice oo ol oc, .map (some bm)] 106)
  row : w.ownsRow B 111 3 (.slice oo ol oc) ol xs.flatten
  map : w.ownsMap Tryz.prog 45 (plainElem Tryz.prog 3) bm n D
theorem GW.lt {qg bl bm n ol oc : Nat} {oo : Option Addr} {D : DataW Unit} {B : Nat} {xs : List (List Value)} {w0 w : World} {acc : List UInt8} (h : GW qg bl bm n ol oc oo D B xs w0 acc w) : bl < w.heap.size := lbuilder_lt h.bld
theorem GW.keep {qg bl bm n ol oc : Nat} {oo : Option Addr} {D : DataW Unit} {B : Nat} {xs : List (List Value)} {w0 w w' : World} {acc : List UInt8} (h : GW qg bl bm n ol oc oo D B xs w0 acc w) (hb : Below w.heap.size w w') : GW qg bl bm n ol oc oo D B xs w0 acc w' :=
  ⟨h.below.trans (hb.mono h.below.size), h.lo, lbuilder_below h.bld hb, fun e => by
    obtain ⟨p, hp⟩ := h.nil e
    exact ⟨p, (hb.block _ (lt_of_heap hp)).trans hp⟩, (hb.block _ (lt_of_heap h.gr)).trans h.gr, ownsRow_far' h.row (fun k hk => hb.block k (own_lt2 h.row k hk).2), own_kept3 h.map hb⟩
theorem GW.block {qg bl bm n ol oc : Nat} {oo : Option Addr} {D : DataW Unit} {B : Nat} {xs : List (List Value)} {w0 w : World} {acc : List UInt8} (h : GW qg bl bm n ol oc oo D B xs w0 acc w) : ∃ cs, w.heap[bl]? = some (.cells cs 102 (0, 0)) := by
  rcases h.bld with ⟨_, v, hb, _⟩ | ⟨_, v, hb, _⟩
  · exact ⟨_, hb⟩
  · exact ⟨_, hb⟩
theorem GW.write {qg bl bm n ol oc : Nat} {oo : Option Addr} {D : DataW Unit} {B : Nat} {xs : List (List Value)} {w0 w w' : World} {acc acc' : List UInt8} {ev : Ending} (h : GW qg bl bm n ol oc oo D B xs w0 acc w) (hp : LinePost bl bl acc' w ev w') (hne : acc' ≠ []) : GW qg bl bm n ol oc oo D B xs w0 acc' w' := by
  obtain ⟨_, h1, h2, h3⟩ := hp
  obtain ⟨cs, hbl⟩ := h.block
  have hg : qg ≠ bl := fun e => by
    subst e
    have := h.gr.symm.trans hbl
    simp at this
  refine ⟨h.below.trans (h2.mono h.lo), h.lo, h1, fun e => absurd e hne, others_cells h3 h.gr hg (by decide), ?_, ?_⟩
  · refine ownsRow_far' h.row (fun k hk => ?_)
    obtain ⟨_, hr⟩ := h.row
    rcases hr with ⟨e, _⟩ | ⟨g, cap, cur, e, _, hgk, _⟩
    · rw [e] at hk
      simp [Value.ownBlock] at hk
    · rw [e] at hk
      simp only [Value.ownBlock, Option.some.injEq] at hk
      subst hk
      rw [hgk]
      refine others_cells h3 hgk (fun e => ?_) (by decide)
      subst e
      have := hgk.symm.trans hbl
      simp at this
  · refine own_keptG h.map ?_
    obtain ⟨es, clock, h4, _⟩ := h.map
    rw [h4]
    refine h3 bm _ h4 (fun e => ?_) (by simp)
    cases e
    have := h4.symm.trans hbl
    simp at this
/-- Words with blanks between, by the first one. -/
theorem joinB_cons (x : ByteArray) : ∀ l : List ByteArray, joinB (x :: l) = x.data.toList ++ l.flatMap (fun t => 32 :: t.data.toList)
  | [] => by simp [joinB, Lib.join, List.intercalate]
  | y :: l => by
    have h := joinB_cons y l
    have e : joinB (x :: y :: l) = x.data.toList ++ (32 :: joinB (y :: l)) := by simp [joinB, Lib.join, List.intercalate]
    rw [e, h]
    simp
theorem join_len {l : List ByteArray} (c : Nat) (h : ∀ t ∈ l, t.size ≤ c) : (l.flatMap (fun t => 32 :: t.data.toList)).length ≤ l.length * (c + 1) := by
  induction l with
  | nil => simp
  | cons t l ih =>
    have h1 := ih (fun t ht => h t (List.mem_cons_of_mem _ ht))
    have h2 := h t (List.mem_cons_self ..)
    have h3 : t.data.toList.length = t.size := Array.length_toList
    rw [List.flatMap_cons, List.length_append, List.length_cons, List.length_cons, Nat.add_mul]
    omega
theorem line2 (A s t : ByteArray) (s' : ByteArray) (hs : s'.data.toList = s.data.toList ++ [32]) : (((A ++ s') ++ t) ++ ⟨#[10]⟩).data.toList = A.data.toList ++ (joinB [s, t] ++ [10]) := by
  rw [joinB_cons]
  simp [ByteArray.data_append, hs]
end Go.Proofs.YtlifnjfmocjfjaaGreatDoor
