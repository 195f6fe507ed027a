/- Byte and Quoted of the document's answer, by contracts (as for the Lex laws). -/
import Derived.Test.YtgpfjlejmcdpmaaDoorCodP
import Derived.Laws.Concat
import Derived.Deep.RegionHeld3
import Derived.Deep.DrawnRows
namespace Go.Proofs.YtgpfjlejmcdpmaaDoor
open Go.RowKit

theorem cell_new {w : World} {c : Array Value} {t : TypeId} {n i : Nat} {v : Value} (hn : n = w.heap.size) (h : c[i]? = some v) : (w.alloc (.cells c t)).cell? ⟨n, i, none⟩ = some v := by
  rw [World.cell?_alloc_at _ _ _ _ hn]; exact h
theorem byte_any (n : Nat) (hn : n ≤ 255) (w : World) :
    Calls Tryd.prog 35 #[.int .i64 (n : Int)] w fun ev w' => ev = .returned (.string (strOfNums [(n : Int)])) ∧ Below w.heap.size w w' := by
  have hI : (n : Int) ≤ 255 := by omega
  have hm : (n : Int) % 256 = (n : Int) := by omega
  have hcv := run_convert_bytes_arg (P := Tryd.prog) (w.alloc (.cells #[.int .u8 (n : Int)] 5)) 51 5 Tryd.underlying51 Tryd.underlying5 w.heap.size 0 1 1 [(n : Int)] rfl (fun k hk => by
    obtain rfl : k = 0 := by omega
    exact cell_new rfl rfl) 9 Tryd.underlying9
  go_enter Tryd.func35, Tryd.ntmps35
  go_wp2
  go_ret
  exact ⟨rfl, (Below.refl _ _).alloc (Nat.le_refl _) _⟩

def hexDig (n : Nat) : UInt8 := ([48, 49, 50, 51, 52, 53, 54, 55, 56, 57, 97, 98, 99, 100, 101, 102] : List UInt8).getD n 0
/-- A byte, as it is written in a str. -/
def escB (c : UInt8) : List UInt8 :=
  if c.toNat = 10 then [92, 110]
  else if c.toNat = 34 then [92, 34]
  else if c.toNat = 92 then [92, 92]
  else if c.toNat < 32 ∨ 126 < c.toNat then [92, 120, hexDig (c.toNat / 16), hexDig (c.toNat % 16)]
  else [c]
def outB (l : List UInt8) : ByteArray := ⟨([34] ++ l.flatMap escB).toArray⟩
def quotedB (l : List UInt8) : ByteArray := ⟨([34] ++ l.flatMap escB ++ [34]).toArray⟩

theorem escB_len (c : UInt8) : (escB c).length ≤ 4 := by
  unfold escB
  repeat (first | split | simp)
theorem flat_len : ∀ l : List UInt8, (l.flatMap escB).length ≤ 4 * l.length
  | [] => by simp
  | c :: r => by
    have := escB_len c
    have := flat_len r
    simp only [List.flatMap_cons, List.length_append, List.length_cons]
    omega
theorem outB_size (l : List UInt8) : (outB l).size ≤ 4 * l.length + 1 := by
  have := flat_len l
  simp only [outB, ByteArray.size, List.size_toArray, List.length_append, List.length_cons, List.length_nil]
  omega
theorem outB_snoc (l : List UInt8) (c : UInt8) : outB (l ++ [c]) = outB l ++ ⟨(escB c).toArray⟩ := by
  apply ByteArray.ext
  simp [outB]
theorem quoted_eq (l : List UInt8) : quotedB l = outB l ++ ⟨#[34]⟩ := by
  apply ByteArray.ext
  simp [quotedB, outB]
theorem take_snoc (s : ByteArray) (k : Nat) (h : k < s.size) : s.data.toList.take (k + 1) = s.data.toList.take k ++ [s[k]] := by
  rw [List.take_succ_eq_append_getElem (by simpa using h)]; rfl

theorem nat_of_beq {n : Nat} {z : Int} (h : ((n : Int) == z) = true) : (n : Int) = z := by simpa using h
theorem nat_of_beqf {n : Nat} {z : Int} (h : ((n : Int) == z) = false) : ¬ (n : Int) = z := by simpa using h
theorem ret_str {a b : ByteArray} (h : a = b) : Ending.returned (.string a) = .returned (.string b) := by rw [h]
theorem hex_cut (a : Nat) (h : a ≤ 15) : (⟨#[48, 49, 50, 51, 52, 53, 54, 55, 56, 57, 97, 98, 99, 100, 101, 102]⟩ : ByteArray).extract ((a : Int)).toNat (((a : Int) + 1)).toNat = ⟨[hexDig a].toArray⟩ := by
  rw [show ((a : Int)).toNat = a by omega, show (((a : Int) + 1)).toNat = a + 1 by omega]
  iterate 16 (rcases a with _ | a; · rfl)
  omega
theorem strs_append (o : ByteArray) (a b : List UInt8) : o ++ (⟨a.toArray⟩ : ByteArray) ++ (⟨b.toArray⟩ : ByteArray) = o ++ (⟨(a ++ b).toArray⟩ : ByteArray) := by
  apply ByteArray.ext
  simp
theorem nums_one (c : UInt8) : strOfNums [(c.toNat : Int)] = ⟨[c].toArray⟩ := by
  simp [strOfNums]
theorem size_one (c : UInt8) : (strOfNums [(c.toNat : Int)]).size = 1 := by rw [nums_one]; rfl
theorem size_app (a b : ByteArray) : (a ++ b).size = a.size + b.size := ByteArray.size_append

set_option maxHeartbeats 1000000 in
theorem quoted_fn (s : ByteArray) (hs : s.size ≤ 1048576) (w : World) :
    Calls Tryd.prog 25 #[.string s] w fun ev w' => ev = .returned (.string (quotedB s.data.toList)) ∧ Below w.heap.size w w' := by
  go_enter Tryd.func25, Tryd.ntmps25
  go_wp2
  go_loopg [4, 5] (s.size + 1) (fun gk v4 v5 wr => ∃ k : Nat, gk = s.size + 1 - k ∧ k ≤ s.size ∧ v4 = .string (outB (s.data.toList.take k)) ∧ v5 = .int .i64 (k : Int) ∧ Below w.heap.size w wr)
  case atStart => exact ⟨0, rfl, Nat.zero_le _, rfl, rfl, Below.refl _ _⟩
  case round =>
    obtain ⟨k, hgk, hk, hv4, hv5, hb⟩ := hrel
    subst hv4 hv5
    have HG : Hid (gk = s.size + 1 - k) := hgk
    clear hgk
    have hlen : (s.data.toList.take k).length ≤ k := List.length_take_le _ _
    have hoz := outB_size (s.data.toList.take k)
    by_cases hlt : k < s.size
    · have hI : (k : Int) < (s.size : Int) := by omega
      have hI0 : (0 : Int) ≤ (k : Int) := by omega
      have hts := take_snoc s k hlt
      have hsn : outB (s.data.toList.take (k + 1)) = outB (s.data.toList.take k) ++ ⟨(escB s[k]).toArray⟩ := by rw [hts, outB_snoc]
      have HSN : Hid (outB (s.data.toList.take (k + 1)) = outB (s.data.toList.take k) ++ ⟨(escB s[k]).toArray⟩) := hsn
      clear hts hsn
      have hc1 : s[k].toNat ≤ 255 := by have := s[k].toNat_lt; omega
      have hC1 : (s[k].toNat : Int) ≤ 255 := by omega
      have hC0 : (0 : Int) ≤ (s[k].toNat : Int) := by omega
      generalize hog : outB (s.data.toList.take k) = o at hoz HSN ⊢
      clear hog
      have hosz : o.size ≤ 4194305 := by omega
      cases e10 : ((s[k].toNat : Int) == 10)
      rotate_left
      · have a1 := fun wx => run_string_add (P := Tryd.prog) wx o (strOfNums [92]) (by omega) (by decide)
        have a2 := fun wx => run_string_add (P := Tryd.prog) wx (o ++ strOfNums [92]) ⟨#[110]⟩ (by simp [ByteArray.size_append]; have : (strOfNums [92]).size = 1 := rfl; omega) (by decide)
        go_wp2_with fail
        refine (byte_any 92 (by decide) _).mono ?_
        rintro ev w1 ⟨rfl, hb1⟩
        go_wp2_with fail
        go_roundg (s.size + 1 - (k + 1))
        case measure => have := HG.out; omega
        case rel =>
          refine ⟨k + 1, rfl, by omega, ?_, by go_num, hb.trans (hb1.mono hb.size)⟩
          rw [HSN.out]
          have e : escB s[k] = [92] ++ [110] := by simp [escB, show s[k].toNat = 10 by have := nat_of_beq e10; omega]
          rw [e, ← strs_append]
          rfl
      have n10 : ¬ s[k].toNat = 10 := by have := nat_of_beqf e10; omega
      cases e34 : ((s[k].toNat : Int) == 34)
      rotate_left
      · have a1 := fun wx => run_string_add (P := Tryd.prog) wx o (strOfNums [92]) (by omega) (by decide)
        have a2 := fun wx => run_string_add (P := Tryd.prog) wx (o ++ strOfNums [92]) (strOfNums [(s[k].toNat : Int)]) (by rw [size_app]; have : (strOfNums [92]).size = 1 := rfl; omega) (by rw [size_one]; decide)
        go_wp2_with fail
        refine (byte_any 92 (by decide) _).mono ?_
        rintro ev w1 ⟨rfl, hb1⟩
        go_wp2_with fail
        refine (byte_any s[k].toNat hc1 _).mono ?_
        rintro ev w2 ⟨rfl, hb2⟩
        go_wp2_with fail
        go_roundg (s.size + 1 - (k + 1))
        case measure => have := HG.out; omega
        case rel =>
          refine ⟨k + 1, rfl, by omega, ?_, by go_num, (hb.trans (hb1.mono hb.size)).trans (hb2.mono (Nat.le_trans hb.size hb1.size))⟩
          rw [HSN.out]
          have e : escB s[k] = [92] ++ [s[k]] := by
            have h34 : s[k].toNat = 34 := by have := nat_of_beq e34; omega
            have : s[k] = 34 := by apply UInt8.toNat_inj.1; rw [h34]; rfl
            simp [escB, this]
          rw [e, ← strs_append, nums_one]
          rfl
      have n34 : ¬ s[k].toNat = 34 := by have := nat_of_beqf e34; omega
      cases e92 : ((s[k].toNat : Int) == 92)
      rotate_left
      · have a1 := fun wx => run_string_add (P := Tryd.prog) wx o (strOfNums [92]) (by omega) (by decide)
        have a2 := fun wx => run_string_add (P := Tryd.prog) wx (o ++ strOfNums [92]) (strOfNums [(s[k].toNat : Int)]) (by rw [size_app]; have : (strOfNums [92]).size = 1 := rfl; omega) (by rw [size_one]; decide)
        go_wp2_with fail
        refine (byte_any 92 (by decide) _).mono ?_
        rintro ev w1 ⟨rfl, hb1⟩
        go_wp2_with fail
        refine (byte_any s[k].toNat hc1 _).mono ?_
        rintro ev w2 ⟨rfl, hb2⟩
        go_wp2_with fail
        go_roundg (s.size + 1 - (k + 1))
        case measure => have := HG.out; omega
        case rel =>
          refine ⟨k + 1, rfl, by omega, ?_, by go_num, (hb.trans (hb1.mono hb.size)).trans (hb2.mono (Nat.le_trans hb.size hb1.size))⟩
          rw [HSN.out]
          have e : escB s[k] = [92] ++ [s[k]] := by
            have h92 : s[k].toNat = 92 := by have := nat_of_beq e92; omega
            have : s[k] = 92 := by apply UInt8.toNat_inj.1; rw [h92]; rfl
            simp [escB, this]
          rw [e, ← strs_append, nums_one]
          rfl
      have n92 : ¬ s[k].toNat = 92 := by have := nat_of_beqf e92; omega
      by_cases hp : s[k].toNat < 32 ∨ 126 < s[k].toNat
      · have a1 := fun wx => run_string_add (P := Tryd.prog) wx o (strOfNums [92]) (by omega) (by decide)
        have a2 := fun wx => run_string_add (P := Tryd.prog) wx (o ++ strOfNums [92]) ⟨#[120]⟩ (by rw [size_app]; have : (strOfNums [92]).size = 1 := rfl; omega) (by decide)
        obtain ⟨a, ha⟩ : ∃ a, a = s[k].toNat / 16 := ⟨_, rfl⟩
        obtain ⟨b, hbb⟩ : ∃ b, b = s[k].toNat % 16 := ⟨_, rfl⟩
        have HA : Hid (a = s[k].toNat / 16) := ha
        have HB : Hid (b = s[k].toNat % 16) := hbb
        have ta : (s[k].toNat : Int).tdiv 16 = (a : Int) := by rw [Int.tdiv_eq_ediv_of_nonneg (by omega)]; omega
        have tb : (s[k].toNat : Int).tmod 16 = (b : Int) := by rw [Int.tmod_eq_emod_of_nonneg (by omega)]; omega
        have ha15 : (a : Int) ≤ 15 := by omega
        have hb15 : (b : Int) ≤ 15 := by omega
        have ha0 : (0 : Int) ≤ (a : Int) := by omega
        have hb0 : (0 : Int) ≤ (b : Int) := by omega
        have wa : IntKind.i64.wrap (a : Int) = (a : Int) := wrap_small _ (by omega) (by omega)
        have wb : IntKind.i64.wrap (b : Int) = (b : Int) := wrap_small _ (by omega) (by omega)
        have wa1 : IntKind.i64.wrap ((a : Int) + 1) = (a : Int) + 1 := wrap_small _ (by omega) (by omega)
        have wb1 : IntKind.i64.wrap ((b : Int) + 1) = (b : Int) + 1 := wrap_small _ (by omega) (by omega)
        clear ha hbb
        have sa := fun wx => run_slice_string (P := Tryd.prog) wx 9 (⟨#[48, 49, 50, 51, 52, 53, 54, 55, 56, 57, 97, 98, 99, 100, 101, 102]⟩ : ByteArray) .i64 .i64 (a : Int) ((a : Int) + 1) Tryd.underlying9 ha0 (by omega) (by show (a : Int) + 1 ≤ 16; omega)
        have sb := fun wx => run_slice_string (P := Tryd.prog) wx 9 (⟨#[48, 49, 50, 51, 52, 53, 54, 55, 56, 57, 97, 98, 99, 100, 101, 102]⟩ : ByteArray) .i64 .i64 (b : Int) ((b : Int) + 1) Tryd.underlying9 hb0 (by omega) (by show (b : Int) + 1 ≤ 16; omega)
        have xa := hex_cut a (by omega)
        have xb := hex_cut b (by omega)
        rw [xa] at sa
        rw [xb] at sb
        generalize hga : (⟨[hexDig a].toArray⟩ : ByteArray) = da at sa
        generalize hgb : (⟨[hexDig b].toArray⟩ : ByteArray) = db at sb
        have HXA : Hid ((⟨[hexDig a].toArray⟩ : ByteArray) = da) := hga
        have HXB : Hid ((⟨[hexDig b].toArray⟩ : ByteArray) = db) := hgb
        have za : da.size = 1 := by rw [← hga]; rfl
        have zb : db.size = 1 := by rw [← hgb]; rfl
        clear xa xb hga hgb
        have a3 := fun wx => run_string_add (P := Tryd.prog) wx (o ++ strOfNums [92] ++ ⟨#[120]⟩) da (by rw [size_app, size_app]; have : (strOfNums [92]).size = 1 := rfl; have : (⟨#[120]⟩ : ByteArray).size = 1 := rfl; omega) (by omega)
        have a4 := fun wx => run_string_add (P := Tryd.prog) wx (o ++ strOfNums [92] ++ ⟨#[120]⟩ ++ da) db (by rw [size_app, size_app, size_app]; have : (strOfNums [92]).size = 1 := rfl; have : (⟨#[120]⟩ : ByteArray).size = 1 := rfl; omega) (by omega)
        clear za zb
        rcases hp with hp' | hp'
        · have l32 : (s[k].toNat : Int) < 32 := by omega
          go_wp2_with fail
          go_region_held3 (fun _ => True) (exact trivial) ((go_at_call 35; refine (byte_any 92 (by decide) _).mono ?_; rintro ev w1 ⟨rfl, hb1⟩))
          go_wp2_with fail
          go_roundg (s.size + 1 - (k + 1))
          case measure => have := HG.out; omega
          case rel =>
            refine ⟨k + 1, rfl, by omega, ?_, by go_num, hb.trans ((Below.drew (Below.refl _ _)).trans (hb1.mono hb.size))⟩
            rw [HSN.out]
            have e : escB s[k] = [92] ++ [120] ++ [hexDig a] ++ [hexDig b] := by rw [HA.out, HB.out]; simp [escB, n10, n34, n92, hp']
            rw [e, ← strs_append, ← strs_append, ← strs_append, ← HXA.out, ← HXB.out]
            rfl
        · have l32 : ¬ (s[k].toNat : Int) < 32 := by omega
          have g126 : 126 < (s[k].toNat : Int) := by omega
          go_wp2_with fail
          go_region_held3 (fun _ => True) (exact trivial) ((go_at_call 35; refine (byte_any 92 (by decide) _).mono ?_; rintro ev w1 ⟨rfl, hb1⟩))
          go_wp2_with fail
          go_roundg (s.size + 1 - (k + 1))
          case measure => have := HG.out; omega
          case rel =>
            refine ⟨k + 1, rfl, by omega, ?_, by go_num, hb.trans ((Below.drew (Below.refl _ _)).trans (hb1.mono hb.size))⟩
            rw [HSN.out]
            have e : escB s[k] = [92] ++ [120] ++ [hexDig a] ++ [hexDig b] := by rw [HA.out, HB.out]; simp [escB, n10, n34, n92, hp']
            rw [e, ← strs_append, ← strs_append, ← strs_append, ← HXA.out, ← HXB.out]
            rfl
      · have l32 : ¬ (s[k].toNat : Int) < 32 := by omega
        have g126 : ¬ 126 < (s[k].toNat : Int) := by omega
        have a1 := fun wx => run_string_add (P := Tryd.prog) wx o (strOfNums [(s[k].toNat : Int)]) (by omega) (by rw [size_one]; decide)
        go_wp2_with fail
        refine (byte_any s[k].toNat hc1 _).mono ?_
        rintro ev w2 ⟨rfl, hb2⟩
        go_wp2_with fail
        go_roundg (s.size + 1 - (k + 1))
        case measure => have := HG.out; omega
        case rel =>
          refine ⟨k + 1, rfl, by omega, ?_, by go_num, hb.trans (hb2.mono hb.size)⟩
          rw [HSN.out]
          have e : escB s[k] = [s[k]] := by simp [escB, n10, n34, n92, hp]
          rw [e, nums_one]
    · have hke : s.data.toList.take k = s.data.toList := List.take_of_length_le (by simp; omega)
      have HKE : Hid (s.data.toList.take k = s.data.toList) := hke
      have a1 := fun wx => run_string_add (P := Tryd.prog) wx (outB (s.data.toList.take k)) ⟨#[34]⟩ (by omega) (by decide)
      clear hke
      go_wp2_with fail
      go_ret
      exact ⟨ret_str (by rw [quoted_eq, HKE.out]), hb⟩
end Go.Proofs.YtgpfjlejmcdpmaaDoor
