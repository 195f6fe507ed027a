/- Package lex: words, names, by contracts. -/
import Derived.Test.YtajkahckmhipkaaGreatDoorLexDToLexE
import Derived.Laws.Rows
namespace Go.Proofs.YtajkahckmhipkaaGreatDoor
open Go.RowKit

/-- The words of the language, in the order of the program's table. -/
def wordList : List (List UInt8) := [[97, 110, 100], [98, 114, 101, 97, 107], [99, 111, 110, 116, 105, 110, 117, 101], [100, 101, 102], [100, 101, 108], [101, 108, 105, 102], [101, 108, 115, 101], [101, 120, 99, 101, 112, 116], [70, 97, 108, 115, 101], [102, 111, 114], [103, 108, 111, 98, 97, 108], [105, 102], [105, 110], [105, 115], [108, 97, 109, 98, 100, 97], [78, 111, 110, 101], [110, 111, 110, 108, 111, 99, 97, 108], [110, 111, 116], [111, 114], [112, 97, 115, 115], [114, 97, 105, 115, 101], [114, 101, 116, 117, 114, 110], [84, 114, 117, 101], [116, 114, 121], [119, 104, 105, 108, 101]]
def wordAt (k : Nat) : ByteArray := ⟨(wordList.getD k []).toArray⟩
def wordCells : Array Value := #[.string ⟨#[97, 110, 100]⟩, .string ⟨#[98, 114, 101, 97, 107]⟩, .string ⟨#[99, 111, 110, 116, 105, 110, 117, 101]⟩, .string ⟨#[100, 101, 102]⟩, .string ⟨#[100, 101, 108]⟩, .string ⟨#[101, 108, 105, 102]⟩, .string ⟨#[101, 108, 115, 101]⟩, .string ⟨#[101, 120, 99, 101, 112, 116]⟩, .string ⟨#[70, 97, 108, 115, 101]⟩, .string ⟨#[102, 111, 114]⟩, .string ⟨#[103, 108, 111, 98, 97, 108]⟩, .string ⟨#[105, 102]⟩, .string ⟨#[105, 110]⟩, .string ⟨#[105, 115]⟩, .string ⟨#[108, 97, 109, 98, 100, 97]⟩, .string ⟨#[78, 111, 110, 101]⟩, .string ⟨#[110, 111, 110, 108, 111, 99, 97, 108]⟩, .string ⟨#[110, 111, 116]⟩, .string ⟨#[111, 114]⟩, .string ⟨#[112, 97, 115, 115]⟩, .string ⟨#[114, 97, 105, 115, 101]⟩, .string ⟨#[114, 101, 116, 117, 114, 110]⟩, .string ⟨#[84, 114, 117, 101]⟩, .string ⟨#[116, 114, 121]⟩, .string ⟨#[119, 104, 105, 108, 101]⟩]
/-- The ops, in the order of the program's table: the longer ones ahead. -/
def opList : List (List UInt8) := [[61, 61], [33, 61], [60, 61], [62, 61], [47, 47], [60], [62], [61], [43], [45], [42], [37], [40], [41], [91], [93], [123], [125], [44], [58], [46]]
def opAt (k : Nat) : ByteArray := ⟨(opList.getD k []).toArray⟩
def opCells : Array Value := #[.string ⟨#[61, 61]⟩, .string ⟨#[33, 61]⟩, .string ⟨#[60, 61]⟩, .string ⟨#[62, 61]⟩, .string ⟨#[47, 47]⟩, .string ⟨#[60]⟩, .string ⟨#[62]⟩, .string ⟨#[61]⟩, .string ⟨#[43]⟩, .string ⟨#[45]⟩, .string ⟨#[42]⟩, .string ⟨#[37]⟩, .string ⟨#[40]⟩, .string ⟨#[41]⟩, .string ⟨#[91]⟩, .string ⟨#[93]⟩, .string ⟨#[123]⟩, .string ⟨#[125]⟩, .string ⟨#[44]⟩, .string ⟨#[58]⟩, .string ⟨#[46]⟩]

theorem word_index (k : Nat) (hk : k < 25) (w : World) : (Instr.index 122 (.agg wordCells) (.int .i64 (k : Int))).run Tryz.prog w = .ok (.string (wordAt k)) w := by
  iterate 25 (rcases k with _ | k; · kernel_rfl)
  omega
theorem op_index (k : Nat) (hk : k < 21) (w : World) : (Instr.index 117 (.agg opCells) (.int .i64 (k : Int))).run Tryz.prog w = .ok (.string (opAt k)) w := by
  iterate 21 (rcases k with _ | k; · kernel_rfl)
  omega

/-- Is it a word, looked for from the k-th on? -/
def wordFrom (t : ByteArray) : Nat → Nat → Bool
  | 0, _ => false
  | n + 1, k => if (wordAt k).toList == t.toList then true else wordFrom t n (k + 1)
def wordB (t : ByteArray) : Bool := wordFrom t 25 0

theorem wordFrom_hit {t : ByteArray} {k : Nat} (hk : k < 25) (h : ((wordAt k).toList == t.toList) = true) : wordFrom t (25 - k) k = true := by
  obtain ⟨n, hn⟩ : ∃ n, 25 - k = n + 1 := ⟨25 - k - 1, by omega⟩
  rw [hn]
  simp only [wordFrom, h, if_true]
theorem wordFrom_miss {t : ByteArray} {k : Nat} (hk : k < 25) (h : ((wordAt k).toList == t.toList) = false) : wordFrom t (25 - k) k = wordFrom t (25 - (k + 1)) (k + 1) := by
  obtain ⟨n, hn⟩ : ∃ n, 25 - k = n + 1 := ⟨25 - k - 1, by omega⟩
  rw [hn, show 25 - (k + 1) = n by omega]
  simp only [wordFrom, h, Bool.false_eq_true, if_false]

theorem infoWords : (Tryz.prog.info? 122).map (·.size) = some wordCells.size := by kernel_rfl
theorem infoOps : (Tryz.prog.info? 117).map (·.size) = some opCells.size := by kernel_rfl

set_option maxHeartbeats 400000 in
theorem isWord_any (t : ByteArray) (w : World) (tt : TypeId) (fr : Nat × Nat) (hw : w.heap[4]? = some (.cells wordCells tt fr)) :
    Calls Tryz.prog 87 #[.string t] w fun ev w' => ev = .returned (.bool (wordB t)) ∧ w' = w := by
  go_enter Tryz.func87, Tryz.ntmps87
  go_wp2_with (refine wpList_load_row rfl 122 _ rfl 4 rfl tt _ fr _ hw Tryz.underlying122 rfl infoWords ?_)
  clear hw
  go_loopg [6] 25 (fun n v6 wr => ∃ k : Nat, n = 25 - k ∧ k ≤ 25 ∧ v6 = .int .i64 (k : Int) ∧ wordFrom t (25 - k) k = wordB t ∧ wr = w)
  case atStart => exact ⟨0, rfl, by decide, rfl, rfl, rfl⟩
  case round =>
    obtain ⟨k, hn, hk, hv, hwf, rfl⟩ := hrel
    subst hv
    have HW : Hid (wordFrom t (25 - k) k = wordB t) := hwf
    have HN : Hid (gk = 25 - k) := hn
    clear hwf hn
    by_cases hlt : k < 25
    · have hix := word_index k hlt
      have hI : (k : Int) < 25 := by omega
      cases he : ((wordAt k).toList == t.toList)
      · go_wp2
        go_roundg (25 - (k + 1))
        case measure => have := HN.out; omega
        case rel => exact ⟨k + 1, rfl, by omega, by go_num, (wordFrom_miss hlt he).symm.trans HW.out, rfl⟩
      · go_wp2
        go_ret
        exact ⟨ret_bool ((wordFrom_hit hlt he).symm.trans HW.out), rfl⟩
    · have hke : k = 25 := by omega
      have HK : Hid (k = 25) := hke
      clear hke
      go_wp2
      go_ret
      exact ⟨ret_bool (Eq.trans (by rw [HK.out]; rfl) HW.out), rfl⟩

/-- Does a begin with b? -/
def prefixB (a b : ByteArray) : Bool := if b.size ≤ a.size then (a.extract 0 b.size).toList == b.toList else false
theorem hasPrefix_any (a b : ByteArray) (w : World) :
    Calls Tryz.prog 91 #[.string a, .string b] w fun ev w' => ev = .returned (.bool (prefixB a b)) ∧ w' = w := by
  by_cases h : b.size ≤ a.size
  · have hI : (b.size : Int) ≤ (a.size : Int) := by omega
    go_enter Tryz.func91, Tryz.ntmps91
    go_wp2
    go_ret
    exact ⟨ret_bool (by simp [prefixB, h]), rfl⟩
  · have hI : ¬ (b.size : Int) ≤ (a.size : Int) := by omega
    go_enter Tryz.func91, Tryz.ntmps91
    go_wp2
    go_ret
    exact ⟨ret_bool (by simp [prefixB, h]), rfl⟩

/-- Behind the name that begins at i. -/
def nameTo (s : ByteArray) (i : Nat) : Nat := passTo nameB s (s.size - (i + 1)) (i + 1)
/-- The name or word that begins at i: its kind and text; none: there is none. -/
def nameAt (s : ByteArray) (i : Nat) : Option (Bool × ByteArray × Nat) :=
  if h : i < s.size then
    if wordB (s.extract i (nameTo s i)) then some (true, s.extract i (nameTo s i), nameTo s i)
    else if capitalB (s[i].toNat : Int) then none
    else if 16 < nameTo s i - i then none
    else some (false, s.extract i (nameTo s i), nameTo s i)
  else none

/-- What name comes to. -/
def NPost (B p : Nat) (s : ByteArray) (i : Nat) (a0 : Addr) (w : World) (ev : Ending) (w' : World) : Prop :=
  match nameAt s i with
  | some (wd, t, j) => ev = .returned (.tuple #[.string (if wd then ⟨#[119, 111, 114, 100]⟩ else ⟨#[110, 97, 109, 101]⟩), .string t]) ∧ Went p w w' j ∧ j ≤ s.size
  | none => Thrown B w i a0 ev w'

set_option maxHeartbeats 1000000 in
theorem name_walk (B p i : Nat) (s : ByteArray) (a0 : Addr) (w : World) (h : At p s i w) (hlt : i < s.size) (hp : p < w.heap.size) (hBp : B ≤ p) (_hgB : 2 < B) (hg : w.cell? ⟨2, 0, none⟩ = some (.iface 163 (.pointer (some a0)))) (tt : TypeId) (fr : Nat × Nat) (hwB : 4 < B) (hw : w.heap[4]? = some (.cells wordCells tt fr)) :
    Calls Tryz.prog 65 #[.pointer (some ⟨p, 0, none⟩)] w fun ev w' => NPost B p s i a0 w ev w' := by
  have hM := Moved.refl h.c1
  have hA := h
  obtain ⟨hs, hat, c0, c1, f1⟩ := h
  have hm1 := Moved.set c1 (i + 1)
  have hA1 := hA.moved hm1 (by omega)
  have hle := passTo_le nameB s (s.size - (i + 1)) (i + 1)
  have hI : (i : Int) < (s.size : Int) := by omega
  go_enter Tryz.func65, Tryz.ntmps65
  go_wp2_with fail
  refine (pass_any 86 nameB enterName name_any p s (i + 1) _ hs (by omega) hA1.c0 hA1.c1 hA1.f1).mono ?_
  rintro ev w1 ⟨rfl, hm2⟩
  have hj1 : i + 1 ≤ passTo nameB s (s.size - (i + 1)) (i + 1) := hle.1
  have hj2 : passTo nameB s (s.size - (i + 1)) (i + 1) ≤ s.size := hle.2 (by omega)
  have hwent : Moved p w w1 (passTo nameB s (s.size - (i + 1)) (i + 1)) := hm1.trans hm2
  have hjj : nameTo s i = passTo nameB s (s.size - (i + 1)) (i + 1) := rfl
  generalize passTo nameB s (s.size - (i + 1)) (i + 1) = j at hm2 hj1 hj2 hwent hjj ⊢
  have HJ : Hid (nameTo s i = j) := hjj
  have hA2 := hA.moved hwent hj2
  have d0 := hA2.c0
  have d1 := hA2.c1
  have hww : w1.heap[4]? = some (.cells wordCells tt fr) := (hwent.far 4 (by omega)).trans hw
  have hgg : w1.cell? ⟨2, 0, none⟩ = some (.iface 163 (.pointer (some a0))) := (World.cell?_of_block (w := w) (hwent.far 2 (by omega))).trans hg
  clear hjj hm2 hm1 hA1 hle c0 c1 f1 hA2 hM hw hg
  have hJ1 : (i : Int) ≤ (j : Int) := by omega
  have hJ2 : (j : Int) ≤ (s.size : Int) := by omega
  have hesz : (s.extract i j).size = j - i := by simp [ByteArray.size_extract]; omega
  go_wp2_with fail
  go_quiet (fail)
  go_wp2_with fail
  refine (isWord_any _ _ tt fr (by exact hww)).mono ?_
  rintro ev w2 ⟨rfl, rfl⟩
  cases hwd : wordB (s.extract i j)
  rotate_left
  · go_wp2_with fail
    go_ret2
    unfold NPost
    have hn : nameAt s i = some (true, s.extract i j, j) := by simp [nameAt, hlt, HJ.out, hwd]
    rw [hn]
    exact ⟨rfl, (hwent.drewN _).went, hj2⟩
  have hpos : 0 < (s.extract i j).size := by omega
  have hP : (0 : Int) < ((s.extract i j).size : Int) := by omega
  have hfirst : (s.extract i j)[0] = s[i] := by simp [ByteArray.getElem_extract]
  have HFI : Hid ((s.extract i j)[0] = s[i]) := hfirst
  clear hfirst
  go_wp2_with fail
  refine (capital_any _ _).mono ?_
  rintro ev w2 ⟨rfl, rfl⟩
  rw [HFI.out]
  cases hcap : capitalB (s[i].toNat : Int)
  rotate_left
  · have HN : Hid (nameAt s i = none) := show nameAt s i = none by simp [nameAt, hlt, HJ.out, hwd, hcap]
    go_wp2_with fail
    refine (none_any _ a0 _ (by exact hgg)).mono ?_
    rintro ev w3 ⟨rfl, rfl⟩
    go_wp2
    refine ⟨rfl, ?_⟩
    unfold NPost
    rw [HN.out]
    exact ⟨_, rfl, below_drewN' ((hwent.below hBp).alloc (by rw [hwent.size]; omega) _), cell_new rfl rfl, cell_new rfl rfl⟩
  by_cases h16 : 16 < j - i
  · have HN : Hid (nameAt s i = none) := show nameAt s i = none by simp [nameAt, hlt, HJ.out, hwd, hcap, h16]
    have h16' : (16 : Int) < ((s.extract i j).size : Int) := by omega
    go_wp2_with fail
    refine (none_any _ a0 _ (by exact hgg)).mono ?_
    rintro ev w3 ⟨rfl, rfl⟩
    go_wp2
    refine ⟨rfl, ?_⟩
    unfold NPost
    rw [HN.out]
    exact ⟨_, rfl, below_drewN' ((hwent.below hBp).alloc (by rw [hwent.size]; omega) _), cell_new rfl rfl, cell_new rfl rfl⟩
  · have HN : Hid (nameAt s i = some (false, s.extract i j, j)) := show nameAt s i = some (false, s.extract i j, j) by simp [nameAt, hlt, HJ.out, hwd, hcap, h16]
    have h16' : ¬ (16 : Int) < ((s.extract i j).size : Int) := by omega
    go_wp2_with fail
    go_ret2
    unfold NPost
    rw [HN.out]
    exact ⟨rfl, (hwent.drewN _).went, hj2⟩
end Go.Proofs.YtajkahckmhipkaaGreatDoor
