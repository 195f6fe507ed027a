/- Package lex: digits, by its contract. -/
import Derived.Test.YtajkahckmhipkaaGreatDoorLexGToShelf
namespace Go.Proofs.YtajkahckmhipkaaGreatDoor
open Go.RowKit

theorem passTo_all (P : Int → Bool) (s : ByteArray) : ∀ n i k, i ≤ k → k < passTo P s n i → ∃ h : k < s.size, P (s[k].toNat : Int) = true
  | 0, i, k, h1, h2 => by simp [passTo] at h2; omega
  | n + 1, i, k, h1, h2 => by
    unfold passTo at h2
    split at h2
    · rename_i h
      split at h2
      · rename_i hP
        by_cases e : k = i
        · subst e; exact ⟨h, hP⟩
        · exact passTo_all P s n (i + 1) k (by omega) h2
      · omega
    · omega

theorem parseUintM_digits (M : Nat) : ∀ (l : List UInt8) (acc : Nat), (∀ c ∈ l, 48 ≤ c.toNat ∧ c.toNat ≤ 57) → (∃ u, Lib.parseUintM M acc l = .ok u) ∨ Lib.parseUintM M acc l = .range
  | [], acc, _ => .inl ⟨acc, rfl⟩
  | c :: r, acc, h => by
    have hc := h c (by simp)
    simp only [Lib.parseUintM, hc, and_self, if_true]
    split
    · exact .inr rfl
    · split
      · exact .inr rfl
      · exact parseUintM_digits M r _ (fun x hx => h x (by simp [hx]))

theorem parseIntB_digits (l : List UInt8) (hl : l ≠ []) (h : ∀ c ∈ l, 48 ≤ c.toNat ∧ c.toNat ≤ 57) : (∃ v, Lib.parseIntB 64 l = .ok v) ∨ Lib.parseIntB 64 l = .range := by
  cases l with
  | nil => exact absurd rfl hl
  | cons c r =>
    have hc := h c (by simp)
    have e1 : ¬ c.toNat = 43 := by omega
    have e2 : ¬ c.toNat = 45 := by omega
    simp only [Lib.parseIntB, e1, e2, or_self, not_false_eq_true, true_and, false_and, if_false]
    have hp := parseUintM_digits (2 ^ 64 - 1) (c :: r) 0 h
    unfold Lib.parseUintB
    rw [if_neg hl]
    rcases hp with ⟨u, hu⟩ | hu
    · rw [hu]
      simp only
      split
      · exact .inr rfl
      · exact .inl ⟨_, rfl⟩
    · rw [hu]
      exact .inr rfl

/-- Behind the digits that begin at i. -/
def digitsTo (s : ByteArray) (i : Nat) : Nat := passTo digitB s (s.size - i) i
/-- The int that begins at i; none: there is none. -/
def intAt (s : ByteArray) (i : Nat) : Option (ByteArray × Nat) :=
  if h : i < s.size then
    if (s[i].toNat : Int) == 48 && decide (1 < digitsTo s i - i) then none
    else match Lib.parseIntB 64 (s.extract i (digitsTo s i)).data.toList with
      | .ok _ => some (s.extract i (digitsTo s i), digitsTo s i)
      | _ => none
  else none

/-- What digits comes to. -/
def DPost (B p : Nat) (s : ByteArray) (i : Nat) (a0 : Addr) (w : World) (ev : Ending) (w' : World) : Prop :=
  match intAt s i with
  | some (t, j) => ev = .returned (.string t) ∧ Went p w w' j ∧ j ≤ s.size
  | none => Thrown B w i a0 ev w'
theorem DPost.some {B p : Nat} {s : ByteArray} {i j : Nat} {a0 : Addr} {w w' : World} {t : ByteArray} (h : intAt s i = some (t, j)) (h1 : Went p w w' j) (h2 : j ≤ s.size) : DPost B p s i a0 w (.returned (.string t)) w' := by
  unfold DPost
  rw [h]
  exact ⟨rfl, h1, h2⟩
theorem DPost.none {B p : Nat} {s : ByteArray} {i : Nat} {a0 : Addr} {w w' : World} {ev : Ending} (h : intAt s i = Option.none) (h1 : Thrown B w i a0 ev w') : DPost B p s i a0 w ev w' := by
  unfold DPost
  rw [h]
  exact h1

theorem rangeNamed : Tryz.prog.globalNamed "strconv.ErrRange" = some 6 := by kernel_rfl
theorem belowN {B : Nat} {a w : World} (h : Below B a w) (q : Nat) : Below B a (w.drewN q) := below_drewN h q
theorem below_bytes (w : World) (t : ByteArray) : Below w.heap.size w (Lib.bytesWorld w 5 t) :=
  ⟨rfl, rfl, rfl, by rw [Lib.bytesWorld_size]; omega, fun k hk => Lib.bytesWorld_at_old w 5 t k hk⟩

theorem extract_all {s : ByteArray} {i j : Nat} {p : UInt8 → Prop} (hj : j ≤ s.size) (h : ∀ k (_ : i ≤ k) (_ : k < j) (hk : k < s.size), p s[k]) : ∀ c ∈ (s.extract i j).data.toList, p c := by
  intro c hc
  obtain ⟨n, hn, rfl⟩ := List.mem_iff_getElem.1 hc
  have hz : n < j - i := by simp at hn; omega
  have e : (s.extract i j).data.toList[n] = s[i + n] := by
    simp
    rfl
  rw [e]
  exact h (i + n) (by omega) (by omega) (by omega)

set_option maxHeartbeats 1000000 in
theorem digits_walk (B p i : Nat) (s : ByteArray) (a0 : Addr) (w : World) (h : At p s i w) (hlt : i < s.size) (hd : digitB (s[i].toNat : Int) = true) (hp : p < w.heap.size) (hBp : B ≤ p) (hgB : 2 < B) (hg : w.cell? ⟨2, 0, none⟩ = some (.iface 163 (.pointer (some a0)))) (tp : TypeId) (vp : Value) (hvB : 6 < B) (hv : w.var? Tryz.prog "strconv.ErrRange" = some #[.iface tp vp]) :
    Calls Tryz.prog 67 #[.pointer (some ⟨p, 0, none⟩)] w fun ev w' => DPost B p s i a0 w ev w' := by
  have hA := h
  obtain ⟨hs, hat, c0, c1, f1⟩ := h
  have hle := passTo_le digitB s (s.size - i) i
  have hI : (i : Int) < (s.size : Int) := by omega
  have hj0 : i + 1 ≤ passTo digitB s (s.size - i) i := by
    rw [passTo_go hlt hd]; exact (passTo_le digitB s _ (i + 1)).1
  have hall : ∀ c ∈ (s.extract i (passTo digitB s (s.size - i) i)).data.toList, 48 ≤ c.toNat ∧ c.toNat ≤ 57 :=
    extract_all (p := fun c => 48 ≤ c.toNat ∧ c.toNat ≤ 57) (hle.2 (by omega)) (fun k h1 h2 hk => by
      obtain ⟨_, hd⟩ := passTo_all digitB s _ i k h1 h2
      simp [digitB] at hd
      omega)
  go_enter Tryz.func67, Tryz.ntmps67
  go_wp2_with fail
  refine (pass_any 66 digitB enterDigit digit_any p s i _ hs hat c0 c1 f1).mono ?_
  rintro ev w1 ⟨rfl, hwent⟩
  have hj2 : passTo digitB s (s.size - i) i ≤ s.size := hle.2 (by omega)
  have hjj : digitsTo s i = passTo digitB s (s.size - i) i := rfl
  generalize passTo digitB s (s.size - i) i = j at hj0 hj2 hwent hjj hall ⊢
  have HJ : Hid (digitsTo s i = j) := hjj
  have hA2 := hA.moved hwent hj2
  have d0 := hA2.c0
  have d1 := hA2.c1
  have hgg : w1.cell? ⟨2, 0, none⟩ = some (.iface 163 (.pointer (some a0))) := (World.cell?_of_block (w := w) (hwent.far 2 (by omega))).trans hg
  have hJ1 : (i : Int) ≤ (j : Int) := by omega
  have hJ2 : (j : Int) ≤ (s.size : Int) := by omega
  have hesz : (s.extract i j).size = j - i := by simp [ByteArray.size_extract]; omega
  have hP : (0 : Int) < ((s.extract i j).size : Int) := by omega
  have hpos : 0 < (s.extract i j).size := by omega
  have hfirst : (s.extract i j)[0] = s[i] := by simp [ByteArray.getElem_extract]
  have HFI : Hid ((s.extract i j)[0] = s[i]) := hfirst
  clear hfirst hjj hle c0 c1 f1 hA2 hA
  go_wp2_with fail
  go_quiet (fail)
  by_cases hz : (s[i].toNat : Int) == 48 ∧ 1 < j - i
  · have HN : Hid (intAt s i = none) := show intAt s i = none by simp [intAt, hlt, HJ.out, hz]
    have h48 : (((s.extract i j)[0].toNat : Int) == 48) = true := by rw [HFI.out]; exact hz.1
    have h1 : (1 : Int) < ((s.extract i j).size : Int) := by omega
    go_wp2_with fail
    refine (none_any _ a0 _ (by exact hgg)).mono ?_
    rintro ev w3 ⟨rfl, rfl⟩
    go_wp2
    exact ⟨rfl, DPost.none HN.out ⟨_, rfl, below_drewN' ((hwent.below hBp).alloc (by rw [hwent.size]; omega) _), cell_new rfl rfl, cell_new rfl rfl⟩⟩
  have hnz : ((s[i].toNat : Int) == 48 && decide (1 < j - i)) = false := by
    simp only [Bool.and_eq_false_iff, decide_eq_false_iff_not]
    by_cases e : ((s[i].toNat : Int) == 48) = true
    · exact .inr (fun h => hz ⟨e, h⟩)
    · exact .inl (Bool.eq_false_iff.2 e)
  have hne : (s.extract i j).data.toList ≠ [] := by
    intro e
    have := congrArg List.length e
    simp at this
    omega
  have hpick : (((s.extract i j)[0].toNat : Int) == 48) = false ∨ ((((s.extract i j)[0].toNat : Int) == 48) = true ∧ ¬ (1 : Int) < ((s.extract i j).size : Int)) := by
    rw [HFI.out]
    by_cases e : ((s[i].toNat : Int) == 48) = true
    · exact .inr ⟨e, fun h => hz ⟨e, by omega⟩⟩
    · exact .inl (Bool.eq_false_iff.2 e)
  rcases parseIntB_digits _ hne hall with ⟨v, hok⟩ | hrg
  · have HN : Hid (intAt s i = some (s.extract i j, j)) := show intAt s i = some (s.extract i j, j) by simp only [intAt, hlt, dif_pos, HJ.out, hnz, Bool.false_eq_true, if_false, hok]
    have HOK : Hid (Lib.parseIntB 64 (s.extract i j).data.toList = .ok v) := hok
    clear hok hne hall hnz hz
    rcases hpick with h48 | ⟨h48, h1⟩
    all_goals
      go_wp2_with fail
      refine (parse_ok _ (by omega) v HOK.out _).mono ?_
      rintro ev w2 ⟨rfl, hw2⟩
      have hb2 : Below (w1.drewN nq).heap.size (w1.drewN nq) w2 := by
        rcases hw2 with rfl | ⟨t, rfl⟩
        · exact Below.refl _ _
        · exact below_bytes _ _
      clear hw2
      have hfin : Went p w w2 j := (hwent.drewN nq).went.trans (Went.ofBelow hb2 (by show p < w1.heap.size; rw [hwent.size]; exact hp) (hwent.drewN nq).at_)
      go_wp2_with fail
      go_ret
      exact DPost.some HN.out hfin hj2
  · have HN : Hid (intAt s i = none) := show intAt s i = none by simp only [intAt, hlt, dif_pos, HJ.out, hnz, Bool.false_eq_true, if_false, hrg]
    have HOK : Hid (Lib.parseIntB 64 (s.extract i j).data.toList = .range) := hrg
    have hvr : (w1.drewN nq).var? Tryz.prog "strconv.ErrRange" = some #[.iface tp vp] := var?_below ((belowN (Below.refl B w1) nq)) rangeNamed hvB (var?_below (hwent.below hBp) rangeNamed hvB hv)
    clear hrg hne hall hnz hz
    rcases hpick with h48 | ⟨h48, h1⟩
    all_goals
      go_wp2_with fail
      refine (parse_range _ (by omega) HOK.out tp vp _ hvr).mono ?_
      rintro ev w2 ⟨N, rfl, _, _, hb2⟩
      have hb3 : Below B w w2 := (hwent.below hBp).trans ((belowN (Below.refl B w1) nq).trans (hb2.mono (by show B ≤ w1.heap.size; rw [hwent.size]; omega)))
      have hg2 : w2.cell? ⟨2, 0, none⟩ = some (.iface 163 (.pointer (some a0))) := (hb3.cell (p := ⟨2, 0, none⟩) hgB).trans hg
      go_wp2_with fail
      refine (none_any _ a0 _ hg2).mono ?_
      rintro ev w3 ⟨rfl, rfl⟩
      go_wp2
      exact ⟨rfl, DPost.none HN.out ⟨_, rfl, hb3.alloc (by have := hb3.size; omega) _, cell_new rfl rfl, cell_new rfl rfl⟩⟩
end Go.Proofs.YtajkahckmhipkaaGreatDoor
