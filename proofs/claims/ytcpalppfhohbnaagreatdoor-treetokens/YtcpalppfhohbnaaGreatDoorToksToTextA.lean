/- Package lex: what Lex tells, as cells; once and for all. -/
import Derived.Test.YtcpalppfhohbnaaGreatDoorLineLToFineP
import Derived.Shelf.Lays
import Derived.Shelf.Strings.BuilderF
import Derived.Shelf.Strings.BuilderK
import Derived.Shelf.Strings.Repeat
import Derived.Test.YtcpalppfhohbnaaGreatDoorProg
namespace Go.Proofs.YtcpalppfhohbnaaGreatDoor
open Go.RowKit

/-- What Lex has told: tokens, as cells of a row; or a fault. -/
def Told (s : ByteArray) (B : Nat) (v5 v6 : Value) (w : World) : Prop :=
  match lexP s with
  | .ok (n, tk) => ∃ g cap, v5 = .slice (some ⟨g, 0, none⟩) n cap ∧ v6 = .nilIface ∧ B ≤ g ∧ g < w.heap.size ∧ (∀ k v, tk[k]? = some v → w.cell? ⟨g, k, none⟩ = some v)
  | .error _ => v5 = .slice none 0 0 ∧ ∃ b, v6 = .iface 44 (.pointer (some ⟨b, 0, none⟩))

theorem Told.below {s : ByteArray} {B : Nat} {v5 v6 : Value} {w w' : World} (h : Told s B v5 v6 w) (hb : Below w.heap.size w w') : Told s B v5 v6 w' := by
  unfold Told at h ⊢
  cases hl : lexP s with
  | error e => rw [hl] at h; exact h
  | ok x =>
    obtain ⟨n, tk⟩ := x
    rw [hl] at h
    obtain ⟨g, cap, h1, h2, h3, h4, h5⟩ := h
    exact ⟨g, cap, h1, h2, h3, Nat.lt_of_lt_of_le h4 hb.size, fun k v hk => (hb.cell (p := ⟨g, k, none⟩) h4).trans (h5 k v hk)⟩

theorem lexP_pos {s : ByteArray} {n : Nat} {tk : List Value} (h : lexP s = .ok (n, tk)) : 0 < n := by
  obtain ⟨l, _, rfl, _, hd, _⟩ := lexP_fine h
  cases l with
  | nil =>
    exfalso
    unfold lexP at h
    split at h
    · cases h
    · split at h
      · cases h
      · simp at h
  | cons _ _ => simp
theorem cells_len : ∀ l : List (ByteArray × ByteArray × Nat), (cellsOf l).length = 3 * l.length
  | [] => rfl
  | x :: l => by
    have ih := cells_len l
    have e : cellsOf (x :: l) = tokCells x.1 x.2.1 x.2.2 ++ cellsOf l := rfl
    rw [e, List.length_append, ih]
    simp [tokCells]
    omega
theorem lexP_len {s : ByteArray} {n : Nat} {tk : List Value} (h : lexP s = .ok (n, tk)) : tk.length = 3 * n := by
  obtain ⟨l, rfl, rfl, _, _⟩ := lexP_fine h
  clear h
  exact cells_len l

/-- Lex, of a program that is not too long, once and for all. -/
theorem lex_told (s : ByteArray) (a0 a1 : Addr) (w : World) (E : LEnv w.heap.size a0 a1 w) (hs : s.size ≤ 6000) :
    Calls Tryz.prog 7 #[.string s] w fun ev w' => ∃ v5 v6, ev = .returned (.tuple #[v5, v6]) ∧ Told s w.heap.size v5 v6 w' ∧ Below w.heap.size w w' := by
  refine (lex_any s a0 a1 w E).mono ?_
  rintro ev w' ⟨hb, hx⟩
  rw [if_neg (by omega)] at hx
  unfold Told
  cases hl : lexP s with
  | error e =>
    rw [hl] at hx
    obtain ⟨b, rfl, _, _⟩ := hx
    exact ⟨_, _, rfl, ⟨rfl, b, rfl⟩, hb⟩
  | ok x =>
    obtain ⟨n, tk⟩ := x
    rw [hl] at hx
    obtain ⟨vt, rfl, ho⟩ := hx
    have hn := lexP_pos hl
    rcases ho.2 with ⟨_, h0⟩ | ⟨g, cap, cur, rfl, hB, hg, _, _, hsz, htk⟩
    · omega
    · refine ⟨_, _, rfl, ⟨g, cap, rfl, rfl, hB, lt_of_heap hg, fun k v hk => ?_⟩, hb⟩
      rw [cell_of_row w' g k cur 43 (0, 0) hg, ← Array.getElem?_toList]
      have hlt : k < tk.length := by
        rcases Nat.lt_or_ge k tk.length with h1 | h1
        · exact h1
        · rw [List.getElem?_eq_none h1] at hk; cases hk
      have e : (cur.toList.take (n * 3))[k]? = tk[k]? := by rw [htk]
      rw [List.getElem?_take, if_pos (by have := ho.1; omega)] at e
      rw [e]
      exact hk

theorem run_inv (s : ByteArray) : ∀ {f : Nat} {σ τ : LexSt}, Inv s σ → runLines s f σ = .ok τ → Inv s τ
  | 0, σ, τ, I, h => by simp [runLines] at h; subst h; exact I
  | f + 1, σ, τ, I, h => by
    unfold runLines at h
    split at h
    · rename_i hlt
      cases hs : lineStep s σ with
      | error e => rw [hs] at h; cases h
      | ok σ' =>
        rw [hs] at h
        exact run_inv s (lineStep_inv I hlt hs).1 h
    · simp at h; subst h; exact I
theorem lexP_bd {s : ByteArray} {n : Nat} {tk : List Value} (h : lexP s = .ok (n, tk)) : n ≤ 4 * s.size + 4 := by
  unfold lexP at h
  cases hr : runLines s s.size ⟨0, [0], 0, []⟩ with
  | error e => rw [hr] at h; cases h
  | ok σ =>
    rw [hr] at h
    simp only at h
    have hI := run_inv s (f := s.size) (inv0 s) hr
    cases hst : settleP σ.st 0 σ.at_ σ.n σ.tk with
    | none => rw [hst] at h; cases h
    | some x =>
      obtain ⟨st', n', tk'⟩ := x
      rw [hst] at h
      simp only [Except.ok.injEq, Prod.mk.injEq] at h
      have h1 := settleP_inv hst hI.last
      have h2 := hI.cnt
      have h3 := hI.hat
      omega

theorem cells_get : ∀ (l : List (ByteArray × ByteArray × Nat)) (j : Nat) (x : ByteArray × ByteArray × Nat), l[j]? = some x → (cellsOf l)[j * 3]? = some (.string x.1) ∧ (cellsOf l)[j * 3 + 1]? = some (.string x.2.1) ∧ (cellsOf l)[j * 3 + 2]? = some (.int .i64 x.2.2)
  | [], j, x, h => by simp at h
  | y :: l, 0, x, h => by
    simp at h
    subst h
    exact ⟨rfl, rfl, rfl⟩
  | y :: l, j + 1, x, h => by
    have ih := cells_get l j x (by simpa using h)
    have e : cellsOf (y :: l) = tokCells y.1 y.2.1 y.2.2 ++ cellsOf l := rfl
    have hl : (tokCells y.1 y.2.1 y.2.2).length = 3 := rfl
    rw [e, List.getElem?_append_right (by omega), List.getElem?_append_right (by omega), List.getElem?_append_right (by omega), hl]
    rw [show (j + 1) * 3 - 3 = j * 3 by omega, show (j + 1) * 3 + 1 - 3 = j * 3 + 1 by omega, show (j + 1) * 3 + 2 - 3 = j * 3 + 2 by omega]
    exact ih

end Go.Proofs.YtcpalppfhohbnaaGreatDoor

/- The library's strings.Builder and strings.Repeat at this program: the shelf's layings, and their contracts. -/
namespace Go.Proofs.YtcpalppfhohbnaaGreatDoor
open Go.Shelf Go.RowKit
def lays105_ren : Go.Shelf.Ren := ⟨fun | 105 => 66 | 212 => 94 | 99 => 92 | 165 => 95 | 166 => 35 | 170 => 38 | 169 => 39 | 263 => 106 | 264 => 107 | 206 => 105 | 240 => 65 | 241 => 108 | 276 => 93 | 277 => 126 | n => n, fun | 9 => 9 | 3 => 3 | 4 => 4 | 20 => 20 | 0 => 0 | 46 => 127 | 109 => 128 | 5 => 5 | 72 => 79 | 76 => 81 | 51 => 138 | 146 => 139 | 53 => 141 | 148 => 142 | 70 => 77 | 37 => 65 | 75 => 25 | 127 => 106 | 164 => 125 | 80 => 85 | n => n, fun | n => n⟩
theorem lays105 : Go.Proofs.Lays.n105 Tryz.prog lays105_ren := {
  mixed := by kernel_rfl
  f99 := Tryz.func92.trans (congrArg some (by kernel_rfl))
  f105 := Tryz.func66.trans (congrArg some (by kernel_rfl))
  f165 := Tryz.func95.trans (congrArg some (by kernel_rfl))
  f166 := Tryz.func35.trans (congrArg some (by kernel_rfl))
  f169 := Tryz.func39.trans (congrArg some (by kernel_rfl))
  f170 := Tryz.func38.trans (congrArg some (by kernel_rfl))
  f206 := Tryz.func105.trans (congrArg some (by kernel_rfl))
  f212 := Tryz.func94.trans (congrArg some (by kernel_rfl))
  f240 := Tryz.func65.trans (congrArg some (by kernel_rfl))
  f241 := Tryz.func108.trans (congrArg some (by kernel_rfl))
  f263 := Tryz.func106.trans (congrArg some (by kernel_rfl))
  f264 := Tryz.func107.trans (congrArg some (by kernel_rfl))
  f276 := Tryz.func93.trans (congrArg some (by kernel_rfl))
  f277 := Tryz.func126.trans (congrArg some (by kernel_rfl))
  t0 := Tryz.underlying0
  a0 := Tryz.isAgg0
  z0 := Tryz.sizeOf0
  v0 := Tryz.zeroValue0
  t3 := Tryz.underlying3
  a3 := Tryz.isAgg3
  z3 := Tryz.sizeOf3
  v3 := Tryz.zeroValue3
  t4 := Tryz.underlying4
  a4 := Tryz.isAgg4
  z4 := Tryz.sizeOf4
  v4 := Tryz.zeroValue4
  t5 := Tryz.underlying5
  a5 := Tryz.isAgg5
  z5 := Tryz.sizeOf5
  v5 := Tryz.zeroValue5
  t9 := Tryz.underlying9
  a9 := Tryz.isAgg9
  z9 := Tryz.sizeOf9
  v9 := Tryz.zeroValue9
  t20 := Tryz.underlying20
  a20 := Tryz.isAgg20
  z20 := Tryz.sizeOf20
  v20 := Tryz.zeroValue20
  t37 := Tryz.underlying65
  a37 := Tryz.isAgg65
  z37 := Tryz.sizeOf65
  v37 := Tryz.zeroValue65
  t46 := Tryz.underlying127
  a46 := Tryz.isAgg127
  z46 := Tryz.sizeOf127
  v46 := Tryz.zeroValue127
  t51 := Tryz.underlying138
  a51 := Tryz.isAgg138
  z51 := Tryz.sizeOf138
  v51 := Tryz.zeroValue138
  t53 := Tryz.underlying141
  a53 := Tryz.isAgg141
  z53 := Tryz.sizeOf141
  v53 := Tryz.zeroValue141
  t70 := Tryz.underlying77
  a70 := Tryz.isAgg77
  z70 := Tryz.sizeOf77
  v70 := Tryz.zeroValue77
  t72 := Tryz.underlying79
  a72 := Tryz.isAgg79
  z72 := Tryz.sizeOf79
  v72 := Tryz.zeroValue79
  t75 := Tryz.underlying25
  a75 := Tryz.isAgg25
  z75 := Tryz.sizeOf25
  v75 := Tryz.zeroValue25
  t76 := Tryz.underlying81
  a76 := Tryz.isAgg81
  z76 := Tryz.sizeOf81
  v76 := Tryz.zeroValue81
  t109 := Tryz.underlying128
  a109 := Tryz.isAgg128
  z109 := Tryz.sizeOf128
  v109 := Tryz.zeroValue128
  t127 := Tryz.underlying106
  a127 := Tryz.isAgg106
  z127 := Tryz.sizeOf106
  v127 := Tryz.zeroValue106
  t146 := Tryz.underlying139
  a146 := Tryz.isAgg139
  z146 := Tryz.sizeOf139
  v146 := Tryz.zeroValue139
  t148 := Tryz.underlying142
  a148 := Tryz.isAgg142
  z148 := Tryz.sizeOf142
  v148 := Tryz.zeroValue142
  t164 := Tryz.underlying125
  a164 := Tryz.isAgg125
  z164 := Tryz.sizeOf125
  v164 := Tryz.zeroValue125 }
def bren : Go.Shelf.Ren := ⟨fun | 105 => 66 | 212 => 94 | 99 => 92 | 165 => 95 | 166 => 35 | 170 => 38 | 169 => 39 | 263 => 106 | 264 => 107 | 206 => 105 | 240 => 65 | 241 => 108 | 276 => 93 | 277 => 126 | 167 => 34 | n => n, fun | 9 => 9 | 3 => 3 | 4 => 4 | 20 => 20 | 0 => 0 | 46 => 127 | 109 => 128 | 5 => 5 | 72 => 79 | 76 => 81 | 51 => 138 | 146 => 139 | 53 => 141 | 148 => 142 | 70 => 77 | 37 => 65 | 75 => 25 | 127 => 106 | 164 => 125 | 80 => 85 | n => n, fun | n => n⟩
theorem blays166 : Go.Proofs.Lays.n166 Tryz.prog bren := {
  mixed := by kernel_rfl
  f166 := Tryz.func35.trans (congrArg some (by kernel_rfl))
  f240 := Tryz.func65.trans (congrArg some (by kernel_rfl))
  f276 := Tryz.func93.trans (congrArg some (by kernel_rfl))
  t0 := Tryz.underlying0
  a0 := Tryz.isAgg0
  z0 := Tryz.sizeOf0
  v0 := Tryz.zeroValue0
  t3 := Tryz.underlying3
  a3 := Tryz.isAgg3
  z3 := Tryz.sizeOf3
  v3 := Tryz.zeroValue3
  t4 := Tryz.underlying4
  a4 := Tryz.isAgg4
  z4 := Tryz.sizeOf4
  v4 := Tryz.zeroValue4
  t9 := Tryz.underlying9
  a9 := Tryz.isAgg9
  z9 := Tryz.sizeOf9
  v9 := Tryz.zeroValue9
  t20 := Tryz.underlying20
  a20 := Tryz.isAgg20
  z20 := Tryz.sizeOf20
  v20 := Tryz.zeroValue20
  t37 := Tryz.underlying65
  a37 := Tryz.isAgg65
  z37 := Tryz.sizeOf65
  v37 := Tryz.zeroValue65
  t70 := Tryz.underlying77
  a70 := Tryz.isAgg77
  z70 := Tryz.sizeOf77
  v70 := Tryz.zeroValue77
  t72 := Tryz.underlying79
  a72 := Tryz.isAgg79
  z72 := Tryz.sizeOf79
  v72 := Tryz.zeroValue79
  t75 := Tryz.underlying25
  a75 := Tryz.isAgg25
  z75 := Tryz.sizeOf25
  v75 := Tryz.zeroValue25
  t164 := Tryz.underlying125
  a164 := Tryz.isAgg125
  z164 := Tryz.sizeOf125
  v164 := Tryz.zeroValue125 }
theorem blays167 : Go.Proofs.Lays.n167 Tryz.prog bren := {
  mixed := by kernel_rfl
  f167 := Tryz.func34.trans (congrArg some (by kernel_rfl))
  f240 := Tryz.func65.trans (congrArg some (by kernel_rfl))
  f276 := Tryz.func93.trans (congrArg some (by kernel_rfl))
  t0 := Tryz.underlying0
  a0 := Tryz.isAgg0
  z0 := Tryz.sizeOf0
  v0 := Tryz.zeroValue0
  t4 := Tryz.underlying4
  a4 := Tryz.isAgg4
  z4 := Tryz.sizeOf4
  v4 := Tryz.zeroValue4
  t5 := Tryz.underlying5
  a5 := Tryz.isAgg5
  z5 := Tryz.sizeOf5
  v5 := Tryz.zeroValue5
  t9 := Tryz.underlying9
  a9 := Tryz.isAgg9
  z9 := Tryz.sizeOf9
  v9 := Tryz.zeroValue9
  t20 := Tryz.underlying20
  a20 := Tryz.isAgg20
  z20 := Tryz.sizeOf20
  v20 := Tryz.zeroValue20
  t37 := Tryz.underlying65
  a37 := Tryz.isAgg65
  z37 := Tryz.sizeOf65
  v37 := Tryz.zeroValue65
  t70 := Tryz.underlying77
  a70 := Tryz.isAgg77
  z70 := Tryz.sizeOf77
  v70 := Tryz.zeroValue77
  t72 := Tryz.underlying79
  a72 := Tryz.isAgg79
  z72 := Tryz.sizeOf79
  v72 := Tryz.zeroValue79
  t75 := Tryz.underlying25
  a75 := Tryz.isAgg25
  z75 := Tryz.sizeOf25
  v75 := Tryz.zeroValue25
  t164 := Tryz.underlying125
  a164 := Tryz.isAgg125
  z164 := Tryz.sizeOf125
  v164 := Tryz.zeroValue125 }
theorem blays169 : Go.Proofs.Lays.n169 Tryz.prog bren := {
  mixed := by kernel_rfl
  f169 := Tryz.func39.trans (congrArg some (by kernel_rfl))
  t0 := Tryz.underlying0
  a0 := Tryz.isAgg0
  z0 := Tryz.sizeOf0
  v0 := Tryz.zeroValue0
  t3 := Tryz.underlying3
  a3 := Tryz.isAgg3
  z3 := Tryz.sizeOf3
  v3 := Tryz.zeroValue3
  t9 := Tryz.underlying9
  a9 := Tryz.isAgg9
  z9 := Tryz.sizeOf9
  v9 := Tryz.zeroValue9
  t37 := Tryz.underlying65
  a37 := Tryz.isAgg65
  z37 := Tryz.sizeOf65
  v37 := Tryz.zeroValue65
  t70 := Tryz.underlying77
  a70 := Tryz.isAgg77
  z70 := Tryz.sizeOf77
  v70 := Tryz.zeroValue77
  t72 := Tryz.underlying79
  a72 := Tryz.isAgg79
  z72 := Tryz.sizeOf79
  v72 := Tryz.zeroValue79
  t127 := Tryz.underlying106
  a127 := Tryz.isAgg106
  z127 := Tryz.sizeOf106
  v127 := Tryz.zeroValue106 }
theorem blays170 : Go.Proofs.Lays.n170 Tryz.prog bren := {
  mixed := by kernel_rfl
  f170 := Tryz.func38.trans (congrArg some (by kernel_rfl))
  t0 := Tryz.underlying0
  a0 := Tryz.isAgg0
  z0 := Tryz.sizeOf0
  v0 := Tryz.zeroValue0
  t3 := Tryz.underlying3
  a3 := Tryz.isAgg3
  z3 := Tryz.sizeOf3
  v3 := Tryz.zeroValue3
  t37 := Tryz.underlying65
  a37 := Tryz.isAgg65
  z37 := Tryz.sizeOf65
  v37 := Tryz.zeroValue65
  t70 := Tryz.underlying77
  a70 := Tryz.isAgg77
  z70 := Tryz.sizeOf77
  v70 := Tryz.zeroValue77
  t72 := Tryz.underlying79
  a72 := Tryz.isAgg79
  z72 := Tryz.sizeOf79
  v72 := Tryz.zeroValue79 }
theorem bextra : Builder.Extra Tryz.prog bren := {
  sizeBuilder := by kernel_rfl
  liesBuilder := by kernel_rfl
  t5 := Tryz.underlying5
  a5 := Tryz.isAgg5
  z5 := Tryz.sizeOf5
  v5 := Tryz.zeroValue5
  infoByte := by kernel_rfl
  cellsByte := by kernel_rfl
  sizeByte := by kernel_rfl
  neB5 := by decide }
theorem bextra105 : Builder.Extra Tryz.prog lays105_ren := {
  sizeBuilder := by kernel_rfl
  liesBuilder := by kernel_rfl
  t5 := Tryz.underlying5
  a5 := Tryz.isAgg5
  z5 := Tryz.sizeOf5
  v5 := Tryz.zeroValue5
  infoByte := by kernel_rfl
  cellsByte := by kernel_rfl
  sizeByte := by kernel_rfl
  neB5 := by decide }

theorem wByte (B b : Nat) (bs : List Value) (c : Int) (w : World) (h : Lib.IsBuilderF 79 5 B b bs w) (hlen : bs.length + 1 ≤ 140737488355328) (hBw : B ≤ w.heap.size) :
    Calls Tryz.prog 34 #[.pointer (some ⟨b, 0, none⟩), .int .u8 c] w fun e w' => e = .returned .nilIface ∧ Lib.IsBuilderF 79 5 B b (bs ++ [.int .u8 c]) w' ∧ Below B w w' ∧ Lib.OthersKept 5 (some b) w w' :=
  (Any.Builder_WriteByte_k blays167 bextra B b bs c w h hlen hBw).mono fun _ _ ⟨h1, h2, h3, h4⟩ => ⟨h1, .inr h2, h3, h4⟩
theorem wString (B b : Nat) (bs : List Value) (s : ByteArray) (w : World) (h : Lib.IsBuilderF 79 5 B b bs w) (hlen : bs.length + s.size ≤ 140737488355328) (hBw : B ≤ w.heap.size) :
    Calls Tryz.prog 35 #[.pointer (some ⟨b, 0, none⟩), .string s] w fun e w' => e = .returned (.tuple #[.int .i64 s.size, .nilIface]) ∧ Lib.IsBuilderF 79 5 B b (bs ++ Lib.strCells s) w' ∧ Below B w w' ∧ Lib.OthersKept 5 (some b) w w' :=
  (Any.Builder_WriteString_k blays166 bextra B b bs s w h hlen hBw).mono fun _ _ ⟨h1, h2, h3, h4⟩ => ⟨h1, .inr h2, h3, h4⟩
theorem bLen (B b : Nat) (bs : List Value) (w : World) (h : Lib.IsBuilderF 79 5 B b bs w) :
    Calls Tryz.prog 38 #[.pointer (some ⟨b, 0, none⟩)] w fun e w' => e = .returned (.int .i64 bs.length) ∧ w' = w := Any.Builder_Len_f blays170 B b bs w h
theorem bString (B b : Nat) (l : List UInt8) (w : World) (h : Lib.IsBuilderF 79 5 B b (Lib.byteCells l) w) (hBw : B ≤ w.heap.size) :
    Calls Tryz.prog 39 #[.pointer (some ⟨b, 0, none⟩)] w fun e w' => e = .returned (.string ⟨l.toArray⟩) ∧ Below B w w' := (Any.Builder_String_any_k blays169 bextra B b l w h hBw).mono fun _ _ ⟨h1, _, h3, _⟩ => ⟨h1, h3⟩
theorem repeat_any (s : ByteArray) (c : Nat) (w : World) (hc : c ≤ 9223372036854775807) (hlen : s.size * c ≤ 140737488355328) :
    Calls Tryz.prog 66 #[.string s, .int .i64 c] w fun e w' => e = .returned (.string ⟨(Lib.repeatL s.data.toList c).toArray⟩) ∧ Below w.heap.size w w' := Any.strings_Repeat lays105 bextra105 s c w hc hlen
end Go.Proofs.YtcpalppfhohbnaaGreatDoor

/- Package lex: Quote, gap, spelt, by contracts. -/
namespace Go.Proofs.YtcpalppfhohbnaaGreatDoor
open Go.RowKit

theorem fresh_builder (w : World) : Lib.IsBuilderF 79 5 w.heap.size w.heap.size [] (w.alloc (.cells #[.pointer none, .slice none 0 0] 79)) :=
  Lib.IsBuilderF.of (.inl ⟨Nat.le_refl _, .slice none 0 0, heap_alloc_new _ _, World.ownsRow_nil _ _ _ _, by simp [Value.ownBlock]⟩)

theorem hex_at (n : Nat) (h : n < 16) (h' : n < (⟨#[48, 49, 50, 51, 52, 53, 54, 55, 56, 57, 97, 98, 99, 100, 101, 102]⟩ : ByteArray).size) : (⟨#[48, 49, 50, 51, 52, 53, 54, 55, 56, 57, 97, 98, 99, 100, 101, 102]⟩ : ByteArray)[n].toNat = (hexDig n).toNat := by
  iterate 16 (rcases n with _ | n; · rfl)
  omega

set_option maxHeartbeats 1000000 in
theorem quote_any (s : ByteArray) (hs : s.size ≤ 6000) (w : World) :
    Calls Tryz.prog 67 #[.string s] w fun ev w' => ev = .returned (.string (quotedB s.data.toList)) ∧ Below w.heap.size w w' := by
  have hf := fresh_builder w
  have hb0 : Below w.heap.size w (w.alloc (.cells #[.pointer none, .slice none 0 0] 79)) := (Below.refl _ _).alloc (Nat.le_refl _) _
  go_enter Tryz.func67, Tryz.ntmps67
  go_wp2_with fail
  refine (wByte w.heap.size w.heap.size [] 34 _ hf (by simp) (by simp)).mono ?_
  rintro ev w1 ⟨rfl, hB1, hb1, _⟩
  have hb1w : Below w.heap.size w w1 := hb0.trans hb1
  clear hf hb0 hb1
  go_wp2_with fail
  go_loopg [9] (s.size + 1) (fun gk v9 wr => ∃ k : Nat, gk = s.size + 1 - k ∧ k ≤ s.size ∧ v9 = .int .i64 (k : Int) ∧ Lib.IsBuilderF 79 5 w.heap.size w.heap.size (Lib.byteCells ([34] ++ (s.data.toList.take k).flatMap escB)) wr ∧ Below w.heap.size w wr)
  case atStart => exact ⟨0, rfl, Nat.zero_le _, rfl, hB1, hb1w⟩
  case round =>
    obtain ⟨k, hgk, hk, hv, hB, hb⟩ := hrel
    subst hv
    have HG : Hid (gk = s.size + 1 - k) := hgk
    clear hgk hB1 hb1w
    have hk0 : (0 : Int) ≤ (k : Int) := by omega
    have hfl := flat_len (s.data.toList.take k)
    have htl : (s.data.toList.take k).length ≤ k := List.length_take_le _ _
    have hcl : (Lib.byteCells ([34] ++ (s.data.toList.take k).flatMap escB)).length ≤ 24001 := by
      rw [Lib.byteCells_length, List.length_append]
      simp only [List.length_cons, List.length_nil]
      omega
    have hsz := hb.size
    by_cases hlt : k < s.size
    · have hI : (k : Int) < (s.size : Int) := by omega
      have hts := take_snoc s k hlt
      have HSN : Hid (Lib.byteCells ([34] ++ (s.data.toList.take (k + 1)).flatMap escB) = Lib.byteCells ([34] ++ (s.data.toList.take k).flatMap escB) ++ Lib.byteCells (escB s[k])) := by
        show _ = _
        rw [hts, ← Lib.byteCells_append]
        simp
      clear hts hfl htl
      have hc1 : s[k].toNat ≤ 255 := by have := s[k].toNat_lt; omega
      have hC1 : (s[k].toNat : Int) ≤ 255 := by omega
      have hC0 : (0 : Int) ≤ (s[k].toNat : Int) := by omega
      generalize Lib.byteCells ([34] ++ (s.data.toList.take k).flatMap escB) = bs at hB hcl HSN
      cases e10 : ((s[k].toNat : Int) == 10)
      rotate_left
      · go_wp2_with fail
        refine (wString w.heap.size w.heap.size bs ⟨#[92, 110]⟩ _ hB (by have : (⟨#[92, 110]⟩ : ByteArray).size = 2 := rfl; omega) hsz).mono ?_
        rintro ev w2 ⟨rfl, hB2, hb2, _⟩
        go_wp2_with fail
        go_roundg (s.size + 1 - (k + 1))
        case measure => have := HG.out; omega
        case rel =>
          refine ⟨k + 1, rfl, by omega, by go_num, ?_, hb.trans hb2⟩
          rw [HSN.out]
          have e : escB s[k] = [92, 110] := by simp [escB, show s[k].toNat = 10 by have := nat_of_beq e10; omega]
          rw [e]
          exact hB2
      have n10 : ¬ s[k].toNat = 10 := by have := nat_of_beqf e10; omega
      cases e34 : ((s[k].toNat : Int) == 34)
      rotate_left
      · go_wp2_with fail
        refine (wByte w.heap.size w.heap.size bs 92 _ hB (by omega) hsz).mono ?_
        rintro ev w2 ⟨rfl, hB2, hb2, _⟩
        have hsz2 := (hb.trans hb2).size
        go_wp2_with fail
        refine (wByte w.heap.size w.heap.size _ (s[k].toNat : Int) _ hB2 (by simp; omega) hsz2).mono ?_
        rintro ev w3 ⟨rfl, hB3, hb3, _⟩
        go_wp2_with fail
        go_roundg (s.size + 1 - (k + 1))
        case measure => have := HG.out; omega
        case rel =>
          refine ⟨k + 1, rfl, by omega, by go_num, ?_, (hb.trans hb2).trans hb3⟩
          rw [HSN.out]
          have e : escB s[k] = [92, s[k]] := by
            have h34 : s[k].toNat = 34 := by have := nat_of_beq e34; omega
            have h34' : s[k] = 34 := UInt8.toNat_inj.mp h34
            rw [h34']
            rfl
          rw [e]
          have e2 : bs ++ Lib.byteCells [92, s[k]] = bs ++ [.int .u8 92] ++ [.int .u8 (s[k].toNat : Int)] := by simp [Lib.byteCells]
          rw [e2]
          exact hB3
      have n34 : ¬ s[k].toNat = 34 := by have := nat_of_beqf e34; omega
      cases e92 : ((s[k].toNat : Int) == 92)
      rotate_left
      · go_wp2_with fail
        refine (wByte w.heap.size w.heap.size bs 92 _ hB (by omega) hsz).mono ?_
        rintro ev w2 ⟨rfl, hB2, hb2, _⟩
        have hsz2 := (hb.trans hb2).size
        go_wp2_with fail
        refine (wByte w.heap.size w.heap.size _ (s[k].toNat : Int) _ hB2 (by simp; omega) hsz2).mono ?_
        rintro ev w3 ⟨rfl, hB3, hb3, _⟩
        go_wp2_with fail
        go_roundg (s.size + 1 - (k + 1))
        case measure => have := HG.out; omega
        case rel =>
          refine ⟨k + 1, rfl, by omega, by go_num, ?_, (hb.trans hb2).trans hb3⟩
          rw [HSN.out]
          have e : escB s[k] = [92, s[k]] := by
            have h92 : s[k].toNat = 92 := by have := nat_of_beq e92; omega
            have h92' : s[k] = 92 := UInt8.toNat_inj.mp h92
            rw [h92']
            rfl
          rw [e]
          have e2 : bs ++ Lib.byteCells [92, s[k]] = bs ++ [.int .u8 92] ++ [.int .u8 (s[k].toNat : Int)] := by simp [Lib.byteCells]
          rw [e2]
          exact hB3
      have n92 : ¬ s[k].toNat = 92 := by have := nat_of_beqf e92; omega
      by_cases hout : s[k].toNat < 32 ∨ 126 < s[k].toNat
      · have HE : Hid (escB s[k] = [92, 120, hexDig (s[k].toNat / 16), hexDig (s[k].toNat % 16)]) := by
          show _ = _
          rcases escB_cases s[k] with h | h | h | h | h
          · omega
          · omega
          · omega
          · exact h
          · omega
        rcases hout with h32 | h126
        · have hI32 : (s[k].toNat : Int) < 32 := by omega
          go_wp2_with fail
          refine (wString w.heap.size w.heap.size bs ⟨#[92, 120]⟩ _ hB (by have : (⟨#[92, 120]⟩ : ByteArray).size = 2 := rfl; omega) hsz).mono ?_
          rintro ev w2 ⟨rfl, hB2, hb2, _⟩
          have hsz2 := (hb.trans hb2).size
          have hl2 : (bs ++ Lib.strCells ⟨#[92, 120]⟩).length ≤ 24003 := by rw [List.length_append, Lib.strCells_length]; have : (⟨#[92, 120]⟩ : ByteArray).size = 2 := rfl; omega
          go_wp2_with fail
          refine (wByte w.heap.size w.heap.size _ _ _ hB2 (by omega) hsz2).mono ?_
          rintro ev w3 ⟨rfl, hB3, hb3, _⟩
          have hb23 := hb2.trans hb3
          have hsz3 := (hb.trans hb23).size
          rw [hex_at _ (by omega)] at hB3
          go_wp2_with fail
          refine (wByte w.heap.size w.heap.size _ _ _ hB3 (by rw [List.length_append]; simp only [List.length_cons, List.length_nil]; omega) hsz3).mono ?_
          rintro ev w4 ⟨rfl, hB4, hb4, _⟩
          rw [hex_at _ (by omega)] at hB4
          go_wp2_with fail
          go_roundg (s.size + 1 - (k + 1))
          case measure => have := HG.out; omega
          case rel =>
            refine ⟨k + 1, rfl, by omega, by go_num, ?_, (hb.trans hb23).trans hb4⟩
            rw [HSN.out, HE.out]
            have e2 : bs ++ Lib.byteCells [92, 120, hexDig (s[k].toNat / 16), hexDig (s[k].toNat % 16)] = bs ++ Lib.strCells ⟨#[92, 120]⟩ ++ [.int .u8 ((hexDig (s[k].toNat / 16)).toNat : Int)] ++ [.int .u8 ((hexDig (s[k].toNat % 16)).toNat : Int)] := by simp [Lib.byteCells, Lib.strCells]
            rw [e2]
            exact hB4
        · have hI32 : ¬ (s[k].toNat : Int) < 32 := by omega
          have hI126 : 126 < (s[k].toNat : Int) := by omega
          go_wp2_with fail
          refine (wString w.heap.size w.heap.size bs ⟨#[92, 120]⟩ _ hB (by have : (⟨#[92, 120]⟩ : ByteArray).size = 2 := rfl; omega) hsz).mono ?_
          rintro ev w2 ⟨rfl, hB2, hb2, _⟩
          have hsz2 := (hb.trans hb2).size
          have hl2 : (bs ++ Lib.strCells ⟨#[92, 120]⟩).length ≤ 24003 := by rw [List.length_append, Lib.strCells_length]; have : (⟨#[92, 120]⟩ : ByteArray).size = 2 := rfl; omega
          go_wp2_with fail
          refine (wByte w.heap.size w.heap.size _ _ _ hB2 (by omega) hsz2).mono ?_
          rintro ev w3 ⟨rfl, hB3, hb3, _⟩
          have hb23 := hb2.trans hb3
          have hsz3 := (hb.trans hb23).size
          rw [hex_at _ (by omega)] at hB3
          go_wp2_with fail
          refine (wByte w.heap.size w.heap.size _ _ _ hB3 (by rw [List.length_append]; simp only [List.length_cons, List.length_nil]; omega) hsz3).mono ?_
          rintro ev w4 ⟨rfl, hB4, hb4, _⟩
          rw [hex_at _ (by omega)] at hB4
          go_wp2_with fail
          go_roundg (s.size + 1 - (k + 1))
          case measure => have := HG.out; omega
          case rel =>
            refine ⟨k + 1, rfl, by omega, by go_num, ?_, (hb.trans hb23).trans hb4⟩
            rw [HSN.out, HE.out]
            have e2 : bs ++ Lib.byteCells [92, 120, hexDig (s[k].toNat / 16), hexDig (s[k].toNat % 16)] = bs ++ Lib.strCells ⟨#[92, 120]⟩ ++ [.int .u8 ((hexDig (s[k].toNat / 16)).toNat : Int)] ++ [.int .u8 ((hexDig (s[k].toNat % 16)).toNat : Int)] := by simp [Lib.byteCells, Lib.strCells]
            rw [e2]
            exact hB4
      · have hI32 : ¬ (s[k].toNat : Int) < 32 := by omega
        have hI126 : ¬ 126 < (s[k].toNat : Int) := by omega
        have HE : Hid (escB s[k] = [s[k]]) := by
          show _ = _
          simp [escB, n10, n34, n92, hout]
        go_wp2_with fail
        refine (wByte w.heap.size w.heap.size bs (s[k].toNat : Int) _ hB (by omega) hsz).mono ?_
        rintro ev w2 ⟨rfl, hB2, hb2, _⟩
        go_wp2_with fail
        go_roundg (s.size + 1 - (k + 1))
        case measure => have := HG.out; omega
        case rel =>
          refine ⟨k + 1, rfl, by omega, by go_num, ?_, hb.trans hb2⟩
          rw [HSN.out, HE.out]
          exact hB2
    · obtain rfl : k = s.size := by omega
      have hI : ¬ ((s.size : Nat) : Int) < (s.size : Int) := by omega
      go_wp2_with fail
      refine (wByte w.heap.size w.heap.size _ 34 _ hB (by omega) hsz).mono ?_
      rintro ev w2 ⟨rfl, hB2, hb2, _⟩
      have hsz2 := (hb.trans hb2).size
      have HB : Lib.IsBuilderF 79 5 w.heap.size w.heap.size (Lib.byteCells ([34] ++ s.data.toList.flatMap escB ++ [34])) w2 := by
        rw [Lib.byteCells_append]
        rw [List.take_of_length_le (by simp)] at hB2
        exact hB2
      go_wp2_with fail
      refine (bString w.heap.size w.heap.size _ _ HB hsz2).mono ?_
      rintro ev w3 ⟨rfl, hb3⟩
      go_wp2_with fail
      go_ret
      exact ⟨rfl, (hb.trans hb2).trans hb3⟩
end Go.Proofs.YtcpalppfhohbnaaGreatDoor
