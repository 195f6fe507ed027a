/- The laws' small helpers: Lex by one contract, one, the bytes of a str. -/
import Derived.Test.YtpflpbfnifpchaaGreatDoorLexS
import Derived.KernelRfl
namespace Go.Proofs.YtpflpbfnifpchaaGreatDoor
open Go.RowKit

/-- What a law about package lex reads of the program's own variables. -/
structure LEnv (B : Nat) (a0 a1 : Addr) (w : World) : Prop where
  env : Env B a0 w
  g1 : w.cell? ⟨0, 0, none⟩ = some (.iface 155 (.pointer (some a1)))
  b1 : 0 < B

theorem LEnv.below {B : Nat} {a0 a1 : Addr} {w w' : World} (h : LEnv B a0 a1 w) (hb : Below B w w') : LEnv B a0 a1 w' :=
  ⟨h.env.below hb, (hb.cell (p := ⟨0, 0, none⟩) h.b1).trans h.g1, h.b1⟩
theorem LEnv.up {B C : Nat} {a0 a1 : Addr} {w : World} (h : LEnv B a0 a1 w) (hC : B ≤ C) : LEnv C a0 a1 w :=
  ⟨⟨h.env.hg, h.env.words, h.env.ops, h.env.range, Nat.lt_of_lt_of_le h.env.bg hC, Nat.lt_of_lt_of_le h.env.bw hC, Nat.lt_of_lt_of_le h.env.bo hC, Nat.lt_of_lt_of_le h.env.br hC⟩, h.g1, Nat.lt_of_lt_of_le h.b1 hC⟩

/-- Lex, for every program. -/
theorem lex_any (s : ByteArray) (a0 a1 : Addr) (w : World) (E : LEnv w.heap.size a0 a1 w) : Calls Tryz.prog 6 #[.string s] w fun ev w' => XPost s a0 a1 w ev w' := by
  by_cases h : 6000 < s.size
  · exact lex_long s a0 a1 w h E.g1
  · exact lex_short s a0 a1 w (by omega) E.env

/-- Lex of a program of which the tokens are known. -/
theorem lex_known (s : ByteArray) (n : Nat) (tk : List Value) (a0 a1 : Addr) (w : World) (E : LEnv w.heap.size a0 a1 w) (hs : s.size ≤ 6000) (h : lexP s = .ok (n + 1, tk)) :
    Calls Tryz.prog 6 #[.string s] w fun ev w' => ∃ g cap, ev = .returned (.tuple #[.slice (some ⟨g, 0, none⟩) (n + 1) cap, .nilIface]) ∧ (∀ k v, tk[k]? = some v → w'.cell? ⟨g, k, none⟩ = some v) ∧ Below w.heap.size w w' := by
  refine (lex_any s a0 a1 w E).mono ?_
  rintro ev w' ⟨hb, hx⟩
  rw [if_neg (by omega), h] at hx
  obtain ⟨vt, rfl, ho⟩ := hx
  rcases ho.2 with ⟨_, h0⟩ | ⟨g, cap, cur, rfl, _, hg, _, _, hsz, htk⟩
  · omega
  · refine ⟨g, cap, rfl, fun k v hk => ?_, hb⟩
    rw [cell_of_row w' g k cur 44 (0, 0) hg, ← Array.getElem?_toList]
    have hl : k < tk.length := by
      rcases Nat.lt_or_ge k tk.length with h1 | h1
      · exact h1
      · rw [List.getElem?_eq_none h1] at hk; cases hk
    have e : (cur.toList.take ((n + 1) * 3))[k]? = tk[k]? := by rw [htk]
    rw [List.getElem?_take, if_pos (by have := ho.1; omega)] at e
    rw [e]
    exact hk

theorem lexP_a : lexP ⟨#[97]⟩ = .ok (3, tokCells kName ⟨#[97]⟩ 0 ++ tokCells kNewline ⟨#[]⟩ 1 ++ tokCells kEnd ⟨#[]⟩ 1) := by kernel_rfl

theorem isName : (kName.toList == [110, 97, 109, 101]) = true := by kernel_rfl
theorem isEnd : (kEnd.toList == [101, 110, 100]) = true := by kernel_rfl

set_option maxHeartbeats 1000000 in
theorem one_any (a0 a1 : Addr) (w : World) (E : LEnv w.heap.size a0 a1 w) : Calls Tryz.prog 5 #[] w fun ev w' => ev = .returned (.bool true) ∧ Below w.heap.size w w' := by
  go_enter Tryz.func5, Tryz.ntmps5
  go_wp2_with fail
  refine (lex_known ⟨#[97]⟩ 2 _ a0 a1 w E (by decide) lexP_a).mono ?_
  rintro ev w1 ⟨g, cap, rfl, hc, hb⟩
  have c0 := hc 0 (.string kName) rfl
  have c6 := hc 6 (.string kEnd) rfl
  clear hc
  have i1 := isName
  have i2 := isEnd
  go_wp2
  go_ret
  exact ⟨rfl, hb⟩
end Go.Proofs.YtpflpbfnifpchaaGreatDoor
