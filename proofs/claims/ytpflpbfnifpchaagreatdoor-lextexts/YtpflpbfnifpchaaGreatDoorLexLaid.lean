/- What the list of variables of a law about package lex gives its walk. -/
import Derived.Test.YtpflpbfnifpchaaGreatDoorLexT
import Derived.Test.YtpflpbfnifpchaaGreatDoorErrLaid
import Derived.Lib.LaidTab
namespace Go.Proofs.YtpflpbfnifpchaaGreatDoor
open Go.RowKit

/-- A table of strings, as data. -/
def strTab {H : Type} (l : List (List UInt8)) : DataW H := .agg (l.map fun b => .lit (.string b))

/-- An array of strings that reads as the table holds the table's strings, cell for cell. -/
theorem cells_of_strs {H : Type} {enc : TypeId × Value → H} {P : Program} {w : World} {base : Nat} {sp : Nat → Bool} {held : Bool} {fuel : Nat} {t e : TypeId} {n : Nat} {cs : List Value} {l : List (List UInt8)} {p : List MemPlace}
    (ht : P.underlying t = some (.array n e)) (he : P.underlying e = some .string) (hce : P.cellsOf e = 1) (hct : P.cellsOf t = n)
    (h : DataW.trod enc P w base sp held fuel t cs = some (strTab l, p)) : cs = l.map fun b => Value.string ⟨b.toArray⟩ := by
  cases fuel with
  | zero => simp [DataW.trod] at h
  | succ fuel =>
    simp only [DataW.trod, ht, hce, hct, Nat.mul_one] at h
    split at h
    · rename_i hl
      obtain ⟨xs, hm, hx⟩ := Option.map_eq_some_iff.1 h
      have hxs : xs.map (·.1) = l.map fun b => (DataW.lit (.string b) : DataW H) := by
        have := congrArg Prod.fst hx
        simpa [strTab] using this
      have hxl : xs.length = n := by simpa using Lib.mapM_length hm
      have hzl : l.length = n := by
        have := congrArg List.length hxs
        simp at this
        omega
      apply List.ext_getElem?
      intro i
      by_cases hi : i < n
      · obtain ⟨b, hb, hf⟩ := Lib.mapM_at hm i i (by simp [hi])
        obtain ⟨z, hc, rfl, _⟩ := DataW.trod_string he hf
        have h1 : cs[i]? = some (.string z) := by
          have := congrArg (·[0]?) hc
          simpa [List.getElem?_take, List.getElem?_drop] using this
        have h2 : (xs.map (·.1))[i]? = some (DataW.lit (.string z.data.toList) : DataW H) := by simp [hb]
        rw [hxs] at h2
        simp only [List.getElem?_map, Option.map_eq_some_iff, DataW.lit.injEq, Lit.string.injEq] at h2
        obtain ⟨z', hz', e'⟩ := h2
        subst e'
        simp [h1, hz']
      · rw [List.getElem?_eq_none (by omega), List.getElem?_eq_none (by simp; omega)]
    · cases h

theorem heap_of_var {P : Program} {W : World} {name : String} {g : Nat} {cs : Array Value} (hg : P.globalNamed name = some g) (h : W.var? P name = some cs) : ∃ tt fr, W.heap[g]? = some (.cells cs tt fr) := by
  unfold World.var? at h
  rw [hg] at h
  simp only [Option.bind_some] at h
  split at h
  · rename_i c tt fr he
    simp at h
    subst h
    exact ⟨tt, fr, he⟩
  · cases h

theorem table_of_head {P : Program} {W : World} {name : String} {l : List (List UInt8)} {g : Nat} {t e : TypeId} {n : Nat}
    (hg : P.globalNamed name = some g) (hty : (P.globals[g]?).map (·.type) = some t) (ht : P.underlying t = some (.array n e)) (he : P.underlying e = some .string) (hce : P.cellsOf e = 1) (hct : P.cellsOf t = n)
    (h : laidMet P [(name, strTab l)] W) : ∃ tt fr, W.heap[g]? = some (.cells (l.map fun b => Value.string ⟨b.toArray⟩).toArray tt fr) := by
  obtain ⟨ps, ⟨g', t', cs, fuel, p, q, hg', ht', hvar, hd, _, _⟩, _⟩ := h
  obtain rfl := Option.some.inj (hg.symm.trans hg')
  obtain rfl := Option.some.inj (hty.symm.trans ht')
  have := cells_of_strs ht he hce hct hd
  have e : cs = (l.map fun b => Value.string ⟨b.toArray⟩).toArray := by rw [← this]
  rw [e] at hvar
  exact heap_of_var hg hvar

theorem wordsNamed : Tryz.prog.globalNamed "nurserypy/lex.words" = some 9 := by kernel_rfl
theorem wordsType : (Tryz.prog.globals[9]?).map (·.type) = some 135 := by kernel_rfl
theorem wordsCells : Tryz.prog.cellsOf 135 = 25 := by kernel_rfl
theorem opsNamed : Tryz.prog.globalNamed "nurserypy/lex.ops" = some 8 := by kernel_rfl
theorem opsType : (Tryz.prog.globals[8]?).map (·.type) = some 114 := by kernel_rfl
theorem opsCells : Tryz.prog.cellsOf 114 = 21 := by kernel_rfl
theorem rangeType : (Tryz.prog.globals[11]?).map (·.type) = some 25 := by kernel_rfl
theorem wordTab : (wordList.map fun b => Value.string ⟨b.toArray⟩).toArray = wordCells := by kernel_rfl
theorem opTab : (opList.map fun b => Value.string ⟨b.toArray⟩).toArray = opCells := by kernel_rfl

/-- The environment of package lex, out of a list that holds its five variables. -/
theorem lenv_of {W : World} {l : List (String × DataW Unit)} (hl : laidMet Tryz.prog l W) (h0 : [sentLaid 0].Sublist l) (h1 : [sentLaid 1].Sublist l) (hr : [("strconv.ErrRange", Rows.laid_strconv_ErrRange)].Sublist l)
    (hw : [("nurserypy/lex.words", Rows.laid_nurserypy_lex_words)].Sublist l) (ho : [("nurserypy/lex.ops", Rows.laid_nurserypy_lex_ops)].Sublist l) : ∃ a0 a1, LEnv W.heap.size a0 a1 W := by
  obtain ⟨a0, v0, _⟩ := sent_one 0 (by decide) (laidMet_sub h0 hl)
  obtain ⟨a1, v1, _⟩ := sent_one 1 (by decide) (laidMet_sub h1 hl)
  obtain ⟨ar, sr, vr, _⟩ := laid_sentinel (laidMet_sub hr hl) rangeNamed rangeType Tryz.underlying25 rowSp Tryz.underlying155 Tryz.underlying157 rfl rfl Tryz.underlying9 cellsS cellsStr
  obtain ⟨tw, fw, ew⟩ := table_of_head (l := wordList) wordsNamed wordsType Tryz.underlying135 Tryz.underlying9 cellsStr wordsCells (laidMet_sub hw hl)
  obtain ⟨to_, fo, eo⟩ := table_of_head (l := opList) opsNamed opsType Tryz.underlying114 Tryz.underlying9 cellsStr opsCells (laidMet_sub ho hl)
  rw [wordTab] at ew
  rw [opTab] at eo
  have c0 := sent_cell 0 (by decide) a0 v0
  have c1 := sent_cell 1 (by decide) a1 v1
  obtain ⟨tr, fr, er⟩ := heap_of_var rangeNamed vr
  exact ⟨a0, a1, ⟨⟨c0, ⟨tw, fw, ew⟩, ⟨to_, fo, eo⟩, ⟨_, _, vr⟩, lt_of_cell c0, lt_of_heap ew, lt_of_heap eo, lt_of_heap er⟩, c1, lt_of_cell c1⟩⟩
end Go.Proofs.YtpflpbfnifpchaaGreatDoor
