/- The laws' small helpers: Lex by one contract, one, the bytes of a str. -/
import Derived.Test.YtcpalppfhohbnaaGreatDoorLexQToLexS
import Derived.KernelRfl
import Derived.Test.YtcpalppfhohbnaaGreatDoorErrCodeToErrLaid
import Derived.Lib.LaidTab
import Derived.Laws.Concat
import Derived.Deep.RegionHeld3
import Derived.Deep.DrawnRows
namespace Go.Proofs.YtcpalppfhohbnaaGreatDoor
open Go.RowKit

/-- What a law about package lex reads of the program's own variables. -/
structure LEnv (B : Nat) (a0 a1 : Addr) (w : World) : Prop where
  env : Env B a0 w
  g1 : w.cell? ⟨0, 0, none⟩ = some (.iface 163 (.pointer (some a1)))
  b1 : 0 < B

theorem LEnv.below {B : Nat} {a0 a1 : Addr} {w w' : World} (h : LEnv B a0 a1 w) (hb : Below B w w') : LEnv B a0 a1 w' :=
  ⟨h.env.below hb, (hb.cell (p := ⟨0, 0, none⟩) h.b1).trans h.g1, h.b1⟩
theorem LEnv.up {B C : Nat} {a0 a1 : Addr} {w : World} (h : LEnv B a0 a1 w) (hC : B ≤ C) : LEnv C a0 a1 w :=
  ⟨⟨h.env.hg, h.env.words, h.env.ops, h.env.range, Nat.lt_of_lt_of_le h.env.bg hC, Nat.lt_of_lt_of_le h.env.bw hC, Nat.lt_of_lt_of_le h.env.bo hC, Nat.lt_of_lt_of_le h.env.br hC⟩, h.g1, Nat.lt_of_lt_of_le h.b1 hC⟩

/-- Lex, for every program. -/
theorem lex_any (s : ByteArray) (a0 a1 : Addr) (w : World) (E : LEnv w.heap.size a0 a1 w) : Calls Tryz.prog 7 #[.string s] w fun ev w' => XPost s a0 a1 w ev w' := by
  by_cases h : 6000 < s.size
  · exact lex_long s a0 a1 w h E.g1
  · exact lex_short s a0 a1 w (by omega) E.env

/-- Lex of a program of which the tokens are known. -/
theorem lex_known (s : ByteArray) (n : Nat) (tk : List Value) (a0 a1 : Addr) (w : World) (E : LEnv w.heap.size a0 a1 w) (hs : s.size ≤ 6000) (h : lexP s = .ok (n + 1, tk)) :
    Calls Tryz.prog 7 #[.string s] w fun ev w' => ∃ g cap, ev = .returned (.tuple #[.slice (some ⟨g, 0, none⟩) (n + 1) cap, .nilIface]) ∧ (∀ k v, tk[k]? = some v → w'.cell? ⟨g, k, none⟩ = some v) ∧ Below w.heap.size w w' := by
  refine (lex_any s a0 a1 w E).mono ?_
  rintro ev w' ⟨hb, hx⟩
  rw [if_neg (by omega), h] at hx
  obtain ⟨vt, rfl, ho⟩ := hx
  rcases ho.2 with ⟨_, h0⟩ | ⟨g, cap, cur, rfl, _, hg, _, _, hsz, htk⟩
  · omega
  · refine ⟨g, cap, rfl, fun k v hk => ?_, hb⟩
    rw [cell_of_row w' g k cur 43 (0, 0) hg, ← Array.getElem?_toList]
    have hl : k < tk.length := by
      rcases Nat.lt_or_ge k tk.length with h1 | h1
      · exact h1
      · rw [List.getElem?_eq_none h1] at hk; cases hk
    have e : (cur.toList.take ((n + 1) * 3))[k]? = tk[k]? := by rw [htk]
    rw [List.getElem?_take, if_pos (by have := ho.1; omega)] at e
    rw [e]
    exact hk

theorem lexP_a : lexP ⟨#[97]⟩ = .ok (3, tokCells kName ⟨#[97]⟩ 0 ++ tokCells kNewline ⟨#[]⟩ 1 ++ tokCells kEnd ⟨#[]⟩ 1) := by kernel_rfl

theorem isName : (kName.toList == [110, 97, 109, 101]) = true := by kernel_rfl
theorem isEnd : (kEnd.toList == [101, 110, 100]) = true := by kernel_rfl

set_option maxHeartbeats 1000000 in
theorem one_any (a0 a1 : Addr) (w : World) (E : LEnv w.heap.size a0 a1 w) : Calls Tryz.prog 5 #[] w fun ev w' => ev = .returned (.bool true) ∧ Below w.heap.size w w' := by
  go_enter Tryz.func5, Tryz.ntmps5
  go_wp2_with fail
  refine (lex_known ⟨#[97]⟩ 2 _ a0 a1 w E (by decide) lexP_a).mono ?_
  rintro ev w1 ⟨g, cap, rfl, hc, hb⟩
  have c0 := hc 0 (.string kName) rfl
  have c6 := hc 6 (.string kEnd) rfl
  clear hc
  have i1 := isName
  have i2 := isEnd
  go_wp2
  go_ret
  exact ⟨rfl, hb⟩
end Go.Proofs.YtcpalppfhohbnaaGreatDoor

/- What the list of variables of a law about package lex gives its walk. -/
namespace Go.Proofs.YtcpalppfhohbnaaGreatDoor
open Go.RowKit

/-- A table of strings, as data. -/
def strTab {H : Type} (l : List (List UInt8)) : DataW H := .agg (l.map fun b => .lit (.string b))

/-- An array of strings that reads as the table holds the table's strings, cell for cell. -/
theorem cells_of_strs {H : Type} {enc : TypeId × Value → H} {P : Program} {w : World} {base : Nat} {sp : Nat → Bool} {held : Bool} {fuel : Nat} {t e : TypeId} {n : Nat} {cs : List Value} {l : List (List UInt8)} {p : List MemPlace}
    (ht : P.underlying t = some (.array n e)) (he : P.underlying e = some .string) (hce : P.cellsOf e = 1) (hct : P.cellsOf t = n)
    (h : DataW.trod enc P w base sp held fuel t cs = some (strTab l, p)) : cs = l.map fun b => Value.string ⟨b.toArray⟩ := by
  cases fuel with
  | zero => simp [DataW.trod] at h
  | succ fuel =>
    simp only [DataW.trod, ht, hce, hct, Nat.mul_one] at h
    split at h
    · rename_i hl
      obtain ⟨xs, hm, hx⟩ := Option.map_eq_some_iff.1 h
      have hxs : xs.map (·.1) = l.map fun b => (DataW.lit (.string b) : DataW H) := by
        have := congrArg Prod.fst hx
        simpa [strTab] using this
      have hxl : xs.length = n := by simpa using Lib.mapM_length hm
      have hzl : l.length = n := by
        have := congrArg List.length hxs
        simp at this
        omega
      apply List.ext_getElem?
      intro i
      by_cases hi : i < n
      · obtain ⟨b, hb, hf⟩ := Lib.mapM_at hm i i (by simp [hi])
        obtain ⟨z, hc, rfl, _⟩ := DataW.trod_string he hf
        have h1 : cs[i]? = some (.string z) := by
          have := congrArg (·[0]?) hc
          simpa [List.getElem?_take, List.getElem?_drop] using this
        have h2 : (xs.map (·.1))[i]? = some (DataW.lit (.string z.data.toList) : DataW H) := by simp [hb]
        rw [hxs] at h2
        simp only [List.getElem?_map, Option.map_eq_some_iff, DataW.lit.injEq, Lit.string.injEq] at h2
        obtain ⟨z', hz', e'⟩ := h2
        subst e'
        simp [h1, hz']
      · rw [List.getElem?_eq_none (by omega), List.getElem?_eq_none (by simp; omega)]
    · cases h

theorem heap_of_var {P : Program} {W : World} {name : String} {g : Nat} {cs : Array Value} (hg : P.globalNamed name = some g) (h : W.var? P name = some cs) : ∃ tt fr, W.heap[g]? = some (.cells cs tt fr) := by
  unfold World.var? at h
  rw [hg] at h
  simp only [Option.bind_some] at h
  split at h
  · rename_i c tt fr he
    simp at h
    subst h
    exact ⟨tt, fr, he⟩
  · cases h

theorem table_of_head {P : Program} {W : World} {name : String} {l : List (List UInt8)} {g : Nat} {t e : TypeId} {n : Nat}
    (hg : P.globalNamed name = some g) (hty : (P.globals[g]?).map (·.type) = some t) (ht : P.underlying t = some (.array n e)) (he : P.underlying e = some .string) (hce : P.cellsOf e = 1) (hct : P.cellsOf t = n)
    (h : laidMet P [(name, strTab l)] W) : ∃ tt fr, W.heap[g]? = some (.cells (l.map fun b => Value.string ⟨b.toArray⟩).toArray tt fr) := by
  obtain ⟨ps, ⟨g', t', cs, fuel, p, q, hg', ht', hvar, hd, _, _⟩, _⟩ := h
  obtain rfl := Option.some.inj (hg.symm.trans hg')
  obtain rfl := Option.some.inj (hty.symm.trans ht')
  have := cells_of_strs ht he hce hct hd
  have e : cs = (l.map fun b => Value.string ⟨b.toArray⟩).toArray := by rw [← this]
  rw [e] at hvar
  exact heap_of_var hg hvar

theorem wordsNamed : Tryz.prog.globalNamed "nurserypy/lex.words" = some 4 := by kernel_rfl
theorem wordsType : (Tryz.prog.globals[4]?).map (·.type) = some 135 := by kernel_rfl
theorem wordsCells : Tryz.prog.cellsOf 135 = 25 := by kernel_rfl
theorem opsNamed : Tryz.prog.globalNamed "nurserypy/lex.ops" = some 3 := by kernel_rfl
theorem opsType : (Tryz.prog.globals[3]?).map (·.type) = some 123 := by kernel_rfl
theorem opsCells : Tryz.prog.cellsOf 123 = 21 := by kernel_rfl
theorem rangeType : (Tryz.prog.globals[6]?).map (·.type) = some 25 := by kernel_rfl
theorem wordTab : (wordList.map fun b => Value.string ⟨b.toArray⟩).toArray = wordCells := by kernel_rfl
theorem opTab : (opList.map fun b => Value.string ⟨b.toArray⟩).toArray = opCells := by kernel_rfl

/-- The environment of package lex, out of a list that holds its five variables. -/
theorem lenv_of {W : World} {l : List (String × DataW Unit)} (hl : laidMet Tryz.prog l W) (h0 : [sentLaid 0].Sublist l) (h1 : [sentLaid 1].Sublist l) (hr : [("strconv.ErrRange", Rows.laid_strconv_ErrRange)].Sublist l)
    (hw : [("nurserypy/lex.words", Rows.laid_nurserypy_lex_words)].Sublist l) (ho : [("nurserypy/lex.ops", Rows.laid_nurserypy_lex_ops)].Sublist l) : ∃ a0 a1, LEnv W.heap.size a0 a1 W := by
  obtain ⟨a0, v0, _⟩ := sent_one 0 (by decide) (laidMet_sub h0 hl)
  obtain ⟨a1, v1, _⟩ := sent_one 1 (by decide) (laidMet_sub h1 hl)
  obtain ⟨ar, sr, vr, _⟩ := laid_sentinel (laidMet_sub hr hl) rangeNamed rangeType Tryz.underlying25 rowSp Tryz.underlying163 Tryz.underlying165 rfl rfl Tryz.underlying9 cellsS cellsStr
  obtain ⟨tw, fw, ew⟩ := table_of_head (l := wordList) wordsNamed wordsType Tryz.underlying135 Tryz.underlying9 cellsStr wordsCells (laidMet_sub hw hl)
  obtain ⟨to_, fo, eo⟩ := table_of_head (l := opList) opsNamed opsType Tryz.underlying123 Tryz.underlying9 cellsStr opsCells (laidMet_sub ho hl)
  rw [wordTab] at ew
  rw [opTab] at eo
  have c0 := sent_cell 0 (by decide) a0 v0
  have c1 := sent_cell 1 (by decide) a1 v1
  obtain ⟨tr, fr, er⟩ := heap_of_var rangeNamed vr
  exact ⟨a0, a1, ⟨⟨c0, ⟨tw, fw, ew⟩, ⟨to_, fo, eo⟩, ⟨_, _, vr⟩, lt_of_cell c0, lt_of_heap ew, lt_of_heap eo, lt_of_heap er⟩, c1, lt_of_cell c1⟩⟩
end Go.Proofs.YtcpalppfhohbnaaGreatDoor

/- The law LexQuotes: Byte and Quoted of the document's answer, by contracts. -/
namespace Go.Proofs.YtcpalppfhohbnaaGreatDoor
open Go.RowKit

def hexDig (n : Nat) : UInt8 := ([48, 49, 50, 51, 52, 53, 54, 55, 56, 57, 97, 98, 99, 100, 101, 102] : List UInt8).getD n 0
/-- A byte, as it is written in a str. -/
def escB (c : UInt8) : List UInt8 :=
  if c.toNat = 10 then [92, 110]
  else if c.toNat = 34 then [92, 34]
  else if c.toNat = 92 then [92, 92]
  else if c.toNat < 32 ∨ 126 < c.toNat then [92, 120, hexDig (c.toNat / 16), hexDig (c.toNat % 16)]
  else [c]
def outB (l : List UInt8) : ByteArray := ⟨([34] ++ l.flatMap escB).toArray⟩
def quotedB (l : List UInt8) : ByteArray := ⟨([34] ++ l.flatMap escB ++ [34]).toArray⟩

theorem escB_len (c : UInt8) : (escB c).length ≤ 4 := by
  unfold escB
  repeat (first | split | simp)
theorem flat_len : ∀ l : List UInt8, (l.flatMap escB).length ≤ 4 * l.length
  | [] => by simp
  | c :: r => by
    have := escB_len c
    have := flat_len r
    simp only [List.flatMap_cons, List.length_append, List.length_cons]
    omega
theorem outB_size (l : List UInt8) : (outB l).size ≤ 4 * l.length + 1 := by
  have := flat_len l
  simp only [outB, ByteArray.size, List.size_toArray, List.length_append, List.length_cons, List.length_nil]
  omega
theorem outB_snoc (l : List UInt8) (c : UInt8) : outB (l ++ [c]) = outB l ++ ⟨(escB c).toArray⟩ := by
  apply ByteArray.ext
  simp [outB]
theorem quoted_eq (l : List UInt8) : quotedB l = outB l ++ ⟨#[34]⟩ := by
  apply ByteArray.ext
  simp [quotedB, outB]
theorem take_snoc (s : ByteArray) (k : Nat) (h : k < s.size) : s.data.toList.take (k + 1) = s.data.toList.take k ++ [s[k]] := by
  rw [List.take_succ_eq_append_getElem (by simpa using h)]; rfl

theorem nat_of_beq {n : Nat} {z : Int} (h : ((n : Int) == z) = true) : (n : Int) = z := by simpa using h
theorem nat_of_beqf {n : Nat} {z : Int} (h : ((n : Int) == z) = false) : ¬ (n : Int) = z := by simpa using h
theorem ret_str {a b : ByteArray} (h : a = b) : Ending.returned (.string a) = .returned (.string b) := by rw [h]
theorem hex_cut (a : Nat) (h : a ≤ 15) : (⟨#[48, 49, 50, 51, 52, 53, 54, 55, 56, 57, 97, 98, 99, 100, 101, 102]⟩ : ByteArray).extract ((a : Int)).toNat (((a : Int) + 1)).toNat = ⟨[hexDig a].toArray⟩ := by
  rw [show ((a : Int)).toNat = a by omega, show (((a : Int) + 1)).toNat = a + 1 by omega]
  iterate 16 (rcases a with _ | a; · rfl)
  omega
theorem strs_append (o : ByteArray) (a b : List UInt8) : o ++ (⟨a.toArray⟩ : ByteArray) ++ (⟨b.toArray⟩ : ByteArray) = o ++ (⟨(a ++ b).toArray⟩ : ByteArray) := by
  apply ByteArray.ext
  simp
theorem nums_one (c : UInt8) : strOfNums [(c.toNat : Int)] = ⟨[c].toArray⟩ := by
  simp [strOfNums]
theorem size_one (c : UInt8) : (strOfNums [(c.toNat : Int)]).size = 1 := by rw [nums_one]; rfl
theorem size_app (a b : ByteArray) : (a ++ b).size = a.size + b.size := ByteArray.size_append

end Go.Proofs.YtcpalppfhohbnaaGreatDoor

/- The law LexQuotes: what is written as a str is read as that str. -/
namespace Go.Proofs.YtcpalppfhohbnaaGreatDoor
open Go.RowKit

theorem get_at {q : ByteArray} {pre rest : List UInt8} {x : UInt8} (h : q.data.toList = pre ++ x :: rest) : ∃ hlt : pre.length < q.size, q[pre.length] = x := by
  have hl : pre.length < q.data.toList.length := by rw [h]; simp
  have hlt : pre.length < q.size := by simpa using hl
  refine ⟨hlt, ?_⟩
  have e : q.data.toList[pre.length] = x := by simp [h]
  have e2 : q.data[pre.length] = x := by simpa using e
  exact e2

theorem hexVal_dig (n : Nat) (h : n ≤ 15) : hexVal (hexDig n) = n := by
  iterate 16 (rcases n with _ | n; · decide)
  omega

theorem data_size {q : ByteArray} {l : List UInt8} (h : q.data.toList = l) : q.size = l.length := by
  have := congrArg List.length h
  simpa using this

theorem escB_cases (c : UInt8) : (c.toNat = 10 ∧ escB c = [92, 110]) ∨ (c.toNat = 34 ∧ escB c = [92, 34]) ∨ (c.toNat = 92 ∧ escB c = [92, 92]) ∨ escB c = [92, 120, hexDig (c.toNat / 16), hexDig (c.toNat % 16)] ∨ (escB c = [c] ∧ c.toNat ≠ 34 ∧ c.toNat ≠ 92 ∧ 32 ≤ c.toNat ∧ c.toNat ≤ 126) := by
  unfold escB
  split
  · exact .inl ⟨by assumption, rfl⟩
  · split
    · exact .inr (.inl ⟨by assumption, rfl⟩)
    · split
      · exact .inr (.inr (.inl ⟨by assumption, rfl⟩))
      · split
        · exact .inr (.inr (.inr (.inl rfl)))
        · exact .inr (.inr (.inr (.inr ⟨rfl, by assumption, by assumption, by omega, by omega⟩)))

/-- The bytes of a str, read. -/
theorem strFrom_flat (q : ByteArray) : ∀ (l pre : List UInt8) (acc : List Int) (n : Nat), q.data.toList = pre ++ l.flatMap escB ++ [34] → q.size + 1 - pre.length ≤ n → strFrom q n pre.length acc = some (acc ++ l.map (fun c => (c.toNat : Int)), q.size)
  | [], pre, acc, n, h, hn => by
    have hz := data_size h
    simp at hz
    simp at h
    obtain ⟨hlt, e⟩ := get_at (rest := []) h
    obtain ⟨m, rfl⟩ : ∃ m, n = m + 1 := ⟨n - 1, by omega⟩
    simp [strFrom, hlt, e]
    omega
  | c :: r, pre, acc, n, h, hn => by
    have hz := data_size h
    rw [List.flatMap_cons] at h
    have step : ∀ (es : List UInt8) (v : Int) (m : Nat), escB c = es → v = (c.toNat : Int) → q.size + 1 - (pre ++ es).length ≤ m → strFrom q m (pre ++ es).length (acc ++ [v]) = some (acc ++ (c :: r).map (fun c => (c.toNat : Int)), q.size) := by
      intro es v m he hv hm
      have := strFrom_flat q r (pre ++ es) (acc ++ [v]) m (by rw [h, he]; simp) hm
      rw [this, hv]
      simp
    rcases escB_cases c with ⟨hc, he⟩ | ⟨hc, he⟩ | ⟨hc, he⟩ | he | ⟨he, h34, h92, h32, h126⟩
    all_goals rw [he] at h
    · obtain ⟨l0, e0⟩ := get_at (rest := 110 :: (r.flatMap escB ++ [34])) (by simpa using h)
      obtain ⟨l1, e1⟩ := get_at (pre := pre ++ [92]) (rest := r.flatMap escB ++ [34]) (by simpa using h)
      simp only [List.length_append, List.length_cons, List.length_nil] at l1 e1
      obtain ⟨m, rfl⟩ : ∃ m, n = m + 1 := ⟨n - 1, by omega⟩
      have hs := step [92, 110] 10 m he (by omega) (by simp; omega)
      simp only [List.length_append, List.length_cons, List.length_nil] at hs
      simp [strFrom, l0, e0, escAt, l1, e1]
      exact hs
    · obtain ⟨l0, e0⟩ := get_at (rest := 34 :: (r.flatMap escB ++ [34])) (by simpa using h)
      obtain ⟨l1, e1⟩ := get_at (pre := pre ++ [92]) (rest := r.flatMap escB ++ [34]) (by simpa using h)
      simp only [List.length_append, List.length_cons, List.length_nil] at l1 e1
      obtain ⟨m, rfl⟩ : ∃ m, n = m + 1 := ⟨n - 1, by omega⟩
      have hs := step [92, 34] 34 m he (by omega) (by simp; omega)
      simp only [List.length_append, List.length_cons, List.length_nil] at hs
      simp [strFrom, l0, e0, escAt, l1, e1]
      exact hs
    · obtain ⟨l0, e0⟩ := get_at (rest := 92 :: (r.flatMap escB ++ [34])) (by simpa using h)
      obtain ⟨l1, e1⟩ := get_at (pre := pre ++ [92]) (rest := r.flatMap escB ++ [34]) (by simpa using h)
      simp only [List.length_append, List.length_cons, List.length_nil] at l1 e1
      obtain ⟨m, rfl⟩ : ∃ m, n = m + 1 := ⟨n - 1, by omega⟩
      have hs := step [92, 92] 92 m he (by omega) (by simp; omega)
      simp only [List.length_append, List.length_cons, List.length_nil] at hs
      simp [strFrom, l0, e0, escAt, l1, e1]
      exact hs
    · have hc : c.toNat < 256 := c.toNat_lt
      obtain ⟨l0, e0⟩ := get_at (rest := 120 :: hexDig (c.toNat / 16) :: hexDig (c.toNat % 16) :: (r.flatMap escB ++ [34])) (by simpa using h)
      obtain ⟨l1, e1⟩ := get_at (pre := pre ++ [92]) (rest := hexDig (c.toNat / 16) :: hexDig (c.toNat % 16) :: (r.flatMap escB ++ [34])) (by simpa using h)
      obtain ⟨l2, e2⟩ := get_at (pre := pre ++ [92, 120]) (rest := hexDig (c.toNat % 16) :: (r.flatMap escB ++ [34])) (by simpa using h)
      obtain ⟨l3, e3⟩ := get_at (pre := pre ++ [92, 120, hexDig (c.toNat / 16)]) (rest := r.flatMap escB ++ [34]) (by simpa using h)
      simp only [List.length_append, List.length_cons, List.length_nil] at l1 e1 l2 e2 l3 e3
      obtain ⟨m, rfl⟩ : ∃ m, n = m + 1 := ⟨n - 1, by omega⟩
      have v1 := hexVal_dig (c.toNat / 16) (by omega)
      have v2 := hexVal_dig (c.toNat % 16) (by omega)
      have hs := step [92, 120, hexDig (c.toNat / 16), hexDig (c.toNat % 16)] (hexVal (hexDig (c.toNat / 16)) * 16 + hexVal (hexDig (c.toNat % 16))) m he (by rw [v1, v2]; omega) (by simp; omega)
      simp only [List.length_append, List.length_cons, List.length_nil] at hs
      have hea : escAt q (pre.length + 1) = some (hexVal (hexDig (c.toNat / 16)) * 16 + hexVal (hexDig (c.toNat % 16)), pre.length + 1 + 3) := by
        unfold escAt
        rw [dif_pos l1]
        simp only [e1]
        rw [dif_pos (show pre.length + 1 + 2 < q.size by omega)]
        have f2 : q[pre.length + 1 + 1] = hexDig (c.toNat / 16) := e2
        have f3 : q[pre.length + 1 + 2] = hexDig (c.toNat % 16) := e3
        rw [f2, f3, if_pos (show 0 ≤ hexVal (hexDig (c.toNat / 16)) ∧ 0 ≤ hexVal (hexDig (c.toNat % 16)) by rw [v1, v2]; omega)]
        rfl
      simp [strFrom, l0, e0, hea]
      exact hs
    · obtain ⟨l0, e0⟩ := get_at (rest := r.flatMap escB ++ [34]) (by simpa using h)
      obtain ⟨m, rfl⟩ : ∃ m, n = m + 1 := ⟨n - 1, by omega⟩
      have hs := step [c] (c.toNat : Int) m he rfl (by simp; omega)
      simp only [List.length_append, List.length_cons, List.length_nil] at hs
      have i34 : ((c.toNat : Int) == 34) = false := by simp; omega
      have i92 : ((c.toNat : Int) == 92) = false := by simp; omega
      have l32 : ¬ (c.toNat : Int) < 32 := by omega
      have g126 : ¬ 126 < (c.toNat : Int) := by omega
      simp only [strFrom, l0, dif_pos, e0, i34, i92, l32, g126, Bool.false_eq_true, if_false]
      exact hs
end Go.Proofs.YtcpalppfhohbnaaGreatDoor

/- Package lex: a line of blanks and one letter. -/
namespace Go.Proofs.YtcpalppfhohbnaaGreatDoor
open Go.RowKit

/-- The blanks of a line, all of them. -/
theorem blanks_run (s : ByteArray) (x : UInt8) (rest : List UInt8) (hx : x ≠ 32) : ∀ (m : Nat) (pre : List UInt8), s.data.toList = pre ++ List.replicate m 32 ++ x :: rest → blanksTo s pre.length = pre.length + m
  | 0, pre, h => by
    obtain ⟨hlt, e⟩ := get_at (q := s) (pre := pre) (rest := rest) (x := x) (by simpa using h)
    refine passTo_stop hlt ?_
    rw [e]
    have : x.toNat ≠ 32 := fun h => hx (UInt8.toNat_inj.mp h)
    simp [blankB]
    omega
  | m + 1, pre, h => by
    obtain ⟨hlt, e⟩ := get_at (q := s) (pre := pre) (rest := List.replicate m 32 ++ x :: rest) (x := 32) (by simpa [List.replicate_succ] using h)
    have ih := blanks_run s x rest hx m (pre ++ [32]) (by simpa [List.replicate_succ] using h)
    unfold blanksTo at ih ⊢
    rw [passTo_go hlt (by rw [e]; rfl)]
    simp only [List.length_append, List.length_cons, List.length_nil] at ih
    rw [ih]
    omega

/-- A line of blanks and the letter a, b or c. -/
theorem line_letter (s : ByteArray) (c : UInt8) (hc : c = 97 ∨ c = 98 ∨ c = 99) (rest : List UInt8) (m : Nat) (pre : List UInt8) (h : s.data.toList = pre ++ List.replicate m 32 ++ c :: 10 :: rest) (st : List Int) (n : Nat) (tk : List Value) (st' : List Int) (n' : Nat) (tk' : List Value) (hst : settleP st m (pre.length + m) n tk = some (st', n', tk')) :
    lineStep s ⟨pre.length, st, n, tk⟩ = .ok ⟨pre.length + m + 2, st', n' + 2, tk' ++ tokCells kName ⟨#[c]⟩ (pre.length + m) ++ tokCells kNewline ⟨#[]⟩ (pre.length + m + 1)⟩ := by
  have hz := data_size h
  simp at hz
  have hb := blanks_run s c (10 :: rest) (by rcases hc with rfl | rfl | rfl <;> decide) m pre h
  obtain ⟨l0, e0⟩ := get_at (q := s) (pre := pre ++ List.replicate m 32) (rest := 10 :: rest) (x := c) (by simpa using h)
  obtain ⟨l1, e1⟩ := get_at (q := s) (pre := pre ++ List.replicate m 32 ++ [c]) (rest := rest) (x := 10) (by simpa using h)
  simp only [List.length_append, List.length_cons, List.length_nil, List.length_replicate] at l0 e0 l1 e1
  have hcom : commentTo s (pre.length + m) = pre.length + m := by
    unfold commentTo
    rw [dif_pos (by omega)]
    simp only [e0]
    rcases hc with rfl | rfl | rfl <;> rfl
  have hsk : skipTo s pre.length = pre.length + m := by unfold skipTo; rw [hb, hcom]
  have hen : endsB s (pre.length + m) = false := by
    unfold endsB
    rw [dif_pos (by omega)]
    simp only [e0]
    rcases hc with rfl | rfl | rfl <;> rfl
  have hnt : nameTo s (pre.length + m) = pre.length + m + 1 := by
    unfold nameTo
    refine passTo_stop (by omega) ?_
    have : s[pre.length + m + 1] = 10 := e1
    rw [this]; rfl
  have hex : s.extract (pre.length + m) (pre.length + m + 1) = ⟨#[c]⟩ := by
    apply ByteArray.ext
    apply Array.ext'
    rw [ByteArray.data_extract, Array.toList_extract, h]
    simp [List.extract, List.drop_append, List.take_append]
  have hn : nameAt s (pre.length + m) = some (false, ⟨#[c]⟩, pre.length + m + 1) := by
    unfold nameAt
    rw [dif_pos (by omega), hnt, hex]
    simp only [e0]
    have hw : wordB ⟨#[c]⟩ = false := by rcases hc with rfl | rfl | rfl <;> kernel_rfl
    rw [if_neg (by rw [hw]; decide), if_neg (by rcases hc with rfl | rfl | rfl <;> decide), if_neg (by omega)]
  have ht : tokAt s (pre.length + m) = some (kName, ⟨#[c]⟩, pre.length + m + 1) := by
    unfold tokAt
    rw [dif_pos (by omega)]
    simp only [e0]
    rw [if_pos (by rcases hc with rfl | rfl | rfl <;> decide), hn]
    rfl
  have hb1 : blanksTo s (pre.length + m + 1) = pre.length + m + 1 := by
    refine passTo_stop (by omega) ?_
    have : s[pre.length + m + 1] = 10 := e1
    rw [this]; rfl
  have hcom1 : commentTo s (pre.length + m + 1) = pre.length + m + 1 := by
    unfold commentTo
    rw [dif_pos (by omega)]
    have : s[pre.length + m + 1] = 10 := e1
    simp only [this]
    rfl
  have hsk1 : skipTo s (pre.length + m + 1) = pre.length + m + 1 := by unfold skipTo; rw [hb1, hcom1]
  have hen1 : endsB s (pre.length + m + 1) = true := by
    unfold endsB
    rw [dif_pos (by omega)]
    have : s[pre.length + m + 1] = 10 := e1
    simp only [this]
    rfl
  have hr := fun tk n => restToks_stop (s := s) (i := pre.length + m + 1) (tk := tk) (n := n) (by omega) (by rw [hsk1]; exact hen1)
  unfold lineStep
  simp only [hsk, hen, hb]
  rw [if_neg (by decide)]
  have hd : ((pre.length + m : Nat) : Int) - (pre.length : Int) = m := by omega
  rw [hd, hst]
  simp only [ht, hr, hsk1]
  simp only [afterLine]
  rw [if_pos (by omega)]

/-- Lines that stand deeper and deeper, from the indentation m on. -/
def deepLines : Nat → List Nat → List UInt8
  | _, [] => []
  | m, k :: ks => List.replicate (m + k) 32 ++ [98, 10] ++ deepLines (m + k) ks
/-- The indentations that they leave open. -/
def opens (st : List Int) : Nat → List Nat → List Int
  | m, [] => (m : Int) :: st
  | m, k :: ks => opens ((m : Int) :: st) (m + k) ks
/-- Their tokens. -/
def deepToks : Nat → Nat → List Nat → List Value
  | _, _, [] => []
  | i, m, k :: ks => tokCells kIndent ⟨#[]⟩ (i + (m + k)) ++ tokCells kName ⟨#[98]⟩ (i + (m + k)) ++ tokCells kNewline ⟨#[]⟩ (i + (m + k) + 1) ++ deepToks (i + (m + k) + 2) (m + k) ks

theorem run_deep (s : ByteArray) (rest : List UInt8) : ∀ (ks : List Nat) (m : Nat) (pre : List UInt8) (st : List Int) (n : Nat) (tk : List Value), (∀ k ∈ ks, 1 ≤ k) → s.data.toList = pre ++ deepLines m ks ++ rest → Inv s ⟨pre.length, (m : Int) :: st, n, tk⟩ →
    runLines s (s.size - pre.length) ⟨pre.length, (m : Int) :: st, n, tk⟩ = runLines s (s.size - (pre ++ deepLines m ks).length) ⟨(pre ++ deepLines m ks).length, opens st m ks, n + 3 * ks.length, tk ++ deepToks pre.length m ks⟩ ∧
    Inv s ⟨(pre ++ deepLines m ks).length, opens st m ks, n + 3 * ks.length, tk ++ deepToks pre.length m ks⟩
  | [], m, pre, st, n, tk, hk, h, I => by
    simpa [deepLines, opens, deepToks] using I
  | k :: ks, m, pre, st, n, tk, hk, h, I => by
    have hk1 := hk k (by simp)
    have hset : settleP ((m : Int) :: st) ((m + k : Nat) : Int) (pre.length + (m + k)) n tk = some (((m + k : Nat) : Int) :: (m : Int) :: st, n + 1, tk ++ tokCells kIndent ⟨#[]⟩ (pre.length + (m + k))) := by
      unfold settleP
      simp only
      rw [if_pos (by omega)]
    have hl := line_letter s 98 (by simp) (deepLines (m + k) ks ++ rest) (m + k) pre (by simpa [deepLines] using h) _ n tk _ _ _ hset
    have hz := data_size h
    simp [deepLines] at hz
    have hlt : pre.length < s.size := by omega
    have hI := lineStep_inv I hlt hl
    have hg := runLines_go I hlt hl
    have hp : (pre ++ (List.replicate (m + k) 32 ++ [98, 10])).length = pre.length + (m + k) + 2 := by simp; omega
    have ih := run_deep s rest ks (m + k) (pre ++ (List.replicate (m + k) 32 ++ [98, 10])) ((m : Int) :: st) (n + 1 + 2) (tk ++ tokCells kIndent ⟨#[]⟩ (pre.length + (m + k)) ++ tokCells kName ⟨#[98]⟩ (pre.length + (m + k)) ++ tokCells kNewline ⟨#[]⟩ (pre.length + (m + k) + 1)) (fun x hx => hk x (by simp [hx])) (by simpa [deepLines] using h) (by rw [hp]; exact hI.1)
    have e1 : (pre ++ (List.replicate (m + k) 32 ++ [98, 10])) ++ deepLines (m + k) ks = pre ++ deepLines m (k :: ks) := by simp [deepLines]
    rw [e1, hp] at ih
    have e2 : n + 1 + 2 + 3 * ks.length = n + 3 * (k :: ks).length := by simp; omega
    have e3 : tk ++ tokCells kIndent ⟨#[]⟩ (pre.length + (m + k)) ++ tokCells kName ⟨#[98]⟩ (pre.length + (m + k)) ++ tokCells kNewline ⟨#[]⟩ (pre.length + (m + k) + 1) ++ deepToks (pre.length + (m + k) + 2) (m + k) ks = tk ++ deepToks pre.length m (k :: ks) := by simp [deepToks]
    rw [e2, e3] at ih
    refine ⟨?_, ih.2⟩
    rw [hg]
    exact ih.1
end Go.Proofs.YtcpalppfhohbnaaGreatDoor

/- The law LexDeep, plain: what Lex comes to at lines that stand deeper and deeper, and one that goes back. -/
namespace Go.Proofs.YtcpalppfhohbnaaGreatDoor
open Go.RowKit

theorem opens_len : ∀ (ks : List Nat) (m : Nat) (st : List Int), (opens st m ks).length = st.length + 1 + ks.length
  | [], m, st => by simp [opens]
  | k :: ks, m, st => by simp [opens, opens_len ks]; omega

/-- Falling, strictly. -/
def falls : List Int → Prop
  | [] => True
  | [_] => True
  | x :: y :: r => y < x ∧ falls (y :: r)

theorem opens_falls : ∀ (ks : List Nat) (m : Nat) (st : List Int), (∀ k ∈ ks, 1 ≤ k) → falls ((m : Int) :: st) → falls (opens st m ks)
  | [], m, st, _, h => h
  | k :: ks, m, st, hk, h => by
    have h1 := hk k (by simp)
    exact opens_falls ks (m + k) ((m : Int) :: st) (fun x hx => hk x (by simp [hx])) ⟨by omega, h⟩

theorem falls_lt : ∀ (l : List Int) (x : Int) (b : Nat) (y : Int), falls (x :: l) → l[b]? = some y → y < x
  | [], x, b, y, h, hy => by simp at hy
  | z :: r, x, 0, y, h, hy => by simp at hy; have := h.1; omega
  | z :: r, x, b + 1, y, h, hy => by
    have := falls_lt r z b y h.2 (by simpa using hy)
    have := h.1
    omega
theorem falls_tail {x : Int} {l : List Int} (h : falls (x :: l)) : falls l := by
  cases l with
  | nil => trivial
  | cons y r => exact h.2

/-- Back to the one that stands at b: b are closed. -/
theorem popTo_falls : ∀ (b : Nat) (l : List Int) (y : Int), falls l → l[b]? = some y → popTo y l = (b, l.drop b)
  | 0, [], y, h, hy => by simp at hy
  | 0, x :: l, y, h, hy => by
    simp at hy
    subst hy
    simp [popTo]
  | b + 1, [], y, h, hy => by simp at hy
  | b + 1, x :: l, y, h, hy => by
    have hl : l[b]? = some y := by simpa using hy
    have h1 := falls_lt l x b y h hl
    have ih := popTo_falls b l y (falls_tail h) hl
    simp [popTo, h1, ih]

theorem settle_falls (b : Nat) (l : List Int) (y : Int) (i n : Nat) (tk : List Value) (h : falls l) (hy : l[b]? = some y) : settleP l y i n tk = some (l.drop b, n + b, tk ++ dedents i b) := by
  have hp := popTo_falls b l y h hy
  cases l with
  | nil => simp at hy
  | cons x r =>
    have hx : ¬ x < y := by
      cases b with
      | zero => simp at hy; omega
      | succ b => have := falls_lt r x b y h (by simpa using hy); omega
    have hd : ((x :: r).drop b).head? = some y := by rw [List.head?_drop]; exact hy
    unfold settleP
    simp only
    rw [if_neg hx, hp]
    simp only
    rw [if_pos hd]

theorem falls_drop : ∀ (b : Nat) (l : List Int), falls l → falls (l.drop b)
  | 0, l, h => by simpa using h
  | b + 1, [], h => by simp [falls]
  | b + 1, x :: l, h => by simpa using falls_drop b l (falls_tail h)

theorem opens_last : ∀ (ks : List Nat) (m : Nat) (st : List Int) (z : Int), ((m : Int) :: st)[st.length]? = some z → (opens st m ks)[st.length + ks.length]? = some z
  | [], m, st, z, h => by simpa [opens] using h
  | k :: ks, m, st, z, h => by
    have := opens_last ks (m + k) ((m : Int) :: st) z (by simpa using h)
    simp only [List.length_cons] at this ⊢
    rw [show st.length + (ks.length + 1) = st.length + 1 + ks.length by omega]
    exact this

/-- The whole program: a, the lines, and c at the indentation that stands at back. -/
theorem lexP_deep (s : ByteArray) (ks : List Nat) (back m : Nat) (hk : ∀ k ∈ ks, 1 ≤ k) (hb : back ≤ ks.length) (hm : (opens [] 0 ks)[back]? = some (m : Int))
    (h : s.data.toList = [97, 10] ++ deepLines 0 ks ++ (List.replicate m 32 ++ [99, 10])) :
    ∃ i j, lexP s = .ok (2 + 3 * ks.length + back + 2 + (ks.length - back) + 1, tokCells kName ⟨#[97]⟩ 0 ++ tokCells kNewline ⟨#[]⟩ 1 ++ deepToks 2 0 ks ++ dedents i back ++ tokCells kName ⟨#[99]⟩ i ++ tokCells kNewline ⟨#[]⟩ (i + 1) ++ dedents j (ks.length - back) ++ tokCells kEnd ⟨#[]⟩ j) := by
  have hz := data_size h
  simp at hz
  have l0 := line_letter s 97 (by simp) (deepLines 0 ks ++ (List.replicate m 32 ++ [99, 10])) 0 [] (by simpa using h) [0] 0 [] [0] 0 [] rfl
  have h0 : (0 : Nat) < s.size := by omega
  have I1 := lineStep_inv (inv0 s) h0 l0
  have g0 := runLines_go (inv0 s) h0 l0
  have d := run_deep s (List.replicate m 32 ++ [99, 10]) ks 0 [97, 10] [] 2 (tokCells kName ⟨#[97]⟩ 0 ++ tokCells kNewline ⟨#[]⟩ 1) hk h I1.1
  have hf := opens_falls ks 0 [] hk trivial
  have hst := settle_falls back (opens [] 0 ks) m (([97, 10] ++ deepLines 0 ks).length + m) (2 + 3 * ks.length) (tokCells kName ⟨#[97]⟩ 0 ++ tokCells kNewline ⟨#[]⟩ 1 ++ deepToks 2 0 ks) hf hm
  have l1 := line_letter s 99 (by simp) [] m ([97, 10] ++ deepLines 0 ks) (by simpa using h) _ _ _ _ _ _ hst
  have hp : ([97, 10] ++ deepLines 0 ks).length + m + 2 = s.size := by simp; omega
  have h1 : ([97, 10] ++ deepLines 0 ks).length < s.size := by omega
  have g1 := runLines_go d.2 h1 l1
  refine ⟨([97, 10] ++ deepLines 0 ks).length + m, ([97, 10] ++ deepLines 0 ks).length + m + 2, ?_⟩
  have hl : (opens [] 0 ks).length = 1 + ks.length := by simpa using opens_len ks 0 []
  have h00 : (opens [] 0 ks)[ks.length]? = some 0 := by simpa using opens_last ks 0 [] 0 rfl
  have hd0 : ((opens [] 0 ks).drop back)[ks.length - back]? = some 0 := by rw [List.getElem?_drop, show back + (ks.length - back) = ks.length by omega]; exact h00
  have hs2 := fun i n tk => settle_falls (ks.length - back) ((opens [] 0 ks).drop back) 0 i n tk (falls_drop back _ hf) hd0
  unfold lexP
  have e := (g0.trans d.1).trans (g1.trans (runLines_end (by simp only; omega)))
  simp only [Nat.sub_zero] at e
  rw [e]
  simp only [hs2]
end Go.Proofs.YtcpalppfhohbnaaGreatDoor
