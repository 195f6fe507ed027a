/- Package lex: a token depends on no more than the bytes up to where it must end. -/
import Derived.Test.YtpflpbfnifpchaaGreatDoorMC
import Derived.Laws.Strings
namespace Go.Proofs.YtpflpbfnifpchaaGreatDoor
open Go.RowKit

/-- Behind these bytes no token goes on: nothing, a blank or a line's end. -/
def halts (S : List UInt8) : Prop := ∀ c ∈ S.head?, c = 10 ∨ c = 32

theorem no_get {q : ByteArray} {pre : List UInt8} (h : q.data.toList = pre) : ¬ pre.length < q.size := by
  have := data_size h; omega

/-- A pass ends where its bytes end. -/
theorem passTo_list (P : Int → Bool) (s : ByteArray) (S : List UInt8) (hS : ∀ c ∈ S.head?, P (c.toNat : Int) = false) : ∀ (L pre : List UInt8), s.data.toList = pre ++ (L ++ S) → passTo P s (s.size - pre.length) pre.length = pre.length + (L.takeWhile fun c => P (c.toNat : Int)).length
  | [], pre, h => by
    cases S with
    | nil =>
      simp only [List.append_nil] at h
      have := data_size h
      simpa using passTo_end (P := P) this.symm
    | cons c S =>
      obtain ⟨hlt, e⟩ := get_at (q := s) (pre := pre) (rest := S) (x := c) (by simpa using h)
      simpa using passTo_stop (P := P) hlt (by rw [e]; exact hS c (by simp))
  | c :: L, pre, h => by
    obtain ⟨hlt, e⟩ := get_at (q := s) (pre := pre) (rest := L ++ S) (x := c) (by simpa using h)
    cases hP : P (c.toNat : Int)
    · simpa [List.takeWhile, hP] using passTo_stop (P := P) hlt (by rw [e]; exact hP)
    · have ih := passTo_list P s S hS L (pre ++ [c]) (by simpa using h)
      rw [passTo_go hlt (by rw [e]; exact hP)]
      simp only [List.length_append, List.length_cons, List.length_nil] at ih
      rw [ih]
      simp [List.takeWhile, hP]
      omega

theorem cut_list (s : ByteArray) (S L pre : List UInt8) (h : s.data.toList = pre ++ (L ++ S)) (m : Nat) (hm : m ≤ L.length) : s.extract pre.length (pre.length + m) = ⟨(L.take m).toArray⟩ := by
  apply ByteArray.ext
  apply Array.ext'
  rw [ByteArray.data_extract, Array.toList_extract, h]
  simp [List.extract, List.take_append_of_le_length hm]

theorem takeWhile_len (p : UInt8 → Bool) (L : List UInt8) : (L.takeWhile p).length ≤ L.length := by
  induction L with
  | nil => simp
  | cons c L ih => simp only [List.takeWhile]; split <;> simp; exact ih

theorem halts_byte {S : List UInt8} (h : halts S) (P : Int → Bool) (h1 : P 10 = false) (h2 : P 32 = false) : ∀ c ∈ S.head?, P (c.toNat : Int) = false := fun c hc => by
  rcases h c hc with rfl | rfl
  · exact h1
  · exact h2

/-- Names, by their bytes alone. -/
def nameL (c : UInt8) (L : List UInt8) : Option (Bool × ByteArray × Nat) :=
  let m := 1 + (L.takeWhile fun c => nameB (c.toNat : Int)).length
  if wordB ⟨((c :: L).take m).toArray⟩ then some (true, ⟨((c :: L).take m).toArray⟩, m)
  else if capitalB (c.toNat : Int) then none
  else if 16 < m then none
  else some (false, ⟨((c :: L).take m).toArray⟩, m)

theorem nameAt_list (s : ByteArray) (c : UInt8) (S L pre : List UInt8) (hS : halts S) (h : s.data.toList = pre ++ (c :: L ++ S)) : nameAt s pre.length = (nameL c L).map fun x => (x.1, x.2.1, pre.length + x.2.2) := by
  obtain ⟨hlt, e⟩ := get_at (q := s) (pre := pre) (rest := L ++ S) (x := c) (by simpa using h)
  have hp := passTo_list nameB s S (halts_byte hS nameB rfl rfl) L (pre ++ [c]) (by simpa using h)
  have hn : nameTo s pre.length = pre.length + (1 + (L.takeWhile fun c => nameB (c.toNat : Int)).length) := by
    unfold nameTo
    simp only [List.length_append, List.length_cons, List.length_nil, Nat.zero_add] at hp
    omega
  have hc := cut_list s S (c :: L) pre h (1 + (L.takeWhile fun c => nameB (c.toNat : Int)).length) (by have := takeWhile_len (fun c => nameB (c.toNat : Int)) L; simp; omega)
  unfold nameAt nameL
  rw [dif_pos hlt, hn, hc, e]
  simp only [Nat.add_sub_cancel_left]
  split
  · rfl
  · split
    · rfl
    · split <;> rfl

def intL (c : UInt8) (L : List UInt8) : Option (ByteArray × Nat) :=
  let m := ((c :: L).takeWhile fun c => digitB (c.toNat : Int)).length
  if (c.toNat : Int) == 48 && decide (1 < m) then none
  else match Lib.parseIntB 64 ((c :: L).take m) with
    | .ok _ => some (⟨((c :: L).take m).toArray⟩, m)
    | _ => none

theorem intAt_list (s : ByteArray) (c : UInt8) (S L pre : List UInt8) (hS : halts S) (h : s.data.toList = pre ++ (c :: L ++ S)) : intAt s pre.length = (intL c L).map fun x => (x.1, pre.length + x.2) := by
  obtain ⟨hlt, e⟩ := get_at (q := s) (pre := pre) (rest := L ++ S) (x := c) (by simpa using h)
  have hp := passTo_list digitB s S (halts_byte hS digitB rfl rfl) (c :: L) pre h
  have hn : digitsTo s pre.length = pre.length + ((c :: L).takeWhile fun c => digitB (c.toNat : Int)).length := hp
  have hc := cut_list s S (c :: L) pre h ((c :: L).takeWhile fun c => digitB (c.toNat : Int)).length (takeWhile_len _ _)
  unfold intAt intL
  rw [dif_pos hlt, hn, hc, e]
  simp only [Nat.add_sub_cancel_left]
  split
  · rfl
  · cases Lib.parseIntB 64 ((c :: L).take ((c :: L).takeWhile fun c => digitB (c.toNat : Int)).length) <;> rfl

/-- The first op of the table, from the k-th on, with which the bytes begin. -/
def opL (L : List UInt8) : Nat → Nat → Option (ByteArray × Nat)
  | 0, _ => none
  | n + 1, k => if (opAt k).data.toList.isPrefixOf L then some (opAt k, (opAt k).size) else opL L n (k + 1)

theorem toList_data (b : ByteArray) : b.toList = b.data.toList := ByteArray.toList_eq b

theorem prefix_halts : ∀ (b L S : List UInt8), halts S → (∀ c ∈ b, c ≠ 10 ∧ c ≠ 32) → b.isPrefixOf (L ++ S) = b.isPrefixOf L
  | [], L, S, hS, hb => by simp
  | c :: b, [], S, hS, hb => by
    cases S with
    | nil => rfl
    | cons d S =>
      have h1 := hb c (by simp)
      have : (c == d) = false := by
        rcases hS d (by simp) with rfl | rfl
        · simpa using h1.1
        · simpa using h1.2
      simp [List.isPrefixOf, this]
  | c :: b, d :: L, S, hS, hb => by
    have ih := prefix_halts b L S hS (fun x hx => hb x (by simp [hx]))
    simp [List.isPrefixOf, ih]

theorem prefixB_list (a b : ByteArray) : prefixB a b = b.data.toList.isPrefixOf a.data.toList := by
  unfold prefixB
  rw [toList_data, toList_data]
  split
  · rename_i hle
    rw [ByteArray.data_extract, Array.toList_extract]
    rw [Bool.eq_iff_iff]
    simp only [List.extract, Nat.sub_zero, List.drop_zero, beq_iff_eq, List.isPrefixOf_iff_prefix]
    constructor
    · intro h
      rw [← h]
      exact List.take_prefix _ _
    · intro h
      have := List.prefix_iff_eq_take.1 h
      simpa using this.symm
  · rename_i hle
    symm
    rw [Bool.eq_false_iff]
    intro h
    rw [List.isPrefixOf_iff_prefix] at h
    have := h.length_le
    simp at this
    exact hle this

theorem opAt_bytes (k : Nat) : ∀ c ∈ (opAt k).data.toList, c ≠ 10 ∧ c ≠ 32 := by
  iterate 21 (rcases k with _ | k; · decide)
  have : opAt (k + 1 + 1 + 1 + 1 + 1 + 1 + 1 + 1 + 1 + 1 + 1 + 1 + 1 + 1 + 1 + 1 + 1 + 1 + 1 + 1 + 1) = ⟨#[]⟩ := rfl
  rw [this]
  simp

theorem opFrom_list (s : ByteArray) (S L pre : List UInt8) (hS : halts S) (h : s.data.toList = pre ++ (L ++ S)) : ∀ n k, opFrom s pre.length n k = (opL L n k).map fun x => (x.1, pre.length + x.2)
  | 0, k => rfl
  | n + 1, k => by
    have hx : (s.extract pre.length s.size).data.toList = L ++ S := by
      have hz := data_size h
      rw [ByteArray.data_extract, Array.toList_extract, h]
      simp [List.extract]
      rw [List.take_of_length_le]
      simp at hz ⊢
      omega
    have hp : prefixB (s.extract pre.length s.size) (opAt k) = (opAt k).data.toList.isPrefixOf L := by
      rw [prefixB_list, hx]
      exact prefix_halts _ _ _ hS (opAt_bytes k)
    unfold opFrom opL
    rw [hp]
    split
    · rfl
    · exact opFrom_list s S L pre hS h n (k + 1)

/-- A str cannot end behind these bytes. -/
def dead (s : ByteArray) (e : Nat) : Prop := ∀ f acc, strFrom s f e acc = none

/-- Two digits of 16. -/
def escX : List UInt8 → Option (Int × Nat)
  | a :: b :: _ => if 0 ≤ hexVal a ∧ 0 ≤ hexVal b then some (hexVal a * 16 + hexVal b, 3) else none
  | _ => none
/-- Behind a backslash: by the bytes up to where a token must end. -/
def escL : List UInt8 → Option (Int × Nat)
  | [] => none
  | c :: L => if (c.toNat : Int) == 110 then some (10, 1) else if (c.toNat : Int) == 34 then some (34, 1) else if (c.toNat : Int) == 92 then some (92, 1) else if (c.toNat : Int) == 120 then escX L else none

theorem hexVal_10 : ¬ 0 ≤ hexVal 10 := by decide
theorem hexVal_32 : ¬ 0 ≤ hexVal 32 := by decide

theorem escAt_end {s : ByteArray} {pre : List UInt8} (h : s.data.toList = pre) : escAt s pre.length = none := by
  unfold escAt
  rw [dif_neg (no_get h)]

theorem escAt_list (s : ByteArray) (S L pre : List UInt8) (hS : halts S) (h : s.data.toList = pre ++ (L ++ S)) : escAt s pre.length = (escL L).map fun x => (x.1, pre.length + x.2) := by
  cases L with
  | nil =>
    cases S with
    | nil =>
      simp only [List.append_nil] at h
      rw [escAt_end h]
      rfl
    | cons d S =>
      obtain ⟨hlt, e⟩ := get_at (q := s) (pre := pre) (rest := S) (x := d) (by simpa using h)
      unfold escAt
      rw [dif_pos hlt, e]
      rcases hS d (by simp) with rfl | rfl <;> rfl
  | cons c L =>
    obtain ⟨hlt, e⟩ := get_at (q := s) (pre := pre) (rest := L ++ S) (x := c) (by simpa using h)
    unfold escAt
    rw [dif_pos hlt, e]
    have hr : escL (c :: L) = if (c.toNat : Int) == 110 then some (10, 1) else if (c.toNat : Int) == 34 then some (34, 1) else if (c.toNat : Int) == 92 then some (92, 1) else if (c.toNat : Int) == 120 then escX L else none := rfl
    rw [hr]
    split
    · rfl
    · split
      · rfl
      · split
        · rfl
        · split
          · have hz := data_size h
            match L, h, hz with
            | a :: b :: L', h, hz =>
              simp at hz
              obtain ⟨l1, e1⟩ := get_at (q := s) (pre := pre ++ [c]) (rest := b :: L' ++ S) (x := a) (by simpa using h)
              obtain ⟨l2, e2⟩ := get_at (q := s) (pre := pre ++ [c, a]) (rest := L' ++ S) (x := b) (by simpa using h)
              simp only [List.length_append, List.length_cons, List.length_nil] at l1 e1 l2 e2
              rw [dif_pos (by omega)]
              have e1' : s[pre.length + 1] = a := e1
              have e2' : s[pre.length + 2] = b := e2
              rw [e1', e2']
              have hx : escX (a :: b :: L') = if 0 ≤ hexVal a ∧ 0 ≤ hexVal b then some (hexVal a * 16 + hexVal b, 3) else none := rfl
              rw [hx]
              split <;> rfl
            | [a], h, hz =>
              have hx : escX [a] = none := rfl
              rw [hx, Option.map_none]
              split
              · rename_i h2
                refine if_neg ?_
                rintro ⟨_, hb⟩
                cases S with
                | nil => simp at hz; omega
                | cons d S =>
                  obtain ⟨l2, e2⟩ := get_at (q := s) (pre := pre ++ [c, a]) (rest := S) (x := d) (by simpa using h)
                  simp only [List.length_append, List.length_cons, List.length_nil] at l2 e2
                  have e2' : s[pre.length + 2] = d := e2
                  rw [e2'] at hb
                  rcases hS d (by simp) with rfl | rfl
                  · exact hexVal_10 hb
                  · exact hexVal_32 hb
              · rfl
            | [], h, hz =>
              have hx : escX [] = none := rfl
              rw [hx, Option.map_none]
              split
              · rename_i h2
                refine if_neg ?_
                rintro ⟨ha, _⟩
                cases S with
                | nil => simp at hz; omega
                | cons d S =>
                  obtain ⟨l2, e2⟩ := get_at (q := s) (pre := pre ++ [c]) (rest := S) (x := d) (by simpa using h)
                  simp only [List.length_append, List.length_cons, List.length_nil] at l2 e2
                  have e2' : s[pre.length + 1] = d := e2
                  rw [e2'] at ha
                  rcases hS d (by simp) with rfl | rfl
                  · exact hexVal_10 ha
                  · exact hexVal_32 ha
              · rfl
          · rfl

theorem escX_bd {L : List UInt8} {v : Int} {k : Nat} (h : escX L = some (v, k)) : 0 < k ∧ k ≤ L.length + 1 := by
  unfold escX at h
  split at h
  · split at h
    · simp at h; simp; omega
    · cases h
  · cases h
theorem escL_bd {L : List UInt8} {v : Int} {k : Nat} (h : escL L = some (v, k)) : 0 < k ∧ k ≤ L.length := by
  unfold escL at h
  split at h
  · cases h
  · split at h
    · simp at h; simp; omega
    · split at h
      · simp at h; simp; omega
      · split at h
        · simp at h; simp; omega
        · split at h
          · have := escX_bd h; simp; omega
          · cases h

/-- A str, by its bytes up to where it must end. -/
def strL : Nat → List UInt8 → List Int → Option (List Int × Nat)
  | 0, _, _ => none
  | _ + 1, [], _ => none
  | n + 1, c :: L, acc =>
    if (c.toNat : Int) == 34 then some (acc, 1)
    else if (c.toNat : Int) < 32 then none
    else if 126 < (c.toNat : Int) then none
    else if (c.toNat : Int) == 92 then
      match escL L with
      | some (v, k) => (strL n (L.drop k) (acc ++ [v])).map fun x => (x.1, x.2 + (k + 1))
      | none => none
    else (strL n L (acc ++ [(c.toNat : Int)])).map fun x => (x.1, x.2 + 1)

theorem strFrom_list (s : ByteArray) (S : List UInt8) (hS : halts S) : ∀ (n f : Nat) (L pre : List UInt8) (acc : List Int), s.data.toList = pre ++ (L ++ S) → dead s (pre.length + L.length) → L.length < n → s.size + 1 - pre.length ≤ f → strFrom s f pre.length acc = (strL n L acc).map fun x => (x.1, pre.length + x.2)
  | 0, _, _, _, _, _, _, h, _ => absurd h (Nat.not_lt_zero _)
  | n + 1, f, [], pre, acc, h, hd, _, _ => by
    rw [show pre.length = pre.length + ([] : List UInt8).length by simp, hd f acc]
    rfl
  | n + 1, f, c :: L, pre, acc, h, hd, hn, hf => by
    obtain ⟨hlt, e⟩ := get_at (q := s) (pre := pre) (rest := L ++ S) (x := c) (by simpa using h)
    obtain ⟨g, rfl⟩ : ∃ g, f = g + 1 := ⟨f - 1, by omega⟩
    have hz := data_size h
    have hr : strL (n + 1) (c :: L) acc = if (c.toNat : Int) == 34 then some (acc, 1)
      else if (c.toNat : Int) < 32 then none
      else if 126 < (c.toNat : Int) then none
      else if (c.toNat : Int) == 92 then
        match escL L with
        | some (v, k) => (strL n (L.drop k) (acc ++ [v])).map fun x => (x.1, x.2 + (k + 1))
        | none => none
      else (strL n L (acc ++ [(c.toNat : Int)])).map fun x => (x.1, x.2 + 1) := rfl
    unfold strFrom
    rw [dif_pos hlt, e, hr]
    split
    · rfl
    · split
      · rfl
      · split
        · rfl
        · split
          · have he := escAt_list s S L (pre ++ [c]) hS (by simpa using h)
            simp only [List.length_append, List.length_cons, List.length_nil, Nat.zero_add] at he
            rw [he]
            cases hv : escL L with
            | none => rfl
            | some x =>
              obtain ⟨v, k⟩ := x
              have hk := escL_bd hv
              have hsp : L.take k ++ L.drop k = L := List.take_append_drop k L
              have ih := strFrom_list s S hS n g (L.drop k) (pre ++ (c :: L.take k)) (acc ++ [v]) (by
                rw [h]
                simp only [List.append_assoc, List.cons_append, ← List.append_assoc (L.take k), hsp]) (by
                have : (pre ++ (c :: L.take k)).length + (L.drop k).length = pre.length + (c :: L).length := by simp; omega
                rw [this]; exact hd) (by simp at hn ⊢; omega) (by simp; omega)
              have hp : (pre ++ (c :: L.take k)).length = pre.length + 1 + k := by simp; omega
              rw [hp] at ih
              simp only [Option.map_some]
              rw [ih]
              cases strL n (L.drop k) (acc ++ [v]) with
              | none => rfl
              | some y => simp; omega
          · have ih := strFrom_list s S hS n g L (pre ++ [c]) (acc ++ [(c.toNat : Int)]) (by simpa using h) (by
              have : (pre ++ [c]).length + L.length = pre.length + (c :: L).length := by simp; omega
              rw [this]; exact hd) (by simp at hn; omega) (by simp; omega)
            simp only [List.length_append, List.length_cons, List.length_nil, Nat.zero_add] at ih
            rw [ih]
            cases strL n L (acc ++ [(c.toNat : Int)]) with
            | none => rfl
            | some y => simp; omega

/-- A token, by its bytes up to where it must end: its kind, its text, how many bytes it has. -/
def tokL : List UInt8 → Option (ByteArray × ByteArray × Nat)
  | [] => none
  | c :: L =>
    if smallB (c.toNat : Int) || capitalB (c.toNat : Int) then (nameL c L).map fun x => (if x.1 then kWord else kName, x.2.1, x.2.2)
    else if digitB (c.toNat : Int) then (intL c L).map fun x => (kInt, x.1, x.2)
    else if (c.toNat : Int) == 34 then (strL (L.length + 1) L []).map fun x => (kStr, strOfNums x.1, x.2 + 1)
    else (opL (c :: L) 21 0).map fun x => (kOp, x.1, x.2)

theorem tokAt_list (s : ByteArray) (S L pre : List UInt8) (hS : halts S) (h : s.data.toList = pre ++ (L ++ S)) (hd : dead s (pre.length + L.length)) (hL : L ≠ []) : tokAt s pre.length = (tokL L).map fun x => (x.1, x.2.1, pre.length + x.2.2) := by
  cases L with
  | nil => exact absurd rfl hL
  | cons c L =>
    obtain ⟨hlt, e⟩ := get_at (q := s) (pre := pre) (rest := L ++ S) (x := c) (by simpa using h)
    have hr : tokL (c :: L) = if smallB (c.toNat : Int) || capitalB (c.toNat : Int) then (nameL c L).map fun x => (if x.1 then kWord else kName, x.2.1, x.2.2)
      else if digitB (c.toNat : Int) then (intL c L).map fun x => (kInt, x.1, x.2)
      else if (c.toNat : Int) == 34 then (strL (L.length + 1) L []).map fun x => (kStr, strOfNums x.1, x.2 + 1)
      else (opL (c :: L) 21 0).map fun x => (kOp, x.1, x.2) := rfl
    unfold tokAt
    rw [dif_pos hlt, e, hr]
    split
    · rw [nameAt_list s c S L pre hS h]
      cases nameL c L <;> rfl
    · split
      · rw [intAt_list s c S L pre hS h]
        cases intL c L <;> rfl
      · split
        · have hs := strFrom_list s S hS (L.length + 1) (s.size + 1 - (pre.length + 1)) L (pre ++ [c]) [] (by simpa using h) (by
            have : (pre ++ [c]).length + L.length = pre.length + (c :: L).length := by simp; omega
            rw [this]; exact hd) (by omega) (by simp)
          simp only [List.length_append, List.length_cons, List.length_nil, Nat.zero_add] at hs
          unfold strAt
          rw [hs]
          cases strL (L.length + 1) L [] with
          | none => rfl
          | some y => simp; omega
        · unfold opTok
          rw [opFrom_list s S (c :: L) pre hS h 21 0]
          cases opL (c :: L) 21 0 <;> rfl
end Go.Proofs.YtpflpbfnifpchaaGreatDoor
