/- Package lex: a token, by its contract. -/
import Derived.Test.YtpidanllncneaaaGreatDoorLexK
namespace Go.Proofs.YtpidanllncneaaaGreatDoor
open Go.RowKit

/-- What package lex reads of the program's own variables. -/
structure Env (B : Nat) (a0 : Addr) (w : World) : Prop where
  hg : w.cell? ⟨2, 0, none⟩ = some (.iface 177 (.pointer (some a0)))
  words : ∃ tt fr, w.heap[9]? = some (.cells wordCells tt fr)
  ops : ∃ tt fr, w.heap[8]? = some (.cells opCells tt fr)
  range : ∃ tp vp, w.var? Tryz.prog "strconv.ErrRange" = some #[.iface tp vp]
  bg : 2 < B
  bw : 9 < B
  bo : 8 < B
  br : 11 < B

theorem Env.below {B : Nat} {a0 : Addr} {w w' : World} (h : Env B a0 w) (hb : Below B w w') : Env B a0 w' where
  hg := (hb.cell (p := ⟨2, 0, none⟩) h.bg).trans h.hg
  words := by obtain ⟨tt, fr, e⟩ := h.words; exact ⟨tt, fr, (hb.block _ h.bw).trans e⟩
  ops := by obtain ⟨tt, fr, e⟩ := h.ops; exact ⟨tt, fr, (hb.block _ h.bo).trans e⟩
  range := by obtain ⟨tp, vp, e⟩ := h.range; exact ⟨tp, vp, var?_below hb rangeNamed h.br e⟩
  bg := h.bg
  bw := h.bw
  bo := h.bo
  br := h.br

theorem RS.went {B p : Nat} {s : ByteArray} {i j : Nat} {op : List Int} {n : Nat} {tk : List Value} {w w' : World} (h : RS B p s i op n tk w) (hm : Went p w w' j) (hj : j ≤ s.size) : RS B p s j op n tk w' := by
  obtain ⟨hA, hp, hpl, ⟨g, cap, vt, c2, c3, o2, o3, ngp, ntp, ntg⟩, f2, f3⟩ := h
  have own_lt : ∀ {e size m : Nat} {v : Value} {xs : List Value}, w.ownsRow B e size v m xs → ∀ k, v.ownBlock = some k → k < w.heap.size := by
    intro e size m v xs ho k hk
    rcases ho.2 with ⟨rfl, _⟩ | ⟨g', cap', cur, rfl, _, hg', _⟩
    · simp [Value.ownBlock] at hk
    · simp [Value.ownBlock] at hk; subst hk; exact lt_of_heap hg'
  refine ⟨hA.went hm hj, hp, Nat.lt_of_lt_of_le hpl hm.size, ⟨g, cap, vt, (hm.near 2 (by decide)).trans c2, (hm.near 3 (by decide)).trans c3, ?_, ?_, ngp, ntp, ntg⟩, (hm.fz 2).trans f2, (hm.fz 3).trans f3⟩
  · exact ownsRow_far' o2 (fun k hk => hm.far k (own_lt o2 k hk) (fun e => by simp [Value.ownBlock] at hk; omega))
  · exact ownsRow_far' o3 (fun k hk => hm.far k (own_lt o3 k hk) (fun e => ntp (by rw [hk, e])))

def kName : ByteArray := ⟨#[110, 97, 109, 101]⟩
def kWord : ByteArray := ⟨#[119, 111, 114, 100]⟩
def kInt : ByteArray := ⟨#[105, 110, 116]⟩
def kStr : ByteArray := ⟨#[115, 116, 114]⟩
def kOp : ByteArray := ⟨#[111, 112]⟩

/-- The token that begins at i: its kind, its text, the place behind it; none: none begins here. -/
def tokAt (s : ByteArray) (i : Nat) : Option (ByteArray × ByteArray × Nat) :=
  if h : i < s.size then
    if smallB (s[i].toNat : Int) || capitalB (s[i].toNat : Int) then (nameAt s i).map fun x => (if x.1 then kWord else kName, x.2.1, x.2.2)
    else if digitB (s[i].toNat : Int) then (intAt s i).map fun x => (kInt, x.1, x.2)
    else if (s[i].toNat : Int) == 34 then (strAt s i).map fun x => (kStr, strOfNums x.1, x.2)
    else (opTok s i).map fun x => (kOp, x.1, x.2)
  else none

/-- What token comes to. -/
def TPost (B p : Nat) (s : ByteArray) (i : Nat) (op : List Int) (n : Nat) (tk : List Value) (a0 : Addr) (w : World) (ev : Ending) (w' : World) : Prop :=
  match tokAt s i with
  | some (k, t, j) => ev = .returned (.tuple #[]) ∧ RS B p s j op (n + 1) (tk ++ tokCells k t i) w' ∧ Below B w w' ∧ j ≤ s.size
  | none => Thrown B w i a0 ev w'
theorem TPost.some {B p : Nat} {s : ByteArray} {i j : Nat} {op : List Int} {n : Nat} {tk : List Value} {a0 : Addr} {w w' : World} {k t : ByteArray} (h : tokAt s i = some (k, t, j)) (h1 : RS B p s j op (n + 1) (tk ++ tokCells k t i) w') (h2 : Below B w w') (h3 : j ≤ s.size) : TPost B p s i op n tk a0 w (.returned (.tuple #[])) w' := by
  unfold TPost
  rw [h]
  exact ⟨rfl, h1, h2, h3⟩
theorem TPost.none {B p : Nat} {s : ByteArray} {i : Nat} {op : List Int} {n : Nat} {tk : List Value} {a0 : Addr} {w w' : World} {ev : Ending} (h : tokAt s i = Option.none) (h1 : Thrown B w i a0 ev w') : TPost B p s i op n tk a0 w ev w' := by
  unfold TPost
  rw [h]
  exact h1

set_option maxHeartbeats 1000000 in
theorem token_small (B p i : Nat) (s : ByteArray) (op : List Int) (n : Nat) (tk : List Value) (a0 : Addr) (w : World) (h : RS B p s i op n tk w) (E : Env B a0 w) (hlt : i < s.size) (hn : n ≤ 100000)
    (hsm : smallB (s[i].toNat : Int) = true) :
    Calls Tryz.prog 31 #[.pointer (some ⟨p, 0, none⟩)] w fun ev w' => TPost B p s i op n tk a0 w ev w' := by
  have hA := h.hA
  obtain ⟨hs, hat, c0, c1, f1⟩ := h.hA
  have hI : (i : Int) < (s.size : Int) := by omega
  have hI0 : (0 : Int) ≤ (i : Int) := by omega
  have hB : B ≤ w.heap.size := by have := h.hp; have := h.hpl; omega
  obtain ⟨tt, fr, hw⟩ := E.words
  have hsc : (smallB (s[i].toNat : Int) || capitalB (s[i].toNat : Int)) = true := by rw [hsm, Bool.true_or]
  have HSC : Hid ((smallB (s[i].toNat : Int) || capitalB (s[i].toNat : Int)) = true) := hsc
  clear hsc
  go_enter Tryz.func31, Tryz.ntmps31
  go_wp2_with (first | (go_at_call 59; refine (small_any _ _).mono ?_; rintro e w' ⟨rfl, hww⟩; rw [hww]; clear hww) | (go_at_call 60; refine (capital_any _ _).mono ?_; rintro e w' ⟨rfl, hww⟩; rw [hww]; clear hww) | (go_at_call 62; refine (digit_any _ _).mono ?_; rintro e w' ⟨rfl, hww⟩; rw [hww]; clear hww))
  refine (name_walk B p i s a0 w hA hlt h.hpl h.hp E.bg E.hg tt fr E.bw hw).mono ?_
  intro ev w1 hq
  unfold NPost at hq
  cases hna : nameAt s i with
  | none =>
    rw [hna] at hq
    have HN : Hid (tokAt s i = Option.none) := show tokAt s i = Option.none by simp only [tokAt, hlt, dif_pos, HSC.out, if_true, hna, Option.map_none]
    clear hna
    obtain ⟨b, rfl, t1, t2, t3⟩ := hq
    go_wp2
    exact ⟨rfl, TPost.none HN.out ⟨b, rfl, t1, t2, t3⟩⟩
  | some x =>
    obtain ⟨wd, t, j⟩ := x
    rw [hna] at hq
    have HN : Hid (tokAt s i = Option.some (if wd then kWord else kName, t, j)) := show tokAt s i = Option.some (if wd then kWord else kName, t, j) by simp only [tokAt, hlt, dif_pos, HSC.out, if_true, hna, Option.map_some]
    clear hna
    obtain ⟨rfl, hwt, hj⟩ := hq
    have h1 := h.went hwt hj
    have hb1 := hwt.below h.hp hB
    have hB1 : B ≤ w1.heap.size := Nat.le_trans hB hb1.size
    cases wd
    all_goals
      simp only [Bool.false_eq_true, if_false, if_true]
      go_wp2_with fail
      refine (add_any B p s j op n tk _ _ _ i h1 hB1 hn).mono ?_
      rintro ev w2 ⟨rfl, h2, hb2⟩
      go_wp2_with fail
      first | go_end0 | refine bodyPost_ret (results_none rfl _ _ _) rfl ?_
      exact TPost.some HN.out h2 (hb1.trans hb2) hj

set_option maxHeartbeats 1000000 in
theorem token_capital (B p i : Nat) (s : ByteArray) (op : List Int) (n : Nat) (tk : List Value) (a0 : Addr) (w : World) (h : RS B p s i op n tk w) (E : Env B a0 w) (hlt : i < s.size) (hn : n ≤ 100000)
    (hsm : smallB (s[i].toNat : Int) = false) (hcp : capitalB (s[i].toNat : Int) = true) :
    Calls Tryz.prog 31 #[.pointer (some ⟨p, 0, none⟩)] w fun ev w' => TPost B p s i op n tk a0 w ev w' := by
  have hA := h.hA
  obtain ⟨hs, hat, c0, c1, f1⟩ := h.hA
  have hI : (i : Int) < (s.size : Int) := by omega
  have hI0 : (0 : Int) ≤ (i : Int) := by omega
  have hB : B ≤ w.heap.size := by have := h.hp; have := h.hpl; omega
  obtain ⟨tt, fr, hw⟩ := E.words
  have hsc : (smallB (s[i].toNat : Int) || capitalB (s[i].toNat : Int)) = true := by rw [hsm, hcp]; rfl
  have HSC : Hid ((smallB (s[i].toNat : Int) || capitalB (s[i].toNat : Int)) = true) := hsc
  clear hsc
  go_enter Tryz.func31, Tryz.ntmps31
  go_wp2_with (first | (go_at_call 59; refine (small_any _ _).mono ?_; rintro e w' ⟨rfl, hww⟩; rw [hww]; clear hww) | (go_at_call 60; refine (capital_any _ _).mono ?_; rintro e w' ⟨rfl, hww⟩; rw [hww]; clear hww) | (go_at_call 62; refine (digit_any _ _).mono ?_; rintro e w' ⟨rfl, hww⟩; rw [hww]; clear hww))
  refine (name_walk B p i s a0 w hA hlt h.hpl h.hp E.bg E.hg tt fr E.bw hw).mono ?_
  intro ev w1 hq
  unfold NPost at hq
  cases hna : nameAt s i with
  | none =>
    rw [hna] at hq
    have HN : Hid (tokAt s i = Option.none) := show tokAt s i = Option.none by simp only [tokAt, hlt, dif_pos, HSC.out, if_true, hna, Option.map_none]
    clear hna
    obtain ⟨b, rfl, t1, t2, t3⟩ := hq
    go_wp2
    exact ⟨rfl, TPost.none HN.out ⟨b, rfl, t1, t2, t3⟩⟩
  | some x =>
    obtain ⟨wd, t, j⟩ := x
    rw [hna] at hq
    have HN : Hid (tokAt s i = Option.some (if wd then kWord else kName, t, j)) := show tokAt s i = Option.some (if wd then kWord else kName, t, j) by simp only [tokAt, hlt, dif_pos, HSC.out, if_true, hna, Option.map_some]
    clear hna
    obtain ⟨rfl, hwt, hj⟩ := hq
    have h1 := h.went hwt hj
    have hb1 := hwt.below h.hp hB
    have hB1 : B ≤ w1.heap.size := Nat.le_trans hB hb1.size
    cases wd
    all_goals
      simp only [Bool.false_eq_true, if_false, if_true]
      go_wp2_with fail
      refine (add_any B p s j op n tk _ _ _ i h1 hB1 hn).mono ?_
      rintro ev w2 ⟨rfl, h2, hb2⟩
      go_wp2_with fail
      first | go_end0 | refine bodyPost_ret (results_none rfl _ _ _) rfl ?_
      exact TPost.some HN.out h2 (hb1.trans hb2) hj

end Go.Proofs.YtpidanllncneaaaGreatDoor

/- Package lex: a token that is an int, a str, an op; any token. -/
namespace Go.Proofs.YtpidanllncneaaaGreatDoor
open Go.RowKit

set_option maxHeartbeats 1000000 in
theorem token_int (B p i : Nat) (s : ByteArray) (op : List Int) (n : Nat) (tk : List Value) (a0 : Addr) (w : World) (h : RS B p s i op n tk w) (E : Env B a0 w) (hlt : i < s.size) (hn : n ≤ 100000)
    (hsm : smallB (s[i].toNat : Int) = false) (hcp : capitalB (s[i].toNat : Int) = false) (hdg : digitB (s[i].toNat : Int) = true) :
    Calls Tryz.prog 31 #[.pointer (some ⟨p, 0, none⟩)] w fun ev w' => TPost B p s i op n tk a0 w ev w' := by
  have hA := h.hA
  obtain ⟨hs, hat, c0, c1, f1⟩ := h.hA
  have hI : (i : Int) < (s.size : Int) := by omega
  have hI0 : (0 : Int) ≤ (i : Int) := by omega
  have hB : B ≤ w.heap.size := by have := h.hp; have := h.hpl; omega
  obtain ⟨tp, vp, hv⟩ := E.range
  go_enter Tryz.func31, Tryz.ntmps31
  go_wp2_with (first | (go_at_call 59; refine (small_any _ _).mono ?_; rintro e w' ⟨rfl, hww⟩; rw [hww]; clear hww) | (go_at_call 60; refine (capital_any _ _).mono ?_; rintro e w' ⟨rfl, hww⟩; rw [hww]; clear hww) | (go_at_call 62; refine (digit_any _ _).mono ?_; rintro e w' ⟨rfl, hww⟩; rw [hww]; clear hww))
  refine (digits_walk B p i s a0 w hA hlt hdg h.hpl h.hp E.bg E.hg tp vp E.br hv).mono ?_
  intro ev w1 hq
  unfold DPost at hq
  cases hna : intAt s i with
  | none =>
    rw [hna] at hq
    have HN : Hid (tokAt s i = Option.none) := show tokAt s i = Option.none by simp only [tokAt, hlt, dif_pos, hsm, hcp, Bool.or_self, Bool.false_eq_true, if_false, hdg, if_true, hna, Option.map_none]
    clear hna
    obtain ⟨b, rfl, t1, t2, t3⟩ := hq
    go_wp2
    exact ⟨rfl, TPost.none HN.out ⟨b, rfl, t1, t2, t3⟩⟩
  | some x =>
    obtain ⟨t, j⟩ := x
    rw [hna] at hq
    have HN : Hid (tokAt s i = Option.some (kInt, t, j)) := show tokAt s i = Option.some (kInt, t, j) by simp only [tokAt, hlt, dif_pos, hsm, hcp, Bool.or_self, Bool.false_eq_true, if_false, hdg, if_true, hna, Option.map_some]
    clear hna
    obtain ⟨rfl, hwt, hj⟩ := hq
    have h1 := h.went hwt hj
    have hb1 := hwt.below h.hp hB
    have hB1 : B ≤ w1.heap.size := Nat.le_trans hB hb1.size
    go_wp2_with fail
    refine (add_any B p s j op n tk _ _ _ i h1 hB1 hn).mono ?_
    rintro ev w2 ⟨rfl, h2, hb2⟩
    go_wp2_with fail
    first | go_end0 | refine bodyPost_ret (results_none rfl _ _ _) rfl ?_
    exact TPost.some HN.out h2 (hb1.trans hb2) hj

set_option maxHeartbeats 1000000 in
theorem token_str (B p i : Nat) (s : ByteArray) (op : List Int) (n : Nat) (tk : List Value) (a0 : Addr) (w : World) (h : RS B p s i op n tk w) (E : Env B a0 w) (hlt : i < s.size) (hn : n ≤ 100000)
    (hsm : smallB (s[i].toNat : Int) = false) (hcp : capitalB (s[i].toNat : Int) = false) (hdg : digitB (s[i].toNat : Int) = false) (hq34 : ((s[i].toNat : Int) == 34) = true) :
    Calls Tryz.prog 31 #[.pointer (some ⟨p, 0, none⟩)] w fun ev w' => TPost B p s i op n tk a0 w ev w' := by
  have hA := h.hA
  obtain ⟨hs, hat, c0, c1, f1⟩ := h.hA
  have hI : (i : Int) < (s.size : Int) := by omega
  have hI0 : (0 : Int) ≤ (i : Int) := by omega
  have hB : B ≤ w.heap.size := by have := h.hp; have := h.hpl; omega
  go_enter Tryz.func31, Tryz.ntmps31
  go_wp2_with (first | (go_at_call 59; refine (small_any _ _).mono ?_; rintro e w' ⟨rfl, hww⟩; rw [hww]; clear hww) | (go_at_call 60; refine (capital_any _ _).mono ?_; rintro e w' ⟨rfl, hww⟩; rw [hww]; clear hww) | (go_at_call 62; refine (digit_any _ _).mono ?_; rintro e w' ⟨rfl, hww⟩; rw [hww]; clear hww))
  refine (quoted_any B p i s a0 w hA hlt h.hpl h.hp E.bg E.hg).mono ?_
  intro ev w1 hq
  unfold QPost at hq
  cases hna : strAt s i with
  | none =>
    rw [hna] at hq
    have HN : Hid (tokAt s i = Option.none) := show tokAt s i = Option.none by simp only [tokAt, hlt, dif_pos, hsm, hcp, Bool.or_self, Bool.false_eq_true, if_false, hdg, hq34, if_true, hna, Option.map_none]
    clear hna
    obtain ⟨b, rfl, t1, t2, t3⟩ := hq
    go_wp2
    exact ⟨rfl, TPost.none HN.out ⟨b, rfl, t1, t2, t3⟩⟩
  | some x =>
    obtain ⟨t, j⟩ := x
    rw [hna] at hq
    have HN : Hid (tokAt s i = Option.some (kStr, strOfNums t, j)) := show tokAt s i = Option.some (kStr, strOfNums t, j) by simp only [tokAt, hlt, dif_pos, hsm, hcp, Bool.or_self, Bool.false_eq_true, if_false, hdg, hq34, if_true, hna, Option.map_some]
    clear hna
    obtain ⟨rfl, hwt, hj⟩ := hq
    have h1 := h.went hwt hj
    have hb1 := hwt.below h.hp hB
    have hB1 : B ≤ w1.heap.size := Nat.le_trans hB hb1.size
    go_wp2_with fail
    refine (add_any B p s j op n tk _ _ _ i h1 hB1 hn).mono ?_
    rintro ev w2 ⟨rfl, h2, hb2⟩
    go_wp2_with fail
    first | go_end0 | refine bodyPost_ret (results_none rfl _ _ _) rfl ?_
    exact TPost.some HN.out h2 (hb1.trans hb2) hj

set_option maxHeartbeats 1000000 in
theorem token_op (B p i : Nat) (s : ByteArray) (op : List Int) (n : Nat) (tk : List Value) (a0 : Addr) (w : World) (h : RS B p s i op n tk w) (E : Env B a0 w) (hlt : i < s.size) (hn : n ≤ 100000)
    (hsm : smallB (s[i].toNat : Int) = false) (hcp : capitalB (s[i].toNat : Int) = false) (hdg : digitB (s[i].toNat : Int) = false) (hq34 : ((s[i].toNat : Int) == 34) = false) :
    Calls Tryz.prog 31 #[.pointer (some ⟨p, 0, none⟩)] w fun ev w' => TPost B p s i op n tk a0 w ev w' := by
  have hA := h.hA
  obtain ⟨hs, hat, c0, c1, f1⟩ := h.hA
  have hI : (i : Int) < (s.size : Int) := by omega
  have hI0 : (0 : Int) ≤ (i : Int) := by omega
  have hB : B ≤ w.heap.size := by have := h.hp; have := h.hpl; omega
  obtain ⟨tt, fr, hw⟩ := E.ops
  go_enter Tryz.func31, Tryz.ntmps31
  go_wp2_with (first | (go_at_call 59; refine (small_any _ _).mono ?_; rintro e w' ⟨rfl, hww⟩; rw [hww]; clear hww) | (go_at_call 60; refine (capital_any _ _).mono ?_; rintro e w' ⟨rfl, hww⟩; rw [hww]; clear hww) | (go_at_call 62; refine (digit_any _ _).mono ?_; rintro e w' ⟨rfl, hww⟩; rw [hww]; clear hww))
  refine (op_walk B p i s a0 w hA hlt h.hpl h.hp E.hg tt fr hw).mono ?_
  intro ev w1 hq
  unfold OPost at hq
  cases hna : opTok s i with
  | none =>
    rw [hna] at hq
    have HN : Hid (tokAt s i = Option.none) := show tokAt s i = Option.none by simp only [tokAt, hlt, dif_pos, hsm, hcp, Bool.or_self, Bool.false_eq_true, if_false, hdg, hq34, hna, Option.map_none]
    clear hna
    obtain ⟨b, rfl, t1, t2, t3⟩ := hq
    go_wp2
    exact ⟨rfl, TPost.none HN.out ⟨b, rfl, t1, t2, t3⟩⟩
  | some x =>
    obtain ⟨t, j⟩ := x
    rw [hna] at hq
    have HN : Hid (tokAt s i = Option.some (kOp, t, j)) := show tokAt s i = Option.some (kOp, t, j) by simp only [tokAt, hlt, dif_pos, hsm, hcp, Bool.or_self, Bool.false_eq_true, if_false, hdg, hq34, hna, Option.map_some]
    clear hna
    obtain ⟨rfl, hwt, hj⟩ := hq
    have h1 := h.went hwt hj
    have hb1 := hwt.below h.hp hB
    have hB1 : B ≤ w1.heap.size := Nat.le_trans hB hb1.size
    go_wp2_with fail
    refine (add_any B p s j op n tk _ _ _ i h1 hB1 hn).mono ?_
    rintro ev w2 ⟨rfl, h2, hb2⟩
    go_wp2_with fail
    first | go_end0 | refine bodyPost_ret (results_none rfl _ _ _) rfl ?_
    exact TPost.some HN.out h2 (hb1.trans hb2) hj

theorem token_any (B p i : Nat) (s : ByteArray) (op : List Int) (n : Nat) (tk : List Value) (a0 : Addr) (w : World) (h : RS B p s i op n tk w) (E : Env B a0 w) (hlt : i < s.size) (hn : n ≤ 100000) :
    Calls Tryz.prog 31 #[.pointer (some ⟨p, 0, none⟩)] w fun ev w' => TPost B p s i op n tk a0 w ev w' := by
  cases hsm : smallB (s[i].toNat : Int)
  · cases hcp : capitalB (s[i].toNat : Int)
    · cases hdg : digitB (s[i].toNat : Int)
      · cases hq : ((s[i].toNat : Int) == 34)
        · exact token_op B p i s op n tk a0 w h E hlt hn hsm hcp hdg hq
        · exact token_str B p i s op n tk a0 w h E hlt hn hsm hcp hdg hq
      · exact token_int B p i s op n tk a0 w h E hlt hn hsm hcp hdg
    · exact token_capital B p i s op n tk a0 w h E hlt hn hsm hcp
  · exact token_small B p i s op n tk a0 w h E hlt hn hsm

theorem strFrom_lt (s : ByteArray) : ∀ n i acc l j, strFrom s n i acc = some (l, j) → i < j
  | 0, _, _, _, _, h => by simp [strFrom] at h
  | n + 1, i, acc, l, j, h => by
    unfold strFrom at h
    split at h
    · split at h
      · simp at h; omega
      · split at h
        · cases h
        · split at h
          · cases h
          · split at h
            · cases he : escAt s (i + 1) with
              | none => rw [he] at h; cases h
              | some x =>
                obtain ⟨v, k⟩ := x
                rw [he] at h
                have := escAt_le s (i + 1) k v he
                have := strFrom_lt s n k _ l j h
                omega
            · have := strFrom_lt s n (i + 1) _ l j h
              omega
    · cases h
theorem opFrom_lt (s : ByteArray) (i : Nat) : ∀ n k t j, k + n = 21 → opFrom s i n k = some (t, j) → i < j
  | 0, _, _, _, _, h => by simp [opFrom] at h
  | n + 1, k, t, j, hk, h => by
    unfold opFrom at h
    split at h
    · simp at h
      have : 1 ≤ (opAt k).size := by
        have hk' : k < 21 := by omega
        clear hk h
        iterate 21 (rcases k with _ | k; · decide)
        omega
      omega
    · exact opFrom_lt s i n (k + 1) t j (by omega) h
theorem tokAt_lt {s : ByteArray} {i j : Nat} {k t : ByteArray} (h : tokAt s i = some (k, t, j)) : i < j := by
  unfold tokAt at h
  split at h
  · rename_i hlt
    split at h
    · cases hn : nameAt s i with
      | none => rw [hn] at h; cases h
      | some x =>
        rw [hn] at h
        simp at h
        have hx : x.2.2 = nameTo s i := by
          unfold nameAt at hn
          rw [dif_pos hlt] at hn
          split at hn
          · simp at hn; rw [← hn]
          · split at hn
            · cases hn
            · split at hn
              · cases hn
              · simp at hn; rw [← hn]
        have := (passTo_le nameB s (s.size - (i + 1)) (i + 1)).1
        unfold nameTo at hx
        omega
    · split at h
      · rename_i hdg
        cases hn : intAt s i with
        | none => rw [hn] at h; cases h
        | some x =>
          rw [hn] at h
          simp at h
          have hx : x.2 = digitsTo s i := by
            unfold intAt at hn
            rw [dif_pos hlt] at hn
            split at hn
            · cases hn
            · split at hn
              · simp at hn; rw [← hn]
              · cases hn
          have : i + 1 ≤ digitsTo s i := by
            unfold digitsTo
            rw [passTo_go hlt hdg]
            exact (passTo_le digitB s _ (i + 1)).1
          omega
      · split at h
        · cases hn : strAt s i with
          | none => rw [hn] at h; cases h
          | some x =>
            obtain ⟨l, j'⟩ := x
            rw [hn] at h
            simp at h
            have := strFrom_lt s _ _ _ _ _ hn
            omega
        · cases hn : opTok s i with
          | none => rw [hn] at h; cases h
          | some x =>
            obtain ⟨t', j'⟩ := x
            rw [hn] at h
            simp at h
            have := opFrom_lt s i 21 0 _ _ rfl hn
            omega
  · cases h
end Go.Proofs.YtpidanllncneaaaGreatDoor
