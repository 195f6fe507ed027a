/- Package lex: quoted, by its contract. -/
import Derived.Test.YtpidanllncneaaaGreatDoorLexC
import Derived.Laws.BytesArg
import Derived.OwnWalk
namespace Go.Proofs.YtpidanllncneaaaGreatDoor
open Go.RowKit

/-- w' is w but for the place in the reader at block p, which is j, and for new blocks. -/
structure Went (p : Nat) (w w' : World) (j : Nat) : Prop where
  os : w'.os = w.os
  tape : w'.tape = w.tape
  output : w'.output = w.output
  size : w.heap.size ≤ w'.heap.size
  far : ∀ k, k < w.heap.size → k ≠ p → w'.heap[k]? = w.heap[k]?
  at_ : w'.cell? ⟨p, 1, none⟩ = some (.int .i64 j)
  near : ∀ o, o ≠ 1 → w'.cell? ⟨p, o, none⟩ = w.cell? ⟨p, o, none⟩
  fz : ∀ o, w'.frozen? ⟨p, o, none⟩ = w.frozen? ⟨p, o, none⟩

theorem Moved.went {p : Nat} {w w' : World} {j : Nat} (h : Moved p w w' j) : Went p w w' j :=
  ⟨h.os, h.tape, h.output, Nat.le_of_eq h.size.symm, fun k _ hk => h.far k hk, h.at_, h.near, h.fz⟩
theorem Went.trans {p : Nat} {w w1 w2 : World} {i j : Nat} (h : Went p w w1 i) (k : Went p w1 w2 j) : Went p w w2 j :=
  ⟨k.os.trans h.os, k.tape.trans h.tape, k.output.trans h.output, Nat.le_trans h.size k.size, fun x hx hp => (k.far x (Nat.lt_of_lt_of_le hx h.size) hp).trans (h.far x hx hp), k.at_, fun o ho => (k.near o ho).trans (h.near o ho), fun o => (k.fz o).trans (h.fz o)⟩
theorem Went.below {p B : Nat} {w w' : World} {j : Nat} (h : Went p w w' j) (hp : B ≤ p) (hB : B ≤ w.heap.size) : Below B w w' :=
  ⟨h.os, h.tape, h.output, h.size, fun k hk => h.far k (by omega) (by omega)⟩
/-- New blocks alone. -/
theorem Went.ofBelow {p : Nat} {w w' : World} {j : Nat} (h : Below w.heap.size w w') (hp : p < w.heap.size) (hj : w.cell? ⟨p, 1, none⟩ = some (.int .i64 j)) : Went p w w' j :=
  ⟨h.os, h.tape, h.output, h.size, fun k hk _ => h.block k hk, (h.cell (p := ⟨p, 1, none⟩) hp).trans hj, fun o _ => h.cell (p := ⟨p, o, none⟩) hp, fun o => h.frozen (p := ⟨p, o, none⟩) hp⟩

theorem At.went {p : Nat} {s : ByteArray} {i j : Nat} {w w' : World} (h : At p s i w) (hm : Went p w w' j) (hj : j ≤ s.size) : At p s j w' :=
  ⟨h.hs, hj, (hm.near 0 (by decide)).trans h.c0, hm.at_, (hm.fz 1).trans h.f1⟩
theorem At.below {p Q : Nat} {s : ByteArray} {i : Nat} {w w' : World} (h : At p s i w) (hb : Below Q w w') (hp : p < Q) : At p s i w' :=
  ⟨h.hs, h.hat, (hb.cell (p := ⟨p, 0, none⟩) hp).trans h.c0, (hb.cell (p := ⟨p, 1, none⟩) hp).trans h.c1, (hb.frozen (p := ⟨p, 1, none⟩) hp).trans h.f1⟩
theorem Nx.below {p br bf from_ Q : Nat} {a0 : Addr} {w w' : World} (h : Nx p br bf from_ a0 w) (hb : Below Q w w') (h1 : br < Q) (h2 : bf < Q) (h3 : 2 < Q) : Nx p br bf from_ a0 w' :=
  ⟨(hb.cell (p := ⟨br, 0, none⟩) h1).trans h.hr, (hb.cell (p := ⟨bf, 0, none⟩) h2).trans h.hf, (hb.cell (p := ⟨2, 0, none⟩) h3).trans h.hg, h.nr, h.nf, h.ng⟩

/-- What a str means whose byte i is to be looked at next, and the place behind it. -/
def strFrom (s : ByteArray) : Nat → Nat → List Int → Option (List Int × Nat)
  | 0, _, _ => none
  | n + 1, i, acc =>
    if h : i < s.size then
      if (s[i].toNat : Int) == 34 then some (acc, i + 1)
      else if (s[i].toNat : Int) < 32 then none
      else if 126 < (s[i].toNat : Int) then none
      else if (s[i].toNat : Int) == 92 then
        match escAt s (i + 1) with
        | some (v, j) => strFrom s n j (acc ++ [v])
        | none => none
      else strFrom s n (i + 1) (acc ++ [(s[i].toNat : Int)])
    else none

/-- Any number of rounds that is enough gives the same. -/
theorem strFrom_fuel (s : ByteArray) : ∀ n m i acc, s.size + 1 - i ≤ n → s.size + 1 - i ≤ m → strFrom s n i acc = strFrom s m i acc
  | 0, 0, _, _, _, _ => rfl
  | 0, m + 1, i, acc, h, _ => by
    have : ¬ i < s.size := by omega
    simp [strFrom, this]
  | n + 1, 0, i, acc, _, h => by
    have : ¬ i < s.size := by omega
    simp [strFrom, this]
  | n + 1, m + 1, i, acc, h1, h2 => by
    unfold strFrom
    split
    · split
      · rfl
      · split
        · rfl
        · split
          · rfl
          · split
            · cases he : escAt s (i + 1) with
              | none => rfl
              | some x =>
                obtain ⟨v, j⟩ := x
                have := escAt_le s (i + 1) j v he
                exact strFrom_fuel s n m j _ (by omega) (by omega)
            · exact strFrom_fuel s n m (i + 1) _ (by omega) (by omega)
    · rfl

/-- The str that begins with the quote at i. -/
def strAt (s : ByteArray) (i : Nat) : Option (List Int × Nat) := strFrom s (s.size + 1 - (i + 1)) (i + 1) []

theorem ownsRow_far {w w' : World} {base e size n : Nat} {v : Value} {xs : List Value} (h : w.ownsRow base e size v n xs) (hf : ∀ k, base ≤ k → k < w.heap.size → w'.heap[k]? = w.heap[k]?) : w'.ownsRow base e size v n xs := by
  refine ⟨h.1, ?_⟩
  rcases h.2 with hn | ⟨g, cap, cur, hv, hb, hg, rest⟩
  · exact .inl hn
  · exact .inr ⟨g, cap, cur, hv, hb, (hf g hb (lt_of_heap hg)).trans hg, rest⟩
end Go.Proofs.YtpidanllncneaaaGreatDoor
