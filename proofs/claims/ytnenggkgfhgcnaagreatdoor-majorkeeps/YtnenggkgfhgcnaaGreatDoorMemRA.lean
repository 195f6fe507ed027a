/- The document's memory: words that point to objects, by contracts. -/
import Derived.Test.YtnenggkgfhgcnaaGreatDoorJoF
namespace Go.Proofs.YtnenggkgfhgcnaaGreatDoor
open Go.RowKit

/-- An object's cells. -/
def objV (F : Nat → Int) (f : Nat) : List Value := [.int .i64 (f : Int), .int .i64 (F f / 4 % 256), .int .i64 (F f / 1024 % 16), .int .i64 (F f / 65536)]
def objsV (F : Nat → Int) (vs : List Nat) : List Value := vs.flatMap (objV F)
theorem lenO (F : Nat → Int) (vs : List Nat) : (objsV F vs).length = vs.length * 4 := by
  induction vs with
  | nil => rfl
  | cons v vs ih => simp [objsV, objV] at *; omega
theorem objs_at {F : Nat → Int} {vs : List Nat} : ∀ {j f : Nat}, vs[j]? = some f → ∀ k, k < 4 → (objsV F vs)[j * 4 + k]? = (objV F f)[k]? := by
  induction vs with
  | nil => intro j f h; cases h
  | cons v vs ih =>
    intro j f h k hk
    have e : objsV F (v :: vs) = objV F v ++ objsV F vs := rfl
    have el : (objV F v).length = 4 := rfl
    rw [e]
    cases j with
    | zero =>
      cases h
      rw [List.getElem?_append_left (by omega)]
      simp
    | succ j =>
      rw [List.getElem?_append_right (by omega), el, show (j + 1) * 4 + k - 4 = j * 4 + k by omega]
      exact ih (j := j) (f := f) (by simpa using h) k hk
/-- Where a word points to (-1: nowhere). -/
def ptI (x : Int) : Int := if x % 4 = 0 ∧ 4 ≤ x ∧ x / 4 ≤ 1099511627776 then x / 4 - 1 else -1
theorem points_any (x : Int) (h0 : 0 ≤ x) (h1 : x < 18446744073709551616) (w : World) :
    Calls Tryz.prog 26 #[.int .u64 x] w fun ev w' => ev = .returned (.int .i64 (ptI x)) ∧ w' = w := by
  unfold ptI
  by_cases c0 : x % 4 = 0
  · by_cases c1 : 4 ≤ x
    · by_cases c2 : x / 4 ≤ 1099511627776
      · rw [if_pos ⟨c0, c1, c2⟩]
        have z : (x == 0) = false := by rw [beq_eq_false_iff_ne]; omega
        go_enter Tryz.func26, Tryz.ntmps26
        go_wp2
        go_ret
        exact ⟨rfl, rfl⟩
      · rw [if_neg (fun h => c2 h.2.2)]
        have z : (x == 0) = false := by rw [beq_eq_false_iff_ne]; omega
        have c3 : x / 4 > 1099511627776 := by omega
        go_enter Tryz.func26, Tryz.ntmps26
        go_wp2
        go_ret
        exact ⟨rfl, rfl⟩
    · rw [if_neg (fun h => c1 h.2.1)]
      obtain rfl : x = 0 := by omega
      go_enter Tryz.func26, Tryz.ntmps26
      go_wp2
      go_ret
      exact ⟨rfl, rfl⟩
  · rw [if_neg (fun h => c0 h.1)]
    have z : (x % 4 != 0) = true := by rw [bne_iff_ne]; exact c0
    go_enter Tryz.func26, Tryz.ntmps26
    go_wp2
    go_ret
    exact ⟨rfl, rfl⟩
/-- Which object begins there (-1: none). -/
def objI (vs : List Nat) (x : Int) : Int := match vs.findIdx? (fun v : Nat => (v : Int) == x) with
  | some i => (i : Int)
  | none => -1
theorem objI_at {vs : List Nat} {x : Int} {k f : Nat} (hk : vs[k]? = some f) (hf : (f : Int) = x) (hno : ∀ i g : Nat, i < k → vs[i]? = some g → (g : Int) ≠ x) : objI vs x = (k : Int) := by
  unfold objI
  have : vs.findIdx? (fun v : Nat => (v : Int) == x) = some k := by
    rw [List.findIdx?_eq_some_iff_getElem]
    obtain ⟨hl, e⟩ := List.getElem?_eq_some_iff.1 hk
    refine ⟨hl, by rw [e]; simpa using hf, fun j hj => ?_⟩
    have := hno j vs[j] hj (List.getElem?_eq_getElem (by omega))
    simpa using this
  rw [this]
theorem objI_no {vs : List Nat} {x : Int} (hno : ∀ i g : Nat, vs[i]? = some g → (g : Int) ≠ x) : objI vs x = -1 := by
  unfold objI
  have : vs.findIdx? (fun v : Nat => (v : Int) == x) = none := by
    rw [List.findIdx?_eq_none_iff]
    intro g hg
    obtain ⟨i, hi⟩ := List.mem_iff_getElem?.1 hg
    have := hno i g hi
    simpa using this
  rw [this]
set_option maxHeartbeats 2000000 in
theorem objectAt_any (F : Nat → Int) (vs : List Nat) (ao : Option Addr) (cap : Nat) (x : Int) (hn : vs.length ≤ 300000) (w : World) (hR : RowV w (.slice ao vs.length cap) vs.length (objsV F vs)) :
    Calls Tryz.prog 27 #[.slice ao vs.length cap, .int .i64 x] w fun ev w' => ev = .returned (.int .i64 (objI vs x)) ∧ w' = w := by
  have HR := toHid hR
  clear hR
  go_enter Tryz.func27, Tryz.ntmps27
  go_wp2_with fail
  go_loopg [5] (vs.length + 1) (fun gk v5 wr => ∃ k : Nat, gk = vs.length + 1 - k ∧ k ≤ vs.length ∧ v5 = .int .i64 (k : Int) ∧ wr = w ∧ Hid (∀ i g : Nat, i < k → vs[i]? = some g → (g : Int) ≠ x))
  case atStart => exact ⟨0, rfl, Nat.zero_le _, rfl, rfl, fun i g hi => by omega⟩
  case round =>
    obtain ⟨k, hgk, hk, hv5, rfl, hno⟩ := hrel
    subst hv5
    have HG := toHid hgk
    clear hgk
    by_cases hlt : k < vs.length
    · have hI : (k : Int) < (vs.length : Int) := by omega
      have hI0 : (0 : Int) ≤ (k : Int) := by omega
      obtain ⟨f, hf⟩ : ∃ f, vs[k]? = some f := ⟨_, List.getElem?_eq_getElem hlt⟩
      obtain ⟨_, _, e, _, f1⟩ := HR.out
      cases e
      obtain ⟨p1, o1, rfl, l1, g1⟩ := f1 (by omega)
      have r1 : wr.cell? ⟨p1, o1 + k * 4, none⟩ = some (.int .i64 (f : Int)) := g1 (k * 4) _ ((objs_at (F := F) hf 0 (by omega)).trans rfl)
      have HF := toHid hf
      clear f1 g1 hf
      by_cases hx : (f : Int) = x
      · have hb : ((f : Int) == x) = true := by rw [beq_iff_eq]; exact hx
        have HO := toHid (objI_at HF.out hx hno.out)
        clear hx
        go_wp2_with fail
        go_ret
        rw [HO.out]
        exact ⟨rfl, rfl⟩
      · have hb : ((f : Int) == x) = false := by rw [beq_eq_false_iff_ne]; exact hx
        have HN : Hid (∀ i g : Nat, i < k + 1 → vs[i]? = some g → (g : Int) ≠ x) := fun i g hi hg => by
          by_cases e : i = k
          · subst e
            rw [HF.out] at hg
            cases hg
            exact hx
          · exact hno.out i g (by omega) hg
        clear hx
        go_wp2_with fail
        go_roundg (vs.length + 1 - (k + 1))
        case measure => have := HG.out; omega
        case rel => exact ⟨k + 1, rfl, by omega, by go_num, rfl, HN⟩
    · obtain rfl : k = vs.length := by omega
      have HO := toHid (objI_no (vs := vs) (x := x) (fun i g hg => hno.out i g (List.getElem?_eq_some_iff.1 hg).1 hg))
      go_wp2_with fail
      go_ret
      rw [HO.out]
      exact ⟨rfl, rfl⟩
/-- May a word stand in a root? In the document's way. -/
def fieldR (vs : List Nat) (x : Int) : Bool := if x % 4 = 0 then (x == 0) || (decide (0 ≤ ptI x) && decide (0 ≤ objI vs (ptI x))) else if x % 4 = 1 then true else if x % 4 = 2 then decide (x / 4 ≤ 2) else false
theorem fieldOK_any (F : Nat → Int) (vs : List Nat) (ao : Option Addr) (cap : Nat) (x : Int) (h0 : 0 ≤ x) (h1 : x < 18446744073709551616) (hn : vs.length ≤ 300000) (w : World) (hR : RowV w (.slice ao vs.length cap) vs.length (objsV F vs)) :
    Calls Tryz.prog 53 #[.int .u64 x, .slice ao vs.length cap] w fun ev w' => ev = .returned (.bool (fieldR vs x)) ∧ w' = w := by
  unfold fieldR
  have kp := points_any x h0 h1 w
  have ko := objectAt_any F vs ao cap (ptI x) hn w hR
  generalize ptI x = pt at *
  by_cases c0 : x % 4 = 0
  · rw [if_pos c0]
    by_cases c1 : x = 0
    · subst c1
      go_enter Tryz.func53, Tryz.ntmps53
      go_wp2_with fail
      go_ret
      exact ⟨rfl, rfl⟩
    · have z : (x == 0) = false := by rw [beq_eq_false_iff_ne]; exact c1
      rw [z, Bool.false_or]
      by_cases c2 : 0 ≤ pt
      · rw [decide_eq_true c2, Bool.true_and]
        go_enter Tryz.func53, Tryz.ntmps53
        go_wp2_with fail
        refine kp.mono ?_
        rintro ev w1 ⟨rfl, hq⟩
        rw [hq]
        clear hq w1
        go_wp2_with fail
        refine kp.mono ?_
        rintro ev w1 ⟨rfl, hq⟩
        rw [hq]
        clear hq w1
        go_wp2_with fail
        refine ko.mono ?_
        rintro ev w1 ⟨rfl, hq⟩
        rw [hq]
        clear hq w1
        go_wp2_with fail
        go_ret
        exact ⟨rfl, rfl⟩
      · rw [decide_eq_false c2, Bool.false_and]
        go_enter Tryz.func53, Tryz.ntmps53
        go_wp2_with fail
        refine kp.mono ?_
        rintro ev w1 ⟨rfl, hq⟩
        rw [hq]
        clear hq w1
        go_wp2_with fail
        go_ret
        exact ⟨rfl, rfl⟩
  · rw [if_neg c0]
    have z0 : (x % 4 == 0) = false := by rw [beq_eq_false_iff_ne]; exact c0
    by_cases c1 : x % 4 = 1
    · rw [if_pos c1]
      go_enter Tryz.func53, Tryz.ntmps53
      go_wp2_with fail
      go_ret
      exact ⟨rfl, rfl⟩
    · rw [if_neg c1]
      have z1 : (x % 4 == 1) = false := by rw [beq_eq_false_iff_ne]; exact c1
      by_cases c2 : x % 4 = 2
      · rw [if_pos c2]
        go_enter Tryz.func53, Tryz.ntmps53
        go_wp2_with fail
        go_ret
        exact ⟨rfl, rfl⟩
      · rw [if_neg c2]
        have z2 : (x % 4 == 2) = false := by rw [beq_eq_false_iff_ne]; exact c2
        go_enter Tryz.func53, Tryz.ntmps53
        go_wp2_with fail
        go_ret
        exact ⟨rfl, rfl⟩
end Go.Proofs.YtnenggkgfhgcnaaGreatDoor
