/- The law TreeTwice by a walk (written by tools/tree/twice.py). -/
import Derived.Test.YtajkahckmhipkaaGreatDoorTextTToPassC
import Derived.Test.YtajkahckmhipkaaGreatDoorCopyG
import Derived.Test.YtajkahckmhipkaaGreatDoorOfG
import Derived.Test.YtajkahckmhipkaaGreatDoorWeiAToWeiB
import Derived.Test.YtajkahckmhipkaaGreatDoorRows
import Derived.Test.YtajkahckmhipkaaGreatDoorSizeQToCopyA
import Derived.Deep.Fields
import Derived.Deep.Strs
import Derived.ChangeSlices
import Derived.ChangeArms
import Derived.Lib.SmallJoins
import Derived.Test.YtajkahckmhipkaaGreatDoorErrCodeToWrtA
import Derived.Stop.LaidTwo
import Derived.Test.YtajkahckmhipkaaGreatDoorWrtQToStmtM
import Derived.Stop.LaidErr
import Derived.Lib.LaidTab
import Derived.Test.YtajkahckmhipkaaGreatDoorLexSToLexX
namespace Go.Proofs.YtajkahckmhipkaaGreatDoor
open Go.RowKit

set_option maxHeartbeats 16000000 in
set_option maxRecDepth 100000 in
theorem treeTwice_any (s : ByteArray) (a0 a1 a2 : Addr) (w : World) (E : TwEnv w.heap.size a0 a1 a2 w) (ht : Tabbed w) (S : Nat → Prop) (ba : Option Addr) (bc : Nat) (ss : List (DataW Unit)) (h : RepVSL S w ba ss) (hk : OkSL 2000000 ss) (D : Nat) (hD : D ≤ 1000000000) (hz : ZSL D ss) :
    Calls Tryz.prog 3 #[.slice ba ss.length bc, .string s] w fun ev w' => ev = .returned (.bool true) ∧ Below w.heap.size w w' := by
  have HE := toHid E
  have HTB := toHid ht
  have HR := toHid h
  have HK := toHid hk
  have HZ := toHid hz
  clear E ht h hk hz
  go_enter Tryz.func3, Tryz.ntmps3
  go_wp2_with fail
  refine (lawpass_any a0 a1 w HE.out.lenv).mono ?_
  rintro ev w1 ⟨rfl, hb1⟩
  have HB1 := toHid hb1
  have HW := toHid (wtS_all D S w1 ba bc ss (HR.out.same (same_below hb1) (fun b h _ => h)) HK.out HZ.out)
  clear hb1
  go_wp2_with fail
  refine HW.out.mono ?_
  rintro ev w2 ⟨x, rfl, hb2⟩
  have HB2 := toHid (HB1.out.trans (hb2.mono HB1.out.size))
  clear hb2 HW
  by_cases hx : 1500 < x
  · go_wp2_with fail
    go_ret
    exact ⟨rfl, HB2.out⟩
  by_cases hs : 2000 < s.size
  · have hI : (2000 : Int) < (s.size : Int) := by omega
    go_wp2_with fail
    go_ret
    exact ⟨rfl, HB2.out⟩
  have hI : ¬ (2000 : Int) < (s.size : Int) := by omega
  have HOF := toHid (back_anyO S w2 ba bc ss (HR.out.same (same_below HB2.out) (fun b h _ => h)) HK.out)
  go_wp2_with fail
  refine HOF.out.mono ?_
  rintro ev w3 ⟨ba3, bc3, rfl, hR3, hb3⟩
  have HB3 := toHid (HB2.out.trans (hb3.mono HB2.out.size))
  have HTX := toHid (text_two a0 a1 a2 w3 ((HE.out.below HB3.out).up HB3.out.size) (HTB.out.below HB3.out (Nat.le_refl _)) _ ba3 bc3 D ss hR3 HK.out HZ.out hD)
  clear hR3 hb3 HOF
  go_wp2_with fail
  refine HTX.out.mono ?_
  clear HTX
  rintro ev w4 ⟨hb4, ⟨t4, m4, k4, rfl, ht4, hlx4, hpr4⟩ | rfl⟩
  rotate_left
  · obtain ⟨wT, hwT⟩ : ∃ wT, wT = w4 := ⟨_, rfl⟩
    subst hwT
    have HBT := toHid (HB3.out.trans (hb4.mono HB3.out.size))
    clear hb4
    have E7 := (HE.out.below HBT.out).up HBT.out.size
    go_wp2_with fail
    refine (read_any s a0 a1 wT E7.lenv).mono ?_
    rintro ev w7 ⟨hb7, ⟨m7, ss7, k7, ba7, bc7, hs7, hlx7, hpr7, rfl, hR7⟩ | ⟨_, t7, q7, rfl⟩⟩
    rotate_left
    · have HB7 := toHid (HBT.out.trans (hb7.mono HBT.out.size))
      clear hb7 E7
      go_wp2_with fail
      go_ret
      exact ⟨rfl, HB7.out⟩
    have HB7 := toHid (HBT.out.trans (hb7.mono HBT.out.size))
    obtain ⟨hok7, D7, hD7, hz7⟩ := read_fit hs7 hlx7 hpr7
    have HTX := toHid (text_two a0 a1 a2 w7 ((HE.out.below HB7.out).up HB7.out.size) (HTB.out.below HB7.out (Nat.le_refl _)) _ ba7 bc7 D7 ss7 hR7.toW hok7 hz7 hD7)
    have HX7 := toHid hR7.toV
    have HO7 := toHid hok7
    clear hb7 E7 hR7 hok7 hz7 hlx7 hpr7
    go_wp2_with fail
    refine HTX.out.mono ?_
    rintro ev w8 ⟨hb8, ⟨t8, m8, k8, rfl, ht8, hlx8, hpr8⟩ | rfl⟩
    rotate_left
    · have HB8 := toHid (HB7.out.trans (hb8.mono HB7.out.size))
      clear hb8
      go_wp2_with fail
      go_ret
      exact ⟨rfl, HB8.out⟩
    have HB8 := toHid (HB7.out.trans (hb8.mono HB7.out.size))
    have HU8 := toHid hb8
    have HLX8 := toHid hlx8
    have HPR8 := toHid hpr8
    have HT8 := toHid ht8
    clear hb8 hlx8 hpr8 ht8 HTX
    go_wp2_with fail
    refine (read_any t8 a0 a1 w8 ((HE.out.below HB8.out).up HB8.out.size).lenv).mono ?_
    rintro ev w9 ⟨hb9, ⟨m9, ss9, k9, ba9, bc9, _, hlx9, hpr9, rfl, hR9⟩ | ⟨hno, t9, q9, rfl⟩⟩
    rotate_left
    · exfalso
      exact hno m8 ss7 k8 HT8.out HLX8.out HPR8.out
    rw [HLX8.out] at hlx9
    simp only [Except.ok.injEq, Prod.mk.injEq] at hlx9
    obtain rfl := cells_inj _ _ hlx9.2
    rw [HPR8.out] at hpr9
    simp only [Except.ok.injEq, Prod.mk.injEq] at hpr9
    obtain ⟨rfl, rfl⟩ := hpr9
    have HB9 := toHid (HB8.out.trans (hb9.mono HB8.out.size))
    have hb79 := HU8.out.trans (hb9.mono HU8.out.size)
    have HX9 := toHid (HX7.out.same (S' := fun b => wT.heap.size ≤ b) (same_below hb79) (fun b h _ => h))
    have HY9 := toHid hR9.toV
    clear hlx9 hR9 hb9 hb79
    go_wp2_with fail
    refine (back_any _ w9 ba7 bc7 ss7 HX9.out HO7.out).mono ?_
    rintro ev w10 ⟨ba10, bc10, rfl, hr10, hb10⟩
    have HB10 := toHid (HB9.out.trans (hb10.mono HB9.out.size))
    have HY10 := toHid (HY9.out.same (S' := fun b => w8.heap.size ≤ b) (same_below hb10) (fun b h _ => h))
    have HR10 := toHid hr10
    clear hr10 hb10
    go_wp2_with fail
    refine (back_any _ w10 ba9 bc9 ss7 HY10.out HO7.out).mono ?_
    rintro ev w11 ⟨ba11, bc11, rfl, hr11, hb11⟩
    have HB11 := toHid (HB10.out.trans (hb11.mono HB10.out.size))
    have HR1011 := toHid (HR10.out.same (S' := fun b => w9.heap.size ≤ b) (same_below hb11) (fun b h _ => h))
    have HR11 := toHid hr11
    clear hr11 hb11
    go_wp2_with fail
    refine (same_any _ _ w11 ba10 ba11 bc10 bc11 ss7 HR1011.out HR11.out HO7.out).mono ?_
    rintro ev w12 ⟨rfl, hb12⟩
    have HB12 := toHid (HB11.out.trans (hb12.mono HB11.out.size))
    clear hb12
    go_wp2_with fail
    go_ret
    exact ⟨rfl, HB12.out⟩
  have HB4 := toHid (HB3.out.trans (hb4.mono HB3.out.size))
  have HLX4 := toHid hlx4
  have HPR4 := toHid hpr4
  have HT4 := toHid ht4
  clear hb4 hlx4 hpr4 ht4
  go_wp2_with fail
  refine (read_any t4 a0 a1 w4 ((HE.out.below HB4.out).up HB4.out.size).lenv).mono ?_
  rintro ev w5 ⟨hb5, ⟨m5, ss5, k5, ba5, bc5, _, hlx5, hpr5, rfl, hR5⟩ | ⟨hno, t5, q5, rfl⟩⟩
  rotate_left
  · exfalso
    exact hno m4 ss k4 HT4.out HLX4.out HPR4.out
  rw [HLX4.out] at hlx5
  simp only [Except.ok.injEq, Prod.mk.injEq] at hlx5
  obtain rfl := cells_inj _ _ hlx5.2
  rw [HPR4.out] at hpr5
  simp only [Except.ok.injEq, Prod.mk.injEq] at hpr5
  obtain ⟨rfl, rfl⟩ := hpr5
  have HB5 := toHid (HB4.out.trans (hb5.mono HB4.out.size))
  have HX5 := toHid hR5.toV
  clear hlx5 hR5 hb5
  go_wp2_with fail
  refine (back_any _ w5 ba5 bc5 ss HX5.out HK.out).mono ?_
  rintro ev w6 ⟨ba6, bc6, rfl, hr6, hb6⟩
  have HB6 := toHid (HB5.out.trans (hb6.mono HB5.out.size))
  have HSM := toHid (same_any _ S w6 ba6 ba bc6 bc ss hr6 (HR.out.same (same_below HB6.out) (fun b h _ => h)) HK.out)
  clear hr6 hb6
  go_wp2_with fail
  refine HSM.out.mono ?_
  rintro ev wT ⟨rfl, hbT⟩
  have HBT := toHid (HB6.out.trans (hbT.mono HB6.out.size))
  clear hbT HSM
  have E7 := (HE.out.below HBT.out).up HBT.out.size
  go_wp2_with fail
  refine (read_any s a0 a1 wT E7.lenv).mono ?_
  rintro ev w7 ⟨hb7, ⟨m7, ss7, k7, ba7, bc7, hs7, hlx7, hpr7, rfl, hR7⟩ | ⟨_, t7, q7, rfl⟩⟩
  rotate_left
  · have HB7 := toHid (HBT.out.trans (hb7.mono HBT.out.size))
    clear hb7 E7
    go_wp2_with fail
    go_ret
    exact ⟨rfl, HB7.out⟩
  have HB7 := toHid (HBT.out.trans (hb7.mono HBT.out.size))
  obtain ⟨hok7, D7, hD7, hz7⟩ := read_fit hs7 hlx7 hpr7
  have HTX := toHid (text_two a0 a1 a2 w7 ((HE.out.below HB7.out).up HB7.out.size) (HTB.out.below HB7.out (Nat.le_refl _)) _ ba7 bc7 D7 ss7 hR7.toW hok7 hz7 hD7)
  have HX7 := toHid hR7.toV
  have HO7 := toHid hok7
  clear hb7 E7 hR7 hok7 hz7 hlx7 hpr7
  go_wp2_with fail
  refine HTX.out.mono ?_
  rintro ev w8 ⟨hb8, ⟨t8, m8, k8, rfl, ht8, hlx8, hpr8⟩ | rfl⟩
  rotate_left
  · have HB8 := toHid (HB7.out.trans (hb8.mono HB7.out.size))
    clear hb8
    go_wp2_with fail
    go_ret
    exact ⟨rfl, HB8.out⟩
  have HB8 := toHid (HB7.out.trans (hb8.mono HB7.out.size))
  have HU8 := toHid hb8
  have HLX8 := toHid hlx8
  have HPR8 := toHid hpr8
  have HT8 := toHid ht8
  clear hb8 hlx8 hpr8 ht8 HTX
  go_wp2_with fail
  refine (read_any t8 a0 a1 w8 ((HE.out.below HB8.out).up HB8.out.size).lenv).mono ?_
  rintro ev w9 ⟨hb9, ⟨m9, ss9, k9, ba9, bc9, _, hlx9, hpr9, rfl, hR9⟩ | ⟨hno, t9, q9, rfl⟩⟩
  rotate_left
  · exfalso
    exact hno m8 ss7 k8 HT8.out HLX8.out HPR8.out
  rw [HLX8.out] at hlx9
  simp only [Except.ok.injEq, Prod.mk.injEq] at hlx9
  obtain rfl := cells_inj _ _ hlx9.2
  rw [HPR8.out] at hpr9
  simp only [Except.ok.injEq, Prod.mk.injEq] at hpr9
  obtain ⟨rfl, rfl⟩ := hpr9
  have HB9 := toHid (HB8.out.trans (hb9.mono HB8.out.size))
  have hb79 := HU8.out.trans (hb9.mono HU8.out.size)
  have HX9 := toHid (HX7.out.same (S' := fun b => wT.heap.size ≤ b) (same_below hb79) (fun b h _ => h))
  have HY9 := toHid hR9.toV
  clear hlx9 hR9 hb9 hb79
  go_wp2_with fail
  refine (back_any _ w9 ba7 bc7 ss7 HX9.out HO7.out).mono ?_
  rintro ev w10 ⟨ba10, bc10, rfl, hr10, hb10⟩
  have HB10 := toHid (HB9.out.trans (hb10.mono HB9.out.size))
  have HY10 := toHid (HY9.out.same (S' := fun b => w8.heap.size ≤ b) (same_below hb10) (fun b h _ => h))
  have HR10 := toHid hr10
  clear hr10 hb10
  go_wp2_with fail
  refine (back_any _ w10 ba9 bc9 ss7 HY10.out HO7.out).mono ?_
  rintro ev w11 ⟨ba11, bc11, rfl, hr11, hb11⟩
  have HB11 := toHid (HB10.out.trans (hb11.mono HB10.out.size))
  have HR1011 := toHid (HR10.out.same (S' := fun b => w9.heap.size ≤ b) (same_below hb11) (fun b h _ => h))
  have HR11 := toHid hr11
  clear hr11 hb11
  go_wp2_with fail
  refine (same_any _ _ w11 ba10 ba11 bc10 bc11 ss7 HR1011.out HR11.out HO7.out).mono ?_
  rintro ev w12 ⟨rfl, hb12⟩
  have HB12 := toHid (HB11.out.trans (hb12.mono HB11.out.size))
  clear hb12
  go_wp2_with fail
  go_ret
  exact ⟨rfl, HB12.out⟩
end Go.Proofs.YtajkahckmhipkaaGreatDoor

/- Statements that are handed in, read out of memory; no greater than what comes in. -/
namespace Go.Proofs.YtajkahckmhipkaaGreatDoor
open Go.RowKit Go.ChangeShapes Go.WideShapes Go.Deep Go.Joins

theorem cellsS9 : Tryz.prog.cellsOf 9 = 1 := by kernel_rfl
theorem cellsI64 : Tryz.prog.cellsOf 2 = 1 := by kernel_rfl
theorem cellsStrs : Tryz.prog.cellsOf 36 = 1 := by kernel_rfl
theorem cellsExprR : Tryz.prog.cellsOf 45 = 5 := by kernel_rfl
theorem cellsExprsR : Tryz.prog.cellsOf 40 = 1 := by kernel_rfl
theorem cellsStmtR : Tryz.prog.cellsOf 42 = 6 := by kernel_rfl
theorem cellsStmtsR : Tryz.prog.cellsOf 22 = 1 := by kernel_rfl
/-- No place is a map. -/
def NM (ps : List MemPlace) : Prop := ∀ p ∈ ps, ∀ bb, p ≠ .map bb
theorem nm_nil : NM [] := fun p hp => by cases hp
theorem nm_app {a b : List MemPlace} (ha : NM a) (hb : NM b) : NM (a ++ b) := fun p hp => (List.mem_append.1 hp).elim (ha p) (hb p)
theorem nm_row (a : Addr) (n : Nat) : NM (MemPlace.row a n) := fun p hp bb e => by
  obtain ⟨j, _, rfl⟩ := MemPlace.mem_row.1 hp
  cases e
theorem nm_flat {n : Nat} {f : Nat → List MemPlace} (h : ∀ i, i < n → NM (f i)) : NM ((List.range n).flatMap f) := fun p hp bb e => by
  obtain ⟨i, hi, h2⟩ := List.mem_flatMap.1 hp
  exact h i (List.mem_range.1 hi) p h2 bb e
theorem wf64 {n : Int} (h : (Lit.int .i64 n).wf = true) : Fz n := by
  simp only [Lit.wf, Bool.and_eq_true, decide_eq_true_eq] at h
  have e1 : IntKind.i64.min = -9223372036854775808 := by decide
  have e2 : IntKind.i64.max = 9223372036854775807 := by decide
  unfold Fz
  omega
/-! Bulks. -/
theorem bulk_pos {H : Type} (d : DataW H) : 1 ≤ Rows.uptoBulk d := by
  cases d with
  | lit l => cases l <;> simp [Rows.uptoBulk]
  | _ => simp [Rows.uptoBulk]
theorem bulk_mem {H : Type} {d : DataW H} : ∀ {l : List (DataW H)}, d ∈ l → Rows.uptoBulk d ≤ Rows.uptoBulkAll l
  | x :: r, h => by
    rw [Rows.uptoBulkAll]
    rcases List.mem_cons.1 h with rfl | h
    · omega
    · have := bulk_mem h
      omega
theorem bulk_len {H : Type} : ∀ l : List (DataW H), l.length ≤ Rows.uptoBulkAll l
  | [] => by simp
  | x :: r => by
    rw [Rows.uptoBulkAll, List.length_cons]
    have := bulk_pos x
    have := bulk_len r
    omega
/-- A slice's elements, and its spare ones: how many, and each. -/
theorem bulk_slice {H : Type} {n m B : Nat} {D : Nat → DataW H} (h : Rows.uptoBulk (.slice ((List.range n).map D) ((List.range (m - n)).map fun j => D (n + j))) ≤ B + 1) : n ≤ B ∧ ∀ i, i < m → Rows.uptoBulk (D i) ≤ B := by
  rw [Rows.uptoBulk] at h
  have h1 := bulk_len ((List.range n).map D)
  rw [List.length_map, List.length_range] at h1
  refine ⟨by omega, fun i hi => ?_⟩
  rcases Nat.lt_or_ge i n with hin | hin
  · have := bulk_mem (l := (List.range n).map D) (List.mem_map.2 ⟨i, List.mem_range.2 hin, rfl⟩)
    omega
  · have := bulk_mem (l := (List.range (m - n)).map fun j => D (n + j)) (d := D i) (List.mem_map.2 ⟨i - n, List.mem_range.2 (by omega), by rw [Nat.add_sub_cancel' hin]⟩)
    omega
theorem bulk_agg {H : Type} {l : List (DataW H)} {B : Nat} (h : Rows.uptoBulk (.agg l) ≤ B) : ∀ d ∈ l, Rows.uptoBulk d ≤ B := fun d hd => by
  rw [Rows.uptoBulk] at h
  have := bulk_mem hd
  omega
theorem bulk_str {H : Type} {s : ByteArray} {B : Nat} (h : Rows.uptoBulk (.lit (.string s.data.toList) : DataW H) ≤ B) : s.size ≤ B := by
  rw [Rows.uptoBulk] at h
  have e : s.data.toList.length = s.size := by rw [Array.length_toList]; rfl
  omega
theorem addr_plain {W : World} {a : Addr} {v : Value} (h : W.cell? (a.add 0) = some v) : ∃ b o, a = ⟨b, o, none⟩ := by
  obtain ⟨b, o, spot⟩ := a
  have hspot : spot = none := by simpa [Addr.add] using World.cell?_spot h
  subst hspot
  exact ⟨b, o, rfl⟩
abbrev Any : Nat → Prop := fun _ => True
section
variable {H : Type} {enc : TypeId × Value → H} {W : World} {base : Nat} {sp : Nat → Bool} {held : Bool} {fuel : Nat}
theorem trod_struct5 {P : Program} {t : TypeId} {f0 f1 f2 f3 f4 : Field} {cs : List Value} {x : DataW H × List MemPlace} (ht : P.underlying t = some (.struct #[f0, f1, f2, f3, f4])) (h : DataW.trod enc P W base sp held fuel t cs = some x) :
    ∃ y0 y1 y2 y3 y4 n, x = (.agg [y0.1, y1.1, y2.1, y3.1, y4.1], y0.2 ++ (y1.2 ++ (y2.2 ++ (y3.2 ++ y4.2)))) ∧ cs.length = P.cellsOf t ∧ DataW.trod enc P W base sp held n f0.type ((cs.drop f0.offset).take (P.cellsOf f0.type)) = some y0 ∧
      DataW.trod enc P W base sp held n f1.type ((cs.drop f1.offset).take (P.cellsOf f1.type)) = some y1 ∧ DataW.trod enc P W base sp held n f2.type ((cs.drop f2.offset).take (P.cellsOf f2.type)) = some y2 ∧
      DataW.trod enc P W base sp held n f3.type ((cs.drop f3.offset).take (P.cellsOf f3.type)) = some y3 ∧ DataW.trod enc P W base sp held n f4.type ((cs.drop f4.offset).take (P.cellsOf f4.type)) = some y4 := by
  obtain ⟨xs, n, _, rfl, hl, hlen, hf⟩ := DataW.trod_struct ht h
  match xs, hlen with
  | [y0, y1, y2, y3, y4], _ => exact ⟨y0, y1, y2, y3, y4, n, by simp, hl, by simpa using hf 0 f0 rfl, by simpa using hf 1 f1 rfl, by simpa using hf 2 f2 rfl, by simpa using hf 3 f3 rfl, by simpa using hf 4 f4 rfl⟩
theorem trod_struct6 {P : Program} {t : TypeId} {f0 f1 f2 f3 f4 f5 : Field} {cs : List Value} {x : DataW H × List MemPlace} (ht : P.underlying t = some (.struct #[f0, f1, f2, f3, f4, f5])) (h : DataW.trod enc P W base sp held fuel t cs = some x) :
    ∃ y0 y1 y2 y3 y4 y5 n, x = (.agg [y0.1, y1.1, y2.1, y3.1, y4.1, y5.1], y0.2 ++ (y1.2 ++ (y2.2 ++ (y3.2 ++ (y4.2 ++ y5.2))))) ∧ cs.length = P.cellsOf t ∧ DataW.trod enc P W base sp held n f0.type ((cs.drop f0.offset).take (P.cellsOf f0.type)) = some y0 ∧
      DataW.trod enc P W base sp held n f1.type ((cs.drop f1.offset).take (P.cellsOf f1.type)) = some y1 ∧ DataW.trod enc P W base sp held n f2.type ((cs.drop f2.offset).take (P.cellsOf f2.type)) = some y2 ∧
      DataW.trod enc P W base sp held n f3.type ((cs.drop f3.offset).take (P.cellsOf f3.type)) = some y3 ∧ DataW.trod enc P W base sp held n f4.type ((cs.drop f4.offset).take (P.cellsOf f4.type)) = some y4 ∧
      DataW.trod enc P W base sp held n f5.type ((cs.drop f5.offset).take (P.cellsOf f5.type)) = some y5 := by
  obtain ⟨xs, n, _, rfl, hl, hlen, hf⟩ := DataW.trod_struct ht h
  match xs, hlen with
  | [y0, y1, y2, y3, y4, y5], _ => exact ⟨y0, y1, y2, y3, y4, y5, n, by simp, hl, by simpa using hf 0 f0 rfl, by simpa using hf 1 f1 rfl, by simpa using hf 2 f2 rfl, by simpa using hf 3 f3 rfl, by simpa using hf 4 f4 rfl, by simpa using hf 5 f5 rfl⟩
set_option maxRecDepth 100000 in
/-- Names that are handed in. -/
theorem open_names {cs : List Value} {y : DataW H × List MemPlace} {B : Nat} (hB : B ≤ 2000000) (h : DataW.trod enc Tryz.prog W base sp held fuel 36 cs = some y) (hb : Rows.uptoBulk y.1 ≤ B + 1) :
    ∃ (pa : Option Addr) (pl : List ByteArray) (pc : Nat), cs = [.slice pa pl.length pc] ∧ RepN Any W pa pl ∧ pl.length ≤ 2000000 ∧ ZNL pl ∧ NM y.2 := by
  rcases open_strs Tryz.underlying36 Tryz.underlying9 cellsS9 h with ⟨rfl, rfl⟩ | ⟨a, len, cap, m, Sx, rfl, _, hl, _, hmm, rfl, hx⟩
  · exact ⟨none, [], 0, rfl, fun h => absurd h (by simp), by simp, ZNL.nil, nm_nil⟩
  have hlm : len ≤ m := by rw [hmm]; split <;> omega
  obtain ⟨hn, hbi⟩ := bulk_slice (D := fun i => .lit (.string (Sx i).data.toList)) hb
  refine ⟨some a, (List.range len).map Sx, cap, by simp, fun h0 => ?_, by simp; omega, fun x hx2 => ?_, nm_row _ _⟩
  · simp at h0
    obtain ⟨b, o, rfl⟩ := addr_plain (hx 0 (by omega)).1
    refine ⟨b, o, rfl, trivial, fun j t hj => ?_⟩
    have hjl := (List.getElem?_eq_some_iff.1 hj).1
    simp at hjl
    have c0 := (hx j (by omega)).1
    rw [add_plain] at c0
    have e : t = Sx j := by
      rw [List.getElem?_map, List.getElem?_range hjl] at hj
      simpa using hj.symm
    rw [e]
    exact c0
  · obtain ⟨i, hi, rfl⟩ := List.mem_map.1 hx2
    have := bulk_str (hbi i (by have := List.mem_range.1 hi; omega))
    unfold Fs
    omega
/-- A term at an address. -/
def ExprAt (W : World) (n : Nat) (a : Addr) (d : DataW Unit) : Prop := ∃ c0 c1 c2 c3 c4, W.cell? (a.add 0) = some c0 ∧ W.cell? (a.add 1) = some c1 ∧ W.cell? (a.add 2) = some c2 ∧ W.cell? (a.add 3) = some c3 ∧ W.cell? (a.add 4) = some c4 ∧ repV Any W n [c0, c1, c2, c3, c4] d ∧ okT 2000000 n d ∧ zT n d
def ExprsAt (W : World) (n : Nat) (cs : List Value) (y : DataW H × List MemPlace) : Prop := ∃ (la : Option Addr) (el : List (DataW Unit)) (lc : Nat), cs = [.slice la el.length lc] ∧ rowE Any W (repV Any W n) la el ∧ el.length ≤ 2000000 ∧ (∀ e ∈ el, okT 2000000 n e) ∧ (∀ e ∈ el, zT n e) ∧ NM y.2
set_option maxRecDepth 100000 in
theorem open_exprs : ∀ (B : Nat), B ≤ 2000000 → ∀ (fuel : Nat) (cs : List Value) (y : DataW H × List MemPlace), DataW.trod enc Tryz.prog W base sp held fuel 40 cs = some y → Rows.uptoBulk y.1 ≤ B → ExprsAt W B cs y
  | 0, _, _, _, y, _, hb => by have := bulk_pos y.1; omega
  | B + 1, hB, fuel, cs, y, h, hb => by
    rcases open_slice Tryz.underlying40 h with ⟨rfl, rfl⟩ | ⟨a, len, cap, m, n, D, Pl, rfl, _, hl, _, hmm, rfl, hx⟩
    · exact ⟨none, [], 0, rfl, fun h => absurd h (by simp), by simp, fun e he => by simp at he, fun e he => by simp at he, nm_nil⟩
    have hlm : len ≤ m := by rw [hmm]; split <;> omega
    obtain ⟨hn, hbi⟩ := bulk_slice hb
    rw [cellsExprR] at hx
    have each : ∀ i, i < m → ∃ d : DataW Unit, ExprAt W (B + 1) (a.add (i * 5)) d ∧ NM (Pl i) := by
      intro i hi
      obtain ⟨cs', h1, h2⟩ := hx i hi
      have hbd := hbi i hi
      obtain ⟨_, hlen, hcell⟩ := World.cells?_some h1
      obtain ⟨y0, y1, y2, y3, y4, k, hxy, _, g0, g1, g2, g3, g4⟩ := trod_struct5 Tryz.underlying45 h2
      simp only [Prod.mk.injEq] at hxy
      rw [hxy.1] at hbd
      have hba := bulk_agg hbd
      match cs', hlen with
      | [v0, v1, v2, v3, v4], _ =>
        simp [cellsS9, cellsI64, cellsStrs, cellsExprsR] at g0 g1 g2 g3 g4
        obtain ⟨s0, q0, r0, _⟩ := DataW.trod_string Tryz.underlying9 g0
        obtain ⟨z1, q1, r1, w1⟩ := DataW.trod_int Tryz.underlying2 g1
        obtain ⟨s2, q2, r2, _⟩ := DataW.trod_string Tryz.underlying9 g2
        obtain ⟨pa, pl, pc, q3, hN, hpl, hzn, hm3⟩ := open_names (B := B) (by omega) g3 (by have := hba y3.1 (by simp); omega)
        obtain ⟨la, el, lc, q4, hR, hel, hok, hzt, hm4⟩ := open_exprs B (by omega) _ _ _ g4 (hba y4.1 (by simp))
        simp only [List.cons.injEq, and_true] at q0 q1 q2 q3 q4
        subst q0 q1 q2 q3 q4
        have b0 : s0.size ≤ B := bulk_str (H := H) (by have := hba y0.1 (by simp); rw [r0] at this; exact this)
        have b2 : s2.size ≤ B := bulk_str (H := H) (by have := hba y2.1 (by simp); rw [r2] at this; exact this)
        refine ⟨mkE s0 z1 s2 pl el, ⟨_, _, _, _, _, by simpa using hcell 0 (by omega), by simpa using hcell 1 (by omega), by simpa using hcell 2 (by omega), by simpa using hcell 3 (by omega), by simpa using hcell 4 (by omega), ⟨s0, s2, z1, pl, el, pa, la, pc, lc, rfl, rfl, hN, hR⟩, ⟨s0, z1, s2, pl, el, rfl, hpl, hel, hok⟩, ⟨s0, z1, s2, pl, el, rfl, by unfold Fs; omega, by unfold Fs; omega, wf64 w1, hzn, hzt⟩⟩, ?_⟩
        rw [hxy.2, r0, r1, r2]
        exact nm_app nm_nil (nm_app nm_nil (nm_app nm_nil (nm_app hm3 hm4)))
    obtain ⟨f, hf⟩ := @choose_lt (DataW Unit) ⟨.nil⟩ m _ each
    have hget : ∀ (i : Nat) (e : DataW Unit), ((List.range len).map f)[i]? = some e → i < len ∧ e = f i := fun i e hi => by
      have hil := (List.getElem?_eq_some_iff.1 hi).1
      simp at hil
      rw [List.getElem?_map, List.getElem?_range hil] at hi
      exact ⟨hil, by simpa using hi.symm⟩
    refine ⟨some a, (List.range len).map f, cap, by simp, fun h0 => ?_, by simp; omega, fun e he => ?_, fun e he => ?_, nm_app (nm_row _ _) (nm_flat fun i hi => (hf i hi).2)⟩
    · simp at h0
      obtain ⟨c0, _, _, _, _, x0, _⟩ := (hf 0 (by omega)).1
      rw [Nat.zero_mul, add_add] at x0
      obtain ⟨b, o, rfl⟩ := addr_plain x0
      refine ⟨b, o, rfl, trivial, fun i e hi => ?_⟩
      obtain ⟨hil, rfl⟩ := hget i e hi
      obtain ⟨c0, c1, c2, c3, c4, x0, x1, x2, x3, x4, hr, _, _⟩ := (hf i (by omega)).1
      simp only [add_plain, Nat.add_zero] at x0 x1 x2 x3 x4
      exact ⟨c0, c1, c2, c3, c4, x0, x1, x2, x3, x4, hr⟩
    · obtain ⟨i, hi⟩ := List.getElem?_of_mem he
      obtain ⟨hil, rfl⟩ := hget i e hi
      obtain ⟨_, _, _, _, _, _, _, _, _, _, _, h1, _⟩ := (hf i (by omega)).1
      exact h1
    · obtain ⟨i, hi⟩ := List.getElem?_of_mem he
      obtain ⟨hil, rfl⟩ := hget i e hi
      obtain ⟨_, _, _, _, _, _, _, _, _, _, _, _, h1⟩ := (hf i (by omega)).1
      exact h1
/-- A statement at an address. -/
def StmtAtR (W : World) (n : Nat) (a : Addr) (d : DataW Unit) : Prop := ∃ c0 c1 c2 c3 c4 c5, W.cell? (a.add 0) = some c0 ∧ W.cell? (a.add 1) = some c1 ∧ W.cell? (a.add 2) = some c2 ∧ W.cell? (a.add 3) = some c3 ∧ W.cell? (a.add 4) = some c4 ∧ W.cell? (a.add 5) = some c5 ∧ repVS Any W n [c0, c1, c2, c3, c4, c5] d ∧ okS 2000000 n d ∧ zS n d
def StmtsAtR (W : World) (n : Nat) (cs : List Value) (y : DataW H × List MemPlace) : Prop := ∃ (ba : Option Addr) (bd : List (DataW Unit)) (bc : Nat), cs = [.slice ba bd.length bc] ∧ rowS Any W (repVS Any W n) ba bd ∧ bd.length ≤ 2000000 ∧ (∀ e ∈ bd, okS 2000000 n e) ∧ (∀ e ∈ bd, zS n e) ∧ NM y.2
set_option maxRecDepth 100000 in
theorem open_stmts : ∀ (B : Nat), B ≤ 2000000 → ∀ (fuel : Nat) (cs : List Value) (y : DataW H × List MemPlace), DataW.trod enc Tryz.prog W base sp held fuel 22 cs = some y → Rows.uptoBulk y.1 ≤ B → StmtsAtR W B cs y
  | 0, _, _, _, y, _, hb => by have := bulk_pos y.1; omega
  | B + 1, hB, fuel, cs, y, h, hb => by
    rcases open_slice Tryz.underlying22 h with ⟨rfl, rfl⟩ | ⟨a, len, cap, m, n, D, Pl, rfl, _, hl, _, hmm, rfl, hx⟩
    · exact ⟨none, [], 0, rfl, fun h => absurd h (by simp), by simp, fun e he => by simp at he, fun e he => by simp at he, nm_nil⟩
    have hlm : len ≤ m := by rw [hmm]; split <;> omega
    obtain ⟨hn, hbi⟩ := bulk_slice hb
    rw [cellsStmtR] at hx
    have each : ∀ i, i < m → ∃ d : DataW Unit, StmtAtR W (B + 1) (a.add (i * 6)) d ∧ NM (Pl i) := by
      intro i hi
      obtain ⟨cs', h1, h2⟩ := hx i hi
      have hbd := hbi i hi
      obtain ⟨_, hlen, hcell⟩ := World.cells?_some h1
      obtain ⟨y0, y1, y2, y3, y4, y5, k, hxy, _, g0, g1, g2, g3, g4, g5⟩ := trod_struct6 Tryz.underlying42 h2
      simp only [Prod.mk.injEq] at hxy
      rw [hxy.1] at hbd
      have hba := bulk_agg hbd
      match cs', hlen with
      | [v0, v1, v2, v3, v4, v5], _ =>
        simp [cellsS9, cellsStrs, cellsExprsR, cellsStmtsR] at g0 g1 g2 g3 g4 g5
        obtain ⟨s0, q0, r0, _⟩ := DataW.trod_string Tryz.underlying9 g0
        obtain ⟨s1, q1, r1, _⟩ := DataW.trod_string Tryz.underlying9 g1
        obtain ⟨pa, pl, pc, q2, hN, hpl, hzn, hm2⟩ := open_names (B := B) (by omega) g2 (by have := hba y2.1 (by simp); omega)
        obtain ⟨la, el, lc, q3, hR, hel, hok, hzt, hm3⟩ := open_exprs B (by omega) _ _ _ g3 (hba y3.1 (by simp))
        obtain ⟨ba, bd, bc, q4, hR4, hbl4, hok4, hz4, hm4⟩ := open_stmts B (by omega) _ _ _ g4 (hba y4.1 (by simp))
        obtain ⟨ea, es, ec, q5, hR5, hbl5, hok5, hz5, hm5⟩ := open_stmts B (by omega) _ _ _ g5 (hba y5.1 (by simp))
        simp only [List.cons.injEq, and_true] at q0 q1 q2 q3 q4 q5
        subst q0 q1 q2 q3 q4 q5
        have b0 : s0.size ≤ B := bulk_str (H := H) (by have := hba y0.1 (by simp); rw [r0] at this; exact this)
        have b1 : s1.size ≤ B := bulk_str (H := H) (by have := hba y1.1 (by simp); rw [r1] at this; exact this)
        refine ⟨mkS s0 s1 pl el bd es, ⟨_, _, _, _, _, _, by simpa using hcell 0 (by omega), by simpa using hcell 1 (by omega), by simpa using hcell 2 (by omega), by simpa using hcell 3 (by omega), by simpa using hcell 4 (by omega), by simpa using hcell 5 (by omega), ⟨s0, s1, pl, el, bd, es, pa, la, ba, ea, pc, lc, bc, ec, rfl, rfl, hN, hR.imp (fun cs d h => ⟨B, h⟩), hR4, hR5⟩, ⟨s0, s1, pl, el, bd, es, rfl, hpl, ⟨hel, fun e he => ⟨B, hok e he⟩⟩, hbl4, hbl5, hok4, hok5⟩, ⟨s0, s1, pl, el, bd, es, rfl, by unfold Fs; omega, by unfold Fs; omega, hzn, fun e he => ⟨B, hzt e he⟩, hz4, hz5⟩⟩, ?_⟩
        rw [hxy.2, r0, r1]
        exact nm_app nm_nil (nm_app nm_nil (nm_app hm2 (nm_app hm3 (nm_app hm4 hm5))))
    obtain ⟨f, hf⟩ := @choose_lt (DataW Unit) ⟨.nil⟩ m _ each
    have hget : ∀ (i : Nat) (e : DataW Unit), ((List.range len).map f)[i]? = some e → i < len ∧ e = f i := fun i e hi => by
      have hil := (List.getElem?_eq_some_iff.1 hi).1
      simp at hil
      rw [List.getElem?_map, List.getElem?_range hil] at hi
      exact ⟨hil, by simpa using hi.symm⟩
    refine ⟨some a, (List.range len).map f, cap, by simp, fun h0 => ?_, by simp; omega, fun e he => ?_, fun e he => ?_, nm_app (nm_row _ _) (nm_flat fun i hi => (hf i hi).2)⟩
    · simp at h0
      obtain ⟨c0, _, _, _, _, _, x0, _⟩ := (hf 0 (by omega)).1
      rw [Nat.zero_mul, add_add] at x0
      obtain ⟨b, o, rfl⟩ := addr_plain x0
      refine ⟨b, o, rfl, trivial, fun i e hi => ?_⟩
      obtain ⟨hil, rfl⟩ := hget i e hi
      obtain ⟨c0, c1, c2, c3, c4, c5, x0, x1, x2, x3, x4, x5, hr, _, _⟩ := (hf i (by omega)).1
      simp only [add_plain, Nat.add_zero] at x0 x1 x2 x3 x4 x5
      exact ⟨c0, c1, c2, c3, c4, c5, x0, x1, x2, x3, x4, x5, hr⟩
    · obtain ⟨i, hi⟩ := List.getElem?_of_mem he
      obtain ⟨hil, rfl⟩ := hget i e hi
      obtain ⟨_, _, _, _, _, _, _, _, _, _, _, _, _, h1, _⟩ := (hf i (by omega)).1
      exact h1
    · obtain ⟨i, hi⟩ := List.getElem?_of_mem he
      obtain ⟨hil, rfl⟩ := hget i e hi
      obtain ⟨_, _, _, _, _, _, _, _, _, _, _, _, _, _, h1⟩ := (hf i (by omega)).1
      exact h1
set_option maxRecDepth 100000 in
/-- Statements that are handed in. -/
theorem open_prog {v : Value} {d : DataW H} {ps : List MemPlace} {r : Reach} {b0 B : Nat} (hB : B ≤ 2000000) (hval : Value.okWide Tryz.prog W r b0 22 v) (h : DataW.Trod enc Tryz.prog W base sp held 22 v d ps) (hb : Rows.uptoBulk d ≤ B) :
    ∃ (ba : Option Addr) (ss : List (DataW Unit)) (bc : Nat), v = .slice ba ss.length bc ∧ RepVSL Any W ba ss ∧ OkSL 2000000 ss ∧ ZSL B ss ∧ NM ps := by
  obtain ⟨a, n, c, rfl⟩ := okWide_slice Tryz.underlying22 hval
  obtain ⟨fuel, hf⟩ := h
  simp only [Value.cells] at hf
  obtain ⟨ba, bd, bc, q, hR, hl, hok, hz, hm⟩ := open_stmts B hB _ _ _ hf hb
  simp only [List.cons.injEq, and_true] at q
  exact ⟨ba, bd, bc, q, rowS.imp hR (fun cs d h => ⟨B, h⟩), ⟨hl, fun e he => ⟨_, hok e he⟩⟩, hz, hm⟩
end
end Go.Proofs.YtajkahckmhipkaaGreatDoor

/- What a row's list of variables gives a walk: the seven errors of package api, apart from each other, and the handle of the type error. -/
namespace Go.Proofs.YtajkahckmhipkaaGreatDoor
open Go.RowKit

theorem laidVars_sub {P : Program} {w : World} {l l' : List (String × DataW Unit)} (h : l'.Sublist l) : ∀ ps, DataW.LaidVars P w l ps → ∃ qs, DataW.LaidVars P w l' qs ∧ qs.Sublist ps := by
  induction h with
  | slnil => intro ps hp; exact ⟨ps, hp, List.Sublist.refl _⟩
  | cons x _ ih =>
    intro ps hp
    obtain ⟨n, d⟩ := x
    obtain ⟨g, t, cs, fuel, p, q, _, _, _, _, hq, rfl⟩ := hp
    obtain ⟨qs, h1, h2⟩ := ih q hq
    exact ⟨qs, h1, h2.trans (List.sublist_append_right _ _)⟩
  | cons_cons x _ ih =>
    intro ps hp
    obtain ⟨n, d⟩ := x
    obtain ⟨g, t, cs, fuel, p, q, e1, e2, e3, e4, hq, rfl⟩ := hp
    obtain ⟨qs, h1, h2⟩ := ih q hq
    exact ⟨_, ⟨g, t, cs, fuel, p, qs, e1, e2, e3, e4, h1, rfl⟩, (List.Sublist.refl _).append h2⟩

theorem laidMet_sub {P : Program} {w : World} {l l' : List (String × DataW Unit)} (h : l'.Sublist l) (hl : laidMet P l w) : laidMet P l' w := by
  obtain ⟨ps, h1, h2, h3⟩ := hl
  obtain ⟨qs, k1, k2⟩ := laidVars_sub h ps h1
  exact ⟨qs, k1, h2.sublist k2, fun b off hm => h3 b off (k2.subset hm)⟩

theorem star : "*" ++ "errors.errorString" = "*errors.errorString" := by decide
theorem rowSp (u : TypeId) (h : Tryz.prog.typeName? 3 u = some "*errors.errorString") : u = 163 :=
  typeName_ptr_named (nm := "errors.errorString") (by rw [star]; kernel_rfl) (by kernel_rfl) (by decide) u (by rw [star]; exact h)
theorem cellsS : Tryz.prog.cellsOf 165 = 1 := by kernel_rfl
theorem cellsStr : Tryz.prog.cellsOf 9 = 1 := by kernel_rfl

def sentName : Nat → String
  | 0 => "nurserypy/api.ErrText"
  | 1 => "nurserypy/api.ErrBound"
  | _ => "nurserypy/api.ErrShape"
def sentGlobal : Nat → Nat
  | 0 => 2
  | 1 => 1
  | _ => 0
def sentTail : Nat → List UInt8
  | 0 => [116, 101, 120, 116]
  | 1 => [98, 111, 117, 110, 100]
  | _ => [115, 104, 97, 112, 101]
def sentText (i : Nat) : ByteArray := ⟨([110, 117, 114, 115, 101, 114, 121, 112, 121, 58, 32] ++ sentTail i).toArray⟩
def sentLaid (i : Nat) : String × DataW Unit := (sentName i, .iface "*errors.errorString" (.ptr (.agg [.lit (.string ([110, 117, 114, 115, 101, 114, 121, 112, 121, 58, 32] ++ sentTail i))])))

theorem sent_named (i : Nat) (hi : i < 3) : Tryz.prog.globalNamed (sentName i) = some (sentGlobal i) := by
  iterate 3 (rcases i with _ | i; · kernel_rfl)
  omega
theorem sent_type (i : Nat) (hi : i < 3) : (Tryz.prog.globals[sentGlobal i]?).map (·.type) = some 26 := by
  iterate 3 (rcases i with _ | i; · kernel_rfl)
  omega

/-- One of the seven, out of the list. -/
theorem sent_one {W : World} (i : Nat) (hi : i < 3) (h : laidMet Tryz.prog [sentLaid i] W) : ∃ a : Addr, W.var? Tryz.prog (sentName i) = some #[.iface 163 (.pointer (some a))] ∧ W.cell? a = some (.string (sentText i)) := by
  obtain ⟨a, s, h1, h2, h3, _⟩ := laid_sentinel h (sent_named i hi) (sent_type i hi) Tryz.underlying26 rowSp Tryz.underlying163 Tryz.underlying165 rfl rfl Tryz.underlying9 cellsS cellsStr
  refine ⟨a, h1, ?_⟩
  rw [h2]
  congr 2
  apply ByteArray.ext
  show s.data = _
  rw [← Array.toList_inj, h3]
  simp [sentText]

theorem sent_cell {W : World} (i : Nat) (hi : i < 3) (a : Addr) (ha : W.var? Tryz.prog (sentName i) = some #[.iface 163 (.pointer (some a))]) : W.cell? ⟨sentGlobal i, 0, none⟩ = some (.iface 163 (.pointer (some a))) := by
  simpa using World.var?_cell (sent_named i hi) ha 0

end Go.Proofs.YtajkahckmhipkaaGreatDoor

/- What the row of TreeTwice lays: the table of powers of ten. -/
namespace Go.Proofs.YtajkahckmhipkaaGreatDoor
open Go.RowKit

theorem twice_tab {W : World} {x y : String × DataW Unit} {r : List (String × DataW Unit)} (h : laidMet Tryz.prog (x :: y :: ("internal/strconv.uint64pow10", Lib.tabData .u64 Lib.pow10Tab) :: r) W) : Tabbed W :=
  Lib.tabIs_of_head (g := 7) (t := 157) (e := 129) (n := 20) (by kernel_rfl) (by kernel_rfl) Tryz.underlying157 Tryz.underlying129 (by kernel_rfl) (by kernel_rfl) (laidMet.tail (laidMet.tail h))
end Go.Proofs.YtajkahckmhipkaaGreatDoor

/- What the list of variables of a law about package lex gives its walk. -/
namespace Go.Proofs.YtajkahckmhipkaaGreatDoor
open Go.RowKit

/-- A table of strings, as data. -/
def strTab {H : Type} (l : List (List UInt8)) : DataW H := .agg (l.map fun b => .lit (.string b))

/-- An array of strings that reads as the table holds the table's strings, cell for cell. -/
theorem cells_of_strs {H : Type} {enc : TypeId × Value → H} {P : Program} {w : World} {base : Nat} {sp : Nat → Bool} {held : Bool} {fuel : Nat} {t e : TypeId} {n : Nat} {cs : List Value} {l : List (List UInt8)} {p : List MemPlace}
    (ht : P.underlying t = some (.array n e)) (he : P.underlying e = some .string) (hce : P.cellsOf e = 1) (hct : P.cellsOf t = n)
    (h : DataW.trod enc P w base sp held fuel t cs = some (strTab l, p)) : cs = l.map fun b => Value.string ⟨b.toArray⟩ := by
  cases fuel with
  | zero => simp [DataW.trod] at h
  | succ fuel =>
    simp only [DataW.trod, ht, hce, hct, Nat.mul_one] at h
    split at h
    · rename_i hl
      obtain ⟨xs, hm, hx⟩ := Option.map_eq_some_iff.1 h
      have hxs : xs.map (·.1) = l.map fun b => (DataW.lit (.string b) : DataW H) := by
        have := congrArg Prod.fst hx
        simpa [strTab] using this
      have hxl : xs.length = n := by simpa using Lib.mapM_length hm
      have hzl : l.length = n := by
        have := congrArg List.length hxs
        simp at this
        omega
      apply List.ext_getElem?
      intro i
      by_cases hi : i < n
      · obtain ⟨b, hb, hf⟩ := Lib.mapM_at hm i i (by simp [hi])
        obtain ⟨z, hc, rfl, _⟩ := DataW.trod_string he hf
        have h1 : cs[i]? = some (.string z) := by
          have := congrArg (·[0]?) hc
          simpa [List.getElem?_take, List.getElem?_drop] using this
        have h2 : (xs.map (·.1))[i]? = some (DataW.lit (.string z.data.toList) : DataW H) := by simp [hb]
        rw [hxs] at h2
        simp only [List.getElem?_map, Option.map_eq_some_iff, DataW.lit.injEq, Lit.string.injEq] at h2
        obtain ⟨z', hz', e'⟩ := h2
        subst e'
        simp [h1, hz']
      · rw [List.getElem?_eq_none (by omega), List.getElem?_eq_none (by simp; omega)]
    · cases h

theorem heap_of_var {P : Program} {W : World} {name : String} {g : Nat} {cs : Array Value} (hg : P.globalNamed name = some g) (h : W.var? P name = some cs) : ∃ tt fr, W.heap[g]? = some (.cells cs tt fr) := by
  unfold World.var? at h
  rw [hg] at h
  simp only [Option.bind_some] at h
  split at h
  · rename_i c tt fr he
    simp at h
    subst h
    exact ⟨tt, fr, he⟩
  · cases h

theorem table_of_head {P : Program} {W : World} {name : String} {l : List (List UInt8)} {g : Nat} {t e : TypeId} {n : Nat}
    (hg : P.globalNamed name = some g) (hty : (P.globals[g]?).map (·.type) = some t) (ht : P.underlying t = some (.array n e)) (he : P.underlying e = some .string) (hce : P.cellsOf e = 1) (hct : P.cellsOf t = n)
    (h : laidMet P [(name, strTab l)] W) : ∃ tt fr, W.heap[g]? = some (.cells (l.map fun b => Value.string ⟨b.toArray⟩).toArray tt fr) := by
  obtain ⟨ps, ⟨g', t', cs, fuel, p, q, hg', ht', hvar, hd, _, _⟩, _⟩ := h
  obtain rfl := Option.some.inj (hg.symm.trans hg')
  obtain rfl := Option.some.inj (hty.symm.trans ht')
  have := cells_of_strs ht he hce hct hd
  have e : cs = (l.map fun b => Value.string ⟨b.toArray⟩).toArray := by rw [← this]
  rw [e] at hvar
  exact heap_of_var hg hvar

theorem wordsNamed : Tryz.prog.globalNamed "nurserypy/lex.words" = some 4 := by kernel_rfl
theorem wordsType : (Tryz.prog.globals[4]?).map (·.type) = some 122 := by kernel_rfl
theorem wordsCells : Tryz.prog.cellsOf 122 = 25 := by kernel_rfl
theorem opsNamed : Tryz.prog.globalNamed "nurserypy/lex.ops" = some 3 := by kernel_rfl
theorem opsType : (Tryz.prog.globals[3]?).map (·.type) = some 117 := by kernel_rfl
theorem opsCells : Tryz.prog.cellsOf 117 = 21 := by kernel_rfl
theorem rangeType : (Tryz.prog.globals[6]?).map (·.type) = some 26 := by kernel_rfl
theorem wordTab : (wordList.map fun b => Value.string ⟨b.toArray⟩).toArray = wordCells := by kernel_rfl
theorem opTab : (opList.map fun b => Value.string ⟨b.toArray⟩).toArray = opCells := by kernel_rfl

/-- The environment of package lex, out of a list that holds its five variables. -/
theorem lenv_of {W : World} {l : List (String × DataW Unit)} (hl : laidMet Tryz.prog l W) (h0 : [sentLaid 0].Sublist l) (h1 : [sentLaid 1].Sublist l) (hr : [("strconv.ErrRange", Rows.laid_strconv_ErrRange)].Sublist l)
    (hw : [("nurserypy/lex.words", Rows.laid_nurserypy_lex_words)].Sublist l) (ho : [("nurserypy/lex.ops", Rows.laid_nurserypy_lex_ops)].Sublist l) : ∃ a0 a1, LEnv W.heap.size a0 a1 W := by
  obtain ⟨a0, v0, _⟩ := sent_one 0 (by decide) (laidMet_sub h0 hl)
  obtain ⟨a1, v1, _⟩ := sent_one 1 (by decide) (laidMet_sub h1 hl)
  obtain ⟨ar, sr, vr, _⟩ := laid_sentinel (laidMet_sub hr hl) rangeNamed rangeType Tryz.underlying26 rowSp Tryz.underlying163 Tryz.underlying165 rfl rfl Tryz.underlying9 cellsS cellsStr
  obtain ⟨tw, fw, ew⟩ := table_of_head (l := wordList) wordsNamed wordsType Tryz.underlying122 Tryz.underlying9 cellsStr wordsCells (laidMet_sub hw hl)
  obtain ⟨to_, fo, eo⟩ := table_of_head (l := opList) opsNamed opsType Tryz.underlying117 Tryz.underlying9 cellsStr opsCells (laidMet_sub ho hl)
  rw [wordTab] at ew
  rw [opTab] at eo
  have c0 := sent_cell 0 (by decide) a0 v0
  have c1 := sent_cell 1 (by decide) a1 v1
  obtain ⟨tr, fr, er⟩ := heap_of_var rangeNamed vr
  exact ⟨a0, a1, ⟨⟨c0, ⟨tw, fw, ew⟩, ⟨to_, fo, eo⟩, ⟨_, _, vr⟩, lt_of_cell c0, lt_of_heap ew, lt_of_heap eo, lt_of_heap er⟩, c1, lt_of_cell c1⟩⟩
end Go.Proofs.YtajkahckmhipkaaGreatDoor
