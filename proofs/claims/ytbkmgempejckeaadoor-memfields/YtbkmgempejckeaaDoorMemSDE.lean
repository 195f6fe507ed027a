/- Package mem: Get and Put where they do not; FieldAt of the document: by contracts. -/
import Derived.Test.YtbkmgempejckeaaDoorMemRP
namespace Go.Proofs.YtbkmgempejckeaaDoor
open Go.RowKit

set_option maxHeartbeats 2000000 in
theorem place_no (a : Nat → Addr) (p b bh nW cW : Nat) (F : Nat → Int) (hb : Nat → Bool) (x fld : Int) (h0 : 0 ≤ x) (h1 : x < 18446744073709551616) (hx : ptrB nW hb x = false) (w : World) (E : MErr3 a w) (S : Seen p b bh nW cW F hb w) :
    Calls Tryd.prog 43 #[.pointer (some ⟨p, 0, none⟩), .slice (some ⟨bh, 0, none⟩) nW nW, .int .u64 x, .int .i64 fld] w fun ev w' => ev = .returned (.tuple #[.int .i64 0, .int .i64 0, errV a 4]) ∧ Below w.heap.size w w' := by
  have ko := object_no a p b bh nW cW F hb x h0 h1 hx w E.we S
  have e : headV 0 = .agg #[.int .i64 0, .int .i64 0, .int .i64 0, .int .i64 0] := rfl
  rw [e] at ko
  have HE := toHid E
  clear e E S hx
  go_enter Tryd.func43, Tryd.ntmps43
  go_wp2_with fail
  refine ko.mono ?_
  rintro ev w1 ⟨rfl, hw1⟩
  clear ko
  have hba : Below w.heap.size w (w1.alloc (.cells #[.int .i64 0, .int .i64 0, .int .i64 0, .int .i64 0] 79)) := hw1.alloc hw1.size _
  have k4 := (HE.out.below hba).c4
  go_wp2_with fail
  go_quiet (fail)
  go_wp2_with fail
  go_ret3
  exact ⟨rfl, below_drewN hba⟩
set_option maxHeartbeats 2000000 in
theorem place_out (a : Nat → Addr) (p b bh nW cW f : Nat) (F : Nat → Int) (hb : Nat → Bool) (fld : Int) (hf : f < nW) (hbf : hb f = true) (hk : ¬ (0 ≤ fld ∧ fld < (szN (F f) : Int))) (w : World) (E : MErr3 a w) (S : Seen p b bh nW cW F hb w) :
    Calls Tryd.prog 43 #[.pointer (some ⟨p, 0, none⟩), .slice (some ⟨bh, 0, none⟩) nW nW, .int .u64 (((f : Int) + 1) * 4), .int .i64 fld] w fun ev w' => ev = .returned (.tuple #[.int .i64 0, .int .i64 0, errV a 1]) ∧ Below w.heap.size w w' := by
  have ko := object_ok p b bh nW cW f F hb hf hbf w S
  have hn := S.hn
  have hs := (S.fine f hf hbf).2
  have hr := S.range f hf
  obtain ⟨s, hs'⟩ : ∃ s : Nat, s = szN (F f) := ⟨_, rfl⟩
  have hsI : F f / 65536 = (s : Int) := by unfold szN at hs'; omega
  rw [← hs'] at hk hs
  unfold headV at ko
  rw [hsI] at ko
  have HE := toHid E
  clear hsI hs' hr E S
  generalize F f / 4 % 256 = kd at *
  generalize F f / 1024 % 16 = ag at *
  generalize F f / 16384 % 2 = mk at *
  have e1 : IntKind.i64.wrap ((s : Int) - 1) = (s : Int) - 1 := wrapI _ (by omega) (by omega)
  obtain ⟨x, hx⟩ : ∃ x, x = ((f : Int) + 1) * 4 := ⟨_, rfl⟩
  rw [← hx] at ko ⊢
  clear hx
  go_enter Tryd.func43, Tryd.ntmps43
  go_wp2_with fail
  refine ko.mono ?_
  rintro ev w1 ⟨rfl, hw1⟩
  clear ko
  have hba : Below w.heap.size w (w1.alloc (.cells #[.int .i64 kd, .int .i64 ag, .int .i64 mk, .int .i64 (s : Int)] 79)) := hw1.alloc hw1.size _
  have k1 := (HE.out.below hba).c1
  go_wp2_with fail
  refine (mwithin_no fld 0 ((s : Int) - 1) (by omega) _).mono ?_
  rintro ev w2 ⟨rfl, hq⟩
  rw [hq]
  clear hq w2
  go_wp2_with fail
  go_quiet (fail)
  go_wp2_with fail
  go_ret3
  exact ⟨rfl, below_drewN hba⟩
/-- A memory that is not right, and its error. -/
def Wrong (m : MD) (k : Nat) : Prop := (∃ vs, m.Shape vs ∧ m.cardsB = false ∧ k = 4) ∨ ((∀ vs, ¬ m.Shape vs) ∧ k = 2)
theorem survey_wrong (a : Nat → Addr) (p : Nat) (m : MD) (k : Nat) (hW : Wrong m k) (h64 : MD64 m) (bR : m.R.length ≤ 300000) (bK : m.K.length ≤ 300000) (bI : m.I.length ≤ 300000) (w : World) (E : MErr3 a w) (R : RepP p m w) :
    Calls Tryd.prog 36 #[.pointer (some ⟨p, 0, none⟩)] w fun ev w' => ev = .returned (.tuple #[.slice none 0 0, errV a k]) ∧ Below w.heap.size w w' := by
  refine (survey_any3 a p m h64 bR bK bI w E R).mono ?_
  rintro ev w' ⟨hb, ⟨us, bh, hs, hc, _⟩ | ⟨us, hs, hc, he⟩ | ⟨hno, he⟩⟩
  · rcases hW with ⟨vs, _, hf, _⟩ | ⟨hno, _⟩
    · rw [hc] at hf; cases hf
    · exact absurd hs (hno us)
  · rcases hW with ⟨vs, _, _, rfl⟩ | ⟨hno, _⟩
    · exact ⟨he, hb⟩
    · exact absurd hs (hno us)
  · rcases hW with ⟨vs, hs, _⟩ | ⟨_, rfl⟩
    · exact absurd hs (hno vs)
    · exact ⟨he, hb⟩
theorem get_wrong (a : Nat → Addr) (p : Nat) (m : MD) (k : Nat) (hW : Wrong m k) (h64 : MD64 m) (bR : m.R.length ≤ 300000) (bK : m.K.length ≤ 300000) (bI : m.I.length ≤ 300000) (x fld : Int) (w : World) (E : MErr3 a w) (R : RepP p m w) :
    Calls Tryd.prog 23 #[.pointer (some ⟨p, 0, none⟩), .int .u64 x, .int .i64 fld] w fun ev w' => ev = .returned (.tuple #[.int .u64 0, errV a k]) ∧ Below w.heap.size w w' := by
  have ks := survey_wrong a p m k hW h64 bR bK bI w E R
  unfold errV at ks ⊢
  go_enter Tryd.func23, Tryd.ntmps23
  go_wp2_with fail
  refine ks.mono ?_
  rintro ev w1 ⟨rfl, hb1⟩
  clear ks
  go_wp2_with fail
  go_ret2
  exact ⟨rfl, hb1⟩
theorem put_wrong (a : Nat → Addr) (p : Nat) (m : MD) (k : Nat) (hW : Wrong m k) (h64 : MD64 m) (bR : m.R.length ≤ 300000) (bK : m.K.length ≤ 300000) (bI : m.I.length ≤ 300000) (x fld y : Int) (w : World) (E : MErr3 a w) (R : RepP p m w) :
    Calls Tryd.prog 24 #[.pointer (some ⟨p, 0, none⟩), .int .u64 x, .int .i64 fld, .int .u64 y] w fun ev w' => ev = .returned (errV a k) ∧ Below w.heap.size w w' := by
  have ks := survey_wrong a p m k hW h64 bR bK bI w E R
  unfold errV at ks ⊢
  go_enter Tryd.func24, Tryd.ntmps24
  go_wp2_with fail
  refine ks.mono ?_
  rintro ev w1 ⟨rfl, hb1⟩
  clear ks
  go_wp2_with fail
  go_ret
  exact ⟨rfl, hb1⟩
theorem get_nil (a : Nat → Addr) (x fld : Int) (w : World) (E : MErr3 a w) : Calls Tryd.prog 23 #[.pointer none, .int .u64 x, .int .i64 fld] w fun ev w' => ev = .returned (.tuple #[.int .u64 0, errV a 2]) ∧ Below w.heap.size w w' := by
  have ks := survey_nil3 a w E
  unfold errV at ks ⊢
  go_enter Tryd.func23, Tryd.ntmps23
  go_wp2_with fail
  refine ks.mono ?_
  rintro ev w1 ⟨rfl, hb1⟩
  clear ks
  go_wp2_with fail
  go_ret2
  exact ⟨rfl, hb1⟩
theorem put_nil (a : Nat → Addr) (x fld y : Int) (w : World) (E : MErr3 a w) : Calls Tryd.prog 24 #[.pointer none, .int .u64 x, .int .i64 fld, .int .u64 y] w fun ev w' => ev = .returned (errV a 2) ∧ Below w.heap.size w w' := by
  have ks := survey_nil3 a w E
  unfold errV at ks ⊢
  go_enter Tryd.func24, Tryd.ntmps24
  go_wp2_with fail
  refine ks.mono ?_
  rintro ev w1 ⟨rfl, hb1⟩
  clear ks
  go_wp2_with fail
  go_ret
  exact ⟨rfl, hb1⟩
/-- A word and a number that name no field of a right memory, and the error. -/
def Off (m : MD) (vs : List Nat) (x fld : Int) (k : Nat) : Prop := (ptrB m.W.length (fun i => decide (i ∈ vs)) x = false ∧ k = 4) ∨ (∃ f : Nat, f ∈ vs ∧ x = ((f : Int) + 1) * 4 ∧ ¬ (0 ≤ fld ∧ fld < (szN (m.F f) : Int)) ∧ k = 1)
theorem place_off (a : Nat → Addr) (B bx bh : Nat) (m : MD) (vs : List Nat) (g cap : Nat) (vR vK vI vC : Value) (hS : m.Shape vs) (h64 : MD64 m) (x fld : Int) (x0 : 0 ≤ x) (x1 : x < 18446744073709551616) (k : Nat) (hO : Off m vs x fld k) (w : World) (E : MErr3 a w) (Q : OwnQ B bx m (.slice (some ⟨g, 0, none⟩) m.W.length cap) vR vK vI vC w) (hH : HeadsAt w bh m.W.length (fun i => decide (i ∈ vs))) (hbh : bh < w.heap.size) :
    Calls Tryd.prog 43 #[.pointer (some ⟨bx, 0, none⟩), .slice (some ⟨bh, 0, none⟩) m.W.length m.W.length, .int .u64 x, .int .i64 fld] w fun ev w' => ev = .returned (.tuple #[.int .i64 0, .int .i64 0, errV a k]) ∧ Below w.heap.size w w' := by
  have S := Q.seen hS h64 hH hbh
  rcases hO with ⟨hp, rfl⟩ | ⟨f, hf, rfl, hk, rfl⟩
  · exact place_no a bx g bh m.W.length cap m.F _ x fld x0 x1 hp w E S
  · exact place_out a bx g bh m.W.length cap f m.F _ fld (by have := (hS.fine f hf).2; omega) (decide_eq_true hf) hk w E S
theorem get_off (a : Nat → Addr) (B bx : Nat) (m : MD) (vs : List Nat) (hS : m.Shape vs) (hC : m.cardsB = true) (h64 : MD64 m) (bR : m.R.length ≤ 300000) (bK : m.K.length ≤ 300000) (bI : m.I.length ≤ 300000) (x fld : Int) (x0 : 0 ≤ x) (x1 : x < 18446744073709551616) (k : Nat) (hO : Off m vs x fld k) (w : World) (E : MErr3 a w) (O : OwnP B bx m w) :
    Calls Tryd.prog 23 #[.pointer (some ⟨bx, 0, none⟩), .int .u64 x, .int .i64 fld] w fun ev w' => ev = .returned (.tuple #[.int .u64 0, errV a k]) ∧ Below w.heap.size w w' := by
  have ks := survey_right a bx m vs hS hC h64 bR bK bI w E O.repP
  obtain ⟨vW, vR, vK, vI, vC, Q⟩ := O.named
  obtain ⟨g, cap, rfl, _⟩ := Q.rowW hS.len.1
  have HQ := toHid Q
  have HS := toHid hS
  have H64 := toHid h64
  have HO := toHid hO
  have HE := toHid E
  clear Q hS h64 hO E O hC
  go_enter Tryd.func23, Tryd.ntmps23
  go_wp2_with fail
  refine ks.mono ?_
  rintro ev w1 ⟨bh, rfl, hH, hbh, hb1⟩
  have kp := place_off a B bx bh m vs g cap vR vK vI vC HS.out H64.out x fld x0 x1 k HO.out w1 (HE.out.below hb1) (HQ.out.below hb1) hH hbh
  unfold errV at kp
  clear ks hH hbh
  go_wp2_with fail
  refine kp.mono ?_
  rintro ev w2 ⟨rfl, hb2⟩
  clear kp
  go_wp2_with fail
  go_ret2
  exact ⟨rfl, hb1.trans (hb2.mono hb1.size)⟩
theorem put_off (a : Nat → Addr) (B bx : Nat) (m : MD) (vs : List Nat) (hS : m.Shape vs) (hC : m.cardsB = true) (h64 : MD64 m) (bR : m.R.length ≤ 300000) (bK : m.K.length ≤ 300000) (bI : m.I.length ≤ 300000) (x fld y : Int) (x0 : 0 ≤ x) (x1 : x < 18446744073709551616) (k : Nat) (hO : Off m vs x fld k) (w : World) (E : MErr3 a w) (O : OwnP B bx m w) :
    Calls Tryd.prog 24 #[.pointer (some ⟨bx, 0, none⟩), .int .u64 x, .int .i64 fld, .int .u64 y] w fun ev w' => ev = .returned (errV a k) ∧ Below w.heap.size w w' := by
  have ks := survey_right a bx m vs hS hC h64 bR bK bI w E O.repP
  obtain ⟨vW, vR, vK, vI, vC, Q⟩ := O.named
  obtain ⟨g, cap, rfl, _⟩ := Q.rowW hS.len.1
  have HQ := toHid Q
  have HS := toHid hS
  have H64 := toHid h64
  have HO := toHid hO
  have HE := toHid E
  clear Q hS h64 hO E O hC
  go_enter Tryd.func24, Tryd.ntmps24
  go_wp2_with fail
  refine ks.mono ?_
  rintro ev w1 ⟨bh, rfl, hH, hbh, hb1⟩
  have kp := place_off a B bx bh m vs g cap vR vK vI vC HS.out H64.out x fld x0 x1 k HO.out w1 (HE.out.below hb1) (HQ.out.below hb1) hH hbh
  unfold errV at kp
  clear ks hH hbh
  go_wp2_with fail
  refine kp.mono ?_
  rintro ev w2 ⟨rfl, hb2⟩
  clear kp
  go_wp2_with fail
  go_ret
  exact ⟨rfl, hb1.trans (hb2.mono hb1.size)⟩
set_option maxHeartbeats 4000000 in
theorem put_bad (a : Nat → Addr) (B bx : Nat) (m : MD) (vs : List Nat) (hS : m.Shape vs) (hC : m.cardsB = true) (h64 : MD64 m) (bR : m.R.length ≤ 300000) (bK : m.K.length ≤ 300000) (bI : m.I.length ≤ 300000) (f k : Nat) (hf : f ∈ vs) (hk : k < szN (m.F f)) (x : Int) (x0 : 0 ≤ x) (x1 : x < 18446744073709551616) (hbad : m.F f / 4 % 256 < 8 ∨ fieldB m.W.length (fun i => decide (i ∈ vs)) x = false) (w : World) (E : MErr3 a w) (O : OwnP B bx m w) :
    Calls Tryd.prog 24 #[.pointer (some ⟨bx, 0, none⟩), .int .u64 (((f : Int) + 1) * 4), .int .i64 (k : Int), .int .u64 x] w fun ev w' => ev = .returned (errV a 2) ∧ Below w.heap.size w w' := by
  have ks := survey_right a bx m vs hS hC h64 bR bK bI w E O.repP
  obtain ⟨vW, vR, vK, vI, vC, Q⟩ := O.named
  obtain ⟨g, cap, rfl, _⟩ := Q.rowW hS.len.1
  obtain ⟨p, hp⟩ : ∃ p, p = ((f : Int) + 1) * 4 := ⟨_, rfl⟩
  obtain ⟨y, hy⟩ : ∃ y : Nat, y = f + 1 + k := ⟨_, rfl⟩
  rw [← hp]
  have HE := toHid E
  have HQ := toHid Q
  have HS := toHid hS
  have H64 := toHid h64
  have HK := toHid hk
  have HF := toHid hf
  have HP := toHid hp
  have HYY := toHid hy
  clear Q hS h64 hk hf E O hC bR bK bI hp hy
  obtain ⟨fx, hfx⟩ : ∃ fx, fx = fieldB m.W.length (fun i => decide (i ∈ vs)) x := ⟨_, rfl⟩
  have HFX := toHid hfx
  rw [← hfx] at hbad
  clear hfx
  obtain ⟨kd, hkd⟩ : ∃ kd, kd = m.F f / 4 % 256 := ⟨_, rfl⟩
  rw [← hkd] at hbad
  have HKD := toHid hkd
  clear hkd
  unfold errV
  go_enter Tryd.func24, Tryd.ntmps24
  go_wp2_with fail
  refine ks.mono ?_
  rintro ev w1 ⟨bh, rfl, hH, hbh, hb1⟩
  have Q1 := HQ.out.below hb1
  have S1 := Q1.seen HS.out H64.out hH hbh
  have kp := place_ok bx g bh m.W.length cap f k m.F _ (by have := (HS.out.fine f HF.out).2; omega) (decide_eq_true HF.out) HK.out w1 S1
  rw [← HP.out, ← HYY.out, ← HKD.out] at kp
  clear ks hH hbh
  have HS1 := toHid S1
  clear S1 Q1
  go_wp2_with fail
  refine kp.mono ?_
  rintro ev w2 ⟨rfl, hb2⟩
  have S2 := HS1.out.below hb2
  have hb12 := hb1.trans (hb2.mono hb1.size)
  have kr := raw_any kd (by rw [HKD.out]; exact Int.emod_nonneg _ (by decide)) w2
  have kh := holds_any a bh m.W.length _ S2.hn x x0 x1 w2 (HE.out.below hb12).we S2.heads S2.hbh
  rw [← HFX.out] at kh
  have k2 := (HE.out.below hb12).c2
  clear kp S2
  by_cases hk8 : kd < 8
  · rw [decide_eq_true hk8] at kr
    go_wp2_with fail
    refine kr.mono ?_
    rintro ev w3 ⟨rfl, hq⟩
    rw [hq]
    clear hq w3 kr
    go_wp2_with fail
    go_ret
    exact ⟨rfl, hb12⟩
  · rw [decide_eq_false hk8] at kr
    obtain rfl := hbad.resolve_left hk8
    go_wp2_with fail
    refine kr.mono ?_
    rintro ev w3 ⟨rfl, hq⟩
    rw [hq]
    clear hq w3 kr
    go_wp2_with fail
    refine kh.mono ?_
    rintro ev w3 ⟨rfl, hb3⟩
    have hb13 := hb12.trans (hb3.mono hb12.size)
    have k2' := (HE.out.below hb13).c2
    clear kh k2
    go_wp2_with fail
    go_ret
    exact ⟨rfl, hb13⟩
end Go.Proofs.YtbkmgempejckeaaDoor

/- A field that is put leaves a right memory right (plain laws); the document's FieldAt, by contracts. -/
namespace Go.Proofs.YtbkmgempejckeaaDoor
open Go.RowKit

theorem walkP_same {F F' : Nat → Int} : ∀ {n f t : Nat} {l : List Nat}, walkP F (fun _ => true) n f t = some l → (∀ v ∈ l, F' v = F v) → walkP F' (fun _ => true) n f t = some l
  | 0, f, t, l, h, _ => by unfold walkP at h ⊢; exact h
  | n + 1, f, t, l, h, he => by
    unfold walkP at h ⊢
    split at h
    · rename_i h1
      rw [if_pos h1]
      split at h
      · rename_i h2
        obtain ⟨l', h', rfl⟩ := Option.map_eq_some_iff.1 h
        rw [he f (List.mem_cons_self ..), if_pos h2, walkP_same h' fun v hv => he v (List.mem_cons_of_mem _ hv)]
        rfl
      · cases h
    · rename_i h1
      rw [if_neg h1]
      exact h
theorem walkP_apart {F : Nat → Int} {G : Nat → Bool} : ∀ {n a t : Nat} {l : List Nat}, walkP F G n a t = some l → ∀ v ∈ l, ∀ u ∈ l, u ≤ v ∨ v + 1 + szN (F v) ≤ u
  | 0, a, t, l, h => by unfold walkP at h; cases h; intro v hv; cases hv
  | n + 1, a, t, l, h => by
    unfold walkP at h
    split at h
    · split at h
      · obtain ⟨l', h', rfl⟩ := Option.map_eq_some_iff.1 h
        intro v hv u hu
        rcases List.mem_cons.1 hv with hva | hv'
        · rcases List.mem_cons.1 hu with hua | hu'
          · exact .inl (by omega)
          · exact .inr (by rw [hva]; exact (walkP_lt h' u hu').1)
        · rcases List.mem_cons.1 hu with hua | hu'
          · have := (walkP_lt h' v hv').1
            exact .inl (by omega)
          · exact walkP_apart h' v hv' u hu'
      · cases h
    · cases h; intro v hv; cases hv
theorem put_eq (m : MD) (y : Nat) (x : Int) : m.put y x = { m with W := m.W.set y x, C := if 2 * m.half ≤ (y : Int) ∧ youngB m.half x = true then m.C.set (cardN m.half m.card y) true else m.C } := by
  unfold MD.put MD.setC MD.setW
  split <;> rfl
/-- A field that is put leaves a right memory right. -/
theorem put_right {m : MD} {vs : List Nat} (S : m.Shape vs) (hC : m.cardsB = true) {f k : Nat} {x : Int} (hf : f ∈ vs) (hk : k < szN (m.F f)) (hx : fieldB m.W.length (fun i => decide (i ∈ vs)) x = true) : (m.put (f + 1 + k) x).Shape vs ∧ (m.put (f + 1 + k) x).cardsB = true := by
  obtain ⟨y, hy⟩ : ∃ y, y = f + 1 + k := ⟨_, rfl⟩
  rw [← hy]
  have hff := S.fine f hf
  have hyl : y < m.W.length := by omega
  obtain ⟨l1, l2, e, e1, e2⟩ := S.bare
  have b1 := walkP_some.1 e1
  have b2 := walkP_some.1 e2
  have P := MD.parts S.1
  have hm0 := P.m0
  have hn1 : (m.n1 : Int) ≤ 2 * m.half := by
    obtain ⟨⟨a0, a1, a2, a3, a4, a5⟩, hw, _, u0, u1, t0, t1, o0, o1⟩ := S.1
    have c1 := P.n1
    obtain e | e : m.used = 0 ∨ m.used = 1 := by omega
    · rw [e, Int.zero_mul] at c1; omega
    · rw [e, Int.one_mul] at c1; omega
  have hno : ∀ v ∈ vs, v ≠ y := fun v hv he => by
    subst he
    rw [e] at hv hf
    rcases List.mem_append.1 hv with h | h
    · have q1 := walkP_lt e1 _ h
      rcases List.mem_append.1 hf with g | g
      · have := walkP_apart e1 f g _ h
        omega
      · have := walkP_lt e2 f g
        omega
    · have q1 := walkP_lt e2 _ h
      rcases List.mem_append.1 hf with g | g
      · have := walkP_lt e1 f g
        omega
      · have := walkP_apart e2 f g _ h
        omega
  obtain ⟨m', hm'⟩ : ∃ m', m' = m.put y x := ⟨_, rfl⟩
  rw [← hm']
  rw [put_eq] at hm'
  have hW : m'.W = m.W.set y x := by rw [hm']
  have hF : ∀ i, i ≠ y → m'.F i = m.F i := fun i hi => by
    unfold MD.F
    rw [hW, List.getD_eq_getElem?_getD, List.getD_eq_getElem?_getD, List.getElem?_set_ne (fun h => hi h.symm)]
  have hFy : m'.F y = x := by
    unfold MD.F
    rw [hW, List.getD_eq_getElem?_getD, List.getElem?_set_self hyl]
    rfl
  have hl : m'.W.length = m.W.length := by rw [hW, List.length_set]
  have hCl : m'.C.length = m.C.length := by rw [hm']; show (if _ then _ else _ : List Bool).length = _; split <;> simp
  have hFit : m'.FitsM := by
    have := S.1
    unfold MD.FitsM
    rw [hl, hCl, hm']
    exact this
  have hn0' : m'.n0 = m.n0 := by rw [hm']; rfl
  have hn1' : m'.n1 = m.n1 := by rw [hm']; rfl
  have hm0' : m'.m0 = m.m0 := by rw [hm']; rfl
  have hm1' : m'.m1 = m.m1 := by rw [hm']; rfl
  have hh' : m'.half = m.half := by rw [hm']
  have hc' : m'.card = m.card := by rw [hm']
  have hv1 : ∀ v ∈ l1, m'.F v = m.F v := fun v hv => hF v (hno v (by rw [e]; exact List.mem_append_left _ hv))
  have hv2 : ∀ v ∈ l2, m'.F v = m.F v := fun v hv => hF v (hno v (by rw [e]; exact List.mem_append_right _ hv))
  have d1 := walkP_same b1.1 hv1
  have d2 := walkP_same b2.1 hv2
  have hO : m'.objs = some vs := by
    have ho := S.2.1
    unfold MD.objs at ho ⊢
    rw [walkP_all, b1.1, walkP_all, b2.1] at ho
    rw [hn0', hn1', hm0', hm1', hh', walkP_all, d1, walkP_all, d2]
    have g1 : l1.all (G1 m'.F m.half) = l1.all (G1 m.F m.half) := all_congr fun v hv => by unfold G1; rw [hv1 v hv]
    have g2 : l2.all (G1 m'.F m.half) = l2.all (G1 m.F m.half) := all_congr fun v hv => by unfold G1; rw [hv2 v hv]
    rw [Option.bind_some, Option.bind_some, g1, g2]
    exact ho
  have hH : m'.holdB vs = true := by
    unfold MD.holdB
    rw [hn0', hn1', hm0', hm1', walkP_isSome d1, walkP_isSome d2, ← List.all_append, ← e, List.all_eq_true, hl]
    intro v hv
    unfold G2
    rw [hF v (hno v hv)]
    by_cases hkd : m.F v / 4 % 256 < 8
    · rw [decide_eq_true hkd, Bool.true_or]
    · rw [decide_eq_false hkd, Bool.false_or, List.all_eq_true]
      intro z hz
      obtain ⟨j, hj, rfl⟩ := List.mem_map.1 hz
      rw [hF v (hno v hv)] at hj
      have hj := List.mem_range.1 hj
      by_cases he : v + 1 + j = y
      · show fieldB _ _ (m'.F (v + 1 + j)) = true
        rw [he, hFy]
        exact hx
      · show fieldB _ _ (m'.F (v + 1 + j)) = true
        rw [hF _ he]
        exact S.held hv hj hkd
  have hR : m'.restB vs = true := by
    have := S.2.2.2
    unfold MD.restB at this ⊢
    rw [hl, hm']
    exact this
  refine ⟨⟨hFit, hO, hH, hR⟩, ?_⟩
  unfold MD.cardsB
  rw [hm0', hm1', walkP_isSome d2, List.all_eq_true, hh', hc']
  intro v hv
  have hvm : v ∈ vs := by rw [e]; exact List.mem_append_right _ hv
  have hlo := (walkP_lt e2 v hv).1
  unfold G3
  rw [hv2 v hv]
  by_cases hkd : m.F v / 4 % 256 < 8
  · rw [decide_eq_true hkd, Bool.true_or]
  · rw [decide_eq_false hkd, Bool.false_or, List.all_eq_true]
    intro j hj
    have hj := List.mem_range.1 hj
    have hvf := S.fine v hvm
    have hup : ∀ i, m.Cf i = true → m'.Cf i = true := fun i hi => by
      unfold MD.Cf at hi ⊢
      rw [hm']
      show (if _ then _ else _ : List Bool).getD i false = true
      split
      · rw [List.getD_eq_getElem?_getD, List.getElem?_set] at *
        split
        · split
          · rfl
          · rename_i h1 h2
            subst h1
            rw [List.getElem?_eq_none (by omega)] at hi
            exact hi
        · exact hi
      · exact hi
    unfold cardB
    by_cases hyo : youngB m.half (m'.F (v + 1 + j)) = true
    · rw [hyo, Bool.true_and, Bool.not_not]
      by_cases he : v + 1 + j = y
      · rw [he] at hyo ⊢
        rw [hFy] at hyo
        have hyo2 : 2 * m.half ≤ (y : Int) := by omega
        obtain ⟨d, q, _, _, hq, hcn⟩ := card_ix S.1 hyo2 hyl
        unfold MD.Cf
        rw [hm']
        show (if _ then _ else _ : List Bool).getD _ false = true
        rw [if_pos ⟨hyo2, hyo⟩, List.getD_eq_getElem?_getD, List.getElem?_set_self (by rw [hcn]; exact hq)]
        rfl
      · rw [hF _ he] at hyo
        exact hup _ (S.carded hC hvm hj hkd (by omega) hyo)
    · rw [Bool.not_eq_true] at hyo
      rw [hyo, Bool.false_and]
      rfl
theorem objI_found {vs : List Nat} {x : Int} (h : 0 ≤ objI vs x) : ∃ j v : Nat, objI vs x = (j : Int) ∧ vs[j]? = some v ∧ (v : Int) = x := by
  unfold objI at h ⊢
  cases hi : vs.findIdx? (fun v : Nat => (v : Int) == x) with
  | none => rw [hi] at h; exact absurd h (by decide)
  | some j =>
    rw [List.findIdx?_eq_some_iff_getElem] at hi
    obtain ⟨hl, e, _⟩ := hi
    exact ⟨j, vs[j], rfl, List.getElem?_eq_getElem hl, by simpa using e⟩
set_option maxHeartbeats 2000000 in
theorem fieldAt_no (p o : Nat) (m : MD) (vs : List Nat) (hS : m.Shape vs) (h64 : MD64 m) (x fld : Int) (x0 : 0 ≤ x) (x1 : x < 18446744073709551616) (hx : ptrB m.W.length (fun i => decide (i ∈ vs)) x = false) (w : World) (R : RepM p o m w) :
    Calls Tryd.prog 22 #[.pointer (some ⟨p, o, none⟩), .int .u64 x, .int .i64 fld] w fun ev w' => ev = .returned (.tuple #[.int .i64 (-1), .int .i64 0, .int .i64 5]) ∧ Below w.heap.size w w' := by
  have ka := all_right p o m vs hS h64 w R
  have hvl := hS.few
  have hp : (decide (0 ≤ ptI x) && decide (0 ≤ objI vs (ptI x))) = false := by rw [ptr_eq (fun v hv => by have := (hS.fine v hv).2; omega) hS.len.2.1]; exact hx
  clear R hx hS h64
  go_enter Tryd.func22, Tryd.ntmps22
  go_wp2_with fail
  refine ka.mono ?_
  rintro ev w1 ⟨ao, cap, rfl, hRo, hb1⟩
  have kp := points_any x x0 x1 w1
  have ko := objectAt_any m.F vs ao cap (ptI x) hvl w1 hRo
  clear ka hRo
  generalize ptI x = pt at *
  by_cases h0 : pt < 0
  · go_wp2_with fail
    refine kp.mono ?_
    rintro ev w2 ⟨rfl, hq⟩
    rw [hq]
    clear hq w2
    go_wp2_with fail
    go_ret3
    exact ⟨rfl, hb1⟩
  · generalize objI vs pt = oj at *
    have ho : oj < 0 := by
      rw [decide_eq_true (by omega : 0 ≤ pt), Bool.true_and, decide_eq_false_iff_not] at hp
      omega
    clear hp
    go_wp2_with fail
    refine kp.mono ?_
    rintro ev w2 ⟨rfl, hq⟩
    rw [hq]
    clear hq w2
    go_wp2_with fail
    refine kp.mono ?_
    rintro ev w2 ⟨rfl, hq⟩
    rw [hq]
    clear hq w2
    go_wp2_with fail
    refine ko.mono ?_
    rintro ev w2 ⟨rfl, hq⟩
    rw [hq]
    clear hq w2
    go_wp2_with fail
    go_ret3
    exact ⟨rfl, hb1⟩
/-- What FieldAt answers for a word that points to an object. -/
def atP (m : MD) (f : Nat) (fld : Int) : Value := if 0 ≤ fld ∧ fld < (szN (m.F f) : Int) then .tuple #[.int .i64 ((f : Int) + 1 + fld), .int .i64 (m.F f / 4 % 256), .int .i64 0] else .tuple #[.int .i64 (-1), .int .i64 0, .int .i64 2]
set_option maxHeartbeats 4000000 in
theorem fieldAt_at (p o : Nat) (m : MD) (vs : List Nat) (hS : m.Shape vs) (h64 : MD64 m) (f : Nat) (hf : f ∈ vs) (fld : Int) (w : World) (R : RepM p o m w) :
    Calls Tryd.prog 22 #[.pointer (some ⟨p, o, none⟩), .int .u64 (((f : Int) + 1) * 4), .int .i64 fld] w fun ev w' => ev = .returned (atP m f fld) ∧ Below w.heap.size w w' := by
  have ka := all_right p o m vs hS h64 w R
  have hvl := hS.few
  have hff := hS.fine f hf
  have hnl := hS.len.2.1
  have hrg := MD.range h64 f (by omega)
  have hpt : ptI (((f : Int) + 1) * 4) = (f : Int) := by unfold ptI; rw [if_pos ⟨by omega, by omega, by omega⟩]; omega
  have ho : 0 ≤ objI vs (f : Int) := objI_pos.2 ⟨f, hf, rfl⟩
  obtain ⟨j, v, hj, hv, hvf⟩ := objI_found ho
  obtain rfl : v = f := by omega
  have hjl := (List.getElem?_eq_some_iff.1 hv).1
  obtain ⟨s, hs⟩ : ∃ s : Nat, (s : Int) = m.F v / 65536 := ⟨(m.F v / 65536).toNat, by omega⟩
  have hsz : (szN (m.F v) : Int) = (s : Int) := by unfold szN; omega
  obtain ⟨x, hx⟩ : ∃ x, x = ((v : Int) + 1) * 4 := ⟨_, rfl⟩
  have hx0 : 0 ≤ x := by omega
  have hx1 : x < 18446744073709551616 := by omega
  rw [← hx] at hpt ⊢
  obtain ⟨av, hav⟩ : ∃ av, av = atP m v fld := ⟨_, rfl⟩
  rw [← hav]
  unfold atP at hav
  rw [hsz] at hav
  have HV := toHid hv
  have hsl : v + 1 + s ≤ 300000 := by omega
  clear R hS h64 hx hvf hff ho hsz hrg
  obtain ⟨kd, hkd⟩ : ∃ kd, kd = m.F v / 4 % 256 := ⟨_, rfl⟩
  obtain ⟨ag, hag⟩ : ∃ ag, ag = m.F v / 1024 % 16 := ⟨_, rfl⟩
  rw [← hkd] at hav
  have HAV := toHid hav
  clear hav
  go_enter Tryd.func22, Tryd.ntmps22
  go_wp2_with fail
  refine ka.mono ?_
  rintro ev w1 ⟨ao, cap, rfl, hRo, hb1⟩
  have kp := points_any x hx0 hx1 w1
  have ko := objectAt_any m.F vs ao cap (ptI x) hvl w1 hRo
  rw [hpt] at kp ko
  rw [hj] at ko
  obtain ⟨_, _, e, _, f1⟩ := hRo
  cases e
  obtain ⟨p1, o1, rfl, lp1, g1⟩ := f1 (by omega)
  have rr : ∀ i, i < 4 → ∀ u, (objV m.F v)[i]? = some u → w1.cell? ⟨p1, o1 + j * 4 + i, none⟩ = some u := fun i hi u hu => by
    rw [Nat.add_assoc]
    exact g1 _ _ ((objs_at HV.out i hi).trans hu)
  have r0 : w1.cell? ⟨p1, o1 + j * 4, none⟩ = some (.int .i64 (v : Int)) := rr 0 (by omega) _ rfl
  have r1 := rr 1 (by omega) _ rfl
  have r2 := rr 2 (by omega) _ rfl
  have r3 := rr 3 (by omega) _ rfl
  rw [← hkd] at r1
  rw [← hag] at r2
  rw [← hs] at r3
  have hJ : (j : Int) < (vs.length : Int) := by omega
  have hJ0 : (0 : Int) ≤ (j : Int) := by omega
  have hV0 : ¬ (v : Int) < 0 := by omega
  have hJn : ¬ (j : Int) < 0 := by omega
  clear ka rr g1 f1 hpt hj hkd hag hs HV
  go_wp2_with fail
  refine kp.mono ?_
  rintro ev w2 ⟨rfl, hq⟩
  rw [hq]
  clear hq w2
  go_wp2_with fail
  refine kp.mono ?_
  rintro ev w2 ⟨rfl, hq⟩
  rw [hq]
  clear hq w2
  go_wp2_with fail
  refine ko.mono ?_
  rintro ev w2 ⟨rfl, hq⟩
  rw [hq]
  clear hq w2
  go_wp2_with fail
  refine kp.mono ?_
  rintro ev w2 ⟨rfl, hq⟩
  rw [hq]
  clear hq w2
  go_wp2_with fail
  refine ko.mono ?_
  rintro ev w2 ⟨rfl, hq⟩
  rw [hq]
  clear hq w2 kp ko
  have hba : Below w.heap.size w (w1.alloc (.cells #[.int .i64 (v : Int), .int .i64 kd, .int .i64 ag, .int .i64 (s : Int)] 63)) := hb1.alloc hb1.size _
  by_cases h0 : fld < 0
  · go_wp2_with fail
    go_ret3
    exact ⟨by rw [HAV.out, if_neg (by omega)]; rfl, hba⟩
  · by_cases h1 : (s : Int) ≤ fld
    · go_wp2_with fail
      go_ret3
      exact ⟨by rw [HAV.out, if_neg (by omega)]; rfl, hba⟩
    · have e1 : IntKind.i64.wrap ((v : Int) + 1) = (v : Int) + 1 := wrapI _ (by omega) (by omega)
      have e2 : IntKind.i64.wrap ((v : Int) + 1 + fld) = (v : Int) + 1 + fld := wrapI _ (by omega) (by omega)
      go_wp2_with fail
      go_quiet (fail)
      go_wp2_with fail
      go_ret3
      exact ⟨by rw [HAV.out, if_pos (by omega)]; rfl, below_drewN hba⟩
end Go.Proofs.YtbkmgempejckeaaDoor
