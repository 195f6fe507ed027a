/- Package heap by contracts: made, pointer, field. -/
import Derived.Test.YtlkcbdinlfeoiabGreatDoorKrB
import Derived.Test.YtlkcbdinlfeoiabGreatDoorKnAT
import Derived.Deep.AppendLies
namespace Go.Proofs.YtlkcbdinlfeoiabGreatDoor
open Go.RowKit Go.Maps

variable {h : HP} {sr : Int} {m : MD} {w w' : World} {a : Nat → Addr} {w0 : World} {M : MO} {X : MXtra}
/-- The object that a root points to. -/
structure ObjAt (m : MD) (M : MO) (r : Nat) (c : CL) (f : Nat) (d : ND) : Prop where
  four : c.kind = 4
  has : M.N[c.ref]? = some d
  root : m.R[r]? = some (((f : Int) + 1) * 4)
  fits : f + 1 + szN (m.F f) ≤ m.W.length
  head : headB (m.F f) = true
  kind : m.F f / 4 % 256 = d.kind
  size : szN (m.F f) = if d.kind < 8 then d.raw.length else d.f.length
theorem HM.rootIs (hm : HM m sr M X) {r : Nat} {c : CL} (hj : M.R[r]? = some c) : (c.kind ≠ 4 ∧ ∃ x, m.R[r]? = some x ∧ 0 ≤ x ∧ x < 18446744073709551616 ∧ x % 4 ≠ 0) ∨ ∃ f d, ObjAt m M r c f d := by
  obtain ⟨vs, S, φ, hr, hw⟩ := hm
  have hc := List.mem_of_getElem? hj
  have hx : m.R[r]? = some (wdC φ c) := by rw [hr.rel.roots, List.getElem?_map, hj]; rfl
  by_cases h4 : c.kind = 4
  · right
    have hs := hr.rel.rin c hc h4
    obtain ⟨d, h1, hv, h3, h4', h5⟩ := hr.rel.has _ hs
    obtain ⟨k1, k2⟩ := hr.shape.fine _ hv
    refine ⟨φ c.ref, d, h4, h1, ?_, k2, k1, h3, ?_⟩
    · rw [hx]; unfold wdC; rw [if_pos h4]
    · have e : (fieldsP m.F (φ c.ref)).length = szN (m.F (φ c.ref)) := by unfold fieldsP; simp
      rw [← e, h4']
      unfold wdN
      split
      · rfl
      · rw [List.length_map]
  · left
    obtain ⟨_, k1, k2⟩ := hr.word (fun q => absurd q h4) (hr.ok.roots c hc)
    refine ⟨h4, _, hx, k1, k2, ?_⟩
    unfold wdC
    rw [if_neg h4]
    split <;> omega
theorem HS.wordAt (s : HS a w0 h sr m M X w) {f : Nat} (hf : f < m.W.length) : w.cell? ⟨h.bW, f, none⟩ = some (.int .u64 (m.F f)) := by
  refine s.at'.hW.cell ?_
  unfold wordsV MD.F
  rw [List.getElem?_map, List.getD_eq_getElem?_getD, List.getElem?_eq_getElem hf]
  rfl
theorem HS.wlen (s : HS a w0 h sr m M X w) : m.W.length ≤ 300000 := by obtain ⟨_, n1, _, n3, _, _, _, _, _, n9, _⟩ := s.nums; omega
theorem HS.range (s : HS a w0 h sr m M X w) {f : Nat} (hf : f < m.W.length) : 0 ≤ m.F f ∧ m.F f < 18446744073709551616 := by
  obtain ⟨l1, l2, rt⟩ := s.hm.right
  exact md_range rt.h64 f hf
theorem getD_some {r : Nat} {x : Int} {l : List Int} (h : l[r]? = some x) : l.getD r 0 = x ∧ r < l.length := ⟨by rw [List.getD_eq_getElem?_getD, h]; rfl, (List.getElem?_eq_some_iff.1 h).1⟩
theorem HS.objectOk (s : HS a w0 h sr m M X w) {r f : Nat} {c : CL} {d : ND} (o : ObjAt m M r c f d) : Calls Tryz.prog 51 #[.pointer (some ⟨h.q, 0, none⟩), .int .u64 (((f : Int) + 1) * 4)] w fun ev w' => ev = .returned (.tuple #[.int .i64 (f : Int), headV (m.F f), .bool true]) ∧ Below w.heap.size w w' := by
  have hf : f < m.W.length := by have := o.fits; omega
  obtain ⟨k0, k1⟩ := s.range hf
  exact hobject_ok h.q h.p h.bW m.W.length h.cW f (m.F f) hf s.wlen k0 k1 o.head w s.at'.c0 s.at'.cm.c3 (s.wordAt hf)
set_option maxHeartbeats 2000000 in
set_option maxRecDepth 100000 in
theorem hpointer_ok (s : HS a w0 h sr m M X w) {r f : Nat} {c : CL} {d : ND} (o : ObjAt m M r c f d) :
    Calls Tryz.prog 25 #[.pointer (some ⟨h.q, 0, none⟩), .int .i64 (r : Int)] w fun ev w' => ev = .returned (.tuple #[.int .u64 (((f : Int) + 1) * 4), .nilIface]) ∧ Below w.heap.size w w' := by
  obtain ⟨e1, hr⟩ := getD_some o.root
  have kr := s.rootOk hr
  rw [e1] at kr
  have ko := s.objectOk o
  unfold headV at ko
  obtain ⟨q, hq⟩ : ∃ q, q = h.q := ⟨_, rfl⟩
  rw [← hq] at kr ko ⊢
  obtain ⟨x, hx⟩ : ∃ x, x = ((f : Int) + 1) * 4 := ⟨_, rfl⟩
  rw [← hx] at kr ko ⊢
  generalize m.F f / 1024 % 16 = g1 at ko
  generalize m.F f / 16384 % 2 = g2 at ko
  generalize m.F f / 65536 = sz at ko
  generalize m.F f / 4 % 256 = kd at ko
  clear s o hx hq hr
  go_enter Tryz.func25, Tryz.ntmps25
  go_wp2_with fail
  refine kr.mono ?_
  clear kr
  rintro ev w1 ⟨rfl, rfl⟩
  go_wp2_with fail
  refine ko.mono ?_
  clear ko
  rintro ev w2 ⟨rfl, b2⟩
  have HB3 : Hid (Below w1.heap.size w1 (w2.alloc (.cells #[.int .i64 kd, .int .i64 g1, .int .i64 g2, .int .i64 sz] 99))) := b2.alloc b2.size _
  clear b2
  go_wp2_with fail
  go_ret2
  exact ⟨rfl, HB3.out⟩
end Go.Proofs.YtlkcbdinlfeoiabGreatDoor
namespace Go.Proofs.YtlkcbdinlfeoiabGreatDoor
open Go.RowKit Go.Maps

variable {h : HP} {sr : Int} {m : MD} {w w' : World} {a : Nat → Addr} {w0 : World} {M : MO} {X : MXtra}
def MO.putN (M : MO) (i : Nat) (d : ND) (k : Nat) (v : CL) : MO := { M with N := M.N.set i { d with f := d.f.set k v } }
theorem HAt.setWord (H : HAt h sr m w) {y : Nat} (hy : y < m.W.length) (x : Int) : HAt h sr (m.setW y x) (w.setCell ⟨h.bW, y, none⟩ (.int .u64 x)) := by
  have hs := H.hW.set (j := y) (by rw [lenV]; exact hy) (.int .u64 x)
  rw [wordsV_set] at hs
  exact H.words (by rw [List.length_set]) ((Aside.refl (fun k => k = h.bW) w).setCell (g := h.bW) rfl _) hs
set_option maxHeartbeats 1000000 in
set_option maxRecDepth 100000 in
theorem hminor_any (s : HS a w0 h sr m M X w) : Calls Tryz.prog 8 #[.pointer (some ⟨h.q, 0, none⟩)] w fun ev w' => (ev = .returned (errV a 5) ∧ Below w.heap.size w w' ∧ m.old < (M.words : Int)) ∨ (ev = .returned .nilIface ∧ Stp a w0 h m M X w w') := by
  have k := sminor_any s
  clear s
  go_enter Tryz.func8, Tryz.ntmps8
  go_wp2_with fail
  refine k.mono ?_
  clear k
  rintro ev w1 (⟨rfl, hP⟩ | ⟨rfl, hP⟩)
  · have HP' := toHid hP
    clear hP
    go_wp2_with fail
    first | go_ret | skip
    exact .inl ⟨rfl, HP'.out⟩
  · have HP' := toHid hP
    clear hP
    go_wp2_with fail
    first | go_ret | skip
    exact .inr ⟨rfl, HP'.out⟩
set_option maxHeartbeats 1000000 in
set_option maxRecDepth 100000 in
theorem hmajor_any (s : HS a w0 h sr m M X w) : Calls Tryz.prog 9 #[.pointer (some ⟨h.q, 0, none⟩)] w fun ev w' => (ev = .returned (errV a 5) ∧ Below w.heap.size w w' ∧ m.old < (M.words : Int)) ∨ (ev = .returned .nilIface ∧ StpJ a w0 h m M X w w') := by
  have k := smajor_any s
  clear s
  go_enter Tryz.func9, Tryz.ntmps9
  go_wp2_with fail
  refine k.mono ?_
  clear k
  rintro ev w1 (⟨rfl, hP⟩ | ⟨rfl, hP⟩)
  · have HP' := toHid hP
    clear hP
    go_wp2_with fail
    first | go_ret | skip
    exact .inl ⟨rfl, HP'.out⟩
  · have HP' := toHid hP
    clear hP
    go_wp2_with fail
    first | go_ret | skip
    exact .inr ⟨rfl, HP'.out⟩
end Go.Proofs.YtlkcbdinlfeoiabGreatDoor
namespace Go.Proofs.YtlkcbdinlfeoiabGreatDoor
open Go.RowKit Go.Maps

variable {h : HP} {sr : Int} {m : MD} {w w' : World} {a : Nat → Addr} {w0 : World} {M : MO} {X : MXtra}
theorem hnew_hs (a : Nat → Addr) (half old card tn : Int) (n : Nat) (w : World) (E : HEnv a w) (H : heapOK half old card tn n) :
    Calls Tryz.prog 6 #[.agg #[.int .i64 half, .int .i64 old, .int .i64 card, .int .i64 tn], .int .i64 (n : Int)] w fun ev w' => ∃ h m, ev = .returned (.tuple #[.pointer (some ⟨h.q, 0, none⟩), .nilIface]) ∧ HS a w h 0 m (MO.new n) MXtra.new w' ∧ m.half = half ∧ m.old = old ∧ m.card = card := by
  obtain ⟨hn, t0, t1, r0, r1⟩ := H
  have hn' := hn
  unfold numsOK at hn'
  have hq0 : 0 ≤ (old + card - 1) / card := Int.ediv_nonneg (by omega) (by omega)
  obtain ⟨nW, hW⟩ : ∃ nW : Nat, (nW : Int) = 2 * half + old := ⟨(2 * half + old).toNat, by omega⟩
  obtain ⟨nC, hC⟩ : ∃ nC : Nat, (nC : Int) = (old + card - 1) / card := ⟨((old + card - 1) / card).toNat, by omega⟩
  refine (hnew_ok half old card tn n nW nC hW hC ⟨hn, t0, t1, r0, r1⟩ w).mono ?_
  rintro ev w' ⟨q, p, g, rfl, k1, k2, k3, hb, I⟩
  have eW : Array.replicate nW (Value.int .u64 0) = (wordsV (List.replicate nW 0)).toArray := by unfold wordsV; simp
  have eR : Array.replicate n (Value.int .u64 2) = (wordsV (List.replicate n 2)).toArray := by unfold wordsV; simp
  have eC : Array.replicate nC (Value.bool false) = (boolsV (List.replicate nC false)).toArray := by unfold boolsV; simp
  refine ⟨⟨q, p, p + 1, p + 2, nW, nC, tn, .slice (some ⟨g, 0, none⟩) n n, .slice none 0 0, .slice none 0 0⟩, newM half old card nW nC n, rfl, ⟨⟨I.hq, ?_, ⟨[], ?_⟩, ⟨[], ?_⟩, ?_, ?_, ?_, ⟨rfl, .inl ⟨rfl, rfl⟩⟩, ⟨rfl, .inl ⟨rfl, rfl⟩⟩, ?_, ?_, ?_⟩, newHM hn hW hC, E, hb, ?_, t0, t1, ?_, ?_⟩, rfl, rfl, rfl⟩
  · unfold MB
    have h := I.hp
    show _ = some (Obj.cells #[_, _, _, .slice _ (List.replicate nW (0 : Int)).length _, _, _, _, _, _, _, .slice _ (List.replicate nC false).length _] _)
    rw [List.length_replicate, List.length_replicate]
    exact h
  · rw [List.append_nil]
    show _ = some (Obj.cells (wordsV (List.replicate nW 0)).toArray _)
    rw [← eW]; exact I.hW
  · rw [List.append_nil]
    show _ = some (Obj.cells (boolsV (List.replicate nC false)).toArray _)
    rw [← eC]; exact I.hC
  · show (List.replicate nW (0 : Int)).length ≤ nW
    simp
  · show (List.replicate nC false).length ≤ nC
    simp
  · refine ⟨some ⟨g, 0, none⟩, n, ?_, ?_, ?_, fun _ => ⟨g, rfl, [], ?_⟩⟩
    · show Value.slice _ n n = Value.slice _ (List.replicate n (2 : Int)).length n
      rw [List.length_replicate]
    · show (List.replicate n (2 : Int)).length ≤ n
      simp
    · show (wordsV (List.replicate n 2)).length = (List.replicate n (2 : Int)).length * 1
      rw [lenV]; simp
    · rw [List.append_nil]
      show _ = some (Obj.cells (wordsV (List.replicate n 2)).toArray _)
      rw [← eR]; exact I.hR
  · intro g' _ e
    cases e
  · intro g' hg e
    have e1 := isOf_row hg
    have e : g' = p + 1 := e
    omega
  · intro e
    cases e
  · intro k hk
    rcases hk with hk | hk | hk | hk | hk | hk | hk
    · have hk : k = q := hk; omega
    · have hk : k = p := hk; omega
    · have hk : k = p + 1 := hk; omega
    · have hk : k = p + 2 := hk; omega
    · have e1 := isOf_row hk; omega
    · cases hk
    · cases hk
  · show 0 ≤ 5000
    omega
  · show (List.replicate n _).length ≤ 5000
    rw [List.length_replicate]; omega
/-- A chain of objects, each of which holds the one ahead of it. -/
structure Ring (M : MO) (i : Nat) : Prop where
  r0 : M.R[0]? = some ⟨4, 0, 0⟩
  r1 : M.R[1]? = some ⟨4, 0, i - 1⟩
  rl : M.R.length = 3
  nl : M.N.length = i
  n0 : M.N[0]? = some (mkN 9 1)
  nk : ∀ k, 0 < k → k < i → M.N[k]? = some ⟨9, [], [⟨4, 0, k - 1⟩]⟩
theorem total_two {M : MO} (h : ∀ d ∈ M.N, ndW d = 2) : M.total = 2 * M.N.length := by
  unfold MO.total
  have : ∀ l : List ND, (∀ d ∈ l, ndW d = 2) → (l.map ndW).sum = 2 * l.length := fun l hl => by
    induction l with
    | nil => rfl
    | cons d l ih =>
      rw [List.map_cons, List.sum_cons, hl d (by simp), ih (fun x hx => hl x (by simp [hx])), List.length_cons]
      omega
  exact this M.N h
theorem Ring.total {i : Nat} (R : Ring M i) : M.total = 2 * i := by
  rw [total_two (fun d hd => ?_), R.nl]
  obtain ⟨k, hk⟩ := List.getElem?_of_mem hd
  have hl := (List.getElem?_eq_some_iff.1 hk).1
  rw [R.nl] at hl
  rcases Nat.eq_zero_or_pos k with rfl | h0
  · rw [R.n0] at hk; cases hk; rfl
  · rw [R.nk k h0 hl] at hk; cases hk; rfl
theorem Ring.begin : Ring (((MO.new 3).made 0 (mkN 9 1)).set 1 ⟨4, 0, 0⟩) 1 := ⟨rfl, rfl, rfl, rfl, rfl, fun k h0 h1 => by omega⟩
/-- One object more. -/
def ringM (M : MO) (i : Nat) : MO := (((M.made 2 (mkN 9 1)).putN i (mkN 9 1) 0 ⟨4, 0, i - 1⟩).set 1 ⟨4, 0, i⟩)
theorem Ring.next {i : Nat} (hi : 1 ≤ i) (R : Ring M i) : (M.made 2 (mkN 9 1)).R[2]? = some ⟨4, 0, i⟩ ∧ (M.made 2 (mkN 9 1)).N[i]? = some (mkN 9 1) ∧ (M.made 2 (mkN 9 1)).R[1]? = some ⟨4, 0, i - 1⟩ ∧ Ring (ringM M i) (i + 1) := by
  have hR : (M.made 2 (mkN 9 1)).R = M.R.set 2 ⟨4, 0, i⟩ := by show M.R.set 2 ⟨4, 0, M.N.length⟩ = _; rw [R.nl]
  have hN : (M.made 2 (mkN 9 1)).N = M.N ++ [mkN 9 1] := rfl
  have hN2 : (ringM M i).N = M.N ++ [⟨9, [], [⟨4, 0, i - 1⟩]⟩] := by
    show (M.N ++ [mkN 9 1]).set i _ = _
    rw [List.set_append_right _ _ (by rw [R.nl]; exact Nat.le_refl _), R.nl, Nat.sub_self]
    rfl
  have hR2 : (ringM M i).R = (M.R.set 2 ⟨4, 0, i⟩).set 1 ⟨4, 0, i⟩ := by show (M.made 2 (mkN 9 1)).R.set 1 _ = _; rw [hR]
  have hl := R.rl
  refine ⟨?_, ?_, ?_, ⟨?_, ?_, ?_, ?_, ?_, ?_⟩⟩
  · rw [hR, List.getElem?_set_self (by omega)]
  · rw [hN, List.getElem?_append_right (by rw [R.nl]; exact Nat.le_refl _), R.nl, Nat.sub_self]; rfl
  · rw [hR, List.getElem?_set_ne (by omega)]; exact R.r1
  · rw [hR2, List.getElem?_set_ne (by omega), List.getElem?_set_ne (by omega)]; exact R.r0
  · rw [hR2, List.getElem?_set_self (by rw [List.length_set]; omega)]; rfl
  · rw [hR2, List.length_set, List.length_set]; exact hl
  · rw [hN2, List.length_append, R.nl]; rfl
  · rw [hN2, List.getElem?_append_left (by rw [R.nl]; omega)]; exact R.n0
  · intro k h0 h1
    rw [hN2]
    by_cases hk : k < i
    · rw [List.getElem?_append_left (by rw [R.nl]; exact hk)]; exact R.nk k h0 hk
    · obtain rfl : k = i := by omega
      rw [List.getElem?_append_right (by rw [R.nl]; exact Nat.le_refl _), R.nl, Nat.sub_self]; rfl
/-- The ring is closed; one root, or none, leads there. -/
def closeM (M : MO) (n : Nat) (keep : Bool) : MO := let M1 := ((M.putN 0 (mkN 9 1) 0 ⟨4, 0, n - 1⟩).set 1 (clK 0)).set 2 (clK 0); if keep then M1 else M1.set 0 (clK 0)
theorem Ring.keeps {n : Nat} (hn : 1 ≤ n) (R : Ring M n) (hm : HM m sr (closeM M n true) X) : (closeM M n true).words = 2 * n := by
  have hN : (closeM M n true).N = M.N.set 0 ⟨9, [], [⟨4, 0, n - 1⟩]⟩ := rfl
  have hR : (closeM M n true).R = (M.R.set 1 (clK 0)).set 2 (clK 0) := rfl
  have hnl : (closeM M n true).N.length = n := by rw [hN, List.length_set]; exact R.nl
  have h0 : (closeM M n true).N[0]? = some ⟨9, [], [⟨4, 0, n - 1⟩]⟩ := by rw [hN, List.getElem?_set_self (by rw [R.nl]; omega)]
  have hk : ∀ k, 0 < k → k < n → (closeM M n true).N[k]? = some ⟨9, [], [⟨4, 0, k - 1⟩]⟩ := fun k h1 h2 => by rw [hN, List.getElem?_set_ne (by omega)]; exact R.nk k h1 h2
  obtain ⟨_, _, a3, a4⟩ := hm.all
  have i0 : 0 ∈ (closeM M n true).all := a3 ⟨4, 0, 0⟩ (by
    refine List.mem_of_getElem? (i := 0) ?_
    rw [hR, List.getElem?_set_ne (by omega), List.getElem?_set_ne (by omega)]
    exact R.r0) rfl
  have il : n - 1 ∈ (closeM M n true).all := a4 0 i0 _ h0 (by show ¬ (9 : Int) < 8; decide) ⟨4, 0, n - 1⟩ (by simp) rfl
  have ia : ∀ j, j < n → n - 1 - j ∈ (closeM M n true).all := fun j => by
    induction j with
    | zero => exact fun _ => il
    | succ j ih =>
      intro hj
      have h1 := ih (by omega)
      have h2 := a4 _ h1 _ (hk _ (by omega) (by omega)) (by show ¬ (9 : Int) < 8; decide) ⟨4, 0, n - 1 - j - 1⟩ (by simp) rfl
      exact h2
  rw [hm.whole (fun i hi => by
    rw [hnl] at hi
    have := ia (n - 1 - i) (by omega)
    rw [show n - 1 - (n - 1 - i) = i by omega] at this
    exact this), total_two (fun d hd => ?_), hnl]
  obtain ⟨k, hk'⟩ := List.getElem?_of_mem hd
  have hl := (List.getElem?_eq_some_iff.1 hk').1
  rw [hnl] at hl
  rcases Nat.eq_zero_or_pos k with rfl | hp
  · rw [h0] at hk'; cases hk'; rfl
  · rw [hk k hp hl] at hk'; cases hk'; rfl
theorem Ring.gone {n : Nat} (R : Ring M n) : (closeM M n false).words = 0 := by
  refine words_none (fun c hc => ?_)
  have hR : (closeM M n false).R = ((M.R.set 1 (clK 0)).set 2 (clK 0)).set 0 (clK 0) := rfl
  rw [hR] at hc
  obtain ⟨k, hk⟩ := List.getElem?_of_mem hc
  have hl := (List.getElem?_eq_some_iff.1 hk).1
  rw [List.length_set, List.length_set, List.length_set, R.rl] at hl
  have hl3 := R.rl
  rcases (by omega : k = 0 ∨ k = 1 ∨ k = 2) with rfl | rfl | rfl
  · rw [List.getElem?_set_self (by simp [R.rl])] at hk; cases hk; decide
  · rw [List.getElem?_set_ne (by omega), List.getElem?_set_ne (by omega), List.getElem?_set_self (by omega)] at hk; cases hk; decide
  · rw [List.getElem?_set_ne (by omega), List.getElem?_set_self (by rw [List.length_set]; omega)] at hk; cases hk; decide
end Go.Proofs.YtlkcbdinlfeoiabGreatDoor
namespace Go.Proofs.YtlkcbdinlfeoiabGreatDoor
open Go.RowKit Go.Maps

variable {h : HP} {sr : Int} {m : MD} {w w' : World} {a : Nat → Addr} {w0 : World} {M : MO} {X : MXtra}
def MXtra.weak (X : MXtra) (i : Nat) : MXtra := { X with K := X.K ++ [i] }
end Go.Proofs.YtlkcbdinlfeoiabGreatDoor
namespace Go.Proofs.YtlkcbdinlfeoiabGreatDoor
open Go.RowKit Go.Maps

variable {h : HP} {sr : Int} {m : MD} {w w' : World} {a : Nat → Addr} {w0 : World} {M : MO} {X : MXtra}
/-- Serials have grown: the row's block, or a new one. -/
theorem HAt.serially (H : HAt h sr m w) {w1 : World} {v' : Value} {x y : Int} (g : w.grownBy w1 h.vI.ownBlock) (hv : ∀ k, v'.ownBlock = some k → h.vI.ownBlock = some k ∨ w.heap.size ≤ k) (o : w1.ownsRow 0 65 2 v' (m.I.length + 1) (idsV m.I ++ [.int .u64 x, .int .i64 y])) :
    HAt { h with vI := v' } sr { m with I := m.I ++ [(x, y)] } (w1.setCell ⟨h.p, 9, none⟩ v') ∧ Nxt h { h with vI := v' } w (w1.setCell ⟨h.p, 9, none⟩ v') := by
  have hk0 : ∀ k, h.vI.ownBlock = some k → k ≠ h.q ∧ k ≠ h.p ∧ k ≠ h.bW ∧ k ≠ h.bC ∧ ¬ isOf h.vR k ∧ ¬ h.vK.ownBlock = some k := fun k hk => by
    have t := own_ty H.I hk
    exact ⟨t.ne H.tq (by decide), t.ne H.tp (by decide), t.ne H.tW (by decide), t.ne H.tC (by decide), fun e => (rowB_ty H.R e).ne t (by decide) rfl, fun e => (own_ty H.K e).ne t (by decide) rfl⟩
  have ha : Aside (fun k => h.vI.ownBlock = some k) w w1 := ⟨g.os, g.tape, g.output, g.size, fun k hk hx => g.block k hk (fun e => hx e.symm)⟩
  have hp1 := (ha.block _ H.tp.lt (fun e => (hk0 _ e).2.1 rfl)).trans H.mb
  have hq1 := (ha.block _ H.tq.lt (fun e => (hk0 _ e).1 rfl)).trans H.hq
  have ap : Aside (fun k => k = h.p) w1 (w1.setCell ⟨h.p, 9, none⟩ v') := (Aside.refl (fun k => k = h.p) w1).setCell (g := h.p) rfl _
  have lp := H.tp.lt
  have nqp := H.tq.ne H.tp (by decide)
  have nWp := H.tW.ne H.tp (by decide)
  have nCp := H.tC.ne H.tp (by decide)
  have nRp : ∀ k, isOf h.vR k → k ≠ h.p := fun k hk => (rowB_ty H.R hk).ne H.tp (by decide)
  have nKp : ∀ k, h.vK.ownBlock = some k → k ≠ h.p := fun k hk => (own_ty H.K hk).ne H.tp (by decide)
  have hIp : ∀ k, v'.ownBlock = some k → k ≠ h.p := fun k hk e => by
    rcases hv k hk with h1 | h1
    · exact (hk0 k h1).2.1 e
    · rw [e] at h1; omega
  refine ⟨⟨?_, ?_, ?_, ?_, H.cap, H.capC, ?_, ?_, ?_, H.rk, H.rb, H.kb⟩, rfl, rfl, fun k hk => ?_, ?_⟩
  · exact (ap.block _ (lt_of_heap hq1) nqp).trans hq1
  · exact heap_set_same hp1
  · exact (H.hW.aside ha (fun e => (hk0 _ e).2.2.1 rfl)).aside ap nWp
  · exact (H.hC.aside ha (fun e => (hk0 _ e).2.2.2.1 rfl)).aside ap nCp
  · exact (H.R.aside ha (fun k hk e => (hk0 k e).2.2.2.2.1 hk)).aside ap (fun k hk => nRp k hk)
  · have o1 := ownsRow_far' (w' := w1) H.K (fun k hk => ha.block k (own_lt2 H.K k hk).2 (fun e => (hk0 k e).2.2.2.2.2 hk))
    exact ownsRow_far' o1 (fun k hk => ap.block k (own_lt2 o1 k hk).2 (nKp k hk))
  · show World.ownsRow _ 0 _ 2 v' (m.I ++ [(x, y)]).length (idsV (m.I ++ [(x, y)]))
    have e : idsV (m.I ++ [(x, y)]) = idsV m.I ++ [.int .u64 x, .int .i64 y] := by simp [idsV]
    rw [e, List.length_append]
    exact ownsRow_far' o (fun k hk => ap.block k (own_lt2 o k hk).2 (hIp k hk))
  · rcases hk with hk | hk | hk | hk | hk | hk | hk
    · exact .inl (.inl hk)
    · exact .inl (.inr (.inl hk))
    · exact .inl (.inr (.inr (.inl hk)))
    · exact .inl (.inr (.inr (.inr (.inl hk))))
    · exact .inl (.inr (.inr (.inr (.inr (.inl hk)))))
    · exact .inl (.inr (.inr (.inr (.inr (.inr (.inl hk))))))
    · rcases hv k hk with h1 | h1
      · exact .inl (.inr (.inr (.inr (.inr (.inr (.inr h1))))))
      · exact .inr h1
  · exact (ha.mono (fun k hk => .inr (.inr (.inr (.inr (.inr (.inr hk))))))).join ap (fun k _ hk => .inr (.inl hk))
def MXtra.give (X : MXtra) (i : Nat) : MXtra := { X with ser := fun j => if j = i then X.next + 1 else X.ser j, next := X.next + 1 }
theorem ids_once {vs : List Nat} (S : m.Shape vs) {i j : Nat} {x y : Int × Int} (hi : m.I[i]? = some x) (hj : m.I[j]? = some y) (e : x.1 = y.1) : i = j := by
  have hI := (S.rest').2.2
  have key : ∀ {i j : Nat} {x y : Int × Int}, m.I[i]? = some x → m.I[j]? = some y → x.1 = y.1 → ¬ i < j := by
    intro i j x y hi hj e hij
    have hg := hI
    unfold idsB at hg
    rw [List.all_eq_true] at hg
    have g := hg j (List.mem_range.2 (List.getElem?_eq_some_iff.1 hj).1)
    unfold idB at g
    rw [hj] at g
    simp only [Bool.and_eq_true, decide_eq_true_eq] at g
    have h3 := g.2.2.1
    rw [List.take_add_one, hj, List.map_append, List.count_append] at h3
    have h4 : y.1 ∈ (m.I.take j).map (·.1) := by
      rw [← e]
      exact List.mem_map.2 ⟨x, List.mem_of_getElem? (i := i) (by rw [List.getElem?_take, if_pos hij]; exact hi), rfl⟩
    have h5 := List.count_pos_iff.2 h4
    have h6 : (List.map (fun x : Int × Int => x.1) (some y).toList).count y.1 = 1 := by simp
    omega
  have h1 := key hi hj e
  have h2 := key hj hi e.symm
  omega
set_option maxHeartbeats 8000000 in
set_option maxRecDepth 100000 in
theorem hserial_any (s : HS a w0 h sr m M X w) {r : Nat} {c : CL} (hj : M.R[r]? = some c) (h4 : c.kind = 4) (hb : sr < 4611686018427387904) :
    Calls Tryz.prog 10 #[.pointer (some ⟨h.q, 0, none⟩), .int .i64 (r : Int)] w fun ev w' => (X.ser c.ref ≠ 0 ∧ ev = .returned (.tuple #[.int .i64 (X.ser c.ref), .nilIface]) ∧ Stp a w0 h m M X w w') ∨ (X.ser c.ref = 0 ∧ ev = .returned (.tuple #[.int .i64 (X.next + 1), .nilIface]) ∧ Stp a w0 h m M (X.give c.ref) w w') := by
  obtain ⟨f, d, o⟩ : ∃ f d, ObjAt m M r c f d := by
    rcases s.hm.rootIs hj with ⟨q, _⟩ | q
    · exact absurd h4 q
    · exact q
  obtain ⟨x, e1, _, hm⟩ := s.hm.serial hj h4 (by omega)
  have ex : x = ((f : Int) + 1) * 4 := by have := o.root; rw [e1] at this; exact Option.some.inj this
  have kp := hpointer_ok s o
  rw [← ex] at kp
  obtain ⟨l1, l2, rt⟩ := s.hm.right
  have hIl := ids_few rt.S
  obtain ⟨hsn, hn0⟩ := s.hm.serials
  obtain ⟨_, _, aI, cI, eI⟩ := s.at'.rows
  obtain ⟨_, _, eI', _, _, fI⟩ := (RowB.of_own s.at'.I).1
  obtain ⟨q, hq⟩ : ∃ q, q = h.q := ⟨_, rfl⟩
  obtain ⟨p, hp⟩ : ∃ p, p = h.p := ⟨_, rfl⟩
  obtain ⟨nI, hn⟩ : ∃ n, n = m.I.length := ⟨_, rfl⟩
  obtain ⟨xs, hxs⟩ : ∃ xs, xs = idsV m.I := ⟨_, rfl⟩
  obtain ⟨y, hy⟩ : ∃ y, y = sr + 1 := ⟨_, rfl⟩
  rw [← hn] at eI
  rw [← hq] at kp ⊢
  have HIT : Hid (∀ (i : Nat) (z : Int × Int), m.I[i]? = some z → ∃ gI, aI = some ⟨gI, 0, none⟩ ∧ gI < w.heap.size ∧ w.cell? ⟨gI, i * 2, none⟩ = some (.int .u64 z.1) ∧ w.cell? ⟨gI, i * 2 + 1, none⟩ = some (.int .i64 z.2)) := fun i z hz => by
    obtain ⟨ao, cap, e2, _, _, f2⟩ := (RowB.of_own s.at'.I).1
    rw [eI] at e2
    cases e2
    obtain ⟨gI, rfl, hbI⟩ := f2 (by have := (List.getElem?_eq_some_iff.1 hz).1; omega)
    obtain ⟨z1, z2⟩ := z
    exact ⟨gI, rfl, hbI.lt, hbI.cell (ids_at hz).1, hbI.cell (ids_at hz).2⟩
  have HU : Hid (∀ (i : Nat) (z : Int × Int), m.I[i]? = some z → z.1 = x → X.ser c.ref ≠ 0 ∧ z.2 = X.ser c.ref) := fun i z hz e => by
    rcases hm with ⟨_, hno, _⟩ | ⟨h0, hin⟩
    · exact absurd e (hno z (List.mem_of_getElem? hz))
    · obtain ⟨k, hk⟩ := List.getElem?_of_mem hin
      obtain rfl := ids_once rt.S hz hk e
      rw [hz] at hk
      cases hk
      exact ⟨h0, rfl⟩
  have HN : Hid ((∀ (i : Nat) (z : Int × Int), m.I[i]? = some z → z.1 ≠ x) → X.ser c.ref = 0 ∧ HM { m with I := m.I ++ [(x, y)] } y M (X.give c.ref)) := fun hno => by
    rcases hm with ⟨h0, _, hm⟩ | ⟨_, hin⟩
    · rw [hy]; exact ⟨h0, hm⟩
    · obtain ⟨k, hk⟩ := List.getElem?_of_mem hin
      exact absurd rfl (hno k _ hk)
  have HC : Hid (∀ W, Below w.heap.size w W → HAt h sr m W ∧ W.cell? ⟨q, 0, none⟩ = some (.pointer (some ⟨p, 0, none⟩)) ∧ W.cell? ⟨q, 2, none⟩ = some (.int .i64 sr) ∧ W.cell? ⟨p, 9, none⟩ = some (.slice aI nI cI)) := fun W hW => by
    have H := s.at'.below hW
    have c9 := H.cm.c9
    rw [eI] at c9
    exact ⟨H, by rw [hq, hp]; exact H.c0, by rw [hq]; exact H.c2, by rw [hp]; exact c9⟩
  have HW : Hid (∀ W w8 g cap, HAt h y m W → Nxt h h w W → W.grownBy w8 (Value.slice aI nI cI).ownBlock → ((Value.slice aI nI cI).ownBlock = some g ∨ W.heap.size ≤ g) → w8.ownsRow 0 65 2 (.slice (some ⟨g, 0, none⟩) (nI + 1) cap) (nI + 1) (xs ++ [.int .u64 x, .int .i64 y]) → (∀ (i : Nat) (z : Int × Int), m.I[i]? = some z → z.1 ≠ x) → Stp a w0 h m M (X.give c.ref) w (w8.setCell ⟨p, 9, none⟩ (.slice (some ⟨g, 0, none⟩) (nI + 1) cap))) := fun W w8 g cap H hW hg hv ho hno => by
    rw [hxs, hn] at ho
    rw [← eI] at hg hv
    obtain ⟨H', N'⟩ := H.serially hg (v' := .slice (some ⟨g, 0, none⟩) (nI + 1) cap) (fun k e => by cases e; exact hv) (by rw [hn]; exact ho)
    rw [hp]
    exact ⟨_, y, { m with I := m.I ++ [(x, y)] }, hW.trans N', ⟨rfl, rfl, rfl⟩, s.next (hW.trans N') H' (HN.out hno).2 s.kl s.rl⟩
  have HS0 := toHid s
  have HQP := toHid hq
  have HPP := toHid hp
  have HXS := toHid hxs
  have HEI := toHid eI
  have HNI := toHid hn
  have HY := toHid hy
  have HSN := toHid hsn
  have hnb : nI ≤ 300000 := by omega
  have hys : IntKind.i64.wrap (sr + 1) = y := by rw [hy]; exact wrapI _ (by omega) (by omega)
  clear s o hm hj h4 hq hp hn hxs e1 ex eI rt hIl hy fI eI' hsn
  go_enter Tryz.func10, Tryz.ntmps10
  go_wp2_with fail
  refine kp.mono ?_
  clear kp
  rintro ev w2 ⟨rfl, b2⟩
  obtain ⟨_, d0, d2, d9⟩ := HC.out w2 b2
  have HB2 := toHid b2
  clear b2
  go_wp2_with fail
  go_loopg [30] (nI + 1) (fun gk v30 wr => ∃ i : Nat, gk = nI + 1 - i ∧ i ≤ nI ∧ v30 = .int .i64 (i : Int) ∧ Hid (Below w2.heap.size w2 wr) ∧ Hid (∀ (k : Nat) (z : Int × Int), k < i → m.I[k]? = some z → z.1 ≠ x))
  case atStart => exact ⟨0, rfl, Nat.zero_le _, rfl, Below.refl _ _, fun k z hk => by omega⟩
  case round =>
    obtain ⟨i, hgk, hi', rfl, hB, hNo⟩ := hrel
    have HG := toHid hgk
    have hi0 : (0 : Int) ≤ (i : Int) := by omega
    have HBr : Hid (Below w.heap.size w wr) := HB2.out.trans (hB.out.mono HB2.out.size)
    clear hgk d0 d2 d9
    by_cases hlt : i < nI
    · have hIi : (i : Int) < (nI : Int) := by omega
      obtain ⟨z, hz⟩ : ∃ z, m.I[i]? = some z := ⟨_, List.getElem?_eq_getElem (by rw [← HNI.out]; exact hlt)⟩
      obtain ⟨gI, e9, lg, r1', r2'⟩ := HIT.out i z hz
      have r1 : wr.cell? ⟨gI, i * 2, none⟩ = some (.int .u64 z.1) := (HBr.out.cell (p := ⟨gI, i * 2, none⟩) lg).trans r1'
      have r2 : wr.cell? ⟨gI, i * 2 + 1, none⟩ = some (.int .i64 z.2) := (HBr.out.cell (p := ⟨gI, i * 2 + 1, none⟩) lg).trans r2'
      obtain ⟨wa, hwa⟩ : ∃ wa, wa = wr.alloc (.cells #[.int .u64 z.1, .int .i64 z.2] 65) := ⟨_, rfl⟩
      obtain ⟨b, hbq⟩ : ∃ b, b = wr.heap.size := ⟨_, rfl⟩
      have na : wa.heap[b]? = some (.cells #[.int .u64 z.1, .int .i64 z.2] 65) := by rw [hwa, hbq]; exact heap_alloc_new _ _
      have a0 : wa.cell? ⟨b, 0, none⟩ = some (.int .u64 z.1) := by rw [cell_of_row _ _ _ _ _ _ na]; rfl
      have a1 : wa.cell? ⟨b, 1, none⟩ = some (.int .i64 z.2) := by rw [cell_of_row _ _ _ _ _ _ na]; rfl
      have HBa : Hid (Below w2.heap.size w2 wa) := by rw [hwa]; exact hB.out.alloc hB.out.size _
      have HWa := toHid hwa
      have HBq := toHid hbq
      have HZ := toHid hz
      subst e9
      clear hwa hbq na lg r1' r2' hz
      obtain ⟨z1, z2⟩ := z
      dsimp only at r1 r2 a0 a1
      go_upto_region 7 with fail
      rw [← HWa.out, ← HBq.out]
      clear r1 r2
      by_cases he : z1 = x
      · subst he
        obtain ⟨k1, k2⟩ := HU.out i _ HZ.out rfl
        have k2 : z2 = X.ser c.ref := k2
        have HE : Hid (Stp a w0 h m M X w wa) := HS0.out.same (HB2.out.trans (HBa.out.mono HB2.out.size))
        have HK : Hid (X.ser c.ref ≠ 0 ∧ z2 = X.ser c.ref) := ⟨k1, k2⟩
        clear k1 k2
        go_wp2_with fail
        go_ret2
        exact .inl ⟨HK.out.1, by rw [← HK.out.2]; rfl, HE.out⟩
      · have he2 : (z1 == x) = false := by simp [he]
        have HNo2 : Hid (∀ (k : Nat) (z : Int × Int), k < i + 1 → m.I[k]? = some z → z.1 ≠ x) := fun k z hk hz => by
          by_cases hki : k < i
          · exact hNo.out k z hki hz
          · obtain rfl : k = i := by omega
            rw [HZ.out] at hz
            cases hz
            exact he
        go_wp2_with fail
        go_roundg (nI + 1 - (i + 1))
        case measure => have := HG.out; omega
        case rel => exact ⟨i + 1, rfl, by omega, by go_num, HBa, HNo2⟩
    · have hIi : ¬ (i : Int) < (nI : Int) := by omega
      obtain rfl : i = nI := by omega
      have HNO : Hid (∀ (k : Nat) (z : Int × Int), m.I[k]? = some z → z.1 ≠ x) := fun k z hz => hNo.out k z (by rw [HNI.out]; exact (List.getElem?_eq_some_iff.1 hz).1) hz
      obtain ⟨Hr, d0, d2, d9⟩ := HC.out wr HBr.out
      have HHr := toHid Hr
      have fq : wr.frozen? ⟨q, 2, none⟩ = false := by rw [HQP.out]; simp [World.frozen?, Hr.hq]
      clear Hr hNo
      go_upto_region 11 with fail
      obtain ⟨w5, hw5⟩ : ∃ w5, w5 = wr.setCell ⟨q, 2, none⟩ (.int .i64 y) := ⟨_, rfl⟩
      rw [← hw5]
      have H5 : HAt h y m w5 := by rw [hw5, HQP.out]; exact HHr.out.setSerial y
      have N5 : Nxt h h w w5 := by rw [hw5]; exact (Nxt.of_below h HBr.out).set (.inl (.inl HQP.out))
      have HH5 := toHid H5
      have HN5 := toHid N5
      have d0 : w5.cell? ⟨q, 0, none⟩ = some (.pointer (some ⟨p, 0, none⟩)) := by rw [HQP.out, HPP.out]; exact H5.c0
      have d2 : w5.cell? ⟨q, 2, none⟩ = some (.int .i64 y) := by rw [HQP.out]; exact H5.c2
      have d9 : w5.cell? ⟨p, 9, none⟩ = some (.slice aI i cI) := by rw [HPP.out, ← HEI.out]; exact H5.cm.c9
      have HOI : Hid (w5.ownsRow 0 65 2 (.slice aI i cI) i xs) := by have h5 := H5.I; rw [HEI.out, ← HNI.out, ← HXS.out] at h5; exact h5
      have d0d : w5.drew.cell? ⟨q, 0, none⟩ = some (.pointer (some ⟨p, 0, none⟩)) ∧ w5.drew.cell? ⟨q, 2, none⟩ = some (.int .i64 y) := ⟨d0, d2⟩
      have lq : q < w5.heap.size := lt_of_cell d0
      have lp : p < w5.heap.size := lt_of_cell d9
      have keepA : ∀ {ob : Obj}, ((w5.alloc ob).drew).cell? ⟨q, 0, none⟩ = some (.pointer (some ⟨p, 0, none⟩)) ∧ ((w5.alloc ob).drew).cell? ⟨q, 2, none⟩ = some (.int .i64 y) := fun {ob} => ⟨((((Below.refl w5.heap.size w5).alloc (Nat.le_refl _) ob).drew).cell (p := ⟨q, 0, none⟩) lq).trans d0, ((((Below.refl w5.heap.size w5).alloc (Nat.le_refl _) ob).drew).cell (p := ⟨q, 2, none⟩) lq).trans d2⟩
      have d9a : ((w5.alloc (.cells #[.int .u64 x, .int .i64 y] 65)).drew).cell? ⟨p, 9, none⟩ = some (.slice aI i cI) := ((((Below.refl w5.heap.size w5).alloc (Nat.le_refl _) _).drew).cell (p := ⟨p, 9, none⟩) lp).trans d9
      have HFin : Hid (∀ {ob : Obj} {g cap : Nat} {wA : World}, Below w5.heap.size w5 ((w5.alloc ob).drew) → wA.ownsRow 0 65 2 (.slice (some ⟨g, 0, none⟩) (i + 1) cap) (i + 1) (xs ++ [.int .u64 x, .int .i64 y]) → ((w5.alloc ob).drew).grownBy wA (Value.slice aI i cI).ownBlock → ((Value.slice aI i cI).ownBlock = some g ∨ g = ((w5.alloc ob).drew).heap.size) →
          wA.cell? ⟨p, 9, none⟩ = some (.slice aI i cI) ∧ wA.frozen? ⟨p, 9, none⟩ = false ∧ (wA.cell? ⟨q, 0, none⟩ = some (.pointer (some ⟨p, 0, none⟩)) ∧ wA.cell? ⟨q, 2, none⟩ = some (.int .i64 y)) ∧ Stp a w0 h m M (X.give c.ref) w (wA.setCell ⟨p, 9, none⟩ (.slice (some ⟨g, 0, none⟩) (i + 1) cap)) ∧ ((wA.setCell ⟨p, 9, none⟩ (.slice (some ⟨g, 0, none⟩) (i + 1) cap)).cell? ⟨q, 0, none⟩ = some (.pointer (some ⟨p, 0, none⟩)) ∧ (wA.setCell ⟨p, 9, none⟩ (.slice (some ⟨g, 0, none⟩) (i + 1) cap)).cell? ⟨q, 2, none⟩ = some (.int .i64 y))) := fun {ob g cap wA} hb ho hg hv => by
        have H6 := HH5.out.below hb
        have n1 : (Value.slice aI i cI).ownBlock ≠ some p := fun e => by rw [← HEI.out] at e; exact (own_ty H6.I e).ne H6.tp (by decide) HPP.out
        have n2 : (Value.slice aI i cI).ownBlock ≠ some q := fun e => by rw [← HEI.out] at e; exact (own_ty H6.I e).ne H6.tq (by decide) HQP.out
        have hmb := H6.mb
        unfold MB at hmb
        rw [HEI.out, ← HPP.out] at hmb
        have hbA := (hg.block p (lt_of_heap hmb) (fun e => n1 e.symm)).trans hmb
        have hq6 := H6.hq
        rw [← HQP.out, ← HPP.out] at hq6
        have hqA := (hg.block q (lt_of_heap hq6) (fun e => n2 e.symm)).trans hq6
        have nqp : q ≠ p := by rw [HQP.out, HPP.out]; exact H6.tq.ne H6.tp (by decide)
        have cq0 : wA.cell? ⟨q, 0, none⟩ = some (.pointer (some ⟨p, 0, none⟩)) := by rw [cell_of_row _ _ _ _ _ _ hqA]; rfl
        have cq2 : wA.cell? ⟨q, 2, none⟩ = some (.int .i64 y) := by rw [cell_of_row _ _ _ _ _ _ hqA]; rfl
        exact ⟨by rw [cell_of_row _ _ _ _ _ _ hbA]; rfl, by simp [World.frozen?, hbA], ⟨cq0, cq2⟩, HW.out _ wA g cap H6 (HN5.out.below hb) hg (hv.imp_right (fun e => Nat.le_of_eq e.symm)) ho HNO.out, (World.cell?_of_block (a := ⟨q, 0, none⟩) (heap_set _ _ _ _ _ nqp)).trans cq0, (World.cell?_of_block (a := ⟨q, 2, none⟩) (heap_set _ _ _ _ _ nqp)).trans cq2⟩
      clear H5 N5 hw5 fq
      go_cut [] from 50 to 74 (fun wx => Hid (Stp a w0 h m M (X.give c.ref) w wx) ∧ wx.cell? ⟨q, 2, none⟩ = some (.int .i64 y))
      case first =>
        obtain ⟨i0, hi0, hz0, hz1, hz2⟩ := infoIDm
        refine wp_region_held_drew (S := (fun W => W.cell? ⟨q, 0, none⟩ = some (.pointer (some ⟨p, 0, none⟩)) ∧ W.cell? ⟨q, 2, none⟩ = some (.int .i64 y))) (by kernel_rfl) d0d (fun hHeld => ?_)
        refine wpAnyH_take (i := 0) (oi := { dst := some 50, op := _, type := _, pos := _, after := _, guard := _ }) (v := ?v0) rfl (by kernel_rfl) (by kernel_rfl) (by kernel_rfl) (fun _ _ _ h => h) (Or.inl ⟨by rfl, ?y0⟩) hHeld ?r0
        case y0 => (intro wz hSw; (try dsimp only at hSw); go_simp; try with_reducible rfl)
        case r0 =>
        try simp only [Act.put, List.setIfInBounds_toArray, List.set_cons_zero, List.set_cons_succ]
        refine wpAnyH_take (i := 1) (oi := { dst := some 51, op := _, type := _, pos := _, after := _, guard := _ }) (v := ?v1) rfl (by kernel_rfl) (by kernel_rfl) (by kernel_rfl) (fun _ _ _ h => h) (Or.inl ⟨by rfl, ?y1⟩) hHeld ?r1
        case y1 => (intro wz hSw; (try dsimp only at hSw); go_simp; try with_reducible rfl)
        case r1 =>
        try simp only [Act.put, List.setIfInBounds_toArray, List.set_cons_zero, List.set_cons_succ]
        refine wpAnyH_take (i := 2) (oi := { dst := some 52, op := _, type := _, pos := _, after := _, guard := _ }) (v := ?v2) rfl (by kernel_rfl) (by kernel_rfl) (by kernel_rfl) (fun _ _ _ h => h) (Or.inl ⟨by rfl, ?y2⟩) hHeld ?r2
        case y2 => (intro wz hSw; (try dsimp only at hSw); go_simp; try with_reducible rfl)
        case r2 =>
        try simp only [Act.put, List.setIfInBounds_toArray, List.set_cons_zero, List.set_cons_succ]
        refine wpAnyH_take (i := 3) (oi := { dst := some 53, op := _, type := _, pos := _, after := _, guard := _ }) (v := ?v3) rfl (by kernel_rfl) (by kernel_rfl) (by kernel_rfl) (fun _ _ _ h => h) (Or.inl ⟨by rfl, ?y3⟩) hHeld ?r3
        case y3 => (intro wz hSw; (try dsimp only at hSw); go_simp; try with_reducible rfl)
        case r3 =>
        try simp only [Act.put, List.setIfInBounds_toArray, List.set_cons_zero, List.set_cons_succ]
        refine wpAnyH_take (i := 4) (oi := { dst := some 54, op := _, type := _, pos := _, after := _, guard := _ }) (v := ?v4) rfl (by kernel_rfl) (by kernel_rfl) (by kernel_rfl) (fun _ _ _ h => h) (Or.inl ⟨by rfl, ?y4⟩) hHeld ?r4
        case y4 => (intro wz hSw; (try dsimp only at hSw); go_simp; try with_reducible rfl)
        case r4 =>
        try simp only [Act.put, List.setIfInBounds_toArray, List.set_cons_zero, List.set_cons_succ]
        refine wpAnyH_take (i := 5) (oi := { dst := some 55, op := _, type := _, pos := _, after := _, guard := _ }) (v := ?v5) rfl (by kernel_rfl) (by kernel_rfl) (by kernel_rfl) (fun _ _ _ h => h) (Or.inl ⟨by rfl, ?y5⟩) hHeld ?r5
        case y5 => (intro wz hSw; (try dsimp only at hSw); go_simp; try with_reducible rfl)
        case r5 =>
        try simp only [Act.put, List.setIfInBounds_toArray, List.set_cons_zero, List.set_cons_succ]
        refine wpAnyH_take (i := 6) (oi := { dst := some 56, op := _, type := _, pos := _, after := _, guard := _ }) (v := ?v6) rfl (by kernel_rfl) (by kernel_rfl) (by kernel_rfl) (fun _ _ _ h => h) (Or.inl ⟨by rfl, ?y6⟩) hHeld ?r6
        case y6 => (intro wz hSw; (try dsimp only at hSw); go_simp; try with_reducible rfl)
        case r6 =>
        try simp only [Act.put, List.setIfInBounds_toArray, List.set_cons_zero, List.set_cons_succ]
        refine wpAnyH_take (i := 7) (oi := { dst := some 57, op := _, type := _, pos := _, after := _, guard := _ }) (v := ?v7) rfl (by kernel_rfl) (by kernel_rfl) (by kernel_rfl) (fun _ _ _ h => h) (Or.inl ⟨by rfl, ?y7⟩) hHeld ?r7
        case y7 => (intro wz hSw; (try dsimp only at hSw); go_simp; try with_reducible rfl)
        case r7 =>
        try simp only [Act.put, List.setIfInBounds_toArray, List.set_cons_zero, List.set_cons_succ]
        refine wpAnyH_take (i := 8) (oi := { dst := some 58, op := _, type := _, pos := _, after := _, guard := _ }) (v := ?v8) rfl (by kernel_rfl) (by kernel_rfl) (by kernel_rfl) (fun _ _ _ h => h) (Or.inl ⟨by rfl, ?y8⟩) hHeld ?r8
        case y8 => (intro wz hSw; (try dsimp only at hSw); go_simp; try with_reducible rfl)
        case r8 =>
        try simp only [Act.put, List.setIfInBounds_toArray, List.set_cons_zero, List.set_cons_succ]
        refine wpAnyH_take (i := 9) (oi := { dst := some 59, op := _, type := _, pos := _, after := _, guard := _ }) (v := ?v9) rfl (by kernel_rfl) (by kernel_rfl) (by kernel_rfl) (fun _ _ _ h => h) (Or.inl ⟨by rfl, ?y9⟩) hHeld ?r9
        case y9 => (intro wz hSw; (try dsimp only at hSw); go_simp; try with_reducible rfl)
        case r9 =>
        try simp only [Act.put, List.setIfInBounds_toArray, List.set_cons_zero, List.set_cons_succ]
        refine wpAnyH_take (i := 10) (oi := { dst := some 60, op := _, type := _, pos := _, after := _, guard := _ }) (v := ?v10) rfl (by kernel_rfl) (by kernel_rfl) (by kernel_rfl) (fun _ _ _ h => h) (Or.inl ⟨by rfl, ?y10⟩) hHeld ?r10
        case y10 => (intro wz hSw; (try dsimp only at hSw); go_simp; try with_reducible rfl)
        case r10 =>
        try simp only [Act.put, List.setIfInBounds_toArray, List.set_cons_zero, List.set_cons_succ]
        refine wpAnyH_take (i := 11) (oi := { dst := some 61, op := _, type := _, pos := _, after := _, guard := _ }) (v := ?v11) rfl (by kernel_rfl) (by kernel_rfl) (by kernel_rfl) (fun _ _ _ h => h) (Or.inl ⟨by rfl, ?y11⟩) hHeld ?r11
        case y11 => (intro wz hSw; (try dsimp only at hSw); go_simp; try with_reducible rfl)
        case r11 =>
        try simp only [Act.put, List.setIfInBounds_toArray, List.set_cons_zero, List.set_cons_succ]
        refine wpAnyH_take (i := 13) (oi := { dst := some 63, op := _, type := _, pos := _, after := _, guard := _ }) (v := ?v12) rfl (by kernel_rfl) (by kernel_rfl) (by kernel_rfl) (fun _ _ _ h => h) (Or.inl ⟨by rfl, ?y12⟩) hHeld ?r12
        case y12 => (intro wz hSw; (try dsimp only at hSw); go_simp; try with_reducible rfl)
        case r12 =>
        try simp only [Act.put, List.setIfInBounds_toArray, List.set_cons_zero, List.set_cons_succ]
        refine wpAnyH_take (i := 14) (oi := { dst := some 64, op := _, type := _, pos := _, after := _, guard := _ }) (v := ?v13) rfl (by kernel_rfl) (by kernel_rfl) (by kernel_rfl) (fun _ _ _ h => h) (Or.inl ⟨by rfl, ?y13⟩) hHeld ?r13
        case y13 => (intro wz hSw; (try dsimp only at hSw); go_simp; try with_reducible rfl)
        case r13 =>
        try simp only [Act.put, List.setIfInBounds_toArray, List.set_cons_zero, List.set_cons_succ]
        refine wpAnyH_take (i := 15) (oi := { dst := some 65, op := _, type := _, pos := _, after := _, guard := _ }) (v := ?v14) rfl (by kernel_rfl) (by kernel_rfl) (by kernel_rfl) (fun _ _ _ h => h) (Or.inl ⟨by rfl, ?y14⟩) hHeld ?r14
        case y14 => (intro wz hSw; (try dsimp only at hSw); go_simp; try with_reducible rfl)
        case r14 =>
        try simp only [Act.put, List.setIfInBounds_toArray, List.set_cons_zero, List.set_cons_succ]
        refine wpAnyH_take (i := 16) (oi := { dst := some 66, op := _, type := _, pos := _, after := _, guard := _ }) (v := ?v15) rfl (by kernel_rfl) (by kernel_rfl) (by kernel_rfl) (fun _ _ _ h => h) (Or.inl ⟨by rfl, ?y15⟩) hHeld ?r15
        case y15 => (intro wz hSw; (try dsimp only at hSw); go_simp; try with_reducible rfl)
        case r15 =>
        try simp only [Act.put, List.setIfInBounds_toArray, List.set_cons_zero, List.set_cons_succ]
        refine wpAnyH_take (i := 17) (oi := { dst := some 67, op := _, type := _, pos := _, after := _, guard := _ }) (v := ?v16) rfl (by kernel_rfl) (by kernel_rfl) (by kernel_rfl) (fun _ _ _ h => h) (Or.inl ⟨by rfl, ?y16⟩) hHeld ?r16
        case y16 => (intro wz hSw; (try dsimp only at hSw); go_simp; try with_reducible rfl)
        case r16 =>
        try simp only [Act.put, List.setIfInBounds_toArray, List.set_cons_zero, List.set_cons_succ]
        refine wpAnyH_take (i := 18) (oi := { dst := some 68, op := _, type := _, pos := _, after := _, guard := _ }) (v := ?v17) rfl (by kernel_rfl) (by kernel_rfl) (by kernel_rfl) (fun _ _ _ h => h) (Or.inl ⟨by rfl, ?y17⟩) hHeld ?r17
        case y17 => (intro wz hSw; (try dsimp only at hSw); go_simp; try with_reducible rfl)
        case r17 =>
        try simp only [Act.put, List.setIfInBounds_toArray, List.set_cons_zero, List.set_cons_succ]
        refine wpAnyH_take (i := 19) (oi := { dst := some 69, op := _, type := _, pos := _, after := _, guard := _ }) (v := ?v18) rfl (by kernel_rfl) (by kernel_rfl) (by kernel_rfl) (fun _ _ _ h => h) (Or.inl ⟨by rfl, ?y18⟩) hHeld ?r18
        case y18 => (intro wz hSw; (try dsimp only at hSw); go_simp; try with_reducible rfl)
        case r18 =>
        try simp only [Act.put, List.setIfInBounds_toArray, List.set_cons_zero, List.set_cons_succ]
        refine wpAnyH_ready (rs := [12, 20]) (by kernel_rfl) (by simp) ?_
        refine AllReadyH.cons (o := { dst := some 62, op := _, type := _, pos := _, after := _, guard := _ }) rfl (fun K hK => ?_) (AllReadyH.cons (o := { dst := some 70, op := _, type := _, pos := _, after := _, guard := _ }) rfl (fun K hK => ?_) AllReadyH.nil)
        · skip
          go_simp
          refine hK.out _ _ (hHeld) (fun hHeld => ?_)
          clear hK K
          try simp only [Act.put, List.setIfInBounds_toArray, List.set_cons_zero, List.set_cons_succ]
          refine wpAnyH_ready (rs := [20]) (by kernel_rfl) (by simp) ?_
          refine AllReadyH.cons (o := { dst := some 70, op := _, type := _, pos := _, after := _, guard := _ }) rfl (fun K hK => ?_) AllReadyH.nil
          go_simp
          refine hK.out _ _ (keepA) (fun hHeld => ?_)
          clear hK K
          try simp only [Act.put, List.setIfInBounds_toArray, List.set_cons_zero, List.set_cons_succ]
          refine wpAnyH_ready (rs := [21]) (by kernel_rfl) (by simp) ?_
          refine AllReadyH.cons (o := { dst := some 71, op := _, type := _, pos := _, after := _, guard := _ }) rfl (fun K hK => ?_) AllReadyH.nil
          refine step_append_lies _ (by rfl) _ _ _ (by rfl) 0 65 i0 (.agg #[.int .u64 0, .int .i64 0]) 2 16 Tryz.underlying51 hi0 hz0 hz1 hz2 rfl (by decide) (.slice aI i cI) i xs rfl (ownsRow_far' HOI.out (fun g hg => heap_alloc_old _ _ _ (own_lt2 HOI.out g hg).2)) ⟨w5.heap.size, 0, none⟩ 1 1 [.int .u64 x, .int .i64 y] rfl rfl (World.news_of_block (cs := #[.int .u64 x, .int .i64 y]) (t := 65) (heap_alloc_new _ _)) (fun u hu => by simp at hu; rcases hu with rfl | rfl <;> rfl) (by decide) (by unfold maxLen; omega) (by omega) (by simp) _ rfl ?_
          intro g' cap' wA hownA hgrowA hatA hltA
          obtain ⟨cA, fA, c0A, sA, tA⟩ := HFin.out (((Below.refl _ _).alloc (Nat.le_refl _) _).drew) hownA hgrowA hatA
          have HSA := toHid sA
          have HTA := toHid tA
          clear hownA hgrowA hatA hltA sA tA
          refine hK.out _ _ (c0A) (fun hHeld => ?_)
          clear hK K
          try simp only [Act.put, List.setIfInBounds_toArray, List.set_cons_zero, List.set_cons_succ]
          refine wpAnyH_take (i := 22) (oi := { dst := some 72, op := _, type := _, pos := _, after := _, guard := _ }) (v := ?v19) rfl (by kernel_rfl) (by kernel_rfl) (by kernel_rfl) (fun _ _ _ h => h) (Or.inl ⟨by rfl, ?y19⟩) hHeld ?r19
          case y19 => (intro wz hSw; (try dsimp only at hSw); go_simp; try with_reducible rfl)
          case r19 =>
          try simp only [Act.put, List.setIfInBounds_toArray, List.set_cons_zero, List.set_cons_succ]
          refine wpAnyH_take (i := 23) (oi := { dst := some 73, op := _, type := _, pos := _, after := _, guard := _ }) (v := ?v20) rfl (by kernel_rfl) (by kernel_rfl) (by kernel_rfl) (fun _ _ _ h => h) (Or.inl ⟨by rfl, ?y20⟩) hHeld ?r20
          case y20 => (intro wz hSw; (try dsimp only at hSw); go_simp; try with_reducible rfl)
          case r20 =>
          try simp only [Act.put, List.setIfInBounds_toArray, List.set_cons_zero, List.set_cons_succ]
          refine wpAnyH_ready (rs := [24]) (by kernel_rfl) (by simp) ?_
          refine AllReadyH.cons (o := { dst := none, op := _, type := _, pos := _, after := _, guard := _ }) rfl (fun K hK => ?_) AllReadyH.nil
          go_simp
          refine hK.out _ _ (HTA.out) (fun hHeld => ?_)
          clear hK K
          try simp only [Act.put, List.setIfInBounds_toArray, List.set_cons_zero, List.set_cons_succ]
          refine wpAnyH_done (by kernel_rfl) ?_ _
          go_wp2_with fail
          go_meet
          exact ⟨HSA.out, HTA.out.2⟩
        · skip
          go_simp
          refine hK.out _ _ (keepA) (fun hHeld => ?_)
          clear hK K
          try simp only [Act.put, List.setIfInBounds_toArray, List.set_cons_zero, List.set_cons_succ]
          refine wpAnyH_ready (rs := [12]) (by kernel_rfl) (by simp) ?_
          refine AllReadyH.cons (o := { dst := some 62, op := _, type := _, pos := _, after := _, guard := _ }) rfl (fun K hK => ?_) AllReadyH.nil
          go_simp
          refine hK.out _ _ (hHeld) (fun hHeld => ?_)
          clear hK K
          try simp only [Act.put, List.setIfInBounds_toArray, List.set_cons_zero, List.set_cons_succ]
          refine wpAnyH_ready (rs := [21]) (by kernel_rfl) (by simp) ?_
          refine AllReadyH.cons (o := { dst := some 71, op := _, type := _, pos := _, after := _, guard := _ }) rfl (fun K hK => ?_) AllReadyH.nil
          refine step_append_lies _ (by rfl) _ _ _ (by rfl) 0 65 i0 (.agg #[.int .u64 0, .int .i64 0]) 2 16 Tryz.underlying51 hi0 hz0 hz1 hz2 rfl (by decide) (.slice aI i cI) i xs rfl (ownsRow_far' HOI.out (fun g hg => heap_alloc_old _ _ _ (own_lt2 HOI.out g hg).2)) ⟨w5.heap.size, 0, none⟩ 1 1 [.int .u64 x, .int .i64 y] rfl rfl (World.news_of_block (cs := #[.int .u64 x, .int .i64 y]) (t := 65) (heap_alloc_new _ _)) (fun u hu => by simp at hu; rcases hu with rfl | rfl <;> rfl) (by decide) (by unfold maxLen; omega) (by omega) (by simp) _ rfl ?_
          intro g' cap' wA hownA hgrowA hatA hltA
          obtain ⟨cA, fA, c0A, sA, tA⟩ := HFin.out (((Below.refl _ _).alloc (Nat.le_refl _) _).drew) hownA hgrowA hatA
          have HSA := toHid sA
          have HTA := toHid tA
          clear hownA hgrowA hatA hltA sA tA
          refine hK.out _ _ (c0A) (fun hHeld => ?_)
          clear hK K
          try simp only [Act.put, List.setIfInBounds_toArray, List.set_cons_zero, List.set_cons_succ]
          refine wpAnyH_take (i := 22) (oi := { dst := some 72, op := _, type := _, pos := _, after := _, guard := _ }) (v := ?v21) rfl (by kernel_rfl) (by kernel_rfl) (by kernel_rfl) (fun _ _ _ h => h) (Or.inl ⟨by rfl, ?y21⟩) hHeld ?r21
          case y21 => (intro wz hSw; (try dsimp only at hSw); go_simp; try with_reducible rfl)
          case r21 =>
          try simp only [Act.put, List.setIfInBounds_toArray, List.set_cons_zero, List.set_cons_succ]
          refine wpAnyH_take (i := 23) (oi := { dst := some 73, op := _, type := _, pos := _, after := _, guard := _ }) (v := ?v22) rfl (by kernel_rfl) (by kernel_rfl) (by kernel_rfl) (fun _ _ _ h => h) (Or.inl ⟨by rfl, ?y22⟩) hHeld ?r22
          case y22 => (intro wz hSw; (try dsimp only at hSw); go_simp; try with_reducible rfl)
          case r22 =>
          try simp only [Act.put, List.setIfInBounds_toArray, List.set_cons_zero, List.set_cons_succ]
          refine wpAnyH_ready (rs := [24]) (by kernel_rfl) (by simp) ?_
          refine AllReadyH.cons (o := { dst := none, op := _, type := _, pos := _, after := _, guard := _ }) rfl (fun K hK => ?_) AllReadyH.nil
          go_simp
          refine hK.out _ _ (HTA.out) (fun hHeld => ?_)
          clear hK K
          try simp only [Act.put, List.setIfInBounds_toArray, List.set_cons_zero, List.set_cons_succ]
          refine wpAnyH_done (by kernel_rfl) ?_ _
          go_wp2_with fail
          go_meet
          exact ⟨HSA.out, HTA.out.2⟩
      case rest =>
        obtain ⟨hS, c2'⟩ := hcut
        clear d0 d2 d9 d9a d0d keepA
        go_wp2_with fail
        go_ret2
        exact .inr ⟨(HN.out HNO.out).1, by rw [HY.out, HSN.out] ; rfl, hS.out⟩
end Go.Proofs.YtlkcbdinlfeoiabGreatDoor
