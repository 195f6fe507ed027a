/- The law HeapSerials, by a walk. -/
import Derived.Test.YtlkcbdinlfeoiabGreatDoorKrA
import Derived.Laws.MakeOwn
import Derived.Test.YtlkcbdinlfeoiabGreatDoorCards
import Derived.Test.YtlkcbdinlfeoiabGreatDoorTie
import Derived.Test.YtlkcbdinlfeoiabGreatDoorKnAT
import Derived.ProofKit
import Derived.OpenShut
import Derived.Deep.DeepHandedRow
import Derived.ChangeSlices
import Derived.WideKeyArgs
import Derived.Deep.Frames
namespace Go.Proofs.YtlkcbdinlfeoiabGreatDoor
open Go.RowKit Go.Maps

variable {M : MO} {X : MXtra} {n l i k b nx : Nat} {L : List Int} {h h' : HP} {sr : Int} {m : MD} {w w' w0 : World} {a : Nat → Addr}
/-- Some objects, a root each. -/
structure Begun (M : MO) (n i : Nat) : Prop where
  rl : M.R.length = n
  two : ∀ d ∈ M.N, ndW d = 2
  nl : M.N.length = i
  r : ∀ k, k < i → M.R[k]? = some ⟨4, 0, k⟩
theorem two_more (h : ∀ d ∈ M.N, ndW d = 2) : ∀ d ∈ (M.made k (mkN 8 1)).N, ndW d = 2 := by
  intro d hd
  have hd : d ∈ M.N ++ [mkN 8 1] := hd
  rcases List.mem_append.1 hd with h1 | h1
  · exact h d h1
  · rw [List.mem_singleton.1 h1]; rfl
theorem Begun.next (hi : i < n) (B : Begun M n i) : Begun (M.made i (mkN 8 1)) n (i + 1) := by
  have hR : (M.made i (mkN 8 1)).R = M.R.set i ⟨4, 0, i⟩ := by show M.R.set i ⟨4, 0, M.N.length⟩ = _; rw [B.nl]
  refine ⟨?_, two_more B.two, ?_, fun k hk => ?_⟩
  · rw [hR, List.length_set]; exact B.rl
  · show (M.N ++ [mkN 8 1]).length = _
    rw [List.length_append, B.nl]; rfl
  · rw [hR]
    by_cases e : k = i
    · subst e; rw [List.getElem?_set_self (by rw [B.rl]; exact hi)]
    · rw [List.getElem?_set_ne (by omega)]; exact B.r k (by omega)
theorem Begun.begin (n : Nat) : Begun (MO.new n) n 0 := ⟨List.length_replicate, fun d hd => absurd (show d ∈ ([] : List ND) from hd) (by simp), rfl, fun _ h => absurd h (by omega)⟩
theorem Begun.few (B : Begun M n i) : M.total = 2 * i := by rw [total_two B.two, B.nl]
/-- Numbers of the objects that the roots lead to. -/
structure Sers (M : MO) (X : MXtra) (n l : Nat) (L : List Int) (nx : Nat) : Prop where
  rl : M.R.length = n
  ll : L.length = n
  two : ∀ d ∈ M.N, ndW d = 2
  nl : M.N.length ≤ l
  ex : ∃ ρ : Nat → Nat, (∀ k, k < n → M.R[k]? = some ⟨4, 0, ρ k⟩ ∧ ρ k < M.N.length ∧ X.ser (ρ k) = L.getD k 0) ∧ ∀ k k', k < n → k' < n → ρ k = ρ k' → k = k'
  fresh : ∀ j, M.N.length ≤ j → X.ser j = 0
  next : X.next = (nx : Int)
theorem Begun.done (B : Begun M n n) : Sers M MXtra.new n n (List.replicate n 0) 0 :=
  ⟨B.rl, List.length_replicate, B.two, Nat.le_of_eq B.nl, ⟨fun k => k, fun k hk => ⟨B.r k hk, by rw [B.nl]; exact hk, by
    show (0 : Int) = _
    rw [List.getD_eq_getElem?_getD, List.getElem?_replicate]
    split <;> rfl⟩, fun _ _ _ _ e => e⟩, fun _ _ => rfl, rfl⟩
theorem Sers.few (B : Sers M X n l L nx) : M.total ≤ 2 * l := by
  have := B.nl
  rw [total_two B.two]
  omega
theorem Sers.more (B : Sers M X n l L nx) {l' : Nat} (hl : l ≤ l') : Sers M X n l' L nx := ⟨B.rl, B.ll, B.two, Nat.le_trans B.nl hl, B.ex, B.fresh, B.next⟩
theorem getD_self {z : Int} (hk : k < L.length) : (L.set k z).getD k 0 = z := by rw [List.getD_eq_getElem?_getD, List.getElem?_set_self hk]; rfl
theorem getD_other {z : Int} {k' : Nat} (e : k' ≠ k) : (L.set k z).getD k' 0 = L.getD k' 0 := by rw [List.getD_eq_getElem?_getD, List.getElem?_set_ne (fun h => e h.symm), ← List.getD_eq_getElem?_getD]
theorem Sers.asked (B : Sers M X n l L nx) (hk : k < n) : ∃ j, M.R[k]? = some ⟨4, 0, j⟩ ∧ X.ser j = L.getD k 0 ∧ Sers M (X.give j) n l (L.set k ((nx : Int) + 1)) (nx + 1) := by
  obtain ⟨ρ, r, inj⟩ := B.ex
  obtain ⟨r1, r2, r3⟩ := r k hk
  refine ⟨ρ k, r1, r3, B.rl, by rw [List.length_set]; exact B.ll, B.two, B.nl, ⟨ρ, fun k' hk' => ?_, inj⟩, fun j hj => ?_, ?_⟩
  · obtain ⟨q1, q2, q3⟩ := r k' hk'
    refine ⟨q1, q2, ?_⟩
    show (if ρ k' = ρ k then X.next + 1 else X.ser (ρ k')) = _
    by_cases e : k' = k
    · subst e
      rw [if_pos rfl, getD_self (by rw [B.ll]; exact hk), B.next]
    · rw [if_neg (fun h => e (inj k' k hk' hk h)), getD_other e, q3]
  · show (if j = ρ k then X.next + 1 else X.ser j) = 0
    rw [if_neg (by omega)]
    exact B.fresh j hj
  · show X.next + 1 = ((nx + 1 : Nat) : Int)
    rw [B.next]
    omega
theorem Sers.remade (B : Sers M X n l L nx) (hk : k < n) : Sers (M.made k (mkN 8 1)) X n (l + 1) (L.set k 0) nx := by
  obtain ⟨ρ, r, inj⟩ := B.ex
  have hR : (M.made k (mkN 8 1)).R = M.R.set k ⟨4, 0, M.N.length⟩ := rfl
  have hN : (M.made k (mkN 8 1)).N.length = M.N.length + 1 := by show (M.N ++ [mkN 8 1]).length = _; rw [List.length_append]; rfl
  have hnl := B.nl
  refine ⟨by rw [hR, List.length_set]; exact B.rl, by rw [List.length_set]; exact B.ll, two_more B.two, by rw [hN]; omega, ⟨fun j => if j = k then M.N.length else ρ j, fun k' hk' => ?_, fun k1 k2 h1 h2 e => ?_⟩, fun j hj => B.fresh j (by rw [hN] at hj; omega), B.next⟩
  · by_cases e : k' = k
    · subst e
      show (M.made k' (mkN 8 1)).R[k']? = some ⟨4, 0, if k' = k' then M.N.length else ρ k'⟩ ∧ (if k' = k' then M.N.length else ρ k') < (M.made k' (mkN 8 1)).N.length ∧ X.ser (if k' = k' then M.N.length else ρ k') = _
      rw [if_pos rfl, hR, hN, List.getElem?_set_self (by rw [B.rl]; exact hk), getD_self (by rw [B.ll]; exact hk)]
      exact ⟨rfl, by omega, B.fresh _ (Nat.le_refl _)⟩
    · obtain ⟨q1, q2, q3⟩ := r k' hk'
      show (M.made k (mkN 8 1)).R[k']? = some ⟨4, 0, if k' = k then M.N.length else ρ k'⟩ ∧ (if k' = k then M.N.length else ρ k') < (M.made k (mkN 8 1)).N.length ∧ X.ser (if k' = k then M.N.length else ρ k') = _
      rw [if_neg e, hR, hN, List.getElem?_set_ne (fun h => e h.symm), getD_other e]
      exact ⟨q1, by omega, q3⟩
  · have a1 := (r k1 h1).2.1
    have a2 := (r k2 h2).2.1
    have e : (if k1 = k then M.N.length else ρ k1) = (if k2 = k then M.N.length else ρ k2) := e
    by_cases e1 : k1 = k
    · by_cases e2 : k2 = k
      · rw [e1, e2]
      · rw [if_pos e1, if_neg e2] at e; omega
    · by_cases e2 : k2 = k
      · rw [if_neg e1, if_pos e2] at e; omega
      · rw [if_neg e1, if_neg e2] at e; exact inj k1 k2 h1 h2 e
/-- The numbers that were seen lie beside the heap. -/
def Nums (b : Nat) (L : List Int) (h : HP) (w0 w : World) : Prop := Blk b 3 (L.map (Value.int .i64)) w ∧ ¬ h.own b ∧ w0.heap.size ≤ b
theorem Nums.step (H : Nums b L h w0 w) (N : Nxt h h' w w') : Nums b L h' w0 w' :=
  ⟨H.1.aside N.aside H.2.1, fun hk => by
    rcases N.own b hk with h1 | h1
    · exact H.2.1 h1
    · have := H.1.lt; omega, H.2.2⟩
theorem Nums.cell (H : Nums b L h w0 w) (hk : k < L.length) : w.cell? ⟨b, k, none⟩ = some (.int .i64 (L.getD k 0)) := H.1.cell (by
  rw [List.getElem?_map, List.getD_eq_getElem?_getD, List.getElem?_eq_getElem hk]
  rfl)
theorem Nums.put (H : Nums b L h w0 w) (hk : k < L.length) (z : Int) : Nums b (L.set k z) h w0 (w.setCell ⟨b, k, none⟩ (.int .i64 z)) :=
  ⟨by rw [List.map_set]; exact H.1.set (by rw [List.length_map]; exact hk) _, H.2.1, H.2.2⟩
theorem HS.away (s : HS a w0 h sr m M X w) (H : Nums b L h w0 w) (o : Nat) (v : Value) : HS a w0 h sr m M X (w.setCell ⟨b, o, none⟩ v) :=
  ⟨s.at'.aside ((Aside.refl (fun k => k = b) w).setCell (g := b) rfl v) (fun k hk e => H.2.1 (by rw [← show k = b from e]; exact hk)), s.hm, s.env, s.base.setCell H.2.2 v, s.own, s.t0, s.t1, s.kl, s.rl⟩
set_option maxRecDepth 100000 in
theorem infoNum : ∃ i0, Tryz.prog.info? 3 = some i0 ∧ i0.zero = some (.int .i64 0) ∧ i0.size = 1 ∧ i0.bytes = 8 := by
  refine ⟨(Tryz.prog.info? 3).get (by kernel_rfl), ?_, ?_, ?_, ?_⟩
  · exact (Option.some_get _).symm
  · kernel_rfl
  · kernel_rfl
  · kernel_rfl
theorem make_nums (n : Nat) (hn : n ≤ 300000) (w : World) :
    (Instr.makeSlice 22 (.int .i64 (n : Int)) (.int .i64 (n : Int))).run Tryz.prog w = .ok (.slice (some ⟨w.heap.size, 0, none⟩) n n) (w.alloc (.cells (Array.replicate n (.int .i64 0)) 3)) := by
  obtain ⟨i, hi, hz, h1, h8⟩ := infoNum
  have h := run_make (P := Tryz.prog) w 22 3 i (.int .i64 0) Tryz.underlying22 hi hz .i64 .i64 (n : Int) (n : Int) (by omega) (by omega) (by rw [h8]; omega) (by omega)
  rw [h, h1]
  have e : madeCells (Value.int .i64 0).cells ((n : Int).toNat * 1) = Array.replicate n (.int .i64 0) := by
    apply Array.ext
    · simp [madeCells]
    · intro i h1 h2
      have e0 : i % 1 = 0 := Nat.mod_one i
      simp [madeCells, Value.cells, e0]
  rw [e]
  simp
theorem nums_new (s : HS a w0 h sr m M X w) (n : Nat) : Nums w.heap.size (List.replicate n 0) h w0 (w.alloc (.cells (Array.replicate n (.int .i64 0)) 3)) ∧ Below w.heap.size w (w.alloc (.cells (Array.replicate n (.int .i64 0)) 3)) := by
  refine ⟨⟨⟨[], ?_⟩, fun hk => ?_, s.base.size⟩, (Below.refl _ _).alloc (Nat.le_refl _) _⟩
  · rw [heap_alloc_new, List.append_nil, List.map_replicate]
    simp
  · have := s.at'.lt hk; omega
theorem tmod_low (z : Int) (hn : 1 ≤ n) : -(n : Int) < Int.tmod z n ∧ Int.tmod z n < n := by
  have a := Int.tmod_lt_of_pos z (b := n) (by omega)
  have b := Int.tmod_lt_of_pos (-z) (b := n) (by omega)
  rw [Int.neg_tmod] at b
  omega
theorem hserial_at (s : HS a w0 h sr m M X w) {r o : Nat} (hj : M.R[r]? = some ⟨4, 0, o⟩) (hb : sr < 4611686018427387904) (hn : X.next = (nx : Int)) :
    Calls Tryz.prog 10 #[.pointer (some ⟨h.q, 0, none⟩), .int .i64 (r : Int)] w fun ev w' => (X.ser o ≠ 0 ∧ ev = .returned (.tuple #[.int .i64 (X.ser o), .nilIface]) ∧ Stp a w0 h m M X w w') ∨ (X.ser o = 0 ∧ ev = .returned (.tuple #[.int .i64 ((nx : Int) + 1), .nilIface]) ∧ Stp a w0 h m M (X.give o) w w') := by
  rw [← hn]
  exact hserial_any s hj rfl hb
set_option maxHeartbeats 4000000 in
set_option maxRecDepth 100000 in
theorem heapSerials_skip (x : Option Addr) (xl xc : Nat) (n half : Int) (w : World) (kh : Calls Tryz.prog 5 #[] w fun ev w' => ev = .returned (.bool true) ∧ Below w.heap.size w w')
    (hc : n < 1 ∨ (¬ n < 1 ∧ 20 < n) ∨ (¬ n < 1 ∧ ¬ 20 < n ∧ 60 < (xl : Int)) ∨ (¬ n < 1 ∧ ¬ 20 < n ∧ ¬ 60 < (xl : Int) ∧ half < 1) ∨ (¬ n < 1 ∧ ¬ 20 < n ∧ ¬ 60 < (xl : Int) ∧ ¬ half < 1 ∧ 200 < half)) :
    Calls Tryz.prog 3 #[.int .i64 n, .slice x xl xc, .int .i64 half] w fun ev w' => ev = .returned (.bool true) ∧ Below w.heap.size w w' := by
  rcases hc with c1 | ⟨c1, c2⟩ | ⟨c1, c2, c3⟩ | ⟨c1, c2, c3, c4⟩ | ⟨c1, c2, c3, c4, c5⟩
  all_goals (
    go_enter Tryz.func3, Tryz.ntmps3
    go_wp2_with fail
    refine kh.mono ?_
    clear kh
    rintro ev w1 ⟨rfl, b1⟩
    have HB := toHid b1
    clear b1
    go_wp2_with fail
    go_ret
    exact ⟨rfl, HB.out⟩)
set_option maxHeartbeats 16000000 in
set_option maxRecDepth 100000 in
theorem heapSerials_good (a : Nat → Addr) (x : Option Addr) (xl xc xb xo : Nat) (zs : List Int) (N : Nat) (half : Int) (n0 : 1 ≤ N) (n1 : N ≤ 20) (hxl : xl ≤ 60) (h0 : 1 ≤ half) (h1 : half ≤ 200) (hxa : 0 < xl → x = some ⟨xb, xo, none⟩) (w : World) (hzc : ∀ j, j < xl → w.cell? ⟨xb, xo + j, none⟩ = some (.int .i64 (zs.getD j 0))) (E : HEnv a w) (kh : Calls Tryz.prog 5 #[] w fun ev w' => ev = .returned (.bool true) ∧ Below w.heap.size w w') :
    Calls Tryz.prog 3 #[.int .i64 (N : Int), .slice x xl xc, .int .i64 half] w fun ev w' => ev = .returned (.bool true) ∧ Below w.heap.size w w' := by
  have HE := toHid E
  have HZ : Hid (∀ j, j < xl → w.cell? ⟨xb, xo + j, none⟩ = some (.int .i64 (zs.getD j 0))) := hzc
  have HX : Hid (0 < xl → x = some ⟨xb, xo, none⟩) := hxa
  have c1 : ¬ (N : Int) < 1 := by omega
  have c2 : ¬ 20 < (N : Int) := by omega
  have c3 : ¬ 60 < (xl : Int) := by omega
  have c4 : ¬ half < 1 := by omega
  have c5 : ¬ 200 < half := by omega
  clear E hzc hxa
  go_enter Tryz.func3, Tryz.ntmps3
  go_wp2_with fail
  refine kh.mono ?_
  clear kh
  rintro ev w1 ⟨rfl, b1⟩
  have kn := hnew_hs a half 500 4 1 N w1 (HE.out.below b1) ⟨⟨by omega, by omega, by omega, by omega, by omega, by omega⟩, by omega, by omega, by omega, by omega⟩
  have HB1 := toHid b1
  clear b1 HE
  go_wp2_with fail
  refine kn.mono ?_
  clear kn
  rintro ev w2 ⟨h, m, rfl, s, _, e2, _⟩
  have HS2 := toHid s
  have HO := toHid e2
  obtain ⟨q, hq⟩ : ∃ q, q = h.q := ⟨_, rfl⟩
  rw [← hq]
  have HQ := toHid hq
  clear s e2 hq
  go_wp2_with fail
  go_loopg [10] (N + 1) (fun gk v10 wr => ∃ i : Nat, gk = N + 1 - i ∧ i ≤ N ∧ v10 = .int .i64 (i : Int) ∧ ∃ M h' sr' m', Hid (Begun M N i) ∧ Hid (HS a w1 h' sr' m' M MXtra.new wr) ∧ Hid (h'.q = q ∧ m'.old = 500))
  case atStart => exact ⟨0, rfl, Nat.zero_le _, rfl, _, h, _, m, Begun.begin N, HS2, HQ.out.symm, HO.out⟩
  case round =>
    obtain ⟨i, hgk, hi', rfl, M, h5, sr5, m5, HBg, HSr, HP⟩ := hrel
    have HG := toHid hgk
    have hi0 : (0 : Int) ≤ (i : Int) := by omega
    clear hgk HS2 HO HQ
    by_cases hlt : i < N
    · have hI : (i : Int) < (N : Int) := by omega
      have hR : m5.R.length = N := HSr.out.hm.roots.trans HBg.out.rl
      have km := hmake_any HSr.out i 1 8 (by omega) (by omega) (by omega) (by omega)
      rw [HP.out.1] at km
      clear hR
      go_wp2_with fail
      refine km.mono ?_
      clear km
      rintro ev w6 (⟨rfl, h6, sr6, m6, N6, D6, s6⟩ | ⟨rfl, st, hf⟩)
      rotate_left
      · exfalso
        have hf : m5.old < ((M.words : Nat) : Int) + (1 + ((1 : Nat) : Int)) := hf
        have h1 := HSr.out.hm.few
        rw [HBg.out.few] at h1
        rw [HP.out.2] at hf
        omega
      have H6 : Hid (h6.q = q ∧ m6.old = 500) := ⟨N6.q.trans HP.out.1, D6.old.trans HP.out.2⟩
      have HS6 := toHid s6
      clear s6 N6 D6
      go_wp2_with fail
      go_roundg (N + 1 - (i + 1))
      case measure => have := HG.out; omega
      case rel => exact ⟨i + 1, rfl, by omega, by go_num, _, h6, sr6, m6, HBg.out.next hlt, HS6, H6⟩
    · have hI : ¬ (i : Int) < (N : Int) := by omega
      obtain rfl : i = N := by omega
      have hmk := make_nums i (by omega) wr
      obtain ⟨HN0, hb0⟩ := nums_new HSr.out i
      have HN := toHid HN0
      have HSb := toHid (HSr.out.below hb0)
      have HBd := toHid HBg.out.done
      obtain ⟨b, hb⟩ : ∃ b, b = wr.heap.size := ⟨_, rfl⟩
      rw [← hb] at HN hmk
      clear HN0 hb0 hb
      have hi1 : (0 : Int) < (i : Int) := by omega
      go_wp2_with fail
      go_loopg [12, 13] (xl + 1) (fun gk v12 v13 wr => ∃ j nx : Nat, gk = xl + 1 - j ∧ j ≤ xl ∧ nx ≤ j ∧ v12 = .int .i64 (nx : Int) ∧ v13 = .int .i64 (j : Int) ∧ ∃ M X L h' sr' m', Hid (Sers M X i (i + j) L nx) ∧ Hid (HS a w1 h' sr' m' M X wr) ∧ Hid (h'.q = q ∧ m'.old = 500) ∧ Hid (Nums b L h' w1 wr))
      case atStart => exact ⟨0, 0, rfl, Nat.zero_le _, Nat.le_refl _, rfl, rfl, _, _, _, h5, sr5, m5, HBd, HSb, HP, HN⟩
      case round =>
        obtain ⟨j, nx, hgk, hj', hnx, rfl, rfl, M, X, L, h5, sr5, m5, SB, HSr, HP, NB⟩ := hrel
        have HG := toHid hgk
        have hj0 : (0 : Int) ≤ (j : Int) := by omega
        clear hgk HBd HSb HN
        by_cases hlt : j < xl
        · have hJ : (j : Int) < (xl : Int) := by omega
          obtain rfl := HX.out (by omega)
          obtain ⟨z, hz⟩ : ∃ z, zs.getD j 0 = z := ⟨_, rfl⟩
          have HZJ : Hid (∀ w', Below w1.heap.size w1 w' → w'.cell? ⟨xb, xo + j, none⟩ = some (.int .i64 z)) := by
            intro w' hb'
            have h2 := HZ.out j hlt
            rw [hz] at h2
            have h3 := (HB1.out.cell (p := ⟨xb, xo + j, none⟩) (lt_of_cell h2)).trans h2
            exact (hb'.cell (p := ⟨xb, xo + j, none⟩) (lt_of_cell h3)).trans h3
          clear hz
          have hzi := HZJ.out _ HSr.out.base
          obtain ⟨t1, t2⟩ := tmod_low z (n := i) (by omega)
          obtain ⟨t, ht⟩ : ∃ t, Int.tmod z (i : Int) = t := ⟨_, rfl⟩
          rw [ht] at t1 t2
          have ht2 : IntKind.i64.wrap (Int.tmod z (i : Int)) = t := by rw [ht]; exact wrapI _ (by omega) (by omega)
          have hnz : ¬ (i : Int) = 0 := by omega
          obtain ⟨k, hk, hkt⟩ : ∃ k : Nat, k < i ∧ ((t < 0 ∧ t + (i : Int) = (k : Int)) ∨ (¬ t < 0 ∧ t = (k : Int))) := by
            by_cases h : t < 0
            · exact ⟨(t + i).toNat, by omega, .inl ⟨h, by omega⟩⟩
            · exact ⟨t.toNat, by omega, .inr ⟨h, by omega⟩⟩
          have HK := toHid hk
          have hk0 : (0 : Int) ≤ (k : Int) := by omega
          have hk1 : (k : Int) < (i : Int) := by omega
          have hwk : IntKind.i64.wrap (k : Int) = (k : Int) := wrapI _ (by omega) (by omega)
          clear hk
          obtain ⟨r3, hr3, hr3'⟩ : ∃ r3 : Int, Int.tmod (j : Int) 3 = r3 ∧ (r3 = 0 ∨ r3 = 1 ∨ r3 = 2) := by
            refine ⟨_, rfl, ?_⟩
            rw [Int.tmod_eq_emod_of_nonneg (by omega)]
            omega
          have hr4 : IntKind.i64.wrap (Int.tmod (j : Int) 3) = r3 := by rw [hr3]; exact wrapI _ (by omega) (by omega)
          have hw := HSr.out.hm.few
          have hw2 := SB.out.few
          have HT : Hid (M.words ≤ 160) := by show M.words ≤ 160; omega
          clear hw hw2
          have kmi := hminor_any HSr.out
          have kma := hmajor_any HSr.out
          rw [HP.out.1] at kmi kma
          rcases hkt with ⟨hk2, hk3⟩ | ⟨hk2, rfl⟩ <;> rcases hr3' with rfl | rfl | rfl
          all_goals go_wp2_with fail
          all_goals try rw [hk3]
          all_goals first
            | (
              refine kmi.mono ?_
              clear kmi kma
              rintro ev w6 (⟨rfl, _, hf⟩ | ⟨rfl, h6, sr6, m6, N6, D6, s6⟩)
              · exfalso
                rw [HP.out.2] at hf
                have := HT.out
                omega
              have H6 : Hid (h6.q = q ∧ m6.old = 500) := ⟨N6.q.trans HP.out.1, D6.old.trans HP.out.2⟩
              have NB6 := toHid (NB.out.step N6)
              have HS6 := toHid s6
              clear s6 N6 D6
              go_wp2_with fail)
            | (
              refine kma.mono ?_
              clear kmi kma
              rintro ev w6 (⟨rfl, _, hf⟩ | ⟨rfl, h6, sr6, m6, N6, D6, s6, _, _, _⟩)
              · exfalso
                rw [HP.out.2] at hf
                have := HT.out
                omega
              have H6 : Hid (h6.q = q ∧ m6.old = 500) := ⟨N6.q.trans HP.out.1, D6.old.trans HP.out.2⟩
              have NB6 := toHid (NB.out.step N6)
              have HS6 := toHid s6
              clear s6 N6 D6
              go_wp2_with fail)
            | (have HS6 := HSr
               have H6 := HP
               have NB6 := NB)
          all_goals (
            obtain ⟨o, hro, hso, hSg⟩ := SB.out.asked HK.out
            have SG := toHid hSg
            have HSO := toHid hso
            have hsr := HS6.out.hm.serials
            have hXn := SB.out.next
            have ks := hserial_at HS6.out hro (by omega) hXn
            rw [H6.out.1] at ks
            clear hro hso hSg hsr
            obtain ⟨r5, hr5⟩ : ∃ r5, Int.tmod z 5 = r5 := ⟨_, rfl⟩
            have hb5 := Int.tmod_lt_of_pos z (b := 5) (by decide)
            have hb6 := Int.tmod_lt_of_pos (-z) (b := 5) (by decide)
            rw [Int.neg_tmod, hr5] at hb6
            rw [hr5] at hb5
            have hr6 : IntKind.i64.wrap (Int.tmod z 5) = r5 := by rw [hr5]; exact wrapI _ (by omega) (by omega)
            refine ks.mono ?_
            clear ks
            rintro ev w7 (⟨hs0, rfl, h7, sr7, m7, N7, D7, s7⟩ | ⟨hs0, rfl, h7, sr7, m7, N7, D7, s7⟩)
            all_goals (
              have H7 : Hid (h7.q = q ∧ m7.old = 500) := ⟨N7.q.trans H6.out.1, D7.old.trans H6.out.2⟩
              have NB7 := toHid (NB6.out.step N7)
              have HS7 := toHid s7

              clear s7 N7 D7)

            · have c0 := NB7.out.cell (k := k) (by rw [SB.out.ll]; exact HK.out)
              rw [← HSO.out] at c0
              have hzi7 := HZJ.out _ HS7.out.base
              by_cases h5 : r5 = 0
              · have km := hmake_any HS7.out k 1 8 (by rw [HS7.out.hm.roots, SB.out.rl]; exact HK.out) (by omega) (by omega) (by omega)
                rw [H7.out.1] at km
                go_wp2_with fail
                refine km.mono ?_
                clear km
                rintro ev w9 (⟨rfl, h9, sr9, m9, N9, D9, s9⟩ | ⟨rfl, st, hf⟩)
                rotate_left
                · exfalso
                  have hf : _ < ((M.words : Nat) : Int) + (1 + ((1 : Nat) : Int)) := hf
                  rw [H7.out.2] at hf
                  have := HT.out
                  omega
                have NB9 := toHid (NB7.out.step N9)
                have H9 : Hid (h9.q = q ∧ m9.old = 500) := ⟨N9.q.trans H7.out.1, D9.old.trans H7.out.2⟩
                have SB9 := toHid ((SB.out).remade HK.out)
                have c9 := NB9.out.cell (k := k) (by have := SB9.out.ll; rw [List.length_set] at this; rw [this]; exact HK.out)
                have f9 := NB9.out.1.frozen k
                have HS9 := toHid (s9.away NB9.out k (.int .i64 0))
                have NC9 := toHid (NB9.out.put (k := k) (by have := SB9.out.ll; rw [List.length_set] at this; rw [this]; exact HK.out) 0)
                clear s9 N9 D9
                go_wp2_with fail
                go_roundg (xl + 1 - (j + 1))
                case measure => have := HG.out; omega
                case rel => exact ⟨j + 1, _, rfl, by omega, by omega, by go_num, by go_num, _, _, _, _, _, _, SB9, HS9, H9, NC9⟩
              · go_wp2_with fail
                go_roundg (xl + 1 - (j + 1))
                case measure => have := HG.out; omega
                case rel => exact ⟨j + 1, nx, rfl, by omega, by omega, rfl, by go_num, M, X, L, _, _, _, SB.out.more (by omega), HS7, H7, NB7⟩
            · have hk9 : k < L.length := by rw [SB.out.ll]; exact HK.out
              have c0 := NB7.out.cell (k := k) hk9
              rw [← HSO.out, hs0] at c0
              have f0 := NB7.out.1.frozen k
              have NB8 := toHid (NB7.out.put (k := k) hk9 ((nx : Int) + 1))
              have HS8 := toHid (HS7.out.away NB7.out k (.int .i64 ((nx : Int) + 1)))
              have c1 := NB8.out.cell (k := k) (by rw [List.length_set]; exact hk9)
              rw [getD_self hk9] at c1
              clear hk9
              have hzi8 := HZJ.out _ HS8.out.base
              by_cases h5 : r5 = 0
              · have km := hmake_any HS8.out k 1 8 (by rw [HS8.out.hm.roots, SB.out.rl]; exact HK.out) (by omega) (by omega) (by omega)
                rw [H7.out.1] at km
                go_wp2_with fail
                refine km.mono ?_
                clear km
                rintro ev w9 (⟨rfl, h9, sr9, m9, N9, D9, s9⟩ | ⟨rfl, st, hf⟩)
                rotate_left
                · exfalso
                  have hf : _ < ((M.words : Nat) : Int) + (1 + ((1 : Nat) : Int)) := hf
                  rw [H7.out.2] at hf
                  have := HT.out
                  omega
                have NB9 := toHid (NB8.out.step N9)
                have H9 : Hid (h9.q = q ∧ m9.old = 500) := ⟨N9.q.trans H7.out.1, D9.old.trans H7.out.2⟩
                have SB9 := toHid ((SG.out).remade HK.out)
                have c9 := NB9.out.cell (k := k) (by have := SB9.out.ll; rw [List.length_set] at this; rw [this]; exact HK.out)
                have f9 := NB9.out.1.frozen k
                have HS9 := toHid (s9.away NB9.out k (.int .i64 0))
                have NC9 := toHid (NB9.out.put (k := k) (by have := SB9.out.ll; rw [List.length_set] at this; rw [this]; exact HK.out) 0)
                clear s9 N9 D9
                go_wp2_with fail
                go_roundg (xl + 1 - (j + 1))
                case measure => have := HG.out; omega
                case rel => exact ⟨j + 1, _, rfl, by omega, by omega, by go_num, by go_num, _, _, _, _, _, _, SB9, HS9, H9, NC9⟩
              · go_wp2_with fail
                go_roundg (xl + 1 - (j + 1))
                case measure => have := HG.out; omega
                case rel => exact ⟨j + 1, nx + 1, rfl, by omega, by omega, by go_num, by go_num, M, _, _, _, _, _, SG.out.more (by omega), HS8, H7, NB8⟩)
        · have hJ : ¬ (j : Int) < (xl : Int) := by omega
          have HBF : Hid (Below w.heap.size w wr) := HB1.out.trans (HSr.out.base.mono HB1.out.size)
          go_wp2_with fail
          go_ret
          exact ⟨rfl, HBF.out⟩
theorem heapSerials_any (a : Nat → Addr) (x : Option Addr) (xl xc xb xo : Nat) (zs : List Int) (n half : Int) (hxa : 0 < xl → x = some ⟨xb, xo, none⟩) (w : World) (hzc : ∀ j, j < xl → w.cell? ⟨xb, xo + j, none⟩ = some (.int .i64 (zs.getD j 0))) (E : HEnv a w) :
    Calls Tryz.prog 3 #[.int .i64 n, .slice x xl xc, .int .i64 half] w fun ev w' => ev = .returned (.bool true) ∧ Below w.heap.size w w' := by
  have kh := hold_any a w E
  by_cases hc : 1 ≤ n ∧ n ≤ 20 ∧ xl ≤ 60 ∧ 1 ≤ half ∧ half ≤ 200
  · obtain ⟨a1, a2, a3, a4, a5⟩ := hc
    obtain ⟨N, rfl⟩ : ∃ N : Nat, n = (N : Int) := ⟨n.toNat, by omega⟩
    exact heapSerials_good a x xl xc xb xo zs N half (by omega) (by omega) a3 a4 a5 hxa w hzc E kh
  · exact heapSerials_skip x xl xc n half w kh (by omega)
end Go.Proofs.YtlkcbdinlfeoiabGreatDoor

/-
  The law HeapSerials holds for every two ints and every slice of ints: called in whatever memory in which the listed variables read as the program's text lays them, it returns true; nothing that was there has turned.
-/
namespace Go.Proofs.YtlkcbdinlfeoiabGreatDoor
open Go.ChangeShapes Go.WideShapes Go.ChangeAt Go.RowKit

theorem heapSerials_walk (W : World) (n : Int) (_ : (Lit.int .i64 n).wf = true) (x : Option Addr) (xl xc xb xo : Nat) (zs : List Int) (hxa : 0 < xl → x = some ⟨xb, xo, none⟩) (_ : xl ≤ zs.length) (hzc : ∀ j, j < xl → W.cell? ⟨xb, xo + j, none⟩ = some (.int .i64 (zs.getD j 0))) (_ : ∀ n ∈ zs, (Lit.int .i64 n).wf = true) (half : Int) (_ : (Lit.int .i64 half).wf = true) (h : laidMetH Tryz.prog Rows.heapSerialsRow.laid W) : Calls Tryz.prog 3 #[.int .i64 n, .slice x xl xc, .int .i64 half] W fun ev W' => ev = .returned (.bool true) ∧ Below W.heap.size W W' := by
  have h' : laidMet Tryz.prog (("math/bits.deBruijn32tab", Rows.laid_math_bits_deBruijn32tab) :: ("math/bits.deBruijn64tab", Lib.tabData .u8 db64) :: ("internal/strconv.uint64pow10", Lib.tabData .u64 Lib.pow10Tab) :: ("unicode/utf8.acceptRanges", Rows.laid_unicode_utf8_acceptRanges) :: (fourL ++ [("unicode/utf8.first", Rows.laid_unicode_utf8_first)])) W := h
  obtain ⟨a, E⟩ := heap_env4 h'
  exact heapSerials_any a x xl xc xb xo zs n half hxa W hzc E

theorem laidOut : laidOutB Tryz.prog = true := by kernel_rfl
theorem cells3 : Tryz.prog.cellsOf 3 = 1 := by kernel_rfl
theorem own : ownKnob Tryz.prog.godebug = none := by kernel_rfl

set_option maxRecDepth 100000 in
theorem heapSerials_contract (H : Type) (enc : TypeId × Value → H) (W : World) (base : Nat) (args : Array Value) (ds gs : List (DataW H)) (before : List MemPlace)
    (hval : ∀ (j : Nat) t v, Tryz.f3.params[j]? = some t → args[j]? = some v → Value.okWide Tryz.prog W .any base t v)
    (hW : DataW.Whole enc Tryz.prog Tryz.f3.params.toList Rows.heapSerialsSpec.vars false W args.toList ds gs before) (hL : laidMetH Tryz.prog Rows.heapSerialsRow.laid W) :
    Calls Tryz.prog 3 args W fun e W' => ∃ v, e = .returned v ∧ Rows.heapSerialsSpec.post enc Tryz.prog Tryz.f3 false true false false W args v W' := by
  have hW' := hW
  obtain ⟨p, q, hA0, hV, rfl, hfz, hnd⟩ := hW
  have hA : DataW.TrodAll enc Tryz.prog W 0 (fun _ => true) true Tryz.f3.params.toList args.toList ds p := hA0
  rw [Tryz.params3] at hA hval
  obtain ⟨v0, vs0, d0, ds0, p0, q0, hargs, rfl, rfl, h0, r0⟩ := trodAll_cons hA
  obtain ⟨v1, vs1, d1, ds1, p1, q1, rfl, rfl, rfl, h1, r1⟩ := trodAll_cons r0
  obtain ⟨v2, vs2, d2, ds2, p2, q2, rfl, rfl, rfl, h2, r2⟩ := trodAll_cons r1
  obtain ⟨rfl, rfl, rfl⟩ := trodAll_nil r2
  obtain rfl : args = #[v0, v1, v2] := by cases args; simp_all
  obtain ⟨rfl, rfl⟩ := trodVars_none hV
  obtain ⟨n0, rfl, rfl, rfl, hn0⟩ := open_int Tryz.underlying3 (hval 0 3 v0 rfl rfl) h0
  obtain ⟨x1, xl1, xc1, rfl⟩ := okWide_slice Tryz.underlying22 (hval 1 22 v1 rfl rfl)
  have h1k := h1
  obtain ⟨fu1, hf1⟩ := h1
  obtain ⟨xb1, xo1, zs1, hxa1, hzl1, hzc1, hpc1, hwz1⟩ : ∃ (xb xo : Nat) (zs : List Int), (0 < xl1 → x1 = some ⟨xb, xo, none⟩) ∧ xl1 ≤ zs.length ∧ (∀ j, j < xl1 → W.cell? ⟨xb, xo + j, none⟩ = some (.int .i64 (zs.getD j 0))) ∧ (∀ x ∈ p1, ∀ bb, x ≠ .map bb) ∧ ∀ n ∈ zs, (Lit.int .i64 n).wf = true := by
    rcases open_ints Tryz.underlying22 Tryz.underlying3 cells3 hf1 with ⟨hcs, hx⟩ | ⟨a, len', cap', zs, hcs, _, hl, _, hz, hx, hcell, hwz⟩
    · simp [Value.cells] at hcs
      obtain ⟨rfl, rfl, rfl⟩ := hcs
      simp only [Prod.mk.injEq] at hx
      obtain ⟨rfl, rfl⟩ := hx
      exact ⟨0, 0, [], by simp, by simp, by simp, by simp, by simp⟩
    · simp [Value.cells] at hcs
      obtain ⟨rfl, rfl, rfl⟩ := hcs
      simp only [Prod.mk.injEq] at hx
      obtain ⟨rfl, rfl⟩ := hx
      simp only [if_true] at hz
      have hcl : ∀ x ∈ MemPlace.row a zs.length, ∀ bb, x ≠ .map bb := fun x hx bb e => by
        obtain ⟨j, _, rfl⟩ := MemPlace.mem_row.1 hx
        cases e
      rcases Nat.eq_zero_or_pos zs.length with hz0 | hzp
      · obtain rfl : xl1 = 0 := by omega
        exact ⟨0, 0, zs, by simp, by omega, by simp, hcl, hwz⟩
      · obtain ⟨xb, xo, spot⟩ := a
        have hspot : spot = none := by simpa [Addr.add] using World.cell?_spot (hcell 0 hzp)
        subst hspot
        exact ⟨xb, xo, zs, fun _ => rfl, by omega, fun j hj => by rw [← add_plain]; exact hcell j (by omega), hcl, hwz⟩
  obtain ⟨n2, rfl, rfl, rfl, hn2⟩ := open_int Tryz.underlying3 (hval 2 3 v2 rfl rfl) h2
  clear hA0
  simp only [List.append_nil] at hW'
  have hlt1 : ∀ x ∈ p1, x.block < W.heap.size := fun x hx => by simpa using hW'.lt x (by simp [hx])
  refine (heapSerials_walk W n0 hn0 x1 xl1 xc1 xb1 xo1 zs1 hxa1 hzl1 hzc1 hwz1 n2 hn2 hL).mono fun e W' ⟨he, hg⟩ => ?_
  subst he
  refine ⟨_, rfl, _, _, _, [], ([] ++ (p1 ++ ([] ++ []))), [], hW', ?_, ?_, ?_, hg.frame _, fun h => by cases h⟩
  · exact trodAll_cons_mk (shut_bool Tryz.underlying4 true) trodAll_mk0
  · exact trodAll_cons_mk (shut_int Tryz.underlying3 hn0) (trodAll_cons_mk (WideElems.Trod_stays laidOut (by kernel_rfl) (of_decide_eq_true (by kernel_rfl)) h1k (fun x hx => World.keptBut.sameAt (hg.frame (fun _ => False)) (hlt1 x hx) (fun hm => hm) (fun bb e => absurd e (hpc1 x hx bb))) (fun x hx => by simpa using hlt1 x hx)) (trodAll_cons_mk (shut_int Tryz.underlying3 hn2) trodAll_mk0))
  · rfl

/-- A world for the witness: the settled one, the listed variables laid. -/
def heapSerialsLow (P : Program) : Nat := (World.holding P default ⟨#[], #[], []⟩).heap.size
def heapSerialsWorld (P : Program) (os : Os) : World :=
  let w0 := World.holding P os ⟨#[.cells #[.string ⟨#[110, 117, 114, 115, 101, 114, 121, 112, 121, 58, 32, 98, 111, 117, 110, 100]⟩] 274, .cells #[.string ⟨#[110, 117, 114, 115, 101, 114, 121, 112, 121, 58, 32, 115, 104, 97, 112, 101]⟩] 274, .cells #[.string ⟨#[110, 117, 114, 115, 101, 114, 121, 112, 121, 58, 32, 112, 108, 97, 99, 101]⟩] 274, .cells #[.string ⟨#[110, 117, 114, 115, 101, 114, 121, 112, 121, 58, 32, 102, 117, 108, 108]⟩] 274], #[], []⟩
  let put (k : Nat) (v : Array Value) (h : Array Obj) : Array Obj := h.modify k fun | .cells _ t frozen => .cells v t frozen | o => o
  { w0 with heap := (put 8 #[.int .u8 0, .int .u8 1, .int .u8 28, .int .u8 2, .int .u8 29, .int .u8 14, .int .u8 24, .int .u8 3, .int .u8 30, .int .u8 22, .int .u8 20, .int .u8 15, .int .u8 25, .int .u8 17, .int .u8 4, .int .u8 8, .int .u8 31, .int .u8 27, .int .u8 13, .int .u8 23, .int .u8 21, .int .u8 19, .int .u8 16, .int .u8 7, .int .u8 26, .int .u8 12, .int .u8 18, .int .u8 6, .int .u8 11, .int .u8 5, .int .u8 10, .int .u8 9] (put 9 #[.int .u8 0, .int .u8 1, .int .u8 56, .int .u8 2, .int .u8 57, .int .u8 49, .int .u8 28, .int .u8 3, .int .u8 61, .int .u8 58, .int .u8 42, .int .u8 50, .int .u8 38, .int .u8 29, .int .u8 17, .int .u8 4, .int .u8 62, .int .u8 47, .int .u8 59, .int .u8 36, .int .u8 45, .int .u8 43, .int .u8 51, .int .u8 22, .int .u8 53, .int .u8 39, .int .u8 33, .int .u8 30, .int .u8 24, .int .u8 18, .int .u8 12, .int .u8 5, .int .u8 63, .int .u8 55, .int .u8 48, .int .u8 27, .int .u8 60, .int .u8 41, .int .u8 37, .int .u8 16, .int .u8 46, .int .u8 35, .int .u8 44, .int .u8 21, .int .u8 52, .int .u8 32, .int .u8 23, .int .u8 11, .int .u8 54, .int .u8 26, .int .u8 40, .int .u8 15, .int .u8 34, .int .u8 20, .int .u8 31, .int .u8 10, .int .u8 25, .int .u8 14, .int .u8 19, .int .u8 9, .int .u8 13, .int .u8 8, .int .u8 7, .int .u8 6] (put 5 #[.int .u64 1, .int .u64 10, .int .u64 100, .int .u64 1000, .int .u64 10000, .int .u64 100000, .int .u64 1000000, .int .u64 10000000, .int .u64 100000000, .int .u64 1000000000, .int .u64 10000000000, .int .u64 100000000000, .int .u64 1000000000000, .int .u64 10000000000000, .int .u64 100000000000000, .int .u64 1000000000000000, .int .u64 10000000000000000, .int .u64 100000000000000000, .int .u64 1000000000000000000, .int .u64 10000000000000000000] (put 7 #[.int .u8 128, .int .u8 191, .int .u8 160, .int .u8 191, .int .u8 128, .int .u8 159, .int .u8 144, .int .u8 191, .int .u8 128, .int .u8 143, .int .u8 0, .int .u8 0, .int .u8 0, .int .u8 0, .int .u8 0, .int .u8 0, .int .u8 0, .int .u8 0, .int .u8 0, .int .u8 0, .int .u8 0, .int .u8 0, .int .u8 0, .int .u8 0, .int .u8 0, .int .u8 0, .int .u8 0, .int .u8 0, .int .u8 0, .int .u8 0, .int .u8 0, .int .u8 0] (put 0 #[.iface 260 (.pointer (some ⟨heapSerialsLow P + 0, 0, none⟩))] (put 2 #[.iface 260 (.pointer (some ⟨heapSerialsLow P + 1, 0, none⟩))] (put 3 #[.iface 260 (.pointer (some ⟨heapSerialsLow P + 2, 0, none⟩))] (put 1 #[.iface 260 (.pointer (some ⟨heapSerialsLow P + 3, 0, none⟩))] (put 6 (Go.Pinned.utf8FirstZ.map fun (n : Nat) => Value.int .u8 (n : Int)).toArray w0.heap))))))))) }
theorem heapSerials_met (os : Os) : laidMetH Tryz.prog Rows.heapSerialsRow.laid ((heapSerialsWorld Tryz.prog os).forCall (fun _ _ => 0) ⟨#[], #[.int .i64 0, .slice none 0 0, .int .i64 0], []⟩).memory :=
  laidMetH_of_parts (laidMet_of_run' 8 (by kernel_rfl) (by kernel_rfl)) (by kernel_rfl)
theorem heapSerials_reads (os : Os) {H : Type} (enc : TypeId × Value → H) : ∃ places, DataW.whole enc Tryz.prog ((heapSerialsWorld Tryz.prog os).forCall (fun _ _ => 0) ⟨#[], #[.int .i64 0, .slice none 0 0, .int .i64 0], []⟩).memory Tryz.f3.params.toList Rows.heapSerialsSpec.vars false (#[.int .i64 0, .slice none 0 0, .int .i64 0] : Array Value).toList 8 = some ([.lit (.int .i64 0), .nil, .lit (.int .i64 0)], [], places) :=
  ⟨[], by kernel_rfl⟩

set_option maxRecDepth 100000 in
theorem heapSerials_lifted (os : Os) (started : os.Started) (H : Type) (enc : TypeId × Value → H) (F : Stop.Interp) :
    ReturnsInHanded {} Tryz.checked os 3 .any ((OpenSpec.ofChange Rows.heapSerialsSpec).preRow enc Tryz.prog Tryz.f3 Rows.heapSerialsRow.domain false Rows.heapSerialsRow.laid) (((OpenSpec.ofChange Rows.heapSerialsSpec).at F).post enc Tryz.prog Tryz.f3 false true false false) := by
  obtain ⟨places, hx⟩ := heapSerials_reads os enc
  refine returnsInHanded_of_row (C := Tryz.checked) (s := OpenSpec.ofChange Rows.heapSerialsSpec) own started (by kernel_rfl) Tryz.func3
    (witness_row_at (enc := enc) (C := Tryz.checked) false (heapSerialsWorld Tryz.prog os) #[.int .i64 0, .slice none 0 0, .int .i64 0] rfl (by kernel_rfl) (by kernel_rfl) (by kernel_rfl)
      (OpenSpec.preRow_of_cond 8 hx (by kernel_rfl) (fun k hk => by cases hk) (by kernel_rfl) (heapSerials_met os))) ?_
  intro W base args ds gs before hval hW _ _ _ hL _ _
  exact heapSerials_contract H enc W base args ds gs before hval hW hL
end Go.Proofs.YtlkcbdinlfeoiabGreatDoor
