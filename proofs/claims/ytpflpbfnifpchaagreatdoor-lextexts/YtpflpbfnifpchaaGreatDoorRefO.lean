/- The document's answer for package lex: LexOf, its walk. -/
import Derived.Test.YtpflpbfnifpchaaGreatDoorRefM
import Derived.Deep.CutBlock
namespace Go.Proofs.YtpflpbfnifpchaaGreatDoor
open Go.RowKit

theorem LPostR.ok {s : ByteArray} {w w' : World} {n : Nat} {tk : List Value} {vt : Value} (h : lexP s = .ok (n, tk)) (hb : Below w.heap.size w w') (ho : w'.ownsRow (w.heap.size + 1) 53 3 vt n tk) : LPostR s w (.returned (.tuple #[vt, .agg #[.int .i64 0, .int .i64 (-1)]])) w' := by
  unfold LPostR
  rw [h]
  exact ⟨hb, vt, rfl, ho⟩
theorem LO.line {s : ByteArray} {w : World} {at_ : Nat} {σ : LexSt} {v4 v5 : Value} {wr : World} {L S : List UInt8} (h : LO s w at_ σ v4 v5 wr) (hlt : at_ < s.size) (hl : LineAt s at_ L S) (hb : blanksL L < L.length) (hsk : skipL L = blanksL L) {st' : List Int} {n' : Nat} {tk' : List Value} {l : List (ByteArray × ByteArray × Nat)} (hset : settleP σ.st (blanksL L : Nat) (at_ + blanksL L) σ.n σ.tk = some (st', n', tk')) (hr : restL (L.length + 1) L at_ = .ok l) {q4 q5 : Value} {wx : World}
    (hRO : RO w st' (n' + l.length + 1) (tk' ++ cellsOf l ++ tokCells kNewline ⟨#[]⟩ (at_ + L.length)) q4 q5 wx) : ∃ σ', LO s w (at_ + L.length + 1) σ' q4 q5 wx := by
  have hst := h.step hlt hl hb hsk
  rw [hset] at hst
  simp only at hst
  rw [hr] at hst
  simp only at hst
  rcases h.place with ⟨e, _⟩ | ⟨e, _⟩
  · have hI := lineStep_inv h.inv (by omega) hst
    have hg := runLines_go h.inv (by omega) hst
    refine ⟨_, ?_, hI.1, hg.symm.trans h.run, hRO⟩
    have hle := hl.le
    unfold afterLine
    simp only
    split
    · exact .inl ⟨rfl, by omega⟩
    · exact .inr ⟨by omega, by omega⟩
  · omega
theorem LO.rest_err {s : ByteArray} {w : World} {at_ o : Nat} {σ : LexSt} {v4 v5 : Value} {wr : World} {L S : List UInt8} (h : LO s w at_ σ v4 v5 wr) (hlt : at_ < s.size) (hl : LineAt s at_ L S) (hb : blanksL L < L.length) (hsk : skipL L = blanksL L) {x : List Int × Nat × List Value} (hset : settleP σ.st (blanksL L : Nat) (at_ + blanksL L) σ.n σ.tk = some x) (hr : restL (L.length + 1) L at_ = .error o) : lexP s = .error o := by
  refine lexP_of_err h hlt ?_
  rw [h.step hlt hl hb hsk, hset, hr]
theorem popTo_zero : ∀ st : List Int, falls st → st.getLast? = some 0 → popTo 0 st = (st.length - 1, [0])
  | [], _, h => by simp at h
  | [x], _, h => by
    have e : x = 0 := by simpa using h
    subst e
    rfl
  | x :: y :: r, hf, h => by
    have hg : (y :: r)[(y :: r).length - 1]? = some 0 := by
      rw [← List.getLast?_eq_getElem?]
      simpa using h
    have hx := falls_lt (y :: r) x _ 0 hf hg
    have ih := popTo_zero (y :: r) (falls_tail hf) (by simpa using h)
    have hp : popTo 0 (x :: y :: r) = ((popTo 0 (y :: r)).1 + 1, (popTo 0 (y :: r)).2) := by
      conv => lhs; unfold popTo
      rw [if_pos hx]
    rw [hp, ih]
    simp
theorem settle_end {st : List Int} (hf : falls st) (hl : st.getLast? = some 0) (i n : Nat) (tk : List Value) : settleP st 0 i n tk = some ([0], n + (st.length - 1), tk ++ dedents i (st.length - 1)) := by
  have hp := popTo_zero st hf hl
  cases st with
  | nil => simp at hl
  | cons x xs =>
    unfold settleP
    simp only
    have hx : ¬ x < 0 := by
      cases xs with
      | nil =>
        have e : x = 0 := by simpa using hl
        omega
      | cons y r =>
        have hg : (y :: r)[(y :: r).length - 1]? = some 0 := by
          rw [← List.getLast?_eq_getElem?]
          simpa using hl
        have hx := falls_lt (y :: r) x _ 0 hf hg
        omega
    rw [if_neg hx, hp]
    rfl
theorem LO.done {s : ByteArray} {w : World} {at_ : Nat} {σ : LexSt} {v4 v5 : Value} {wr : World} (h : LO s w at_ σ v4 v5 wr) (hlt : ¬ at_ < s.size) : lexP s = .ok (σ.n + (σ.st.length - 1) + 1, σ.tk ++ dedents s.size (σ.st.length - 1) ++ tokCells kEnd ⟨#[]⟩ s.size) := by
  have hat : σ.at_ = s.size := by
    have := h.inv.hat
    rcases h.place with ⟨h1, _⟩ | ⟨_, h1⟩
    · omega
    · exact h1
  have hr := h.run
  rw [runLines_end (by omega)] at hr
  have hr' : runLines s (s.size - ([] : List UInt8).length) ⟨([] : List UInt8).length, [0], 0, []⟩ = .ok σ := by simpa using hr.symm
  obtain ⟨hF, hl, _⟩ := run_fine s s.size s.data.toList [] [0] 0 [] (by simp) (by simp) (inv0 s) ⟨trivial, [], rfl, rfl, ⟨List.Pairwise.nil, fun x hx => by simp at hx, fun x hx => by simp at hx, rfl⟩⟩ σ hr'
  unfold lexP
  rw [← hr]
  simp only
  rw [settle_end hF.falls hl, hat]
theorem ro_done {w : World} {st : List Int} {n : Nat} {tk : List Value} {v4 v5 : Value} {wr : World} (h : RO w st n tk v4 v5 wr) (a b : Value) : ((wr.setCell ⟨w.heap.size, 0, none⟩ a).setCell ⟨w.heap.size, 1, none⟩ b).ownsRow (w.heap.size + 1) 53 3 v4 n tk := by
  refine ownsRow_far' h.out (fun k hk => ?_)
  have := own_ge h.out k hk
  rw [heap_set _ _ _ _ _ (by omega), heap_set _ _ _ _ _ (by omega)]
theorem fine_any (w : World) : Calls Tryz.prog 21 #[] w fun ev w' => ev = .returned (.agg #[.int .i64 0, .int .i64 (-1)]) ∧ Below w.heap.size w w' := by
  go_enter Tryz.func21, Tryz.ntmps21
  go_wp2
  exact bodyPost_ret (v := .agg #[.int .i64 0, .int .i64 (-1)]) (by simp [results, Tryz.results21, go_sem]) rfl ⟨rfl, (Below.refl _ _).alloc (Nat.le_refl _) _⟩
theorem bare_any (c : Int) (w : World) : Calls Tryz.prog 19 #[.int .i64 c] w fun ev w' => ev = .returned (.agg #[.int .i64 c, .int .i64 (-1)]) ∧ Below w.heap.size w w' := by
  go_enter Tryz.func19, Tryz.ntmps19
  go_wp2
  exact bodyPost_ret (v := .agg #[.int .i64 c, .int .i64 (-1)]) (by simp [results, Tryz.results19, go_sem]) rfl ⟨rfl, (Below.refl _ _).alloc (Nat.le_refl _) _⟩

set_option maxRecDepth 100000 in
set_option maxHeartbeats 4000000 in
theorem lexOf_short (s : ByteArray) (hs : s.size ≤ 6000) (w : World) : Calls Tryz.prog 7 #[.string s] w fun ev w' => LPostR s w ev w' := by
  have hI6 : ¬ (6000 : Int) < (s.size : Int) := by omega
  have HI0 : Hid (RO w [0] 0 [] (.slice none 0 0) (.slice (some ⟨w.heap.size + 1, 0, none⟩) 1 1) ((w.alloc (.cells #[.int .i64 0, .int .i64 0] 30)).alloc (.cells #[.int .i64 0] 3))) := ro_init w
  go_enter Tryz.func7, Tryz.ntmps7
  go_wp2_with fail
  go_loopg [4, 5, 6] (s.size + 2) (fun gk v4 v5 v6 wr => ∃ (at_ : Nat) (σ : LexSt), gk = s.size + 2 - at_ ∧ v6 = .int .i64 (at_ : Int) ∧ LO s w at_ σ v4 v5 wr)
  case atStart => exact ⟨0, ⟨0, [0], 0, []⟩, rfl, rfl, ⟨.inl ⟨rfl, Nat.zero_le _⟩, inv0 s, rfl, HI0.out⟩⟩
  case round =>
    obtain ⟨at_, σ, hgk, hv6, hL⟩ := hrel
    subst hv6
    have HG : Hid (gk = s.size + 2 - at_) := hgk
    have HL : Hid (LO s w at_ σ _ _ wr) := hL
    clear hgk hL HI0
    have ha0 : (0 : Int) ≤ (at_ : Int) := by omega
    by_cases hlt : at_ < s.size
    · have hI : (at_ : Int) < (s.size : Int) := by omega
      obtain ⟨L, S, hline⟩ := line_at s at_ (by omega)
      have HLN : Hid (LineAt s at_ L S) := hline
      have hle := hline.le
      have hbl := blanksL_le L
      clear hline
      obtain ⟨e, he⟩ : ∃ e, e = at_ + L.length := ⟨_, rfl⟩
      obtain ⟨i, hi⟩ : ∃ i, i = at_ + blanksL L := ⟨_, rfl⟩
      have HE := toHid he
      have HI := toHid hi
      have hie : i ≤ e := by omega
      have hai : at_ ≤ i := by omega
      have hes : e ≤ s.size := by omega
      clear he hi hle hbl
      go_upto_block 2 with fail
      refine lexOf_b2 hs HLN HE ?_
      intro v23 v24 v25 v26 v27 v28 v29 v30 v31 v32 v33 v34 wx hwx
      subst hwx
      go_upto_block 4 with fail
      refine lexOf_b4 hs HLN HE HI ?_
      intro v36 v37 v38 v39 v40 v41 v42 v43 v44 v45 v46 wx hwx
      subst hwx
      by_cases hlt2 : i < e
      · have hIe2 : (i : Int) < (e : Int) := by omega
        have hil : i < s.size := by omega
        have hIs : (i : Int) < (s.size : Int) := by omega
        have hi0 : (0 : Int) ≤ (i : Int) := by omega
        obtain ⟨hx32, hskip⟩ := first_at HLN.out HI.out (by have := HE.out; have := HI.out; omega) hil
        have hIne : ¬ (i : Int) = (e : Int) := by omega
        by_cases h35 : s[i].toNat = 35
        · rw [if_pos h35] at hskip
          have hc35 : ((s[i].toNat : Int) == 35) = true := by simp; omega
          obtain ⟨σ', HB⟩ := HL.out.blank hlt HLN.out hskip
          clear hskip h35 hx32
          rw [← HE.out] at HB
          have HB' := toHid HB
          clear HB
          go_wp2
          go_roundg (s.size + 2 - (e + 1))
          case measure => have := HG.out; omega
          case rel => exact ⟨e + 1, σ', rfl, by go_num, HB'.out⟩
        · rw [if_neg h35] at hskip
          have hc35 : ((s[i].toNat : Int) == 35) = false := by simp; omega
          have HSK := toHid hskip
          clear h35 hx32 hskip
          obtain ⟨b, hb⟩ : ∃ b : Int, b = (blanksL L : Int) := ⟨_, rfl⟩
          have hdp : (i : Int) - (at_ : Int) = b := by have := HI.out; omega
          have hb0 : 0 ≤ b := by omega
          have HBB := toHid hb
          obtain ⟨x, xs, hσ⟩ := LO.cons HL.out
          have hRO := HL.out.ro
          obtain ⟨g, cap, hv5, hown5, hne5⟩ := hRO.op
          subst hv5
          rw [hσ] at hRO hown5
          have htop := ro_top hown5
          have hwl := lt_of_heap hRO.fault
          simp only [List.length_cons] at hown5
          have hxl : xs.length ≤ 24001 := LO.short hs HL.out hσ
          have hn2 : σ.n ≤ 24001 := LO.few hs HL.out
          have HSG : Hid (σ.st = x :: xs) := hσ
          have hlen5 : σ.st.length = xs.length + 1 := by rw [hσ]; rfl
          have HLS : Hid ((x :: xs).getLast? = some 0) := by
            show _ = _
            have := HL.out.inv.last
            rw [hσ] at this
            exact this
          clear hσ hb
          obtain ⟨i1, hi3, hz0, hz1, hz2⟩ := info_parts infoInt
          obtain ⟨i2, hj3, hy0, hy1, hy2⟩ := info_parts infoTokR
          go_upto_if 68 with fail
          go_cut [4, 5] from 18 to 148 (fun v4 v5 wx => ∃ (st0 : List Int) (n0 : Nat) (tk0 : List Value), RO w st0 n0 tk0 v4 v5 wx ∧ st0.getLast? = some 0 ∧ n0 + st0.length ≤ 48011 ∧ settleRest b i st0 n0 tk0 = settleP σ.st b i σ.n σ.tk)
          case first =>
            by_cases hxd : x < b
            · go_wp2_with (first | (at_builtin; refine wpList_append_lies _ rfl _ _ _ rfl (w.heap.size + 1) 3 i1 (.int .i64 0) 1 8 Tryz.underlying47 hi3 hz0 hz1 hz2 rfl (by decide) _ (xs.length + 1) ((x :: xs).reverse.map (Value.int .i64)) rfl (hown5.alloc _) ⟨wx.heap.size, 0, none⟩ 1 1 [.int .i64 b] rfl rfl (cell_one_new _ _ _) (fun y hy => by simp at hy; subst hy; rfl) (by decide) (by unfold maxLen; omega) (by omega) (by simp; omega) _ rfl ?_))
              intro gn capn w2 hown2 hgrow2 hat2 _
              have R2 := ro_push (st := x :: xs) (ind := b) (gn := gn) (capn := capn) hRO (by simpa using hown2) (by simpa [Value.ownBlock] using hgrow2) (by simpa [Value.ownBlock] using hat2)
              have hwl2 := lt_of_heap R2.fault
              have hout2 := R2.out
              clear hown2 hgrow2 hat2 hown5 htop
              go_wp2_with (first | (at_builtin; refine wpList_append_lies _ rfl _ _ _ rfl (w.heap.size + 1) 53 i2 (.agg #[.string ⟨#[]⟩, .string ⟨#[]⟩, .int .i64 0]) 3 40 Tryz.underlying28 hj3 hy0 hy1 hy2 rfl (by decide) _ σ.n σ.tk rfl (hout2.alloc _) ⟨w2.heap.size, 0, none⟩ 1 1 (tokCells kIndent ⟨#[]⟩ i) rfl rfl (three_new _ _ _ _ _) (fun y hy => by simp [tokCells] at hy; rcases hy with rfl | rfl | rfl <;> rfl) (by decide) (by unfold maxLen; omega) (by omega) (by simp; omega) _ rfl ?_))
              intro g3 cap3 w3 hown3 hgrow3 hat3 _
              have R3 := ro_add (gn := g3) (capn := cap3) R2 hown3 hgrow3 hat3
              have HR3 := toHid R3
              clear hown3 hgrow3 hat3 R2 hout2 hRO R3
              go_wp2
              go_meet
              case rel => exact ⟨b :: x :: xs, σ.n + 1, _, HR3.out, by have := HLS.out; simpa using this, by simp; omega, by rw [HSG.out]; exact settle_push hxd i σ.n σ.tk⟩
            · have hROH := toHid hRO
              clear hRO hown5
              go_wp2
              go_meet
              case rel => exact ⟨x :: xs, σ.n, σ.tk, hROH.out, HLS.out, by simp; omega, by rw [HSG.out]; exact settle_stay (by omega) i σ.n σ.tk⟩
          case rest =>
            obtain ⟨st0, n0, tk0, hR0, hl0, hb00, hse⟩ := hcut
            have HSE := toHid hse
            clear hse hown5 htop hRO hwl
            go_upto_block 6 with fail
            refine lexOf_b6 hR0 hl0 hb0 hb00 ?_
            intro v78 v79 v80 v81 v82 v83 v84 v85 v86 v87 v88 v89 v90 v91 v92 v93 v94 v95 r4 r5 wy y ys m tk' hpop
            clear hR0 hl0 hb00
            obtain ⟨hR6, hse6, hby, hl6, hm6⟩ := hpop
            rw [HSE.out] at hse6
            have HS6 := toHid hse6
            have HR6 := toHid hR6
            have HL6 := toHid hl6
            obtain ⟨gp, capp, hv5, hownp, hnep⟩ := hR6.op
            subst hv5
            have htp := ro_top hownp
            have hwlp := lt_of_heap hR6.fault
            simp only [List.length_cons] at hownp
            clear hse6 hl6 HSE
            by_cases hbe : b = y
            · have HBE := toHid hbe
              have hbe' : (b != y) = false := by simp [hbe]
              clear hR6 hownp hnep
              go_upto_block 8 with fail
              refine lexOf_b8 hs HLN HE HI HR6.out (by omega) ?_ ?_
              · intro v106 v107 v108 v109 v110 v111 v112 v113 v114 v115 v116 v117 v118 v119 v120 v121 v122 v123 v124 v125 v126 v127 v128 v129 v130 v131 v132 v133 v134 v135 v136 v137 v138 v139 v140 v141 v2 v8 v10 v11 r4' wz done hdone
                obtain ⟨hok, hR8, hdl⟩ := hdone
                have hout8 := hR8.out
                have hw8 := lt_of_heap hR8.fault
                clear htp
                go_wp2_with (first | (at_builtin; refine wpList_append_lies _ rfl _ _ _ rfl (w.heap.size + 1) 53 i2 (.agg #[.string ⟨#[]⟩, .string ⟨#[]⟩, .int .i64 0]) 3 40 Tryz.underlying28 hj3 hy0 hy1 hy2 rfl (by decide) _ (m + done.length) (tk' ++ cellsOf done) rfl (hout8.alloc _) ⟨wz.heap.size, 0, none⟩ 1 1 (tokCells kNewline ⟨#[]⟩ e) rfl rfl (three_new _ _ _ _ _) (fun y hy => by simp [tokCells] at hy; rcases hy with rfl | rfl | rfl <;> rfl) (by decide) (by unfold maxLen; omega) (by omega) (by simp; omega) _ rfl ?_))
                intro g3 cap3 w3 hown3 hgrow3 hat3 _
                have R3 := ro_add (gn := g3) (capn := cap3) hR8 (by simpa [List.append_assoc] using hown3) hgrow3 hat3
                obtain ⟨σ', HB⟩ := HL.out.line hlt HLN.out (by have := HE.out; have := HI.out; omega) HSK.out (st' := y :: ys) (n' := m) (tk' := tk') (l := done) (by rw [← HI.out, ← HBB.out, ← HS6.out, HBE.out]; exact settle_done i m tk') hok (by rw [← HE.out]; exact R3)
                rw [← HE.out] at HB
                have HB' := toHid HB
                clear HB hown3 hgrow3 hat3 R3 hout8 hR8 hok
                go_wp2
                go_roundg (s.size + 2 - (e + 1))
                case measure => have := HG.out; omega
                case rel => exact ⟨e + 1, σ', rfl, by go_num, HB'.out⟩
              · intro v106 v107 v108 v109 v110 v111 v112 v113 v114 v115 v116 v117 v118 v119 v120 v121 v122 v123 v124 v125 v126 v127 v128 v129 v130 v131 v132 v133 v134 v135 v136 v137 v138 v139 v140 v141 v4 v8 v10 v11 wz o hdone
                obtain ⟨herr, c0, c1, hbz⟩ := hdone
                refine bodyPost_ret (fault_results _ _ w.heap.size _ _ rfl c0 c1) rfl ?_
                exact LPostR.err (HL.out.rest_err hlt HLN.out (by have := HE.out; have := HI.out; omega) HSK.out (x := (y :: ys, m, tk')) (by rw [← HI.out, ← HBB.out, ← HS6.out, HBE.out]; exact settle_done i m tk') herr) hbz
            · have HER : Hid (lexP s = .error i) := LO.settle_err HL.out hlt HLN.out HI.out (by have := HE.out; have := HI.out; omega) HSK.out (by rw [← HBB.out, ← HS6.out]; exact settle_not hby hbe i m tk')
              obtain ⟨q0, q1, qf0, qf1⟩ := fault_block hR6.fault
              have hbp := hR6.below
              clear hR6 hownp hnep
              go_wp2
              obtain ⟨t0, t1⟩ := fault_set (w := wy) q0 q1 (.int .i64 1) (.int .i64 (i : Int))
              refine bodyPost_ret (fault_results _ _ w.heap.size _ _ rfl t0 t1) rfl ?_
              exact LPostR.err HER.out ((hbp.setCell (Nat.le_refl _) _).setCell (Nat.le_refl _) _)
      · have hIE : (i : Int) = (e : Int) := by omega
        obtain ⟨σ', HB⟩ := HL.out.blank hlt HLN.out (by
          have h2 := HE.out
          have h3 := HI.out
          have h4 : blanksL L = L.length := by omega
          unfold skipL
          rw [h4]
          simp)
        rw [← HE.out] at HB
        have HB' := toHid HB
        clear HB
        go_wp2
        go_roundg (s.size + 2 - (e + 1))
        case measure => have := HG.out; omega
        case rel => exact ⟨e + 1, σ', rfl, by go_num, HB'.out⟩
    · have hI : ¬ (at_ : Int) < (s.size : Int) := by omega
      have HLP := toHid (HL.out.done hlt)
      obtain ⟨x, xs, hσ⟩ := LO.cons HL.out
      have hxl : xs.length ≤ 24001 := LO.short hs HL.out hσ
      have hn2 : σ.n ≤ 24001 := LO.few hs HL.out
      have hlen : σ.st.length = xs.length + 1 := by rw [hσ]; rfl
      have hs1 : 1 ≤ σ.st.length := by omega
      have hs2 : σ.st.length ≤ 24002 := by omega
      clear hσ hlen
      obtain ⟨i2, hj3, hy0, hy1, hy2⟩ := info_parts infoTokR
      go_upto_block 10 with fail
      refine lexOf_b10 HL.out.ro hn2 hs2 hs1 ?_
      intro v149 v150 v151 v152 v153 v154 v155 v156 v157 v158 v159 v160 v12 r4 wz hR8
      have hout8 := hR8.out
      have hw8 := lt_of_heap hR8.fault
      have hk : σ.n + (σ.st.length - 1) ≤ 48010 := by omega
      go_wp2_with (first | (at_builtin; refine wpList_append_lies _ rfl _ _ _ rfl (w.heap.size + 1) 53 i2 (.agg #[.string ⟨#[]⟩, .string ⟨#[]⟩, .int .i64 0]) 3 40 Tryz.underlying28 hj3 hy0 hy1 hy2 rfl (by decide) _ (σ.n + (σ.st.length - 1)) (σ.tk ++ dedents s.size (σ.st.length - 1)) rfl (hout8.alloc _) ⟨wz.heap.size, 0, none⟩ 1 1 (tokCells kEnd ⟨#[]⟩ s.size) rfl rfl (three_new _ _ _ _ _) (fun y hy => by simp [tokCells] at hy; rcases hy with rfl | rfl | rfl <;> rfl) (by decide) (by unfold maxLen; omega) (by omega) (by simp; omega) _ rfl ?_))
      intro g3 cap3 w3 hown3 hgrow3 hat3 _
      have R3 := ro_add (gn := g3) (capn := cap3) hR8 (by simpa [List.append_assoc] using hown3) hgrow3 hat3
      clear hown3 hgrow3 hat3 hout8 hR8
      go_wp2_with fail
      refine (fine_any w3).mono ?_
      rintro ev w4 ⟨rfl, hb4⟩
      have R4 := R3.more hb4
      obtain ⟨q0, q1, qf0, qf1⟩ := fault_block R4.fault
      have HR4 := toHid R4
      clear R3 R4
      go_wp2
      obtain ⟨t0, t1⟩ := fault_set (w := w4) q0 q1 (.int .i64 0) (.int .i64 (-1))
      refine bodyPost_ret (fault_results _ _ w.heap.size _ _ rfl t0 t1) rfl ?_
      exact LPostR.ok HLP.out ((HR4.out.below.setCell (Nat.le_refl _) _).setCell (Nat.le_refl _) _) (ro_done HR4.out _ _)

set_option maxRecDepth 100000 in
theorem lexOf_long (s : ByteArray) (hs : 6000 < s.size) (w : World) : Calls Tryz.prog 7 #[.string s] w fun ev w' => ev = .returned (.tuple #[.slice none 0 0, .agg #[.int .i64 2, .int .i64 (-1)]]) ∧ Below w.heap.size w w' := by
  have hI6 : (6000 : Int) < (s.size : Int) := by omega
  go_enter Tryz.func7, Tryz.ntmps7
  go_wp2_with fail
  refine (bare_any 2 _).mono ?_
  rintro ev w1 ⟨rfl, hb1⟩
  have hR := (hb1.block w.heap.size (by simp)).trans (heap_alloc_new w (.cells #[.int .i64 0, .int .i64 0] 30))
  have hbw : Below w.heap.size w w1 := ((Below.refl _ _).alloc (Nat.le_refl _) _).trans (hb1.mono (by simp))
  obtain ⟨q0, q1, qf0, qf1⟩ := fault_block hR
  go_wp2
  obtain ⟨t0, t1⟩ := fault_set (w := w1) q0 q1 (.int .i64 2) (.int .i64 (-1))
  refine bodyPost_ret (fault_results _ _ w.heap.size _ _ rfl t0 t1) rfl ?_
  exact ⟨rfl, (hbw.setCell (Nat.le_refl _) _).setCell (Nat.le_refl _) _⟩
end Go.Proofs.YtpflpbfnifpchaaGreatDoor
