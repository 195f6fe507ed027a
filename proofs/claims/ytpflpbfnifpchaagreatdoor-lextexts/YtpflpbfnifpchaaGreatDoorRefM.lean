/- The document's answer for package lex: LexOf, a line's tokens. -/
import Derived.Test.YtpflpbfnifpchaaGreatDoorRefK
namespace Go.Proofs.YtpflpbfnifpchaaGreatDoor
open Go.RowKit

theorem three_new2 (w : World) (x : Obj) (a b c : Value) (t : TypeId) : ∀ (j : Nat) (u : Value), [a, b, c][j]? = some u → ((w.alloc x).alloc (.cells #[a, b, c] t)).cell? ((⟨w.heap.size + 1, 0, none⟩ : Addr).add j) = some u := by
  have h := three_new (w.alloc x) a b c t
  have e : (w.alloc x).heap.size = w.heap.size + 1 := by simp
  rw [e] at h
  exact h
theorem b_ne {c d : UInt8} (h : c ≠ d) : ((c.toNat : Int) == (d.toNat : Int)) = false := by
  simp
  intro e
  exact h (UInt8.toNat_inj.mp (by omega))
theorem restFrom_start (L : List UInt8) (o : Nat) : restFrom [] (L.drop (blanksL L)) (o + blanksL L) = restL (L.length + 1) L o := by
  unfold restFrom
  rw [← restAt_skip]
  show _ = restAt L o
  cases restAt L o <;> rfl
theorem drop_next {L R : List UInt8} {c : UInt8} {k : Nat} (h : L.drop k = c :: R) : L.drop (k + 1) = R := by
  rw [← List.drop_drop, h]
  rfl
theorem line_cut {s : ByteArray} {at_ o : Nat} {L S : List UInt8} (h : LineAt s at_ L S) (h1 : at_ ≤ o) (h2 : o ≤ at_ + L.length) : s.extract o (at_ + L.length) = ⟨(L.drop (o - at_)).toArray⟩ := by
  have hp := tokAt_rest s (s.data.toList.take at_) (L.take (o - at_)) (L.drop (o - at_)) S (by rw [List.take_append_drop]; exact h.data)
  rw [List.take_append_drop, h.len] at hp
  have e : at_ + (L.take (o - at_)).length = o := by rw [List.length_take]; omega
  rw [e] at hp
  exact hp
set_option maxRecDepth 100000 in
set_option maxHeartbeats 2000000 in
theorem lexOf_b8 {s : ByteArray} {w wr : World} {st : List Int} {m : Nat} {tk : List Value} {at_ e i : Nat} {L S : List UInt8} {q4 q5 : Value} {u1 u2 u6 u9 u10 u11 u12 u13 u14 u15 u16 u17 u18 u19 u20 u21 u22 u23 u24 u25 u26 u27 u28 u29 u30 u31 u32 u33 u34 u35 u36 u37 u38 u39 u40 u41 u42 u43 u44 u45 u46 u47 u48 u49 u50 u51 u52 u53 u54 u55 u56 u57 u58 u59 u60 u61 u62 u63 u64 u65 u66 u67 u68 u69 u70 u71 u72 u73 u74 u75 u76 u77 u78 u79 u80 u81 u82 u83 u84 u85 u86 u87 u88 u89 u90 u91 u92 u93 u94 u95 u96 u97 u98 u99 u100 u101 u102 u103 u104 u105 u106 u107 u108 u109 u110 u111 u112 u113 u114 u115 u116 u117 u118 u119 u120 u121 u122 u123 u124 u125 u126 u127 u128 u129 u130 u131 u132 u133 u134 u135 u136 u137 u138 u139 u140 u141 u142 u143 u144 u145 u146 u147 u148 u149 u150 u151 u152 u153 u154 u155 u156 u157 u158 u159 u160 u161 u162 u163 u164 u165 u166 u167 : Value} {K : Act → World → Prop} {Q : Exit → Act → World → Prop}
    (hs : s.size ≤ 6000) (HLN : Hid (LineAt s at_ L S)) (HE : Hid (e = at_ + L.length)) (HI : Hid (i = at_ + blanksL L)) (hRO : RO w st m tk q4 q5 wr) (hm : m ≤ 48010)
    (hrest : ∀ (v106 v107 v108 v109 v110 v111 v112 v113 v114 v115 v116 v117 v118 v119 v120 v121 v122 v123 v124 v125 v126 v127 v128 v129 v130 v131 v132 v133 v134 v135 v136 v137 v138 v139 v140 v141 v2 v8 v10 v11 : Value) (r4 : Value) (wx : World) (done : List (ByteArray × ByteArray × Nat)), restL (L.length + 1) L at_ = .ok done ∧ RO w st (m + done.length) (tk ++ cellsOf done) r4 q5 wx ∧ done.length ≤ 6000 → K ⟨#[.string s, u1, v2, .pointer (some ⟨w.heap.size, 0, none⟩), r4, q5, u6, .int .i64 (e : Int), v8, u9, v10, v11, u12, u13, u14, u15, u16, u17, u18, u19, u20, u21, u22, u23, u24, u25, u26, u27, u28, u29, u30, u31, u32, u33, u34, u35, u36, u37, u38, u39, u40, u41, u42, u43, u44, u45, u46, u47, u48, u49, u50, u51, u52, u53, u54, u55, u56, u57, u58, u59, u60, u61, u62, u63, u64, u65, u66, u67, u68, u69, u70, u71, u72, u73, u74, u75, u76, u77, u78, u79, u80, u81, u82, u83, u84, u85, u86, u87, u88, u89, u90, u91, u92, u93, u94, u95, u96, u97, u98, u99, u100, u101, u102, u103, u104, u105, v106, v107, v108, v109, v110, v111, v112, v113, v114, v115, v116, v117, v118, v119, v120, v121, v122, v123, v124, v125, v126, v127, v128, v129, v130, v131, v132, v133, v134, v135, v136, v137, v138, v139, v140, v141, u142, u143, u144, u145, u146, u147, u148, u149, u150, u151, u152, u153, u154, u155, u156, u157, u158, u159, u160, u161, u162, u163, u164, u165, u166, u167], []⟩ wx)
    (hret : ∀ (v106 v107 v108 v109 v110 v111 v112 v113 v114 v115 v116 v117 v118 v119 v120 v121 v122 v123 v124 v125 v126 v127 v128 v129 v130 v131 v132 v133 v134 v135 v136 v137 v138 v139 v140 v141 v4 v8 v10 v11 : Value) (wx : World) (o : Nat), restL (L.length + 1) L at_ = .error o ∧ wx.cell? ⟨w.heap.size, 0, none⟩ = some (.int .i64 1) ∧ wx.cell? ⟨w.heap.size, 1, none⟩ = some (.int .i64 (o : Int)) ∧ Below w.heap.size w wx → Q .ret ⟨#[.string s, u1, .slice none 0 0, .pointer (some ⟨w.heap.size, 0, none⟩), v4, q5, u6, .int .i64 (e : Int), v8, u9, v10, v11, u12, u13, u14, u15, u16, u17, u18, u19, u20, u21, u22, u23, u24, u25, u26, u27, u28, u29, u30, u31, u32, u33, u34, u35, u36, u37, u38, u39, u40, u41, u42, u43, u44, u45, u46, u47, u48, u49, u50, u51, u52, u53, u54, u55, u56, u57, u58, u59, u60, u61, u62, u63, u64, u65, u66, u67, u68, u69, u70, u71, u72, u73, u74, u75, u76, u77, u78, u79, u80, u81, u82, u83, u84, u85, u86, u87, u88, u89, u90, u91, u92, u93, u94, u95, u96, u97, u98, u99, u100, u101, u102, u103, u104, u105, v106, v107, v108, v109, v110, v111, v112, v113, v114, v115, v116, v117, v118, v119, v120, v121, v122, v123, v124, v125, v126, v127, v128, v129, v130, v131, v132, v133, v134, v135, v136, v137, v138, v139, v140, v141, u142, u143, u144, u145, u146, u147, u148, u149, u150, u151, u152, u153, u154, u155, u156, u157, u158, u159, u160, u161, u162, u163, u164, u165, u166, u167], []⟩ wx) :
    Code.wp Tryz.prog (lexOfBlock 8) (Exit.then K Q) ⟨#[.string s, u1, u2, .pointer (some ⟨w.heap.size, 0, none⟩), q4, q5, u6, .int .i64 (e : Int), .int .i64 (i : Int), u9, u10, u11, u12, u13, u14, u15, u16, u17, u18, u19, u20, u21, u22, u23, u24, u25, u26, u27, u28, u29, u30, u31, u32, u33, u34, u35, u36, u37, u38, u39, u40, u41, u42, u43, u44, u45, u46, u47, u48, u49, u50, u51, u52, u53, u54, u55, u56, u57, u58, u59, u60, u61, u62, u63, u64, u65, u66, u67, u68, u69, u70, u71, u72, u73, u74, u75, u76, u77, u78, u79, u80, u81, u82, u83, u84, u85, u86, u87, u88, u89, u90, u91, u92, u93, u94, u95, u96, u97, u98, u99, u100, u101, u102, u103, u104, u105, u106, u107, u108, u109, u110, u111, u112, u113, u114, u115, u116, u117, u118, u119, u120, u121, u122, u123, u124, u125, u126, u127, u128, u129, u130, u131, u132, u133, u134, u135, u136, u137, u138, u139, u140, u141, u142, u143, u144, u145, u146, u147, u148, u149, u150, u151, u152, u153, u154, u155, u156, u157, u158, u159, u160, u161, u162, u163, u164, u165, u166, u167], []⟩ wr := by
  have HR := toHid hrest
  have HT := toHid hret
  have HO := toHid hRO
  have hle := HLN.out.le
  have hbl := blanksL_le L
  have heq := HE.out
  have hiq := HI.out
  have HE2 := toHid heq
  clear hrest hret hRO
  have hes : e ≤ s.size := by omega
  have hai : at_ ≤ i := by omega
  have hie : i ≤ e := by omega
  have hlen : L.length = e - at_ := by omega
  have HLE := toHid hlen
  clear heq hiq hle hbl hlen
  conv => arg 2; whnf
  go_wp2_with fail
  go_loopg [4, 8] (e + 1 - i) (fun gk v4 v8 wx => ∃ (o : Nat) (done : List (ByteArray × ByteArray × Nat)), gk = e + 1 - o ∧ i ≤ o ∧ o ≤ e ∧ v8 = .int .i64 (o : Int) ∧ done.length + i ≤ o ∧ restFrom done (L.drop (o - at_)) o = restL (L.length + 1) L at_ ∧ RO w st (m + done.length) (tk ++ cellsOf done) v4 q5 wx)
  case atStart =>
    refine ⟨i, [], rfl, Nat.le_refl _, hie, rfl, by simp, ?_, by simpa [cellsOf] using HO.out⟩
    have h := restFrom_start L at_
    rw [← HI.out] at h
    rw [show i - at_ = blanksL L by have := HI.out; omega]
    exact h
  case round =>
    obtain ⟨o, done, hgo, ho1, ho2, hv8, hdl, hrf, hRt⟩ := hrel
    subst hv8
    have HGO : Hid (gk = e + 1 - o) := hgo
    have HRF : Hid (restFrom done (L.drop (o - at_)) o = restL (L.length + 1) L at_) := hrf
    have HRt := toHid hRt
    clear hgo hrf
    have ho0 : (0 : Int) ≤ (o : Int) := by omega
    by_cases hoe : o < e
    · have hIo : (o : Int) < (e : Int) := by omega
      have hol : o < s.size := by omega
      have hIos : (o : Int) < (s.size : Int) := by omega
      obtain ⟨c, R, hcr, hcs⟩ := line_byte HLN.out (o := o) (by omega) (by have := HE2.out; omega) hol
      have HCR := toHid hcr
      have HCS := toHid hcs
      clear hcr hcs
      by_cases c35 : c = 35
      · have hc35 : ((s[o].toNat : Int) != 35) = false := by rw [HCS.out, c35]; rfl
        clear hRt
        go_wp2
        exact HR.out _ _ _ _ _ _ _ _ _ _ _ _ _ _ _ _ _ _ _ _ _ _ _ _ _ _ _ _ _ _ _ _ _ _ _ _ _ _ _ _ _ _ _ ⟨by rw [← HRF.out, HCR.out, c35]; exact restFrom_hash _ _ _, HRt.out, by omega⟩
      · have hc35 : ((s[o].toNat : Int) != 35) = true := by
          have h := b_ne c35
          rw [HCS.out]
          show (!((c.toNat : Int) == 35)) = true
          have h' : ((c.toNat : Int) == 35) = false := h
          rw [h']
          rfl
        by_cases c32 : c = 32
        · have hc32' : ((s[o].toNat : Int) == 32) = true := by rw [HCS.out, c32]; rfl
          have HN : Hid (restFrom done (L.drop (o + 1 - at_)) (o + 1) = restL (L.length + 1) L at_) := by
            show _ = _
            rw [← HRF.out, HCR.out, c32, restFrom_blank, show o + 1 - at_ = o - at_ + 1 by omega, drop_next HCR.out]
          clear hRt
          go_wp2
          go_roundg (e + 1 - (o + 1))
          case measure => have := HGO.out; omega
          case rel => exact ⟨o + 1, done, rfl, by omega, by omega, by go_num, by omega, HN.out, HRt.out⟩
        · have hc32' : ((s[o].toNat : Int) == 32) = false := by rw [HCS.out]; exact b_ne c32
          have HX : Hid (tokAt (s.extract o e) 0 = tokL (c :: R)) := by
            show _ = _
            have h1 := line_cut HLN.out (o := o) (by omega) (by have := HE2.out; omega)
            rw [← HE2.out] at h1
            rw [h1, HCR.out]
            exact tokAt_own _ (by simp)
          have hxs : (s.extract o e).size = e - o := by simp; omega
          go_wp2_with fail
          refine (tokenOf_any (s.extract o e) (by omega) (by omega) _).mono ?_
          rintro ev w7 ⟨hT, hb7⟩
          have R7 := hRt.more hb7
          unfold TPostR at hT
          rw [HX.out] at hT
          cases ht : tokL (c :: R) with
          | none =>
            rw [ht] at hT
            obtain ⟨a, b, rfl⟩ := hT
            have HTK := toHid ht
            obtain ⟨p0, p1, pf0, pf1⟩ := fault_block R7.fault
            have hw7 := lt_of_heap R7.fault
            have hb7' := R7.below
            clear ht hRt
            go_wp2
            obtain ⟨t0, t1⟩ := fault_set (w := w7) p0 p1 (.int .i64 1) (.int .i64 (o : Int))
            refine HT.out _ _ _ _ _ _ _ _ _ _ _ _ _ _ _ _ _ _ _ _ _ _ _ _ _ _ _ _ _ _ _ _ _ _ _ _ _ _ _ _  _ o ⟨?_, ?_, ?_, ?_⟩
            · rw [← HRF.out, HCR.out]
              exact restFrom_none c32 c35 HTK.out
            · rw [World.cell?_alloc_past _ _ _ (by simpa using hw7)]
              exact t0
            · rw [World.cell?_alloc_past _ _ _ (by simpa using hw7)]
              exact t1
            · exact ((hb7'.setCell (Nat.le_refl _) _).setCell (Nat.le_refl _) _).alloc (by simp; omega) _
          | some x =>
            obtain ⟨k, t, n⟩ := x
            rw [ht] at hT
            subst hT
            have hnb := tokL_bd ht
            have HTK := toHid ht
            have hRl : (c :: R).length = e - o := by
              rw [← HCR.out, List.length_drop]
              have := HLE.out
              omega
            rw [hRl] at hnb
            obtain ⟨hn0, hn1⟩ := hnb
            have hI0 : ¬ (n : Int) = 0 := by omega
            have hI0' : ((n : Int) == 0) = false := by simp; omega
            have R8 := hRt.more (hb7.alloc hb7.size (.cells #[.string k, .string t, .int .i64 (o : Int)] 53))
            have hout8 := R8.out
            have hw7 := lt_of_heap R7.fault
            obtain ⟨i4, hj4, hx0, hx1, hx2⟩ := info_parts infoTokR
            clear ht hRl hRt
            go_wp2_with (first | (at_builtin; refine wpList_append_lies _ rfl _ _ _ rfl (w.heap.size + 1) 53 i4 (.agg #[.string ⟨#[]⟩, .string ⟨#[]⟩, .int .i64 0]) 3 40 Tryz.underlying28 hj4 hx0 hx1 hx2 rfl (by decide) _ (m + done.length) (tk ++ cellsOf done) rfl (hout8.alloc _) ⟨w7.heap.size + 1, 0, none⟩ 1 1 (tokCells k t o) rfl rfl (three_new2 _ _ _ _ _ _) (fun y hy => by simp [tokCells] at hy; rcases hy with rfl | rfl | rfl <;> rfl) (by decide) (by unfold maxLen; omega) (by omega) (by simp; omega) _ rfl ?_))
            intro g5 cap5 w5 hown5 hgrow5 hat5 _
            have R5 := ro_add (gn := g5) (capn := cap5) R8 (by simpa [List.append_assoc] using hown5) hgrow5 (by simpa using hat5)
            have HR5 : Hid (RO w st (m + (done ++ [(k, t, o)]).length) (tk ++ cellsOf (done ++ [(k, t, o)])) (.slice (some ⟨g5, 0, none⟩) (m + done.length + 1) cap5) q5 w5) := by
              show RO _ _ _ _ _ _ _
              rw [cells_append, ← List.append_assoc, List.length_append]
              exact R5
            have HRN : Hid (restFrom (done ++ [(k, t, o)]) (L.drop (o + n - at_)) (o + n) = restL (L.length + 1) L at_) := by
              show _ = _
              rw [← HRF.out, HCR.out, restFrom_tok c32 c35 HTK.out, ← HCR.out, List.drop_drop, show o - at_ + n = o + n - at_ by omega]
            clear hown5 hgrow5 hat5 R5 hout8 R8 R7
            go_wp2
            go_roundg (e + 1 - (o + n))
            case measure => have := HGO.out; omega
            case rel => exact ⟨o + n, _, rfl, by omega, by omega, by go_num, by simp; omega, HRN.out, HR5.out⟩
    · have hoe' : o = e := by omega
      have hIo : ¬ (o : Int) < (e : Int) := by omega
      clear hRt
      go_wp2
      exact HR.out _ _ _ _ _ _ _ _ _ _ _ _ _ _ _ _ _ _ _ _ _ _ _ _ _ _ _ _ _ _ _ _ _ _ _ _ _ _ _ _ _ _ _ ⟨by
        have h := HRF.out
        rw [show L.drop (o - at_) = [] from List.drop_eq_nil_of_le (by have := HLE.out; omega), restFrom_nil] at h
        exact h.symm, HRt.out, by omega⟩
end Go.Proofs.YtpflpbfnifpchaaGreatDoor
