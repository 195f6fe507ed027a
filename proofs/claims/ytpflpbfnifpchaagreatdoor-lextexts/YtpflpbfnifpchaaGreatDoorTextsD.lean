/- The document's answer for package lex: TokensText. -/
import Derived.Test.YtpflpbfnifpchaaGreatDoorTextsC
namespace Go.Proofs.YtpflpbfnifpchaaGreatDoor
open Go.RowKit

set_option maxRecDepth 100000 in
set_option maxHeartbeats 2000000 in
theorem tt_b5 {l : List (ByteArray × ByteArray × Int)} {m : List (ByteArray × ByteArray × Nat)} {xa : Option Addr} {x xo cap g cap2 : Nat} {wr : World} {u1 u2 u3 u4 u5 u6 u7 u8 u9 u11 u13 u14 u15 u16 u17 u18 u19 u20 u21 u22 u23 u24 u25 u26 u27 u28 u29 u30 u31 u32 u33 u34 u35 u36 u37 u38 u39 u40 u41 u42 u43 u44 u45 u46 u47 u48 u49 u50 u51 u52 u53 u54 u55 u56 u57 u58 u59 u60 u61 u62 u63 u64 u65 u66 u67 u68 u69 u70 u71 u72 u73 u74 u75 u76 u77 u78 u79 u80 u81 u82 u83 u84 u85 u86 u87 u88 u89 u90 u91 u92 u93 u94 u95 u96 u97 u98 u99 u100 u101 u102 u103 u104 u105 u106 u107 u108 u109 u110 u111 u112 u113 u114 u115 u116 u117 u118 u119 u120 u121 u122 : Value} {K : Act → World → Prop} {Q : Exit → Act → World → Prop}
    (hxa : 0 < l.length → xa = some ⟨x, xo, none⟩) (HLM : Hid (l.length = m.length)) (hl : l.length ≤ 600) (HC : Hid (InRow wr x xo l)) (HD : Hid (∀ k v, (cellsOf m)[k]? = some v → wr.cell? ⟨g, k, none⟩ = some v))
    (hrest : ∀ (v92 v93 v94 v95 v96 v97 v98 v99 v100 v101 v102 v103 v104 v105 v106 v107 v108 v109 v110 v111 v112 v113 v114 v115 v116 v117 v118 v119 v120 v121 v2 v3 v12 : Value) (wx : World), (ktOf (plainT l) = ktOf m ∧ ∃ q, wx = wr.drewN q) → K ⟨#[.slice xa l.length cap, u1, v2, v3, u4, u5, u6, u7, u8, u9, .slice (some ⟨g, 0, none⟩) m.length cap2, u11, v12, u13, u14, u15, u16, u17, u18, u19, u20, u21, u22, u23, u24, u25, u26, u27, u28, u29, u30, u31, u32, u33, u34, u35, u36, u37, u38, u39, u40, u41, u42, u43, u44, u45, u46, u47, u48, u49, u50, u51, u52, u53, u54, u55, u56, u57, u58, u59, u60, u61, u62, u63, u64, u65, u66, u67, u68, u69, u70, u71, u72, u73, u74, u75, u76, u77, u78, u79, u80, u81, u82, u83, u84, u85, u86, u87, u88, u89, u90, u91, v92, v93, v94, v95, v96, v97, v98, v99, v100, v101, v102, v103, v104, v105, v106, v107, v108, v109, v110, v111, v112, v113, v114, v115, v116, v117, v118, v119, v120, v121, u122], []⟩ wx)
    (hret : ∀ (v92 v93 v94 v95 v96 v97 v98 v99 v100 v101 v102 v103 v104 v105 v106 v107 v108 v109 v110 v111 v112 v113 v114 v115 v116 v117 v118 v119 v120 v121 v12 : Value) (wx : World), (¬ ktOf (plainT l) = ktOf m ∧ ∃ q, wx = wr.drewN q) → Q .ret ⟨#[.slice xa l.length cap, u1, .string ⟨#[]⟩, .bool false, u4, u5, u6, u7, u8, u9, .slice (some ⟨g, 0, none⟩) m.length cap2, u11, v12, u13, u14, u15, u16, u17, u18, u19, u20, u21, u22, u23, u24, u25, u26, u27, u28, u29, u30, u31, u32, u33, u34, u35, u36, u37, u38, u39, u40, u41, u42, u43, u44, u45, u46, u47, u48, u49, u50, u51, u52, u53, u54, u55, u56, u57, u58, u59, u60, u61, u62, u63, u64, u65, u66, u67, u68, u69, u70, u71, u72, u73, u74, u75, u76, u77, u78, u79, u80, u81, u82, u83, u84, u85, u86, u87, u88, u89, u90, u91, v92, v93, v94, v95, v96, v97, v98, v99, v100, v101, v102, v103, v104, v105, v106, v107, v108, v109, v110, v111, v112, v113, v114, v115, v116, v117, v118, v119, v120, v121, u122], []⟩ wx) :
    Code.wp Tryz.prog (blockOf Tryz.f13 5) (Exit.then K Q) ⟨#[.slice xa l.length cap, u1, u2, u3, u4, u5, u6, u7, u8, u9, .slice (some ⟨g, 0, none⟩) m.length cap2, u11, .int .i64 0, u13, u14, u15, u16, u17, u18, u19, u20, u21, u22, u23, u24, u25, u26, u27, u28, u29, u30, u31, u32, u33, u34, u35, u36, u37, u38, u39, u40, u41, u42, u43, u44, u45, u46, u47, u48, u49, u50, u51, u52, u53, u54, u55, u56, u57, u58, u59, u60, u61, u62, u63, u64, u65, u66, u67, u68, u69, u70, u71, u72, u73, u74, u75, u76, u77, u78, u79, u80, u81, u82, u83, u84, u85, u86, u87, u88, u89, u90, u91, u92, u93, u94, u95, u96, u97, u98, u99, u100, u101, u102, u103, u104, u105, u106, u107, u108, u109, u110, u111, u112, u113, u114, u115, u116, u117, u118, u119, u120, u121, u122], []⟩ wr := by
  have HR := toHid hrest
  have HT := toHid hret
  clear hrest hret
  conv => arg 2; whnf
  go_wp2_with fail
  go_loopg [12] (l.length + 1) (fun gk v12 wx => ∃ j : Nat, gk = l.length + 1 - j ∧ j ≤ l.length ∧ v12 = .int .i64 (j : Int) ∧ (ktOf (plainT l)).take j = (ktOf m).take j ∧ ∃ q, wx = wr.drewN q)
  case atStart => exact ⟨0, rfl, Nat.zero_le _, rfl, rfl, 0, rfl⟩
  case round =>
    rename_i ww
    obtain ⟨j, hgj, hj, hv, htk, q, hq⟩ := hrel
    subst hv
    have HG := toHid hgj
    have HTK := toHid htk
    have HQ := toHid hq
    clear hgj htk hq
    have hj0 : (0 : Int) ≤ (j : Int) := by omega
    by_cases hlt : j < l.length
    · have hI1 : (j : Int) < (l.length : Int) := by omega
      obtain rfl := hxa (by omega)
      clear hxa
      have hI2 : (j : Int) < (m.length : Int) := by have := HLM.out; omega
      obtain ⟨y, hy⟩ : ∃ y, l[j]? = some y := ⟨l[j], by simp [hlt]⟩
      obtain ⟨zz, hz⟩ : ∃ zz, m[j]? = some zz := ⟨m[j]'(by omega), by simp [show j < m.length by omega]⟩
      obtain ⟨e1, e2, _⟩ := HC.out j y hy
      obtain ⟨d1, d2, _⟩ := cells_get m j zz hz
      have c1 := (congrArg (fun x => World.cell? x _) HQ.out).trans e1
      have c2 := (congrArg (fun x => World.cell? x _) HQ.out).trans e2
      have b1 := (congrArg (fun x => World.cell? x _) HQ.out).trans (HD.out _ _ d1)
      have b2 := (congrArg (fun x => World.cell? x _) HQ.out).trans (HD.out _ _ d2)
      have HY := toHid (plain_get hy)
      have HZ := toHid hz
      clear hy hz e1 e2 d1 d2
      obtain ⟨k, t, o⟩ := y
      obtain ⟨k', t', o'⟩ := zz
      simp only at c1 c2 b1 b2 HY
      cases k1 : (k'.toList == k.toList)
      · have n1 : (k'.toList != k.toList) = true := by simp [bne, k1]
        have HN : Hid (ktOf (plainT l) ≠ ktOf m) := kt_ne HY.out HZ.out (.inl (fun e => by simp [e] at k1))
        go_wp2
        go_quiet (fail)
        go_wp2
        refine HT.out _ _ _ _ _ _ _ _ _ _ _ _ _ _ _ _ _ _ _ _ _ _ _ _ _ _ _ _ _ _ _ _ ⟨HN.out, q + nq, ?_⟩
        rw [HQ.out, World.drewN_drewN]
      · have n1 : (k'.toList != k.toList) = false := by simp [bne, k1]
        cases k2 : (t'.toList == t.toList)
        · have n2 : (t'.toList != t.toList) = true := by simp [bne, k2]
          have HN : Hid (ktOf (plainT l) ≠ ktOf m) := kt_ne HY.out HZ.out (.inr (fun e => by simp [e] at k2))
          go_wp2
          go_quiet (fail)
          go_wp2
          refine HT.out _ _ _ _ _ _ _ _ _ _ _ _ _ _ _ _ _ _ _ _ _ _ _ _ _ _ _ _ _ _ _ _ ⟨HN.out, q + nq, ?_⟩
          rw [HQ.out, World.drewN_drewN]
        · have n2 : (t'.toList != t.toList) = false := by simp [bne, k2]
          have HK : Hid ((k.toList, t.toList) = (k'.toList, t'.toList)) := by
            show _ = _
            rw [beq_iff_eq] at k1 k2
            rw [k1, k2]
          go_wp2
          go_quiet (fail)
          go_wp2
          go_roundg (l.length + 1 - (j + 1))
          case measure => have := HG.out; omega
          case rel => exact ⟨j + 1, rfl, by omega, by go_num, by rw [kt_take_succ HY.out, kt_take_succ HZ.out, HTK.out, HK.out], q + nq, by rw [HQ.out, World.drewN_drewN]⟩
    · have hI1 : ¬ (j : Int) < (l.length : Int) := by omega
      have HE : Hid (ktOf (plainT l) = ktOf m) := by
        show _ = _
        have h := HTK.out
        rw [List.take_of_length_le (by simp [ktOf, plainT]; omega), List.take_of_length_le (by have := HLM.out; simp [ktOf]; omega)] at h
        exact h
      go_wp2
      exact HR.out _ _ _ _ _ _ _ _ _ _ _ _ _ _ _ _ _ _ _ _ _ _ _ _ _ _ _ _ _ _ _ _ _ _ ⟨HE.out, q, HQ.out⟩

/-- What the document's answer tells of tokens. -/
def TtPost (l : List (ByteArray × ByteArray × Nat)) (ev : Ending) : Prop :=
  (ev = .returned (.tuple #[.string ⟨#[]⟩, .bool false]) ∧ ∀ s, ¬ TextOf l s) ∨ ∃ s, TextOf l s ∧ ev = .returned (.tuple #[.string s, .bool true])
theorem text_same {l : List (ByteArray × ByteArray × Nat)} {s : ByteArray} {a : List UInt8} (h : writtenL l 0 false [] = some a) (ht : TextOf l s) : s = ⟨a.toArray⟩ := by
  have h1 := ht.1
  rw [h] at h1
  simp only [Option.some.injEq] at h1
  apply ByteArray.ext
  apply Array.ext'
  rw [← h1]

set_option maxRecDepth 100000 in
set_option maxHeartbeats 2000000 in
theorem tokensText_any (l : List (ByteArray × ByteArray × Int)) (xa : Option Addr) (x xo cap : Nat) (hl : l.length ≤ 600) (hs : ∀ y ∈ l, y.2.1.size ≤ 3000) (w : World) (hxa : 0 < l.length → xa = some ⟨x, xo, none⟩) (hx : 0 < l.length → x < w.heap.size) (hc : InRow w x xo l) :
    Calls Tryz.prog 13 #[.slice xa l.length cap] w fun ev w' => TtPost (plainT l) ev ∧ Below w.heap.size w w' := by
  have HC := toHid hc
  clear hc
  go_enter Tryz.func13, Tryz.ntmps13
  go_upto_block 0 with fail
  refine tt_b0 hxa hl hs hx HC (Below.refl _ _) ?_ ?_
  · intro v13 v14 v15 v16 v17 v18 v19 v20 v21 v22 v23 v24 v25 v26 v27 v28 v29 v30 v31 v32 v33 v34 v35 v36 v37 v38 v39 v40 v41 v42 v43 v44 v45 v46 v47 v48 v49 v50 v51 v52 v53 v54 v55 v56 v57 v58 v59 v60 v61 v62 v63 v64 v65 v66 v67 v68 v69 v70 v71 v72 v73 v74 v75 v76 v2 v3 v5 v6 v7 v8 v9 acc wx hacc
    obtain ⟨hw, hal, hbx⟩ := hacc
    have hsz : (⟨acc.toArray⟩ : ByteArray).size = acc.length := str_size acc
    have HW := toHid hw
    clear hw
    go_wp2_with fail
    refine (lexOf_short ⟨acc.toArray⟩ (by omega) wx).mono ?_
    rintro ev w3 ⟨hb3, hx3⟩
    have hb3w := hbx.trans (hb3.mono hbx.size)
    cases hlx : lexP ⟨acc.toArray⟩ with
    | error e =>
      rw [hlx] at hx3
      subst hx3
      have HN : Hid (∀ s, ¬ TextOf (plainT l) s) := fun s h => by
        have e1 := text_same HW.out h
        obtain ⟨_, m, h2, _⟩ := h
        rw [e1, hlx] at h2
        cases h2
      have hba := hb3w.alloc hb3w.size (.cells #[.int .i64 1, .int .i64 (e : Int)] 30)
      clear hlx
      go_wp2
      refine bodyPost_ret (results_tmp2 rfl _ _ _) rfl ?_
      exact ⟨.inl ⟨rfl, HN.out⟩, hba⟩
    | ok r =>
      obtain ⟨n, tk⟩ := r
      rw [hlx] at hx3
      obtain ⟨vu, rfl, ho3⟩ := hx3
      obtain ⟨m, rfl, rfl, _, _, _⟩ := lexP_fine hlx
      have hn0 := lexP_pos hlx
      have hmb := lexP_bd hlx
      obtain ⟨g', cap', rfl, hgl', hcg'⟩ := owned_cells ho3 (cells_len m) hn0
      have hba := hb3w.alloc hb3w.size (.cells #[.int .i64 0, .int .i64 (-1)] 30)
      have HLX := toHid hlx
      have HCG := toHid hcg'
      clear hlx hcg' ho3
      by_cases hlm : l.length = m.length
      · have hI : ((m.length : Int) != (l.length : Int)) = false := by simp [hlm]
        have HLM := toHid hlm
        clear hlm
        go_upto_block 5 with fail
        refine tt_b5 hxa HLM hl (fun j y hy => by
          have hlt : j < l.length := (List.getElem?_eq_some_iff.1 hy).1
          exact HC.out.below hba (hx (by omega)) j y hy) (fun k v h => (World.cell?_alloc_past _ _ _ hgl').trans (HCG.out k v h)) ?_ ?_
        · intro v92 v93 v94 v95 v96 v97 v98 v99 v100 v101 v102 v103 v104 v105 v106 v107 v108 v109 v110 v111 v112 v113 v114 v115 v116 v117 v118 v119 v120 v121 v2 v3 v12 wy hwy
          obtain ⟨hkt, q, rfl⟩ := hwy
          have HT : Hid (TextOf (plainT l) ⟨acc.toArray⟩) := ⟨HW.out, m, HLX.out, hkt⟩
          clear hkt
          go_wp2
          refine bodyPost_ret (results_tmp2 rfl _ _ _) rfl ?_
          exact ⟨.inr ⟨_, HT.out, rfl⟩, below_drewN hba q⟩
        · intro v92 v93 v94 v95 v96 v97 v98 v99 v100 v101 v102 v103 v104 v105 v106 v107 v108 v109 v110 v111 v112 v113 v114 v115 v116 v117 v118 v119 v120 v121 v12 wy hwy
          obtain ⟨hkt, q, rfl⟩ := hwy
          refine bodyPost_ret (results_tmp2 rfl _ _ _) rfl ?_
          refine ⟨.inl ⟨rfl, fun s h => hkt ?_⟩, below_drewN hba q⟩
          have e1 := text_same HW.out h
          obtain ⟨_, m', h2, h3⟩ := h
          rw [e1, HLX.out] at h2
          simp only [Except.ok.injEq, Prod.mk.injEq] at h2
          rw [cells_inj _ _ h2.2]
          exact h3
      · have hI : ¬ (m.length : Int) = (l.length : Int) := by omega
        have HN : Hid (∀ s, ¬ TextOf (plainT l) s) := fun s h => by
          have e1 := text_same HW.out h
          obtain ⟨_, m', h2, h3⟩ := h
          rw [e1, HLX.out] at h2
          simp only [Except.ok.injEq, Prod.mk.injEq] at h2
          have h4 := congrArg List.length h3
          simp [ktOf, plainT] at h4
          omega
        go_wp2
        refine bodyPost_ret (results_tmp2 rfl _ _ _) rfl ?_
        exact ⟨.inl ⟨rfl, HN.out⟩, hba⟩
  · intro v13 v14 v15 v16 v17 v18 v19 v20 v21 v22 v23 v24 v25 v26 v27 v28 v29 v30 v31 v32 v33 v34 v35 v36 v37 v38 v39 v40 v41 v42 v43 v44 v45 v46 v47 v48 v49 v50 v51 v52 v53 v54 v55 v56 v57 v58 v59 v60 v61 v62 v63 v64 v65 v66 v67 v68 v69 v70 v71 v72 v73 v74 v75 v76 v4 v5 v6 v7 v8 v9 wy hwy
    obtain ⟨hnone, hby⟩ := hwy
    refine bodyPost_ret (results_tmp2 rfl _ _ _) rfl ?_
    exact ⟨.inl ⟨rfl, fun s h => by have := h.1; rw [hnone] at this; cases this⟩, hby⟩
end Go.Proofs.YtpflpbfnifpchaaGreatDoor
