/- The document's answer for package lex: LexOf, where it stands. -/
import Derived.Test.YtpflpbfnifpchaaGreatDoorME
namespace Go.Proofs.YtpflpbfnifpchaaGreatDoor
open Go.RowKit

/-- Where LexOf stands, and what it has read. -/
structure LO (s : ByteArray) (w : World) (at_ : Nat) (σ : LexSt) (v4 v5 : Value) (wr : World) : Prop where
  place : (at_ = σ.at_ ∧ at_ ≤ s.size) ∨ (at_ = s.size + 1 ∧ σ.at_ = s.size)
  inv : Inv s σ
  run : runLines s (s.size - σ.at_) σ = runLines s s.size ⟨0, [0], 0, []⟩
  ro : RO w σ.st σ.n σ.tk v4 v5 wr

theorem LO.blank {s : ByteArray} {w : World} {at_ : Nat} {σ : LexSt} {v4 v5 : Value} {wr : World} {L S : List UInt8} (h : LO s w at_ σ v4 v5 wr) (hlt : at_ < s.size) (hl : LineAt s at_ L S) (hsk : skipL L = L.length) : ∃ σ', LO s w (at_ + L.length + 1) σ' v4 v5 wr := by
  rcases h.place with ⟨e, _⟩ | ⟨e, _⟩
  · have hst := lineStep_list s S L (s.data.toList.take at_) hl.lineEnd hl.noEnd hl.data σ.st σ.n σ.tk
    rw [if_pos hsk, hl.len] at hst
    obtain ⟨a, st, n, tk⟩ := σ
    simp only at e hst
    subst e
    have hI := lineStep_inv h.inv hlt hst
    have hg := runLines_go h.inv hlt hst
    refine ⟨_, ?_, hI.1, hg.symm.trans h.run, h.ro⟩
    have hle := hl.le
    unfold afterLine
    simp only
    split
    · exact .inl ⟨rfl, by omega⟩
    · exact .inr ⟨by omega, by omega⟩
  · omega

theorem toHid {p : Prop} (h : p) : Hid p := h
theorem LO.cons {s : ByteArray} {w : World} {at_ : Nat} {σ : LexSt} {v4 v5 : Value} {wr : World} (h : LO s w at_ σ v4 v5 wr) : ∃ x xs, σ.st = x :: xs := by
  have := h.inv.last
  cases hs : σ.st with
  | nil => rw [hs] at this; simp at this
  | cons x xs => exact ⟨x, xs, rfl⟩
theorem LO.short {s : ByteArray} {w : World} {at_ : Nat} {σ : LexSt} {v4 v5 : Value} {wr : World} {x : Int} {xs : List Int} (hs : s.size ≤ 6000) (h : LO s w at_ σ v4 v5 wr) (hσ : σ.st = x :: xs) : xs.length ≤ 24001 := by
  have h1 := h.inv.cnt
  have h2 := h.inv.hat
  rw [hσ] at h1
  simp at h1
  omega
theorem LO.few {s : ByteArray} {w : World} {at_ : Nat} {σ : LexSt} {v4 v5 : Value} {wr : World} (hs : s.size ≤ 6000) (h : LO s w at_ σ v4 v5 wr) : σ.n ≤ 24001 := by
  have h1 := h.inv.cnt
  have h2 := h.inv.hat
  omega
theorem infoTokR : (Tryz.prog.info? 53).map (fun i => (i.zero, i.size, i.bytes)) = some (some (.agg #[.string ⟨#[]⟩, .string ⟨#[]⟩, .int .i64 0]), 3, 40) := by kernel_rfl
def LPostR (s : ByteArray) (w : World) (ev : Ending) (w' : World) : Prop :=
  Below w.heap.size w w' ∧ match lexP s with
  | .ok (n, tk) => ∃ vt, ev = .returned (.tuple #[vt, .agg #[.int .i64 0, .int .i64 (-1)]]) ∧ w'.ownsRow (w.heap.size + 1) 53 3 vt n tk
  | .error e => ev = .returned (.tuple #[.slice none 0 0, .agg #[.int .i64 1, .int .i64 (e : Int)]])
theorem LPostR.err {s : ByteArray} {w w' : World} {e : Nat} (h : lexP s = .error e) (hb : Below w.heap.size w w') : LPostR s w (.returned (.tuple #[.slice none 0 0, .agg #[.int .i64 1, .int .i64 (e : Int)]])) w' := by
  unfold LPostR
  rw [h]
  exact ⟨hb, rfl⟩
theorem lexP_of_err {s : ByteArray} {w : World} {at_ : Nat} {σ : LexSt} {v4 v5 : Value} {wr : World} {e : Nat} (h : LO s w at_ σ v4 v5 wr) (hlt : at_ < s.size) (hl : lineStep s σ = .error e) : lexP s = .error e := by
  have hat : σ.at_ < s.size := by
    rcases h.place with ⟨h1, _⟩ | ⟨h1, _⟩
    · omega
    · omega
  have hr := h.run
  rw [runLines_err hat hl] at hr
  unfold lexP
  rw [← hr]
theorem LO.step {s : ByteArray} {w : World} {at_ : Nat} {σ : LexSt} {v4 v5 : Value} {wr : World} {L S : List UInt8} (h : LO s w at_ σ v4 v5 wr) (hlt : at_ < s.size) (hl : LineAt s at_ L S) (hb : blanksL L < L.length) (hsk : skipL L = blanksL L) :
    lineStep s σ = match settleP σ.st (blanksL L : Nat) (at_ + blanksL L) σ.n σ.tk with
        | none => .error (at_ + blanksL L)
        | some (st', n', tk') => match restL (L.length + 1) L at_ with
          | .error e => .error e
          | .ok l => .ok ⟨afterLine s (at_ + L.length), st', n' + l.length + 1, tk' ++ cellsOf l ++ tokCells kNewline ⟨#[]⟩ (at_ + L.length)⟩ := by
  have e : at_ = σ.at_ := by
    rcases h.place with ⟨h1, _⟩ | ⟨h1, _⟩
    · exact h1
    · omega
  have hst := lineStep_list s S L (s.data.toList.take at_) hl.lineEnd hl.noEnd hl.data σ.st σ.n σ.tk
  rw [hl.len, if_neg (by omega), hsk] at hst
  have e2 : (⟨at_, σ.st, σ.n, σ.tk⟩ : LexSt) = σ := by rw [e]
  rw [e2] at hst
  exact hst
theorem LO.settle_err {s : ByteArray} {w : World} {at_ i : Nat} {σ : LexSt} {v4 v5 : Value} {wr : World} {L S : List UInt8} (h : LO s w at_ σ v4 v5 wr) (hlt : at_ < s.size) (hl : LineAt s at_ L S) (hi : i = at_ + blanksL L) (hb : blanksL L < L.length) (hsk : skipL L = blanksL L) (hn : settleP σ.st (blanksL L : Int) i σ.n σ.tk = none) : lexP s = .error i := by
  refine lexP_of_err h hlt ?_
  rw [h.step hlt hl hb hsk, ← hi, hn]
theorem fault_block {w : World} {b : Nat} (h : w.heap[b]? = some (.cells #[.int .i64 0, .int .i64 0] 30)) :
    w.cell? ⟨b, 0, none⟩ = some (.int .i64 0) ∧ w.cell? ⟨b, 1, none⟩ = some (.int .i64 0) ∧ w.frozen? ⟨b, 0, none⟩ = false ∧ w.frozen? ⟨b, 1, none⟩ = false := by
  refine ⟨?_, ?_, ?_, ?_⟩
  · rw [cell_of_row w b 0 _ _ _ h]; rfl
  · rw [cell_of_row w b 1 _ _ _ h]; rfl
  · simp [World.frozen?, h]
  · simp [World.frozen?, h]
theorem fault_set {w : World} {b : Nat} {u0 u1 : Value} (r0 : w.cell? ⟨b, 0, none⟩ = some u0) (r1 : w.cell? ⟨b, 1, none⟩ = some u1) (v0 v1 : Value) :
    ((w.setCell ⟨b, 0, none⟩ v0).setCell ⟨b, 1, none⟩ v1).cell? ⟨b, 0, none⟩ = some v0 ∧ ((w.setCell ⟨b, 0, none⟩ v0).setCell ⟨b, 1, none⟩ v1).cell? ⟨b, 1, none⟩ = some v1 := by
  refine ⟨?_, ?_⟩
  · rw [cell_set _ _ _ _ _ (by decide)]
    exact World.cell?_setCell_same _ _ _ r0
  · exact World.cell?_setCell_same _ _ _ ((cell_set _ _ _ _ _ (by decide)).trans r1)
theorem fault_results (tmps : Array Value) (W : World) (b : Nat) (v0 v1 : Value) (h3 : tmps[3]?.getD undef = .pointer (some ⟨b, 0, none⟩)) (c0 : W.cell? ⟨b, 0, none⟩ = some v0) (c1 : W.cell? ⟨b, 1, none⟩ = some v1) :
    (results Tryz.f7 tmps).run Tryz.prog W = .ok (.tuple #[tmps[2]?.getD undef, .agg #[v0, v1]]) W := by
  simp [results, Tryz.results7, go_sem, h3, c0, c1]
theorem ro_top {w : World} {B g cap : Nat} {x : Int} {xs : List Int} (h : w.ownsRow B 3 1 (.slice (some ⟨g, 0, none⟩) (x :: xs).length cap) (x :: xs).length ((x :: xs).reverse.map (Value.int .i64))) : w.cell? ⟨g, xs.length, none⟩ = some (.int .i64 x) := by
  rcases h.2 with ⟨he, _⟩ | ⟨g', cap', cur, he, _, hg', _, _, hsz, htk⟩
  · cases he
  · have eg : g' = g := by simp at he; exact he.1.symm
    subst eg
    rw [cell_of_row w g' xs.length cur 3 (0, 0) hg', ← Array.getElem?_toList]
    have e : (cur.toList.take ((x :: xs).length * 1))[xs.length]? = ((x :: xs).reverse.map (Value.int .i64))[xs.length]? := by rw [htk]
    rw [List.getElem?_take, if_pos (by simp)] at e
    rw [e]
    simp
theorem first_at {s : ByteArray} {at_ i : Nat} {L S : List UInt8} (h : LineAt s at_ L S) (hi : i = at_ + blanksL L) (h2 : blanksL L < L.length) (hil : i < s.size) : s[i].toNat ≠ 32 ∧ (skipL L = if s[i].toNat = 35 then L.length else blanksL L) := by
  subst hi
  obtain ⟨_, h3⟩ := h.first h2
  exact h3

/-- A block of a function's code, by its number. -/
def blockIn (n : Nat) : Code → Option Code
  | .block i c => bif Nat.beq i n then some (.block i c) else blockIn n c
  | .loop c => blockIn n c
  | .seq a b => match blockIn n a with
    | some c => some c
    | none => blockIn n b
  | .scope c => blockIn n c
  | .cond _ a b => match blockIn n a with
    | some c => some c
    | none => blockIn n b
  | _ => none
noncomputable def lexOfBlock (n : Nat) : Code := (Tryz.f7.body.bind (blockIn n)).getD .skip
set_option maxRecDepth 100000 in
set_option maxHeartbeats 2000000 in
theorem lexOf_b2 {s : ByteArray} {at_ e : Nat} {L S : List UInt8} {wr : World} {u1 u2 u3 u4 u5 u6 u8 u9 u10 u11 u12 u13 u14 u15 u16 u17 u18 u19 u20 u21 u22 u23 u24 u25 u26 u27 u28 u29 u30 u31 u32 u33 u34 u35 u36 u37 u38 u39 u40 u41 u42 u43 u44 u45 u46 u47 u48 u49 u50 u51 u52 u53 u54 u55 u56 u57 u58 u59 u60 u61 u62 u63 u64 u65 u66 u67 u68 u69 u70 u71 u72 u73 u74 u75 u76 u77 u78 u79 u80 u81 u82 u83 u84 u85 u86 u87 u88 u89 u90 u91 u92 u93 u94 u95 u96 u97 u98 u99 u100 u101 u102 u103 u104 u105 u106 u107 u108 u109 u110 u111 u112 u113 u114 u115 u116 u117 u118 u119 u120 u121 u122 u123 u124 u125 u126 u127 u128 u129 u130 u131 u132 u133 u134 u135 u136 u137 u138 u139 u140 u141 u142 u143 u144 u145 u146 u147 u148 u149 u150 u151 u152 u153 u154 u155 u156 u157 u158 u159 u160 u161 u162 u163 u164 u165 u166 u167 : Value} {K : Act → World → Prop} {Q : Exit → Act → World → Prop}
    (hs : s.size ≤ 6000) (HLN : Hid (LineAt s at_ L S)) (HE : Hid (e = at_ + L.length))
    (hrest : ∀ (v23 v24 v25 v26 v27 v28 v29 v30 v31 v32 v33 v34 : Value) (wx : World), wx = wr → K ⟨#[.string s, u1, u2, u3, u4, u5, u6, .int .i64 (e : Int), u8, u9, u10, u11, u12, u13, u14, u15, u16, u17, u18, u19, u20, u21, u22, v23, v24, v25, v26, v27, v28, v29, v30, v31, v32, v33, v34, u35, u36, u37, u38, u39, u40, u41, u42, u43, u44, u45, u46, u47, u48, u49, u50, u51, u52, u53, u54, u55, u56, u57, u58, u59, u60, u61, u62, u63, u64, u65, u66, u67, u68, u69, u70, u71, u72, u73, u74, u75, u76, u77, u78, u79, u80, u81, u82, u83, u84, u85, u86, u87, u88, u89, u90, u91, u92, u93, u94, u95, u96, u97, u98, u99, u100, u101, u102, u103, u104, u105, u106, u107, u108, u109, u110, u111, u112, u113, u114, u115, u116, u117, u118, u119, u120, u121, u122, u123, u124, u125, u126, u127, u128, u129, u130, u131, u132, u133, u134, u135, u136, u137, u138, u139, u140, u141, u142, u143, u144, u145, u146, u147, u148, u149, u150, u151, u152, u153, u154, u155, u156, u157, u158, u159, u160, u161, u162, u163, u164, u165, u166, u167], []⟩ wx) :
    Code.wp Tryz.prog (lexOfBlock 2) (Exit.then K Q) ⟨#[.string s, u1, u2, u3, u4, u5, u6, .int .i64 (at_ : Int), u8, u9, u10, u11, u12, u13, u14, u15, u16, u17, u18, u19, u20, u21, u22, u23, u24, u25, u26, u27, u28, u29, u30, u31, u32, u33, u34, u35, u36, u37, u38, u39, u40, u41, u42, u43, u44, u45, u46, u47, u48, u49, u50, u51, u52, u53, u54, u55, u56, u57, u58, u59, u60, u61, u62, u63, u64, u65, u66, u67, u68, u69, u70, u71, u72, u73, u74, u75, u76, u77, u78, u79, u80, u81, u82, u83, u84, u85, u86, u87, u88, u89, u90, u91, u92, u93, u94, u95, u96, u97, u98, u99, u100, u101, u102, u103, u104, u105, u106, u107, u108, u109, u110, u111, u112, u113, u114, u115, u116, u117, u118, u119, u120, u121, u122, u123, u124, u125, u126, u127, u128, u129, u130, u131, u132, u133, u134, u135, u136, u137, u138, u139, u140, u141, u142, u143, u144, u145, u146, u147, u148, u149, u150, u151, u152, u153, u154, u155, u156, u157, u158, u159, u160, u161, u162, u163, u164, u165, u166, u167], []⟩ wr := by
  have hle := HLN.out.le
  conv => arg 2; whnf
  go_wp2_with fail
  go_loopg [7] (L.length + 1) (fun gk v7 wx => ∃ e : Nat, gk = at_ + L.length + 1 - e ∧ at_ ≤ e ∧ e ≤ at_ + L.length ∧ v7 = .int .i64 (e : Int) ∧ wx = wr)
  case atStart => exact ⟨at_, by omega, Nat.le_refl _, by omega, rfl, rfl⟩
  case round =>
    obtain ⟨e', hge, he1, he2, hv7, rfl⟩ := hrel
    subst hv7
    have HG : Hid (gk = at_ + L.length + 1 - e') := hge
    clear hge
    have he0 : (0 : Int) ≤ (e' : Int) := by omega
    by_cases hmid : e' < at_ + L.length
    · obtain ⟨hel, hne⟩ := HLN.out.mid e' he1 hmid
      have hIe : (e' : Int) < (s.size : Int) := by omega
      have h10 : ((s[e'].toNat : Int) != 10) = true := by simp [bne]; omega
      clear hrest
      go_wp2
      go_roundg (at_ + L.length + 1 - (e' + 1))
      case measure => have := HG.out; omega
      case rel => exact ⟨e' + 1, rfl, by omega, by omega, by go_num, rfl⟩
    · have hee : e' = e := by have := HE.out; omega
      subst hee
      by_cases hel : e' < s.size
      · have hIe : (e' : Int) < (s.size : Int) := by omega
        have h10 : ((s[e'].toNat : Int) != 10) = false := by
          have h1 := HLN.out.stop (by rw [← HE.out]; exact hel)
          have h2 : s[e'].toNat = 10 := by
            have h3 := HE.out
            subst h3
            exact h1
          simp [bne]
          omega
        have HR := toHid hrest
        clear hrest
        go_wp2
        first | exact HR.out _ _ _ _ _ _ _ _ _ _ _ _ _ rfl | trace_state
      · have hIe : ¬ (e' : Int) < (s.size : Int) := by omega
        have HR := toHid hrest
        clear hrest
        go_wp2
        first | exact HR.out _ _ _ _ _ _ _ _ _ _ _ _ _ rfl | trace_state
set_option maxRecDepth 100000 in
set_option maxHeartbeats 2000000 in
theorem lexOf_b4 {s : ByteArray} {at_ e i : Nat} {L S : List UInt8} {wr : World} {u1 u2 u3 u4 u5 u6 u9 u10 u11 u12 u13 u14 u15 u16 u17 u18 u19 u20 u21 u22 u23 u24 u25 u26 u27 u28 u29 u30 u31 u32 u33 u34 u35 u36 u37 u38 u39 u40 u41 u42 u43 u44 u45 u46 u47 u48 u49 u50 u51 u52 u53 u54 u55 u56 u57 u58 u59 u60 u61 u62 u63 u64 u65 u66 u67 u68 u69 u70 u71 u72 u73 u74 u75 u76 u77 u78 u79 u80 u81 u82 u83 u84 u85 u86 u87 u88 u89 u90 u91 u92 u93 u94 u95 u96 u97 u98 u99 u100 u101 u102 u103 u104 u105 u106 u107 u108 u109 u110 u111 u112 u113 u114 u115 u116 u117 u118 u119 u120 u121 u122 u123 u124 u125 u126 u127 u128 u129 u130 u131 u132 u133 u134 u135 u136 u137 u138 u139 u140 u141 u142 u143 u144 u145 u146 u147 u148 u149 u150 u151 u152 u153 u154 u155 u156 u157 u158 u159 u160 u161 u162 u163 u164 u165 u166 u167 : Value} {K : Act → World → Prop} {Q : Exit → Act → World → Prop}
    (hs : s.size ≤ 6000) (HLN : Hid (LineAt s at_ L S)) (HE : Hid (e = at_ + L.length)) (HI : Hid (i = at_ + blanksL L))
    (hrest : ∀ (v36 v37 v38 v39 v40 v41 v42 v43 v44 v45 v46 : Value) (wx : World), wx = wr → K ⟨#[.string s, u1, u2, u3, u4, u5, u6, .int .i64 (e : Int), .int .i64 (i : Int), u9, u10, u11, u12, u13, u14, u15, u16, u17, u18, u19, u20, u21, u22, u23, u24, u25, u26, u27, u28, u29, u30, u31, u32, u33, u34, u35, v36, v37, v38, v39, v40, v41, v42, v43, v44, v45, v46, u47, u48, u49, u50, u51, u52, u53, u54, u55, u56, u57, u58, u59, u60, u61, u62, u63, u64, u65, u66, u67, u68, u69, u70, u71, u72, u73, u74, u75, u76, u77, u78, u79, u80, u81, u82, u83, u84, u85, u86, u87, u88, u89, u90, u91, u92, u93, u94, u95, u96, u97, u98, u99, u100, u101, u102, u103, u104, u105, u106, u107, u108, u109, u110, u111, u112, u113, u114, u115, u116, u117, u118, u119, u120, u121, u122, u123, u124, u125, u126, u127, u128, u129, u130, u131, u132, u133, u134, u135, u136, u137, u138, u139, u140, u141, u142, u143, u144, u145, u146, u147, u148, u149, u150, u151, u152, u153, u154, u155, u156, u157, u158, u159, u160, u161, u162, u163, u164, u165, u166, u167], []⟩ wx) :
    Code.wp Tryz.prog (lexOfBlock 4) (Exit.then K Q) ⟨#[.string s, u1, u2, u3, u4, u5, u6, .int .i64 (e : Int), .int .i64 (at_ : Int), u9, u10, u11, u12, u13, u14, u15, u16, u17, u18, u19, u20, u21, u22, u23, u24, u25, u26, u27, u28, u29, u30, u31, u32, u33, u34, u35, u36, u37, u38, u39, u40, u41, u42, u43, u44, u45, u46, u47, u48, u49, u50, u51, u52, u53, u54, u55, u56, u57, u58, u59, u60, u61, u62, u63, u64, u65, u66, u67, u68, u69, u70, u71, u72, u73, u74, u75, u76, u77, u78, u79, u80, u81, u82, u83, u84, u85, u86, u87, u88, u89, u90, u91, u92, u93, u94, u95, u96, u97, u98, u99, u100, u101, u102, u103, u104, u105, u106, u107, u108, u109, u110, u111, u112, u113, u114, u115, u116, u117, u118, u119, u120, u121, u122, u123, u124, u125, u126, u127, u128, u129, u130, u131, u132, u133, u134, u135, u136, u137, u138, u139, u140, u141, u142, u143, u144, u145, u146, u147, u148, u149, u150, u151, u152, u153, u154, u155, u156, u157, u158, u159, u160, u161, u162, u163, u164, u165, u166, u167], []⟩ wr := by
  have hle := HLN.out.le
  have hbl := blanksL_le L
  conv => arg 2; whnf
  go_wp2_with fail
  go_loopg [8] (blanksL L + 1) (fun gk v8 wx => ∃ i : Nat, gk = at_ + blanksL L + 1 - i ∧ at_ ≤ i ∧ i ≤ at_ + blanksL L ∧ v8 = .int .i64 (i : Int) ∧ wx = wr)
  case atStart => exact ⟨at_, by omega, Nat.le_refl _, by omega, rfl, rfl⟩
  case round =>
    obtain ⟨j, hgi, hi1, hi2, hv8, rfl⟩ := hrel
    subst hv8
    have HG : Hid (gk = at_ + blanksL L + 1 - j) := hgi
    clear hgi
    have hi0 : (0 : Int) ≤ (j : Int) := by omega
    by_cases hib : j < at_ + blanksL L
    · obtain ⟨hil, h32⟩ := HLN.out.blank j hi1 hib
      have hIe2 : (j : Int) < (e : Int) := by have := HE.out; omega
      have hIs : (j : Int) < (s.size : Int) := by omega
      have hc32 : ((s[j].toNat : Int) == 32) = true := by simp; omega
      clear hrest
      go_wp2
      go_roundg (at_ + blanksL L + 1 - (j + 1))
      case measure => have := HG.out; omega
      case rel => exact ⟨j + 1, rfl, by omega, by omega, by go_num, rfl⟩
    · have hji : j = i := by have := HI.out; omega
      subst hji
      by_cases hie : j < e
      · have hIe2 : (j : Int) < (e : Int) := by omega
        have hil : j < s.size := by have := HE.out; omega
        have hIs : (j : Int) < (s.size : Int) := by omega
        obtain ⟨hx32, _⟩ := first_at HLN.out HI.out (by have := HE.out; have := HI.out; omega) hil
        have hc32 : ((s[j].toNat : Int) == 32) = false := by simp; omega
        have HR := toHid hrest
        clear hrest
        go_wp2
        first | exact HR.out _ _ _ _ _ _ _ _ _ _ _ _ rfl | trace_state
      · have hIe2 : ¬ (j : Int) < (e : Int) := by omega
        have HR := toHid hrest
        clear hrest
        go_wp2
        first | exact HR.out _ _ _ _ _ _ _ _ _ _ _ _ rfl | trace_state
set_option maxRecDepth 100000 in
set_option maxHeartbeats 2000000 in
theorem lexOf_b6 {w wr : World} {st0 : List Int} {n0 : Nat} {tk0 : List Value} {b : Int} {i : Nat} {q4 q5 : Value} {u0 u1 u2 u3 u6 u7 u10 u11 u12 u13 u14 u15 u16 u17 u18 u19 u20 u21 u22 u23 u24 u25 u26 u27 u28 u29 u30 u31 u32 u33 u34 u35 u36 u37 u38 u39 u40 u41 u42 u43 u44 u45 u46 u47 u48 u49 u50 u51 u52 u53 u54 u55 u56 u57 u58 u59 u60 u61 u62 u63 u64 u65 u66 u67 u68 u69 u70 u71 u72 u73 u74 u75 u76 u77 u78 u79 u80 u81 u82 u83 u84 u85 u86 u87 u88 u89 u90 u91 u92 u93 u94 u95 u96 u97 u98 u99 u100 u101 u102 u103 u104 u105 u106 u107 u108 u109 u110 u111 u112 u113 u114 u115 u116 u117 u118 u119 u120 u121 u122 u123 u124 u125 u126 u127 u128 u129 u130 u131 u132 u133 u134 u135 u136 u137 u138 u139 u140 u141 u142 u143 u144 u145 u146 u147 u148 u149 u150 u151 u152 u153 u154 u155 u156 u157 u158 u159 u160 u161 u162 u163 u164 u165 u166 u167 : Value} {K : Act → World → Prop} {Q : Exit → Act → World → Prop}
    (hRO : RO w st0 n0 tk0 q4 q5 wr) (HL : Hid (st0.getLast? = some 0)) (hb0 : 0 ≤ b) (hbd : n0 + st0.length ≤ 48011)
    (hrest : ∀ (v78 v79 v80 v81 v82 v83 v84 v85 v86 v87 v88 v89 v90 v91 v92 v93 v94 v95 : Value) (r4 r5 : Value) (wx : World) (y : Int) (ys : List Int) (m : Nat) (tk' : List Value), RO w (y :: ys) m tk' r4 r5 wx ∧ settleRest b i (y :: ys) m tk' = settleRest b i st0 n0 tk0 ∧ ¬ b < y ∧ (y :: ys).getLast? = some 0 ∧ m + ys.length ≤ 48010 → K ⟨#[u0, u1, u2, u3, r4, r5, u6, u7, .int .i64 (i : Int), .int .i64 b, u10, u11, u12, u13, u14, u15, u16, u17, u18, u19, u20, u21, u22, u23, u24, u25, u26, u27, u28, u29, u30, u31, u32, u33, u34, u35, u36, u37, u38, u39, u40, u41, u42, u43, u44, u45, u46, u47, u48, u49, u50, u51, u52, u53, u54, u55, u56, u57, u58, u59, u60, u61, u62, u63, u64, u65, u66, u67, u68, u69, u70, u71, u72, u73, u74, u75, u76, u77, v78, v79, v80, v81, v82, v83, v84, v85, v86, v87, v88, v89, v90, v91, v92, v93, v94, v95, u96, u97, u98, u99, u100, u101, u102, u103, u104, u105, u106, u107, u108, u109, u110, u111, u112, u113, u114, u115, u116, u117, u118, u119, u120, u121, u122, u123, u124, u125, u126, u127, u128, u129, u130, u131, u132, u133, u134, u135, u136, u137, u138, u139, u140, u141, u142, u143, u144, u145, u146, u147, u148, u149, u150, u151, u152, u153, u154, u155, u156, u157, u158, u159, u160, u161, u162, u163, u164, u165, u166, u167], []⟩ wx) :
    Code.wp Tryz.prog (lexOfBlock 6) (Exit.then K Q) ⟨#[u0, u1, u2, u3, q4, q5, u6, u7, .int .i64 (i : Int), .int .i64 b, u10, u11, u12, u13, u14, u15, u16, u17, u18, u19, u20, u21, u22, u23, u24, u25, u26, u27, u28, u29, u30, u31, u32, u33, u34, u35, u36, u37, u38, u39, u40, u41, u42, u43, u44, u45, u46, u47, u48, u49, u50, u51, u52, u53, u54, u55, u56, u57, u58, u59, u60, u61, u62, u63, u64, u65, u66, u67, u68, u69, u70, u71, u72, u73, u74, u75, u76, u77, u78, u79, u80, u81, u82, u83, u84, u85, u86, u87, u88, u89, u90, u91, u92, u93, u94, u95, u96, u97, u98, u99, u100, u101, u102, u103, u104, u105, u106, u107, u108, u109, u110, u111, u112, u113, u114, u115, u116, u117, u118, u119, u120, u121, u122, u123, u124, u125, u126, u127, u128, u129, u130, u131, u132, u133, u134, u135, u136, u137, u138, u139, u140, u141, u142, u143, u144, u145, u146, u147, u148, u149, u150, u151, u152, u153, u154, u155, u156, u157, u158, u159, u160, u161, u162, u163, u164, u165, u166, u167], []⟩ wr := by
  have HR := toHid hrest
  clear hrest
  have HS : Hid (∃ x xs, st0 = x :: xs) := by
    have h := HL.out
    cases st0 with
    | nil => simp at h
    | cons x xs => exact ⟨x, xs, rfl⟩
  have HO := toHid hRO
  have HB := toHid hbd
  clear hRO hbd
  conv => arg 2; whnf
  go_wp2_with fail
  go_loopg [4, 5] st0.length (fun gk v4 v5 wx => ∃ (y : Int) (ys : List Int) (m : Nat) (tk' : List Value), gk = ys.length + 1 ∧ (y :: ys).getLast? = some 0 ∧ m + ys.length ≤ 48010 ∧ settleRest b i (y :: ys) m tk' = settleRest b i st0 n0 tk0 ∧ RO w (y :: ys) m tk' v4 v5 wx)
  case atStart =>
    obtain ⟨x, xs, hx⟩ := HS.out
    subst hx
    exact ⟨x, xs, n0, tk0, rfl, HL.out, by have := HB.out; simp at this; omega, rfl, HO.out⟩
  case round =>
    obtain ⟨y, ys, m, tk', hgp, hlast, hmb, hset, hR⟩ := hrel
    have HGP : Hid (gk = ys.length + 1) := hgp
    have HLS : Hid ((y :: ys).getLast? = some 0) := hlast
    have HST : Hid (settleRest b i (y :: ys) m tk' = settleRest b i st0 n0 tk0) := hset
    clear hgp hlast hset HO
    obtain ⟨gp, capp, hv5, hownp, hnep⟩ := hR.op
    subst hv5
    have htp := ro_top hownp
    have hwlp := lt_of_heap hR.fault
    simp only [List.length_cons] at hownp
    have hcapp : ys.length + 1 ≤ capp := by
      rcases hownp.2 with ⟨he, _⟩ | ⟨_, _, _, he, _, _, hle, _⟩
      · cases he
      · simp at he hle
        omega
    by_cases hby : b < y
    · obtain ⟨z, zs, hzs⟩ : ∃ z zs, ys = z :: zs := by
        cases ys with
        | nil =>
          have e0 : y = 0 := by simpa using HLS.out
          omega
        | cons z zs => exact ⟨z, zs, rfl⟩
      have HZS : Hid (ys = z :: zs) := hzs
      clear hzs
      have hI1 : (0 : Int) ≤ (ys.length : Int) := by omega
      have hI2 : (ys.length : Int) ≤ (capp : Int) := by omega
      have R4 := ro_pop (by simpa using hR)
      have hout4 := R4.out
      obtain ⟨i4, hj4, hx0, hx1, hx2⟩ := info_parts infoTokR
      clear hownp hnep hR
      go_wp2_with (first | (at_builtin; refine wpList_append_lies _ rfl _ _ _ rfl (w.heap.size + 1) 53 i4 (.agg #[.string ⟨#[]⟩, .string ⟨#[]⟩, .int .i64 0]) 3 40 Tryz.underlying28 hj4 hx0 hx1 hx2 rfl (by decide) _ m tk' rfl (hout4.alloc _) ⟨wr.heap.size, 0, none⟩ 1 1 (tokCells kDedent ⟨#[]⟩ i) rfl rfl (three_new _ _ _ _ _) (fun y hy => by simp [tokCells] at hy; rcases hy with rfl | rfl | rfl <;> rfl) (by decide) (by unfold maxLen; omega) (by omega) (by simp; omega) _ rfl ?_))
      intro g5 cap5 w5 hown5' hgrow5 hat5 _
      have R5 := ro_add (gn := g5) (capn := cap5) R4 hown5' hgrow5 hat5
      have HS5 : Hid (settleRest b i (z :: zs) (m + 1) (tk' ++ tokCells kDedent ⟨#[]⟩ i) = settleRest b i st0 n0 tk0) := by
        show _ = _
        rw [← HST.out, settle_pop hby, HZS.out]
      have HL5 : Hid ((z :: zs).getLast? = some 0) := by
        show _ = _
        have h := HLS.out
        rw [HZS.out] at h
        simpa using h
      have hzl : ys.length = zs.length + 1 := by rw [HZS.out]; rfl
      have HR5 : Hid (RO w (z :: zs) (m + 1) (tk' ++ tokCells kDedent ⟨#[]⟩ i) (.slice (some ⟨g5, 0, none⟩) (m + 1) cap5) (.slice (some ⟨gp, 0, none⟩) ys.length capp) w5) := by
        show RO _ _ _ _ _ _ _
        rw [← HZS.out]
        exact R5
      clear hown5' hgrow5 hat5 R4 R5 hout4
      go_wp2
      go_roundg (zs.length + 1)
      case measure => have := HGP.out; omega
      case rel => exact ⟨z, zs, m + 1, _, rfl, HL5.out, by omega, HS5.out, HR5.out⟩
    · have HRR := toHid hR
      clear hownp hnep hR
      go_wp2
      exact HR.out _ _ _ _ _ _ _ _ _ _ _ _ _ _ _ _ _ _ _ _ _ _ _ _ _ ⟨HRR.out, HST.out, hby, HLS.out, hmb⟩
set_option maxRecDepth 100000 in
set_option maxHeartbeats 2000000 in
theorem lexOf_b10 {s : ByteArray} {w wr : World} {st : List Int} {n : Nat} {tk : List Value} {q4 q5 : Value} {u1 u2 u3 u6 u7 u8 u9 u10 u11 u13 u14 u15 u16 u17 u18 u19 u20 u21 u22 u23 u24 u25 u26 u27 u28 u29 u30 u31 u32 u33 u34 u35 u36 u37 u38 u39 u40 u41 u42 u43 u44 u45 u46 u47 u48 u49 u50 u51 u52 u53 u54 u55 u56 u57 u58 u59 u60 u61 u62 u63 u64 u65 u66 u67 u68 u69 u70 u71 u72 u73 u74 u75 u76 u77 u78 u79 u80 u81 u82 u83 u84 u85 u86 u87 u88 u89 u90 u91 u92 u93 u94 u95 u96 u97 u98 u99 u100 u101 u102 u103 u104 u105 u106 u107 u108 u109 u110 u111 u112 u113 u114 u115 u116 u117 u118 u119 u120 u121 u122 u123 u124 u125 u126 u127 u128 u129 u130 u131 u132 u133 u134 u135 u136 u137 u138 u139 u140 u141 u142 u143 u144 u145 u146 u147 u148 u149 u150 u151 u152 u153 u154 u155 u156 u157 u158 u159 u160 u161 u162 u163 u164 u165 u166 u167 : Value} {K : Act → World → Prop} {Q : Exit → Act → World → Prop}
    (hRO : RO w st n tk q4 q5 wr) (hn : n ≤ 24001) (hst : st.length ≤ 24002) (hst1 : 1 ≤ st.length)
    (hrest : ∀ (v149 v150 v151 v152 v153 v154 v155 v156 v157 v158 v159 v160 v12 : Value) (r4 : Value) (wx : World), RO w st (n + (st.length - 1)) (tk ++ dedents s.size (st.length - 1)) r4 q5 wx → K ⟨#[.string s, u1, u2, u3, r4, q5, u6, u7, u8, u9, u10, u11, v12, u13, u14, u15, u16, u17, u18, u19, u20, u21, u22, u23, u24, u25, u26, u27, u28, u29, u30, u31, u32, u33, u34, u35, u36, u37, u38, u39, u40, u41, u42, u43, u44, u45, u46, u47, u48, u49, u50, u51, u52, u53, u54, u55, u56, u57, u58, u59, u60, u61, u62, u63, u64, u65, u66, u67, u68, u69, u70, u71, u72, u73, u74, u75, u76, u77, u78, u79, u80, u81, u82, u83, u84, u85, u86, u87, u88, u89, u90, u91, u92, u93, u94, u95, u96, u97, u98, u99, u100, u101, u102, u103, u104, u105, u106, u107, u108, u109, u110, u111, u112, u113, u114, u115, u116, u117, u118, u119, u120, u121, u122, u123, u124, u125, u126, u127, u128, u129, u130, u131, u132, u133, u134, u135, u136, u137, u138, u139, u140, u141, u142, u143, u144, u145, u146, u147, u148, v149, v150, v151, v152, v153, v154, v155, v156, v157, v158, v159, v160, u161, u162, u163, u164, u165, u166, u167], []⟩ wx) :
    Code.wp Tryz.prog (lexOfBlock 10) (Exit.then K Q) ⟨#[.string s, u1, u2, u3, q4, q5, u6, u7, u8, u9, u10, u11, .int .i64 1, u13, u14, u15, u16, u17, u18, u19, u20, u21, u22, u23, u24, u25, u26, u27, u28, u29, u30, u31, u32, u33, u34, u35, u36, u37, u38, u39, u40, u41, u42, u43, u44, u45, u46, u47, u48, u49, u50, u51, u52, u53, u54, u55, u56, u57, u58, u59, u60, u61, u62, u63, u64, u65, u66, u67, u68, u69, u70, u71, u72, u73, u74, u75, u76, u77, u78, u79, u80, u81, u82, u83, u84, u85, u86, u87, u88, u89, u90, u91, u92, u93, u94, u95, u96, u97, u98, u99, u100, u101, u102, u103, u104, u105, u106, u107, u108, u109, u110, u111, u112, u113, u114, u115, u116, u117, u118, u119, u120, u121, u122, u123, u124, u125, u126, u127, u128, u129, u130, u131, u132, u133, u134, u135, u136, u137, u138, u139, u140, u141, u142, u143, u144, u145, u146, u147, u148, u149, u150, u151, u152, u153, u154, u155, u156, u157, u158, u159, u160, u161, u162, u163, u164, u165, u166, u167], []⟩ wr := by
  have HR := toHid hrest
  have HO := toHid hRO
  clear hrest
  obtain ⟨gp, capp, hv5, _, _⟩ := hRO.op
  subst hv5
  clear hRO
  conv => arg 2; whnf
  go_wp2_with fail
  go_loopg [4, 12] st.length (fun gk v4 v12 wx => ∃ k : Nat, gk = st.length + 1 - k ∧ 1 ≤ k ∧ k ≤ st.length ∧ v12 = .int .i64 (k : Int) ∧ RO w st (n + (k - 1)) (tk ++ dedents s.size (k - 1)) v4 (.slice (some ⟨gp, 0, none⟩) st.length capp) wx)
  case atStart => exact ⟨1, by omega, Nat.le_refl _, hst1, rfl, by simpa [dedents] using HO.out⟩
  case round =>
    obtain ⟨k, hgk, hk1, hk2, hv12, hR⟩ := hrel
    subst hv12
    have HGK : Hid (gk = st.length + 1 - k) := hgk
    clear hgk HO
    have hk0 : (0 : Int) ≤ (k : Int) := by omega
    have HRR := toHid hR
    by_cases hlt : k < st.length
    · have hIk : (k : Int) < (st.length : Int) := by omega
      have hout4 := hR.out
      have hwl := lt_of_heap hR.fault
      obtain ⟨i4, hj4, hx0, hx1, hx2⟩ := info_parts infoTokR
      clear hR
      go_wp2_with (first | (at_builtin; refine wpList_append_lies _ rfl _ _ _ rfl (w.heap.size + 1) 53 i4 (.agg #[.string ⟨#[]⟩, .string ⟨#[]⟩, .int .i64 0]) 3 40 Tryz.underlying28 hj4 hx0 hx1 hx2 rfl (by decide) _ (n + (k - 1)) (tk ++ dedents s.size (k - 1)) rfl (hout4.alloc _) ⟨wr.heap.size, 0, none⟩ 1 1 (tokCells kDedent ⟨#[]⟩ s.size) rfl rfl (three_new _ _ _ _ _) (fun y hy => by simp [tokCells] at hy; rcases hy with rfl | rfl | rfl <;> rfl) (by decide) (by unfold maxLen; omega) (by omega) (by simp; omega) _ rfl ?_))
      intro g5 cap5 w5 hown5 hgrow5 hat5 _
      have R5 := ro_add (gn := g5) (capn := cap5) HRR.out (by simpa [List.append_assoc] using hown5) hgrow5 hat5
      have HR5 : Hid (RO w st (n + (k + 1 - 1)) (tk ++ dedents s.size (k + 1 - 1)) (.slice (some ⟨g5, 0, none⟩) (n + (k - 1) + 1) cap5) (.slice (some ⟨gp, 0, none⟩) st.length capp) w5) := by
        show RO _ _ _ _ _ _ _
        rw [show k + 1 - 1 = (k - 1) + 1 by omega]
        show RO w st (n + (k - 1) + 1) (tk ++ (dedents s.size (k - 1) ++ tokCells kDedent ⟨#[]⟩ s.size)) _ _ _
        rw [← List.append_assoc]
        exact R5
      clear hown5 hgrow5 hat5 R5 hout4
      go_wp2
      go_roundg (st.length + 1 - (k + 1))
      case measure => have := HGK.out; omega
      case rel => exact ⟨k + 1, rfl, by omega, by omega, by go_num, HR5.out⟩
    · have hIk : ¬ (k : Int) < (st.length : Int) := by omega
      have hke : k = st.length := by omega
      have HKE := toHid hke
      clear hR hke
      go_wp2
      exact HR.out _ _ _ _ _ _ _ _ _ _ _ _ _ _ _ (by have h := HRR.out; rw [HKE.out] at h; exact h)
end Go.Proofs.YtpflpbfnifpchaaGreatDoor
