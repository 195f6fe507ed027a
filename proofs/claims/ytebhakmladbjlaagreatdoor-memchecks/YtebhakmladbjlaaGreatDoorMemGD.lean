/- The document's memory: how many words live (LiveOf), by a contract. -/
import Derived.Test.YtebhakmladbjlaaGreatDoorMemGC
namespace Go.Proofs.YtebhakmladbjlaaGreatDoor
open Go.RowKit

theorem reach_outs {m : MD} {vs : List Nat} (S : m.Shape vs) (h64 : MD64 m) : Outs vs (m.reach vs) := by
  have go : ∀ (n : Nat) (out : List Nat) (k : Nat), Outs vs out → Outs vs (reachP m.F n out k) := by
    intro n
    induction n with
    | zero => intro out k h; exact h
    | succ n ih =>
      intro out k h
      unfold reachP
      cases hk : out[k]? with
      | none => exact h
      | some f => exact ih _ _ (h.step (S.reachy h64) (h.sub f (List.mem_of_getElem? hk)))
  exact go _ _ _ ((outs_nil vs).comes (S.roots h64))
set_option maxHeartbeats 4000000 in
set_option maxRecDepth 100000 in
theorem liveOf_any (p o : Nat) (m : MD) (vs : List Nat) (hS : m.Shape vs) (h64 : MD64 m) (bR : m.R.length ≤ 300000) (w : World) (R : RepM p o m w) :
    Calls Tryz.prog 13 #[.pointer (some ⟨p, o, none⟩)] w fun ev w' => ev = .returned (.int .i64 (m.live vs : Int)) ∧ Below w.heap.size w w' := by
  have kr := reached_any p o m vs hS h64 bR w R
  have hU := reach_outs hS h64
  have hol := hU.len
  have hfew := hS.few
  have HU := toHid hU
  have HS := toHid hS
  have H64 := toHid h64
  obtain ⟨rr, hrr⟩ : ∃ rr, rr = m.reach vs := ⟨_, rfl⟩
  rw [← hrr] at kr hol HU
  have HV : Hid (m.live vs = (rr.map (fun f => 1 + szN (m.F f))).sum) := by show _ = _; unfold MD.live; rw [hrr]
  obtain ⟨lv, hlv⟩ : ∃ lv, lv = m.live vs := ⟨_, rfl⟩
  rw [← hlv]
  have HLV : Hid (lv = (rr.map (fun f => 1 + szN (m.F f))).sum) := hlv.trans HV.out
  clear hS h64 hU hrr HV hlv R
  go_enter Tryz.func13, Tryz.ntmps13
  go_wp2_with fail
  refine kr.mono ?_
  rintro ev w1 ⟨ao, cap, rfl, hL, hb1⟩
  have HL := toHid hL
  clear kr hL
  go_wp2_with fail
  go_loopg [4, 5] (rr.length + 1) (fun gk v4 v5 wr => ∃ (k n : Nat), gk = rr.length + 1 - k ∧ k ≤ rr.length ∧ v5 = .int .i64 (k : Int) ∧ v4 = .int .i64 (n : Int) ∧ n ≤ k * 4097 ∧ wr = w1 ∧ Hid (n = ((rr.take k).map (fun f => 1 + szN (m.F f))).sum))
  case atStart => exact ⟨0, 0, rfl, Nat.zero_le _, rfl, rfl, Nat.le_refl _, rfl, rfl⟩
  case round =>
    obtain ⟨k, n, hgk, hk, rfl, rfl, hn, rfl, hsum⟩ := hrel
    have HG := toHid hgk
    have hk0 : (0 : Int) ≤ (k : Int) := by omega
    clear hgk
    by_cases hlt : k < rr.length
    · have hI : (k : Int) < (rr.length : Int) := by omega
      obtain ⟨f, hf⟩ : ∃ f, rr[k]? = some f := ⟨_, List.getElem?_eq_getElem hlt⟩
      have hfv := HU.out.sub f (List.mem_of_getElem? hf)
      obtain ⟨hfh, hfl⟩ := HS.out.fine f hfv
      obtain ⟨sz, hsz⟩ : ∃ sz, sz = szN (m.F f) := ⟨_, rfl⟩
      have hszI : m.F f / 65536 = (sz : Int) := by
        have := md_range H64.out f (by omega)
        rw [hsz]
        unfold szN
        omega
      have hs4 : sz ≤ 4096 := by
        unfold headB at hfh
        have := of_decide_eq_true hfh
        omega
      obtain ⟨_, _, e, _, f1⟩ := HL.out
      cases e
      obtain ⟨p1, o1, rfl, l1, g1⟩ := f1 (by omega)
      have r3 : wr.cell? ⟨p1, o1 + k * 4 + 3, none⟩ = some (.int .i64 (sz : Int)) := by rw [← hszI]; exact g1 (k * 4 + 3) _ (objs_at hf 3 (by omega))
      have HS2 : Hid (n + 1 + sz = ((rr.take (k + 1)).map (fun f => 1 + szN (m.F f))).sum) := by show _ = _; rw [sumN_step hf, ← hsum.out, ← hsz]; omega
      clear g1 f1 hsum hsz hszI hfh hfl hf
      go_wp2_with fail
      go_roundg (rr.length + 1 - (k + 1))
      case measure => have := HG.out; omega
      case rel => exact ⟨k + 1, n + 1 + sz, rfl, by omega, by go_num, by go_num, by omega, rfl, HS2⟩
    · have hI : ¬ (k : Int) < (rr.length : Int) := by omega
      have HE : Hid (n = lv) := by show _ = _; rw [hsum.out, HLV.out, List.take_of_length_le (by omega)]
      go_wp2_with fail
      go_ret
      have e := HE.out
      subst e
      exact ⟨rfl, hb1⟩
end Go.Proofs.YtebhakmladbjlaaGreatDoor
