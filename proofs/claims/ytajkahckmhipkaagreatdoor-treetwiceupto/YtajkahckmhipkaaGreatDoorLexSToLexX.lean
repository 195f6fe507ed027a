/- Package lex: the walk of Lex. -/
import Derived.Test.YtajkahckmhipkaaGreatDoorLexPToLexR
import Derived.KernelRfl
import Derived.Laws.Concat
import Derived.Deep.RegionHeld3
import Derived.Deep.DrawnRows
namespace Go.Proofs.YtajkahckmhipkaaGreatDoor
open Go.RowKit

/-- What Lex comes to. -/
def XPost (s : ByteArray) (a0 a1 : Addr) (w : World) (ev : Ending) (w' : World) : Prop :=
  Below w.heap.size w w' ∧
  if 6000 < s.size then ev = .returned (.tuple #[.slice none 0 0, .iface 163 (.pointer (some a1))])
  else match lexP s with
    | .ok (n, tk) => ∃ vt, ev = .returned (.tuple #[vt, .nilIface]) ∧ w'.ownsRow w.heap.size 79 3 vt n tk
    | .error e => ∃ b, ev = .returned (.tuple #[.slice none 0 0, .iface 58 (.pointer (some ⟨b, 0, none⟩))]) ∧ w'.cell? ⟨b, 0, none⟩ = some (.int .i64 e) ∧ w'.cell? ⟨b, 1, none⟩ = some (.iface 163 (.pointer (some a0)))

set_option maxHeartbeats 1000000 in
theorem lex_long (s : ByteArray) (a0 a1 : Addr) (w : World) (h : 6000 < s.size) (hg1 : w.cell? ⟨1, 0, none⟩ = some (.iface 163 (.pointer (some a1)))) :
    Calls Tryz.prog 17 #[.string s] w fun ev w' => XPost s a0 a1 w ev w' := by
  have hI : (6000 : Int) < (s.size : Int) := by omega
  have hgl := lt_of_cell hg1
  have hgA : ((w.alloc (.cells #[.slice none 0 0] 55)).alloc (.cells #[.nilIface] 26)).cell? ⟨1, 0, none⟩ = some (.iface 163 (.pointer (some a1))) := by
    rw [World.cell?_alloc_past _ _ _ (Nat.lt_of_lt_of_le hgl (by simp)), World.cell?_alloc_past _ _ _ hgl]; exact hg1
  go_enter_defers Tryz.func17, Tryz.ntmps17
  go_wp2
  go_region
  all_goals (try go_wp2)
  simp [bodyPostD, Leaves, results, Tryz.results17, go_sem]
  refine ⟨(((Below.refl _ _).alloc (Nat.le_refl _) _).alloc (by simp) _).drew, ?_⟩
  rw [if_pos h]

/-- The memory in which Lex reads: two results, a slice of one indentation, the reader. -/
theorem rs0 (s : ByteArray) (w : World) (hs : s.size ≤ 6000) :
    RS (w.heap.size + 1 + 1) (w.heap.size + 1 + 1 + 1) s 0 [0] 0 [] ((((w.alloc (.cells #[.slice none 0 0] 55)).alloc (.cells #[.nilIface] 26)).alloc (.cells #[.int .i64 0] 3)).alloc (.cells #[.string s, .int .i64 0, .slice (some ⟨w.heap.size + 1 + 1, 0, none⟩) 1 1, .slice none 0 0] 75)) := by
  have hz : (((w.alloc (.cells #[.slice none 0 0] 55)).alloc (.cells #[.nilIface] 26)).alloc (.cells #[.int .i64 0] 3)).heap.size = w.heap.size + 1 + 1 + 1 := by simp
  have hc : ∀ o, ((((w.alloc (.cells #[.slice none 0 0] 55)).alloc (.cells #[.nilIface] 26)).alloc (.cells #[.int .i64 0] 3)).alloc (.cells #[.string s, .int .i64 0, .slice (some ⟨w.heap.size + 1 + 1, 0, none⟩) 1 1, .slice none 0 0] 75)).cell? ⟨w.heap.size + 1 + 1 + 1, o, none⟩ = (#[.string s, .int .i64 0, .slice (some ⟨w.heap.size + 1 + 1, 0, none⟩) 1 1, .slice none 0 0] : Array Value)[o]? := fun o => World.cell?_alloc_at _ _ _ _ hz.symm
  have hf : ∀ o, ((((w.alloc (.cells #[.slice none 0 0] 55)).alloc (.cells #[.nilIface] 26)).alloc (.cells #[.int .i64 0] 3)).alloc (.cells #[.string s, .int .i64 0, .slice (some ⟨w.heap.size + 1 + 1, 0, none⟩) 1 1, .slice none 0 0] 75)).frozen? ⟨w.heap.size + 1 + 1 + 1, o, none⟩ = false := fun o => World.frozen?_alloc_at _ _ _ _ hz.symm
  refine ⟨⟨hs, Nat.zero_le _, hc 0, hc 1, hf 1⟩, by omega, by simp, ⟨w.heap.size + 1 + 1, 1, .slice none 0 0, hc 2, hc 3, ⟨by simp, .inr ⟨w.heap.size + 1 + 1, 1, #[.int .i64 0], rfl, Nat.le_refl _, ?_, Nat.le_refl _, by unfold maxLen; omega, rfl, rfl⟩⟩, World.ownsRow_nil _ _ _ _, by omega, by simp [Value.ownBlock], by simp [Value.ownBlock]⟩, hf 2, hf 3⟩
  rw [Below.heap_alloc _ _ _ (by rw [hz]; omega)]
  have hz2 : ((w.alloc (.cells #[.slice none 0 0] 55)).alloc (.cells #[.nilIface] 26)).heap.size = w.heap.size + 1 + 1 := by simp
  rw [← hz2]
  exact heap_alloc_new _ _

theorem cell_of_heap {w : World} {k : Nat} {c : Array Value} {t : TypeId} {v : Value} (h : w.heap[k]? = some (.cells c t)) (hc : c[0]? = some v) : w.cell? ⟨k, 0, none⟩ = some v := by
  rw [cell_of_row w k 0 c t (0, 0) h]; exact hc
theorem frozen_of_heap {w : World} {k : Nat} {c : Array Value} {t : TypeId} (h : w.heap[k]? = some (.cells c t)) : w.frozen? ⟨k, 0, none⟩ = false := by
  simp [World.frozen?, h]

/-- Behind the deferred closure, where a fault was thrown. -/
theorem thrown_done {s : ByteArray} {e b : Nat} {a0 a1 : Addr} {w w1 : World} (h : s.size ≤ 6000) (hx : lexP s = .error e) (hb : Below w.heap.size w w1) (t2 : w1.cell? ⟨b, 0, none⟩ = some (.int .i64 e)) (t3 : w1.cell? ⟨b, 1, none⟩ = some (.iface 163 (.pointer (some a0))))
    (hl : w1.heap[w.heap.size]? = some (.cells #[.slice none 0 0] 55)) (he : w1.heap[w.heap.size + 1]? = some (.cells #[.nilIface] 26)) :
    ((w1.setCell ⟨w.heap.size, 0, none⟩ (.slice none 0 0)).setCell ⟨w.heap.size + 1, 0, none⟩ (.iface 58 (.pointer (some ⟨b, 0, none⟩)))).cell? ⟨w.heap.size, 0, none⟩ = some (.slice none 0 0) ∧
    ((w1.setCell ⟨w.heap.size, 0, none⟩ (.slice none 0 0)).setCell ⟨w.heap.size + 1, 0, none⟩ (.iface 58 (.pointer (some ⟨b, 0, none⟩)))).cell? ⟨w.heap.size + 1, 0, none⟩ = some (.iface 58 (.pointer (some ⟨b, 0, none⟩))) ∧
    XPost s a0 a1 w (.returned (.tuple #[.slice none 0 0, .iface 58 (.pointer (some ⟨b, 0, none⟩))])) ((w1.setCell ⟨w.heap.size, 0, none⟩ (.slice none 0 0)).setCell ⟨w.heap.size + 1, 0, none⟩ (.iface 58 (.pointer (some ⟨b, 0, none⟩)))) := by
  have n1 : b ≠ w.heap.size := fun e1 => by
    rw [e1, cell_of_row w1 _ 1 _ _ (0, 0) hl] at t3
    simp at t3
  have n2 : b ≠ w.heap.size + 1 := fun e1 => by
    rw [e1, cell_of_row w1 _ 1 _ _ (0, 0) he] at t3
    simp at t3
  have hc : ∀ o k, k ≠ w.heap.size → k ≠ w.heap.size + 1 → ((w1.setCell ⟨w.heap.size, 0, none⟩ (.slice none 0 0)).setCell ⟨w.heap.size + 1, 0, none⟩ (.iface 58 (.pointer (some ⟨b, 0, none⟩)))).cell? ⟨k, o, none⟩ = w1.cell? ⟨k, o, none⟩ := fun o k h1 h2 => by
    rw [World.cell?_of_block (w := w1.setCell ⟨w.heap.size, 0, none⟩ (.slice none 0 0)) (a := ⟨k, o, none⟩) (heap_set _ _ _ _ _ h2), World.cell?_of_block (w := w1) (a := ⟨k, o, none⟩) (heap_set _ _ _ _ _ h1)]
  refine ⟨?_, ?_, (hb.setCell (Nat.le_refl _) _).setCell (by simp) _, ?_⟩
  · rw [World.cell?_of_block (w := w1.setCell ⟨w.heap.size, 0, none⟩ (.slice none 0 0)) (a := ⟨w.heap.size, 0, none⟩) (heap_set _ _ _ _ _ (by simp))]
    exact World.cell?_setCell_same _ _ _ (cell_of_heap hl rfl)
  · refine World.cell?_setCell_same _ _ _ (u := .nilIface) ?_
    rw [World.cell?_of_block (w := w1) (a := ⟨w.heap.size + 1, 0, none⟩) (heap_set _ _ _ _ _ (by simp))]
    exact cell_of_heap he rfl
  · rw [if_neg (by omega), hx]
    exact ⟨b, rfl, (hc 0 b n1 n2).trans t2, (hc 1 b n1 n2).trans t3⟩

/-- Behind the deferred closure, where all went well. -/
theorem fine_done {s : ByteArray} {n : Nat} {tk : List Value} {a0 a1 : Addr} {w w1 : World} {vt : Value} (h : s.size ≤ 6000) (hx : lexP s = .ok (n, tk)) (hb : Below w.heap.size w w1) (ho : w1.ownsRow (w.heap.size + 1 + 1) 79 3 vt n tk)
    (hl : w1.heap[w.heap.size]? = some (.cells #[.slice none 0 0] 55)) (he : w1.heap[w.heap.size + 1]? = some (.cells #[.nilIface] 26)) :
    ((w1.setCell ⟨w.heap.size, 0, none⟩ vt).setCell ⟨w.heap.size + 1, 0, none⟩ .nilIface).cell? ⟨w.heap.size, 0, none⟩ = some vt ∧
    ((w1.setCell ⟨w.heap.size, 0, none⟩ vt).setCell ⟨w.heap.size + 1, 0, none⟩ .nilIface).cell? ⟨w.heap.size + 1, 0, none⟩ = some .nilIface ∧
    XPost s a0 a1 w (.returned (.tuple #[vt, .nilIface])) ((w1.setCell ⟨w.heap.size, 0, none⟩ vt).setCell ⟨w.heap.size + 1, 0, none⟩ .nilIface) := by
  refine ⟨?_, ?_, (hb.setCell (Nat.le_refl _) _).setCell (by simp) _, ?_⟩
  · rw [World.cell?_of_block (w := w1.setCell ⟨w.heap.size, 0, none⟩ vt) (a := ⟨w.heap.size, 0, none⟩) (heap_set _ _ _ _ _ (by simp))]
    exact World.cell?_setCell_same _ _ _ (cell_of_heap hl rfl)
  · refine World.cell?_setCell_same _ _ _ (u := .nilIface) ?_
    rw [World.cell?_of_block (w := w1) (a := ⟨w.heap.size + 1, 0, none⟩) (heap_set _ _ _ _ _ (by simp))]
    exact cell_of_heap he rfl
  · rw [if_neg (by omega), hx]
    refine ⟨vt, rfl, ho.1, ?_⟩
    rcases ho.2 with hn | ⟨g, cap, cur, hv, hg, hc, rest⟩
    · exact .inl hn
    · refine .inr ⟨g, cap, cur, hv, by omega, ?_, rest⟩
      rw [heap_set _ _ _ _ _ (by omega), heap_set _ _ _ _ _ (by omega)]
      exact hc

theorem line_any (B p : Nat) (s : ByteArray) (σ : LexSt) (a0 : Addr) (w : World) (h : RS B p s σ.at_ σ.st.reverse σ.n σ.tk w) (E : Env B a0 w) (I : Inv s σ) :
    Calls Tryz.prog 29 #[.pointer (some ⟨p, 0, none⟩)] w fun ev w' => LPost B p s σ a0 w ev w' := by
  cases he : endsB s (skipTo s σ.at_)
  · exact line_toks B p s σ a0 w h E I he
  · exact line_blank B p s σ a0 w h he

set_option maxHeartbeats 2000000 in
theorem lex_short (s : ByteArray) (a0 a1 : Addr) (w : World) (h : s.size ≤ 6000) (E : Env w.heap.size a0 w) :
    Calls Tryz.prog 17 #[.string s] w fun ev w' => XPost s a0 a1 w ev w' := by
  have hI : ¬ (6000 : Int) < (s.size : Int) := by omega
  have hmf : ∀ (fn : Fn) (first cap : Array Value) (w : World), (Instr.makeFunc fn first cap).run Tryz.prog w = .ok (.func fn first cap) w := fun _ _ _ _ => rfl
  have hR0 := rs0 s w h
  go_enter_defers Tryz.func17, Tryz.ntmps17
  go_wp2_with fail
  have hb0 : Below w.heap.size w ((((w.alloc (.cells #[.slice none 0 0] 55)).alloc (.cells #[.nilIface] 26)).alloc (.cells #[.int .i64 0] 3)).alloc (.cells #[.string s, .int .i64 0, .slice (some ⟨w.heap.size + 1 + 1, 0, none⟩) 1 1, .slice none 0 0] 75)) := ((((Below.refl _ _).alloc (Nat.le_refl _) _).alloc (by simp) _).alloc (by simp; omega) _).alloc (by simp; omega) _
  have hl0 : ((((w.alloc (.cells #[.slice none 0 0] 55)).alloc (.cells #[.nilIface] 26)).alloc (.cells #[.int .i64 0] 3)).alloc (.cells #[.string s, .int .i64 0, .slice (some ⟨w.heap.size + 1 + 1, 0, none⟩) 1 1, .slice none 0 0] 75)).heap[w.heap.size]? = some (.cells #[.slice none 0 0] 55) := by
    rw [Below.heap_alloc _ _ _ (by simp <;> omega), Below.heap_alloc _ _ _ (by simp <;> omega), Below.heap_alloc _ _ _ (by simp)]
    exact heap_alloc_new _ _
  have he0 : ((((w.alloc (.cells #[.slice none 0 0] 55)).alloc (.cells #[.nilIface] 26)).alloc (.cells #[.int .i64 0] 3)).alloc (.cells #[.string s, .int .i64 0, .slice (some ⟨w.heap.size + 1 + 1, 0, none⟩) 1 1, .slice none 0 0] 75)).heap[w.heap.size + 1]? = some (.cells #[.nilIface] 26) := by
    rw [Below.heap_alloc _ _ _ (by simp <;> omega), Below.heap_alloc _ _ _ (by simp)]
    have hz : (w.alloc (.cells #[.slice none 0 0] 55)).heap.size = w.heap.size + 1 := by simp
    rw [← hz]
    exact heap_alloc_new _ _
  generalize ((((w.alloc (.cells #[.slice none 0 0] 55)).alloc (.cells #[.nilIface] 26)).alloc (.cells #[.int .i64 0] 3)).alloc (.cells #[.string s, .int .i64 0, .slice (some ⟨w.heap.size + 1 + 1, 0, none⟩) 1 1, .slice none 0 0] 75)) = W0 at hR0 hb0 hl0 he0 ⊢
  have hz0 : w.heap.size + 1 + 1 + 1 < W0.heap.size := hR0.hpl
  have E0 : Env (w.heap.size + 1 + 1) a0 W0 := by
    have E1 := E.below hb0
    exact ⟨E1.hg, E1.words, E1.ops, E1.range, by have := E1.bg; omega, by have := E1.bw; omega, by have := E1.bo; omega, by have := E1.br; omega⟩
  go_loopg [] s.size (fun gk wr => ∃ σ : LexSt, gk = s.size - σ.at_ ∧ Inv s σ ∧ runLines s (s.size - σ.at_) σ = runLines s s.size ⟨0, [0], 0, []⟩ ∧ RS (w.heap.size + 1 + 1) (w.heap.size + 1 + 1 + 1) s σ.at_ σ.st.reverse σ.n σ.tk wr ∧ Below (w.heap.size + 1 + 1) W0 wr)
  case atStart => exact ⟨⟨0, [0], 0, []⟩, rfl, inv0 s, rfl, hR0, Below.refl _ _⟩
  case round =>
    obtain ⟨σ, hgk, I, hrun, hr, hbr⟩ := hrel
    have HG : Hid (gk = s.size - σ.at_) := hgk
    have HRUN : Hid (runLines s (s.size - σ.at_) σ = runLines s s.size ⟨0, [0], 0, []⟩) := hrun
    clear hgk hrun hR0
    have hat := I.hat
    have hcnt := I.cnt
    have Er := E0.below hbr
    have c1 := hr.hA.c1
    by_cases hlt : σ.at_ < s.size
    · have hIlt : (σ.at_ : Int) < (s.size : Int) := by omega
      go_wp2_with fail
      refine (line_any _ _ s σ a0 wr hr Er I).mono ?_
      intro ev w1 hq
      unfold LPost at hq
      cases hls : lineStep s σ with
      | ok σ' =>
        rw [hls] at hq
        obtain ⟨rfl, h1, hb1⟩ := hq
        have hi := lineStep_inv I hlt hls
        have hgo := runLines_go I hlt hls
        have HGO : Hid (runLines s (s.size - σ.at_) σ = runLines s (s.size - σ'.at_) σ') := hgo
        clear hls hgo
        go_wp2_with fail
        go_roundg (s.size - σ'.at_)
        case measure => have := HG.out; omega
        case rel => exact ⟨σ', rfl, hi.1, HGO.out.symm.trans HRUN.out, h1, hbr.trans hb1⟩
      | error e =>
        rw [hls] at hq
        have HX : Hid (lexP s = .error e) := show lexP s = .error e by
          unfold lexP
          rw [← HRUN.out, runLines_err hlt hls]
        clear hls
        obtain ⟨b, rfl, t1, t2, t3⟩ := hq
        have hbw := hbr.trans t1
        go_wp2_with fail
        refine leaves_cons (f := 28) (args := #[.pointer (some ⟨w.heap.size, 0, none⟩), .pointer (some ⟨w.heap.size + 1, 0, none⟩)]) (by simp) (by simp [go_sem]) ?_
        have hl1 : w1.heap[w.heap.size]? = some (.cells #[.slice none 0 0] 55) := (hbw.block _ (by omega)).trans hl0
        have he1 : w1.heap[w.heap.size + 1]? = some (.cells #[.nilIface] 26) := (hbw.block _ (by omega)).trans he0
        refine (catch_fault w.heap.size (w.heap.size + 1) ⟨b, 0, none⟩ [] (.slice none 0 0) .nilIface w1 (by omega) (cell_of_heap hl1 rfl) (frozen_of_heap hl1) (cell_of_heap he1 rfl) (frozen_of_heap he1)).mono ?_
        rintro ev u' w2 ⟨rfl, rfl, rfl⟩
        have D := thrown_done (s := s) (a0 := a0) (a1 := a1) h HX.out (hb0.trans (hbw.mono (by omega))) t2 t3 hl1 he1
        clear hl1 he1 hl0 he0 t1 t2 t3 hbw hbr
        generalize (w1.setCell ⟨w.heap.size, 0, none⟩ (.slice none 0 0)).setCell ⟨w.heap.size + 1, 0, none⟩ (.iface 58 (.pointer (some ⟨b, 0, none⟩))) = w3 at D ⊢
        obtain ⟨d1, d2, d3⟩ := D
        simp [Leaves, settle, results, Tryz.results17, go_sem, d1, d2]
        exact d3
    · have hIlt : ¬ (σ.at_ : Int) < (s.size : Int) := by omega
      have hrun := HRUN.out
      rw [runLines_end hlt] at hrun
      have HR : Hid (runLines s s.size ⟨0, [0], 0, []⟩ = .ok σ) := hrun.symm
      clear hrun
      go_wp2_with fail
      refine (settle_any _ _ s σ.at_ σ.st 0 σ.n σ.tk a0 wr hr Er I.last (by omega) (by omega) (by omega)).mono ?_
      intro ev w1 hq
      unfold StPost at hq
      cases hst : settleP σ.st 0 σ.at_ σ.n σ.tk with
      | none =>
        rw [hst] at hq
        have HX : Hid (lexP s = .error σ.at_) := show lexP s = .error σ.at_ by
          unfold lexP
          rw [HR.out]
          simp only [hst]
        clear hst
        obtain ⟨b, rfl, t1, t2, t3⟩ := hq
        have hbw := hbr.trans t1
        go_wp2_with fail
        refine leaves_cons (f := 28) (args := #[.pointer (some ⟨w.heap.size, 0, none⟩), .pointer (some ⟨w.heap.size + 1, 0, none⟩)]) (by simp) (by simp [go_sem]) ?_
        have hl1 : w1.heap[w.heap.size]? = some (.cells #[.slice none 0 0] 55) := (hbw.block _ (by omega)).trans hl0
        have he1 : w1.heap[w.heap.size + 1]? = some (.cells #[.nilIface] 26) := (hbw.block _ (by omega)).trans he0
        refine (catch_fault w.heap.size (w.heap.size + 1) ⟨b, 0, none⟩ [] (.slice none 0 0) .nilIface w1 (by omega) (cell_of_heap hl1 rfl) (frozen_of_heap hl1) (cell_of_heap he1 rfl) (frozen_of_heap he1)).mono ?_
        rintro ev u' w2 ⟨rfl, rfl, rfl⟩
        have D := thrown_done (s := s) (a0 := a0) (a1 := a1) h HX.out (hb0.trans (hbw.mono (by omega))) t2 t3 hl1 he1
        clear hl1 he1 hl0 he0 t1 t2 t3 hbw hbr
        generalize (w1.setCell ⟨w.heap.size, 0, none⟩ (.slice none 0 0)).setCell ⟨w.heap.size + 1, 0, none⟩ (.iface 58 (.pointer (some ⟨b, 0, none⟩))) = w3 at D ⊢
        obtain ⟨d1, d2, d3⟩ := D
        simp [Leaves, settle, results, Tryz.results17, go_sem, d1, d2]
        exact d3
      | some x =>
        obtain ⟨st', n', tk'⟩ := x
        rw [hst] at hq
        obtain ⟨rfl, h1, hb1⟩ := hq
        have hinv := settleP_inv hst I.last
        have HX : Hid (lexP s = .ok (n' + 1, tk' ++ tokCells kEnd ⟨#[]⟩ σ.at_)) := show lexP s = .ok (n' + 1, tk' ++ tokCells kEnd ⟨#[]⟩ σ.at_) by
          unfold lexP
          rw [HR.out]
          simp only [hst]
        clear hst
        have hbw1 := hbr.trans hb1
        have d1 := h1.hA.c1
        go_wp2_with fail
        refine (add_any _ _ s σ.at_ st'.reverse n' tk' w1 _ _ σ.at_ h1 (by have := hbw1.size; omega) (by omega)).mono ?_
        rintro ev w2 ⟨rfl, h2, hb2⟩
        have hbw := hbw1.trans hb2
        have hl1 : w2.heap[w.heap.size]? = some (.cells #[.slice none 0 0] 55) := (hbw.block _ (by omega)).trans hl0
        have he1 : w2.heap[w.heap.size + 1]? = some (.cells #[.nilIface] 26) := (hbw.block _ (by omega)).trans he0
        obtain ⟨g, cap, vt, k2, k3, o2, o3, ngp, ntp, ntg⟩ := h2.ex
        obtain ⟨g2, cap2, hvt, _, _⟩ := o3.form (by omega)
        subst hvt
        have cl := cell_of_heap hl1 rfl
        have fl := frozen_of_heap hl1
        have ce := cell_of_heap he1 rfl
        have fe := frozen_of_heap he1
        have D := fine_done (s := s) (a0 := a0) (a1 := a1) h HX.out (hb0.trans (hbw.mono (by omega))) o3 hl1 he1
        clear hl1 he1 hl0 he0 hbw hbw1 hbr hb1 hb2 d1 h1 o2 k2
        go_wp2_with fail
        refine leaves_cons (f := 28) (args := #[.pointer (some ⟨w.heap.size, 0, none⟩), .pointer (some ⟨w.heap.size + 1, 0, none⟩)]) (by simp) (by simp [go_sem]) ?_
        refine (catch_idle w.heap.size (w.heap.size + 1) _).mono ?_
        rintro ev u' w3 ⟨rfl, rfl, rfl⟩
        generalize (w2.setCell ⟨w.heap.size, 0, none⟩ (.slice (some ⟨g2, 0, none⟩) (n' + 1) cap2)).setCell ⟨w.heap.size + 1, 0, none⟩ .nilIface = w4 at D ⊢
        obtain ⟨d1, d2, d3⟩ := D
        simp [Leaves, settle, results, Tryz.results17, go_sem, d1, d2]
        exact d3
end Go.Proofs.YtajkahckmhipkaaGreatDoor

/- The laws' small helpers: Lex by one contract, one, the bytes of a str. -/
namespace Go.Proofs.YtajkahckmhipkaaGreatDoor
open Go.RowKit

/-- What a law about package lex reads of the program's own variables. -/
structure LEnv (B : Nat) (a0 a1 : Addr) (w : World) : Prop where
  env : Env B a0 w
  g1 : w.cell? ⟨1, 0, none⟩ = some (.iface 163 (.pointer (some a1)))
  b1 : 1 < B

theorem LEnv.below {B : Nat} {a0 a1 : Addr} {w w' : World} (h : LEnv B a0 a1 w) (hb : Below B w w') : LEnv B a0 a1 w' :=
  ⟨h.env.below hb, (hb.cell (p := ⟨1, 0, none⟩) h.b1).trans h.g1, h.b1⟩
theorem LEnv.up {B C : Nat} {a0 a1 : Addr} {w : World} (h : LEnv B a0 a1 w) (hC : B ≤ C) : LEnv C a0 a1 w :=
  ⟨⟨h.env.hg, h.env.words, h.env.ops, h.env.range, Nat.lt_of_lt_of_le h.env.bg hC, Nat.lt_of_lt_of_le h.env.bw hC, Nat.lt_of_lt_of_le h.env.bo hC, Nat.lt_of_lt_of_le h.env.br hC⟩, h.g1, Nat.lt_of_lt_of_le h.b1 hC⟩

/-- Lex, for every program. -/
theorem lex_any (s : ByteArray) (a0 a1 : Addr) (w : World) (E : LEnv w.heap.size a0 a1 w) : Calls Tryz.prog 17 #[.string s] w fun ev w' => XPost s a0 a1 w ev w' := by
  by_cases h : 6000 < s.size
  · exact lex_long s a0 a1 w h E.g1
  · exact lex_short s a0 a1 w (by omega) E.env

end Go.Proofs.YtajkahckmhipkaaGreatDoor

/- The law LexQuotes: Byte and Quoted of the document's answer, by contracts. -/
namespace Go.Proofs.YtajkahckmhipkaaGreatDoor
open Go.RowKit

def hexDig (n : Nat) : UInt8 := ([48, 49, 50, 51, 52, 53, 54, 55, 56, 57, 97, 98, 99, 100, 101, 102] : List UInt8).getD n 0
/-- A byte, as it is written in a str. -/
def escB (c : UInt8) : List UInt8 :=
  if c.toNat = 10 then [92, 110]
  else if c.toNat = 34 then [92, 34]
  else if c.toNat = 92 then [92, 92]
  else if c.toNat < 32 ∨ 126 < c.toNat then [92, 120, hexDig (c.toNat / 16), hexDig (c.toNat % 16)]
  else [c]
def quotedB (l : List UInt8) : ByteArray := ⟨([34] ++ l.flatMap escB ++ [34]).toArray⟩

theorem escB_len (c : UInt8) : (escB c).length ≤ 4 := by
  unfold escB
  repeat (first | split | simp)
theorem flat_len : ∀ l : List UInt8, (l.flatMap escB).length ≤ 4 * l.length
  | [] => by simp
  | c :: r => by
    have := escB_len c
    have := flat_len r
    simp only [List.flatMap_cons, List.length_append, List.length_cons]
    omega
theorem take_snoc (s : ByteArray) (k : Nat) (h : k < s.size) : s.data.toList.take (k + 1) = s.data.toList.take k ++ [s[k]] := by
  rw [List.take_succ_eq_append_getElem (by simpa using h)]; rfl

theorem nat_of_beq {n : Nat} {z : Int} (h : ((n : Int) == z) = true) : (n : Int) = z := by simpa using h
theorem nat_of_beqf {n : Nat} {z : Int} (h : ((n : Int) == z) = false) : ¬ (n : Int) = z := by simpa using h
end Go.Proofs.YtajkahckmhipkaaGreatDoor

/- The law LexQuotes: what is written as a str is read as that str. -/
namespace Go.Proofs.YtajkahckmhipkaaGreatDoor
open Go.RowKit

theorem get_at {q : ByteArray} {pre rest : List UInt8} {x : UInt8} (h : q.data.toList = pre ++ x :: rest) : ∃ hlt : pre.length < q.size, q[pre.length] = x := by
  have hl : pre.length < q.data.toList.length := by rw [h]; simp
  have hlt : pre.length < q.size := by simpa using hl
  refine ⟨hlt, ?_⟩
  have e : q.data.toList[pre.length] = x := by simp [h]
  have e2 : q.data[pre.length] = x := by simpa using e
  exact e2

theorem data_size {q : ByteArray} {l : List UInt8} (h : q.data.toList = l) : q.size = l.length := by
  have := congrArg List.length h
  simpa using this

theorem escB_cases (c : UInt8) : (c.toNat = 10 ∧ escB c = [92, 110]) ∨ (c.toNat = 34 ∧ escB c = [92, 34]) ∨ (c.toNat = 92 ∧ escB c = [92, 92]) ∨ escB c = [92, 120, hexDig (c.toNat / 16), hexDig (c.toNat % 16)] ∨ (escB c = [c] ∧ c.toNat ≠ 34 ∧ c.toNat ≠ 92 ∧ 32 ≤ c.toNat ∧ c.toNat ≤ 126) := by
  unfold escB
  split
  · exact .inl ⟨by assumption, rfl⟩
  · split
    · exact .inr (.inl ⟨by assumption, rfl⟩)
    · split
      · exact .inr (.inr (.inl ⟨by assumption, rfl⟩))
      · split
        · exact .inr (.inr (.inr (.inl rfl)))
        · exact .inr (.inr (.inr (.inr ⟨rfl, by assumption, by assumption, by omega, by omega⟩)))

end Go.Proofs.YtajkahckmhipkaaGreatDoor

/- Package lex: a line of blanks and one letter. -/
namespace Go.Proofs.YtajkahckmhipkaaGreatDoor
open Go.RowKit

end Go.Proofs.YtajkahckmhipkaaGreatDoor

/- The law LexDeep, plain: what Lex comes to at lines that stand deeper and deeper, and one that goes back. -/
namespace Go.Proofs.YtajkahckmhipkaaGreatDoor
open Go.RowKit

/-- Falling, strictly. -/
def falls : List Int → Prop
  | [] => True
  | [_] => True
  | x :: y :: r => y < x ∧ falls (y :: r)

theorem falls_lt : ∀ (l : List Int) (x : Int) (b : Nat) (y : Int), falls (x :: l) → l[b]? = some y → y < x
  | [], x, b, y, h, hy => by simp at hy
  | z :: r, x, 0, y, h, hy => by simp at hy; have := h.1; omega
  | z :: r, x, b + 1, y, h, hy => by
    have := falls_lt r z b y h.2 (by simpa using hy)
    have := h.1
    omega
theorem falls_tail {x : Int} {l : List Int} (h : falls (x :: l)) : falls l := by
  cases l with
  | nil => trivial
  | cons y r => exact h.2

end Go.Proofs.YtajkahckmhipkaaGreatDoor
