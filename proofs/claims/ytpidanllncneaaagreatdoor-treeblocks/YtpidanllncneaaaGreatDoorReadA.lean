/- Package tree: Read. -/
import Derived.Test.YtpidanllncneaaaGreatDoorBlkLToSameP
namespace Go.Proofs.YtpidanllncneaaaGreatDoor
open Go.RowKit

set_option maxHeartbeats 400000 in
theorem rcatch_idle (bl be : Nat) (w : World) :
    CallsD Tryz.prog 9 #[.pointer (some ⟨bl, 0, none⟩), .pointer (some ⟨be, 0, none⟩)] .returning w fun e u' w' => e = .returned (.tuple #[]) ∧ u' = .returning ∧ w' = w := by
  refine callsD_of_wpS Tryz.func9 rfl fun c₀ cs hu => ?_
  apply wpS_seq
  apply wpS_region
  simp [wpOpsS, go_sem, recoverD, hu, Tryz.ntmps9, Exit.thenS]
  apply wpS_seq
  apply wpS_seq
  apply wpS_region
  simp [wpOpsS, go_sem, Exit.thenS]
  refine wpS_cond (t := true) (by simp [Act.eval, Array.replicate]) ?_
  simp only [if_true]
  refine wpS_of_wp (wp_ret ?_)
  cases c₀
  simp_all [bodyPostS, results, Tryz.results9, Exit.thenS]

set_option maxHeartbeats 1000000 in
theorem rcatch_fault (bl be : Nat) (f : Addr) (older : List PanicEntry) (vl ve : Value) (w : World) (hne : bl ≠ be) (hl : w.cell? ⟨bl, 0, none⟩ = some vl) (hlf : w.frozen? ⟨bl, 0, none⟩ = false) (he : w.cell? ⟨be, 0, none⟩ = some ve) (hef : w.frozen? ⟨be, 0, none⟩ = false) :
    CallsD Tryz.prog 9 #[.pointer (some ⟨bl, 0, none⟩), .pointer (some ⟨be, 0, none⟩)] (.panicking ({ v := .iface 39 (.pointer (some f)), recovered := false } :: older)) w fun e u' w' =>
      e = .returned (.tuple #[]) ∧ u' = .panicking ({ v := .iface 39 (.pointer (some f)), recovered := true } :: older) ∧ w' = (w.setCell ⟨bl, 0, none⟩ (.slice none 0 0)).setCell ⟨be, 0, none⟩ (.iface 39 (.pointer (some f))) := by
  have ha := assertFault f
  have he2 : (w.setCell ⟨bl, 0, none⟩ (.slice none 0 0)).cell? ⟨be, 0, none⟩ = some ve := by rw [World.cell?_of_block (w := w) (a := ⟨be, 0, none⟩) (heap_set _ _ _ _ _ hne.symm)]; exact he
  have hf2 : (w.setCell ⟨bl, 0, none⟩ (.slice none 0 0)).frozen? ⟨be, 0, none⟩ = false := by rw [World.frozen?_of_block (w := w) (a := ⟨be, 0, none⟩) (heap_set _ _ _ _ _ hne.symm)]; exact hef
  refine callsD_of_wpS Tryz.func9 rfl fun c₀ cs hu => ?_
  apply wpS_seq
  apply wpS_region
  simp [wpOpsS, go_sem, recoverD, hu, Tryz.ntmps9, Exit.thenS]
  apply wpS_seq
  apply wpS_seq
  apply wpS_region
  simp [wpOpsS, go_sem, Exit.thenS]
  refine wpS_cond (t := false) (by simp [Act.eval, Array.replicate]) ?_
  simp only [Bool.false_eq_true, if_false]
  refine wpS_of_wp (wp_skip ?_)
  simp only [Exit.thenS]
  apply wpS_seq
  apply wpS_region
  simp [wpOpsS, go_sem, Exit.thenS, ha]
  apply wpS_seq
  apply wpS_seq
  apply wpS_region
  simp [wpOpsS, go_sem, Exit.thenS]
  refine wpS_cond (t := false) (by simp [Act.eval, Array.replicate]) ?_
  simp only [Bool.false_eq_true, if_false]
  refine wpS_of_wp (wp_skip ?_)
  simp only [Exit.thenS]
  apply wpS_region
  simp [wpOpsS, go_sem, hl, hlf, he2, hf2, bodyPostS, results, Tryz.results9]

theorem heap_in : ∀ (os : List Obj) (w' : World) (i : Nat) (o : Obj), os[i]? = some o → (os.foldl World.alloc w').heap[w'.heap.size + i]? = some o
  | [], _, i, o, h => by simp at h
  | x :: os, w', 0, o, h => by
    simp at h
    subst h
    have hb : ∀ (os : List Obj) (W : World), Below W.heap.size W (os.foldl World.alloc W) := by
      intro os
      induction os with
      | nil => exact fun W => Below.refl _ _
      | cons y os ih => exact fun W => ((Below.refl W.heap.size W).alloc (Nat.le_refl _) y).trans ((ih (W.alloc y)).mono (by simp))
    have h1 := (hb os (w'.alloc x)).block w'.heap.size (by simp)
    show (os.foldl World.alloc (w'.alloc x)).heap[w'.heap.size]? = some x
    rw [h1]
    exact heap_alloc_new w' x
  | x :: os, w', i + 1, o, h => by
    have h1 := heap_in os (w'.alloc x) i o (by simpa using h)
    simp only [World.size_alloc] at h1
    show (os.foldl World.alloc (w'.alloc x)).heap[w'.heap.size + (i + 1)]? = some o
    rw [show w'.heap.size + (i + 1) = w'.heap.size + 1 + i by omega]
    exact h1
def rkObjs (w : World) : List Obj := [(.cells #[.string ⟨#[108, 97, 109, 98, 100, 97]⟩] 9), (.cells #[.string ⟨#[111, 114]⟩] 9), (.cells #[.string ⟨#[97, 110, 100]⟩] 9), (.cells #[.string ⟨#[110, 111, 116]⟩] 9), (.cells #[.string ⟨#[61, 61]⟩, .string ⟨#[33, 61]⟩, .string ⟨#[60]⟩, .string ⟨#[60, 61]⟩, .string ⟨#[62]⟩, .string ⟨#[62, 61]⟩, .string ⟨#[105, 115]⟩, .string ⟨#[105, 110]⟩] 9), (.cells #[.string ⟨#[43]⟩, .string ⟨#[45]⟩] 9), (.cells #[.string ⟨#[42]⟩, .string ⟨#[47, 47]⟩, .string ⟨#[37]⟩] 9), (.cells #[.string ⟨#[110, 101, 103]⟩] 9), (.cells #[.slice (some ⟨w.heap.size, 0, none⟩) 1 1, .slice (some ⟨w.heap.size + 1, 0, none⟩) 1 1, .slice (some ⟨w.heap.size + 2, 0, none⟩) 1 1, .slice (some ⟨w.heap.size + 3, 0, none⟩) 1 1, .slice (some ⟨w.heap.size + 4, 0, none⟩) 8 8, .slice (some ⟨w.heap.size + 5, 0, none⟩) 2 2, .slice (some ⟨w.heap.size + 6, 0, none⟩) 3 3, .slice (some ⟨w.heap.size + 7, 0, none⟩) 1 1] 30)]
def rkWorld (w : World) : World := (rkObjs w).foldl World.alloc w
theorem rk_of (w : World) : Below w.heap.size w (rkWorld w) ∧ (rkWorld w).heap.size = w.heap.size + 9 ∧ ∀ p, w.heap.size + 9 ≤ p → RK p (.slice (some ⟨w.heap.size + 8, 0, none⟩) 8 8) (rkWorld w) := by
  have hh : ∀ i o, (rkObjs w)[i]? = some o → (rkWorld w).heap[w.heap.size + i]? = some o := fun i o h => heap_in (rkObjs w) w i o h
  have h8 := hh 8 (.cells #[.slice (some ⟨w.heap.size, 0, none⟩) 1 1, .slice (some ⟨w.heap.size + 1, 0, none⟩) 1 1, .slice (some ⟨w.heap.size + 2, 0, none⟩) 1 1, .slice (some ⟨w.heap.size + 3, 0, none⟩) 1 1, .slice (some ⟨w.heap.size + 4, 0, none⟩) 8 8, .slice (some ⟨w.heap.size + 5, 0, none⟩) 2 2, .slice (some ⟨w.heap.size + 6, 0, none⟩) 3 3, .slice (some ⟨w.heap.size + 7, 0, none⟩) 1 1] 30) rfl
  have h : ∀ (i : Nat) (v : Value), (#[.slice (some ⟨w.heap.size, 0, none⟩) 1 1, .slice (some ⟨w.heap.size + 1, 0, none⟩) 1 1, .slice (some ⟨w.heap.size + 2, 0, none⟩) 1 1, .slice (some ⟨w.heap.size + 3, 0, none⟩) 1 1, .slice (some ⟨w.heap.size + 4, 0, none⟩) 8 8, .slice (some ⟨w.heap.size + 5, 0, none⟩) 2 2, .slice (some ⟨w.heap.size + 6, 0, none⟩) 3 3, .slice (some ⟨w.heap.size + 7, 0, none⟩) 1 1] : Array Value)[i]? = some v → (rkWorld w).cell? ⟨w.heap.size + 8, i, none⟩ = some v := fun i v hv => by
    rw [cell_of_row _ _ _ _ _ _ h8]
    exact hv
  have hts : ∀ (i : Nat) (cs : Array Value) (ts : List ByteArray), (rkObjs w)[i]? = some (.cells cs 9) ∧ cs = (ts.map Value.string).toArray → TS (rkWorld w) (w.heap.size + i) 0 ts := fun i cs ts hx j t hj => by
    rw [cell_of_row _ _ _ _ _ _ (hh i _ hx.1), hx.2]
    simp [hj]
  refine ⟨(((((((((Below.refl _ _).alloc (Nat.le_refl _) _).alloc (by simp) _).alloc (by simp; omega) _).alloc (by simp; omega) _).alloc (by simp; omega) _).alloc (by simp; omega) _).alloc (by simp; omega) _).alloc (by simp; omega) _).alloc (by simp; omega) _, by simp [rkWorld, rkObjs], fun p hp => ⟨w.heap.size + 8, 8, rfl, by omega, fun i hi => ?_⟩⟩
  match i, hi with
  | 0, _ => exact ⟨w.heap.size, 1, h 0 _ rfl, by omega, hts 0 _ _ ⟨rfl, rfl⟩⟩
  | 1, _ => exact ⟨w.heap.size + 1, 1, h 1 _ rfl, by omega, hts 1 _ _ ⟨rfl, rfl⟩⟩
  | 2, _ => exact ⟨w.heap.size + 2, 1, h 2 _ rfl, by omega, hts 2 _ _ ⟨rfl, rfl⟩⟩
  | 3, _ => exact ⟨w.heap.size + 3, 1, h 3 _ rfl, by omega, hts 3 _ _ ⟨rfl, rfl⟩⟩
  | 4, _ => exact ⟨w.heap.size + 4, 8, h 4 _ rfl, by omega, hts 4 _ _ ⟨rfl, rfl⟩⟩
  | 5, _ => exact ⟨w.heap.size + 5, 2, h 5 _ rfl, by omega, hts 5 _ _ ⟨rfl, rfl⟩⟩
  | 6, _ => exact ⟨w.heap.size + 6, 3, h 6 _ rfl, by omega, hts 6 _ _ ⟨rfl, rfl⟩⟩
  | 7, _ => exact ⟨w.heap.size + 7, 1, h 7 _ rfl, by omega, hts 7 _ _ ⟨rfl, rfl⟩⟩
  | n + 8, hn => omega
set_option maxHeartbeats 1000000 in
theorem ranks_any (w : World) : Calls Tryz.prog 10 #[] w fun ev w' => ev = .returned (.slice (some ⟨w.heap.size + 8, 0, none⟩) 8 8) ∧ w' = rkWorld w := by
  go_enter Tryz.func10, Tryz.ntmps10
  go_wp2_with fail
  go_ret
  exact ⟨rfl, rfl⟩
end Go.Proofs.YtpidanllncneaaaGreatDoor
