/- Package heap by contracts: a heap in memory, block by block, whatever its memory holds. -/
import Derived.Test.YtlkcbdinlfeoiaaGreatDoorKnAP
import Derived.Test.YtlkcbdinlfeoiaaGreatDoorKnBC
import Derived.Test.YtlkcbdinlfeoiaaGreatDoorKnAT
namespace Go.Proofs.YtlkcbdinlfeoiaaGreatDoor
open Go.RowKit Go.Maps

/-- Where a heap's parts lie. -/
structure HP where
  q : Nat
  p : Nat
  bW : Nat
  bC : Nat
  cW : Nat
  cC : Nat
  tn : Int
  vR : Value
  vK : Value
  vI : Value
/-- A heap in memory: its own block, its memory's, rows of its own. -/
structure HAt (h : HP) (sr : Int) (m : MD) (w : World) : Prop where
  hq : w.heap[h.q]? = some (.cells #[.pointer (some ⟨h.p, 0, none⟩), .int .i64 h.tn, .int .i64 sr] 88)
  mb : MB h.p m.half m.old m.card m.used m.top m.oldTop (.slice (some ⟨h.bW, 0, none⟩) m.W.length h.cW) h.vR h.vK h.vI (.slice (some ⟨h.bC, 0, none⟩) m.C.length h.cC) w
  hW : Blk h.bW 81 (wordsV m.W) w
  hC : Blk h.bC 4 (boolsV m.C) w
  cap : m.W.length ≤ h.cW
  capC : m.C.length ≤ h.cC
  R : RowB 81 1 h.vR m.R.length (wordsV m.R) w
  K : w.ownsRow 0 81 1 h.vK m.K.length (wordsV m.K)
  I : w.ownsRow 0 123 2 h.vI m.I.length (idsV m.I)
  rk : ∀ g, isOf h.vR g → h.vK.ownBlock ≠ some g
  rb : ∀ g, isOf h.vR g → g ≠ h.bW
  kb : h.vK.ownBlock ≠ some h.bW
/-- The blocks of a heap. -/
def HP.own (h : HP) (k : Nat) : Prop := k = h.q ∨ k = h.p ∨ k = h.bW ∨ k = h.bC ∨ isOf h.vR k ∨ h.vK.ownBlock = some k ∨ h.vI.ownBlock = some k
/-- A block of cells of this type. -/
def Ty (w : World) (k : Nat) (t : TypeId) : Prop := ∃ c : Array Value, w.heap[k]? = some (.cells c t)
theorem Ty.ne {w : World} {k k' : Nat} {t t' : TypeId} (h : Ty w k t) (h' : Ty w k' t') (ht : t ≠ t') : k ≠ k' := by
  rintro rfl
  obtain ⟨c, e⟩ := h
  obtain ⟨c', e'⟩ := h'
  rw [e] at e'
  injection e' with e'
  injection e' with _ e2 _
  exact ht e2
theorem Ty.lt {w : World} {k : Nat} {t : TypeId} (h : Ty w k t) : k < w.heap.size := by obtain ⟨c, e⟩ := h; exact lt_of_heap e
theorem rowB_ty {t : TypeId} {j n : Nat} {v : Value} {xs : List Value} {w : World} (h : RowB t j v n xs w) {g : Nat} (hg : isOf v g) : Ty w g t := by
  obtain ⟨ao, cap, e1, _, _, e4⟩ := h
  obtain ⟨o, n', c, h0, e5⟩ := hg
  rw [e1] at e5
  cases e5
  obtain ⟨g', e6, r, hb⟩ := e4 h0
  cases e6
  exact ⟨_, hb⟩
theorem own_ty {B : Nat} {t : TypeId} {j n : Nat} {v : Value} {xs : List Value} {w : World} (h : w.ownsRow B t j v n xs) {g : Nat} (hg : v.ownBlock = some g) : Ty w g t := by
  obtain ⟨_, ⟨rfl, _⟩ | ⟨g', cap, cur, rfl, _, hb, _⟩⟩ := h
  · cases hg
  · cases hg; exact ⟨_, hb⟩
variable {h : HP} {sr : Int} {m : MD} {w w' : World}
theorem HAt.tq (H : HAt h sr m w) : Ty w h.q 88 := ⟨_, H.hq⟩
theorem HAt.tp (H : HAt h sr m w) : Ty w h.p 84 := ⟨_, H.mb⟩
theorem HAt.tW (H : HAt h sr m w) : Ty w h.bW 81 := by obtain ⟨r, hb⟩ := H.hW; exact ⟨_, hb⟩
theorem HAt.tC (H : HAt h sr m w) : Ty w h.bC 4 := by obtain ⟨r, hb⟩ := H.hC; exact ⟨_, hb⟩
theorem HAt.lt (H : HAt h sr m w) {k : Nat} (hk : h.own k) : k < w.heap.size := by
  rcases hk with rfl | rfl | rfl | rfl | hk | hk | hk
  · exact H.tq.lt
  · exact H.tp.lt
  · exact H.tW.lt
  · exact H.tC.lt
  · exact (rowB_ty H.R hk).lt
  · exact (own_ty H.K hk).lt
  · exact (own_ty H.I hk).lt
theorem HAt.col (H : HAt h sr m w) : ColAt h.p h.bW h.bC h.cW h.cC m h.vR h.vK h.vI w :=
  ⟨H.mb, H.hW, H.hC, H.cap, H.capC, rowV_of H.R, rowV_of (RowB.of_own H.K).1, (RowB.of_own H.I).1⟩
/-- A world that differs elsewhere. -/
theorem HAt.aside {X : Nat → Prop} (H : HAt h sr m w) (ha : Aside X w w') (hx : ∀ k, h.own k → ¬ X k) : HAt h sr m w' :=
  ⟨(ha.block _ H.tq.lt (hx _ (.inl rfl))).trans H.hq, (ha.block _ H.tp.lt (hx _ (.inr (.inl rfl)))).trans H.mb, H.hW.aside ha (hx _ (.inr (.inr (.inl rfl)))), H.hC.aside ha (hx _ (.inr (.inr (.inr (.inl rfl))))), H.cap, H.capC,
    H.R.aside ha (fun g hg => hx g (.inr (.inr (.inr (.inr (.inl hg)))))), ownsRow_far' H.K (fun k hk => ha.block k (own_lt2 H.K k hk).2 (hx k (.inr (.inr (.inr (.inr (.inr (.inl hk)))))))), ownsRow_far' H.I (fun k hk => ha.block k (own_lt2 H.I k hk).2 (hx k (.inr (.inr (.inr (.inr (.inr (.inr hk)))))))), H.rk, H.rb, H.kb⟩
theorem HAt.below (H : HAt h sr m w) (hb : Below w.heap.size w w') : HAt h sr m w' := H.aside (X := fun _ => False) (Aside.of_below hb) (fun _ _ h => h)
/-- What a heap's next state owns: what it had, or what is new; nothing else was turned. -/
structure Nxt (h h' : HP) (w w' : World) : Prop where
  q : h'.q = h.q
  tn : h'.tn = h.tn
  own : ∀ k, h'.own k → h.own k ∨ w.heap.size ≤ k
  aside : Aside h.own w w'
theorem Nxt.refl (h : HP) (w : World) : Nxt h h w w := ⟨rfl, rfl, fun _ hk => .inl hk, Aside.refl _ _⟩
theorem Nxt.of_below (h : HP) {w w' : World} (hb : Below w.heap.size w w') : Nxt h h w w' := ⟨rfl, rfl, fun _ hk => .inl hk, Aside.of_below hb⟩
theorem Nxt.trans {h h' h'' : HP} {w w' w'' : World} (a : Nxt h h' w w') (b : Nxt h' h'' w' w'') : Nxt h h'' w w'' where
  q := b.q.trans a.q
  tn := b.tn.trans a.tn
  own k hk := by
    rcases b.own k hk with hk | hk
    · exact a.own k hk
    · exact .inr (Nat.le_trans a.aside.size hk)
  aside := a.aside.join b.aside (fun k hk hx => (a.own k hx).resolve_right (by omega))
theorem Nxt.set {h h' : HP} {w w' : World} (a : Nxt h h' w w') {b o : Nat} {v : Value} (hb : h.own b ∨ w.heap.size ≤ b) : Nxt h h' w (w'.setCell ⟨b, o, none⟩ v) where
  q := a.q
  tn := a.tn
  own := a.own
  aside := by
    rcases hb with hb | hb
    · exact a.aside.setCell hb v
    · exact ⟨a.aside.os, a.aside.tape, a.aside.output, by simp [World.setCell]; exact a.aside.size, fun k hk hx => (heap_set _ _ _ _ _ (by omega)).trans (a.aside.block k hk hx)⟩
theorem Nxt.below {h h' : HP} {w w' w'' : World} (a : Nxt h h' w w') (hb : Below w'.heap.size w' w'') : Nxt h h' w w'' := a.trans (Nxt.of_below h' hb)
/-- A root is set. -/
theorem HAt.root (H : HAt h sr m w) {r : Nat} (hr : r < m.R.length) : ∃ b cap, h.vR = .slice (some ⟨b, 0, none⟩) m.R.length cap ∧ isOf h.vR b ∧ m.R.length ≤ cap ∧ w.cell? ⟨b, r, none⟩ = some (.int .u64 (m.R.getD r 0)) ∧ w.frozen? ⟨b, r, none⟩ = false ∧
    ∀ x : Int, HAt h sr { m with R := m.R.set r x } (w.setCell ⟨b, r, none⟩ (.int .u64 x)) := by
  obtain ⟨ao, cap, e, hc, hl, hf⟩ := H.R
  obtain ⟨b, rfl, hb⟩ := hf (by omega)
  have hi : isOf h.vR b := ⟨0, _, _, by omega, e⟩
  have hrv : (wordsV m.R)[r]? = some (.int .u64 (m.R.getD r 0)) := by
    unfold wordsV
    rw [List.getElem?_map, List.getElem?_eq_getElem hr, List.getD_eq_getElem?_getD, List.getElem?_eq_getElem hr]
    rfl
  have tb := rowB_ty H.R hi
  refine ⟨b, cap, e, hi, hc, hb.cell hrv, hb.frozen r, fun x => ?_⟩
  have hs := hb.set (j := r) (by rw [lenV]; exact hr) (.int .u64 x)
  have hq := H.tq.ne tb (by decide)
  have hp := H.tp.ne tb (by decide)
  have hC := H.tC.ne tb (by decide)
  refine ⟨(heap_set _ _ _ _ _ hq).trans H.hq, ?_, H.hW.same (heap_set _ _ _ _ _ (fun e => H.rb b hi e.symm)), H.hC.same (heap_set _ _ _ _ _ hC), H.cap, H.capC, ?_, ?_, ?_, H.rk, H.rb, H.kb⟩
  · exact (heap_set _ _ _ _ _ hp).trans H.mb
  · show RowB _ _ _ (m.R.set r x).length (wordsV (m.R.set r x)) _
    rw [List.length_set, ← wordsV_set]
    exact ⟨_, cap, e, hc, by rw [List.length_set]; exact hl, fun _ => ⟨b, rfl, hs⟩⟩
  · exact ownsRow_far' H.K (fun k hk => heap_set _ _ _ _ _ (fun e => H.rk b hi (by rw [hk, e])))
  · exact ownsRow_far' H.I (fun k hk => heap_set _ _ _ _ _ ((own_ty H.I hk).ne tb (by decide)))
/-- The memory's block is set. -/
theorem HAt.mem (H : HAt h sr m w) {o : Nat} {v : Value} {h' : HP} {n : MD} (e1 : h'.q = h.q ∧ h'.p = h.p ∧ h'.bW = h.bW ∧ h'.bC = h.bC ∧ h'.cW = h.cW ∧ h'.cC = h.cC ∧ h'.tn = h.tn) (eR : h'.vR = h.vR) (eW : n.W = m.W) (eC : n.C = m.C) (eN : n.R = m.R)
    (hm : MB h.p n.half n.old n.card n.used n.top n.oldTop (.slice (some ⟨h.bW, 0, none⟩) m.W.length h.cW) h.vR h'.vK h'.vI (.slice (some ⟨h.bC, 0, none⟩) m.C.length h.cC) (w.setCell ⟨h.p, o, none⟩ v))
    (hK : w.ownsRow 0 81 1 h'.vK n.K.length (wordsV n.K)) (hI : w.ownsRow 0 123 2 h'.vI n.I.length (idsV n.I)) (rk : ∀ g, isOf h.vR g → h'.vK.ownBlock ≠ some g) (kb : h'.vK.ownBlock ≠ some h.bW) : HAt h' sr n (w.setCell ⟨h.p, o, none⟩ v) := by
  obtain ⟨q1, q2, q3, q4, q5, q6, q7⟩ := e1
  have hp := H.tp
  refine ⟨?_, ?_, ?_, ?_, ?_, ?_, ?_, ?_, ?_, ?_, ?_, ?_⟩
  · rw [q1, q2, q7]; exact (heap_set _ _ _ _ _ (H.tq.ne hp (by decide))).trans H.hq
  · rw [q2, q3, q4, q5, q6, eR, eW, eC]; exact hm
  · rw [q3, eW]; exact H.hW.same (heap_set _ _ _ _ _ (H.tW.ne hp (by decide)))
  · rw [q4, eC]; exact H.hC.same (heap_set _ _ _ _ _ (H.tC.ne hp (by decide)))
  · rw [eW, q5]; exact H.cap
  · rw [eC, q6]; exact H.capC
  · rw [eR, eN]
    exact H.R.aside ((Aside.refl (fun k => k = h.p) w).setCell (g := h.p) rfl v) (fun g hg e => (rowB_ty H.R hg).ne hp (by decide) e)
  · exact ownsRow_far' hK (fun k hk => heap_set _ _ _ _ _ ((own_ty hK hk).ne hp (by decide)))
  · exact ownsRow_far' hI (fun k hk => heap_set _ _ _ _ _ ((own_ty hI hk).ne hp (by decide)))
  · rw [eR]; exact rk
  · rw [eR, q3]; exact H.rb
  · rw [q3]; exact kb
theorem HAt.setTop (H : HAt h sr m w) (x : Int) : HAt h sr { m with top := x } (w.setCell ⟨h.p, 5, none⟩ (.int .i64 x)) :=
  H.mem (h' := h) (n := { m with top := x }) ⟨rfl, rfl, rfl, rfl, rfl, rfl, rfl⟩ rfl rfl rfl rfl (heap_set_same H.mb) H.K H.I H.rk H.kb
theorem HAt.setOld (H : HAt h sr m w) (x : Int) : HAt h sr { m with oldTop := x } (w.setCell ⟨h.p, 6, none⟩ (.int .i64 x)) :=
  H.mem (h' := h) (n := { m with oldTop := x }) ⟨rfl, rfl, rfl, rfl, rfl, rfl, rfl⟩ rfl rfl rfl rfl (heap_set_same H.mb) H.K H.I H.rk H.kb
/-- The words turn. -/
theorem HAt.words (H : HAt h sr m w) {W' : List Int} (hl : W'.length = m.W.length) (ha : Aside (· = h.bW) w w') (hb : Blk h.bW 81 (wordsV W') w') : HAt h sr { m with W := W' } w' := by
  have tW := H.tW
  refine ⟨(ha.block _ H.tq.lt (H.tq.ne tW (by decide))).trans H.hq, ?_, hb, H.hC.aside ha (H.tC.ne tW (by decide)), by show W'.length ≤ _; rw [hl]; exact H.cap, H.capC, H.R.aside ha (fun g hg => H.rb g hg), ?_, ?_, H.rk, H.rb, H.kb⟩
  · show MB _ _ _ _ _ _ _ (.slice _ W'.length _) _ _ _ _ _
    rw [hl]; exact (ha.block _ H.tp.lt (H.tp.ne tW (by decide))).trans H.mb
  · exact ownsRow_far' H.K (fun k hk => ha.block k (own_lt2 H.K k hk).2 (fun e => H.kb (by rw [hk, show k = h.bW from e])))
  · exact ownsRow_far' H.I (fun k hk => ha.block k (own_lt2 H.I k hk).2 ((own_ty H.I hk).ne tW (by decide)))
/-- A serial more was given. -/
theorem HAt.setSerial (H : HAt h sr m w) (x : Int) : HAt h x m (w.setCell ⟨h.q, 2, none⟩ (.int .i64 x)) := by
  have tq := H.tq
  have ha : Aside (fun k => k = h.q) w (w.setCell ⟨h.q, 2, none⟩ (.int .i64 x)) := (Aside.refl (fun k => k = h.q) w).setCell (g := h.q) rfl _
  exact ⟨heap_set_same H.hq, (ha.block _ H.tp.lt (H.tp.ne tq (by decide))).trans H.mb, H.hW.aside ha (H.tW.ne tq (by decide)), H.hC.aside ha (H.tC.ne tq (by decide)), H.cap, H.capC, H.R.aside ha (fun g hg => (rowB_ty H.R hg).ne tq (by decide)),
    ownsRow_far' H.K (fun k hk => ha.block k (own_lt2 H.K k hk).2 ((own_ty H.K hk).ne tq (by decide))), ownsRow_far' H.I (fun k hk => ha.block k (own_lt2 H.I k hk).2 ((own_ty H.I hk).ne tq (by decide))), H.rk, H.rb, H.kb⟩
/-- Behind a collection. -/
theorem HAt.collected {n : MD} {vR vK vI : Value} (H : HAt h sr m w) (C : ColAt h.p h.bW h.bC h.cW h.cC n vR vK vI w') (hN : RowsN w.heap.size n vR vK vI w') (ha : Aside (ownM h.p h.bW h.bC) w w') : HAt { h with vR := vR, vK := vK, vI := vI } sr n w' ∧ Nxt h { h with vR := vR, vK := vK, vI := vI } w w' := by
  have lW := H.tW.lt
  have own0 : ∀ {t : TypeId} {j k : Nat} {v : Value} {xs : List Value}, w'.ownsRow w.heap.size t j v k xs → w'.ownsRow 0 t j v k xs := fun h => ⟨h.1, by rcases h.2 with h | ⟨g, cap, cur, e1, e2, e3⟩; exact .inl h; exact .inr ⟨g, cap, cur, e1, Nat.zero_le _, e3⟩⟩
  refine ⟨⟨(ha.block _ H.tq.lt (fun e => ?_)).trans H.hq, C.mb, C.hW, C.hC, C.cap, C.capC, hN.R, own0 hN.K, own0 hN.I, hN.rk, fun g hg e => ?_, fun e => ?_⟩, rfl, rfl, fun k hk => ?_, ha.mono (fun k hk => ?_)⟩
  · rcases e with e | e | e
    · exact H.tq.ne H.tp (by decide) e
    · exact H.tq.ne H.tW (by decide) e
    · exact H.tq.ne H.tC (by decide) e
  · have := hN.Rn g hg
    have e : g = h.bW := e
    omega
  · have := (own_lt2 hN.K _ e).1
    have lW : h.bW < w.heap.size := lW
    have this : w.heap.size ≤ h.bW := this
    omega
  · rcases hk with hk | hk | hk | hk | hk | hk | hk
    · exact .inl (.inl hk)
    · exact .inl (.inr (.inl hk))
    · exact .inl (.inr (.inr (.inl hk)))
    · exact .inl (.inr (.inr (.inr (.inl hk))))
    · exact .inr (hN.Rn k hk)
    · exact .inr (own_lt2 hN.K k hk).1
    · exact .inr (own_lt2 hN.I k hk).1
  · rcases hk with hk | hk | hk
    · exact .inr (.inl hk)
    · exact .inr (.inr (.inl hk))
    · exact .inr (.inr (.inr (.inl hk)))
/-- What is laid down from the beginning stays. -/
structure Dim (m n : MD) : Prop where
  half : n.half = m.half
  old : n.old = m.old
  card : n.card = m.card
theorem Dim.refl (m : MD) : Dim m m := ⟨rfl, rfl, rfl⟩
theorem Dim.trans {m n k : MD} (a : Dim m n) (b : Dim n k) : Dim m k := ⟨b.half.trans a.half, b.old.trans a.old, b.card.trans a.card⟩
/-- A heap in memory, with its model. -/
structure HS (a : Nat → Addr) (w0 : World) (h : HP) (sr : Int) (m : MD) (M : MO) (X : MXtra) (w : World) : Prop where
  at' : HAt h sr m w
  hm : HM m sr M X
  env : HEnv a w0
  base : Below w0.heap.size w0 w
  own : ∀ k, h.own k → w0.heap.size ≤ k
  t0 : 0 ≤ h.tn
  t1 : h.tn ≤ 15
  kl : X.K.length ≤ 5000
  rl : M.R.length ≤ 5000
variable {a : Nat → Addr} {w0 : World} {M : MO} {X : MXtra}
theorem HS.benv (s : HS a w0 h sr m M X w) : HEnv a w := s.env.below s.base
theorem HS.ab (s : HS a w0 h sr m M X w) {w' : World} (ha : Aside h.own w w') : Below w0.heap.size w0 w' := s.base.trans (ha.below s.base.size (fun k hk hx => by have := s.own k hx; omega))
theorem HS.aenv (s : HS a w0 h sr m M X w) {w' : World} (ha : Aside h.own w w') : HEnv a w' := s.env.below (s.ab ha)
theorem HS.next (s : HS a w0 h sr m M X w) {h' : HP} {sr' : Int} {n : MD} {M' : MO} {X' : MXtra} (N : Nxt h h' w w') (H : HAt h' sr' n w') (hm : HM n sr' M' X') (kl : X'.K.length ≤ 5000) (rl : M'.R.length ≤ 5000) : HS a w0 h' sr' n M' X' w' :=
  ⟨H, hm, s.env, s.ab N.aside, fun k hk => by
    rcases N.own k hk with h1 | h1
    · exact s.own k h1
    · exact Nat.le_trans s.base.size h1, by rw [N.tn]; exact s.t0, by rw [N.tn]; exact s.t1, kl, rl⟩
theorem HS.below (s : HS a w0 h sr m M X w) (hb : Below w.heap.size w w') : HS a w0 h sr m M X w' := s.next (Nxt.of_below h hb) (s.at'.below hb) s.hm s.kl s.rl
/-- A step of a heap: what it is behind it. -/
def Stp (a : Nat → Addr) (w0 : World) (h : HP) (m : MD) (M : MO) (X : MXtra) (w w' : World) : Prop := ∃ h' sr' n, Nxt h h' w w' ∧ Dim m n ∧ HS a w0 h' sr' n M X w'
end Go.Proofs.YtlkcbdinlfeoiaaGreatDoor
namespace Go.Proofs.YtlkcbdinlfeoiaaGreatDoor
open Go.RowKit Go.Maps

variable {h : HP} {sr : Int} {m : MD} {w w' : World} {a : Nat → Addr} {w0 : World} {M : MO} {X : MXtra}
theorem ids_few {vs : List Nat} (S : m.Shape vs) : m.I.length ≤ 300000 := by
  have hI := (S.rest').2.2
  have hn : (m.I.map fun x => (x.1 / 4 - 1).toNat).Nodup := by
    unfold List.Nodup
    rw [List.pairwise_map, List.pairwise_iff_getElem]
    intro i j hi hj hij he
    have p1 := ids_ptr hI m.I[i] (List.getElem_mem hi)
    have p2 := ids_ptr hI m.I[j] (List.getElem_mem hj)
    unfold ptrB at p1 p2
    rw [Bool.and_eq_true] at p1 p2
    have q1 := of_decide_eq_true p1.1
    have q2 := of_decide_eq_true p2.1
    have e : m.I[i].1 = m.I[j].1 := by omega
    have hg := hI
    unfold idsB at hg
    rw [List.all_eq_true] at hg
    have g := hg j (List.mem_range.2 hj)
    unfold idB at g
    rw [List.getElem?_eq_getElem hj] at g
    simp only [Bool.and_eq_true, decide_eq_true_eq] at g
    have h3 := g.2.2.1
    rw [List.take_add_one, List.getElem?_eq_getElem hj, List.map_append, List.count_append] at h3
    have h4 : m.I[j].1 ∈ (m.I.take j).map (·.1) := by
      rw [← e]
      exact List.mem_map.2 ⟨m.I[i], List.mem_of_getElem? (i := i) (by rw [List.getElem?_take, if_pos hij, List.getElem?_eq_getElem hi]), rfl⟩
    have h5 := List.count_pos_iff.2 h4
    have h6 : (List.map (fun x : Int × Int => x.1) (some m.I[j]).toList).count m.I[j].1 = 1 := by simp
    omega
  have hl := nodup_len _ vs hn (fun f hf => by
    obtain ⟨x, hx, rfl⟩ := List.mem_map.1 hf
    have p := ids_ptr hI x hx
    unfold ptrB at p
    rw [Bool.and_eq_true, Bool.and_eq_true] at p
    exact of_decide_eq_true p.2.2)
  rw [List.length_map] at hl
  exact Nat.le_trans hl S.few
/-- A heap's memory is right. -/
structure Right (m : MD) (l1 l2 : List Nat) : Prop where
  S : m.Shape (l1 ++ l2)
  C : m.cardsB = true
  h64 : MD64 m
  w1 : walkP m.F (G0 m.F) (m.n1 - m.n0) m.n0 m.n1 = some l1
  w2 : walkP m.F (G0 m.F) (m.m1 - m.m0) m.m0 m.m1 = some l2
theorem HM.right (hm : HM m sr M X) : ∃ l1 l2, Right m l1 l2 := by
  obtain ⟨vs, S, C, h64⟩ := hm.shape
  obtain ⟨l1, l2, rfl, w1, w2⟩ := S.bare
  exact ⟨l1, l2, S, C, h64, w1, w2⟩
theorem HM.weaks (hm : HM m sr M X) : m.K.length = X.K.length := by
  obtain ⟨vs, S, φ, hr, hw⟩ := hm
  exact hw.klen
theorem HM.serials (hm : HM m sr M X) : sr = X.next ∧ 0 ≤ X.next := by
  obtain ⟨vs, S, φ, hr, hw⟩ := hm
  exact ⟨hw.next, hw.n0⟩
/-- Behind a collection of all a weak reference is gone where nothing else leads to its object. -/
theorem HM.majorW {n : MD} {us l1 l2 : List Nat} {S' : Nat → Prop} {ψ : Nat → Nat} (hm : HM m sr M X) (Sm : m.Shape (l1 ++ l2)) (D : JDone m n l1 l2 us S' ψ) {j i : Nat} (hj : X.K[j]? = some i) (hi : i ∉ M.all) : n.K.getD j 0 = 2 := by
  obtain ⟨vs, S, φ, hr, hw⟩ := hm
  obtain rfl := Sm.one hr.shape
  have hjl : j < m.K.length := by rw [hw.klen]; exact (List.getElem?_eq_some_iff.1 hj).1
  have K := D.C.weak j hjl
  rcases hw.weak j i hj with ⟨hs, e⟩ | ⟨_, e⟩
  · have hp := adW_pt (φ := φ) (hr.rel.few _ hs)
    rcases K with ⟨k1, _⟩ | ⟨_, _, k2⟩
    · exfalso
      have h0 := k1 (by rw [e]; omega)
      rw [e, hp] at h0
      have h1 := (D.led _).1 h0
      rw [show ((φ i : Nat) : Int).toNat = φ i by omega] at h1
      exact hi (hr.mem hs h1)
    · exact k2
  · rcases K with ⟨_, k2⟩ | ⟨k1, _, _⟩
    · rw [k2, e]; rfl
    · rw [e] at k1
      exact absurd k1 (by decide)
theorem HEnv.five {a : Nat → Addr} {w : World} (h : HEnv a w) : MErr a w := ⟨h.errs.c1, h.errs.c2, h.errs.c4, h.errs.c5⟩
theorem ownM_own (ha : Aside (ownM h.p h.bW h.bC) w w') : Aside h.own w w' := ha.mono (fun k hk => by
  rcases hk with hk | hk | hk
  · exact .inr (.inl hk)
  · exact .inr (.inr (.inl hk))
  · exact .inr (.inr (.inr (.inl hk))))
/-- A collection of the young. -/
theorem cminor_any (s : HS a w0 h sr m M X w) : Calls Tryz.prog 116 #[.pointer (some ⟨h.p, 0, none⟩), .int .i64 h.tn] w fun ev w' =>
    (ev = .returned (errV a 5) ∧ Below w.heap.size w w') ∨ (ev = .returned .nilIface ∧ Stp a w0 h m M X w w' ∧ Aside (ownM h.p h.bW h.bC) w w') := by
  obtain ⟨l1, l2, rt⟩ := s.hm.right
  have hR := s.hm.roots
  have hK := s.hm.weaks
  have hrl := s.rl
  have hkl := s.kl
  have t0 := s.t0
  have t1 := s.t1
  refine (ncollect_any a h.p h.bW h.bC h.cW h.cC m h.vR h.vK h.vI l1 l2 h.tn w s.at'.col rt.S rt.C rt.h64 rt.w1 rt.w2 (by omega) (by omega) (ids_few rt.S) (by omega) (fun w' ha => (s.aenv (ownM_own ha)).five)).mono ?_
  rintro ev w' (⟨hn, _⟩ | ⟨_, _, rfl, hb⟩ | ⟨_, _, rfl, e, n, us, S, ψ, vR, vK, vI, _, hC, hc, _, ha, hN⟩)
  · exact absurd ⟨t0, t1⟩ hn
  · exact .inl ⟨rfl, hb⟩
  · refine .inr ⟨rfl, ?_, ha⟩
    obtain ⟨H', N'⟩ := s.at'.collected hC hN ha
    exact ⟨_, sr, n, N', ⟨hc.half, hc.hold, hc.card⟩, s.next N' H' (s.hm.minor rt.S hc) s.kl s.rl⟩
/-- A collection of all. -/
theorem cmajor_any (s : HS a w0 h sr m M X w) : Calls Tryz.prog 117 #[.pointer (some ⟨h.p, 0, none⟩)] w fun ev w' =>
    (ev = .returned (errV a 5) ∧ Below w.heap.size w w' ∧ m.old < (M.words : Int)) ∨ (ev = .returned .nilIface ∧ ∃ h' sr' n, Nxt h h' w w' ∧ Dim m n ∧ HS a w0 h' sr' n M X w' ∧ n.top = 0 ∧ n.oldTop = (M.words : Int) ∧ ∀ j i, X.K[j]? = some i → i ∉ M.all → n.K.getD j 0 = 2) := by
  obtain ⟨l1, l2, rt⟩ := s.hm.right
  have hR := s.hm.roots
  have hK := s.hm.weaks
  have hrl := s.rl
  have hkl := s.kl
  have hl := s.hm.live rt.S
  refine (jcollect_any a h.p h.bW h.bC h.cW h.cC m h.vR h.vK h.vI l1 l2 w s.at'.col rt.S rt.C rt.h64 rt.w1 rt.w2 (by omega) (by omega) (ids_few rt.S) (fun w' ha => (s.aenv (ownM_own ha)).five)).mono ?_
  rintro ev w' (⟨hn, rfl, hb⟩ | ⟨_, rfl, P, φ, hX, hP, vR, vK, vI, hC, ha, hN⟩)
  · refine .inl ⟨rfl, hb, ?_⟩
    have hw := rt.S.1.w
    have hm0 := (MD.parts rt.S.1).m0
    rw [hl] at hn
    omega
  · refine .inr ⟨rfl, ?_⟩
    obtain ⟨H', N'⟩ := s.at'.collected hC hN ha
    have D := jdone_of rt.S rt.h64 hX hP
    obtain ⟨g1, g2, g3⟩ := s.hm.major rt.S D
    exact ⟨_, sr, _, N', ⟨D.C.half, D.C.hold, D.C.card⟩, s.next N' H' g1 s.kl s.rl, g2, g3, fun j i hj hi => s.hm.majorW rt.S D hj hi⟩
end Go.Proofs.YtlkcbdinlfeoiaaGreatDoor
namespace Go.Proofs.YtlkcbdinlfeoiaaGreatDoor
open Go.RowKit Go.Maps

/-- The words of a memory with a new object at t. -/
def lyW (W : List Int) (t : Nat) (hd : Int) (fs : List Int) : List Int := W.take t ++ (hd :: fs) ++ W.drop (t + 1 + fs.length)
theorem lyW_len {W : List Int} {t : Nat} {hd : Int} {fs : List Int} (h : t + 1 + fs.length ≤ W.length) : (lyW W t hd fs).length = W.length := by
  unfold lyW
  simp only [List.length_append, List.length_take, List.length_cons, List.length_drop]
  omega
theorem lyW_get {W : List Int} {t : Nat} {hd : Int} {fs : List Int} (h : t + 1 + fs.length ≤ W.length) (i : Nat) : (lyW W t hd fs)[i]? = if i < t then W[i]? else if i = t then some hd else if i < t + 1 + fs.length then fs[i - t - 1]? else W[i]? := by
  unfold lyW
  have l1 : (W.take t).length = t := by rw [List.length_take]; omega
  by_cases c1 : i < t
  · rw [if_pos c1, List.append_assoc, List.getElem?_append_left (by omega), List.getElem?_take, if_pos c1]
  · rw [if_neg c1, List.append_assoc, List.getElem?_append_right (by omega), l1]
    by_cases c2 : i = t
    · rw [if_pos c2, c2, Nat.sub_self]
      rfl
    · rw [if_neg c2]
      obtain ⟨j, rfl⟩ : ∃ j, i = t + 1 + j := ⟨i - t - 1, by omega⟩
      have e1 : t + 1 + j - t = j + 1 := by omega
      have e2 : t + 1 + j - t - 1 = j := by omega
      rw [e2, e1, List.cons_append, List.getElem?_cons_succ]
      by_cases c3 : j < fs.length
      · rw [if_pos (by omega), List.getElem?_append_left c3]
      · rw [if_neg (by omega), List.getElem?_append_right (by omega), List.getElem?_drop]
        congr 1
        omega
/-- The header of a new object. -/
def hdN (kd : Int) (s : Nat) : Int := (s : Int) * 65536 + kd * 4 + 3
theorem hdN_facts {kd : Int} {s : Nat} (k0 : 0 ≤ kd) (k1 : kd ≤ 255) (hs : s ≤ 4096) : hdN kd s % 4 = 3 ∧ hdN kd s / 4 % 256 = kd ∧ hdN kd s / 1024 % 16 = 0 ∧ hdN kd s / 16384 % 2 = 0 ∧ hdN kd s / 32768 % 2 = 0 ∧ hdN kd s / 65536 = (s : Int) ∧ 0 ≤ hdN kd s ∧ hdN kd s < 18446744073709551616 := by
  unfold hdN
  omega
/-- Where an object's words were taken. -/
def topM (k : MD) (y : Bool) (n : Nat) : MD := { k with top := if y then k.top + (n : Int) else k.top, oldTop := if y then k.oldTop else k.oldTop + (n : Int) }
variable {m : MD} {l1 l2 : List Nat}
/-- A new object is laid: the memory behind it. -/
theorem laid_of (rt : Right m l1 l2) {kd : Int} {fs : List Int} (y : Bool) (k0 : 0 ≤ kd) (k1 : kd ≤ 255) (hs : fs.length ≤ 4096) (hu : U64 fs) (hf : ¬ kd < 8 → ∀ x ∈ fs, fieldB m.W.length (fun _ => false) x = true)
    (hr : if y then m.top + ((1 + fs.length : Nat) : Int) ≤ m.half else m.oldTop + ((1 + fs.length : Nat) : Int) ≤ m.old) :
    ∃ t n, t = (if y then m.n1 else m.m1) ∧ t + 1 + fs.length ≤ m.W.length ∧ n = { topM m y (1 + fs.length) with W := lyW m.W t (hdN kd fs.length) fs } ∧
      Laid m n t fs.length y ∧ MD64 n ∧ n.F t / 4 % 256 = kd ∧ fieldsP n.F t = fs := by
  obtain ⟨h1, h2, h3, h4, h5, h6, h7, h8⟩ := hdN_facts k0 k1 hs
  have P := MD.parts rt.S.1
  have hn := rt.S.1.nums
  unfold numsOK at hn
  have hu0 := rt.S.1.u0
  have hu1 := rt.S.1.u1
  have ht0 := rt.S.1.t0
  have ht1 := rt.S.1.t1
  have ho0 := rt.S.1.o0
  have ho1 := rt.S.1.o1
  have hw := rt.S.1.w
  have p0 := P.n0
  have p1 := P.n1
  have p2 := P.m0
  have p3 := P.m1
  obtain ⟨t, ht⟩ : ∃ t, t = (if y then m.n1 else m.m1) := ⟨_, rfl⟩
  have hfit : t + 1 + fs.length ≤ m.W.length := by
    have hus : m.used = 0 ∨ m.used = 1 := by omega
    cases y with
    | true =>
      simp only [if_true] at ht hr
      rcases hus with e | e <;> (rw [e] at p1; omega)
    | false =>
      simp only [Bool.false_eq_true, if_false] at ht hr
      omega
  obtain ⟨n, hnn⟩ : ∃ n : MD, n = { topM m y (1 + fs.length) with W := lyW m.W t (hdN kd fs.length) fs } := ⟨_, rfl⟩
  have hF : ∀ i, n.F i = if i < t then m.F i else if i = t then hdN kd fs.length else if i < t + 1 + fs.length then fs.getD (i - t - 1) 0 else m.F i := fun i => by
    unfold MD.F
    rw [hnn]
    show (lyW m.W t (hdN kd fs.length) fs).getD i 0 = _
    rw [List.getD_eq_getElem?_getD, lyW_get hfit]
    simp only [List.getD_eq_getElem?_getD]
    split
    · rfl
    · split
      · rfl
      · split <;> rfl
  have hFt : n.F t = hdN kd fs.length := by rw [hF, if_neg (by omega), if_pos rfl]
  have hFk : ∀ k, k < fs.length → n.F (t + 1 + k) = fs.getD k 0 := fun k hk => by
    rw [hF, if_neg (by omega), if_neg (by omega), if_pos (by omega), show t + 1 + k - t - 1 = k by omega]
  have hsz : szN (n.F t) = fs.length := by
    unfold szN
    rw [hFt, h6]
    omega
  have hfl : fieldsP n.F t = fs := by
    unfold fieldsP
    rw [hsz]
    apply List.ext_getElem?
    intro i
    rw [List.getElem?_map]
    by_cases hi : i < fs.length
    · rw [List.getElem?_range hi, Option.map_some, hFk i hi, List.getD_eq_getElem?_getD, List.getElem?_eq_getElem hi]
      rfl
    · rw [List.getElem?_eq_none (by simpa using hi), List.getElem?_eq_none (by simpa using hi)]
      rfl
  have e1 : m.top + ((1 + fs.length : Nat) : Int) = m.top + 1 + (fs.length : Int) := by omega
  have e2 : m.oldTop + ((1 + fs.length : Nat) : Int) = m.oldTop + 1 + (fs.length : Int) := by omega
  refine ⟨t, n, ht, hfit, hnn, ?_, ?_, by rw [hFt]; exact h2, hfl⟩
  · refine ⟨by rw [hnn]; rfl, by rw [hnn]; rfl, by rw [hnn]; rfl, by rw [hnn]; rfl, by rw [hnn]; rfl, by rw [hnn]; rfl, by rw [hnn]; rfl, by rw [hnn]; rfl, ?_, by rw [hnn, ← e1]; rfl, by rw [hnn, ← e2]; rfl, ht, by rw [← e1, ← e2]; exact hr, fun i hi => ?_, ?_, hsz, by rw [hFt]; exact h4, by rw [hFt]; exact h3, fun hk k hkl => ?_⟩
    · rw [hnn]; exact lyW_len hfit
    · rw [hF]
      rcases hi with hi | hi
      · rw [if_pos hi]
      · rw [if_neg (by omega), if_neg (by omega), if_neg (by omega)]
    · unfold headB
      rw [hFt, h6]
      exact decide_eq_true ⟨h1, h5, by omega⟩
    · rw [hFt, h2] at hk
      rw [hFk k hkl, List.getD_eq_getElem?_getD, List.getElem?_eq_getElem hkl]
      exact hf hk _ (List.getElem_mem hkl)
  · obtain ⟨a1, a2, a3, a4⟩ := rt.h64
    refine ⟨fun x hx => ?_, by rw [hnn]; exact a2, by rw [hnn]; exact a3, by rw [hnn]; exact a4⟩
    rw [hnn] at hx
    have hx : x ∈ lyW m.W t (hdN kd fs.length) fs := hx
    unfold lyW at hx
    rcases List.mem_append.1 hx with hx | hx
    · rcases List.mem_append.1 hx with hx | hx
      · exact a1 x (List.mem_of_mem_take hx)
      · rcases List.mem_cons.1 hx with rfl | hx
        · exact ⟨h7, h8⟩
        · exact hu x hx
    · exact a1 x (List.mem_of_mem_drop hx)
end Go.Proofs.YtlkcbdinlfeoiaaGreatDoor
namespace Go.Proofs.YtlkcbdinlfeoiaaGreatDoor
open Go.RowKit Go.Maps

variable {h : HP} {sr : Int} {m n : MD} {w w' : World} {a : Nat → Addr} {w0 : World} {M : MO} {X : MXtra}
theorem sum_sub (g : Nat → Nat) : ∀ (l l' : List Nat), l.Nodup → (∀ x ∈ l, x ∈ l') → (l.map g).sum ≤ (l'.map g).sum
  | [], l', _, _ => by simp
  | x :: l, l', hn, hs => by
    have hx := hs x (by simp)
    have hp := List.perm_cons_erase hx
    obtain ⟨h1, h2⟩ := List.nodup_cons.1 hn
    have ih := sum_sub g l (l'.erase x) h2 (fun y hy => (List.mem_erase_of_ne (fun e => h1 (by rw [← e]; exact hy))).2 (hs y (by simp [hy])))
    have hsum := (hp.map g).sum_nat
    rw [hsum, List.map_cons, List.map_cons, List.sum_cons, List.sum_cons]
    omega
/-- The words of an object of a model. -/
def ndW (d : ND) : Nat := 1 + (if d.kind < 8 then d.raw.length else d.f.length)
def MO.total (M : MO) : Nat := (M.N.map ndW).sum
theorem HM.all (hm : HM m sr M X) : M.all.Nodup ∧ (∀ i ∈ M.all, i < M.N.length) ∧ (∀ c ∈ M.R, c.kind = 4 → c.ref ∈ M.all) ∧ ∀ i ∈ M.all, ∀ d, M.N[i]? = some d → ¬ d.kind < 8 → ∀ c ∈ d.f, c.kind = 4 → c.ref ∈ M.all := by
  obtain ⟨vs, S, φ, hr, hw⟩ := hm
  obtain ⟨e, s, hn⟩ := hr.all
  obtain ⟨k1, k2⟩ := hr.closed
  exact ⟨hn, fun i hi => hr.inN i (s i hi), k1, k2⟩
theorem words_eq (M : MO) : M.words = (M.all.map fun i => match M.N[i]? with
  | some d => ndW d
  | none => 0).sum := rfl
theorem HM.few (hm : HM m sr M X) : M.words ≤ M.total := by
  obtain ⟨h1, h2, _⟩ := hm.all
  have hs := sum_sub (fun i => match M.N[i]? with | some d => ndW d | none => 0) M.all (List.range M.N.length) h1 (fun i hi => List.mem_range.2 (h2 i hi))
  rw [words_eq]
  refine Nat.le_trans hs (Nat.le_of_eq ?_)
  unfold MO.total
  congr 1
  apply List.ext_getElem?
  intro i
  rw [List.getElem?_map, List.getElem?_map]
  by_cases hi : i < M.N.length
  · rw [List.getElem?_range hi, List.getElem?_eq_getElem hi]
    show some (match M.N[i]? with | some d => ndW d | none => 0) = _
    rw [List.getElem?_eq_getElem hi]
    rfl
  · rw [List.getElem?_eq_none (by simpa using hi), List.getElem?_eq_none (by simpa using hi)]
    rfl
/-- Where no root leads to an object nothing is come to. -/
theorem allM_none (h : ∀ c ∈ M.R, c.kind ≠ 4) : M.all = [] := by
  have hm : ∀ l : List CL, (∀ c ∈ l, c.kind ≠ 4) → meetsM [] l = [] := fun l hl => by
    induction l with
    | nil => rfl
    | cons c l ih =>
      show meetsM (meetM [] c) l = []
      have e : meetM [] c = [] := by unfold meetM; rw [if_neg (fun q => hl c (by simp) q.1)]
      rw [e]
      exact ih (fun y hy => hl y (by simp [hy]))
  unfold MO.all MO.reach
  rw [hm M.R h]
  exact reachM_end (Nat.le_refl _) _
theorem words_none (h : ∀ c ∈ M.R, c.kind ≠ 4) : M.words = 0 := by rw [words_eq, allM_none h]; rfl
/-- All that a model has is come to. -/
theorem HM.whole (hm : HM m sr M X) (h : ∀ i, i < M.N.length → i ∈ M.all) : M.words = M.total := by
  refine Nat.le_antisymm hm.few ?_
  have hs := sum_sub (fun i => match M.N[i]? with | some d => ndW d | none => 0) (List.range M.N.length) M.all List.nodup_range (fun i hi => h i (List.mem_range.1 hi))
  rw [words_eq]
  refine Nat.le_trans (Nat.le_of_eq ?_) hs
  unfold MO.total
  congr 1
  apply List.ext_getElem?
  intro i
  rw [List.getElem?_map, List.getElem?_map]
  by_cases hi : i < M.N.length
  · rw [List.getElem?_range hi, List.getElem?_eq_getElem hi]
    show _ = some (match M.N[i]? with | some d => ndW d | none => 0)
    rw [List.getElem?_eq_getElem hi]
    rfl
  · rw [List.getElem?_eq_none (by simpa using hi), List.getElem?_eq_none (by simpa using hi)]
    rfl
/-- A new heap's model. -/
def MO.new (k : Nat) : MO := ⟨List.replicate k ⟨0, 0, 0⟩, []⟩
def MXtra.new : MXtra := ⟨[], fun _ => 0, 0⟩
theorem newHM {half old card : Int} {nW nC k : Nat} (hn : numsOK half old card) (hW : (nW : Int) = 2 * half + old) (hC : (nC : Int) = (old + card - 1) / card) : HM (newM half old card nW nC k) 0 (MO.new k) MXtra.new :=
  ⟨[], _, _, HRel.new (newM_shape (n := k) hn hW hC) (newM_cards half old card nW nC k) (newM_64 half old card nW nC k) rfl, WRel.new rfl rfl⟩
end Go.Proofs.YtlkcbdinlfeoiaaGreatDoor
namespace Go.Proofs.YtlkcbdinlfeoiaaGreatDoor
open Go.RowKit Go.Maps

variable {h : HP} {sr : Int} {m : MD} {w w' : World} {a : Nat → Addr} {w0 : World} {M : MO} {X : MXtra}
theorem HAt.c0 (H : HAt h sr m w) : w.cell? ⟨h.q, 0, none⟩ = some (.pointer (some ⟨h.p, 0, none⟩)) := by rw [cell_of_row _ _ _ _ _ _ H.hq]; rfl
theorem HAt.c1 (H : HAt h sr m w) : w.cell? ⟨h.q, 1, none⟩ = some (.int .i64 h.tn) := by rw [cell_of_row _ _ _ _ _ _ H.hq]; rfl
theorem HAt.c2 (H : HAt h sr m w) : w.cell? ⟨h.q, 2, none⟩ = some (.int .i64 sr) := by rw [cell_of_row _ _ _ _ _ _ H.hq]; rfl
theorem HAt.cm (H : HAt h sr m w) : MemAt h.p m.half m.old m.card (.slice (some ⟨h.bW, 0, none⟩) m.W.length h.cW) m.used m.top m.oldTop h.vR h.vK h.vI (.slice (some ⟨h.bC, 0, none⟩) m.C.length h.cC) w := H.col.mem
theorem HAt.rows (H : HAt h sr m w) : (∃ ao cap, h.vR = .slice ao m.R.length cap) ∧ (∃ ao cap, h.vK = .slice ao m.K.length cap) ∧ ∃ ao cap, h.vI = .slice ao m.I.length cap := by
  obtain ⟨ao, cap, e, _⟩ := H.R
  obtain ⟨a1, c1, e1, _⟩ := (RowB.of_own H.K).1
  obtain ⟨a2, c2, e2, _⟩ := (RowB.of_own H.I).1
  exact ⟨⟨_, _, e⟩, ⟨_, _, e1⟩, ⟨_, _, e2⟩⟩
/-- A right memory's numbers. -/
theorem HS.nums (s : HS a w0 h sr m M X w) : 1 ≤ m.half ∧ m.half ≤ 65536 ∧ 1 ≤ m.old ∧ m.old ≤ 65536 ∧ (m.used = 0 ∨ m.used = 1) ∧ 0 ≤ m.top ∧ m.top ≤ m.half ∧ 0 ≤ m.oldTop ∧ m.oldTop ≤ m.old ∧ (m.W.length : Int) = 2 * m.half + m.old ∧ (m.n1 : Int) = m.used * m.half + m.top ∧ (m.m1 : Int) = 2 * m.half + m.oldTop := by
  obtain ⟨l1, l2, rt⟩ := s.hm.right
  have hn := rt.S.1.nums
  unfold numsOK at hn
  have P := MD.parts rt.S.1
  have := rt.S.1.u0
  have := rt.S.1.u1
  exact ⟨by omega, by omega, by omega, by omega, by omega, rt.S.1.t0, rt.S.1.t1, rt.S.1.o0, rt.S.1.o1, rt.S.1.w, P.n1, P.m1⟩
theorem HS.rlen (s : HS a w0 h sr m M X w) : m.R.length = M.R.length ∧ m.R.length ≤ 5000 := ⟨s.hm.roots, by have := s.rl; have := s.hm.roots; omega⟩
set_option maxHeartbeats 1000000 in
set_option maxRecDepth 100000 in
theorem hroot_ok (q p b n cap r : Nat) (x : Int) (hr : r < n) (w : World) (c0 : w.cell? ⟨q, 0, none⟩ = some (.pointer (some ⟨p, 0, none⟩))) (c7 : w.cell? ⟨p, 7, none⟩ = some (.slice (some ⟨b, 0, none⟩) n cap)) (cr : w.cell? ⟨b, r, none⟩ = some (.int .u64 x)) (hn : n ≤ 5000) :
    Calls Tryz.prog 73 #[.pointer (some ⟨q, 0, none⟩), .int .i64 (r : Int)] w fun ev w' => ev = .returned (.tuple #[.int .u64 x, .nilIface]) ∧ w' = w := by
  have k := hwithin_any r 0 ((n : Int) - 1) w
  rw [show (decide (0 ≤ (r : Int)) && decide ((r : Int) ≤ (n : Int) - 1)) = true by simp; omega] at k
  have hI : (r : Int) < (n : Int) := by omega
  have hI0 : (0 : Int) ≤ (r : Int) := by omega
  go_enter Tryz.func73, Tryz.ntmps73
  go_wp2_with fail
  refine k.mono ?_
  clear k
  rintro ev w1 ⟨rfl, rfl⟩
  go_wp2_with fail
  go_ret2
  exact ⟨rfl, rfl⟩
set_option maxHeartbeats 1000000 in
set_option maxRecDepth 100000 in
theorem hroot_no (a : Nat → Addr) (q p n cap : Nat) (ao : Option Addr) (r : Int) (hr : ¬ (0 ≤ r ∧ r < (n : Int))) (w : World) (c0 : w.cell? ⟨q, 0, none⟩ = some (.pointer (some ⟨p, 0, none⟩))) (c7 : w.cell? ⟨p, 7, none⟩ = some (.slice ao n cap)) (hn : n ≤ 5000) (E : MErr a w) :
    Calls Tryz.prog 73 #[.pointer (some ⟨q, 0, none⟩), .int .i64 r] w fun ev w' => ev = .returned (.tuple #[.int .u64 0, errV a 4]) ∧ Below w.heap.size w w' := by
  have k := hwithin_any r 0 ((n : Int) - 1) w
  rw [show (decide (0 ≤ r) && decide (r ≤ (n : Int) - 1)) = false by rw [Bool.and_eq_false_iff, decide_eq_false_iff_not, decide_eq_false_iff_not]; omega] at k
  have k4 := E.c4
  clear E hr
  go_enter Tryz.func73, Tryz.ntmps73
  go_wp2_with fail
  refine k.mono ?_
  clear k
  rintro ev w1 ⟨rfl, rfl⟩
  go_wp2_with fail
  go_quiet (fail)
  go_wp2_with fail
  go_ret2
  exact ⟨rfl, below_drewN (Below.refl _ _)⟩
/-- A root is told, by its number. -/
theorem HS.rootOk (s : HS a w0 h sr m M X w) {r : Nat} (hr : r < m.R.length) : Calls Tryz.prog 73 #[.pointer (some ⟨h.q, 0, none⟩), .int .i64 (r : Int)] w fun ev w' => ev = .returned (.tuple #[.int .u64 (m.R.getD r 0), .nilIface]) ∧ w' = w := by
  obtain ⟨b, cap, e, _, _, cr, _⟩ := s.at'.root hr
  refine hroot_ok h.q h.p b m.R.length cap r _ hr w s.at'.c0 ?_ cr s.rlen.2
  rw [s.at'.cm.c7, e]
theorem HS.rootNo (s : HS a w0 h sr m M X w) {r : Int} (hr : ¬ (0 ≤ r ∧ r < (m.R.length : Int))) : Calls Tryz.prog 73 #[.pointer (some ⟨h.q, 0, none⟩), .int .i64 r] w fun ev w' => ev = .returned (.tuple #[.int .u64 0, errV a 4]) ∧ Below w.heap.size w w' := by
  obtain ⟨⟨ao, cap, e⟩, _⟩ := s.at'.rows
  refine hroot_no a h.q h.p m.R.length cap ao r hr w s.at'.c0 ?_ s.rlen.2 s.benv.five
  rw [s.at'.cm.c7, e]
/-- What a closure that makes a word answers: the word, and the heap behind it, or an error. -/
def Made (a : Nat → Addr) (q r : Nat) (G : Int → HP → Int → MD → World → Prop) (B : Nat → World → Prop) (ev : Ending) (w1 : World) : Prop :=
  (∃ y h' sr' n, ev = .returned (.tuple #[.int .u64 y, .nilIface]) ∧ HAt h' sr' n w1 ∧ h'.q = q ∧ r < n.R.length ∧ G y h' sr' n w1) ∨ ∃ k, ev = .returned (.tuple #[.int .u64 0, errV a k]) ∧ B k w1
set_option maxHeartbeats 2000000 in
set_option maxRecDepth 100000 in
theorem hbecome_ok (s : HS a w0 h sr m M X w) (K : FuncId) (caps : Array Value) (hE : ∀ args w, (callFunc K args).run Tryz.prog w = .ok (.enter K args) w) {r : Nat} (hr : r < m.R.length) (G : Int → HP → Int → MD → World → Prop) (B : Nat → World → Prop)
    (hK : Calls Tryz.prog K caps w (Made a h.q r G B)) :
    Calls Tryz.prog 69 #[.pointer (some ⟨h.q, 0, none⟩), .int .i64 (r : Int), .func (.func K) #[] caps] w fun ev w' =>
      (∃ y h' sr' n w1, ev = .returned .nilIface ∧ G y h' sr' n w1 ∧ HAt h' sr' { n with R := n.R.set r y } w' ∧ Nxt h' h' w1 w') ∨ ∃ k, ev = .returned (errV a k) ∧ B k w' := by
  have k := s.rootOk hr
  have hI0 : (0 : Int) ≤ (r : Int) := by omega
  obtain ⟨q, hq⟩ : ∃ q, q = h.q := ⟨_, rfl⟩
  rw [← hq] at hK k ⊢
  obtain ⟨x, hx⟩ : ∃ x, x = m.R.getD r 0 := ⟨_, rfl⟩
  rw [← hx] at k
  clear s hx hr hq
  go_enter Tryz.func69, Tryz.ntmps69
  go_wp2_with fail
  refine k.mono ?_
  clear k
  rintro ev w1 ⟨rfl, rfl⟩
  go_wp2_with fail
  refine hK.mono ?_
  clear hK
  rintro ev w2 (⟨y, h', sr', n, rfl, H, hq, hr, hG⟩ | ⟨k, rfl, hB⟩)
  · have d0 := H.c0
    rw [hq] at d0
    obtain ⟨b, cap, e, hi, _, cr, fz, hset⟩ := H.root hr
    have d7 := H.cm.c7
    rw [e] at d7
    have hI : (r : Int) < (n.R.length : Int) := by omega
    have HN : Hid (Nxt h' h' w2 (w2.setCell ⟨b, r, none⟩ (.int .u64 y))) := (Nxt.refl h' w2).set (.inl (.inr (.inr (.inr (.inr (.inl hi))))))
    have HS' := toHid (hset y)
    have HG := toHid hG
    clear hset hG H hi e hq hr
    go_wp2_with fail
    go_ret
    exact .inl ⟨y, h', sr', n, w2, rfl, HG.out, HS'.out, HN.out⟩
  · have HB := toHid hB
    clear hB
    unfold errV
    go_wp2_with fail
    go_ret
    exact .inr ⟨k, rfl, HB.out⟩
set_option maxHeartbeats 2000000 in
set_option maxRecDepth 100000 in
theorem hbecome_no (s : HS a w0 h sr m M X w) (f : Value) {r : Int} (hr : ¬ (0 ≤ r ∧ r < (m.R.length : Int))) :
    Calls Tryz.prog 69 #[.pointer (some ⟨h.q, 0, none⟩), .int .i64 r, f] w fun ev w' => ev = .returned (errV a 4) ∧ Below w.heap.size w w' := by
  have k := s.rootNo hr
  clear s hr
  go_enter Tryz.func69, Tryz.ntmps69
  go_wp2_with fail
  refine k.mono ?_
  clear k
  rintro ev w1 ⟨rfl, hb⟩
  have HB := toHid hb
  clear hb
  unfold errV
  go_wp2_with fail
  go_ret
  exact ⟨rfl, HB.out⟩
theorem Stp.back {w1 : World} (hb : Below w.heap.size w w1) (t : Stp a w0 h m M X w1 w') : Stp a w0 h m M X w w' := by
  obtain ⟨h', sr', n, N, D, s⟩ := t
  exact ⟨h', sr', n, (Nxt.of_below h hb).trans N, D, s⟩
/-- Behind a collection of all. -/
def StpJ (a : Nat → Addr) (w0 : World) (h : HP) (m : MD) (M : MO) (X : MXtra) (w w' : World) : Prop := ∃ h' sr' n, Nxt h h' w w' ∧ Dim m n ∧ HS a w0 h' sr' n M X w' ∧ n.top = 0 ∧ n.oldTop = (M.words : Int) ∧ ∀ j i, X.K[j]? = some i → i ∉ M.all → n.K.getD j 0 = 2
theorem StpJ.stp {w w' : World} (t : StpJ a w0 h m M X w w') : Stp a w0 h m M X w w' := by
  obtain ⟨h', sr', n, a1, a2, a3, _⟩ := t
  exact ⟨h', sr', n, a1, a2, a3⟩
theorem HS.same (s : HS a w0 h sr m M X w) {w' : World} (hb : Below w.heap.size w w') : Stp a w0 h m M X w w' := ⟨h, sr, m, Nxt.of_below h hb, Dim.refl m, s.below hb⟩
set_option maxHeartbeats 1000000 in
set_option maxRecDepth 100000 in
theorem smajor_any (s : HS a w0 h sr m M X w) : Calls Tryz.prog 68 #[.pointer (some ⟨h.q, 0, none⟩)] w fun ev w' => (ev = .returned (errV a 5) ∧ Below w.heap.size w w' ∧ m.old < (M.words : Int)) ∨ (ev = .returned .nilIface ∧ StpJ a w0 h m M X w w') := by
  have k := cmajor_any s
  have c0 := s.at'.c0
  obtain ⟨q, hq⟩ : ∃ q, q = h.q := ⟨_, rfl⟩
  obtain ⟨p, hp⟩ : ∃ p, p = h.p := ⟨_, rfl⟩
  rw [← hq, ← hp] at c0
  rw [← hp] at k
  rw [← hq]
  clear s hq hp
  go_enter Tryz.func68, Tryz.ntmps68
  go_wp2_with fail
  refine k.mono ?_
  clear k
  rintro ev w1 (⟨rfl, hP⟩ | ⟨rfl, hP⟩)
  · have HP' := toHid hP
    clear hP
    go_wp2_with fail
    first | go_ret | skip
    exact .inl ⟨rfl, HP'.out⟩
  · have HP' := toHid hP
    clear hP
    go_wp2_with fail
    first | go_ret | skip
    exact .inr ⟨rfl, HP'.out⟩
theorem infoSpH : (Tryz.prog.info? 338).map (·.comparable) = some true := by kernel_rfl
theorem infoSH : (Tryz.prog.info? 356).map (·.size) = some 1 := by kernel_rfl
theorem eqFull (x : Addr) (w : World) : (binOp .eql 27 (.iface 338 (.pointer (some x))) (.iface 338 (.pointer (some x)))).run Tryz.prog w = .ok (.bool true) w := by
  obtain ⟨i, hi, hcmp⟩ := Option.map_eq_some_iff.1 infoSpH
  obtain ⟨j, hj, _⟩ := Option.map_eq_some_iff.1 infoSH
  exact run_eql_iface_ptr_same (P := Tryz.prog) w x Tryz.underlying27 Tryz.underlying338 hi hcmp hj
theorem eqNone (x : Addr) (w : World) : (binOp .eql 27 .nilIface (.iface 338 (.pointer (some x)))).run Tryz.prog w = .ok (.bool false) w := run_eql_iface_nil_left (P := Tryz.prog) w 338 _ Tryz.underlying27
set_option maxHeartbeats 1000000 in
set_option maxRecDepth 100000 in
theorem sminor_any (s : HS a w0 h sr m M X w) : Calls Tryz.prog 67 #[.pointer (some ⟨h.q, 0, none⟩)] w fun ev w' => (ev = .returned (errV a 5) ∧ Below w.heap.size w w' ∧ m.old < (M.words : Int)) ∨ (ev = .returned .nilIface ∧ Stp a w0 h m M X w w') := by
  have k : ∀ W, Below w.heap.size w W → Calls Tryz.prog 116 #[.pointer (some ⟨h.p, 0, none⟩), .int .i64 h.tn] W fun ev w' => (ev = .returned (errV a 5) ∧ Below W.heap.size W w') ∨ (ev = .returned .nilIface ∧ Stp a w0 h m M X W w' ∧ Aside (ownM h.p h.bW h.bC) W w') := fun W hW => cminor_any (s.below hW)
  have c0 := s.at'.c0
  have c1 := s.at'.c1
  have HS' := toHid s
  obtain ⟨q, hq⟩ : ∃ q, q = h.q := ⟨_, rfl⟩
  obtain ⟨p, hp⟩ : ∃ p, p = h.p := ⟨_, rfl⟩
  obtain ⟨t, ht⟩ : ∃ t, t = h.tn := ⟨_, rfl⟩
  rw [← hq, ← hp] at c0
  rw [← hq, ← ht] at c1
  rw [← hp, ← ht] at k
  have HM5 : Hid (∀ w1, Below w.heap.size w w1 → w1.cell? ⟨5, 0, none⟩ = some (.iface 338 (.pointer (some (a 5))))) := fun w1 hb => (s.benv.five.below hb).c5
  have HJ : Hid (∀ w1, Below w.heap.size w w1 → Calls Tryz.prog 68 #[.pointer (some ⟨q, 0, none⟩)] w1 fun ev w' => (ev = .returned (errV a 5) ∧ Below w1.heap.size w1 w' ∧ m.old < (M.words : Int)) ∨ (ev = .returned .nilIface ∧ StpJ a w0 h m M X w1 w')) := fun w1 hb => by
    rw [hq]; exact smajor_any (s.below hb)
  have HG : Hid (∀ w1, Stp a w0 h m M X w w1 → w1.cell? ⟨5, 0, none⟩ = some (.iface 338 (.pointer (some (a 5))))) := fun w1 st => by
    obtain ⟨h', sr', n, _, _, s'⟩ := st
    exact s'.benv.five.c5
  have HS0 : Hid (∀ w1, Aside (ownM p h.bW h.bC) w w1 → w1.cell? ⟨q, 0, none⟩ = some (.pointer (some ⟨p, 0, none⟩)) ∧ w1.cell? ⟨q, 1, none⟩ = some (.int .i64 t)) := fun w1 ha => by
    have hn : ¬ ownM p h.bW h.bC q := fun e => by
      rw [hq, hp] at e
      rcases e with e | e | e
      · exact s.at'.tq.ne s.at'.tp (by decide) e
      · exact s.at'.tq.ne s.at'.tW (by decide) e
      · exact s.at'.tq.ne s.at'.tC (by decide) e
    exact ⟨ha.cell c0 hn, ha.cell c1 hn⟩
  have HS1 := toHid (HS0.out w (Aside.refl _ _))
  rw [← hq]
  have KC : Hid (∀ W, Below w.heap.size w W → Calls Tryz.prog 116 #[.pointer (some ⟨p, 0, none⟩), .int .i64 t] W fun ev w' => ∃ e, ev = .returned e ∧ Hid ((e = errV a 5 ∧ Below w.heap.size w w') ∨ (e = .nilIface ∧ Stp a w0 h m M X w w')) ∧ Aside (ownM p h.bW h.bC) w w') := fun W hW => (k W hW).mono (by
    rintro ev w1 (⟨rfl, hb⟩ | ⟨rfl, hP, ha⟩)
    · exact ⟨_, rfl, .inl ⟨rfl, hW.trans (hb.mono hW.size)⟩, Aside.of_below (hW.trans (hb.mono hW.size))⟩
    · exact ⟨_, rfl, .inr ⟨rfl, hP.back hW⟩, (Aside.of_below hW).trans ha⟩)
  have q1 := eqFull (a 5)
  have q2 := eqNone (a 5)
  clear s hq hp ht k c0 c1
  go_enter Tryz.func67, Tryz.ntmps67
  go_upto_region 1 with fail
  go_region_held3 (fun W => W.cell? ⟨q, 0, none⟩ = some (.pointer (some ⟨p, 0, none⟩)) ∧ W.cell? ⟨q, 1, none⟩ = some (.int .i64 t)) (first | with_reducible exact HS1.out | with_reducible exact HS0.out _ ha | exact HS1.out) (first | (go_at_call 116; refine (KC.out _ (by first | exact Below.refl _ _ | exact (Below.refl _ _).drew)).mono ?_; rintro ev w1 ⟨e, rfl, hPP, ha⟩))
  have hPP1 := hPP.out
  clear hPP
  rcases hPP1 with ⟨rfl, hb⟩ | ⟨rfl, hP⟩
  · skip
    have g5 := HM5.out w1 hb
    have kj := HJ.out w1 hb
    have HB := toHid hb
    clear hb ha
    unfold errV
    go_wp2_with fail
    refine kj.mono ?_
    clear kj
    rintro ev w2 (⟨rfl, hb2, hl⟩ | ⟨rfl, hP⟩)
    · have HE : Hid (Below w.heap.size w w2 ∧ m.old < (M.words : Int)) := ⟨HB.out.trans (hb2.mono HB.out.size), hl⟩
      clear hb2 hl
      go_wp2_with fail
      first | go_ret | skip
      exact .inl ⟨rfl, HE.out⟩
    · have HE : Hid (Stp a w0 h m M X w w2) := by
        obtain ⟨h', sr', n, N, D, s', _⟩ := hP
        exact ⟨h', sr', n, (Nxt.of_below h HB.out).trans N, D, s'⟩
      clear hP
      go_wp2_with fail
      first | go_ret | skip
      exact .inr ⟨rfl, HE.out⟩
  · have g5 := HG.out w1 hP
    have HE := toHid hP
    clear hP ha
    go_wp2_with fail
    first | go_ret | skip
    exact .inr ⟨rfl, HE.out⟩
end Go.Proofs.YtlkcbdinlfeoiaaGreatDoor
namespace Go.Proofs.YtlkcbdinlfeoiaaGreatDoor
open Go.RowKit Go.Maps

variable {h : HP} {sr : Int} {m : MD} {w w' : World} {a : Nat → Addr} {w0 : World} {M : MO} {X : MXtra}
/-- Behind collectFor: there is room, or as little is left as can be. -/
def CFor (a : Nat → Addr) (w0 : World) (h : HP) (m : MD) (M : MO) (X : MXtra) (n : Nat) (w w' : World) : Prop := ∃ h' sr' k, Nxt h h' w w' ∧ Dim m k ∧ HS a w0 h' sr' k M X w' ∧ ((n : Int) ≤ k.half - k.top ∨ (k.top = 0 ∧ k.oldTop = (M.words : Int)) ∨ k.old < (M.words : Int))
theorem HS.leftOk (s : HS a w0 h sr m M X w) : Calls Tryz.prog 168 #[.pointer (some ⟨h.q, 0, none⟩)] w fun ev w' => ev = .returned (.int .i64 (m.half - m.top)) ∧ ∃ k, w' = w.drewN k := by
  obtain ⟨_, n1, _, _, _, n2, n3, _⟩ := s.nums
  exact left_ok h.q h.p m.half m.top n2 n3 n1 w s.at'.c0 s.at'.cm.c0 s.at'.cm.c5
set_option maxHeartbeats 2000000 in
theorem hcollectFor_any (s : HS a w0 h sr m M X w) (n : Nat) : Calls Tryz.prog 169 #[.pointer (some ⟨h.q, 0, none⟩), .int .i64 (n : Int)] w fun ev w' => ev = .returned (.tuple #[]) ∧ CFor a w0 h m M X n w w' := by
  have k : ∀ W, Below w.heap.size w W → Calls Tryz.prog 116 #[.pointer (some ⟨h.p, 0, none⟩), .int .i64 h.tn] W fun ev w' => (ev = .returned (errV a 5) ∧ Below W.heap.size W w') ∨ (ev = .returned .nilIface ∧ Stp a w0 h m M X W w' ∧ Aside (ownM h.p h.bW h.bC) W w') := fun W hW => cminor_any (s.below hW)
  have c0 := s.at'.c0
  have c1 := s.at'.c1
  have HSS := toHid s
  obtain ⟨q, hq⟩ : ∃ q, q = h.q := ⟨_, rfl⟩
  obtain ⟨p, hp⟩ : ∃ p, p = h.p := ⟨_, rfl⟩
  obtain ⟨t, ht⟩ : ∃ t, t = h.tn := ⟨_, rfl⟩
  rw [← hq, ← hp] at c0
  rw [← hq, ← ht] at c1
  rw [← hp, ← ht] at k
  have HS0 : Hid (∀ w1, Aside (ownM p h.bW h.bC) w w1 → w1.cell? ⟨q, 0, none⟩ = some (.pointer (some ⟨p, 0, none⟩)) ∧ w1.cell? ⟨q, 1, none⟩ = some (.int .i64 t)) := fun w1 ha => by
    have hn : ¬ ownM p h.bW h.bC q := fun e => by
      rw [hq, hp] at e
      rcases e with e | e | e
      · exact s.at'.tq.ne s.at'.tp (by decide) e
      · exact s.at'.tq.ne s.at'.tW (by decide) e
      · exact s.at'.tq.ne s.at'.tC (by decide) e
    exact ⟨ha.cell c0 hn, ha.cell c1 hn⟩
  have HS1 := toHid (HS0.out w (Aside.refl _ _))
  have HQ := toHid hq
  rw [← hq]
  have KC : Hid (∀ W, Below w.heap.size w W → Calls Tryz.prog 116 #[.pointer (some ⟨p, 0, none⟩), .int .i64 t] W fun ev w' => ∃ e, ev = .returned e ∧ Hid ((e = errV a 5 ∧ Below w.heap.size w w') ∨ (e = .nilIface ∧ Stp a w0 h m M X w w')) ∧ Aside (ownM p h.bW h.bC) w w') := fun W hW => (k W hW).mono (by
    rintro ev w1 (⟨rfl, hb⟩ | ⟨rfl, hP, ha⟩)
    · exact ⟨_, rfl, .inl ⟨rfl, hW.trans (hb.mono hW.size)⟩, Aside.of_below (hW.trans (hb.mono hW.size))⟩
    · exact ⟨_, rfl, .inr ⟨rfl, hP.back hW⟩, (Aside.of_below hW).trans ha⟩)
  clear s hq hp ht k c0 c1
  go_enter Tryz.func169, Tryz.ntmps169
  go_upto_region 0 with fail
  go_region_held3 (fun W => W.cell? ⟨q, 0, none⟩ = some (.pointer (some ⟨p, 0, none⟩)) ∧ W.cell? ⟨q, 1, none⟩ = some (.int .i64 t)) (first | with_reducible exact HS1.out | with_reducible exact HS0.out _ ha | exact HS1.out) (first | (go_at_call 116; refine (KC.out _ (by first | exact Below.refl _ _ | exact (Below.refl _ _).drew)).mono ?_; rintro ev w1 ⟨e, rfl, hPP, ha⟩))
  have hPP1 := hPP.out
  clear hPP
  rcases hPP1 with ⟨rfl, hb⟩ | ⟨rfl, hP⟩
  · skip
    have kj := smajor_any (HSS.out.below hb)
    rw [← HQ.out] at kj
    have HB := toHid hb
    clear hb ha
    unfold errV
    go_wp2_with fail
    refine kj.mono ?_
    clear kj
    rintro ev w2 (⟨rfl, hb2, hl⟩ | ⟨rfl, hP⟩)
    · have HE : Hid (CFor a w0 h m M X n w w2) := by
        have hbb := HB.out.trans (hb2.mono HB.out.size)
        exact ⟨h, sr, m, Nxt.of_below h hbb, Dim.refl m, HSS.out.below hbb, .inr (.inr hl)⟩
      clear hb2 hl
      go_wp2_with fail
      first | go_end0 | skip
      exact ⟨rfl, HE.out⟩
    · have HE : Hid (CFor a w0 h m M X n w w2) := by
        obtain ⟨h', sr', k, N, D, s', e1, e2, _⟩ := hP
        exact ⟨h', sr', k, (Nxt.of_below h HB.out).trans N, D, s', .inr (.inl ⟨e1, e2⟩)⟩
      clear hP
      go_wp2_with fail
      first | go_end0 | skip
      exact ⟨rfl, HE.out⟩
  · obtain ⟨h1, sr1, m1, N1, D1, s1⟩ := hP
    have kl := s1.leftOk
    rw [N1.q, ← HQ.out] at kl
    have kj : ∀ k, Calls Tryz.prog 68 #[.pointer (some ⟨q, 0, none⟩)] (w1.drewN k) fun ev w' => (ev = .returned (errV a 5) ∧ Below (w1.drewN k).heap.size (w1.drewN k) w' ∧ m1.old < (M.words : Int)) ∨ (ev = .returned .nilIface ∧ StpJ a w0 h1 m1 M X (w1.drewN k) w') := fun k => by
      have h := smajor_any (s1.below (w' := w1.drewN k) (below_drewN (Below.refl _ _)))
      rw [N1.q, ← HQ.out] at h
      exact h
    have HKJ := toHid kj
    have H1 : Hid (Nxt h h1 w w1 ∧ Dim m m1 ∧ HS a w0 h1 sr1 m1 M X w1) := ⟨N1, D1, s1⟩
    clear N1 D1 s1 ha kj
    by_cases hroom : (n : Int) ≤ m1.half - m1.top
    · have t1 : ¬ m1.half - m1.top < (n : Int) := by omega
      have HR := toHid hroom
      clear hroom
      go_wp2_with fail
      refine kl.mono ?_
      clear kl
      rintro ev w2 ⟨rfl, kk, rfl⟩
      have HE : Hid (CFor a w0 h m M X n w (w1.drewN kk)) := by
        obtain ⟨N1, D1, s1⟩ := H1.out
        have b := below_drewN (q := kk) (Below.refl w1.heap.size w1)
        exact ⟨h1, sr1, m1, N1.below b, D1, s1.below b, .inl HR.out⟩
      go_wp2_with fail
      first | go_end0 | skip
      exact ⟨rfl, HE.out⟩
    · have t1 : m1.half - m1.top < (n : Int) := by omega
      clear hroom
      go_wp2_with fail
      refine kl.mono ?_
      clear kl
      rintro ev w2 ⟨rfl, kk, rfl⟩
      go_wp2_with fail
      refine (HKJ.out kk).mono ?_
      rintro ev w3 (⟨rfl, hb2, hl⟩ | ⟨rfl, hP⟩)
      · have HE : Hid (CFor a w0 h m M X n w w3) := by
          obtain ⟨N1, D1, s1⟩ := H1.out
          have b := below_drewN (q := kk) (Below.refl w1.heap.size w1)
          have bb := b.trans (hb2.mono b.size)
          exact ⟨h1, sr1, m1, N1.below bb, D1, s1.below bb, .inr (.inr hl)⟩
        clear hb2 hl
        go_wp2_with fail
        first | go_end0 | skip
        exact ⟨rfl, HE.out⟩
      · have HE : Hid (CFor a w0 h m M X n w w3) := by
          obtain ⟨N1, D1, s1⟩ := H1.out
          obtain ⟨h', sr', k, N, D, s', e1, e2, _⟩ := hP
          have b := below_drewN (q := kk) (Below.refl w1.heap.size w1)
          exact ⟨h', sr', k, (N1.below b).trans N, D1.trans D, s', .inr (.inl ⟨e1, e2⟩)⟩
        clear hP
        go_wp2_with fail
        first | go_end0 | skip
        exact ⟨rfl, HE.out⟩
/-- Words for an object: where they are, or there are none. -/
def TakePost (a : Nat → Addr) (w0 : World) (h : HP) (m : MD) (M : MO) (X : MXtra) (n : Nat) (w : World) (ev : Ending) (w' : World) : Prop :=
  (∃ h' sr' k y, Nxt h h' w w' ∧ Dim m k ∧ HM k sr' M X ∧ ev = .returned (.tuple #[.int .i64 ((if y then k.n1 else k.m1 : Nat) : Int), .nilIface]) ∧ (if y then k.top + (n : Int) ≤ k.half else k.oldTop + (n : Int) ≤ k.old) ∧ HAt h' sr' (topM k y n) w') ∨
  (ev = .returned (.tuple #[.int .i64 0, errV a 5]) ∧ Stp a w0 h m M X w w' ∧ m.old < (M.words : Int) + n)
set_option maxHeartbeats 4000000 in
theorem htake_any (s : HS a w0 h sr m M X w) (n : Nat) (hn : n ≤ 70000) : Calls Tryz.prog 119 #[.pointer (some ⟨h.q, 0, none⟩), .int .i64 (n : Int)] w (TakePost a w0 h m M X n w) := by
  have kl := s.leftOk
  have kc : ∀ k, Calls Tryz.prog 169 #[.pointer (some ⟨h.q, 0, none⟩), .int .i64 (n : Int)] (w.drewN k) fun ev w' => ev = .returned (.tuple #[]) ∧ CFor a w0 h m M X n (w.drewN k) w' := fun k => hcollectFor_any (s.below (w' := w.drewN k) (below_drewN (Below.refl _ _))) n
  have HSS := toHid s
  obtain ⟨q, hq⟩ : ∃ q, q = h.q := ⟨_, rfl⟩
  rw [← hq] at kl kc ⊢
  have HQ := toHid hq
  have HKC := toHid kc
  clear s hq kc
  go_enter Tryz.func119, Tryz.ntmps119
  go_upto_region 1 with fail
  go_cut [9] from 6 to 10 (fun v9 wx => ∃ b : Bool, v9 = .bool b ∧ Hid (b = decide (m.half - m.top < (n : Int))) ∧ ∃ kk, wx = w.drewN kk)
  case first =>
    go_wp2_with fail
    refine kl.mono ?_
    clear kl
    rintro ev w2 ⟨rfl, kk, rfl⟩
    go_wp2_with fail
    go_meet
    exact ⟨_, rfl, rfl, kk, rfl⟩
  case rest =>
  obtain ⟨b9, rfl, HB9, kk, hkk⟩ := hcut
  subst hkk
  clear kl
  go_upto_if 9 with fail
  go_cut [] from 10 to 13 (fun wx => ∃ h1 sr1 m1, Hid (Nxt h h1 w wx) ∧ Hid (Dim m m1) ∧ Hid (HS a w0 h1 sr1 m1 M X wx) ∧ Hid ((n : Int) ≤ m1.half - m1.top ∨ (m1.top = 0 ∧ m1.oldTop = (M.words : Int)) ∨ m1.old < (M.words : Int)))
  case first =>
    cases b9 with
    | false =>
      have HR : Hid ((n : Int) ≤ m.half - m.top) := by have h9 := of_decide_eq_false HB9.out.symm; show _ ≤ _; omega
      clear HB9
      go_wp2_with fail
      go_meet
      have b := below_drewN (q := kk) (Below.refl w.heap.size w)
      exact ⟨h, sr, m, Nxt.of_below h b, Dim.refl m, HSS.out.below b, .inl HR.out⟩
    | true =>
      clear HB9
      go_wp2_with fail
      refine (HKC.out kk).mono ?_
      rintro ev w3 ⟨rfl, h1, sr1, m1, N1, D1, s1, e1⟩
      have HE : Hid (Nxt h h1 w w3 ∧ Dim m m1 ∧ HS a w0 h1 sr1 m1 M X w3 ∧ ((n : Int) ≤ m1.half - m1.top ∨ (m1.top = 0 ∧ m1.oldTop = (M.words : Int)) ∨ m1.old < (M.words : Int))) :=
        ⟨(Nxt.of_below h (below_drewN (q := kk) (Below.refl w.heap.size w))).trans N1, D1, s1, e1⟩
      clear N1 D1 s1 e1
      go_wp2_with fail
      go_meet
      exact ⟨h1, sr1, m1, HE.out.1, HE.out.2.1, HE.out.2.2.1, HE.out.2.2.2⟩
  case rest =>
    obtain ⟨h1, sr1, m1, HN1, HD1, HS1, HC1⟩ := hcut
    obtain ⟨w1, hw1⟩ : ∃ w1, w1 = wc := ⟨_, rfl⟩
    subst hw1
    obtain ⟨a1, a2, a3, a4, a5, a6, a7, a8, a9, a10, a11, a12⟩ := HS1.out.nums
    have kl := HS1.out.leftOk
    rw [HN1.out.q, ← HQ.out] at kl
    have d0 := HS1.out.at'.c0
    rw [HN1.out.q, ← HQ.out] at d0
    have M1 := HS1.out.at'.cm
    have e0 := M1.c0
    have e1 := M1.c1
    have e4 := M1.c4
    have e5 := M1.c5
    have e6 := M1.c6
    have g5 := HS1.out.benv.five.c5
    have hmb := HS1.out.at'.mb
    unfold MB at hmb
    have f5 : w1.frozen? ⟨h1.p, 5, none⟩ = false := by simp [World.frozen?, hmb]
    have f6 : w1.frozen? ⟨h1.p, 6, none⟩ = false := by simp [World.frozen?, hmb]
    have HT5 : Hid (∀ k, HAt h1 sr1 { m1 with top := m1.top + (n : Int) } ((w1.drewN k).setCell ⟨h1.p, 5, none⟩ (.int .i64 (m1.top + (n : Int))))) := fun k => (HS1.out.at'.below (below_drewN (q := k) (Below.refl _ _))).setTop _
    have HT6 : Hid (∀ k, HAt h1 sr1 { m1 with oldTop := m1.oldTop + (n : Int) } ((w1.drewN k).setCell ⟨h1.p, 6, none⟩ (.int .i64 (m1.oldTop + (n : Int))))) := fun k => (HS1.out.at'.below (below_drewN (q := k) (Below.refl _ _))).setOld _
    have HX5 : Hid (∀ k, Nxt h h1 w ((w1.drewN k).setCell ⟨h1.p, 5, none⟩ (.int .i64 (m1.top + (n : Int))))) := fun k => HN1.out.trans (Nxt.set (Nxt.of_below h1 (below_drewN (q := k) (Below.refl _ _))) (.inl (.inr (.inl rfl))))
    have HX6 : Hid (∀ k, Nxt h h1 w ((w1.drewN k).setCell ⟨h1.p, 6, none⟩ (.int .i64 (m1.oldTop + (n : Int))))) := fun k => HN1.out.trans (Nxt.set (Nxt.of_below h1 (below_drewN (q := k) (Below.refl _ _))) (.inl (.inr (.inl rfl))))
    have HF : Hid (∀ k, m.old < (M.words : Int) + n → TakePost a w0 h m M X n w (.returned (.tuple #[.int .i64 0, errV a 5])) (w1.drewN k)) := fun k hf => .inr ⟨rfl, ⟨h1, sr1, m1, HN1.out.below (below_drewN (q := k) (Below.refl _ _)), HD1.out, HS1.out.below (below_drewN (q := k) (Below.refl _ _))⟩, hf⟩
    have HO := HD1.out.old
    have x1 : IntKind.i64.wrap (m1.used * m1.half) = m1.used * m1.half := by rw [IntKind.wrap_i64]; rcases a5 with e | e <;> rw [e] <;> omega
    have x2 : IntKind.i64.wrap (m1.used * m1.half + m1.top) = m1.used * m1.half + m1.top := by rw [IntKind.wrap_i64]; rcases a5 with e | e <;> rw [e] <;> omega
    have x3 : IntKind.i64.wrap (m1.top + (n : Int)) = m1.top + (n : Int) := by rw [IntKind.wrap_i64]; omega
    have x4 : IntKind.i64.wrap (m1.old - m1.oldTop) = m1.old - m1.oldTop := by rw [IntKind.wrap_i64]; omega
    have x5 : IntKind.i64.wrap (2 * m1.half) = 2 * m1.half := by rw [IntKind.wrap_i64]; omega
    have x6 : IntKind.i64.wrap (2 * m1.half + m1.oldTop) = 2 * m1.half + m1.oldTop := by rw [IntKind.wrap_i64]; omega
    have x7 : IntKind.i64.wrap (m1.oldTop + (n : Int)) = m1.oldTop + (n : Int) := by rw [IntKind.wrap_i64]; omega
    have HY : Hid (m1.used * m1.half + m1.top = (m1.n1 : Int) ∧ 2 * m1.half + m1.oldTop = (m1.m1 : Int) ∧ m1.oldTop ≤ m1.old ∧ m1.old = m.old) := ⟨a11.symm, a12.symm, a9, HO⟩
    clear a1 a2 a3 a4 a5 a6 a7 a8 a9 a10 a11 a12 M1 hmb HO
    by_cases hroom : (n : Int) ≤ m1.half - m1.top
    · have HR := toHid hroom
      go_wp2_with fail
      refine kl.mono ?_
      clear kl
      rintro ev w2 ⟨rfl, k1, rfl⟩
      go_wp2_with fail
      go_quiet (fail)
      go_wp2_with fail
      go_ret2
      refine .inl ⟨h1, sr1, m1, true, HX5.out _, HD1.out, HS1.out.hm, ?_, ?_, HT5.out _⟩
      · rw [if_pos rfl, ← HY.out.1]; rfl
      · rw [if_pos rfl]; have := HR.out; omega
    · have hr1 : ¬ (n : Int) ≤ m1.half - m1.top := hroom
      have HR := toHid hroom
      clear hroom
      by_cases hold : (n : Int) ≤ m1.old - m1.oldTop
      · have HR2 := toHid hold
        go_wp2_with fail
        refine kl.mono ?_
        clear kl
        rintro ev w2 ⟨rfl, k1, rfl⟩
        go_wp2_with fail
        go_quiet (fail)
        go_wp2_with fail
        go_quiet (fail)
        go_wp2_with fail
        go_ret2
        refine .inl ⟨h1, sr1, m1, false, ?_, HD1.out, HS1.out.hm, ?_, ?_, ?_⟩
        · exact HX6.out _
        · rw [if_neg (by decide), ← HY.out.2.1]; rfl
        · rw [if_neg (by decide)]; have := HR2.out; omega
        · exact HT6.out _
      · have HR2 := toHid hold
        go_wp2_with fail
        refine kl.mono ?_
        clear kl
        rintro ev w2 ⟨rfl, k1, rfl⟩
        go_wp2_with fail
        go_quiet (fail)
        go_wp2_with fail
        go_quiet (fail)
        go_wp2_with fail
        go_ret2
        show TakePost a w0 h m M X n w (.returned (.tuple #[.int .i64 0, errV a 5])) _
        simp only [World.drewN_drewN]
        refine HF.out _ ?_
        have := HR.out
        have := HR2.out
        obtain ⟨_, _, y3, y4⟩ := HY.out
        rcases HC1.out with hc | ⟨hc1, hc2⟩ | hc <;> omega
end Go.Proofs.YtlkcbdinlfeoiaaGreatDoor
namespace Go.Proofs.YtlkcbdinlfeoiaaGreatDoor
open Go.RowKit Go.Maps

variable {h : HP} {sr : Int} {m : MD} {w w' : World} {a : Nat → Addr} {w0 : World} {M : MO} {X : MXtra}
theorem lyW_splice (W : List Int) (rest : List Value) (t : Nat) (hd : Int) (fs : List Int) (h : t + 1 + fs.length ≤ W.length) : splice (((wordsV W ++ rest).toArray.setIfInBounds t (.int .u64 hd)).toList) (t + 1) (wordsV fs) = wordsV (lyW W t hd fs) ++ rest := by
  have hl : (wordsV W).length = W.length := lenV W
  have hf : (wordsV fs).length = fs.length := lenV fs
  have e1 : ((wordsV W ++ rest).toArray.setIfInBounds t (.int .u64 hd)).toList = (wordsV W).set t (.int .u64 hd) ++ rest := by
    rw [List.setIfInBounds_toArray, List.set_append_left _ _ (by omega)]
  rw [e1]
  unfold splice lyW
  have e2 : ((wordsV W).set t (.int .u64 hd) ++ rest).take (t + 1) = wordsV (W.take t) ++ [.int .u64 hd] := by
    rw [List.take_append_of_le_length (by rw [List.length_set]; omega)]
    unfold wordsV
    rw [List.take_succ_eq_append_getElem (by rw [List.length_set, List.length_map]; omega), List.getElem_set_self, List.take_set_of_le (Nat.le_refl _), List.map_take]
  have e3 : ((wordsV W).set t (.int .u64 hd) ++ rest).drop (t + 1 + (wordsV fs).length) = wordsV (W.drop (t + 1 + fs.length)) ++ rest := by
    rw [List.drop_append_of_le_length (by rw [List.length_set]; omega), hf]
    unfold wordsV
    rw [List.drop_set_of_lt (by omega), List.map_drop]
  rw [e2, e3]
  unfold wordsV
  simp
/-- A new object: where it lies, or there is no room. -/
def LayPost (a : Nat → Addr) (w0 : World) (h : HP) (m : MD) (M : MO) (X : MXtra) (kd : Int) (fs : List Int) (w : World) (ev : Ending) (w' : World) : Prop :=
  (∃ h' sr' k n t y, Nxt h h' w w' ∧ Dim m k ∧ HM k sr' M X ∧ HAt h' sr' n w' ∧ Laid k n t fs.length y ∧ MD64 n ∧ n.F t / 4 % 256 = kd ∧ fieldsP n.F t = fs ∧ ev = .returned (.tuple #[.int .u64 (((t : Int) + 1) * 4), .nilIface])) ∨
  (ev = .returned (.tuple #[.int .u64 0, errV a 5]) ∧ Stp a w0 h m M X w w' ∧ m.old < (M.words : Int) + (1 + (fs.length : Int)))
set_option maxHeartbeats 4000000 in
set_option maxRecDepth 100000 in
theorem hlay_any (s : HS a w0 h sr m M X w) (kd : Int) (fs : List Int) (g cap : Nat) (hg : Blk g 81 (wordsV fs) w) (hgo : ¬ h.own g) (k0 : 0 ≤ kd) (k1 : kd ≤ 255) (hf : fs.length ≤ 4096) (hu : U64 fs) (hfl : ¬ kd < 8 → ∀ x ∈ fs, ∀ nW, fieldB nW (fun _ => false) x = true) :
    Calls Tryz.prog 71 #[.pointer (some ⟨h.q, 0, none⟩), .int .i64 kd, .slice (some ⟨g, 0, none⟩) fs.length cap] w (LayPost a w0 h m M X kd fs w) := by
  have hsum : ((fs.length : Int) * 65536 + 0 * 16384 + 0 * 1024 + kd * 4 + 3) = hdN kd fs.length := by unfold hdN; omega
  have ko := fun w => ofHead_ok kd 0 0 (fs.length : Int) k0 k1 (by omega) (by omega) (by omega) (by omega) (by omega) (by omega) w
  rw [hsum] at ko
  have KT : Hid (∀ w1, Below w.heap.size w w1 → Calls Tryz.prog 119 #[.pointer (some ⟨h.q, 0, none⟩), .int .i64 ((1 + fs.length : Nat) : Int)] w1 (TakePost a w0 h m M X (1 + fs.length) w1)) := fun w1 hb => htake_any (s.below hb) (1 + fs.length) (by omega)
  obtain ⟨hd, hhd⟩ : ∃ hd, hd = hdN kd fs.length := ⟨_, rfl⟩
  rw [← hhd] at ko
  obtain ⟨q, hq⟩ : ∃ q, q = h.q := ⟨_, rfl⟩
  rw [← hq] at KT ⊢
  obtain ⟨nf, hnf⟩ : ∃ n, n = fs.length := ⟨_, rfl⟩
  have HSS := toHid s
  have HQ := toHid hq
  have HHD := toHid hhd
  have HG := toHid hg
  have HGO := toHid hgo
  have HFL := toHid hfl
  have HNF := toHid hnf
  have HU := toHid hu
  have HK : Hid (0 ≤ kd ∧ kd ≤ 255) := ⟨k0, k1⟩
  rw [← hnf] at ko KT hf ⊢
  have HNN : Hid ((1 : Int) + (nf : Int) = ((1 + nf : Nat) : Int)) := by show _ = _; omega
  have hfi : (nf : Int) ≤ 4096 := by omega
  have hfi0 : (0 : Int) ≤ (nf : Int) := by omega
  have ew : IntKind.i64.wrap (1 + (nf : Int)) = 1 + (nf : Int) := wrapI _ (by omega) (by omega)
  clear s hq hhd hg hgo hfl hnf hu hsum k0 k1
  go_enter Tryz.func71, Tryz.ntmps71
  go_wp2_with fail
  refine (ko w).mono ?_
  clear ko
  rintro ev w1 ⟨rfl, b1⟩
  have kt := KT.out w1 b1
  rw [← HNN.out] at kt
  have HB1 := toHid b1
  clear b1
  go_wp2_with fail
  refine kt.mono ?_
  clear kt
  rintro ev w2 (⟨h1, sr1, k, y, N, D, hm, rfl, hroom, H⟩ | ⟨rfl, hS, hl⟩)
  · obtain ⟨l1, l2, rt⟩ := hm.right
    obtain ⟨t, n, ht, hfit, hn, L, h64, hkd, hfs⟩ := laid_of (kd := kd) (fs := fs) rt y HK.out.1 HK.out.2 (by rw [← HNF.out]; exact hf) HU.out (fun hk x hx => HFL.out (by omega) x hx _) (by rw [← HNF.out]; exact hroom)
    rw [← ht]
    have hNw : Nxt h h1 w w2 := (Nxt.of_below h HB1.out).trans N
    have hgb : Blk g 81 (wordsV fs) w2 := HG.out.aside hNw.aside HGO.out
    have hgn : ¬ h1.own g := fun e => by
      rcases hNw.own g e with e | e
      · exact HGO.out e
      · have := HG.out.lt; omega
    have hlen : (topM k y (1 + nf)).W.length = k.W.length := rfl
    have c0 := H.c0
    have hq1 : h1.q = q := hNw.q.trans HQ.out.symm
    rw [hq1] at c0
    have c3 := H.cm.c3
    rw [hlen] at c3
    obtain ⟨rest, hbW⟩ := H.hW
    have hcapW : k.W.length ≤ h1.cW := H.cap
    have hwl := rt.S.1.w
    have hnum := rt.S.1.nums
    unfold numsOK at hnum
    have hW3 : k.W.length ≤ 200000 := by omega
    have fz : w2.frozen? ⟨h1.bW, t, none⟩ = false := notFrozen hbW
    have hfit' : t + 1 + nf ≤ k.W.length := by rw [HNF.out]; exact hfit
    have cx : ∃ u, w2.cell? ⟨h1.bW, t, none⟩ = some u := by
      rw [cell_of_row _ _ _ _ _ _ hbW]
      have e : (wordsV (topM k y (1 + nf)).W).length = k.W.length := lenV _
      exact ⟨_, Array.getElem?_eq_getElem (by simp only [List.size_toArray, List.length_append]; omega)⟩
    obtain ⟨u, cx⟩ := cx
    have ka := fun w => ofAddr_ok (t : Int) (by omega) (by omega) w
    have xi : (t : Int) < (k.W.length : Int) := by omega
    have xi0 : (0 : Int) ≤ (t : Int) := by omega
    have ea : IntKind.i64.wrap ((t : Int) + 1) = (t : Int) + 1 := wrapI _ (by omega) (by omega)
    have s3 : (t : Int) + 1 ≤ (k.W.length : Int) := by omega
    obtain ⟨nW, hnW⟩ : ∃ nW, nW = k.W.length := ⟨_, rfl⟩
    obtain ⟨cW, hcW⟩ : ∃ cW, cW = h1.cW := ⟨_, rfl⟩
    rw [← hnW] at c3 xi s3 hcapW hW3 hfit'
    rw [← hcW] at c3 hcapW
    have HFT : Hid (t + 1 + nf ≤ nW ∧ nW ≤ cW ∧ nW ≤ 200000) := ⟨hfit', hcapW, hW3⟩
    have HH := toHid H
    have HNW := toHid hnW
    have HLA : Hid (Nxt h h1 w w2 ∧ Dim m k ∧ HM k sr1 M X ∧ Laid k n t fs.length y ∧ MD64 n ∧ n.F t / 4 % 256 = kd ∧ fieldsP n.F t = fs ∧ n = { topM k y (1 + fs.length) with W := lyW k.W t (hdN kd fs.length) fs } ∧ t + 1 + fs.length ≤ k.W.length) := ⟨hNw, D, hm, L, h64, hkd, hfs, hn, hfit⟩
    have HGB := toHid hgb
    have HGN : Hid (g ≠ h1.bW) := fun e => hgn (.inr (.inr (.inl e)))
    have HBW := toHid hbW
    have hcases : (cW = t + 1 ∧ nf = 0) ∨ ¬ cW = t + 1 := by omega
    clear hNw D hm L h64 hkd hfs hn hfit hgb hgn hlen hq1 hcapW hwl hnum hW3 hfit' hnW hcW rt hroom ht N H hbW
    go_upto_region 8 with fail
    obtain ⟨w3, hw3⟩ : ∃ w3, w3 = w2.setCell ⟨h1.bW, t, none⟩ (.int .u64 hd) := ⟨_, rfl⟩
    rw [← hw3]
    obtain ⟨cur, hcur⟩ : ∃ cur : List Value, cur = ((wordsV (topM k y (1 + nf)).W ++ rest).toArray.setIfInBounds t (.int .u64 hd)).toList := ⟨_, rfl⟩
    have HCU := toHid hcur
    have HCUR : Hid (w3.heap[h1.bW]? = some (.cells cur.toArray 81 (0, 0))) := by
      show _ = _
      rw [hw3, HCU.out, heap_set_same HBW.out]
    have a3 : Aside (· = h1.bW) w2 w3 := by rw [hw3]; exact (Aside.refl (fun k => k = h1.bW) w2).setCell (g := h1.bW) rfl _
    have c0' : w3.cell? ⟨q, 0, none⟩ = some (.pointer (some ⟨h1.p, 0, none⟩)) := a3.cell c0 (fun e => by
      have := HH.out.tq.ne HH.out.tW (by decide)
      rw [HLA.out.1.q] at this
      exact this (by rw [← HQ.out]; exact e))
    have c3' : w3.cell? ⟨h1.p, 3, none⟩ = some (.slice (some ⟨h1.bW, 0, none⟩) nW cW) := a3.cell c3 (HH.out.tp.ne HH.out.tW (by decide))
    have G3 := toHid (HGB.out.aside a3 HGN.out)
    have HA3 := toHid a3
    have HCL : Hid (t + 1 + (wordsV fs).length ≤ cur.length) := by
      show _ ≤ _
      rw [HCU.out, lenV, ← HNF.out, Array.length_toList, Array.size_setIfInBounds, List.size_toArray, List.length_append]
      have e : (wordsV (topM k y (1 + nf)).W).length = nW := by rw [HNW.out]; exact lenV _
      have := HFT.out
      omega
    have HMIN : Hid ((wordsV fs).length = Nat.min nf (nW - (t + 1))) := by
      show _ = _
      rw [lenV, ← HNF.out]
      have := HFT.out
      exact (Nat.min_eq_left (by omega)).symm
    have HPOS : Hid (0 < (wordsV fs).length → ∃ ad, some (⟨g, 0, none⟩ : Addr) = some ad ∧ ∀ j v, (wordsV fs)[j]? = some v → w3.cell? (ad.add j) = some v) := fun _ => ⟨_, rfl, fun j v hj => by
      have e : (⟨g, 0, none⟩ : Addr).add j = ⟨g, j, none⟩ := by unfold Addr.add; split <;> simp_all
      rw [e]
      exact G3.out.cell hj⟩
    have HONE : Hid (∀ v ∈ wordsV fs, v.oneCell' = true) := fun v hv => by
      unfold wordsV at hv
      obtain ⟨x, _, rfl⟩ := List.mem_map.1 hv
      rfl
    have HFLn : Hid ((wordsV fs).length = nf) := by show _ = _; rw [lenV]; exact HNF.out.symm
    have HEND : Hid (∀ w5, (∃ w4, w4.heap[h1.bW]? = some (.cells (splice cur (t + 1) (wordsV fs)).toArray 81 (0, 0)) ∧ Apart h1.bW w3 w4 ∧ Below w4.heap.size w4 w5) → LayPost a w0 h m M X kd fs w (.returned (.tuple #[.int .u64 (((t : Int) + 1) * 4), .nilIface])) w5) := fun w5 hw => by
      obtain ⟨w4, hg4, ha4, b5⟩ := hw
      obtain ⟨e1, e2, e3, e4, e5, e6, e7, e8, e9⟩ := HLA.out
      have a4 : Aside (· = h1.bW) w2 w4 := HA3.out.trans ⟨ha4.os, ha4.tape, ha4.output, by rw [ha4.size]; exact Nat.le_refl _, fun k _ hk => ha4.block k hk⟩
      have hb4 : Blk h1.bW 81 (wordsV (lyW k.W t (hdN kd fs.length) fs)) w4 := ⟨rest, by
        rw [hg4, HCU.out, HHD.out]
        exact congrArg (fun l => some (Obj.cells (List.toArray l) 81 (0, 0))) (lyW_splice k.W rest t _ fs e9)⟩
      have H4 : HAt h1 sr1 n w4 := by
        rw [e8, ← HNF.out]
        have hx := HH.out.words (W' := lyW k.W t (hdN kd fs.length) fs) (by rw [lyW_len e9]; rfl) a4 hb4
        rw [← HNF.out] at hx
        exact hx
      refine .inl ⟨h1, sr1, k, n, t, y, (e1.trans (Nxt.below ?_ b5)), e2, e3, H4.below b5, e4, e5, e6, e7, rfl⟩
      exact ⟨rfl, rfl, fun _ hk => .inl hk, a4.mono (fun k hk => .inr (.inr (.inl hk)))⟩
    clear hw3 a3 c0 c3 fz cx hcur
    rcases hcases with ⟨hc, hz⟩ | hc
    · have hc1 : cW = t + 1 := hc
      have HP0 : Hid (∀ x : Option Addr, 0 < (wordsV fs).length → x = some ⟨h1.bW, t + 1, none⟩ ∧ ∃ ad, some (⟨g, 0, none⟩ : Addr) = some ad ∧ ∀ j v, (wordsV fs)[j]? = some v → w3.cell? (ad.add j) = some v) := fun x hx => absurd hx (by rw [HFLn.out]; omega)
      have HZ := toHid hz
      clear hz
      go_wp2_with (refine wpList_copy_apart rfl _ _ _ _ rfl 81 Tryz.underlying79 heapInfoU64 _ _ _ _ _ _ rfl rfl h1.bW (t + 1) cur 81 HCUR.out (wordsV fs) HMIN.out (HP0.out _) HCL.out HONE.out ?_; intro w4 hg4 ha4)
      refine (ka w4).mono ?_
      clear ka
      rintro ev w5 ⟨rfl, b5⟩
      have hE := toHid (HEND.out w5 ⟨w4, hg4.out, ha4.out, b5⟩)
      clear hg4 ha4 b5
      go_wp2_with fail
      first | go_ret2 | skip
      exact hE.out
    · have hc1 : ¬ cW = t + 1 := hc
      have hc2 : ¬ t + 1 = cW := fun e => hc e.symm
      have hc3 : ¬ cW - (t + 1) = 0 := by have := HFT.out; omega
      go_wp2_with (refine wpList_copy_apart rfl _ _ _ _ rfl 81 Tryz.underlying79 heapInfoU64 _ _ _ _ _ _ rfl rfl h1.bW (t + 1) cur 81 HCUR.out (wordsV fs) HMIN.out (fun h => ⟨rfl, HPOS.out h⟩) HCL.out HONE.out ?_; intro w4 hg4 ha4)
      refine (ka w4).mono ?_
      clear ka
      rintro ev w5 ⟨rfl, b5⟩
      have hE := toHid (HEND.out w5 ⟨w4, hg4.out, ha4.out, b5⟩)
      clear hg4 ha4 b5
      go_wp2_with fail
      first | go_ret2 | skip
      exact hE.out
  · have HE : Hid (LayPost a w0 h m M X kd fs w (.returned (.tuple #[.int .u64 0, errV a 5])) w2) := by
      obtain ⟨h1, sr1, k, N, D, s1⟩ := hS
      refine .inr ⟨rfl, ⟨h1, sr1, k, (Nxt.of_below h HB1.out).trans N, D, s1⟩, ?_⟩
      rw [← HNF.out]; omega
    clear hS hl
    unfold errV
    go_wp2_with fail
    first | go_ret2 | skip
    exact HE.out
end Go.Proofs.YtlkcbdinlfeoiaaGreatDoor
namespace Go.Proofs.YtlkcbdinlfeoiaaGreatDoor
open Go.RowKit Go.Maps

variable {h : HP} {sr : Int} {m : MD} {w w' : World} {a : Nat → Addr} {w0 : World} {M : MO} {X : MXtra}
/-- What an act that may need room answers. -/
def Done (a : Nat → Addr) (w0 : World) (h : HP) (m : MD) (M : MO) (X : MXtra) (M' : MO) (X' : MXtra) (need : Int) (w : World) (ev : Ending) (w' : World) : Prop :=
  (ev = .returned .nilIface ∧ Stp a w0 h m M' X' w w') ∨ (ev = .returned (errV a 5) ∧ Stp a w0 h m M X w w' ∧ m.old < (M.words : Int) + need)
theorem Stp.drew (t : Stp a w0 h m M X w w') (k : Nat) : Stp a w0 h m M X w (w'.drewN k) := by
  obtain ⟨h', sr', n, N, D, s⟩ := t
  have b := below_drewN (q := k) (Below.refl w'.heap.size w')
  exact ⟨h', sr', n, N.below b, D, s.below b⟩
theorem Done.back {M' : MO} {X' : MXtra} {need : Int} {w1 : World} {ev : Ending} (hb : Below w.heap.size w w1) (t : Done a w0 h m M X M' X' need w1 ev w') : Done a w0 h m M X M' X' need w ev w' := by
  rcases t with ⟨e, t⟩ | ⟨e, t, f⟩
  · exact .inl ⟨e, t.back hb⟩
  · exact .inr ⟨e, t.back hb, f⟩
def GLay (h : HP) (m : MD) (M : MO) (X : MXtra) (kd : Int) (fs : List Int) (w : World) (y : Int) (h' : HP) (sr' : Int) (n : MD) (w1 : World) : Prop := ∃ k t yy, Nxt h h' w w1 ∧ Dim m k ∧ HM k sr' M X ∧ Laid k n t fs.length yy ∧ MD64 n ∧ n.F t / 4 % 256 = kd ∧ fieldsP n.F t = fs ∧ y = ((t : Int) + 1) * 4
def BLay (a : Nat → Addr) (w0 : World) (h : HP) (m : MD) (M : MO) (X : MXtra) (fs : List Int) (w : World) (k : Nat) (w1 : World) : Prop := k = 5 ∧ Stp a w0 h m M X w w1 ∧ m.old < (M.words : Int) + (1 + (fs.length : Int))
theorem lay_made (s : HS a w0 h sr m M X w) {kd : Int} {fs : List Int} {r : Nat} (hr : r < m.R.length) {ev : Ending} {w1 : World} (t : LayPost a w0 h m M X kd fs w ev w1) : Made a h.q r (GLay h m M X kd fs w) (BLay a w0 h m M X fs w) ev w1 := by
  rcases t with ⟨h', sr', k, n, t, y, N, D, hm, H, L, h6, hk, hf, rfl⟩ | ⟨rfl, t, f⟩
  · refine .inl ⟨_, h', sr', n, rfl, H, N.q, ?_, k, t, y, N, D, hm, L, h6, hk, hf, rfl⟩
    rw [L.R, hm.roots, ← s.hm.roots]; exact hr
  · exact .inr ⟨5, rfl, rfl, t, f⟩
theorem made_done (s : HS a w0 h sr m M X w) {kd : Int} {fs : List Int} {r : Nat} {d : ND} (hk : d.kind = kd) (hf : wdN (fun i => i) d = fs) (hd : ¬ d.kind < 8 → ∀ c ∈ d.f, c.kind ≠ 4 ∧ CLok c) {ev : Ending}
    (t : (∃ y h' sr' n w1, ev = .returned .nilIface ∧ GLay h m M X kd fs w y h' sr' n w1 ∧ HAt h' sr' { n with R := n.R.set r y } w' ∧ Nxt h' h' w1 w') ∨ ∃ k, ev = .returned (errV a k) ∧ BLay a w0 h m M X fs w k w') :
    Done a w0 h m M X ⟨M.R.set r ⟨4, 0, M.N.length⟩, M.N ++ [d]⟩ X (1 + (fs.length : Int)) w ev w' := by
  rcases t with ⟨y, h', sr', n, w1, rfl, ⟨k, t, yy, N, D, hm, L, h6, ek, ef, rfl⟩, H, N'⟩ | ⟨k, rfl, rfl, t, f⟩
  · refine .inl ⟨rfl, h', sr', { n with R := n.R.set r (((t : Int) + 1) * 4) }, N.trans N', ⟨L.half.trans D.half, L.old.trans D.old, L.card.trans D.card⟩, s.next (N.trans N') H (hm.make L h6 r (ek.trans hk.symm) (ef.trans hf.symm) hd) s.kl ?_⟩
    show (M.R.set r _).length ≤ 5000
    rw [List.length_set]; exact s.rl
  · exact .inr ⟨rfl, t, f⟩
/-- A box of a variable: it is no part of the heap. -/
theorem HAt.fresh (H : HAt h sr m w) {b : Nat} (hb : w.heap.size ≤ b) : ¬ h.own b := fun e => by have := H.lt e; omega
theorem Nxt.cell {h h' : HP} (N : Nxt h h' w w') {b o : Nat} {v : Value} (hc : w.cell? ⟨b, o, none⟩ = some v) (hx : ¬ h.own b) : w'.cell? ⟨b, o, none⟩ = some v := N.aside.cell hc hx
theorem LayPost.cell {kd : Int} {fs : List Int} {ev : Ending} (t : LayPost a w0 h m M X kd fs w ev w') {b o : Nat} {v : Value} (hc : w.cell? ⟨b, o, none⟩ = some v) (hx : ¬ h.own b) : w'.cell? ⟨b, o, none⟩ = some v := by
  rcases t with ⟨h', _, _, _, _, _, N, _⟩ | ⟨_, ⟨h', _, _, N, _⟩, _⟩
  · exact N.cell hc hx
  · exact N.cell hc hx
theorem LayPost.back {kd : Int} {fs : List Int} {ev : Ending} {w1 : World} (hb : Below w.heap.size w w1) (t : LayPost a w0 h m M X kd fs w1 ev w') : LayPost a w0 h m M X kd fs w ev w' := by
  rcases t with ⟨h', sr', k, n, t, y, N, r⟩ | ⟨e, t, f⟩
  · exact .inl ⟨h', sr', k, n, t, y, (Nxt.of_below h hb).trans N, r⟩
  · exact .inr ⟨e, t.back hb, f⟩
theorem LayPost.forms {kd : Int} {fs : List Int} {ev : Ending} (t : LayPost a w0 h m M X kd fs w ev w') : ∃ y e, ev = .returned (.tuple #[.int .u64 y, e]) := by
  rcases t with ⟨h', sr', k, n, t, y, N, _, _, _, _, _, _, _, e⟩ | ⟨e, t, f⟩
  · exact ⟨_, _, e⟩
  · exact ⟨_, _, e⟩
theorem two_field : ∀ nW, fieldB nW (fun _ => false) 2 = true := fun _ => rfl
set_option maxHeartbeats 2000000 in
set_option maxRecDepth 100000 in
theorem hmk1_any (s : HS a w0 h sr m M X w) (kd : Int) (n bk bs bh : Nat) (ck : w.cell? ⟨bk, 0, none⟩ = some (.int .i64 kd)) (cs : w.cell? ⟨bs, 0, none⟩ = some (.int .i64 (n : Int))) (ch : w.cell? ⟨bh, 0, none⟩ = some (.pointer (some ⟨h.q, 0, none⟩)))
    (ok : ¬ h.own bk) (os : ¬ h.own bs) (oh : ¬ h.own bh) (k0 : 8 ≤ kd) (k1 : kd ≤ 255) (hf : n ≤ 4096) :
    Calls Tryz.prog 70 #[.pointer (some ⟨bk, 0, none⟩), .pointer (some ⟨bs, 0, none⟩), .pointer (some ⟨bh, 0, none⟩)] w (LayPost a w0 h m M X kd (List.replicate n 2) w) := by
  have kw1 := fun w => hwithin_any kd 8 255 w
  have kw2 := fun w => hwithin_any (n : Int) 0 4096 w
  rw [show (decide (8 ≤ kd) && decide (kd ≤ 255)) = true by simp; omega] at kw1
  rw [show (decide (0 ≤ (n : Int)) && decide ((n : Int) ≤ 4096)) = true by simp; omega] at kw2
  have hbk : bk < w.heap.size := lt_of_cell ck
  have hbs : bs < w.heap.size := lt_of_cell cs
  have hbh : bh < w.heap.size := lt_of_cell ch
  have hlen : (List.replicate n (2 : Int)).length = n := List.length_replicate
  obtain ⟨q, hq⟩ : ∃ q, q = h.q := ⟨_, rfl⟩
  have HL : Hid (∀ g w1, Below w.heap.size w w1 → w1.heap[g]? = some (.cells (Array.replicate n (.int .u64 2)) 81) → w.heap.size ≤ g → Calls Tryz.prog 71 #[.pointer (some ⟨q, 0, none⟩), .int .i64 kd, .slice (some ⟨g, 0, none⟩) n n] w1 fun ev w' => LayPost a w0 h m M X kd (List.replicate n 2) w ev w' ∧ (w'.cell? ⟨bk, 0, none⟩ = some (.int .i64 kd) ∧ w'.cell? ⟨bs, 0, none⟩ = some (.int .i64 (n : Int)) ∧ w'.cell? ⟨bh, 0, none⟩ = some (.pointer (some ⟨q, 0, none⟩)))) := fun g w1 b1 hg hgs => by
    have hx := hlay_any (s.below b1) kd (List.replicate n 2) g n ⟨[], by rw [hg]; simp [wordsV]⟩ (s.at'.fresh hgs) (by omega) k1 (by omega) (fun x hx => by rw [(List.mem_replicate.1 hx).2]; decide) (fun _ x hx nW => by rw [(List.mem_replicate.1 hx).2]; rfl)
    rw [hlen, ← hq] at hx
    refine hx.mono ?_
    intro ev w' t
    have c1 := t.cell ((b1.cell (p := ⟨bk, 0, none⟩) hbk).trans ck) ok
    have c2 := t.cell ((b1.cell (p := ⟨bs, 0, none⟩) hbs).trans cs) os
    have c3 := t.cell ((b1.cell (p := ⟨bh, 0, none⟩) hbh).trans ch) oh
    rw [← hq] at c3
    exact ⟨t.back b1, c1, c2, c3⟩
  rw [← hq] at ch
  have HR : Hid (∀ qx w1, Below w.heap.size w w1 → w1.heap[qx]? = some (.cells #[.int .u64 2] 81) → Calls Tryz.prog 41 #[.slice (some ⟨qx, 0, none⟩) 1 1, .int .i64 (n : Int)] w1 fun ev w' => ∃ g, ev = .returned (.slice (some ⟨g, 0, none⟩) n n) ∧ w.heap.size ≤ g ∧ w'.heap[g]? = some (.cells (Array.replicate n (.int .u64 2)) 81) ∧ Below w.heap.size w w') := fun qx w1 b1 hq => by
    refine (repeat_any 2 n (by omega) qx 0 w1 (by rw [cell_of_row _ _ _ _ _ _ hq]; rfl)).mono ?_
    rintro ev w' ⟨g, rfl, hg, hr, hb⟩
    exact ⟨g, rfl, Nat.le_trans b1.size hg, hr, b1.trans (hb.mono b1.size)⟩
  have HA : Hid (∀ W, Below w.heap.size w W → W.cell? ⟨bk, 0, none⟩ = some (.int .i64 kd) ∧ W.cell? ⟨bs, 0, none⟩ = some (.int .i64 (n : Int)) ∧ W.cell? ⟨bh, 0, none⟩ = some (.pointer (some ⟨q, 0, none⟩))) := fun W b => ⟨(b.cell (p := ⟨bk, 0, none⟩) hbk).trans ck, (b.cell (p := ⟨bs, 0, none⟩) hbs).trans cs, (b.cell (p := ⟨bh, 0, none⟩) hbh).trans ch⟩
  have HRA := toHid (HR.out w.heap.size (w.alloc (.cells #[.int .u64 2] 81)).drew (((Below.refl _ _).alloc (Nat.le_refl _) _).drew) (heap_alloc_new _ _))
  have HAA := toHid (HA.out (w.alloc (.cells #[.int .u64 2] 81)).drew (((Below.refl _ _).alloc (Nat.le_refl _) _).drew))
  have HA0 := toHid (HA.out w.drew (Below.refl _ _).drew)
  clear s hq HR ok os oh hlen k0 k1
  go_enter Tryz.func70, Tryz.ntmps70
  go_wp2_with fail
  refine (kw1 _).mono ?_
  rintro ev w1 ⟨rfl, e1⟩
  rw [e1]
  clear e1 w1
  go_wp2_with fail
  refine (kw2 _).mono ?_
  rintro ev w1 ⟨rfl, e1⟩
  rw [e1]
  clear e1 w1
  clear kw1 kw2
  go_upto_region 3 with fail
  go_region_held3 (fun W => W.cell? ⟨bk, 0, none⟩ = some (.int .i64 kd) ∧ W.cell? ⟨bs, 0, none⟩ = some (.int .i64 (n : Int)) ∧ W.cell? ⟨bh, 0, none⟩ = some (.pointer (some ⟨q, 0, none⟩))) (first | with_reducible exact hS | with_reducible exact HA.out _ hb | with_reducible exact HA0.out | with_reducible exact HAA.out) (first | (go_at_call 41; refine HRA.out.mono ?_; rintro ev w2 ⟨g, rfl, hg, hr, hb⟩) | (go_at_call 71; refine (HL.out _ _ hb hr hg).mono ?_; rintro ev w3 ⟨hP, hS⟩; have HP3 := toHid hP; obtain ⟨y, e, rfl⟩ := hP.forms; clear hP))
  all_goals go_wp2_with fail
  all_goals go_ret2
  all_goals exact HP3.out
set_option maxHeartbeats 2000000 in
theorem hmk1_no (a : Nat → Addr) (kd n : Int) (bk bs bh : Nat) (w : World) (ck : w.cell? ⟨bk, 0, none⟩ = some (.int .i64 kd)) (cs : w.cell? ⟨bs, 0, none⟩ = some (.int .i64 n)) (E : MErr a w) (hno : ¬ (8 ≤ kd ∧ kd ≤ 255 ∧ 0 ≤ n ∧ n ≤ 4096)) :
    Calls Tryz.prog 70 #[.pointer (some ⟨bk, 0, none⟩), .pointer (some ⟨bs, 0, none⟩), .pointer (some ⟨bh, 0, none⟩)] w fun ev w' => ev = .returned (.tuple #[.int .u64 0, errV a 1]) ∧ Below w.heap.size w w' := by
  have kw1 := fun w => hwithin_any kd 8 255 w
  have kw2 := fun w => hwithin_any n 0 4096 w
  have g1 := E.c1
  clear E
  by_cases c : 8 ≤ kd ∧ kd ≤ 255
  · rw [show (decide (8 ≤ kd) && decide (kd ≤ 255)) = true by simp; omega] at kw1
    rw [show (decide (0 ≤ n) && decide (n ≤ 4096)) = false by rw [Bool.and_eq_false_iff, decide_eq_false_iff_not, decide_eq_false_iff_not]; omega] at kw2
    clear c hno
    go_enter Tryz.func70, Tryz.ntmps70
    go_wp2_with fail
    refine (kw1 _).mono ?_
    rintro ev w1 ⟨rfl, e1⟩
    rw [e1]
    clear e1 w1
    go_wp2_with fail
    refine (kw2 _).mono ?_
    rintro ev w1 ⟨rfl, e1⟩
    rw [e1]
    clear e1 w1
    clear kw1 kw2
    go_wp2_with fail
    go_quiet (fail)
    go_wp2_with fail
    go_ret2
    exact ⟨rfl, below_drewN (Below.refl _ _)⟩
  · rw [show (decide (8 ≤ kd) && decide (kd ≤ 255)) = false by rw [Bool.and_eq_false_iff, decide_eq_false_iff_not, decide_eq_false_iff_not]; omega] at kw1
    clear c hno kw2
    go_enter Tryz.func70, Tryz.ntmps70
    go_wp2_with fail
    refine (kw1 _).mono ?_
    rintro ev w1 ⟨rfl, e1⟩
    rw [e1]
    clear e1 w1
    clear kw1
    go_wp2_with fail
    go_quiet (fail)
    go_wp2_with fail
    go_ret2
    exact ⟨rfl, below_drewN (Below.refl _ _)⟩
end Go.Proofs.YtlkcbdinlfeoiaaGreatDoor
namespace Go.Proofs.YtlkcbdinlfeoiaaGreatDoor
open Go.RowKit Go.Maps

variable {h : HP} {sr : Int} {m : MD} {w w' : World} {a : Nat → Addr} {w0 : World} {M : MO} {X : MXtra}
theorem enterConst1 (args : Array Value) (w : World) : (callFunc 77 args).run Tryz.prog w = .ok (.enter 77 args) w := by kernel_rfl
theorem enterCopy1 (args : Array Value) (w : World) : (callFunc 76 args).run Tryz.prog w = .ok (.enter 76 args) w := by kernel_rfl
/-- What an act answers that has an error, whatever there is: nothing is changed. -/
def Erred (a : Nat → Addr) (w : World) (k : Nat) (ev : Ending) (w' : World) : Prop := ev = .returned (errV a k) ∧ Below w.heap.size w w'
def cl0 : CL := ⟨0, 0, 0⟩
theorem wd_cl0 (φ : Nat → Nat) (n : Nat) : (List.replicate n cl0).map (wdC φ) = List.replicate n 2 := by rw [List.map_replicate]; rfl
/-- What Make makes. -/
def mkN (kd : Int) (n : Nat) : ND := ⟨kd, [], List.replicate n cl0⟩
def MO.made (M : MO) (r : Nat) (d : ND) : MO := ⟨M.R.set r ⟨4, 0, M.N.length⟩, M.N ++ [d]⟩
theorem three_new (w : World) (x y z : Obj) : ∃ w1, w1 = ((w.alloc x).alloc y).alloc z ∧ Below w.heap.size w w1 ∧ w1.heap[w.heap.size]? = some x ∧ w1.heap[w.heap.size + 1]? = some y ∧ w1.heap[w.heap.size + 1 + 1]? = some z := by
  refine ⟨_, rfl, (((Below.refl _ _).alloc (Nat.le_refl _) _).alloc (by simp) _).alloc (by simp; omega) _, ?_, ?_, ?_⟩
  · obtain ⟨n1, n2⟩ := two_new w x y
    have b2 : Below (w.heap.size + 2) ((w.alloc x).alloc y) (((w.alloc x).alloc y).alloc z) := (Below.refl _ _).alloc (by simp) _
    exact (b2.block _ (by omega)).trans n1
  · obtain ⟨n1, n2⟩ := two_new w x y
    have b2 : Below (w.heap.size + 2) ((w.alloc x).alloc y) (((w.alloc x).alloc y).alloc z) := (Below.refl _ _).alloc (by simp) _
    exact (b2.block _ (by omega)).trans n2
  · have h := heap_alloc_new ((w.alloc x).alloc y) z
    simpa using h
set_option maxHeartbeats 2000000 in
theorem hmake_any (s : HS a w0 h sr m M X w) (r n : Nat) (kd : Int) (hr : r < m.R.length) (k0 : 8 ≤ kd) (k1 : kd ≤ 255) (hn : n ≤ 4096) :
    Calls Tryz.prog 28 #[.pointer (some ⟨h.q, 0, none⟩), .int .i64 (r : Int), .int .i64 kd, .int .i64 (n : Int)] w (Done a w0 h m M X (M.made r (mkN kd n)) X (1 + (n : Int)) w) := by
  obtain ⟨w1, hw1, b1, n1, n2, n3⟩ := three_new w (.cells #[.pointer (some ⟨h.q, 0, none⟩)] 25) (.cells #[.int .i64 kd] 3) (.cells #[.int .i64 (n : Int)] 3)
  have s1 := s.below b1
  have ch : w1.cell? ⟨w.heap.size, 0, none⟩ = some (.pointer (some ⟨h.q, 0, none⟩)) := by rw [cell_of_row _ _ _ _ _ _ n1]; rfl
  have ck : w1.cell? ⟨w.heap.size + 1, 0, none⟩ = some (.int .i64 kd) := by rw [cell_of_row _ _ _ _ _ _ n2]; rfl
  have cs : w1.cell? ⟨w.heap.size + 1 + 1, 0, none⟩ = some (.int .i64 (n : Int)) := by rw [cell_of_row _ _ _ _ _ _ n3]; rfl
  have km := hmk1_any s1 kd n (w.heap.size + 1) (w.heap.size + 1 + 1) w.heap.size ck cs ch (s.at'.fresh (by omega)) (s.at'.fresh (by omega)) (s.at'.fresh (by omega)) k0 k1 hn
  have hlen : (List.replicate n (2 : Int)).length = n := List.length_replicate
  have kb := (hbecome_ok s1 70 _ enterMake1 hr (GLay h m M X kd (List.replicate n 2) w1) (BLay a w0 h m M X (List.replicate n 2) w1) (km.mono fun ev w' t => lay_made s1 hr t)).mono (fun ev w' t => Done.back b1 (made_done s1 (d := mkN kd n) rfl (by
    show (if kd < 8 then [] else (List.replicate n cl0).map _) = _
    rw [if_neg (by omega), wd_cl0]) (fun _ c hc => by
    have hc : c ∈ List.replicate n cl0 := hc
    rw [(List.mem_replicate.1 hc).2]
    exact ⟨by decide, ⟨by decide, by decide, by decide⟩⟩) t))
  rw [hlen] at kb
  rw [hw1] at kb
  have HW1 := toHid hw1
  clear hw1 b1 n1 n2 n3 s1 ch ck cs km hlen s
  go_enter Tryz.func28, Tryz.ntmps28
  go_wp2_with fail
  refine kb.mono ?_
  clear kb
  rintro ev w2 (⟨rfl, hP⟩ | ⟨rfl, hP⟩)
  · have HP' := toHid hP
    clear hP
    go_wp2_with fail
    go_ret
    exact .inl ⟨rfl, HP'.out⟩
  · have HP' := toHid hP
    clear hP
    go_wp2_with fail
    go_ret
    exact .inr ⟨rfl, HP'.out⟩
set_option maxHeartbeats 2000000 in
theorem hmake_place (s : HS a w0 h sr m M X w) (r kd n : Int) (hr : ¬ (0 ≤ r ∧ r < (m.R.length : Int))) :
    Calls Tryz.prog 28 #[.pointer (some ⟨h.q, 0, none⟩), .int .i64 r, .int .i64 kd, .int .i64 n] w (Erred a w 4) := by
  obtain ⟨w1, hw1, b1, n1, n2, n3⟩ := three_new w (.cells #[.pointer (some ⟨h.q, 0, none⟩)] 25) (.cells #[.int .i64 kd] 3) (.cells #[.int .i64 n] 3)
  have kb := fun f => hbecome_no (s.below b1) f hr
  rw [hw1] at kb
  have HB : Hid (Below w.heap.size w (((w.alloc (.cells #[.pointer (some ⟨h.q, 0, none⟩)] 25)).alloc (.cells #[.int .i64 kd] 3)).alloc (.cells #[.int .i64 n] 3))) := by rw [← hw1]; exact b1
  have HW1 := toHid hw1
  clear hw1 b1 n1 n2 n3 s
  go_enter Tryz.func28, Tryz.ntmps28
  go_wp2_with fail
  refine (kb _).mono ?_
  clear kb
  rintro ev w2 ⟨rfl, e⟩
  have HB2 := toHid (HB.out.trans (e.mono HB.out.size))
  clear e
  go_wp2_with fail
  go_ret
  exact ⟨rfl, HB2.out⟩
set_option maxHeartbeats 2000000 in
theorem hmake_bound (s : HS a w0 h sr m M X w) (r : Nat) (kd n : Int) (hr : r < m.R.length) (hno : ¬ (8 ≤ kd ∧ kd ≤ 255 ∧ 0 ≤ n ∧ n ≤ 4096)) :
    Calls Tryz.prog 28 #[.pointer (some ⟨h.q, 0, none⟩), .int .i64 (r : Int), .int .i64 kd, .int .i64 n] w (Erred a w 1) := by
  obtain ⟨w1, hw1, b1, n1, n2, n3⟩ := three_new w (.cells #[.pointer (some ⟨h.q, 0, none⟩)] 25) (.cells #[.int .i64 kd] 3) (.cells #[.int .i64 n] 3)
  have s1 := s.below b1
  have ck : w1.cell? ⟨w.heap.size + 1, 0, none⟩ = some (.int .i64 kd) := by rw [cell_of_row _ _ _ _ _ _ n2]; rfl
  have cs : w1.cell? ⟨w.heap.size + 1 + 1, 0, none⟩ = some (.int .i64 n) := by rw [cell_of_row _ _ _ _ _ _ n3]; rfl
  have km := hmk1_no a kd n (w.heap.size + 1) (w.heap.size + 1 + 1) w.heap.size w1 ck cs s1.benv.five hno
  have kb := (hbecome_ok s1 70 _ enterMake1 hr (fun _ _ _ _ _ => False) (fun k w' => k = 1 ∧ Below w1.heap.size w1 w') (km.mono fun ev w' t => .inr ⟨1, t.1, rfl, t.2⟩)).mono (R' := Erred a w 1) (by
    rintro ev w' (⟨_, _, _, _, _, _, hf, _⟩ | ⟨k, rfl, rfl, hb⟩)
    · exact hf.elim
    · exact ⟨rfl, b1.trans (hb.mono b1.size)⟩)
  rw [hw1] at kb
  have HW1 := toHid hw1
  clear hw1 b1 n1 n2 n3 s1 ck cs km s
  go_enter Tryz.func28, Tryz.ntmps28
  go_wp2_with fail
  refine kb.mono ?_
  clear kb
  rintro ev w2 ⟨rfl, hP⟩
  have HP' := toHid hP
  clear hP
  go_wp2_with fail
  go_ret
  exact ⟨rfl, HP'.out⟩
end Go.Proofs.YtlkcbdinlfeoiaaGreatDoor
namespace Go.Proofs.YtlkcbdinlfeoiaaGreatDoor
open Go.RowKit Go.Maps

variable {h : HP} {sr : Int} {m : MD} {w w' : World} {a : Nat → Addr} {w0 : World} {M : MO} {X : MXtra}
def MO.set (M : MO) (r : Nat) (c : CL) : MO := { M with R := M.R.set r c }
/-- A root that becomes a word that was there: how the heap is behind it. -/
theorem set_stp {h' : HP} {sr' : Int} {n : MD} {w1 : World} {y : Int} {r : Nat} {c : CL} (s : HS a w0 h sr m M X w) (N : Nxt h h' w w1) (N' : Nxt h' h' w1 w') (D : Dim m n) (H : HAt h' sr' { n with R := n.R.set r y } w') (hm : HM { n with R := n.R.set r y } sr' (M.set r c) X) : Stp a w0 h m (M.set r c) X w w' :=
  ⟨h', sr', { n with R := n.R.set r y }, N.trans N', ⟨D.half, D.old, D.card⟩, s.next (N.trans N') H hm s.kl (by show (M.R.set r c).length ≤ 5000; rw [List.length_set]; exact s.rl)⟩
/-- The cell of a constant. -/
def clK (n : Nat) : CL := ⟨n, 0, 0⟩
theorem wd_clK (φ : Nat → Nat) {n : Nat} (hn : n ≤ 2) : wdC φ (clK n) = (n : Int) * 4 + 2 := by
  unfold wdC clK
  rw [if_neg (by show ¬ n = 4; omega), if_neg (by show ¬ n = 3; omega)]
set_option maxHeartbeats 2000000 in
theorem hconst1 (n : Nat) (hn : n ≤ 2) (w : World) (bn : Nat) (hc : w.cell? ⟨bn, 0, none⟩ = some (.int .i64 (n : Int))) :
    Calls Tryz.prog 77 #[.pointer (some ⟨bn, 0, none⟩)] w fun ev w' => ev = .returned (.tuple #[.int .u64 ((n : Int) * 4 + 2), .nilIface]) ∧ Below w.heap.size w w' := by
  have k := ofConst_ok (n : Int) (by omega) (by omega) w
  go_enter Tryz.func77, Tryz.ntmps77
  go_wp2_with fail
  refine k.mono ?_
  clear k
  rintro ev w1 ⟨rfl, b1⟩
  go_wp2_with fail
  go_ret2
  exact ⟨rfl, b1⟩
set_option maxHeartbeats 2000000 in
theorem hconst1_no (a : Nat → Addr) (n : Int) (hn : n < 0 ∨ 2 < n) (w : World) (E : WErr a w) (bn : Nat) (hc : w.cell? ⟨bn, 0, none⟩ = some (.int .i64 n)) :
    Calls Tryz.prog 77 #[.pointer (some ⟨bn, 0, none⟩)] w fun ev w' => ev = .returned (.tuple #[.int .u64 0, errV a 1]) ∧ Below w.heap.size w w' := by
  have k := ofConst_no a n hn w E
  clear E
  go_enter Tryz.func77, Tryz.ntmps77
  go_wp2_with fail
  refine k.mono ?_
  clear k
  rintro ev w1 ⟨rfl, b1⟩
  go_wp2_with fail
  go_ret2
  exact ⟨rfl, b1⟩
set_option maxHeartbeats 2000000 in
theorem hconst_any (s : HS a w0 h sr m M X w) (r n : Nat) (hr : r < m.R.length) (hn : n ≤ 2) :
    Calls Tryz.prog 32 #[.pointer (some ⟨h.q, 0, none⟩), .int .i64 (r : Int), .int .i64 (n : Int)] w fun ev w' => ev = .returned .nilIface ∧ Stp a w0 h m (M.set r (clK n)) X w w' := by
  obtain ⟨w1, hw1⟩ : ∃ w1, w1 = w.alloc (.cells #[.int .i64 (n : Int)] 3) := ⟨_, rfl⟩
  have b1 : Below w.heap.size w w1 := by rw [hw1]; exact (Below.refl _ _).alloc (Nat.le_refl _) _
  have n1 : w1.heap[w.heap.size]? = some (.cells #[.int .i64 (n : Int)] 3) := by rw [hw1]; exact heap_alloc_new _ _
  have s1 := s.below b1
  have cn : w1.cell? ⟨w.heap.size, 0, none⟩ = some (.int .i64 (n : Int)) := by rw [cell_of_row _ _ _ _ _ _ n1]; rfl
  have kb := (hbecome_ok s1 77 _ enterConst1 hr (fun y h' sr' n' w' => y = (n : Int) * 4 + 2 ∧ h' = h ∧ sr' = sr ∧ n' = m ∧ Below w1.heap.size w1 w') (fun _ _ => False) ((hconst1 n hn w1 w.heap.size cn).mono fun ev w' t => .inl ⟨_, h, sr, m, t.1, s1.at'.below t.2, rfl, hr, rfl, rfl, rfl, rfl, t.2⟩)).mono (R' := fun ev w' => ev = .returned .nilIface ∧ Stp a w0 h m (M.set r (clK n)) X w w') (by
    rintro ev w' (⟨y, h', sr', n', w2, rfl, ⟨rfl, rfl, rfl, rfl, hb⟩, H, N'⟩ | ⟨k, rfl, hf⟩)
    · have hm := s.hm.plain r (c := clK n) (by show ¬ n = 4; omega) ⟨by show n ≤ 4; omega, fun e => by have e : n = 3 := e; omega, fun e => by have e : n = 3 := e; omega⟩
      rw [wd_clK _ hn] at hm
      exact ⟨rfl, set_stp s (Nxt.of_below _ (b1.trans (hb.mono b1.size))) N' (Dim.refl _) H hm⟩
    · exact hf.elim)
  rw [hw1] at kb
  clear hw1 b1 n1 s1 cn s
  go_enter Tryz.func32, Tryz.ntmps32
  go_wp2_with fail
  refine kb.mono ?_
  clear kb
  rintro ev w2 ⟨rfl, hP⟩
  have HP' := toHid hP
  clear hP
  go_wp2_with fail
  go_ret
  exact ⟨rfl, HP'.out⟩
set_option maxHeartbeats 2000000 in
theorem hcopy1 (s : HS a w0 h sr m M X w) (j bh bf : Nat) (hj : j < m.R.length) (ch : w.cell? ⟨bh, 0, none⟩ = some (.pointer (some ⟨h.q, 0, none⟩))) (cf : w.cell? ⟨bf, 0, none⟩ = some (.int .i64 (j : Int))) :
    Calls Tryz.prog 76 #[.pointer (some ⟨bh, 0, none⟩), .pointer (some ⟨bf, 0, none⟩)] w fun ev w' => ev = .returned (.tuple #[.int .u64 (m.R.getD j 0), .nilIface]) ∧ Below w.heap.size w w' := by
  have kr : Hid (∀ k, Calls Tryz.prog 73 #[.pointer (some ⟨h.q, 0, none⟩), .int .i64 (j : Int)] (w.drewN k) fun ev w' => ev = .returned (.tuple #[.int .u64 (m.R.getD j 0), .nilIface]) ∧ w' = w.drewN k) := fun k => (s.below (w' := w.drewN k) (below_drewN (Below.refl _ _))).rootOk hj
  obtain ⟨q, hq⟩ : ∃ q, q = h.q := ⟨_, rfl⟩
  rw [← hq] at kr ch
  obtain ⟨x, hx⟩ : ∃ x, x = m.R.getD j 0 := ⟨_, rfl⟩
  rw [← hx] at kr ⊢
  clear s hq hx
  go_enter Tryz.func76, Tryz.ntmps76
  go_upto_region 1 with fail
  go_quiet (first | (go_at_call 73; exact Calls.quiet_of_same (kr.out _)))
  go_wp2_with fail
  go_ret2
  exact ⟨rfl, below_drewN (Below.refl _ _)⟩
set_option maxHeartbeats 2000000 in
theorem hcopy_any (s : HS a w0 h sr m M X w) (r j : Nat) (c : CL) (hr : r < m.R.length) (hj : M.R[j]? = some c) :
    Calls Tryz.prog 31 #[.pointer (some ⟨h.q, 0, none⟩), .int .i64 (r : Int), .int .i64 (j : Int)] w fun ev w' => ev = .returned .nilIface ∧ Stp a w0 h m (M.set r c) X w w' := by
  obtain ⟨w1, hw1⟩ : ∃ w1, w1 = (w.alloc (.cells #[.pointer (some ⟨h.q, 0, none⟩)] 25)).alloc (.cells #[.int .i64 (j : Int)] 3) := ⟨_, rfl⟩
  obtain ⟨n1, n2⟩ := two_new w (.cells #[.pointer (some ⟨h.q, 0, none⟩)] 25) (.cells #[.int .i64 (j : Int)] 3)
  rw [← hw1] at n1 n2
  have b1 : Below w.heap.size w w1 := by rw [hw1]; exact ((Below.refl _ _).alloc (Nat.le_refl _) _).alloc (by simp) _
  have s1 := s.below b1
  have ch : w1.cell? ⟨w.heap.size, 0, none⟩ = some (.pointer (some ⟨h.q, 0, none⟩)) := by rw [cell_of_row _ _ _ _ _ _ n1]; rfl
  have cf : w1.cell? ⟨w.heap.size + 1, 0, none⟩ = some (.int .i64 (j : Int)) := by rw [cell_of_row _ _ _ _ _ _ n2]; rfl
  have hjl : j < m.R.length := by rw [s.hm.roots]; exact (List.getElem?_eq_some_iff.1 hj).1
  obtain ⟨x, hx, hm⟩ := s.hm.copy r hj
  have ex : m.R.getD j 0 = x := by rw [List.getD_eq_getElem?_getD, hx]; rfl
  have k1 := hcopy1 s1 j _ _ hjl ch cf
  rw [ex] at k1
  have kb := (hbecome_ok s1 76 _ enterCopy1 hr (fun y h' sr' n' w' => y = x ∧ h' = h ∧ sr' = sr ∧ n' = m ∧ Below w1.heap.size w1 w') (fun _ _ => False) (k1.mono fun ev w' t => .inl ⟨_, h, sr, m, t.1, s1.at'.below t.2, rfl, hr, rfl, rfl, rfl, rfl, t.2⟩)).mono (R' := fun ev w' => ev = .returned .nilIface ∧ Stp a w0 h m (M.set r c) X w w') (by
    rintro ev w' (⟨y, h', sr', n', w2, rfl, ⟨rfl, rfl, rfl, rfl, hb⟩, H, N'⟩ | ⟨k, rfl, hf⟩)
    · exact ⟨rfl, set_stp s (Nxt.of_below _ (b1.trans (hb.mono b1.size))) N' (Dim.refl _) H hm⟩
    · exact hf.elim)
  rw [hw1] at kb
  clear hw1 b1 n1 n2 s1 ch cf k1 s
  go_enter Tryz.func31, Tryz.ntmps31
  go_wp2_with fail
  refine kb.mono ?_
  clear kb
  rintro ev w2 ⟨rfl, hP⟩
  have HP' := toHid hP
  clear hP
  go_wp2_with fail
  go_ret
  exact ⟨rfl, HP'.out⟩
end Go.Proofs.YtlkcbdinlfeoiaaGreatDoor
namespace Go.Proofs.YtlkcbdinlfeoiaaGreatDoor
open Go.RowKit Go.Maps

variable {h : HP} {sr : Int} {m : MD} {w w' : World} {a : Nat → Addr} {w0 : World} {M : MO} {X : MXtra}
theorem hobject_results (tmps : Array Value) (W : World) (b : Nat) (v0 v1 v2 v3 : Value) (h2 : tmps[5]?.getD undef = .pointer (some ⟨b, 0, none⟩)) (c0 : W.cell? ⟨b, 0, none⟩ = some v0) (c1 : W.cell? ⟨b, 1, none⟩ = some v1) (c2 : W.cell? ⟨b, 2, none⟩ = some v2) (c3 : W.cell? ⟨b, 3, none⟩ = some v3) :
    (results Tryz.f121 tmps).run Tryz.prog W = .ok (.tuple #[tmps[4]?.getD undef, .agg #[v0, v1, v2, v3], tmps[6]?.getD undef]) W := by
  simp [results, Tryz.results121, go_sem, h2, c0, c1, c2, c3]
set_option maxHeartbeats 2000000 in
set_option maxRecDepth 100000 in
theorem hobject_ok (q p b nW cW f : Nat) (y : Int) (hf : f < nW) (hW : nW ≤ 300000) (h0 : 0 ≤ y) (h1 : y < 18446744073709551616) (hh : headB y = true) (w : World) (c0 : w.cell? ⟨q, 0, none⟩ = some (.pointer (some ⟨p, 0, none⟩))) (c3 : w.cell? ⟨p, 3, none⟩ = some (.slice (some ⟨b, 0, none⟩) nW cW)) (cf : w.cell? ⟨b, f, none⟩ = some (.int .u64 y)) :
    Calls Tryz.prog 121 #[.pointer (some ⟨q, 0, none⟩), .int .u64 (((f : Int) + 1) * 4)] w fun ev w' => ev = .returned (.tuple #[.int .i64 (f : Int), headV y, .bool true]) ∧ Below w.heap.size w w' := by
  have ht := toAddr_ok (((f : Int) + 1) * 4) (by omega) (by omega) (by omega) (w.alloc (.cells #[.int .i64 0, .int .i64 0, .int .i64 0, .int .i64 0] 172))
  have hfx : ((f : Int) + 1) * 4 / 4 - 1 = (f : Int) := by omega
  rw [hfx] at ht
  unfold headB at hh
  have hh' := of_decide_eq_true hh
  have hI : (f : Int) < (nW : Int) := by omega
  have hI0 : (0 : Int) ≤ (f : Int) := by omega
  obtain ⟨x, hx⟩ : ∃ x, x = ((f : Int) + 1) * 4 := ⟨_, rfl⟩
  rw [← hx] at ht ⊢
  have hba : Below w.heap.size w (w.alloc (.cells #[.int .i64 0, .int .i64 0, .int .i64 0, .int .i64 0] 172)) := (Below.refl _ _).alloc (Nat.le_refl _) _
  have hna := heap_alloc_new w (.cells #[.int .i64 0, .int .i64 0, .int .i64 0, .int .i64 0] 172)
  have kh : Hid (∀ w, Calls Tryz.prog 105 #[.int .u64 y] w fun ev w' => ev = .returned (.tuple #[headV y, .nilIface]) ∧ Below w.heap.size w w') := fun w => toHead_ok y h0 h1 hh'.1 hh'.2.1 hh'.2.2 w
  have HC : Hid (∀ W, Below w.heap.size w W → W.cell? ⟨q, 0, none⟩ = some (.pointer (some ⟨p, 0, none⟩)) ∧ W.cell? ⟨p, 3, none⟩ = some (.slice (some ⟨b, 0, none⟩) nW cW) ∧ W.cell? ⟨b, f, none⟩ = some (.int .u64 y)) := fun W hW =>
    ⟨(hW.cell (p := ⟨q, 0, none⟩) (lt_of_cell c0)).trans c0, (hW.cell (p := ⟨p, 3, none⟩) (lt_of_cell c3)).trans c3, (hW.cell (p := ⟨b, f, none⟩) (lt_of_cell cf)).trans cf⟩
  clear hfx hh hx hh' h0 h1 c0 c3 cf
  unfold headV at kh ⊢
  generalize y / 4 % 256 = kd at kh ⊢
  generalize y / 1024 % 16 = ag at kh ⊢
  generalize y / 16384 % 2 = mk at kh ⊢
  generalize y / 65536 = sz at kh ⊢
  go_enter Tryz.func121, Tryz.ntmps121
  go_wp2_with fail
  generalize w.alloc (.cells #[.int .i64 0, .int .i64 0, .int .i64 0, .int .i64 0] 172) = wa at *
  obtain ⟨o, ho⟩ : ∃ o, o = w.heap.size := ⟨_, rfl⟩
  rw [← ho] at hna ⊢
  have HQL : Hid (w.heap.size ≤ o) := Nat.le_of_eq ho.symm
  clear ho
  refine ht.mono ?_
  rintro ev w1 ⟨rfl, hw1a⟩
  have hw1 := hba.trans (hw1a.mono hba.size)
  have hn1 := (hw1a.block o (lt_of_heap hna)).trans hna
  have HN1 := toHid hn1
  obtain ⟨d0, d3, df⟩ := HC.out w1 hw1
  clear ht hn1 hw1a hba hna
  go_wp2_with fail
  refine (kh.out w1).mono ?_
  rintro ev w2 ⟨rfl, hw2⟩
  clear kh
  have hn2 := (hw2.block o (lt_of_heap HN1.out)).trans HN1.out
  obtain ⟨r0, r1, r2, r3, rf⟩ := head_block hn2
  have rf0 := rf 0
  have rf1 := rf 1
  have rf2 := rf 2
  have rf3 := rf 3
  have hn3 := set4_block hn2 (.int .i64 kd) (.int .i64 ag) (.int .i64 mk) (.int .i64 sz)
  have hw3 := set4_below (hw1.trans (hw2.mono hw1.size)) HQL.out (.int .i64 kd) (.int .i64 ag) (.int .i64 mk) (.int .i64 sz)
  unfold set4 at hn3 hw3
  clear hn2 rf
  go_upto_region 5 with fail
  generalize (((w2.setCell ⟨o, 0, none⟩ (.int .i64 kd)).setCell ⟨o, 1, none⟩ (.int .i64 ag)).setCell ⟨o, 2, none⟩ (.int .i64 mk)).setCell ⟨o, 3, none⟩ (.int .i64 sz) = w3 at *
  have HN3 := toHid hn3
  obtain ⟨s0, s1, s2, s3, sf⟩ := head_block hn3
  have sf0 := sf 0
  have sf1 := sf 1
  have sf2 := sf 2
  have sf3 := sf 3
  clear r0 r1 r2 r3 rf0 rf1 rf2 rf3 hn3 sf d0 d3 df
  go_region
  all_goals go_wp2_with fail
  all_goals obtain ⟨t0, t1, t2, t3⟩ := set4_cells s0 s1 s2 s3 (.int .i64 kd) (.int .i64 ag) (.int .i64 mk) (.int .i64 sz)
  all_goals refine bodyPost_ret (hobject_results _ _ o _ _ _ _ rfl t0 t1 t2 t3) rfl ?_
  all_goals exact ⟨rfl, (set4_below hw3 HQL.out _ _ _ _).drew⟩
set_option maxHeartbeats 2000000 in
set_option maxRecDepth 100000 in
theorem hobject_no (a : Nat → Addr) (q : Nat) (x : Int) (h0 : 0 ≤ x) (h1 : x < 18446744073709551616) (hc : ¬ (x % 4 = 0 ∧ 4 ≤ x ∧ x / 4 - 1 ≤ 1099511627776)) (w : World) (E : WErr a w) :
    Calls Tryz.prog 121 #[.pointer (some ⟨q, 0, none⟩), .int .u64 x] w fun ev w' => ev = .returned (.tuple #[.int .i64 0, headV 0, .bool false]) ∧ Below w.heap.size w w' := by
  unfold headV
  have hba : Below w.heap.size w (w.alloc (.cells #[.int .i64 0, .int .i64 0, .int .i64 0, .int .i64 0] 172)) := (Below.refl _ _).alloc (Nat.le_refl _) _
  have hna := heap_alloc_new w (.cells #[.int .i64 0, .int .i64 0, .int .i64 0, .int .i64 0] 172)
  have ht := toAddr_no a x h0 h1 hc (w.alloc (.cells #[.int .i64 0, .int .i64 0, .int .i64 0, .int .i64 0] 172)) (E.below hba)
  unfold errV at ht
  clear hc h0 h1 E
  go_enter Tryz.func121, Tryz.ntmps121
  go_wp2_with fail
  generalize w.alloc (.cells #[.int .i64 0, .int .i64 0, .int .i64 0, .int .i64 0] 172) = wa at *
  obtain ⟨o, ho⟩ : ∃ o, o = w.heap.size := ⟨_, rfl⟩
  rw [← ho] at hna ⊢
  have HQL : Hid (w.heap.size ≤ o) := Nat.le_of_eq ho.symm
  clear ho
  refine ht.mono ?_
  rintro ev w1 ⟨rfl, hw1a⟩
  have hw1 := hba.trans (hw1a.mono hba.size)
  have hn1 := (hw1a.block o (lt_of_heap hna)).trans hna
  obtain ⟨r0, r1, r2, r3, rf⟩ := head_block hn1
  have rf0 := rf 0
  have rf1 := rf 1
  have rf2 := rf 2
  have rf3 := rf 3
  clear rf hn1 hna ht hw1a hba
  go_wp2_with fail
  obtain ⟨t0, t1, t2, t3⟩ := set4_cells r0 r1 r2 r3 (.int .i64 0) (.int .i64 0) (.int .i64 0) (.int .i64 0)
  refine bodyPost_ret (hobject_results _ _ o _ _ _ _ rfl t0 t1 t2 t3) rfl ?_
  exact ⟨rfl, set4_below hw1 HQL.out _ _ _ _⟩
end Go.Proofs.YtlkcbdinlfeoiaaGreatDoor
namespace Go.Proofs.YtlkcbdinlfeoiaaGreatDoor
open Go.RowKit Go.Maps

variable {h : HP} {sr : Int} {m : MD} {w w' : World} {a : Nat → Addr} {w0 : World} {M : MO} {X : MXtra}
/-- The object that a root points to. -/
structure ObjAt (m : MD) (M : MO) (r : Nat) (c : CL) (f : Nat) (d : ND) : Prop where
  four : c.kind = 4
  has : M.N[c.ref]? = some d
  root : m.R[r]? = some (((f : Int) + 1) * 4)
  fits : f + 1 + szN (m.F f) ≤ m.W.length
  head : headB (m.F f) = true
  kind : m.F f / 4 % 256 = d.kind
  size : szN (m.F f) = if d.kind < 8 then d.raw.length else d.f.length
theorem HM.rootIs (hm : HM m sr M X) {r : Nat} {c : CL} (hj : M.R[r]? = some c) : (c.kind ≠ 4 ∧ ∃ x, m.R[r]? = some x ∧ 0 ≤ x ∧ x < 18446744073709551616 ∧ x % 4 ≠ 0) ∨ ∃ f d, ObjAt m M r c f d := by
  obtain ⟨vs, S, φ, hr, hw⟩ := hm
  have hc := List.mem_of_getElem? hj
  have hx : m.R[r]? = some (wdC φ c) := by rw [hr.rel.roots, List.getElem?_map, hj]; rfl
  by_cases h4 : c.kind = 4
  · right
    have hs := hr.rel.rin c hc h4
    obtain ⟨d, h1, hv, h3, h4', h5⟩ := hr.rel.has _ hs
    obtain ⟨k1, k2⟩ := hr.shape.fine _ hv
    refine ⟨φ c.ref, d, h4, h1, ?_, k2, k1, h3, ?_⟩
    · rw [hx]; unfold wdC; rw [if_pos h4]
    · have e : (fieldsP m.F (φ c.ref)).length = szN (m.F (φ c.ref)) := by unfold fieldsP; simp
      rw [← e, h4']
      unfold wdN
      split
      · rfl
      · rw [List.length_map]
  · left
    obtain ⟨_, k1, k2⟩ := hr.word (fun q => absurd q h4) (hr.ok.roots c hc)
    refine ⟨h4, _, hx, k1, k2, ?_⟩
    unfold wdC
    rw [if_neg h4]
    split <;> omega
theorem HS.wordAt (s : HS a w0 h sr m M X w) {f : Nat} (hf : f < m.W.length) : w.cell? ⟨h.bW, f, none⟩ = some (.int .u64 (m.F f)) := by
  refine s.at'.hW.cell ?_
  unfold wordsV MD.F
  rw [List.getElem?_map, List.getD_eq_getElem?_getD, List.getElem?_eq_getElem hf]
  rfl
theorem HS.wlen (s : HS a w0 h sr m M X w) : m.W.length ≤ 300000 := by obtain ⟨_, n1, _, n3, _, _, _, _, _, n9, _⟩ := s.nums; omega
theorem HS.range (s : HS a w0 h sr m M X w) {f : Nat} (hf : f < m.W.length) : 0 ≤ m.F f ∧ m.F f < 18446744073709551616 := by
  obtain ⟨l1, l2, rt⟩ := s.hm.right
  exact md_range rt.h64 f hf
theorem getD_some {r : Nat} {x : Int} {l : List Int} (h : l[r]? = some x) : l.getD r 0 = x ∧ r < l.length := ⟨by rw [List.getD_eq_getElem?_getD, h]; rfl, (List.getElem?_eq_some_iff.1 h).1⟩
theorem HS.objectOk (s : HS a w0 h sr m M X w) {r f : Nat} {c : CL} {d : ND} (o : ObjAt m M r c f d) : Calls Tryz.prog 121 #[.pointer (some ⟨h.q, 0, none⟩), .int .u64 (((f : Int) + 1) * 4)] w fun ev w' => ev = .returned (.tuple #[.int .i64 (f : Int), headV (m.F f), .bool true]) ∧ Below w.heap.size w w' := by
  have hf : f < m.W.length := by have := o.fits; omega
  obtain ⟨k0, k1⟩ := s.range hf
  exact hobject_ok h.q h.p h.bW m.W.length h.cW f (m.F f) hf s.wlen k0 k1 o.head w s.at'.c0 s.at'.cm.c3 (s.wordAt hf)
set_option maxHeartbeats 2000000 in
set_option maxRecDepth 100000 in
theorem hmade_ok (s : HS a w0 h sr m M X w) {r f : Nat} {c : CL} {d : ND} (o : ObjAt m M r c f d) (h8 : ¬ d.kind < 8) :
    Calls Tryz.prog 122 #[.pointer (some ⟨h.q, 0, none⟩), .int .i64 (r : Int)] w fun ev w' => ev = .returned (.tuple #[.int .i64 ((f : Int) + 1), .int .i64 (szN (m.F f) : Int), .nilIface]) ∧ Below w.heap.size w w' := by
  obtain ⟨e1, hr⟩ := getD_some o.root
  have kr := s.rootOk hr
  rw [e1] at kr
  have hwl := s.wlen
  have hfl := o.fits
  have ko := s.objectOk o
  unfold headV at ko
  have hsz : m.F f / 65536 = (szN (m.F f) : Int) := by
    have hf : f < m.W.length := by omega
    have := (s.range hf).1
    unfold szN; omega
  rw [hsz, o.kind] at ko
  have kd0 : 0 ≤ d.kind := by have := o.kind; omega
  have kraw := fun w => raw_any d.kind kd0 w
  rw [decide_eq_false h8] at kraw
  have ew : IntKind.i64.wrap ((f : Int) + 1) = (f : Int) + 1 := wrapI _ (by omega) (by omega)
  obtain ⟨q, hq⟩ : ∃ q, q = h.q := ⟨_, rfl⟩
  rw [← hq] at kr ko ⊢
  obtain ⟨x, hx⟩ : ∃ x, x = ((f : Int) + 1) * 4 := ⟨_, rfl⟩
  rw [← hx] at kr ko
  generalize m.F f / 1024 % 16 = g1 at ko
  generalize m.F f / 16384 % 2 = g2 at ko
  generalize szN (m.F f) = sz at *
  generalize d.kind = kd at *
  clear s o hx hq hr h8 kd0 hsz hfl
  go_enter Tryz.func122, Tryz.ntmps122
  go_wp2_with fail
  refine kr.mono ?_
  clear kr
  rintro ev w1 ⟨rfl, rfl⟩
  go_wp2_with fail
  refine ko.mono ?_
  clear ko
  rintro ev w2 ⟨rfl, b2⟩
  have HB2 := toHid b2
  obtain ⟨w3, hw3⟩ : ∃ w3, w3 = w2.alloc (.cells #[.int .i64 kd, .int .i64 g1, .int .i64 g2, .int .i64 (sz : Int)] 172) := ⟨_, rfl⟩
  have n3 : w3.heap[w2.heap.size]? = some (.cells #[.int .i64 kd, .int .i64 g1, .int .i64 g2, .int .i64 (sz : Int)] 172) := by rw [hw3]; exact heap_alloc_new _ _
  have HB3 : Hid (Below w1.heap.size w1 w3) := by rw [hw3]; exact HB2.out.alloc HB2.out.size _
  obtain ⟨r0, r1, r2, r3, rf⟩ := head_block n3
  have HW3 := toHid hw3
  clear b2 hw3 n3 rf
  go_upto_region 5 with fail
  rw [← HW3.out]
  go_wp2_with fail
  refine (kraw _).mono ?_
  rintro ev w4 ⟨rfl, e4⟩
  rw [e4]
  clear e4 w4 kraw
  go_wp2_with fail
  go_quiet (fail)
  go_wp2_with fail
  go_ret3
  exact ⟨rfl, below_drewN HB3.out⟩
set_option maxHeartbeats 2000000 in
set_option maxRecDepth 100000 in
theorem hfield_ok (s : HS a w0 h sr m M X w) {r f k : Nat} {c : CL} {d : ND} (o : ObjAt m M r c f d) (h8 : ¬ d.kind < 8) (hk : k < d.f.length) :
    Calls Tryz.prog 74 #[.pointer (some ⟨h.q, 0, none⟩), .int .i64 (r : Int), .int .i64 (k : Int)] w fun ev w' => ev = .returned (.tuple #[.int .i64 ((f + 1 + k : Nat) : Int), .nilIface]) ∧ Below w.heap.size w w' := by
  have km := hmade_ok s o h8
  have hsz : szN (m.F f) = d.f.length := by rw [o.size, if_neg h8]
  have hwl := s.wlen
  have hfl := o.fits
  rw [hsz] at km hfl
  have kw := fun w => hwithin_any (k : Int) 0 ((d.f.length : Int) - 1) w
  rw [show (decide (0 ≤ (k : Int)) && decide ((k : Int) ≤ (d.f.length : Int) - 1)) = true by simp; omega] at kw
  have e1 : IntKind.i64.wrap ((d.f.length : Int) - 1) = (d.f.length : Int) - 1 := wrapI _ (by omega) (by omega)
  have e2 : IntKind.i64.wrap ((f : Int) + 1 + (k : Int)) = ((f + 1 + k : Nat) : Int) := by rw [wrapI _ (by omega) (by omega)]; omega
  obtain ⟨q, hq⟩ : ∃ q, q = h.q := ⟨_, rfl⟩
  rw [← hq] at km ⊢
  generalize d.f.length = L at *
  obtain ⟨z, hz⟩ : ∃ z : Int, z = ((f + 1 + k : Nat) : Int) := ⟨_, rfl⟩
  rw [← hz] at e2 ⊢
  clear s o hq h8 hsz hz hfl hk
  go_enter Tryz.func74, Tryz.ntmps74
  go_wp2_with fail
  refine km.mono ?_
  clear km
  rintro ev w1 ⟨rfl, b1⟩
  have HB1 := toHid b1
  clear b1
  go_wp2_with fail
  refine (kw _).mono ?_
  rintro ev w4 ⟨rfl, e4⟩
  rw [e4]
  clear e4 w4 kw
  go_wp2_with fail
  go_ret2
  exact ⟨rfl, HB1.out⟩
set_option maxHeartbeats 2000000 in
set_option maxRecDepth 100000 in
theorem hpointer_ok (s : HS a w0 h sr m M X w) {r f : Nat} {c : CL} {d : ND} (o : ObjAt m M r c f d) :
    Calls Tryz.prog 72 #[.pointer (some ⟨h.q, 0, none⟩), .int .i64 (r : Int)] w fun ev w' => ev = .returned (.tuple #[.int .u64 (((f : Int) + 1) * 4), .nilIface]) ∧ Below w.heap.size w w' := by
  obtain ⟨e1, hr⟩ := getD_some o.root
  have kr := s.rootOk hr
  rw [e1] at kr
  have ko := s.objectOk o
  unfold headV at ko
  obtain ⟨q, hq⟩ : ∃ q, q = h.q := ⟨_, rfl⟩
  rw [← hq] at kr ko ⊢
  obtain ⟨x, hx⟩ : ∃ x, x = ((f : Int) + 1) * 4 := ⟨_, rfl⟩
  rw [← hx] at kr ko ⊢
  generalize m.F f / 1024 % 16 = g1 at ko
  generalize m.F f / 16384 % 2 = g2 at ko
  generalize m.F f / 65536 = sz at ko
  generalize m.F f / 4 % 256 = kd at ko
  clear s o hx hq hr
  go_enter Tryz.func72, Tryz.ntmps72
  go_wp2_with fail
  refine kr.mono ?_
  clear kr
  rintro ev w1 ⟨rfl, rfl⟩
  go_wp2_with fail
  refine ko.mono ?_
  clear ko
  rintro ev w2 ⟨rfl, b2⟩
  have HB3 : Hid (Below w1.heap.size w1 (w2.alloc (.cells #[.int .i64 kd, .int .i64 g1, .int .i64 g2, .int .i64 sz] 172))) := b2.alloc b2.size _
  clear b2
  go_wp2_with fail
  go_ret2
  exact ⟨rfl, HB3.out⟩
end Go.Proofs.YtlkcbdinlfeoiaaGreatDoor
namespace Go.Proofs.YtlkcbdinlfeoiaaGreatDoor
open Go.RowKit Go.Maps

variable {h : HP} {sr : Int} {m : MD} {w w' : World} {a : Nat → Addr} {w0 : World} {M : MO} {X : MXtra}
/-- A card is set. -/
theorem HAt.setCard (H : HAt h sr m w) {j : Nat} (hj : j < m.C.length) (x : Bool) : HAt h sr (m.setC j x) (w.setCell ⟨h.bC, j, none⟩ (.bool x)) := by
  have tC := H.tC
  have ha : Aside (fun k => k = h.bC) w (w.setCell ⟨h.bC, j, none⟩ (.bool x)) := (Aside.refl (fun k => k = h.bC) w).setCell (g := h.bC) rfl _
  have hs := H.hC.set (j := j) (by unfold boolsV; rw [List.length_map]; exact hj) (.bool x)
  refine ⟨(ha.block _ H.tq.lt (H.tq.ne tC (by decide))).trans H.hq, ?_, H.hW.aside ha (H.tW.ne tC (by decide)), ?_, H.cap, ?_, H.R.aside ha (fun g hg => (rowB_ty H.R hg).ne tC (by decide)), ?_, ?_, H.rk, H.rb, H.kb⟩
  · show MB _ _ _ _ _ _ _ _ _ _ _ (.slice _ (m.C.set j x).length _) _
    rw [List.length_set]
    exact (ha.block _ H.tp.lt (H.tp.ne tC (by decide))).trans H.mb
  · show Blk _ _ (boolsV (m.C.set j x)) _
    rw [← boolsV_set]; exact hs
  · show (m.C.set j x).length ≤ _
    rw [List.length_set]; exact H.capC
  · exact ownsRow_far' H.K (fun k hk => ha.block k (own_lt2 H.K k hk).2 ((own_ty H.K hk).ne tC (by decide)))
  · exact ownsRow_far' H.I (fun k hk => ha.block k (own_lt2 H.I k hk).2 ((own_ty H.I hk).ne tC (by decide)))
theorem HAt.cardAt (H : HAt h sr m w) {j : Nat} (hj : j < m.C.length) : w.cell? ⟨h.bC, j, none⟩ = some (.bool (m.Cf j)) := by
  refine H.hC.cell ?_
  unfold boolsV MD.Cf
  rw [List.getElem?_map, List.getD_eq_getElem?_getD, List.getElem?_eq_getElem hj]
  rfl
set_option maxHeartbeats 4000000 in
set_option maxRecDepth 100000 in
theorem hmark_any (H : HAt h sr m w) (hF : m.FitsM) (y : Nat) (hyl : y < m.W.length) (x : Int) (hx : m.F y = x) (x0 : 0 ≤ x) (x1 : x < 18446744073709551616) (E : WErr a w) :
    Calls Tryz.prog 75 #[.pointer (some ⟨h.p, 0, none⟩), .int .i64 (y : Int)] w fun ev w' => ev = .returned (.tuple #[]) ∧ HAt h sr (m.mark y) w' ∧ Nxt h h w w' := by
  have hnum := hF.nums
  unfold numsOK at hnum
  have hw := hF.w
  have hy3 : y ≤ 300000 := by omega
  have dy : w.cell? ⟨h.bW, y, none⟩ = some (.int .u64 x) := by
    refine H.hW.cell ?_
    rw [← hx]
    unfold wordsV MD.F
    rw [List.getElem?_map, List.getD_eq_getElem?_getD, List.getElem?_eq_getElem hyl]
    rfl
  have M0 := H.cm
  obtain ⟨bx, hbx⟩ : ∃ bx, bx = h.p := ⟨_, rfl⟩
  obtain ⟨g, hg⟩ : ∃ g, g = h.bW := ⟨_, rfl⟩
  obtain ⟨gc, hgc⟩ : ∃ gc, gc = h.bC := ⟨_, rfl⟩
  rw [← hbx, ← hg, ← hgc] at M0
  rw [← hg] at dy
  have c0 : w.cell? ⟨bx, 0, none⟩ = some (.int .i64 m.half) := M0.c0
  have c3 := M0.c3
  have km : Hid (∀ q, Calls Tryz.prog 123 #[.pointer (some ⟨bx, 0, none⟩)] (w.drewN q) fun ev w' => ev = .returned (.bool true) ∧ ∃ n, w' = (w.drewN q).drewN n) := fun q => measured_ok bx m.half m.old m.card m.W.length m.C.length h.cW h.cC _ _ m.used m.top m.oldTop _ _ _ hF (w.drewN q) (M0.below (below_drewN (Below.refl _ _)) (lt_of_cell c0))
  have ko : Hid (∀ q, Calls Tryz.prog 85 #[.pointer (some ⟨bx, 0, none⟩)] (w.drewN q) fun ev w' => ev = .returned (.int .i64 (2 * m.half)) ∧ w' = w.drewN q) := fun q => oldFrom_any bx m.half (by omega) (by omega) (w.drewN q) c0
  have ky : Hid (∀ q, Calls Tryz.prog 125 #[.pointer (some ⟨bx, 0, none⟩), .int .u64 x] (w.drewN q) fun ev w' => ev = .returned (.bool (youngB m.half x)) ∧ ∃ n, w' = (w.drewN q).drewN n) := fun q => young_any a bx m.half x (by omega) (by omega) x0 x1 (w.drewN q) (E.below (below_drewN (Below.refl _ _))) c0
  have kw : Hid (∀ W, Calls Tryz.prog 124 #[.int .i64 (y : Int), .int .i64 (2 * m.half), .int .i64 ((m.W.length : Int) - 1)] W fun ev w' => ev = .returned (.bool (decide (2 * m.half ≤ (y : Int)))) ∧ w' = W) := fun W => by
    have h := mwithin_any (y : Int) (2 * m.half) ((m.W.length : Int) - 1) W
    rw [decide_eq_true (show (y : Int) ≤ (m.W.length : Int) - 1 by omega), Bool.and_true] at h
    exact h
  have e1 : IntKind.i64.wrap ((m.W.length : Int) - 1) = (m.W.length : Int) - 1 := wrapI _ (by omega) (by omega)
  have hI : (y : Int) < (m.W.length : Int) := by omega
  have hI0 : (0 : Int) ≤ (y : Int) := by omega
  have HX := toHid hx
  have HH := toHid H
  have HG := toHid hgc
  rw [← hbx]
  clear H E hx hw hbx hg
  by_cases hold : 2 * m.half ≤ (y : Int)
  · rw [decide_eq_true hold] at kw
    cases hyo : youngB m.half x with
    | true =>
      rw [hyo] at ky
      have HPU : Hid (m.mark y = m.setC (cardN m.half m.card y) true) := by show _ = _; unfold MD.mark; rw [if_pos ⟨hold, by rw [HX.out]; exact hyo⟩]
      clear hyo
      obtain ⟨d, j, hd, hj, hjl, hcn⟩ := card_ix hF hold hyl
      have d2 : w.cell? ⟨bx, 2, none⟩ = some (.int .i64 m.card) := M0.c2
      have d10 : w.cell? ⟨bx, 10, none⟩ = some (.slice (some ⟨gc, 0, none⟩) m.C.length h.cC) := M0.c10
      have dj : w.cell? ⟨gc, j, none⟩ = some (.bool (m.Cf j)) := by rw [HG.out]; exact HH.out.cardAt hjl
      have dfj : w.frozen? ⟨gc, j, none⟩ = false := by rw [HG.out]; exact HH.out.hC.frozen j
      have hJ : (j : Int) < (m.C.length : Int) := by omega
      have hJ0 : (0 : Int) ≤ (j : Int) := by omega
      have HCN := toHid hcn
      have HJL := toHid hjl
      have kc : Hid (∀ W, Below w.heap.size w W → Calls Tryz.prog 126 #[.pointer (some ⟨bx, 0, none⟩), .int .i64 (y : Int)] W fun ev w' => ev = .returned (.int .i64 (j : Int)) ∧ ∃ n, w' = W.drewN n) := fun W hW => cardOf_any bx m.half m.card y d j (by omega) (by omega) (by omega) hy3 hd hj W ((hW.cell (p := ⟨bx, 0, none⟩) (lt_of_cell c0)).trans c0) ((hW.cell (p := ⟨bx, 2, none⟩) (lt_of_cell d2)).trans d2)
      clear hd hj hcn hgc M0
      go_enter Tryz.func75, Tryz.ntmps75
      go_wp2_with fail
      go_quiet (first | (go_at_call 123; exact Calls.quiet_of (km.out _)) | (go_at_call 85; exact Calls.quiet_of_same (ko.out _)) | (go_at_call 124; exact Calls.quiet_of_same (kw.out _)) | (go_at_call 125; exact Calls.quiet_of (ky.out _)))
      go_upto_region 1 with fail
      obtain ⟨w5, hw5⟩ : ∃ w5, w5 = w.drewN nq := ⟨_, rfl⟩
      rw [← hw5]
      have hb5 : Below w.heap.size w w5 := by rw [hw5]; exact below_drewN (Below.refl _ _)
      have d10 : w5.cell? ⟨bx, 10, none⟩ = some (.slice (some ⟨gc, 0, none⟩) m.C.length h.cC) := (hb5.cell (p := ⟨bx, 10, none⟩) (lt_of_cell d10)).trans d10
      have dj5 : w5.cell? ⟨gc, j, none⟩ = some (.bool (m.Cf j)) := (hb5.cell (p := ⟨gc, j, none⟩) (lt_of_cell dj)).trans dj
      have df5 := (hb5.frozen (p := ⟨gc, j, none⟩) (lt_of_cell dj)).trans dfj
      have ldj := lt_of_cell dj5
      have ld10 := lt_of_cell d10
      have kc : Hid (∀ W, Below w5.heap.size w5 W → Calls Tryz.prog 126 #[.pointer (some ⟨bx, 0, none⟩), .int .i64 (y : Int)] W fun ev w' => ev = .returned (.int .i64 (j : Int)) ∧ Below w5.heap.size w5 w') := fun W hW => by
        refine (kc.out W (hb5.trans (hW.mono hb5.size))).mono ?_
        rintro ev w9 ⟨rfl, n, hq⟩
        exact ⟨rfl, by rw [hq]; exact below_drewN hW⟩
      have HB5 := toHid hb5
      clear hw5 hb5 c0 c3 dy dj dfj d2
      go_region_with ((go_at_call 126; refine (kc.out _ (by first | exact (Below.refl _ _).drew | exact Below.refl _ _)).mono ?_; rintro ev w7 ⟨rfl, hb7⟩; have t10 := (hb7.cell (p := ⟨bx, 10, none⟩) ld10).trans d10; have tj := (hb7.cell (p := ⟨gc, j, none⟩) ldj).trans dj5; have tf := (hb7.frozen (p := ⟨gc, j, none⟩) ldj).trans df5))
      all_goals go_wp2_with fail
      all_goals go_end0
      all_goals (
        have H7 := (HH.out.below (HB5.out.trans (hb7.mono HB5.out.size))).setCard HJL.out true
        have N7 : Nxt h h w (w7.setCell ⟨h.bC, j, none⟩ (.bool true)) := (Nxt.of_below h (HB5.out.trans (hb7.mono HB5.out.size))).set (.inl (.inr (.inr (.inr (.inl rfl)))))
        rw [← HG.out] at H7 N7
        refine ⟨rfl, ?_, ?_⟩
        · rw [HPU.out, HCN.out]; first | exact H7 | exact H7.below (Below.refl _ _).drew
        · first | exact N7 | exact N7.below (Below.refl _ _).drew)
    | false =>
      rw [hyo] at ky
      have HPU : Hid (m.mark y = m) := by show _ = _; unfold MD.mark; rw [if_neg (fun h => by rw [HX.out, hyo] at h; cases h.2)]
      clear hyo M0
      go_enter Tryz.func75, Tryz.ntmps75
      go_wp2_with fail
      go_quiet (first | (go_at_call 123; exact Calls.quiet_of (km.out _)) | (go_at_call 85; exact Calls.quiet_of_same (ko.out _)) | (go_at_call 124; exact Calls.quiet_of_same (kw.out _)) | (go_at_call 125; exact Calls.quiet_of (ky.out _)))
      go_wp2_with fail
      go_end0
      have hb5 : Below w.heap.size w (w.drewN nq) := below_drewN (Below.refl _ _)
      exact ⟨rfl, by rw [HPU.out]; exact HH.out.below hb5, Nxt.of_below h hb5⟩
  · rw [decide_eq_false hold] at kw
    have HPU : Hid (m.mark y = m) := by show _ = _; unfold MD.mark; rw [if_neg (fun h => hold h.1)]
    clear M0
    go_enter Tryz.func75, Tryz.ntmps75
    go_wp2_with fail
    go_quiet (first | (go_at_call 123; exact Calls.quiet_of (km.out _)) | (go_at_call 85; exact Calls.quiet_of_same (ko.out _)) | (go_at_call 124; exact Calls.quiet_of_same (kw.out _)) | (go_at_call 125; exact Calls.quiet_of (ky.out _)))
    go_wp2_with fail
    go_end0
    have hb5 : Below w.heap.size w (w.drewN nq) := below_drewN (Below.refl _ _)
    exact ⟨rfl, by rw [HPU.out]; exact HH.out.below hb5, Nxt.of_below h hb5⟩
end Go.Proofs.YtlkcbdinlfeoiaaGreatDoor
namespace Go.Proofs.YtlkcbdinlfeoiaaGreatDoor
open Go.RowKit Go.Maps

variable {h : HP} {sr : Int} {m : MD} {w w' : World} {a : Nat → Addr} {w0 : World} {M : MO} {X : MXtra}
def MO.putN (M : MO) (i : Nat) (d : ND) (k : Nat) (v : CL) : MO := { M with N := M.N.set i { d with f := d.f.set k v } }
theorem setW_FH {m : MD} {y : Nat} {x : Int} (h : y < m.W.length) : (m.setW y x).F y = x := by
  unfold MD.F MD.setW
  show (m.W.set y x).getD y 0 = x
  rw [List.getD_eq_getElem?_getD, List.getElem?_set_self h]
  rfl
theorem put_markH {m : MD} {y : Nat} {x : Int} (h : y < m.W.length) : m.put y x = (m.setW y x).mark y := by
  unfold MD.put MD.mark
  rw [setW_FH h]
  rfl
theorem setW_fits {y : Nat} {x : Int} (F : m.FitsM) : (m.setW y x).FitsM := by
  unfold MD.FitsM MD.setW at *
  show Fits m.half m.old m.card (m.W.set y x).length m.C.length m.used m.top m.oldTop
  rw [List.length_set]
  exact F
theorem HAt.setWord (H : HAt h sr m w) {y : Nat} (hy : y < m.W.length) (x : Int) : HAt h sr (m.setW y x) (w.setCell ⟨h.bW, y, none⟩ (.int .u64 x)) := by
  have hs := H.hW.set (j := y) (by rw [lenV]; exact hy) (.int .u64 x)
  rw [wordsV_set] at hs
  exact H.words (by rw [List.length_set]) ((Aside.refl (fun k => k = h.bW) w).setCell (g := h.bW) rfl _) hs
set_option maxHeartbeats 2000000 in
set_option maxRecDepth 100000 in
theorem hput_any (s : HS a w0 h sr m M X w) {r k j : Nat} {c v : CL} {d : ND} (hj : M.R[r]? = some c) (h4 : c.kind = 4) (hd : M.N[c.ref]? = some d) (h8 : ¬ d.kind < 8) (hk : k < d.f.length) (hq : M.R[j]? = some v) :
    Calls Tryz.prog 30 #[.pointer (some ⟨h.q, 0, none⟩), .int .i64 (r : Int), .int .i64 (k : Int), .int .i64 (j : Int)] w fun ev w' => ev = .returned .nilIface ∧ Stp a w0 h m (M.putN c.ref d k v) X w w' := by
  obtain ⟨f, x, e1, e2, e3, _, _, _, hm⟩ := s.hm.put hj h4 hd h8 hk hq
  obtain ⟨f', d', o⟩ : ∃ f d', ObjAt m M r c f d' := by
    rcases s.hm.rootIs hj with ⟨q, _⟩ | q
    · exact absurd h4 q
    · exact q
  obtain rfl : d = d' := by have := o.has; rw [hd] at this; exact Option.some.inj this
  obtain rfl : f = f' := by have := o.root; rw [e1] at this; have := Option.some.inj this; omega
  obtain ⟨g2, hjl⟩ := getD_some e2
  have kr := s.rootOk hjl
  rw [g2] at kr
  have kf := hfield_ok s o h8 hk
  obtain ⟨l1, l2, rt⟩ := s.hm.right
  have hxr := rt.h64.r x (List.mem_of_getElem? e2)
  have hWl := s.wlen
  obtain ⟨y, hy⟩ : ∃ y, y = f + 1 + k := ⟨_, rfl⟩
  rw [← hy] at e3 hm kf
  have HMk : Hid (∀ w1, HAt h sr (m.setW y x) w1 → WErr a w1 → Calls Tryz.prog 75 #[.pointer (some ⟨h.p, 0, none⟩), .int .i64 (y : Int)] w1 fun ev w' => ev = .returned (.tuple #[]) ∧ HAt h sr (m.put y x) w' ∧ Nxt h h w1 w') := fun w1 H1 E1 => by
    have hx := hmark_any H1 (setW_fits rt.S.1) y (by show y < (m.W.set y x).length; rw [List.length_set]; exact e3) x (setW_FH e3) hxr.1 hxr.2 E1
    rw [← put_markH e3] at hx
    exact hx
  have HIS : Hid (∀ w', Nxt h h w w' → HAt h sr (m.put y x) w' → Stp a w0 h m (M.putN c.ref d k v) X w w') := fun w' N H => by
    refine ⟨h, sr, _, N, ?_, s.next N H hm s.kl s.rl⟩
    rw [put_eqH]
    exact ⟨rfl, rfl, rfl⟩
  have HSS := toHid s
  obtain ⟨q, hq'⟩ : ∃ q, q = h.q := ⟨_, rfl⟩
  obtain ⟨p, hp⟩ : ∃ p, p = h.p := ⟨_, rfl⟩
  obtain ⟨b, hb⟩ : ∃ b, b = h.bW := ⟨_, rfl⟩
  have HB := toHid hb
  have HC : Hid (∀ W, Nxt h h w W → HAt h sr m W → W.cell? ⟨q, 0, none⟩ = some (.pointer (some ⟨p, 0, none⟩)) ∧ W.cell? ⟨p, 3, none⟩ = some (.slice (some ⟨b, 0, none⟩) m.W.length h.cW)) := fun W _ H => ⟨by rw [hq', hp]; exact H.c0, by rw [hp, hb]; exact H.cm.c3⟩
  have HP0 := toHid hp
  have HQ := toHid hq'
  rw [← hq'] at kr kf ⊢
  rw [← hp] at HMk
  have hI : (y : Int) < (m.W.length : Int) := by omega
  have hI0 : (0 : Int) ≤ (y : Int) := by omega
  have HY := toHid e3
  clear s e1 o g2 hjl rt hxr hy hm hq' hp hb hj h4 hd h8 hk hq e2 e3
  go_enter Tryz.func30, Tryz.ntmps30
  go_wp2_with fail
  refine kr.mono ?_
  clear kr
  rintro ev w1 ⟨rfl, rfl⟩
  go_wp2_with fail
  refine kf.mono ?_
  clear kf
  rintro ev w2 ⟨rfl, b2⟩
  have s2 := HSS.out.below b2
  obtain ⟨d0, d3⟩ := HC.out w2 (Nxt.of_below h b2) s2.at'
  have cy : w2.cell? ⟨b, y, none⟩ = some (.int .u64 (m.F y)) := by rw [HB.out]; exact s2.wordAt HY.out
  have fy : w2.frozen? ⟨b, y, none⟩ = false := by rw [HB.out]; exact s2.at'.hW.frozen y
  have H3 : HAt h sr (m.setW y x) (w2.setCell ⟨b, y, none⟩ (.int .u64 x)) := by rw [HB.out]; exact s2.at'.setWord HY.out x
  have N3 : Nxt h h w1 (w2.setCell ⟨b, y, none⟩ (.int .u64 x)) := (Nxt.of_below h b2).set (.inl (.inr (.inr (.inl HB.out))))
  have d0' : (w2.setCell ⟨b, y, none⟩ (.int .u64 x)).cell? ⟨q, 0, none⟩ = some (.pointer (some ⟨p, 0, none⟩)) := by rw [HQ.out, HP0.out]; exact H3.c0
  have E3 := (HSS.out.aenv N3.aside).we
  have km := HMk.out _ H3 E3
  have HH3 := toHid H3
  have HN3 := toHid N3
  clear b2 s2 H3 N3 E3
  go_upto_region 8 with fail
  generalize w2.setCell ⟨b, y, none⟩ (.int .u64 x) = w3 at *
  clear d0 d3 cy fy
  go_wp2_with fail
  refine km.mono ?_
  clear km
  rintro ev w4 ⟨rfl, H4, N4⟩
  have HE := toHid (HIS.out w4 (HN3.out.trans N4) H4)
  clear H4 N4
  go_wp2_with fail
  go_ret
  exact ⟨rfl, HE.out⟩
set_option maxHeartbeats 1000000 in
set_option maxRecDepth 100000 in
theorem hminor_any (s : HS a w0 h sr m M X w) : Calls Tryz.prog 26 #[.pointer (some ⟨h.q, 0, none⟩)] w fun ev w' => (ev = .returned (errV a 5) ∧ Below w.heap.size w w' ∧ m.old < (M.words : Int)) ∨ (ev = .returned .nilIface ∧ Stp a w0 h m M X w w') := by
  have k := sminor_any s
  clear s
  go_enter Tryz.func26, Tryz.ntmps26
  go_wp2_with fail
  refine k.mono ?_
  clear k
  rintro ev w1 (⟨rfl, hP⟩ | ⟨rfl, hP⟩)
  · have HP' := toHid hP
    clear hP
    go_wp2_with fail
    first | go_ret | skip
    exact .inl ⟨rfl, HP'.out⟩
  · have HP' := toHid hP
    clear hP
    go_wp2_with fail
    first | go_ret | skip
    exact .inr ⟨rfl, HP'.out⟩
set_option maxHeartbeats 1000000 in
set_option maxRecDepth 100000 in
theorem hmajor_any (s : HS a w0 h sr m M X w) : Calls Tryz.prog 27 #[.pointer (some ⟨h.q, 0, none⟩)] w fun ev w' => (ev = .returned (errV a 5) ∧ Below w.heap.size w w' ∧ m.old < (M.words : Int)) ∨ (ev = .returned .nilIface ∧ StpJ a w0 h m M X w w') := by
  have k := smajor_any s
  clear s
  go_enter Tryz.func27, Tryz.ntmps27
  go_wp2_with fail
  refine k.mono ?_
  clear k
  rintro ev w1 (⟨rfl, hP⟩ | ⟨rfl, hP⟩)
  · have HP' := toHid hP
    clear hP
    go_wp2_with fail
    first | go_ret | skip
    exact .inl ⟨rfl, HP'.out⟩
  · have HP' := toHid hP
    clear hP
    go_wp2_with fail
    first | go_ret | skip
    exact .inr ⟨rfl, HP'.out⟩
end Go.Proofs.YtlkcbdinlfeoiaaGreatDoor
namespace Go.Proofs.YtlkcbdinlfeoiaaGreatDoor
open Go.RowKit Go.Maps

variable {h : HP} {sr : Int} {m : MD} {w w' : World} {a : Nat → Addr} {w0 : World} {M : MO} {X : MXtra}
theorem hnew_hs (a : Nat → Addr) (half old card tn : Int) (n : Nat) (w : World) (E : HEnv a w) (H : heapOK half old card tn n) :
    Calls Tryz.prog 11 #[.agg #[.int .i64 half, .int .i64 old, .int .i64 card, .int .i64 tn], .int .i64 (n : Int)] w fun ev w' => ∃ h m, ev = .returned (.tuple #[.pointer (some ⟨h.q, 0, none⟩), .nilIface]) ∧ HS a w h 0 m (MO.new n) MXtra.new w' ∧ m.half = half ∧ m.old = old ∧ m.card = card := by
  obtain ⟨hn, t0, t1, r0, r1⟩ := H
  have hn' := hn
  unfold numsOK at hn'
  have hq0 : 0 ≤ (old + card - 1) / card := Int.ediv_nonneg (by omega) (by omega)
  obtain ⟨nW, hW⟩ : ∃ nW : Nat, (nW : Int) = 2 * half + old := ⟨(2 * half + old).toNat, by omega⟩
  obtain ⟨nC, hC⟩ : ∃ nC : Nat, (nC : Int) = (old + card - 1) / card := ⟨((old + card - 1) / card).toNat, by omega⟩
  refine (hnew_ok half old card tn n nW nC hW hC ⟨hn, t0, t1, r0, r1⟩ w).mono ?_
  rintro ev w' ⟨q, p, g, rfl, k1, k2, k3, hb, I⟩
  have eW : Array.replicate nW (Value.int .u64 0) = (wordsV (List.replicate nW 0)).toArray := by unfold wordsV; simp
  have eR : Array.replicate n (Value.int .u64 2) = (wordsV (List.replicate n 2)).toArray := by unfold wordsV; simp
  have eC : Array.replicate nC (Value.bool false) = (boolsV (List.replicate nC false)).toArray := by unfold boolsV; simp
  refine ⟨⟨q, p, p + 1, p + 2, nW, nC, tn, .slice (some ⟨g, 0, none⟩) n n, .slice none 0 0, .slice none 0 0⟩, newM half old card nW nC n, rfl, ⟨⟨I.hq, ?_, ⟨[], ?_⟩, ⟨[], ?_⟩, ?_, ?_, ?_, ⟨rfl, .inl ⟨rfl, rfl⟩⟩, ⟨rfl, .inl ⟨rfl, rfl⟩⟩, ?_, ?_, ?_⟩, newHM hn hW hC, E, hb, ?_, t0, t1, ?_, ?_⟩, rfl, rfl, rfl⟩
  · unfold MB
    have h := I.hp
    show _ = some (Obj.cells #[_, _, _, .slice _ (List.replicate nW (0 : Int)).length _, _, _, _, _, _, _, .slice _ (List.replicate nC false).length _] _)
    rw [List.length_replicate, List.length_replicate]
    exact h
  · rw [List.append_nil]
    show _ = some (Obj.cells (wordsV (List.replicate nW 0)).toArray _)
    rw [← eW]; exact I.hW
  · rw [List.append_nil]
    show _ = some (Obj.cells (boolsV (List.replicate nC false)).toArray _)
    rw [← eC]; exact I.hC
  · show (List.replicate nW (0 : Int)).length ≤ nW
    simp
  · show (List.replicate nC false).length ≤ nC
    simp
  · refine ⟨some ⟨g, 0, none⟩, n, ?_, ?_, ?_, fun _ => ⟨g, rfl, [], ?_⟩⟩
    · show Value.slice _ n n = Value.slice _ (List.replicate n (2 : Int)).length n
      rw [List.length_replicate]
    · show (List.replicate n (2 : Int)).length ≤ n
      simp
    · show (wordsV (List.replicate n 2)).length = (List.replicate n (2 : Int)).length * 1
      rw [lenV]; simp
    · rw [List.append_nil]
      show _ = some (Obj.cells (wordsV (List.replicate n 2)).toArray _)
      rw [← eR]; exact I.hR
  · intro g' _ e
    cases e
  · intro g' hg e
    have e1 := isOf_row hg
    have e : g' = p + 1 := e
    omega
  · intro e
    cases e
  · intro k hk
    rcases hk with hk | hk | hk | hk | hk | hk | hk
    · have hk : k = q := hk; omega
    · have hk : k = p := hk; omega
    · have hk : k = p + 1 := hk; omega
    · have hk : k = p + 2 := hk; omega
    · have e1 := isOf_row hk; omega
    · cases hk
    · cases hk
  · show 0 ≤ 5000
    omega
  · show (List.replicate n _).length ≤ 5000
    rw [List.length_replicate]; omega
theorem hwords_hs (s : HS a w0 h sr m M X w) : Calls Tryz.prog 34 #[.pointer (some ⟨h.q, 0, none⟩)] w fun ev w' => ev = .returned (.tuple #[.int .i64 m.top, .int .i64 m.oldTop]) ∧ Below w.heap.size w w' :=
  hwords_any h.q h.p h.tn sr m w ⟨s.at'.tq.lt, s.at'.c0, s.at'.c1, s.at'.c2⟩ s.at'.col.repP
/-- A chain of objects, each of which holds the one ahead of it. -/
structure Ring (M : MO) (i : Nat) : Prop where
  r0 : M.R[0]? = some ⟨4, 0, 0⟩
  r1 : M.R[1]? = some ⟨4, 0, i - 1⟩
  rl : M.R.length = 3
  nl : M.N.length = i
  n0 : M.N[0]? = some (mkN 9 1)
  nk : ∀ k, 0 < k → k < i → M.N[k]? = some ⟨9, [], [⟨4, 0, k - 1⟩]⟩
theorem total_two {M : MO} (h : ∀ d ∈ M.N, ndW d = 2) : M.total = 2 * M.N.length := by
  unfold MO.total
  have : ∀ l : List ND, (∀ d ∈ l, ndW d = 2) → (l.map ndW).sum = 2 * l.length := fun l hl => by
    induction l with
    | nil => rfl
    | cons d l ih =>
      rw [List.map_cons, List.sum_cons, hl d (by simp), ih (fun x hx => hl x (by simp [hx])), List.length_cons]
      omega
  exact this M.N h
theorem Ring.total {i : Nat} (R : Ring M i) : M.total = 2 * i := by
  rw [total_two (fun d hd => ?_), R.nl]
  obtain ⟨k, hk⟩ := List.getElem?_of_mem hd
  have hl := (List.getElem?_eq_some_iff.1 hk).1
  rw [R.nl] at hl
  rcases Nat.eq_zero_or_pos k with rfl | h0
  · rw [R.n0] at hk; cases hk; rfl
  · rw [R.nk k h0 hl] at hk; cases hk; rfl
theorem Ring.begin : Ring (((MO.new 3).made 0 (mkN 9 1)).set 1 ⟨4, 0, 0⟩) 1 := ⟨rfl, rfl, rfl, rfl, rfl, fun k h0 h1 => by omega⟩
/-- One object more. -/
def ringM (M : MO) (i : Nat) : MO := (((M.made 2 (mkN 9 1)).putN i (mkN 9 1) 0 ⟨4, 0, i - 1⟩).set 1 ⟨4, 0, i⟩)
theorem Ring.next {i : Nat} (hi : 1 ≤ i) (R : Ring M i) : (M.made 2 (mkN 9 1)).R[2]? = some ⟨4, 0, i⟩ ∧ (M.made 2 (mkN 9 1)).N[i]? = some (mkN 9 1) ∧ (M.made 2 (mkN 9 1)).R[1]? = some ⟨4, 0, i - 1⟩ ∧ Ring (ringM M i) (i + 1) := by
  have hR : (M.made 2 (mkN 9 1)).R = M.R.set 2 ⟨4, 0, i⟩ := by show M.R.set 2 ⟨4, 0, M.N.length⟩ = _; rw [R.nl]
  have hN : (M.made 2 (mkN 9 1)).N = M.N ++ [mkN 9 1] := rfl
  have hN2 : (ringM M i).N = M.N ++ [⟨9, [], [⟨4, 0, i - 1⟩]⟩] := by
    show (M.N ++ [mkN 9 1]).set i _ = _
    rw [List.set_append_right _ _ (by rw [R.nl]; exact Nat.le_refl _), R.nl, Nat.sub_self]
    rfl
  have hR2 : (ringM M i).R = (M.R.set 2 ⟨4, 0, i⟩).set 1 ⟨4, 0, i⟩ := by show (M.made 2 (mkN 9 1)).R.set 1 _ = _; rw [hR]
  have hl := R.rl
  refine ⟨?_, ?_, ?_, ⟨?_, ?_, ?_, ?_, ?_, ?_⟩⟩
  · rw [hR, List.getElem?_set_self (by omega)]
  · rw [hN, List.getElem?_append_right (by rw [R.nl]; exact Nat.le_refl _), R.nl, Nat.sub_self]; rfl
  · rw [hR, List.getElem?_set_ne (by omega)]; exact R.r1
  · rw [hR2, List.getElem?_set_ne (by omega), List.getElem?_set_ne (by omega)]; exact R.r0
  · rw [hR2, List.getElem?_set_self (by rw [List.length_set]; omega)]; rfl
  · rw [hR2, List.length_set, List.length_set]; exact hl
  · rw [hN2, List.length_append, R.nl]; rfl
  · rw [hN2, List.getElem?_append_left (by rw [R.nl]; omega)]; exact R.n0
  · intro k h0 h1
    rw [hN2]
    by_cases hk : k < i
    · rw [List.getElem?_append_left (by rw [R.nl]; exact hk)]; exact R.nk k h0 hk
    · obtain rfl : k = i := by omega
      rw [List.getElem?_append_right (by rw [R.nl]; exact Nat.le_refl _), R.nl, Nat.sub_self]; rfl
/-- The ring is closed; one root, or none, leads there. -/
def closeM (M : MO) (n : Nat) (keep : Bool) : MO := let M1 := ((M.putN 0 (mkN 9 1) 0 ⟨4, 0, n - 1⟩).set 1 (clK 0)).set 2 (clK 0); if keep then M1 else M1.set 0 (clK 0)
theorem Ring.keeps {n : Nat} (hn : 1 ≤ n) (R : Ring M n) (hm : HM m sr (closeM M n true) X) : (closeM M n true).words = 2 * n := by
  have hN : (closeM M n true).N = M.N.set 0 ⟨9, [], [⟨4, 0, n - 1⟩]⟩ := rfl
  have hR : (closeM M n true).R = (M.R.set 1 (clK 0)).set 2 (clK 0) := rfl
  have hnl : (closeM M n true).N.length = n := by rw [hN, List.length_set]; exact R.nl
  have h0 : (closeM M n true).N[0]? = some ⟨9, [], [⟨4, 0, n - 1⟩]⟩ := by rw [hN, List.getElem?_set_self (by rw [R.nl]; omega)]
  have hk : ∀ k, 0 < k → k < n → (closeM M n true).N[k]? = some ⟨9, [], [⟨4, 0, k - 1⟩]⟩ := fun k h1 h2 => by rw [hN, List.getElem?_set_ne (by omega)]; exact R.nk k h1 h2
  obtain ⟨_, _, a3, a4⟩ := hm.all
  have i0 : 0 ∈ (closeM M n true).all := a3 ⟨4, 0, 0⟩ (by
    refine List.mem_of_getElem? (i := 0) ?_
    rw [hR, List.getElem?_set_ne (by omega), List.getElem?_set_ne (by omega)]
    exact R.r0) rfl
  have il : n - 1 ∈ (closeM M n true).all := a4 0 i0 _ h0 (by show ¬ (9 : Int) < 8; decide) ⟨4, 0, n - 1⟩ (by simp) rfl
  have ia : ∀ j, j < n → n - 1 - j ∈ (closeM M n true).all := fun j => by
    induction j with
    | zero => exact fun _ => il
    | succ j ih =>
      intro hj
      have h1 := ih (by omega)
      have h2 := a4 _ h1 _ (hk _ (by omega) (by omega)) (by show ¬ (9 : Int) < 8; decide) ⟨4, 0, n - 1 - j - 1⟩ (by simp) rfl
      exact h2
  rw [hm.whole (fun i hi => by
    rw [hnl] at hi
    have := ia (n - 1 - i) (by omega)
    rw [show n - 1 - (n - 1 - i) = i by omega] at this
    exact this), total_two (fun d hd => ?_), hnl]
  obtain ⟨k, hk'⟩ := List.getElem?_of_mem hd
  have hl := (List.getElem?_eq_some_iff.1 hk').1
  rw [hnl] at hl
  rcases Nat.eq_zero_or_pos k with rfl | hp
  · rw [h0] at hk'; cases hk'; rfl
  · rw [hk k hp hl] at hk'; cases hk'; rfl
theorem Ring.gone {n : Nat} (R : Ring M n) : (closeM M n false).words = 0 := by
  refine words_none (fun c hc => ?_)
  have hR : (closeM M n false).R = ((M.R.set 1 (clK 0)).set 2 (clK 0)).set 0 (clK 0) := rfl
  rw [hR] at hc
  obtain ⟨k, hk⟩ := List.getElem?_of_mem hc
  have hl := (List.getElem?_eq_some_iff.1 hk).1
  rw [List.length_set, List.length_set, List.length_set, R.rl] at hl
  have hl3 := R.rl
  rcases (by omega : k = 0 ∨ k = 1 ∨ k = 2) with rfl | rfl | rfl
  · rw [List.getElem?_set_self (by simp [R.rl])] at hk; cases hk; decide
  · rw [List.getElem?_set_ne (by omega), List.getElem?_set_ne (by omega), List.getElem?_set_self (by omega)] at hk; cases hk; decide
  · rw [List.getElem?_set_ne (by omega), List.getElem?_set_self (by rw [List.length_set]; omega)] at hk; cases hk; decide
end Go.Proofs.YtlkcbdinlfeoiaaGreatDoor
namespace Go.Proofs.YtlkcbdinlfeoiaaGreatDoor
open Go.RowKit Go.Maps

set_option maxHeartbeats 4000000 in
set_option maxRecDepth 100000 in
theorem heapRings_skip (n half old : Int) (keep : Bool) (w : World) (kh : Calls Tryz.prog 9 #[] w fun ev w' => ev = .returned (.bool true) ∧ Below w.heap.size w w')
    (hc : n < 1 ∨ (¬ n < 1 ∧ 40 < n) ∨ (¬ n < 1 ∧ ¬ 40 < n ∧ half < 1) ∨ (¬ n < 1 ∧ ¬ 40 < n ∧ ¬ half < 1 ∧ 200 < half) ∨ (¬ n < 1 ∧ ¬ 40 < n ∧ ¬ half < 1 ∧ ¬ 200 < half ∧ old < 1) ∨ (¬ n < 1 ∧ ¬ 40 < n ∧ ¬ half < 1 ∧ ¬ 200 < half ∧ ¬ old < 1 ∧ 1000 < old)) :
    Calls Tryz.prog 7 #[.int .i64 n, .int .i64 half, .int .i64 old, .bool keep] w fun ev w' => ev = .returned (.bool true) ∧ Below w.heap.size w w' := by
  rcases hc with c1 | ⟨c1, c2⟩ | ⟨c1, c2, c3⟩ | ⟨c1, c2, c3, c4⟩ | ⟨c1, c2, c3, c4, c5⟩ | ⟨c1, c2, c3, c4, c5, c6⟩
  all_goals (
    go_enter Tryz.func7, Tryz.ntmps7
    go_wp2_with fail
    refine kh.mono ?_
    clear kh
    rintro ev w1 ⟨rfl, b1⟩
    have HB := toHid b1
    clear b1
    go_wp2_with fail
    go_ret
    exact ⟨rfl, HB.out⟩)
set_option maxHeartbeats 8000000 in
set_option maxRecDepth 100000 in
theorem heapRings_good (a : Nat → Addr) (N : Nat) (half old : Int) (keep : Bool) (n0 : 1 ≤ N) (n1 : N ≤ 40) (h0 : 1 ≤ half) (h1 : half ≤ 200) (o0 : 1 ≤ old) (o1 : old ≤ 1000) (w : World) (E : HEnv a w) (kh : Calls Tryz.prog 9 #[] w fun ev w' => ev = .returned (.bool true) ∧ Below w.heap.size w w') :
    Calls Tryz.prog 7 #[.int .i64 (N : Int), .int .i64 half, .int .i64 old, .bool keep] w fun ev w' => ev = .returned (.bool true) ∧ Below w.heap.size w w' := by
  have HE := toHid E
  have c1 : ¬ (N : Int) < 1 := by omega
  have c2 : ¬ 40 < (N : Int) := by omega
  have c3 : ¬ half < 1 := by omega
  have c4 : ¬ 200 < half := by omega
  have c5 : ¬ old < 1 := by omega
  have c6 : ¬ 1000 < old := by omega
  clear E
  go_enter Tryz.func7, Tryz.ntmps7
  go_wp2_with fail
  refine kh.mono ?_
  clear kh
  rintro ev w1 ⟨rfl, b1⟩
  have kn := hnew_hs a half old 4 1 3 w1 (HE.out.below b1) ⟨⟨by omega, by omega, by omega, by omega, by omega, by omega⟩, by omega, by omega, by omega, by omega⟩
  have HB1 := toHid b1
  clear b1 HE
  go_wp2_with fail
  refine kn.mono ?_
  clear kn
  rintro ev w2 ⟨h, m, rfl, s, _, e2, _⟩
  have hR3 : m.R.length = 3 := s.hm.roots
  have km := hmake_any s 0 1 9 (by omega) (by omega) (by omega) (by omega)
  have HS2 := toHid s
  have HO := toHid e2
  obtain ⟨q, hq⟩ : ∃ q, q = h.q := ⟨_, rfl⟩
  rw [← hq] at km ⊢
  have HQ := toHid hq
  clear s e2 hq hR3
  go_wp2_with fail
  refine km.mono ?_
  clear km
  rintro ev w3 (⟨rfl, h3, sr3, m3, N3, D3, s3⟩ | ⟨rfl, st, hf⟩)
  rotate_left
  · have hf : m.old < (((MO.new 3).words : Nat) : Int) + (1 + ((1 : Nat) : Int)) := hf
    rw [words_none (M := MO.new 3) (fun c hc => by
      have hc : c ∈ List.replicate 3 (⟨0, 0, 0⟩ : CL) := hc
      rw [(List.mem_replicate.1 hc).2]; decide), HO.out] at hf
    have hf2 : old < 2 := by omega
    have HBF : Hid (Below w.heap.size w w3) := by
      obtain ⟨h', sr', n', _, _, s'⟩ := st
      exact HB1.out.trans (s'.base.mono HB1.out.size)
    clear st hf
    unfold errV
    go_wp2_with fail
    go_ret
    exact ⟨rfl, HBF.out⟩
  have hR3 : m3.R.length = 3 := s3.hm.roots
  have kc := hcopy_any s3 1 0 ⟨4, 0, 0⟩ (by omega) rfl
  rw [N3.q, ← HQ.out] at kc
  have H3 : Hid (h3.q = q ∧ m3.old = old) := ⟨N3.q.trans HQ.out.symm, D3.old.trans HO.out⟩
  clear s3 N3 D3 hR3 HS2 HO HQ
  go_wp2_with fail
  refine kc.mono ?_
  clear kc
  rintro ev w4 ⟨rfl, h4, sr4, m4, N4, D4, s4⟩
  have H4 : Hid (h4.q = q ∧ m4.old = old) := ⟨N4.q.trans H3.out.1, D4.old.trans H3.out.2⟩
  have HS4 : Hid (HS a w1 h4 sr4 m4 (((MO.new 3).made 0 (mkN 9 1)).set 1 ⟨4, 0, 0⟩) MXtra.new w4) := s4
  clear s4 N4 D4 H3
  have hi1 : ((1 : Nat) : Int) = 1 := rfl
  go_wp2_with fail
  go_loopg [12] N (fun gk v12 wr => ∃ i : Nat, gk = N + 1 - i ∧ 1 ≤ i ∧ i ≤ N ∧ v12 = .int .i64 (i : Int) ∧ ∃ M h' sr' m', Hid (Ring M i) ∧ Hid (HS a w1 h' sr' m' M MXtra.new wr) ∧ Hid (h'.q = q ∧ m'.old = old))
  case atStart => exact ⟨1, by omega, Nat.le_refl _, n0, rfl, _, h4, sr4, m4, Ring.begin, HS4, H4⟩
  case round =>
    obtain ⟨i, hgk, hi0, hi', rfl, M, h5, sr5, m5, HR, HSr, HP⟩ := hrel
    have HG := toHid hgk
    clear hgk HS4 H4 hi1
    have hR3 : m5.R.length = 3 := HSr.out.hm.roots.trans HR.out.rl
    by_cases hlt : i < N
    · have hI : (i : Int) < (N : Int) := by omega
      have km := hmake_any HSr.out 2 1 9 (by omega) (by omega) (by omega) (by omega)
      rw [HP.out.1] at km
      go_wp2_with fail
      refine km.mono ?_
      clear km
      rintro ev w6 (⟨rfl, h6, sr6, m6, N6, D6, s6⟩ | ⟨rfl, st, hf⟩)
      rotate_left
      · have hf : m5.old < ((M.words : Nat) : Int) + (1 + ((1 : Nat) : Int)) := hf
        have hw := HSr.out.hm.few
        rw [HR.out.total] at hw
        rw [HP.out.2] at hf
        have g1 : IntKind.i64.wrap ((i : Int) + 1) = (i : Int) + 1 := wrapI _ (by omega) (by omega)
        have g2 : IntKind.i64.wrap (2 * ((i : Int) + 1)) = 2 * ((i : Int) + 1) := wrapI _ (by omega) (by omega)
        have g3 : old < 2 * ((i : Int) + 1) := by omega
        have HBF : Hid (Below w.heap.size w w6) := by
          obtain ⟨h', sr', n', _, _, s'⟩ := st
          exact HB1.out.trans (s'.base.mono HB1.out.size)
        clear st hf hw
        unfold errV
        go_wp2_with fail
        go_ret
        exact ⟨rfl, HBF.out⟩
      obtain ⟨p1, p2, p3, p4⟩ := Ring.next hi0 HR.out
      have kp := hput_any s6 (r := 2) (k := 0) (j := 1) (c := ⟨4, 0, i⟩) (v := ⟨4, 0, i - 1⟩) (d := mkN 9 1) p1 rfl p2 (by decide) (by decide) p3
      have H6 : Hid (h6.q = q ∧ m6.old = old) := ⟨N6.q.trans HP.out.1, D6.old.trans HP.out.2⟩
      rw [H6.out.1] at kp
      have HR7 := toHid p4
      have HP1 := toHid p1
      clear s6 N6 D6 p1 p2 p3 p4
      go_wp2_with fail
      refine kp.mono ?_
      clear kp
      rintro ev w7 ⟨rfl, h7, sr7, m7, N7, D7, s7⟩
      have hR7 : m7.R.length = 3 := s7.hm.roots.trans ((List.length_set ..).trans HR.out.rl)
      have kc := hcopy_any s7 1 2 ⟨4, 0, i⟩ (by omega) HP1.out
      have H7 : Hid (h7.q = q ∧ m7.old = old) := ⟨N7.q.trans H6.out.1, D7.old.trans H6.out.2⟩
      rw [H7.out.1] at kc
      clear s7 N7 D7 hR7
      go_wp2_with fail
      refine kc.mono ?_
      clear kc
      rintro ev w8 ⟨rfl, h8, sr8, m8, N8, D8, s8⟩
      have H8 : Hid (h8.q = q ∧ m8.old = old) := ⟨N8.q.trans H7.out.1, D8.old.trans H7.out.2⟩
      have HS8 : Hid (HS a w1 h8 sr8 m8 (ringM M i) MXtra.new w8) := s8
      clear s8 N8 D8
      go_wp2_with fail
      go_roundg (N + 1 - (i + 1))
      case measure => have := HG.out; omega
      case rel => exact ⟨i + 1, rfl, by omega, by omega, by go_num, _, h8, sr8, m8, HR7, HS8, H8⟩
    · have hI : ¬ (i : Int) < (N : Int) := by omega
      obtain rfl : i = N := by omega
      have kp := hput_any HSr.out (r := 0) (k := 0) (j := 1) (c := ⟨4, 0, 0⟩) (v := ⟨4, 0, i - 1⟩) (d := mkN 9 1) HR.out.r0 rfl HR.out.n0 (by decide) (by decide) HR.out.r1
      rw [HP.out.1] at kp
      go_wp2_with fail
      refine kp.mono ?_
      clear kp
      rintro ev w7 ⟨rfl, h7, sr7, m7, N7, D7, s7⟩
      have hR7 : m7.R.length = 3 := s7.hm.roots.trans HR.out.rl
      have kc := hconst_any s7 1 0 (by omega) (by omega)
      have H7 : Hid (h7.q = q ∧ m7.old = old) := ⟨N7.q.trans HP.out.1, D7.old.trans HP.out.2⟩
      rw [H7.out.1] at kc
      clear s7 N7 D7 hR7
      go_wp2_with fail
      refine kc.mono ?_
      clear kc
      rintro ev w8 ⟨rfl, h8, sr8, m8, N8, D8, s8⟩
      have hR8 : m8.R.length = 3 := s8.hm.roots.trans ((List.length_set ..).trans HR.out.rl)
      have kc := hconst_any s8 2 0 (by omega) (by omega)
      have H8 : Hid (h8.q = q ∧ m8.old = old) := ⟨N8.q.trans H7.out.1, D8.old.trans H7.out.2⟩
      rw [H8.out.1] at kc
      clear s8 N8 D8 hR8
      go_wp2_with fail
      refine kc.mono ?_
      clear kc
      rintro ev w9 ⟨rfl, h9, sr9, m9, N9, D9, s9⟩
      have H9 : Hid (h9.q = q ∧ m9.old = old) := ⟨N9.q.trans H8.out.1, D9.old.trans H8.out.2⟩
      have e2n : IntKind.i64.wrap (2 * (i : Int)) = 2 * (i : Int) := wrapI _ (by omega) (by omega)
      cases keep with
      | true =>
        have HS9 : Hid (HS a w1 h9 sr9 m9 (closeM M i true) MXtra.new w9) := s9
        have hw : Hid ((closeM M i true).words = 2 * i) := HR.out.keeps n0 HS9.out.hm
        have kj := hmajor_any HS9.out
        rw [H9.out.1] at kj
        clear s9 N9 D9 H7 H8
        go_wp2_with fail
        refine kj.mono ?_
        clear kj
        rintro ev w10 (⟨rfl, hb, hf⟩ | ⟨rfl, h10, sr10, m10, N10, D10, s10, t1, t2, _⟩)
        · rw [hw.out, H9.out.2] at hf
          have hf2 : old < 2 * (i : Int) := by omega
          have HBF : Hid (Below w.heap.size w w10) := HB1.out.trans ((HS9.out.base.trans (hb.mono HS9.out.base.size)).mono HB1.out.size)
          clear hb hf
          unfold errV
          go_wp2_with fail
          go_ret
          exact ⟨rfl, HBF.out⟩
        · have kw := hwords_hs s10
          rw [t1, t2, hw.out, N10.q, H9.out.1] at kw
          have t3 : ((2 * i : Nat) : Int) = 2 * (i : Int) := by omega
          rw [t3] at kw
          have HBT := toHid s10.base
          clear s10 N10 D10 t1 t2 t3
          go_wp2_with fail
          refine kw.mono ?_
          clear kw
          rintro ev w11 ⟨rfl, b11⟩
          have HBF : Hid (Below w.heap.size w w11) := HB1.out.trans ((HBT.out.trans (b11.mono HBT.out.size)).mono HB1.out.size)
          clear b11
          go_wp2_with fail
          go_ret
          exact ⟨by simp, HBF.out⟩
      | false =>
        have hR9 : m9.R.length = 3 := s9.hm.roots.trans ((List.length_set ..).trans ((List.length_set ..).trans HR.out.rl))
        have kc := hconst_any s9 0 0 (by omega) (by omega)
        rw [H9.out.1] at kc
        clear s9 N9 D9 H7 H8 hR9
        go_wp2_with fail
        refine kc.mono ?_
        clear kc
        rintro ev w12 ⟨rfl, h12, sr12, m12, N12, D12, s12⟩
        have H12 : Hid (h12.q = q ∧ m12.old = old) := ⟨N12.q.trans H9.out.1, D12.old.trans H9.out.2⟩
        have HS12 : Hid (HS a w1 h12 sr12 m12 (closeM M i false) MXtra.new w12) := s12
        have hw : Hid ((closeM M i false).words = 0) := HR.out.gone
        have kj := hmajor_any HS12.out
        rw [H12.out.1] at kj
        clear s12 N12 D12 H9
        go_wp2_with fail
        refine kj.mono ?_
        clear kj
        rintro ev w10 (⟨rfl, hb, hf⟩ | ⟨rfl, h10, sr10, m10, N10, D10, s10, t1, t2, _⟩)
        · exfalso
          rw [hw.out, H12.out.2] at hf
          omega
        · have kw := hwords_hs s10
          rw [t1, t2, hw.out, N10.q, H12.out.1] at kw
          have HBT := toHid s10.base
          clear s10 N10 D10 t1 t2
          go_wp2_with fail
          refine kw.mono ?_
          clear kw
          rintro ev w11 ⟨rfl, b11⟩
          have HBF : Hid (Below w.heap.size w w11) := HB1.out.trans ((HBT.out.trans (b11.mono HBT.out.size)).mono HB1.out.size)
          clear b11
          go_wp2_with fail
          go_ret
          exact ⟨by simp, HBF.out⟩
theorem heapRings_any (a : Nat → Addr) (n half old : Int) (keep : Bool) (w : World) (E : HEnv a w) :
    Calls Tryz.prog 7 #[.int .i64 n, .int .i64 half, .int .i64 old, .bool keep] w fun ev w' => ev = .returned (.bool true) ∧ Below w.heap.size w w' := by
  have kh := hold_any a w E
  by_cases hc : 1 ≤ n ∧ n ≤ 40 ∧ 1 ≤ half ∧ half ≤ 200 ∧ 1 ≤ old ∧ old ≤ 1000
  · obtain ⟨a1, a2, a3, a4, a5, a6⟩ := hc
    obtain ⟨N, rfl⟩ : ∃ N : Nat, n = (N : Int) := ⟨n.toNat, by omega⟩
    exact heapRings_good a N half old keep (by omega) (by omega) a3 a4 a5 a6 w E kh
  · exact heapRings_skip n half old keep w kh (by omega)
end Go.Proofs.YtlkcbdinlfeoiaaGreatDoor
