/- Package heap by contracts: a heap in memory, block by block, whatever its memory holds. -/
import Derived.Test.YtlkcbdinlfeoiabGreatDoorKnAP
import Derived.Test.YtlkcbdinlfeoiabGreatDoorKnBC
import Derived.Test.YtlkcbdinlfeoiabGreatDoorKnAT
import Derived.Deep.AppendLies
namespace Go.Proofs.YtlkcbdinlfeoiabGreatDoor
open Go.RowKit Go.Maps

/-- Where a heap's parts lie. -/
structure HP where
  q : Nat
  p : Nat
  bW : Nat
  bC : Nat
  cW : Nat
  cC : Nat
  tn : Int
  vR : Value
  vK : Value
  vI : Value
/-- A heap in memory: its own block, its memory's, rows of its own. -/
structure HAt (h : HP) (sr : Int) (m : MD) (w : World) : Prop where
  hq : w.heap[h.q]? = some (.cells #[.pointer (some ⟨h.p, 0, none⟩), .int .i64 h.tn, .int .i64 sr] 58)
  mb : MB h.p m.half m.old m.card m.used m.top m.oldTop (.slice (some ⟨h.bW, 0, none⟩) m.W.length h.cW) h.vR h.vK h.vI (.slice (some ⟨h.bC, 0, none⟩) m.C.length h.cC) w
  hW : Blk h.bW 50 (wordsV m.W) w
  hC : Blk h.bC 4 (boolsV m.C) w
  cap : m.W.length ≤ h.cW
  capC : m.C.length ≤ h.cC
  R : RowB 50 1 h.vR m.R.length (wordsV m.R) w
  K : w.ownsRow 0 50 1 h.vK m.K.length (wordsV m.K)
  I : w.ownsRow 0 65 2 h.vI m.I.length (idsV m.I)
  rk : ∀ g, isOf h.vR g → h.vK.ownBlock ≠ some g
  rb : ∀ g, isOf h.vR g → g ≠ h.bW
  kb : h.vK.ownBlock ≠ some h.bW
/-- The blocks of a heap. -/
def HP.own (h : HP) (k : Nat) : Prop := k = h.q ∨ k = h.p ∨ k = h.bW ∨ k = h.bC ∨ isOf h.vR k ∨ h.vK.ownBlock = some k ∨ h.vI.ownBlock = some k
/-- A block of cells of this type. -/
def Ty (w : World) (k : Nat) (t : TypeId) : Prop := ∃ c : Array Value, w.heap[k]? = some (.cells c t)
theorem Ty.ne {w : World} {k k' : Nat} {t t' : TypeId} (h : Ty w k t) (h' : Ty w k' t') (ht : t ≠ t') : k ≠ k' := by
  rintro rfl
  obtain ⟨c, e⟩ := h
  obtain ⟨c', e'⟩ := h'
  rw [e] at e'
  injection e' with e'
  injection e' with _ e2 _
  exact ht e2
theorem Ty.lt {w : World} {k : Nat} {t : TypeId} (h : Ty w k t) : k < w.heap.size := by obtain ⟨c, e⟩ := h; exact lt_of_heap e
theorem rowB_ty {t : TypeId} {j n : Nat} {v : Value} {xs : List Value} {w : World} (h : RowB t j v n xs w) {g : Nat} (hg : isOf v g) : Ty w g t := by
  obtain ⟨ao, cap, e1, _, _, e4⟩ := h
  obtain ⟨o, n', c, h0, e5⟩ := hg
  rw [e1] at e5
  cases e5
  obtain ⟨g', e6, r, hb⟩ := e4 h0
  cases e6
  exact ⟨_, hb⟩
theorem own_ty {B : Nat} {t : TypeId} {j n : Nat} {v : Value} {xs : List Value} {w : World} (h : w.ownsRow B t j v n xs) {g : Nat} (hg : v.ownBlock = some g) : Ty w g t := by
  obtain ⟨_, ⟨rfl, _⟩ | ⟨g', cap, cur, rfl, _, hb, _⟩⟩ := h
  · cases hg
  · cases hg; exact ⟨_, hb⟩
variable {h : HP} {sr : Int} {m : MD} {w w' : World}
theorem HAt.tq (H : HAt h sr m w) : Ty w h.q 58 := ⟨_, H.hq⟩
theorem HAt.tp (H : HAt h sr m w) : Ty w h.p 54 := ⟨_, H.mb⟩
theorem HAt.tW (H : HAt h sr m w) : Ty w h.bW 50 := by obtain ⟨r, hb⟩ := H.hW; exact ⟨_, hb⟩
theorem HAt.tC (H : HAt h sr m w) : Ty w h.bC 4 := by obtain ⟨r, hb⟩ := H.hC; exact ⟨_, hb⟩
theorem HAt.lt (H : HAt h sr m w) {k : Nat} (hk : h.own k) : k < w.heap.size := by
  rcases hk with rfl | rfl | rfl | rfl | hk | hk | hk
  · exact H.tq.lt
  · exact H.tp.lt
  · exact H.tW.lt
  · exact H.tC.lt
  · exact (rowB_ty H.R hk).lt
  · exact (own_ty H.K hk).lt
  · exact (own_ty H.I hk).lt
theorem HAt.col (H : HAt h sr m w) : ColAt h.p h.bW h.bC h.cW h.cC m h.vR h.vK h.vI w :=
  ⟨H.mb, H.hW, H.hC, H.cap, H.capC, rowV_of H.R, rowV_of (RowB.of_own H.K).1, (RowB.of_own H.I).1⟩
/-- A world that differs elsewhere. -/
theorem HAt.aside {X : Nat → Prop} (H : HAt h sr m w) (ha : Aside X w w') (hx : ∀ k, h.own k → ¬ X k) : HAt h sr m w' :=
  ⟨(ha.block _ H.tq.lt (hx _ (.inl rfl))).trans H.hq, (ha.block _ H.tp.lt (hx _ (.inr (.inl rfl)))).trans H.mb, H.hW.aside ha (hx _ (.inr (.inr (.inl rfl)))), H.hC.aside ha (hx _ (.inr (.inr (.inr (.inl rfl))))), H.cap, H.capC,
    H.R.aside ha (fun g hg => hx g (.inr (.inr (.inr (.inr (.inl hg)))))), ownsRow_far' H.K (fun k hk => ha.block k (own_lt2 H.K k hk).2 (hx k (.inr (.inr (.inr (.inr (.inr (.inl hk)))))))), ownsRow_far' H.I (fun k hk => ha.block k (own_lt2 H.I k hk).2 (hx k (.inr (.inr (.inr (.inr (.inr (.inr hk)))))))), H.rk, H.rb, H.kb⟩
theorem HAt.below (H : HAt h sr m w) (hb : Below w.heap.size w w') : HAt h sr m w' := H.aside (X := fun _ => False) (Aside.of_below hb) (fun _ _ h => h)
/-- What a heap's next state owns: what it had, or what is new; nothing else was turned. -/
structure Nxt (h h' : HP) (w w' : World) : Prop where
  q : h'.q = h.q
  tn : h'.tn = h.tn
  own : ∀ k, h'.own k → h.own k ∨ w.heap.size ≤ k
  aside : Aside h.own w w'
theorem Nxt.refl (h : HP) (w : World) : Nxt h h w w := ⟨rfl, rfl, fun _ hk => .inl hk, Aside.refl _ _⟩
theorem Nxt.of_below (h : HP) {w w' : World} (hb : Below w.heap.size w w') : Nxt h h w w' := ⟨rfl, rfl, fun _ hk => .inl hk, Aside.of_below hb⟩
theorem Nxt.trans {h h' h'' : HP} {w w' w'' : World} (a : Nxt h h' w w') (b : Nxt h' h'' w' w'') : Nxt h h'' w w'' where
  q := b.q.trans a.q
  tn := b.tn.trans a.tn
  own k hk := by
    rcases b.own k hk with hk | hk
    · exact a.own k hk
    · exact .inr (Nat.le_trans a.aside.size hk)
  aside := a.aside.join b.aside (fun k hk hx => (a.own k hx).resolve_right (by omega))
theorem Nxt.set {h h' : HP} {w w' : World} (a : Nxt h h' w w') {b o : Nat} {v : Value} (hb : h.own b ∨ w.heap.size ≤ b) : Nxt h h' w (w'.setCell ⟨b, o, none⟩ v) where
  q := a.q
  tn := a.tn
  own := a.own
  aside := by
    rcases hb with hb | hb
    · exact a.aside.setCell hb v
    · exact ⟨a.aside.os, a.aside.tape, a.aside.output, by simp [World.setCell]; exact a.aside.size, fun k hk hx => (heap_set _ _ _ _ _ (by omega)).trans (a.aside.block k hk hx)⟩
theorem Nxt.below {h h' : HP} {w w' w'' : World} (a : Nxt h h' w w') (hb : Below w'.heap.size w' w'') : Nxt h h' w w'' := a.trans (Nxt.of_below h' hb)
/-- A root is set. -/
theorem HAt.root (H : HAt h sr m w) {r : Nat} (hr : r < m.R.length) : ∃ b cap, h.vR = .slice (some ⟨b, 0, none⟩) m.R.length cap ∧ isOf h.vR b ∧ m.R.length ≤ cap ∧ w.cell? ⟨b, r, none⟩ = some (.int .u64 (m.R.getD r 0)) ∧ w.frozen? ⟨b, r, none⟩ = false ∧
    ∀ x : Int, HAt h sr { m with R := m.R.set r x } (w.setCell ⟨b, r, none⟩ (.int .u64 x)) := by
  obtain ⟨ao, cap, e, hc, hl, hf⟩ := H.R
  obtain ⟨b, rfl, hb⟩ := hf (by omega)
  have hi : isOf h.vR b := ⟨0, _, _, by omega, e⟩
  have hrv : (wordsV m.R)[r]? = some (.int .u64 (m.R.getD r 0)) := by
    unfold wordsV
    rw [List.getElem?_map, List.getElem?_eq_getElem hr, List.getD_eq_getElem?_getD, List.getElem?_eq_getElem hr]
    rfl
  have tb := rowB_ty H.R hi
  refine ⟨b, cap, e, hi, hc, hb.cell hrv, hb.frozen r, fun x => ?_⟩
  have hs := hb.set (j := r) (by rw [lenV]; exact hr) (.int .u64 x)
  have hq := H.tq.ne tb (by decide)
  have hp := H.tp.ne tb (by decide)
  have hC := H.tC.ne tb (by decide)
  refine ⟨(heap_set _ _ _ _ _ hq).trans H.hq, ?_, H.hW.same (heap_set _ _ _ _ _ (fun e => H.rb b hi e.symm)), H.hC.same (heap_set _ _ _ _ _ hC), H.cap, H.capC, ?_, ?_, ?_, H.rk, H.rb, H.kb⟩
  · exact (heap_set _ _ _ _ _ hp).trans H.mb
  · show RowB _ _ _ (m.R.set r x).length (wordsV (m.R.set r x)) _
    rw [List.length_set, ← wordsV_set]
    exact ⟨_, cap, e, hc, by rw [List.length_set]; exact hl, fun _ => ⟨b, rfl, hs⟩⟩
  · exact ownsRow_far' H.K (fun k hk => heap_set _ _ _ _ _ (fun e => H.rk b hi (by rw [hk, e])))
  · exact ownsRow_far' H.I (fun k hk => heap_set _ _ _ _ _ ((own_ty H.I hk).ne tb (by decide)))
/-- The memory's block is set. -/
theorem HAt.mem (H : HAt h sr m w) {o : Nat} {v : Value} {h' : HP} {n : MD} (e1 : h'.q = h.q ∧ h'.p = h.p ∧ h'.bW = h.bW ∧ h'.bC = h.bC ∧ h'.cW = h.cW ∧ h'.cC = h.cC ∧ h'.tn = h.tn) (eR : h'.vR = h.vR) (eW : n.W = m.W) (eC : n.C = m.C) (eN : n.R = m.R)
    (hm : MB h.p n.half n.old n.card n.used n.top n.oldTop (.slice (some ⟨h.bW, 0, none⟩) m.W.length h.cW) h.vR h'.vK h'.vI (.slice (some ⟨h.bC, 0, none⟩) m.C.length h.cC) (w.setCell ⟨h.p, o, none⟩ v))
    (hK : w.ownsRow 0 50 1 h'.vK n.K.length (wordsV n.K)) (hI : w.ownsRow 0 65 2 h'.vI n.I.length (idsV n.I)) (rk : ∀ g, isOf h.vR g → h'.vK.ownBlock ≠ some g) (kb : h'.vK.ownBlock ≠ some h.bW) : HAt h' sr n (w.setCell ⟨h.p, o, none⟩ v) := by
  obtain ⟨q1, q2, q3, q4, q5, q6, q7⟩ := e1
  have hp := H.tp
  refine ⟨?_, ?_, ?_, ?_, ?_, ?_, ?_, ?_, ?_, ?_, ?_, ?_⟩
  · rw [q1, q2, q7]; exact (heap_set _ _ _ _ _ (H.tq.ne hp (by decide))).trans H.hq
  · rw [q2, q3, q4, q5, q6, eR, eW, eC]; exact hm
  · rw [q3, eW]; exact H.hW.same (heap_set _ _ _ _ _ (H.tW.ne hp (by decide)))
  · rw [q4, eC]; exact H.hC.same (heap_set _ _ _ _ _ (H.tC.ne hp (by decide)))
  · rw [eW, q5]; exact H.cap
  · rw [eC, q6]; exact H.capC
  · rw [eR, eN]
    exact H.R.aside ((Aside.refl (fun k => k = h.p) w).setCell (g := h.p) rfl v) (fun g hg e => (rowB_ty H.R hg).ne hp (by decide) e)
  · exact ownsRow_far' hK (fun k hk => heap_set _ _ _ _ _ ((own_ty hK hk).ne hp (by decide)))
  · exact ownsRow_far' hI (fun k hk => heap_set _ _ _ _ _ ((own_ty hI hk).ne hp (by decide)))
  · rw [eR]; exact rk
  · rw [eR, q3]; exact H.rb
  · rw [q3]; exact kb
theorem HAt.setTop (H : HAt h sr m w) (x : Int) : HAt h sr { m with top := x } (w.setCell ⟨h.p, 5, none⟩ (.int .i64 x)) :=
  H.mem (h' := h) (n := { m with top := x }) ⟨rfl, rfl, rfl, rfl, rfl, rfl, rfl⟩ rfl rfl rfl rfl (heap_set_same H.mb) H.K H.I H.rk H.kb
theorem HAt.setOld (H : HAt h sr m w) (x : Int) : HAt h sr { m with oldTop := x } (w.setCell ⟨h.p, 6, none⟩ (.int .i64 x)) :=
  H.mem (h' := h) (n := { m with oldTop := x }) ⟨rfl, rfl, rfl, rfl, rfl, rfl, rfl⟩ rfl rfl rfl rfl (heap_set_same H.mb) H.K H.I H.rk H.kb
/-- The words turn. -/
theorem HAt.words (H : HAt h sr m w) {W' : List Int} (hl : W'.length = m.W.length) (ha : Aside (· = h.bW) w w') (hb : Blk h.bW 50 (wordsV W') w') : HAt h sr { m with W := W' } w' := by
  have tW := H.tW
  refine ⟨(ha.block _ H.tq.lt (H.tq.ne tW (by decide))).trans H.hq, ?_, hb, H.hC.aside ha (H.tC.ne tW (by decide)), by show W'.length ≤ _; rw [hl]; exact H.cap, H.capC, H.R.aside ha (fun g hg => H.rb g hg), ?_, ?_, H.rk, H.rb, H.kb⟩
  · show MB _ _ _ _ _ _ _ (.slice _ W'.length _) _ _ _ _ _
    rw [hl]; exact (ha.block _ H.tp.lt (H.tp.ne tW (by decide))).trans H.mb
  · exact ownsRow_far' H.K (fun k hk => ha.block k (own_lt2 H.K k hk).2 (fun e => H.kb (by rw [hk, show k = h.bW from e])))
  · exact ownsRow_far' H.I (fun k hk => ha.block k (own_lt2 H.I k hk).2 ((own_ty H.I hk).ne tW (by decide)))
/-- A serial more was given. -/
theorem HAt.setSerial (H : HAt h sr m w) (x : Int) : HAt h x m (w.setCell ⟨h.q, 2, none⟩ (.int .i64 x)) := by
  have tq := H.tq
  have ha : Aside (fun k => k = h.q) w (w.setCell ⟨h.q, 2, none⟩ (.int .i64 x)) := (Aside.refl (fun k => k = h.q) w).setCell (g := h.q) rfl _
  exact ⟨heap_set_same H.hq, (ha.block _ H.tp.lt (H.tp.ne tq (by decide))).trans H.mb, H.hW.aside ha (H.tW.ne tq (by decide)), H.hC.aside ha (H.tC.ne tq (by decide)), H.cap, H.capC, H.R.aside ha (fun g hg => (rowB_ty H.R hg).ne tq (by decide)),
    ownsRow_far' H.K (fun k hk => ha.block k (own_lt2 H.K k hk).2 ((own_ty H.K hk).ne tq (by decide))), ownsRow_far' H.I (fun k hk => ha.block k (own_lt2 H.I k hk).2 ((own_ty H.I hk).ne tq (by decide))), H.rk, H.rb, H.kb⟩
/-- Behind a collection. -/
theorem HAt.collected {n : MD} {vR vK vI : Value} (H : HAt h sr m w) (C : ColAt h.p h.bW h.bC h.cW h.cC n vR vK vI w') (hN : RowsN w.heap.size n vR vK vI w') (ha : Aside (ownM h.p h.bW h.bC) w w') : HAt { h with vR := vR, vK := vK, vI := vI } sr n w' ∧ Nxt h { h with vR := vR, vK := vK, vI := vI } w w' := by
  have lW := H.tW.lt
  have own0 : ∀ {t : TypeId} {j k : Nat} {v : Value} {xs : List Value}, w'.ownsRow w.heap.size t j v k xs → w'.ownsRow 0 t j v k xs := fun h => ⟨h.1, by rcases h.2 with h | ⟨g, cap, cur, e1, e2, e3⟩; exact .inl h; exact .inr ⟨g, cap, cur, e1, Nat.zero_le _, e3⟩⟩
  refine ⟨⟨(ha.block _ H.tq.lt (fun e => ?_)).trans H.hq, C.mb, C.hW, C.hC, C.cap, C.capC, hN.R, own0 hN.K, own0 hN.I, hN.rk, fun g hg e => ?_, fun e => ?_⟩, rfl, rfl, fun k hk => ?_, ha.mono (fun k hk => ?_)⟩
  · rcases e with e | e | e
    · exact H.tq.ne H.tp (by decide) e
    · exact H.tq.ne H.tW (by decide) e
    · exact H.tq.ne H.tC (by decide) e
  · have := hN.Rn g hg
    have e : g = h.bW := e
    omega
  · have := (own_lt2 hN.K _ e).1
    have lW : h.bW < w.heap.size := lW
    have this : w.heap.size ≤ h.bW := this
    omega
  · rcases hk with hk | hk | hk | hk | hk | hk | hk
    · exact .inl (.inl hk)
    · exact .inl (.inr (.inl hk))
    · exact .inl (.inr (.inr (.inl hk)))
    · exact .inl (.inr (.inr (.inr (.inl hk))))
    · exact .inr (hN.Rn k hk)
    · exact .inr (own_lt2 hN.K k hk).1
    · exact .inr (own_lt2 hN.I k hk).1
  · rcases hk with hk | hk | hk
    · exact .inr (.inl hk)
    · exact .inr (.inr (.inl hk))
    · exact .inr (.inr (.inr (.inl hk)))
/-- What is laid down from the beginning stays. -/
structure Dim (m n : MD) : Prop where
  half : n.half = m.half
  old : n.old = m.old
  card : n.card = m.card
theorem Dim.refl (m : MD) : Dim m m := ⟨rfl, rfl, rfl⟩
theorem Dim.trans {m n k : MD} (a : Dim m n) (b : Dim n k) : Dim m k := ⟨b.half.trans a.half, b.old.trans a.old, b.card.trans a.card⟩
/-- A heap in memory, with its model. -/
structure HS (a : Nat → Addr) (w0 : World) (h : HP) (sr : Int) (m : MD) (M : MO) (X : MXtra) (w : World) : Prop where
  at' : HAt h sr m w
  hm : HM m sr M X
  env : HEnv a w0
  base : Below w0.heap.size w0 w
  own : ∀ k, h.own k → w0.heap.size ≤ k
  t0 : 0 ≤ h.tn
  t1 : h.tn ≤ 15
  kl : X.K.length ≤ 5000
  rl : M.R.length ≤ 5000
variable {a : Nat → Addr} {w0 : World} {M : MO} {X : MXtra}
theorem HS.benv (s : HS a w0 h sr m M X w) : HEnv a w := s.env.below s.base
theorem HS.ab (s : HS a w0 h sr m M X w) {w' : World} (ha : Aside h.own w w') : Below w0.heap.size w0 w' := s.base.trans (ha.below s.base.size (fun k hk hx => by have := s.own k hx; omega))
theorem HS.aenv (s : HS a w0 h sr m M X w) {w' : World} (ha : Aside h.own w w') : HEnv a w' := s.env.below (s.ab ha)
theorem HS.next (s : HS a w0 h sr m M X w) {h' : HP} {sr' : Int} {n : MD} {M' : MO} {X' : MXtra} (N : Nxt h h' w w') (H : HAt h' sr' n w') (hm : HM n sr' M' X') (kl : X'.K.length ≤ 5000) (rl : M'.R.length ≤ 5000) : HS a w0 h' sr' n M' X' w' :=
  ⟨H, hm, s.env, s.ab N.aside, fun k hk => by
    rcases N.own k hk with h1 | h1
    · exact s.own k h1
    · exact Nat.le_trans s.base.size h1, by rw [N.tn]; exact s.t0, by rw [N.tn]; exact s.t1, kl, rl⟩
theorem HS.below (s : HS a w0 h sr m M X w) (hb : Below w.heap.size w w') : HS a w0 h sr m M X w' := s.next (Nxt.of_below h hb) (s.at'.below hb) s.hm s.kl s.rl
/-- A step of a heap: what it is behind it. -/
def Stp (a : Nat → Addr) (w0 : World) (h : HP) (m : MD) (M : MO) (X : MXtra) (w w' : World) : Prop := ∃ h' sr' n, Nxt h h' w w' ∧ Dim m n ∧ HS a w0 h' sr' n M X w'
end Go.Proofs.YtlkcbdinlfeoiabGreatDoor
namespace Go.Proofs.YtlkcbdinlfeoiabGreatDoor
open Go.RowKit Go.Maps

variable {h : HP} {sr : Int} {m : MD} {w w' : World} {a : Nat → Addr} {w0 : World} {M : MO} {X : MXtra}
theorem ids_few {vs : List Nat} (S : m.Shape vs) : m.I.length ≤ 300000 := by
  have hI := (S.rest').2.2
  have hn : (m.I.map fun x => (x.1 / 4 - 1).toNat).Nodup := by
    unfold List.Nodup
    rw [List.pairwise_map, List.pairwise_iff_getElem]
    intro i j hi hj hij he
    have p1 := ids_ptr hI m.I[i] (List.getElem_mem hi)
    have p2 := ids_ptr hI m.I[j] (List.getElem_mem hj)
    unfold ptrB at p1 p2
    rw [Bool.and_eq_true] at p1 p2
    have q1 := of_decide_eq_true p1.1
    have q2 := of_decide_eq_true p2.1
    have e : m.I[i].1 = m.I[j].1 := by omega
    have hg := hI
    unfold idsB at hg
    rw [List.all_eq_true] at hg
    have g := hg j (List.mem_range.2 hj)
    unfold idB at g
    rw [List.getElem?_eq_getElem hj] at g
    simp only [Bool.and_eq_true, decide_eq_true_eq] at g
    have h3 := g.2.2.1
    rw [List.take_add_one, List.getElem?_eq_getElem hj, List.map_append, List.count_append] at h3
    have h4 : m.I[j].1 ∈ (m.I.take j).map (·.1) := by
      rw [← e]
      exact List.mem_map.2 ⟨m.I[i], List.mem_of_getElem? (i := i) (by rw [List.getElem?_take, if_pos hij, List.getElem?_eq_getElem hi]), rfl⟩
    have h5 := List.count_pos_iff.2 h4
    have h6 : (List.map (fun x : Int × Int => x.1) (some m.I[j]).toList).count m.I[j].1 = 1 := by simp
    omega
  have hl := nodup_len _ vs hn (fun f hf => by
    obtain ⟨x, hx, rfl⟩ := List.mem_map.1 hf
    have p := ids_ptr hI x hx
    unfold ptrB at p
    rw [Bool.and_eq_true, Bool.and_eq_true] at p
    exact of_decide_eq_true p.2.2)
  rw [List.length_map] at hl
  exact Nat.le_trans hl S.few
/-- A heap's memory is right. -/
structure Right (m : MD) (l1 l2 : List Nat) : Prop where
  S : m.Shape (l1 ++ l2)
  C : m.cardsB = true
  h64 : MD64 m
  w1 : walkP m.F (G0 m.F) (m.n1 - m.n0) m.n0 m.n1 = some l1
  w2 : walkP m.F (G0 m.F) (m.m1 - m.m0) m.m0 m.m1 = some l2
theorem HM.right (hm : HM m sr M X) : ∃ l1 l2, Right m l1 l2 := by
  obtain ⟨vs, S, C, h64⟩ := hm.shape
  obtain ⟨l1, l2, rfl, w1, w2⟩ := S.bare
  exact ⟨l1, l2, S, C, h64, w1, w2⟩
theorem HM.weaks (hm : HM m sr M X) : m.K.length = X.K.length := by
  obtain ⟨vs, S, φ, hr, hw⟩ := hm
  exact hw.klen
theorem HM.serials (hm : HM m sr M X) : sr = X.next ∧ 0 ≤ X.next := by
  obtain ⟨vs, S, φ, hr, hw⟩ := hm
  exact ⟨hw.next, hw.n0⟩
/-- Behind a collection of all a weak reference is gone where nothing else leads to its object. -/
theorem HM.majorW {n : MD} {us l1 l2 : List Nat} {S' : Nat → Prop} {ψ : Nat → Nat} (hm : HM m sr M X) (Sm : m.Shape (l1 ++ l2)) (D : JDone m n l1 l2 us S' ψ) {j i : Nat} (hj : X.K[j]? = some i) (hi : i ∉ M.all) : n.K.getD j 0 = 2 := by
  obtain ⟨vs, S, φ, hr, hw⟩ := hm
  obtain rfl := Sm.one hr.shape
  have hjl : j < m.K.length := by rw [hw.klen]; exact (List.getElem?_eq_some_iff.1 hj).1
  have K := D.C.weak j hjl
  rcases hw.weak j i hj with ⟨hs, e⟩ | ⟨_, e⟩
  · have hp := adW_pt (φ := φ) (hr.rel.few _ hs)
    rcases K with ⟨k1, _⟩ | ⟨_, _, k2⟩
    · exfalso
      have h0 := k1 (by rw [e]; omega)
      rw [e, hp] at h0
      have h1 := (D.led _).1 h0
      rw [show ((φ i : Nat) : Int).toNat = φ i by omega] at h1
      exact hi (hr.mem hs h1)
    · exact k2
  · rcases K with ⟨_, k2⟩ | ⟨k1, _, _⟩
    · rw [k2, e]; rfl
    · rw [e] at k1
      exact absurd k1 (by decide)
theorem HEnv.five {a : Nat → Addr} {w : World} (h : HEnv a w) : MErr a w := ⟨h.errs.c1, h.errs.c2, h.errs.c4, h.errs.c5⟩
theorem ownM_own (ha : Aside (ownM h.p h.bW h.bC) w w') : Aside h.own w w' := ha.mono (fun k hk => by
  rcases hk with hk | hk | hk
  · exact .inr (.inl hk)
  · exact .inr (.inr (.inl hk))
  · exact .inr (.inr (.inr (.inl hk))))
/-- A collection of the young. -/
theorem cminor_any (s : HS a w0 h sr m M X w) : Calls Tryz.prog 49 #[.pointer (some ⟨h.p, 0, none⟩), .int .i64 h.tn] w fun ev w' =>
    (ev = .returned (errV a 5) ∧ Below w.heap.size w w') ∨ (ev = .returned .nilIface ∧ Stp a w0 h m M X w w' ∧ Aside (ownM h.p h.bW h.bC) w w') := by
  obtain ⟨l1, l2, rt⟩ := s.hm.right
  have hR := s.hm.roots
  have hK := s.hm.weaks
  have hrl := s.rl
  have hkl := s.kl
  have t0 := s.t0
  have t1 := s.t1
  refine (ncollect_any a h.p h.bW h.bC h.cW h.cC m h.vR h.vK h.vI l1 l2 h.tn w s.at'.col rt.S rt.C rt.h64 rt.w1 rt.w2 (by omega) (by omega) (ids_few rt.S) (by omega) (fun w' ha => (s.aenv (ownM_own ha)).five)).mono ?_
  rintro ev w' (⟨hn, _⟩ | ⟨_, _, rfl, hb⟩ | ⟨_, _, rfl, e, n, us, S, ψ, vR, vK, vI, _, hC, hc, _, ha, hN⟩)
  · exact absurd ⟨t0, t1⟩ hn
  · exact .inl ⟨rfl, hb⟩
  · refine .inr ⟨rfl, ?_, ha⟩
    obtain ⟨H', N'⟩ := s.at'.collected hC hN ha
    exact ⟨_, sr, n, N', ⟨hc.half, hc.hold, hc.card⟩, s.next N' H' (s.hm.minor rt.S hc) s.kl s.rl⟩
/-- A collection of all. -/
theorem cmajor_any (s : HS a w0 h sr m M X w) : Calls Tryz.prog 50 #[.pointer (some ⟨h.p, 0, none⟩)] w fun ev w' =>
    (ev = .returned (errV a 5) ∧ Below w.heap.size w w' ∧ m.old < (M.words : Int)) ∨ (ev = .returned .nilIface ∧ ∃ h' sr' n, Nxt h h' w w' ∧ Dim m n ∧ HS a w0 h' sr' n M X w' ∧ n.top = 0 ∧ n.oldTop = (M.words : Int) ∧ ∀ j i, X.K[j]? = some i → i ∉ M.all → n.K.getD j 0 = 2) := by
  obtain ⟨l1, l2, rt⟩ := s.hm.right
  have hR := s.hm.roots
  have hK := s.hm.weaks
  have hrl := s.rl
  have hkl := s.kl
  have hl := s.hm.live rt.S
  refine (jcollect_any a h.p h.bW h.bC h.cW h.cC m h.vR h.vK h.vI l1 l2 w s.at'.col rt.S rt.C rt.h64 rt.w1 rt.w2 (by omega) (by omega) (ids_few rt.S) (fun w' ha => (s.aenv (ownM_own ha)).five)).mono ?_
  rintro ev w' (⟨hn, rfl, hb⟩ | ⟨_, rfl, P, φ, hX, hP, vR, vK, vI, hC, ha, hN⟩)
  · refine .inl ⟨rfl, hb, ?_⟩
    have hw := rt.S.1.w
    have hm0 := (MD.parts rt.S.1).m0
    rw [hl] at hn
    omega
  · refine .inr ⟨rfl, ?_⟩
    obtain ⟨H', N'⟩ := s.at'.collected hC hN ha
    have D := jdone_of rt.S rt.h64 hX hP
    obtain ⟨g1, g2, g3⟩ := s.hm.major rt.S D
    exact ⟨_, sr, _, N', ⟨D.C.half, D.C.hold, D.C.card⟩, s.next N' H' g1 s.kl s.rl, g2, g3, fun j i hj hi => s.hm.majorW rt.S D hj hi⟩
end Go.Proofs.YtlkcbdinlfeoiabGreatDoor
namespace Go.Proofs.YtlkcbdinlfeoiabGreatDoor
open Go.RowKit Go.Maps

/-- The words of a memory with a new object at t. -/
def lyW (W : List Int) (t : Nat) (hd : Int) (fs : List Int) : List Int := W.take t ++ (hd :: fs) ++ W.drop (t + 1 + fs.length)
theorem lyW_len {W : List Int} {t : Nat} {hd : Int} {fs : List Int} (h : t + 1 + fs.length ≤ W.length) : (lyW W t hd fs).length = W.length := by
  unfold lyW
  simp only [List.length_append, List.length_take, List.length_cons, List.length_drop]
  omega
theorem lyW_get {W : List Int} {t : Nat} {hd : Int} {fs : List Int} (h : t + 1 + fs.length ≤ W.length) (i : Nat) : (lyW W t hd fs)[i]? = if i < t then W[i]? else if i = t then some hd else if i < t + 1 + fs.length then fs[i - t - 1]? else W[i]? := by
  unfold lyW
  have l1 : (W.take t).length = t := by rw [List.length_take]; omega
  by_cases c1 : i < t
  · rw [if_pos c1, List.append_assoc, List.getElem?_append_left (by omega), List.getElem?_take, if_pos c1]
  · rw [if_neg c1, List.append_assoc, List.getElem?_append_right (by omega), l1]
    by_cases c2 : i = t
    · rw [if_pos c2, c2, Nat.sub_self]
      rfl
    · rw [if_neg c2]
      obtain ⟨j, rfl⟩ : ∃ j, i = t + 1 + j := ⟨i - t - 1, by omega⟩
      have e1 : t + 1 + j - t = j + 1 := by omega
      have e2 : t + 1 + j - t - 1 = j := by omega
      rw [e2, e1, List.cons_append, List.getElem?_cons_succ]
      by_cases c3 : j < fs.length
      · rw [if_pos (by omega), List.getElem?_append_left c3]
      · rw [if_neg (by omega), List.getElem?_append_right (by omega), List.getElem?_drop]
        congr 1
        omega
/-- The header of a new object. -/
def hdN (kd : Int) (s : Nat) : Int := (s : Int) * 65536 + kd * 4 + 3
theorem hdN_facts {kd : Int} {s : Nat} (k0 : 0 ≤ kd) (k1 : kd ≤ 255) (hs : s ≤ 4096) : hdN kd s % 4 = 3 ∧ hdN kd s / 4 % 256 = kd ∧ hdN kd s / 1024 % 16 = 0 ∧ hdN kd s / 16384 % 2 = 0 ∧ hdN kd s / 32768 % 2 = 0 ∧ hdN kd s / 65536 = (s : Int) ∧ 0 ≤ hdN kd s ∧ hdN kd s < 18446744073709551616 := by
  unfold hdN
  omega
/-- Where an object's words were taken. -/
def topM (k : MD) (y : Bool) (n : Nat) : MD := { k with top := if y then k.top + (n : Int) else k.top, oldTop := if y then k.oldTop else k.oldTop + (n : Int) }
variable {m : MD} {l1 l2 : List Nat}
/-- A new object is laid: the memory behind it. -/
theorem laid_of (rt : Right m l1 l2) {kd : Int} {fs : List Int} (y : Bool) (k0 : 0 ≤ kd) (k1 : kd ≤ 255) (hs : fs.length ≤ 4096) (hu : U64 fs) (hf : ¬ kd < 8 → ∀ x ∈ fs, fieldB m.W.length (fun _ => false) x = true)
    (hr : if y then m.top + ((1 + fs.length : Nat) : Int) ≤ m.half else m.oldTop + ((1 + fs.length : Nat) : Int) ≤ m.old) :
    ∃ t n, t = (if y then m.n1 else m.m1) ∧ t + 1 + fs.length ≤ m.W.length ∧ n = { topM m y (1 + fs.length) with W := lyW m.W t (hdN kd fs.length) fs } ∧
      Laid m n t fs.length y ∧ MD64 n ∧ n.F t / 4 % 256 = kd ∧ fieldsP n.F t = fs := by
  obtain ⟨h1, h2, h3, h4, h5, h6, h7, h8⟩ := hdN_facts k0 k1 hs
  have P := MD.parts rt.S.1
  have hn := rt.S.1.nums
  unfold numsOK at hn
  have hu0 := rt.S.1.u0
  have hu1 := rt.S.1.u1
  have ht0 := rt.S.1.t0
  have ht1 := rt.S.1.t1
  have ho0 := rt.S.1.o0
  have ho1 := rt.S.1.o1
  have hw := rt.S.1.w
  have p0 := P.n0
  have p1 := P.n1
  have p2 := P.m0
  have p3 := P.m1
  obtain ⟨t, ht⟩ : ∃ t, t = (if y then m.n1 else m.m1) := ⟨_, rfl⟩
  have hfit : t + 1 + fs.length ≤ m.W.length := by
    have hus : m.used = 0 ∨ m.used = 1 := by omega
    cases y with
    | true =>
      simp only [if_true] at ht hr
      rcases hus with e | e <;> (rw [e] at p1; omega)
    | false =>
      simp only [Bool.false_eq_true, if_false] at ht hr
      omega
  obtain ⟨n, hnn⟩ : ∃ n : MD, n = { topM m y (1 + fs.length) with W := lyW m.W t (hdN kd fs.length) fs } := ⟨_, rfl⟩
  have hF : ∀ i, n.F i = if i < t then m.F i else if i = t then hdN kd fs.length else if i < t + 1 + fs.length then fs.getD (i - t - 1) 0 else m.F i := fun i => by
    unfold MD.F
    rw [hnn]
    show (lyW m.W t (hdN kd fs.length) fs).getD i 0 = _
    rw [List.getD_eq_getElem?_getD, lyW_get hfit]
    simp only [List.getD_eq_getElem?_getD]
    split
    · rfl
    · split
      · rfl
      · split <;> rfl
  have hFt : n.F t = hdN kd fs.length := by rw [hF, if_neg (by omega), if_pos rfl]
  have hFk : ∀ k, k < fs.length → n.F (t + 1 + k) = fs.getD k 0 := fun k hk => by
    rw [hF, if_neg (by omega), if_neg (by omega), if_pos (by omega), show t + 1 + k - t - 1 = k by omega]
  have hsz : szN (n.F t) = fs.length := by
    unfold szN
    rw [hFt, h6]
    omega
  have hfl : fieldsP n.F t = fs := by
    unfold fieldsP
    rw [hsz]
    apply List.ext_getElem?
    intro i
    rw [List.getElem?_map]
    by_cases hi : i < fs.length
    · rw [List.getElem?_range hi, Option.map_some, hFk i hi, List.getD_eq_getElem?_getD, List.getElem?_eq_getElem hi]
      rfl
    · rw [List.getElem?_eq_none (by simpa using hi), List.getElem?_eq_none (by simpa using hi)]
      rfl
  have e1 : m.top + ((1 + fs.length : Nat) : Int) = m.top + 1 + (fs.length : Int) := by omega
  have e2 : m.oldTop + ((1 + fs.length : Nat) : Int) = m.oldTop + 1 + (fs.length : Int) := by omega
  refine ⟨t, n, ht, hfit, hnn, ?_, ?_, by rw [hFt]; exact h2, hfl⟩
  · refine ⟨by rw [hnn]; rfl, by rw [hnn]; rfl, by rw [hnn]; rfl, by rw [hnn]; rfl, by rw [hnn]; rfl, by rw [hnn]; rfl, by rw [hnn]; rfl, by rw [hnn]; rfl, ?_, by rw [hnn, ← e1]; rfl, by rw [hnn, ← e2]; rfl, ht, by rw [← e1, ← e2]; exact hr, fun i hi => ?_, ?_, hsz, by rw [hFt]; exact h4, by rw [hFt]; exact h3, fun hk k hkl => ?_⟩
    · rw [hnn]; exact lyW_len hfit
    · rw [hF]
      rcases hi with hi | hi
      · rw [if_pos hi]
      · rw [if_neg (by omega), if_neg (by omega), if_neg (by omega)]
    · unfold headB
      rw [hFt, h6]
      exact decide_eq_true ⟨h1, h5, by omega⟩
    · rw [hFt, h2] at hk
      rw [hFk k hkl, List.getD_eq_getElem?_getD, List.getElem?_eq_getElem hkl]
      exact hf hk _ (List.getElem_mem hkl)
  · obtain ⟨a1, a2, a3, a4⟩ := rt.h64
    refine ⟨fun x hx => ?_, by rw [hnn]; exact a2, by rw [hnn]; exact a3, by rw [hnn]; exact a4⟩
    rw [hnn] at hx
    have hx : x ∈ lyW m.W t (hdN kd fs.length) fs := hx
    unfold lyW at hx
    rcases List.mem_append.1 hx with hx | hx
    · rcases List.mem_append.1 hx with hx | hx
      · exact a1 x (List.mem_of_mem_take hx)
      · rcases List.mem_cons.1 hx with rfl | hx
        · exact ⟨h7, h8⟩
        · exact hu x hx
    · exact a1 x (List.mem_of_mem_drop hx)
end Go.Proofs.YtlkcbdinlfeoiabGreatDoor
namespace Go.Proofs.YtlkcbdinlfeoiabGreatDoor
open Go.RowKit Go.Maps

variable {h : HP} {sr : Int} {m : MD} {w w' : World} {a : Nat → Addr} {w0 : World} {M : MO} {X : MXtra}
theorem HAt.c0 (H : HAt h sr m w) : w.cell? ⟨h.q, 0, none⟩ = some (.pointer (some ⟨h.p, 0, none⟩)) := by rw [cell_of_row _ _ _ _ _ _ H.hq]; rfl
theorem HAt.c1 (H : HAt h sr m w) : w.cell? ⟨h.q, 1, none⟩ = some (.int .i64 h.tn) := by rw [cell_of_row _ _ _ _ _ _ H.hq]; rfl
theorem HAt.c2 (H : HAt h sr m w) : w.cell? ⟨h.q, 2, none⟩ = some (.int .i64 sr) := by rw [cell_of_row _ _ _ _ _ _ H.hq]; rfl
theorem HAt.cm (H : HAt h sr m w) : MemAt h.p m.half m.old m.card (.slice (some ⟨h.bW, 0, none⟩) m.W.length h.cW) m.used m.top m.oldTop h.vR h.vK h.vI (.slice (some ⟨h.bC, 0, none⟩) m.C.length h.cC) w := H.col.mem
theorem HAt.rows (H : HAt h sr m w) : (∃ ao cap, h.vR = .slice ao m.R.length cap) ∧ (∃ ao cap, h.vK = .slice ao m.K.length cap) ∧ ∃ ao cap, h.vI = .slice ao m.I.length cap := by
  obtain ⟨ao, cap, e, _⟩ := H.R
  obtain ⟨a1, c1, e1, _⟩ := (RowB.of_own H.K).1
  obtain ⟨a2, c2, e2, _⟩ := (RowB.of_own H.I).1
  exact ⟨⟨_, _, e⟩, ⟨_, _, e1⟩, ⟨_, _, e2⟩⟩
/-- A right memory's numbers. -/
theorem HS.nums (s : HS a w0 h sr m M X w) : 1 ≤ m.half ∧ m.half ≤ 65536 ∧ 1 ≤ m.old ∧ m.old ≤ 65536 ∧ (m.used = 0 ∨ m.used = 1) ∧ 0 ≤ m.top ∧ m.top ≤ m.half ∧ 0 ≤ m.oldTop ∧ m.oldTop ≤ m.old ∧ (m.W.length : Int) = 2 * m.half + m.old ∧ (m.n1 : Int) = m.used * m.half + m.top ∧ (m.m1 : Int) = 2 * m.half + m.oldTop := by
  obtain ⟨l1, l2, rt⟩ := s.hm.right
  have hn := rt.S.1.nums
  unfold numsOK at hn
  have P := MD.parts rt.S.1
  have := rt.S.1.u0
  have := rt.S.1.u1
  exact ⟨by omega, by omega, by omega, by omega, by omega, rt.S.1.t0, rt.S.1.t1, rt.S.1.o0, rt.S.1.o1, rt.S.1.w, P.n1, P.m1⟩
theorem HS.rlen (s : HS a w0 h sr m M X w) : m.R.length = M.R.length ∧ m.R.length ≤ 5000 := ⟨s.hm.roots, by have := s.rl; have := s.hm.roots; omega⟩
set_option maxHeartbeats 1000000 in
set_option maxRecDepth 100000 in
theorem hroot_ok (q p b n cap r : Nat) (x : Int) (hr : r < n) (w : World) (c0 : w.cell? ⟨q, 0, none⟩ = some (.pointer (some ⟨p, 0, none⟩))) (c7 : w.cell? ⟨p, 7, none⟩ = some (.slice (some ⟨b, 0, none⟩) n cap)) (cr : w.cell? ⟨b, r, none⟩ = some (.int .u64 x)) (hn : n ≤ 5000) :
    Calls Tryz.prog 28 #[.pointer (some ⟨q, 0, none⟩), .int .i64 (r : Int)] w fun ev w' => ev = .returned (.tuple #[.int .u64 x, .nilIface]) ∧ w' = w := by
  have k := hwithin_any r 0 ((n : Int) - 1) w
  rw [show (decide (0 ≤ (r : Int)) && decide ((r : Int) ≤ (n : Int) - 1)) = true by simp; omega] at k
  have hI : (r : Int) < (n : Int) := by omega
  have hI0 : (0 : Int) ≤ (r : Int) := by omega
  go_enter Tryz.func28, Tryz.ntmps28
  go_wp2_with fail
  refine k.mono ?_
  clear k
  rintro ev w1 ⟨rfl, rfl⟩
  go_wp2_with fail
  go_ret2
  exact ⟨rfl, rfl⟩
/-- A root is told, by its number. -/
theorem HS.rootOk (s : HS a w0 h sr m M X w) {r : Nat} (hr : r < m.R.length) : Calls Tryz.prog 28 #[.pointer (some ⟨h.q, 0, none⟩), .int .i64 (r : Int)] w fun ev w' => ev = .returned (.tuple #[.int .u64 (m.R.getD r 0), .nilIface]) ∧ w' = w := by
  obtain ⟨b, cap, e, _, _, cr, _⟩ := s.at'.root hr
  refine hroot_ok h.q h.p b m.R.length cap r _ hr w s.at'.c0 ?_ cr s.rlen.2
  rw [s.at'.cm.c7, e]
/-- What a closure that makes a word answers: the word, and the heap behind it, or an error. -/
def Made (a : Nat → Addr) (q r : Nat) (G : Int → HP → Int → MD → World → Prop) (B : Nat → World → Prop) (ev : Ending) (w1 : World) : Prop :=
  (∃ y h' sr' n, ev = .returned (.tuple #[.int .u64 y, .nilIface]) ∧ HAt h' sr' n w1 ∧ h'.q = q ∧ r < n.R.length ∧ G y h' sr' n w1) ∨ ∃ k, ev = .returned (.tuple #[.int .u64 0, errV a k]) ∧ B k w1
set_option maxHeartbeats 2000000 in
set_option maxRecDepth 100000 in
theorem hbecome_ok (s : HS a w0 h sr m M X w) (K : FuncId) (caps : Array Value) (hE : ∀ args w, (callFunc K args).run Tryz.prog w = .ok (.enter K args) w) {r : Nat} (hr : r < m.R.length) (G : Int → HP → Int → MD → World → Prop) (B : Nat → World → Prop)
    (hK : Calls Tryz.prog K caps w (Made a h.q r G B)) :
    Calls Tryz.prog 20 #[.pointer (some ⟨h.q, 0, none⟩), .int .i64 (r : Int), .func (.func K) #[] caps] w fun ev w' =>
      (∃ y h' sr' n w1, ev = .returned .nilIface ∧ G y h' sr' n w1 ∧ HAt h' sr' { n with R := n.R.set r y } w' ∧ Nxt h' h' w1 w') ∨ ∃ k, ev = .returned (errV a k) ∧ B k w' := by
  have k := s.rootOk hr
  have hI0 : (0 : Int) ≤ (r : Int) := by omega
  obtain ⟨q, hq⟩ : ∃ q, q = h.q := ⟨_, rfl⟩
  rw [← hq] at hK k ⊢
  obtain ⟨x, hx⟩ : ∃ x, x = m.R.getD r 0 := ⟨_, rfl⟩
  rw [← hx] at k
  clear s hx hr hq
  go_enter Tryz.func20, Tryz.ntmps20
  go_wp2_with fail
  refine k.mono ?_
  clear k
  rintro ev w1 ⟨rfl, rfl⟩
  go_wp2_with fail
  refine hK.mono ?_
  clear hK
  rintro ev w2 (⟨y, h', sr', n, rfl, H, hq, hr, hG⟩ | ⟨k, rfl, hB⟩)
  · have d0 := H.c0
    rw [hq] at d0
    obtain ⟨b, cap, e, hi, _, cr, fz, hset⟩ := H.root hr
    have d7 := H.cm.c7
    rw [e] at d7
    have hI : (r : Int) < (n.R.length : Int) := by omega
    have HN : Hid (Nxt h' h' w2 (w2.setCell ⟨b, r, none⟩ (.int .u64 y))) := (Nxt.refl h' w2).set (.inl (.inr (.inr (.inr (.inr (.inl hi))))))
    have HS' := toHid (hset y)
    have HG := toHid hG
    clear hset hG H hi e hq hr
    go_wp2_with fail
    go_ret
    exact .inl ⟨y, h', sr', n, w2, rfl, HG.out, HS'.out, HN.out⟩
  · have HB := toHid hB
    clear hB
    unfold errV
    go_wp2_with fail
    go_ret
    exact .inr ⟨k, rfl, HB.out⟩
theorem Stp.back {w1 : World} (hb : Below w.heap.size w w1) (t : Stp a w0 h m M X w1 w') : Stp a w0 h m M X w w' := by
  obtain ⟨h', sr', n, N, D, s⟩ := t
  exact ⟨h', sr', n, (Nxt.of_below h hb).trans N, D, s⟩
/-- Behind a collection of all. -/
def StpJ (a : Nat → Addr) (w0 : World) (h : HP) (m : MD) (M : MO) (X : MXtra) (w w' : World) : Prop := ∃ h' sr' n, Nxt h h' w w' ∧ Dim m n ∧ HS a w0 h' sr' n M X w' ∧ n.top = 0 ∧ n.oldTop = (M.words : Int) ∧ ∀ j i, X.K[j]? = some i → i ∉ M.all → n.K.getD j 0 = 2
theorem HS.same (s : HS a w0 h sr m M X w) {w' : World} (hb : Below w.heap.size w w') : Stp a w0 h m M X w w' := ⟨h, sr, m, Nxt.of_below h hb, Dim.refl m, s.below hb⟩
set_option maxHeartbeats 1000000 in
set_option maxRecDepth 100000 in
theorem smajor_any (s : HS a w0 h sr m M X w) : Calls Tryz.prog 24 #[.pointer (some ⟨h.q, 0, none⟩)] w fun ev w' => (ev = .returned (errV a 5) ∧ Below w.heap.size w w' ∧ m.old < (M.words : Int)) ∨ (ev = .returned .nilIface ∧ StpJ a w0 h m M X w w') := by
  have k := cmajor_any s
  have c0 := s.at'.c0
  obtain ⟨q, hq⟩ : ∃ q, q = h.q := ⟨_, rfl⟩
  obtain ⟨p, hp⟩ : ∃ p, p = h.p := ⟨_, rfl⟩
  rw [← hq, ← hp] at c0
  rw [← hp] at k
  rw [← hq]
  clear s hq hp
  go_enter Tryz.func24, Tryz.ntmps24
  go_wp2_with fail
  refine k.mono ?_
  clear k
  rintro ev w1 (⟨rfl, hP⟩ | ⟨rfl, hP⟩)
  · have HP' := toHid hP
    clear hP
    go_wp2_with fail
    first | go_ret | skip
    exact .inl ⟨rfl, HP'.out⟩
  · have HP' := toHid hP
    clear hP
    go_wp2_with fail
    first | go_ret | skip
    exact .inr ⟨rfl, HP'.out⟩
theorem infoSpH : (Tryz.prog.info? 260).map (·.comparable) = some true := by kernel_rfl
theorem infoSH : (Tryz.prog.info? 274).map (·.size) = some 1 := by kernel_rfl
theorem eqFull (x : Addr) (w : World) : (binOp .eql 26 (.iface 260 (.pointer (some x))) (.iface 260 (.pointer (some x)))).run Tryz.prog w = .ok (.bool true) w := by
  obtain ⟨i, hi, hcmp⟩ := Option.map_eq_some_iff.1 infoSpH
  obtain ⟨j, hj, _⟩ := Option.map_eq_some_iff.1 infoSH
  exact run_eql_iface_ptr_same (P := Tryz.prog) w x Tryz.underlying26 Tryz.underlying260 hi hcmp hj
theorem eqNone (x : Addr) (w : World) : (binOp .eql 26 .nilIface (.iface 260 (.pointer (some x)))).run Tryz.prog w = .ok (.bool false) w := run_eql_iface_nil_left (P := Tryz.prog) w 260 _ Tryz.underlying26
set_option maxHeartbeats 1000000 in
set_option maxRecDepth 100000 in
theorem sminor_any (s : HS a w0 h sr m M X w) : Calls Tryz.prog 23 #[.pointer (some ⟨h.q, 0, none⟩)] w fun ev w' => (ev = .returned (errV a 5) ∧ Below w.heap.size w w' ∧ m.old < (M.words : Int)) ∨ (ev = .returned .nilIface ∧ Stp a w0 h m M X w w') := by
  have k : ∀ W, Below w.heap.size w W → Calls Tryz.prog 49 #[.pointer (some ⟨h.p, 0, none⟩), .int .i64 h.tn] W fun ev w' => (ev = .returned (errV a 5) ∧ Below W.heap.size W w') ∨ (ev = .returned .nilIface ∧ Stp a w0 h m M X W w' ∧ Aside (ownM h.p h.bW h.bC) W w') := fun W hW => cminor_any (s.below hW)
  have c0 := s.at'.c0
  have c1 := s.at'.c1
  have HS' := toHid s
  obtain ⟨q, hq⟩ : ∃ q, q = h.q := ⟨_, rfl⟩
  obtain ⟨p, hp⟩ : ∃ p, p = h.p := ⟨_, rfl⟩
  obtain ⟨t, ht⟩ : ∃ t, t = h.tn := ⟨_, rfl⟩
  rw [← hq, ← hp] at c0
  rw [← hq, ← ht] at c1
  rw [← hp, ← ht] at k
  have HM5 : Hid (∀ w1, Below w.heap.size w w1 → w1.cell? ⟨1, 0, none⟩ = some (.iface 260 (.pointer (some (a 5))))) := fun w1 hb => (s.benv.five.below hb).c5
  have HJ : Hid (∀ w1, Below w.heap.size w w1 → Calls Tryz.prog 24 #[.pointer (some ⟨q, 0, none⟩)] w1 fun ev w' => (ev = .returned (errV a 5) ∧ Below w1.heap.size w1 w' ∧ m.old < (M.words : Int)) ∨ (ev = .returned .nilIface ∧ StpJ a w0 h m M X w1 w')) := fun w1 hb => by
    rw [hq]; exact smajor_any (s.below hb)
  have HG : Hid (∀ w1, Stp a w0 h m M X w w1 → w1.cell? ⟨1, 0, none⟩ = some (.iface 260 (.pointer (some (a 5))))) := fun w1 st => by
    obtain ⟨h', sr', n, _, _, s'⟩ := st
    exact s'.benv.five.c5
  have HS0 : Hid (∀ w1, Aside (ownM p h.bW h.bC) w w1 → w1.cell? ⟨q, 0, none⟩ = some (.pointer (some ⟨p, 0, none⟩)) ∧ w1.cell? ⟨q, 1, none⟩ = some (.int .i64 t)) := fun w1 ha => by
    have hn : ¬ ownM p h.bW h.bC q := fun e => by
      rw [hq, hp] at e
      rcases e with e | e | e
      · exact s.at'.tq.ne s.at'.tp (by decide) e
      · exact s.at'.tq.ne s.at'.tW (by decide) e
      · exact s.at'.tq.ne s.at'.tC (by decide) e
    exact ⟨ha.cell c0 hn, ha.cell c1 hn⟩
  have HS1 := toHid (HS0.out w (Aside.refl _ _))
  rw [← hq]
  have KC : Hid (∀ W, Below w.heap.size w W → Calls Tryz.prog 49 #[.pointer (some ⟨p, 0, none⟩), .int .i64 t] W fun ev w' => ∃ e, ev = .returned e ∧ Hid ((e = errV a 5 ∧ Below w.heap.size w w') ∨ (e = .nilIface ∧ Stp a w0 h m M X w w')) ∧ Aside (ownM p h.bW h.bC) w w') := fun W hW => (k W hW).mono (by
    rintro ev w1 (⟨rfl, hb⟩ | ⟨rfl, hP, ha⟩)
    · exact ⟨_, rfl, .inl ⟨rfl, hW.trans (hb.mono hW.size)⟩, Aside.of_below (hW.trans (hb.mono hW.size))⟩
    · exact ⟨_, rfl, .inr ⟨rfl, hP.back hW⟩, (Aside.of_below hW).trans ha⟩)
  have q1 := eqFull (a 5)
  have q2 := eqNone (a 5)
  clear s hq hp ht k c0 c1
  go_enter Tryz.func23, Tryz.ntmps23
  go_upto_region 1 with fail
  go_region_held3 (fun W => W.cell? ⟨q, 0, none⟩ = some (.pointer (some ⟨p, 0, none⟩)) ∧ W.cell? ⟨q, 1, none⟩ = some (.int .i64 t)) (first | with_reducible exact HS1.out | with_reducible exact HS0.out _ ha | exact HS1.out) (first | (go_at_call 49; refine (KC.out _ (by first | exact Below.refl _ _ | exact (Below.refl _ _).drew)).mono ?_; rintro ev w1 ⟨e, rfl, hPP, ha⟩))
  have hPP1 := hPP.out
  clear hPP
  rcases hPP1 with ⟨rfl, hb⟩ | ⟨rfl, hP⟩
  · skip
    have g5 := HM5.out w1 hb
    have kj := HJ.out w1 hb
    have HB := toHid hb
    clear hb ha
    unfold errV
    go_wp2_with fail
    refine kj.mono ?_
    clear kj
    rintro ev w2 (⟨rfl, hb2, hl⟩ | ⟨rfl, hP⟩)
    · have HE : Hid (Below w.heap.size w w2 ∧ m.old < (M.words : Int)) := ⟨HB.out.trans (hb2.mono HB.out.size), hl⟩
      clear hb2 hl
      go_wp2_with fail
      first | go_ret | skip
      exact .inl ⟨rfl, HE.out⟩
    · have HE : Hid (Stp a w0 h m M X w w2) := by
        obtain ⟨h', sr', n, N, D, s', _⟩ := hP
        exact ⟨h', sr', n, (Nxt.of_below h HB.out).trans N, D, s'⟩
      clear hP
      go_wp2_with fail
      first | go_ret | skip
      exact .inr ⟨rfl, HE.out⟩
  · have g5 := HG.out w1 hP
    have HE := toHid hP
    clear hP ha
    go_wp2_with fail
    first | go_ret | skip
    exact .inr ⟨rfl, HE.out⟩
end Go.Proofs.YtlkcbdinlfeoiabGreatDoor
namespace Go.Proofs.YtlkcbdinlfeoiabGreatDoor
open Go.RowKit Go.Maps

variable {h : HP} {sr : Int} {m n : MD} {w w' : World} {a : Nat → Addr} {w0 : World} {M : MO} {X : MXtra}
theorem sum_sub (g : Nat → Nat) : ∀ (l l' : List Nat), l.Nodup → (∀ x ∈ l, x ∈ l') → (l.map g).sum ≤ (l'.map g).sum
  | [], l', _, _ => by simp
  | x :: l, l', hn, hs => by
    have hx := hs x (by simp)
    have hp := List.perm_cons_erase hx
    obtain ⟨h1, h2⟩ := List.nodup_cons.1 hn
    have ih := sum_sub g l (l'.erase x) h2 (fun y hy => (List.mem_erase_of_ne (fun e => h1 (by rw [← e]; exact hy))).2 (hs y (by simp [hy])))
    have hsum := (hp.map g).sum_nat
    rw [hsum, List.map_cons, List.map_cons, List.sum_cons, List.sum_cons]
    omega
/-- The words of an object of a model. -/
def ndW (d : ND) : Nat := 1 + (if d.kind < 8 then d.raw.length else d.f.length)
def MO.total (M : MO) : Nat := (M.N.map ndW).sum
theorem HM.all (hm : HM m sr M X) : M.all.Nodup ∧ (∀ i ∈ M.all, i < M.N.length) ∧ (∀ c ∈ M.R, c.kind = 4 → c.ref ∈ M.all) ∧ ∀ i ∈ M.all, ∀ d, M.N[i]? = some d → ¬ d.kind < 8 → ∀ c ∈ d.f, c.kind = 4 → c.ref ∈ M.all := by
  obtain ⟨vs, S, φ, hr, hw⟩ := hm
  obtain ⟨e, s, hn⟩ := hr.all
  obtain ⟨k1, k2⟩ := hr.closed
  exact ⟨hn, fun i hi => hr.inN i (s i hi), k1, k2⟩
theorem words_eq (M : MO) : M.words = (M.all.map fun i => match M.N[i]? with
  | some d => ndW d
  | none => 0).sum := rfl
theorem HM.few (hm : HM m sr M X) : M.words ≤ M.total := by
  obtain ⟨h1, h2, _⟩ := hm.all
  have hs := sum_sub (fun i => match M.N[i]? with | some d => ndW d | none => 0) M.all (List.range M.N.length) h1 (fun i hi => List.mem_range.2 (h2 i hi))
  rw [words_eq]
  refine Nat.le_trans hs (Nat.le_of_eq ?_)
  unfold MO.total
  congr 1
  apply List.ext_getElem?
  intro i
  rw [List.getElem?_map, List.getElem?_map]
  by_cases hi : i < M.N.length
  · rw [List.getElem?_range hi, List.getElem?_eq_getElem hi]
    show some (match M.N[i]? with | some d => ndW d | none => 0) = _
    rw [List.getElem?_eq_getElem hi]
    rfl
  · rw [List.getElem?_eq_none (by simpa using hi), List.getElem?_eq_none (by simpa using hi)]
    rfl
/-- Where no root leads to an object nothing is come to. -/
theorem allM_none (h : ∀ c ∈ M.R, c.kind ≠ 4) : M.all = [] := by
  have hm : ∀ l : List CL, (∀ c ∈ l, c.kind ≠ 4) → meetsM [] l = [] := fun l hl => by
    induction l with
    | nil => rfl
    | cons c l ih =>
      show meetsM (meetM [] c) l = []
      have e : meetM [] c = [] := by unfold meetM; rw [if_neg (fun q => hl c (by simp) q.1)]
      rw [e]
      exact ih (fun y hy => hl y (by simp [hy]))
  unfold MO.all MO.reach
  rw [hm M.R h]
  exact reachM_end (Nat.le_refl _) _
theorem words_none (h : ∀ c ∈ M.R, c.kind ≠ 4) : M.words = 0 := by rw [words_eq, allM_none h]; rfl
/-- All that a model has is come to. -/
theorem HM.whole (hm : HM m sr M X) (h : ∀ i, i < M.N.length → i ∈ M.all) : M.words = M.total := by
  refine Nat.le_antisymm hm.few ?_
  have hs := sum_sub (fun i => match M.N[i]? with | some d => ndW d | none => 0) (List.range M.N.length) M.all List.nodup_range (fun i hi => h i (List.mem_range.1 hi))
  rw [words_eq]
  refine Nat.le_trans (Nat.le_of_eq ?_) hs
  unfold MO.total
  congr 1
  apply List.ext_getElem?
  intro i
  rw [List.getElem?_map, List.getElem?_map]
  by_cases hi : i < M.N.length
  · rw [List.getElem?_range hi, List.getElem?_eq_getElem hi]
    show _ = some (match M.N[i]? with | some d => ndW d | none => 0)
    rw [List.getElem?_eq_getElem hi]
    rfl
  · rw [List.getElem?_eq_none (by simpa using hi), List.getElem?_eq_none (by simpa using hi)]
    rfl
/-- A new heap's model. -/
def MO.new (k : Nat) : MO := ⟨List.replicate k ⟨0, 0, 0⟩, []⟩
def MXtra.new : MXtra := ⟨[], fun _ => 0, 0⟩
theorem newHM {half old card : Int} {nW nC k : Nat} (hn : numsOK half old card) (hW : (nW : Int) = 2 * half + old) (hC : (nC : Int) = (old + card - 1) / card) : HM (newM half old card nW nC k) 0 (MO.new k) MXtra.new :=
  ⟨[], _, _, HRel.new (newM_shape (n := k) hn hW hC) (newM_cards half old card nW nC k) (newM_64 half old card nW nC k) rfl, WRel.new rfl rfl⟩
end Go.Proofs.YtlkcbdinlfeoiabGreatDoor
namespace Go.Proofs.YtlkcbdinlfeoiabGreatDoor
open Go.RowKit Go.Maps

variable {h : HP} {sr : Int} {m : MD} {w w' : World} {a : Nat → Addr} {w0 : World} {M : MO} {X : MXtra}
/-- Behind collectFor: there is room, or as little is left as can be. -/
def CFor (a : Nat → Addr) (w0 : World) (h : HP) (m : MD) (M : MO) (X : MXtra) (n : Nat) (w w' : World) : Prop := ∃ h' sr' k, Nxt h h' w w' ∧ Dim m k ∧ HS a w0 h' sr' k M X w' ∧ ((n : Int) ≤ k.half - k.top ∨ (k.top = 0 ∧ k.oldTop = (M.words : Int)) ∨ k.old < (M.words : Int))
theorem HS.leftOk (s : HS a w0 h sr m M X w) : Calls Tryz.prog 79 #[.pointer (some ⟨h.q, 0, none⟩)] w fun ev w' => ev = .returned (.int .i64 (m.half - m.top)) ∧ ∃ k, w' = w.drewN k := by
  obtain ⟨_, n1, _, _, _, n2, n3, _⟩ := s.nums
  exact left_ok h.q h.p m.half m.top n2 n3 n1 w s.at'.c0 s.at'.cm.c0 s.at'.cm.c5
set_option maxHeartbeats 2000000 in
theorem hcollectFor_any (s : HS a w0 h sr m M X w) (n : Nat) : Calls Tryz.prog 80 #[.pointer (some ⟨h.q, 0, none⟩), .int .i64 (n : Int)] w fun ev w' => ev = .returned (.tuple #[]) ∧ CFor a w0 h m M X n w w' := by
  have k : ∀ W, Below w.heap.size w W → Calls Tryz.prog 49 #[.pointer (some ⟨h.p, 0, none⟩), .int .i64 h.tn] W fun ev w' => (ev = .returned (errV a 5) ∧ Below W.heap.size W w') ∨ (ev = .returned .nilIface ∧ Stp a w0 h m M X W w' ∧ Aside (ownM h.p h.bW h.bC) W w') := fun W hW => cminor_any (s.below hW)
  have c0 := s.at'.c0
  have c1 := s.at'.c1
  have HSS := toHid s
  obtain ⟨q, hq⟩ : ∃ q, q = h.q := ⟨_, rfl⟩
  obtain ⟨p, hp⟩ : ∃ p, p = h.p := ⟨_, rfl⟩
  obtain ⟨t, ht⟩ : ∃ t, t = h.tn := ⟨_, rfl⟩
  rw [← hq, ← hp] at c0
  rw [← hq, ← ht] at c1
  rw [← hp, ← ht] at k
  have HS0 : Hid (∀ w1, Aside (ownM p h.bW h.bC) w w1 → w1.cell? ⟨q, 0, none⟩ = some (.pointer (some ⟨p, 0, none⟩)) ∧ w1.cell? ⟨q, 1, none⟩ = some (.int .i64 t)) := fun w1 ha => by
    have hn : ¬ ownM p h.bW h.bC q := fun e => by
      rw [hq, hp] at e
      rcases e with e | e | e
      · exact s.at'.tq.ne s.at'.tp (by decide) e
      · exact s.at'.tq.ne s.at'.tW (by decide) e
      · exact s.at'.tq.ne s.at'.tC (by decide) e
    exact ⟨ha.cell c0 hn, ha.cell c1 hn⟩
  have HS1 := toHid (HS0.out w (Aside.refl _ _))
  have HQ := toHid hq
  rw [← hq]
  have KC : Hid (∀ W, Below w.heap.size w W → Calls Tryz.prog 49 #[.pointer (some ⟨p, 0, none⟩), .int .i64 t] W fun ev w' => ∃ e, ev = .returned e ∧ Hid ((e = errV a 5 ∧ Below w.heap.size w w') ∨ (e = .nilIface ∧ Stp a w0 h m M X w w')) ∧ Aside (ownM p h.bW h.bC) w w') := fun W hW => (k W hW).mono (by
    rintro ev w1 (⟨rfl, hb⟩ | ⟨rfl, hP, ha⟩)
    · exact ⟨_, rfl, .inl ⟨rfl, hW.trans (hb.mono hW.size)⟩, Aside.of_below (hW.trans (hb.mono hW.size))⟩
    · exact ⟨_, rfl, .inr ⟨rfl, hP.back hW⟩, (Aside.of_below hW).trans ha⟩)
  clear s hq hp ht k c0 c1
  go_enter Tryz.func80, Tryz.ntmps80
  go_upto_region 0 with fail
  go_region_held3 (fun W => W.cell? ⟨q, 0, none⟩ = some (.pointer (some ⟨p, 0, none⟩)) ∧ W.cell? ⟨q, 1, none⟩ = some (.int .i64 t)) (first | with_reducible exact HS1.out | with_reducible exact HS0.out _ ha | exact HS1.out) (first | (go_at_call 49; refine (KC.out _ (by first | exact Below.refl _ _ | exact (Below.refl _ _).drew)).mono ?_; rintro ev w1 ⟨e, rfl, hPP, ha⟩))
  have hPP1 := hPP.out
  clear hPP
  rcases hPP1 with ⟨rfl, hb⟩ | ⟨rfl, hP⟩
  · skip
    have kj := smajor_any (HSS.out.below hb)
    rw [← HQ.out] at kj
    have HB := toHid hb
    clear hb ha
    unfold errV
    go_wp2_with fail
    refine kj.mono ?_
    clear kj
    rintro ev w2 (⟨rfl, hb2, hl⟩ | ⟨rfl, hP⟩)
    · have HE : Hid (CFor a w0 h m M X n w w2) := by
        have hbb := HB.out.trans (hb2.mono HB.out.size)
        exact ⟨h, sr, m, Nxt.of_below h hbb, Dim.refl m, HSS.out.below hbb, .inr (.inr hl)⟩
      clear hb2 hl
      go_wp2_with fail
      first | go_end0 | skip
      exact ⟨rfl, HE.out⟩
    · have HE : Hid (CFor a w0 h m M X n w w2) := by
        obtain ⟨h', sr', k, N, D, s', e1, e2, _⟩ := hP
        exact ⟨h', sr', k, (Nxt.of_below h HB.out).trans N, D, s', .inr (.inl ⟨e1, e2⟩)⟩
      clear hP
      go_wp2_with fail
      first | go_end0 | skip
      exact ⟨rfl, HE.out⟩
  · obtain ⟨h1, sr1, m1, N1, D1, s1⟩ := hP
    have kl := s1.leftOk
    rw [N1.q, ← HQ.out] at kl
    have kj : ∀ k, Calls Tryz.prog 24 #[.pointer (some ⟨q, 0, none⟩)] (w1.drewN k) fun ev w' => (ev = .returned (errV a 5) ∧ Below (w1.drewN k).heap.size (w1.drewN k) w' ∧ m1.old < (M.words : Int)) ∨ (ev = .returned .nilIface ∧ StpJ a w0 h1 m1 M X (w1.drewN k) w') := fun k => by
      have h := smajor_any (s1.below (w' := w1.drewN k) (below_drewN (Below.refl _ _)))
      rw [N1.q, ← HQ.out] at h
      exact h
    have HKJ := toHid kj
    have H1 : Hid (Nxt h h1 w w1 ∧ Dim m m1 ∧ HS a w0 h1 sr1 m1 M X w1) := ⟨N1, D1, s1⟩
    clear N1 D1 s1 ha kj
    by_cases hroom : (n : Int) ≤ m1.half - m1.top
    · have t1 : ¬ m1.half - m1.top < (n : Int) := by omega
      have HR := toHid hroom
      clear hroom
      go_wp2_with fail
      refine kl.mono ?_
      clear kl
      rintro ev w2 ⟨rfl, kk, rfl⟩
      have HE : Hid (CFor a w0 h m M X n w (w1.drewN kk)) := by
        obtain ⟨N1, D1, s1⟩ := H1.out
        have b := below_drewN (q := kk) (Below.refl w1.heap.size w1)
        exact ⟨h1, sr1, m1, N1.below b, D1, s1.below b, .inl HR.out⟩
      go_wp2_with fail
      first | go_end0 | skip
      exact ⟨rfl, HE.out⟩
    · have t1 : m1.half - m1.top < (n : Int) := by omega
      clear hroom
      go_wp2_with fail
      refine kl.mono ?_
      clear kl
      rintro ev w2 ⟨rfl, kk, rfl⟩
      go_wp2_with fail
      refine (HKJ.out kk).mono ?_
      rintro ev w3 (⟨rfl, hb2, hl⟩ | ⟨rfl, hP⟩)
      · have HE : Hid (CFor a w0 h m M X n w w3) := by
          obtain ⟨N1, D1, s1⟩ := H1.out
          have b := below_drewN (q := kk) (Below.refl w1.heap.size w1)
          have bb := b.trans (hb2.mono b.size)
          exact ⟨h1, sr1, m1, N1.below bb, D1, s1.below bb, .inr (.inr hl)⟩
        clear hb2 hl
        go_wp2_with fail
        first | go_end0 | skip
        exact ⟨rfl, HE.out⟩
      · have HE : Hid (CFor a w0 h m M X n w w3) := by
          obtain ⟨N1, D1, s1⟩ := H1.out
          obtain ⟨h', sr', k, N, D, s', e1, e2, _⟩ := hP
          have b := below_drewN (q := kk) (Below.refl w1.heap.size w1)
          exact ⟨h', sr', k, (N1.below b).trans N, D1.trans D, s', .inr (.inl ⟨e1, e2⟩)⟩
        clear hP
        go_wp2_with fail
        first | go_end0 | skip
        exact ⟨rfl, HE.out⟩
/-- Words for an object: where they are, or there are none. -/
def TakePost (a : Nat → Addr) (w0 : World) (h : HP) (m : MD) (M : MO) (X : MXtra) (n : Nat) (w : World) (ev : Ending) (w' : World) : Prop :=
  (∃ h' sr' k y, Nxt h h' w w' ∧ Dim m k ∧ HM k sr' M X ∧ ev = .returned (.tuple #[.int .i64 ((if y then k.n1 else k.m1 : Nat) : Int), .nilIface]) ∧ (if y then k.top + (n : Int) ≤ k.half else k.oldTop + (n : Int) ≤ k.old) ∧ HAt h' sr' (topM k y n) w') ∨
  (ev = .returned (.tuple #[.int .i64 0, errV a 5]) ∧ Stp a w0 h m M X w w' ∧ m.old < (M.words : Int) + n)
set_option maxHeartbeats 4000000 in
theorem htake_any (s : HS a w0 h sr m M X w) (n : Nat) (hn : n ≤ 70000) : Calls Tryz.prog 47 #[.pointer (some ⟨h.q, 0, none⟩), .int .i64 (n : Int)] w (TakePost a w0 h m M X n w) := by
  have kl := s.leftOk
  have kc : ∀ k, Calls Tryz.prog 80 #[.pointer (some ⟨h.q, 0, none⟩), .int .i64 (n : Int)] (w.drewN k) fun ev w' => ev = .returned (.tuple #[]) ∧ CFor a w0 h m M X n (w.drewN k) w' := fun k => hcollectFor_any (s.below (w' := w.drewN k) (below_drewN (Below.refl _ _))) n
  have HSS := toHid s
  obtain ⟨q, hq⟩ : ∃ q, q = h.q := ⟨_, rfl⟩
  rw [← hq] at kl kc ⊢
  have HQ := toHid hq
  have HKC := toHid kc
  clear s hq kc
  go_enter Tryz.func47, Tryz.ntmps47
  go_upto_region 1 with fail
  go_cut [9] from 6 to 10 (fun v9 wx => ∃ b : Bool, v9 = .bool b ∧ Hid (b = decide (m.half - m.top < (n : Int))) ∧ ∃ kk, wx = w.drewN kk)
  case first =>
    go_wp2_with fail
    refine kl.mono ?_
    clear kl
    rintro ev w2 ⟨rfl, kk, rfl⟩
    go_wp2_with fail
    go_meet
    exact ⟨_, rfl, rfl, kk, rfl⟩
  case rest =>
  obtain ⟨b9, rfl, HB9, kk, hkk⟩ := hcut
  subst hkk
  clear kl
  go_upto_if 9 with fail
  go_cut [] from 10 to 13 (fun wx => ∃ h1 sr1 m1, Hid (Nxt h h1 w wx) ∧ Hid (Dim m m1) ∧ Hid (HS a w0 h1 sr1 m1 M X wx) ∧ Hid ((n : Int) ≤ m1.half - m1.top ∨ (m1.top = 0 ∧ m1.oldTop = (M.words : Int)) ∨ m1.old < (M.words : Int)))
  case first =>
    cases b9 with
    | false =>
      have HR : Hid ((n : Int) ≤ m.half - m.top) := by have h9 := of_decide_eq_false HB9.out.symm; show _ ≤ _; omega
      clear HB9
      go_wp2_with fail
      go_meet
      have b := below_drewN (q := kk) (Below.refl w.heap.size w)
      exact ⟨h, sr, m, Nxt.of_below h b, Dim.refl m, HSS.out.below b, .inl HR.out⟩
    | true =>
      clear HB9
      go_wp2_with fail
      refine (HKC.out kk).mono ?_
      rintro ev w3 ⟨rfl, h1, sr1, m1, N1, D1, s1, e1⟩
      have HE : Hid (Nxt h h1 w w3 ∧ Dim m m1 ∧ HS a w0 h1 sr1 m1 M X w3 ∧ ((n : Int) ≤ m1.half - m1.top ∨ (m1.top = 0 ∧ m1.oldTop = (M.words : Int)) ∨ m1.old < (M.words : Int))) :=
        ⟨(Nxt.of_below h (below_drewN (q := kk) (Below.refl w.heap.size w))).trans N1, D1, s1, e1⟩
      clear N1 D1 s1 e1
      go_wp2_with fail
      go_meet
      exact ⟨h1, sr1, m1, HE.out.1, HE.out.2.1, HE.out.2.2.1, HE.out.2.2.2⟩
  case rest =>
    obtain ⟨h1, sr1, m1, HN1, HD1, HS1, HC1⟩ := hcut
    obtain ⟨w1, hw1⟩ : ∃ w1, w1 = wc := ⟨_, rfl⟩
    subst hw1
    obtain ⟨a1, a2, a3, a4, a5, a6, a7, a8, a9, a10, a11, a12⟩ := HS1.out.nums
    have kl := HS1.out.leftOk
    rw [HN1.out.q, ← HQ.out] at kl
    have d0 := HS1.out.at'.c0
    rw [HN1.out.q, ← HQ.out] at d0
    have M1 := HS1.out.at'.cm
    have e0 := M1.c0
    have e1 := M1.c1
    have e4 := M1.c4
    have e5 := M1.c5
    have e6 := M1.c6
    have g5 := HS1.out.benv.five.c5
    have hmb := HS1.out.at'.mb
    unfold MB at hmb
    have f5 : w1.frozen? ⟨h1.p, 5, none⟩ = false := by simp [World.frozen?, hmb]
    have f6 : w1.frozen? ⟨h1.p, 6, none⟩ = false := by simp [World.frozen?, hmb]
    have HT5 : Hid (∀ k, HAt h1 sr1 { m1 with top := m1.top + (n : Int) } ((w1.drewN k).setCell ⟨h1.p, 5, none⟩ (.int .i64 (m1.top + (n : Int))))) := fun k => (HS1.out.at'.below (below_drewN (q := k) (Below.refl _ _))).setTop _
    have HT6 : Hid (∀ k, HAt h1 sr1 { m1 with oldTop := m1.oldTop + (n : Int) } ((w1.drewN k).setCell ⟨h1.p, 6, none⟩ (.int .i64 (m1.oldTop + (n : Int))))) := fun k => (HS1.out.at'.below (below_drewN (q := k) (Below.refl _ _))).setOld _
    have HX5 : Hid (∀ k, Nxt h h1 w ((w1.drewN k).setCell ⟨h1.p, 5, none⟩ (.int .i64 (m1.top + (n : Int))))) := fun k => HN1.out.trans (Nxt.set (Nxt.of_below h1 (below_drewN (q := k) (Below.refl _ _))) (.inl (.inr (.inl rfl))))
    have HX6 : Hid (∀ k, Nxt h h1 w ((w1.drewN k).setCell ⟨h1.p, 6, none⟩ (.int .i64 (m1.oldTop + (n : Int))))) := fun k => HN1.out.trans (Nxt.set (Nxt.of_below h1 (below_drewN (q := k) (Below.refl _ _))) (.inl (.inr (.inl rfl))))
    have HF : Hid (∀ k, m.old < (M.words : Int) + n → TakePost a w0 h m M X n w (.returned (.tuple #[.int .i64 0, errV a 5])) (w1.drewN k)) := fun k hf => .inr ⟨rfl, ⟨h1, sr1, m1, HN1.out.below (below_drewN (q := k) (Below.refl _ _)), HD1.out, HS1.out.below (below_drewN (q := k) (Below.refl _ _))⟩, hf⟩
    have HO := HD1.out.old
    have x1 : IntKind.i64.wrap (m1.used * m1.half) = m1.used * m1.half := by rw [IntKind.wrap_i64]; rcases a5 with e | e <;> rw [e] <;> omega
    have x2 : IntKind.i64.wrap (m1.used * m1.half + m1.top) = m1.used * m1.half + m1.top := by rw [IntKind.wrap_i64]; rcases a5 with e | e <;> rw [e] <;> omega
    have x3 : IntKind.i64.wrap (m1.top + (n : Int)) = m1.top + (n : Int) := by rw [IntKind.wrap_i64]; omega
    have x4 : IntKind.i64.wrap (m1.old - m1.oldTop) = m1.old - m1.oldTop := by rw [IntKind.wrap_i64]; omega
    have x5 : IntKind.i64.wrap (2 * m1.half) = 2 * m1.half := by rw [IntKind.wrap_i64]; omega
    have x6 : IntKind.i64.wrap (2 * m1.half + m1.oldTop) = 2 * m1.half + m1.oldTop := by rw [IntKind.wrap_i64]; omega
    have x7 : IntKind.i64.wrap (m1.oldTop + (n : Int)) = m1.oldTop + (n : Int) := by rw [IntKind.wrap_i64]; omega
    have HY : Hid (m1.used * m1.half + m1.top = (m1.n1 : Int) ∧ 2 * m1.half + m1.oldTop = (m1.m1 : Int) ∧ m1.oldTop ≤ m1.old ∧ m1.old = m.old) := ⟨a11.symm, a12.symm, a9, HO⟩
    clear a1 a2 a3 a4 a5 a6 a7 a8 a9 a10 a11 a12 M1 hmb HO
    by_cases hroom : (n : Int) ≤ m1.half - m1.top
    · have HR := toHid hroom
      go_wp2_with fail
      refine kl.mono ?_
      clear kl
      rintro ev w2 ⟨rfl, k1, rfl⟩
      go_wp2_with fail
      go_quiet (fail)
      go_wp2_with fail
      go_ret2
      refine .inl ⟨h1, sr1, m1, true, HX5.out _, HD1.out, HS1.out.hm, ?_, ?_, HT5.out _⟩
      · rw [if_pos rfl, ← HY.out.1]; rfl
      · rw [if_pos rfl]; have := HR.out; omega
    · have hr1 : ¬ (n : Int) ≤ m1.half - m1.top := hroom
      have HR := toHid hroom
      clear hroom
      by_cases hold : (n : Int) ≤ m1.old - m1.oldTop
      · have HR2 := toHid hold
        go_wp2_with fail
        refine kl.mono ?_
        clear kl
        rintro ev w2 ⟨rfl, k1, rfl⟩
        go_wp2_with fail
        go_quiet (fail)
        go_wp2_with fail
        go_quiet (fail)
        go_wp2_with fail
        go_ret2
        refine .inl ⟨h1, sr1, m1, false, ?_, HD1.out, HS1.out.hm, ?_, ?_, ?_⟩
        · exact HX6.out _
        · rw [if_neg (by decide), ← HY.out.2.1]; rfl
        · rw [if_neg (by decide)]; have := HR2.out; omega
        · exact HT6.out _
      · have HR2 := toHid hold
        go_wp2_with fail
        refine kl.mono ?_
        clear kl
        rintro ev w2 ⟨rfl, k1, rfl⟩
        go_wp2_with fail
        go_quiet (fail)
        go_wp2_with fail
        go_quiet (fail)
        go_wp2_with fail
        go_ret2
        show TakePost a w0 h m M X n w (.returned (.tuple #[.int .i64 0, errV a 5])) _
        simp only [World.drewN_drewN]
        refine HF.out _ ?_
        have := HR.out
        have := HR2.out
        obtain ⟨_, _, y3, y4⟩ := HY.out
        rcases HC1.out with hc | ⟨hc1, hc2⟩ | hc <;> omega
end Go.Proofs.YtlkcbdinlfeoiabGreatDoor
namespace Go.Proofs.YtlkcbdinlfeoiabGreatDoor
open Go.RowKit Go.Maps

variable {h : HP} {sr : Int} {m : MD} {w w' : World} {a : Nat → Addr} {w0 : World} {M : MO} {X : MXtra}
theorem lyW_splice (W : List Int) (rest : List Value) (t : Nat) (hd : Int) (fs : List Int) (h : t + 1 + fs.length ≤ W.length) : splice (((wordsV W ++ rest).toArray.setIfInBounds t (.int .u64 hd)).toList) (t + 1) (wordsV fs) = wordsV (lyW W t hd fs) ++ rest := by
  have hl : (wordsV W).length = W.length := lenV W
  have hf : (wordsV fs).length = fs.length := lenV fs
  have e1 : ((wordsV W ++ rest).toArray.setIfInBounds t (.int .u64 hd)).toList = (wordsV W).set t (.int .u64 hd) ++ rest := by
    rw [List.setIfInBounds_toArray, List.set_append_left _ _ (by omega)]
  rw [e1]
  unfold splice lyW
  have e2 : ((wordsV W).set t (.int .u64 hd) ++ rest).take (t + 1) = wordsV (W.take t) ++ [.int .u64 hd] := by
    rw [List.take_append_of_le_length (by rw [List.length_set]; omega)]
    unfold wordsV
    rw [List.take_succ_eq_append_getElem (by rw [List.length_set, List.length_map]; omega), List.getElem_set_self, List.take_set_of_le (Nat.le_refl _), List.map_take]
  have e3 : ((wordsV W).set t (.int .u64 hd) ++ rest).drop (t + 1 + (wordsV fs).length) = wordsV (W.drop (t + 1 + fs.length)) ++ rest := by
    rw [List.drop_append_of_le_length (by rw [List.length_set]; omega), hf]
    unfold wordsV
    rw [List.drop_set_of_lt (by omega), List.map_drop]
  rw [e2, e3]
  unfold wordsV
  simp
/-- A new object: where it lies, or there is no room. -/
def LayPost (a : Nat → Addr) (w0 : World) (h : HP) (m : MD) (M : MO) (X : MXtra) (kd : Int) (fs : List Int) (w : World) (ev : Ending) (w' : World) : Prop :=
  (∃ h' sr' k n t y, Nxt h h' w w' ∧ Dim m k ∧ HM k sr' M X ∧ HAt h' sr' n w' ∧ Laid k n t fs.length y ∧ MD64 n ∧ n.F t / 4 % 256 = kd ∧ fieldsP n.F t = fs ∧ ev = .returned (.tuple #[.int .u64 (((t : Int) + 1) * 4), .nilIface])) ∨
  (ev = .returned (.tuple #[.int .u64 0, errV a 5]) ∧ Stp a w0 h m M X w w' ∧ m.old < (M.words : Int) + (1 + (fs.length : Int)))
set_option maxHeartbeats 4000000 in
set_option maxRecDepth 100000 in
theorem hlay_any (s : HS a w0 h sr m M X w) (kd : Int) (fs : List Int) (g cap : Nat) (hg : Blk g 50 (wordsV fs) w) (hgo : ¬ h.own g) (k0 : 0 ≤ kd) (k1 : kd ≤ 255) (hf : fs.length ≤ 4096) (hu : U64 fs) (hfl : ¬ kd < 8 → ∀ x ∈ fs, ∀ nW, fieldB nW (fun _ => false) x = true) :
    Calls Tryz.prog 22 #[.pointer (some ⟨h.q, 0, none⟩), .int .i64 kd, .slice (some ⟨g, 0, none⟩) fs.length cap] w (LayPost a w0 h m M X kd fs w) := by
  have hsum : ((fs.length : Int) * 65536 + 0 * 16384 + 0 * 1024 + kd * 4 + 3) = hdN kd fs.length := by unfold hdN; omega
  have ko := fun w => ofHead_ok kd 0 0 (fs.length : Int) k0 k1 (by omega) (by omega) (by omega) (by omega) (by omega) (by omega) w
  rw [hsum] at ko
  have KT : Hid (∀ w1, Below w.heap.size w w1 → Calls Tryz.prog 47 #[.pointer (some ⟨h.q, 0, none⟩), .int .i64 ((1 + fs.length : Nat) : Int)] w1 (TakePost a w0 h m M X (1 + fs.length) w1)) := fun w1 hb => htake_any (s.below hb) (1 + fs.length) (by omega)
  obtain ⟨hd, hhd⟩ : ∃ hd, hd = hdN kd fs.length := ⟨_, rfl⟩
  rw [← hhd] at ko
  obtain ⟨q, hq⟩ : ∃ q, q = h.q := ⟨_, rfl⟩
  rw [← hq] at KT ⊢
  obtain ⟨nf, hnf⟩ : ∃ n, n = fs.length := ⟨_, rfl⟩
  have HSS := toHid s
  have HQ := toHid hq
  have HHD := toHid hhd
  have HG := toHid hg
  have HGO := toHid hgo
  have HFL := toHid hfl
  have HNF := toHid hnf
  have HU := toHid hu
  have HK : Hid (0 ≤ kd ∧ kd ≤ 255) := ⟨k0, k1⟩
  rw [← hnf] at ko KT hf ⊢
  have HNN : Hid ((1 : Int) + (nf : Int) = ((1 + nf : Nat) : Int)) := by show _ = _; omega
  have hfi : (nf : Int) ≤ 4096 := by omega
  have hfi0 : (0 : Int) ≤ (nf : Int) := by omega
  have ew : IntKind.i64.wrap (1 + (nf : Int)) = 1 + (nf : Int) := wrapI _ (by omega) (by omega)
  clear s hq hhd hg hgo hfl hnf hu hsum k0 k1
  go_enter Tryz.func22, Tryz.ntmps22
  go_wp2_with fail
  refine (ko w).mono ?_
  clear ko
  rintro ev w1 ⟨rfl, b1⟩
  have kt := KT.out w1 b1
  rw [← HNN.out] at kt
  have HB1 := toHid b1
  clear b1
  go_wp2_with fail
  refine kt.mono ?_
  clear kt
  rintro ev w2 (⟨h1, sr1, k, y, N, D, hm, rfl, hroom, H⟩ | ⟨rfl, hS, hl⟩)
  · obtain ⟨l1, l2, rt⟩ := hm.right
    obtain ⟨t, n, ht, hfit, hn, L, h64, hkd, hfs⟩ := laid_of (kd := kd) (fs := fs) rt y HK.out.1 HK.out.2 (by rw [← HNF.out]; exact hf) HU.out (fun hk x hx => HFL.out (by omega) x hx _) (by rw [← HNF.out]; exact hroom)
    rw [← ht]
    have hNw : Nxt h h1 w w2 := (Nxt.of_below h HB1.out).trans N
    have hgb : Blk g 50 (wordsV fs) w2 := HG.out.aside hNw.aside HGO.out
    have hgn : ¬ h1.own g := fun e => by
      rcases hNw.own g e with e | e
      · exact HGO.out e
      · have := HG.out.lt; omega
    have hlen : (topM k y (1 + nf)).W.length = k.W.length := rfl
    have c0 := H.c0
    have hq1 : h1.q = q := hNw.q.trans HQ.out.symm
    rw [hq1] at c0
    have c3 := H.cm.c3
    rw [hlen] at c3
    obtain ⟨rest, hbW⟩ := H.hW
    have hcapW : k.W.length ≤ h1.cW := H.cap
    have hwl := rt.S.1.w
    have hnum := rt.S.1.nums
    unfold numsOK at hnum
    have hW3 : k.W.length ≤ 200000 := by omega
    have fz : w2.frozen? ⟨h1.bW, t, none⟩ = false := notFrozen hbW
    have hfit' : t + 1 + nf ≤ k.W.length := by rw [HNF.out]; exact hfit
    have cx : ∃ u, w2.cell? ⟨h1.bW, t, none⟩ = some u := by
      rw [cell_of_row _ _ _ _ _ _ hbW]
      have e : (wordsV (topM k y (1 + nf)).W).length = k.W.length := lenV _
      exact ⟨_, Array.getElem?_eq_getElem (by simp only [List.size_toArray, List.length_append]; omega)⟩
    obtain ⟨u, cx⟩ := cx
    have ka := fun w => ofAddr_ok (t : Int) (by omega) (by omega) w
    have xi : (t : Int) < (k.W.length : Int) := by omega
    have xi0 : (0 : Int) ≤ (t : Int) := by omega
    have ea : IntKind.i64.wrap ((t : Int) + 1) = (t : Int) + 1 := wrapI _ (by omega) (by omega)
    have s3 : (t : Int) + 1 ≤ (k.W.length : Int) := by omega
    obtain ⟨nW, hnW⟩ : ∃ nW, nW = k.W.length := ⟨_, rfl⟩
    obtain ⟨cW, hcW⟩ : ∃ cW, cW = h1.cW := ⟨_, rfl⟩
    rw [← hnW] at c3 xi s3 hcapW hW3 hfit'
    rw [← hcW] at c3 hcapW
    have HFT : Hid (t + 1 + nf ≤ nW ∧ nW ≤ cW ∧ nW ≤ 200000) := ⟨hfit', hcapW, hW3⟩
    have HH := toHid H
    have HNW := toHid hnW
    have HLA : Hid (Nxt h h1 w w2 ∧ Dim m k ∧ HM k sr1 M X ∧ Laid k n t fs.length y ∧ MD64 n ∧ n.F t / 4 % 256 = kd ∧ fieldsP n.F t = fs ∧ n = { topM k y (1 + fs.length) with W := lyW k.W t (hdN kd fs.length) fs } ∧ t + 1 + fs.length ≤ k.W.length) := ⟨hNw, D, hm, L, h64, hkd, hfs, hn, hfit⟩
    have HGB := toHid hgb
    have HGN : Hid (g ≠ h1.bW) := fun e => hgn (.inr (.inr (.inl e)))
    have HBW := toHid hbW
    have hcases : (cW = t + 1 ∧ nf = 0) ∨ ¬ cW = t + 1 := by omega
    clear hNw D hm L h64 hkd hfs hn hfit hgb hgn hlen hq1 hcapW hwl hnum hW3 hfit' hnW hcW rt hroom ht N H hbW
    go_upto_region 8 with fail
    obtain ⟨w3, hw3⟩ : ∃ w3, w3 = w2.setCell ⟨h1.bW, t, none⟩ (.int .u64 hd) := ⟨_, rfl⟩
    rw [← hw3]
    obtain ⟨cur, hcur⟩ : ∃ cur : List Value, cur = ((wordsV (topM k y (1 + nf)).W ++ rest).toArray.setIfInBounds t (.int .u64 hd)).toList := ⟨_, rfl⟩
    have HCU := toHid hcur
    have HCUR : Hid (w3.heap[h1.bW]? = some (.cells cur.toArray 50 (0, 0))) := by
      show _ = _
      rw [hw3, HCU.out, heap_set_same HBW.out]
    have a3 : Aside (· = h1.bW) w2 w3 := by rw [hw3]; exact (Aside.refl (fun k => k = h1.bW) w2).setCell (g := h1.bW) rfl _
    have c0' : w3.cell? ⟨q, 0, none⟩ = some (.pointer (some ⟨h1.p, 0, none⟩)) := a3.cell c0 (fun e => by
      have := HH.out.tq.ne HH.out.tW (by decide)
      rw [HLA.out.1.q] at this
      exact this (by rw [← HQ.out]; exact e))
    have c3' : w3.cell? ⟨h1.p, 3, none⟩ = some (.slice (some ⟨h1.bW, 0, none⟩) nW cW) := a3.cell c3 (HH.out.tp.ne HH.out.tW (by decide))
    have G3 := toHid (HGB.out.aside a3 HGN.out)
    have HA3 := toHid a3
    have HCL : Hid (t + 1 + (wordsV fs).length ≤ cur.length) := by
      show _ ≤ _
      rw [HCU.out, lenV, ← HNF.out, Array.length_toList, Array.size_setIfInBounds, List.size_toArray, List.length_append]
      have e : (wordsV (topM k y (1 + nf)).W).length = nW := by rw [HNW.out]; exact lenV _
      have := HFT.out
      omega
    have HMIN : Hid ((wordsV fs).length = Nat.min nf (nW - (t + 1))) := by
      show _ = _
      rw [lenV, ← HNF.out]
      have := HFT.out
      exact (Nat.min_eq_left (by omega)).symm
    have HPOS : Hid (0 < (wordsV fs).length → ∃ ad, some (⟨g, 0, none⟩ : Addr) = some ad ∧ ∀ j v, (wordsV fs)[j]? = some v → w3.cell? (ad.add j) = some v) := fun _ => ⟨_, rfl, fun j v hj => by
      have e : (⟨g, 0, none⟩ : Addr).add j = ⟨g, j, none⟩ := by unfold Addr.add; split <;> simp_all
      rw [e]
      exact G3.out.cell hj⟩
    have HONE : Hid (∀ v ∈ wordsV fs, v.oneCell' = true) := fun v hv => by
      unfold wordsV at hv
      obtain ⟨x, _, rfl⟩ := List.mem_map.1 hv
      rfl
    have HFLn : Hid ((wordsV fs).length = nf) := by show _ = _; rw [lenV]; exact HNF.out.symm
    have HEND : Hid (∀ w5, (∃ w4, w4.heap[h1.bW]? = some (.cells (splice cur (t + 1) (wordsV fs)).toArray 50 (0, 0)) ∧ Apart h1.bW w3 w4 ∧ Below w4.heap.size w4 w5) → LayPost a w0 h m M X kd fs w (.returned (.tuple #[.int .u64 (((t : Int) + 1) * 4), .nilIface])) w5) := fun w5 hw => by
      obtain ⟨w4, hg4, ha4, b5⟩ := hw
      obtain ⟨e1, e2, e3, e4, e5, e6, e7, e8, e9⟩ := HLA.out
      have a4 : Aside (· = h1.bW) w2 w4 := HA3.out.trans ⟨ha4.os, ha4.tape, ha4.output, by rw [ha4.size]; exact Nat.le_refl _, fun k _ hk => ha4.block k hk⟩
      have hb4 : Blk h1.bW 50 (wordsV (lyW k.W t (hdN kd fs.length) fs)) w4 := ⟨rest, by
        rw [hg4, HCU.out, HHD.out]
        exact congrArg (fun l => some (Obj.cells (List.toArray l) 50 (0, 0))) (lyW_splice k.W rest t _ fs e9)⟩
      have H4 : HAt h1 sr1 n w4 := by
        rw [e8, ← HNF.out]
        have hx := HH.out.words (W' := lyW k.W t (hdN kd fs.length) fs) (by rw [lyW_len e9]; rfl) a4 hb4
        rw [← HNF.out] at hx
        exact hx
      refine .inl ⟨h1, sr1, k, n, t, y, (e1.trans (Nxt.below ?_ b5)), e2, e3, H4.below b5, e4, e5, e6, e7, rfl⟩
      exact ⟨rfl, rfl, fun _ hk => .inl hk, a4.mono (fun k hk => .inr (.inr (.inl hk)))⟩
    clear hw3 a3 c0 c3 fz cx hcur
    rcases hcases with ⟨hc, hz⟩ | hc
    · have hc1 : cW = t + 1 := hc
      have HP0 : Hid (∀ x : Option Addr, 0 < (wordsV fs).length → x = some ⟨h1.bW, t + 1, none⟩ ∧ ∃ ad, some (⟨g, 0, none⟩ : Addr) = some ad ∧ ∀ j v, (wordsV fs)[j]? = some v → w3.cell? (ad.add j) = some v) := fun x hx => absurd hx (by rw [HFLn.out]; omega)
      have HZ := toHid hz
      clear hz
      go_wp2_with (refine wpList_copy_apart rfl _ _ _ _ rfl 50 Tryz.underlying48 heapInfoU64 _ _ _ _ _ _ rfl rfl h1.bW (t + 1) cur 50 HCUR.out (wordsV fs) HMIN.out (HP0.out _) HCL.out HONE.out ?_; intro w4 hg4 ha4)
      refine (ka w4).mono ?_
      clear ka
      rintro ev w5 ⟨rfl, b5⟩
      have hE := toHid (HEND.out w5 ⟨w4, hg4.out, ha4.out, b5⟩)
      clear hg4 ha4 b5
      go_wp2_with fail
      first | go_ret2 | skip
      exact hE.out
    · have hc1 : ¬ cW = t + 1 := hc
      have hc2 : ¬ t + 1 = cW := fun e => hc e.symm
      have hc3 : ¬ cW - (t + 1) = 0 := by have := HFT.out; omega
      go_wp2_with (refine wpList_copy_apart rfl _ _ _ _ rfl 50 Tryz.underlying48 heapInfoU64 _ _ _ _ _ _ rfl rfl h1.bW (t + 1) cur 50 HCUR.out (wordsV fs) HMIN.out (fun h => ⟨rfl, HPOS.out h⟩) HCL.out HONE.out ?_; intro w4 hg4 ha4)
      refine (ka w4).mono ?_
      clear ka
      rintro ev w5 ⟨rfl, b5⟩
      have hE := toHid (HEND.out w5 ⟨w4, hg4.out, ha4.out, b5⟩)
      clear hg4 ha4 b5
      go_wp2_with fail
      first | go_ret2 | skip
      exact hE.out
  · have HE : Hid (LayPost a w0 h m M X kd fs w (.returned (.tuple #[.int .u64 0, errV a 5])) w2) := by
      obtain ⟨h1, sr1, k, N, D, s1⟩ := hS
      refine .inr ⟨rfl, ⟨h1, sr1, k, (Nxt.of_below h HB1.out).trans N, D, s1⟩, ?_⟩
      rw [← HNF.out]; omega
    clear hS hl
    unfold errV
    go_wp2_with fail
    first | go_ret2 | skip
    exact HE.out
end Go.Proofs.YtlkcbdinlfeoiabGreatDoor
namespace Go.Proofs.YtlkcbdinlfeoiabGreatDoor
open Go.RowKit Go.Maps

variable {h : HP} {sr : Int} {m : MD} {w w' : World} {a : Nat → Addr} {w0 : World} {M : MO} {X : MXtra}
/-- What an act that may need room answers. -/
def Done (a : Nat → Addr) (w0 : World) (h : HP) (m : MD) (M : MO) (X : MXtra) (M' : MO) (X' : MXtra) (need : Int) (w : World) (ev : Ending) (w' : World) : Prop :=
  (ev = .returned .nilIface ∧ Stp a w0 h m M' X' w w') ∨ (ev = .returned (errV a 5) ∧ Stp a w0 h m M X w w' ∧ m.old < (M.words : Int) + need)
theorem Stp.drew (t : Stp a w0 h m M X w w') (k : Nat) : Stp a w0 h m M X w (w'.drewN k) := by
  obtain ⟨h', sr', n, N, D, s⟩ := t
  have b := below_drewN (q := k) (Below.refl w'.heap.size w')
  exact ⟨h', sr', n, N.below b, D, s.below b⟩
theorem Done.back {M' : MO} {X' : MXtra} {need : Int} {w1 : World} {ev : Ending} (hb : Below w.heap.size w w1) (t : Done a w0 h m M X M' X' need w1 ev w') : Done a w0 h m M X M' X' need w ev w' := by
  rcases t with ⟨e, t⟩ | ⟨e, t, f⟩
  · exact .inl ⟨e, t.back hb⟩
  · exact .inr ⟨e, t.back hb, f⟩
def GLay (h : HP) (m : MD) (M : MO) (X : MXtra) (kd : Int) (fs : List Int) (w : World) (y : Int) (h' : HP) (sr' : Int) (n : MD) (w1 : World) : Prop := ∃ k t yy, Nxt h h' w w1 ∧ Dim m k ∧ HM k sr' M X ∧ Laid k n t fs.length yy ∧ MD64 n ∧ n.F t / 4 % 256 = kd ∧ fieldsP n.F t = fs ∧ y = ((t : Int) + 1) * 4
def BLay (a : Nat → Addr) (w0 : World) (h : HP) (m : MD) (M : MO) (X : MXtra) (fs : List Int) (w : World) (k : Nat) (w1 : World) : Prop := k = 5 ∧ Stp a w0 h m M X w w1 ∧ m.old < (M.words : Int) + (1 + (fs.length : Int))
theorem lay_made (s : HS a w0 h sr m M X w) {kd : Int} {fs : List Int} {r : Nat} (hr : r < m.R.length) {ev : Ending} {w1 : World} (t : LayPost a w0 h m M X kd fs w ev w1) : Made a h.q r (GLay h m M X kd fs w) (BLay a w0 h m M X fs w) ev w1 := by
  rcases t with ⟨h', sr', k, n, t, y, N, D, hm, H, L, h6, hk, hf, rfl⟩ | ⟨rfl, t, f⟩
  · refine .inl ⟨_, h', sr', n, rfl, H, N.q, ?_, k, t, y, N, D, hm, L, h6, hk, hf, rfl⟩
    rw [L.R, hm.roots, ← s.hm.roots]; exact hr
  · exact .inr ⟨5, rfl, rfl, t, f⟩
theorem made_done (s : HS a w0 h sr m M X w) {kd : Int} {fs : List Int} {r : Nat} {d : ND} (hk : d.kind = kd) (hf : wdN (fun i => i) d = fs) (hd : ¬ d.kind < 8 → ∀ c ∈ d.f, c.kind ≠ 4 ∧ CLok c) {ev : Ending}
    (t : (∃ y h' sr' n w1, ev = .returned .nilIface ∧ GLay h m M X kd fs w y h' sr' n w1 ∧ HAt h' sr' { n with R := n.R.set r y } w' ∧ Nxt h' h' w1 w') ∨ ∃ k, ev = .returned (errV a k) ∧ BLay a w0 h m M X fs w k w') :
    Done a w0 h m M X ⟨M.R.set r ⟨4, 0, M.N.length⟩, M.N ++ [d]⟩ X (1 + (fs.length : Int)) w ev w' := by
  rcases t with ⟨y, h', sr', n, w1, rfl, ⟨k, t, yy, N, D, hm, L, h6, ek, ef, rfl⟩, H, N'⟩ | ⟨k, rfl, rfl, t, f⟩
  · refine .inl ⟨rfl, h', sr', { n with R := n.R.set r (((t : Int) + 1) * 4) }, N.trans N', ⟨L.half.trans D.half, L.old.trans D.old, L.card.trans D.card⟩, s.next (N.trans N') H (hm.make L h6 r (ek.trans hk.symm) (ef.trans hf.symm) hd) s.kl ?_⟩
    show (M.R.set r _).length ≤ 5000
    rw [List.length_set]; exact s.rl
  · exact .inr ⟨rfl, t, f⟩
/-- A box of a variable: it is no part of the heap. -/
theorem HAt.fresh (H : HAt h sr m w) {b : Nat} (hb : w.heap.size ≤ b) : ¬ h.own b := fun e => by have := H.lt e; omega
theorem Nxt.cell {h h' : HP} (N : Nxt h h' w w') {b o : Nat} {v : Value} (hc : w.cell? ⟨b, o, none⟩ = some v) (hx : ¬ h.own b) : w'.cell? ⟨b, o, none⟩ = some v := N.aside.cell hc hx
theorem LayPost.cell {kd : Int} {fs : List Int} {ev : Ending} (t : LayPost a w0 h m M X kd fs w ev w') {b o : Nat} {v : Value} (hc : w.cell? ⟨b, o, none⟩ = some v) (hx : ¬ h.own b) : w'.cell? ⟨b, o, none⟩ = some v := by
  rcases t with ⟨h', _, _, _, _, _, N, _⟩ | ⟨_, ⟨h', _, _, N, _⟩, _⟩
  · exact N.cell hc hx
  · exact N.cell hc hx
theorem LayPost.back {kd : Int} {fs : List Int} {ev : Ending} {w1 : World} (hb : Below w.heap.size w w1) (t : LayPost a w0 h m M X kd fs w1 ev w') : LayPost a w0 h m M X kd fs w ev w' := by
  rcases t with ⟨h', sr', k, n, t, y, N, r⟩ | ⟨e, t, f⟩
  · exact .inl ⟨h', sr', k, n, t, y, (Nxt.of_below h hb).trans N, r⟩
  · exact .inr ⟨e, t.back hb, f⟩
theorem LayPost.forms {kd : Int} {fs : List Int} {ev : Ending} (t : LayPost a w0 h m M X kd fs w ev w') : ∃ y e, ev = .returned (.tuple #[.int .u64 y, e]) := by
  rcases t with ⟨h', sr', k, n, t, y, N, _, _, _, _, _, _, _, e⟩ | ⟨e, t, f⟩
  · exact ⟨_, _, e⟩
  · exact ⟨_, _, e⟩
set_option maxHeartbeats 2000000 in
set_option maxRecDepth 100000 in
theorem hmk1_any (s : HS a w0 h sr m M X w) (kd : Int) (n bk bs bh : Nat) (ck : w.cell? ⟨bk, 0, none⟩ = some (.int .i64 kd)) (cs : w.cell? ⟨bs, 0, none⟩ = some (.int .i64 (n : Int))) (ch : w.cell? ⟨bh, 0, none⟩ = some (.pointer (some ⟨h.q, 0, none⟩)))
    (ok : ¬ h.own bk) (os : ¬ h.own bs) (oh : ¬ h.own bh) (k0 : 8 ≤ kd) (k1 : kd ≤ 255) (hf : n ≤ 4096) :
    Calls Tryz.prog 21 #[.pointer (some ⟨bk, 0, none⟩), .pointer (some ⟨bs, 0, none⟩), .pointer (some ⟨bh, 0, none⟩)] w (LayPost a w0 h m M X kd (List.replicate n 2) w) := by
  have kw1 := fun w => hwithin_any kd 8 255 w
  have kw2 := fun w => hwithin_any (n : Int) 0 4096 w
  rw [show (decide (8 ≤ kd) && decide (kd ≤ 255)) = true by simp; omega] at kw1
  rw [show (decide (0 ≤ (n : Int)) && decide ((n : Int) ≤ 4096)) = true by simp; omega] at kw2
  have hbk : bk < w.heap.size := lt_of_cell ck
  have hbs : bs < w.heap.size := lt_of_cell cs
  have hbh : bh < w.heap.size := lt_of_cell ch
  have hlen : (List.replicate n (2 : Int)).length = n := List.length_replicate
  obtain ⟨q, hq⟩ : ∃ q, q = h.q := ⟨_, rfl⟩
  have HL : Hid (∀ g w1, Below w.heap.size w w1 → w1.heap[g]? = some (.cells (Array.replicate n (.int .u64 2)) 50) → w.heap.size ≤ g → Calls Tryz.prog 22 #[.pointer (some ⟨q, 0, none⟩), .int .i64 kd, .slice (some ⟨g, 0, none⟩) n n] w1 fun ev w' => LayPost a w0 h m M X kd (List.replicate n 2) w ev w' ∧ (w'.cell? ⟨bk, 0, none⟩ = some (.int .i64 kd) ∧ w'.cell? ⟨bs, 0, none⟩ = some (.int .i64 (n : Int)) ∧ w'.cell? ⟨bh, 0, none⟩ = some (.pointer (some ⟨q, 0, none⟩)))) := fun g w1 b1 hg hgs => by
    have hx := hlay_any (s.below b1) kd (List.replicate n 2) g n ⟨[], by rw [hg]; simp [wordsV]⟩ (s.at'.fresh hgs) (by omega) k1 (by omega) (fun x hx => by rw [(List.mem_replicate.1 hx).2]; decide) (fun _ x hx nW => by rw [(List.mem_replicate.1 hx).2]; rfl)
    rw [hlen, ← hq] at hx
    refine hx.mono ?_
    intro ev w' t
    have c1 := t.cell ((b1.cell (p := ⟨bk, 0, none⟩) hbk).trans ck) ok
    have c2 := t.cell ((b1.cell (p := ⟨bs, 0, none⟩) hbs).trans cs) os
    have c3 := t.cell ((b1.cell (p := ⟨bh, 0, none⟩) hbh).trans ch) oh
    rw [← hq] at c3
    exact ⟨t.back b1, c1, c2, c3⟩
  rw [← hq] at ch
  have HR : Hid (∀ qx w1, Below w.heap.size w w1 → w1.heap[qx]? = some (.cells #[.int .u64 2] 50) → Calls Tryz.prog 19 #[.slice (some ⟨qx, 0, none⟩) 1 1, .int .i64 (n : Int)] w1 fun ev w' => ∃ g, ev = .returned (.slice (some ⟨g, 0, none⟩) n n) ∧ w.heap.size ≤ g ∧ w'.heap[g]? = some (.cells (Array.replicate n (.int .u64 2)) 50) ∧ Below w.heap.size w w') := fun qx w1 b1 hq => by
    refine (repeat_any 2 n (by omega) qx 0 w1 (by rw [cell_of_row _ _ _ _ _ _ hq]; rfl)).mono ?_
    rintro ev w' ⟨g, rfl, hg, hr, hb⟩
    exact ⟨g, rfl, Nat.le_trans b1.size hg, hr, b1.trans (hb.mono b1.size)⟩
  have HA : Hid (∀ W, Below w.heap.size w W → W.cell? ⟨bk, 0, none⟩ = some (.int .i64 kd) ∧ W.cell? ⟨bs, 0, none⟩ = some (.int .i64 (n : Int)) ∧ W.cell? ⟨bh, 0, none⟩ = some (.pointer (some ⟨q, 0, none⟩))) := fun W b => ⟨(b.cell (p := ⟨bk, 0, none⟩) hbk).trans ck, (b.cell (p := ⟨bs, 0, none⟩) hbs).trans cs, (b.cell (p := ⟨bh, 0, none⟩) hbh).trans ch⟩
  have HRA := toHid (HR.out w.heap.size (w.alloc (.cells #[.int .u64 2] 50)).drew (((Below.refl _ _).alloc (Nat.le_refl _) _).drew) (heap_alloc_new _ _))
  have HAA := toHid (HA.out (w.alloc (.cells #[.int .u64 2] 50)).drew (((Below.refl _ _).alloc (Nat.le_refl _) _).drew))
  have HA0 := toHid (HA.out w.drew (Below.refl _ _).drew)
  clear s hq HR ok os oh hlen k0 k1
  go_enter Tryz.func21, Tryz.ntmps21
  go_wp2_with fail
  refine (kw1 _).mono ?_
  rintro ev w1 ⟨rfl, e1⟩
  rw [e1]
  clear e1 w1
  go_wp2_with fail
  refine (kw2 _).mono ?_
  rintro ev w1 ⟨rfl, e1⟩
  rw [e1]
  clear e1 w1
  clear kw1 kw2
  go_upto_region 3 with fail
  go_region_held3 (fun W => W.cell? ⟨bk, 0, none⟩ = some (.int .i64 kd) ∧ W.cell? ⟨bs, 0, none⟩ = some (.int .i64 (n : Int)) ∧ W.cell? ⟨bh, 0, none⟩ = some (.pointer (some ⟨q, 0, none⟩))) (first | with_reducible exact hS | with_reducible exact HA.out _ hb | with_reducible exact HA0.out | with_reducible exact HAA.out) (first | (go_at_call 19; refine HRA.out.mono ?_; rintro ev w2 ⟨g, rfl, hg, hr, hb⟩) | (go_at_call 22; refine (HL.out _ _ hb hr hg).mono ?_; rintro ev w3 ⟨hP, hS⟩; have HP3 := toHid hP; obtain ⟨y, e, rfl⟩ := hP.forms; clear hP))
  all_goals go_wp2_with fail
  all_goals go_ret2
  all_goals exact HP3.out
end Go.Proofs.YtlkcbdinlfeoiabGreatDoor
namespace Go.Proofs.YtlkcbdinlfeoiabGreatDoor
open Go.RowKit Go.Maps

variable {h : HP} {sr : Int} {m : MD} {w w' : World} {a : Nat → Addr} {w0 : World} {M : MO} {X : MXtra}
def cl0 : CL := ⟨0, 0, 0⟩
theorem wd_cl0 (φ : Nat → Nat) (n : Nat) : (List.replicate n cl0).map (wdC φ) = List.replicate n 2 := by rw [List.map_replicate]; rfl
/-- What Make makes. -/
def mkN (kd : Int) (n : Nat) : ND := ⟨kd, [], List.replicate n cl0⟩
def MO.made (M : MO) (r : Nat) (d : ND) : MO := ⟨M.R.set r ⟨4, 0, M.N.length⟩, M.N ++ [d]⟩
theorem three_new (w : World) (x y z : Obj) : ∃ w1, w1 = ((w.alloc x).alloc y).alloc z ∧ Below w.heap.size w w1 ∧ w1.heap[w.heap.size]? = some x ∧ w1.heap[w.heap.size + 1]? = some y ∧ w1.heap[w.heap.size + 1 + 1]? = some z := by
  refine ⟨_, rfl, (((Below.refl _ _).alloc (Nat.le_refl _) _).alloc (by simp) _).alloc (by simp; omega) _, ?_, ?_, ?_⟩
  · obtain ⟨n1, n2⟩ := two_new w x y
    have b2 : Below (w.heap.size + 2) ((w.alloc x).alloc y) (((w.alloc x).alloc y).alloc z) := (Below.refl _ _).alloc (by simp) _
    exact (b2.block _ (by omega)).trans n1
  · obtain ⟨n1, n2⟩ := two_new w x y
    have b2 : Below (w.heap.size + 2) ((w.alloc x).alloc y) (((w.alloc x).alloc y).alloc z) := (Below.refl _ _).alloc (by simp) _
    exact (b2.block _ (by omega)).trans n2
  · have h := heap_alloc_new ((w.alloc x).alloc y) z
    simpa using h
set_option maxHeartbeats 2000000 in
theorem hmake_any (s : HS a w0 h sr m M X w) (r n : Nat) (kd : Int) (hr : r < m.R.length) (k0 : 8 ≤ kd) (k1 : kd ≤ 255) (hn : n ≤ 4096) :
    Calls Tryz.prog 7 #[.pointer (some ⟨h.q, 0, none⟩), .int .i64 (r : Int), .int .i64 kd, .int .i64 (n : Int)] w (Done a w0 h m M X (M.made r (mkN kd n)) X (1 + (n : Int)) w) := by
  obtain ⟨w1, hw1, b1, n1, n2, n3⟩ := three_new w (.cells #[.pointer (some ⟨h.q, 0, none⟩)] 24) (.cells #[.int .i64 kd] 3) (.cells #[.int .i64 (n : Int)] 3)
  have s1 := s.below b1
  have ch : w1.cell? ⟨w.heap.size, 0, none⟩ = some (.pointer (some ⟨h.q, 0, none⟩)) := by rw [cell_of_row _ _ _ _ _ _ n1]; rfl
  have ck : w1.cell? ⟨w.heap.size + 1, 0, none⟩ = some (.int .i64 kd) := by rw [cell_of_row _ _ _ _ _ _ n2]; rfl
  have cs : w1.cell? ⟨w.heap.size + 1 + 1, 0, none⟩ = some (.int .i64 (n : Int)) := by rw [cell_of_row _ _ _ _ _ _ n3]; rfl
  have km := hmk1_any s1 kd n (w.heap.size + 1) (w.heap.size + 1 + 1) w.heap.size ck cs ch (s.at'.fresh (by omega)) (s.at'.fresh (by omega)) (s.at'.fresh (by omega)) k0 k1 hn
  have hlen : (List.replicate n (2 : Int)).length = n := List.length_replicate
  have kb := (hbecome_ok s1 21 _ enterMake1 hr (GLay h m M X kd (List.replicate n 2) w1) (BLay a w0 h m M X (List.replicate n 2) w1) (km.mono fun ev w' t => lay_made s1 hr t)).mono (fun ev w' t => Done.back b1 (made_done s1 (d := mkN kd n) rfl (by
    show (if kd < 8 then [] else (List.replicate n cl0).map _) = _
    rw [if_neg (by omega), wd_cl0]) (fun _ c hc => by
    have hc : c ∈ List.replicate n cl0 := hc
    rw [(List.mem_replicate.1 hc).2]
    exact ⟨by decide, ⟨by decide, by decide, by decide⟩⟩) t))
  rw [hlen] at kb
  rw [hw1] at kb
  have HW1 := toHid hw1
  clear hw1 b1 n1 n2 n3 s1 ch ck cs km hlen s
  go_enter Tryz.func7, Tryz.ntmps7
  go_wp2_with fail
  refine kb.mono ?_
  clear kb
  rintro ev w2 (⟨rfl, hP⟩ | ⟨rfl, hP⟩)
  · have HP' := toHid hP
    clear hP
    go_wp2_with fail
    go_ret
    exact .inl ⟨rfl, HP'.out⟩
  · have HP' := toHid hP
    clear hP
    go_wp2_with fail
    go_ret
    exact .inr ⟨rfl, HP'.out⟩
end Go.Proofs.YtlkcbdinlfeoiabGreatDoor
namespace Go.Proofs.YtlkcbdinlfeoiabGreatDoor
open Go.RowKit Go.Maps

variable {h : HP} {sr : Int} {m : MD} {w w' : World} {a : Nat → Addr} {w0 : World} {M : MO} {X : MXtra}
def MO.set (M : MO) (r : Nat) (c : CL) : MO := { M with R := M.R.set r c }
/-- The cell of a constant. -/
def clK (n : Nat) : CL := ⟨n, 0, 0⟩
end Go.Proofs.YtlkcbdinlfeoiabGreatDoor
namespace Go.Proofs.YtlkcbdinlfeoiabGreatDoor
open Go.RowKit Go.Maps

variable {h : HP} {sr : Int} {m : MD} {w w' : World} {a : Nat → Addr} {w0 : World} {M : MO} {X : MXtra}
theorem hobject_results (tmps : Array Value) (W : World) (b : Nat) (v0 v1 v2 v3 : Value) (h2 : tmps[5]?.getD undef = .pointer (some ⟨b, 0, none⟩)) (c0 : W.cell? ⟨b, 0, none⟩ = some v0) (c1 : W.cell? ⟨b, 1, none⟩ = some v1) (c2 : W.cell? ⟨b, 2, none⟩ = some v2) (c3 : W.cell? ⟨b, 3, none⟩ = some v3) :
    (results Tryz.f51 tmps).run Tryz.prog W = .ok (.tuple #[tmps[4]?.getD undef, .agg #[v0, v1, v2, v3], tmps[6]?.getD undef]) W := by
  simp [results, Tryz.results51, go_sem, h2, c0, c1, c2, c3]
set_option maxHeartbeats 2000000 in
set_option maxRecDepth 100000 in
theorem hobject_ok (q p b nW cW f : Nat) (y : Int) (hf : f < nW) (hW : nW ≤ 300000) (h0 : 0 ≤ y) (h1 : y < 18446744073709551616) (hh : headB y = true) (w : World) (c0 : w.cell? ⟨q, 0, none⟩ = some (.pointer (some ⟨p, 0, none⟩))) (c3 : w.cell? ⟨p, 3, none⟩ = some (.slice (some ⟨b, 0, none⟩) nW cW)) (cf : w.cell? ⟨b, f, none⟩ = some (.int .u64 y)) :
    Calls Tryz.prog 51 #[.pointer (some ⟨q, 0, none⟩), .int .u64 (((f : Int) + 1) * 4)] w fun ev w' => ev = .returned (.tuple #[.int .i64 (f : Int), headV y, .bool true]) ∧ Below w.heap.size w w' := by
  have ht := toAddr_ok (((f : Int) + 1) * 4) (by omega) (by omega) (by omega) (w.alloc (.cells #[.int .i64 0, .int .i64 0, .int .i64 0, .int .i64 0] 99))
  have hfx : ((f : Int) + 1) * 4 / 4 - 1 = (f : Int) := by omega
  rw [hfx] at ht
  unfold headB at hh
  have hh' := of_decide_eq_true hh
  have hI : (f : Int) < (nW : Int) := by omega
  have hI0 : (0 : Int) ≤ (f : Int) := by omega
  obtain ⟨x, hx⟩ : ∃ x, x = ((f : Int) + 1) * 4 := ⟨_, rfl⟩
  rw [← hx] at ht ⊢
  have hba : Below w.heap.size w (w.alloc (.cells #[.int .i64 0, .int .i64 0, .int .i64 0, .int .i64 0] 99)) := (Below.refl _ _).alloc (Nat.le_refl _) _
  have hna := heap_alloc_new w (.cells #[.int .i64 0, .int .i64 0, .int .i64 0, .int .i64 0] 99)
  have kh : Hid (∀ w, Calls Tryz.prog 65 #[.int .u64 y] w fun ev w' => ev = .returned (.tuple #[headV y, .nilIface]) ∧ Below w.heap.size w w') := fun w => toHead_ok y h0 h1 hh'.1 hh'.2.1 hh'.2.2 w
  have HC : Hid (∀ W, Below w.heap.size w W → W.cell? ⟨q, 0, none⟩ = some (.pointer (some ⟨p, 0, none⟩)) ∧ W.cell? ⟨p, 3, none⟩ = some (.slice (some ⟨b, 0, none⟩) nW cW) ∧ W.cell? ⟨b, f, none⟩ = some (.int .u64 y)) := fun W hW =>
    ⟨(hW.cell (p := ⟨q, 0, none⟩) (lt_of_cell c0)).trans c0, (hW.cell (p := ⟨p, 3, none⟩) (lt_of_cell c3)).trans c3, (hW.cell (p := ⟨b, f, none⟩) (lt_of_cell cf)).trans cf⟩
  clear hfx hh hx hh' h0 h1 c0 c3 cf
  unfold headV at kh ⊢
  generalize y / 4 % 256 = kd at kh ⊢
  generalize y / 1024 % 16 = ag at kh ⊢
  generalize y / 16384 % 2 = mk at kh ⊢
  generalize y / 65536 = sz at kh ⊢
  go_enter Tryz.func51, Tryz.ntmps51
  go_wp2_with fail
  generalize w.alloc (.cells #[.int .i64 0, .int .i64 0, .int .i64 0, .int .i64 0] 99) = wa at *
  obtain ⟨o, ho⟩ : ∃ o, o = w.heap.size := ⟨_, rfl⟩
  rw [← ho] at hna ⊢
  have HQL : Hid (w.heap.size ≤ o) := Nat.le_of_eq ho.symm
  clear ho
  refine ht.mono ?_
  rintro ev w1 ⟨rfl, hw1a⟩
  have hw1 := hba.trans (hw1a.mono hba.size)
  have hn1 := (hw1a.block o (lt_of_heap hna)).trans hna
  have HN1 := toHid hn1
  obtain ⟨d0, d3, df⟩ := HC.out w1 hw1
  clear ht hn1 hw1a hba hna
  go_wp2_with fail
  refine (kh.out w1).mono ?_
  rintro ev w2 ⟨rfl, hw2⟩
  clear kh
  have hn2 := (hw2.block o (lt_of_heap HN1.out)).trans HN1.out
  obtain ⟨r0, r1, r2, r3, rf⟩ := head_block hn2
  have rf0 := rf 0
  have rf1 := rf 1
  have rf2 := rf 2
  have rf3 := rf 3
  have hn3 := set4_block hn2 (.int .i64 kd) (.int .i64 ag) (.int .i64 mk) (.int .i64 sz)
  have hw3 := set4_below (hw1.trans (hw2.mono hw1.size)) HQL.out (.int .i64 kd) (.int .i64 ag) (.int .i64 mk) (.int .i64 sz)
  unfold set4 at hn3 hw3
  clear hn2 rf
  go_upto_region 5 with fail
  generalize (((w2.setCell ⟨o, 0, none⟩ (.int .i64 kd)).setCell ⟨o, 1, none⟩ (.int .i64 ag)).setCell ⟨o, 2, none⟩ (.int .i64 mk)).setCell ⟨o, 3, none⟩ (.int .i64 sz) = w3 at *
  have HN3 := toHid hn3
  obtain ⟨s0, s1, s2, s3, sf⟩ := head_block hn3
  have sf0 := sf 0
  have sf1 := sf 1
  have sf2 := sf 2
  have sf3 := sf 3
  clear r0 r1 r2 r3 rf0 rf1 rf2 rf3 hn3 sf d0 d3 df
  go_region
  all_goals go_wp2_with fail
  all_goals obtain ⟨t0, t1, t2, t3⟩ := set4_cells s0 s1 s2 s3 (.int .i64 kd) (.int .i64 ag) (.int .i64 mk) (.int .i64 sz)
  all_goals refine bodyPost_ret (hobject_results _ _ o _ _ _ _ rfl t0 t1 t2 t3) rfl ?_
  all_goals exact ⟨rfl, (set4_below hw3 HQL.out _ _ _ _).drew⟩
end Go.Proofs.YtlkcbdinlfeoiabGreatDoor
namespace Go.Proofs.YtlkcbdinlfeoiabGreatDoor
open Go.RowKit Go.Maps

variable {h : HP} {sr : Int} {m : MD} {w w' : World} {a : Nat → Addr} {w0 : World} {M : MO} {X : MXtra}
/-- The object that a root points to. -/
structure ObjAt (m : MD) (M : MO) (r : Nat) (c : CL) (f : Nat) (d : ND) : Prop where
  four : c.kind = 4
  has : M.N[c.ref]? = some d
  root : m.R[r]? = some (((f : Int) + 1) * 4)
  fits : f + 1 + szN (m.F f) ≤ m.W.length
  head : headB (m.F f) = true
  kind : m.F f / 4 % 256 = d.kind
  size : szN (m.F f) = if d.kind < 8 then d.raw.length else d.f.length
theorem HM.rootIs (hm : HM m sr M X) {r : Nat} {c : CL} (hj : M.R[r]? = some c) : (c.kind ≠ 4 ∧ ∃ x, m.R[r]? = some x ∧ 0 ≤ x ∧ x < 18446744073709551616 ∧ x % 4 ≠ 0) ∨ ∃ f d, ObjAt m M r c f d := by
  obtain ⟨vs, S, φ, hr, hw⟩ := hm
  have hc := List.mem_of_getElem? hj
  have hx : m.R[r]? = some (wdC φ c) := by rw [hr.rel.roots, List.getElem?_map, hj]; rfl
  by_cases h4 : c.kind = 4
  · right
    have hs := hr.rel.rin c hc h4
    obtain ⟨d, h1, hv, h3, h4', h5⟩ := hr.rel.has _ hs
    obtain ⟨k1, k2⟩ := hr.shape.fine _ hv
    refine ⟨φ c.ref, d, h4, h1, ?_, k2, k1, h3, ?_⟩
    · rw [hx]; unfold wdC; rw [if_pos h4]
    · have e : (fieldsP m.F (φ c.ref)).length = szN (m.F (φ c.ref)) := by unfold fieldsP; simp
      rw [← e, h4']
      unfold wdN
      split
      · rfl
      · rw [List.length_map]
  · left
    obtain ⟨_, k1, k2⟩ := hr.word (fun q => absurd q h4) (hr.ok.roots c hc)
    refine ⟨h4, _, hx, k1, k2, ?_⟩
    unfold wdC
    rw [if_neg h4]
    split <;> omega
theorem HS.wordAt (s : HS a w0 h sr m M X w) {f : Nat} (hf : f < m.W.length) : w.cell? ⟨h.bW, f, none⟩ = some (.int .u64 (m.F f)) := by
  refine s.at'.hW.cell ?_
  unfold wordsV MD.F
  rw [List.getElem?_map, List.getD_eq_getElem?_getD, List.getElem?_eq_getElem hf]
  rfl
theorem HS.wlen (s : HS a w0 h sr m M X w) : m.W.length ≤ 300000 := by obtain ⟨_, n1, _, n3, _, _, _, _, _, n9, _⟩ := s.nums; omega
theorem HS.range (s : HS a w0 h sr m M X w) {f : Nat} (hf : f < m.W.length) : 0 ≤ m.F f ∧ m.F f < 18446744073709551616 := by
  obtain ⟨l1, l2, rt⟩ := s.hm.right
  exact md_range rt.h64 f hf
theorem getD_some {r : Nat} {x : Int} {l : List Int} (h : l[r]? = some x) : l.getD r 0 = x ∧ r < l.length := ⟨by rw [List.getD_eq_getElem?_getD, h]; rfl, (List.getElem?_eq_some_iff.1 h).1⟩
theorem HS.objectOk (s : HS a w0 h sr m M X w) {r f : Nat} {c : CL} {d : ND} (o : ObjAt m M r c f d) : Calls Tryz.prog 51 #[.pointer (some ⟨h.q, 0, none⟩), .int .u64 (((f : Int) + 1) * 4)] w fun ev w' => ev = .returned (.tuple #[.int .i64 (f : Int), headV (m.F f), .bool true]) ∧ Below w.heap.size w w' := by
  have hf : f < m.W.length := by have := o.fits; omega
  obtain ⟨k0, k1⟩ := s.range hf
  exact hobject_ok h.q h.p h.bW m.W.length h.cW f (m.F f) hf s.wlen k0 k1 o.head w s.at'.c0 s.at'.cm.c3 (s.wordAt hf)
set_option maxHeartbeats 2000000 in
set_option maxRecDepth 100000 in
theorem hpointer_ok (s : HS a w0 h sr m M X w) {r f : Nat} {c : CL} {d : ND} (o : ObjAt m M r c f d) :
    Calls Tryz.prog 25 #[.pointer (some ⟨h.q, 0, none⟩), .int .i64 (r : Int)] w fun ev w' => ev = .returned (.tuple #[.int .u64 (((f : Int) + 1) * 4), .nilIface]) ∧ Below w.heap.size w w' := by
  obtain ⟨e1, hr⟩ := getD_some o.root
  have kr := s.rootOk hr
  rw [e1] at kr
  have ko := s.objectOk o
  unfold headV at ko
  obtain ⟨q, hq⟩ : ∃ q, q = h.q := ⟨_, rfl⟩
  rw [← hq] at kr ko ⊢
  obtain ⟨x, hx⟩ : ∃ x, x = ((f : Int) + 1) * 4 := ⟨_, rfl⟩
  rw [← hx] at kr ko ⊢
  generalize m.F f / 1024 % 16 = g1 at ko
  generalize m.F f / 16384 % 2 = g2 at ko
  generalize m.F f / 65536 = sz at ko
  generalize m.F f / 4 % 256 = kd at ko
  clear s o hx hq hr
  go_enter Tryz.func25, Tryz.ntmps25
  go_wp2_with fail
  refine kr.mono ?_
  clear kr
  rintro ev w1 ⟨rfl, rfl⟩
  go_wp2_with fail
  refine ko.mono ?_
  clear ko
  rintro ev w2 ⟨rfl, b2⟩
  have HB3 : Hid (Below w1.heap.size w1 (w2.alloc (.cells #[.int .i64 kd, .int .i64 g1, .int .i64 g2, .int .i64 sz] 99))) := b2.alloc b2.size _
  clear b2
  go_wp2_with fail
  go_ret2
  exact ⟨rfl, HB3.out⟩
end Go.Proofs.YtlkcbdinlfeoiabGreatDoor
namespace Go.Proofs.YtlkcbdinlfeoiabGreatDoor
open Go.RowKit Go.Maps

variable {h : HP} {sr : Int} {m : MD} {w w' : World} {a : Nat → Addr} {w0 : World} {M : MO} {X : MXtra}
def MO.putN (M : MO) (i : Nat) (d : ND) (k : Nat) (v : CL) : MO := { M with N := M.N.set i { d with f := d.f.set k v } }
theorem HAt.setWord (H : HAt h sr m w) {y : Nat} (hy : y < m.W.length) (x : Int) : HAt h sr (m.setW y x) (w.setCell ⟨h.bW, y, none⟩ (.int .u64 x)) := by
  have hs := H.hW.set (j := y) (by rw [lenV]; exact hy) (.int .u64 x)
  rw [wordsV_set] at hs
  exact H.words (by rw [List.length_set]) ((Aside.refl (fun k => k = h.bW) w).setCell (g := h.bW) rfl _) hs
set_option maxHeartbeats 1000000 in
set_option maxRecDepth 100000 in
theorem hminor_any (s : HS a w0 h sr m M X w) : Calls Tryz.prog 8 #[.pointer (some ⟨h.q, 0, none⟩)] w fun ev w' => (ev = .returned (errV a 5) ∧ Below w.heap.size w w' ∧ m.old < (M.words : Int)) ∨ (ev = .returned .nilIface ∧ Stp a w0 h m M X w w') := by
  have k := sminor_any s
  clear s
  go_enter Tryz.func8, Tryz.ntmps8
  go_wp2_with fail
  refine k.mono ?_
  clear k
  rintro ev w1 (⟨rfl, hP⟩ | ⟨rfl, hP⟩)
  · have HP' := toHid hP
    clear hP
    go_wp2_with fail
    first | go_ret | skip
    exact .inl ⟨rfl, HP'.out⟩
  · have HP' := toHid hP
    clear hP
    go_wp2_with fail
    first | go_ret | skip
    exact .inr ⟨rfl, HP'.out⟩
set_option maxHeartbeats 1000000 in
set_option maxRecDepth 100000 in
theorem hmajor_any (s : HS a w0 h sr m M X w) : Calls Tryz.prog 9 #[.pointer (some ⟨h.q, 0, none⟩)] w fun ev w' => (ev = .returned (errV a 5) ∧ Below w.heap.size w w' ∧ m.old < (M.words : Int)) ∨ (ev = .returned .nilIface ∧ StpJ a w0 h m M X w w') := by
  have k := smajor_any s
  clear s
  go_enter Tryz.func9, Tryz.ntmps9
  go_wp2_with fail
  refine k.mono ?_
  clear k
  rintro ev w1 (⟨rfl, hP⟩ | ⟨rfl, hP⟩)
  · have HP' := toHid hP
    clear hP
    go_wp2_with fail
    first | go_ret | skip
    exact .inl ⟨rfl, HP'.out⟩
  · have HP' := toHid hP
    clear hP
    go_wp2_with fail
    first | go_ret | skip
    exact .inr ⟨rfl, HP'.out⟩
end Go.Proofs.YtlkcbdinlfeoiabGreatDoor
namespace Go.Proofs.YtlkcbdinlfeoiabGreatDoor
open Go.RowKit Go.Maps

variable {h : HP} {sr : Int} {m : MD} {w w' : World} {a : Nat → Addr} {w0 : World} {M : MO} {X : MXtra}
theorem hnew_hs (a : Nat → Addr) (half old card tn : Int) (n : Nat) (w : World) (E : HEnv a w) (H : heapOK half old card tn n) :
    Calls Tryz.prog 6 #[.agg #[.int .i64 half, .int .i64 old, .int .i64 card, .int .i64 tn], .int .i64 (n : Int)] w fun ev w' => ∃ h m, ev = .returned (.tuple #[.pointer (some ⟨h.q, 0, none⟩), .nilIface]) ∧ HS a w h 0 m (MO.new n) MXtra.new w' ∧ m.half = half ∧ m.old = old ∧ m.card = card := by
  obtain ⟨hn, t0, t1, r0, r1⟩ := H
  have hn' := hn
  unfold numsOK at hn'
  have hq0 : 0 ≤ (old + card - 1) / card := Int.ediv_nonneg (by omega) (by omega)
  obtain ⟨nW, hW⟩ : ∃ nW : Nat, (nW : Int) = 2 * half + old := ⟨(2 * half + old).toNat, by omega⟩
  obtain ⟨nC, hC⟩ : ∃ nC : Nat, (nC : Int) = (old + card - 1) / card := ⟨((old + card - 1) / card).toNat, by omega⟩
  refine (hnew_ok half old card tn n nW nC hW hC ⟨hn, t0, t1, r0, r1⟩ w).mono ?_
  rintro ev w' ⟨q, p, g, rfl, k1, k2, k3, hb, I⟩
  have eW : Array.replicate nW (Value.int .u64 0) = (wordsV (List.replicate nW 0)).toArray := by unfold wordsV; simp
  have eR : Array.replicate n (Value.int .u64 2) = (wordsV (List.replicate n 2)).toArray := by unfold wordsV; simp
  have eC : Array.replicate nC (Value.bool false) = (boolsV (List.replicate nC false)).toArray := by unfold boolsV; simp
  refine ⟨⟨q, p, p + 1, p + 2, nW, nC, tn, .slice (some ⟨g, 0, none⟩) n n, .slice none 0 0, .slice none 0 0⟩, newM half old card nW nC n, rfl, ⟨⟨I.hq, ?_, ⟨[], ?_⟩, ⟨[], ?_⟩, ?_, ?_, ?_, ⟨rfl, .inl ⟨rfl, rfl⟩⟩, ⟨rfl, .inl ⟨rfl, rfl⟩⟩, ?_, ?_, ?_⟩, newHM hn hW hC, E, hb, ?_, t0, t1, ?_, ?_⟩, rfl, rfl, rfl⟩
  · unfold MB
    have h := I.hp
    show _ = some (Obj.cells #[_, _, _, .slice _ (List.replicate nW (0 : Int)).length _, _, _, _, _, _, _, .slice _ (List.replicate nC false).length _] _)
    rw [List.length_replicate, List.length_replicate]
    exact h
  · rw [List.append_nil]
    show _ = some (Obj.cells (wordsV (List.replicate nW 0)).toArray _)
    rw [← eW]; exact I.hW
  · rw [List.append_nil]
    show _ = some (Obj.cells (boolsV (List.replicate nC false)).toArray _)
    rw [← eC]; exact I.hC
  · show (List.replicate nW (0 : Int)).length ≤ nW
    simp
  · show (List.replicate nC false).length ≤ nC
    simp
  · refine ⟨some ⟨g, 0, none⟩, n, ?_, ?_, ?_, fun _ => ⟨g, rfl, [], ?_⟩⟩
    · show Value.slice _ n n = Value.slice _ (List.replicate n (2 : Int)).length n
      rw [List.length_replicate]
    · show (List.replicate n (2 : Int)).length ≤ n
      simp
    · show (wordsV (List.replicate n 2)).length = (List.replicate n (2 : Int)).length * 1
      rw [lenV]; simp
    · rw [List.append_nil]
      show _ = some (Obj.cells (wordsV (List.replicate n 2)).toArray _)
      rw [← eR]; exact I.hR
  · intro g' _ e
    cases e
  · intro g' hg e
    have e1 := isOf_row hg
    have e : g' = p + 1 := e
    omega
  · intro e
    cases e
  · intro k hk
    rcases hk with hk | hk | hk | hk | hk | hk | hk
    · have hk : k = q := hk; omega
    · have hk : k = p := hk; omega
    · have hk : k = p + 1 := hk; omega
    · have hk : k = p + 2 := hk; omega
    · have e1 := isOf_row hk; omega
    · cases hk
    · cases hk
  · show 0 ≤ 5000
    omega
  · show (List.replicate n _).length ≤ 5000
    rw [List.length_replicate]; omega
/-- A chain of objects, each of which holds the one ahead of it. -/
structure Ring (M : MO) (i : Nat) : Prop where
  r0 : M.R[0]? = some ⟨4, 0, 0⟩
  r1 : M.R[1]? = some ⟨4, 0, i - 1⟩
  rl : M.R.length = 3
  nl : M.N.length = i
  n0 : M.N[0]? = some (mkN 9 1)
  nk : ∀ k, 0 < k → k < i → M.N[k]? = some ⟨9, [], [⟨4, 0, k - 1⟩]⟩
theorem total_two {M : MO} (h : ∀ d ∈ M.N, ndW d = 2) : M.total = 2 * M.N.length := by
  unfold MO.total
  have : ∀ l : List ND, (∀ d ∈ l, ndW d = 2) → (l.map ndW).sum = 2 * l.length := fun l hl => by
    induction l with
    | nil => rfl
    | cons d l ih =>
      rw [List.map_cons, List.sum_cons, hl d (by simp), ih (fun x hx => hl x (by simp [hx])), List.length_cons]
      omega
  exact this M.N h
theorem Ring.total {i : Nat} (R : Ring M i) : M.total = 2 * i := by
  rw [total_two (fun d hd => ?_), R.nl]
  obtain ⟨k, hk⟩ := List.getElem?_of_mem hd
  have hl := (List.getElem?_eq_some_iff.1 hk).1
  rw [R.nl] at hl
  rcases Nat.eq_zero_or_pos k with rfl | h0
  · rw [R.n0] at hk; cases hk; rfl
  · rw [R.nk k h0 hl] at hk; cases hk; rfl
theorem Ring.begin : Ring (((MO.new 3).made 0 (mkN 9 1)).set 1 ⟨4, 0, 0⟩) 1 := ⟨rfl, rfl, rfl, rfl, rfl, fun k h0 h1 => by omega⟩
/-- One object more. -/
def ringM (M : MO) (i : Nat) : MO := (((M.made 2 (mkN 9 1)).putN i (mkN 9 1) 0 ⟨4, 0, i - 1⟩).set 1 ⟨4, 0, i⟩)
theorem Ring.next {i : Nat} (hi : 1 ≤ i) (R : Ring M i) : (M.made 2 (mkN 9 1)).R[2]? = some ⟨4, 0, i⟩ ∧ (M.made 2 (mkN 9 1)).N[i]? = some (mkN 9 1) ∧ (M.made 2 (mkN 9 1)).R[1]? = some ⟨4, 0, i - 1⟩ ∧ Ring (ringM M i) (i + 1) := by
  have hR : (M.made 2 (mkN 9 1)).R = M.R.set 2 ⟨4, 0, i⟩ := by show M.R.set 2 ⟨4, 0, M.N.length⟩ = _; rw [R.nl]
  have hN : (M.made 2 (mkN 9 1)).N = M.N ++ [mkN 9 1] := rfl
  have hN2 : (ringM M i).N = M.N ++ [⟨9, [], [⟨4, 0, i - 1⟩]⟩] := by
    show (M.N ++ [mkN 9 1]).set i _ = _
    rw [List.set_append_right _ _ (by rw [R.nl]; exact Nat.le_refl _), R.nl, Nat.sub_self]
    rfl
  have hR2 : (ringM M i).R = (M.R.set 2 ⟨4, 0, i⟩).set 1 ⟨4, 0, i⟩ := by show (M.made 2 (mkN 9 1)).R.set 1 _ = _; rw [hR]
  have hl := R.rl
  refine ⟨?_, ?_, ?_, ⟨?_, ?_, ?_, ?_, ?_, ?_⟩⟩
  · rw [hR, List.getElem?_set_self (by omega)]
  · rw [hN, List.getElem?_append_right (by rw [R.nl]; exact Nat.le_refl _), R.nl, Nat.sub_self]; rfl
  · rw [hR, List.getElem?_set_ne (by omega)]; exact R.r1
  · rw [hR2, List.getElem?_set_ne (by omega), List.getElem?_set_ne (by omega)]; exact R.r0
  · rw [hR2, List.getElem?_set_self (by rw [List.length_set]; omega)]; rfl
  · rw [hR2, List.length_set, List.length_set]; exact hl
  · rw [hN2, List.length_append, R.nl]; rfl
  · rw [hN2, List.getElem?_append_left (by rw [R.nl]; omega)]; exact R.n0
  · intro k h0 h1
    rw [hN2]
    by_cases hk : k < i
    · rw [List.getElem?_append_left (by rw [R.nl]; exact hk)]; exact R.nk k h0 hk
    · obtain rfl : k = i := by omega
      rw [List.getElem?_append_right (by rw [R.nl]; exact Nat.le_refl _), R.nl, Nat.sub_self]; rfl
/-- The ring is closed; one root, or none, leads there. -/
def closeM (M : MO) (n : Nat) (keep : Bool) : MO := let M1 := ((M.putN 0 (mkN 9 1) 0 ⟨4, 0, n - 1⟩).set 1 (clK 0)).set 2 (clK 0); if keep then M1 else M1.set 0 (clK 0)
theorem Ring.keeps {n : Nat} (hn : 1 ≤ n) (R : Ring M n) (hm : HM m sr (closeM M n true) X) : (closeM M n true).words = 2 * n := by
  have hN : (closeM M n true).N = M.N.set 0 ⟨9, [], [⟨4, 0, n - 1⟩]⟩ := rfl
  have hR : (closeM M n true).R = (M.R.set 1 (clK 0)).set 2 (clK 0) := rfl
  have hnl : (closeM M n true).N.length = n := by rw [hN, List.length_set]; exact R.nl
  have h0 : (closeM M n true).N[0]? = some ⟨9, [], [⟨4, 0, n - 1⟩]⟩ := by rw [hN, List.getElem?_set_self (by rw [R.nl]; omega)]
  have hk : ∀ k, 0 < k → k < n → (closeM M n true).N[k]? = some ⟨9, [], [⟨4, 0, k - 1⟩]⟩ := fun k h1 h2 => by rw [hN, List.getElem?_set_ne (by omega)]; exact R.nk k h1 h2
  obtain ⟨_, _, a3, a4⟩ := hm.all
  have i0 : 0 ∈ (closeM M n true).all := a3 ⟨4, 0, 0⟩ (by
    refine List.mem_of_getElem? (i := 0) ?_
    rw [hR, List.getElem?_set_ne (by omega), List.getElem?_set_ne (by omega)]
    exact R.r0) rfl
  have il : n - 1 ∈ (closeM M n true).all := a4 0 i0 _ h0 (by show ¬ (9 : Int) < 8; decide) ⟨4, 0, n - 1⟩ (by simp) rfl
  have ia : ∀ j, j < n → n - 1 - j ∈ (closeM M n true).all := fun j => by
    induction j with
    | zero => exact fun _ => il
    | succ j ih =>
      intro hj
      have h1 := ih (by omega)
      have h2 := a4 _ h1 _ (hk _ (by omega) (by omega)) (by show ¬ (9 : Int) < 8; decide) ⟨4, 0, n - 1 - j - 1⟩ (by simp) rfl
      exact h2
  rw [hm.whole (fun i hi => by
    rw [hnl] at hi
    have := ia (n - 1 - i) (by omega)
    rw [show n - 1 - (n - 1 - i) = i by omega] at this
    exact this), total_two (fun d hd => ?_), hnl]
  obtain ⟨k, hk'⟩ := List.getElem?_of_mem hd
  have hl := (List.getElem?_eq_some_iff.1 hk').1
  rw [hnl] at hl
  rcases Nat.eq_zero_or_pos k with rfl | hp
  · rw [h0] at hk'; cases hk'; rfl
  · rw [hk k hp hl] at hk'; cases hk'; rfl
theorem Ring.gone {n : Nat} (R : Ring M n) : (closeM M n false).words = 0 := by
  refine words_none (fun c hc => ?_)
  have hR : (closeM M n false).R = ((M.R.set 1 (clK 0)).set 2 (clK 0)).set 0 (clK 0) := rfl
  rw [hR] at hc
  obtain ⟨k, hk⟩ := List.getElem?_of_mem hc
  have hl := (List.getElem?_eq_some_iff.1 hk).1
  rw [List.length_set, List.length_set, List.length_set, R.rl] at hl
  have hl3 := R.rl
  rcases (by omega : k = 0 ∨ k = 1 ∨ k = 2) with rfl | rfl | rfl
  · rw [List.getElem?_set_self (by simp [R.rl])] at hk; cases hk; decide
  · rw [List.getElem?_set_ne (by omega), List.getElem?_set_ne (by omega), List.getElem?_set_self (by omega)] at hk; cases hk; decide
  · rw [List.getElem?_set_ne (by omega), List.getElem?_set_self (by rw [List.length_set]; omega)] at hk; cases hk; decide
end Go.Proofs.YtlkcbdinlfeoiabGreatDoor
namespace Go.Proofs.YtlkcbdinlfeoiabGreatDoor
open Go.RowKit Go.Maps

variable {h : HP} {sr : Int} {m : MD} {w w' : World} {a : Nat → Addr} {w0 : World} {M : MO} {X : MXtra}
def MXtra.weak (X : MXtra) (i : Nat) : MXtra := { X with K := X.K ++ [i] }
end Go.Proofs.YtlkcbdinlfeoiabGreatDoor
namespace Go.Proofs.YtlkcbdinlfeoiabGreatDoor
open Go.RowKit Go.Maps

variable {h : HP} {sr : Int} {m : MD} {w w' : World} {a : Nat → Addr} {w0 : World} {M : MO} {X : MXtra}
/-- Serials have grown: the row's block, or a new one. -/
theorem HAt.serially (H : HAt h sr m w) {w1 : World} {v' : Value} {x y : Int} (g : w.grownBy w1 h.vI.ownBlock) (hv : ∀ k, v'.ownBlock = some k → h.vI.ownBlock = some k ∨ w.heap.size ≤ k) (o : w1.ownsRow 0 65 2 v' (m.I.length + 1) (idsV m.I ++ [.int .u64 x, .int .i64 y])) :
    HAt { h with vI := v' } sr { m with I := m.I ++ [(x, y)] } (w1.setCell ⟨h.p, 9, none⟩ v') ∧ Nxt h { h with vI := v' } w (w1.setCell ⟨h.p, 9, none⟩ v') := by
  have hk0 : ∀ k, h.vI.ownBlock = some k → k ≠ h.q ∧ k ≠ h.p ∧ k ≠ h.bW ∧ k ≠ h.bC ∧ ¬ isOf h.vR k ∧ ¬ h.vK.ownBlock = some k := fun k hk => by
    have t := own_ty H.I hk
    exact ⟨t.ne H.tq (by decide), t.ne H.tp (by decide), t.ne H.tW (by decide), t.ne H.tC (by decide), fun e => (rowB_ty H.R e).ne t (by decide) rfl, fun e => (own_ty H.K e).ne t (by decide) rfl⟩
  have ha : Aside (fun k => h.vI.ownBlock = some k) w w1 := ⟨g.os, g.tape, g.output, g.size, fun k hk hx => g.block k hk (fun e => hx e.symm)⟩
  have hp1 := (ha.block _ H.tp.lt (fun e => (hk0 _ e).2.1 rfl)).trans H.mb
  have hq1 := (ha.block _ H.tq.lt (fun e => (hk0 _ e).1 rfl)).trans H.hq
  have ap : Aside (fun k => k = h.p) w1 (w1.setCell ⟨h.p, 9, none⟩ v') := (Aside.refl (fun k => k = h.p) w1).setCell (g := h.p) rfl _
  have lp := H.tp.lt
  have nqp := H.tq.ne H.tp (by decide)
  have nWp := H.tW.ne H.tp (by decide)
  have nCp := H.tC.ne H.tp (by decide)
  have nRp : ∀ k, isOf h.vR k → k ≠ h.p := fun k hk => (rowB_ty H.R hk).ne H.tp (by decide)
  have nKp : ∀ k, h.vK.ownBlock = some k → k ≠ h.p := fun k hk => (own_ty H.K hk).ne H.tp (by decide)
  have hIp : ∀ k, v'.ownBlock = some k → k ≠ h.p := fun k hk e => by
    rcases hv k hk with h1 | h1
    · exact (hk0 k h1).2.1 e
    · rw [e] at h1; omega
  refine ⟨⟨?_, ?_, ?_, ?_, H.cap, H.capC, ?_, ?_, ?_, H.rk, H.rb, H.kb⟩, rfl, rfl, fun k hk => ?_, ?_⟩
  · exact (ap.block _ (lt_of_heap hq1) nqp).trans hq1
  · exact heap_set_same hp1
  · exact (H.hW.aside ha (fun e => (hk0 _ e).2.2.1 rfl)).aside ap nWp
  · exact (H.hC.aside ha (fun e => (hk0 _ e).2.2.2.1 rfl)).aside ap nCp
  · exact (H.R.aside ha (fun k hk e => (hk0 k e).2.2.2.2.1 hk)).aside ap (fun k hk => nRp k hk)
  · have o1 := ownsRow_far' (w' := w1) H.K (fun k hk => ha.block k (own_lt2 H.K k hk).2 (fun e => (hk0 k e).2.2.2.2.2 hk))
    exact ownsRow_far' o1 (fun k hk => ap.block k (own_lt2 o1 k hk).2 (nKp k hk))
  · show World.ownsRow _ 0 _ 2 v' (m.I ++ [(x, y)]).length (idsV (m.I ++ [(x, y)]))
    have e : idsV (m.I ++ [(x, y)]) = idsV m.I ++ [.int .u64 x, .int .i64 y] := by simp [idsV]
    rw [e, List.length_append]
    exact ownsRow_far' o (fun k hk => ap.block k (own_lt2 o k hk).2 (hIp k hk))
  · rcases hk with hk | hk | hk | hk | hk | hk | hk
    · exact .inl (.inl hk)
    · exact .inl (.inr (.inl hk))
    · exact .inl (.inr (.inr (.inl hk)))
    · exact .inl (.inr (.inr (.inr (.inl hk))))
    · exact .inl (.inr (.inr (.inr (.inr (.inl hk)))))
    · exact .inl (.inr (.inr (.inr (.inr (.inr (.inl hk))))))
    · rcases hv k hk with h1 | h1
      · exact .inl (.inr (.inr (.inr (.inr (.inr (.inr h1))))))
      · exact .inr h1
  · exact (ha.mono (fun k hk => .inr (.inr (.inr (.inr (.inr (.inr hk))))))).join ap (fun k _ hk => .inr (.inl hk))
def MXtra.give (X : MXtra) (i : Nat) : MXtra := { X with ser := fun j => if j = i then X.next + 1 else X.ser j, next := X.next + 1 }
theorem ids_once {vs : List Nat} (S : m.Shape vs) {i j : Nat} {x y : Int × Int} (hi : m.I[i]? = some x) (hj : m.I[j]? = some y) (e : x.1 = y.1) : i = j := by
  have hI := (S.rest').2.2
  have key : ∀ {i j : Nat} {x y : Int × Int}, m.I[i]? = some x → m.I[j]? = some y → x.1 = y.1 → ¬ i < j := by
    intro i j x y hi hj e hij
    have hg := hI
    unfold idsB at hg
    rw [List.all_eq_true] at hg
    have g := hg j (List.mem_range.2 (List.getElem?_eq_some_iff.1 hj).1)
    unfold idB at g
    rw [hj] at g
    simp only [Bool.and_eq_true, decide_eq_true_eq] at g
    have h3 := g.2.2.1
    rw [List.take_add_one, hj, List.map_append, List.count_append] at h3
    have h4 : y.1 ∈ (m.I.take j).map (·.1) := by
      rw [← e]
      exact List.mem_map.2 ⟨x, List.mem_of_getElem? (i := i) (by rw [List.getElem?_take, if_pos hij]; exact hi), rfl⟩
    have h5 := List.count_pos_iff.2 h4
    have h6 : (List.map (fun x : Int × Int => x.1) (some y).toList).count y.1 = 1 := by simp
    omega
  have h1 := key hi hj e
  have h2 := key hj hi e.symm
  omega
set_option maxHeartbeats 8000000 in
set_option maxRecDepth 100000 in
theorem hserial_any (s : HS a w0 h sr m M X w) {r : Nat} {c : CL} (hj : M.R[r]? = some c) (h4 : c.kind = 4) (hb : sr < 4611686018427387904) :
    Calls Tryz.prog 10 #[.pointer (some ⟨h.q, 0, none⟩), .int .i64 (r : Int)] w fun ev w' => (X.ser c.ref ≠ 0 ∧ ev = .returned (.tuple #[.int .i64 (X.ser c.ref), .nilIface]) ∧ Stp a w0 h m M X w w') ∨ (X.ser c.ref = 0 ∧ ev = .returned (.tuple #[.int .i64 (X.next + 1), .nilIface]) ∧ Stp a w0 h m M (X.give c.ref) w w') := by
  obtain ⟨f, d, o⟩ : ∃ f d, ObjAt m M r c f d := by
    rcases s.hm.rootIs hj with ⟨q, _⟩ | q
    · exact absurd h4 q
    · exact q
  obtain ⟨x, e1, _, hm⟩ := s.hm.serial hj h4 (by omega)
  have ex : x = ((f : Int) + 1) * 4 := by have := o.root; rw [e1] at this; exact Option.some.inj this
  have kp := hpointer_ok s o
  rw [← ex] at kp
  obtain ⟨l1, l2, rt⟩ := s.hm.right
  have hIl := ids_few rt.S
  obtain ⟨hsn, hn0⟩ := s.hm.serials
  obtain ⟨_, _, aI, cI, eI⟩ := s.at'.rows
  obtain ⟨_, _, eI', _, _, fI⟩ := (RowB.of_own s.at'.I).1
  obtain ⟨q, hq⟩ : ∃ q, q = h.q := ⟨_, rfl⟩
  obtain ⟨p, hp⟩ : ∃ p, p = h.p := ⟨_, rfl⟩
  obtain ⟨nI, hn⟩ : ∃ n, n = m.I.length := ⟨_, rfl⟩
  obtain ⟨xs, hxs⟩ : ∃ xs, xs = idsV m.I := ⟨_, rfl⟩
  obtain ⟨y, hy⟩ : ∃ y, y = sr + 1 := ⟨_, rfl⟩
  rw [← hn] at eI
  rw [← hq] at kp ⊢
  have HIT : Hid (∀ (i : Nat) (z : Int × Int), m.I[i]? = some z → ∃ gI, aI = some ⟨gI, 0, none⟩ ∧ gI < w.heap.size ∧ w.cell? ⟨gI, i * 2, none⟩ = some (.int .u64 z.1) ∧ w.cell? ⟨gI, i * 2 + 1, none⟩ = some (.int .i64 z.2)) := fun i z hz => by
    obtain ⟨ao, cap, e2, _, _, f2⟩ := (RowB.of_own s.at'.I).1
    rw [eI] at e2
    cases e2
    obtain ⟨gI, rfl, hbI⟩ := f2 (by have := (List.getElem?_eq_some_iff.1 hz).1; omega)
    obtain ⟨z1, z2⟩ := z
    exact ⟨gI, rfl, hbI.lt, hbI.cell (ids_at hz).1, hbI.cell (ids_at hz).2⟩
  have HU : Hid (∀ (i : Nat) (z : Int × Int), m.I[i]? = some z → z.1 = x → X.ser c.ref ≠ 0 ∧ z.2 = X.ser c.ref) := fun i z hz e => by
    rcases hm with ⟨_, hno, _⟩ | ⟨h0, hin⟩
    · exact absurd e (hno z (List.mem_of_getElem? hz))
    · obtain ⟨k, hk⟩ := List.getElem?_of_mem hin
      obtain rfl := ids_once rt.S hz hk e
      rw [hz] at hk
      cases hk
      exact ⟨h0, rfl⟩
  have HN : Hid ((∀ (i : Nat) (z : Int × Int), m.I[i]? = some z → z.1 ≠ x) → X.ser c.ref = 0 ∧ HM { m with I := m.I ++ [(x, y)] } y M (X.give c.ref)) := fun hno => by
    rcases hm with ⟨h0, _, hm⟩ | ⟨_, hin⟩
    · rw [hy]; exact ⟨h0, hm⟩
    · obtain ⟨k, hk⟩ := List.getElem?_of_mem hin
      exact absurd rfl (hno k _ hk)
  have HC : Hid (∀ W, Below w.heap.size w W → HAt h sr m W ∧ W.cell? ⟨q, 0, none⟩ = some (.pointer (some ⟨p, 0, none⟩)) ∧ W.cell? ⟨q, 2, none⟩ = some (.int .i64 sr) ∧ W.cell? ⟨p, 9, none⟩ = some (.slice aI nI cI)) := fun W hW => by
    have H := s.at'.below hW
    have c9 := H.cm.c9
    rw [eI] at c9
    exact ⟨H, by rw [hq, hp]; exact H.c0, by rw [hq]; exact H.c2, by rw [hp]; exact c9⟩
  have HW : Hid (∀ W w8 g cap, HAt h y m W → Nxt h h w W → W.grownBy w8 (Value.slice aI nI cI).ownBlock → ((Value.slice aI nI cI).ownBlock = some g ∨ W.heap.size ≤ g) → w8.ownsRow 0 65 2 (.slice (some ⟨g, 0, none⟩) (nI + 1) cap) (nI + 1) (xs ++ [.int .u64 x, .int .i64 y]) → (∀ (i : Nat) (z : Int × Int), m.I[i]? = some z → z.1 ≠ x) → Stp a w0 h m M (X.give c.ref) w (w8.setCell ⟨p, 9, none⟩ (.slice (some ⟨g, 0, none⟩) (nI + 1) cap))) := fun W w8 g cap H hW hg hv ho hno => by
    rw [hxs, hn] at ho
    rw [← eI] at hg hv
    obtain ⟨H', N'⟩ := H.serially hg (v' := .slice (some ⟨g, 0, none⟩) (nI + 1) cap) (fun k e => by cases e; exact hv) (by rw [hn]; exact ho)
    rw [hp]
    exact ⟨_, y, { m with I := m.I ++ [(x, y)] }, hW.trans N', ⟨rfl, rfl, rfl⟩, s.next (hW.trans N') H' (HN.out hno).2 s.kl s.rl⟩
  have HS0 := toHid s
  have HQP := toHid hq
  have HPP := toHid hp
  have HXS := toHid hxs
  have HEI := toHid eI
  have HNI := toHid hn
  have HY := toHid hy
  have HSN := toHid hsn
  have hnb : nI ≤ 300000 := by omega
  have hys : IntKind.i64.wrap (sr + 1) = y := by rw [hy]; exact wrapI _ (by omega) (by omega)
  clear s o hm hj h4 hq hp hn hxs e1 ex eI rt hIl hy fI eI' hsn
  go_enter Tryz.func10, Tryz.ntmps10
  go_wp2_with fail
  refine kp.mono ?_
  clear kp
  rintro ev w2 ⟨rfl, b2⟩
  obtain ⟨_, d0, d2, d9⟩ := HC.out w2 b2
  have HB2 := toHid b2
  clear b2
  go_wp2_with fail
  go_loopg [30] (nI + 1) (fun gk v30 wr => ∃ i : Nat, gk = nI + 1 - i ∧ i ≤ nI ∧ v30 = .int .i64 (i : Int) ∧ Hid (Below w2.heap.size w2 wr) ∧ Hid (∀ (k : Nat) (z : Int × Int), k < i → m.I[k]? = some z → z.1 ≠ x))
  case atStart => exact ⟨0, rfl, Nat.zero_le _, rfl, Below.refl _ _, fun k z hk => by omega⟩
  case round =>
    obtain ⟨i, hgk, hi', rfl, hB, hNo⟩ := hrel
    have HG := toHid hgk
    have hi0 : (0 : Int) ≤ (i : Int) := by omega
    have HBr : Hid (Below w.heap.size w wr) := HB2.out.trans (hB.out.mono HB2.out.size)
    clear hgk d0 d2 d9
    by_cases hlt : i < nI
    · have hIi : (i : Int) < (nI : Int) := by omega
      obtain ⟨z, hz⟩ : ∃ z, m.I[i]? = some z := ⟨_, List.getElem?_eq_getElem (by rw [← HNI.out]; exact hlt)⟩
      obtain ⟨gI, e9, lg, r1', r2'⟩ := HIT.out i z hz
      have r1 : wr.cell? ⟨gI, i * 2, none⟩ = some (.int .u64 z.1) := (HBr.out.cell (p := ⟨gI, i * 2, none⟩) lg).trans r1'
      have r2 : wr.cell? ⟨gI, i * 2 + 1, none⟩ = some (.int .i64 z.2) := (HBr.out.cell (p := ⟨gI, i * 2 + 1, none⟩) lg).trans r2'
      obtain ⟨wa, hwa⟩ : ∃ wa, wa = wr.alloc (.cells #[.int .u64 z.1, .int .i64 z.2] 65) := ⟨_, rfl⟩
      obtain ⟨b, hbq⟩ : ∃ b, b = wr.heap.size := ⟨_, rfl⟩
      have na : wa.heap[b]? = some (.cells #[.int .u64 z.1, .int .i64 z.2] 65) := by rw [hwa, hbq]; exact heap_alloc_new _ _
      have a0 : wa.cell? ⟨b, 0, none⟩ = some (.int .u64 z.1) := by rw [cell_of_row _ _ _ _ _ _ na]; rfl
      have a1 : wa.cell? ⟨b, 1, none⟩ = some (.int .i64 z.2) := by rw [cell_of_row _ _ _ _ _ _ na]; rfl
      have HBa : Hid (Below w2.heap.size w2 wa) := by rw [hwa]; exact hB.out.alloc hB.out.size _
      have HWa := toHid hwa
      have HBq := toHid hbq
      have HZ := toHid hz
      subst e9
      clear hwa hbq na lg r1' r2' hz
      obtain ⟨z1, z2⟩ := z
      dsimp only at r1 r2 a0 a1
      go_upto_region 7 with fail
      rw [← HWa.out, ← HBq.out]
      clear r1 r2
      by_cases he : z1 = x
      · subst he
        obtain ⟨k1, k2⟩ := HU.out i _ HZ.out rfl
        have k2 : z2 = X.ser c.ref := k2
        have HE : Hid (Stp a w0 h m M X w wa) := HS0.out.same (HB2.out.trans (HBa.out.mono HB2.out.size))
        have HK : Hid (X.ser c.ref ≠ 0 ∧ z2 = X.ser c.ref) := ⟨k1, k2⟩
        clear k1 k2
        go_wp2_with fail
        go_ret2
        exact .inl ⟨HK.out.1, by rw [← HK.out.2]; rfl, HE.out⟩
      · have he2 : (z1 == x) = false := by simp [he]
        have HNo2 : Hid (∀ (k : Nat) (z : Int × Int), k < i + 1 → m.I[k]? = some z → z.1 ≠ x) := fun k z hk hz => by
          by_cases hki : k < i
          · exact hNo.out k z hki hz
          · obtain rfl : k = i := by omega
            rw [HZ.out] at hz
            cases hz
            exact he
        go_wp2_with fail
        go_roundg (nI + 1 - (i + 1))
        case measure => have := HG.out; omega
        case rel => exact ⟨i + 1, rfl, by omega, by go_num, HBa, HNo2⟩
    · have hIi : ¬ (i : Int) < (nI : Int) := by omega
      obtain rfl : i = nI := by omega
      have HNO : Hid (∀ (k : Nat) (z : Int × Int), m.I[k]? = some z → z.1 ≠ x) := fun k z hz => hNo.out k z (by rw [HNI.out]; exact (List.getElem?_eq_some_iff.1 hz).1) hz
      obtain ⟨Hr, d0, d2, d9⟩ := HC.out wr HBr.out
      have HHr := toHid Hr
      have fq : wr.frozen? ⟨q, 2, none⟩ = false := by rw [HQP.out]; simp [World.frozen?, Hr.hq]
      clear Hr hNo
      go_upto_region 11 with fail
      obtain ⟨w5, hw5⟩ : ∃ w5, w5 = wr.setCell ⟨q, 2, none⟩ (.int .i64 y) := ⟨_, rfl⟩
      rw [← hw5]
      have H5 : HAt h y m w5 := by rw [hw5, HQP.out]; exact HHr.out.setSerial y
      have N5 : Nxt h h w w5 := by rw [hw5]; exact (Nxt.of_below h HBr.out).set (.inl (.inl HQP.out))
      have HH5 := toHid H5
      have HN5 := toHid N5
      have d0 : w5.cell? ⟨q, 0, none⟩ = some (.pointer (some ⟨p, 0, none⟩)) := by rw [HQP.out, HPP.out]; exact H5.c0
      have d2 : w5.cell? ⟨q, 2, none⟩ = some (.int .i64 y) := by rw [HQP.out]; exact H5.c2
      have d9 : w5.cell? ⟨p, 9, none⟩ = some (.slice aI i cI) := by rw [HPP.out, ← HEI.out]; exact H5.cm.c9
      have HOI : Hid (w5.ownsRow 0 65 2 (.slice aI i cI) i xs) := by have h5 := H5.I; rw [HEI.out, ← HNI.out, ← HXS.out] at h5; exact h5
      have d0d : w5.drew.cell? ⟨q, 0, none⟩ = some (.pointer (some ⟨p, 0, none⟩)) ∧ w5.drew.cell? ⟨q, 2, none⟩ = some (.int .i64 y) := ⟨d0, d2⟩
      have lq : q < w5.heap.size := lt_of_cell d0
      have lp : p < w5.heap.size := lt_of_cell d9
      have keepA : ∀ {ob : Obj}, ((w5.alloc ob).drew).cell? ⟨q, 0, none⟩ = some (.pointer (some ⟨p, 0, none⟩)) ∧ ((w5.alloc ob).drew).cell? ⟨q, 2, none⟩ = some (.int .i64 y) := fun {ob} => ⟨((((Below.refl w5.heap.size w5).alloc (Nat.le_refl _) ob).drew).cell (p := ⟨q, 0, none⟩) lq).trans d0, ((((Below.refl w5.heap.size w5).alloc (Nat.le_refl _) ob).drew).cell (p := ⟨q, 2, none⟩) lq).trans d2⟩
      have d9a : ((w5.alloc (.cells #[.int .u64 x, .int .i64 y] 65)).drew).cell? ⟨p, 9, none⟩ = some (.slice aI i cI) := ((((Below.refl w5.heap.size w5).alloc (Nat.le_refl _) _).drew).cell (p := ⟨p, 9, none⟩) lp).trans d9
      have HFin : Hid (∀ {ob : Obj} {g cap : Nat} {wA : World}, Below w5.heap.size w5 ((w5.alloc ob).drew) → wA.ownsRow 0 65 2 (.slice (some ⟨g, 0, none⟩) (i + 1) cap) (i + 1) (xs ++ [.int .u64 x, .int .i64 y]) → ((w5.alloc ob).drew).grownBy wA (Value.slice aI i cI).ownBlock → ((Value.slice aI i cI).ownBlock = some g ∨ g = ((w5.alloc ob).drew).heap.size) →
          wA.cell? ⟨p, 9, none⟩ = some (.slice aI i cI) ∧ wA.frozen? ⟨p, 9, none⟩ = false ∧ (wA.cell? ⟨q, 0, none⟩ = some (.pointer (some ⟨p, 0, none⟩)) ∧ wA.cell? ⟨q, 2, none⟩ = some (.int .i64 y)) ∧ Stp a w0 h m M (X.give c.ref) w (wA.setCell ⟨p, 9, none⟩ (.slice (some ⟨g, 0, none⟩) (i + 1) cap)) ∧ ((wA.setCell ⟨p, 9, none⟩ (.slice (some ⟨g, 0, none⟩) (i + 1) cap)).cell? ⟨q, 0, none⟩ = some (.pointer (some ⟨p, 0, none⟩)) ∧ (wA.setCell ⟨p, 9, none⟩ (.slice (some ⟨g, 0, none⟩) (i + 1) cap)).cell? ⟨q, 2, none⟩ = some (.int .i64 y))) := fun {ob g cap wA} hb ho hg hv => by
        have H6 := HH5.out.below hb
        have n1 : (Value.slice aI i cI).ownBlock ≠ some p := fun e => by rw [← HEI.out] at e; exact (own_ty H6.I e).ne H6.tp (by decide) HPP.out
        have n2 : (Value.slice aI i cI).ownBlock ≠ some q := fun e => by rw [← HEI.out] at e; exact (own_ty H6.I e).ne H6.tq (by decide) HQP.out
        have hmb := H6.mb
        unfold MB at hmb
        rw [HEI.out, ← HPP.out] at hmb
        have hbA := (hg.block p (lt_of_heap hmb) (fun e => n1 e.symm)).trans hmb
        have hq6 := H6.hq
        rw [← HQP.out, ← HPP.out] at hq6
        have hqA := (hg.block q (lt_of_heap hq6) (fun e => n2 e.symm)).trans hq6
        have nqp : q ≠ p := by rw [HQP.out, HPP.out]; exact H6.tq.ne H6.tp (by decide)
        have cq0 : wA.cell? ⟨q, 0, none⟩ = some (.pointer (some ⟨p, 0, none⟩)) := by rw [cell_of_row _ _ _ _ _ _ hqA]; rfl
        have cq2 : wA.cell? ⟨q, 2, none⟩ = some (.int .i64 y) := by rw [cell_of_row _ _ _ _ _ _ hqA]; rfl
        exact ⟨by rw [cell_of_row _ _ _ _ _ _ hbA]; rfl, by simp [World.frozen?, hbA], ⟨cq0, cq2⟩, HW.out _ wA g cap H6 (HN5.out.below hb) hg (hv.imp_right (fun e => Nat.le_of_eq e.symm)) ho HNO.out, (World.cell?_of_block (a := ⟨q, 0, none⟩) (heap_set _ _ _ _ _ nqp)).trans cq0, (World.cell?_of_block (a := ⟨q, 2, none⟩) (heap_set _ _ _ _ _ nqp)).trans cq2⟩
      clear H5 N5 hw5 fq
      go_cut [] from 50 to 74 (fun wx => Hid (Stp a w0 h m M (X.give c.ref) w wx) ∧ wx.cell? ⟨q, 2, none⟩ = some (.int .i64 y))
      case first =>
        obtain ⟨i0, hi0, hz0, hz1, hz2⟩ := infoIDm
        refine wp_region_held_drew (S := (fun W => W.cell? ⟨q, 0, none⟩ = some (.pointer (some ⟨p, 0, none⟩)) ∧ W.cell? ⟨q, 2, none⟩ = some (.int .i64 y))) (by kernel_rfl) d0d (fun hHeld => ?_)
        refine wpAnyH_take (i := 0) (oi := { dst := some 50, op := _, type := _, pos := _, after := _, guard := _ }) (v := ?v0) rfl (by kernel_rfl) (by kernel_rfl) (by kernel_rfl) (fun _ _ _ h => h) (Or.inl ⟨by rfl, ?y0⟩) hHeld ?r0
        case y0 => (intro wz hSw; (try dsimp only at hSw); go_simp; try with_reducible rfl)
        case r0 =>
        try simp only [Act.put, List.setIfInBounds_toArray, List.set_cons_zero, List.set_cons_succ]
        refine wpAnyH_take (i := 1) (oi := { dst := some 51, op := _, type := _, pos := _, after := _, guard := _ }) (v := ?v1) rfl (by kernel_rfl) (by kernel_rfl) (by kernel_rfl) (fun _ _ _ h => h) (Or.inl ⟨by rfl, ?y1⟩) hHeld ?r1
        case y1 => (intro wz hSw; (try dsimp only at hSw); go_simp; try with_reducible rfl)
        case r1 =>
        try simp only [Act.put, List.setIfInBounds_toArray, List.set_cons_zero, List.set_cons_succ]
        refine wpAnyH_take (i := 2) (oi := { dst := some 52, op := _, type := _, pos := _, after := _, guard := _ }) (v := ?v2) rfl (by kernel_rfl) (by kernel_rfl) (by kernel_rfl) (fun _ _ _ h => h) (Or.inl ⟨by rfl, ?y2⟩) hHeld ?r2
        case y2 => (intro wz hSw; (try dsimp only at hSw); go_simp; try with_reducible rfl)
        case r2 =>
        try simp only [Act.put, List.setIfInBounds_toArray, List.set_cons_zero, List.set_cons_succ]
        refine wpAnyH_take (i := 3) (oi := { dst := some 53, op := _, type := _, pos := _, after := _, guard := _ }) (v := ?v3) rfl (by kernel_rfl) (by kernel_rfl) (by kernel_rfl) (fun _ _ _ h => h) (Or.inl ⟨by rfl, ?y3⟩) hHeld ?r3
        case y3 => (intro wz hSw; (try dsimp only at hSw); go_simp; try with_reducible rfl)
        case r3 =>
        try simp only [Act.put, List.setIfInBounds_toArray, List.set_cons_zero, List.set_cons_succ]
        refine wpAnyH_take (i := 4) (oi := { dst := some 54, op := _, type := _, pos := _, after := _, guard := _ }) (v := ?v4) rfl (by kernel_rfl) (by kernel_rfl) (by kernel_rfl) (fun _ _ _ h => h) (Or.inl ⟨by rfl, ?y4⟩) hHeld ?r4
        case y4 => (intro wz hSw; (try dsimp only at hSw); go_simp; try with_reducible rfl)
        case r4 =>
        try simp only [Act.put, List.setIfInBounds_toArray, List.set_cons_zero, List.set_cons_succ]
        refine wpAnyH_take (i := 5) (oi := { dst := some 55, op := _, type := _, pos := _, after := _, guard := _ }) (v := ?v5) rfl (by kernel_rfl) (by kernel_rfl) (by kernel_rfl) (fun _ _ _ h => h) (Or.inl ⟨by rfl, ?y5⟩) hHeld ?r5
        case y5 => (intro wz hSw; (try dsimp only at hSw); go_simp; try with_reducible rfl)
        case r5 =>
        try simp only [Act.put, List.setIfInBounds_toArray, List.set_cons_zero, List.set_cons_succ]
        refine wpAnyH_take (i := 6) (oi := { dst := some 56, op := _, type := _, pos := _, after := _, guard := _ }) (v := ?v6) rfl (by kernel_rfl) (by kernel_rfl) (by kernel_rfl) (fun _ _ _ h => h) (Or.inl ⟨by rfl, ?y6⟩) hHeld ?r6
        case y6 => (intro wz hSw; (try dsimp only at hSw); go_simp; try with_reducible rfl)
        case r6 =>
        try simp only [Act.put, List.setIfInBounds_toArray, List.set_cons_zero, List.set_cons_succ]
        refine wpAnyH_take (i := 7) (oi := { dst := some 57, op := _, type := _, pos := _, after := _, guard := _ }) (v := ?v7) rfl (by kernel_rfl) (by kernel_rfl) (by kernel_rfl) (fun _ _ _ h => h) (Or.inl ⟨by rfl, ?y7⟩) hHeld ?r7
        case y7 => (intro wz hSw; (try dsimp only at hSw); go_simp; try with_reducible rfl)
        case r7 =>
        try simp only [Act.put, List.setIfInBounds_toArray, List.set_cons_zero, List.set_cons_succ]
        refine wpAnyH_take (i := 8) (oi := { dst := some 58, op := _, type := _, pos := _, after := _, guard := _ }) (v := ?v8) rfl (by kernel_rfl) (by kernel_rfl) (by kernel_rfl) (fun _ _ _ h => h) (Or.inl ⟨by rfl, ?y8⟩) hHeld ?r8
        case y8 => (intro wz hSw; (try dsimp only at hSw); go_simp; try with_reducible rfl)
        case r8 =>
        try simp only [Act.put, List.setIfInBounds_toArray, List.set_cons_zero, List.set_cons_succ]
        refine wpAnyH_take (i := 9) (oi := { dst := some 59, op := _, type := _, pos := _, after := _, guard := _ }) (v := ?v9) rfl (by kernel_rfl) (by kernel_rfl) (by kernel_rfl) (fun _ _ _ h => h) (Or.inl ⟨by rfl, ?y9⟩) hHeld ?r9
        case y9 => (intro wz hSw; (try dsimp only at hSw); go_simp; try with_reducible rfl)
        case r9 =>
        try simp only [Act.put, List.setIfInBounds_toArray, List.set_cons_zero, List.set_cons_succ]
        refine wpAnyH_take (i := 10) (oi := { dst := some 60, op := _, type := _, pos := _, after := _, guard := _ }) (v := ?v10) rfl (by kernel_rfl) (by kernel_rfl) (by kernel_rfl) (fun _ _ _ h => h) (Or.inl ⟨by rfl, ?y10⟩) hHeld ?r10
        case y10 => (intro wz hSw; (try dsimp only at hSw); go_simp; try with_reducible rfl)
        case r10 =>
        try simp only [Act.put, List.setIfInBounds_toArray, List.set_cons_zero, List.set_cons_succ]
        refine wpAnyH_take (i := 11) (oi := { dst := some 61, op := _, type := _, pos := _, after := _, guard := _ }) (v := ?v11) rfl (by kernel_rfl) (by kernel_rfl) (by kernel_rfl) (fun _ _ _ h => h) (Or.inl ⟨by rfl, ?y11⟩) hHeld ?r11
        case y11 => (intro wz hSw; (try dsimp only at hSw); go_simp; try with_reducible rfl)
        case r11 =>
        try simp only [Act.put, List.setIfInBounds_toArray, List.set_cons_zero, List.set_cons_succ]
        refine wpAnyH_take (i := 13) (oi := { dst := some 63, op := _, type := _, pos := _, after := _, guard := _ }) (v := ?v12) rfl (by kernel_rfl) (by kernel_rfl) (by kernel_rfl) (fun _ _ _ h => h) (Or.inl ⟨by rfl, ?y12⟩) hHeld ?r12
        case y12 => (intro wz hSw; (try dsimp only at hSw); go_simp; try with_reducible rfl)
        case r12 =>
        try simp only [Act.put, List.setIfInBounds_toArray, List.set_cons_zero, List.set_cons_succ]
        refine wpAnyH_take (i := 14) (oi := { dst := some 64, op := _, type := _, pos := _, after := _, guard := _ }) (v := ?v13) rfl (by kernel_rfl) (by kernel_rfl) (by kernel_rfl) (fun _ _ _ h => h) (Or.inl ⟨by rfl, ?y13⟩) hHeld ?r13
        case y13 => (intro wz hSw; (try dsimp only at hSw); go_simp; try with_reducible rfl)
        case r13 =>
        try simp only [Act.put, List.setIfInBounds_toArray, List.set_cons_zero, List.set_cons_succ]
        refine wpAnyH_take (i := 15) (oi := { dst := some 65, op := _, type := _, pos := _, after := _, guard := _ }) (v := ?v14) rfl (by kernel_rfl) (by kernel_rfl) (by kernel_rfl) (fun _ _ _ h => h) (Or.inl ⟨by rfl, ?y14⟩) hHeld ?r14
        case y14 => (intro wz hSw; (try dsimp only at hSw); go_simp; try with_reducible rfl)
        case r14 =>
        try simp only [Act.put, List.setIfInBounds_toArray, List.set_cons_zero, List.set_cons_succ]
        refine wpAnyH_take (i := 16) (oi := { dst := some 66, op := _, type := _, pos := _, after := _, guard := _ }) (v := ?v15) rfl (by kernel_rfl) (by kernel_rfl) (by kernel_rfl) (fun _ _ _ h => h) (Or.inl ⟨by rfl, ?y15⟩) hHeld ?r15
        case y15 => (intro wz hSw; (try dsimp only at hSw); go_simp; try with_reducible rfl)
        case r15 =>
        try simp only [Act.put, List.setIfInBounds_toArray, List.set_cons_zero, List.set_cons_succ]
        refine wpAnyH_take (i := 17) (oi := { dst := some 67, op := _, type := _, pos := _, after := _, guard := _ }) (v := ?v16) rfl (by kernel_rfl) (by kernel_rfl) (by kernel_rfl) (fun _ _ _ h => h) (Or.inl ⟨by rfl, ?y16⟩) hHeld ?r16
        case y16 => (intro wz hSw; (try dsimp only at hSw); go_simp; try with_reducible rfl)
        case r16 =>
        try simp only [Act.put, List.setIfInBounds_toArray, List.set_cons_zero, List.set_cons_succ]
        refine wpAnyH_take (i := 18) (oi := { dst := some 68, op := _, type := _, pos := _, after := _, guard := _ }) (v := ?v17) rfl (by kernel_rfl) (by kernel_rfl) (by kernel_rfl) (fun _ _ _ h => h) (Or.inl ⟨by rfl, ?y17⟩) hHeld ?r17
        case y17 => (intro wz hSw; (try dsimp only at hSw); go_simp; try with_reducible rfl)
        case r17 =>
        try simp only [Act.put, List.setIfInBounds_toArray, List.set_cons_zero, List.set_cons_succ]
        refine wpAnyH_take (i := 19) (oi := { dst := some 69, op := _, type := _, pos := _, after := _, guard := _ }) (v := ?v18) rfl (by kernel_rfl) (by kernel_rfl) (by kernel_rfl) (fun _ _ _ h => h) (Or.inl ⟨by rfl, ?y18⟩) hHeld ?r18
        case y18 => (intro wz hSw; (try dsimp only at hSw); go_simp; try with_reducible rfl)
        case r18 =>
        try simp only [Act.put, List.setIfInBounds_toArray, List.set_cons_zero, List.set_cons_succ]
        refine wpAnyH_ready (rs := [12, 20]) (by kernel_rfl) (by simp) ?_
        refine AllReadyH.cons (o := { dst := some 62, op := _, type := _, pos := _, after := _, guard := _ }) rfl (fun K hK => ?_) (AllReadyH.cons (o := { dst := some 70, op := _, type := _, pos := _, after := _, guard := _ }) rfl (fun K hK => ?_) AllReadyH.nil)
        · skip
          go_simp
          refine hK.out _ _ (hHeld) (fun hHeld => ?_)
          clear hK K
          try simp only [Act.put, List.setIfInBounds_toArray, List.set_cons_zero, List.set_cons_succ]
          refine wpAnyH_ready (rs := [20]) (by kernel_rfl) (by simp) ?_
          refine AllReadyH.cons (o := { dst := some 70, op := _, type := _, pos := _, after := _, guard := _ }) rfl (fun K hK => ?_) AllReadyH.nil
          go_simp
          refine hK.out _ _ (keepA) (fun hHeld => ?_)
          clear hK K
          try simp only [Act.put, List.setIfInBounds_toArray, List.set_cons_zero, List.set_cons_succ]
          refine wpAnyH_ready (rs := [21]) (by kernel_rfl) (by simp) ?_
          refine AllReadyH.cons (o := { dst := some 71, op := _, type := _, pos := _, after := _, guard := _ }) rfl (fun K hK => ?_) AllReadyH.nil
          refine step_append_lies _ (by rfl) _ _ _ (by rfl) 0 65 i0 (.agg #[.int .u64 0, .int .i64 0]) 2 16 Tryz.underlying51 hi0 hz0 hz1 hz2 rfl (by decide) (.slice aI i cI) i xs rfl (ownsRow_far' HOI.out (fun g hg => heap_alloc_old _ _ _ (own_lt2 HOI.out g hg).2)) ⟨w5.heap.size, 0, none⟩ 1 1 [.int .u64 x, .int .i64 y] rfl rfl (World.news_of_block (cs := #[.int .u64 x, .int .i64 y]) (t := 65) (heap_alloc_new _ _)) (fun u hu => by simp at hu; rcases hu with rfl | rfl <;> rfl) (by decide) (by unfold maxLen; omega) (by omega) (by simp) _ rfl ?_
          intro g' cap' wA hownA hgrowA hatA hltA
          obtain ⟨cA, fA, c0A, sA, tA⟩ := HFin.out (((Below.refl _ _).alloc (Nat.le_refl _) _).drew) hownA hgrowA hatA
          have HSA := toHid sA
          have HTA := toHid tA
          clear hownA hgrowA hatA hltA sA tA
          refine hK.out _ _ (c0A) (fun hHeld => ?_)
          clear hK K
          try simp only [Act.put, List.setIfInBounds_toArray, List.set_cons_zero, List.set_cons_succ]
          refine wpAnyH_take (i := 22) (oi := { dst := some 72, op := _, type := _, pos := _, after := _, guard := _ }) (v := ?v19) rfl (by kernel_rfl) (by kernel_rfl) (by kernel_rfl) (fun _ _ _ h => h) (Or.inl ⟨by rfl, ?y19⟩) hHeld ?r19
          case y19 => (intro wz hSw; (try dsimp only at hSw); go_simp; try with_reducible rfl)
          case r19 =>
          try simp only [Act.put, List.setIfInBounds_toArray, List.set_cons_zero, List.set_cons_succ]
          refine wpAnyH_take (i := 23) (oi := { dst := some 73, op := _, type := _, pos := _, after := _, guard := _ }) (v := ?v20) rfl (by kernel_rfl) (by kernel_rfl) (by kernel_rfl) (fun _ _ _ h => h) (Or.inl ⟨by rfl, ?y20⟩) hHeld ?r20
          case y20 => (intro wz hSw; (try dsimp only at hSw); go_simp; try with_reducible rfl)
          case r20 =>
          try simp only [Act.put, List.setIfInBounds_toArray, List.set_cons_zero, List.set_cons_succ]
          refine wpAnyH_ready (rs := [24]) (by kernel_rfl) (by simp) ?_
          refine AllReadyH.cons (o := { dst := none, op := _, type := _, pos := _, after := _, guard := _ }) rfl (fun K hK => ?_) AllReadyH.nil
          go_simp
          refine hK.out _ _ (HTA.out) (fun hHeld => ?_)
          clear hK K
          try simp only [Act.put, List.setIfInBounds_toArray, List.set_cons_zero, List.set_cons_succ]
          refine wpAnyH_done (by kernel_rfl) ?_ _
          go_wp2_with fail
          go_meet
          exact ⟨HSA.out, HTA.out.2⟩
        · skip
          go_simp
          refine hK.out _ _ (keepA) (fun hHeld => ?_)
          clear hK K
          try simp only [Act.put, List.setIfInBounds_toArray, List.set_cons_zero, List.set_cons_succ]
          refine wpAnyH_ready (rs := [12]) (by kernel_rfl) (by simp) ?_
          refine AllReadyH.cons (o := { dst := some 62, op := _, type := _, pos := _, after := _, guard := _ }) rfl (fun K hK => ?_) AllReadyH.nil
          go_simp
          refine hK.out _ _ (hHeld) (fun hHeld => ?_)
          clear hK K
          try simp only [Act.put, List.setIfInBounds_toArray, List.set_cons_zero, List.set_cons_succ]
          refine wpAnyH_ready (rs := [21]) (by kernel_rfl) (by simp) ?_
          refine AllReadyH.cons (o := { dst := some 71, op := _, type := _, pos := _, after := _, guard := _ }) rfl (fun K hK => ?_) AllReadyH.nil
          refine step_append_lies _ (by rfl) _ _ _ (by rfl) 0 65 i0 (.agg #[.int .u64 0, .int .i64 0]) 2 16 Tryz.underlying51 hi0 hz0 hz1 hz2 rfl (by decide) (.slice aI i cI) i xs rfl (ownsRow_far' HOI.out (fun g hg => heap_alloc_old _ _ _ (own_lt2 HOI.out g hg).2)) ⟨w5.heap.size, 0, none⟩ 1 1 [.int .u64 x, .int .i64 y] rfl rfl (World.news_of_block (cs := #[.int .u64 x, .int .i64 y]) (t := 65) (heap_alloc_new _ _)) (fun u hu => by simp at hu; rcases hu with rfl | rfl <;> rfl) (by decide) (by unfold maxLen; omega) (by omega) (by simp) _ rfl ?_
          intro g' cap' wA hownA hgrowA hatA hltA
          obtain ⟨cA, fA, c0A, sA, tA⟩ := HFin.out (((Below.refl _ _).alloc (Nat.le_refl _) _).drew) hownA hgrowA hatA
          have HSA := toHid sA
          have HTA := toHid tA
          clear hownA hgrowA hatA hltA sA tA
          refine hK.out _ _ (c0A) (fun hHeld => ?_)
          clear hK K
          try simp only [Act.put, List.setIfInBounds_toArray, List.set_cons_zero, List.set_cons_succ]
          refine wpAnyH_take (i := 22) (oi := { dst := some 72, op := _, type := _, pos := _, after := _, guard := _ }) (v := ?v21) rfl (by kernel_rfl) (by kernel_rfl) (by kernel_rfl) (fun _ _ _ h => h) (Or.inl ⟨by rfl, ?y21⟩) hHeld ?r21
          case y21 => (intro wz hSw; (try dsimp only at hSw); go_simp; try with_reducible rfl)
          case r21 =>
          try simp only [Act.put, List.setIfInBounds_toArray, List.set_cons_zero, List.set_cons_succ]
          refine wpAnyH_take (i := 23) (oi := { dst := some 73, op := _, type := _, pos := _, after := _, guard := _ }) (v := ?v22) rfl (by kernel_rfl) (by kernel_rfl) (by kernel_rfl) (fun _ _ _ h => h) (Or.inl ⟨by rfl, ?y22⟩) hHeld ?r22
          case y22 => (intro wz hSw; (try dsimp only at hSw); go_simp; try with_reducible rfl)
          case r22 =>
          try simp only [Act.put, List.setIfInBounds_toArray, List.set_cons_zero, List.set_cons_succ]
          refine wpAnyH_ready (rs := [24]) (by kernel_rfl) (by simp) ?_
          refine AllReadyH.cons (o := { dst := none, op := _, type := _, pos := _, after := _, guard := _ }) rfl (fun K hK => ?_) AllReadyH.nil
          go_simp
          refine hK.out _ _ (HTA.out) (fun hHeld => ?_)
          clear hK K
          try simp only [Act.put, List.setIfInBounds_toArray, List.set_cons_zero, List.set_cons_succ]
          refine wpAnyH_done (by kernel_rfl) ?_ _
          go_wp2_with fail
          go_meet
          exact ⟨HSA.out, HTA.out.2⟩
      case rest =>
        obtain ⟨hS, c2'⟩ := hcut
        clear d0 d2 d9 d9a d0d keepA
        go_wp2_with fail
        go_ret2
        exact .inr ⟨(HN.out HNO.out).1, by rw [HY.out, HSN.out] ; rfl, hS.out⟩
end Go.Proofs.YtlkcbdinlfeoiabGreatDoor
