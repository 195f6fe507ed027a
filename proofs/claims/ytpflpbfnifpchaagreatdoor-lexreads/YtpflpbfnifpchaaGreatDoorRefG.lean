/- The document's answer for package lex: tokenOf, for whatever bytes. -/
import Derived.Test.YtpflpbfnifpchaaGreatDoorRefD
import Derived.Test.YtpflpbfnifpchaaGreatDoorRefE
import Derived.Test.YtpflpbfnifpchaaGreatDoorRefF
namespace Go.Proofs.YtpflpbfnifpchaaGreatDoor
open Go.RowKit

theorem tokenOf_any (q : ByteArray) (hq : q.size ≤ 6000) (hq0 : 0 < q.size) (w : World) :
    Calls Tryz.prog 20 #[.string q] w fun ev w' => TPostR q ev ∧ Below w.heap.size w w' := by
  cases hs : smallB (q[0].toNat : Int)
  · cases hc : capitalB (q[0].toNat : Int)
    · cases hd : digitB (q[0].toNat : Int)
      · cases h34 : ((q[0].toNat : Int) == 34)
        · exact tokenOf_op q hq hq0 hs hc hd h34 w
        · exact tokenOf_str q hq hq0 hs hc hd h34 w
      · exact tokenOf_int q hq hq0 hs hc hd w
    · exact tokenOf_name q hq hq0 (by rw [hs, hc]; rfl) w
  · exact tokenOf_name q hq hq0 (by rw [hs]; rfl) w

/-- A token of a line's rest, as the document's answer reads it: by its bytes alone. -/
theorem tokAt_rest (s : ByteArray) (pre c L : List UInt8) (S : List UInt8) (h : s.data.toList = pre ++ (c ++ L ++ S)) : s.extract (pre.length + c.length) (pre.length + (c ++ L).length) = ⟨L.toArray⟩ := by
  have e := cut_list s S L (pre ++ c) (by rw [h]; simp) L.length (Nat.le_refl _)
  simp only [List.length_append, List.take_length] at e ⊢
  rw [← Nat.add_assoc]
  exact e
theorem tokAt_own (L : List UInt8) (hL : L ≠ []) : tokAt ⟨L.toArray⟩ 0 = tokL L := by
  have h := tokAt_list ⟨L.toArray⟩ [] L [] (fun c hc => by simp at hc) (by simp) (by
    have := dead_end (s := ⟨L.toArray⟩) (S := []) (pre := L) (.inl rfl) (by simp)
    simpa using this) hL
  simp only [List.length_nil, Nat.zero_add] at h
  have hid : ∀ o : Option (ByteArray × ByteArray × Nat), (o.map fun x => (x.1, x.2.1, x.2.2)) = o := fun o => by cases o <;> rfl
  rw [hid] at h
  exact h
end Go.Proofs.YtpflpbfnifpchaaGreatDoor
