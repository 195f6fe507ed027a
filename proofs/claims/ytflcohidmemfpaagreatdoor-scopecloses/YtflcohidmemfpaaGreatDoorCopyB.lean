/- Statements of which the data are the same are the same. -/
import Derived.Test.YtflcohidmemfpaaGreatDoorSsQ
set_option linter.all false
namespace Go.Proofs.YtflcohidmemfpaaGreatDoor
open Go.Proofs.Tryz
open Go.RowKit

theorem Z72 {kd kd' nm nm':ByteArray}{pl pl':List ByteArray}{el el' bd bd' es es':List (DataW Unit)} (h:mkS kd nm pl el bd es=mkS kd' nm' pl' el' bd' es'):kd=kd'∧nm=nm'∧pl=pl'∧el=el'∧bd=bd'∧es=es':=by
 unfold mkS at h
 injection h with h
 simp only [List.cons.injEq,and_true] at h
 obtain ⟨h1,h2,h3,h4,h5,h6⟩:=h
 refine ⟨bytes_inj ?_,bytes_inj ?_,?_,?_,?_,?_⟩
 ·rw [Z0g,Z0g]
  injection h1 with h1
  injection h1
 ·rw [Z0g,Z0g]
  injection h2 with h2
  injection h2
 ·injection h3 with h3
  exact Zfd h3
 ·injection h4 with h4
 ·injection h5 with h5
 ·injection h6 with h6
end Go.Proofs.YtflcohidmemfpaaGreatDoor
