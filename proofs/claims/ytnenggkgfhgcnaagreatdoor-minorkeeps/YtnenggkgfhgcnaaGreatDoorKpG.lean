/- Collect of a memory that is not right, or of none, by contracts. -/
import Derived.Test.YtnenggkgfhgcnaaGreatDoorKpF
import Derived.Test.YtnenggkgfhgcnaaGreatDoorMemI
namespace Go.Proofs.YtnenggkgfhgcnaaGreatDoor
open Go.RowKit Go.Maps

theorem jNear_none (w:World):Calls Tryz.prog 8 #[.pointer none] w fun ev w'=>ev = .returned (.bool true)∧w'=w:=by
 go_enter Tryz.func8,Tryz.ntmps8
 go_wp2
 go_ret
 exact ⟨rfl,rfl⟩
def ChecksPost (a:Nat→Addr) (m:MD) (w:World) (ev:Ending) (w':World):Prop:=Below w.heap.size w w'∧((∃ vs,m.Shape vs∧m.cardsB=true∧ev = .returned .nilIface)∨(∃ vs,m.Shape vs∧m.cardsB=false∧ev = .returned (errV a 4))∨((∀ vs,¬ m.Shape vs)∧ev = .returned (errV a 2)))
theorem check_all (a:Nat→Addr) (p:Nat) (m:MD) (h64:MD64 m) (bR:m.R.length≤300000) (bK:m.K.length≤300000) (bI:m.I.length≤300000) (w:World) (E:MErr3 a w) (R:RepP p m w) :
  Calls Tryz.prog 40 #[.pointer (some ⟨p,0,none⟩)] w (ChecksPost a m w):=by
 have ks:=survey_any3 a p m h64 bR bK bI w E R
 clear E R h64
 go_enter Tryz.func40,Tryz.ntmps40
 go_wp2_with fail
 refine ks.mono ?_
 clear ks
 rintro ev w1 ⟨hb1,⟨vs,bh,hs,hC,rfl,_,_⟩ | ⟨vs,hs,hC,rfl⟩ | ⟨hno,rfl⟩⟩
 ·have HP:Hid (ChecksPost a m w (.returned .nilIface) w1):=⟨hb1,.inl ⟨vs,hs,hC,rfl⟩⟩
  clear hs hC hb1
  go_wp2_with fail
  go_ret
  exact HP.out
 ·have HP:Hid (ChecksPost a m w (.returned (errV a 4)) w1):=⟨hb1,.inr (.inl ⟨vs,hs,hC,rfl⟩)⟩
  unfold errV at *
  clear hs hC hb1
  go_wp2_with fail
  go_ret
  exact HP.out
 ·have HP:Hid (ChecksPost a m w (.returned (errV a 2)) w1):=⟨hb1,.inr (.inr ⟨hno,rfl⟩)⟩
  unfold errV at *
  clear hno hb1
  go_wp2_with fail
  go_ret
  exact HP.out
theorem check_nil (a:Nat→Addr) (w:World) (E:MErr a w):Calls Tryz.prog 40 #[.pointer none] w fun ev w'=>ev = .returned (errV a 2)∧Below w.heap.size w w':=by
 have ks:=survey_nil a w E
 unfold errV at *
 clear E
 go_enter Tryz.func40,Tryz.ntmps40
 go_wp2_with fail
 refine ks.mono ?_
 rintro ev w1 ⟨rfl,hb⟩
 go_wp2_with fail
 go_ret
 exact ⟨rfl,hb⟩
theorem memOf_none (w:World):Calls Tryz.prog 11 #[.pointer none] w fun ev w'=>ev = .returned (.pointer none)∧w'=w:=by
 go_enter Tryz.func11,Tryz.ntmps11
 go_wp2_with fail
 go_ret
 exact ⟨rfl,rfl⟩
def BadPost (a:Nat→Addr) (m:MD) (w:World) (ev:Ending) (w':World):Prop:=Below w.heap.size w w'∧(((∃ vs,m.Shape vs)∧m.cardsB=false∧ev = .returned (errV a 4))∨((∀ vs,¬ m.Shape vs)∧ev = .returned (errV a 2)))
theorem ncollect_bad (a:Nat→Addr) (p:Nat) (m:MD) (tn:Int) (h64:MD64 m) (bR:m.R.length≤300000) (bK:m.K.length≤300000) (bI:m.I.length≤300000) (w:World) (E:MErr3 a w) (R:RepP p m w) (hbad:¬ ((∃ vs,m.Shape vs)∧m.cardsB=true)) :
  Calls Tryz.prog 20 #[.pointer (some ⟨p,0,none⟩),.int .i64 tn] w (BadPost a m w):=by
 have kc:=check_all a p m h64 bR bK bI w E R
 clear E R h64
 go_enter Tryz.func20,Tryz.ntmps20
 go_wp2_with fail
 refine kc.mono ?_
 clear kc
 rintro ev w1 ⟨hb1,⟨vs,hs,hC,rfl⟩ | ⟨vs,hs,hC,rfl⟩ | ⟨hno,rfl⟩⟩
 ·exact absurd ⟨⟨vs,hs⟩,hC⟩ hbad
 ·have HP:Hid (BadPost a m w (.returned (errV a 4)) w1):=⟨hb1,.inl ⟨⟨vs,hs⟩,hC,rfl⟩⟩
  unfold errV at *
  clear hs hC hb1 hbad
  go_wp2_with fail
  go_ret
  exact HP.out
 ·have HP:Hid (BadPost a m w (.returned (errV a 2)) w1):=⟨hb1,.inr ⟨hno,rfl⟩⟩
  unfold errV at *
  clear hno hb1 hbad
  go_wp2_with fail
  go_ret
  exact HP.out
theorem ncollect_none (a:Nat→Addr) (tn:Int) (w:World) (E:MErr a w):Calls Tryz.prog 20 #[.pointer none,.int .i64 tn] w fun ev w'=>ev = .returned (errV a 2)∧Below w.heap.size w w':=by
 have kc:=check_nil a w E
 unfold errV at *
 clear E
 go_enter Tryz.func20,Tryz.ntmps20
 go_wp2_with fail
 refine kc.mono ?_
 rintro ev w1 ⟨rfl,hb⟩
 go_wp2_with fail
 go_ret
 exact ⟨rfl,hb⟩
theorem jcollect_bad (a:Nat→Addr) (p:Nat) (m:MD) (h64:MD64 m) (bR:m.R.length≤300000) (bK:m.K.length≤300000) (bI:m.I.length≤300000) (w:World) (E:MErr3 a w) (R:RepP p m w) (hbad:¬ ((∃ vs,m.Shape vs)∧m.cardsB=true)) :
  Calls Tryz.prog 12 #[.pointer (some ⟨p,0,none⟩)] w (BadPost a m w):=by
 have kr:Calls Tryz.prog 29 #[.pointer (some ⟨p,0,none⟩)] w fun ev w'=>Below w.heap.size w w'∧(((∃ vs,m.Shape vs)∧m.cardsB=false∧ev = .returned (.tuple #[.slice none 0 0,errV a 4]))∨((∀ vs,¬ m.Shape vs)∧ev = .returned (.tuple #[.slice none 0 0,errV a 2]))):=by
  have ks:=survey_any3 a p m h64 bR bK bI w E R
  clear E R h64
  go_enter Tryz.func29,Tryz.ntmps29
  go_wp2_with fail
  refine ks.mono ?_
  clear ks
  rintro ev w1 ⟨hb1,⟨vs,bh,hs,hC,rfl,_,_⟩ | ⟨vs,hs,hC,rfl⟩ | ⟨hno,rfl⟩⟩
  ·exact absurd ⟨⟨vs,hs⟩,hC⟩ hbad
  ·have HP:Hid (Below w.heap.size w w1∧(∃ vs,m.Shape vs)∧m.cardsB=false):=⟨hb1,⟨vs,hs⟩,hC⟩
   unfold errV at *
   clear hs hC hb1 hbad
   go_wp2_with fail
   go_ret2
   exact ⟨HP.out.1,.inl ⟨HP.out.2.1,HP.out.2.2,rfl⟩⟩
  ·have HP:Hid (Below w.heap.size w w1 ∧ ∀ vs,¬ m.Shape vs):=⟨hb1,hno⟩
   unfold errV at *
   clear hno hb1 hbad
   go_wp2_with fail
   go_ret2
   exact ⟨HP.out.1,.inr ⟨HP.out.2,rfl⟩⟩
 clear E R h64 hbad
 go_enter Tryz.func12,Tryz.ntmps12
 go_wp2_with fail
 refine kr.mono ?_
 clear kr
 rintro ev w1 ⟨hb1,⟨hs,hC,rfl⟩ | ⟨hno,rfl⟩⟩
 ·have HP:Hid (BadPost a m w (.returned (errV a 4)) w1):=⟨hb1,.inl ⟨hs,hC,rfl⟩⟩
  unfold errV at *
  clear hs hC hb1
  go_wp2_with fail
  go_ret
  exact HP.out
 ·have HP:Hid (BadPost a m w (.returned (errV a 2)) w1):=⟨hb1,.inr ⟨hno,rfl⟩⟩
  unfold errV at *
  clear hno hb1
  go_wp2_with fail
  go_ret
  exact HP.out
theorem jcollect_none (a:Nat→Addr) (w:World) (E:MErr a w):Calls Tryz.prog 12 #[.pointer none] w fun ev w'=>ev = .returned (errV a 2)∧Below w.heap.size w w':=by
 have kr:Calls Tryz.prog 29 #[.pointer none] w fun ev w'=>ev = .returned (.tuple #[.slice none 0 0,errV a 2])∧Below w.heap.size w w':=by
  have ks:=survey_nil a w E
  unfold errV at *
  clear E
  go_enter Tryz.func29,Tryz.ntmps29
  go_wp2_with fail
  refine ks.mono ?_
  rintro ev w1 ⟨rfl,hb⟩
  go_wp2_with fail
  go_ret2
  exact ⟨rfl,hb⟩
 unfold errV at *
 clear E
 go_enter Tryz.func12,Tryz.ntmps12
 go_wp2_with fail
 refine kr.mono ?_
 rintro ev w1 ⟨rfl,hb⟩
 go_wp2_with fail
 go_ret
 exact ⟨rfl,hb⟩
end Go.Proofs.YtnenggkgfhgcnaaGreatDoor
