/- All objects are slid together (slide), by a contract. -/
import Derived.Test.YtlkcbdinlfeoiaaGreatDoorMjI
import Derived.Test.YtlkcbdinlfeoiaaGreatDoorMnK
namespace Go.Proofs.YtlkcbdinlfeoiaaGreatDoor
open Go.Proofs.Tryz Go.RowKit
set_option maxHeartbeats 8000000
set_option maxRecDepth 100000
set_option linter.unusedSimpArgs false
section
open Go.Maps
theorem Znn {w:World}{B B' t n:Nat}{v:Value}{xs:List Value} (h:w.ownsRow B t 1 v n xs) (hB:B'<=B):w.ownsRow B' t 1 v n xs:=by
 rcases h with ⟨e0,e1 | ⟨g,cap,cur,e1,e2,e3⟩⟩
 ·exact ⟨e0,.inl e1⟩
 ·exact ⟨e0,.inr ⟨g,cap,cur,e1,U0n hB e2,e3⟩⟩
theorem Z4n {F:Nat->Int} : ∀ {P:List (Nat × Nat)}{i:Nat}{x:Nat × Nat},P[i]?=some x -> ∀ j,j<6->(Z6d F P)[i*6+j]?=(Zbg F x)[j]?
 | [],i,x,h,_,_=>by simp at h
 | y::P,0,x,h,j,hj=>by
  have h:y=x:=by simpa using h
  subst h
  show (Zbg F y++Z6d F P)[0*6+j]?=_
  rw [U10 (by simp [Zbg];omega),Nat.zero_mul,U1p]
 | y::P,i+1,x,h,j,hj=>by
  have h:P[i]?=some x:=by simpa using h
  show (Zbg F y++Z6d F P)[(i+1)*6+j]?=_
  have e:(Zbg F y).length=6:=rfl
  rw [U12 (by rw [e];omega),e,show (i+1)*6+j - 6=i*6+j by omega]
  exact Z4n h j hj
def Z1i (p bW bC cW cC:Nat) (m:MD) (φ:Nat->Option Nat) (P:List (Nat × Nat)) (e:Nat) (w w':World):Prop:=∃ vR vK vI,ColAt p bW bC cW cC (Zmf m φ (Z17 m.W.length φ m.W P) e) vR vK vI w'/\Aside (Z7g p bW bC) w w'/\RowsN w.heap.size (Zmf m φ (Z17 m.W.length φ m.W P) e) vR vK vI w'
theorem Z1i.below {p bW bC cW cC:Nat}{m:MD}{φ:Nat->Option Nat}{P:List (Nat × Nat)}{e:Nat}{w w' w'':World} (h:Z1i p bW bC cW cC m φ P e w w') (hb:Below w'.heap.size w' w''):Z1i p bW bC cW cC m φ P e w w'':=by
 obtain ⟨vR,vK,vI,h1,h2,h3⟩:=h
 exact ⟨vR,vK,vI,h1.below hb,h2.trans (Aside.of_below hb),h3.below hb⟩
theorem Z1i.drew {p bW bC cW cC:Nat}{m:MD}{φ:Nat->Option Nat}{P:List (Nat × Nat)}{e:Nat}{w w':World} (h:Z1i p bW bC cW cC m φ P e w w'):Z1i p bW bC cW cC m φ P e w w'.drew:=h.below (U01 _ _).drew
theorem Zoz {m:MD}{vs:List Nat} (S:m.Shape vs):0<m.C.length:=by
 have hn:=S.1.nums
 unfold Z0c at hn
 have h2:=S.1.c
 have h3:(1:Int)<=(m.old+m.card - 1) / m.card:=U4r (by omega) (by omega)
 omega
theorem ColAt.ne {p bW bC cW cC:Nat}{m:MD}{vR vK vI:Value}{w:World} (h:ColAt p bW bC cW cC m vR vK vI w):bW≠p/\bC≠p/\bW≠bC:=by
 obtain ⟨r,hW⟩:=h.hW
 obtain ⟨r2,hC⟩:=h.hC
 have hp:=h.mb
 unfold MB at hp
 refine ⟨fun e => ?_,fun e => ?_,fun e => ?_⟩
 ·rw [e] at hW;have:=hp.symm.trans hW;simp at this
 ·rw [e] at hC;have:=hp.symm.trans hC;simp at this
 ·rw [e] at hW;have:=hC.symm.trans hW;simp at this
theorem Zml (a:Nat->Addr) (p q bm bW bC cW cC B e n:Nat) (m:MD) (vR vK vI vM:Value) (l1 l2:List Nat) (P:List (Nat × Nat)) (D:DataW Unit) (φ:Nat->Option Nat) (w:World) (H:ColAt p bW bC cW cC m vR vK vI w) (SL:SlAt p q bm m.W.length B e m.F P n D vM w) (We:Went D φ) (X:JX m l1 l2 P e φ)
  (hlR:m.R.length<=300000) (hlK:m.K.length<=300000) (hlI:m.I.length<=300000) (hlP:P.length<=300000) (hpB:p<B) (hWB:bW<B) (hCB:bC<B) (hqB:B<=q) (hmB:B<=bm) (E:∀ w',Aside (Z7g p bW bC) w w'->WErr a w') :
  Calls prog 167 #[.pointer (some ⟨q,0,none⟩)] w fun ev w'=>ev = .returned (.tuple #[])/\Z1i p bW bC cW cC m φ P e w w':=by
 obtain ⟨hh,hhe,_,hm0,hm1,hmW,hn0,hnm,hW3⟩:=X.num
 have HX:=Z00 X
 have HE:=Z00 E
 have HWe:=Z00 We
 have hmb:=H.mb
 unfold MB at hmb
 have c7:w.cell? ⟨p,7,none⟩=some vR:=by rw [U06 _ _ _ _ _ _ hmb];rfl
 have c8:w.cell? ⟨p,8,none⟩=some vK:=by rw [U06 _ _ _ _ _ _ hmb];rfl
 have q0:=SL.cells.1
 have hp:=Z01 hmb
 have hq:=Z01 SL.blk
 have HMB:=Z00 hmb
 have HH:=Z00 H
 have HSL:=Z00 SL
 obtain ⟨aR,cR,eR,hcR,fR⟩:=id H.R
 obtain ⟨aK,cK,eK,hcK,fK⟩:=id H.K
 rw [eR] at c7
 rw [eK] at c8
 have hfz:Hid (∀ W,Below w.heap.size w W->W.cell? ⟨q,0,none⟩=some (.pointer (some ⟨p,0,none⟩))/\W.cell? ⟨p,7,none⟩=some (.slice aR m.R.length cR)/\W.cell? ⟨p,8,none⟩=some (.slice aK m.K.length cK)/\W.frozen? ⟨p,7,none⟩=false/\W.frozen? ⟨p,8,none⟩=false):=fun W hW=>by
  have hm:=(hW.block _ hp).trans hmb
  exact ⟨(hW.cell (p:=⟨q,0,none⟩) hq).trans q0,(hW.cell (p:=⟨p,7,none⟩) hp).trans c7,(hW.cell (p:=⟨p,8,none⟩) hp).trans c8,by simp [World.frozen?,hm],by simp [World.frozen?,hm]⟩
 have HCR:Hid (∀ W,Below w.heap.size w W->Calls prog 96 #[.slice aR m.R.length cR] W fun ev w' => ∃ ao' c',ev = .returned (.slice ao' m.R.length c')/\w'.ownsRow w.heap.size 81 1 (.slice ao' m.R.length c') m.R.length (Z05 m.R)/\Below w.heap.size w w'):=fun W hW=>by
  refine (Z5j aR m.R.length cR W (Z05 m.R) (by rw [Z3y];omega) ((by have h:=H.R.below hW;rw [eR] at h;exact h.src)) (Z3g _) hlR).mono ?_
  rintro ev w' ⟨ao',c',rfl,h1,h2⟩
  exact ⟨ao',c',rfl,Znn h1 hW.size,hW.trans (h2.mono hW.size)⟩
 have HCK:Hid (∀ W,Below w.heap.size w W->Calls prog 96 #[.slice aK m.K.length cK] W fun ev w' => ∃ ao' c',ev = .returned (.slice ao' m.K.length c')/\w'.ownsRow W.heap.size 81 1 (.slice ao' m.K.length c') m.K.length (Z05 m.K)/\Below W.heap.size W w'):=fun W hW=>Z5j aK m.K.length cK W (Z05 m.K) (by rw [Z3y];omega) ((by have h:=H.K.below hW;rw [eK] at h;exact h.src)) (Z3g _) hlK
 obtain ⟨f7,f8⟩:=(hfz.out w (U01 _ _)).2.2.2
 have q0s:∀ {W:World}{o:Nat}{v:Value},W.cell? ⟨q,0,none⟩=some (.pointer (some ⟨p,0,none⟩))->(W.setCell ⟨p,o,none⟩ v).cell? ⟨q,0,none⟩=some (.pointer (some ⟨p,0,none⟩)):=fun h=>(World.cell?_setCell_far _ _ _ _ (show p≠q by omega)).trans h
 have q0d:w.drew.cell? ⟨q,0,none⟩=some (.pointer (some ⟨p,0,none⟩)):=q0
 clear hmb H SL eR eK hcR hcK fR fK X E We
 go_enter func167,ntmps167
 go_upto_region 0 with fail
 go_cut [] from 4 to 32 (fun wx => ∃ aR' cR' aK' cK',ColR p m (.slice (some ⟨bW,0,none⟩) m.W.length cW) vI (.slice (some ⟨bC,0,none⟩) m.C.length cC) w (.slice aR' m.R.length cR') (.slice aK' m.K.length cK') wx)
 case first =>
  refine U3n (S:=(fun W=>W.cell? ⟨q,0,none⟩=some (.pointer (some ⟨p,0,none⟩)))) (by kernel_rfl) q0d (fun hHeld => ?_)
  refine U0h (i:=0) (oi:={ dst:=some 4,op:=_,type:=_,pos:=_,after:=_,guard:=_ }) (v:=?v0) rfl (by kernel_rfl) (by kernel_rfl) (by kernel_rfl) (fun _ _ _ h=>h) (Or.inl ⟨by rfl,?y0⟩) hHeld ?r0
  case y0=>(intro wz hSw;(try dsimp only at hSw);go_simp;try with_reducible rfl)
  case r0 =>
  try simp only [Act.put,U00,U04,U05]
  refine U0h (i:=1) (oi:={ dst:=some 5,op:=_,type:=_,pos:=_,after:=_,guard:=_ }) (v:=?v1) rfl (by kernel_rfl) (by kernel_rfl) (by kernel_rfl) (fun _ _ _ h=>h) (Or.inl ⟨by rfl,?y1⟩) hHeld ?r1
  case y1=>(intro wz hSw;(try dsimp only at hSw);go_simp;try with_reducible rfl)
  case r1 =>
  try simp only [Act.put,U00,U04,U05]
  refine U0h (i:=2) (oi:={ dst:=some 6,op:=_,type:=_,pos:=_,after:=_,guard:=_ }) (v:=?v2) rfl (by kernel_rfl) (by kernel_rfl) (by kernel_rfl) (fun _ _ _ h=>h) (Or.inl ⟨by rfl,?y2⟩) hHeld ?r2
  case y2=>(intro wz hSw;(try dsimp only at hSw);go_simp;try with_reducible rfl)
  case r2 =>
  try simp only [Act.put,U00,U04,U05]
  refine U0h (i:=3) (oi:={ dst:=some 7,op:=_,type:=_,pos:=_,after:=_,guard:=_ }) (v:=?v3) rfl (by kernel_rfl) (by kernel_rfl) (by kernel_rfl) (fun _ _ _ h=>h) (Or.inl ⟨by rfl,?y3⟩) hHeld ?r3
  case y3=>(intro wz hSw;(try dsimp only at hSw);go_simp;try with_reducible rfl)
  case r3 =>
  try simp only [Act.put,U00,U04,U05]
  refine U0h (i:=4) (oi:={ dst:=some 8,op:=_,type:=_,pos:=_,after:=_,guard:=_ }) (v:=?v4) rfl (by kernel_rfl) (by kernel_rfl) (by kernel_rfl) (fun _ _ _ h=>h) (Or.inl ⟨by rfl,?y4⟩) hHeld ?r4
  case y4=>(intro wz hSw;(try dsimp only at hSw);go_simp;try with_reducible rfl)
  case r4 =>
  try simp only [Act.put,U00,U04,U05]
  refine U0h (i:=5) (oi:={ dst:=some 9,op:=_,type:=_,pos:=_,after:=_,guard:=_ }) (v:=?v5) rfl (by kernel_rfl) (by kernel_rfl) (by kernel_rfl) (fun _ _ _ h=>h) (Or.inl ⟨by rfl,?y5⟩) hHeld ?r5
  case y5=>(intro wz hSw;(try dsimp only at hSw);go_simp;try with_reducible rfl)
  case r5 =>
  try simp only [Act.put,U00,U04,U05]
  refine U0h (i:=6) (oi:={ dst:=some 10,op:=_,type:=_,pos:=_,after:=_,guard:=_ }) (v:=?v6) rfl (by kernel_rfl) (by kernel_rfl) (by kernel_rfl) (fun _ _ _ h=>h) (Or.inl ⟨by rfl,?y6⟩) hHeld ?r6
  case y6=>(intro wz hSw;(try dsimp only at hSw);go_simp;try with_reducible rfl)
  case r6 =>
  try simp only [Act.put,U00,U04,U05]
  refine U0h (i:=7) (oi:={ dst:=some 11,op:=_,type:=_,pos:=_,after:=_,guard:=_ }) (v:=?v7) rfl (by kernel_rfl) (by kernel_rfl) (by kernel_rfl) (fun _ _ _ h=>h) (Or.inl ⟨by rfl,?y7⟩) hHeld ?r7
  case y7=>(intro wz hSw;(try dsimp only at hSw);go_simp;try with_reducible rfl)
  case r7 =>
  try simp only [Act.put,U00,U04,U05]
  refine U0h (i:=8) (oi:={ dst:=some 12,op:=_,type:=_,pos:=_,after:=_,guard:=_ }) (v:=?v8) rfl (by kernel_rfl) (by kernel_rfl) (by kernel_rfl) (fun _ _ _ h=>h) (Or.inl ⟨by rfl,?y8⟩) hHeld ?r8
  case y8=>(intro wz hSw;(try dsimp only at hSw);go_simp;try with_reducible rfl)
  case r8 =>
  try simp only [Act.put,U00,U04,U05]
  refine U0h (i:=9) (oi:={ dst:=some 13,op:=_,type:=_,pos:=_,after:=_,guard:=_ }) (v:=?v9) rfl (by kernel_rfl) (by kernel_rfl) (by kernel_rfl) (fun _ _ _ h=>h) (Or.inl ⟨by rfl,?y9⟩) hHeld ?r9
  case y9=>(intro wz hSw;(try dsimp only at hSw);go_simp;try with_reducible rfl)
  case r9 =>
  try simp only [Act.put,U00,U04,U05]
  refine U0h (i:=10) (oi:={ dst:=some 14,op:=_,type:=_,pos:=_,after:=_,guard:=_ }) (v:=?v10) rfl (by kernel_rfl) (by kernel_rfl) (by kernel_rfl) (fun _ _ _ h=>h) (Or.inl ⟨by rfl,?y10⟩) hHeld ?r10
  case y10=>(intro wz hSw;(try dsimp only at hSw);go_simp;try with_reducible rfl)
  case r10 =>
  try simp only [Act.put,U00,U04,U05]
  refine U0h (i:=11) (oi:={ dst:=some 15,op:=_,type:=_,pos:=_,after:=_,guard:=_ }) (v:=?v11) rfl (by kernel_rfl) (by kernel_rfl) (by kernel_rfl) (fun _ _ _ h=>h) (Or.inl ⟨by rfl,?y11⟩) hHeld ?r11
  case y11=>(intro wz hSw;(try dsimp only at hSw);go_simp;try with_reducible rfl)
  case r11 =>
  try simp only [Act.put,U00,U04,U05]
  refine U0h (i:=12) (oi:={ dst:=some 16,op:=_,type:=_,pos:=_,after:=_,guard:=_ }) (v:=?v12) rfl (by kernel_rfl) (by kernel_rfl) (by kernel_rfl) (fun _ _ _ h=>h) (Or.inl ⟨by rfl,?y12⟩) hHeld ?r12
  case y12=>(intro wz hSw;(try dsimp only at hSw);go_simp;try with_reducible rfl)
  case r12 =>
  try simp only [Act.put,U00,U04,U05]
  refine U0h (i:=13) (oi:={ dst:=some 17,op:=_,type:=_,pos:=_,after:=_,guard:=_ }) (v:=?v13) rfl (by kernel_rfl) (by kernel_rfl) (by kernel_rfl) (fun _ _ _ h=>h) (Or.inl ⟨by rfl,?y13⟩) hHeld ?r13
  case y13=>(intro wz hSw;(try dsimp only at hSw);go_simp;try with_reducible rfl)
  case r13 =>
  try simp only [Act.put,U00,U04,U05]
  refine U0h (i:=16) (oi:={ dst:=some 20,op:=_,type:=_,pos:=_,after:=_,guard:=_ }) (v:=?v14) rfl (by kernel_rfl) (by kernel_rfl) (by kernel_rfl) (fun _ _ _ h=>h) (Or.inl ⟨by rfl,?y14⟩) hHeld ?r14
  case y14=>(intro wz hSw;(try dsimp only at hSw);go_simp;try with_reducible rfl)
  case r14 =>
  try simp only [Act.put,U00,U04,U05]
  refine U0h (i:=17) (oi:={ dst:=some 21,op:=_,type:=_,pos:=_,after:=_,guard:=_ }) (v:=?v15) rfl (by kernel_rfl) (by kernel_rfl) (by kernel_rfl) (fun _ _ _ h=>h) (Or.inl ⟨by rfl,?y15⟩) hHeld ?r15
  case y15=>(intro wz hSw;(try dsimp only at hSw);go_simp;try with_reducible rfl)
  case r15 =>
  try simp only [Act.put,U00,U04,U05]
  refine U0h (i:=18) (oi:={ dst:=some 22,op:=_,type:=_,pos:=_,after:=_,guard:=_ }) (v:=?v16) rfl (by kernel_rfl) (by kernel_rfl) (by kernel_rfl) (fun _ _ _ h=>h) (Or.inl ⟨by rfl,?y16⟩) hHeld ?r16
  case y16=>(intro wz hSw;(try dsimp only at hSw);go_simp;try with_reducible rfl)
  case r16 =>
  try simp only [Act.put,U00,U04,U05]
  refine U0h (i:=19) (oi:={ dst:=some 23,op:=_,type:=_,pos:=_,after:=_,guard:=_ }) (v:=?v17) rfl (by kernel_rfl) (by kernel_rfl) (by kernel_rfl) (fun _ _ _ h=>h) (Or.inl ⟨by rfl,?y17⟩) hHeld ?r17
  case y17=>(intro wz hSw;(try dsimp only at hSw);go_simp;try with_reducible rfl)
  case r17 =>
  try simp only [Act.put,U00,U04,U05]
  refine U0h (i:=20) (oi:={ dst:=some 24,op:=_,type:=_,pos:=_,after:=_,guard:=_ }) (v:=?v18) rfl (by kernel_rfl) (by kernel_rfl) (by kernel_rfl) (fun _ _ _ h=>h) (Or.inl ⟨by rfl,?y18⟩) hHeld ?r18
  case y18=>(intro wz hSw;(try dsimp only at hSw);go_simp;try with_reducible rfl)
  case r18 =>
  try simp only [Act.put,U00,U04,U05]
  refine U0h (i:=21) (oi:={ dst:=some 25,op:=_,type:=_,pos:=_,after:=_,guard:=_ }) (v:=?v19) rfl (by kernel_rfl) (by kernel_rfl) (by kernel_rfl) (fun _ _ _ h=>h) (Or.inl ⟨by rfl,?y19⟩) hHeld ?r19
  case y19=>(intro wz hSw;(try dsimp only at hSw);go_simp;try with_reducible rfl)
  case r19 =>
  try simp only [Act.put,U00,U04,U05]
  refine U11 (rs:=[14,22]) (by kernel_rfl) (by simp) ?_
  refine U0s (o:={ dst:=some 18,op:=_,type:=_,pos:=_,after:=_,guard:=_ }) rfl (fun K hK => ?_) (U0s (o:={ dst:=some 26,op:=_,type:=_,pos:=_,after:=_,guard:=_ }) rfl (fun K hK => ?_) U0z)
  ·skip
   go_simp
   refine hK.out _ _ (hHeld) (fun hHeld => ?_)
   clear hK K
   try simp only [Act.put,U00,U04,U05]
   refine U11 (rs:=[15,22]) (by kernel_rfl) (by simp) ?_
   refine U0s (o:={ dst:=some 19,op:=_,type:=_,pos:=_,after:=_,guard:=_ }) rfl (fun K hK => ?_) (U0s (o:={ dst:=some 26,op:=_,type:=_,pos:=_,after:=_,guard:=_ }) rfl (fun K hK => ?_) U0z)
   ·skip
    go_simp
    go_at_call 96
    refine (HCR.out _ (by first | exact U01 _ _ | exact (U01 _ _).drew)).mono ?_
    rintro ev wR ⟨aR',cR',rfl,oR,bR⟩
    obtain ⟨r0,r7,r8,rf7,rf8⟩:=hfz.out wR bR
    go_simp
    refine hK.out _ _ (r0) (fun hHeld => ?_)
    clear hK K
    try simp only [Act.put,U00,U04,U05]
    refine U11 (rs:=[22]) (by kernel_rfl) (by simp) ?_
    refine U0s (o:={ dst:=some 26,op:=_,type:=_,pos:=_,after:=_,guard:=_ }) rfl (fun K hK => ?_) U0z
    go_simp
    refine hK.out _ _ (hHeld) (fun hHeld => ?_)
    clear hK K
    try simp only [Act.put,U00,U04,U05]
    refine U11 (rs:=[23]) (by kernel_rfl) (by simp) ?_
    refine U0s (o:={ dst:=some 27,op:=_,type:=_,pos:=_,after:=_,guard:=_ }) rfl (fun K hK => ?_) U0z
    go_simp
    go_at_call 96
    refine (HCK.out _ bR).mono ?_
    rintro ev wK ⟨aK',cK',rfl,oK,bK⟩
    obtain ⟨s0,s7,s8,sf7,sf8⟩:=hfz.out wK (bR.trans (bK.mono bR.size))
    go_simp
    refine hK.out _ _ (s0) (fun hHeld => ?_)
    clear hK K
    try simp only [Act.put,U00,U04,U05]
    refine U0h (i:=24) (oi:={ dst:=some 28,op:=_,type:=_,pos:=_,after:=_,guard:=_ }) (v:=?v20) rfl (by kernel_rfl) (by kernel_rfl) (by kernel_rfl) (fun _ _ _ h=>h) (Or.inl ⟨by rfl,?y20⟩) hHeld ?r20
    case y20=>(intro wz hSw;(try dsimp only at hSw);go_simp;try with_reducible rfl)
    case r20 =>
    try simp only [Act.put,U00,U04,U05]
    refine U0h (i:=25) (oi:={ dst:=some 29,op:=_,type:=_,pos:=_,after:=_,guard:=_ }) (v:=?v21) rfl (by kernel_rfl) (by kernel_rfl) (by kernel_rfl) (fun _ _ _ h=>h) (Or.inl ⟨by rfl,?y21⟩) hHeld ?r21
    case y21=>(intro wz hSw;(try dsimp only at hSw);go_simp;try with_reducible rfl)
    case r21 =>
    try simp only [Act.put,U00,U04,U05]
    refine U11 (rs:=[26]) (by kernel_rfl) (by simp) ?_
    refine U0s (o:={ dst:=none,op:=_,type:=_,pos:=_,after:=_,guard:=_ }) rfl (fun K hK => ?_) U0z
    go_simp
    refine hK.out _ _ (q0s hHeld) (fun hHeld => ?_)
    clear hK K
    try simp only [Act.put,U00,U04,U05]
    refine U0h (i:=27) (oi:={ dst:=some 30,op:=_,type:=_,pos:=_,after:=_,guard:=_ }) (v:=?v22) rfl (by kernel_rfl) (by kernel_rfl) (by kernel_rfl) (fun _ _ _ h=>h) (Or.inl ⟨by rfl,?y22⟩) hHeld ?r22
    case y22=>(intro wz hSw;(try dsimp only at hSw);go_simp;try with_reducible rfl)
    case r22 =>
    try simp only [Act.put,U00,U04,U05]
    refine U0h (i:=28) (oi:={ dst:=some 31,op:=_,type:=_,pos:=_,after:=_,guard:=_ }) (v:=?v23) rfl (by kernel_rfl) (by kernel_rfl) (by kernel_rfl) (fun _ _ _ h=>h) (Or.inl ⟨by rfl,?y23⟩) hHeld ?r23
    case y23=>(intro wz hSw;(try dsimp only at hSw);go_simp;try with_reducible rfl)
    case r23 =>
    try simp only [Act.put,U00,U04,U05]
    refine U11 (rs:=[29]) (by kernel_rfl) (by simp) ?_
    refine U0s (o:={ dst:=none,op:=_,type:=_,pos:=_,after:=_,guard:=_ }) rfl (fun K hK => ?_) U0z
    go_simp
    refine hK.out _ _ (q0s hHeld) (fun hHeld => ?_)
    clear hK K
    try simp only [Act.put,U00,U04,U05]
    refine U34 (by kernel_rfl) ?_ _
    go_wp2_with fail
    go_meet
    exact ⟨_,_,_,_,Zbo HMB.out bR bK oR oK⟩
   ·skip
    go_simp
    refine hK.out _ _ (hHeld) (fun hHeld => ?_)
    clear hK K
    try simp only [Act.put,U00,U04,U05]
    refine U11 (rs:=[15]) (by kernel_rfl) (by simp) ?_
    refine U0s (o:={ dst:=some 19,op:=_,type:=_,pos:=_,after:=_,guard:=_ }) rfl (fun K hK => ?_) U0z
    go_simp
    go_at_call 96
    refine (HCR.out _ (by first | exact U01 _ _ | exact (U01 _ _).drew)).mono ?_
    rintro ev wR ⟨aR',cR',rfl,oR,bR⟩
    obtain ⟨r0,r7,r8,rf7,rf8⟩:=hfz.out wR bR
    go_simp
    refine hK.out _ _ (r0) (fun hHeld => ?_)
    clear hK K
    try simp only [Act.put,U00,U04,U05]
    refine U11 (rs:=[23]) (by kernel_rfl) (by simp) ?_
    refine U0s (o:={ dst:=some 27,op:=_,type:=_,pos:=_,after:=_,guard:=_ }) rfl (fun K hK => ?_) U0z
    go_simp
    go_at_call 96
    refine (HCK.out _ bR).mono ?_
    rintro ev wK ⟨aK',cK',rfl,oK,bK⟩
    obtain ⟨s0,s7,s8,sf7,sf8⟩:=hfz.out wK (bR.trans (bK.mono bR.size))
    go_simp
    refine hK.out _ _ (s0) (fun hHeld => ?_)
    clear hK K
    try simp only [Act.put,U00,U04,U05]
    refine U0h (i:=24) (oi:={ dst:=some 28,op:=_,type:=_,pos:=_,after:=_,guard:=_ }) (v:=?v24) rfl (by kernel_rfl) (by kernel_rfl) (by kernel_rfl) (fun _ _ _ h=>h) (Or.inl ⟨by rfl,?y24⟩) hHeld ?r24
    case y24=>(intro wz hSw;(try dsimp only at hSw);go_simp;try with_reducible rfl)
    case r24 =>
    try simp only [Act.put,U00,U04,U05]
    refine U0h (i:=25) (oi:={ dst:=some 29,op:=_,type:=_,pos:=_,after:=_,guard:=_ }) (v:=?v25) rfl (by kernel_rfl) (by kernel_rfl) (by kernel_rfl) (fun _ _ _ h=>h) (Or.inl ⟨by rfl,?y25⟩) hHeld ?r25
    case y25=>(intro wz hSw;(try dsimp only at hSw);go_simp;try with_reducible rfl)
    case r25 =>
    try simp only [Act.put,U00,U04,U05]
    refine U11 (rs:=[26]) (by kernel_rfl) (by simp) ?_
    refine U0s (o:={ dst:=none,op:=_,type:=_,pos:=_,after:=_,guard:=_ }) rfl (fun K hK => ?_) U0z
    go_simp
    refine hK.out _ _ (q0s hHeld) (fun hHeld => ?_)
    clear hK K
    try simp only [Act.put,U00,U04,U05]
    refine U0h (i:=27) (oi:={ dst:=some 30,op:=_,type:=_,pos:=_,after:=_,guard:=_ }) (v:=?v26) rfl (by kernel_rfl) (by kernel_rfl) (by kernel_rfl) (fun _ _ _ h=>h) (Or.inl ⟨by rfl,?y26⟩) hHeld ?r26
    case y26=>(intro wz hSw;(try dsimp only at hSw);go_simp;try with_reducible rfl)
    case r26 =>
    try simp only [Act.put,U00,U04,U05]
    refine U0h (i:=28) (oi:={ dst:=some 31,op:=_,type:=_,pos:=_,after:=_,guard:=_ }) (v:=?v27) rfl (by kernel_rfl) (by kernel_rfl) (by kernel_rfl) (fun _ _ _ h=>h) (Or.inl ⟨by rfl,?y27⟩) hHeld ?r27
    case y27=>(intro wz hSw;(try dsimp only at hSw);go_simp;try with_reducible rfl)
    case r27 =>
    try simp only [Act.put,U00,U04,U05]
    refine U11 (rs:=[29]) (by kernel_rfl) (by simp) ?_
    refine U0s (o:={ dst:=none,op:=_,type:=_,pos:=_,after:=_,guard:=_ }) rfl (fun K hK => ?_) U0z
    go_simp
    refine hK.out _ _ (q0s hHeld) (fun hHeld => ?_)
    clear hK K
    try simp only [Act.put,U00,U04,U05]
    refine U34 (by kernel_rfl) ?_ _
    go_wp2_with fail
    go_meet
    exact ⟨_,_,_,_,Zbo HMB.out bR bK oR oK⟩
  ·skip
   go_simp
   refine hK.out _ _ (hHeld) (fun hHeld => ?_)
   clear hK K
   try simp only [Act.put,U00,U04,U05]
   refine U11 (rs:=[14]) (by kernel_rfl) (by simp) ?_
   refine U0s (o:={ dst:=some 18,op:=_,type:=_,pos:=_,after:=_,guard:=_ }) rfl (fun K hK => ?_) U0z
   go_simp
   refine hK.out _ _ (hHeld) (fun hHeld => ?_)
   clear hK K
   try simp only [Act.put,U00,U04,U05]
   refine U11 (rs:=[15]) (by kernel_rfl) (by simp) ?_
   refine U0s (o:={ dst:=some 19,op:=_,type:=_,pos:=_,after:=_,guard:=_ }) rfl (fun K hK => ?_) U0z
   go_simp
   go_at_call 96
   refine (HCR.out _ (by first | exact U01 _ _ | exact (U01 _ _).drew)).mono ?_
   rintro ev wR ⟨aR',cR',rfl,oR,bR⟩
   obtain ⟨r0,r7,r8,rf7,rf8⟩:=hfz.out wR bR
   go_simp
   refine hK.out _ _ (r0) (fun hHeld => ?_)
   clear hK K
   try simp only [Act.put,U00,U04,U05]
   refine U11 (rs:=[23]) (by kernel_rfl) (by simp) ?_
   refine U0s (o:={ dst:=some 27,op:=_,type:=_,pos:=_,after:=_,guard:=_ }) rfl (fun K hK => ?_) U0z
   go_simp
   go_at_call 96
   refine (HCK.out _ bR).mono ?_
   rintro ev wK ⟨aK',cK',rfl,oK,bK⟩
   obtain ⟨s0,s7,s8,sf7,sf8⟩:=hfz.out wK (bR.trans (bK.mono bR.size))
   go_simp
   refine hK.out _ _ (s0) (fun hHeld => ?_)
   clear hK K
   try simp only [Act.put,U00,U04,U05]
   refine U0h (i:=24) (oi:={ dst:=some 28,op:=_,type:=_,pos:=_,after:=_,guard:=_ }) (v:=?v28) rfl (by kernel_rfl) (by kernel_rfl) (by kernel_rfl) (fun _ _ _ h=>h) (Or.inl ⟨by rfl,?y28⟩) hHeld ?r28
   case y28=>(intro wz hSw;(try dsimp only at hSw);go_simp;try with_reducible rfl)
   case r28 =>
   try simp only [Act.put,U00,U04,U05]
   refine U0h (i:=25) (oi:={ dst:=some 29,op:=_,type:=_,pos:=_,after:=_,guard:=_ }) (v:=?v29) rfl (by kernel_rfl) (by kernel_rfl) (by kernel_rfl) (fun _ _ _ h=>h) (Or.inl ⟨by rfl,?y29⟩) hHeld ?r29
   case y29=>(intro wz hSw;(try dsimp only at hSw);go_simp;try with_reducible rfl)
   case r29 =>
   try simp only [Act.put,U00,U04,U05]
   refine U11 (rs:=[26]) (by kernel_rfl) (by simp) ?_
   refine U0s (o:={ dst:=none,op:=_,type:=_,pos:=_,after:=_,guard:=_ }) rfl (fun K hK => ?_) U0z
   go_simp
   refine hK.out _ _ (q0s hHeld) (fun hHeld => ?_)
   clear hK K
   try simp only [Act.put,U00,U04,U05]
   refine U0h (i:=27) (oi:={ dst:=some 30,op:=_,type:=_,pos:=_,after:=_,guard:=_ }) (v:=?v30) rfl (by kernel_rfl) (by kernel_rfl) (by kernel_rfl) (fun _ _ _ h=>h) (Or.inl ⟨by rfl,?y30⟩) hHeld ?r30
   case y30=>(intro wz hSw;(try dsimp only at hSw);go_simp;try with_reducible rfl)
   case r30 =>
   try simp only [Act.put,U00,U04,U05]
   refine U0h (i:=28) (oi:={ dst:=some 31,op:=_,type:=_,pos:=_,after:=_,guard:=_ }) (v:=?v31) rfl (by kernel_rfl) (by kernel_rfl) (by kernel_rfl) (fun _ _ _ h=>h) (Or.inl ⟨by rfl,?y31⟩) hHeld ?r31
   case y31=>(intro wz hSw;(try dsimp only at hSw);go_simp;try with_reducible rfl)
   case r31 =>
   try simp only [Act.put,U00,U04,U05]
   refine U11 (rs:=[29]) (by kernel_rfl) (by simp) ?_
   refine U0s (o:={ dst:=none,op:=_,type:=_,pos:=_,after:=_,guard:=_ }) rfl (fun K hK => ?_) U0z
   go_simp
   refine hK.out _ _ (q0s hHeld) (fun hHeld => ?_)
   clear hK K
   try simp only [Act.put,U00,U04,U05]
   refine U34 (by kernel_rfl) ?_ _
   go_wp2_with fail
   go_meet
   exact ⟨_,_,_,_,Zbo HMB.out bR bK oR oK⟩
 case rest =>
  obtain ⟨aR',cR',aK',cK',hCR⟩:=hcut
  obtain ⟨w5,hw5⟩:∃ w5,w5=wc:=⟨_,rfl⟩
  subst hw5
  have HCC:=Z00 hCR
  have A5:Aside (Z7g p bW bC) w w5:=hCR.aside.mono (fun k hk=>Or.inl hk)
  have hnp:∀ k,B<=k -> ¬ Z7g p bW bC k:=fun k hk h=>by rcases h with h | h | h <;> omega
  have S5:=HSL.out.aside A5 (hnp q hqB) (hnp bm hmB) hnp
  have hszA:w.heap.size<=w5.heap.size:=A5.size
  obtain ⟨s0,s1,s2,s3,s4,s5⟩:=S5.cells
  have e7:w5.cell? ⟨p,7,none⟩=some (.slice aR' m.R.length cR'):=by have h:=hCR.mb;unfold MB at h;rw [U06 _ _ _ _ _ _ h];rfl
  have hRnew:∀ g,Z1n (.slice aR' m.R.length cR') g->w.heap.size<=g:=hCR.Rn
  have hKnew:∀ g,Z1n (.slice aK' m.K.length cK') g->w.heap.size<=g:=hCR.Kn
  have hbml:bm<w.heap.size:=HSL.out.map.lt
  have HRN:=Z00 hRnew
  have HKN:=Z00 hKnew
  have HNP:=Z00 hnp
  have HA5:=Z00 A5
  have HS5:=Z00 S5
  -- Roots follow
  have HSR:Hid (∀ W,Aside (Z1n (.slice aR' m.R.length cR')) w5 W->W.cell? ⟨q,0,none⟩=some (.pointer (some ⟨p,0,none⟩))/\W.cell? ⟨q,1,none⟩=some (.int .i64 0)/\W.cell? ⟨q,2,none⟩=some (.int .i64 (m.W.length:Int))/\W.cell? ⟨q,3,none⟩=some (.map (some bm))/\W.cell? ⟨p,7,none⟩=some (.slice aR' m.R.length cR')):=fun W ha=>by
   have nq:¬ Z1n (.slice aR' m.R.length cR') q:=fun h=>by have:=hRnew q h;omega
   have np:¬ Z1n (.slice aR' m.R.length cR') p:=fun h=>by have:=hRnew p h;omega
   exact ⟨ha.cell s0 nq,ha.cell s1 nq,ha.cell s2 nq,ha.cell s3 nq,ha.cell e7 np⟩
  have HSR0:=Z00 (HSR.out w5 (Aside.refl _ _))
  have HKF:Hid (∀ W,Below w5.heap.size w5 W->Calls prog 208 #[.agg #[.int .i64 0,.int .i64 (m.W.length:Int),.map (some bm)],.slice aR' m.R.length cR'] W fun ev w'=>ev = .returned (.tuple #[])/\Z20 81 1 (.slice aR' m.R.length cR') m.R.length (Z05 (m.R.map fun x=>(Z0g 0 m.W.length φ x).1)) w'/\Aside (Z1n (.slice aR' m.R.length cR')) w5 w'):=fun W hW=>by
   refine (Zao a 0 m.W.length bm n D φ (.slice aR' m.R.length cR') m.R W hW3 HX.out.few hlR HX.out.h64.r ((HS5.out.below hW).map) HWe.out (fun h=>by have:=hRnew bm h;omega) (fun w' ha=>HE.out w' ((HA5.out.trans (Aside.of_below hW)).join ha (fun k hk hk2=>by have:=hRnew k hk2;omega))) (HCC.out.R.below hW)).mono ?_
   rintro ev w' ⟨rfl,h1,h2,_⟩
   exact ⟨rfl,h1,(Aside.of_below hW).trans h2⟩
  clear hCR A5 S5 s0 s1 s2 s3 s4 s5 e7 hRnew hKnew hnp q0 q0s q0d c7 c8 hfz HCR HCK f7 f8
  go_upto_region 1 with fail
  go_cut [] from 32 to 44 (fun wx=>Hid (Z20 81 1 (.slice aR' m.R.length cR') m.R.length (Z05 (m.R.map fun x=>(Z0g 0 m.W.length φ x).1)) wx)/\Hid (Aside (Z1n (.slice aR' m.R.length cR')) w5 wx))
  case first =>
   go_region_held3 (fun W=>W.cell? ⟨q,0,none⟩=some (.pointer (some ⟨p,0,none⟩))/\W.cell? ⟨q,1,none⟩=some (.int .i64 0)/\W.cell? ⟨q,2,none⟩=some (.int .i64 (m.W.length:Int))/\W.cell? ⟨q,3,none⟩=some (.map (some bm))/\W.cell? ⟨p,7,none⟩=some (.slice aR' m.R.length cR')) (first | with_reducible exact HSR0.out | with_reducible exact HSR.out _ hA6 | exact HSR0.out) (first | (go_at_call 208;refine (HKF.out _ (by first | exact U01 _ _ | exact (U01 _ _).drew)).mono ?_;rintro ev w6 ⟨rfl,hR6,hA6⟩))
   all_goals go_wp2_with fail
   all_goals go_meet
   all_goals exact ⟨hR6,hA6⟩
  case rest =>
  obtain ⟨hR6,hA6⟩:=hcut
  obtain ⟨w6,hw6⟩:∃ w6,w6=wc:=⟨_,rfl⟩
  subst hw6
  clear HSR HSR0 HKF
  have A6:Aside (Z7g p bW bC) w w6:=HA5.out.join hA6.out (fun k hk hk2=>by have:=HRN.out k hk2;omega)
  have S6:=HSL.out.aside A6 (HNP.out q hqB) (HNP.out bm hmB) HNP.out
  obtain ⟨s0,s1,s2,s3,s4,s5⟩:=S6.cells
  have mb6:MB p m.half m.old m.card m.used m.top m.oldTop (.slice (some ⟨bW,0,none⟩) m.W.length cW) (.slice aR' m.R.length cR') (.slice aK' m.K.length cK') vI (.slice (some ⟨bC,0,none⟩) m.C.length cC) w6:=(hA6.out.block p (Z01 HCC.out.mb) (fun h=>by have:=HRN.out p h;omega)).trans HCC.out.mb
  have K6:Z20 81 1 (.slice aK' m.K.length cK') m.K.length (Z05 m.K) w6:=HCC.out.K.aside hA6.out (fun g hg h=>HCC.out.ne g h hg)
  have OK6:Hid (w6.ownsRow w.heap.size 81 1 (.slice aK' m.K.length cK') m.K.length (Z05 m.K)):=Z04 HCC.out.oK (fun k hk=>hA6.out.block k (Z08 HCC.out.oK k hk).2 (fun h=>HCC.out.rk k h hk))
  have hI0:=Z8d HH.out
  have I6:Z20 123 2 vI m.I.length (Z2e m.I) w6:=HH.out.I.aside A6 (fun g hg h=>by
   have h1:=hI0 g hg
   rcases h with h | h | h
   ·exact h1.2.1 h
   ·exact h1.2.2.1 h
   ·exact h1.2.2.2 h)
  have HA6:=Z00 A6
  have HKW:Hid (∀ W,Below w6.heap.size w6 W->Calls prog 204 #[.agg #[.int .i64 0,.int .i64 (m.W.length:Int),.map (some bm)],.pointer (some ⟨p,0,none⟩)] W fun ev w'=>ev = .returned (.tuple #[]) /\ ∃ v',MB p m.half m.old m.card m.used m.top m.oldTop (.slice (some ⟨bW,0,none⟩) m.W.length cW) (.slice aR' m.R.length cR') (.slice aK' m.K.length cK') v' (.slice (some ⟨bC,0,none⟩) m.C.length cC) w'/\Z20 81 1 (.slice aK' m.K.length cK') m.K.length (Z05 (m.K.map fun x=>(Z0g 0 m.W.length φ x).1)) w'/\Z20 123 2 v' (Z32 (Z0g 0 m.W.length φ) m.I).length (Z2e (Z32 (Z0g 0 m.W.length φ) m.I)) w'/\(∀ g,Z1n v' g->w6.heap.size<=g)/\Aside (fun k=>k=p\/Z1n (.slice aK' m.K.length cK') k) w6 w'/\Z1e w6 w'/\w'.ownsRow w6.heap.size 123 2 v' (Z32 (Z0g 0 m.W.length φ) m.I).length (Z2e (Z32 (Z0g 0 m.W.length φ) m.I))):=fun W hW=>by
   refine (Zas a 0 m.W.length bm n p m.half m.old m.card m.used m.top m.oldTop _ _ _ vI _ D φ m.K m.I W hW3 HX.out.few hlK HX.out.h64.k hlI HX.out.h64.i ((S6.below hW).map) HWe.out (fun h=>by have:=HKN.out bm h;omega) (fun g hg=>⟨fun h=>by have:=HKN.out g h;have:=(hI0 g hg).1;omega,(hI0 g hg).2.1⟩) (fun h=>by have:=HKN.out p h;omega) (fun w' ha=>HE.out w' ((A6.trans (Aside.of_below hW)).join ha (fun k hk hk2=>by
    rcases hk2 with h | h
    ·exact Or.inl h
    ·have:=HKN.out k h;omega))) ((hW.block p (Z01 mb6)).trans mb6) (K6.below hW) (I6.below hW)).mono ?_
   rintro ev w' ⟨rfl,v',h1,h2,h3,h4,h5,h6,h7⟩
   exact ⟨rfl,v',h1,h2,h3,fun g hg=>U0n hW.size (h4 g hg),(Aside.of_below hW).trans h5,(Z1e.of_below hW).trans h6,⟨h7.1,by rcases h7.2 with h | ⟨g,cap,cur,y1,y2,y3⟩;exact .inl h;exact .inr ⟨g,cap,cur,y1,U0n hW.size y2,y3⟩⟩⟩
  have HSW:Hid (∀ W,Aside (fun k=>k=p\/Z1n (.slice aK' m.K.length cK') k) w6 W->W.cell? ⟨q,0,none⟩=some (.pointer (some ⟨p,0,none⟩))/\W.cell? ⟨q,1,none⟩=some (.int .i64 0)/\W.cell? ⟨q,2,none⟩=some (.int .i64 (m.W.length:Int))/\W.cell? ⟨q,3,none⟩=some (.map (some bm))):=fun W ha=>by
   have nq:¬ (q=p\/Z1n (.slice aK' m.K.length cK') q):=fun h=>by
    rcases h with h | h
    ·omega
    ·have:=HKN.out q h;omega
   exact ⟨ha.cell s0 nq,ha.cell s1 nq,ha.cell s2 nq,ha.cell s3 nq⟩
  have HSW0:=Z00 (HSW.out w6 (Aside.refl _ _))
  clear A6 S6 s0 s1 s2 s3 s4 s5 mb6 K6 I6
  go_upto_region 2 with fail
  go_cut [] from 44 to 53 (fun wx => ∃ v',Hid (MB p m.half m.old m.card m.used m.top m.oldTop (.slice (some ⟨bW,0,none⟩) m.W.length cW) (.slice aR' m.R.length cR') (.slice aK' m.K.length cK') v' (.slice (some ⟨bC,0,none⟩) m.C.length cC) wx)/\Hid (Z20 81 1 (.slice aK' m.K.length cK') m.K.length (Z05 (m.K.map fun x=>(Z0g 0 m.W.length φ x).1)) wx)/\Hid (Z20 123 2 v' (Z32 (Z0g 0 m.W.length φ) m.I).length (Z2e (Z32 (Z0g 0 m.W.length φ) m.I)) wx)/\Hid (∀ g,Z1n v' g->w6.heap.size<=g)/\Hid (Aside (fun k=>k=p\/Z1n (.slice aK' m.K.length cK') k) w6 wx)/\Hid (Z1e w6 wx)/\Hid (wx.ownsRow w6.heap.size 123 2 v' (Z32 (Z0g 0 m.W.length φ) m.I).length (Z2e (Z32 (Z0g 0 m.W.length φ) m.I))))
  case first =>
   go_region_held3 (fun W=>W.cell? ⟨q,0,none⟩=some (.pointer (some ⟨p,0,none⟩))/\W.cell? ⟨q,1,none⟩=some (.int .i64 0)/\W.cell? ⟨q,2,none⟩=some (.int .i64 (m.W.length:Int))/\W.cell? ⟨q,3,none⟩=some (.map (some bm))) (first | with_reducible exact HSW0.out | with_reducible exact HSW.out _ hA7 | exact HSW0.out) (first | (go_at_call 204;refine (HKW.out _ (by first | exact U01 _ _ | exact (U01 _ _).drew)).mono ?_;rintro ev w7 ⟨rfl,v',hM7,hK7,hI7,hv7,hA7,hZ7,hO7⟩))
   all_goals go_wp2_with fail
   all_goals go_meet
   all_goals exact ⟨v',hM7,hK7,hI7,hv7,hA7,hZ7,hO7⟩
  case rest =>
  obtain ⟨v',hM7,hK7,hI7,hv7,hA7,hZ7,hO7⟩:=hcut
  obtain ⟨w7,hw7⟩:∃ w7,w7=wc:=⟨_,rfl⟩
  subst hw7
  clear HSW HSW0 HKW
  have OK7:Hid (w7.ownsRow w.heap.size 81 1 (.slice aK' m.K.length cK') m.K.length (Z05 (m.K.map fun x=>(Z0g 0 m.W.length φ x).1))):=Zgt OK6.out hZ7.out hK7.out
  have A7:Aside (Z7g p bW bC) w w7:=HA6.out.join hA7.out (fun k hk hk2=>by
   rcases hk2 with h | h
   ·exact Or.inl h
   ·have:=HKN.out k h;omega)
  have S7:=HSL.out.aside A7 (HNP.out q hqB) (HNP.out bm hmB) HNP.out
  have HS7:=Z00 S7
  have HA7:=Z00 A7
  obtain ⟨hne1,hne2,hne3⟩:=HH.out.ne
  have hWlt:bW<w.heap.size:=HH.out.hW.lt
  have hClt:bC<w.heap.size:=HH.out.hC.lt
  have hKW7:¬ (bW=p\/Z1n (.slice aK' m.K.length cK') bW):=fun h=>by
   rcases h with h | h
   ·exact hne1 h
   ·have:=HKN.out bW h;omega
  have hKC7:¬ (bC=p\/Z1n (.slice aK' m.K.length cK') bC):=fun h=>by
   rcases h with h | h
   ·exact hne2 h
   ·have:=HKN.out bC h;omega
  have W5:Blk bW 81 (Z05 m.W) w5:=HH.out.hW.aside HCC.out.aside hne1
  have C5:Blk bC 4 (Z0s m.C) w5:=HH.out.hC.aside HCC.out.aside hne2
  have W7:Blk bW 81 (Z05 m.W) w7:=(W5.aside hA6.out (fun h=>by have:=HRN.out bW h;omega)).aside hA7.out hKW7
  have HC7:Hid (Blk bC 4 (Z0s m.C) w7):=(C5.aside hA6.out (fun h=>by have:=HRN.out bC h;omega)).aside hA7.out hKC7
  have HR7:Hid (Z20 81 1 (.slice aR' m.R.length cR') m.R.length (Z05 (m.R.map fun x=>(Z0g 0 m.W.length φ x).1)) w7):=hR6.out.aside hA7.out (fun g hg h=>by
   rcases h with h | h
   ·have:=HRN.out g hg;omega
   ·exact HCC.out.ne g hg h)
  obtain ⟨s0,s1,s2,s3,s4,s5⟩:=S7.cells
  obtain ⟨aM,cM,rfl⟩:=Z2w S7.row
  obtain ⟨hRM,hMB⟩:=Z20.of_own S7.row
  have p3:w7.cell? ⟨p,3,none⟩=some (.slice (some ⟨bW,0,none⟩) m.W.length cW):=by have h:=hM7.out;unfold MB at h;rw [U06 _ _ _ _ _ _ h];rfl
  have HCA:Hid (CarAt p q bm m.W.length bW cW m.W w7):=⟨s0,s1,s2,s3,p3,W7⟩
  have HW0:Hid (Blk bW 81 (Z05 (Z17 m.W.length φ m.W (P.take 0))) w7):=W7
  have HRM:=Z00 hRM
  have HMB':=Z00 hMB
  have hq7:q<w7.heap.size:=Z01 S7.blk
  have hp7:p<w7.heap.size:=Z01 hM7.out
  have hb7:bW<w7.heap.size:=W7.lt
  have hqbW:¬ q=bW:=by omega
  have hpbW:¬ p=bW:=fun e=>hne1 e.symm
  have hmbW:bm≠bW:=by omega
  have hcap:m.W.length<=cW:=HH.out.cap
  clear A7 S7 W5 C5 W7 s1 s2 s3 hRM hMB p3 hKW7 hKC7 hA6 hR6 hA7
  go_wp2_with fail
  go_loopg [3,58] (P.length+1) (fun gk v3 v58 wr => ∃ i:Nat,gk=P.length+1 - i/\i<=P.length/\v58 = .int .i64 (i:Int)/\Hid (Aside (· = bW) w7 wr)/\Hid (Blk bW 81 (Z05 (Z17 m.W.length φ m.W (P.take i))) wr))
  case atStart=>exact ⟨0,rfl,U0x _,rfl,Aside.refl _ _,HW0⟩
  case round =>
   obtain ⟨i,hgk,hi',rfl,hAr,hBr⟩:=hrel
   have HGK:=Z00 hgk
   clear hgk HW0
   have hi0:(0:Int)<=(i:Int):=by omega
   by_cases hlt:i<P.length
   ·have hI:(i:Int)<(P.length:Int):=by omega
    obtain ⟨⟨f,t⟩,hft⟩:∃ x,P[i]?=some x:=⟨_,U03 hlt⟩
    obtain ⟨o1,o2,o3,o4,o5,o6⟩:=HX.out.one hft
    have o3:(Z17 m.W.length φ m.W (P.take i)).getD f 0=m.F f:=o3
    have o4:f+(1+szN (m.F f))<=m.W.length:=o4
    have o5:t+(1+szN (m.F f))<=m.W.length:=o5
    have o6:Z0t (m.F f)=true:=o6
    obtain ⟨x,hx⟩:∃ x,x=m.F f:=⟨_,rfl⟩
    rw [<-hx] at o4 o5 o6
    obtain ⟨sz,hsz⟩:∃ sz,sz=szN x:=⟨_,rfl⟩
    rw [<-hsz] at o4 o5
    have hx0:0<=x:=by rw [hx];exact (HX.out.range f).1
    have hs65:(sz:Int)=x / 65536:=by rw [hsz];unfold szN;omega
    obtain ⟨wa,hwa⟩:∃ wa,wa=wr.alloc (.cells #[.int .i64 (f:Int),.int .i64 (t:Int),.int .i64 (x / 4 % 256),.int .i64 (x / 1024 % 16),.int .i64 (x / 16384 % 2),.int .i64 (sz:Int)] 289):=⟨_,rfl⟩
    obtain ⟨bv,hbv⟩:∃ bv,bv=wr.heap.size:=⟨_,rfl⟩
    have na:wa.heap[bv]?=some (.cells #[.int .i64 (f:Int),.int .i64 (t:Int),.int .i64 (x / 4 % 256),.int .i64 (x / 1024 % 16),.int .i64 (x / 16384 % 2),.int .i64 (sz:Int)] 289):=by rw [hwa,hbv];exact U0b _ _
    have ba:Below wr.heap.size wr wa:=by rw [hwa];exact (U01 _ _).alloc (U02 _) _
    have hAa:Aside (· = bW) w7 wa:=hAr.out.trans (Aside.of_below ba)
    have hCr:CarAt p q bm m.W.length bW cW (Z17 m.W.length φ m.W (P.take i)) wa:=by
     have h:=HCA.out
     exact ⟨hAa.cell h.c0 hqbW,hAa.cell h.c1 hqbW,hAa.cell h.c2 hqbW,hAa.cell h.c3 hqbW,hAa.cell h.p3 hpbW,hBr.out.below ba⟩
    have hMr:wa.ownsMap prog 3 (plainElem prog 3) bm n D:=Z0f HS7.out.map hAa hmbW
    have kc:=Zkf a p q bm m.W.length bW cW f t sz n x (Z17 m.W.length φ m.W (P.take i)) D φ wa hCr o1 hW3 hcap o2 o6 hx0 hs65 o4 o5 (U0r hq7 hAa.size) (U0r hb7 hAa.size) hqbW hpbW hmbW HX.out.few hMr HWe.out (fun w' ha=>HE.out w' (HA7.out.join (hAa.trans ha) (fun k _ hk=>Or.inr (Or.inl hk))))
    have HNX:Hid (Z17 m.W.length φ m.W (P.take (i+1))=Z2g m.W.length φ (Z17 m.W.length φ m.W (P.take i)) f t x):=by
     show _=_
     rw [U1g,hft]
     show Z17 m.W.length φ m.W (P.take i ++ [(f,t)])=_
     rw [Z8x]
     show Z2g _ _ _ f t ((Z17 m.W.length φ m.W (P.take i)).getD f 0)=_
     rw [o3,hx]
    obtain ⟨_,_,e9,_,_,f9⟩:=HRM.out
    cases e9
    obtain ⟨gM,rfl,hbM⟩:=f9 (by omega)
    have hgM:B<=gM:=HMB'.out gM ⟨0,_,_,by omega,rfl⟩
    have hbMr:=hbM.aside hAr.out (fun h=>by have h:gM=bW:=h;omega)
    have r0:wr.cell? ⟨gM,i*6,none⟩=some (.int .i64 (f:Int)):=hbMr.cell (by have:=Z4n (F:=m.F) hft 0 (by omega);rw [Nat.add_zero] at this;exact this)
    have r1:wr.cell? ⟨gM,i*6+1,none⟩=some (.int .i64 (t:Int)):=hbMr.cell (Z4n (F:=m.F) hft 1 (by omega))
    have r2:wr.cell? ⟨gM,i*6+2,none⟩=some (.int .i64 (x / 4 % 256)):=by rw [hx];exact hbMr.cell (Z4n (F:=m.F) hft 2 (by omega))
    have r3:wr.cell? ⟨gM,i*6+3,none⟩=some (.int .i64 (x / 1024 % 16)):=by rw [hx];exact hbMr.cell (Z4n (F:=m.F) hft 3 (by omega))
    have r4:wr.cell? ⟨gM,i*6+4,none⟩=some (.int .i64 (x / 16384 % 2)):=by rw [hx];exact hbMr.cell (Z4n (F:=m.F) hft 4 (by omega))
    have r5:wr.cell? ⟨gM,i*6+5,none⟩=some (.int .i64 (sz:Int)):=by rw [hs65,hx];exact hbMr.cell (Z4n (F:=m.F) hft 5 (by omega))
    generalize x / 4 % 256=g2 at r2 kc na hwa
    generalize x / 1024 % 16=g3 at r3 kc na hwa
    generalize x / 16384 % 2=g4 at r4 kc na hwa
    have HWa:=Z00 hwa
    have HBv:=Z00 hbv
    have HNa:=Z00 na
    have HAa:=Z00 hAa
    clear f9 hbM hbMr hft o1 o2 o3 o4 o5 o6 hx hsz hx0 hs65 hCr hMr hwa hbv na hAa ba
    go_upto_region 6 with fail
    rw [<-HWa.out,<-HBv.out]
    have a0:wa.cell? ⟨bv,0,none⟩=some (.int .i64 (f:Int)):=by rw [U06 _ _ _ _ _ _ HNa.out];rfl
    have a1:wa.cell? ⟨bv,1,none⟩=some (.int .i64 (t:Int)):=by rw [U06 _ _ _ _ _ _ HNa.out];rfl
    have a2:wa.cell? ⟨bv,2,none⟩=some (.int .i64 g2):=by rw [U06 _ _ _ _ _ _ HNa.out];rfl
    have a3:wa.cell? ⟨bv,3,none⟩=some (.int .i64 g3):=by rw [U06 _ _ _ _ _ _ HNa.out];rfl
    have a4:wa.cell? ⟨bv,4,none⟩=some (.int .i64 g4):=by rw [U06 _ _ _ _ _ _ HNa.out];rfl
    have a5:wa.cell? ⟨bv,5,none⟩=some (.int .i64 (sz:Int)):=by rw [U06 _ _ _ _ _ _ HNa.out];rfl
    clear HWa HBv r0 r1 r2 r3 r4 r5
    go_wp2_with fail
    refine kc.mono ?_
    clear kc
    rintro ev w8 ⟨rfl,hB8,hA8⟩
    have HB8:Hid (Blk bW 81 (Z05 (Z17 m.W.length φ m.W (P.take (i+1)))) w8):=by rw [HNX.out];exact hB8
    have HA8:Hid (Aside (· = bW) w7 w8):=HAa.out.trans hA8
    clear hB8 hA8 a0 a1 a2 a3 a4 a5
    go_wp2_with fail
    go_roundg (P.length+1 - (i+1))
    case measure=>have:=HGK.out;omega
    case rel=>exact ⟨i+1,rfl,by omega,by go_num,HA8,HB8⟩
   ·have hI:¬ (i:Int)<(P.length:Int):=by omega
    obtain rfl:i=P.length:=by omega
    rw [U3y] at hBr
    have hmr:MB p m.half m.old m.card m.used m.top m.oldTop (.slice (some ⟨bW,0,none⟩) m.W.length cW) (.slice aR' m.R.length cR') (.slice aK' m.K.length cK') v' (.slice (some ⟨bC,0,none⟩) m.C.length cC) wr:=(hAr.out.block p hp7 hpbW).trans hM7.out
    have t0:=hAr.out.cell s0 hqbW
    have t5:=hAr.out.cell s5 hqbW
    have hC0:0<m.C.length:=(Zoz HX.out.S)
    obtain ⟨w9,hcl,hC9,a9⟩:=Zco (cC:=cC) (HC7.out.aside hAr.out (fun h=>hne3 h.symm):Blk bC 4 (Z0s m.C) wr) hC0
    have d10:wr.cell? ⟨p,10,none⟩=some (.slice (some ⟨bC,0,none⟩) m.C.length cC):=by unfold MB at hmr;rw [U06 _ _ _ _ _ _ hmr];rfl
    have hm9:MB p m.half m.old m.card m.used m.top m.oldTop (.slice (some ⟨bW,0,none⟩) m.W.length cW) (.slice aR' m.R.length cR') (.slice aK' m.K.length cK') v' (.slice (some ⟨bC,0,none⟩) m.C.length cC) w9:=(a9.block p (Z01 hmr) (fun h=>hne2 (show bC=p from h.symm))).trans hmr
    have hqC:¬ q=bC:=by omega
    have u0:=a9.cell t0 hqC
    have u5:=a9.cell t5 hqC
    have hX9:Aside (fun k=>k=bW\/k=bC) w7 w9:=(hAr.out.mono (fun k hk=>Or.inl hk)).trans (a9.mono (fun k hk=>Or.inr hk))
    have HA9:=Z00 hX9
    have HM9:=Z00 hm9
    have HC9:=Z00 hC9
    have HB9:Hid (Blk bW 81 (Z05 (Z17 m.W.length φ m.W P)) w9):=hBr.out.aside a9 hne3
    clear hmr hm9 hC9 hX9 a9 hBr
    have g2:IntKind.i64.wrap ((e:Int) - (m.m0:Int))=(e:Int) - (m.m0:Int):=by
     have:=HX.out.e
     exact Z18 _ (by omega) (by omega)
    have hm0i:(m.m0:Int)=2*m.half:=by rw [hm0,hhe];omega
    have HM0i:=Z00 hm0i
    clear hm0 hhe hm0i
    have HOF:Hid (∀ W,Below w9.heap.size w9 W->Calls prog 205 #[.pointer (some ⟨p,0,none⟩)] W fun ev w'=>ev = .returned (.int .i64 (m.m0:Int))/\w'=W):=fun W hW=>Z50 p m.m0 m.half HM0i.out (by omega) W (by
     have h:=(hW.block p (Z01 HM9.out)).trans HM9.out
     unfold MB at h
     rw [U06 _ _ _ _ _ _ h];rfl)
    have HSa:Hid (∀ W,Aside (· = p) w9 W->W.cell? ⟨q,0,none⟩=some (.pointer (some ⟨p,0,none⟩))/\W.cell? ⟨q,5,none⟩=some (.int .i64 (e:Int))):=fun W ha=>⟨ha.cell u0 (show ¬ q=p by omega),ha.cell u5 (show ¬ q=p by omega)⟩
    have HSq:Hid (w9.drew.cell? ⟨q,0,none⟩=some (.pointer (some ⟨p,0,none⟩))/\w9.drew.cell? ⟨q,5,none⟩=some (.int .i64 (e:Int))):=⟨u0,u5⟩
    have aD:Aside (· = p) w9 w9.drew:=Aside.of_below (U01 _ _).drew
    have HAD:=Z00 aD
    have hmd:MB p m.half m.old m.card m.used m.top m.oldTop (.slice (some ⟨bW,0,none⟩) m.W.length cW) (.slice aR' m.R.length cR') (.slice aK' m.K.length cK') v' (.slice (some ⟨bC,0,none⟩) m.C.length cC) w9.drew:=HM9.out
    unfold MB at hmd
    have p5:w9.drew.cell? ⟨p,5,none⟩=some (.int .i64 m.top):=by rw [U06 _ _ _ _ _ _ hmd];rfl
    have p6:w9.drew.cell? ⟨p,6,none⟩=some (.int .i64 m.oldTop):=by rw [U06 _ _ _ _ _ _ hmd];rfl
    have pf5:w9.drew.frozen? ⟨p,5,none⟩=false:=by simp [World.frozen?,hmd]
    have pf6:w9.drew.frozen? ⟨p,6,none⟩=false:=by simp [World.frozen?,hmd]
    have p5':w9.cell? ⟨p,5,none⟩=some (.int .i64 m.top):=p5
    have p6':w9.cell? ⟨p,6,none⟩=some (.int .i64 m.oldTop):=p6
    have pf5':w9.frozen? ⟨p,5,none⟩=false:=pf5
    have pf6':w9.frozen? ⟨p,6,none⟩=false:=pf6
    have HFin:Hid (Z1i p bW bC cW cC m φ P e w ((w9.setCell ⟨p,5,none⟩ (.int .i64 0)).setCell ⟨p,6,none⟩ (.int .i64 ((e:Int) - (m.m0:Int))))):=by
     obtain ⟨wf,hwf⟩:∃ wf,wf=(w9.setCell ⟨p,5,none⟩ (.int .i64 0)).setCell ⟨p,6,none⟩ (.int .i64 ((e:Int) - (m.m0:Int))):=⟨_,rfl⟩
     have af:Aside (· = p) w9 wf:=by rw [hwf];exact Aside.setCell (g:=p) (Aside.setCell (X:=fun k=>k=p) (g:=p) (Aside.refl _ _) rfl _) rfl _
     have l9:=HX.out.fin.len
     have hRp:∀ g,Z1n (.slice aR' m.R.length cR') g -> ¬ (g=bW\/g=bC)/\g≠p:=fun g hg=>by have:=HRN.out g hg;omega
     have hKp:∀ g,Z1n (.slice aK' m.K.length cK') g -> ¬ (g=bW\/g=bC)/\g≠p:=fun g hg=>by have:=HKN.out g hg;omega
     have h67:w.heap.size<=w6.heap.size:=HA6.out.size
     have hIp:∀ g,Z1n v' g -> ¬ (g=bW\/g=bC)/\g≠p:=fun g hg=>by have:=hv7.out g hg;omega
     show Z1i _ _ _ _ _ _ _ _ _ _ _
     rw [<-hwf]
     refine ⟨.slice aR' m.R.length cR',.slice aK' m.K.length cK',v',⟨?_,HB9.out.aside af hne1,HC9.out.aside af hne2,?_,?_,?_,?_,?_⟩,?_,?_⟩
     ·have h:=HM9.out
      unfold MB at h ⊢
      rw [hwf,Z06 (Z06 h)]
      show some (Obj.cells _ _ _)=some (Obj.cells _ _ _)
      have q1:(Zmf m φ (Z17 m.W.length φ m.W P) e).W.length=m.W.length:=l9
      have q2:(Zmf m φ (Z17 m.W.length φ m.W P) e).C.length=m.C.length:=U17 ..
      rw [q1,q2]
      rfl
     ·show (Z17 m.W.length φ m.W P).length<=cW
      rw [l9];exact hcap
     ·show (List.replicate m.C.length false).length<=cC
      rw [U17];exact HH.out.capC
     ·show Z4g wf _ (m.R.map _).length (Z05 (m.R.map _))
      rw [U0v]
      exact Z78 ((HR7.out.aside HA9.out (fun g hg=>(hRp g hg).1)).aside af (fun g hg=>(hRp g hg).2))
     ·show Z4g wf _ (m.K.map _).length (Z05 (m.K.map _))
      rw [U0v]
      exact Z78 ((hK7.out.aside HA9.out (fun g hg=>(hKp g hg).1)).aside af (fun g hg=>(hKp g hg).2))
     ·exact (hI7.out.aside HA9.out (fun g hg=>(hIp g hg).1)).aside af (fun g hg=>(hIp g hg).2)
     ·exact (HA7.out.join HA9.out (fun k _ hk=>Or.inr hk)).join af (fun k _ hk=>Or.inl hk)
     ·have hfar:∀ k,w.heap.size<=k->k<w7.heap.size->wf.heap[k]?=w7.heap[k]?:=fun k hk hk7=>(af.block k (U0r hk7 HA9.out.size) (fun h=>by have h:k=p:=h;omega)).trans (HA9.out.block k hk7 (fun h=>by omega))
      refine ⟨?_,HRN.out,?_,?_,HCC.out.rk⟩
      ·show Z20 81 1 _ (m.R.map _).length (Z05 (m.R.map _)) wf
       rw [U0v]
       exact (HR7.out.aside HA9.out (fun g hg=>(hRp g hg).1)).aside af (fun g hg=>(hRp g hg).2)
      ·show wf.ownsRow w.heap.size 81 1 _ (m.K.map _).length (Z05 (m.K.map _))
       rw [U0v]
       exact Z04 OK7.out (fun k hk=>by have h:=Z08 OK7.out k hk;exact hfar k h.1 h.2)
      ·have h1:=Z04 (w':=wf) hO7.out (fun k hk=>by have h:=Z08 hO7.out k hk;exact hfar k (U0n h67 h.1) h.2)
       refine ⟨h1.1,?_⟩
       rcases h1.2 with h | ⟨g,cap,cur,y1,y2,y3⟩
       ·exact .inl h
       ·exact .inr ⟨g,cap,cur,y1,U0n h67 y2,y3⟩
    clear hmd t5 s0 s4 s5 aD
    go_upto_region 9 with fail
    clear t0 d10 hcl p5 p6 pf5 pf6
    go_region_held3 (fun W=>W.cell? ⟨q,0,none⟩=some (.pointer (some ⟨p,0,none⟩))/\W.cell? ⟨q,5,none⟩=some (.int .i64 (e:Int))) (first | with_reducible exact HSq.out | (refine HSa.out _ ?_;first | exact HAD.out | exact Aside.setCell (g:=p) HAD.out rfl _ | exact Aside.setCell (g:=p) (Aside.setCell (g:=p) HAD.out rfl _) rfl _)) (first | (go_at_call 205;refine (HOF.out _ (by first | exact U01 _ _ | exact (U01 _ _).drew)).mono ?_;rintro ev wz ⟨rfl,rfl⟩))
    all_goals go_wp2_with fail
    all_goals go_end0
    all_goals first | exact ⟨rfl,HFin.out.drew⟩ | exact ⟨rfl,HFin.out⟩
end
end Go.Proofs.YtlkcbdinlfeoiaaGreatDoor
