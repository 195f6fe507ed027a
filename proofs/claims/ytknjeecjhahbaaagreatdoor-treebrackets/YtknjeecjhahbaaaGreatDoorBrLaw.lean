/- The law TreeBrackets, by a walk. -/
import Derived.Test.YtknjeecjhahbaaaGreatDoorTextR
import Derived.Test.YtknjeecjhahbaaaGreatDoorReadC
import Derived.Test.YtknjeecjhahbaaaGreatDoorPassC
import Derived.Test.YtknjeecjhahbaaaGreatDoorBaU
import Derived.Test.YtknjeecjhahbaaaGreatDoorBbB
import Derived.Test.YtknjeecjhahbaaaGreatDoorWeiA
import Derived.Test.YtknjeecjhahbaaaGreatDoorBbE
import Derived.Laws.Concat
set_option linter.all false
namespace Go.Proofs.YtknjeecjhahbaaaGreatDoor
open Go.RowKit

theorem faultedAt_fault (a:Nat→Addr) (k:Nat) (hk:k<7) (pb po:Nat) (at_:Int) (w:World) (E:Errs a w) (hat:w.cell? ⟨pb,po,none⟩=some (.int .i64 at_)) (her:w.cell? ⟨pb,po+1,none⟩=some (.iface 199 (.pointer (some (a k))))) :
  Calls Tryz.prog 21 #[.iface 59 (.pointer (some ⟨pb,po,none⟩))] w fun ev w'=>ev = .returned (.int .i64 (k+1))∧Below w.heap.size w w':=by
 have h:=code_fault a k hk pb po at_ w E hat her
 go_enter Tryz.func21,Tryz.ntmps21
 go_wp2_with fail
 refine h.mono ?_
 rintro ev w1 ⟨rfl,hb⟩
 go_wp2
 go_ret
 exact ⟨rfl,hb⟩
theorem coded2_bound (a:Nat→Addr) (pb po:Nat) (at_:Int) (w:World) (E:Errs a w) (hat:w.cell? ⟨pb,po,none⟩=some (.int .i64 at_)) (her:w.cell? ⟨pb,po+1,none⟩=some (.iface 199 (.pointer (some (a 1))))) :
  Calls Tryz.prog 10 #[.iface 59 (.pointer (some ⟨pb,po,none⟩)),.int .i64 2] w fun ev w'=>ev = .returned (.bool true)∧Below w.heap.size w w':=by
 have h:=faultedAt_fault a 1 (by decide) pb po at_ w E hat her
 go_enter Tryz.func10,Tryz.ntmps10
 go_wp2_with fail
 refine h.mono ?_
 rintro ev w1 ⟨rfl,hb⟩
 go_wp2
 go_ret
 exact ⟨rfl,hb⟩
theorem add_at (a b:ByteArray) (h:a.size+b.size≤9223372036854775807):∃ c:ByteArray,c.data.toList=a.data.toList++b.data.toList∧c.size=a.size+b.size ∧ ∀ wx,(Op.stringOp .add a b).run Tryz.prog wx = .ok (.string c) wx:=
 ⟨a++b,by simp,by simp,fun wx=>run_string_add_sum (P:=Tryz.prog) (w:=wx) a b h⟩
theorem size_list {s:ByteArray}{l:List UInt8} (h:s.data.toList=l):s.size=l.length:=by
 rw [←h,Array.length_toList]
 rfl
theorem raise_made {S:Nat→Prop}{w:World}{op s:ByteArray}{z:Int}{pl:List ByteArray}{el:List (DataW Unit)}{pa la:Option Addr}{pc lc:Nat}{e:DataW Unit} (hV:RepV S w [.string op,.int .i64 z,.string s,.slice pa pl.length pc,.slice la el.length lc] e) :
  RepVSL (fun _=>True) ((w.alloc (.cells #[.string op,.int .i64 z,.string s,.slice pa pl.length pc,.slice la el.length lc] 25)).alloc (.cells #[.string ⟨#[114,97,105,115,101]⟩,.string ⟨#[]⟩,.slice none 0 0,.slice (some ⟨w.heap.size,0,none⟩) 1 1,.slice none 0 0,.slice none 0 0] 30)) (some ⟨w.heap.size+1,0,none⟩) [mkS kRaise ⟨#[]⟩ [] [e] [] []]:=by
 obtain ⟨w1,hw1⟩:∃ w1,w1=w.alloc (.cells #[.string op,.int .i64 z,.string s,.slice pa pl.length pc,.slice la el.length lc] 25):=⟨_,rfl⟩
 obtain ⟨w2,hw2⟩:∃ w2,w2=w1.alloc (.cells #[.string ⟨#[114,97,105,115,101]⟩,.string ⟨#[]⟩,.slice none 0 0,.slice (some ⟨w.heap.size,0,none⟩) 1 1,.slice none 0 0,.slice none 0 0] 30):=⟨_,rfl⟩
 rw [←hw1,←hw2]
 have s1:w1.heap.size=w.heap.size+1:=by rw [hw1];simp
 have e1:w1.heap[w.heap.size]?=some (.cells #[.string op,.int .i64 z,.string s,.slice pa pl.length pc,.slice la el.length lc] 25):=by rw [hw1];exact heap_alloc_new w _
 have e2:w2.heap[w.heap.size+1]?=some (.cells #[.string ⟨#[114,97,105,115,101]⟩,.string ⟨#[]⟩,.slice none 0 0,.slice (some ⟨w.heap.size,0,none⟩) 1 1,.slice none 0 0,.slice none 0 0] 30):=by
  rw [hw2,←s1]
  exact heap_alloc_new w1 _
 have e3:w2.heap[w.heap.size]?=some (.cells #[.string op,.int .i64 z,.string s,.slice pa pl.length pc,.slice la el.length lc] 25):=by
  rw [hw2]
  exact (Below.heap_alloc _ _ _ (by omega)).trans e1
 have hb:Below w.heap.size w w2:=by
  rw [hw2,hw1]
  exact ((Below.refl _ _).alloc (Nat.le_refl _) _).alloc (by simp) _
 obtain ⟨x0,x1,x2,x3,x4,_⟩:=exprR_block e3
 obtain ⟨y0,y1,y2,y3,y4,y5,_⟩:=stmtR_block e2
 intro _
 refine ⟨_,0,rfl,trivial,fun i d hi => ?_⟩
 obtain rfl:i=0:=by
  have:=(List.getElem?_eq_some_iff.1 hi).1
  simp at this
  exact this
 cases hi
 refine ⟨_,_,_,_,_,_,y0,y1,y2,y3,y4,y5,?_⟩
 refine mkRepVS (pl:=[]) (el:=[e]) (bd:=[]) (es:=[]) (fun h=>absurd h (by simp)) (fun _ => ?_) (fun h=>absurd h (by simp)) (fun h=>absurd h (by simp))
 refine ⟨_,0,rfl,trivial,fun i d hi => ?_⟩
 obtain rfl:i=0:=by
  have:=(List.getElem?_eq_some_iff.1 hi).1
  simp at this
  exact this
 cases hi
 refine ⟨_,_,_,_,_,x0,x1,x2,x3,x4,?_⟩
 obtain ⟨n,hn⟩:=hV
 exact ⟨n,repV_same (same_below hb) (fun _ _ _=>trivial) n _ _ hn⟩
theorem raise_ok1 {e:DataW Unit} (hk:BT e):BSL [mkS kRaise ⟨#[]⟩ [] [e] [] []]:=by
 refine ⟨by simp,fun x hx => ?_⟩
 rw [List.mem_singleton.1 hx]
 refine ⟨1,kRaise,⟨#[]⟩,[],[e],[],[],rfl,by simp,⟨by simp,fun y hy => ?_⟩,by simp,by simp,fun y hy=>by simp at hy,fun y hy=>by simp at hy⟩
 rw [List.mem_singleton.1 hy]
 exact hk
set_option maxHeartbeats 4000000 in
set_option maxRecDepth 100000 in
theorem treeBrackets_any (a:Nat→Addr) (n:Int) (w:World) (E:TwEnv w.heap.size (a 0) (a 1) (a 2) w) (X:Errs a w) (ht:Tabbed w) (S:Nat→Prop) (op s:ByteArray) (z:Int) (pl:List ByteArray) (el:List (DataW Unit)) (pa la:Option Addr) (pc lc:Nat) (hV:RepV S w [.string op,.int .i64 z,.string s,.slice pa pl.length pc,.slice la el.length lc] (mkE op z s pl el)) (hk:BT (mkE op z s pl el)) (hz:ZT (mkE op z s pl el)) :
  Calls Tryz.prog 3 #[.agg #[.string op,.int .i64 z,.string s,.slice pa pl.length pc,.slice la el.length lc],.int .i64 n] w fun ev w'=>ev = .returned (.bool true)∧Below w.heap.size w w':=by
 obtain ⟨wE,hE⟩:∃ wE,wE=w.alloc (.cells #[.string op,.int .i64 z,.string s,.slice pa pl.length pc,.slice la el.length lc] 25):=⟨_,rfl⟩
 have hb0:Below w.heap.size w wE:=by rw [hE];exact (Below.refl _ _).alloc (Nat.le_refl _) _
 have hs0:wE.heap.size=w.heap.size+1:=by rw [hE];simp
 have e0:wE.heap[w.heap.size]?=some (.cells #[.string op,.int .i64 z,.string s,.slice pa pl.length pc,.slice la el.length lc] 25):=by rw [hE];exact heap_alloc_new w _
 have HC:Hid (∀ W,Below wE.heap.size wE W→W.cell? ⟨w.heap.size,0,none⟩=some (.string op)∧W.cell? ⟨w.heap.size,1,none⟩=some (.int .i64 z)∧W.cell? ⟨w.heap.size,2,none⟩=some (.string s)∧W.cell? ⟨w.heap.size,3,none⟩=some (.slice pa pl.length pc)∧W.cell? ⟨w.heap.size,4,none⟩=some (.slice la el.length lc)):=fun W hW=>by
  have h:=(hW.block w.heap.size (by omega)).trans e0
  obtain ⟨k0,k1,k2,k3,k4,_⟩:=exprR_block h
  exact ⟨k0,k1,k2,k3,k4⟩
 have HP:=toHid (lawpass_any (a 0) (a 1) wE ((E.below hb0).up hb0.size).lenv)
 have HE:=toHid E
 have HX:=toHid X
 have HTB:=toHid ht
 have HV:=toHid hV
 have HK:=toHid hk
 have HZ:=toHid hz
 have HWE:=toHid hE
 have HB0:=toHid hb0
 clear E X ht hV hk hz hE hb0 e0
 go_enter Tryz.func3,Tryz.ntmps3
 go_wp2_with fail
 rw [←HWE.out]
 refine HP.out.mono ?_
 rintro ev w1 ⟨rfl,hb1⟩
 have HBE1:=toHid hb1
 have HB1:=toHid (HB0.out.trans (hb1.mono HB0.out.size))
 obtain ⟨c0,c1,c2,c3,c4⟩:=HC.out w1 hb1
 clear hb1
 have HW:Hid (Calls Tryz.prog 6 #[.agg #[.string op,.int .i64 z,.string s,.slice pa pl.length pc,.slice la el.length lc]] w1 fun ev w' => ∃ x:Int,ev = .returned (.int .i64 x)∧Below w1.heap.size w1 w'):=by
  obtain ⟨kv,hkv⟩:=HV.out
  exact wtE_all kv S w1 _ _ _ _ _ _ (repV_same (same_below HB1.out) (fun b h _=>h) kv _ _ hkv) HK.out HZ.out
 go_wp2_with fail
 refine HW.out.mono ?_
 rintro ev w2 ⟨x,rfl,hb2⟩
 have HBE2:=toHid (HBE1.out.trans (hb2.mono HBE1.out.size))
 have HB2:=toHid (HB1.out.trans (hb2.mono HB1.out.size))
 clear hb2 HW c0 c1 c2 c3 c4
 by_cases hx:500<x
 ·go_wp2_with fail
  go_ret
  exact ⟨rfl,HB2.out⟩
 by_cases h0:n<0
 ·go_wp2_with fail
  go_ret
  exact ⟨rfl,HB2.out⟩
 by_cases h4:4<n
 ·go_wp2_with fail
  go_ret
  exact ⟨rfl,HB2.out⟩
 obtain ⟨m,rfl⟩:∃ m:Nat,n=(m:Int):=⟨n.toNat,by omega⟩
 obtain ⟨c0,c1,c2,c3,c4⟩:=HC.out w2 HBE2.out
 obtain ⟨w3,hw3⟩:∃ w3,w3=(w2.alloc (.cells #[.string op,.int .i64 z,.string s,.slice pa pl.length pc,.slice la el.length lc] 25)).alloc (.cells #[.string ⟨#[114,97,105,115,101]⟩,.string ⟨#[]⟩,.slice none 0 0,.slice (some ⟨w2.heap.size,0,none⟩) 1 1,.slice none 0 0,.slice none 0 0] 30):=⟨_,rfl⟩
 have HB3:Hid (Below w.heap.size w w3):=by
  show Below _ _ _
  rw [hw3]
  exact (HB2.out.alloc HB2.out.size _).alloc (by have:=HB2.out.size;simp;omega) _
 have HL:Hid (RepVSL (fun _=>True) w3 (some ⟨w2.heap.size+1,0,none⟩) [mkS kRaise ⟨#[]⟩ [] [mkE op z s pl el] [] []]):=by
  show RepVSL _ _ _ _
  rw [hw3]
  obtain ⟨kv,hkv⟩:=HV.out
  exact raise_made (S:=S) ⟨kv,repV_same (same_below HB2.out) (fun b h _=>h) kv _ _ hkv⟩
 have HKL:=toHid (raise_ok1 HK.out)
 have HOF:Hid (Calls Tryz.prog 8 #[.slice (some ⟨w2.heap.size+1,0,none⟩) 1 1] w3 fun ev w' => ∃ ba' bc',ev = .returned (.slice ba' 1 bc')∧RepWSL (fun b=>w3.heap.size≤b) w' ba' [mkS kRaise ⟨#[]⟩ [] [mkE op z s pl el] [] []]∧Below w3.heap.size w3 w'):=back_anyO _ w3 _ 1 [mkS kRaise ⟨#[]⟩ [] [mkE op z s pl el] [] []] HL.out HKL.out
 have HW3:=toHid hw3
 clear hw3
 go_wp2_with fail
 rw [←HW3.out]
 refine HOF.out.mono ?_
 rintro ev w4 ⟨ba4,bc4,rfl,hR4,hb4⟩
 have HB4:=toHid (HB3.out.trans (hb4.mono HB3.out.size))
 have H34:=toHid hb4
 have HTX:=toHid (text_raise (a 0) (a 1) (a 2) w4 ((HE.out.below HB4.out).up HB4.out.size) (HTB.out.below HB4.out (Nat.le_refl _)) _ ba4 bc4 (mkE op z s pl el) hR4 HKL.out HK.out HZ.out)
 clear hR4 hb4 HOF c0 c1 c2 c3 c4
 go_wp2_with fail
 refine HTX.out.mono ?_
 rintro ev w5 ⟨hb5,⟨t,X,m1,k1,rfl,htX,hNX,ht6,hlx1,hpr1⟩ | rfl⟩
 rotate_left
 ·have HB5:=toHid (HB4.out.trans (hb5.mono HB4.out.size))
  clear hb5
  go_wp2_with fail
  go_ret
  exact ⟨rfl,HB5.out⟩
 have HB5:=toHid (HB4.out.trans (hb5.mono HB4.out.size))
 have H35:=toHid (H34.out.trans (hb5.mono H34.out.size))
 have hts:t.size=X.length+7:=by rw [size_list htX];simp [raiseC]
 have HTS:=toHid htX
 have HNX:=toHid hNX
 have HLX1:=toHid hlx1
 have HPR1:=toHid hpr1
 clear hb5 htX hNX hlx1 hpr1 HTX
 by_cases hbig:(2000:Int)<(t.size:Int)
 ·go_wp2_with fail
  go_ret
  exact ⟨rfl,HB5.out⟩
 have hx0:(t.extract 6 (X.length+7 - 1)).data.toList=X:=by
  rw [ByteArray.data_extract,Array.toList_extract,HTS.out]
  simp [List.extract,raiseC]
 go_wp2_with fail
 go_loopg [9,10] (m+1) (fun gk v9 v10 wr => ∃ (i:Nat) (y:ByteArray),gk=m+1 - i∧i≤m∧v9 = .string y∧v10 = .int .i64 (i:Int)∧y.data.toList=List.replicate i 40++(X++List.replicate i 41)∧wr=w5)
 case atStart=>exact ⟨0,_,rfl,Nat.zero_le _,rfl,rfl,by simpa using hx0,rfl⟩
 case round =>
  obtain ⟨i,y,hgk,hi,rfl,rfl,hy,rfl⟩:=hrel
  have HG:=toHid hgk
  have hys:y.size=X.length+2*i:=by rw [size_list hy];simp;omega
  have HY:=toHid hy
  clear hgk hy hx0
  by_cases hlt:i<m
  ·have hI:(i:Int)<(m:Int):=by omega
   have z40:(⟨#[40]⟩:ByteArray).size=1:=rfl
   have z41:(⟨#[41]⟩:ByteArray).size=1:=rfl
   obtain ⟨y1,e1,g1,a1⟩:=add_at ⟨#[40]⟩ y (by omega)
   obtain ⟨y2,e2,g2,a2⟩:=add_at y1 ⟨#[41]⟩ (by omega)
   have HY2:Hid (y2.data.toList=List.replicate (i+1) 40++(X++List.replicate (i+1) 41)):=by
    show _=_
    rw [e2,e1,HY.out,List.replicate_succ,List.replicate_succ' (n:=i) (a:=(41:UInt8))]
    simp
   clear e1 e2
   go_wp2_with fail
   go_roundg (m+1 - (i+1))
   case measure=>have:=HG.out;omega
   case rel=>exact ⟨i+1,y2,rfl,by omega,rfl,by go_num,HY2.out,rfl⟩
  ·obtain rfl:i=m:=by omega
   have zr:(⟨#[114,97,105,115,101,32]⟩:ByteArray).size=6:=rfl
   have zn:(⟨#[10]⟩:ByteArray).size=1:=rfl
   obtain ⟨y1,e1,g1,a1⟩:=add_at ⟨#[114,97,105,115,101,32]⟩ y (by omega)
   obtain ⟨y2,e2,g2,a2⟩:=add_at y1 ⟨#[10]⟩ (by omega)
   have h2:y2.data.toList=raiseC++(List.replicate i 40++(X++List.replicate i 41)) ++ [10]:=by
    rw [e2,e1,HY.out]
    rfl
   obtain ⟨m2,hlx2,hpr2⟩:=brackets_read HNX.out HTS.out h2 HLX1.out HPR1.out
   have HRT:=toHid (read_told y2 (a 0) (a 1) wr ((HE.out.below HB5.out).up HB5.out.size).lenv)
   have HLX2:=toHid hlx2
   have HPR2:=toHid hpr2
   have hy6:y2.size≤6000:=by omega
   clear e1 e2 h2 hlx2 hpr2
   go_wp2_with fail
   refine HRT.out.mono ?_
   rintro ev w6 ⟨hb6,⟨m3,ss,kk,ba6,bc6,_,h7,h8,rfl,hR6⟩ | ⟨m3,yy,pb,tt,_,h7,h8,_,rfl,d0,d1⟩ | ⟨hno,tt,q,rfl⟩⟩
   rotate_right
   ·exact absurd HLX2.out (hno m2 hy6)
   ·rw [HLX2.out] at h7
    simp only [Except.ok.injEq,Prod.mk.injEq] at h7
    obtain rfl:=cells_inj _ _ h7.2
    have hss:ss = [mkS kRaise ⟨#[]⟩ [] [mkE op z s pl el] [] []]:=by
     rcases HPR2.out with ⟨k',h⟩ | ⟨y',h⟩
     ·rw [h] at h8
      cases h8
      rfl
     ·rw [h] at h8
      cases h8
    subst hss
    have HB6:=toHid (HB5.out.trans (hb6.mono HB5.out.size))
    have H36:=toHid (H35.out.trans (hb6.mono H35.out.size))
    have HBK:Hid (Calls Tryz.prog 12 #[.slice ba6 1 bc6] w6 fun ev w' => ∃ ba' bc',ev = .returned (.slice ba' 1 bc')∧RepVSL (fun b=>w6.heap.size≤b) w' ba' [mkS kRaise ⟨#[]⟩ [] [mkE op z s pl el] [] []]∧Below w6.heap.size w6 w'):=back_any _ w6 ba6 bc6 _ hR6.toV HKL.out
    clear h7 h8 hR6 hb6
    go_wp2_with fail
    refine HBK.out.mono ?_
    rintro ev w7 ⟨ba7,bc7,rfl,hR7,hb7⟩
    have HB7:=toHid (HB6.out.trans (hb7.mono HB6.out.size))
    have H37:=toHid (H36.out.trans (hb7.mono H36.out.size))
    have HSM:Hid (Calls Tryz.prog 11 #[.slice ba7 1 bc7,.slice (some ⟨w2.heap.size+1,0,none⟩) 1 1] w7 fun ev w'=>ev = .returned (.bool true)∧Below w7.heap.size w7 w'):=same_any _ (fun _=>True) w7 ba7 (some ⟨w2.heap.size+1,0,none⟩) bc7 1 [mkS kRaise ⟨#[]⟩ [] [mkE op z s pl el] [] []] hR7 (HL.out.same (same_below (H37.out)) (fun _ _ _=>trivial)) HKL.out
    clear hR7 hb7 HBK
    go_wp2_with fail
    refine HSM.out.mono ?_
    rintro ev w8 ⟨rfl,hb8⟩
    have HB8:=toHid (HB7.out.trans (hb8.mono HB7.out.size))
    clear hb8
    go_wp2_with fail
    go_ret
    exact ⟨rfl,HB8.out⟩
   ·rw [HLX2.out] at h7
    simp only [Except.ok.injEq,Prod.mk.injEq] at h7
    obtain rfl:=cells_inj _ _ h7.2
    have hyy:yy.2=true:=by
     rcases HPR2.out with ⟨k',h⟩ | ⟨y',h⟩
     ·rw [h] at h8
      cases h8
     ·rw [h] at h8
      cases h8
      rfl
    rw [hyy] at d1
    have HB6:=toHid (HB5.out.trans (hb6.mono HB5.out.size))
    have HCO:=toHid (coded2_bound a pb 0 _ w6 (HX.out.below HB6.out) d0 d1)
    clear h7 h8 hb6 d0 d1
    go_wp2_with fail
    refine HCO.out.mono ?_
    rintro ev w7 ⟨rfl,hb7⟩
    have HB7:=toHid (HB6.out.trans (hb7.mono HB6.out.size))
    clear hb7
    go_wp2_with fail
    go_ret
    exact ⟨rfl,HB7.out⟩
end Go.Proofs.YtknjeecjhahbaaaGreatDoor
