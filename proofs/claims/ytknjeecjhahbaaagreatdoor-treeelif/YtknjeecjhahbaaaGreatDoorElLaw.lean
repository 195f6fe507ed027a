/- The law TreeElif, by a walk. (Written by a program of ours: tree/elif.py.) -/
import Derived.Test.YtknjeecjhahbaaaGreatDoorBrLaw
import Derived.Test.YtknjeecjhahbaaaGreatDoorBbH
set_option linter.all false
namespace Go.Proofs.YtknjeecjhahbaaaGreatDoor
open Go.RowKit

set_option maxHeartbeats 8000000 in
set_option maxRecDepth 100000 in
theorem treeElif_any (a0 a1 a2:Addr) (w:World) (E:TwEnv w.heap.size a0 a1 a2 w) (ht:Tabbed w) (S:Nat→Prop) (opa sa:ByteArray) (za:Int) (pla:List ByteArray) (ela:List (DataW Unit)) (paa laa:Option Addr) (pca lca:Nat) (hVa:RepV S w [.string opa,.int .i64 za,.string sa,.slice paa pla.length pca,.slice laa ela.length lca] (mkE opa za sa pla ela)) (hka:BT (mkE opa za sa pla ela)) (hza:ZT (mkE opa za sa pla ela)) (opb sb:ByteArray) (zb:Int) (plb:List ByteArray) (elb:List (DataW Unit)) (pab lab:Option Addr) (pcb lcb:Nat) (hVb:RepV S w [.string opb,.int .i64 zb,.string sb,.slice pab plb.length pcb,.slice lab elb.length lcb] (mkE opb zb sb plb elb)) (hkb:BT (mkE opb zb sb plb elb)) (hzb:ZT (mkE opb zb sb plb elb)) :
  Calls Tryz.prog 4 #[.agg #[.string opa,.int .i64 za,.string sa,.slice paa pla.length pca,.slice laa ela.length lca],.agg #[.string opb,.int .i64 zb,.string sb,.slice pab plb.length pcb,.slice lab elb.length lcb]] w fun ev w'=>ev = .returned (.bool true)∧Below w.heap.size w w':=by
 obtain ⟨wE,hE⟩:∃ wE,wE=(w.alloc (.cells #[.string opa,.int .i64 za,.string sa,.slice paa pla.length pca,.slice laa ela.length lca] 25)).alloc (.cells #[.string opb,.int .i64 zb,.string sb,.slice pab plb.length pcb,.slice lab elb.length lcb] 25):=⟨_,rfl⟩
 have hb0:Below w.heap.size w wE:=by rw [hE];exact ((Below.refl _ _).alloc (Nat.le_refl _) _).alloc (by simp) _
 have hs0:wE.heap.size=w.heap.size+2:=by rw [hE];simp
 have e0:wE.heap[w.heap.size]?=some (.cells #[.string opa,.int .i64 za,.string sa,.slice paa pla.length pca,.slice laa ela.length lca] 25):=by rw [hE];exact (Below.heap_alloc _ _ _ (by simp)).trans (heap_alloc_new w _)
 have e1:wE.heap[w.heap.size+1]?=some (.cells #[.string opb,.int .i64 zb,.string sb,.slice pab plb.length pcb,.slice lab elb.length lcb] 25):=by
  have h:=heap_alloc_new (w.alloc (.cells #[.string opa,.int .i64 za,.string sa,.slice paa pla.length pca,.slice laa ela.length lca] 25)) (.cells #[.string opb,.int .i64 zb,.string sb,.slice pab plb.length pcb,.slice lab elb.length lcb] 25)
  have e:(w.alloc (.cells #[.string opa,.int .i64 za,.string sa,.slice paa pla.length pca,.slice laa ela.length lca] 25)).heap.size=w.heap.size+1:=by simp
  rw [e] at h
  rw [hE]
  exact h
 have HCA:Hid (∀ W,Below wE.heap.size wE W→W.cell? ⟨w.heap.size,0,none⟩=some (.string opa)∧W.cell? ⟨w.heap.size,1,none⟩=some (.int .i64 za)∧W.cell? ⟨w.heap.size,2,none⟩=some (.string sa)∧W.cell? ⟨w.heap.size,3,none⟩=some (.slice paa pla.length pca)∧W.cell? ⟨w.heap.size,4,none⟩=some (.slice laa ela.length lca)):=fun W hW=>by
  have h:=(hW.block w.heap.size (by omega)).trans e0
  obtain ⟨k0,k1,k2,k3,k4,_⟩:=exprR_block h
  exact ⟨k0,k1,k2,k3,k4⟩
 have HCB:Hid (∀ W,Below wE.heap.size wE W→W.cell? ⟨w.heap.size+1,0,none⟩=some (.string opb)∧W.cell? ⟨w.heap.size+1,1,none⟩=some (.int .i64 zb)∧W.cell? ⟨w.heap.size+1,2,none⟩=some (.string sb)∧W.cell? ⟨w.heap.size+1,3,none⟩=some (.slice pab plb.length pcb)∧W.cell? ⟨w.heap.size+1,4,none⟩=some (.slice lab elb.length lcb)):=fun W hW=>by
  have h:=(hW.block (w.heap.size+1) (by omega)).trans e1
  obtain ⟨k0,k1,k2,k3,k4,_⟩:=exprR_block h
  exact ⟨k0,k1,k2,k3,k4⟩
 have HP:=toHid (lawpass_any a0 a1 wE ((E.below hb0).up hb0.size).lenv)
 have HE:=toHid E
 have HTB:=toHid ht
 have HVA:=toHid hVa
 have HVB:=toHid hVb
 have HKA:=toHid hka
 have HKB:=toHid hkb
 have HZA:=toHid hza
 have HZB:=toHid hzb
 have HWE:=toHid hE
 have HB0:=toHid hb0
 clear E ht hVa hVb hka hkb hza hzb hE hb0 e0 e1
 go_enter Tryz.func4,Tryz.ntmps4
 go_wp2_with fail
 rw [←HWE.out]
 refine HP.out.mono ?_
 rintro ev w1 ⟨rfl,hb1⟩
 have HBE1:=toHid hb1
 have HB1:=toHid (HB0.out.trans (hb1.mono HB0.out.size))
 obtain ⟨c0,c1,c2,c3,c4⟩:=HCA.out w1 hb1
 clear hb1
 have HW:Hid (Calls Tryz.prog 6 #[.agg #[.string opa,.int .i64 za,.string sa,.slice paa pla.length pca,.slice laa ela.length lca]] w1 fun ev w' => ∃ x:Int,ev = .returned (.int .i64 x)∧Below w1.heap.size w1 w'):=by
  obtain ⟨kv,hkv⟩:=HVA.out
  exact wtE_all kv S w1 _ _ _ _ _ _ (repV_same (same_below HB1.out) (fun b h _=>h) kv _ _ hkv) HKA.out HZA.out
 go_wp2_with fail
 refine HW.out.mono ?_
 rintro ev w2 ⟨x,rfl,hb2⟩
 have HBE2:=toHid (HBE1.out.trans (hb2.mono HBE1.out.size))
 have HB2:=toHid (HB1.out.trans (hb2.mono HB1.out.size))
 clear hb2 HW c0 c1 c2 c3 c4
 by_cases hx:300<x
 ·go_wp2_with fail
  go_ret
  exact ⟨rfl,HB2.out⟩
 obtain ⟨c0,c1,c2,c3,c4⟩:=HCB.out w2 HBE2.out
 have HW:Hid (Calls Tryz.prog 6 #[.agg #[.string opb,.int .i64 zb,.string sb,.slice pab plb.length pcb,.slice lab elb.length lcb]] w2 fun ev w' => ∃ x:Int,ev = .returned (.int .i64 x)∧Below w2.heap.size w2 w'):=by
  obtain ⟨kv,hkv⟩:=HVB.out
  exact wtE_all kv S w2 _ _ _ _ _ _ (repV_same (same_below HB2.out) (fun b h _=>h) kv _ _ hkv) HKB.out HZB.out
 go_wp2_with fail
 refine HW.out.mono ?_
 rintro ev w3 ⟨x2,rfl,hb3⟩
 have HBE3:=toHid (HBE2.out.trans (hb3.mono HBE2.out.size))
 have HB3:=toHid (HB2.out.trans (hb3.mono HB2.out.size))
 clear hb3 HW c0 c1 c2 c3 c4
 by_cases hx2:300<x2
 ·go_wp2_with fail
  go_ret
  exact ⟨rfl,HB3.out⟩
 obtain ⟨c0,c1,c2,c3,c4⟩:=HCA.out w3 HBE3.out
 obtain ⟨w4,hw4⟩:∃ w4,w4=(w3.alloc (.cells #[.string opa,.int .i64 za,.string sa,.slice paa pla.length pca,.slice laa ela.length lca] 25)).alloc (.cells #[.string ⟨#[114,97,105,115,101]⟩,.string ⟨#[]⟩,.slice none 0 0,.slice (some ⟨w3.heap.size,0,none⟩) 1 1,.slice none 0 0,.slice none 0 0] 30):=⟨_,rfl⟩
 have HB4:Hid (Below w.heap.size w w4):=by
  show Below _ _ _
  rw [hw4]
  exact (HB3.out.alloc HB3.out.size _).alloc (by have:=HB3.out.size;simp;omega) _
 have HBE4:Hid (Below wE.heap.size wE w4):=by
  show Below _ _ _
  rw [hw4]
  exact (HBE3.out.alloc HBE3.out.size _).alloc (by have:=HBE3.out.size;simp;omega) _
 have HLA:Hid (RepVSL (fun _=>True) w4 (some ⟨w3.heap.size+1,0,none⟩) [mkS kRaise ⟨#[]⟩ [] [(mkE opa za sa pla ela)] [] []]):=by
  show RepVSL _ _ _ _
  rw [hw4]
  obtain ⟨kv,hkv⟩:=HVA.out
  exact raise_made (S:=S) ⟨kv,repV_same (same_below HB3.out) (fun b h _=>h) kv _ _ hkv⟩
 have HKLA:=toHid (raise_ok1 HKA.out)
 have HOF:Hid (Calls Tryz.prog 8 #[.slice (some ⟨w3.heap.size+1,0,none⟩) 1 1] w4 fun ev w' => ∃ ba' bc',ev = .returned (.slice ba' 1 bc')∧RepWSL (fun b=>w4.heap.size≤b) w' ba' [mkS kRaise ⟨#[]⟩ [] [(mkE opa za sa pla ela)] [] []]∧Below w4.heap.size w4 w'):=back_anyO _ w4 _ 1 [mkS kRaise ⟨#[]⟩ [] [(mkE opa za sa pla ela)] [] []] HLA.out HKLA.out
 have HWM:=toHid hw4
 clear hw4
 go_wp2_with fail
 rw [←HWM.out]
 refine HOF.out.mono ?_
 rintro ev w5 ⟨ba5,bc5,rfl,hR,hb⟩
 have HB5:=toHid (HB4.out.trans (hb.mono HB4.out.size))
 have HBE5:=toHid (HBE4.out.trans (hb.mono HBE4.out.size))
 have HTX:=toHid (text_raise a0 a1 a2 w5 ((HE.out.below HB5.out).up HB5.out.size) (HTB.out.below HB5.out (Nat.le_refl _)) _ ba5 bc5 (mkE opa za sa pla ela) hR HKLA.out HKA.out HZA.out)
 clear hR hb HOF HWM c0 c1 c2 c3 c4
 go_wp2_with fail
 refine HTX.out.mono ?_
 rintro ev w6 ⟨hb6,hAx⟩
 have HB6:=toHid (HB5.out.trans (hb6.mono HB5.out.size))
 have HBE6:=toHid (HBE5.out.trans (hb6.mono HBE5.out.size))
 clear hb6 HTX
 rcases hAx with ⟨ta,XA,ma,ka,rfl,htA,hNA,htA6,hlxA,hprA⟩ | rfl
 rotate_left
 ·obtain ⟨c0,c1,c2,c3,c4⟩:=HCB.out w6 HBE6.out
  obtain ⟨w7,hw7⟩:∃ w7,w7=(w6.alloc (.cells #[.string opb,.int .i64 zb,.string sb,.slice pab plb.length pcb,.slice lab elb.length lcb] 25)).alloc (.cells #[.string ⟨#[114,97,105,115,101]⟩,.string ⟨#[]⟩,.slice none 0 0,.slice (some ⟨w6.heap.size,0,none⟩) 1 1,.slice none 0 0,.slice none 0 0] 30):=⟨_,rfl⟩
  have HB7:Hid (Below w.heap.size w w7):=by
   show Below _ _ _
   rw [hw7]
   exact (HB6.out.alloc HB6.out.size _).alloc (by have:=HB6.out.size;simp;omega) _
  have HBE7:Hid (Below wE.heap.size wE w7):=by
   show Below _ _ _
   rw [hw7]
   exact (HBE6.out.alloc HBE6.out.size _).alloc (by have:=HBE6.out.size;simp;omega) _
  have HLB:Hid (RepVSL (fun _=>True) w7 (some ⟨w6.heap.size+1,0,none⟩) [mkS kRaise ⟨#[]⟩ [] [(mkE opb zb sb plb elb)] [] []]):=by
   show RepVSL _ _ _ _
   rw [hw7]
   obtain ⟨kv,hkv⟩:=HVB.out
   exact raise_made (S:=S) ⟨kv,repV_same (same_below HB6.out) (fun b h _=>h) kv _ _ hkv⟩
  have HKLB:=toHid (raise_ok1 HKB.out)
  have HOF:Hid (Calls Tryz.prog 8 #[.slice (some ⟨w6.heap.size+1,0,none⟩) 1 1] w7 fun ev w' => ∃ ba' bc',ev = .returned (.slice ba' 1 bc')∧RepWSL (fun b=>w7.heap.size≤b) w' ba' [mkS kRaise ⟨#[]⟩ [] [(mkE opb zb sb plb elb)] [] []]∧Below w7.heap.size w7 w'):=back_anyO _ w7 _ 1 [mkS kRaise ⟨#[]⟩ [] [(mkE opb zb sb plb elb)] [] []] HLB.out HKLB.out
  have HWM:=toHid hw7
  clear hw7
  go_wp2_with fail
  rw [←HWM.out]
  refine HOF.out.mono ?_
  rintro ev w8 ⟨ba8,bc8,rfl,hR,hb⟩
  have HB8:=toHid (HB7.out.trans (hb.mono HB7.out.size))
  have HBE8:=toHid (HBE7.out.trans (hb.mono HBE7.out.size))
  have HTX:=toHid (text_raise a0 a1 a2 w8 ((HE.out.below HB8.out).up HB8.out.size) (HTB.out.below HB8.out (Nat.le_refl _)) _ ba8 bc8 (mkE opb zb sb plb elb) hR HKLB.out HKB.out HZB.out)
  clear hR hb HOF HWM c0 c1 c2 c3 c4
  go_wp2_with fail
  refine HTX.out.mono ?_
  rintro ev w9 ⟨hb9,⟨tb,XB,mb,kb,rfl,_⟩ | rfl⟩
  ·have HB9:=toHid (HB8.out.trans (hb9.mono HB8.out.size))
   clear hb9 HTX
   go_wp2_with fail
   go_ret
   exact ⟨rfl,HB9.out⟩
  ·have HB9:=toHid (HB8.out.trans (hb9.mono HB8.out.size))
   clear hb9 HTX
   go_wp2_with fail
   go_ret
   exact ⟨rfl,HB9.out⟩
 have htas:ta.size=XA.length+7:=by rw [size_list htA];simp [raiseC]
 have HTA:=toHid htA
 have HNA:=toHid hNA
 have HLXA:=toHid hlxA
 have HPA:=toHid hprA
 clear htA hNA hlxA hprA
 obtain ⟨c0,c1,c2,c3,c4⟩:=HCB.out w6 HBE6.out
 obtain ⟨w7,hw7⟩:∃ w7,w7=(w6.alloc (.cells #[.string opb,.int .i64 zb,.string sb,.slice pab plb.length pcb,.slice lab elb.length lcb] 25)).alloc (.cells #[.string ⟨#[114,97,105,115,101]⟩,.string ⟨#[]⟩,.slice none 0 0,.slice (some ⟨w6.heap.size,0,none⟩) 1 1,.slice none 0 0,.slice none 0 0] 30):=⟨_,rfl⟩
 have HB7:Hid (Below w.heap.size w w7):=by
  show Below _ _ _
  rw [hw7]
  exact (HB6.out.alloc HB6.out.size _).alloc (by have:=HB6.out.size;simp;omega) _
 have HBE7:Hid (Below wE.heap.size wE w7):=by
  show Below _ _ _
  rw [hw7]
  exact (HBE6.out.alloc HBE6.out.size _).alloc (by have:=HBE6.out.size;simp;omega) _
 have HLB:Hid (RepVSL (fun _=>True) w7 (some ⟨w6.heap.size+1,0,none⟩) [mkS kRaise ⟨#[]⟩ [] [(mkE opb zb sb plb elb)] [] []]):=by
  show RepVSL _ _ _ _
  rw [hw7]
  obtain ⟨kv,hkv⟩:=HVB.out
  exact raise_made (S:=S) ⟨kv,repV_same (same_below HB6.out) (fun b h _=>h) kv _ _ hkv⟩
 have HKLB:=toHid (raise_ok1 HKB.out)
 have HOF:Hid (Calls Tryz.prog 8 #[.slice (some ⟨w6.heap.size+1,0,none⟩) 1 1] w7 fun ev w' => ∃ ba' bc',ev = .returned (.slice ba' 1 bc')∧RepWSL (fun b=>w7.heap.size≤b) w' ba' [mkS kRaise ⟨#[]⟩ [] [(mkE opb zb sb plb elb)] [] []]∧Below w7.heap.size w7 w'):=back_anyO _ w7 _ 1 [mkS kRaise ⟨#[]⟩ [] [(mkE opb zb sb plb elb)] [] []] HLB.out HKLB.out
 have HWM:=toHid hw7
 clear hw7
 go_wp2_with fail
 rw [←HWM.out]
 refine HOF.out.mono ?_
 rintro ev w8 ⟨ba8,bc8,rfl,hR,hb⟩
 have HB8:=toHid (HB7.out.trans (hb.mono HB7.out.size))
 have HBE8:=toHid (HBE7.out.trans (hb.mono HBE7.out.size))
 have HTX:=toHid (text_raise a0 a1 a2 w8 ((HE.out.below HB8.out).up HB8.out.size) (HTB.out.below HB8.out (Nat.le_refl _)) _ ba8 bc8 (mkE opb zb sb plb elb) hR HKLB.out HKB.out HZB.out)
 clear hR hb HOF HWM c0 c1 c2 c3 c4
 go_wp2_with fail
 refine HTX.out.mono ?_
 rintro ev w9 ⟨hb9,⟨tb,XB,mb,kb,rfl,htB,hNB,htB6,hlxB,hprB⟩ | rfl⟩
 rotate_left
 ·have HB9:=toHid (HB8.out.trans (hb9.mono HB8.out.size))
  clear hb9 HTX
  go_wp2_with fail
  go_ret
  exact ⟨rfl,HB9.out⟩
 have HB9:=toHid (HB8.out.trans (hb9.mono HB8.out.size))
 have htbs:tb.size=XB.length+7:=by rw [size_list htB];simp [raiseC]
 have HTB2:=toHid htB
 have HNB:=toHid hNB
 have HLB2:=toHid hlxB
 have HPB:=toHid hprB
 clear hb9 HTX htB hNB hlxB hprB
 have hxA:(ta.extract 6 (XA.length+7 - 1)).data.toList=XA:=by
  rw [ByteArray.data_extract,Array.toList_extract,HTA.out]
  simp [List.extract,raiseC]
 have hxB:(tb.extract 6 (XB.length+7 - 1)).data.toList=XB:=by
  rw [ByteArray.data_extract,Array.toList_extract,HTB2.out]
  simp [List.extract,raiseC]
 have hla:(ta.extract 6 (XA.length+6)).data.toList=XA:=hxA
 have hlb:(tb.extract 6 (XB.length+6)).data.toList=XB:=hxB
 clear hxA hxB
 by_cases hsum:(5000:Int)<(XA.length:Int)+(XB.length:Int)
 ·go_wp2_with fail
  go_ret
  exact ⟨rfl,HB9.out⟩
 obtain ⟨xa,hxa⟩:∃ xa,ta.extract 6 (XA.length+6)=xa:=⟨_,rfl⟩
 obtain ⟨xb,hxb⟩:∃ xb,tb.extract 6 (XB.length+6)=xb:=⟨_,rfl⟩
 rw [hxa] at hla
 rw [hxb] at hlb
 have hp:(⟨#[105,102,32]⟩++xa++⟨#[58,10,32,32,112,97,115,115,10,101,108,105,102,32]⟩++xb++⟨#[58,10,32,32,112,97,115,115,10]⟩:ByteArray).data.toList=pTxt XA XB:=by
  simp only [ByteArray.data_append,Array.toList_append,hla,hlb]
  simp [pTxt,ifC,passC,elifC]
 have hq:(⟨#[105,102,32]⟩++xa++⟨#[58,10,32,32,112,97,115,115,10,101,108,115,101,58,10,32,32,105,102,32]⟩++xb++⟨#[58,10,32,32,32,32,112,97,115,115,10]⟩:ByteArray).data.toList=qTxt XA XB:=by
  simp only [ByteArray.data_append,Array.toList_append,hla,hlb]
  simp [qTxt,ifC,passC,elseC]
 have sp:(⟨#[105,102,32]⟩++xa++⟨#[58,10,32,32,112,97,115,115,10,101,108,105,102,32]⟩++xb++⟨#[58,10,32,32,112,97,115,115,10]⟩:ByteArray).size≤6000:=by
  rw [size_list hp]
  simp [pTxt,ifC,passC,elifC]
  omega
 have sq:(⟨#[105,102,32]⟩++xa++⟨#[58,10,32,32,112,97,115,115,10,101,108,115,101,58,10,32,32,105,102,32]⟩++xb++⟨#[58,10,32,32,32,32,112,97,115,115,10]⟩:ByteArray).size≤6000:=by
  rw [size_list hq]
  simp [qTxt,ifC,passC,elseC]
  omega
 obtain ⟨mp,mq,ss,lp,lq,⟨kp,rp⟩,kq,rq⟩:=elif_read HNA.out HNB.out HTA.out HTB2.out hp hq HLXA.out HLB2.out HPA.out HPB.out
 have HSP:=toHid sp
 have HSQ:=toHid sq
 have HLP:=toHid lp
 have HLQ:=toHid lq
 have HRP:=toHid rp
 have HRQ:=toHid rq
 have HXA:=toHid hxa
 have HXB:=toHid hxb
 clear hp hq sp sq lp lq rp rq hla hlb hxa hxb
 go_wp2_with fail
 rw [HXA.out,HXB.out]
 refine (read_any _ a0 a1 w9 ((HE.out.below HB9.out).up HB9.out.size).lenv).mono ?_
 rintro ev w10 ⟨hb10,⟨m10,ss10,k10,ba10,bc10,_,h7,h8,rfl,hR10⟩ | ⟨hno,t10,q10,rfl⟩⟩
 rotate_left
 ·exact (hno mp ss kp HSP.out HLP.out HRP.out).elim
 rw [HLP.out] at h7
 simp only [Except.ok.injEq,Prod.mk.injEq] at h7
 obtain rfl:=cells_inj _ _ h7.2
 rw [HRP.out] at h8
 simp only [Except.ok.injEq,Prod.mk.injEq] at h8
 obtain ⟨rfl,rfl⟩:=h8
 have HB10:=toHid (HB9.out.trans (hb10.mono HB9.out.size))
 have HOK:=toHid (read_fit HSP.out HLP.out HRP.out).1
 have HR10:=toHid hR10.toV
 clear h7 hR10 hb10
 go_wp2_with fail
 rw [HXA.out,HXB.out]
 refine (read_any _ a0 a1 w10 ((HE.out.below HB10.out).up HB10.out.size).lenv).mono ?_
 rintro ev w11 ⟨hb11,⟨m11,ss11,k11,ba11,bc11,_,h7,h8,rfl,hR11⟩ | ⟨hno,t11,q11,rfl⟩⟩
 rotate_left
 ·exact (hno mq ss kq HSQ.out HLQ.out HRQ.out).elim
 rw [HLQ.out] at h7
 simp only [Except.ok.injEq,Prod.mk.injEq] at h7
 obtain rfl:=cells_inj _ _ h7.2
 rw [HRQ.out] at h8
 simp only [Except.ok.injEq,Prod.mk.injEq] at h8
 obtain ⟨rfl,rfl⟩:=h8
 have HB11:=toHid (HB10.out.trans (hb11.mono HB10.out.size))
 have HX11:=toHid (HR10.out.same (S':=fun b=>w9.heap.size≤b) (same_below hb11) (fun b h _=>h))
 have HR11:=toHid hR11.toV
 clear h7 hR11 hb11
 go_wp2_with fail
 refine (back_any _ w11 ba10 bc10 _ HX11.out HOK.out).mono ?_
 rintro ev w12 ⟨ba12,bc12,rfl,hR12,hb12⟩
 have HB12:=toHid (HB11.out.trans (hb12.mono HB11.out.size))
 have HX12:=toHid (HR11.out.same (S':=fun b=>w10.heap.size≤b) (same_below hb12) (fun b h _=>h))
 have HR12:=toHid hR12
 clear hR12 hb12
 go_wp2_with fail
 refine (back_any _ w12 ba11 bc11 _ HX12.out HOK.out).mono ?_
 rintro ev w13 ⟨ba13,bc13,rfl,hR13,hb13⟩
 have HB13:=toHid (HB12.out.trans (hb13.mono HB12.out.size))
 have HX13:=toHid (HR12.out.same (S':=fun b=>w11.heap.size≤b) (same_below hb13) (fun b h _=>h))
 have HR13:=toHid hR13
 clear hR13 hb13
 go_wp2_with fail
 refine (same_any _ _ w13 ba12 ba13 bc12 bc13 _ HX13.out HR13.out HOK.out).mono ?_
 rintro ev w14 ⟨rfl,hb14⟩
 have HB14:=toHid (HB13.out.trans (hb14.mono HB13.out.size))
 clear hb14
 go_wp2_with fail
 go_ret
 exact ⟨rfl,HB14.out⟩
end Go.Proofs.YtknjeecjhahbaaaGreatDoor
