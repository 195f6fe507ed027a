/- The law TreeTwice by a walk (written by tools/tree/twice.py). -/
import Derived.Test.YtpcjcgkpjapbpaaGreatDoorTextT
import Derived.Test.YtpcjcgkpjapbpaaGreatDoorPassC
import Derived.Test.YtpcjcgkpjapbpaaGreatDoorTtS
import Derived.Test.YtpcjcgkpjapbpaaGreatDoorTuB
import Derived.Test.YtpcjcgkpjapbpaaGreatDoorTuC
set_option linter.all false
namespace Go.Proofs.YtpcjcgkpjapbpaaGreatDoor
open Go.RowKit

set_option maxHeartbeats 16000000 in
set_option maxRecDepth 100000 in
theorem treeTwice_any (s:ByteArray) (a0 a1 a2:Addr) (w:World) (E:TwEnv w.heap.size a0 a1 a2 w) (ht:Tabbed w) (S:Nat→Prop) (ba:Option Addr) (bc:Nat) (ss:List (DataW Unit)) (h:RepVSL S w ba ss) (hk:BSL ss) (D:Nat) (hz:ZSL D ss) :
  Calls Tryz.prog 3 #[.slice ba ss.length bc,.string s] w fun ev w'=>ev = .returned (.bool true)∧Below w.heap.size w w':=by
 have HE:=toHid E
 have HTB:=toHid ht
 have HR:=toHid h
 have HK:=toHid hk
 have HZ:=toHid hz
 clear E ht h hk hz
 go_enter Tryz.func3,Tryz.ntmps3
 go_wp2_with fail
 refine (lawpass_any a0 a1 w HE.out.lenv).mono ?_
 rintro ev w1 ⟨rfl,hb1⟩
 have HB1:=toHid hb1
 have HW:=toHid (wtS_all D S w1 ba bc ss (HR.out.same (same_below hb1) (fun b h _=>h)) HK.out HZ.out)
 clear hb1
 go_wp2_with fail
 refine HW.out.mono ?_
 rintro ev w2 ⟨x,rfl,hb2⟩
 have HB2:=toHid (HB1.out.trans (hb2.mono HB1.out.size))
 clear hb2 HW
 by_cases hx:1500<x
 ·go_wp2_with fail
  go_ret
  exact ⟨rfl,HB2.out⟩
 by_cases hs:2000<s.size
 ·have hI:(2000:Int)<(s.size:Int):=by omega
  go_wp2_with fail
  go_ret
  exact ⟨rfl,HB2.out⟩
 have hI:¬ (2000:Int)<(s.size:Int):=by omega
 have HOF:=toHid (back_anyO S w2 ba bc ss (HR.out.same (same_below HB2.out) (fun b h _=>h)) HK.out)
 go_wp2_with fail
 refine HOF.out.mono ?_
 rintro ev w3 ⟨ba3,bc3,rfl,hR3,hb3⟩
 have HB3:=toHid (HB2.out.trans (hb3.mono HB2.out.size))
 have HTX:=toHid (text_two a0 a1 a2 w3 ((HE.out.below HB3.out).up HB3.out.size) (HTB.out.below HB3.out (Nat.le_refl _)) _ ba3 bc3 D ss hR3 HK.out HZ.out)
 clear hR3 hb3 HOF
 go_wp2_with fail
 refine HTX.out.mono ?_
 clear HTX
 rintro ev w4 ⟨hb4,⟨t4,m4,k4,rfl,ht4,hlx4,hpr4⟩ | rfl⟩
 rotate_left
 ·obtain ⟨wT,hwT⟩:∃ wT,wT=w4:=⟨_,rfl⟩
  subst hwT
  have HBT:=toHid (HB3.out.trans (hb4.mono HB3.out.size))
  clear hb4
  have E7:=(HE.out.below HBT.out).up HBT.out.size
  go_wp2_with fail
  refine (read_any s a0 a1 wT E7.lenv).mono ?_
  rintro ev w7 ⟨hb7,⟨m7,ss7,k7,ba7,bc7,hs7,hlx7,hpr7,rfl,hR7⟩ | ⟨_,t7,q7,rfl⟩⟩
  rotate_left
  ·have HB7:=toHid (HBT.out.trans (hb7.mono HBT.out.size))
   clear hb7 E7
   go_wp2_with fail
   go_ret
   exact ⟨rfl,HB7.out⟩
  have HB7:=toHid (HBT.out.trans (hb7.mono HBT.out.size))
  obtain ⟨hok7,D7,_,hz7⟩:=read_fit hs7 hlx7 hpr7
  have HTX:=toHid (text_two a0 a1 a2 w7 ((HE.out.below HB7.out).up HB7.out.size) (HTB.out.below HB7.out (Nat.le_refl _)) _ ba7 bc7 D7 ss7 hR7.toW hok7 hz7)
  have HX7:=toHid hR7.toV
  have HO7:=toHid hok7
  clear hb7 E7 hR7 hok7 hz7 hlx7 hpr7
  go_wp2_with fail
  refine HTX.out.mono ?_
  rintro ev w8 ⟨hb8,⟨t8,m8,k8,rfl,ht8,hlx8,hpr8⟩ | rfl⟩
  rotate_left
  ·have HB8:=toHid (HB7.out.trans (hb8.mono HB7.out.size))
   clear hb8
   go_wp2_with fail
   go_ret
   exact ⟨rfl,HB8.out⟩
  have HB8:=toHid (HB7.out.trans (hb8.mono HB7.out.size))
  have HU8:=toHid hb8
  have HLX8:=toHid hlx8
  have HPR8:=toHid hpr8
  have HT8:=toHid ht8
  clear hb8 hlx8 hpr8 ht8 HTX
  go_wp2_with fail
  refine (read_any t8 a0 a1 w8 ((HE.out.below HB8.out).up HB8.out.size).lenv).mono ?_
  rintro ev w9 ⟨hb9,⟨m9,ss9,k9,ba9,bc9,_,hlx9,hpr9,rfl,hR9⟩ | ⟨hno,t9,q9,rfl⟩⟩
  rotate_left
  ·exfalso
   exact hno m8 ss7 k8 HT8.out HLX8.out HPR8.out
  rw [HLX8.out] at hlx9
  simp only [Except.ok.injEq,Prod.mk.injEq] at hlx9
  obtain rfl:=cells_inj _ _ hlx9.2
  rw [HPR8.out] at hpr9
  simp only [Except.ok.injEq,Prod.mk.injEq] at hpr9
  obtain ⟨rfl,rfl⟩:=hpr9
  have HB9:=toHid (HB8.out.trans (hb9.mono HB8.out.size))
  have hb79:=HU8.out.trans (hb9.mono HU8.out.size)
  have HX9:=toHid (HX7.out.same (S':=fun b=>wT.heap.size≤b) (same_below hb79) (fun b h _=>h))
  have HY9:=toHid hR9.toV
  clear hlx9 hR9 hb9 hb79
  go_wp2_with fail
  refine (back_any _ w9 ba7 bc7 ss7 HX9.out HO7.out).mono ?_
  rintro ev w10 ⟨ba10,bc10,rfl,hr10,hb10⟩
  have HB10:=toHid (HB9.out.trans (hb10.mono HB9.out.size))
  have HY10:=toHid (HY9.out.same (S':=fun b=>w8.heap.size≤b) (same_below hb10) (fun b h _=>h))
  have HR10:=toHid hr10
  clear hr10 hb10
  go_wp2_with fail
  refine (back_any _ w10 ba9 bc9 ss7 HY10.out HO7.out).mono ?_
  rintro ev w11 ⟨ba11,bc11,rfl,hr11,hb11⟩
  have HB11:=toHid (HB10.out.trans (hb11.mono HB10.out.size))
  have HR1011:=toHid (HR10.out.same (S':=fun b=>w9.heap.size≤b) (same_below hb11) (fun b h _=>h))
  have HR11:=toHid hr11
  clear hr11 hb11
  go_wp2_with fail
  refine (same_any _ _ w11 ba10 ba11 bc10 bc11 ss7 HR1011.out HR11.out HO7.out).mono ?_
  rintro ev w12 ⟨rfl,hb12⟩
  have HB12:=toHid (HB11.out.trans (hb12.mono HB11.out.size))
  clear hb12
  go_wp2_with fail
  go_ret
  exact ⟨rfl,HB12.out⟩
 have HB4:=toHid (HB3.out.trans (hb4.mono HB3.out.size))
 have HLX4:=toHid hlx4
 have HPR4:=toHid hpr4
 have HT4:=toHid ht4
 clear hb4 hlx4 hpr4 ht4
 go_wp2_with fail
 refine (read_any t4 a0 a1 w4 ((HE.out.below HB4.out).up HB4.out.size).lenv).mono ?_
 rintro ev w5 ⟨hb5,⟨m5,ss5,k5,ba5,bc5,_,hlx5,hpr5,rfl,hR5⟩ | ⟨hno,t5,q5,rfl⟩⟩
 rotate_left
 ·exfalso
  exact hno m4 ss k4 HT4.out HLX4.out HPR4.out
 rw [HLX4.out] at hlx5
 simp only [Except.ok.injEq,Prod.mk.injEq] at hlx5
 obtain rfl:=cells_inj _ _ hlx5.2
 rw [HPR4.out] at hpr5
 simp only [Except.ok.injEq,Prod.mk.injEq] at hpr5
 obtain ⟨rfl,rfl⟩:=hpr5
 have HB5:=toHid (HB4.out.trans (hb5.mono HB4.out.size))
 have HX5:=toHid hR5.toV
 clear hlx5 hR5 hb5
 go_wp2_with fail
 refine (back_any _ w5 ba5 bc5 ss HX5.out HK.out).mono ?_
 rintro ev w6 ⟨ba6,bc6,rfl,hr6,hb6⟩
 have HB6:=toHid (HB5.out.trans (hb6.mono HB5.out.size))
 have HSM:=toHid (same_any _ S w6 ba6 ba bc6 bc ss hr6 (HR.out.same (same_below HB6.out) (fun b h _=>h)) HK.out)
 clear hr6 hb6
 go_wp2_with fail
 refine HSM.out.mono ?_
 rintro ev wT ⟨rfl,hbT⟩
 have HBT:=toHid (HB6.out.trans (hbT.mono HB6.out.size))
 clear hbT HSM
 have E7:=(HE.out.below HBT.out).up HBT.out.size
 go_wp2_with fail
 refine (read_any s a0 a1 wT E7.lenv).mono ?_
 rintro ev w7 ⟨hb7,⟨m7,ss7,k7,ba7,bc7,hs7,hlx7,hpr7,rfl,hR7⟩ | ⟨_,t7,q7,rfl⟩⟩
 rotate_left
 ·have HB7:=toHid (HBT.out.trans (hb7.mono HBT.out.size))
  clear hb7 E7
  go_wp2_with fail
  go_ret
  exact ⟨rfl,HB7.out⟩
 have HB7:=toHid (HBT.out.trans (hb7.mono HBT.out.size))
 obtain ⟨hok7,D7,_,hz7⟩:=read_fit hs7 hlx7 hpr7
 have HTX:=toHid (text_two a0 a1 a2 w7 ((HE.out.below HB7.out).up HB7.out.size) (HTB.out.below HB7.out (Nat.le_refl _)) _ ba7 bc7 D7 ss7 hR7.toW hok7 hz7)
 have HX7:=toHid hR7.toV
 have HO7:=toHid hok7
 clear hb7 E7 hR7 hok7 hz7 hlx7 hpr7
 go_wp2_with fail
 refine HTX.out.mono ?_
 rintro ev w8 ⟨hb8,⟨t8,m8,k8,rfl,ht8,hlx8,hpr8⟩ | rfl⟩
 rotate_left
 ·have HB8:=toHid (HB7.out.trans (hb8.mono HB7.out.size))
  clear hb8
  go_wp2_with fail
  go_ret
  exact ⟨rfl,HB8.out⟩
 have HB8:=toHid (HB7.out.trans (hb8.mono HB7.out.size))
 have HU8:=toHid hb8
 have HLX8:=toHid hlx8
 have HPR8:=toHid hpr8
 have HT8:=toHid ht8
 clear hb8 hlx8 hpr8 ht8 HTX
 go_wp2_with fail
 refine (read_any t8 a0 a1 w8 ((HE.out.below HB8.out).up HB8.out.size).lenv).mono ?_
 rintro ev w9 ⟨hb9,⟨m9,ss9,k9,ba9,bc9,_,hlx9,hpr9,rfl,hR9⟩ | ⟨hno,t9,q9,rfl⟩⟩
 rotate_left
 ·exfalso
  exact hno m8 ss7 k8 HT8.out HLX8.out HPR8.out
 rw [HLX8.out] at hlx9
 simp only [Except.ok.injEq,Prod.mk.injEq] at hlx9
 obtain rfl:=cells_inj _ _ hlx9.2
 rw [HPR8.out] at hpr9
 simp only [Except.ok.injEq,Prod.mk.injEq] at hpr9
 obtain ⟨rfl,rfl⟩:=hpr9
 have HB9:=toHid (HB8.out.trans (hb9.mono HB8.out.size))
 have hb79:=HU8.out.trans (hb9.mono HU8.out.size)
 have HX9:=toHid (HX7.out.same (S':=fun b=>wT.heap.size≤b) (same_below hb79) (fun b h _=>h))
 have HY9:=toHid hR9.toV
 clear hlx9 hR9 hb9 hb79
 go_wp2_with fail
 refine (back_any _ w9 ba7 bc7 ss7 HX9.out HO7.out).mono ?_
 rintro ev w10 ⟨ba10,bc10,rfl,hr10,hb10⟩
 have HB10:=toHid (HB9.out.trans (hb10.mono HB9.out.size))
 have HY10:=toHid (HY9.out.same (S':=fun b=>w8.heap.size≤b) (same_below hb10) (fun b h _=>h))
 have HR10:=toHid hr10
 clear hr10 hb10
 go_wp2_with fail
 refine (back_any _ w10 ba9 bc9 ss7 HY10.out HO7.out).mono ?_
 rintro ev w11 ⟨ba11,bc11,rfl,hr11,hb11⟩
 have HB11:=toHid (HB10.out.trans (hb11.mono HB10.out.size))
 have HR1011:=toHid (HR10.out.same (S':=fun b=>w9.heap.size≤b) (same_below hb11) (fun b h _=>h))
 have HR11:=toHid hr11
 clear hr11 hb11
 go_wp2_with fail
 refine (same_any _ _ w11 ba10 ba11 bc10 bc11 ss7 HR1011.out HR11.out HO7.out).mono ?_
 rintro ev w12 ⟨rfl,hb12⟩
 have HB12:=toHid (HB11.out.trans (hb12.mono HB11.out.size))
 clear hb12
 go_wp2_with fail
 go_ret
 exact ⟨rfl,HB12.out⟩
end Go.Proofs.YtpcjcgkpjapbpaaGreatDoor
