/- Package tree's writer, whatever it is handed: bare. -/
import Derived.Test.YtflcohidmemfpaaGreatDoorSsV
set_option linter.all false
namespace Go.Proofs.YtflcohidmemfpaaGreatDoor
open Go.Proofs.Tryz
open Go.RowKit Go.Lib
variable {P:Prop}

set_option maxHeartbeats 4000000 in
set_option maxRecDepth 100000 in
theorem Zu3 {p:Nat}{rk:Value}{w1:World}{n:Nat} (H:RW P p rk w1 n) (HF:Z9b P p rk w1) {z:Int}{s:ByteArray}{pa:Option Addr}{pn pc:Nat}{la:Option Addr}{ln lc:Nat} (ht:tv P w1 p (n+1) ⟨#[105,110,116]⟩ z s pa pn pc la ln lc) (own:Nat) (_:own≤8) (w:World) (C:WT p rk w1 w) :
  Calls prog 98 #[.pointer (some ⟨p,0,none⟩),.agg #[.string ⟨#[105,110,116]⟩,.int .i64 z,.string s,.slice pa pn pc,.slice la ln lc],.int .i64 (own:Int)] w fun ev w'=>ev = .returned (.tuple #[])∧WX P p rk w1 w w':=by
 obtain ⟨hos,hss,hz0,hz1,hpn,hN,hlc,hln,hrow⟩:=id ht
 obtain ⟨wE,hE⟩:∃ wE,wE=w.alloc (.cells #[.string ⟨#[105,110,116]⟩,.int .i64 z,.string s,.slice pa pn pc,.slice la ln lc] 72):=⟨_,rfl⟩
 have hWE:WX P p rk w1 w wE:=by rw [hE];exact (WX.start C).alloc _
 have HE:=Z03 hE
 have HS:Hid (w.heap.size+1=wE.heap.size):=by show _=_;rw [hE];simp
 have HCA:=Z03 hWE
 have HH:=Z03 H
 have HT:=Z03 ht
 have HR:=Z03 hrow
 have hp:=C.lt
 have HF':=Z03 HF
 clear HF
 clear C ht hrow hE hWE H hN
 go_enter func98,ntmps98
 go_wp2_with fail
 rw [←HE.out]
 refine (HF'.out z wE hz0 hz1 HCA.out.wt).mono ?_
 rintro ev w2 ⟨t,rfl,ht,gt,hbl⟩
 have H2:=Z03 (HCA.out.more hbl)
 clear hbl
 go_wp2_with fail
 refine (Z58 H2.out t ht gt).mono ?_
 rintro ev w3 ⟨rfl,h3⟩
 have H3:=Z03 h3
 clear h3
 go_wp2_with fail
 go_end0
 exact ⟨rfl,H3.out⟩
set_option maxHeartbeats 4000000 in
set_option maxRecDepth 100000 in
theorem Zts {p:Nat}{rk:Value}{w1:World}{n:Nat} (H:RW P p rk w1 n) (HQ:Za4 P) {z:Int}{s:ByteArray}{pa:Option Addr}{pn pc:Nat}{la:Option Addr}{ln lc:Nat} (ht:tv P w1 p (n+1) ⟨#[115,116,114]⟩ z s pa pn pc la ln lc) (own:Nat) (_:own≤8) (w:World) (C:WT p rk w1 w) :
  Calls prog 98 #[.pointer (some ⟨p,0,none⟩),.agg #[.string ⟨#[115,116,114]⟩,.int .i64 z,.string s,.slice pa pn pc,.slice la ln lc],.int .i64 (own:Int)] w fun ev w'=>ev = .returned (.tuple #[])∧WX P p rk w1 w w':=by
 obtain ⟨hos,hss,hz0,hz1,hpn,hN,hlc,hln,hrow⟩:=id ht
 obtain ⟨wE,hE⟩:∃ wE,wE=w.alloc (.cells #[.string ⟨#[115,116,114]⟩,.int .i64 z,.string s,.slice pa pn pc,.slice la ln lc] 72):=⟨_,rfl⟩
 have hWE:WX P p rk w1 w wE:=by rw [hE];exact (WX.start C).alloc _
 have HE:=Z03 hE
 have HS:Hid (w.heap.size+1=wE.heap.size):=by show _=_;rw [hE];simp
 have HCA:=Z03 hWE
 have HH:=Z03 H
 have HT:=Z03 ht
 have HR:=Z03 hrow
 have hp:=C.lt
 have HQ':=Z03 HQ
 clear HQ
 clear C ht hrow hE hWE H hN
 go_enter func98,ntmps98
 go_wp2_with fail
 rw [←HE.out]
 refine (Zzs HQ'.out s hss.1 wE HCA.out.wt).mono ?_
 rintro ev w2 ⟨rfl,h2⟩
 have H2:=Z03 (HCA.out.trans h2)
 clear h2
 go_wp2_with fail
 go_end0
 exact ⟨rfl,H2.out⟩
set_option maxHeartbeats 4000000 in
set_option maxRecDepth 100000 in
theorem Zoq {p:Nat}{rk:Value}{w1:World}{n:Nat} (H:RW P p rk w1 n) {z:Int}{s:ByteArray}{pa:Option Addr}{pn pc:Nat}{la:Option Addr}{ln lc:Nat} (ht:tv P w1 p (n+1) ⟨#[78,111,110,101]⟩ z s pa pn pc la ln lc) (own:Nat) (_:own≤8) (w:World) (C:WT p rk w1 w) :
  Calls prog 98 #[.pointer (some ⟨p,0,none⟩),.agg #[.string ⟨#[78,111,110,101]⟩,.int .i64 z,.string s,.slice pa pn pc,.slice la ln lc],.int .i64 (own:Int)] w fun ev w'=>ev = .returned (.tuple #[])∧WX P p rk w1 w w':=by
 obtain ⟨hos,hss,hz0,hz1,hpn,hN,hlc,hln,hrow⟩:=id ht
 obtain ⟨wE,hE⟩:∃ wE,wE=w.alloc (.cells #[.string ⟨#[78,111,110,101]⟩,.int .i64 z,.string s,.slice pa pn pc,.slice la ln lc] 72):=⟨_,rfl⟩
 have hWE:WX P p rk w1 w wE:=by rw [hE];exact (WX.start C).alloc _
 have HE:=Z03 hE
 have HS:Hid (w.heap.size+1=wE.heap.size):=by show _=_;rw [hE];simp
 have HCA:=Z03 hWE
 have HH:=Z03 H
 have HT:=Z03 ht
 have HR:=Z03 hrow
 have hp:=C.lt
 clear C ht hrow hE hWE H hN
 go_enter func98,ntmps98
 go_wp2_with fail
 rw [←HE.out,HS.out]
 refine (Z58 HCA.out ⟨#[78,111,110,101]⟩ (by decide) (fun _=>by decide)).mono ?_
 rintro ev w2 ⟨rfl,h2⟩
 have H2:=Z03 (h2)
 clear h2
 go_wp2_with fail
 go_end0
 exact ⟨rfl,H2.out⟩
set_option maxHeartbeats 4000000 in
set_option maxRecDepth 100000 in
theorem Zr9 {p:Nat}{rk:Value}{w1:World}{n:Nat} (H:RW P p rk w1 n) {z:Int}{s:ByteArray}{pa:Option Addr}{pn pc:Nat}{la:Option Addr}{ln lc:Nat} (ht:tv P w1 p (n+1) ⟨#[84,114,117,101]⟩ z s pa pn pc la ln lc) (own:Nat) (_:own≤8) (w:World) (C:WT p rk w1 w) :
  Calls prog 98 #[.pointer (some ⟨p,0,none⟩),.agg #[.string ⟨#[84,114,117,101]⟩,.int .i64 z,.string s,.slice pa pn pc,.slice la ln lc],.int .i64 (own:Int)] w fun ev w'=>ev = .returned (.tuple #[])∧WX P p rk w1 w w':=by
 obtain ⟨hos,hss,hz0,hz1,hpn,hN,hlc,hln,hrow⟩:=id ht
 obtain ⟨wE,hE⟩:∃ wE,wE=w.alloc (.cells #[.string ⟨#[84,114,117,101]⟩,.int .i64 z,.string s,.slice pa pn pc,.slice la ln lc] 72):=⟨_,rfl⟩
 have hWE:WX P p rk w1 w wE:=by rw [hE];exact (WX.start C).alloc _
 have HE:=Z03 hE
 have HS:Hid (w.heap.size+1=wE.heap.size):=by show _=_;rw [hE];simp
 have HCA:=Z03 hWE
 have HH:=Z03 H
 have HT:=Z03 ht
 have HR:=Z03 hrow
 have hp:=C.lt
 clear C ht hrow hE hWE H hN
 go_enter func98,ntmps98
 go_wp2_with fail
 rw [←HE.out,HS.out]
 refine (Z58 HCA.out ⟨#[84,114,117,101]⟩ (by decide) (fun _=>by decide)).mono ?_
 rintro ev w2 ⟨rfl,h2⟩
 have H2:=Z03 (h2)
 clear h2
 go_wp2_with fail
 go_end0
 exact ⟨rfl,H2.out⟩
set_option maxHeartbeats 4000000 in
set_option maxRecDepth 100000 in
theorem Znh {p:Nat}{rk:Value}{w1:World}{n:Nat} (H:RW P p rk w1 n) {z:Int}{s:ByteArray}{pa:Option Addr}{pn pc:Nat}{la:Option Addr}{ln lc:Nat} (ht:tv P w1 p (n+1) ⟨#[70,97,108,115,101]⟩ z s pa pn pc la ln lc) (own:Nat) (_:own≤8) (w:World) (C:WT p rk w1 w) :
  Calls prog 98 #[.pointer (some ⟨p,0,none⟩),.agg #[.string ⟨#[70,97,108,115,101]⟩,.int .i64 z,.string s,.slice pa pn pc,.slice la ln lc],.int .i64 (own:Int)] w fun ev w'=>ev = .returned (.tuple #[])∧WX P p rk w1 w w':=by
 obtain ⟨hos,hss,hz0,hz1,hpn,hN,hlc,hln,hrow⟩:=id ht
 obtain ⟨wE,hE⟩:∃ wE,wE=w.alloc (.cells #[.string ⟨#[70,97,108,115,101]⟩,.int .i64 z,.string s,.slice pa pn pc,.slice la ln lc] 72):=⟨_,rfl⟩
 have hWE:WX P p rk w1 w wE:=by rw [hE];exact (WX.start C).alloc _
 have HE:=Z03 hE
 have HS:Hid (w.heap.size+1=wE.heap.size):=by show _=_;rw [hE];simp
 have HCA:=Z03 hWE
 have HH:=Z03 H
 have HT:=Z03 ht
 have HR:=Z03 hrow
 have hp:=C.lt
 clear C ht hrow hE hWE H hN
 go_enter func98,ntmps98
 go_wp2_with fail
 rw [←HE.out,HS.out]
 refine (Z58 HCA.out ⟨#[70,97,108,115,101]⟩ (by decide) (fun _=>by decide)).mono ?_
 rintro ev w2 ⟨rfl,h2⟩
 have H2:=Z03 (h2)
 clear h2
 go_wp2_with fail
 go_end0
 exact ⟨rfl,H2.out⟩
set_option maxHeartbeats 4000000 in
set_option maxRecDepth 100000 in
theorem Zp0 {p:Nat}{rk:Value}{w1:World}{n:Nat} (H:RW P p rk w1 n) {z:Int}{s:ByteArray}{pa:Option Addr}{pn pc:Nat}{la:Option Addr}{ln lc:Nat} (ht:tv P w1 p (n+1) ⟨#[110,97,109,101]⟩ z s pa pn pc la ln lc) (own:Nat) (_:own≤8) (w:World) (C:WT p rk w1 w) :
  Calls prog 98 #[.pointer (some ⟨p,0,none⟩),.agg #[.string ⟨#[110,97,109,101]⟩,.int .i64 z,.string s,.slice pa pn pc,.slice la ln lc],.int .i64 (own:Int)] w fun ev w'=>ev = .returned (.tuple #[])∧WX P p rk w1 w w':=by
 obtain ⟨hos,hss,hz0,hz1,hpn,hN,hlc,hln,hrow⟩:=id ht
 obtain ⟨wE,hE⟩:∃ wE,wE=w.alloc (.cells #[.string ⟨#[110,97,109,101]⟩,.int .i64 z,.string s,.slice pa pn pc,.slice la ln lc] 72):=⟨_,rfl⟩
 have hWE:WX P p rk w1 w wE:=by rw [hE];exact (WX.start C).alloc _
 have HE:=Z03 hE
 have HS:Hid (w.heap.size+1=wE.heap.size):=by show _=_;rw [hE];simp
 have HCA:=Z03 hWE
 have HH:=Z03 H
 have HT:=Z03 ht
 have HR:=Z03 hrow
 have hp:=C.lt
 clear C ht hrow hE hWE H hN
 go_enter func98,ntmps98
 go_wp2_with fail
 rw [←HE.out,HS.out]
 refine (Z58 HCA.out s hss.1 (hss.2 (by first | rfl | trivial))).mono ?_
 rintro ev w2 ⟨rfl,h2⟩
 have H2:=Z03 (h2)
 clear h2
 go_wp2_with fail
 go_end0
 exact ⟨rfl,H2.out⟩
set_option maxHeartbeats 4000000 in
set_option maxRecDepth 100000 in
theorem Ztk {p:Nat}{rk:Value}{w1:World}{n:Nat} (H:RW P p rk w1 n) {z:Int}{s:ByteArray}{pa:Option Addr}{pn pc:Nat}{la:Option Addr}{ln lc:Nat} (ht:tv P w1 p (n+1) ⟨#[110,101,103]⟩ z s pa pn pc la ln lc) (hl:1≤ln) (own:Nat) (ho:own≤8) (w:World) (C:WT p rk w1 w) :
  Calls prog 98 #[.pointer (some ⟨p,0,none⟩),.agg #[.string ⟨#[110,101,103]⟩,.int .i64 z,.string s,.slice pa pn pc,.slice la ln lc],.int .i64 (own:Int)] w fun ev w'=>ev = .returned (.tuple #[])∧WX P p rk w1 w w':=by
 obtain ⟨hos,hss,hz0,hz1,hpn,hN,hlc,hln,hrow⟩:=id ht
 obtain ⟨b,o,rfl,hb,op1,z1,s1,pa1,pn1,pc1,la1,ln1,lc1,k0,k1,k2,k3,k4,ht1⟩:=hrow.first (by omega)
 obtain ⟨wE,hE⟩:∃ wE,wE=w.alloc (.cells #[.string ⟨#[110,101,103]⟩,.int .i64 z,.string s,.slice pa pn pc,.slice (some ⟨b,o,none⟩) ln lc] 72):=⟨_,rfl⟩
 have hWE:WX P p rk w1 w wE:=by rw [hE];exact (WX.start C).alloc _
 have HE:=Z03 hE
 have HS:Hid (w.heap.size+1=wE.heap.size):=by show _=_;rw [hE];simp
 have HCA:=Z03 hWE
 have HH:=Z03 H
 have HT:=Z03 ht
 have HR:=Z03 hrow
 have hp:=C.lt
 have hq:wE.heap[w.heap.size]?=some (.cells #[.string ⟨#[110,101,103]⟩,.int .i64 z,.string s,.slice pa pn pc,.slice (some ⟨b,o,none⟩) ln lc] 72):=by rw [hE];exact heap_alloc_new _ _
 have HK:Hid (∀ w',WX P p rk w1 wE w'→w'.cell? ⟨w.heap.size,0,none⟩=some (.string ⟨#[110,101,103]⟩)∧w'.cell? ⟨w.heap.size,1,none⟩=some (.int .i64 z)∧w'.cell? ⟨w.heap.size,2,none⟩=some (.string s)∧w'.cell? ⟨w.heap.size,3,none⟩=some (.slice pa pn pc)∧w'.cell? ⟨w.heap.size,4,none⟩=some (.slice (some ⟨b,o,none⟩) ln lc)∧w'.cell? ⟨b,o,none⟩=some (.string op1)∧w'.cell? ⟨b,o+1,none⟩=some (.int .i64 z1)∧w'.cell? ⟨b,o+2,none⟩=some (.string s1)∧w'.cell? ⟨b,o+3,none⟩=some (.slice pa1 pn1 pc1)∧w'.cell? ⟨b,o+4,none⟩=some (.slice la1 ln1 lc1)):=fun w' h=>let e:=Z05 (h.block hq (by omega) (by decide));⟨e.1,e.2.1,e.2.2.1,e.2.2.2.1,e.2.2.2.2.1,h.wt.old (a:=⟨b,o,none⟩) hb k0,h.wt.old (a:=⟨b,o+1,none⟩) hb k1,h.wt.old (a:=⟨b,o+2,none⟩) hb k2,h.wt.old (a:=⟨b,o+3,none⟩) hb k3,h.wt.old (a:=⟨b,o+4,none⟩) hb k4⟩
 have y0:=C.old (a:=⟨b,o,none⟩) hb k0
 have y1:=C.old (a:=⟨b,o+1,none⟩) hb k1
 have y2:=C.old (a:=⟨b,o+2,none⟩) hb k2
 have y3:=C.old (a:=⟨b,o+3,none⟩) hb k3
 have y4:=C.old (a:=⟨b,o+4,none⟩) hb k4
 have hbw:b<w.heap.size:=by omega
 have HT1:=Z03 ht1
 have hL:(0:Int)<(ln:Int):=by omega
 clear ht1 k0 k1 k2 k3 k4 hq
 clear C ht hrow hE hWE H hN
 go_enter func98,ntmps98
 go_wp2_with fail
 rw [←HE.out,HS.out]
 clear y0 y1 y2 y3 y4
 refine (Z58 (WX.start (P:=P) HCA.out.wt) ⟨#[45]⟩ (by decide) (fun _=>by decide)).mono ?_
 rintro ev w2 ⟨rfl,h2⟩
 have H2:=Z03 h2
 obtain ⟨x0,x1,x2,x3,x4,y0,y1,y2,y3,y4⟩:=HK.out w2 h2
 clear h2
 go_wp2_with fail
 refine (HH.out _ _ _ _ _ _ _ _ _ HT1.out own (by omega) _ H2.out.wt).mono ?_
 rintro ev w3 ⟨rfl,h3⟩
 have H3:=Z03 (HCA.out.trans (H2.out.trans h3))
 clear h3 x0 x1 x2 x3 x4 y0 y1 y2 y3 y4
 go_wp2_with fail
 go_end0
 exact ⟨rfl,H3.out⟩
set_option maxHeartbeats 4000000 in
set_option maxRecDepth 100000 in
theorem Zv9 {p:Nat}{rk:Value}{w1:World}{n:Nat} (H:RW P p rk w1 n) {z:Int}{s:ByteArray}{pa:Option Addr}{pn pc:Nat}{la:Option Addr}{ln lc:Nat} (ht:tv P w1 p (n+1) ⟨#[110,111,116]⟩ z s pa pn pc la ln lc) (hl:1≤ln) (own:Nat) (ho:own≤8) (w:World) (C:WT p rk w1 w) :
  Calls prog 98 #[.pointer (some ⟨p,0,none⟩),.agg #[.string ⟨#[110,111,116]⟩,.int .i64 z,.string s,.slice pa pn pc,.slice la ln lc],.int .i64 (own:Int)] w fun ev w'=>ev = .returned (.tuple #[])∧WX P p rk w1 w w':=by
 obtain ⟨hos,hss,hz0,hz1,hpn,hN,hlc,hln,hrow⟩:=id ht
 obtain ⟨b,o,rfl,hb,op1,z1,s1,pa1,pn1,pc1,la1,ln1,lc1,k0,k1,k2,k3,k4,ht1⟩:=hrow.first (by omega)
 obtain ⟨wE,hE⟩:∃ wE,wE=w.alloc (.cells #[.string ⟨#[110,111,116]⟩,.int .i64 z,.string s,.slice pa pn pc,.slice (some ⟨b,o,none⟩) ln lc] 72):=⟨_,rfl⟩
 have hWE:WX P p rk w1 w wE:=by rw [hE];exact (WX.start C).alloc _
 have HE:=Z03 hE
 have HS:Hid (w.heap.size+1=wE.heap.size):=by show _=_;rw [hE];simp
 have HCA:=Z03 hWE
 have HH:=Z03 H
 have HT:=Z03 ht
 have HR:=Z03 hrow
 have hp:=C.lt
 have hq:wE.heap[w.heap.size]?=some (.cells #[.string ⟨#[110,111,116]⟩,.int .i64 z,.string s,.slice pa pn pc,.slice (some ⟨b,o,none⟩) ln lc] 72):=by rw [hE];exact heap_alloc_new _ _
 have HK:Hid (∀ w',WX P p rk w1 wE w'→w'.cell? ⟨w.heap.size,0,none⟩=some (.string ⟨#[110,111,116]⟩)∧w'.cell? ⟨w.heap.size,1,none⟩=some (.int .i64 z)∧w'.cell? ⟨w.heap.size,2,none⟩=some (.string s)∧w'.cell? ⟨w.heap.size,3,none⟩=some (.slice pa pn pc)∧w'.cell? ⟨w.heap.size,4,none⟩=some (.slice (some ⟨b,o,none⟩) ln lc)∧w'.cell? ⟨b,o,none⟩=some (.string op1)∧w'.cell? ⟨b,o+1,none⟩=some (.int .i64 z1)∧w'.cell? ⟨b,o+2,none⟩=some (.string s1)∧w'.cell? ⟨b,o+3,none⟩=some (.slice pa1 pn1 pc1)∧w'.cell? ⟨b,o+4,none⟩=some (.slice la1 ln1 lc1)):=fun w' h=>let e:=Z05 (h.block hq (by omega) (by decide));⟨e.1,e.2.1,e.2.2.1,e.2.2.2.1,e.2.2.2.2.1,h.wt.old (a:=⟨b,o,none⟩) hb k0,h.wt.old (a:=⟨b,o+1,none⟩) hb k1,h.wt.old (a:=⟨b,o+2,none⟩) hb k2,h.wt.old (a:=⟨b,o+3,none⟩) hb k3,h.wt.old (a:=⟨b,o+4,none⟩) hb k4⟩
 have y0:=C.old (a:=⟨b,o,none⟩) hb k0
 have y1:=C.old (a:=⟨b,o+1,none⟩) hb k1
 have y2:=C.old (a:=⟨b,o+2,none⟩) hb k2
 have y3:=C.old (a:=⟨b,o+3,none⟩) hb k3
 have y4:=C.old (a:=⟨b,o+4,none⟩) hb k4
 have hbw:b<w.heap.size:=by omega
 have HT1:=Z03 ht1
 have hL:(0:Int)<(ln:Int):=by omega
 clear ht1 k0 k1 k2 k3 k4 hq
 clear C ht hrow hE hWE H hN
 go_enter func98,ntmps98
 go_wp2_with fail
 rw [←HE.out,HS.out]
 clear y0 y1 y2 y3 y4
 refine (Z58 (WX.start (P:=P) HCA.out.wt) ⟨#[110,111,116,32]⟩ (by decide) (fun _=>by decide)).mono ?_
 rintro ev w2 ⟨rfl,h2⟩
 have H2:=Z03 h2
 obtain ⟨x0,x1,x2,x3,x4,y0,y1,y2,y3,y4⟩:=HK.out w2 h2
 clear h2
 go_wp2_with fail
 refine (HH.out _ _ _ _ _ _ _ _ _ HT1.out own (by omega) _ H2.out.wt).mono ?_
 rintro ev w3 ⟨rfl,h3⟩
 have H3:=Z03 (HCA.out.trans (H2.out.trans h3))
 clear h3 x0 x1 x2 x3 x4 y0 y1 y2 y3 y4
 go_wp2_with fail
 go_end0
 exact ⟨rfl,H3.out⟩
set_option maxHeartbeats 4000000 in
set_option maxRecDepth 100000 in
theorem Zq0 {p:Nat}{rk:Value}{w1:World}{n:Nat} (H:RW P p rk w1 n) {z:Int}{s:ByteArray}{pa:Option Addr}{pn pc:Nat}{la:Option Addr}{ln lc:Nat} (ht:tv P w1 p (n+1) ⟨#[99,97,108,108]⟩ z s pa pn pc la ln lc) (hl:1≤ln) (own:Nat) (ho:own≤8) (w:World) (C:WT p rk w1 w) :
  Calls prog 98 #[.pointer (some ⟨p,0,none⟩),.agg #[.string ⟨#[99,97,108,108]⟩,.int .i64 z,.string s,.slice pa pn pc,.slice la ln lc],.int .i64 (own:Int)] w fun ev w'=>ev = .returned (.tuple #[])∧WX P p rk w1 w w':=by
 obtain ⟨hos,hss,hz0,hz1,hpn,hN,hlc,hln,hrow⟩:=id ht
 obtain ⟨b,o,rfl,hb,op1,z1,s1,pa1,pn1,pc1,la1,ln1,lc1,k0,k1,k2,k3,k4,ht1⟩:=hrow.first (by omega)
 obtain ⟨wE,hE⟩:∃ wE,wE=w.alloc (.cells #[.string ⟨#[99,97,108,108]⟩,.int .i64 z,.string s,.slice pa pn pc,.slice (some ⟨b,o,none⟩) ln lc] 72):=⟨_,rfl⟩
 have hWE:WX P p rk w1 w wE:=by rw [hE];exact (WX.start C).alloc _
 have HE:=Z03 hE
 have HS:Hid (w.heap.size+1=wE.heap.size):=by show _=_;rw [hE];simp
 have HCA:=Z03 hWE
 have HH:=Z03 H
 have HT:=Z03 ht
 have HR:=Z03 hrow
 have hp:=C.lt
 have hq:wE.heap[w.heap.size]?=some (.cells #[.string ⟨#[99,97,108,108]⟩,.int .i64 z,.string s,.slice pa pn pc,.slice (some ⟨b,o,none⟩) ln lc] 72):=by rw [hE];exact heap_alloc_new _ _
 have HK:Hid (∀ w',WX P p rk w1 wE w'→w'.cell? ⟨w.heap.size,0,none⟩=some (.string ⟨#[99,97,108,108]⟩)∧w'.cell? ⟨w.heap.size,1,none⟩=some (.int .i64 z)∧w'.cell? ⟨w.heap.size,2,none⟩=some (.string s)∧w'.cell? ⟨w.heap.size,3,none⟩=some (.slice pa pn pc)∧w'.cell? ⟨w.heap.size,4,none⟩=some (.slice (some ⟨b,o,none⟩) ln lc)∧w'.cell? ⟨b,o,none⟩=some (.string op1)∧w'.cell? ⟨b,o+1,none⟩=some (.int .i64 z1)∧w'.cell? ⟨b,o+2,none⟩=some (.string s1)∧w'.cell? ⟨b,o+3,none⟩=some (.slice pa1 pn1 pc1)∧w'.cell? ⟨b,o+4,none⟩=some (.slice la1 ln1 lc1)):=fun w' h=>let e:=Z05 (h.block hq (by omega) (by decide));⟨e.1,e.2.1,e.2.2.1,e.2.2.2.1,e.2.2.2.2.1,h.wt.old (a:=⟨b,o,none⟩) hb k0,h.wt.old (a:=⟨b,o+1,none⟩) hb k1,h.wt.old (a:=⟨b,o+2,none⟩) hb k2,h.wt.old (a:=⟨b,o+3,none⟩) hb k3,h.wt.old (a:=⟨b,o+4,none⟩) hb k4⟩
 have y0:=C.old (a:=⟨b,o,none⟩) hb k0
 have y1:=C.old (a:=⟨b,o+1,none⟩) hb k1
 have y2:=C.old (a:=⟨b,o+2,none⟩) hb k2
 have y3:=C.old (a:=⟨b,o+3,none⟩) hb k3
 have y4:=C.old (a:=⟨b,o+4,none⟩) hb k4
 have hbw:b<w.heap.size:=by omega
 have HT1:=Z03 ht1
 have hL:(0:Int)<(ln:Int):=by omega
 clear ht1 k0 k1 k2 k3 k4 hq
 have hln1:ln - 1≤1152921504606846976:=by omega
 have hlc1:(ln:Int)≤(lc:Int):=by omega
 have hL1:(1:Int)≤(ln:Int):=by omega
 clear C ht hrow hE hWE H hN
 go_enter func98,ntmps98
 go_wp2_with fail
 rw [←HE.out]
 clear y0 y1 y2 y3 y4
 refine (HH.out _ _ _ _ _ _ _ _ _ HT1.out own (by omega) _ HCA.out.wt).mono ?_
 rintro ev w2 ⟨rfl,h2⟩
 have H2:=Z03 h2
 obtain ⟨x0,x1,x2,x3,x4,y0,y1,y2,y3,y4⟩:=HK.out w2 h2
 clear h2
 by_cases hc1:lc=1
 ·obtain rfl:ln=1:=by omega
  subst hc1
  go_wp2_with fail
  refine (Z8i HH.out ⟨#[40]⟩ ⟨#[41]⟩ (by decide) (by decide) (fun _=>by decide) (fun _=>by decide) _ 0 _ (Z5f.none_of _) (by omega) _ H2.out.wt).mono ?_
  rintro ev w3 ⟨rfl,h3⟩
  have H3:=Z03 (HCA.out.trans (H2.out.trans h3))
  clear h3 x0 x1 x2 x3 x4 y0 y1 y2 y3 y4
  go_wp2_with fail
  go_end0
  exact ⟨rfl,H3.out⟩
 ·have HL:=Z03 (HR.out.rest (k:=ln - 1) (by omega))
  go_wp2_with fail
  refine (Z8i HH.out ⟨#[40]⟩ ⟨#[41]⟩ (by decide) (by decide) (fun _=>by decide) (fun _=>by decide) _ (ln - 1) _ HL.out hln1 _ H2.out.wt).mono ?_
  rintro ev w3 ⟨rfl,h3⟩
  have H3:=Z03 (HCA.out.trans (H2.out.trans h3))
  clear h3 x0 x1 x2 x3 x4 y0 y1 y2 y3 y4
  go_wp2_with fail
  go_end0
  exact ⟨rfl,H3.out⟩
set_option maxHeartbeats 4000000 in
set_option maxRecDepth 100000 in
theorem Zm0 {p:Nat}{rk:Value}{w1:World}{n:Nat} (H:RW P p rk w1 n) {z:Int}{s:ByteArray}{pa:Option Addr}{pn pc:Nat}{la:Option Addr}{ln lc:Nat} (ht:tv P w1 p (n+1) ⟨#[105,110,100,101,120]⟩ z s pa pn pc la ln lc) (hl:2≤ln) (own:Nat) (_:own≤8) (w:World) (C:WT p rk w1 w) :
  Calls prog 98 #[.pointer (some ⟨p,0,none⟩),.agg #[.string ⟨#[105,110,100,101,120]⟩,.int .i64 z,.string s,.slice pa pn pc,.slice la ln lc],.int .i64 (own:Int)] w fun ev w'=>ev = .returned (.tuple #[])∧WX P p rk w1 w w':=by
 obtain ⟨hos,hss,hz0,hz1,hpn,hN,hlc,hln,hrow⟩:=id ht
 obtain ⟨wE,hE⟩:∃ wE,wE=w.alloc (.cells #[.string ⟨#[105,110,100,101,120]⟩,.int .i64 z,.string s,.slice pa pn pc,.slice la ln lc] 72):=⟨_,rfl⟩
 have hWE:WX P p rk w1 w wE:=by rw [hE];exact (WX.start C).alloc _
 have HE:=Z03 hE
 have HS:Hid (w.heap.size+1=wE.heap.size):=by show _=_;rw [hE];simp
 have HCA:=Z03 hWE
 have HH:=Z03 H
 have HT:=Z03 ht
 have HR:=Z03 hrow
 have hp:=C.lt
 clear C ht hrow hE hWE H hN
 go_enter func98,ntmps98
 go_wp2_with fail
 rw [←HE.out]
 refine (Zfl HH.out la ln lc HR.out hl hlc wE HCA.out.wt).mono ?_
 rintro ev w2 ⟨rfl,h2⟩
 have H2:=Z03 (HCA.out.trans h2)
 clear h2
 go_wp2_with fail
 go_end0
 exact ⟨rfl,H2.out⟩
set_option maxHeartbeats 4000000 in
set_option maxRecDepth 100000 in
theorem Zpe {p:Nat}{rk:Value}{w1:World}{n:Nat} (H:RW P p rk w1 n) {z:Int}{s:ByteArray}{pa:Option Addr}{pn pc:Nat}{la:Option Addr}{ln lc:Nat} (ht:tv P w1 p (n+1) ⟨#[108,105,115,116]⟩ z s pa pn pc la ln lc) (own:Nat) (_:own≤8) (w:World) (C:WT p rk w1 w) :
  Calls prog 98 #[.pointer (some ⟨p,0,none⟩),.agg #[.string ⟨#[108,105,115,116]⟩,.int .i64 z,.string s,.slice pa pn pc,.slice la ln lc],.int .i64 (own:Int)] w fun ev w'=>ev = .returned (.tuple #[])∧WX P p rk w1 w w':=by
 obtain ⟨hos,hss,hz0,hz1,hpn,hN,hlc,hln,hrow⟩:=id ht
 obtain ⟨wE,hE⟩:∃ wE,wE=w.alloc (.cells #[.string ⟨#[108,105,115,116]⟩,.int .i64 z,.string s,.slice pa pn pc,.slice la ln lc] 72):=⟨_,rfl⟩
 have hWE:WX P p rk w1 w wE:=by rw [hE];exact (WX.start C).alloc _
 have HE:=Z03 hE
 have HS:Hid (w.heap.size+1=wE.heap.size):=by show _=_;rw [hE];simp
 have HCA:=Z03 hWE
 have HH:=Z03 H
 have HT:=Z03 ht
 have HR:=Z03 hrow
 have hp:=C.lt
 clear C ht hrow hE hWE H hN
 go_enter func98,ntmps98
 go_wp2_with fail
 rw [←HE.out]
 refine (Z8i HH.out ⟨#[91]⟩ ⟨#[93]⟩ (by decide) (by decide) (fun _=>by decide) (fun _=>by decide) la ln lc HR.out hln wE HCA.out.wt).mono ?_
 rintro ev w2 ⟨rfl,h2⟩
 have H2:=Z03 (HCA.out.trans h2)
 clear h2
 go_wp2_with fail
 go_end0
 exact ⟨rfl,H2.out⟩
set_option maxHeartbeats 4000000 in
set_option maxRecDepth 100000 in
theorem Zqn {p:Nat}{rk:Value}{w1:World}{n:Nat} (H:RW P p rk w1 n) {z:Int}{s:ByteArray}{pa:Option Addr}{pn pc:Nat}{la:Option Addr}{ln lc:Nat} (ht:tv P w1 p (n+1) ⟨#[100,105,99,116]⟩ z s pa pn pc la ln lc) (own:Nat) (_:own≤8) (w:World) (C:WT p rk w1 w) :
  Calls prog 98 #[.pointer (some ⟨p,0,none⟩),.agg #[.string ⟨#[100,105,99,116]⟩,.int .i64 z,.string s,.slice pa pn pc,.slice la ln lc],.int .i64 (own:Int)] w fun ev w'=>ev = .returned (.tuple #[])∧WX P p rk w1 w w':=by
 obtain ⟨hos,hss,hz0,hz1,hpn,hN,hlc,hln,hrow⟩:=id ht
 obtain ⟨wE,hE⟩:∃ wE,wE=w.alloc (.cells #[.string ⟨#[100,105,99,116]⟩,.int .i64 z,.string s,.slice pa pn pc,.slice la ln lc] 72):=⟨_,rfl⟩
 have hWE:WX P p rk w1 w wE:=by rw [hE];exact (WX.start C).alloc _
 have HE:=Z03 hE
 have HS:Hid (w.heap.size+1=wE.heap.size):=by show _=_;rw [hE];simp
 have HCA:=Z03 hWE
 have HH:=Z03 H
 have HT:=Z03 ht
 have HR:=Z03 hrow
 have hp:=C.lt
 clear C ht hrow hE hWE H hN
 go_enter func98,ntmps98
 go_wp2_with fail
 rw [←HE.out]
 refine (Zsw HH.out la ln lc HR.out hln wE HCA.out.wt).mono ?_
 rintro ev w2 ⟨rfl,h2⟩
 have H2:=Z03 (HCA.out.trans h2)
 clear h2
 go_wp2_with fail
 go_end0
 exact ⟨rfl,H2.out⟩
set_option maxHeartbeats 4000000 in
set_option maxRecDepth 100000 in
theorem Zkc {p:Nat}{rk:Value}{w1:World}{n:Nat} (H:RW P p rk w1 n) {z:Int}{s:ByteArray}{pa:Option Addr}{pn pc:Nat}{la:Option Addr}{ln lc:Nat} (ht:tv P w1 p (n+1) ⟨#[108,97,109,98,100,97]⟩ z s pa pn pc la ln lc) (hl:1≤ln) (own:Nat) (_:own≤8) (w:World) (C:WT p rk w1 w) :
  Calls prog 98 #[.pointer (some ⟨p,0,none⟩),.agg #[.string ⟨#[108,97,109,98,100,97]⟩,.int .i64 z,.string s,.slice pa pn pc,.slice la ln lc],.int .i64 (own:Int)] w fun ev w'=>ev = .returned (.tuple #[])∧WX P p rk w1 w w':=by
 obtain ⟨hos,hss,hz0,hz1,hpn,hN,hlc,hln,hrow⟩:=id ht
 obtain ⟨wE,hE⟩:∃ wE,wE=w.alloc (.cells #[.string ⟨#[108,97,109,98,100,97]⟩,.int .i64 z,.string s,.slice pa pn pc,.slice la ln lc] 72):=⟨_,rfl⟩
 have hWE:WX P p rk w1 w wE:=by rw [hE];exact (WX.start C).alloc _
 have HE:=Z03 hE
 have HS:Hid (w.heap.size+1=wE.heap.size):=by show _=_;rw [hE];simp
 have HCA:=Z03 hWE
 have HH:=Z03 H
 have HT:=Z03 ht
 have HR:=Z03 hrow
 have hp:=C.lt
 clear C ht hrow hE hWE H hN
 go_enter func98,ntmps98
 go_wp2_with fail
 rw [←HE.out]
 refine (Zqv HH.out HT.out hl wE HCA.out.wt).mono ?_
 rintro ev w2 ⟨rfl,h2⟩
 have H2:=Z03 (HCA.out.trans h2)
 clear h2
 go_wp2_with fail
 go_end0
 exact ⟨rfl,H2.out⟩
set_option maxHeartbeats 4000000 in
set_option maxRecDepth 100000 in
theorem Zm2 {p:Nat}{rk:Value}{w1:World}{n:Nat} (H:RW P p rk w1 n) {z:Int}{s:ByteArray}{pa:Option Addr}{pn pc:Nat}{la:Option Addr}{ln lc:Nat}{op:ByteArray} (n0:(op.toList == [105,110,116])=false) (n1:(op.toList == [115,116,114])=false) (n2:(op.toList == [78,111,110,101])=false) (n3:(op.toList == [84,114,117,101])=false) (n4:(op.toList == [70,97,108,115,101])=false) (n5:(op.toList == [110,97,109,101])=false) (n6:(op.toList == [110,101,103])=false) (n7:(op.toList == [110,111,116])=false) (n8:(op.toList == [99,97,108,108])=false) (n9:(op.toList == [105,110,100,101,120])=false) (n10:(op.toList == [108,105,115,116])=false) (n11:(op.toList == [100,105,99,116])=false) (n12:(op.toList == [108,97,109,98,100,97])=false) (ht:tv P w1 p (n+1) op z s pa pn pc la ln lc) (hl:2≤ln) (own:Nat) (ho:own≤8) (w:World) (C:WT p rk w1 w) :
  Calls prog 98 #[.pointer (some ⟨p,0,none⟩),.agg #[.string op,.int .i64 z,.string s,.slice pa pn pc,.slice la ln lc],.int .i64 (own:Int)] w fun ev w'=>ev = .returned (.tuple #[])∧WX P p rk w1 w w':=by
 obtain ⟨hos,hss,hz0,hz1,hpn,hN,hlc,hln,hrow⟩:=id ht
 obtain ⟨wE,hE⟩:∃ wE,wE=w.alloc (.cells #[.string op,.int .i64 z,.string s,.slice pa pn pc,.slice la ln lc] 72):=⟨_,rfl⟩
 have hWE:WX P p rk w1 w wE:=by rw [hE];exact (WX.start C).alloc _
 have HE:=Z03 hE
 have HS:Hid (w.heap.size+1=wE.heap.size):=by show _=_;rw [hE];simp
 have HCA:=Z03 hWE
 have HH:=Z03 H
 have HT:=Z03 ht
 have HR:=Z03 hrow
 have hp:=C.lt
 clear C ht hrow hE hWE H hN
 go_enter func98,ntmps98
 go_wp2_with fail
 rw [←HE.out]
 refine (Zvz HH.out HT.out hl own ho wE HCA.out.wt).mono ?_
 rintro ev w2 ⟨rfl,h2⟩
 have H2:=Z03 (HCA.out.trans h2)
 clear h2
 go_wp2_with fail
 go_end0
 exact ⟨rfl,H2.out⟩
theorem Zwh {p:Nat}{rk:Value}{w1:World}{n:Nat} (H:RW P p rk w1 n) (HQ:Za4 P) (HF:Z9b P p rk w1) {op:ByteArray}{z:Int}{s:ByteArray}{pa:Option Addr}{pn pc:Nat}{la:Option Addr}{ln lc:Nat} (ht:tv P w1 p (n+1) op z s pa pn pc la ln lc) (hl:Z1i op≤ln) (own:Nat) (ho:own≤8) (w:World) (C:WT p rk w1 w) :
  Calls prog 98 #[.pointer (some ⟨p,0,none⟩),.agg #[.string op,.int .i64 z,.string s,.slice pa pn pc,.slice la ln lc],.int .i64 (own:Int)] w fun ev w'=>ev = .returned (.tuple #[])∧WX P p rk w1 w w':=by
 by_cases n0:(op.toList == [105,110,116])=true
 ·obtain rfl:=Z0x (beq_iff_eq.1 n0)
  exact Zu3 H HF ht own ho w C
 rw [Bool.not_eq_true] at n0
 by_cases n1:(op.toList == [115,116,114])=true
 ·obtain rfl:=Z0x (beq_iff_eq.1 n1)
  exact Zts H HQ ht own ho w C
 rw [Bool.not_eq_true] at n1
 by_cases n2:(op.toList == [78,111,110,101])=true
 ·obtain rfl:=Z0x (beq_iff_eq.1 n2)
  exact Zoq H ht own ho w C
 rw [Bool.not_eq_true] at n2
 by_cases n3:(op.toList == [84,114,117,101])=true
 ·obtain rfl:=Z0x (beq_iff_eq.1 n3)
  exact Zr9 H ht own ho w C
 rw [Bool.not_eq_true] at n3
 by_cases n4:(op.toList == [70,97,108,115,101])=true
 ·obtain rfl:=Z0x (beq_iff_eq.1 n4)
  exact Znh H ht own ho w C
 rw [Bool.not_eq_true] at n4
 by_cases n5:(op.toList == [110,97,109,101])=true
 ·obtain rfl:=Z0x (beq_iff_eq.1 n5)
  exact Zp0 H ht own ho w C
 rw [Bool.not_eq_true] at n5
 by_cases n6:(op.toList == [110,101,103])=true
 ·obtain rfl:=Z0x (beq_iff_eq.1 n6)
  have e:Z1i ⟨#[110,101,103]⟩=1:=by kernel_rfl
  exact Ztk H ht (by rw [e] at hl;exact hl) own ho w C
 rw [Bool.not_eq_true] at n6
 by_cases n7:(op.toList == [110,111,116])=true
 ·obtain rfl:=Z0x (beq_iff_eq.1 n7)
  have e:Z1i ⟨#[110,111,116]⟩=1:=by kernel_rfl
  exact Zv9 H ht (by rw [e] at hl;exact hl) own ho w C
 rw [Bool.not_eq_true] at n7
 by_cases n8:(op.toList == [99,97,108,108])=true
 ·obtain rfl:=Z0x (beq_iff_eq.1 n8)
  have e:Z1i ⟨#[99,97,108,108]⟩=1:=by kernel_rfl
  exact Zq0 H ht (by rw [e] at hl;exact hl) own ho w C
 rw [Bool.not_eq_true] at n8
 by_cases n9:(op.toList == [105,110,100,101,120])=true
 ·obtain rfl:=Z0x (beq_iff_eq.1 n9)
  have e:Z1i ⟨#[105,110,100,101,120]⟩=2:=by kernel_rfl
  exact Zm0 H ht (by rw [e] at hl;exact hl) own ho w C
 rw [Bool.not_eq_true] at n9
 by_cases n10:(op.toList == [108,105,115,116])=true
 ·obtain rfl:=Z0x (beq_iff_eq.1 n10)
  exact Zpe H ht own ho w C
 rw [Bool.not_eq_true] at n10
 by_cases n11:(op.toList == [100,105,99,116])=true
 ·obtain rfl:=Z0x (beq_iff_eq.1 n11)
  exact Zqn H ht own ho w C
 rw [Bool.not_eq_true] at n11
 by_cases n12:(op.toList == [108,97,109,98,100,97])=true
 ·obtain rfl:=Z0x (beq_iff_eq.1 n12)
  have e:Z1i ⟨#[108,97,109,98,100,97]⟩=1:=by kernel_rfl
  exact Zkc H ht (by rw [e] at hl;exact hl) own ho w C
 rw [Bool.not_eq_true] at n12
 have e:Z1i op=2:=by simp [Z1i,partsL,List.find?,n0,n1,n2,n3,n4,n5,n6,n7,n8,n10,n11,n12]
 exact Zm2 H n0 n1 n2 n3 n4 n5 n6 n7 n8 n9 n10 n11 n12 ht (by omega) own ho w C
end Go.Proofs.YtflcohidmemfpaaGreatDoor
namespace Go.Proofs.YtflcohidmemfpaaGreatDoor
open Go.Proofs.Tryz
open Go.RowKit Go.Lib
variable {P:Prop}

set_option maxHeartbeats 4000000 in
set_option maxRecDepth 100000 in
theorem Zir {p:Nat}{rk:Value}{w1:World}{n:Nat} (H:RW P p rk w1 n) (HQ:Za4 P) (HF:Z9b P p rk w1) (R:RKL p rk w1):RW P p rk w1 (n+1):=by
 intro op z s pa pn pc la ln lc ht least hle w C
 obtain ⟨ta,tn,tc,tm,lost,_,c0,c1,c2,c3,cf⟩:=C.cells
 obtain ⟨_,_,_,_,_,_,hlc,hln,_⟩:=id ht
 have f2:=cf 2
 have f3:=cf 3
 have hp:=C.lt
 obtain ⟨z',hz'⟩:∃ z',IntKind.i64.wrap (tm+1)=z':=⟨_,rfl⟩
 obtain ⟨wC,hwC⟩:∃ wC,wC=(w.setCell ⟨p,2,none⟩ (.int .i64 z')).alloc (.cells #[.string op,.int .i64 z,.string s,.slice pa pn pc,.slice la ln lc] 72):=⟨_,rfl⟩
 have hWC:WX P p rk w1 w wC:=by rw [hwC];exact ((WX.start C).count _).alloc _
 have hq:wC.heap[w.heap.size]?=some (.cells #[.string op,.int .i64 z,.string s,.slice pa pn pc,.slice la ln lc] 72):=by
  have h:=heap_alloc_new (w.setCell ⟨p,2,none⟩ (.int .i64 z')) (.cells #[.string op,.int .i64 z,.string s,.slice pa pn pc,.slice la ln lc] 72)
  have hs:(w.setCell ⟨p,2,none⟩ (.int .i64 z')).heap.size=w.heap.size:=by simp [World.setCell]
  rw [hs] at h
  rw [hwC]
  exact h
 have HK:Hid (∀ w',WX P p rk w1 wC w'→w'.cell? ⟨w.heap.size,0,none⟩=some (.string op)∧w'.cell? ⟨w.heap.size,1,none⟩=some (.int .i64 z)∧w'.cell? ⟨w.heap.size,2,none⟩=some (.string s)∧w'.cell? ⟨w.heap.size,3,none⟩=some (.slice pa pn pc)∧w'.cell? ⟨w.heap.size,4,none⟩=some (.slice la ln lc)):=fun w' h=>let e:=Z05 (h.block hq (by omega) (by decide));⟨e.1,e.2.1,e.2.2.1,e.2.2.2.1,e.2.2.2.2.1⟩
 have HWC:=Z03 hwC
 have HCC:=Z03 hWC
 have HB:=Z03 (fun (own:Nat) (ho:own≤8) (hl:Z1i op≤ln) (w2:World) (C2:WT p rk w1 w2)=>Zwh H HQ HF ht hl own ho w2 C2)
 have HR:=Z03 (fun (w2:World) (C2:WT p rk w1 w2)=>Zmv op w2 C2 R)
 have hn8:Zid op≤8:=Zkm op 8 0 (by omega)
 clear H HQ HF R ht C cf hwC hWC hq
 go_enter func67,ntmps67
 go_wp2_with fail
 by_cases hbig:(6000:Int)<z'
 ·go_quiet ((go_at_call 96;exact Calls.quiet_of_same (Zbz _ _)))
  rw [←HWC.out]
  obtain ⟨wD,hwD⟩:∃ wD,wD=wC.drewN nq:=⟨_,rfl⟩
  have HD:Hid (WX P p rk w1 w wD):=by show WX _ _ _ _ _ _;rw [hwD];exact HCC.out.drewN
  rw [←hwD]
  obtain ⟨ta',tn',tc',tm',lost',_,d0,d1,d2,d3,df⟩:=HD.out.wt.cells
  have df3:=df 3
  have HL:=Z03 (HD.out.lose true)
  clear df hwD c0 c1 c2 c3 f2 f3
  go_wp2_with fail
  refine bodyPost_ret (results_none rfl _ _ _) rfl ?_
  exact ⟨rfl,HL.out⟩
 by_cases hsm:(ln:Int)<(Z1i op:Int)
 ·go_quiet ((go_at_call 96;exact Calls.quiet_of_same (Zbz _ _)))
  rw [←HWC.out]
  obtain ⟨wD,hwD⟩:∃ wD,wD=wC.drewN nq:=⟨_,rfl⟩
  have HD:Hid (WX P p rk w1 w wD):=by show WX _ _ _ _ _ _;rw [hwD];exact HCC.out.drewN
  rw [←hwD]
  obtain ⟨ta',tn',tc',tm',lost',_,d0,d1,d2,d3,df⟩:=HD.out.wt.cells
  have df3:=df 3
  have HL:=Z03 (HD.out.lose true)
  clear df hwD c0 c1 c2 c3 f2 f3
  go_wp2_with fail
  refine bodyPost_ret (results_none rfl _ _ _) rfl ?_
  exact ⟨rfl,HL.out⟩
 ·have hl:Z1i op≤ln:=by omega
  go_quiet ((go_at_call 96;exact Calls.quiet_of_same (Zbz _ _)))
  rw [←HWC.out]
  obtain ⟨wD,hwD⟩:∃ wD,wD=wC.drewN nq:=⟨_,rfl⟩
  have hDC:WX P p rk w1 wC wD:=by rw [hwD];exact (WX.start HCC.out.wt).drewN
  have HDC:=Z03 hDC
  rw [←hwD]
  obtain ⟨ta',tn',tc',tm',lost',_,d0,d1,d2,d3,df⟩:=hDC.wt.cells
  obtain ⟨x0,x1,x2,x3,x4⟩:=HK.out wD hDC
  clear df hwD hDC c0 c1 c2 c3 f2 f3
  cases lost' with
  | true =>
   go_wp2_with fail
   refine bodyPost_ret (results_none rfl _ _ _) rfl ?_
   exact ⟨rfl,HCC.out.trans HDC.out⟩
  | false =>
   go_wp2_with fail
   refine (HR.out wD HDC.out.wt).mono ?_
   rintro ev w2 ⟨rfl,rfl⟩
   by_cases hge:(least:Int)≤(Zid op:Int)
   ·go_wp2_with fail
    refine (HB.out (Zid op) hn8 hl w2 HDC.out.wt).mono ?_
    rintro ev w3 ⟨rfl,h3⟩
    have H3:=Z03 (HCC.out.trans (HDC.out.trans h3))
    clear h3 x0 x1 x2 x3 x4 d0 d1 d2 d3
    go_wp2_with fail
    refine bodyPost_ret (results_none rfl _ _ _) rfl ?_
    exact ⟨rfl,H3.out⟩
   ·go_wp2_with fail
    refine (Z58 HDC.out ⟨#[40]⟩ (by decide) (fun _=>by decide)).mono ?_
    rintro ev w3 ⟨rfl,h3⟩
    have H3:=Z03 h3
    clear x0 x1 x2 x3 x4 d0 d1 d2 d3
    obtain ⟨x0,x1,x2,x3,x4⟩:=HK.out w3 h3
    clear h3
    go_wp2_with fail
    refine (HB.out (Zid op) hn8 hl w3 H3.out.wt).mono ?_
    rintro ev w4 ⟨rfl,h4⟩
    have H4:=Z03 (H3.out.trans h4)
    clear h4 x0 x1 x2 x3 x4
    go_wp2_with fail
    refine (Z58 H4.out ⟨#[41]⟩ (by decide) (fun _=>by decide)).mono ?_
    rintro ev w5 ⟨rfl,h5⟩
    have H5:=Z03 (HCC.out.trans h5)
    clear h5
    go_wp2_with fail
    go_end0
    exact ⟨rfl,H5.out⟩
theorem Zee {p:Nat}{rk:Value}{w1:World} (HQ:Za4 P) (HF:Z9b P p rk w1) (R:RKL p rk w1):∀ n,RW P p rk w1 n
 | 0=>fun _ _ _ _ _ _ _ _ _ ht=>ht.elim
 | n+1=>Zir (Zee HQ HF R n) HQ HF R
end Go.Proofs.YtflcohidmemfpaaGreatDoor
