/- Package tree: atom, its ways (written by tools/tree/atom.py). -/
import Derived.Test.YtemapnogjepokaaGreatDoorTreeRToTreeU
namespace Go.Proofs.YtemapnogjepokaaGreatDoor
open Go.RowKit

set_option maxHeartbeats 2000000 in
set_option maxRecDepth 100000 in
theorem atom_int {p g cap:Nat}{rk:Value}{l:List (ByteArray × ByteArray × Nat)}{k bl dp:Nat}{a0 a1:Addr}(hl:l.length≤100000) {x:ByteArray × ByteArray × Nat}(hx:l[k]?=some x) (hk:k+1<l.length) (c1:(x.1.toList == [105,110,116])=true) (hsz:x.2.1.size≤9223372036854775806) (v:Int) (hv:Lib.parseIntB 64 x.2.1.data.toList = .ok v) (w:World) (R:RD w p g cap rk l k bl dp) :
  Calls Tryz.prog 172 #[.pointer (some ⟨p,0,none⟩)] w fun ev w'=>PostE (fun b=>w.heap.size≤b) p g cap rk l k bl dp a0 a1 w (.ok (mkE kIntT v ⟨#[]⟩ [] [],k+1)) ev w':=by
 have A0:=atom_start R
 have F0:=field0 (.string x.1) (.string x.2.1) (.int .i64 (x.2.2:Int))
 have F1:=field1 (.string x.1) (.string x.2.1) (.int .i64 (x.2.2:Int))
 have hpl:=lt_of_heap R.blk
 have HC0:=toHid (tnext_any A0.rd hx)
 have HA0:=toHid A0
 have cr0:=A0.br
 clear A0 R
 go_enter Tryz.func172,Tryz.ntmps172
 go_wp2_with fail
 refine HC0.out.mono ?_
 rintro ev w1 ⟨rfl,hb1⟩
 have A1:=HA0.out.more hb1
 have HA1:=toHid A1
 have R1:=A1.rd
 have cr1:=A1.br
 clear A1 hb1 HC0 HA0
 go_wp2_with fail
 refine (tpass_any R1 hx hl).mono ?_
 rintro ev w2 ⟨rfl,R2,K2⟩
 have A2:=HA1.out.go R2 K2
 have HA2:=toHid A2
 have cr2:=A2.br
 clear R1 R2 K2
 clear A2
 go_wp2_with fail
 refine (parse_ok _ hsz v hv _).mono ?_
 rintro ev w3 ⟨rfl,hw3⟩
 have hb3:Below w2.heap.size w2 w3:=by
  rcases hw3 with rfl | ⟨t,rfl⟩
  ·exact Below.refl _ _
  ·exact below_bytes _ _
 have A3:=HA2.out.more hb3
 clear hw3 hb3 HA2 HA1
 obtain ⟨u0,u1,u2,u3,u4,uf⟩:=expr_block A3.b4
 have uf0:=uf 0
 have uf1:=uf 1
 have uf2:=uf 2
 have uf3:=uf 3
 have uf4:=uf 4
 have ul:=lt_of_heap A3.b4
 have HZ:=toHid (atom_leaf A3 kIntT v ⟨#[]⟩)
 clear A3 uf
 go_wp2_with fail
 obtain ⟨z1,z2,z3,z4⟩:=HZ.out
 refine bodyPost_ret (results_expr _ 2 rfl _ _ (w.heap.size+1) _ _ _ _ _ rfl z1) rfl ?_
 exact ⟨_,_,_,_,_,rfl,z2,z3,z4,by omega,hk⟩

set_option maxHeartbeats 2000000 in
set_option maxRecDepth 100000 in
theorem atom_str {p g cap:Nat}{rk:Value}{l:List (ByteArray × ByteArray × Nat)}{k bl dp:Nat}{a0 a1:Addr}(hl:l.length≤100000) {x:ByteArray × ByteArray × Nat}(hx:l[k]?=some x) (hk:k+1<l.length) (c1:(x.1.toList == [105,110,116])=false) (c2:(x.1.toList == [115,116,114])=true) (w:World) (R:RD w p g cap rk l k bl dp) :
  Calls Tryz.prog 172 #[.pointer (some ⟨p,0,none⟩)] w fun ev w'=>PostE (fun b=>w.heap.size≤b) p g cap rk l k bl dp a0 a1 w (.ok (mkE x.1 0 x.2.1 [] [],k+1)) ev w':=by
 have A0:=atom_start R
 have F0:=field0 (.string x.1) (.string x.2.1) (.int .i64 (x.2.2:Int))
 have F1:=field1 (.string x.1) (.string x.2.1) (.int .i64 (x.2.2:Int))
 have hpl:=lt_of_heap R.blk
 have HC0:=toHid (tnext_any A0.rd hx)
 have HA0:=toHid A0
 have cr0:=A0.br
 clear A0 R
 go_enter Tryz.func172,Tryz.ntmps172
 go_wp2_with fail
 refine HC0.out.mono ?_
 rintro ev w1 ⟨rfl,hb1⟩
 have A1:=HA0.out.more hb1
 have HA1:=toHid A1
 have R1:=A1.rd
 have cr1:=A1.br
 clear A1 hb1 HC0 HA0
 go_wp2_with fail
 refine (tpass_any R1 hx hl).mono ?_
 rintro ev w2 ⟨rfl,R2,K2⟩
 have A2:=HA1.out.go R2 K2
 have HA2:=toHid A2
 have cr2:=A2.br
 clear R1 R2 K2
 clear HA2 HA1
 obtain ⟨u0,u1,u2,u3,u4,uf⟩:=expr_block A2.b4
 have uf0:=uf 0
 have uf1:=uf 1
 have uf2:=uf 2
 have uf3:=uf 3
 have uf4:=uf 4
 have ul:=lt_of_heap A2.b4
 have HZ:=toHid (atom_leafT A2 x.1 0 x.2.1 (.cells #[.string x.1,.string x.2.1,.int .i64 (x.2.2:Int)] 121))
 clear A2 uf
 go_wp2_with fail
 obtain ⟨z1,z2,z3,z4⟩:=HZ.out
 refine bodyPost_ret (results_expr _ 2 rfl _ _ (w.heap.size+1) _ _ _ _ _ rfl z1) rfl ?_
 exact ⟨_,_,_,_,_,rfl,z2,z3,z4,by omega,hk⟩

set_option maxHeartbeats 2000000 in
set_option maxRecDepth 100000 in
theorem atom_name {p g cap:Nat}{rk:Value}{l:List (ByteArray × ByteArray × Nat)}{k bl dp:Nat}{a0 a1:Addr}(hl:l.length≤100000) {x:ByteArray × ByteArray × Nat}(hx:l[k]?=some x) (hk:k+1<l.length) (c1:(x.1.toList == [105,110,116])=false) (c2:(x.1.toList == [115,116,114])=false) (c3:(x.1.toList == [110,97,109,101])=true) (w:World) (R:RD w p g cap rk l k bl dp) :
  Calls Tryz.prog 172 #[.pointer (some ⟨p,0,none⟩)] w fun ev w'=>PostE (fun b=>w.heap.size≤b) p g cap rk l k bl dp a0 a1 w (.ok (mkE x.1 0 x.2.1 [] [],k+1)) ev w':=by
 have A0:=atom_start R
 have F0:=field0 (.string x.1) (.string x.2.1) (.int .i64 (x.2.2:Int))
 have F1:=field1 (.string x.1) (.string x.2.1) (.int .i64 (x.2.2:Int))
 have hpl:=lt_of_heap R.blk
 have HC0:=toHid (tnext_any A0.rd hx)
 have HA0:=toHid A0
 have cr0:=A0.br
 clear A0 R
 go_enter Tryz.func172,Tryz.ntmps172
 go_wp2_with fail
 refine HC0.out.mono ?_
 rintro ev w1 ⟨rfl,hb1⟩
 have A1:=HA0.out.more hb1
 have HA1:=toHid A1
 have R1:=A1.rd
 have cr1:=A1.br
 clear A1 hb1 HC0 HA0
 go_wp2_with fail
 refine (tpass_any R1 hx hl).mono ?_
 rintro ev w2 ⟨rfl,R2,K2⟩
 have A2:=HA1.out.go R2 K2
 have HA2:=toHid A2
 have cr2:=A2.br
 clear R1 R2 K2
 clear HA2 HA1
 obtain ⟨u0,u1,u2,u3,u4,uf⟩:=expr_block A2.b4
 have uf0:=uf 0
 have uf1:=uf 1
 have uf2:=uf 2
 have uf3:=uf 3
 have uf4:=uf 4
 have ul:=lt_of_heap A2.b4
 have HZ:=toHid (atom_leafT A2 x.1 0 x.2.1 (.cells #[.string x.1,.string x.2.1,.int .i64 (x.2.2:Int)] 121))
 clear A2 uf
 go_wp2_with fail
 obtain ⟨z1,z2,z3,z4⟩:=HZ.out
 refine bodyPost_ret (results_expr _ 2 rfl _ _ (w.heap.size+1) _ _ _ _ _ rfl z1) rfl ?_
 exact ⟨_,_,_,_,_,rfl,z2,z3,z4,by omega,hk⟩

set_option maxHeartbeats 2000000 in
set_option maxRecDepth 100000 in
theorem atom_word {p g cap:Nat}{rk:Value}{l:List (ByteArray × ByteArray × Nat)}{k bl dp:Nat}{a0 a1:Addr}(hl:l.length≤100000) {x:ByteArray × ByteArray × Nat}(hx:l[k]?=some x) (hk:k+1<l.length) (c1:(x.1.toList == [105,110,116])=false) (c2:(x.1.toList == [115,116,114])=false) (c3:(x.1.toList == [110,97,109,101])=false) (m0:markB x [kNone,kTrue,kFalse]=true) (w:World) (R:RD w p g cap rk l k bl dp) :
  Calls Tryz.prog 172 #[.pointer (some ⟨p,0,none⟩)] w fun ev w'=>PostE (fun b=>w.heap.size≤b) p g cap rk l k bl dp a0 a1 w (.ok (mkE x.2.1 0 ⟨#[]⟩ [] [],k+1)) ev w':=by
 have A0:=atom_start R
 have F0:=field0 (.string x.1) (.string x.2.1) (.int .i64 (x.2.2:Int))
 have F1:=field1 (.string x.1) (.string x.2.1) (.int .i64 (x.2.2:Int))
 have hpl:=lt_of_heap R.blk
 have HC0:=toHid (tnext_any A0.rd hx)
 have HA0:=toHid A0
 have cr0:=A0.br
 clear A0 R
 go_enter Tryz.func172,Tryz.ntmps172
 go_wp2_with fail
 refine HC0.out.mono ?_
 rintro ev w1 ⟨rfl,hb1⟩
 have A1:=HA0.out.more hb1
 have HA1:=toHid A1
 have R1:=A1.rd
 have cr1:=A1.br
 clear A1 hb1 HC0 HA0
 have HM3:=toHid (isMark3 R1 hx kNone kTrue kFalse)
 go_wp2_with fail
 refine HM3.out.mono ?_
 rintro ev w2 ⟨rfl,hb2⟩
 rw [m0]
 have A2:=HA1.out.more hb2
 have HA2:=toHid A2
 have R2:=A2.rd
 have cr2:=A2.br
 clear A2 hb2 HM3 HA1 R1 cr1
 go_wp2_with fail
 refine (tpass_any R2 hx hl).mono ?_
 rintro ev w3 ⟨rfl,R3,K3⟩
 have A3:=HA2.out.go R3 K3
 have HA3:=toHid A3
 have cr3:=A3.br
 clear R2 R3 K3
 clear HA3 HA2
 obtain ⟨u0,u1,u2,u3,u4,uf⟩:=expr_block A3.b4
 have uf0:=uf 0
 have uf1:=uf 1
 have uf2:=uf 2
 have uf3:=uf 3
 have uf4:=uf 4
 have ul:=lt_of_heap A3.b4
 have HZ:=toHid (atom_leaf A3 x.2.1 0 ⟨#[]⟩)
 clear A3 uf
 go_wp2_with fail
 obtain ⟨z1,z2,z3,z4⟩:=HZ.out
 refine bodyPost_ret (results_expr _ 2 rfl _ _ (w.heap.size+1) _ _ _ _ _ rfl z1) rfl ?_
 exact ⟨_,_,_,_,_,rfl,z2,z3,z4,by omega,hk⟩

set_option maxHeartbeats 2000000 in
set_option maxRecDepth 100000 in
theorem atom_par {p g cap:Nat}{rk:Value}{l:List (ByteArray × ByteArray × Nat)}{k bl dp:Nat}{a0 a1:Addr}{x:ByteArray × ByteArray × Nat}(hx:l[k]?=some x) {o:Out (DataW Unit)}(c1:(x.1.toList == [105,110,116])=false) (c2:(x.1.toList == [115,116,114])=false) (c3:(x.1.toList == [110,97,109,101])=false) (m0:markB x [kNone,kTrue,kFalse]=false) (m1:markB x [lpar]=true) (w:World) (R:RD w p g cap rk l k bl dp) (E:TErr p a0 a1 w) (X:RK p rk w)
  (hdeep:∀ w',RD w' p g cap rk l k bl dp→TErr p a0 a1 w'→RK p rk w'→w'.cell? ⟨w.heap.size,0,none⟩=some (.pointer (some ⟨p,0,none⟩))→Calls Tryz.prog 170 #[.pointer (some ⟨p,0,none⟩),.func (.func 188) #[] #[.pointer (some ⟨w.heap.size,0,none⟩)]] w' fun ev w''=>PostE (fun b=>w'.heap.size<b) p g cap rk l k bl dp a0 a1 w' o ev w'') :
  Calls Tryz.prog 172 #[.pointer (some ⟨p,0,none⟩)] w fun ev w'=>PostE (fun b=>w.heap.size≤b) p g cap rk l k bl dp a0 a1 w (o) ev w':=by
 have A0:=atom_start R
 have F0:=field0 (.string x.1) (.string x.2.1) (.int .i64 (x.2.2:Int))
 have F1:=field1 (.string x.1) (.string x.2.1) (.int .i64 (x.2.2:Int))
 have hpl:=lt_of_heap R.blk
 have HC0:=toHid (tnext_any A0.rd hx)
 have HA0:=toHid A0
 have cr0:=A0.br
 clear A0 R
 go_enter Tryz.func172,Tryz.ntmps172
 go_wp2_with fail
 refine HC0.out.mono ?_
 rintro ev w1 ⟨rfl,hb1⟩
 have A1:=HA0.out.more hb1
 have HA1:=toHid A1
 have R1:=A1.rd
 have cr1:=A1.br
 clear A1 hb1 HC0 HA0
 have HM3:=toHid (isMark3 R1 hx kNone kTrue kFalse)
 go_wp2_with fail
 refine HM3.out.mono ?_
 rintro ev w2 ⟨rfl,hb2⟩
 rw [m0]
 have A2:=HA1.out.more hb2
 have HA2:=toHid A2
 have R2:=A2.rd
 have cr2:=A2.br
 clear A2 hb2 HM3 HA1 R1 cr1
 have HM2:=toHid (isMark1 R2 hx lpar)
 go_wp2_with fail
 refine HM2.out.mono ?_
 rintro ev w3 ⟨rfl,hb3⟩
 rw [m1]
 have A3:=HA2.out.more hb3
 have HA3:=toHid A3
 have R3:=A3.rd
 have cr3:=A3.br
 clear A3 hb3 HM2 HA2 R2 cr2
 have HD:=toHid (hdeep _ R3 (E.keeps HA3.out.ks) (X.keeps HA3.out.ks) cr3)
 clear R3 E X
 go_wp2_with fail
 refine HD.out.mono ?_
 intro ev w9 hP
 rcases hP.parts with ⟨e5,k5,op5,z5,sx5,pa5,pn5,pc5,la5,ln5,lc5,q5,rfl,hrep5,R5,K5,hk5,hk5l⟩ | ⟨y,b,q5,rfl,hf⟩
 rotate_left
 ·have HF:Hid (faultAt l p a0 a1 w y (.panicked [{ v:=.iface 61 (.pointer (some ⟨b,0,none⟩)),recovered:=false }]) w9):=faultAt.after HA3.out.ks.below hf
  subst q5
  clear hP HD hf
  go_wp2_with fail
  exact ⟨rfl,HF.out⟩
 subst q5
 have A9:=HA3.out.go R5 K5
 obtain ⟨u0,u1,u2,u3,u4,uf⟩:=expr_block A9.b4
 have uf0:=uf 0
 have uf1:=uf 1
 have uf2:=uf 2
 have uf3:=uf 3
 have uf4:=uf 4
 have ul:=lt_of_heap A9.b4
 have HZ:=toHid (atom_deep HA3.out K5 R5 hrep5)
 clear A9 uf hP HD hrep5 R5 K5
 go_wp2_with fail
 obtain ⟨z1,z2,z3,z4⟩:=HZ.out
 refine bodyPost_ret (results_expr _ 2 rfl _ _ (w.heap.size+1) _ _ _ _ _ rfl z1) rfl ?_
 exact ⟨_,_,_,_,_,rfl,z2,z3,z4,hk5,hk5l⟩

set_option maxHeartbeats 2000000 in
set_option maxRecDepth 100000 in
theorem atom_brk {p g cap:Nat}{rk:Value}{l:List (ByteArray × ByteArray × Nat)}{k bl dp:Nat}{a0 a1:Addr}{x:ByteArray × ByteArray × Nat}(hx:l[k]?=some x) {o:Out (DataW Unit)}(c1:(x.1.toList == [105,110,116])=false) (c2:(x.1.toList == [115,116,114])=false) (c3:(x.1.toList == [110,97,109,101])=false) (m0:markB x [kNone,kTrue,kFalse]=false) (m1:markB x [lpar]=false) (m2:markB x [lbrk]=true) (w:World) (R:RD w p g cap rk l k bl dp) (E:TErr p a0 a1 w) (X:RK p rk w)
  (hdeep:∀ w',RD w' p g cap rk l k bl dp→TErr p a0 a1 w'→RK p rk w'→w'.cell? ⟨w.heap.size,0,none⟩=some (.pointer (some ⟨p,0,none⟩))→Calls Tryz.prog 170 #[.pointer (some ⟨p,0,none⟩),.func (.func 189) #[] #[.pointer (some ⟨w.heap.size,0,none⟩)]] w' fun ev w''=>PostE (fun b=>w'.heap.size<b) p g cap rk l k bl dp a0 a1 w' o ev w'') :
  Calls Tryz.prog 172 #[.pointer (some ⟨p,0,none⟩)] w fun ev w'=>PostE (fun b=>w.heap.size≤b) p g cap rk l k bl dp a0 a1 w (o) ev w':=by
 have A0:=atom_start R
 have F0:=field0 (.string x.1) (.string x.2.1) (.int .i64 (x.2.2:Int))
 have F1:=field1 (.string x.1) (.string x.2.1) (.int .i64 (x.2.2:Int))
 have hpl:=lt_of_heap R.blk
 have HC0:=toHid (tnext_any A0.rd hx)
 have HA0:=toHid A0
 have cr0:=A0.br
 clear A0 R
 go_enter Tryz.func172,Tryz.ntmps172
 go_wp2_with fail
 refine HC0.out.mono ?_
 rintro ev w1 ⟨rfl,hb1⟩
 have A1:=HA0.out.more hb1
 have HA1:=toHid A1
 have R1:=A1.rd
 have cr1:=A1.br
 clear A1 hb1 HC0 HA0
 have HM3:=toHid (isMark3 R1 hx kNone kTrue kFalse)
 go_wp2_with fail
 refine HM3.out.mono ?_
 rintro ev w2 ⟨rfl,hb2⟩
 rw [m0]
 have A2:=HA1.out.more hb2
 have HA2:=toHid A2
 have R2:=A2.rd
 have cr2:=A2.br
 clear A2 hb2 HM3 HA1 R1 cr1
 have HM2:=toHid (isMark1 R2 hx lpar)
 go_wp2_with fail
 refine HM2.out.mono ?_
 rintro ev w3 ⟨rfl,hb3⟩
 rw [m1]
 have A3:=HA2.out.more hb3
 have HA3:=toHid A3
 have R3:=A3.rd
 have cr3:=A3.br
 clear A3 hb3 HM2 HA2 R2 cr2
 have HM3:=toHid (isMark1 R3 hx lbrk)
 go_wp2_with fail
 refine HM3.out.mono ?_
 rintro ev w4 ⟨rfl,hb4⟩
 rw [m2]
 have A4:=HA3.out.more hb4
 have HA4:=toHid A4
 have R4:=A4.rd
 have cr4:=A4.br
 clear A4 hb4 HM3 HA3 R3 cr3
 have HD:=toHid (hdeep _ R4 (E.keeps HA4.out.ks) (X.keeps HA4.out.ks) cr4)
 clear R4 E X
 go_wp2_with fail
 refine HD.out.mono ?_
 intro ev w9 hP
 rcases hP.parts with ⟨e5,k5,op5,z5,sx5,pa5,pn5,pc5,la5,ln5,lc5,q5,rfl,hrep5,R5,K5,hk5,hk5l⟩ | ⟨y,b,q5,rfl,hf⟩
 rotate_left
 ·have HF:Hid (faultAt l p a0 a1 w y (.panicked [{ v:=.iface 61 (.pointer (some ⟨b,0,none⟩)),recovered:=false }]) w9):=faultAt.after HA4.out.ks.below hf
  subst q5
  clear hP HD hf
  go_wp2_with fail
  exact ⟨rfl,HF.out⟩
 subst q5
 have A9:=HA4.out.go R5 K5
 obtain ⟨u0,u1,u2,u3,u4,uf⟩:=expr_block A9.b4
 have uf0:=uf 0
 have uf1:=uf 1
 have uf2:=uf 2
 have uf3:=uf 3
 have uf4:=uf 4
 have ul:=lt_of_heap A9.b4
 have HZ:=toHid (atom_deep HA4.out K5 R5 hrep5)
 clear A9 uf hP HD hrep5 R5 K5
 go_wp2_with fail
 obtain ⟨z1,z2,z3,z4⟩:=HZ.out
 refine bodyPost_ret (results_expr _ 2 rfl _ _ (w.heap.size+1) _ _ _ _ _ rfl z1) rfl ?_
 exact ⟨_,_,_,_,_,rfl,z2,z3,z4,hk5,hk5l⟩

set_option maxHeartbeats 2000000 in
set_option maxRecDepth 100000 in
theorem atom_brc {p g cap:Nat}{rk:Value}{l:List (ByteArray × ByteArray × Nat)}{k bl dp:Nat}{a0 a1:Addr}{x:ByteArray × ByteArray × Nat}(hx:l[k]?=some x) {o:Out (DataW Unit)}(c1:(x.1.toList == [105,110,116])=false) (c2:(x.1.toList == [115,116,114])=false) (c3:(x.1.toList == [110,97,109,101])=false) (m0:markB x [kNone,kTrue,kFalse]=false) (m1:markB x [lpar]=false) (m2:markB x [lbrk]=false) (m3:markB x [lbrc]=true) (w:World) (R:RD w p g cap rk l k bl dp) (E:TErr p a0 a1 w) (X:RK p rk w)
  (hdeep:∀ w',RD w' p g cap rk l k bl dp→TErr p a0 a1 w'→RK p rk w'→w'.cell? ⟨w.heap.size,0,none⟩=some (.pointer (some ⟨p,0,none⟩))→Calls Tryz.prog 170 #[.pointer (some ⟨p,0,none⟩),.func (.func 190) #[] #[.pointer (some ⟨w.heap.size,0,none⟩)]] w' fun ev w''=>PostE (fun b=>w'.heap.size<b) p g cap rk l k bl dp a0 a1 w' o ev w'') :
  Calls Tryz.prog 172 #[.pointer (some ⟨p,0,none⟩)] w fun ev w'=>PostE (fun b=>w.heap.size≤b) p g cap rk l k bl dp a0 a1 w (o) ev w':=by
 have A0:=atom_start R
 have F0:=field0 (.string x.1) (.string x.2.1) (.int .i64 (x.2.2:Int))
 have F1:=field1 (.string x.1) (.string x.2.1) (.int .i64 (x.2.2:Int))
 have hpl:=lt_of_heap R.blk
 have HC0:=toHid (tnext_any A0.rd hx)
 have HA0:=toHid A0
 have cr0:=A0.br
 clear A0 R
 go_enter Tryz.func172,Tryz.ntmps172
 go_wp2_with fail
 refine HC0.out.mono ?_
 rintro ev w1 ⟨rfl,hb1⟩
 have A1:=HA0.out.more hb1
 have HA1:=toHid A1
 have R1:=A1.rd
 have cr1:=A1.br
 clear A1 hb1 HC0 HA0
 have HM3:=toHid (isMark3 R1 hx kNone kTrue kFalse)
 go_wp2_with fail
 refine HM3.out.mono ?_
 rintro ev w2 ⟨rfl,hb2⟩
 rw [m0]
 have A2:=HA1.out.more hb2
 have HA2:=toHid A2
 have R2:=A2.rd
 have cr2:=A2.br
 clear A2 hb2 HM3 HA1 R1 cr1
 have HM2:=toHid (isMark1 R2 hx lpar)
 go_wp2_with fail
 refine HM2.out.mono ?_
 rintro ev w3 ⟨rfl,hb3⟩
 rw [m1]
 have A3:=HA2.out.more hb3
 have HA3:=toHid A3
 have R3:=A3.rd
 have cr3:=A3.br
 clear A3 hb3 HM2 HA2 R2 cr2
 have HM3:=toHid (isMark1 R3 hx lbrk)
 go_wp2_with fail
 refine HM3.out.mono ?_
 rintro ev w4 ⟨rfl,hb4⟩
 rw [m2]
 have A4:=HA3.out.more hb4
 have HA4:=toHid A4
 have R4:=A4.rd
 have cr4:=A4.br
 clear A4 hb4 HM3 HA3 R3 cr3
 have HM4:=toHid (isMark1 R4 hx lbrc)
 go_wp2_with fail
 refine HM4.out.mono ?_
 rintro ev w5 ⟨rfl,hb5⟩
 rw [m3]
 have A5:=HA4.out.more hb5
 have HA5:=toHid A5
 have R5:=A5.rd
 have cr5:=A5.br
 clear A5 hb5 HM4 HA4 R4 cr4
 have HD:=toHid (hdeep _ R5 (E.keeps HA5.out.ks) (X.keeps HA5.out.ks) cr5)
 clear R5 E X
 go_wp2_with fail
 refine HD.out.mono ?_
 intro ev w9 hP
 rcases hP.parts with ⟨e5,k5,op5,z5,sx5,pa5,pn5,pc5,la5,ln5,lc5,q5,rfl,hrep5,R5,K5,hk5,hk5l⟩ | ⟨y,b,q5,rfl,hf⟩
 rotate_left
 ·have HF:Hid (faultAt l p a0 a1 w y (.panicked [{ v:=.iface 61 (.pointer (some ⟨b,0,none⟩)),recovered:=false }]) w9):=faultAt.after HA5.out.ks.below hf
  subst q5
  clear hP HD hf
  go_wp2_with fail
  exact ⟨rfl,HF.out⟩
 subst q5
 have A9:=HA5.out.go R5 K5
 obtain ⟨u0,u1,u2,u3,u4,uf⟩:=expr_block A9.b4
 have uf0:=uf 0
 have uf1:=uf 1
 have uf2:=uf 2
 have uf3:=uf 3
 have uf4:=uf 4
 have ul:=lt_of_heap A9.b4
 have HZ:=toHid (atom_deep HA5.out K5 R5 hrep5)
 clear A9 uf hP HD hrep5 R5 K5
 go_wp2_with fail
 obtain ⟨z1,z2,z3,z4⟩:=HZ.out
 refine bodyPost_ret (results_expr _ 2 rfl _ _ (w.heap.size+1) _ _ _ _ _ rfl z1) rfl ?_
 exact ⟨_,_,_,_,_,rfl,z2,z3,z4,hk5,hk5l⟩

set_option maxHeartbeats 2000000 in
set_option maxRecDepth 100000 in
theorem atom_none {p g cap:Nat}{rk:Value}{l:List (ByteArray × ByteArray × Nat)}{k bl dp:Nat}{a0 a1:Addr}{x:ByteArray × ByteArray × Nat}(hx:l[k]?=some x) (c1:(x.1.toList == [105,110,116])=false) (c2:(x.1.toList == [115,116,114])=false) (c3:(x.1.toList == [110,97,109,101])=false) (m0:markB x [kNone,kTrue,kFalse]=false) (m1:markB x [lpar]=false) (m2:markB x [lbrk]=false) (m3:markB x [lbrc]=false) (w:World) (R:RD w p g cap rk l k bl dp) (E:TErr p a0 a1 w) :
  Calls Tryz.prog 172 #[.pointer (some ⟨p,0,none⟩)] w fun ev w'=>PostE (fun b=>w.heap.size≤b) p g cap rk l k bl dp a0 a1 w (.error (k,false)) ev w':=by
 have A0:=atom_start R
 have F0:=field0 (.string x.1) (.string x.2.1) (.int .i64 (x.2.2:Int))
 have F1:=field1 (.string x.1) (.string x.2.1) (.int .i64 (x.2.2:Int))
 have hpl:=lt_of_heap R.blk
 have HC0:=toHid (tnext_any A0.rd hx)
 have HA0:=toHid A0
 have cr0:=A0.br
 clear A0 R
 go_enter Tryz.func172,Tryz.ntmps172
 go_wp2_with fail
 refine HC0.out.mono ?_
 rintro ev w1 ⟨rfl,hb1⟩
 have A1:=HA0.out.more hb1
 have HA1:=toHid A1
 have R1:=A1.rd
 have cr1:=A1.br
 clear A1 hb1 HC0 HA0
 have HM3:=toHid (isMark3 R1 hx kNone kTrue kFalse)
 go_wp2_with fail
 refine HM3.out.mono ?_
 rintro ev w2 ⟨rfl,hb2⟩
 rw [m0]
 have A2:=HA1.out.more hb2
 have HA2:=toHid A2
 have R2:=A2.rd
 have cr2:=A2.br
 clear A2 hb2 HM3 HA1 R1 cr1
 have HM2:=toHid (isMark1 R2 hx lpar)
 go_wp2_with fail
 refine HM2.out.mono ?_
 rintro ev w3 ⟨rfl,hb3⟩
 rw [m1]
 have A3:=HA2.out.more hb3
 have HA3:=toHid A3
 have R3:=A3.rd
 have cr3:=A3.br
 clear A3 hb3 HM2 HA2 R2 cr2
 have HM3:=toHid (isMark1 R3 hx lbrk)
 go_wp2_with fail
 refine HM3.out.mono ?_
 rintro ev w4 ⟨rfl,hb4⟩
 rw [m2]
 have A4:=HA3.out.more hb4
 have HA4:=toHid A4
 have R4:=A4.rd
 have cr4:=A4.br
 clear A4 hb4 HM3 HA3 R3 cr3
 have HM4:=toHid (isMark1 R4 hx lbrc)
 go_wp2_with fail
 refine HM4.out.mono ?_
 rintro ev w5 ⟨rfl,hb5⟩
 rw [m3]
 have A5:=HA4.out.more hb5
 have HA5:=toHid A5
 have R5:=A5.rd
 have cr5:=A5.br
 clear A5 hb5 HM4 HA4 R4 cr4
 have E5:=E.keeps HA5.out.ks
 have hg0:=E5.g0
 have hgl:=lt_of_cell E5.g0
 clear E5
 go_wp2_with fail
 refine (tthrow_any R5 hx a0).mono ?_
 rintro ev w6 ⟨b,rfl,hbw,d0,d1⟩
 have HF:Hid (faultAt l p a0 a1 w (k,false) (.panicked [{ v:=.iface 61 (.pointer (some ⟨b,0,none⟩)),recovered:=false }]) w6):=⟨x,hx,b,rfl,HA5.out.ks.below.trans hbw,d0,d1⟩
 clear R5 hbw d0 d1 E HA5
 go_wp2_with fail
 exact ⟨rfl,HF.out⟩
end Go.Proofs.YtemapnogjepokaaGreatDoor
