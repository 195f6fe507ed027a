/- Package scope: find. -/
import Derived.Test.YtflcohidmemfpaaGreatDoorSvJ
import Derived.Test.YtflcohidmemfpaaGreatDoorTextT
import Derived.Test.YtflcohidmemfpaaGreatDoorSvF
set_option linter.all false
namespace Go.Proofs.YtflcohidmemfpaaGreatDoor
open Go.Proofs.Tryz
open Go.RowKit Go.Maps

structure Found (B:Nat) (l:List SD) (v:Value) (w:World):Prop where
 sps:SPS B l v w
 pos:0<l.length
 lo:∀ (i:Nat) (x:SD),l[i]?=some x→x.k≤2200000∧x.od.length≤2200000∧x.pn≤2200000 ∧ ∀ s n,x.mk' s n→n<16
 le:l.length≤2200000
theorem FS.start (w:World) (hw:World) (he:hw=w.alloc (.cells #[.slice none 0 0,.int .i64 0,.int .i64 (-1),.slice none 0 0] 58)):FS w.heap.size w.heap.size 0 [] hw∧Below w.heap.size w hw:=by
 have hb:hw.heap[w.heap.size]?=some (.cells #[.slice none 0 0,.int .i64 0,.int .i64 (-1),.slice none 0 0] 58):=by rw [he];exact heap_alloc_new _ _
 refine ⟨⟨⟨_,_,_,_,[],hb,⟨rfl,.inl ⟨rfl,rfl⟩⟩,⟨rfl,.inl ⟨rfl,rfl⟩⟩,by omega,by omega,by simp,fun y hy=>by simp at hy⟩,⟨fun i x hi=>by simp at hi,fun i j x y hi=>by simp at hi⟩,fun i x hi=>by simp at hi,fun i x hi=>by simp at hi,by simp,Nat.le_refl _⟩,?_⟩
 rw [he]
 exact (Below.refl _ _).alloc (Nat.le_refl _) _
theorem Znd {s:ByteArray}{m:List (ByteArray × ByteArray × Nat)}{ss:List (DataW Unit)}{k:Nat} (hs:s.size≤6000) (h:Z6s s = .ok (m.length,cellsOf m)) (hp:Z86 m = .ok (ss,k)):Zd7 2000000 ss ∧ ∃ D,ZSL D ss∧2*Z2x ss≤2000000:=by
 have hb:=Zjf h
 have h1:=Zz3 hp
 have h2:=Zt9 hp
 have h3:=Zvr h
 have h4:=Zh0 m k
 refine ⟨Zsb (by omega) hp,_,Zw0 (Zzt hs h) hp,?_⟩
 show 2*bl ss≤_
 unfold Sm at h1
 omega
set_option maxHeartbeats 8000000 in
set_option maxRecDepth 100000 in
theorem Zug (a0 a1 a2:Addr) (T3:TypeId) (q3:Option Addr) (w:World) (E:TwEnv w.heap.size a0 a1 a2 w) (ht:Z9a w) (h3:w.cell? ⟨0,0,none⟩=some (.iface T3 (.pointer q3))) (S:Nat→Prop) (ba:Option Addr) (bc D:Nat) (ss:List (DataW Unit)) (h:Z36 S w ba ss) (hk:BSL ss) (hz:ZSL D ss) :
  Calls prog 10 #[.slice ba ss.length bc] w fun ev w'=>Below w.heap.size w w'∧((∃ B l v,ev = .returned (.tuple #[v,.nilIface])∧w.heap.size≤B∧Found B l v w') ∨ ∃ T q,ev = .returned (.tuple #[.slice none 0 0,.iface T (.pointer q)])):=by
 have HT:=Z01 (Zv6 a0 a1 a2 w E ht S ba bc D ss h hk hz)
 have HR:=Z01 h.toV
 have H3:Hid (∀ W,Below w.heap.size w W→W.cell? ⟨0,0,none⟩=some (.iface T3 (.pointer q3))∧0<W.heap.size):=fun W hW=>by
  have:=(hW.cell (p:=⟨0,0,none⟩) (Z02 h3)).trans h3
  exact ⟨this,Z02 this⟩
 clear E ht h hk hz h3
 go_enter func10,ntmps10
 go_wp2_with fail
 refine HT.out.mono ?_
 clear HT
 rintro ev w1 ⟨hb1,⟨t,m,k,rfl,ht6,hlx,hpr⟩ | rfl⟩
 rotate_left
 ·go_wp2_with fail
  go_ret2
  exact ⟨hb1,.inr ⟨_,_,rfl⟩⟩
 obtain ⟨hok,D,hz,hc⟩:=Znd ht6 hlx hpr
 have HK:=Z01 hok
 have HZ:=Z01 hz
 clear hlx hpr hok hz
 obtain ⟨wF,hwF⟩:∃ wF,wF=w1.alloc (.cells #[.slice none 0 0,.int .i64 0,.int .i64 (-1),.slice none 0 0] 58):=⟨_,rfl⟩
 obtain ⟨hf0,hbF⟩:=FS.start w1 wF hwF
 have HWF:=Z01 hwF
 have hs1:=hb1.size
 have hsF:=hbF.size
 have HBF:Hid (Below w.heap.size w wF):=hb1.trans (hbF.mono hs1)
 have HO:=Z01 (Zf2 hf0 hsF ⟨#[]⟩ [] none 0 (fun h=>absurd h (by simp)) (fun x hx=>by simp at hx) (-1) ⟨fun _=>rfl,fun h=>absurd h (by simp)⟩ 0 (Nat.le_refl _) (by simp))
 clear hwF hf0 hbF hb1
 go_wp2_with fail
 rw [←HWF.out]
 refine HO.out.mono ?_
 rintro ev w2 ⟨rfl,hb2,x,hf2⟩
 have hsz2:=hb2.below.size
 have hb2w:Below w.heap.size w w2:=HBF.out.trans (hb2.below.mono hs1)
 have HS:=Z01 (Zr0 D w1.heap.size w1.heap.size _ _ w2 hf2 (by omega) ba bc ss (HR.out.same (Z06 hb2w) (fun b _ hl=>by show b<_;omega)) HK.out HZ.out (by simp;omega) 0 false (by simp))
 have hp2:=hf2.lt
 have HB2:=Z01 hb2w
 clear hb2 hf2 hb2w HO
 go_wp2_with fail
 refine HS.out.mono ?_
 rintro ev w3 ⟨rfl,hb3,l3,hl3,hf3⟩
 have hb3w:Below w.heap.size w w3:=HB2.out.trans (hb3.below.mono hs1)
 have hsz3:=hb3.below.size
 have HA:=Z01 (Zft hf3 (by omega) (by simp;omega))
 have HB3:=Z01 hb3w
 have hp3:=hf3.lt
 clear hb3 hf3 hb3w HS
 go_wp2_with fail
 refine HA.out.mono ?_
 rintro ev w4 ⟨rfl,hb4,hf4⟩
 have hb4w:Below w.heap.size w w4:=HB3.out.trans (hb4.mono hs1)
 obtain ⟨vs,bg,wr,vc,cl,b1,_,_,_,b5,_⟩:=hf4.blk
 obtain ⟨c0,c1,c2,c3,cf⟩:=Z2e b1
 have hp4:=hf4.lt
 obtain ⟨d3,d3l⟩:=H3.out w4 hb4w
 obtain ⟨vs',e0,hsps⟩:=hf4.sps (by simp;omega)
 obtain rfl:vs=vs':=by
  rw [c0] at e0
  simpa using e0
 have HFD:Hid (Found w1.heap.size l3 vs w4):=⟨hsps,by simp at hl3;omega,fun i x hi=>by
  obtain ⟨a,b,d,e⟩:=hf4.lo i x hi
  simp at a b d
  exact ⟨by omega,by omega,by omega,e⟩,by have:=hf4.len;simp at this;omega⟩
 have HB4:=Z01 hb4w
 clear hb4 hf4 b1 cf hb4w hsps e0
 by_cases hw0:0≤wr
 ·go_upto_region 8 with fail
  go_region_held3 (fun W=>W.cell? ⟨w1.heap.size,2,none⟩=some (.int .i64 wr)∧W.cell? ⟨0,0,none⟩=some (.iface T3 (.pointer q3))) (first | go_keep) (fail)
  all_goals
   go_wp2_with fail
   go_ret2
   exact ⟨(HB4.out.alloc HB4.out.size _).drew,.inr ⟨_,_,rfl⟩⟩
 ·go_wp2_with fail
  go_ret2
  exact ⟨HB4.out,.inl ⟨w1.heap.size,l3,vs,rfl,hs1,HFD.out⟩⟩
end Go.Proofs.YtflcohidmemfpaaGreatDoor
