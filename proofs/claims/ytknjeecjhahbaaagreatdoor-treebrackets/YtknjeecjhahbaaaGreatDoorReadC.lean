/- Package tree: Read, of every string, with the error that it tells. -/
import Derived.Test.YtknjeecjhahbaaaGreatDoorBaQ
set_option linter.all false
namespace Go.Proofs.YtknjeecjhahbaaaGreatDoor
open Go.RowKit

def NoLex (s:ByteArray):Prop:=∀ m:List (ByteArray × ByteArray × Nat),s.size≤6000→lexP s ≠ .ok (m.length,cellsOf m)
def RPostX (s:ByteArray) (a0 a1:Addr) (w:World) (ev:Ending) (w':World):Prop:=Below w.heap.size w w' ∧
 ((∃ m ss k ba bc,s.size≤6000∧lexP s = .ok (m.length,cellsOf m)∧pRead m = .ok (ss,k)∧ev = .returned (.tuple #[.slice ba ss.length bc,.nilIface])∧RepSL (fun b=>w.heap.size≤b) w' ba ss) ∨
  (∃ m y b t,s.size≤6000∧lexP s = .ok (m.length,cellsOf m)∧pRead m = .error y∧m[y.1]?=some t∧ev = .returned (.tuple #[.slice none 0 0,.iface 59 (.pointer (some ⟨b,0,none⟩))])∧w'.cell? ⟨b,0,none⟩=some (.int .i64 (t.2.2:Int))∧w'.cell? ⟨b,1,none⟩=some (.iface 199 (.pointer (some (if y.2 then a1 else a0))))) ∨
  (NoLex s ∧ ∃ t q,ev = .returned (.tuple #[.slice none 0 0,.iface t (.pointer q)])))
set_option maxHeartbeats 1000000 in
set_option maxRecDepth 100000 in
theorem read_told (s:ByteArray) (a0 a1:Addr) (w:World) (E:LEnv w.heap.size a0 a1 w):Calls Tryz.prog 9 #[.string s] w fun ev w'=>RPostX s a0 a1 w ev w':=by
 have hmf:∀ (fn:Fn) (first cap:Array Value) (w:World),(Instr.makeFunc fn first cap).run Tryz.prog w = .ok (.func fn first cap) w:=fun _ _ _ _=>rfl
 have hb0:Below w.heap.size w ((w.alloc (.cells #[.slice none 0 0] 35)).alloc (.cells #[.nilIface] 32)):=((Below.refl _ _).alloc (Nat.le_refl _) _).alloc (by simp) _
 have hs0:((w.alloc (.cells #[.slice none 0 0] 35)).alloc (.cells #[.nilIface] 32)).heap.size=w.heap.size+2:=by simp
 have hl0:((w.alloc (.cells #[.slice none 0 0] 35)).alloc (.cells #[.nilIface] 32)).heap[w.heap.size]?=some (.cells #[.slice none 0 0] 35):=(Below.heap_alloc _ _ _ (by simp)).trans (heap_alloc_new w _)
 have he0:((w.alloc (.cells #[.slice none 0 0] 35)).alloc (.cells #[.nilIface] 32)).heap[w.heap.size+1]?=some (.cells #[.nilIface] 32):=by
  have h:=heap_alloc_new (w.alloc (.cells #[.slice none 0 0] 35)) (.cells #[.nilIface] 32)
  simpa using h
 have HL:=toHid (lex_any s a0 a1 ((w.alloc (.cells #[.slice none 0 0] 35)).alloc (.cells #[.nilIface] 32)) ((E.below hb0).up hb0.size))
 have HT:=toHid (E.below hb0).terr
 have HB0:=toHid hb0
 have HL0:=toHid hl0
 have HE0:=toHid he0
 clear hb0 hl0 he0 E
 go_enter_defers Tryz.func9,Tryz.ntmps9
 go_wp2_with fail
 refine HL.out.mono ?_
 rintro ev w1 ⟨hb1,hx⟩
 rw [hs0] at hb1
 have hs1:=hb1.size
 rw [hs0] at hs1
 have hl1:=(hb1.block w.heap.size (by omega)).trans HL0.out
 have he1:=(hb1.block (w.heap.size+1) (by omega)).trans HE0.out
 have cl:=cell_of_heap hl1 rfl
 have fl:=frozen_of_heap hl1
 have ce:=cell_of_heap he1 rfl
 have fe:=frozen_of_heap he1
 have ll:=lt_of_heap hl1
 have le:=lt_of_heap he1
 have HW1:=toHid (HB0.out.trans (hb1.mono (by omega)))
 have HL1:=toHid hl1
 have HE1:=toHid he1
 have hway:(∃ m,s.size≤6000∧lexP s = .ok (m.length,cellsOf m) ∧ ∃ vt,ev = .returned (.tuple #[vt,.nilIface])∧w1.ownsRow (w.heap.size+2) 81 3 vt m.length (cellsOf m))∨(NoLex s ∧ ∃ t q,ev = .returned (.tuple #[.slice none 0 0,.iface t (.pointer q)])):=by
  by_cases h6:6000<s.size
  ·rw [if_pos h6] at hx
   exact .inr ⟨fun m h _=>by omega,_,_,hx⟩
  ·rw [if_neg h6] at hx
   cases hlx:lexP s with
   | error e =>
    rw [hlx] at hx
    obtain ⟨b,rfl,_⟩:=hx
    exact .inr ⟨(fun m _ h=>by rw [hlx] at h;cases h),_,_,rfl⟩
   | ok y =>
    obtain ⟨n,tk⟩:=y
    rw [hlx] at hx
    obtain ⟨m,rfl,rfl,_⟩:=lexP_fine hlx
    rw [hs0] at hx
    exact .inl ⟨m,by omega,rfl,hx⟩
 have HHB:=toHid (hb1.mono (show w.heap.size≤w.heap.size+2 by omega))
 clear hx HL hb1 hl1 he1
 rcases hway with ⟨m,h6,hlx,vt,rfl,ho⟩ | ⟨hno,t,q,rfl⟩
 rotate_left
 ·have HNO:=toHid hno
  clear hno
  go_wp2
  go_region
  all_goals (try go_wp2)
  all_goals
   simp [bodyPostD,Leaves,results,Tryz.results9,go_sem,cl,ce]
   exact ⟨(((HW1.out.setCell (by simp) _).setCell (Nat.le_refl _) _).setCell (by simp) _).drew,.inr (.inr ⟨HNO.out,_,_,rfl⟩)⟩
 obtain ⟨g,cap,rfl,hg,hgl,htk⟩:=lexP_own hlx ho
 have hml:m.length≤100000:=by have:=lexP_bd hlx;omega
 have T:=lexP_tokS hlx hml h6
 have hm0:=lexP_pos hlx
 have HTK:=toHid htk
 have HLX:=toHid hlx
 clear ho htk hlx
 go_wp2_with fail
 refine (ranks_any _).mono ?_
 rintro ev w2 ⟨rfl,hw2⟩
 have hz1:(w1.setCell ⟨w.heap.size+1,0,none⟩ .nilIface).heap.size=w1.heap.size:=size_set _ _ _
 obtain ⟨hb2,hs2,hrk⟩:=rk_of (w1.setCell ⟨w.heap.size+1,0,none⟩ .nilIface)
 rw [←hw2] at hb2 hs2 hrk
 rw [hz1] at hb2 hs2 hrk ⊢
 have hl2:=(hb2.block w.heap.size (by omega)).trans ((heap_set _ _ _ _ _ (by omega)).trans HL1.out)
 have he2:w2.heap[w.heap.size+1]?=some (.cells #[.nilIface] 32):=(hb2.block (w.heap.size+1) (by omega)).trans (by rw [heap_set_same HE1.out];rfl)
 have hba:Below w2.heap.size w2 (w2.alloc (.cells #[.slice (some ⟨g,0,none⟩) m.length cap,.int .i64 0,.slice (some ⟨w1.heap.size+8,0,none⟩) 8 8,.int .i64 1,.int .i64 0] 62)):=(Below.refl _ _).alloc (Nat.le_refl _) _
 have hbW:Below w.heap.size w1 (w2.alloc (.cells #[.slice (some ⟨g,0,none⟩) m.length cap,.int .i64 0,.slice (some ⟨w1.heap.size+8,0,none⟩) 8 8,.int .i64 1,.int .i64 0] 62)):=(((Below.refl w.heap.size w1).setCell (by simp) _).trans (hb2.mono (by omega))).trans (hba.mono (by omega))
 have htk2:∀ j v,(cellsOf m)[j]?=some v→(w2.alloc (.cells #[.slice (some ⟨g,0,none⟩) m.length cap,.int .i64 0,.slice (some ⟨w1.heap.size+8,0,none⟩) 8 8,.int .i64 1,.int .i64 0] 62)).cell? ⟨g,j,none⟩=some v:=fun j v hj=>(hba.cell (p:=⟨g,j,none⟩) (show g<w2.heap.size by omega)).trans ((hb2.cell (p:=⟨g,j,none⟩) hgl).trans ((World.cell?_of_block (w:=w1) (a:=⟨g,j,none⟩) (heap_set _ _ _ _ _ (show g≠w.heap.size+1 by omega))).trans (HTK.out j v hj)))
 have hsa:(w2.alloc (.cells #[.slice (some ⟨g,0,none⟩) m.length cap,.int .i64 0,.slice (some ⟨w1.heap.size+8,0,none⟩) 8 8,.int .i64 1,.int .i64 0] 62)).heap.size=w2.heap.size+1:=by simp
 have R:RD (w2.alloc (.cells #[.slice (some ⟨g,0,none⟩) m.length cap,.int .i64 0,.slice (some ⟨w1.heap.size+8,0,none⟩) 8 8,.int .i64 1,.int .i64 0] 62)) w2.heap.size g cap (.slice (some ⟨w1.heap.size+8,0,none⟩) 8 8) m 0 1 0:=⟨heap_alloc_new w2 _,htk2,by omega,by omega⟩
 have HTE:=toHid ((HT.out.below (HHB.out.trans hbW)).up (show w.heap.size≤w2.heap.size by omega))
 have HC:=toHid (programAt (a0:=a0) (a1:=a1) T hm0 _ R HTE.out ((hrk w2.heap.size (by omega)).keeps (Keeps.of hba (Nat.le_refl _))))
 have HWB:=toHid (HW1.out.trans hbW)
 have hl3:=(hba.block w.heap.size (by omega)).trans hl2
 have he3:=(hba.block (w.heap.size+1) (by omega)).trans he2
 have HL3:=toHid hl3
 have HE3:=toHid he3
 have hs2a:w1.heap.size+9≤w2.heap.size:=by omega
 have hs2b:w2.heap.size≤w1.heap.size+9:=by omega
 have HSA:Hid (w2.heap.size+1≤(w2.alloc (.cells #[.slice (some ⟨g,0,none⟩) m.length cap,.int .i64 0,.slice (some ⟨w1.heap.size+8,0,none⟩) 8 8,.int .i64 1,.int .i64 0] 62)).heap.size):=Nat.le_of_eq hsa.symm
 clear hs2 hsa hw2 hrk hl2 he2 hba hbW htk2 R hl3 he3 cl ce fl fe T hb2
 go_wp2_with fail
 refine HC.out.mono ?_
 intro ev w4 hP
 rcases hP.parts with ⟨ss,k4,ba,bc,q4,rfl,hS4,R4,K4,hk4,hk4l⟩ | ⟨y,b,q4,rfl,hf⟩
 rotate_left
 ·obtain ⟨t,g1,b',e1,hbw,d0,d1⟩:=hf
  have hl4:=(hbw.block w.heap.size (by omega)).trans HL3.out
  have he4:=(hbw.block (w.heap.size+1) (by omega)).trans HE3.out
  have HQ:=toHid q4
  have HG1:=toHid g1
  have HD01:=toHid (And.intro d0 d1)
  have hb4:=HWB.out.trans (hbw.mono (by omega))
  have hbb:b=b':=by simpa using e1
  subst hbb
  have hc0:b≠w.heap.size:=fun h=>by
   rw [h,cell_of_heap hl4 rfl] at d0
   cases d0
  have hc1:b≠w.heap.size+1:=fun h=>by
   rw [h,cell_of_heap he4 rfl] at d0
   cases d0
  clear hP HC g1 d0 d1 q4 e1
  go_wp2_with fail
  refine leaves_cons (f:=19) (args:=#[.pointer (some ⟨w.heap.size,0,none⟩),.pointer (some ⟨w.heap.size+1,0,none⟩)]) (by simp) (by simp [go_sem]) ?_
  refine (rcatch_fault w.heap.size (w.heap.size+1) ⟨b,0,none⟩ [] (.slice none 0 0) .nilIface w4 (by omega) (cell_of_heap hl4 rfl) (frozen_of_heap hl4) (cell_of_heap he4 rfl) (frozen_of_heap he4)).mono ?_
  rintro ev u' w5 ⟨rfl,rfl,rfl⟩
  obtain ⟨d1,d2⟩:=two_set (v':=.slice none 0 0) (u':=.iface 59 (.pointer (some ⟨b,0,none⟩))) hl4 he4
  have d3:Below w.heap.size w ((w4.setCell ⟨w.heap.size,0,none⟩ (.slice none 0 0)).setCell ⟨w.heap.size+1,0,none⟩ (.iface 59 (.pointer (some ⟨b,0,none⟩)))):=(hb4.setCell (Nat.le_refl _) _).setCell (by simp) _
  have d4:∀ i,((w4.setCell ⟨w.heap.size,0,none⟩ (.slice none 0 0)).setCell ⟨w.heap.size+1,0,none⟩ (.iface 59 (.pointer (some ⟨b,0,none⟩)))).cell? ⟨b,i,none⟩=w4.cell? ⟨b,i,none⟩:=fun i=>World.cell?_of_block ((heap_set _ _ _ _ _ hc1).trans (heap_set _ _ _ _ _ hc0))
  generalize (w4.setCell ⟨w.heap.size,0,none⟩ (.slice none 0 0)).setCell ⟨w.heap.size+1,0,none⟩ (.iface 59 (.pointer (some ⟨b,0,none⟩)))=w6 at d1 d2 d3 d4 ⊢
  simp [Leaves,settle,results,Tryz.results9,go_sem,d1,d2]
  exact ⟨d3,.inr (.inl ⟨m,y,b,t,h6,HLX.out,HQ.out,HG1.out,rfl,(d4 0).trans HD01.out.1,(d4 1).trans HD01.out.2⟩)⟩
 have hsa:=HSA.out
 have hl4:=(K4.block w.heap.size (by omega) (by omega)).trans HL3.out
 have he4:=(K4.block (w.heap.size+1) (by omega) (by omega)).trans HE3.out
 have cl:=cell_of_heap hl4 rfl
 have fl:=frozen_of_heap hl4
 have ce:=cell_of_heap he4 rfl
 have fe:=frozen_of_heap he4
 have ll4:=lt_of_heap hl4
 have le4:=lt_of_heap he4
 have hb4:=HWB.out.trans (K4.below.mono (by omega))
 have hrep:RepSL (fun b=>w.heap.size≤b) ((w4.setCell ⟨w.heap.size,0,none⟩ (.slice ba ss.length bc)).setCell ⟨w.heap.size+1,0,none⟩ .nilIface) ba ss:=(hS4.same (S':=fun b=>w.heap.size+2≤b) (same_set (by show ¬ (_≤w.heap.size);omega)) (fun b hb _=>by show _≤b;omega)).same (same_set (by show ¬ (_≤w.heap.size+1);omega)) (fun b hb _=>by show _≤b;omega)
 have D:=two_set (v':=.slice ba ss.length bc) (u':=.nilIface) hl4 he4
 have d3:Below w.heap.size w ((w4.setCell ⟨w.heap.size,0,none⟩ (.slice ba ss.length bc)).setCell ⟨w.heap.size+1,0,none⟩ .nilIface):=(hb4.setCell (Nat.le_refl _) _).setCell (by simp) _
 have HD:=toHid (And.intro D (And.intro d3 hrep))
 have HQ4:=toHid q4
 clear hsa hP HC hl4 he4 hb4 hrep D d3 hS4 R4 K4 q4
 go_wp2_with fail
 refine leaves_cons (f:=19) (args:=#[.pointer (some ⟨w.heap.size,0,none⟩),.pointer (some ⟨w.heap.size+1,0,none⟩)]) (by simp) (by simp [go_sem]) ?_
 refine (rcatch_idle w.heap.size (w.heap.size+1) _).mono ?_
 rintro ev u' w5 ⟨rfl,rfl,rfl⟩
 obtain ⟨⟨d1,d2⟩,d3,d4⟩:=HD.out
 generalize (w4.setCell ⟨w.heap.size,0,none⟩ (.slice ba ss.length bc)).setCell ⟨w.heap.size+1,0,none⟩ .nilIface=w6 at d1 d2 d3 d4 ⊢
 simp [Leaves,settle,results,Tryz.results9,go_sem,d1,d2]
 exact ⟨d3,.inl ⟨m,ss,k4,ba,bc,h6,HLX.out,HQ4.out,rfl,d4⟩⟩
end Go.Proofs.YtknjeecjhahbaaaGreatDoor
