/- Package tree: Read. -/
import Derived.Test.YtemapnogjepokaaGreatDoorStmtFToSameP
namespace Go.Proofs.YtemapnogjepokaaGreatDoor
open Go.RowKit

set_option maxHeartbeats 400000 in
theorem rcatch_idle (bl be:Nat) (w:World) :
  CallsD Tryz.prog 39 #[.pointer (some ⟨bl,0,none⟩),.pointer (some ⟨be,0,none⟩)] .returning w fun e u' w'=>e = .returned (.tuple #[])∧u' = .returning∧w'=w:=by
 refine callsD_of_wpS Tryz.func39 rfl fun c₀ cs hu => ?_
 apply wpS_seq
 apply wpS_region
 simp [wpOpsS,go_sem,recoverD,hu,Tryz.ntmps39,Exit.thenS]
 apply wpS_seq
 apply wpS_seq
 apply wpS_region
 simp [wpOpsS,go_sem,Exit.thenS]
 refine wpS_cond (t:=true) (by simp [Act.eval,Array.replicate]) ?_
 simp only [if_true]
 refine wpS_of_wp (wp_ret ?_)
 cases c₀
 simp_all [bodyPostS,results,Tryz.results39,Exit.thenS]

set_option maxHeartbeats 1000000 in
theorem rcatch_fault (bl be:Nat) (f:Addr) (older:List PanicEntry) (vl ve:Value) (w:World) (hne:bl≠be) (hl:w.cell? ⟨bl,0,none⟩=some vl) (hlf:w.frozen? ⟨bl,0,none⟩=false) (he:w.cell? ⟨be,0,none⟩=some ve) (hef:w.frozen? ⟨be,0,none⟩=false) :
  CallsD Tryz.prog 39 #[.pointer (some ⟨bl,0,none⟩),.pointer (some ⟨be,0,none⟩)] (.panicking ({ v:=.iface 61 (.pointer (some f)),recovered:=false } :: older)) w fun e u' w' =>
   e = .returned (.tuple #[])∧u' = .panicking ({ v:=.iface 61 (.pointer (some f)),recovered:=true } :: older)∧w'=(w.setCell ⟨bl,0,none⟩ (.slice none 0 0)).setCell ⟨be,0,none⟩ (.iface 61 (.pointer (some f))):=by
 have ha:=assertFault f
 have he2:(w.setCell ⟨bl,0,none⟩ (.slice none 0 0)).cell? ⟨be,0,none⟩=some ve:=by rw [World.cell?_of_block (w:=w) (a:=⟨be,0,none⟩) (heap_set _ _ _ _ _ hne.symm)];exact he
 have hf2:(w.setCell ⟨bl,0,none⟩ (.slice none 0 0)).frozen? ⟨be,0,none⟩=false:=by rw [World.frozen?_of_block (w:=w) (a:=⟨be,0,none⟩) (heap_set _ _ _ _ _ hne.symm)];exact hef
 refine callsD_of_wpS Tryz.func39 rfl fun c₀ cs hu => ?_
 apply wpS_seq
 apply wpS_region
 simp [wpOpsS,go_sem,recoverD,hu,Tryz.ntmps39,Exit.thenS]
 apply wpS_seq
 apply wpS_seq
 apply wpS_region
 simp [wpOpsS,go_sem,Exit.thenS]
 refine wpS_cond (t:=false) (by simp [Act.eval,Array.replicate]) ?_
 simp only [Bool.false_eq_true,if_false]
 refine wpS_of_wp (wp_skip ?_)
 simp only [Exit.thenS]
 apply wpS_seq
 apply wpS_region
 simp [wpOpsS,go_sem,Exit.thenS,ha]
 apply wpS_seq
 apply wpS_seq
 apply wpS_region
 simp [wpOpsS,go_sem,Exit.thenS]
 refine wpS_cond (t:=false) (by simp [Act.eval,Array.replicate]) ?_
 simp only [Bool.false_eq_true,if_false]
 refine wpS_of_wp (wp_skip ?_)
 simp only [Exit.thenS]
 apply wpS_region
 simp [wpOpsS,go_sem,hl,hlf,he2,hf2,bodyPostS,results,Tryz.results39]

theorem heap_in:∀ (os:List Obj) (w':World) (i:Nat) (o:Obj),os[i]?=some o→(os.foldl World.alloc w').heap[w'.heap.size+i]?=some o
 | [],_,i,o,h=>by simp at h
 | x::os,w',0,o,h=>by
  simp at h
  subst h
  have hb:∀ (os:List Obj) (W:World),Below W.heap.size W (os.foldl World.alloc W):=by
   intro os
   induction os with
   | nil=>exact fun W=>Below.refl _ _
   | cons y os ih=>exact fun W=>((Below.refl W.heap.size W).alloc (Nat.le_refl _) y).trans ((ih (W.alloc y)).mono (by simp))
  have h1:=(hb os (w'.alloc x)).block w'.heap.size (by simp)
  show (os.foldl World.alloc (w'.alloc x)).heap[w'.heap.size]?=some x
  rw [h1]
  exact heap_alloc_new w' x
 | x::os,w',i+1,o,h=>by
  have h1:=heap_in os (w'.alloc x) i o (by simpa using h)
  simp only [World.size_alloc] at h1
  show (os.foldl World.alloc (w'.alloc x)).heap[w'.heap.size+(i+1)]?=some o
  rw [show w'.heap.size+(i+1)=w'.heap.size+1+i by omega]
  exact h1
def rkObjs (w:World):List Obj:=[(.cells #[.string ⟨#[108,97,109,98,100,97]⟩] 9),(.cells #[.string ⟨#[111,114]⟩] 9),(.cells #[.string ⟨#[97,110,100]⟩] 9),(.cells #[.string ⟨#[110,111,116]⟩] 9),(.cells #[.string ⟨#[61,61]⟩,.string ⟨#[33,61]⟩,.string ⟨#[60]⟩,.string ⟨#[60,61]⟩,.string ⟨#[62]⟩,.string ⟨#[62,61]⟩,.string ⟨#[105,115]⟩,.string ⟨#[105,110]⟩] 9),(.cells #[.string ⟨#[43]⟩,.string ⟨#[45]⟩] 9),(.cells #[.string ⟨#[42]⟩,.string ⟨#[47,47]⟩,.string ⟨#[37]⟩] 9),(.cells #[.string ⟨#[110,101,103]⟩] 9),(.cells #[.slice (some ⟨w.heap.size,0,none⟩) 1 1,.slice (some ⟨w.heap.size+1,0,none⟩) 1 1,.slice (some ⟨w.heap.size+2,0,none⟩) 1 1,.slice (some ⟨w.heap.size+3,0,none⟩) 1 1,.slice (some ⟨w.heap.size+4,0,none⟩) 8 8,.slice (some ⟨w.heap.size+5,0,none⟩) 2 2,.slice (some ⟨w.heap.size+6,0,none⟩) 3 3,.slice (some ⟨w.heap.size+7,0,none⟩) 1 1] 32)]
def rkWorld (w:World):World:=(rkObjs w).foldl World.alloc w
theorem rk_of (w:World):Below w.heap.size w (rkWorld w)∧(rkWorld w).heap.size=w.heap.size+9 ∧ ∀ p,w.heap.size+9≤p→RK p (.slice (some ⟨w.heap.size+8,0,none⟩) 8 8) (rkWorld w):=by
 have hh:∀ i o,(rkObjs w)[i]?=some o→(rkWorld w).heap[w.heap.size+i]?=some o:=fun i o h=>heap_in (rkObjs w) w i o h
 have h8:=hh 8 (.cells #[.slice (some ⟨w.heap.size,0,none⟩) 1 1,.slice (some ⟨w.heap.size+1,0,none⟩) 1 1,.slice (some ⟨w.heap.size+2,0,none⟩) 1 1,.slice (some ⟨w.heap.size+3,0,none⟩) 1 1,.slice (some ⟨w.heap.size+4,0,none⟩) 8 8,.slice (some ⟨w.heap.size+5,0,none⟩) 2 2,.slice (some ⟨w.heap.size+6,0,none⟩) 3 3,.slice (some ⟨w.heap.size+7,0,none⟩) 1 1] 32) rfl
 have h:∀ (i:Nat) (v:Value),(#[.slice (some ⟨w.heap.size,0,none⟩) 1 1,.slice (some ⟨w.heap.size+1,0,none⟩) 1 1,.slice (some ⟨w.heap.size+2,0,none⟩) 1 1,.slice (some ⟨w.heap.size+3,0,none⟩) 1 1,.slice (some ⟨w.heap.size+4,0,none⟩) 8 8,.slice (some ⟨w.heap.size+5,0,none⟩) 2 2,.slice (some ⟨w.heap.size+6,0,none⟩) 3 3,.slice (some ⟨w.heap.size+7,0,none⟩) 1 1]:Array Value)[i]?=some v→(rkWorld w).cell? ⟨w.heap.size+8,i,none⟩=some v:=fun i v hv=>by
  rw [cell_of_row _ _ _ _ _ _ h8]
  exact hv
 have hts:∀ (i:Nat) (cs:Array Value) (ts:List ByteArray),(rkObjs w)[i]?=some (.cells cs 9)∧cs=(ts.map Value.string).toArray→TS (rkWorld w) (w.heap.size+i) 0 ts:=fun i cs ts hx j t hj=>by
  rw [cell_of_row _ _ _ _ _ _ (hh i _ hx.1),hx.2]
  simp [hj]
 refine ⟨(((((((((Below.refl _ _).alloc (Nat.le_refl _) _).alloc (by simp) _).alloc (by simp;omega) _).alloc (by simp;omega) _).alloc (by simp;omega) _).alloc (by simp;omega) _).alloc (by simp;omega) _).alloc (by simp;omega) _).alloc (by simp;omega) _,by simp [rkWorld,rkObjs],fun p hp=>⟨w.heap.size+8,8,rfl,by omega,fun i hi => ?_⟩⟩
 match i,hi with
 | 0,_=>exact ⟨w.heap.size,1,h 0 _ rfl,by omega,hts 0 _ _ ⟨rfl,rfl⟩⟩
 | 1,_=>exact ⟨w.heap.size+1,1,h 1 _ rfl,by omega,hts 1 _ _ ⟨rfl,rfl⟩⟩
 | 2,_=>exact ⟨w.heap.size+2,1,h 2 _ rfl,by omega,hts 2 _ _ ⟨rfl,rfl⟩⟩
 | 3,_=>exact ⟨w.heap.size+3,1,h 3 _ rfl,by omega,hts 3 _ _ ⟨rfl,rfl⟩⟩
 | 4,_=>exact ⟨w.heap.size+4,8,h 4 _ rfl,by omega,hts 4 _ _ ⟨rfl,rfl⟩⟩
 | 5,_=>exact ⟨w.heap.size+5,2,h 5 _ rfl,by omega,hts 5 _ _ ⟨rfl,rfl⟩⟩
 | 6,_=>exact ⟨w.heap.size+6,3,h 6 _ rfl,by omega,hts 6 _ _ ⟨rfl,rfl⟩⟩
 | 7,_=>exact ⟨w.heap.size+7,1,h 7 _ rfl,by omega,hts 7 _ _ ⟨rfl,rfl⟩⟩
 | n+8,hn=>omega
set_option maxHeartbeats 1000000 in
theorem ranks_any (w:World):Calls Tryz.prog 23 #[] w fun ev w'=>ev = .returned (.slice (some ⟨w.heap.size+8,0,none⟩) 8 8)∧w'=rkWorld w:=by
 go_enter Tryz.func23,Tryz.ntmps23
 go_wp2_with fail
 go_ret
 exact ⟨rfl,rfl⟩
end Go.Proofs.YtemapnogjepokaaGreatDoor

/- Package tree: Read, of every string. -/
namespace Go.Proofs.YtemapnogjepokaaGreatDoor
open Go.RowKit

def NoRead (s:ByteArray):Prop:=∀ m ss k,s.size≤6000→lexP s = .ok (m.length,cellsOf m)→pRead m ≠ .ok (ss,k)
def RPost (s:ByteArray) (w:World) (ev:Ending) (w':World):Prop:=Below w.heap.size w w' ∧
  ((∃ m ss k ba bc,s.size≤6000∧lexP s = .ok (m.length,cellsOf m)∧pRead m = .ok (ss,k)∧ev = .returned (.tuple #[.slice ba ss.length bc,.nilIface])∧RepSL (fun b=>w.heap.size≤b) w' ba ss) ∨
   (NoRead s ∧ ∃ t q,ev = .returned (.tuple #[.slice none 0 0,.iface t (.pointer q)])))
theorem LEnv.terr {B:Nat}{a0 a1:Addr}{w:World}(E:LEnv B a0 a1 w):TErr B a0 a1 w:=⟨E.env.hg,E.g1,E.env.bg,E.b1⟩
theorem TErr.up {B C:Nat}{a0 a1:Addr}{w:World}(E:TErr B a0 a1 w) (h:B≤C):TErr C a0 a1 w:=⟨E.g0,E.g1,by have:=E.b0;omega,by have:=E.b1;omega⟩
theorem two_set {b:Nat}{w:World}{v u v' u':Value}{t1 t2:TypeId}(hl:w.heap[b]?=some (.cells #[v] t1)) (he:w.heap[b+1]?=some (.cells #[u] t2)):((w.setCell ⟨b,0,none⟩ v').setCell ⟨b+1,0,none⟩ u').cell? ⟨b,0,none⟩=some v'∧((w.setCell ⟨b,0,none⟩ v').setCell ⟨b+1,0,none⟩ u').cell? ⟨b+1,0,none⟩=some u':=by
  have h1:(w.setCell ⟨b,0,none⟩ v').heap[b]?=some (.cells #[v'] t1):=by rw [heap_set_same hl];rfl
  have h2:(w.setCell ⟨b,0,none⟩ v').heap[b+1]?=some (.cells #[u] t2):=(heap_set _ _ _ _ _ (by omega)).trans he
  have h3:((w.setCell ⟨b,0,none⟩ v').setCell ⟨b+1,0,none⟩ u').heap[b]?=some (.cells #[v'] t1):=(heap_set _ _ _ _ _ (by omega)).trans h1
  have h4:((w.setCell ⟨b,0,none⟩ v').setCell ⟨b+1,0,none⟩ u').heap[b+1]?=some (.cells #[u'] t2):=by rw [heap_set_same h2];rfl
  exact ⟨cell_of_heap h3 rfl,cell_of_heap h4 rfl⟩
theorem lexP_own {s:ByteArray}{m:List (ByteArray × ByteArray × Nat)}{base:Nat}{vt:Value}{w:World}(h:lexP s = .ok (m.length,cellsOf m)) (ho:w.ownsRow base 121 3 vt m.length (cellsOf m)):∃ g cap,vt = .slice (some ⟨g,0,none⟩) m.length cap∧base≤g∧g<w.heap.size ∧ ∀ j v,(cellsOf m)[j]?=some v→w.cell? ⟨g,j,none⟩=some v:=by
  have hn:=lexP_pos h
  rcases ho.2 with ⟨_,h0⟩ | ⟨g,cap,cur,rfl,hB,hg,_,_,hsz,htk⟩
  · omega
  · refine ⟨g,cap,rfl,hB,lt_of_heap hg,fun k v hk => ?_⟩
    rw [cell_of_row w g k cur 121 (0,0) hg,←Array.getElem?_toList]
    have hlt:=(List.getElem?_eq_some_iff.1 hk).1
    have e:(cur.toList.take (m.length*3))[k]?=(cellsOf m)[k]?:=by rw [htk]
    rw [List.getElem?_take,if_pos (by have:=ho.1;omega)] at e
    rw [e]
    exact hk
set_option maxHeartbeats 1000000 in
set_option maxRecDepth 100000 in
theorem read_any (s:ByteArray) (a0 a1:Addr) (w:World) (E:LEnv w.heap.size a0 a1 w):Calls Tryz.prog 25 #[.string s] w fun ev w'=>RPost s w ev w':=by
  have hmf:∀ (fn:Fn) (first cap:Array Value) (w:World),(Instr.makeFunc fn first cap).run Tryz.prog w = .ok (.func fn first cap) w:=fun _ _ _ _=>rfl
  have hb0:Below w.heap.size w ((w.alloc (.cells #[.slice none 0 0] 30)).alloc (.cells #[.nilIface] 27)):=((Below.refl _ _).alloc (Nat.le_refl _) _).alloc (by simp) _
  have hs0:((w.alloc (.cells #[.slice none 0 0] 30)).alloc (.cells #[.nilIface] 27)).heap.size=w.heap.size+2:=by simp
  have hl0:((w.alloc (.cells #[.slice none 0 0] 30)).alloc (.cells #[.nilIface] 27)).heap[w.heap.size]?=some (.cells #[.slice none 0 0] 30):=(Below.heap_alloc _ _ _ (by simp)).trans (heap_alloc_new w _)
  have he0:((w.alloc (.cells #[.slice none 0 0] 30)).alloc (.cells #[.nilIface] 27)).heap[w.heap.size+1]?=some (.cells #[.nilIface] 27):=by
    have h:=heap_alloc_new (w.alloc (.cells #[.slice none 0 0] 30)) (.cells #[.nilIface] 27)
    simpa using h
  have HL:=toHid (lex_any s a0 a1 ((w.alloc (.cells #[.slice none 0 0] 30)).alloc (.cells #[.nilIface] 27)) ((E.below hb0).up hb0.size))
  have HT:=toHid (E.below hb0).terr
  have HB0:=toHid hb0
  have HL0:=toHid hl0
  have HE0:=toHid he0
  clear hb0 hl0 he0 E
  go_enter_defers Tryz.func25,Tryz.ntmps25
  go_wp2_with fail
  refine HL.out.mono ?_
  rintro ev w1 ⟨hb1,hx⟩
  rw [hs0] at hb1
  have hs1:=hb1.size
  rw [hs0] at hs1
  have hl1:=(hb1.block w.heap.size (by omega)).trans HL0.out
  have he1:=(hb1.block (w.heap.size+1) (by omega)).trans HE0.out
  have cl:=cell_of_heap hl1 rfl
  have fl:=frozen_of_heap hl1
  have ce:=cell_of_heap he1 rfl
  have fe:=frozen_of_heap he1
  have ll:=lt_of_heap hl1
  have le:=lt_of_heap he1
  have HW1:=toHid (HB0.out.trans (hb1.mono (by omega)))
  have HL1:=toHid hl1
  have HE1:=toHid he1
  have hway:(∃ m,s.size≤6000∧lexP s = .ok (m.length,cellsOf m) ∧ ∃ vt,ev = .returned (.tuple #[vt,.nilIface])∧w1.ownsRow (w.heap.size+2) 121 3 vt m.length (cellsOf m))∨(NoRead s ∧ ∃ t q,ev = .returned (.tuple #[.slice none 0 0,.iface t (.pointer q)])):=by
    by_cases h6:6000<s.size
    · rw [if_pos h6] at hx
      exact .inr ⟨fun m ss k h _=>by omega,_,_,hx⟩
    · rw [if_neg h6] at hx
      cases hlx:lexP s with
      | error e =>
        rw [hlx] at hx
        obtain ⟨b,rfl,_⟩:=hx
        exact .inr ⟨(fun m ss k _ h=>by rw [hlx] at h;cases h),_,_,rfl⟩
      | ok y =>
        obtain ⟨n,tk⟩:=y
        rw [hlx] at hx
        obtain ⟨m,rfl,rfl,_⟩:=lexP_fine hlx
        rw [hs0] at hx
        exact .inl ⟨m,by omega,rfl,hx⟩
  have HHB:=toHid (hb1.mono (show w.heap.size≤w.heap.size+2 by omega))
  clear hx HL hb1 hl1 he1
  rcases hway with ⟨m,h6,hlx,vt,rfl,ho⟩ | ⟨hno,t,q,rfl⟩
  rotate_left
  · have HNO:=toHid hno
    clear hno
    go_wp2
    go_region
    all_goals (try go_wp2)
    all_goals
      simp [bodyPostD,Leaves,results,Tryz.results25,go_sem,cl,ce]
      exact ⟨(((HW1.out.setCell (by simp) _).setCell (Nat.le_refl _) _).setCell (by simp) _).drew,.inr ⟨HNO.out,_,_,rfl⟩⟩
  obtain ⟨g,cap,rfl,hg,hgl,htk⟩:=lexP_own hlx ho
  have hml:m.length≤100000:=by have:=lexP_bd hlx;omega
  have T:=lexP_tokS hlx hml h6
  have hm0:=lexP_pos hlx
  have HTK:=toHid htk
  have HLX:=toHid hlx
  clear ho htk hlx
  go_wp2_with fail
  refine (ranks_any _).mono ?_
  rintro ev w2 ⟨rfl,hw2⟩
  have hz1:(w1.setCell ⟨w.heap.size+1,0,none⟩ .nilIface).heap.size=w1.heap.size:=size_set _ _ _
  obtain ⟨hb2,hs2,hrk⟩:=rk_of (w1.setCell ⟨w.heap.size+1,0,none⟩ .nilIface)
  rw [←hw2] at hb2 hs2 hrk
  rw [hz1] at hb2 hs2 hrk ⊢
  have hl2:=(hb2.block w.heap.size (by omega)).trans ((heap_set _ _ _ _ _ (by omega)).trans HL1.out)
  have he2:w2.heap[w.heap.size+1]?=some (.cells #[.nilIface] 27):=(hb2.block (w.heap.size+1) (by omega)).trans (by rw [heap_set_same HE1.out];rfl)
  have hba:Below w2.heap.size w2 (w2.alloc (.cells #[.slice (some ⟨g,0,none⟩) m.length cap,.int .i64 0,.slice (some ⟨w1.heap.size+8,0,none⟩) 8 8,.int .i64 1,.int .i64 0] 102)):=(Below.refl _ _).alloc (Nat.le_refl _) _
  have hbW:Below w.heap.size w1 (w2.alloc (.cells #[.slice (some ⟨g,0,none⟩) m.length cap,.int .i64 0,.slice (some ⟨w1.heap.size+8,0,none⟩) 8 8,.int .i64 1,.int .i64 0] 102)):=(((Below.refl w.heap.size w1).setCell (by simp) _).trans (hb2.mono (by omega))).trans (hba.mono (by omega))
  have htk2:∀ j v,(cellsOf m)[j]?=some v→(w2.alloc (.cells #[.slice (some ⟨g,0,none⟩) m.length cap,.int .i64 0,.slice (some ⟨w1.heap.size+8,0,none⟩) 8 8,.int .i64 1,.int .i64 0] 102)).cell? ⟨g,j,none⟩=some v:=fun j v hj=>(hba.cell (p:=⟨g,j,none⟩) (show g<w2.heap.size by omega)).trans ((hb2.cell (p:=⟨g,j,none⟩) hgl).trans ((World.cell?_of_block (w:=w1) (a:=⟨g,j,none⟩) (heap_set _ _ _ _ _ (show g≠w.heap.size+1 by omega))).trans (HTK.out j v hj)))
  have hsa:(w2.alloc (.cells #[.slice (some ⟨g,0,none⟩) m.length cap,.int .i64 0,.slice (some ⟨w1.heap.size+8,0,none⟩) 8 8,.int .i64 1,.int .i64 0] 102)).heap.size=w2.heap.size+1:=by simp
  have R:RD (w2.alloc (.cells #[.slice (some ⟨g,0,none⟩) m.length cap,.int .i64 0,.slice (some ⟨w1.heap.size+8,0,none⟩) 8 8,.int .i64 1,.int .i64 0] 102)) w2.heap.size g cap (.slice (some ⟨w1.heap.size+8,0,none⟩) 8 8) m 0 1 0:=⟨heap_alloc_new w2 _,htk2,by omega,by omega⟩
  have HTE:=toHid ((HT.out.below (HHB.out.trans hbW)).up (show w.heap.size≤w2.heap.size by omega))
  have HC:=toHid (programAt (a0:=a0) (a1:=a1) T hm0 _ R HTE.out ((hrk w2.heap.size (by omega)).keeps (Keeps.of hba (Nat.le_refl _))))
  have HWB:=toHid (HW1.out.trans hbW)
  have hl3:=(hba.block w.heap.size (by omega)).trans hl2
  have he3:=(hba.block (w.heap.size+1) (by omega)).trans he2
  have HL3:=toHid hl3
  have HE3:=toHid he3
  have hs2a:w1.heap.size+9≤w2.heap.size:=by omega
  have hs2b:w2.heap.size≤w1.heap.size+9:=by omega
  have HSA:Hid (w2.heap.size+1≤(w2.alloc (.cells #[.slice (some ⟨g,0,none⟩) m.length cap,.int .i64 0,.slice (some ⟨w1.heap.size+8,0,none⟩) 8 8,.int .i64 1,.int .i64 0] 102)).heap.size):=Nat.le_of_eq hsa.symm
  clear hs2 hsa hw2 hrk hl2 he2 hba hbW htk2 R hl3 he3 cl ce fl fe T hb2
  go_wp2_with fail
  refine HC.out.mono ?_
  intro ev w4 hP
  rcases hP.parts with ⟨ss,k4,ba,bc,q4,rfl,hS4,R4,K4,hk4,hk4l⟩ | ⟨y,b,q4,rfl,hf⟩
  rotate_left
  · obtain ⟨t,g1,b',e1,hbw,d0,d1⟩:=hf
    have hl4:=(hbw.block w.heap.size (by omega)).trans HL3.out
    have he4:=(hbw.block (w.heap.size+1) (by omega)).trans HE3.out
    have hno:NoRead s:=fun m' ss k _ h=>by
      rw [HLX.out] at h
      simp only [Except.ok.injEq,Prod.mk.injEq] at h
      have e:=cells_inj _ _ h.2
      rw [←e,q4]
      simp
    have HNO:=toHid hno
    have hb4:=HWB.out.trans (hbw.mono (by omega))
    clear hP HC g1 d0 d1 e1 hno q4
    go_wp2_with fail
    refine leaves_cons (f:=39) (args:=#[.pointer (some ⟨w.heap.size,0,none⟩),.pointer (some ⟨w.heap.size+1,0,none⟩)]) (by simp) (by simp [go_sem]) ?_
    refine (rcatch_fault w.heap.size (w.heap.size+1) ⟨b,0,none⟩ [] (.slice none 0 0) .nilIface w4 (by omega) (cell_of_heap hl4 rfl) (frozen_of_heap hl4) (cell_of_heap he4 rfl) (frozen_of_heap he4)).mono ?_
    rintro ev u' w5 ⟨rfl,rfl,rfl⟩
    obtain ⟨d1,d2⟩:=two_set (v':=.slice none 0 0) (u':=.iface 61 (.pointer (some ⟨b,0,none⟩))) hl4 he4
    have d3:Below w.heap.size w ((w4.setCell ⟨w.heap.size,0,none⟩ (.slice none 0 0)).setCell ⟨w.heap.size+1,0,none⟩ (.iface 61 (.pointer (some ⟨b,0,none⟩)))):=(hb4.setCell (Nat.le_refl _) _).setCell (by simp) _
    generalize (w4.setCell ⟨w.heap.size,0,none⟩ (.slice none 0 0)).setCell ⟨w.heap.size+1,0,none⟩ (.iface 61 (.pointer (some ⟨b,0,none⟩)))=w6 at d1 d2 d3 ⊢
    simp [Leaves,settle,results,Tryz.results25,go_sem,d1,d2]
    exact ⟨d3,.inr ⟨HNO.out,_,_,rfl⟩⟩
  have hsa:=HSA.out
  have hl4:=(K4.block w.heap.size (by omega) (by omega)).trans HL3.out
  have he4:=(K4.block (w.heap.size+1) (by omega) (by omega)).trans HE3.out
  have cl:=cell_of_heap hl4 rfl
  have fl:=frozen_of_heap hl4
  have ce:=cell_of_heap he4 rfl
  have fe:=frozen_of_heap he4
  have ll4:=lt_of_heap hl4
  have le4:=lt_of_heap he4
  have hb4:=HWB.out.trans (K4.below.mono (by omega))
  have hrep:RepSL (fun b=>w.heap.size≤b) ((w4.setCell ⟨w.heap.size,0,none⟩ (.slice ba ss.length bc)).setCell ⟨w.heap.size+1,0,none⟩ .nilIface) ba ss:=(hS4.same (S':=fun b=>w.heap.size+2≤b) (same_set (by show ¬ (_≤w.heap.size);omega)) (fun b hb _=>by show _≤b;omega)).same (same_set (by show ¬ (_≤w.heap.size+1);omega)) (fun b hb _=>by show _≤b;omega)
  have D:=two_set (v':=.slice ba ss.length bc) (u':=.nilIface) hl4 he4
  have d3:Below w.heap.size w ((w4.setCell ⟨w.heap.size,0,none⟩ (.slice ba ss.length bc)).setCell ⟨w.heap.size+1,0,none⟩ .nilIface):=(hb4.setCell (Nat.le_refl _) _).setCell (by simp) _
  have HD:=toHid (And.intro D (And.intro d3 hrep))
  have HQ4:=toHid q4
  clear hsa hP HC hl4 he4 hb4 hrep D d3 hS4 R4 K4 q4
  go_wp2_with fail
  refine leaves_cons (f:=39) (args:=#[.pointer (some ⟨w.heap.size,0,none⟩),.pointer (some ⟨w.heap.size+1,0,none⟩)]) (by simp) (by simp [go_sem]) ?_
  refine (rcatch_idle w.heap.size (w.heap.size+1) _).mono ?_
  rintro ev u' w5 ⟨rfl,rfl,rfl⟩
  obtain ⟨⟨d1,d2⟩,d3,d4⟩:=HD.out
  generalize (w4.setCell ⟨w.heap.size,0,none⟩ (.slice ba ss.length bc)).setCell ⟨w.heap.size+1,0,none⟩ .nilIface=w6 at d1 d2 d3 d4 ⊢
  simp [Leaves,settle,results,Tryz.results25,go_sem,d1,d2]
  exact ⟨d3,.inl ⟨m,ss,k4,ba,bc,h6,HLX.out,HQ4.out,rfl,d4⟩⟩
end Go.Proofs.YtemapnogjepokaaGreatDoor

/- Trees in memory, whatever type their rows have: for the law's own copies of them. -/
namespace Go.Proofs.YtemapnogjepokaaGreatDoor
open Go.RowKit

def rowE (S:Nat→Prop) (w:World) (q:List Value→DataW Unit→Prop) (la:Option Addr) (el:List (DataW Unit)):Prop:=
 0<el.length → ∃ b o,la=some ⟨b,o,none⟩∧S b ∧ ∀ (i:Nat) (e:DataW Unit),el[i]?=some e → ∃ c0 c1 c2 c3 c4,w.cell? ⟨b,o+i*5,none⟩=some c0∧w.cell? ⟨b,o+i*5+1,none⟩=some c1∧w.cell? ⟨b,o+i*5+2,none⟩=some c2∧w.cell? ⟨b,o+i*5+3,none⟩=some c3∧w.cell? ⟨b,o+i*5+4,none⟩=some c4∧q [c0,c1,c2,c3,c4] e
def repV (S:Nat→Prop) (w:World):Nat→List Value→DataW Unit→Prop
 | 0,_,_=>False
 | n+1,cs,d => ∃ (op s:ByteArray) (z:Int) (pl:List ByteArray) (el:List (DataW Unit)) (pa la:Option Addr) (pc lc:Nat),
   d=mkE op z s pl el∧cs = [.string op,.int .i64 z,.string s,.slice pa pl.length pc,.slice la el.length lc]∧RepN S w pa pl∧rowE S w (repV S w n) la el
def RepV (S:Nat→Prop) (w:World) (cs:List Value) (d:DataW Unit):Prop:=∃ n,repV S w n cs d
def RepVL (S:Nat→Prop) (w:World) (la:Option Addr) (el:List (DataW Unit)):Prop:=rowE S w (RepV S w) la el
theorem rowE.same {S S':Nat→Prop}{w w':World}{q q':List Value→DataW Unit→Prop}{la:Option Addr}{el:List (DataW Unit)}(h:rowE S w q la el) (K:Same S w w') (hS:∀ b,S b→b<w.heap.size→S' b) (hq:∀ cs d,q cs d→q' cs d):rowE S' w' q' la el:=by
 intro h0
 obtain ⟨b,o,e,hb,hx⟩:=h h0
 have hbl:b<w.heap.size:=by
  obtain ⟨c0,_,_,_,_,h1,_⟩:=hx 0 el[0] (by simp)
  exact lt_of_cell h1
 refine ⟨b,o,e,hS b hb hbl,fun i x hi => ?_⟩
 obtain ⟨c0,c1,c2,c3,c4,h0,h1,h2,h3,h4,hr⟩:=hx i x hi
 exact ⟨c0,c1,c2,c3,c4,K.cell hb h0,K.cell hb h1,K.cell hb h2,K.cell hb h3,K.cell hb h4,hq _ _ hr⟩
theorem rowE.imp {S:Nat→Prop}{w:World}{q q':List Value→DataW Unit→Prop}{la:Option Addr}{el:List (DataW Unit)}(h:rowE S w q la el) (hq:∀ cs d,q cs d→q' cs d):rowE S w q' la el:=h.same (fun _ _ _=>rfl) (fun _ h _=>h) hq
theorem repV_same {S S':Nat→Prop}{w w':World}(K:Same S w w') (hS:∀ b,S b→b<w.heap.size→S' b):∀ (n:Nat) (cs:List Value) (d:DataW Unit),repV S w n cs d→repV S' w' n cs d
 | 0,_,_,h=>h.elim
 | n+1,cs,d,h=>by
  obtain ⟨op,s,z,pl,el,pa,la,pc,lc,hd,hcs,h1,h2⟩:=h
  exact ⟨op,s,z,pl,el,pa,la,pc,lc,hd,hcs,h1.same K hS,h2.same K hS (repV_same K hS n)⟩
theorem RepV.same {S S':Nat→Prop}{w w':World}{cs:List Value}{d:DataW Unit}(h:RepV S w cs d) (K:Same S w w') (hS:∀ b,S b→b<w.heap.size→S' b):RepV S' w' cs d:=by
 obtain ⟨n,hn⟩:=h
 exact ⟨n,repV_same K hS n _ _ hn⟩
theorem RepVL.same {S S':Nat→Prop}{w w':World}{la:Option Addr}{el:List (DataW Unit)}(h:RepVL S w la el) (K:Same S w w') (hS:∀ b,S b→b<w.heap.size→S' b):RepVL S' w' la el:=rowE.same h K hS (fun _ _ h=>h.same K hS)
theorem repV_more {S:Nat→Prop}{w:World} : ∀ (n m:Nat) (cs:List Value) (d:DataW Unit),n≤m→repV S w n cs d→repV S w m cs d
 | 0,_,_,_,_,h=>h.elim
 | n+1,0,_,_,hle,_=>by omega
 | n+1,m+1,cs,d,hle,h=>by
  obtain ⟨op,s,z,pl,el,pa,la,pc,lc,hd,hcs,h1,h2⟩:=h
  exact ⟨op,s,z,pl,el,pa,la,pc,lc,hd,hcs,h1,h2.imp (fun cs d=>repV_more n m cs d (by omega))⟩
theorem rowE.bound {S:Nat→Prop}{w:World}{la:Option Addr}{el:List (DataW Unit)}(h:RepVL S w la el):∃ n,rowE S w (repV S w n) la el:=by
 by_cases h0:0<el.length
 ·obtain ⟨b,o,e,hb,hx⟩:=h h0
  obtain ⟨n,hn⟩:=Go.Deep.fuel_lt (n:=el.length) (q:=fun i m => ∀ s,el[i]?=some s → ∃ c0 c1 c2 c3 c4,w.cell? ⟨b,o+i*5,none⟩=some c0∧w.cell? ⟨b,o+i*5+1,none⟩=some c1∧w.cell? ⟨b,o+i*5+2,none⟩=some c2∧w.cell? ⟨b,o+i*5+3,none⟩=some c3∧w.cell? ⟨b,o+i*5+4,none⟩=some c4∧repV S w m [c0,c1,c2,c3,c4] s)
   (fun i x y hxy h e he=>by
    obtain ⟨c0,c1,c2,c3,c4,h0,h1,h2,h3,h4,hr⟩:=h e he
    exact ⟨c0,c1,c2,c3,c4,h0,h1,h2,h3,h4,repV_more x y _ _ hxy hr⟩)
   (fun i hi=>by
    obtain ⟨c0,c1,c2,c3,c4,h0,h1,h2,h3,h4,n,hr⟩:=hx i el[i] (by simp [hi])
    refine ⟨n,fun e he => ?_⟩
    have:el[i]=e:=by simpa [hi] using he
    subst this
    exact ⟨c0,c1,c2,c3,c4,h0,h1,h2,h3,h4,hr⟩)
  exact ⟨n,fun _=>⟨b,o,e,hb,fun i x hi=>hn i (List.getElem?_eq_some_iff.1 hi).1 x hi⟩⟩
 ·exact ⟨0,fun h=>absurd h h0⟩
theorem repV_of {S:Nat→Prop}{w:World} : ∀ (n:Nat) (cs:List Value) (d:DataW Unit),repE S w n cs d→repV S w n cs d
 | 0,_,_,h=>h.elim
 | n+1,cs,d,h=>by
  obtain ⟨op,s,z,pl,el,pa,la,pc,lc,hd,hcs,h1,h2,_⟩:=h
  refine ⟨op,s,z,pl,el,pa,la,pc,lc,hd,hcs,h1,fun h0 => ?_⟩
  obtain ⟨b,o,e,hb,hx⟩:=h2 h0
  refine ⟨b,o,e,hb,fun i x hi => ?_⟩
  obtain ⟨c0,c1,c2,c3,c4,q0,q1,q2,q3,q4,hr⟩:=hx i x hi
  exact ⟨c0,c1,c2,c3,c4,q0,q1,q2,q3,q4,repV_of n _ _ hr⟩
theorem RepL.toV {S:Nat→Prop}{w:World}{la:Option Addr}{el:List (DataW Unit)}(h:RepL S w la el):RepVL S w la el:=fun h0=>by
 obtain ⟨b,o,e,hb,hx⟩:=h h0
 refine ⟨b,o,e,hb,fun i x hi => ?_⟩
 obtain ⟨c0,c1,c2,c3,c4,q0,q1,q2,q3,q4,n,hr⟩:=hx i x hi
 exact ⟨c0,c1,c2,c3,c4,q0,q1,q2,q3,q4,n,repV_of n _ _ hr⟩
def repVS (S:Nat→Prop) (w:World):Nat→List Value→DataW Unit→Prop
 | 0,_,_=>False
 | n+1,cs,d => ∃ (kd nm:ByteArray) (pl:List ByteArray) (el bd es:List (DataW Unit)) (pa la ba ea:Option Addr) (pc lc bc ec:Nat),
   d=mkS kd nm pl el bd es∧cs = [.string kd,.string nm,.slice pa pl.length pc,.slice la el.length lc,.slice ba bd.length bc,.slice ea es.length ec] ∧
   RepN S w pa pl∧RepVL S w la el∧rowS S w (repVS S w n) ba bd∧rowS S w (repVS S w n) ea es
def RepVS (S:Nat→Prop) (w:World) (cs:List Value) (d:DataW Unit):Prop:=∃ n,repVS S w n cs d
def RepVSL (S:Nat→Prop) (w:World) (ba:Option Addr) (bd:List (DataW Unit)):Prop:=rowS S w (RepVS S w) ba bd
theorem repVS_same {S S':Nat→Prop}{w w':World}(K:Same S w w') (hS:∀ b,S b→b<w.heap.size→S' b):∀ (n:Nat) (cs:List Value) (d:DataW Unit),repVS S w n cs d→repVS S' w' n cs d
 | 0,_,_,h=>h.elim
 | n+1,cs,d,h=>by
  obtain ⟨kd,nm,pl,el,bd,es,pa,la,ba,ea,pc,lc,bc,ec,hd,hcs,h1,h2,h3,h4⟩:=h
  exact ⟨kd,nm,pl,el,bd,es,pa,la,ba,ea,pc,lc,bc,ec,hd,hcs,h1.same K hS,h2.same K hS,h3.same K hS (repVS_same K hS n),h4.same K hS (repVS_same K hS n)⟩
theorem RepVS.same {S S':Nat→Prop}{w w':World}{cs:List Value}{d:DataW Unit}(h:RepVS S w cs d) (K:Same S w w') (hS:∀ b,S b→b<w.heap.size→S' b):RepVS S' w' cs d:=by
 obtain ⟨n,hn⟩:=h
 exact ⟨n,repVS_same K hS n _ _ hn⟩
theorem RepVSL.same {S S':Nat→Prop}{w w':World}{ba:Option Addr}{bd:List (DataW Unit)}(h:RepVSL S w ba bd) (K:Same S w w') (hS:∀ b,S b→b<w.heap.size→S' b):RepVSL S' w' ba bd:=rowS.same h K hS (fun _ _ h=>h.same K hS)
theorem repVS_of {S:Nat→Prop}{w:World} : ∀ (n:Nat) (cs:List Value) (d:DataW Unit),repS S w n cs d→repVS S w n cs d
 | 0,_,_,h=>h.elim
 | n+1,cs,d,h=>by
  obtain ⟨kd,nm,pl,el,bd,es,pa,la,ba,ea,pc,lc,bc,ec,hd,hcs,h1,h2,h3,h4⟩:=h
  exact ⟨kd,nm,pl,el,bd,es,pa,la,ba,ea,pc,lc,bc,ec,hd,hcs,h1,h2.toV,h3.imp (repVS_of n),h4.1.imp (repVS_of n)⟩
theorem RepSL.toV {S:Nat→Prop}{w:World}{ba:Option Addr}{bd:List (DataW Unit)}(h:RepSL S w ba bd):RepVSL S w ba bd:=rowS.imp h (fun cs d ⟨n,hn⟩=>⟨n,repVS_of n cs d hn⟩)
end Go.Proofs.YtemapnogjepokaaGreatDoor

/- Package tree: no list of what is read is longer than twice the tokens. -/
namespace Go.Proofs.YtemapnogjepokaaGreatDoor
open Go.RowKit

def okT (N:Nat):Nat→DataW Unit→Prop
 | 0,_=>False
 | n+1,d => ∃ (op:ByteArray) (z:Int) (s:ByteArray) (pl:List ByteArray) (el:List (DataW Unit)),d=mkE op z s pl el∧pl.length≤N∧el.length≤N ∧ ∀ e∈el,okT N n e
def OkT (N:Nat) (d:DataW Unit):Prop:=∃ n,okT N n d
theorem okT_more {N:Nat} : ∀ (n m:Nat) (d:DataW Unit),n≤m→okT N n d→okT N m d
 | 0,_,_,_,h=>h.elim
 | n+1,0,_,hle,_=>by omega
 | n+1,m+1,d,hle,h=>by
  obtain ⟨op,z,s,pl,el,hd,h1,h2,h3⟩:=h
  exact ⟨op,z,s,pl,el,hd,h1,h2,fun e he=>okT_more n m e (by omega) (h3 e he)⟩
theorem okT_all {N:Nat} : ∀ el:List (DataW Unit),(∀ e∈el,OkT N e) → ∃ n,∀ e∈el,okT N n e
 | [],_=>⟨0,fun e he=>by simp at he⟩
 | x::el,h=>by
  obtain ⟨n,hn⟩:=okT_all el (fun e he=>h e (List.mem_cons_of_mem _ he))
  obtain ⟨m,hm⟩:=h x (List.mem_cons_self)
  refine ⟨max n m,fun e he => ?_⟩
  rcases List.mem_cons.1 he with rfl | he
  ·exact okT_more m _ _ (by omega) hm
  ·exact okT_more n _ _ (by omega) (hn e he)
theorem mkOkT {N:Nat}{op s:ByteArray}{z:Int}{pl:List ByteArray}{el:List (DataW Unit)}(h1:pl.length≤N) (h2:el.length≤N) (h3:∀ e∈el,OkT N e):OkT N (mkE op z s pl el):=by
 obtain ⟨n,hn⟩:=okT_all el h3
 exact ⟨n+1,op,z,s,pl,el,rfl,h1,h2,hn⟩
def OkO (N:Nat) (o:Out (DataW Unit)):Prop:=∀ e k',o = .ok (e,k')→OkT N e
theorem OkO.err {N:Nat}(x:Nat × Bool):OkO N (.error x):=fun _ _ h=>by cases h
theorem OkO.ok {N:Nat}{e:DataW Unit}{k:Nat}(h:OkT N e):OkO N (.ok (e,k)):=fun _ _ h1=>by
 cases h1
 exact h
def OkL (N:Nat) (o:Out (List (DataW Unit))):Prop:=∀ el k',o = .ok (el,k')→el.length≤N ∧ ∀ e∈el,OkT N e
variable {l:List (ByteArray × ByteArray × Nat)}{N:Nat}
theorem pMore_inv {σ:Type}{step:σ→Nat→Out σ}(P:σ→Nat→Prop) (hP:∀ s k s' k' j,P s j→step s k = .ok (s',k')→P s' (j+1)):∀ (f:Nat) (s:σ) (k j:Nat) (s':σ) (k':Nat),P s j→pMore l step f s k = .ok (s',k') → ∃ j',j'≤j+f∧P s' j'
 | 0,s,k,j,s',k',_,h=>by
  unfold pMore at h
  cases h
 | f+1,s,k,j,s',k',hs,h=>by
  unfold pMore at h
  cases hm:markAt l k [comma] with
  | false =>
   rw [hm] at h
   simp only [cond_false,Except.ok.injEq,Prod.mk.injEq] at h
   exact ⟨j,by omega,by rw [←h.1];exact hs⟩
  | true =>
   rw [hm] at h
   simp only [cond_true] at h
   cases ho:step s (k+1) with
   | error y =>
    rw [ho] at h
    cases h
   | ok y =>
    obtain ⟨s1,k1⟩:=y
    rw [ho] at h
    simp only at h
    obtain ⟨j',h1,h2⟩:=pMore_inv P hP f s1 k1 (j+1) s' k' (hP _ _ _ _ _ hs ho) h
    exact ⟨j',by omega,h2⟩
theorem pSeveral_inv {σ:Type}{step:σ→Nat→Out σ}(P:σ→Nat→Prop) (hP:∀ s k s' k' j,P s j→step s k = .ok (s',k')→P s' (j+1)) {f:Nat}{s:σ}{k j:Nat}{s':σ}{k':Nat}(hs:P s j) (h:pSeveral l step f s k = .ok (s',k')):∃ j',j'≤j+f+1∧P s' j':=by
 unfold pSeveral at h
 cases ho:step s k with
 | error y =>
  rw [ho] at h
  cases h
 | ok y =>
  obtain ⟨s1,k1⟩:=y
  rw [ho] at h
  simp only at h
  obtain ⟨j',h1,h2⟩:=pMore_inv P hP f s1 k1 (j+1) s' k' (hP _ _ _ _ _ hs ho) h
  exact ⟨j',by omega,h2⟩
theorem pUpTo_inv {σ:Type}{step:σ→Nat→Out σ}(P:σ→Nat→Prop) (hP:∀ s k s' k' j,P s j→step s k = .ok (s',k')→P s' (j+1)) {c:ByteArray}{f:Nat}{s:σ}{k j:Nat}{s':σ}{k':Nat}(hs:P s j) (h:pUpTo l step c f s k = .ok (s',k')):∃ j',j'≤j+f+1∧P s' j':=by
 unfold pUpTo at h
 cases hm:markAt l k [c] with
 | true =>
  rw [hm] at h
  simp only [cond_true,Except.ok.injEq,Prod.mk.injEq] at h
  exact ⟨j,by omega,by rw [←h.1];exact hs⟩
 | false =>
  rw [hm] at h
  simp only [cond_false] at h
  cases ho:pSeveral l step f s k with
  | error y =>
   rw [ho] at h
   cases h
  | ok y =>
   obtain ⟨s1,k1⟩:=y
   rw [ho] at h
   simp only at h
   cases hm2:markAt l k1 [c] with
   | false =>
    rw [hm2] at h
    cases h
   | true =>
    rw [hm2] at h
    simp only [cond_true,Except.ok.injEq,Prod.mk.injEq] at h
    rw [←h.1]
    exact pSeveral_inv P hP hs ho
theorem name_inv (s:List ByteArray) (k:Nat) (s':List ByteArray) (k' j:Nat) (hs:s.length=j) (h:pName l s k = .ok (s',k')):s'.length=j+1:=by
 unfold pName at h
 split at h
 next x hx =>
  cases hm:isNameB x with
  | false =>
   rw [hm] at h
   cases h
  | true =>
   rw [hm] at h
   simp only [cond_true,Except.ok.injEq,Prod.mk.injEq] at h
   rw [←h.1]
   simp [hs]
 next=>cases h
theorem ok_deep {dp k:Nat}{o:Out (DataW Unit)}(h:OkO N o):OkO N (pDeep dp k o):=by
 unfold pDeep
 split
 ·exact OkO.err _
 ·exact h
theorem ok_closed {c:ByteArray}{o:Out (DataW Unit)}(h:OkO N o):OkO N (pClosed l c o):=by
 unfold pClosed
 cases o with
 | error y=>exact OkO.err _
 | ok y =>
  obtain ⟨e,k'⟩:=y
  simp only
  cases hm:markAt l k' [c] with
  | true =>
   simp only [cond_true]
   exact OkO.ok (h e k' rfl)
  | false =>
   simp only [cond_false]
   exact OkO.err _
theorem ok_list {op:ByteArray}{o:Out (List (DataW Unit))}(h:OkL N o):OkO N (pList op o):=by
 unfold pList
 cases o with
 | error y=>exact OkO.err _
 | ok y =>
  obtain ⟨el,k'⟩:=y
  obtain ⟨h1,h2⟩:=h el k' rfl
  exact OkO.ok (mkOkT (Nat.zero_le _) h1 h2)
theorem ok_op {op:ByteArray}{o:Out (DataW Unit)}(hN:4≤N) (h:OkO N o):OkO N (pOp op o):=by
 unfold pOp
 cases o with
 | error y=>exact OkO.err _
 | ok y =>
  obtain ⟨e,k'⟩:=y
  exact OkO.ok (mkOkT (Nat.zero_le _) (by simp;omega) (fun x hx=>by simp at hx;subst hx;exact h _ k' rfl))
theorem ok_index {e:DataW Unit}{o:Out (DataW Unit)}(hN:4≤N) (he:OkT N e) (h:OkO N o):OkO N (pIndex e o):=by
 unfold pIndex
 cases o with
 | error y=>exact OkO.err _
 | ok y =>
  obtain ⟨e2,k'⟩:=y
  refine OkO.ok (mkOkT (Nat.zero_le _) (by simp;omega) (fun x hx => ?_))
  simp at hx
  rcases hx with rfl | rfl
  ·exact he
  ·exact h _ k' rfl
theorem ok_terms {term:Nat→Out (DataW Unit)}(ht:∀ k,OkO N (term k)) {c:ByteArray}{es:List (DataW Unit)}{k:Nat}(hN:es.length+l.length+1≤N) (he:∀ e∈es,OkT N e):OkL N (pUpTo l (pTermStep term) c l.length es k):=fun el k' h=>by
 obtain ⟨j',h1,h2,h3⟩:=pUpTo_inv (P:=fun s j=>s.length=es.length+j ∧ ∀ e∈s,OkT N e) (fun s k s' k' j hs h=>by
  unfold pTermStep at h
  cases ho:term k with
  | error y =>
   rw [ho] at h
   cases h
  | ok y =>
   obtain ⟨e1,k1⟩:=y
   rw [ho] at h
   simp only [Except.ok.injEq,Prod.mk.injEq] at h
   rw [←h.1]
   refine ⟨by simp [hs.1];omega,fun x hx => ?_⟩
   simp at hx
   rcases hx with hx | rfl
   ·exact hs.2 x hx
   ·exact ht k _ k1 ho) (j:=0) ⟨rfl,he⟩ h
 exact ⟨by omega,h3⟩
theorem ok_pairs {term:Nat→Out (DataW Unit)}(ht:∀ k,OkO N (term k)) {c:ByteArray}{k:Nat}(hN:2*l.length+2≤N):OkL N (pUpTo l (pPairStep l term) c l.length [] k):=fun el k' h=>by
 obtain ⟨j',h1,h2,h3⟩:=pUpTo_inv (P:=fun s j=>s.length=2*j ∧ ∀ e∈s,OkT N e) (fun s k s' k' j hs h=>by
  unfold pPairStep at h
  have hc:=ok_closed (l:=l) (c:=colon) (ht k)
  cases ho:pClosed l colon (term k) with
  | error y =>
   rw [ho] at h
   cases h
  | ok y =>
   obtain ⟨e1,k1⟩:=y
   rw [ho] at h
   simp only at h
   cases ho2:term k1 with
   | error y =>
    rw [ho2] at h
    cases h
   | ok y =>
    obtain ⟨e2,k2⟩:=y
    rw [ho2] at h
    simp only [Except.ok.injEq,Prod.mk.injEq] at h
    rw [←h.1]
    refine ⟨by simp [hs.1];omega,fun x hx => ?_⟩
    simp at hx
    rcases hx with hx | rfl | rfl
    ·exact hs.2 x hx
    ·exact hc _ k1 ho
    ·exact ht k1 _ k2 ho2) (j:=0) ⟨rfl,fun e he=>by simp at he⟩ h
 exact ⟨by omega,h3⟩
theorem ok_postOn {dp:Nat}{term:Nat→Out (DataW Unit)}(hN:2*l.length+4≤N) (ht:∀ k,OkO N (term k)):∀ (f:Nat) (e:DataW Unit) (k:Nat),OkT N e→OkO N (pPostOn l dp term f e k)
 | 0,e,k,_=>OkO.err _
 | f+1,e,k,he=>by
  unfold pPostOn
  cases hm:markAt l k [lpar] with
  | true =>
   simp only [cond_true]
   have H:=ok_deep (dp:=dp) (k:=k) (ok_list (op:=kCall) (ok_terms (l:=l) ht (c:=rpar) (es:=[e]) (k:=k+1) (by simp;omega) (fun x hx=>by simp at hx;subst hx;exact he)))
   revert H
   generalize pDeep dp k (pList kCall (pUpTo l (pTermStep term) rpar l.length [e] (k+1)))=o
   intro H
   cases o with
   | error y=>exact OkO.err _
   | ok y=>exact ok_postOn hN ht f _ _ (H _ _ rfl)
  | false =>
   simp only [cond_false]
   cases hm2:markAt l k [lbrk] with
   | true =>
    simp only [cond_true]
    have H:=ok_deep (dp:=dp) (k:=k) (ok_index (by omega) he (ok_closed (l:=l) (c:=rbrk) (ht (k+1))))
    revert H
    generalize pDeep dp k (pIndex e (pClosed l rbrk (term (k+1))))=o
    intro H
    cases o with
    | error y=>exact OkO.err _
    | ok y=>exact ok_postOn hN ht f _ _ (H _ _ rfl)
   | false =>
    simp only [cond_false]
    exact OkO.ok he
theorem ok_sidesOn {rank:Nat}{sub:Nat→Out (DataW Unit)}(hN:4≤N) (ht:∀ k,OkO N (sub k)):∀ (f:Nat) (e:DataW Unit) (k:Nat),OkT N e→OkO N (pSidesOn l rank sub f e k)
 | 0,e,k,h=>OkO.ok h
 | f+1,e,k,h=>by
  unfold pSidesOn
  cases hx:l[k]? with
  | none=>exact OkO.ok h
  | some x =>
   simp only
   cases hm:markB x (rankOps rank) with
   | true =>
    simp only [cond_true]
    cases ho:sub (k+1) with
    | error y=>exact OkO.err _
    | ok y =>
     obtain ⟨e2,k2⟩:=y
     have h2:OkT N (mkE x.2.1 0 ⟨#[]⟩ [] [e,e2]):=mkOkT (Nat.zero_le _) (by simp;omega) (fun z hz=>by
      simp at hz
      rcases hz with rfl | rfl
      ·exact h
      ·exact ht (k+1) _ k2 ho)
     simp only
     cases hr:rank == 4 with
     | true =>
      simp only [cond_true]
      exact OkO.ok h2
     | false =>
      simp only [cond_false]
      exact ok_sidesOn hN ht f _ _ h2
   | false =>
    simp only [cond_false]
    exact OkO.ok h
theorem ok_leaf {op s:ByteArray}{z:Int} : OkT N (mkE op z s [] []):=mkOkT (Nat.zero_le _) (Nat.zero_le _) (fun e he=>by simp at he)
theorem ok_atom {dp:Nat}{term:Nat→Out (DataW Unit)}{terms pairs:Nat→Out (List (DataW Unit))}{k:Nat}(h:OkO N (term (k+1))) (h1:OkL N (terms (k+1))) (h2:OkL N (pairs (k+1))):OkO N (pAtom l dp term terms pairs k):=by
 unfold pAtom
 cases hx:l[k]? with
 | none=>exact OkO.err _
 | some x =>
  simp only
  cases isIntB x with
  | true=>exact OkO.ok ok_leaf
  | false =>
   simp only [cond_false]
   cases isStrB x || isNameB x with
   | true=>exact OkO.ok ok_leaf
   | false =>
    simp only [cond_false]
    cases markB x [kNone,kTrue,kFalse] with
    | true=>exact OkO.ok ok_leaf
    | false =>
     simp only [cond_false]
     cases markB x [lpar] with
     | true=>exact ok_deep (ok_closed h)
     | false =>
      simp only [cond_false]
      cases markB x [lbrk] with
      | true=>exact ok_deep (ok_list h1)
      | false =>
       simp only [cond_false]
       cases markB x [lbrc] with
       | true=>exact ok_deep (ok_list h2)
       | false=>exact OkO.err _
theorem ok_ahead {m:ByteArray}{k dp:Nat}{o1 o2:Out (DataW Unit)}(h1:OkO N o1) (h2:OkO N o2):OkO N (pAhead l m k dp o1 o2):=by
 unfold pAhead
 cases hm:markAt l k [m] with
 | true =>
  simp only [cond_true]
  split
  ·exact OkO.err _
  ·exact h2
 | false =>
  simp only [cond_false]
  exact h1
theorem ok_lambda {one:Nat→Out (List (DataW Unit))}{k:Nat}(hN:l.length+1≤N) (h1:∀ k,OkL N (one k)):OkO N (pLambda l one k):=by
 unfold pLambda
 cases ho:pUpTo l (pName l) colon l.length [] k with
 | error y=>exact OkO.err _
 | ok y =>
  obtain ⟨names,k1⟩:=y
  simp only
  obtain ⟨j',q1,q2⟩:=pUpTo_inv (P:=fun s j=>s.length=j) (fun s k s' k' j hs h=>name_inv (l:=l) s k s' k' j hs h) (j:=0) rfl ho
  cases ho1:one k1 with
  | error y=>exact OkO.err _
  | ok y =>
   obtain ⟨el,k2⟩:=y
   obtain ⟨r1,r2⟩:=h1 k1 el k2 ho1
   exact OkO.ok (mkOkT (by omega) r1 r2)
theorem ok_one {o:Out (DataW Unit)}(hN:4≤N) (h:OkO N o):OkL N (pOne o):=fun el k' h1=>by
 unfold pOne at h1
 cases o with
 | error y=>cases h1
 | ok y =>
  obtain ⟨e,k1⟩:=y
  simp only [Except.ok.injEq,Prod.mk.injEq] at h1
  rw [←h1.1]
  exact ⟨by simp;omega,fun x hx=>by simp at hx;subst hx;exact h _ k1 rfl⟩
theorem ranked_ok (hN:2*l.length+4≤N):∀ (f dp rank k:Nat),OkO N (pRanked l f dp rank k)
 | 0,dp,rank,k=>OkO.err _
 | f+1,dp,rank,k=>by
  unfold pRanked
  split
  ·exact ok_ahead (ranked_ok hN f dp 1 k) (ok_lambda (by omega) (fun k1=>ok_one (by omega) (ranked_ok hN f (dp+1) 0 k1)))
  ·split
   ·exact ok_ahead (ranked_ok hN f dp 4 k) (ok_op (by omega) (ranked_ok hN f (dp+1) 3 (k+1)))
   ·split
    ·exact ok_ahead (ranked_ok hN f dp 8 k) (ok_op (by omega) (ranked_ok hN f (dp+1) 7 (k+1)))
    ·split
     ·unfold pPost
      have H:=ok_atom (l:=l) (dp:=dp) (term:=pRanked l f (dp+1) 0) (terms:=fun k1=>pUpTo l (pTermStep (pRanked l f (dp+1) 0)) rbrk l.length [] k1) (pairs:=fun k1=>pUpTo l (pPairStep l (pRanked l f (dp+1) 0)) rbrc l.length [] k1) (k:=k) (ranked_ok hN f (dp+1) 0 (k+1)) (ok_terms (fun k=>ranked_ok hN f (dp+1) 0 k) (by simp;omega) (fun e he=>by simp at he)) (ok_pairs (fun k=>ranked_ok hN f (dp+1) 0 k) (by omega))
      revert H
      generalize pAtom l dp (pRanked l f (dp+1) 0) (fun k1=>pUpTo l (pTermStep (pRanked l f (dp+1) 0)) rbrk l.length [] k1) (fun k1=>pUpTo l (pPairStep l (pRanked l f (dp+1) 0)) rbrc l.length [] k1) k=o
      intro H
      cases o with
      | error y=>exact OkO.err _
      | ok y=>exact ok_postOn hN (fun k=>ranked_ok hN f (dp+1) 0 k) _ _ _ (H _ _ rfl)
     ·unfold pSides
      have H:=ranked_ok hN f dp (rank+1) k
      revert H
      generalize pRanked l f dp (rank+1) k=o
      intro H
      cases o with
      | error y=>exact OkO.err _
      | ok y=>exact ok_sidesOn (by omega) (fun k=>ranked_ok hN f dp (rank+1) k) _ _ _ (H _ _ rfl)
theorem term_ok (hN:2*l.length+4≤N) (k:Nat):OkO N (pTerm l k):=ranked_ok hN _ _ _ _
end Go.Proofs.YtemapnogjepokaaGreatDoor
