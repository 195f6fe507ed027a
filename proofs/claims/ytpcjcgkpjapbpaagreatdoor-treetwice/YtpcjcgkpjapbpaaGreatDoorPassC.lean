/- The law's closed fact pass(). -/
import Derived.Test.YtpcjcgkpjapbpaaGreatDoorTtR
import Derived.Test.YtpcjcgkpjapbpaaGreatDoorTtP
set_option linter.all false
namespace Go.Proofs.YtpcjcgkpjapbpaaGreatDoor
open Go.RowKit Go.Lib

def bPass:ByteArray:=⟨#[112,97,115,115,10]⟩
def mPass:List (ByteArray × ByteArray × Nat):=[(kWord,kPs,0),(kNewline,⟨#[]⟩,4),(kEnd,⟨#[]⟩,5)]
theorem lexP_pass:lexP bPass = .ok (mPass.length,cellsOf mPass):=by kernel_rfl
theorem pRead_pass:pRead mPass = .ok ([mkS kPs ⟨#[]⟩ [] [] [] []],2):=by kernel_rfl
theorem cellsOf_inj:∀ {l m:List (ByteArray × ByteArray × Nat)},cellsOf l=cellsOf m→l=m
 | [],[],_=>rfl
 | [],_::_,h=>by simp [cellsOf,tokCells] at h
 | _::_,[],h=>by simp [cellsOf,tokCells] at h
 | (a,b,c)::l,(a',b',c')::m,h=>by
  have h':tokCells a b c++cellsOf l=tokCells a' b' c'++cellsOf m:=by simpa [cellsOf] using h
  simp [tokCells] at h'
  obtain ⟨rfl,rfl,h3,h4⟩:=h'
  have h5:c=c':=by omega
  rw [h5,cellsOf_inj h4]

def IsPass (w:World) (g o:Nat):Prop:=∃ (pa la ba ea:Option Addr) (pc lc bc ec:Nat),w.cell? ⟨g,o,none⟩=some (.string kPs)∧w.cell? ⟨g,o+1,none⟩=some (.string ⟨#[]⟩)∧w.cell? ⟨g,o+2,none⟩=some (.slice pa 0 pc)∧w.cell? ⟨g,o+3,none⟩=some (.slice la 0 lc)∧w.cell? ⟨g,o+4,none⟩=some (.slice ba 0 bc)∧w.cell? ⟨g,o+5,none⟩=some (.slice ea 0 ec)
theorem IsPass.more {w w':World}{g o:Nat} (h:IsPass w g o) (hb:Below w.heap.size w w'):IsPass w' g o:=by
 obtain ⟨pa,la,ba,ea,pc,lc,bc,ec,h0,h1,h2,h3,h4,h5⟩:=h
 have hl:g<w.heap.size:=lt_of_cell h0
 exact ⟨pa,la,ba,ea,pc,lc,bc,ec,(hb.cell (p:=⟨g,o,none⟩) hl).trans h0,(hb.cell (p:=⟨g,o+1,none⟩) hl).trans h1,(hb.cell (p:=⟨g,o+2,none⟩) hl).trans h2,(hb.cell (p:=⟨g,o+3,none⟩) hl).trans h3,(hb.cell (p:=⟨g,o+4,none⟩) hl).trans h4,(hb.cell (p:=⟨g,o+5,none⟩) hl).trans h5⟩

theorem read_pass (a0 a1:Addr) (w:World) (E:LEnv w.heap.size a0 a1 w):Calls Tryz.prog 8 #[.string bPass] w fun ev w' => ∃ g o cap,ev = .returned (.tuple #[.slice (some ⟨g,o,none⟩) 1 cap,.nilIface])∧IsPass w' g o∧Below w.heap.size w w':=by
 refine (read_any bPass a0 a1 w E).mono ?_
 rintro ev w' ⟨hb,⟨m,ss,k,ba,bc,_,h1,h2,h3,h4⟩ | ⟨hno,_⟩⟩
 rotate_left
 ·exact absurd pRead_pass (hno mPass _ _ (by decide) lexP_pass)
 rw [lexP_pass] at h1
 simp only [Except.ok.injEq,Prod.mk.injEq] at h1
 obtain rfl:=cellsOf_inj h1.2
 rw [pRead_pass] at h2
 simp only [Except.ok.injEq,Prod.mk.injEq] at h2
 obtain ⟨rfl,rfl⟩:=h2
 obtain ⟨b,o,rfl,_,hx⟩:=h4 (by simp)
 obtain ⟨c0,c1,c2,c3,c4,c5,x0,x1,x2,x3,x4,x5,n,hr⟩:=hx 0 _ rfl
 cases n with
 | zero=>exact hr.elim
 | succ n =>
  obtain ⟨kd,nm,pl,el,bd,es,pa,la,ba,ea,pc,lc,bc2,ec,hd,hcs,_⟩:=hr
  simp only [List.cons.injEq,and_true] at hcs
  obtain ⟨rfl,rfl,rfl,rfl,rfl,rfl⟩:=hcs
  obtain ⟨rfl,rfl,rfl,rfl,rfl,rfl⟩:=mkS_inj hd
  exact ⟨b,o,bc,h3,⟨pa,la,ba,ea,pc,lc,bc2,ec,by simpa using x0,by simpa using x1,by simpa using x2,by simpa using x3,by simpa using x4,by simpa using x5⟩,hb⟩

theorem WS.string {w0 w:World}{p:Nat}{t:ByteArray} (C:WS w0 p t w) (ht:0<t.size):∃ gt cap,w.cell? ⟨p,1,none⟩=some (.slice (some ⟨gt,0,none⟩) t.size cap)∧w.cell? ⟨p,3,none⟩=some (.bool false)∧(convert 48 9 (.slice (some ⟨gt,0,none⟩) t.size cap)).run Tryz.prog w = .ok (.string t) w:=by
 obtain ⟨rk,v,tm,hb,ho,_⟩:=C.blk
 obtain ⟨c0,c1,c2,c3,cf⟩:=four_cells hb
 rcases ho.2 with ⟨_,h0⟩ | ⟨g,cap,cur,rfl,_,hg,_,_,_,hx⟩
 ·omega
 have hs:strOfNums (t.data.toList.map fun c=>(c.toNat:Int))=t:=by
  apply ByteArray.ext
  simp [strOfNums,Function.comp_def]
 refine ⟨g,cap,c1,c3,?_⟩
 have h:=run_convert_bytes_arg (P:=Tryz.prog) w 48 5 Tryz.underlying48 Tryz.underlying5 g 0 t.size cap (t.data.toList.map fun c=>(c.toNat:Int)) (by simp) (fun i hi=>by
  rw [Nat.zero_add,cell_of_row w g i cur 5 (0,0) hg,←Array.getElem?_toList]
  have e:(cur.toList.take (t.size*1))[i]?=(strCells t)[i]?:=by rw [hx]
  rw [List.getElem?_take,if_pos (by omega)] at e
  rw [e]
  have e3:t.data[i]?=some (t.data[i]'(by simpa using hi)):=by simp
  simp [strCells,e3]) 9 Tryz.underlying9
 rw [hs] at h
 exact h

set_option maxHeartbeats 4000000 in
set_option maxRecDepth 100000 in
theorem text_pass (a0 a1:Addr) (g o cap:Nat) (w:World) (E:LEnv w.heap.size a0 a1 w) (hP:IsPass w g o):Calls Tryz.prog 6 #[.slice (some ⟨g,o,none⟩) 1 cap] w fun ev w'=>ev = .returned (.tuple #[.string bPass,.nilIface])∧Below w.heap.size w w':=by
 have HP:=toHid hP
 have HE:=toHid E
 clear hP E
 go_enter Tryz.func6,Tryz.ntmps6
 go_wp2_with fail
 refine (ranks_any _).mono ?_
 rintro ev w1 ⟨rfl,hw1⟩
 obtain ⟨hb1,hs1,_⟩:=rk_of w
 rw [←hw1] at hb1 hs1
 clear hw1
 have HWS:Hid (WS w (w.heap.size+9) ⟨#[]⟩ (w1.alloc (.cells #[.slice (some ⟨w.heap.size+8,0,none⟩) 8 8,.slice none 0 0,.int .i64 0,.bool false] 50))):=by
  have h:=heap_alloc_new w1 (.cells #[.slice (some ⟨w.heap.size+8,0,none⟩) 8 8,.slice none 0 0,.int .i64 0,.bool false] 50)
  rw [hs1] at h
  exact ⟨⟨_,_,_,h,⟨rfl,.inl ⟨rfl,rfl⟩⟩,by simp [Value.ownBlock]⟩,by omega,hb1.alloc hb1.size _⟩
 obtain ⟨pa,la,ba,ea,pc,lc,bc,ec,x0,x1,x2,x3,x4,x5⟩:=HP.out.more HWS.out.bl
 have HX:=toHid (statements_pass HWS.out g o cap pa la ba ea pc lc bc ec x0 x1 x2 x3 x4 x5)
 clear x0 x1 x2 x3 x4 x5
 go_wp2_with fail
 refine HX.out.mono ?_
 rintro ev w2 ⟨rfl,hws⟩
 obtain ⟨gt,tc,t1,t3,hcv⟩:=hws.string (by decide)
 replace t1:w2.cell? ⟨w.heap.size+9,1,none⟩=some (.slice (some ⟨gt,0,none⟩) 5 tc):=t1
 replace hcv:(convert 48 9 (.slice (some ⟨gt,0,none⟩) 5 tc)).run Tryz.prog w2 = .ok (.string bPass) w2:=hcv
 have hb2:=hws.bl
 have E2:=(HE.out.below hb2).up hb2.size
 have HP2:=toHid (HP.out.more hb2)
 clear hws
 go_wp2_with fail
 refine (read_pass a0 a1 w2 E2).mono ?_
 rintro ev w3 ⟨g3,o3,cap3,rfl,hp3,hb3⟩
 have hb3w:=hb2.trans (hb3.mono hb2.size)
 obtain ⟨pa,la,ba,ea,pc,lc,bc,ec,x0,x1,x2,x3,x4,x5⟩:=HP.out.more hb3w
 obtain ⟨pa',la',ba',ea',pc',lc',bc',ec',y0,y1,y2,y3,y4,y5⟩:=hp3
 have HQ:=toHid (eqStmt_pass g o cap g3 o3 cap3 pa la ba ea pa' la' ba' ea' pc lc bc ec pc' lc' bc' ec' w3 x0 x1 x2 x3 x4 x5 y0 y1 y2 y3 y4 y5)
 clear x0 x1 x2 x3 x4 x5 y0 y1 y2 y3 y4 y5 hb3
 go_wp2_with fail
 refine HQ.out.mono ?_
 rintro ev w4 ⟨rfl,hb4⟩
 have hb4w:=hb3w.trans (hb4.mono hb3w.size)
 clear hb4
 go_wp2
 go_ret2
 exact ⟨rfl,hb4w⟩

theorem isPassT:(bPass.toList == [112,97,115,115,10])=true:=by kernel_rfl
set_option maxHeartbeats 4000000 in
set_option maxRecDepth 100000 in
theorem lawpass_any (a0 a1:Addr) (w:World) (E:LEnv w.heap.size a0 a1 w):Calls Tryz.prog 4 #[] w fun ev w'=>ev = .returned (.bool true)∧Below w.heap.size w w':=by
 have HR:=toHid (read_pass a0 a1 w E)
 have HE:=toHid E
 clear E
 go_enter Tryz.func4,Tryz.ntmps4
 go_wp2_with fail
 refine HR.out.mono ?_
 rintro ev w1 ⟨g,o,cap,rfl,hp,hb1⟩
 have HT:=toHid (text_pass a0 a1 g o cap w1 ((HE.out.below hb1).up hb1.size) hp)
 obtain ⟨pa,la,ba,ea,pc,lc,bc,ec,x0,_⟩:=hp
 go_wp2_with fail
 refine HT.out.mono ?_
 rintro ev w2 ⟨rfl,hb2⟩
 have hb2w:=hb1.trans (hb2.mono hb1.size)
 have i2:=isPassT
 clear hb2
 go_wp2
 go_ret
 exact ⟨rfl,hb2w⟩
end Go.Proofs.YtpcjcgkpjapbpaaGreatDoor
