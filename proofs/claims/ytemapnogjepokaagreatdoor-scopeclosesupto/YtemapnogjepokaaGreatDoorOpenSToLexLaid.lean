/- Statements that are handed in, read out of memory; no greater than what comes in. -/
import Derived.Test.YtemapnogjepokaaGreatDoorRows
import Derived.Test.YtemapnogjepokaaGreatDoorSizeQToScG
import Derived.Deep.Fields
import Derived.Deep.Strs
import Derived.ChangeSlices
import Derived.ChangeArms
import Derived.Lib.SmallJoins
import Derived.Test.YtemapnogjepokaaGreatDoorErrCodeToLexB
import Derived.Stop.LaidTwo
import Derived.Test.YtemapnogjepokaaGreatDoorWrtNToWrtQ
import Derived.Stop.LaidErr
import Derived.Lib.LaidTab
import Derived.Test.YtemapnogjepokaaGreatDoorLexTToLexZ
namespace Go.Proofs.YtemapnogjepokaaGreatDoor
open Go.RowKit Go.ChangeShapes Go.WideShapes Go.Deep Go.Joins

theorem cellsS9:Tryz.prog.cellsOf 9=1:=by kernel_rfl
theorem cellsI64:Tryz.prog.cellsOf 2=1:=by kernel_rfl
theorem cellsStrs:Tryz.prog.cellsOf 32=1:=by kernel_rfl
theorem cellsExprR:Tryz.prog.cellsOf 42=5:=by kernel_rfl
theorem cellsExprsR:Tryz.prog.cellsOf 37=1:=by kernel_rfl
theorem cellsStmtR:Tryz.prog.cellsOf 39=6:=by kernel_rfl
theorem cellsStmtsR:Tryz.prog.cellsOf 22=1:=by kernel_rfl
def NM (ps:List MemPlace):Prop:=∀ p∈ps,∀ bb,p ≠ .map bb
theorem nm_nil:NM []:=fun p hp=>by cases hp
theorem nm_app {a b:List MemPlace}(ha:NM a) (hb:NM b):NM (a++b):=fun p hp=>(List.mem_append.1 hp).elim (ha p) (hb p)
theorem nm_row (a:Addr) (n:Nat):NM (MemPlace.row a n):=fun p hp bb e=>by
 obtain ⟨j,_,rfl⟩:=MemPlace.mem_row.1 hp
 cases e
theorem nm_flat {n:Nat}{f:Nat→List MemPlace}(h:∀ i,i<n→NM (f i)):NM ((List.range n).flatMap f):=fun p hp bb e=>by
 obtain ⟨i,hi,h2⟩:=List.mem_flatMap.1 hp
 exact h i (List.mem_range.1 hi) p h2 bb e
theorem wf64 {n:Int}(h:(Lit.int .i64 n).wf=true):Fz n:=by
 simp only [Lit.wf,Bool.and_eq_true,decide_eq_true_eq] at h
 have e1:IntKind.i64.min = -9223372036854775808:=by decide
 have e2:IntKind.i64.max=9223372036854775807:=by decide
 unfold Fz
 omega
/-! Bulks. -/
theorem bulk_pos {H:Type}(d:DataW H):1≤Rows.uptoBulk d:=by
 cases d with
 | lit l=>cases l <;> simp [Rows.uptoBulk]
 | _=>simp [Rows.uptoBulk]
theorem bulk_mem {H:Type}{d:DataW H} : ∀ {l:List (DataW H)},d∈l→Rows.uptoBulk d≤Rows.uptoBulkAll l
 | x::r,h=>by
  rw [Rows.uptoBulkAll]
  rcases List.mem_cons.1 h with rfl | h
  ·omega
  ·have:=bulk_mem h
   omega
theorem bulk_len {H:Type} : ∀ l:List (DataW H),l.length≤Rows.uptoBulkAll l
 | []=>by simp
 | x::r=>by
  rw [Rows.uptoBulkAll,List.length_cons]
  have:=bulk_pos x
  have:=bulk_len r
  omega
theorem bulk_slice {H:Type}{n m B:Nat}{D:Nat→DataW H}(h:Rows.uptoBulk (.slice ((List.range n).map D) ((List.range (m - n)).map fun j=>D (n+j)))≤B+1):n≤B ∧ ∀ i,i<m→Rows.uptoBulk (D i)≤B:=by
 rw [Rows.uptoBulk] at h
 have h1:=bulk_len ((List.range n).map D)
 rw [List.length_map,List.length_range] at h1
 refine ⟨by omega,fun i hi => ?_⟩
 rcases Nat.lt_or_ge i n with hin | hin
 ·have:=bulk_mem (l:=(List.range n).map D) (List.mem_map.2 ⟨i,List.mem_range.2 hin,rfl⟩)
  omega
 ·have:=bulk_mem (l:=(List.range (m - n)).map fun j=>D (n+j)) (d:=D i) (List.mem_map.2 ⟨i - n,List.mem_range.2 (by omega),by rw [Nat.add_sub_cancel' hin]⟩)
  omega
theorem bulk_agg {H:Type}{l:List (DataW H)}{B:Nat}(h:Rows.uptoBulk (.agg l)≤B):∀ d∈l,Rows.uptoBulk d≤B:=fun d hd=>by
 rw [Rows.uptoBulk] at h
 have:=bulk_mem hd
 omega
theorem bulk_str {H:Type}{s:ByteArray}{B:Nat}(h:Rows.uptoBulk (.lit (.string s.data.toList):DataW H)≤B):s.size≤B:=by
 rw [Rows.uptoBulk] at h
 have e:s.data.toList.length=s.size:=by rw [Array.length_toList];rfl
 omega
theorem bulk_all_le {H K:Type}{f:Nat→DataW H}{g:Nat→DataW K} : ∀ l:List Nat,(∀ i∈l,Rows.uptoBulk (f i)≤Rows.uptoBulk (g i))→Rows.uptoBulkAll (l.map f)≤Rows.uptoBulkAll (l.map g)
 | [],_=>by simp [Rows.uptoBulkAll]
 | x::r,h=>by
  have h1:=h x (by simp)
  have h2:=bulk_all_le r (fun i hi=>h i (by simp [hi]))
  simp only [List.map_cons,Rows.uptoBulkAll]
  omega
theorem bulk_slice_le {H K:Type}{n:Nat}{f:Nat→DataW H}{D:Nat→DataW K}{sp:List (DataW K)}(h:∀ i,i<n→Rows.uptoBulk (f i)≤Rows.uptoBulk (D i)):Rows.uptoBulk (.slice ((List.range n).map f) [])≤Rows.uptoBulk (.slice ((List.range n).map D) sp):=by
 have:=bulk_all_le (List.range n) (fun i hi=>h i (List.mem_range.1 hi))
 simp only [Rows.uptoBulk,Rows.uptoBulkAll]
 omega
theorem addr_plain {W:World}{a:Addr}{v:Value}(h:W.cell? (a.add 0)=some v):∃ b o,a=⟨b,o,none⟩:=by
 obtain ⟨b,o,spot⟩:=a
 have hspot:spot=none:=by simpa [Addr.add] using World.cell?_spot h
 subst hspot
 exact ⟨b,o,rfl⟩
abbrev Any:Nat→Prop:=fun _=>True
section
variable {H:Type}{enc:TypeId × Value→H}{W:World}{base:Nat}{sp:Nat→Bool}{held:Bool}{fuel:Nat}
theorem trod_struct5 {P:Program}{t:TypeId}{f0 f1 f2 f3 f4:Field}{cs:List Value}{x:DataW H × List MemPlace}(ht:P.underlying t=some (.struct #[f0,f1,f2,f3,f4])) (h:DataW.trod enc P W base sp held fuel t cs=some x) :
  ∃ y0 y1 y2 y3 y4 n,x=(.agg [y0.1,y1.1,y2.1,y3.1,y4.1],y0.2++(y1.2++(y2.2++(y3.2++y4.2))))∧cs.length=P.cellsOf t∧DataW.trod enc P W base sp held n f0.type ((cs.drop f0.offset).take (P.cellsOf f0.type))=some y0 ∧
   DataW.trod enc P W base sp held n f1.type ((cs.drop f1.offset).take (P.cellsOf f1.type))=some y1∧DataW.trod enc P W base sp held n f2.type ((cs.drop f2.offset).take (P.cellsOf f2.type))=some y2 ∧
   DataW.trod enc P W base sp held n f3.type ((cs.drop f3.offset).take (P.cellsOf f3.type))=some y3∧DataW.trod enc P W base sp held n f4.type ((cs.drop f4.offset).take (P.cellsOf f4.type))=some y4:=by
 obtain ⟨xs,n,_,rfl,hl,hlen,hf⟩:=DataW.trod_struct ht h
 match xs,hlen with
 | [y0,y1,y2,y3,y4],_=>exact ⟨y0,y1,y2,y3,y4,n,by simp,hl,by simpa using hf 0 f0 rfl,by simpa using hf 1 f1 rfl,by simpa using hf 2 f2 rfl,by simpa using hf 3 f3 rfl,by simpa using hf 4 f4 rfl⟩
theorem trod_struct6 {P:Program}{t:TypeId}{f0 f1 f2 f3 f4 f5:Field}{cs:List Value}{x:DataW H × List MemPlace}(ht:P.underlying t=some (.struct #[f0,f1,f2,f3,f4,f5])) (h:DataW.trod enc P W base sp held fuel t cs=some x) :
  ∃ y0 y1 y2 y3 y4 y5 n,x=(.agg [y0.1,y1.1,y2.1,y3.1,y4.1,y5.1],y0.2++(y1.2++(y2.2++(y3.2++(y4.2++y5.2)))))∧cs.length=P.cellsOf t∧DataW.trod enc P W base sp held n f0.type ((cs.drop f0.offset).take (P.cellsOf f0.type))=some y0 ∧
   DataW.trod enc P W base sp held n f1.type ((cs.drop f1.offset).take (P.cellsOf f1.type))=some y1∧DataW.trod enc P W base sp held n f2.type ((cs.drop f2.offset).take (P.cellsOf f2.type))=some y2 ∧
   DataW.trod enc P W base sp held n f3.type ((cs.drop f3.offset).take (P.cellsOf f3.type))=some y3∧DataW.trod enc P W base sp held n f4.type ((cs.drop f4.offset).take (P.cellsOf f4.type))=some y4 ∧
   DataW.trod enc P W base sp held n f5.type ((cs.drop f5.offset).take (P.cellsOf f5.type))=some y5:=by
 obtain ⟨xs,n,_,rfl,hl,hlen,hf⟩:=DataW.trod_struct ht h
 match xs,hlen with
 | [y0,y1,y2,y3,y4,y5],_=>exact ⟨y0,y1,y2,y3,y4,y5,n,by simp,hl,by simpa using hf 0 f0 rfl,by simpa using hf 1 f1 rfl,by simpa using hf 2 f2 rfl,by simpa using hf 3 f3 rfl,by simpa using hf 4 f4 rfl,by simpa using hf 5 f5 rfl⟩
set_option maxRecDepth 100000 in
theorem open_names {cs:List Value}{y:DataW H × List MemPlace}{B:Nat}(hB:B≤2000000) (h:DataW.trod enc Tryz.prog W base sp held fuel 32 cs=some y) (hb:Rows.uptoBulk y.1≤B+1) :
  ∃ (pa:Option Addr) (pl:List ByteArray) (pc:Nat),cs = [.slice pa pl.length pc]∧RepN Any W pa pl∧pl.length≤2000000∧ZNL pl∧NM y.2∧Rows.uptoBulk (.slice (pl.map fun x=>.lit (.string x.data.toList)) []:DataW Unit)≤Rows.uptoBulk y.1:=by
 rcases open_strs Tryz.underlying32 Tryz.underlying9 cellsS9 h with ⟨rfl,rfl⟩ | ⟨a,len,cap,m,Sx,rfl,_,hl,_,hmm,rfl,hx⟩
 ·exact ⟨none,[],0,rfl,fun h=>absurd h (by simp),by simp,ZNL.nil,nm_nil,by simp [Rows.uptoBulk,Rows.uptoBulkAll]⟩
 have hlm:len≤m:=by rw [hmm];split <;> omega
 obtain ⟨hn,hbi⟩:=bulk_slice (D:=fun i=>.lit (.string (Sx i).data.toList)) hb
 refine ⟨some a,(List.range len).map Sx,cap,by simp,fun h0 => ?_,by simp;omega,fun x hx2 => ?_,nm_row _ _,by rw [List.map_map];exact bulk_slice_le (fun i _=>Nat.le_refl _)⟩
 ·simp at h0
  obtain ⟨b,o,rfl⟩:=addr_plain (hx 0 (by omega)).1
  refine ⟨b,o,rfl,trivial,fun j t hj => ?_⟩
  have hjl:=(List.getElem?_eq_some_iff.1 hj).1
  simp at hjl
  have c0:=(hx j (by omega)).1
  rw [add_plain] at c0
  have e:t=Sx j:=by
   rw [List.getElem?_map,List.getElem?_range hjl] at hj
   simpa using hj.symm
  rw [e]
  exact c0
 ·obtain ⟨i,hi,rfl⟩:=List.mem_map.1 hx2
  have:=bulk_str (hbi i (by have:=List.mem_range.1 hi;omega))
  unfold Fs
  omega
def ExprAt (W:World) (n:Nat) (a:Addr) (d:DataW Unit):Prop:=∃ c0 c1 c2 c3 c4,W.cell? (a.add 0)=some c0∧W.cell? (a.add 1)=some c1∧W.cell? (a.add 2)=some c2∧W.cell? (a.add 3)=some c3∧W.cell? (a.add 4)=some c4∧repV Any W n [c0,c1,c2,c3,c4] d∧okT 2000000 n d∧zT n d
def ExprsAt (W:World) (n:Nat) (cs:List Value) (y:DataW H × List MemPlace):Prop:=∃ (la:Option Addr) (el:List (DataW Unit)) (lc:Nat),cs = [.slice la el.length lc]∧rowE Any W (repV Any W n) la el∧el.length≤2000000∧(∀ e∈el,okT 2000000 n e)∧(∀ e∈el,zT n e)∧NM y.2∧Rows.uptoBulk (.slice el []:DataW Unit)≤Rows.uptoBulk y.1
set_option maxRecDepth 100000 in
theorem open_exprs:∀ (B:Nat),B≤2000000 → ∀ (fuel:Nat) (cs:List Value) (y:DataW H × List MemPlace),DataW.trod enc Tryz.prog W base sp held fuel 37 cs=some y→Rows.uptoBulk y.1≤B→ExprsAt W B cs y
 | 0,_,_,_,y,_,hb=>by have:=bulk_pos y.1;omega
 | B+1,hB,fuel,cs,y,h,hb=>by
  rcases open_slice Tryz.underlying37 h with ⟨rfl,rfl⟩ | ⟨a,len,cap,m,n,D,Pl,rfl,_,hl,_,hmm,rfl,hx⟩
  ·exact ⟨none,[],0,rfl,fun h=>absurd h (by simp),by simp,fun e he=>by simp at he,fun e he=>by simp at he,nm_nil,by simp [Rows.uptoBulk,Rows.uptoBulkAll]⟩
  have hlm:len≤m:=by rw [hmm];split <;> omega
  obtain ⟨hn,hbi⟩:=bulk_slice hb
  rw [cellsExprR] at hx
  have each:∀ i,i<m → ∃ d:DataW Unit,ExprAt W (B+1) (a.add (i*5)) d∧NM (Pl i)∧Rows.uptoBulk d≤Rows.uptoBulk (D i):=by
   intro i hi
   obtain ⟨cs',h1,h2⟩:=hx i hi
   have hbd:=hbi i hi
   obtain ⟨_,hlen,hcell⟩:=World.cells?_some h1
   obtain ⟨y0,y1,y2,y3,y4,k,hxy,_,g0,g1,g2,g3,g4⟩:=trod_struct5 Tryz.underlying42 h2
   simp only [Prod.mk.injEq] at hxy
   rw [hxy.1] at hbd
   have hba:=bulk_agg hbd
   match cs',hlen with
   | [v0,v1,v2,v3,v4],_ =>
    simp [cellsS9,cellsI64,cellsStrs,cellsExprsR] at g0 g1 g2 g3 g4
    obtain ⟨s0,q0,r0,_⟩:=DataW.trod_string Tryz.underlying9 g0
    obtain ⟨z1,q1,r1,w1⟩:=DataW.trod_int Tryz.underlying2 g1
    obtain ⟨s2,q2,r2,_⟩:=DataW.trod_string Tryz.underlying9 g2
    obtain ⟨pa,pl,pc,q3,hN,hpl,hzn,hm3,hu3⟩:=open_names (B:=B) (by omega) g3 (by have:=hba y3.1 (by simp);omega)
    obtain ⟨la,el,lc,q4,hR,hel,hok,hzt,hm4,hu4⟩:=open_exprs B (by omega) _ _ _ g4 (hba y4.1 (by simp))
    simp only [List.cons.injEq,and_true] at q0 q1 q2 q3 q4
    subst q0 q1 q2 q3 q4
    have b0:s0.size≤B:=bulk_str (H:=H) (by have:=hba y0.1 (by simp);rw [r0] at this;exact this)
    have b2:s2.size≤B:=bulk_str (H:=H) (by have:=hba y2.1 (by simp);rw [r2] at this;exact this)
    refine ⟨mkE s0 z1 s2 pl el,⟨_,_,_,_,_,by simpa using hcell 0 (by omega),by simpa using hcell 1 (by omega),by simpa using hcell 2 (by omega),by simpa using hcell 3 (by omega),by simpa using hcell 4 (by omega),⟨s0,s2,z1,pl,el,pa,la,pc,lc,rfl,rfl,hN,hR⟩,⟨s0,z1,s2,pl,el,rfl,hpl,hel,hok⟩,⟨s0,z1,s2,pl,el,rfl,by unfold Fs;omega,by unfold Fs;omega,wf64 w1,hzn,hzt⟩⟩,?_⟩
    refine ⟨?_,?_⟩
    ·rw [hxy.2,r0,r1,r2]
     exact nm_app nm_nil (nm_app nm_nil (nm_app nm_nil (nm_app hm3 hm4)))
    ·rw [hxy.1,mkE,r0,r1,r2]
     simp only [Rows.uptoBulk,Rows.uptoBulkAll] at hu3 hu4 ⊢
     omega
  obtain ⟨f,hf⟩:=@choose_lt (DataW Unit) ⟨.nil⟩ m _ each
  have hget:∀ (i:Nat) (e:DataW Unit),((List.range len).map f)[i]?=some e→i<len∧e=f i:=fun i e hi=>by
   have hil:=(List.getElem?_eq_some_iff.1 hi).1
   simp at hil
   rw [List.getElem?_map,List.getElem?_range hil] at hi
   exact ⟨hil,by simpa using hi.symm⟩
  refine ⟨some a,(List.range len).map f,cap,by simp,fun h0 => ?_,by simp;omega,fun e he => ?_,fun e he => ?_,nm_app (nm_row _ _) (nm_flat fun i hi=>(hf i hi).2.1),bulk_slice_le (fun i hi=>(hf i (by omega)).2.2)⟩
  ·simp at h0
   obtain ⟨c0,_,_,_,_,x0,_⟩:=(hf 0 (by omega)).1
   rw [Nat.zero_mul,add_add] at x0
   obtain ⟨b,o,rfl⟩:=addr_plain x0
   refine ⟨b,o,rfl,trivial,fun i e hi => ?_⟩
   obtain ⟨hil,rfl⟩:=hget i e hi
   obtain ⟨c0,c1,c2,c3,c4,x0,x1,x2,x3,x4,hr,_,_⟩:=(hf i (by omega)).1
   simp only [add_plain,Nat.add_zero] at x0 x1 x2 x3 x4
   exact ⟨c0,c1,c2,c3,c4,x0,x1,x2,x3,x4,hr⟩
  ·obtain ⟨i,hi⟩:=List.getElem?_of_mem he
   obtain ⟨hil,rfl⟩:=hget i e hi
   obtain ⟨_,_,_,_,_,_,_,_,_,_,_,h1,_⟩:=(hf i (by omega)).1
   exact h1
  ·obtain ⟨i,hi⟩:=List.getElem?_of_mem he
   obtain ⟨hil,rfl⟩:=hget i e hi
   obtain ⟨_,_,_,_,_,_,_,_,_,_,_,_,h1⟩:=(hf i (by omega)).1
   exact h1
def StmtAtR (W:World) (n:Nat) (a:Addr) (d:DataW Unit):Prop:=∃ c0 c1 c2 c3 c4 c5,W.cell? (a.add 0)=some c0∧W.cell? (a.add 1)=some c1∧W.cell? (a.add 2)=some c2∧W.cell? (a.add 3)=some c3∧W.cell? (a.add 4)=some c4∧W.cell? (a.add 5)=some c5∧repVS Any W n [c0,c1,c2,c3,c4,c5] d∧okS 2000000 n d∧zS n d
def StmtsAtR (W:World) (n:Nat) (cs:List Value) (y:DataW H × List MemPlace):Prop:=∃ (ba:Option Addr) (bd:List (DataW Unit)) (bc:Nat),cs = [.slice ba bd.length bc]∧rowS Any W (repVS Any W n) ba bd∧bd.length≤2000000∧(∀ e∈bd,okS 2000000 n e)∧(∀ e∈bd,zS n e)∧NM y.2∧Rows.uptoBulk (.slice bd []:DataW Unit)≤Rows.uptoBulk y.1
set_option maxRecDepth 100000 in
theorem open_stmts:∀ (B:Nat),B≤2000000 → ∀ (fuel:Nat) (cs:List Value) (y:DataW H × List MemPlace),DataW.trod enc Tryz.prog W base sp held fuel 22 cs=some y→Rows.uptoBulk y.1≤B→StmtsAtR W B cs y
 | 0,_,_,_,y,_,hb=>by have:=bulk_pos y.1;omega
 | B+1,hB,fuel,cs,y,h,hb=>by
  rcases open_slice Tryz.underlying22 h with ⟨rfl,rfl⟩ | ⟨a,len,cap,m,n,D,Pl,rfl,_,hl,_,hmm,rfl,hx⟩
  ·exact ⟨none,[],0,rfl,fun h=>absurd h (by simp),by simp,fun e he=>by simp at he,fun e he=>by simp at he,nm_nil,by simp [Rows.uptoBulk,Rows.uptoBulkAll]⟩
  have hlm:len≤m:=by rw [hmm];split <;> omega
  obtain ⟨hn,hbi⟩:=bulk_slice hb
  rw [cellsStmtR] at hx
  have each:∀ i,i<m → ∃ d:DataW Unit,StmtAtR W (B+1) (a.add (i*6)) d∧NM (Pl i)∧Rows.uptoBulk d≤Rows.uptoBulk (D i):=by
   intro i hi
   obtain ⟨cs',h1,h2⟩:=hx i hi
   have hbd:=hbi i hi
   obtain ⟨_,hlen,hcell⟩:=World.cells?_some h1
   obtain ⟨y0,y1,y2,y3,y4,y5,k,hxy,_,g0,g1,g2,g3,g4,g5⟩:=trod_struct6 Tryz.underlying39 h2
   simp only [Prod.mk.injEq] at hxy
   rw [hxy.1] at hbd
   have hba:=bulk_agg hbd
   match cs',hlen with
   | [v0,v1,v2,v3,v4,v5],_ =>
    simp [cellsS9,cellsStrs,cellsExprsR,cellsStmtsR] at g0 g1 g2 g3 g4 g5
    obtain ⟨s0,q0,r0,_⟩:=DataW.trod_string Tryz.underlying9 g0
    obtain ⟨s1,q1,r1,_⟩:=DataW.trod_string Tryz.underlying9 g1
    obtain ⟨pa,pl,pc,q2,hN,hpl,hzn,hm2,hu2⟩:=open_names (B:=B) (by omega) g2 (by have:=hba y2.1 (by simp);omega)
    obtain ⟨la,el,lc,q3,hR,hel,hok,hzt,hm3,hu3⟩:=open_exprs B (by omega) _ _ _ g3 (hba y3.1 (by simp))
    obtain ⟨ba,bd,bc,q4,hR4,hbl4,hok4,hz4,hm4,hu4⟩:=open_stmts B (by omega) _ _ _ g4 (hba y4.1 (by simp))
    obtain ⟨ea,es,ec,q5,hR5,hbl5,hok5,hz5,hm5,hu5⟩:=open_stmts B (by omega) _ _ _ g5 (hba y5.1 (by simp))
    simp only [List.cons.injEq,and_true] at q0 q1 q2 q3 q4 q5
    subst q0 q1 q2 q3 q4 q5
    have b0:s0.size≤B:=bulk_str (H:=H) (by have:=hba y0.1 (by simp);rw [r0] at this;exact this)
    have b1:s1.size≤B:=bulk_str (H:=H) (by have:=hba y1.1 (by simp);rw [r1] at this;exact this)
    refine ⟨mkS s0 s1 pl el bd es,⟨_,_,_,_,_,_,by simpa using hcell 0 (by omega),by simpa using hcell 1 (by omega),by simpa using hcell 2 (by omega),by simpa using hcell 3 (by omega),by simpa using hcell 4 (by omega),by simpa using hcell 5 (by omega),⟨s0,s1,pl,el,bd,es,pa,la,ba,ea,pc,lc,bc,ec,rfl,rfl,hN,hR.imp (fun cs d h=>⟨B,h⟩),hR4,hR5⟩,⟨s0,s1,pl,el,bd,es,rfl,hpl,⟨hel,fun e he=>⟨B,hok e he⟩⟩,hbl4,hbl5,hok4,hok5⟩,⟨s0,s1,pl,el,bd,es,rfl,by unfold Fs;omega,by unfold Fs;omega,hzn,fun e he=>⟨B,hzt e he⟩,hz4,hz5⟩⟩,?_⟩
    refine ⟨?_,?_⟩
    ·rw [hxy.2,r0,r1]
     exact nm_app nm_nil (nm_app nm_nil (nm_app hm2 (nm_app hm3 (nm_app hm4 hm5))))
    ·rw [hxy.1,mkS,r0,r1]
     simp only [Rows.uptoBulk,Rows.uptoBulkAll] at hu2 hu3 hu4 hu5 ⊢
     omega
  obtain ⟨f,hf⟩:=@choose_lt (DataW Unit) ⟨.nil⟩ m _ each
  have hget:∀ (i:Nat) (e:DataW Unit),((List.range len).map f)[i]?=some e→i<len∧e=f i:=fun i e hi=>by
   have hil:=(List.getElem?_eq_some_iff.1 hi).1
   simp at hil
   rw [List.getElem?_map,List.getElem?_range hil] at hi
   exact ⟨hil,by simpa using hi.symm⟩
  refine ⟨some a,(List.range len).map f,cap,by simp,fun h0 => ?_,by simp;omega,fun e he => ?_,fun e he => ?_,nm_app (nm_row _ _) (nm_flat fun i hi=>(hf i hi).2.1),bulk_slice_le (fun i hi=>(hf i (by omega)).2.2)⟩
  ·simp at h0
   obtain ⟨c0,_,_,_,_,_,x0,_⟩:=(hf 0 (by omega)).1
   rw [Nat.zero_mul,add_add] at x0
   obtain ⟨b,o,rfl⟩:=addr_plain x0
   refine ⟨b,o,rfl,trivial,fun i e hi => ?_⟩
   obtain ⟨hil,rfl⟩:=hget i e hi
   obtain ⟨c0,c1,c2,c3,c4,c5,x0,x1,x2,x3,x4,x5,hr,_,_⟩:=(hf i (by omega)).1
   simp only [add_plain,Nat.add_zero] at x0 x1 x2 x3 x4 x5
   exact ⟨c0,c1,c2,c3,c4,c5,x0,x1,x2,x3,x4,x5,hr⟩
  ·obtain ⟨i,hi⟩:=List.getElem?_of_mem he
   obtain ⟨hil,rfl⟩:=hget i e hi
   obtain ⟨_,_,_,_,_,_,_,_,_,_,_,_,_,h1,_⟩:=(hf i (by omega)).1
   exact h1
  ·obtain ⟨i,hi⟩:=List.getElem?_of_mem he
   obtain ⟨hil,rfl⟩:=hget i e hi
   obtain ⟨_,_,_,_,_,_,_,_,_,_,_,_,_,_,h1⟩:=(hf i (by omega)).1
   exact h1
set_option maxRecDepth 100000 in
theorem open_prog {v:Value}{d:DataW H}{ps:List MemPlace}{r:Reach}{b0 B:Nat}(hB:B≤2000000) (hval:Value.okWide Tryz.prog W r b0 22 v) (h:DataW.Trod enc Tryz.prog W base sp held 22 v d ps) (hb:Rows.uptoBulk d≤B) :
  ∃ (ba:Option Addr) (ss:List (DataW Unit)) (bc:Nat),v = .slice ba ss.length bc∧RepVSL Any W ba ss∧OkSL 2000000 ss∧ZSL B ss∧NM ps∧Rows.uptoBulkAll ss≤B:=by
 obtain ⟨a,n,c,rfl⟩:=okWide_slice Tryz.underlying22 hval
 obtain ⟨fuel,hf⟩:=h
 simp only [Value.cells] at hf
 obtain ⟨ba,bd,bc,q,hR,hl,hok,hz,hm,hu⟩:=open_stmts B hB _ _ _ hf hb
 simp only [List.cons.injEq,and_true] at q
 exact ⟨ba,bd,bc,q,rowS.imp hR (fun cs d h=>⟨B,h⟩),⟨hl,fun e he=>⟨_,hok e he⟩⟩,hz,hm,by simp only [Rows.uptoBulk,Rows.uptoBulkAll] at hu;omega⟩
end
end Go.Proofs.YtemapnogjepokaaGreatDoor

/- What a row's list of variables gives a walk: the seven errors of package api, apart from each other, and the handle of the type error. -/
namespace Go.Proofs.YtemapnogjepokaaGreatDoor
open Go.RowKit

theorem laidVars_sub {P:Program}{w:World}{l l':List (String × DataW Unit)}(h:l'.Sublist l):∀ ps,DataW.LaidVars P w l ps → ∃ qs,DataW.LaidVars P w l' qs∧qs.Sublist ps:=by
 induction h with
 | slnil=>intro ps hp;exact ⟨ps,hp,List.Sublist.refl _⟩
 | cons x _ ih =>
  intro ps hp
  obtain ⟨n,d⟩:=x
  obtain ⟨g,t,cs,fuel,p,q,_,_,_,_,hq,rfl⟩:=hp
  obtain ⟨qs,h1,h2⟩:=ih q hq
  exact ⟨qs,h1,h2.trans (List.sublist_append_right _ _)⟩
 | cons_cons x _ ih =>
  intro ps hp
  obtain ⟨n,d⟩:=x
  obtain ⟨g,t,cs,fuel,p,q,e1,e2,e3,e4,hq,rfl⟩:=hp
  obtain ⟨qs,h1,h2⟩:=ih q hq
  exact ⟨_,⟨g,t,cs,fuel,p,qs,e1,e2,e3,e4,h1,rfl⟩,(List.Sublist.refl _).append h2⟩

theorem laidMet_sub {P:Program}{w:World}{l l':List (String × DataW Unit)}(h:l'.Sublist l) (hl:laidMet P l w):laidMet P l' w:=by
 obtain ⟨ps,h1,h2,h3⟩:=hl
 obtain ⟨qs,k1,k2⟩:=laidVars_sub h ps h1
 exact ⟨qs,k1,h2.sublist k2,fun b off hm=>h3 b off (k2.subset hm)⟩

theorem star : "*" ++ "errors.errorString" = "*errors.errorString" := by decide
theorem rowSp (u : TypeId) (h : Tryz.prog.typeName? 3 u = some "*errors.errorString") : u = 214 :=
 typeName_ptr_named (nm := "errors.errorString") (by rw [star]; kernel_rfl) (by kernel_rfl) (by decide) u (by rw [star]; exact h)
theorem cellsS:Tryz.prog.cellsOf 216=1:=by kernel_rfl
theorem cellsStr:Tryz.prog.cellsOf 9=1:=by kernel_rfl

def sentName:Nat→String
 | 0 => "nurserypy/api.ErrText"
 | 1 => "nurserypy/api.ErrBound"
 | _ => "nurserypy/api.ErrShape"
def sentGlobal:Nat→Nat
 | 0=>3
 | 1=>2
 | _=>1
def sentTail:Nat→List UInt8
 | 0 => [116,101,120,116]
 | 1 => [98,111,117,110,100]
 | _ => [115,104,97,112,101]
def sentText (i:Nat):ByteArray:=⟨([110,117,114,115,101,114,121,112,121,58,32]++sentTail i).toArray⟩
def sentLaid (i : Nat) : String × DataW Unit := (sentName i, .iface "*errors.errorString" (.ptr (.agg [.lit (.string ([110, 117, 114, 115, 101, 114, 121, 112, 121, 58, 32] ++ sentTail i))])))

theorem sent_named (i:Nat) (hi:i<3):Tryz.prog.globalNamed (sentName i)=some (sentGlobal i):=by
 iterate 3 (rcases i with _ | i;· kernel_rfl)
 omega
theorem sent_type (i:Nat) (hi:i<3):(Tryz.prog.globals[sentGlobal i]?).map (·.type)=some 27:=by
 iterate 3 (rcases i with _ | i;· kernel_rfl)
 omega

theorem sent_one {W:World}(i:Nat) (hi:i<3) (h:laidMet Tryz.prog [sentLaid i] W):∃ a:Addr,W.var? Tryz.prog (sentName i)=some #[.iface 214 (.pointer (some a))]∧W.cell? a=some (.string (sentText i)):=by
 obtain ⟨a,s,h1,h2,h3,_⟩:=laid_sentinel h (sent_named i hi) (sent_type i hi) Tryz.underlying27 rowSp Tryz.underlying214 Tryz.underlying216 rfl rfl Tryz.underlying9 cellsS cellsStr
 refine ⟨a,h1,?_⟩
 rw [h2]
 congr 2
 apply ByteArray.ext
 show s.data=_
 rw [←Array.toList_inj,h3]
 simp [sentText]

theorem sent_cell {W:World}(i:Nat) (hi:i<3) (a:Addr) (ha:W.var? Tryz.prog (sentName i)=some #[.iface 214 (.pointer (some a))]):W.cell? ⟨sentGlobal i,0,none⟩=some (.iface 214 (.pointer (some a))):=by
 simpa using World.var?_cell (sent_named i hi) ha 0

end Go.Proofs.YtemapnogjepokaaGreatDoor

/- What the row of TreeTwice lays: the table of powers of ten. -/
namespace Go.Proofs.YtemapnogjepokaaGreatDoor
open Go.RowKit

theorem twice_tab {W : World} {x y : String × DataW Unit} {r : List (String × DataW Unit)} (h : laidMet Tryz.prog (x :: y :: ("internal/strconv.uint64pow10", Lib.tabData .u64 Lib.pow10Tab) :: r) W) : Tabbed W :=
 Lib.tabIs_of_head (g:=6) (t:=204) (e:=149) (n:=20) (by kernel_rfl) (by kernel_rfl) Tryz.underlying204 Tryz.underlying149 (by kernel_rfl) (by kernel_rfl) (laidMet.tail (laidMet.tail h))
end Go.Proofs.YtemapnogjepokaaGreatDoor

/- What the row of ScopeCloses lays besides: the error of a name. -/
namespace Go.Proofs.YtemapnogjepokaaGreatDoor
open Go.RowKit

def nameLaid : String × DataW Unit := ("nurserypy/api.ErrName", .iface "*errors.errorString" (.ptr (.agg [.lit (.string [110, 117, 114, 115, 101, 114, 121, 112, 121, 58, 32, 110, 97, 109, 101])])))
theorem name_named : Tryz.prog.globalNamed "nurserypy/api.ErrName" = some 0 := by kernel_rfl
theorem name_type:(Tryz.prog.globals[0]?).map (·.type)=some 27:=by kernel_rfl
theorem name_cell {W:World}(h:laidMet Tryz.prog [nameLaid] W):∃ a:Addr,W.cell? ⟨0,0,none⟩=some (.iface 214 (.pointer (some a))):=by
 obtain ⟨a,s,h1,h2,h3,_⟩:=laid_sentinel h name_named name_type Tryz.underlying27 rowSp Tryz.underlying214 Tryz.underlying216 rfl rfl Tryz.underlying9 cellsS cellsStr
 exact ⟨a,by simpa using World.var?_cell name_named h1 0⟩
end Go.Proofs.YtemapnogjepokaaGreatDoor

/- What the list of variables of a law about package lex gives its walk. -/
namespace Go.Proofs.YtemapnogjepokaaGreatDoor
open Go.RowKit

def strTab {H:Type}(l:List (List UInt8)):DataW H:=.agg (l.map fun b=>.lit (.string b))

theorem cells_of_strs {H:Type}{enc:TypeId × Value→H}{P:Program}{w:World}{base:Nat}{sp:Nat→Bool}{held:Bool}{fuel:Nat}{t e:TypeId}{n:Nat}{cs:List Value}{l:List (List UInt8)}{p:List MemPlace}
  (ht:P.underlying t=some (.array n e)) (he:P.underlying e=some .string) (hce:P.cellsOf e=1) (hct:P.cellsOf t=n)
  (h:DataW.trod enc P w base sp held fuel t cs=some (strTab l,p)):cs=l.map fun b=>Value.string ⟨b.toArray⟩:=by
 cases fuel with
 | zero=>simp [DataW.trod] at h
 | succ fuel =>
  simp only [DataW.trod,ht,hce,hct,Nat.mul_one] at h
  split at h
  ·rename_i hl
   obtain ⟨xs,hm,hx⟩:=Option.map_eq_some_iff.1 h
   have hxs:xs.map (·.1)=l.map fun b=>(DataW.lit (.string b):DataW H):=by
    have:=congrArg Prod.fst hx
    simpa [strTab] using this
   have hxl:xs.length=n:=by simpa using Lib.mapM_length hm
   have hzl:l.length=n:=by
    have:=congrArg List.length hxs
    simp at this
    omega
   apply List.ext_getElem?
   intro i
   by_cases hi:i<n
   ·obtain ⟨b,hb,hf⟩:=Lib.mapM_at hm i i (by simp [hi])
    obtain ⟨z,hc,rfl,_⟩:=DataW.trod_string he hf
    have h1:cs[i]?=some (.string z):=by
     have:=congrArg (·[0]?) hc
     simpa [List.getElem?_take,List.getElem?_drop] using this
    have h2:(xs.map (·.1))[i]?=some (DataW.lit (.string z.data.toList):DataW H):=by simp [hb]
    rw [hxs] at h2
    simp only [List.getElem?_map,Option.map_eq_some_iff,DataW.lit.injEq,Lit.string.injEq] at h2
    obtain ⟨z',hz',e'⟩:=h2
    subst e'
    simp [h1,hz']
   ·rw [List.getElem?_eq_none (by omega),List.getElem?_eq_none (by simp;omega)]
  ·cases h

theorem heap_of_var {P:Program}{W:World}{name:String}{g:Nat}{cs:Array Value}(hg:P.globalNamed name=some g) (h:W.var? P name=some cs):∃ tt fr,W.heap[g]?=some (.cells cs tt fr):=by
 unfold World.var? at h
 rw [hg] at h
 simp only [Option.bind_some] at h
 split at h
 ·rename_i c tt fr he
  simp at h
  subst h
  exact ⟨tt,fr,he⟩
 ·cases h

theorem table_of_head {P:Program}{W:World}{name:String}{l:List (List UInt8)}{g:Nat}{t e:TypeId}{n:Nat}
  (hg:P.globalNamed name=some g) (hty:(P.globals[g]?).map (·.type)=some t) (ht:P.underlying t=some (.array n e)) (he:P.underlying e=some .string) (hce:P.cellsOf e=1) (hct:P.cellsOf t=n)
  (h:laidMet P [(name,strTab l)] W):∃ tt fr,W.heap[g]?=some (.cells (l.map fun b=>Value.string ⟨b.toArray⟩).toArray tt fr):=by
 obtain ⟨ps,⟨g',t',cs,fuel,p,q,hg',ht',hvar,hd,_,_⟩,_⟩:=h
 obtain rfl:=Option.some.inj (hg.symm.trans hg')
 obtain rfl:=Option.some.inj (hty.symm.trans ht')
 have:=cells_of_strs ht he hce hct hd
 have e:cs=(l.map fun b=>Value.string ⟨b.toArray⟩).toArray:=by rw [←this]
 rw [e] at hvar
 exact heap_of_var hg hvar

theorem wordsNamed : Tryz.prog.globalNamed "nurserypy/lex.words" = some 5 := by kernel_rfl
theorem wordsType:(Tryz.prog.globals[5]?).map (·.type)=some 178:=by kernel_rfl
theorem wordsCells:Tryz.prog.cellsOf 178=25:=by kernel_rfl
theorem opsNamed : Tryz.prog.globalNamed "nurserypy/lex.ops" = some 4 := by kernel_rfl
theorem opsType:(Tryz.prog.globals[4]?).map (·.type)=some 172:=by kernel_rfl
theorem opsCells:Tryz.prog.cellsOf 172=21:=by kernel_rfl
theorem rangeType:(Tryz.prog.globals[8]?).map (·.type)=some 27:=by kernel_rfl
theorem wordTab:(wordList.map fun b=>Value.string ⟨b.toArray⟩).toArray=wordCells:=by kernel_rfl
theorem opTab:(opList.map fun b=>Value.string ⟨b.toArray⟩).toArray=opCells:=by kernel_rfl

theorem lenv_of {W : World} {l : List (String × DataW Unit)} (hl : laidMet Tryz.prog l W) (h0 : [sentLaid 0].Sublist l) (h1 : [sentLaid 1].Sublist l) (hr : [("strconv.ErrRange", Rows.laid_strconv_ErrRange)].Sublist l)
  (hw : [("nurserypy/lex.words", Rows.laid_nurserypy_lex_words)].Sublist l) (ho : [("nurserypy/lex.ops", Rows.laid_nurserypy_lex_ops)].Sublist l) : ∃ a0 a1, LEnv W.heap.size a0 a1 W := by
 obtain ⟨a0,v0,_⟩:=sent_one 0 (by decide) (laidMet_sub h0 hl)
 obtain ⟨a1,v1,_⟩:=sent_one 1 (by decide) (laidMet_sub h1 hl)
 obtain ⟨ar,sr,vr,_⟩:=laid_sentinel (laidMet_sub hr hl) rangeNamed rangeType Tryz.underlying27 rowSp Tryz.underlying214 Tryz.underlying216 rfl rfl Tryz.underlying9 cellsS cellsStr
 obtain ⟨tw,fw,ew⟩:=table_of_head (l:=wordList) wordsNamed wordsType Tryz.underlying178 Tryz.underlying9 cellsStr wordsCells (laidMet_sub hw hl)
 obtain ⟨to_,fo,eo⟩:=table_of_head (l:=opList) opsNamed opsType Tryz.underlying172 Tryz.underlying9 cellsStr opsCells (laidMet_sub ho hl)
 rw [wordTab] at ew
 rw [opTab] at eo
 have c0:=sent_cell 0 (by decide) a0 v0
 have c1:=sent_cell 1 (by decide) a1 v1
 obtain ⟨tr,fr,er⟩:=heap_of_var rangeNamed vr
 exact ⟨a0,a1,⟨⟨c0,⟨tw,fw,ew⟩,⟨to_,fo,eo⟩,⟨_,_,vr⟩,lt_of_cell c0,lt_of_heap ew,lt_of_heap eo,lt_of_heap er⟩,c1,lt_of_cell c1⟩⟩
end Go.Proofs.YtemapnogjepokaaGreatDoor
