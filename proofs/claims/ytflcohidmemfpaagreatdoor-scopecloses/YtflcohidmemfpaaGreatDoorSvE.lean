/- What the row of TreeTwice lays: the table of powers of ten. -/
import Derived.Test.YtflcohidmemfpaaGreatDoorSsA
import Derived.Test.YtflcohidmemfpaaGreatDoorSvD
import Derived.Stop.LaidErr
import Derived.Lib.LaidTab
import Derived.Test.YtflcohidmemfpaaGreatDoorRows
import Derived.Test.YtflcohidmemfpaaGreatDoorSsT
import Derived.Test.YtflcohidmemfpaaGreatDoorSsQ
import Derived.SizedLaws
import Derived.Deep.Fields
import Derived.Deep.Strs
import Derived.ChangeSlices
import Derived.ChangeArms
import Derived.Lib.SmallJoins
set_option linter.all false
namespace Go.Proofs.YtflcohidmemfpaaGreatDoor
open Go.Proofs.Tryz
open Go.RowKit

theorem Zs2 {W : World} {x y : String × DataW Unit} {r : List (String × DataW Unit)} (h : laidMet prog (x :: y :: ("internal/strconv.uint64pow10", Lib.tabData .u64 Lib.pow10Tab) :: r) W) : Z9a W :=
 Lib.tabIs_of_head (g:=6) (t:=204) (e:=149) (n:=20) (by kernel_rfl) (by kernel_rfl) underlying204 underlying149 (by kernel_rfl) (by kernel_rfl) (laidMet.tail (laidMet.tail h))
end Go.Proofs.YtflcohidmemfpaaGreatDoor
namespace Go.Proofs.YtflcohidmemfpaaGreatDoor
open Go.Proofs.Tryz
open Go.RowKit Go.ChangeShapes Go.WideShapes Go.Deep Go.Joins

theorem Zj6:prog.cellsOf 9=1:=by kernel_rfl
theorem Zuz:prog.cellsOf 2=1:=by kernel_rfl
theorem Zg4:prog.cellsOf 32=1:=by kernel_rfl
theorem Zmj:prog.cellsOf 42=5:=by kernel_rfl
theorem Zo5:prog.cellsOf 39=6:=by kernel_rfl
theorem Ziy:prog.cellsOf 22=1:=by kernel_rfl
theorem Zzc:prog.bytesOf 39=128:=by kernel_rfl
theorem Zd1:prog.cellsOf 37=1:=by kernel_rfl
def NM (ps:List MemPlace):Prop:=∀ p∈ps,∀ bb,p ≠ .map bb
theorem Zai:NM []:=fun p hp=>by cases hp
theorem Z7e {a b:List MemPlace} (ha:NM a) (hb:NM b):NM (a++b):=fun p hp=>(List.mem_append.1 hp).elim (ha p) (hb p)
theorem Zse (a:Addr) (n:Nat):NM (MemPlace.row a n):=fun p hp bb e=>by
 obtain ⟨j,_,rfl⟩:=MemPlace.mem_row.1 hp
 cases e
theorem Zpt {n:Nat}{f:Nat→List MemPlace} (h:∀ i,i<n→NM (f i)):NM ((List.range n).flatMap f):=fun p hp bb e=>by
 obtain ⟨i,hi,h2⟩:=List.mem_flatMap.1 hp
 exact h i (List.mem_range.1 hi) p h2 bb e
theorem wf64 {n:Int} (h:(Lit.int .i64 n).wf=true):Fz n:=by
 simp only [Lit.wf,Bool.and_eq_true,decide_eq_true_eq] at h
 have e1:IntKind.i64.min = -9223372036854775808:=by decide
 have e2:IntKind.i64.max=9223372036854775807:=by decide
 unfold Fz
 omega
/-! Bulks. -/
theorem Zf8 {H:Type} (d:DataW H):1≤Rows.uptoBulk d:=by
 cases d with
 | lit l=>cases l <;> simp [Rows.uptoBulk]
 | _=>simp [Rows.uptoBulk]
theorem Zaw {H:Type}{d:DataW H} : ∀ {l:List (DataW H)},d∈l→Rows.uptoBulk d≤Rows.uptoBulkAll l
 | x::r,h=>by
  rw [Rows.uptoBulkAll]
  rcases List.mem_cons.1 h with rfl | h
  ·omega
  ·have:=Zaw h
   omega
theorem Zlr {H:Type} : ∀ l:List (DataW H),l.length≤Rows.uptoBulkAll l
 | []=>by simp
 | x::r=>by
  rw [Rows.uptoBulkAll,List.length_cons]
  have:=Zf8 x
  have:=Zlr r
  omega
theorem Ze0 {H:Type}{n m B:Nat}{D:Nat→DataW H} (h:Rows.uptoBulk (.slice ((List.range n).map D) ((List.range (m - n)).map fun j=>D (n+j)))≤B+1):n≤B ∧ ∀ i,i<m→Rows.uptoBulk (D i)≤B:=by
 rw [Rows.uptoBulk] at h
 have h1:=Zlr ((List.range n).map D)
 rw [List.length_map,List.length_range] at h1
 refine ⟨by omega,fun i hi => ?_⟩
 rcases Nat.lt_or_ge i n with hin | hin
 ·have:=Zaw (l:=(List.range n).map D) (List.mem_map.2 ⟨i,List.mem_range.2 hin,rfl⟩)
  omega
 ·have:=Zaw (l:=(List.range (m - n)).map fun j=>D (n+j)) (d:=D i) (List.mem_map.2 ⟨i - n,List.mem_range.2 (by omega),by rw [Nat.add_sub_cancel' hin]⟩)
  omega
theorem Zls {H:Type}{l:List (DataW H)}{B:Nat} (h:Rows.uptoBulk (.agg l)≤B):∀ d∈l,Rows.uptoBulk d≤B:=fun d hd=>by
 rw [Rows.uptoBulk] at h
 have:=Zaw hd
 omega
/-! Weights. -/
theorem Zzl:prog.bytesOf 9=16:=by kernel_rfl
theorem Y08:prog.bytesOf 42=88:=by kernel_rfl
theorem Zxf {H:Type}{P:Program}{e:TypeId}{R:Nat} : ∀ (l:List (DataW H)),(∀ n∈DataW.weightsAll P e l,n≤R) → ∀ d∈l,∀ n∈d.weights P e,n≤R
 | [],_,d,hd=>by cases hd
 | x::r,h,d,hd=>by
  rw [DataW.weightsAll] at h
  rcases List.mem_cons.1 hd with rfl | hd
  ·exact fun n hn=>h n (List.mem_append.2 (.inl hn))
  ·exact Zxf r (fun n hn=>h n (List.mem_append.2 (.inr hn))) d hd
theorem Zjq {H:Type}{P:Program}{t e:TypeId}{R n m:Nat}{D:Nat→DataW H} (ht:P.underlying t=some (.slice e)) (hnm:n≤m) (h:∀ k∈(DataW.slice ((List.range n).map D) ((List.range (m - n)).map fun j=>D (n+j))).weights P t,k≤R):m*P.bytesOf e≤R ∧ ∀ i,i<m → ∀ k∈(D i).weights P e,k≤R:=by
 simp only [DataW.weights,ht] at h
 have h1:=h _ (List.mem_cons_self)
 simp only [List.length_map,List.length_range] at h1
 rw [Nat.add_sub_cancel' hnm] at h1
 refine ⟨h1,fun i hi => ?_⟩
 rcases Nat.lt_or_ge i n with hin | hin
 ·exact Zxf _ (fun k hk=>h k (List.mem_cons_of_mem _ (List.mem_append.2 (.inl hk)))) _ (List.mem_map.2 ⟨i,List.mem_range.2 hin,rfl⟩)
 ·exact Zxf _ (fun k hk=>h k (List.mem_cons_of_mem _ (List.mem_append.2 (.inr hk)))) _ (List.mem_map.2 ⟨i - n,List.mem_range.2 (by omega),by rw [Nat.add_sub_cancel' hin]⟩)
theorem Z46 {H:Type}{P:Program}{t:TypeId}{fs:Array Field}{R:Nat}{parts:List (DataW H)} (ht:P.underlying t=some (.struct fs)) (h:∀ k∈(DataW.agg parts).weights P t,k≤R) {j:Nat}{u:TypeId}{d:DataW H} (hj:(fs.toList.map (·.type))[j]?=some u) (hd:parts[j]?=some d):∀ k∈d.weights P u,k≤R:=fun k hk=>h k (by
 simp only [DataW.weights,ht]
 exact DataW.weights_mem_each hj hd k hk)
theorem Zre {H:Type}{P:Program}{t:TypeId}{R:Nat}{s:ByteArray} (h:∀ k∈(DataW.lit (.string s.data.toList):DataW H).weights P t,k≤R):s.size≤R:=by
 have h1:=h s.data.toList.length (by simp [DataW.weights])
 have e:s.data.toList.length=s.size:=by rw [Array.length_toList];rfl
 omega
theorem Z5a {x:Nat} (h:x≤reachBytes):x≤140737488351232:=h
theorem Z9z {W:World}{a:Addr}{v:Value} (h:W.cell? (a.add 0)=some v):∃ b o,a=⟨b,o,none⟩:=by
 obtain ⟨b,o,spot⟩:=a
 have hspot:spot=none:=by simpa [Addr.add] using World.cell?_spot h
 subst hspot
 exact ⟨b,o,rfl⟩
abbrev Any:Nat→Prop:=fun _=>True
section
variable {H:Type}{enc:TypeId × Value→H}{W:World}{base:Nat}{sp:Nat→Bool}{held:Bool}{fuel:Nat}
theorem Zhf {P:Program}{t:TypeId}{f0 f1 f2 f3 f4:Field}{cs:List Value}{x:DataW H × List MemPlace} (ht:P.underlying t=some (.struct #[f0,f1,f2,f3,f4])) (h:DataW.trod enc P W base sp held fuel t cs=some x) :
  ∃ y0 y1 y2 y3 y4 n,x=(.agg [y0.1,y1.1,y2.1,y3.1,y4.1],y0.2++(y1.2++(y2.2++(y3.2++y4.2))))∧cs.length=P.cellsOf t∧DataW.trod enc P W base sp held n f0.type ((cs.drop f0.offset).take (P.cellsOf f0.type))=some y0 ∧
   DataW.trod enc P W base sp held n f1.type ((cs.drop f1.offset).take (P.cellsOf f1.type))=some y1∧DataW.trod enc P W base sp held n f2.type ((cs.drop f2.offset).take (P.cellsOf f2.type))=some y2 ∧
   DataW.trod enc P W base sp held n f3.type ((cs.drop f3.offset).take (P.cellsOf f3.type))=some y3∧DataW.trod enc P W base sp held n f4.type ((cs.drop f4.offset).take (P.cellsOf f4.type))=some y4:=by
 obtain ⟨xs,n,_,rfl,hl,hlen,hf⟩:=DataW.trod_struct ht h
 match xs,hlen with
 | [y0,y1,y2,y3,y4],_=>exact ⟨y0,y1,y2,y3,y4,n,by simp,hl,by simpa using hf 0 f0 rfl,by simpa using hf 1 f1 rfl,by simpa using hf 2 f2 rfl,by simpa using hf 3 f3 rfl,by simpa using hf 4 f4 rfl⟩
theorem Zhg {P:Program}{t:TypeId}{f0 f1 f2 f3 f4 f5:Field}{cs:List Value}{x:DataW H × List MemPlace} (ht:P.underlying t=some (.struct #[f0,f1,f2,f3,f4,f5])) (h:DataW.trod enc P W base sp held fuel t cs=some x) :
  ∃ y0 y1 y2 y3 y4 y5 n,x=(.agg [y0.1,y1.1,y2.1,y3.1,y4.1,y5.1],y0.2++(y1.2++(y2.2++(y3.2++(y4.2++y5.2)))))∧cs.length=P.cellsOf t∧DataW.trod enc P W base sp held n f0.type ((cs.drop f0.offset).take (P.cellsOf f0.type))=some y0 ∧
   DataW.trod enc P W base sp held n f1.type ((cs.drop f1.offset).take (P.cellsOf f1.type))=some y1∧DataW.trod enc P W base sp held n f2.type ((cs.drop f2.offset).take (P.cellsOf f2.type))=some y2 ∧
   DataW.trod enc P W base sp held n f3.type ((cs.drop f3.offset).take (P.cellsOf f3.type))=some y3∧DataW.trod enc P W base sp held n f4.type ((cs.drop f4.offset).take (P.cellsOf f4.type))=some y4 ∧
   DataW.trod enc P W base sp held n f5.type ((cs.drop f5.offset).take (P.cellsOf f5.type))=some y5:=by
 obtain ⟨xs,n,_,rfl,hl,hlen,hf⟩:=DataW.trod_struct ht h
 match xs,hlen with
 | [y0,y1,y2,y3,y4,y5],_=>exact ⟨y0,y1,y2,y3,y4,y5,n,by simp,hl,by simpa using hf 0 f0 rfl,by simpa using hf 1 f1 rfl,by simpa using hf 2 f2 rfl,by simpa using hf 3 f3 rfl,by simpa using hf 4 f4 rfl,by simpa using hf 5 f5 rfl⟩
set_option maxRecDepth 100000 in
theorem Zdx {cs:List Value}{y:DataW H × List MemPlace} (h:DataW.trod enc prog W base sp held fuel 32 cs=some y) (hw:∀ k∈y.1.weights prog 32,k≤reachBytes) :
  ∃ (pa:Option Addr) (pl:List ByteArray) (pc:Nat),cs = [.slice pa pl.length pc]∧Z54 Any W pa pl∧pl.length≤8796093022208∧ZNL pl∧NM y.2:=by
 rcases open_strs underlying32 underlying9 Zj6 h with ⟨rfl,rfl⟩ | ⟨a,len,cap,m,Sx,rfl,_,hl,_,hmm,rfl,hx⟩
 ·exact ⟨none,[],0,rfl,fun h=>absurd h (by simp),by simp,ZNL.nil,Zai⟩
 have hlm:len≤m:=by rw [hmm];split <;> omega
 obtain ⟨hn,hwi⟩:=Zjq (D:=fun i=>.lit (.string (Sx i).data.toList)) underlying32 hlm hw
 rw [Zzl] at hn
 have hn:=Z5a hn
 refine ⟨some a,(List.range len).map Sx,cap,by simp,fun h0 => ?_,by simp;omega,fun x hx2 => ?_,Zse _ _⟩
 ·simp at h0
  obtain ⟨b,o,rfl⟩:=Z9z (hx 0 (by omega)).1
  refine ⟨b,o,rfl,trivial,fun j t hj => ?_⟩
  have hjl:=(List.getElem?_eq_some_iff.1 hj).1
  simp at hjl
  have c0:=(hx j (by omega)).1
  rw [add_plain] at c0
  have e:t=Sx j:=by
   rw [List.getElem?_map,List.getElem?_range hjl] at hj
   simpa using hj.symm
  rw [e]
  exact c0
 ·obtain ⟨i,hi,rfl⟩:=List.mem_map.1 hx2
  have:=Z5a (Zre (hwi i (by have:=List.mem_range.1 hi;omega)))
  unfold Fs
  omega
def Zzd (W:World) (n:Nat) (a:Addr) (d:DataW Unit):Prop:=∃ c0 c1 c2 c3 c4,W.cell? (a.add 0)=some c0∧W.cell? (a.add 1)=some c1∧W.cell? (a.add 2)=some c2∧W.cell? (a.add 3)=some c3∧W.cell? (a.add 4)=some c4∧Zfj Any W n [c0,c1,c2,c3,c4] d∧bT n d∧zT n d
def Zwp (W:World) (n:Nat) (cs:List Value) (y:DataW H × List MemPlace):Prop:=∃ (la:Option Addr) (el:List (DataW Unit)) (lc:Nat),cs = [.slice la el.length lc]∧Z9m Any W (Zfj Any W n) la el∧el.length≤1599289640401∧(∀ e∈el,bT n e)∧(∀ e∈el,zT n e)∧NM y.2
set_option maxRecDepth 100000 in
theorem Zei:∀ (B:Nat) (fuel:Nat) (cs:List Value) (y:DataW H × List MemPlace),DataW.trod enc prog W base sp held fuel 37 cs=some y→Rows.uptoBulk y.1≤B→(∀ k∈y.1.weights prog 37,k≤reachBytes)→Zwp W B cs y
 | 0,_,_,y,_,hb,_=>by have:=Zf8 y.1;omega
 | B+1,fuel,cs,y,h,hb,hw=>by
  rcases open_slice underlying37 h with ⟨rfl,rfl⟩ | ⟨a,len,cap,m,n,D,Pl,rfl,_,hl,_,hmm,rfl,hx⟩
  ·exact ⟨none,[],0,rfl,fun h=>absurd h (by simp),by simp,fun e he=>by simp at he,fun e he=>by simp at he,Zai⟩
  have hlm:len≤m:=by rw [hmm];split <;> omega
  obtain ⟨_,hbi⟩:=Ze0 hb
  obtain ⟨hn,hwi⟩:=Zjq underlying37 hlm hw
  rw [Y08] at hn
  have hn:=Z5a hn
  rw [Zmj] at hx
  have each:∀ i,i<m → ∃ d:DataW Unit,Zzd W (B+1) (a.add (i*5)) d∧NM (Pl i):=by
   intro i hi
   obtain ⟨cs',h1,h2⟩:=hx i hi
   have hbd:=hbi i hi
   have hwd:=hwi i hi
   obtain ⟨_,hlen,hcell⟩:=World.cells?_some h1
   obtain ⟨y0,y1,y2,y3,y4,k,hxy,_,g0,g1,g2,g3,g4⟩:=Zhf underlying42 h2
   simp only [Prod.mk.injEq] at hxy
   rw [hxy.1] at hbd hwd
   have hba:=Zls hbd
   match cs',hlen with
   | [v0,v1,v2,v3,v4],_ =>
    simp [Zj6,Zuz,Zg4,Zd1] at g0 g1 g2 g3 g4
    obtain ⟨s0,q0,r0,_⟩:=DataW.trod_string underlying9 g0
    obtain ⟨z1,q1,r1,w1⟩:=DataW.trod_int underlying2 g1
    obtain ⟨s2,q2,r2,_⟩:=DataW.trod_string underlying9 g2
    obtain ⟨pa,pl,pc,q3,hN,hpl,hzn,hm3⟩:=Zdx g3 (Z46 underlying42 hwd (j:=3) rfl rfl)
    obtain ⟨la,el,lc,q4,hR,hel,hok,hzt,hm4⟩:=Zei B _ _ _ g4 (hba y4.1 (by simp)) (Z46 underlying42 hwd (j:=4) rfl rfl)
    simp only [List.cons.injEq,and_true] at q0 q1 q2 q3 q4
    subst q0 q1 q2 q3 q4
    have b0:=Z5a (Zre (H:=H) (by have:=Z46 underlying42 hwd (j:=0) rfl rfl;rw [r0] at this;exact this))
    have b2:=Z5a (Zre (H:=H) (by have:=Z46 underlying42 hwd (j:=2) rfl rfl;rw [r2] at this;exact this))
    refine ⟨mkE s0 z1 s2 pl el,⟨_,_,_,_,_,by simpa using hcell 0 (by omega),by simpa using hcell 1 (by omega),by simpa using hcell 2 (by omega),by simpa using hcell 3 (by omega),by simpa using hcell 4 (by omega),⟨s0,s2,z1,pl,el,pa,la,pc,lc,rfl,rfl,hN,hR⟩,⟨s0,z1,s2,pl,el,rfl,hpl,hel,hok⟩,⟨s0,z1,s2,pl,el,rfl,by unfold Fs;omega,by unfold Fs;omega,wf64 w1,hzn,hzt⟩⟩,?_⟩
    rw [hxy.2,r0,r1,r2]
    exact Z7e Zai (Z7e Zai (Z7e Zai (Z7e hm3 hm4)))
  obtain ⟨f,hf⟩:=@choose_lt (DataW Unit) ⟨.nil⟩ m _ each
  have hget:∀ (i:Nat) (e:DataW Unit),((List.range len).map f)[i]?=some e→i<len∧e=f i:=fun i e hi=>by
   have hil:=(List.getElem?_eq_some_iff.1 hi).1
   simp at hil
   rw [List.getElem?_map,List.getElem?_range hil] at hi
   exact ⟨hil,by simpa using hi.symm⟩
  refine ⟨some a,(List.range len).map f,cap,by simp,fun h0 => ?_,by simp;omega,fun e he => ?_,fun e he => ?_,Z7e (Zse _ _) (Zpt fun i hi=>(hf i hi).2)⟩
  ·simp at h0
   obtain ⟨c0,_,_,_,_,x0,_⟩:=(hf 0 (by omega)).1
   rw [Nat.zero_mul,add_add] at x0
   obtain ⟨b,o,rfl⟩:=Z9z x0
   refine ⟨b,o,rfl,trivial,fun i e hi => ?_⟩
   obtain ⟨hil,rfl⟩:=hget i e hi
   obtain ⟨c0,c1,c2,c3,c4,x0,x1,x2,x3,x4,hr,_,_⟩:=(hf i (by omega)).1
   simp only [add_plain,Nat.add_zero] at x0 x1 x2 x3 x4
   exact ⟨c0,c1,c2,c3,c4,x0,x1,x2,x3,x4,hr⟩
  ·obtain ⟨i,hi⟩:=List.getElem?_of_mem he
   obtain ⟨hil,rfl⟩:=hget i e hi
   obtain ⟨_,_,_,_,_,_,_,_,_,_,_,h1,_⟩:=(hf i (by omega)).1
   exact h1
  ·obtain ⟨i,hi⟩:=List.getElem?_of_mem he
   obtain ⟨hil,rfl⟩:=hget i e hi
   obtain ⟨_,_,_,_,_,_,_,_,_,_,_,_,h1⟩:=(hf i (by omega)).1
   exact h1
def Zwy (W:World) (n:Nat) (a:Addr) (d:DataW Unit):Prop:=∃ c0 c1 c2 c3 c4 c5,W.cell? (a.add 0)=some c0∧W.cell? (a.add 1)=some c1∧W.cell? (a.add 2)=some c2∧W.cell? (a.add 3)=some c3∧W.cell? (a.add 4)=some c4∧W.cell? (a.add 5)=some c5∧Z6p Any W n [c0,c1,c2,c3,c4,c5] d∧bS n d∧zS n d
def Zuf (W:World) (n:Nat) (cs:List Value) (y:DataW H × List MemPlace):Prop:=∃ (ba:Option Addr) (bd:List (DataW Unit)) (bc:Nat),cs = [.slice ba bd.length bc]∧Z5y Any W (Z6p Any W n) ba bd∧bd.length≤1099511627776∧(∀ e∈bd,bS n e)∧(∀ e∈bd,zS n e)∧NM y.2
set_option maxRecDepth 100000 in
theorem Z9n:∀ (B:Nat) (fuel:Nat) (cs:List Value) (y:DataW H × List MemPlace),DataW.trod enc prog W base sp held fuel 22 cs=some y→Rows.uptoBulk y.1≤B→(∀ k∈y.1.weights prog 22,k≤reachBytes)→Zuf W B cs y
 | 0,_,_,y,_,hb,_=>by have:=Zf8 y.1;omega
 | B+1,fuel,cs,y,h,hb,hw=>by
  rcases open_slice underlying22 h with ⟨rfl,rfl⟩ | ⟨a,len,cap,m,n,D,Pl,rfl,_,hl,_,hmm,rfl,hx⟩
  ·exact ⟨none,[],0,rfl,fun h=>absurd h (by simp),by simp,fun e he=>by simp at he,fun e he=>by simp at he,Zai⟩
  have hlm:len≤m:=by rw [hmm];split <;> omega
  obtain ⟨_,hbi⟩:=Ze0 hb
  obtain ⟨hn,hwi⟩:=Zjq underlying22 hlm hw
  rw [Zzc] at hn
  have hn:=Z5a hn
  rw [Zo5] at hx
  have each:∀ i,i<m → ∃ d:DataW Unit,Zwy W (B+1) (a.add (i*6)) d∧NM (Pl i):=by
   intro i hi
   obtain ⟨cs',h1,h2⟩:=hx i hi
   have hbd:=hbi i hi
   have hwd:=hwi i hi
   obtain ⟨_,hlen,hcell⟩:=World.cells?_some h1
   obtain ⟨y0,y1,y2,y3,y4,y5,k,hxy,_,g0,g1,g2,g3,g4,g5⟩:=Zhg underlying39 h2
   simp only [Prod.mk.injEq] at hxy
   rw [hxy.1] at hbd hwd
   have hba:=Zls hbd
   match cs',hlen with
   | [v0,v1,v2,v3,v4,v5],_ =>
    simp [Zj6,Zg4,Zd1,Ziy] at g0 g1 g2 g3 g4 g5
    obtain ⟨s0,q0,r0,_⟩:=DataW.trod_string underlying9 g0
    obtain ⟨s1,q1,r1,_⟩:=DataW.trod_string underlying9 g1
    obtain ⟨pa,pl,pc,q2,hN,hpl,hzn,hm2⟩:=Zdx g2 (Z46 underlying39 hwd (j:=2) rfl rfl)
    obtain ⟨la,el,lc,q3,hR,hel,hok,hzt,hm3⟩:=Zei B _ _ _ g3 (hba y3.1 (by simp)) (Z46 underlying39 hwd (j:=3) rfl rfl)
    obtain ⟨ba,bd,bc,q4,hR4,hbl4,hok4,hz4,hm4⟩:=Z9n B _ _ _ g4 (hba y4.1 (by simp)) (Z46 underlying39 hwd (j:=4) rfl rfl)
    obtain ⟨ea,es,ec,q5,hR5,hbl5,hok5,hz5,hm5⟩:=Z9n B _ _ _ g5 (hba y5.1 (by simp)) (Z46 underlying39 hwd (j:=5) rfl rfl)
    simp only [List.cons.injEq,and_true] at q0 q1 q2 q3 q4 q5
    subst q0 q1 q2 q3 q4 q5
    have b0:=Z5a (Zre (H:=H) (by have:=Z46 underlying39 hwd (j:=0) rfl rfl;rw [r0] at this;exact this))
    have b1:=Z5a (Zre (H:=H) (by have:=Z46 underlying39 hwd (j:=1) rfl rfl;rw [r1] at this;exact this))
    refine ⟨mkS s0 s1 pl el bd es,⟨_,_,_,_,_,_,by simpa using hcell 0 (by omega),by simpa using hcell 1 (by omega),by simpa using hcell 2 (by omega),by simpa using hcell 3 (by omega),by simpa using hcell 4 (by omega),by simpa using hcell 5 (by omega),⟨s0,s1,pl,el,bd,es,pa,la,ba,ea,pc,lc,bc,ec,rfl,rfl,hN,hR.imp (fun cs d h=>⟨B,h⟩),hR4,hR5⟩,⟨s0,s1,pl,el,bd,es,rfl,hpl,⟨hel,fun e he=>⟨B,hok e he⟩⟩,hbl4,hbl5,hok4,hok5⟩,⟨s0,s1,pl,el,bd,es,rfl,by unfold Fs;omega,by unfold Fs;omega,hzn,fun e he=>⟨B,hzt e he⟩,hz4,hz5⟩⟩,?_⟩
    rw [hxy.2,r0,r1]
    exact Z7e Zai (Z7e Zai (Z7e hm2 (Z7e hm3 (Z7e hm4 hm5))))
  obtain ⟨f,hf⟩:=@choose_lt (DataW Unit) ⟨.nil⟩ m _ each
  have hget:∀ (i:Nat) (e:DataW Unit),((List.range len).map f)[i]?=some e→i<len∧e=f i:=fun i e hi=>by
   have hil:=(List.getElem?_eq_some_iff.1 hi).1
   simp at hil
   rw [List.getElem?_map,List.getElem?_range hil] at hi
   exact ⟨hil,by simpa using hi.symm⟩
  refine ⟨some a,(List.range len).map f,cap,by simp,fun h0 => ?_,by simp;omega,fun e he => ?_,fun e he => ?_,Z7e (Zse _ _) (Zpt fun i hi=>(hf i hi).2)⟩
  ·simp at h0
   obtain ⟨c0,_,_,_,_,_,x0,_⟩:=(hf 0 (by omega)).1
   rw [Nat.zero_mul,add_add] at x0
   obtain ⟨b,o,rfl⟩:=Z9z x0
   refine ⟨b,o,rfl,trivial,fun i e hi => ?_⟩
   obtain ⟨hil,rfl⟩:=hget i e hi
   obtain ⟨c0,c1,c2,c3,c4,c5,x0,x1,x2,x3,x4,x5,hr,_,_⟩:=(hf i (by omega)).1
   simp only [add_plain,Nat.add_zero] at x0 x1 x2 x3 x4 x5
   exact ⟨c0,c1,c2,c3,c4,c5,x0,x1,x2,x3,x4,x5,hr⟩
  ·obtain ⟨i,hi⟩:=List.getElem?_of_mem he
   obtain ⟨hil,rfl⟩:=hget i e hi
   obtain ⟨_,_,_,_,_,_,_,_,_,_,_,_,_,h1,_⟩:=(hf i (by omega)).1
   exact h1
  ·obtain ⟨i,hi⟩:=List.getElem?_of_mem he
   obtain ⟨hil,rfl⟩:=hget i e hi
   obtain ⟨_,_,_,_,_,_,_,_,_,_,_,_,_,_,h1⟩:=(hf i (by omega)).1
   exact h1
set_option maxRecDepth 100000 in
theorem Zoh {v:Value}{d:DataW H}{ps:List MemPlace}{r:Reach}{b0:Nat} (hval:Value.okWide prog W r b0 22 v) (h:DataW.Trod enc prog W base sp held 22 v d ps) (hw:∀ k∈d.weights prog 22,k≤reachBytes) :
  ∃ (ba:Option Addr) (ss:List (DataW Unit)) (bc B:Nat),v = .slice ba ss.length bc∧Z31 Any W ba ss∧BSL ss∧ZSL B ss∧NM ps:=by
 obtain ⟨a,n,c,rfl⟩:=okWide_slice underlying22 hval
 obtain ⟨fuel,hf⟩:=h
 simp only [Value.cells] at hf
 obtain ⟨B,hB⟩:∃ B,B=Rows.uptoBulk d:=⟨_,rfl⟩
 obtain ⟨ba,bd,bc,q,hR,hl,hok,hz,hm⟩:=Z9n B _ _ _ hf (Nat.le_of_eq hB.symm) hw
 simp only [List.cons.injEq,and_true] at q
 exact ⟨ba,bd,bc,B,q,Z5y.imp hR (fun cs d h=>⟨B,h⟩),⟨hl,fun e he=>⟨_,hok e he⟩⟩,hz,hm⟩
end
end Go.Proofs.YtflcohidmemfpaaGreatDoor
