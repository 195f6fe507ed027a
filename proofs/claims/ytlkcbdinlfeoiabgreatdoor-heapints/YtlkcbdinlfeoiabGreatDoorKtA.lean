/- The document's model in memory: cells and nodes; nodeAt, meet, by contracts. -/
import Derived.Test.YtlkcbdinlfeoiabGreatDoorKnAG
import Derived.Test.YtlkcbdinlfeoiabGreatDoorMemD
import Derived.Test.YtlkcbdinlfeoiabGreatDoorKnAD
import Derived.LaidEqlPtr
import Derived.Test.YtlkcbdinlfeoiabGreatDoorKnAP
import Derived.Test.YtlkcbdinlfeoiabGreatDoorKsA
import Derived.Test.YtlkcbdinlfeoiabGreatDoorKnAE
import Derived.Test.YtlkcbdinlfeoiabGreatDoorKrA
import Derived.Test.YtlkcbdinlfeoiabGreatDoorKrC
namespace Go.Proofs.YtlkcbdinlfeoiabGreatDoor
open Go.RowKit

def pfC (ν:Nat→Nat) (c:CL):Option Addr:=if c.kind=4 then some ⟨ν c.ref,0,none⟩ else none
def cellV (ν:Nat→Nat) (c:CL):List Value:=[.int .i64 (c.kind:Int),.int .i64 c.n,.pointer (pfC ν c)]
def cellsV (ν:Nat→Nat) (l:List CL):List Value:=l.flatMap (cellV ν)
def ptrsV (ν:Nat→Nat) (out:List Nat):List Value:=out.map fun i=>.pointer (some ⟨ν i,0,none⟩)
theorem cellsV_len (ν:Nat→Nat):∀ l:List CL,(cellsV ν l).length=l.length*3
 | []=>rfl
 | c::l=>by
  show (cellV ν c++cellsV ν l).length=_
  rw [List.length_append,cellsV_len ν l]
  simp [cellV]
  omega
theorem cellsV_at (ν:Nat→Nat):∀ {l:List CL}{k:Nat}{c:CL},l[k]?=some c → ∀ o,o<3→(cellsV ν l)[k*3+o]?=(cellV ν c)[o]?
 | [],_,_,h,_,_=>by cases h
 | x::l,0,c,h,o,ho=>by
  cases h
  show (cellV ν x++cellsV ν l)[0*3+o]?=_
  rw [Nat.zero_mul,Nat.zero_add,List.getElem?_append_left ho]
 | x::l,k+1,c,h,o,ho=>by
  show (cellV ν x++cellsV ν l)[(k+1)*3+o]?=_
  rw [List.getElem?_append_right (by show 3≤_;omega)]
  show (cellsV ν l)[(k+1)*3+o - 3]?=_
  rw [show (k+1)*3+o - 3=k*3+o by omega]
  exact cellsV_at ν (l:=l) h o ho
theorem ptrs_at {ν:Nat→Nat}{out:List Nat}{k f:Nat} (h:out[k]?=some f):(ptrsV ν out)[k]?=some (.pointer (some ⟨ν f,0,none⟩)):=by
 unfold ptrsV
 rw [List.getElem?_map,h]
 rfl
theorem infoCellT:∃ i0,Tryz.prog.info? 75=some i0∧i0.zero=some (.agg #[.int .i64 0,.int .i64 0,.pointer none])∧i0.size=3∧i0.bytes=24:=info_parts (by kernel_rfl)
theorem make_cellsT (n:Nat) (hn:n≤5000) (w:World) :
  (Instr.makeSlice 69 (.int .i64 (n:Int)) (.int .i64 (n:Int))).run Tryz.prog w = .ok (.slice (some ⟨w.heap.size,0,none⟩) n n) (w.alloc (.cells (madeCells #[.int .i64 0,.int .i64 0,.pointer none] (n*3)) 75)):=by
 obtain ⟨i,hi,hz,h1,h8⟩:=infoCellT
 have h:=run_make (P:=Tryz.prog) w 69 75 i (.agg #[.int .i64 0,.int .i64 0,.pointer none]) Tryz.underlying69 hi hz .i64 .i64 (n:Int) (n:Int) (by omega) (by omega) (by rw [h8];omega) (by omega)
 rw [h,h1]
 rfl
theorem made3T {z0 z1 z2:Value}{n k:Nat} (i:Nat) (hi:i<3) (hk:k<n):(madeCells #[z0,z1,z2] (n*3))[k*3+i]?=some (#[z0,z1,z2][i]!):=by
 unfold madeCells
 have h:k*3+i<n*3:=by omega
 have e:(k*3+i) % 3=i:=by omega
 rw [Array.getElem?_map,Array.getElem?_eq_getElem (by simpa using h),Array.getElem_range]
 show some (#[z0,z1,z2][(k*3+i) % 3]!)=_
 rw [e]
theorem made_rep (n:Nat):madeCells #[Value.int .i64 0,.int .i64 0,.pointer none] (n*3)=(cellsV (fun i=>i) (List.replicate n ⟨0,0,0⟩)).toArray:=by
 apply Array.ext_getElem?
 intro j
 have e:((cellsV (fun i=>i) (List.replicate n ⟨0,0,0⟩)).toArray)[j]?=(cellsV (fun i=>i) (List.replicate n ⟨0,0,0⟩))[j]?:=by rw [List.getElem?_toArray]
 rw [e]
 by_cases hj:j<n*3
 ·obtain ⟨k,i,rfl,hi⟩:∃ k i,j=k*3+i∧i<3:=⟨j / 3,j % 3,by omega,Nat.mod_lt _ (by decide)⟩
  have hk:k<n:=by omega
  rw [made3T i hi hk,cellsV_at (fun i=>i) (c:=⟨0,0,0⟩) (by rw [List.getElem?_replicate,if_pos hk]) i hi]
  rcases (by omega:i=0∨i=1∨i=2) with rfl | rfl | rfl <;> rfl
 ·rw [Array.getElem?_eq_none (by simp [madeCells];omega),List.getElem?_eq_none (by rw [cellsV_len];simp;omega)]
theorem alloc2_newT (w:World) (x y:Obj):((w.alloc x).alloc y).heap[w.heap.size+1]?=some y:=by
 have h:=heap_alloc_new (w.alloc x) y
 rw [show (w.alloc x).heap.size=w.heap.size+1 by simp] at h
 exact h
theorem infoNodep:∃ i0,Tryz.prog.info? 73=some i0∧i0.zero=some (.pointer none)∧i0.size=1∧i0.bytes=8:=info_parts (by kernel_rfl)
theorem infoNode:(Tryz.prog.info? 78).map (fun j=>decide (j.size=0))=some false:=by kernel_rfl
theorem node_same (a:Addr) (w:World):(binOp .eql 73 (.pointer (some a)) (.pointer (some a))).run Tryz.prog w = .ok (.bool true) w:=by
 obtain ⟨j,hj,_⟩:=Option.map_eq_some_iff.1 infoNode
 exact run_eql_ptr_same (P:=Tryz.prog) w a Tryz.underlying73 hj
theorem node_other {a b:Nat}{ca cb:Array Value}{w:World} (h:a≠b) (ha:w.heap[a]?=some (.cells ca 78)) (hb:w.heap[b]?=some (.cells cb 78)):(binOp .eql 73 (.pointer (some ⟨a,0,none⟩)) (.pointer (some ⟨b,0,none⟩))).run Tryz.prog w = .ok (.bool false) w:=by
 obtain ⟨j,hj,hz⟩:=Option.map_eq_some_iff.1 infoNode
 exact run_eql_ptr_other (P:=Tryz.prog) w Tryz.underlying73 hj (of_decide_eq_false hz) (fun e=>h (by cases e;rfl)) ha hb
def NodesAt (ν:Nat→Nat) (S:Nat→Prop) (w:World):Prop:=∀ i,S i → ∃ ca:Array Value,w.heap[ν i]?=some (.cells ca 78)
theorem NodesAt.below {ν:Nat→Nat}{S:Nat→Prop}{w w':World} (h:NodesAt ν S w) (hb:Below w.heap.size w w'):NodesAt ν S w':=fun i hi=>by
 obtain ⟨ca,e⟩:=h i hi
 exact ⟨ca,(hb.block _ (lt_of_heap e)).trans e⟩
set_option maxHeartbeats 2000000 in
set_option maxRecDepth 100000 in
theorem nodeAt_any (ν:Nat→Nat) (out:List Nat) (c:Nat) (hn:out.length≤300000) (hinj:∀ i∈out,ν i=ν c→i=c) (oo:Option Addr) (oc:Nat) (w:World) (hR:RowV w (.slice oo out.length oc) out.length (ptrsV ν out)) (hN:NodesAt ν (fun i=>i∈out∨i=c) w) :
  Calls Tryz.prog 73 #[.slice oo out.length oc,.pointer (some ⟨ν c,0,none⟩)] w fun ev w'=>ev = .returned (.int .i64 (objI out (c:Int)))∧w'=w:=by
 have HR:=toHid hR
 have HJ:=toHid hinj
 have HNN:=toHid hN
 clear hR hinj hN
 go_enter Tryz.func73,Tryz.ntmps73
 go_wp2_with fail
 go_loopg [5] (out.length+1) (fun gk v5 wr => ∃ k:Nat,gk=out.length+1 - k∧k≤out.length∧v5 = .int .i64 (k:Int)∧wr=w∧Hid (∀ i g:Nat,i<k→out[i]?=some g→(g:Int)≠(c:Int)))
 case atStart=>exact ⟨0,rfl,Nat.zero_le _,rfl,rfl,fun i g hi=>by omega⟩
 case round =>
  obtain ⟨k,hgk,hk,hv5,rfl,hno⟩:=hrel
  subst hv5
  have HG:=toHid hgk
  clear hgk
  by_cases hlt:k<out.length
  ·have hI:(k:Int)<(out.length:Int):=by omega
   have hI0:(0:Int)≤(k:Int):=by omega
   obtain ⟨f,hf⟩:∃ f,out[k]?=some f:=⟨_,List.getElem?_eq_getElem hlt⟩
   obtain ⟨_,_,e,_,f1⟩:=HR.out
   cases e
   obtain ⟨p1,o1,rfl,l1,g1⟩:=f1 (by omega)
   have r1:wr.cell? ⟨p1,o1+k,none⟩=some (.pointer (some ⟨ν f,0,none⟩)):=g1 k _ (ptrs_at hf)
   have HF:=toHid hf
   clear f1 g1 hf
   by_cases hx:ν f=ν c
   ·have hfc:=HJ.out f (List.mem_of_getElem? HF.out) hx
    have HO:=toHid (objI_at HF.out (by rw [hfc]) hno.out)
    rw [hx] at r1
    have eqs:=node_same ⟨ν c,0,none⟩
    clear hx hfc
    go_wp2_with fail
    go_ret
    rw [HO.out]
    exact ⟨rfl,rfl⟩
   ·have HN:Hid (∀ i g:Nat,i<k+1→out[i]?=some g→(g:Int)≠(c:Int)):=fun i g hi hg=>by
     by_cases e:i=k
     ·subst e
      rw [HF.out] at hg
      cases hg
      intro e2
      exact hx (by rw [show f=c by omega])
     ·exact hno.out i g (by omega) hg
    obtain ⟨ca,hca⟩:=HNN.out f (.inl (List.mem_of_getElem? HF.out))
    obtain ⟨cb,hcb⟩:=HNN.out c (.inr rfl)
    have eqs:=node_other hx hca hcb
    clear hca hcb hx
    go_wp2_with fail
    go_roundg (out.length+1 - (k+1))
    case measure=>have:=HG.out;omega
    case rel=>exact ⟨k+1,rfl,by omega,by go_num,rfl,HN⟩
  ·obtain rfl:k=out.length:=by omega
   have HO:=toHid (objI_no (vs:=out) (x:=(c:Int)) (fun i g hg=>hno.out i g (List.getElem?_eq_some_iff.1 hg).1 hg))
   have hI:¬ (out.length:Int)<(out.length:Int):=by omega
   go_wp2_with fail
   go_ret
   rw [HO.out]
   exact ⟨rfl,rfl⟩
set_option maxHeartbeats 4000000 in
set_option maxRecDepth 100000 in
theorem meetG_any (ν:Nat→Nat) (out:List Nat) (c:CL) (hn:out.length≤300000) (hinj:c.kind=4 → ∀ i∈out,ν i=ν c.ref→i=c.ref) (oo:Option Addr) (oc:Nat) (B:Nat) (w:World) (hO:w.ownsRow B 73 1 (.slice oo out.length oc) out.length (ptrsV ν out)) (hB:B≤w.heap.size) (hN:NodesAt ν (fun i=>i∈out∨c.kind=4∧i=c.ref) w) :
  Calls Tryz.prog 72 #[.slice oo out.length oc,.agg #[.int .i64 (c.kind:Int),.int .i64 c.n,.pointer (pfC ν c)]] w fun ev w' => ∃ oo' oc',ev = .returned (.slice oo' (meetM out c).length oc')∧w'.ownsRow B 73 1 (.slice oo' (meetM out c).length oc') (meetM out c).length (ptrsV ν (meetM out c))∧Below B w w':=by
 have ba:Below w.heap.size w (w.alloc (.cells #[.int .i64 (c.kind:Int),.int .i64 c.n,.pointer (pfC ν c)] 75)):=(Below.refl _ _).alloc (Nat.le_refl _) _
 have ba':=ba
 have BA:Hid (Below B w (w.alloc (.cells #[.int .i64 (c.kind:Int),.int .i64 c.n,.pointer (pfC ν c)] 75))):=ba.mono hB
 have HO:=toHid (hO.alloc (.cells #[.int .i64 (c.kind:Int),.int .i64 c.n,.pointer (pfC ν c)] 75))
 obtain ⟨r,hr⟩:∃ r,r=meetM out c:=⟨_,rfl⟩
 rw [←hr]
 have HR:=toHid hr
 have HBB:=toHid hB
 clear hr hO ba hB
 by_cases h4:c.kind=4
 ·have hpf:pfC ν c=some ⟨ν c.ref,0,none⟩:=by unfold pfC;rw [if_pos h4]
  have ko:=nodeAt_any ν out c.ref hn (hinj h4) oo oc _ (rowV_own HO.out) (fun i hi=>(hN.below ba') i (hi.imp id (fun e=>⟨h4,e⟩)))
  rw [hpf,h4] at ko HO BA ⊢
  clear hpf hinj hN ba'
  by_cases hm:c.ref∈out
  ·have h0:0≤objI out (c.ref:Int):=objI_mem.2 hm
   have hE:r=out:=by rw [HR.out];unfold meetM;rw [if_neg (fun q=>q.2 hm)]
   subst hE
   clear hm
   go_enter Tryz.func72,Tryz.ntmps72
   go_wp2_with fail
   refine ko.mono ?_
   rintro ev w2 ⟨rfl,hq⟩
   rw [hq]
   clear hq w2 ko
   go_wp2_with fail
   go_ret
   exact ⟨oo,oc,rfl,HO.out,BA.out⟩
  ·have h0:objI out (c.ref:Int) = -1:=objI_neg (fun h=>hm (objI_mem.1 h))
   have hE:r=out ++ [c.ref]:=by rw [HR.out];unfold meetM;rw [if_pos ⟨h4,hm⟩]
   rw [h0] at ko
   subst hE
   clear hm h0
   obtain ⟨i0,hi0,hz0,hz1,hz2⟩:=infoNodep
   go_enter Tryz.func72,Tryz.ntmps72
   go_wp2_with fail
   refine ko.mono ?_
   rintro ev w2 ⟨rfl,hq⟩
   rw [hq]
   clear hq w2 ko
   go_wp2_with (first | (at_builtin;refine wpList_append_lies _ rfl _ _ _ rfl B 73 i0 (.pointer none) 1 8 Tryz.underlying70 hi0 hz0 hz1 hz2 rfl (by decide) (.slice oo out.length oc) out.length (ptrsV ν out) rfl (HO.out.alloc _) ⟨w.heap.size+1,0,none⟩ 1 1 [.pointer (some ⟨ν c.ref,0,none⟩)] rfl rfl (World.news_of_block (cs:=#[.pointer (some ⟨ν c.ref,0,none⟩)]) (t:=73) (alloc2_newT _ _ _)) (fun u hu=>by simp at hu;subst hu;rfl) (by decide) (by unfold maxLen;omega) (by omega) (by have:=HBB.out;simp;omega) _ rfl ?_;intro g' cap' w2 hown2 hgrow2 hat2 hlt2))
   go_ret
   refine ⟨some ⟨g',0,none⟩,cap',by rw [List.length_append];rfl,?_,?_⟩
   ·rw [List.length_append]
    unfold ptrsV at hown2 ⊢
    rw [List.map_append]
    exact hown2
   ·exact (BA.out.alloc (Nat.le_trans HBB.out BA.out.size) _).grown hgrow2 (by have:=HBB.out;simp;omega) (fun k hk=>(own_lt2 HO.out k hk).1)
 ·have hE:r=out:=by rw [HR.out];unfold meetM;rw [if_neg (fun q=>h4 q.1)]
  have hI1:((c.kind:Int) != 4)=true:=by rw [bne_iff_ne];omega
  have hI2:((c.kind:Int) == 4)=false:=by rw [beq_eq_false_iff_ne];omega
  subst hE
  clear hinj hN ba'
  go_enter Tryz.func72,Tryz.ntmps72
  go_wp2_with fail
  go_ret
  exact ⟨oo,oc,rfl,HO.out,BA.out⟩
end Go.Proofs.YtlkcbdinlfeoiabGreatDoor
namespace Go.Proofs.YtlkcbdinlfeoiabGreatDoor
open Go.RowKit

theorem cellsV_congr {ν ψ:Nat→Nat} : ∀ {l:List CL},(∀ c∈l,c.kind=4→ψ c.ref=ν c.ref)→cellsV ψ l=cellsV ν l
 | [],_=>rfl
 | c::l,h=>by
  have ih:=cellsV_congr (l:=l) (fun x hx=>h x (by simp [hx]))
  show cellV ψ c++cellsV ψ l=cellV ν c++cellsV ν l
  rw [ih]
  have:pfC ψ c=pfC ν c:=by
   unfold pfC
   by_cases h4:c.kind=4
   ·rw [if_pos h4,if_pos h4,h c (by simp) h4]
   ·rw [if_neg h4,if_neg h4]
  unfold cellV
  rw [this]
structure GP where
 q:Nat
 b:Nat
 ν:Nat→Nat
 φ:Nat→Nat
 fa:Nat→Option Addr
 xn:Nat→Int
 xs:Nat→ByteArray
 wv:Value
structure NodeOk (g:GP) (i:Nat) (d:ND) (ser:Int) (w:World):Prop where
 node:w.heap[g.ν i]?=some (.cells #[.int .i64 d.kind,.slice (g.fa i) d.f.length d.f.length,.int .i64 (g.xn i),.string (g.xs i),.int .i64 ser] 78)
 flds:0<d.f.length→g.fa i=some ⟨g.φ i,0,none⟩∧w.heap[g.φ i]?=some (.cells (cellsV g.ν d.f).toArray 75)
structure GAt (g:GP) (M:MO) (X:MXtra) (w:World):Prop where
 model:w.heap[g.q]?=some (.cells #[.slice (some ⟨g.b,0,none⟩) M.R.length M.R.length,g.wv,.int .i64 X.next] 72)
 roots:w.heap[g.b]?=some (.cells (cellsV g.ν M.R).toArray 75)
 nodes:∀ i d,M.N[i]?=some d→NodeOk g i d (X.ser i) w
 inj:∀ i j,i<M.N.length→j<M.N.length→g.ν i=g.ν j→i=j
 finj:∀ i j d e,M.N[i]?=some d→M.N[j]?=some e→0<d.f.length→0<e.f.length→g.φ i=g.φ j→i=j
 fb:∀ i d,M.N[i]?=some d→0<d.f.length→g.φ i≠g.b
 weak:w.ownsRow 0 73 1 g.wv X.K.length (ptrsV g.ν X.K)
structure MWf (M:MO):Prop where
 roots:∀ c∈M.R,CLok c∧(c.kind=4→c.ref<M.N.length)
 flds:∀ d∈M.N,∀ c∈d.f,CLok c∧(c.kind=4→c.ref<M.N.length)
 raw:∀ d∈M.N,d.kind<8→d.f = []
 rfew:M.R.length≤5000
 nfew:M.N.length≤5000
 ffew:∀ d∈M.N,d.f.length≤5000
variable {g:GP}{M:MO}{X:MXtra}{w w':World}
theorem GAt.below (G:GAt g M X w) (hb:Below w.heap.size w w'):GAt g M X w' where
 model:=(hb.block _ (lt_of_heap G.model)).trans G.model
 roots:=(hb.block _ (lt_of_heap G.roots)).trans G.roots
 nodes i d hd:=by
  have n:=G.nodes i d hd
  exact ⟨(hb.block _ (lt_of_heap n.node)).trans n.node,fun h=>⟨(n.flds h).1,(hb.block _ (lt_of_heap (n.flds h).2)).trans (n.flds h).2⟩⟩
 inj:=G.inj
 finj:=G.finj
 fb:=G.fb
 weak:=ownsRow_far' G.weak (fun k hk=>hb.block k (own_lt2 G.weak k hk).2)
theorem GAt.c0 (G:GAt g M X w):w.cell? ⟨g.q,0,none⟩=some (.slice (some ⟨g.b,0,none⟩) M.R.length M.R.length):=by rw [cell_of_row _ _ _ _ _ _ G.model];rfl
theorem GAt.root (G:GAt g M X w) {k:Nat}{c:CL} (hk:M.R[k]?=some c):w.cell? ⟨g.b,k*3,none⟩=some (.int .i64 (c.kind:Int))∧w.cell? ⟨g.b,k*3+1,none⟩=some (.int .i64 c.n)∧w.cell? ⟨g.b,k*3+2,none⟩=some (.pointer (pfC g.ν c)):=by
 rw [cell_of_row _ _ _ _ _ _ G.roots,cell_of_row _ _ _ _ _ _ G.roots,cell_of_row _ _ _ _ _ _ G.roots,List.getElem?_toArray,List.getElem?_toArray,List.getElem?_toArray]
 exact ⟨cellsV_at g.ν hk 0 (by decide),cellsV_at g.ν hk 1 (by decide),cellsV_at g.ν hk 2 (by decide)⟩
theorem GAt.field (G:GAt g M X w) {i k:Nat}{d:ND}{c:CL} (hd:M.N[i]?=some d) (hk:d.f[k]?=some c):g.fa i=some ⟨g.φ i,0,none⟩∧w.cell? ⟨g.φ i,k*3,none⟩=some (.int .i64 (c.kind:Int))∧w.cell? ⟨g.φ i,k*3+1,none⟩=some (.int .i64 c.n)∧w.cell? ⟨g.φ i,k*3+2,none⟩=some (.pointer (pfC g.ν c)):=by
 obtain ⟨h1,h2⟩:=(G.nodes i d hd).flds (by have:=(List.getElem?_eq_some_iff.1 hk).1;omega)
 refine ⟨h1,?_⟩
 rw [cell_of_row _ _ _ _ _ _ h2,cell_of_row _ _ _ _ _ _ h2,cell_of_row _ _ _ _ _ _ h2,List.getElem?_toArray,List.getElem?_toArray,List.getElem?_toArray]
 exact ⟨cellsV_at g.ν hk 0 (by decide),cellsV_at g.ν hk 1 (by decide),cellsV_at g.ν hk 2 (by decide)⟩
theorem GAt.n0 (G:GAt g M X w) {i:Nat}{d:ND} (hd:M.N[i]?=some d):w.cell? ⟨g.ν i,0,none⟩=some (.int .i64 d.kind):=by rw [cell_of_row _ _ _ _ _ _ (G.nodes i d hd).node];rfl
theorem GAt.n1 (G:GAt g M X w) {i:Nat}{d:ND} (hd:M.N[i]?=some d):w.cell? ⟨g.ν i,1,none⟩=some (.slice (g.fa i) d.f.length d.f.length):=by rw [cell_of_row _ _ _ _ _ _ (G.nodes i d hd).node];rfl
theorem GAt.n2 (G:GAt g M X w) {i:Nat}{d:ND} (hd:M.N[i]?=some d):w.cell? ⟨g.ν i,2,none⟩=some (.int .i64 (g.xn i)):=by rw [cell_of_row _ _ _ _ _ _ (G.nodes i d hd).node];rfl
theorem GAt.n3 (G:GAt g M X w) {i:Nat}{d:ND} (hd:M.N[i]?=some d):w.cell? ⟨g.ν i,3,none⟩=some (.string (g.xs i)):=by rw [cell_of_row _ _ _ _ _ _ (G.nodes i d hd).node];rfl
theorem GAt.nodesAt (G:GAt g M X w) (S:Nat→Prop) (h:∀ i,S i→i<M.N.length):NodesAt g.ν S w:=fun i hi=>⟨_,(G.nodes i _ (List.getElem?_eq_getElem (h i hi))).node⟩
structure OutsM (n:Nat) (out:List Nat):Prop where
 lt:∀ i∈out,i<n
 once:out.Nodup
theorem OutsM.nil (n:Nat):OutsM n []:=⟨fun i h=>by simp at h,List.nodup_nil⟩
theorem OutsM.len {n:Nat}{out:List Nat} (h:OutsM n out):out.length≤n:=by
 have:=nodup_len out (List.range n) h.once (fun i hi=>List.mem_range.2 (h.lt i hi))
 rwa [List.length_range] at this
theorem OutsM.meet {n:Nat}{out:List Nat} (h:OutsM n out) {c:CL} (hc:c.kind=4→c.ref<n):OutsM n (meetM out c):=by
 unfold meetM
 split
 ·rename_i q
  refine ⟨fun i hi => ?_,?_⟩
  ·rcases List.mem_append.1 hi with q' | q'
   ·exact h.lt i q'
   ·rw [List.mem_singleton.1 q'];exact hc q.1
  ·rw [List.nodup_append]
   exact ⟨h.once,by simp,fun a ha b hb e=>by rw [List.mem_singleton.1 hb] at e;exact q.2 (e ▸ ha)⟩
 ·exact h
theorem OutsM.meets {n:Nat} : ∀ {l:List CL}{out:List Nat},OutsM n out→(∀ c∈l,c.kind=4→c.ref<n)→OutsM n (meetsM out l)
 | [],_,h,_=>h
 | c::l,out,h,hl=>OutsM.meets (l:=l) (h.meet (hl c (by simp))) (fun x hx=>hl x (by simp [hx]))
theorem meetsM_take {l:List CL}{k:Nat}{c:CL} (h:l[k]?=some c) (out:List Nat):meetsM out (l.take (k+1))=meetM (meetsM out (l.take k)) c:=by
 obtain ⟨hl,rfl⟩:=List.getElem?_eq_some_iff.1 h
 rw [List.take_succ_eq_append_getElem hl]
 unfold meetsM
 rw [List.foldl_append]
 rfl
theorem stepM_flds (W:MWf M) {i:Nat}{d:ND} (hd:M.N[i]?=some d) (out:List Nat):stepM M out i=meetsM out d.f:=by
 unfold stepM
 rw [hd]
 show (if d.kind<8 then out else meetsM out d.f)=_
 by_cases hk:d.kind<8
 ·rw [if_pos hk,W.raw d (List.mem_of_getElem? hd) hk];rfl
 ·rw [if_neg hk]
theorem pre_at {out l:List Nat}{k i:Nat} (h:out[k]?=some i):(out++l)[k]?=some i:=by
 rw [List.getElem?_append_left (List.getElem?_eq_some_iff.1 h).1];exact h
theorem MWf.outs (W:MWf M):OutsM M.N.length (meetsM [] M.R):=(OutsM.nil _).meets (fun c hc=>(W.roots c hc).2)
theorem MWf.step (W:MWf M) {out:List Nat} (h:OutsM M.N.length out) (i:Nat):OutsM M.N.length (stepM M out i):=by
 unfold stepM
 cases hd:M.N[i]? with
 | none=>exact h
 | some d =>
  show OutsM _ (if d.kind<8 then out else meetsM out d.f)
  split
  ·exact h
  ·exact h.meets (fun c hc=>(W.flds d (List.mem_of_getElem? hd) c hc).2)
theorem MWf.reaches (W:MWf M):∀ (n:Nat) (out:List Nat) (k:Nat),OutsM M.N.length out→OutsM M.N.length (reachM M n out k)
 | 0,_,_,h=>h
 | n+1,out,k,h=>by
  unfold reachM
  cases e:out[k]? with
  | none=>exact h
  | some i=>exact W.reaches n _ _ (W.step h i)
theorem MWf.all (W:MWf M):OutsM M.N.length M.all:=W.reaches _ _ _ W.outs
set_option maxHeartbeats 8000000 in
set_option maxRecDepth 100000 in
theorem greach_any (G:GAt g M X w) (W:MWf M) :
  Calls Tryz.prog 38 #[.pointer (some ⟨g.q,0,none⟩)] w fun ev w' => ∃ oo oc,ev = .returned (.slice oo M.all.length oc)∧w'.ownsRow w.heap.size 73 1 (.slice oo M.all.length oc) M.all.length (ptrsV g.ν M.all)∧Below w.heap.size w w':=by
 have HG:=toHid G
 have HW:=toHid W
 have hrf:=W.rfew
 have hn0:(0:Int)≤(M.R.length:Int):=by omega
 obtain ⟨n,hn⟩:∃ n,n=M.N.length:=⟨_,rfl⟩
 have HN:=toHid hn
 have hnf:n≤5000:=by rw [hn];exact W.nfew
 obtain ⟨rr,hrr⟩:∃ rr,rr=M.all:=⟨_,rfl⟩
 rw [←hrr]
 have HRR:=toHid hrr
 clear G W hn hrr
 go_enter Tryz.func38,Tryz.ntmps38
 go_wp2_with fail
 go_loopg [3,4] (M.R.length+1) (fun gk v3 v4 wr => ∃ (k:Nat) (oo:Option Addr) (oc:Nat),gk=M.R.length+1 - k∧k≤M.R.length∧v3 = .slice oo (meetsM [] (M.R.take k)).length oc∧v4 = .int .i64 (k:Int)∧Below w.heap.size w wr∧Hid (wr.ownsRow w.heap.size 73 1 (.slice oo (meetsM [] (M.R.take k)).length oc) (meetsM [] (M.R.take k)).length (ptrsV g.ν (meetsM [] (M.R.take k))))∧Hid (OutsM n (meetsM [] (M.R.take k))))
 case atStart=>exact ⟨0,none,0,rfl,Nat.zero_le _,rfl,rfl,Below.refl _ _,⟨rfl,.inl ⟨rfl,rfl⟩⟩,OutsM.nil n⟩
 case round =>
  obtain ⟨k,oo,oc,hgk,hk,rfl,rfl,hb,hO,hU⟩:=hrel
  have HGk:=toHid hgk
  have hk0:(0:Int)≤(k:Int):=by omega
  have hol:=hU.out.len
  have HB:=toHid hb
  have Gr:=HG.out.below hb
  have d0:=Gr.c0
  clear hgk hb
  by_cases hlt:k<M.R.length
  ·have hI:(k:Int)<(M.R.length:Int):=by omega
   obtain ⟨c,hc⟩:∃ c,M.R[k]?=some c:=⟨_,List.getElem?_eq_getElem hlt⟩
   obtain ⟨e0,e1,e2⟩:=Gr.root hc
   have hcw:=HW.out.roots c (List.mem_of_getElem? hc)
   have hlt4:c.kind=4→c.ref<n:=fun h=>by rw [HN.out];exact hcw.2 h
   have km:=meetG_any g.ν (meetsM [] (M.R.take k)) c (by omega) (fun h4 i hi e=>HG.out.inj i c.ref (by rw [←HN.out];exact hU.out.lt i hi) (hcw.2 h4) e) oo oc w.heap.size wr hO.out HB.out.size (Gr.nodesAt _ (fun i hi=>hi.elim (fun h=>by rw [←HN.out];exact hU.out.lt i h) (fun h=>by rw [h.2];exact hcw.2 h.1)))
   rw [←meetsM_take hc] at km
   have HU2:Hid (OutsM n (meetsM [] (M.R.take (k+1)))):=by show OutsM _ _;rw [meetsM_take hc];exact hU.out.meet hlt4
   clear hcw hlt4 hO hU Gr hc
   generalize c.kind=ck at *
   generalize c.n=cn at *
   generalize pfC g.ν c=cp at *
   go_wp2_with fail
   refine km.mono ?_
   rintro ev w2 ⟨oo2,oc2,rfl,ho2,hb2⟩
   clear km
   have HO2:=toHid ho2
   have HB2:=toHid (HB.out.trans hb2)
   clear ho2 hb2 e0 e1 e2 d0
   go_wp2_with fail
   go_roundg (M.R.length+1 - (k+1))
   case measure=>have:=HGk.out;omega
   case rel=>exact ⟨k+1,oo2,oc2,rfl,by omega,rfl,by go_num,HB2.out,HO2,HU2⟩
  ·have hI:¬ (k:Int)<(M.R.length:Int):=by omega
   have hkk:M.R.take k=M.R:=List.take_of_length_le (by omega)
   rw [hkk] at hO hU hol ⊢
   have HQ:Hid (reachM M (n+1) (meetsM [] M.R) 0=rr):=by show _=_;rw [HRR.out,HN.out];rfl
   clear hkk Gr
   generalize meetsM [] M.R=o0 at *
   go_wp2_with fail
   go_loopg [3,5] (n+1) (fun gk v3 v5 wz => ∃ (k:Nat) (out:List Nat) (oo:Option Addr) (oc:Nat),gk=n+1 - k∧k≤out.length∧v3 = .slice oo out.length oc∧v5 = .int .i64 (k:Int)∧Below w.heap.size w wz∧Hid (wz.ownsRow w.heap.size 73 1 (.slice oo out.length oc) out.length (ptrsV g.ν out))∧Hid (OutsM n out)∧Hid (reachM M (n+1 - k) out k=rr))
   case atStart=>exact ⟨0,o0,oo,oc,rfl,Nat.zero_le _,rfl,rfl,HB.out,hO,hU,HQ⟩
   case round =>
    clear hO hU HQ HB hol d0 hk0 HGk
    obtain ⟨k,out,oo,oc,hgk,hk,rfl,rfl,hb,hO,hU,hQ⟩:=hrel
    have HGk:=toHid hgk
    have hk0:(0:Int)≤(k:Int):=by omega
    have hol:=hU.out.len
    have HB:=toHid hb
    clear hgk hb
    by_cases hlt:k<out.length
    ·have hI:(k:Int)<(out.length:Int):=by omega
     obtain ⟨i,hi⟩:∃ i,out[k]?=some i:=⟨_,List.getElem?_eq_getElem hlt⟩
     have hil:i<M.N.length:=by rw [←HN.out];exact hU.out.lt i (List.mem_of_getElem? hi)
     obtain ⟨d,hd⟩:∃ d,M.N[i]?=some d:=⟨_,List.getElem?_eq_getElem hil⟩
     have HD:=toHid hd
     have HQ2:Hid (reachM M (n - k) (meetsM out d.f) (k+1)=rr):=by
      show _=_
      have h:=hQ.out
      rw [show n+1 - k=(n - k)+1 by omega,reachM_go hi,stepM_flds HW.out hd] at h
      exact h
     have hff:=HW.out.ffew d (List.mem_of_getElem? hd)
     have HI:=toHid hi
     have HK1:Hid (k<n):=by show _<_;omega
     clear hQ hd hi hil
     go_wp2_with fail
     go_loopg [3,6] (d.f.length+1) (fun gj v3 v6 wy => ∃ (j:Nat) (oo:Option Addr) (oc:Nat),gj=d.f.length+1 - j∧j≤d.f.length∧v3 = .slice oo (meetsM out (d.f.take j)).length oc∧v6 = .int .i64 (j:Int)∧Below w.heap.size w wy∧Hid (wy.ownsRow w.heap.size 73 1 (.slice oo (meetsM out (d.f.take j)).length oc) (meetsM out (d.f.take j)).length (ptrsV g.ν (meetsM out (d.f.take j))))∧Hid (OutsM n (meetsM out (d.f.take j))))
     case atStart=>exact ⟨0,oo,oc,rfl,Nat.zero_le _,rfl,rfl,HB.out,hO,hU⟩
     case round =>
      obtain ⟨j,oo,oc,hgj,hj,rfl,rfl,hb,hO,hU⟩:=hrel
      have HGj:=toHid hgj
      have hj0:(0:Int)≤(j:Int):=by omega
      have hol2:=hU.out.len
      have HB:=toHid hb
      have Gr:=HG.out.below hb
      obtain ⟨l,hl⟩:=meetsM_pre (d.f.take j) out
      have hki:(meetsM out (d.f.take j))[k]?=some i:=by rw [hl];exact pre_at HI.out
      have hkl:k<(meetsM out (d.f.take j)).length:=(List.getElem?_eq_some_iff.1 hki).1
      have hkI:(k:Int)<((meetsM out (d.f.take j)).length:Int):=by omega
      obtain ⟨_,_,e,_,f1⟩:=rowV_own hO.out
      cases e
      obtain ⟨p1,o1,rfl,l1,g1⟩:=f1 (by omega)
      have r1:wr.cell? ⟨p1,o1+k,none⟩=some (.pointer (some ⟨g.ν i,0,none⟩)):=g1 k _ (ptrs_at hki)
      have r2:=Gr.n1 HD.out
      clear hgj hb g1 f1 hl hki
      by_cases hlj:j<d.f.length
      ·have hJ:(j:Int)<(d.f.length:Int):=by omega
       obtain ⟨c,hc⟩:∃ c,d.f[j]?=some c:=⟨_,List.getElem?_eq_getElem hlj⟩
       obtain ⟨e9,e0,e1,e2⟩:=Gr.field HD.out hc
       rw [e9] at r2
       have hcw:=HW.out.flds d (List.mem_of_getElem? HD.out) c (List.mem_of_getElem? hc)
       have hlt4:c.kind=4→c.ref<n:=fun h=>by rw [HN.out];exact hcw.2 h
       have km:=meetG_any g.ν (meetsM out (d.f.take j)) c (by omega) (fun h4 i hi e=>HG.out.inj i c.ref (by rw [←HN.out];exact hU.out.lt i hi) (hcw.2 h4) e) (some ⟨p1,o1,none⟩) oc w.heap.size wr hO.out HB.out.size (Gr.nodesAt _ (fun i hi=>hi.elim (fun h=>by rw [←HN.out];exact hU.out.lt i h) (fun h=>by rw [h.2];exact hcw.2 h.1)))
       rw [←meetsM_take hc] at km
       have HU2:Hid (OutsM n (meetsM out (d.f.take (j+1)))):=by show OutsM _ _;rw [meetsM_take hc];exact hU.out.meet hlt4
       clear hcw hlt4 hO hU Gr hc e9
       generalize c.kind=ck at *
       generalize c.n=cn at *
       generalize pfC g.ν c=cp at *
       go_wp2_with fail
       refine km.mono ?_
       rintro ev w2 ⟨oo2,oc2,rfl,ho2,hb2⟩
       clear km
       have HO2:=toHid ho2
       have HB2:=toHid (HB.out.trans hb2)
       clear ho2 hb2 e0 e1 e2
       go_wp2_with fail
       go_roundg (d.f.length+1 - (j+1))
       case measure=>have:=HGj.out;omega
       case rel=>exact ⟨j+1,oo2,oc2,rfl,by omega,rfl,by go_num,HB2.out,HO2,HU2⟩
      ·have hJ:¬ (j:Int)<(d.f.length:Int):=by omega
       have hjj:d.f.take j=d.f:=List.take_of_length_le (by omega)
       rw [hjj] at hO hU hol2 hkl hkI ⊢
       clear hjj Gr
       generalize meetsM out d.f=o2 at *
       go_wp2_with fail
       go_roundg (n+1 - (k+1))
       case measure=>have:=HGk.out;have:=HK1.out;omega
       case rel=>exact ⟨k+1,o2,_,oc,rfl,by omega,rfl,by go_num,HB.out,hO,hU,by show _=_;rw [show n+1 - (k+1)=n - k by have:=HK1.out;omega];exact HQ2.out⟩
    ·have hI:¬ (k:Int)<(out.length:Int):=by omega
     obtain rfl:rr=out:=by
      have h:=hQ.out
      rw [reachM_end (by omega)] at h
      exact h.symm
     obtain rfl:k=rr.length:=by omega
     go_wp2_with fail
     go_ret
     exact ⟨oo,oc,rfl,hO.out,HB.out⟩
end Go.Proofs.YtlkcbdinlfeoiabGreatDoor
namespace Go.Proofs.YtlkcbdinlfeoiabGreatDoor
open Go.RowKit

variable {g:GP}{M:MO}{X:MXtra}{w w':World}
set_option maxHeartbeats 2000000 in
set_option maxRecDepth 100000 in
theorem cellText_any (ν:Nat→Nat) (out:List Nat) (c:CL) (hk:CLok c) (hn:out.length≤300000) (hin:c.kind=4→c.ref∈out) (hinj:c.kind=4 → ∀ i∈out,ν i=ν c.ref→i=c.ref) (oo:Option Addr) (oc:Nat) (w:World) (hR:RowV w (.slice oo out.length oc) out.length (ptrsV ν out)) (hN:NodesAt ν (fun i=>i∈out∨c.kind=4∧i=c.ref) w) :
  Calls Tryz.prog 39 #[.agg #[.int .i64 (c.kind:Int),.int .i64 c.n,.pointer (pfC ν c)],.slice oo out.length oc] w fun ev w'=>ev = .returned (.string (cellB out c))∧Below w.heap.size w w':=by
 have ba:Below w.heap.size w (w.alloc (.cells #[.int .i64 (c.kind:Int),.int .i64 c.n,.pointer (pfC ν c)] 75)):=(Below.refl _ _).alloc (Nat.le_refl _) _
 have hkk:=hk.kind
 by_cases h4:c.kind=4
 ·have hpf:pfC ν c=some ⟨ν c.ref,0,none⟩:=by unfold pfC;rw [if_pos h4]
  have h0:0≤objI out (c.ref:Int):=objI_mem.2 (hin h4)
  have hbd:=objI_bound (vs:=out) (x:=(c.ref:Int)) hn
  have hE:cellB out c=⟨#[64]⟩++decB (objI out (c.ref:Int)):=by unfold cellB;rw [if_pos h4,if_neg (by omega)]
  have ko:=nodeAt_any ν out c.ref hn (hinj h4) oo oc _ (hR.below ba) (fun i hi=>(hN.below ba) i (hi.imp id (fun e=>⟨h4,e⟩)))
  have kd:=fun W=>decimal_any (objI out (c.ref:Int)) (by omega) (by omega) W
  have hds:=decB_size (objI out (c.ref:Int)) (by omega) (by omega)
  rw [hE]
  rw [hpf,h4] at ba ko ⊢
  have a1:=fun wx=>run_string_add_sum (P:=Tryz.prog) (w:=wx) ⟨#[64]⟩ (decB (objI out (c.ref:Int))) (by show 1+(decB (objI out (c.ref:Int))).size≤_;omega)
  have BA:=toHid ba
  clear hpf hinj hN hin hR hE h0 hbd ba h4 hkk hk
  generalize decB (objI out (c.ref:Int))=dk at *
  generalize objI out (c.ref:Int)=k at *
  go_enter Tryz.func39,Tryz.ntmps39
  go_wp2_with fail
  refine ko.mono ?_
  rintro ev w1 ⟨rfl,hq⟩
  rw [hq]
  clear hq w1 ko
  go_wp2_with fail
  refine (kd _).mono ?_
  rintro ev w1 ⟨rfl,hb⟩
  have HB:=toHid (BA.out.trans (hb.mono BA.out.size))
  clear kd hb
  go_wp2_with fail
  go_ret
  exact ⟨rfl,HB.out⟩
 ·have hpf:pfC ν c=none:=by unfold pfC;rw [if_neg h4]
  by_cases h3:c.kind=3
  ·have hE:cellB out c=decB c.n:=by unfold cellB;rw [if_neg h4,if_pos h3]
   have l1:=hk.lo h3
   have l2:=hk.hi h3
   have kd:=fun W=>decimal_any c.n (by omega) (by omega) W
   rw [hE]
   rw [hpf,h3] at ba ⊢
   have BA:=toHid ba
   clear hpf hinj hN hin hR hE ba h4 hkk hk h3
   generalize c.n=cn at *
   go_enter Tryz.func39,Tryz.ntmps39
   go_wp2_with fail
   refine (kd _).mono ?_
   rintro ev w1 ⟨rfl,hb⟩
   have HB:=toHid (BA.out.trans (hb.mono BA.out.size))
   clear kd hb
   go_wp2_with fail
   go_ret
   exact ⟨rfl,HB.out⟩
  ·have hE:cellB out c=constB (c.kind:Int):=by unfold cellB;rw [if_neg h4,if_neg h3]
   rw [hE]
   rw [hpf] at ba ⊢
   have HBA:Hid (∀ W,Below w.heap.size w W→Below w.heap.size w W):=fun W h=>h
   clear hpf hinj hN hin hR hE hk
   generalize c.kind=ck at *
   generalize c.n=cn at *
   obtain rfl | rfl | rfl:ck=0∨ck=1∨ck=2:=by omega
   all_goals (
    go_enter Tryz.func39,Tryz.ntmps39
    go_wp2_with fail
    go_ret
    exact ⟨rfl,ba.alloc ba.size _⟩)
structure RawG (T:Int→List Int→ByteArray) (g:GP) (M:MO) (w:World):Prop where
 one:∀ i d,M.N[i]?=some d→d.kind<8→(d.kind=1∧T d.kind d.raw=⟨#[32]⟩++decB (g.xn i) ∧ -9223372036854775808≤g.xn i∧g.xn i≤9223372036854775807) ∨
  (d.kind=2 ∧ ∃ q:ByteArray,T d.kind d.raw=⟨#[32]⟩++q ∧ ∀ W,Below w.heap.size w W→Calls Tryz.prog 41 #[.string (g.xs i)] W fun ev w'=>ev = .returned (.string q)∧Below W.heap.size W w')
 kinds:∀ d∈M.N,0≤d.kind∧d.kind≤255
theorem text_lt {T:Int→List Int→ByteArray} (W:MWf M):lsB (M.text T)=(M.R.map (mRootL M.all)).flatten++mObjLs T M M.all M.all.length:=text_ls T W.raw W.all.lt
structure MClosed (M:MO):Prop where
 roots:∀ c∈M.R,c.kind=4→c.ref∈M.all
 flds:∀ i∈M.all,∀ d,M.N[i]?=some d → ∀ c∈d.f,c.kind=4→c.ref∈M.all
set_option maxHeartbeats 8000000 in
set_option maxRecDepth 100000 in
theorem gshow_any (T:Int→List Int→ByteArray) (G:GAt g M X w) (W:MWf M) (C:MClosed M) (R:RawG T g M w) (hz:(M.text T).size≤8000000) :
  Calls Tryz.prog 16 #[.pointer (some ⟨g.q,0,none⟩)] w fun ev w'=>ev = .returned (.string (M.text T))∧Below w.heap.size w w':=by
 have kr:=greach_any G W
 have HG:=toHid G
 have HW:=toHid W
 have HC:=toHid C
 have HRW:=toHid R
 have hrf:=W.rfew
 have hall:=W.all.len
 have hnf:=W.nfew
 have hinj:Hid (∀ c:CL,(c.kind=4→c.ref<M.N.length)→c.kind=4 → ∀ i∈M.all,g.ν i=g.ν c.ref→i=c.ref):=fun c hc h4 i hi e=>G.inj i c.ref (W.all.lt i hi) (hc h4) e
 have htx:=text_lt (T:=T) W
 have hAl:=toHid W.all.lt
 obtain ⟨Z,hZ⟩:∃ Z,Z=M.text T:=⟨_,rfl⟩
 rw [←hZ] at hz htx ⊢
 obtain ⟨out,hout⟩:∃ out,out=M.all:=⟨_,rfl⟩
 rw [←hout] at kr hall hinj htx hAl
 have HO:Hid (out=M.all):=hout
 have hr1:=fun k=>flat_take (mRootL out) M.R k
 have hr2:∀ k,k≤out.length→(mObjLs T M out k).length≤(mObjLs T M out out.length).length:=fun k hk=>flat_range _ hk
 have hzl:(M.R.map (mRootL out)).flatten.length+(mObjLs T M out out.length).length≤8000000:=by
  have:=congrArg List.length htx
  rw [lsB_size,List.length_append] at this
  omega
 have HR1:Hid (∀ k,((M.R.take k).map (mRootL out)).flatten.length≤8000000):=fun k=>by have:=hr1 k;omega
 have HR2:Hid (∀ k,k≤out.length→((M.R.map (mRootL out)).flatten++mObjLs T M out k).length≤8000000):=fun k hk=>by have:=hr2 k hk;rw [List.length_append];omega
 have HTX:=toHid htx
 have hn0:(0:Int)≤(M.R.length:Int):=by omega
 have hol:out.length≤5000:=by omega
 clear G W C R hr1 hr2 hzl htx hZ hout hall hnf
 go_enter Tryz.func16,Tryz.ntmps16
 go_wp2_with fail
 refine kr.mono ?_
 clear kr
 rintro ev w1 ⟨oo,oc,rfl,hown,b1⟩
 have HROW:=toHid (rowV_own hown)
 have HB1:=toHid b1
 clear b1 hown
 go_wp2_with fail
 go_loopg [4,5] (M.R.length+1) (fun gk v4 v5 wr => ∃ (k:Nat) (A:ByteArray),gk=M.R.length+1 - k∧k≤M.R.length∧v4 = .string A∧v5 = .int .i64 (k:Int)∧Hid (lsB A=((M.R.take k).map (mRootL out)).flatten)∧Below w1.heap.size w1 wr)
 case atStart=>exact ⟨0,⟨#[]⟩,rfl,Nat.zero_le _,rfl,rfl,rfl,Below.refl _ _⟩
 case round =>
  obtain ⟨k,A,hgk,hk,rfl,rfl,hA,hb⟩:=hrel
  have HGk:=toHid hgk
  have hk0:(0:Int)≤(k:Int):=by omega
  have HB:=toHid hb
  have Gr:=HG.out.below (HB1.out.trans (hb.mono HB1.out.size))
  have d0:=Gr.c0
  have hAs:A.size≤8000000:=by rw [←lsB_size,hA.out];exact HR1.out k
  clear hgk hb
  by_cases hlt:k<M.R.length
  ·have hI:(k:Int)<(M.R.length:Int):=by omega
   obtain ⟨c,hc⟩:∃ c,M.R[k]?=some c:=⟨_,List.getElem?_eq_getElem hlt⟩
   obtain ⟨e0,e1,e2⟩:=Gr.root hc
   have hcm:=List.mem_of_getElem? hc
   have hcw:=HW.out.roots c hcm
   have km:=fun W hW=>cellText_any g.ν out c hcw.1 (by omega) (fun h=>by rw [HO.out];exact HC.out.roots c hcm h) (fun h4 i hi e=>hinj.out c hcw.2 h4 i hi e) oo oc W (HROW.out.below (w':=W) hW) ((HG.out.below (HB1.out.trans (hW.mono HB1.out.size))).nodesAt _ (fun i hi=>hi.elim (fun h=>hAl.out i h) (fun h=>by rw [h.2];exact hcw.2 h.1)))
   have HK:=toHid (km wr HB.out)
   have HA2:Hid (((lsB A++lsB sRoot)++lsB (cellB out c)) ++ [10]=((M.R.take (k+1)).map (mRootL out)).flatten):=by
    show _=_
    rw [take_next (mRootL out) hc,←hA.out]
    unfold mRootL
    simp
   have hts:(cellB out c).size≤8000000:=by
    have h:=HR1.out (k+1)
    rw [←HA2.out,List.length_append,List.length_append,lsB_size] at h
    omega
   have a1:=fun wx=>run_string_add_sum (P:=Tryz.prog) (w:=wx) A sRoot (by show A.size+5≤_;omega)
   have a2:=fun wx=>run_string_add_sum (P:=Tryz.prog) (w:=wx) (A++sRoot) (cellB out c) (by rw [ByteArray.size_append];show A.size+5+_≤_;omega)
   have a3:=fun wx=>run_string_add_sum (P:=Tryz.prog) (w:=wx) ((A++sRoot)++cellB out c) ⟨#[10]⟩ (by rw [ByteArray.size_append,ByteArray.size_append];show A.size+5+_+1≤_;omega)
   have HLS:Hid (lsB (((A++sRoot)++cellB out c)++⟨#[10]⟩)=((M.R.take (k+1)).map (mRootL out)).flatten):=by
    show _=_
    rw [lsB_app,lsB_app,lsB_app,←HA2.out]
    rfl
   have km:=HK.out
   clear hcw Gr hc HA2 hA HK hcm
   generalize cellB out c=tx at *
   generalize c.kind=ck at *
   generalize c.n=cn at *
   generalize pfC g.ν c=cp at *
   go_wp2_with fail
   refine km.mono ?_
   clear km e0 e1 e2 d0
   rintro ev w5 ⟨rfl,b5⟩
   have HB5:=toHid (HB.out.trans (b5.mono HB.out.size))
   clear b5
   unfold sRoot at a1 a2 a3
   go_wp2_with fail
   go_roundg (M.R.length+1 - (k+1))
   case measure=>have:=HGk.out;omega
   case rel=>exact ⟨k+1,_,rfl,by omega,rfl,by go_num,HLS,HB5.out⟩
  ·have hI:¬ (k:Int)<(M.R.length:Int):=by omega
   have hkk:M.R.take k=M.R:=List.take_of_length_le (by omega)
   rw [hkk] at hA
   clear hkk Gr
   go_wp2_with fail
   go_loopg [4,6] (out.length+1) (fun gk v4 v6 wz => ∃ (k:Nat) (A:ByteArray),gk=out.length+1 - k∧k≤out.length∧v4 = .string A∧v6 = .int .i64 (k:Int)∧Hid (lsB A=(M.R.map (mRootL out)).flatten++mObjLs T M out k)∧Below w1.heap.size w1 wz)
   case atStart=>exact ⟨0,A,rfl,Nat.zero_le _,rfl,rfl,by show _=_;rw [hA.out];simp [mObjLs],HB.out⟩
   case round =>
    clear hA hAs HB hk0 HGk d0
    obtain ⟨k,A,hgk,hk,rfl,rfl,hA,hb⟩:=hrel
    have HGk:=toHid hgk
    have hk0:(0:Int)≤(k:Int):=by omega
    have HB:=toHid hb
    have Gr:=HG.out.below (HB1.out.trans (hb.mono HB1.out.size))
    have hAs:A.size≤8000000:=by rw [←lsB_size,hA.out];exact HR2.out k hk
    clear hgk hb
    by_cases hlt:k<out.length
    ·have hI:(k:Int)<(out.length:Int):=by omega
     obtain ⟨i,hi⟩:∃ i,out[k]?=some i:=⟨_,List.getElem?_eq_getElem hlt⟩
     obtain ⟨d,hd⟩:∃ d,M.N[i]?=some d:=⟨_,List.getElem?_eq_getElem (hAl.out i (List.mem_of_getElem? hi))⟩
     have HD:=toHid hd
     have HI:=toHid hi
     have hLine:mObjL T M out k=(mHeadL T k d++(d.f.map (mFldL out)).flatten) ++ [10]:=by
      unfold mObjL
      rw [List.getD_eq_getElem?_getD,hi]
      show (match M.N[i]? with
       | some d=>(mHeadL T k d++(d.f.map (mFldL out)).flatten) ++ [10]
       | none => [])=_
      rw [hd]
     have hNext:(M.R.map (mRootL out)).flatten++mObjLs T M out (k+1)=lsB A++((mHeadL T k d++(d.f.map (mFldL out)).flatten) ++ [10]):=by
      show _++((List.range (k+1)).map (mObjL T M out)).flatten=_
      rw [range_next,hLine,hA.out]
      exact (List.append_assoc _ _ _).symm
     have hTot:(lsB A).length+(mHeadL T k d).length+(d.f.map (mFldL out)).flatten.length+1≤8000000:=by
      have h:=HR2.out (k+1) (by omega)
      rw [hNext] at h
      simp only [List.length_append,List.length_cons,List.length_nil] at h
      omega
     have HNext:=toHid hNext
     have HRd:=toHid (HRW.out.one i d hd)
     have hkd:=HRW.out.kinds d (List.mem_of_getElem? hd)
     have hff:=HW.out.ffew d (List.mem_of_getElem? hd)
     obtain ⟨_,_,e,_,f1⟩:=HROW.out
     cases e
     obtain ⟨p1,o1,rfl,l1,g1⟩:=f1 (by omega)
     have q1:w1.cell? ⟨p1,o1+k,none⟩=some (.pointer (some ⟨g.ν i,0,none⟩)):=g1 k _ (ptrs_at hi)
     have HC1:Hid (∀ W,Below w1.heap.size w1 W→W.cell? ⟨p1,o1+k,none⟩=some (.pointer (some ⟨g.ν i,0,none⟩))∧W.cell? ⟨g.ν i,0,none⟩=some (.int .i64 d.kind)):=fun W hW=>⟨(hW.cell (p:=⟨p1,o1+k,none⟩) l1).trans q1,(HG.out.below (HB1.out.trans (hW.mono HB1.out.size))).n0 HD.out⟩
     have HC2:Hid (∀ W,Below w1.heap.size w1 W→W.cell? ⟨p1,o1+k,none⟩=some (.pointer (some ⟨g.ν i,0,none⟩))∧W.cell? ⟨g.ν i,1,none⟩=some (.slice (g.fa i) d.f.length d.f.length)∧W.cell? ⟨g.ν i,2,none⟩=some (.int .i64 (g.xn i))∧W.cell? ⟨g.ν i,3,none⟩=some (.string (g.xs i))):=fun W hW=>by
      have G:=HG.out.below (HB1.out.trans (hW.mono HB1.out.size))
      exact ⟨(hW.cell (p:=⟨p1,o1+k,none⟩) l1).trans q1,G.n1 HD.out,G.n2 HD.out,G.n3 HD.out⟩
     have HRow1:Hid (RowV w1 (.slice (some ⟨p1,o1,none⟩) out.length oc) out.length (ptrsV g.ν out)):=HROW.out
     have hds:=decB_size (k:Int) (by omega) (by omega)
     have hdd:=decB_size d.kind (by omega) (by omega)
     obtain ⟨B1,hB1⟩:∃ B1,B1=((A++decB (k:Int))++⟨#[32]⟩)++decB d.kind:=⟨_,rfl⟩
     have HKi:Hid (∀ W,Below w1.heap.size w1 W→Calls Tryz.prog 40 #[.int .i64 (k:Int)] W fun ev w'=>ev = .returned (.string (decB (k:Int)))∧Below w1.heap.size w1 w'):=fun W hW=>(decimal_any (k:Int) (by omega) (by omega) W).mono fun ev w' t=>⟨t.1,hW.trans (t.2.mono hW.size)⟩
     have HKd:Hid (∀ W,Below w1.heap.size w1 W→Calls Tryz.prog 40 #[.int .i64 d.kind] W fun ev w'=>ev = .returned (.string (decB d.kind))∧Below w1.heap.size w1 w'):=fun W hW=>(decimal_any d.kind (by omega) (by omega) W).mono fun ev w' t=>⟨t.1,hW.trans (t.2.mono hW.size)⟩
     have hH1:lsB B1++(if d.kind<8 then lsB (T d.kind d.raw) else [])=lsB A++mHeadL T k d:=by
      rw [hB1,lsB_app,lsB_app,lsB_app]
      unfold mHeadL
      simp [lsB]
     have HH1:=toHid hH1
     have a1:=fun wx=>run_string_add_sum (P:=Tryz.prog) (w:=wx) A (decB (k:Int)) (by omega)
     have a2:=fun wx=>run_string_add_sum (P:=Tryz.prog) (w:=wx) (A++decB (k:Int)) ⟨#[32]⟩ (by rw [ByteArray.size_append];show A.size+_+1≤_;omega)
     have a3:=fun wx=>run_string_add_sum (P:=Tryz.prog) (w:=wx) ((A++decB (k:Int))++⟨#[32]⟩) (decB d.kind) (by rw [ByteArray.size_append,ByteArray.size_append];show A.size+_+1+_≤_;omega)
     have hB1s:B1.size≤8000100:=by rw [hB1,ByteArray.size_append,ByteArray.size_append,ByteArray.size_append];show A.size+_+1+_≤_;omega
     rw [←hB1] at a3
     have hTl:(lsB B1).length+(if d.kind<8 then lsB (T d.kind d.raw) else []).length+(d.f.map (mFldL out)).flatten.length+1≤8000000:=by
      have h:=congrArg List.length hH1
      simp only [List.length_append] at h
      omega
     have HTl:=toHid hTl
     have HTot:=toHid hTot
     obtain ⟨dk,hdk⟩:∃ dk,dk=decB (k:Int):=⟨_,rfl⟩
     obtain ⟨dd,hdd2⟩:∃ dd,dd=decB d.kind:=⟨_,rfl⟩
     rw [←hdk] at a1 a2 a3 HKi
     rw [←hdd2] at a3 HKd
     have HKD0:=toHid hkd
     clear hA hi hd hLine hNext hTot f1 g1 q1 Gr hds hdd hB1 hH1 hdk hdd2 hTl hkd
     have hb:=HB.out
     obtain ⟨c1,c2⟩:=HC1.out wr hb
     go_upto_region 10 with fail
     go_cut [4] from 38 to 52 (fun v4 wx=>v4 = .string B1∧Hid (Below w1.heap.size w1 wx))
     case first =>
      go_region_held3 (fun W=>W.cell? ⟨p1,o1+k,none⟩=some (.pointer (some ⟨g.ν i,0,none⟩))∧W.cell? ⟨g.ν i,0,none⟩=some (.int .i64 d.kind)) (first | with_reducible exact HC1.out _ hb | with_reducible exact HC1.out _ hb.drew | exact HC1.out _ (by assumption)) (first
       | (go_at_call_of 40 d.kind;refine (HKd.out _ (by first | with_reducible exact hb | with_reducible exact hb.drew)).mono ?_;rintro ev wb ⟨rfl,hbx⟩;replace hb:=hbx;clear hbx)
       | (go_at_call 40;refine (HKi.out _ (by first | with_reducible exact hb | with_reducible exact hb.drew)).mono ?_;rintro ev wa ⟨rfl,hbx⟩;replace hb:=hbx;clear hbx))
      all_goals (
       go_wp2_with fail
       go_meet
       exact ⟨rfl,hb⟩)
     case rest =>
     obtain ⟨rfl,hbw⟩:=hcut
     clear a1 a2 a3 HKi HKd hb c1 c2
     obtain ⟨c1,c2⟩:=HC1.out wc hbw.out
     go_upto_block 4 with fail
     go_cut [4] from 59 to 85 (fun v4 wx => ∃ B2:ByteArray,v4 = .string B2∧Hid (lsB B2=lsB A++mHeadL T k d)∧Hid (Below w1.heap.size w1 wx))
     case first =>
      obtain ⟨_,c3,c4,c5⟩:=HC2.out wc hbw.out
      have hTl:=HTl.out
      by_cases hk8:d.kind<8
      ·have hif:(if d.kind<8 then lsB (T d.kind d.raw) else [])=lsB (T d.kind d.raw):=if_pos hk8
       have hH:=HH1.out
       rw [hif] at hTl hH
       rcases HRd.out hk8 with ⟨e1,eT,x0,x1⟩ | ⟨e1,q,eT,hQ⟩
       ·rw [eT] at hTl hH
        rw [lsB_size,lsB_size,ByteArray.size_append] at hTl
        have hTl:B1.size+(1+(decB (g.xn i)).size)+(d.f.map (mFldL out)).flatten.length+1≤8000000:=hTl
        have kN:=fun W=>decimal_any (g.xn i) x0 x1 W
        have a4:=fun wx=>run_string_add_sum (P:=Tryz.prog) (w:=wx) B1 ⟨#[32]⟩ (by show B1.size+1≤_;omega)
        have a5:=fun wx=>run_string_add_sum (P:=Tryz.prog) (w:=wx) (B1++⟨#[32]⟩) (decB (g.xn i)) (by rw [ByteArray.size_append];show B1.size+1+_≤_;omega)
        have HE:Hid (lsB ((B1++⟨#[32]⟩)++decB (g.xn i))=lsB A++mHeadL T k d):=by show _=_;rw [←hH,lsB_app,lsB_app,lsB_app,List.append_assoc]
        have z1:(d.kind == 1)=true:=by rw [e1];rfl
        clear hTl hH eT hif hk8 e1 c3 c5 hB1s hAs
        generalize decB (g.xn i)=dn at *
        go_wp2_with fail
        refine (kN _).mono ?_
        rintro ev w5 ⟨rfl,b5⟩
        have HB5:Hid (Below w1.heap.size w1 w5):=hbw.out.trans (b5.mono hbw.out.size)
        clear b5 kN
        go_wp2_with fail
        go_meet
        exact ⟨_,rfl,HE,HB5⟩
       ·rw [eT] at hTl hH
        rw [lsB_size,lsB_size,ByteArray.size_append] at hTl
        have hTl:B1.size+(1+q.size)+(d.f.map (mFldL out)).flatten.length+1≤8000000:=hTl
        have kQ:=hQ wc (HB1.out.trans (hbw.out.mono HB1.out.size))
        have a4:=fun wx=>run_string_add_sum (P:=Tryz.prog) (w:=wx) B1 ⟨#[32]⟩ (by show B1.size+1≤_;omega)
        have a5:=fun wx=>run_string_add_sum (P:=Tryz.prog) (w:=wx) (B1++⟨#[32]⟩) q (by rw [ByteArray.size_append];show B1.size+1+_≤_;omega)
        have HE:Hid (lsB ((B1++⟨#[32]⟩)++q)=lsB A++mHeadL T k d):=by show _=_;rw [←hH,lsB_app,lsB_app,lsB_app,List.append_assoc]
        have z1:(d.kind == 1)=false:=by rw [e1];rfl
        have z2:(d.kind == 2)=true:=by rw [e1];rfl
        clear hTl hH eT hif hk8 e1 c3 c4 hB1s hAs hQ
        go_wp2_with fail
        refine kQ.mono ?_
        rintro ev w5 ⟨rfl,b5⟩
        have HB5:Hid (Below w1.heap.size w1 w5):=hbw.out.trans (b5.mono hbw.out.size)
        clear b5 kQ
        go_wp2_with fail
        go_meet
        exact ⟨_,rfl,HE,HB5⟩
      ·have hif:(if d.kind<8 then lsB (T d.kind d.raw) else []) = []:=if_neg hk8
       have hH:=HH1.out
       rw [hif,List.append_nil] at hH
       have HE:=toHid hH
       have z1:(d.kind == 1)=false:=by rw [beq_eq_false_iff_ne];omega
       have z2:(d.kind == 2)=false:=by rw [beq_eq_false_iff_ne];omega
       clear hTl hH hif c3 c4 c5 hB1s hAs
       go_wp2_with fail
       go_meet
       exact ⟨_,rfl,HE,hbw⟩
     case rest =>
     obtain ⟨B2,rfl,hB2,hbw2⟩:=hcut
     clear c1 c2 hB1s hAs HH1 HRd HTl
     go_wp2_with fail
     go_loopg [4,7] (d.f.length+1) (fun gj v4 v7 wy => ∃ (j:Nat) (B:ByteArray),gj=d.f.length+1 - j∧j≤d.f.length∧v4 = .string B∧v7 = .int .i64 (j:Int)∧Hid (lsB B=(lsB A++mHeadL T k d)++((d.f.take j).map (mFldL out)).flatten)∧Below w1.heap.size w1 wy)
     case atStart=>exact ⟨0,B2,rfl,Nat.zero_le _,rfl,rfl,by show _=_;rw [hB2.out];simp,hbw2.out⟩
     case round =>
      obtain ⟨j,B,hgj,hj,rfl,rfl,hBj,hby⟩:=hrel
      have HGj:=toHid hgj
      have hj0:(0:Int)≤(j:Int):=by omega
      obtain ⟨c1,c3,_,_⟩:=HC2.out wr hby
      have hBs:B.size+1≤8000000:=by
       have h:=congrArg List.length hBj.out
       have h2:=flat_take (mFldL out) d.f j
       have h3:=HTot.out
       rw [lsB_size,List.length_append,List.length_append] at h
       omega
      have HBy:=toHid hby
      clear hgj
      by_cases hlj:j<d.f.length
      ·have hJ:(j:Int)<(d.f.length:Int):=by omega
       obtain ⟨c,hc⟩:∃ c,d.f[j]?=some c:=⟨_,List.getElem?_eq_getElem hlj⟩
       obtain ⟨e9,e0,e1,e2⟩:=(HG.out.below (HB1.out.trans (hby.mono HB1.out.size))).field HD.out hc
       rw [e9] at c3
       have hcm:=List.mem_of_getElem? hc
       have hcw:=HW.out.flds d (List.mem_of_getElem? HD.out) c hcm
       have km:=cellText_any g.ν out c hcw.1 (by omega) (fun h=>by rw [HO.out];exact HC.out.flds i (by rw [←HO.out];exact List.mem_of_getElem? HI.out) d HD.out c hcm h) (fun h4 i hi e=>hinj.out c hcw.2 h4 i hi e) (some ⟨p1,o1,none⟩) oc wr (HRow1.out.below hby) ((HG.out.below (HB1.out.trans (hby.mono HB1.out.size))).nodesAt _ (fun i hi=>hi.elim (fun h=>hAl.out i h) (fun h=>by rw [h.2];exact hcw.2 h.1)))
       have hnx:=take_next (mFldL out) hc
       have hts:B.size+1+(cellB out c).size≤8000000:=by
        have h:=congrArg List.length hBj.out
        have h2:=flat_take (mFldL out) d.f (j+1)
        have h3:=HTot.out
        have h4:=congrArg List.length hnx
        rw [lsB_size,List.length_append,List.length_append] at h
        rw [List.length_append] at h4
        have h5:(mFldL out c).length=1+(cellB out c).size:=by unfold mFldL;rw [List.length_append,lsB_size];rfl
        omega
       have HLS:Hid (lsB ((B++⟨#[32]⟩)++cellB out c)=(lsB A++mHeadL T k d)++((d.f.take (j+1)).map (mFldL out)).flatten):=by
        show _=_
        rw [lsB_app,lsB_app,hBj.out,hnx]
        unfold mFldL
        simp [lsB]
       have a6:=fun wx=>run_string_add_sum (P:=Tryz.prog) (w:=wx) B ⟨#[32]⟩ (by show B.size+1≤_;omega)
       have a7:=fun wx=>run_string_add_sum (P:=Tryz.prog) (w:=wx) (B++⟨#[32]⟩) (cellB out c) (by rw [ByteArray.size_append];show B.size+1+_≤_;omega)
       clear hcw hc hcm hnx hBj e9 hby
       generalize cellB out c=tx at *
       generalize c.kind=ck at *
       generalize c.n=cn at *
       generalize pfC g.ν c=cp at *
       go_wp2_with fail
       refine km.mono ?_
       clear km e0 e1 e2 c1 c3
       rintro ev w5 ⟨rfl,b5⟩
       have HB5:=toHid (HBy.out.trans (b5.mono HBy.out.size))
       clear b5
       go_wp2_with fail
       go_roundg (d.f.length+1 - (j+1))
       case measure=>have:=HGj.out;omega
       case rel=>exact ⟨j+1,_,rfl,by omega,rfl,by go_num,HLS,HB5.out⟩
      ·have hJ:¬ (j:Int)<(d.f.length:Int):=by omega
       have hjj:d.f.take j=d.f:=List.take_of_length_le (by omega)
       have a8:=fun wx=>run_string_add_sum (P:=Tryz.prog) (w:=wx) B ⟨#[10]⟩ (by show B.size+1≤_;omega)
       have HLS:Hid (lsB (B++⟨#[10]⟩)=(M.R.map (mRootL out)).flatten++mObjLs T M out (k+1)):=by
        show _=_
        rw [HNext.out,lsB_app,hBj.out,hjj]
        simp [lsB]
       clear hBj hjj hby
       go_wp2_with fail
       go_roundg (out.length+1 - (k+1))
       case measure=>have:=HGk.out;omega
       case rel=>exact ⟨k+1,_,rfl,by omega,rfl,by go_num,HLS,HBy.out⟩
    ·have hI:¬ (k:Int)<(out.length:Int):=by omega
     obtain rfl:k=out.length:=by omega
     have hE:A=Z:=lsB_inj (by rw [hA.out,HTX.out])
     subst hE
     go_wp2_with fail
     go_ret
     exact ⟨rfl,HB1.out.trans (HB.out.mono HB1.out.size)⟩
end Go.Proofs.YtlkcbdinlfeoiabGreatDoor
namespace Go.Proofs.YtlkcbdinlfeoiabGreatDoor
open Go.RowKit

variable {g:GP}{M:MO}{X:MXtra}{w w':World}
theorem cellsV_set (ν:Nat→Nat) (c:CL):∀ (l:List CL) (k:Nat),k<l.length→(((cellsV ν l).set (k*3) (.int .i64 (c.kind:Int))).set (k*3+1) (.int .i64 c.n)).set (k*3+2) (.pointer (pfC ν c))=cellsV ν (l.set k c)
 | [],_,h=>absurd h (by simp)
 | x::l,0,_=>rfl
 | x::l,k+1,h=>by
  have ih:=cellsV_set ν c l k (by simpa using h)
  have e1:(k+1)*3=k*3+3:=by omega
  have e2:(k+1)*3+1=(k*3+1)+3:=by omega
  have e3:(k+1)*3+2=(k*3+2)+3:=by omega
  rw [e2,e3,e1]
  show (((cellV ν x++cellsV ν l).set (k*3+3) _).set (k*3+1+3) _).set (k*3+2+3) _=cellV ν x++cellsV ν (l.set k c)
  rw [←ih]
  rfl
theorem gty_q (G:GAt g M X w):Ty w g.q 72:=⟨_,G.model⟩
theorem gty_b (G:GAt g M X w):Ty w g.b 75:=⟨_,G.roots⟩
theorem gty_n (G:GAt g M X w) {i:Nat}{d:ND} (hd:M.N[i]?=some d):Ty w (g.ν i) 78:=⟨_,(G.nodes i d hd).node⟩
theorem gty_f (G:GAt g M X w) {i:Nat}{d:ND} (hd:M.N[i]?=some d) (h:0<d.f.length):Ty w (g.φ i) 75:=⟨_,((G.nodes i d hd).flds h).2⟩
theorem GAt.rootSet (G:GAt g M X w) (ha:Aside (fun k=>k=g.b) w w') {r:Nat}{c:CL} (hb:w'.heap[g.b]?=some (.cells (cellsV g.ν (M.R.set r c)).toArray 75)):GAt g (M.set r c) X w' where
 model:=by
  have h:=(ha.block _ (gty_q G).lt ((gty_q G).ne (gty_b G) (by decide))).trans G.model
  show _=some (Obj.cells #[.slice _ (M.R.set r c).length (M.R.set r c).length,_,_] _)
  rw [List.length_set]
  exact h
 roots:=hb
 nodes i d hd:=by
  have hd:M.N[i]?=some d:=hd
  have n:=G.nodes i d hd
  exact ⟨(ha.block _ (gty_n G hd).lt ((gty_n G hd).ne (gty_b G) (by decide))).trans n.node,fun h=>⟨(n.flds h).1,(ha.block _ (gty_f G hd h).lt (G.fb i d hd h)).trans (n.flds h).2⟩⟩
 inj:=G.inj
 finj:=G.finj
 fb:=G.fb
 weak:=ownsRow_far' G.weak (fun k hk=>ha.block k (own_lt2 G.weak k hk).2 ((own_ty G.weak hk).ne (gty_b G) (by decide)))
theorem GAt.fieldSet (G:GAt g M X w) {i k:Nat}{d:ND}{c:CL} (hd:M.N[i]?=some d) (hk:k<d.f.length) (ha:Aside (fun k=>k=g.φ i) w w') (hb:w'.heap[g.φ i]?=some (.cells (cellsV g.ν (d.f.set k c)).toArray 75)):GAt g (M.putN i d k c) X w':=by
 have h0:0<d.f.length:=by omega
 have hf:=gty_f G hd h0
 have hil:i<M.N.length:=(List.getElem?_eq_some_iff.1 hd).1
 have hN:(M.putN i d k c).N=M.N.set i { d with f:=d.f.set k c }:=rfl
 have hat:∀ j e,(M.putN i d k c).N[j]?=some e→(j=i∧e = { d with f:=d.f.set k c })∨(j≠i∧M.N[j]?=some e):=fun j e he=>by
  rw [hN] at he
  by_cases hj:j=i
  ·subst hj
   rw [List.getElem?_set_self hil] at he
   exact .inl ⟨rfl,(Option.some.inj he).symm⟩
  ·rw [List.getElem?_set_ne (fun q=>hj q.symm)] at he
   exact .inr ⟨hj,he⟩
 have hln:∀ (j:Nat) (e:ND),(M.putN i d k c).N[j]?=some e → ∃ e':ND,M.N[j]?=some e'∧e'.f.length=e.f.length:=fun j e he=>by
  rcases hat j e he with ⟨rfl,rfl⟩ | ⟨_,h⟩
  ·exact ⟨d,hd,by show _=(d.f.set k c).length;rw [List.length_set]⟩
  ·exact ⟨e,h,rfl⟩
 refine ⟨(ha.block _ (gty_q G).lt ((gty_q G).ne hf (by decide))).trans G.model,(ha.block _ (gty_b G).lt (fun e=>G.fb i d hd h0 e.symm)).trans G.roots,fun j e he => ?_,fun j l hj hl e => ?_,fun j l e1 e2 h1 h2 p1 p2 e => ?_,fun j e he p => ?_,?_⟩
 ·rcases hat j e he with ⟨rfl,rfl⟩ | ⟨hj,h⟩
  ·have n:=G.nodes j d hd
   refine ⟨?_,fun _=>⟨(n.flds h0).1,hb⟩⟩
   have h:=(ha.block _ (gty_n G hd).lt ((gty_n G hd).ne hf (by decide))).trans n.node
   show _=some (Obj.cells #[_,.slice _ (d.f.set k c).length (d.f.set k c).length,_,_,_] _)
   rw [List.length_set]
   exact h
  ·have n:=G.nodes j e h
   exact ⟨(ha.block _ (gty_n G h).lt ((gty_n G h).ne hf (by decide))).trans n.node,fun p=>⟨(n.flds p).1,(ha.block _ (gty_f G h p).lt (fun q=>hj (G.finj j i e d h hd p h0 q))).trans (n.flds p).2⟩⟩
 ·rw [hN,List.length_set] at hj hl
  exact G.inj j l hj hl e
 ·obtain ⟨e1',q1,r1⟩:=hln j e1 h1
  obtain ⟨e2',q2,r2⟩:=hln l e2 h2
  exact G.finj j l e1' e2' q1 q2 (by omega) (by omega) e
 ·obtain ⟨e',q,r⟩:=hln j e he
  exact G.fb j e' q (by omega)
 ·exact ownsRow_far' G.weak (fun k hk=>ha.block k (own_lt2 G.weak k hk).2 ((own_ty G.weak hk).ne hf (by decide)))
def GP.more (g:GP) (n n0 f0:Nat) (fa:Option Addr) (x:Int) (s:ByteArray):GP:={ g with ν:=fun i=>if i=n then n0 else g.ν i,φ:=fun i=>if i=n then f0 else g.φ i,fa:=fun i=>if i=n then fa else g.fa i,xn:=fun i=>if i=n then x else g.xn i,xs:=fun i=>if i=n then s else g.xs i }
theorem GAt.laid (G:GAt g M X w) (W1:∀ c∈M.R,c.kind=4→c.ref<M.N.length) (W2:∀ e∈M.N,∀ c∈e.f,c.kind=4→c.ref<M.N.length) (hK:∀ i∈X.K,i<M.N.length) (hser:X.ser M.N.length=0) {n0 f0:Nat}{fa:Option Addr}{x:Int}{s:ByteArray}{d:ND} (hb:Below w.heap.size w w') (h0:w.heap.size≤n0) (h1:w.heap.size≤f0)
  (hn:w'.heap[n0]?=some (.cells #[.int .i64 d.kind,.slice fa d.f.length d.f.length,.int .i64 x,.string s,.int .i64 0] 78))
  (hf:0<d.f.length→fa=some ⟨f0,0,none⟩∧w'.heap[f0]?=some (.cells (cellsV g.ν d.f).toArray 75)) (hd:∀ c∈d.f,c.kind=4→c.ref<M.N.length) :
  GAt (g.more M.N.length n0 f0 fa x s) { M with N:=M.N ++ [d] } X w':=by
 obtain ⟨n,hnn⟩:∃ n,n=M.N.length:=⟨_,rfl⟩
 rw [←hnn] at hK hser hd ⊢
 have G':=G.below hb
 have eν:∀ i,i<n→(g.more n n0 f0 fa x s).ν i=g.ν i:=fun i hi=>if_neg (by omega)
 have eφ:∀ i,i<n→(g.more n n0 f0 fa x s).φ i=g.φ i:=fun i hi=>if_neg (by omega)
 have ea:∀ i,i<n→(g.more n n0 f0 fa x s).fa i=g.fa i:=fun i hi=>if_neg (by omega)
 have ex:∀ i,i<n→(g.more n n0 f0 fa x s).xn i=g.xn i:=fun i hi=>if_neg (by omega)
 have es:∀ i,i<n→(g.more n n0 f0 fa x s).xs i=g.xs i:=fun i hi=>if_neg (by omega)
 have nν:(g.more n n0 f0 fa x s).ν n=n0:=if_pos rfl
 have nφ:(g.more n n0 f0 fa x s).φ n=f0:=if_pos rfl
 have na:(g.more n n0 f0 fa x s).fa n=fa:=if_pos rfl
 have nx:(g.more n n0 f0 fa x s).xn n=x:=if_pos rfl
 have ns:(g.more n n0 f0 fa x s).xs n=s:=if_pos rfl
 have ec:∀ l:List CL,(∀ c∈l,c.kind=4→c.ref<n)→cellsV (g.more n n0 f0 fa x s).ν l=cellsV g.ν l:=fun l hl=>cellsV_congr (fun c hc h4=>eν _ (hl c hc h4))
 have hat:∀ j e,(M.N ++ [d])[j]?=some e→(j=n∧e=d)∨(j<n∧M.N[j]?=some e):=fun j e he=>by
  by_cases hj:j<M.N.length
  ·rw [List.getElem?_append_left hj] at he
   exact .inr ⟨by omega,he⟩
  ·rw [List.getElem?_append_right (by omega)] at he
   have hl:=(List.getElem?_eq_some_iff.1 he).1
   simp only [List.length_cons,List.length_nil] at hl
   have hj0:j - M.N.length=0:=by omega
   rw [hj0] at he
   exact .inl ⟨by omega,(Option.some.inj he).symm⟩
 have lt1:∀ j e,M.N[j]?=some e→g.ν j<w.heap.size:=fun j e he=>(gty_n G he).lt
 have lt2:∀ j e,M.N[j]?=some e→0<e.f.length→g.φ j<w.heap.size:=fun j e he p=>(gty_f G he p).lt
 refine ⟨G'.model,?_,fun j e he => ?_,fun j l hj hl e => ?_,fun j l e1 e2 h1' h2' p1 p2 e => ?_,fun j e he p => ?_,?_⟩
 ·rw [ec _ (fun c hc h4=>by rw [hnn];exact W1 c hc h4)]
  exact G'.roots
 ·rcases hat j e he with ⟨rfl,rfl⟩ | ⟨hj,h⟩
  ·refine ⟨?_,fun p => ?_⟩
   ·rw [nν,na,nx,ns,hser];exact hn
   ·rw [nφ,na,ec _ hd];exact hf p
  ·have nd:=G'.nodes j e h
   have hem:=List.mem_of_getElem? h
   refine ⟨?_,fun p => ?_⟩
   ·rw [eν j hj,ea j hj,ex j hj,es j hj];exact nd.node
   ·rw [eφ j hj,ea j hj,ec _ (fun c hc h4=>by rw [hnn];exact W2 e hem c hc h4)];exact nd.flds p
 ·have hj:j<(M.N ++ [d]).length:=hj
  have hl:l<(M.N ++ [d]).length:=hl
  rw [List.length_append] at hj hl
  simp only [List.length_cons,List.length_nil] at hj hl
  have hx:∀ k,k<n→g.ν k<w.heap.size:=fun k hk=>lt1 k _ (List.getElem?_eq_getElem (by omega))
  by_cases ej:j=n
  ·by_cases el:l=n
   ·omega
   ·rw [ej,nν,eν l (by omega)] at e
    have:=hx l (by omega)
    omega
  ·by_cases el:l=n
   ·rw [el,nν,eν j (by omega)] at e
    have:=hx j (by omega)
    omega
   ·rw [eν j (by omega),eν l (by omega)] at e
    exact G.inj j l (by omega) (by omega) e
 ·rcases hat j e1 h1' with ⟨rfl,rfl⟩ | ⟨hj,q1⟩
  ·rcases hat l e2 h2' with ⟨rfl,rfl⟩ | ⟨hl,q2⟩
   ·rfl
   ·rw [nφ,eφ l hl] at e
    have:=lt2 l e2 q2 p2
    omega
  ·rcases hat l e2 h2' with ⟨rfl,rfl⟩ | ⟨hl,q2⟩
   ·rw [nφ,eφ j hj] at e
    have:=lt2 j e1 q1 p1
    omega
   ·rw [eφ j hj,eφ l hl] at e
    exact G.finj j l e1 e2 q1 q2 p1 p2 e
 ·show (g.more n n0 f0 fa x s).φ j≠g.b
  rcases hat j e he with ⟨rfl,rfl⟩ | ⟨hj,q⟩
  ·rw [nφ]
   have:=(gty_b G).lt
   omega
  ·rw [eφ j hj];exact G.fb j e q p
 ·have:ptrsV (g.more n n0 f0 fa x s).ν X.K=ptrsV g.ν X.K:=by
   unfold ptrsV
   exact List.map_congr_left fun i hi=>by rw [eν i (hK i hi)]
  rw [this]
  exact G'.weak
theorem MWf.set (W:MWf M) (r:Nat) {c:CL} (hc:CLok c) (hr:c.kind=4→c.ref<M.N.length):MWf (M.set r c) where
 roots x hx:=by
  have hx:x∈M.R.set r c:=hx
  rcases List.mem_or_eq_of_mem_set hx with q | rfl
  ·exact W.roots x q
  ·exact ⟨hc,hr⟩
 flds:=W.flds
 raw:=W.raw
 rfew:=by show (M.R.set r c).length≤5000;rw [List.length_set];exact W.rfew
 nfew:=W.nfew
 ffew:=W.ffew
theorem MWf.laid (W:MWf M) {d:ND} (hd:∀ c∈d.f,CLok c∧(c.kind=4→c.ref<M.N.length)) (hr:d.kind<8→d.f = []) (hf:d.f.length≤5000) (hn:M.N.length<5000):MWf { M with N:=M.N ++ [d] } where
 roots x hx:=⟨(W.roots x hx).1,fun h=>by have:=(W.roots x hx).2 h;show _<(M.N ++ [d]).length;rw [List.length_append];omega⟩
 flds e he c hc:=by
  have he:e∈M.N ++ [d]:=he
  show _∧(_→_<(M.N ++ [d]).length)
  rw [List.length_append]
  rcases List.mem_append.1 he with q | q
  ·exact ⟨(W.flds e q c hc).1,fun h=>by have:=(W.flds e q c hc).2 h;omega⟩
  ·rw [List.mem_singleton.1 q] at hc
   exact ⟨(hd c hc).1,fun h=>by have:=(hd c hc).2 h;omega⟩
 raw e he:=by
  have he:e∈M.N ++ [d]:=he
  rcases List.mem_append.1 he with q | q
  ·exact W.raw e q
  ·rw [List.mem_singleton.1 q];exact hr
 rfew:=W.rfew
 nfew:=by show (M.N ++ [d]).length≤5000;rw [List.length_append];simp;omega
 ffew e he:=by
  have he:e∈M.N ++ [d]:=he
  rcases List.mem_append.1 he with q | q
  ·exact W.ffew e q
  ·rw [List.mem_singleton.1 q];exact hf
theorem MWf.made (W:MWf M) (r:Nat) {d:ND} (hd:∀ c∈d.f,CLok c∧(c.kind=4→c.ref<M.N.length)) (hr:d.kind<8→d.f = []) (hf:d.f.length≤5000) (hn:M.N.length<5000):MWf (M.made r d):=by
 have h:=(W.laid hd hr hf hn).set r (c:=⟨4,0,M.N.length⟩) ⟨Nat.le_refl 4,fun h=>absurd (show (4:Nat)=3 from h) (by decide),fun h=>absurd (show (4:Nat)=3 from h) (by decide)⟩ (fun _=>by show M.N.length<(M.N ++ [d]).length;rw [List.length_append];simp)
 exact h
theorem MWf.putN (W:MWf M) {i k:Nat}{d:ND}{v:CL} (hd:M.N[i]?=some d) (h8:¬ d.kind<8) (hv:CLok v∧(v.kind=4→v.ref<M.N.length)):MWf (M.putN i d k v) where
 roots x hx:=⟨(W.roots x hx).1,fun h=>by have:=(W.roots x hx).2 h;show _<(M.N.set _ _).length;rw [List.length_set];omega⟩
 flds e he c hc:=by
  have he:e∈M.N.set i { d with f:=d.f.set k v }:=he
  show _∧(_→_<(M.N.set _ _).length)
  rw [List.length_set]
  rcases List.mem_or_eq_of_mem_set he with q | rfl
  ·exact W.flds e q c hc
  ·rcases List.mem_or_eq_of_mem_set hc with q | rfl
   ·exact W.flds d (List.mem_of_getElem? hd) c q
   ·exact hv
 raw e he:=by
  have he:e∈M.N.set i { d with f:=d.f.set k v }:=he
  rcases List.mem_or_eq_of_mem_set he with q | rfl
  ·exact W.raw e q
  ·exact fun h=>absurd h h8
 rfew:=W.rfew
 nfew:=by show (M.N.set _ _).length≤5000;rw [List.length_set];exact W.nfew
 ffew e he:=by
  have he:e∈M.N.set i { d with f:=d.f.set k v }:=he
  rcases List.mem_or_eq_of_mem_set he with q | rfl
  ·exact W.ffew e q
  ·show (d.f.set k v).length≤5000
   rw [List.length_set];exact W.ffew d (List.mem_of_getElem? hd)
end Go.Proofs.YtlkcbdinlfeoiabGreatDoor
namespace Go.Proofs.YtlkcbdinlfeoiabGreatDoor
open Go.RowKit

variable {g:GP}{M:MO}{X:MXtra}{w w':World}
def GP.own (g:GP) (M:MO) (k:Nat):Prop:=k=g.q∨k=g.b∨(∃ i d,M.N[i]?=some d∧k=g.ν i)∨(∃ i d,M.N[i]?=some d∧0<d.f.length∧k=g.φ i)∨g.wv.ownBlock=some k
theorem GAt.ty (G:GAt g M X w) {k:Nat} (hk:g.own M k):Ty w k 72∨Ty w k 75∨Ty w k 78∨Ty w k 73:=by
 rcases hk with rfl | rfl | ⟨i,d,hd,rfl⟩ | ⟨i,d,hd,h0,rfl⟩ | hk
 ·exact .inl (gty_q G)
 ·exact .inr (.inl (gty_b G))
 ·exact .inr (.inr (.inl (gty_n G hd)))
 ·exact .inr (.inl (gty_f G hd h0))
 ·exact .inr (.inr (.inr (own_ty G.weak hk)))
theorem HAt.ty {h:HP}{sr:Int}{m:MD} (H:HAt h sr m w) {k:Nat} (hk:h.own k):Ty w k 58∨Ty w k 54∨Ty w k 50∨Ty w k 4∨Ty w k 65:=by
 rcases hk with rfl | rfl | rfl | rfl | hk | hk | hk
 ·exact .inl H.tq
 ·exact .inr (.inl H.tp)
 ·exact .inr (.inr (.inl H.tW))
 ·exact .inr (.inr (.inr (.inl H.tC)))
 ·exact .inr (.inr (.inl (rowB_ty H.R hk)))
 ·exact .inr (.inr (.inl (own_ty H.K hk)))
 ·exact .inr (.inr (.inr (.inr (own_ty H.I hk))))
theorem GAt.aside (G:GAt g M X w) {Y:Nat→Prop} (ha:Aside Y w w') (hx:∀ k,g.own M k → ¬ Y k):GAt g M X w' where
 model:=(ha.block _ (gty_q G).lt (hx _ (.inl rfl))).trans G.model
 roots:=(ha.block _ (gty_b G).lt (hx _ (.inr (.inl rfl)))).trans G.roots
 nodes i d hd:=by
  have n:=G.nodes i d hd
  exact ⟨(ha.block _ (gty_n G hd).lt (hx _ (.inr (.inr (.inl ⟨i,d,hd,rfl⟩))))).trans n.node,fun h=>⟨(n.flds h).1,(ha.block _ (gty_f G hd h).lt (hx _ (.inr (.inr (.inr (.inl ⟨i,d,hd,h,rfl⟩)))))).trans (n.flds h).2⟩⟩
 inj:=G.inj
 finj:=G.finj
 fb:=G.fb
 weak:=ownsRow_far' G.weak (fun k hk=>ha.block k (own_lt2 G.weak k hk).2 (hx k (.inr (.inr (.inr (.inr hk))))))
theorem gnew_any (n:Nat) (hn:n≤5000) (w:World) :
  Calls Tryz.prog 13 #[.int .i64 (n:Int)] w fun ev w' => ∃ g,ev = .returned (.pointer (some ⟨g.q,0,none⟩))∧GAt g (MO.new n) MXtra.new w'∧Below w.heap.size w w' ∧ ∀ k,g.own (MO.new n) k→w.heap.size≤k:=by
 have hm:=make_cellsT n hn
 go_enter Tryz.func13,Tryz.ntmps13
 go_wp2_with fail
 clear hm
 obtain ⟨w1,hw1⟩:∃ w1,w1=w.alloc (.cells (madeCells #[.int .i64 0,.int .i64 0,.pointer none] (n*3)) 75):=⟨_,rfl⟩
 have b1:Below w.heap.size w w1:=by rw [hw1];exact (Below.refl _ _).alloc (Nat.le_refl _) _
 have hs1:w1.heap.size=w.heap.size+1:=by rw [hw1];simp
 have hn1:w1.heap[w.heap.size]?=some (.cells (madeCells #[.int .i64 0,.int .i64 0,.pointer none] (n*3)) 75):=by rw [hw1];exact heap_alloc_new _ _
 rw [←hw1,←hs1]
 have b2:Below w1.heap.size w1 (w1.alloc (.cells #[.slice (some ⟨w.heap.size,0,none⟩) n n,.slice none 0 0,.int .i64 0] 72)):=(Below.refl _ _).alloc (Nat.le_refl _) _
 have hn2:=(b2.block _ (lt_of_heap hn1)).trans hn1
 have hm2:=heap_alloc_new w1 (.cells #[.slice (some ⟨w.heap.size,0,none⟩) n n,.slice none 0 0,.int .i64 0] 72)
 go_ret
 refine ⟨⟨w1.heap.size,w.heap.size,fun i=>i,fun i=>i,fun _=>none,fun _=>0,fun _=>⟨#[]⟩,.slice none 0 0⟩,rfl,⟨?_,?_,fun i d hd=>(by cases hd),fun i j hi=>absurd hi (by show ¬ i<0;omega),fun i j d e hd=>(by cases hd),fun i d hd=>(by cases hd),⟨rfl,.inl ⟨rfl,rfl⟩⟩⟩,b1.trans (b2.mono b1.size),fun k hk => ?_⟩
 ·show _=some (Obj.cells #[.slice _ (List.replicate n (⟨0,0,0⟩:CL)).length (List.replicate n (⟨0,0,0⟩:CL)).length,_,_] _)
  rw [List.length_replicate]
  exact hm2
 ·show _=some (Obj.cells (cellsV (fun i=>i) (List.replicate n ⟨0,0,0⟩)).toArray _)
  rw [←made_rep]
  exact hn2
 ·rcases hk with rfl | rfl | ⟨i,d,hd,_⟩ | ⟨i,d,hd,_⟩ | hk
  ·show _≤w1.heap.size;omega
  ·exact Nat.le_refl _
  ·cases hd
  ·cases hd
  ·cases hk
theorem MWf.new (n:Nat) (hn:n≤5000):MWf (MO.new n) where
 roots c hc:=by
  have hc:c∈List.replicate n (⟨0,0,0⟩:CL):=hc
  rw [(List.mem_replicate.1 hc).2]
  exact ⟨⟨by decide,by decide,by decide⟩,fun h=>absurd (show (0:Nat)=4 from h) (by decide)⟩
 flds d hd:=by cases hd
 raw d hd:=by cases hd
 rfew:=by show (List.replicate n _).length≤5000;rw [List.length_replicate];exact hn
 nfew:=by show 0≤5000;omega
 ffew d hd:=by cases hd
end Go.Proofs.YtlkcbdinlfeoiabGreatDoor
namespace Go.Proofs.YtlkcbdinlfeoiabGreatDoor
open Go.RowKit

theorem cellB_szH (out:List Nat) (ho:out.length≤300000) {c:CL} (hk:CLok c):(cellB out c).size≤22:=by
 have hr:=objI_range out (c.ref:Int)
 unfold cellB
 split
 ·split
  ·decide
  ·rw [ByteArray.size_append]
   have:=decB_size (objI out (c.ref:Int)) (by omega) (by omega)
   show 1+_≤22
   omega
 ·split
  ·rename_i h3
   have h1:=hk.lo h3
   have h2:=hk.hi h3
   have:=decB_size c.n (by omega) (by omega)
   omega
  ·unfold constB
   split
   ·decide
   ·split <;> decide
theorem text_few (T:Int→List Int→ByteArray) {M:MO} (W:MWf M) (F t:Nat) (hF:∀ d∈M.N,d.f.length≤F) (hk:∀ d∈M.N,0≤d.kind∧d.kind≤255) (hT:∀ d∈M.N,d.kind<8→(T d.kind d.raw).size≤t):(M.text T).size≤28*M.R.length+M.N.length*(50+t+23*F):=by
 have ha:=W.all.len
 have hn:=W.nfew
 have h1:=flat_lenH (mRootL M.all) 28 M.R (fun c hc=>by
  have:=cellB_szH M.all (by omega) (W.roots c hc).1
  unfold mRootL
  rw [List.length_append,List.length_append,lsB_size,lsB_size]
  show 5+_+1≤28
  omega)
 have h2:=flat_lenH (mObjL T M M.all) (50+t+23*F) (List.range M.all.length) (fun i hi=>by
  have hi:=List.mem_range.1 hi
  unfold mObjL
  split
  ·rename_i d hd
   have hdm:=List.mem_of_getElem? hd
   have q1:=decB_size (i:Int) (by omega) (by omega)
   have q2:=decB_size d.kind (by have:=hk d hdm;omega) (by have:=hk d hdm;omega)
   have q3:=flat_lenH (mFldL M.all) 23 d.f (fun c hc=>by
    have:=cellB_szH M.all (by omega) (W.flds d hdm c hc).1
    unfold mFldL
    rw [List.length_append,lsB_size]
    show 1+_≤23
    omega)
   have q4:=hF d hdm
   have q5:(if d.kind<8 then lsB (T d.kind d.raw) else []).length≤t:=by
    split
    ·rename_i h8;exact hT d hdm h8
    ·simp
   unfold mHeadL
   rw [List.length_append,List.length_append,List.length_append,List.length_append,List.length_append,lsB_size,lsB_size]
   simp only [List.length_cons,List.length_nil]
   omega
  ·simp)
 rw [List.length_range] at h2
 have h3:(50+t+23*F)*M.all.length≤M.N.length*(50+t+23*F):=by rw [Nat.mul_comm];exact Nat.mul_le_mul_right _ ha
 have h:=congrArg List.length (text_lt (T:=T) W)
 rw [lsB_size,List.length_append] at h
 unfold mObjLs at h
 omega
end Go.Proofs.YtlkcbdinlfeoiabGreatDoor
