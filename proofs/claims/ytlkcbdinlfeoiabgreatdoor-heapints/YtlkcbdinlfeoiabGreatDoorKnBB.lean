/- IDs whose objects were come to, by their serials (known), by a contract. -/
import Derived.Test.YtlkcbdinlfeoiabGreatDoorMemGV
import Derived.Test.YtlkcbdinlfeoiabGreatDoorKnBA
import Derived.Deep.AppendLies
import Derived.Test.YtlkcbdinlfeoiabGreatDoorMemGX
import Derived.Test.YtlkcbdinlfeoiabGreatDoorMemGH
namespace Go.Proofs.YtlkcbdinlfeoiabGreatDoor
open Go.RowKit Go.Maps

theorem infoID:∃ i0,Tryz.prog.info? 65=some i0∧i0.zero=some (.agg #[.int .u64 0,.int .i64 0])∧i0.size=2∧i0.bytes=16:=info_parts (by kernel_rfl)
def hasI (out:List Nat) (x:Int × Int):Bool:=decide (0≤objI out (ptI x.1))
theorem has_of {D:DataW Unit}{out:List Nat} (hD:GNum D out) {nH:Nat}{hb:Nat→Bool}{x:Int} (hn:nH≤300000) (h:ptrB nH hb x=true):Maps.has D (.int .u64 x)=decide (0≤objI out (ptI x)):=by
 unfold ptrB at h
 simp only [Bool.and_eq_true,decide_eq_true_eq] at h
 obtain ⟨f,hf⟩:∃ f:Nat,x=((f:Int)+1)*4:=⟨(x / 4 - 1).toNat,by omega⟩
 have hpt:ptI x=(f:Int):=by
  unfold ptI
  rw [if_pos (by omega)]
  omega
 rw [hpt,hf,hD.has]
 by_cases hm:f∈out
 ·rw [decide_eq_true hm,decide_eq_true (objI_mem.2 hm)]
 ·rw [decide_eq_false hm,decide_eq_false (fun h=>hm (objI_mem.1 h))]
theorem idsV_snocW (l:List (Int × Int)) (x:Int × Int):idsV (l ++ [x])=idsV l ++ [.int .u64 x.1,.int .i64 x.2]:=by simp [idsV]
theorem filter_step {I:List (Int × Int)}{p:Int × Int→Bool}{k:Nat}{x:Int × Int} (h:I[k]?=some x):(I.take (k+1)).filter p=(I.take k).filter p++(if p x then [x] else []):=by
 rw [List.take_add_one,h,List.filter_append]
 cases hp:p x <;> simp [hp]
def KnownPost (out:List Nat) (I:List (Int × Int)) (w:World) (ev:Ending) (w':World):Prop:=∃ v,ev = .returned v∧RowT 65 w' v ((ordI I).filter (hasI out)).length (idsV ((ordI I).filter (hasI out)))∧Below w.heap.size w w'
set_option maxHeartbeats 4000000 in
set_option maxRecDepth 100000 in
theorem known_any (bm n ol oc nH:Nat) (hbf:Nat→Bool) (hnH:nH≤300000) (oo:Option Addr) (D:DataW Unit) (out:List Nat) (hD:GNum D out) (I:List (Int × Int)) (h64:Ids64 I) (hok:idsB nH hbf I=true) (hl:I.length≤300000) (ao:Option Addr) (cap:Nat) (w:World) (hM:w.ownsMap Tryz.prog 50 (plainElem Tryz.prog 3) bm n D) (hR:RowV w (.slice ao I.length cap) I.length (idsV I)) :
  Calls Tryz.prog 62 #[.agg #[.slice oo ol oc,.map (some bm)],.slice ao I.length cap] w (KnownPost out I w):=by
 have HD:=toHid hD
 have HM:=toHid hM
 have HR:=toHid hR
 have H6:=toHid h64
 have HK:=toHid hok
 obtain ⟨i0,hi0,hz0,hz1,hz2⟩:=infoID
 obtain ⟨PP,hPP⟩:∃ PP,PP=KnownPost out I w:=⟨_,rfl⟩
 rw [←hPP]
 have HPP:=toHid hPP
 clear hD hM hR h64 hok hPP
 go_enter Tryz.func62,Tryz.ntmps62
 go_upto_block 0 with fail
 obtain ⟨w1,hw1⟩:∃ w1,w1=w.alloc (.cells #[.slice oo ol oc,.map (some bm)] 120):=⟨_,rfl⟩
 obtain ⟨q,hq⟩:∃ q,q=w.heap.size:=⟨_,rfl⟩
 have gb:w1.heap[q]?=some (.cells #[.slice oo ol oc,.map (some bm)] 120):=by rw [hw1,hq];exact heap_alloc_new _ _
 have b1:Below w.heap.size w w1:=by rw [hw1];exact (Below.refl _ _).alloc (Nat.le_refl _) _
 have g1:w1.cell? ⟨q,1,none⟩=some (.map (some bm)):=by rw [cell_of_row _ _ 1 _ _ _ gb];rfl
 rw [←hw1,←hq]
 have HG1:=toHid g1
 have HB1:=toHid b1
 have HM1:=toHid (own_kept3 HM.out b1)
 have HR1:=toHid (HR.out.below b1)
 clear hw1 hq gb b1 g1 HM HR
 go_wp2_with fail
 go_loopg [5,12] (I.length+1) (fun gk vo vi wr => ∃ (k ml cp:Nat) (oa:Option Addr),gk=I.length+1 - k∧k≤I.length∧vi = .int .i64 (k:Int)∧vo = .slice oa ml cp∧Below w1.heap.size w1 wr∧Hid (ml=((I.take k).filter (hasI out)).length)∧Hid (wr.ownsRow w1.heap.size 65 2 (.slice oa ml cp) ((I.take k).filter (hasI out)).length (idsV ((I.take k).filter (hasI out)))))
 case atStart=>exact ⟨0,0,0,none,rfl,Nat.zero_le _,rfl,rfl,Below.refl _ _,rfl,World.ownsRow_nil _ _ _ _⟩
 case round =>
  obtain ⟨k,ml,cp,oa,hgk,hk,rfl,rfl,hb,hml0,hown⟩:=hrel
  have HG:=toHid hgk
  have hk0:(0:Int)≤(k:Int):=by omega
  have HB:=toHid hb
  clear hgk hb
  by_cases hlt:k<I.length
  ·have hI:(k:Int)<(I.length:Int):=by omega
   obtain ⟨⟨xa,xs⟩,hx⟩:∃ x,I[k]?=some x:=⟨_,List.getElem?_eq_getElem hlt⟩
   obtain ⟨_,_,e,_,f1⟩:=HR1.out
   cases e
   obtain ⟨p1,o1,rfl,l1,g1⟩:=f1 (by omega)
   have r0:wr.cell? ⟨p1,o1+k*2,none⟩=some (.int .u64 xa):=(HB.out.cell (p:=⟨p1,o1+k*2,none⟩) l1).trans (g1 (k*2) _ (ids_at hx).1)
   have r1:wr.cell? ⟨p1,o1+k*2+1,none⟩=some (.int .i64 xs):=(HB.out.cell (p:=⟨p1,o1+k*2+1,none⟩) l1).trans (g1 (k*2+1) _ (ids_at hx).2)
   have hx64:=H6.out _ (List.mem_of_getElem? hx)
   simp only at hx64
   have hkx:Hid (keyOf Tryz.prog 50 (.int .u64 xa)=some (.int .u64 xa)):=keyOf_int_mk Tryz.underlying50 (wf_u hx64.1.1 hx64.1.2)
   have hhas:=has_of HD.out hnH (ids_ptr HK.out _ (List.mem_of_getElem? hx))
   have HST:Hid ((I.take (k+1)).filter (hasI out)=(I.take k).filter (hasI out)++(if hasI out (xa,xs) then [(xa,xs)] else [])):=filter_step hx
   have hml:((I.take k).filter (hasI out)).length≤300000:=Nat.le_trans (List.length_filter_le _ _) (by rw [List.length_take];omega)
   generalize (I.take k).filter (hasI out)=M at *
   have hmm:=hml0.out
   subst hmm
   go_upto_region 5 with fail
   obtain ⟨w2,hw2⟩:∃ w2,w2=wr.alloc (.cells #[.int .u64 xa,.int .i64 xs] 65):=⟨_,rfl⟩
   obtain ⟨q2,hq2⟩:∃ q2,q2=wr.heap.size:=⟨_,rfl⟩
   have ob2:w2.heap[q2]?=some (.cells #[.int .u64 xa,.int .i64 xs] 65):=by rw [hw2,hq2];exact heap_alloc_new _ _
   have b2:Below w1.heap.size w1 w2:=by rw [hw2];exact HB.out.alloc HB.out.size _
   have own2:Hid (w2.ownsRow w1.heap.size 65 2 (.slice oa M.length cp) M.length (idsV M)):=by rw [hw2];exact hown.out.alloc _
   have c20:w2.cell? ⟨q2,0,none⟩=some (.int .u64 xa):=by rw [cell_of_row _ _ 0 _ _ _ ob2];rfl
   have c21:w2.cell? ⟨q2,1,none⟩=some (.int .i64 xs):=by rw [cell_of_row _ _ 1 _ _ _ ob2];rfl
   have gg:w2.cell? ⟨q,1,none⟩=some (.map (some bm)):=(b2.cell (p:=⟨q,1,none⟩) (lt_of_cell HG1.out)).trans HG1.out
   rw [←hw2,←hq2]
   have HM2:=toHid (own_kept3 HM1.out b2)
   have HB2:=toHid b2
   clear hw2 hq2 ob2 b2 f1 g1 hx hown r0 r1 hx64
   cases hh:decide (0≤objI out (ptI xa)) with
   | true =>
    rw [hh] at hhas
    have hst:Hid (hasI out (xa,xs)=true):=hh
    clear hh
    go_wp2_with (first | (at_lookup;refine wpList_lookup_own_ok_int _ rfl _ _ 118 rfl 50 3 .i64 lawU Tryz.underlying118 Tryz.underlying3 (zeroI _) bm n _ rfl HM2.out _ _ rfl hkx.out ?_;intro c0 hat hwc;clear hat hwc) | (at_builtin;refine wpList_append_lies _ rfl _ _ _ rfl w1.heap.size 65 i0 (.agg #[.int .u64 0,.int .i64 0]) 2 16 Tryz.underlying51 hi0 hz0 hz1 hz2 rfl (by decide) (.slice oa M.length cp) M.length (idsV M) rfl (own2.out.alloc _) ⟨w2.heap.size,0,none⟩ 1 1 [.int .u64 xa,.int .i64 xs] rfl rfl (World.news_of_block (cs:=#[.int .u64 xa,.int .i64 xs]) (t:=65) (heap_alloc_new _ _)) (fun u hu=>by simp at hu;rcases hu with rfl | rfl <;> rfl) (by decide) (by unfold maxLen;omega) (by omega) (by have:=HB2.out.size;simp;omega) _ rfl ?_;intro g' cap' w3 hown3 hgrow3 hat3 hlt3))
    go_roundg (I.length+1 - (k+1))
    case measure=>have:=HG.out;omega
    case rel =>
     refine ⟨k+1,M.length+1,cap',some ⟨g',0,none⟩,rfl,by omega,by go_num,rfl,(HB2.out.alloc HB2.out.size _).grown hgrow3 (by have:=HB2.out.size;simp;omega) (fun k hk=>(own_lt2 own2.out k hk).1),?_,?_⟩
     ·show _=_
      rw [HST.out,hst.out]
      simp
     ·show World.ownsRow _ _ _ _ _ _ _
      rw [HST.out,hst.out,if_pos rfl,idsV_snocW,List.length_append]
      exact hown3
   | false =>
    rw [hh] at hhas
    have hst:Hid (hasI out (xa,xs)=false):=hh
    clear hh
    go_wp2_with (first | (at_lookup;refine wpList_lookup_own_ok_int _ rfl _ _ 118 rfl 50 3 .i64 lawU Tryz.underlying118 Tryz.underlying3 (zeroI _) bm n _ rfl HM2.out _ _ rfl hkx.out ?_;intro c0 hat hwc;clear hat hwc))
    go_roundg (I.length+1 - (k+1))
    case measure=>have:=HG.out;omega
    case rel=>exact ⟨k+1,M.length,cp,oa,rfl,by omega,by go_num,rfl,HB2.out,by show _=_;rw [HST.out,hst.out];simp,by show World.ownsRow _ _ _ _ _ _ _;rw [HST.out,hst.out];simpa using own2.out⟩
  ·have hI:¬ (k:Int)<(I.length:Int):=by omega
   have hkk:k=I.length:=by omega
   have hown2:=hown.out
   have hml2:=hml0.out
   rw [hkk,List.take_of_length_le (Nat.le_refl _)] at hown2 hml2
   have hfl:(I.filter (hasI out)).length≤300000:=Nat.le_trans (List.length_filter_le _ _) hl
   have ks:=sort_ids w1.heap.size _ (I.filter (hasI out)) hfl wr hown2 HB.out.size
   have HB3:=toHid (HB1.out.trans (HB.out.mono HB1.out.size))
   have hbs:w.heap.size≤w1.heap.size:=HB1.out.size
   clear hown2 hml2 hkk hown hml0 hfl
   go_wp2_with fail
   refine ks.mono ?_
   rintro ev w4 ⟨rfl,l',hp,hs,hrow,hb4⟩
   have HE:Hid (PP (.returned (.slice oa ml cp)) w4):=by
    rw [HPP.out]
    have e:=ord_filter (ids_ok HK.out) (hasI out) hp (hs.imp (fun h=>by omega))
    rw [e] at hrow
    exact ⟨_,rfl,hrow,HB3.out.trans (hb4.mono hbs)⟩
   clear hp hs hrow hb4 ks
   go_wp2_with fail
   exact HE.out
end Go.Proofs.YtlkcbdinlfeoiabGreatDoor
namespace Go.Proofs.YtlkcbdinlfeoiabGreatDoor
open Go.RowKit Go.Maps

theorem others_cells {e b k:Nat}{w w':World}{cs:Array Value}{t:TypeId}{fz:Nat × Nat} (h:Lib.OthersKept e (some b) w w') (hk:w.heap[k]?=some (.cells cs t fz)) (hb:k≠b) (ht:t≠e):w'.heap[k]?=some (.cells cs t fz):=
 h k _ hk (by simpa using hb) (by intro c f x;cases x;exact ht rfl)
structure GW (qg bl bm n ol oc:Nat) (oo:Option Addr) (D:DataW Unit) (B:Nat) (xs:List (List Value)) (w0:World) (acc:List UInt8) (w:World):Prop where
 below:Below w0.heap.size w0 w
 lo:w0.heap.size≤bl
 bld:Lib.IsBuilderF 116 5 bl bl (Lib.byteCells acc) w
 nil:acc = [] → ∃ p,w.heap[bl]?=some (.cells #[p,.slice none 0 0] 116 (0,0))
 gr:w.heap[qg]?=some (.cells #[.slice oo ol oc,.map (some bm)] 120)
 row:w.ownsRow B 125 3 (.slice oo ol oc) ol xs.flatten
 map:w.ownsMap Tryz.prog 50 (plainElem Tryz.prog 3) bm n D
theorem GW.lt {qg bl bm n ol oc:Nat}{oo:Option Addr}{D:DataW Unit}{B:Nat}{xs:List (List Value)}{w0 w:World}{acc:List UInt8} (h:GW qg bl bm n ol oc oo D B xs w0 acc w):bl<w.heap.size:=lbuilder_lt h.bld
theorem GW.keep {qg bl bm n ol oc:Nat}{oo:Option Addr}{D:DataW Unit}{B:Nat}{xs:List (List Value)}{w0 w w':World}{acc:List UInt8} (h:GW qg bl bm n ol oc oo D B xs w0 acc w) (hb:Below w.heap.size w w'):GW qg bl bm n ol oc oo D B xs w0 acc w':=
 ⟨h.below.trans (hb.mono h.below.size),h.lo,lbuilder_below h.bld hb,fun e=>by
  obtain ⟨p,hp⟩:=h.nil e
  exact ⟨p,(hb.block _ (lt_of_heap hp)).trans hp⟩,(hb.block _ (lt_of_heap h.gr)).trans h.gr,ownsRow_far' h.row (fun k hk=>hb.block k (own_lt2 h.row k hk).2),own_kept3 h.map hb⟩
theorem GW.block {qg bl bm n ol oc:Nat}{oo:Option Addr}{D:DataW Unit}{B:Nat}{xs:List (List Value)}{w0 w:World}{acc:List UInt8} (h:GW qg bl bm n ol oc oo D B xs w0 acc w):∃ cs,w.heap[bl]?=some (.cells cs 116 (0,0)):=by
 rcases h.bld with ⟨_,v,hb,_⟩ | ⟨_,v,hb,_⟩
 ·exact ⟨_,hb⟩
 ·exact ⟨_,hb⟩
theorem GW.write {qg bl bm n ol oc:Nat}{oo:Option Addr}{D:DataW Unit}{B:Nat}{xs:List (List Value)}{w0 w w':World}{acc acc':List UInt8}{ev:Ending} (h:GW qg bl bm n ol oc oo D B xs w0 acc w) (hp:LinePost bl bl acc' w ev w') (hne:acc' ≠ []):GW qg bl bm n ol oc oo D B xs w0 acc' w':=by
 obtain ⟨_,h1,h2,h3⟩:=hp
 obtain ⟨cs,hbl⟩:=h.block
 have hg:qg≠bl:=fun e=>by
  subst e
  have:=h.gr.symm.trans hbl
  simp at this
 refine ⟨h.below.trans (h2.mono h.lo),h.lo,h1,fun e=>absurd e hne,others_cells h3 h.gr hg (by decide),?_,?_⟩
 ·refine ownsRow_far' h.row (fun k hk => ?_)
  obtain ⟨_,hr⟩:=h.row
  rcases hr with ⟨e,_⟩ | ⟨g,cap,cur,e,_,hgk,_⟩
  ·rw [e] at hk
   simp [Value.ownBlock] at hk
  ·rw [e] at hk
   simp only [Value.ownBlock,Option.some.injEq] at hk
   subst hk
   rw [hgk]
   refine others_cells h3 hgk (fun e => ?_) (by decide)
   subst e
   have:=hgk.symm.trans hbl
   simp at this
 ·refine own_keptG h.map ?_
  obtain ⟨es,clock,h4,_⟩:=h.map
  rw [h4]
  refine h3 bm _ h4 (fun e => ?_) (by simp)
  cases e
  have:=h4.symm.trans hbl
  simp at this
theorem joinB_cons (x:ByteArray):∀ l:List ByteArray,joinB (x::l)=x.data.toList++l.flatMap (fun t=>32::t.data.toList)
 | []=>by simp [joinB,Lib.join,List.intercalate]
 | y::l=>by
  have h:=joinB_cons y l
  have e:joinB (x::y::l)=x.data.toList++(32::joinB (y::l)):=by simp [joinB,Lib.join,List.intercalate]
  rw [e,h]
  simp
theorem join_len {l:List ByteArray} (c:Nat) (h:∀ t∈l,t.size≤c):(l.flatMap (fun t=>32::t.data.toList)).length≤l.length*(c+1):=by
 induction l with
 | nil=>simp
 | cons t l ih =>
  have h1:=ih (fun t ht=>h t (List.mem_cons_of_mem _ ht))
  have h2:=h t (List.mem_cons_self ..)
  have h3:t.data.toList.length=t.size:=Array.length_toList
  rw [List.flatMap_cons,List.length_append,List.length_cons,List.length_cons,Nat.add_mul]
  omega
theorem line2 (A s t:ByteArray) (s':ByteArray) (hs:s'.data.toList=s.data.toList ++ [32]):(((A++s')++t)++⟨#[10]⟩).data.toList=A.data.toList++(joinB [s,t] ++ [10]):=by
 rw [joinB_cons]
 simp [ByteArray.data_append,hs]
end Go.Proofs.YtlkcbdinlfeoiabGreatDoor
