/- IDs whose objects were come to, by their serials (known), by a contract. -/
import Derived.Test.YtlkcbdinlfeoiaaGreatDoorMemGV
import Derived.Test.YtlkcbdinlfeoiaaGreatDoorKnBA
import Derived.Deep.AppendLies
import Derived.Test.YtlkcbdinlfeoiaaGreatDoorMemGX
import Derived.Test.YtlkcbdinlfeoiaaGreatDoorMemGH
namespace Go.Proofs.YtlkcbdinlfeoiaaGreatDoor
open Go.Proofs.Tryz
open Go.RowKit Go.Maps

theorem Zsw:∃ i0,prog.info? 123=some i0∧i0.zero=some (.agg #[.int .u64 0,.int .i64 0])∧i0.size=2∧i0.bytes=16:=info_parts (by kernel_rfl)
def Z7b (out:List Nat) (x:Int × Int):Bool:=decide (0≤objI out (ptI x.1))
theorem Ztm {D:DataW Unit}{out:List Nat} (hD:GNum D out) {nH:Nat}{hb:Nat→Bool}{x:Int} (hn:nH≤300000) (h:Z33 nH hb x=true):Maps.has D (.int .u64 x)=decide (0≤objI out (ptI x)):=by
 unfold Z33 at h
 simp only [Bool.and_eq_true,decide_eq_true_eq] at h
 obtain ⟨f,hf⟩:∃ f:Nat,x=((f:Int)+1)*4:=⟨(x / 4 - 1).toNat,by omega⟩
 have hpt:ptI x=(f:Int):=by
  unfold ptI
  rw [if_pos (by omega)]
  omega
 rw [hpt,hf,hD.has]
 by_cases hm:f∈out
 ·rw [decide_eq_true hm,decide_eq_true (Z2c.2 hm)]
 ·rw [decide_eq_false hm,decide_eq_false (fun h=>hm (Z2c.1 h))]
theorem Ziy (l:List (Int × Int)) (x:Int × Int):Z23 (l ++ [x])=Z23 l ++ [.int .u64 x.1,.int .i64 x.2]:=by simp [Z23]
theorem Zfy {I:List (Int × Int)}{p:Int × Int→Bool}{k:Nat}{x:Int × Int} (h:I[k]?=some x):(I.take (k+1)).filter p=(I.take k).filter p++(if p x then [x] else []):=by
 rw [List.take_add_one,h,List.filter_append]
 cases hp:p x <;> simp [hp]
def Z8w (out:List Nat) (I:List (Int × Int)) (w:World) (ev:Ending) (w':World):Prop:=∃ v,ev = .returned v∧Zjl 123 w' v ((Z9o I).filter (Z7b out)).length (Z23 ((Z9o I).filter (Z7b out)))∧Below w.heap.size w w'
set_option maxHeartbeats 4000000 in
set_option maxRecDepth 100000 in
theorem Zky (bm n ol oc nH:Nat) (hbf:Nat→Bool) (hnH:nH≤300000) (oo:Option Addr) (D:DataW Unit) (out:List Nat) (hD:GNum D out) (I:List (Int × Int)) (h64:Zd7 I) (hok:Z67 nH hbf I=true) (hl:I.length≤300000) (ao:Option Addr) (cap:Nat) (w:World) (hM:w.ownsMap prog 81 (plainElem prog 3) bm n D) (hR:Z3m w (.slice ao I.length cap) I.length (Z23 I)) :
  Calls prog 102 #[.agg #[.slice oo ol oc,.map (some bm)],.slice ao I.length cap] w (Z8w out I w):=by
 have HD:=Z00 hD
 have HM:=Z00 hM
 have HR:=Z00 hR
 have H6:=Z00 h64
 have HK:=Z00 hok
 obtain ⟨i0,hi0,hz0,hz1,hz2⟩:=Zsw
 obtain ⟨PP,hPP⟩:∃ PP,PP=Z8w out I w:=⟨_,rfl⟩
 rw [←hPP]
 have HPP:=Z00 hPP
 clear hD hM hR h64 hok hPP
 go_enter func102,ntmps102
 go_upto_block 0 with fail
 obtain ⟨w1,hw1⟩:∃ w1,w1=w.alloc (.cells #[.slice oo ol oc,.map (some bm)] 138):=⟨_,rfl⟩
 obtain ⟨q,hq⟩:∃ q,q=w.heap.size:=⟨_,rfl⟩
 have gb:w1.heap[q]?=some (.cells #[.slice oo ol oc,.map (some bm)] 138):=by rw [hw1,hq];exact heap_alloc_new _ _
 have b1:Below w.heap.size w w1:=by rw [hw1];exact (Below.refl _ _).alloc (Nat.le_refl _) _
 have g1:w1.cell? ⟨q,1,none⟩=some (.map (some bm)):=by rw [cell_of_row _ _ 1 _ _ _ gb];rfl
 rw [←hw1,←hq]
 have HG1:=Z00 g1
 have HB1:=Z00 b1
 have HM1:=Z00 (Z2y HM.out b1)
 have HR1:=Z00 (HR.out.below b1)
 clear hw1 hq gb b1 g1 HM HR
 go_wp2_with fail
 go_loopg [5,12] (I.length+1) (fun gk vo vi wr => ∃ (k ml cp:Nat) (oa:Option Addr),gk=I.length+1 - k∧k≤I.length∧vi = .int .i64 (k:Int)∧vo = .slice oa ml cp∧Below w1.heap.size w1 wr∧Hid (ml=((I.take k).filter (Z7b out)).length)∧Hid (wr.ownsRow w1.heap.size 123 2 (.slice oa ml cp) ((I.take k).filter (Z7b out)).length (Z23 ((I.take k).filter (Z7b out)))))
 case atStart=>exact ⟨0,0,0,none,rfl,Nat.zero_le _,rfl,rfl,Below.refl _ _,rfl,World.ownsRow_nil _ _ _ _⟩
 case round =>
  obtain ⟨k,ml,cp,oa,hgk,hk,rfl,rfl,hb,hml0,hown⟩:=hrel
  have HG:=Z00 hgk
  have hk0:(0:Int)≤(k:Int):=by omega
  have HB:=Z00 hb
  clear hgk hb
  by_cases hlt:k<I.length
  ·have hI:(k:Int)<(I.length:Int):=by omega
   obtain ⟨⟨xa,xs⟩,hx⟩:∃ x,I[k]?=some x:=⟨_,List.getElem?_eq_getElem hlt⟩
   obtain ⟨_,_,e,_,f1⟩:=HR1.out
   cases e
   obtain ⟨p1,o1,rfl,l1,g1⟩:=f1 (by omega)
   have r0:wr.cell? ⟨p1,o1+k*2,none⟩=some (.int .u64 xa):=(HB.out.cell (p:=⟨p1,o1+k*2,none⟩) l1).trans (g1 (k*2) _ (Z52 hx).1)
   have r1:wr.cell? ⟨p1,o1+k*2+1,none⟩=some (.int .i64 xs):=(HB.out.cell (p:=⟨p1,o1+k*2+1,none⟩) l1).trans (g1 (k*2+1) _ (Z52 hx).2)
   have hx64:=H6.out _ (List.mem_of_getElem? hx)
   simp only at hx64
   have hkx:Hid (keyOf prog 81 (.int .u64 xa)=some (.int .u64 xa)):=keyOf_int_mk underlying81 (wf_u hx64.1.1 hx64.1.2)
   have hhas:=Ztm HD.out hnH (Z9b HK.out _ (List.mem_of_getElem? hx))
   have HST:Hid ((I.take (k+1)).filter (Z7b out)=(I.take k).filter (Z7b out)++(if Z7b out (xa,xs) then [(xa,xs)] else [])):=Zfy hx
   have hml:((I.take k).filter (Z7b out)).length≤300000:=Nat.le_trans (List.length_filter_le _ _) (by rw [List.length_take];omega)
   generalize (I.take k).filter (Z7b out)=M at *
   have hmm:=hml0.out
   subst hmm
   go_upto_region 5 with fail
   obtain ⟨w2,hw2⟩:∃ w2,w2=wr.alloc (.cells #[.int .u64 xa,.int .i64 xs] 123):=⟨_,rfl⟩
   obtain ⟨q2,hq2⟩:∃ q2,q2=wr.heap.size:=⟨_,rfl⟩
   have ob2:w2.heap[q2]?=some (.cells #[.int .u64 xa,.int .i64 xs] 123):=by rw [hw2,hq2];exact heap_alloc_new _ _
   have b2:Below w1.heap.size w1 w2:=by rw [hw2];exact HB.out.alloc HB.out.size _
   have own2:Hid (w2.ownsRow w1.heap.size 123 2 (.slice oa M.length cp) M.length (Z23 M)):=by rw [hw2];exact hown.out.alloc _
   have c20:w2.cell? ⟨q2,0,none⟩=some (.int .u64 xa):=by rw [cell_of_row _ _ 0 _ _ _ ob2];rfl
   have c21:w2.cell? ⟨q2,1,none⟩=some (.int .i64 xs):=by rw [cell_of_row _ _ 1 _ _ _ ob2];rfl
   have gg:w2.cell? ⟨q,1,none⟩=some (.map (some bm)):=(b2.cell (p:=⟨q,1,none⟩) (Z03 HG1.out)).trans HG1.out
   rw [←hw2,←hq2]
   have HM2:=Z00 (Z2y HM1.out b2)
   have HB2:=Z00 b2
   clear hw2 hq2 ob2 b2 f1 g1 hx hown r0 r1 hx64
   cases hh:decide (0≤objI out (ptI xa)) with
   | true =>
    rw [hh] at hhas
    have hst:Hid (Z7b out (xa,xs)=true):=hh
    clear hh
    go_wp2_with (first | (at_lookup;refine wpList_lookup_own_ok_int _ rfl _ _ 136 rfl 81 3 .i64 Zjn underlying136 underlying3 (Z6n _) bm n _ rfl HM2.out _ _ rfl hkx.out ?_;intro c0 hat hwc;clear hat hwc) | (at_builtin;refine wpList_append_lies _ rfl _ _ _ rfl w1.heap.size 123 i0 (.agg #[.int .u64 0,.int .i64 0]) 2 16 underlying82 hi0 hz0 hz1 hz2 rfl (by decide) (.slice oa M.length cp) M.length (Z23 M) rfl (own2.out.alloc _) ⟨w2.heap.size,0,none⟩ 1 1 [.int .u64 xa,.int .i64 xs] rfl rfl (World.news_of_block (cs:=#[.int .u64 xa,.int .i64 xs]) (t:=123) (heap_alloc_new _ _)) (fun u hu=>by simp at hu;rcases hu with rfl | rfl <;> rfl) (by decide) (by unfold maxLen;omega) (by omega) (by have:=HB2.out.size;simp;omega) _ rfl ?_;intro g' cap' w3 hown3 hgrow3 hat3 hlt3))
    go_roundg (I.length+1 - (k+1))
    case measure=>have:=HG.out;omega
    case rel =>
     refine ⟨k+1,M.length+1,cap',some ⟨g',0,none⟩,rfl,by omega,by go_num,rfl,(HB2.out.alloc HB2.out.size _).grown hgrow3 (by have:=HB2.out.size;simp;omega) (fun k hk=>(Z08 own2.out k hk).1),?_,?_⟩
     ·show _=_
      rw [HST.out,hst.out]
      simp
     ·show World.ownsRow _ _ _ _ _ _ _
      rw [HST.out,hst.out,if_pos rfl,Ziy,List.length_append]
      exact hown3
   | false =>
    rw [hh] at hhas
    have hst:Hid (Z7b out (xa,xs)=false):=hh
    clear hh
    go_wp2_with (first | (at_lookup;refine wpList_lookup_own_ok_int _ rfl _ _ 136 rfl 81 3 .i64 Zjn underlying136 underlying3 (Z6n _) bm n _ rfl HM2.out _ _ rfl hkx.out ?_;intro c0 hat hwc;clear hat hwc))
    go_roundg (I.length+1 - (k+1))
    case measure=>have:=HG.out;omega
    case rel=>exact ⟨k+1,M.length,cp,oa,rfl,by omega,by go_num,rfl,HB2.out,by show _=_;rw [HST.out,hst.out];simp,by show World.ownsRow _ _ _ _ _ _ _;rw [HST.out,hst.out];simpa using own2.out⟩
  ·have hI:¬ (k:Int)<(I.length:Int):=by omega
   have hkk:k=I.length:=by omega
   have hown2:=hown.out
   have hml2:=hml0.out
   rw [hkk,List.take_of_length_le (Nat.le_refl _)] at hown2 hml2
   have hfl:(I.filter (Z7b out)).length≤300000:=Nat.le_trans (List.length_filter_le _ _) hl
   have ks:=Zp2 w1.heap.size _ (I.filter (Z7b out)) hfl wr hown2 HB.out.size
   have HB3:=Z00 (HB1.out.trans (HB.out.mono HB1.out.size))
   have hbs:w.heap.size≤w1.heap.size:=HB1.out.size
   clear hown2 hml2 hkk hown hml0 hfl
   go_wp2_with fail
   refine ks.mono ?_
   rintro ev w4 ⟨rfl,l',hp,hs,hrow,hb4⟩
   have HE:Hid (PP (.returned (.slice oa ml cp)) w4):=by
    rw [HPP.out]
    have e:=Zif (Zsn HK.out) (Z7b out) hp (hs.imp (fun h=>by omega))
    rw [e] at hrow
    exact ⟨_,rfl,hrow,HB3.out.trans (hb4.mono hbs)⟩
   clear hp hs hrow hb4 ks
   go_wp2_with fail
   exact HE.out
end Go.Proofs.YtlkcbdinlfeoiaaGreatDoor
namespace Go.Proofs.YtlkcbdinlfeoiaaGreatDoor
open Go.Proofs.Tryz
open Go.RowKit Go.Maps

theorem Z3p {e b k:Nat}{w w':World}{cs:Array Value}{t:TypeId}{fz:Nat × Nat} (h:Lib.OthersKept e (some b) w w') (hk:w.heap[k]?=some (.cells cs t fz)) (hb:k≠b) (ht:t≠e):w'.heap[k]?=some (.cells cs t fz):=
 h k _ hk (by simpa using hb) (by intro c f x;cases x;exact ht rfl)
structure GW (qg bl bm n ol oc:Nat) (oo:Option Addr) (D:DataW Unit) (B:Nat) (xs:List (List Value)) (w0:World) (acc:List UInt8) (w:World):Prop where
 below:Below w0.heap.size w0 w
 lo:w0.heap.size≤bl
 bld:Lib.IsBuilderF 165 5 bl bl (Lib.byteCells acc) w
 nil:acc = [] → ∃ p,w.heap[bl]?=some (.cells #[p,.slice none 0 0] 165 (0,0))
 gr:w.heap[qg]?=some (.cells #[.slice oo ol oc,.map (some bm)] 138)
 row:w.ownsRow B 141 3 (.slice oo ol oc) ol xs.flatten
 map:w.ownsMap prog 81 (plainElem prog 3) bm n D
theorem GW.lt {qg bl bm n ol oc:Nat}{oo:Option Addr}{D:DataW Unit}{B:Nat}{xs:List (List Value)}{w0 w:World}{acc:List UInt8} (h:GW qg bl bm n ol oc oo D B xs w0 acc w):bl<w.heap.size:=Zfe h.bld
theorem GW.keep {qg bl bm n ol oc:Nat}{oo:Option Addr}{D:DataW Unit}{B:Nat}{xs:List (List Value)}{w0 w w':World}{acc:List UInt8} (h:GW qg bl bm n ol oc oo D B xs w0 acc w) (hb:Below w.heap.size w w'):GW qg bl bm n ol oc oo D B xs w0 acc w':=
 ⟨h.below.trans (hb.mono h.below.size),h.lo,Z40 h.bld hb,fun e=>by
  obtain ⟨p,hp⟩:=h.nil e
  exact ⟨p,(hb.block _ (Z01 hp)).trans hp⟩,(hb.block _ (Z01 h.gr)).trans h.gr,Z05 h.row (fun k hk=>hb.block k (Z08 h.row k hk).2),Z2y h.map hb⟩
theorem GW.block {qg bl bm n ol oc:Nat}{oo:Option Addr}{D:DataW Unit}{B:Nat}{xs:List (List Value)}{w0 w:World}{acc:List UInt8} (h:GW qg bl bm n ol oc oo D B xs w0 acc w):∃ cs,w.heap[bl]?=some (.cells cs 165 (0,0)):=by
 rcases h.bld with ⟨_,v,hb,_⟩ | ⟨_,v,hb,_⟩
 ·exact ⟨_,hb⟩
 ·exact ⟨_,hb⟩
theorem GW.write {qg bl bm n ol oc:Nat}{oo:Option Addr}{D:DataW Unit}{B:Nat}{xs:List (List Value)}{w0 w w':World}{acc acc':List UInt8}{ev:Ending} (h:GW qg bl bm n ol oc oo D B xs w0 acc w) (hp:Z37 bl bl acc' w ev w') (hne:acc' ≠ []):GW qg bl bm n ol oc oo D B xs w0 acc' w':=by
 obtain ⟨_,h1,h2,h3⟩:=hp
 obtain ⟨cs,hbl⟩:=h.block
 have hg:qg≠bl:=fun e=>by
  subst e
  have:=h.gr.symm.trans hbl
  simp at this
 refine ⟨h.below.trans (h2.mono h.lo),h.lo,h1,fun e=>absurd e hne,Z3p h3 h.gr hg (by decide),?_,?_⟩
 ·refine Z05 h.row (fun k hk => ?_)
  obtain ⟨_,hr⟩:=h.row
  rcases hr with ⟨e,_⟩ | ⟨g,cap,cur,e,_,hgk,_⟩
  ·rw [e] at hk
   simp [Value.ownBlock] at hk
  ·rw [e] at hk
   simp only [Value.ownBlock,Option.some.injEq] at hk
   subst hk
   rw [hgk]
   refine Z3p h3 hgk (fun e => ?_) (by decide)
   subst e
   have:=hgk.symm.trans hbl
   simp at this
 ·refine Z4b h.map ?_
  obtain ⟨es,clock,h4,_⟩:=h.map
  rw [h4]
  refine h3 bm _ h4 (fun e => ?_) (by simp)
  cases e
  have:=h4.symm.trans hbl
  simp at this
theorem Z26 (x:ByteArray):∀ l:List ByteArray,Z2a (x::l)=x.data.toList++l.flatMap (fun t=>32::t.data.toList)
 | []=>by simp [Z2a,Lib.join,List.intercalate]
 | y::l=>by
  have h:=Z26 y l
  have e:Z2a (x::y::l)=x.data.toList++(32::Z2a (y::l)):=by simp [Z2a,Lib.join,List.intercalate]
  rw [e,h]
  simp
theorem Z84 {l:List ByteArray} (c:Nat) (h:∀ t∈l,t.size≤c):(l.flatMap (fun t=>32::t.data.toList)).length≤l.length*(c+1):=by
 induction l with
 | nil=>simp
 | cons t l ih =>
  have h1:=ih (fun t ht=>h t (List.mem_cons_of_mem _ ht))
  have h2:=h t (List.mem_cons_self ..)
  have h3:t.data.toList.length=t.size:=Array.length_toList
  rw [List.flatMap_cons,List.length_append,List.length_cons,List.length_cons,Nat.add_mul]
  omega
theorem Zt2 (A s t:ByteArray) (s':ByteArray) (hs:s'.data.toList=s.data.toList ++ [32]):(((A++s')++t)++⟨#[10]⟩).data.toList=A.data.toList++(Z2a [s,t] ++ [10]):=by
 rw [Z26]
 simp [ByteArray.data_append,hs]
end Go.Proofs.YtlkcbdinlfeoiaaGreatDoor
