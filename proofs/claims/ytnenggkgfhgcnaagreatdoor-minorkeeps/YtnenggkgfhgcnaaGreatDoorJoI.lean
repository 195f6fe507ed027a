/- Where objects go (plan), by a contract. -/
import Derived.Test.YtnenggkgfhgcnaaGreatDoorJoH
import Derived.Test.YtnenggkgfhgcnaaGreatDoorJoG
import Derived.Test.YtnenggkgfhgcnaaGreatDoorJnE
import Derived.Deep.AppendLies
namespace Go.Proofs.YtnenggkgfhgcnaaGreatDoor
open Go.RowKit Go.Maps

set_option maxHeartbeats 2000000 in
set_option maxRecDepth 100000 in
theorem note_wide (lo hi:Int) (bm n f t B:Nat) (D:DataW Unit) (w:World) (hf:f≤300000) (ht:t≤1000000) (hn:n≤1000000) (M:w.ownsMap Tryz.prog 3 (plainElem Tryz.prog 3) bm n D) (hBs:B≤w.heap.size) (hBm:B≤bm) :
  Calls Tryz.prog 59 #[.agg #[.int .i64 lo,.int .i64 hi,.map (some bm)],.int .i64 (f:Int),.int .i64 (t:Int)] w fun ev w'=>ev = .returned (.tuple #[])∧(∃ n',n'≤n+1∧w'.ownsMap Tryz.prog 3 (plainElem Tryz.prog 3) bm n' (D.put (.int .i64 (f:Int)) (.lit (.int .i64 (t:Int)))))∧Below B w w' ∧ ∀ k,k<w.heap.size→k≠bm→w'.heap[k]?=w.heap[k]?:=by
 have hkx:Hid (keyOf Tryz.prog 3 (.int .i64 (f:Int))=some (.int .i64 (f:Int))):=keyOf_int_mk Tryz.underlying3 (wf_i (by omega) (by omega))
 have HM:=toHid (M.alloc (.cells #[.int .i64 lo,.int .i64 hi,.map (some bm)] 72))
 have bl:=M.lt
 have hbm:¬ w.heap.size=bm:=by omega
 clear M
 go_enter Tryz.func59,Tryz.ntmps59
 go_wp2_with (first | (at_mapUpdate;refine wpList_mapUpdate_own _ rfl _ _ _ 70 rfl 3 3 lawI Tryz.underlying70 _ bm n _ rfl HM.out (by unfold maxLen;omega) _ _ _ rfl rfl hkx.out _ [] (plainElem_int Tryz.underlying3 (wf_i (by omega) (by omega))) ?_;intro w3 hown3 hgrow3))
 go_end0
 refine ⟨rfl,⟨n+1,Nat.le_refl _,hown3⟩,?_,fun k hk hkm => ?_⟩
 ·exact ((Below.refl B w).alloc hBs _).grown hgrow3 (by simp;omega) (fun j hj=>by cases hj;exact hBm)
 ·exact (hgrow3.block k (by simp;omega) (by simpa using hkm)).trans (((Below.refl w.heap.size w).alloc (Nat.le_refl _) _).block k hk)

theorem planP_app (F:Nat→Int):∀ (l:List Nat) (a f:Nat),planP F a (l ++ [f])=planP F a l ++ [(f,a+wordsP F l)]
 | [],a,f=>rfl
 | x::l,a,f=>by
  show (x,a)::planP F (a+1+szN (F x)) (l ++ [f])=(x,a)::(planP F (a+1+szN (F x)) l ++ [(f,a+wordsP F (x::l))])
  rw [planP_app F l]
  have e:wordsP F (x::l)=1+szN (F x)+wordsP F l:=rfl
  rw [e]
  congr 4
  omega
theorem wordsP_app1 (F:Nat→Int) (l:List Nat) (f:Nat):wordsP F (l ++ [f])=wordsP F l+(1+szN (F f)):=by
 unfold wordsP
 rw [List.map_append,List.sum_append]
 rfl
theorem goesP_app (P:List (Nat × Nat)) (f t:Nat) (h:f ∉ P.map Prod.fst):goesP (P ++ [(f,t)])=upd (goesP P) f t:=by
 funext g
 unfold goesP upd
 rw [List.find?_append]
 by_cases e:g=f
 ·subst e
  have z:P.find? (fun p=>p.1 == g)=none:=List.find?_eq_none.2 fun p hp hb=>h (List.mem_map.2 ⟨p,hp,by simpa using hb⟩)
  rw [z,if_pos rfl]
  simp
 ·rw [if_neg e]
  show _=(P.find? (fun p=>p.1 == g)).map Prod.snd
  cases P.find? (fun p=>p.1 == g) with
  | some y=>rfl
  | none =>
   have hb:(f == g)=false:=by rw [beq_eq_false_iff_ne];exact fun h=>e h.symm
   simp [List.find?,hb]
def moveV (F:Nat→Int) (x:Nat × Nat):List Value:=[.int .i64 (x.1:Int),.int .i64 (x.2:Int),.int .i64 (F x.1 / 4 % 256),.int .i64 (F x.1 / 1024 % 16),.int .i64 (F x.1 / 16384 % 2),.int .i64 (F x.1 / 65536)]
def movesV (F:Nat→Int) (P:List (Nat × Nat)):List Value:=P.flatMap (moveV F)
theorem infoMove:∃ i0,Tryz.prog.info? 114=some i0∧i0.zero=some (.agg #[.int .i64 0,.int .i64 0,.int .i64 0,.int .i64 0,.int .i64 0,.int .i64 0])∧i0.size=6∧i0.bytes=48:=info_parts (by kernel_rfl)
structure SlAt (p q bm nW B top:Nat) (F:Nat→Int) (P:List (Nat × Nat)) (n:Nat) (D:DataW Unit) (vM:Value) (w:World):Prop where
 blk:w.heap[q]?=some (.cells #[.pointer (some ⟨p,0,none⟩),.int .i64 0,.int .i64 (nW:Int),.map (some bm),vM,.int .i64 (top:Int)] 75)
 map:w.ownsMap Tryz.prog 3 (plainElem Tryz.prog 3) bm n D
 row:w.ownsRow B 114 6 vM P.length (movesV F P)
theorem SlAt.below {p q bm nW B top n:Nat}{F:Nat→Int}{P:List (Nat × Nat)}{D:DataW Unit}{vM:Value}{w w':World}(h:SlAt p q bm nW B top F P n D vM w) (hb:Below w.heap.size w w'):SlAt p q bm nW B top F P n D vM w':=
 ⟨(hb.block q (lt_of_heap h.blk)).trans h.blk,h.map.kept (grown_of_below hb) (by simp),ownsRow_far' h.row fun k hk=>hb.block k (own_lt2 h.row k hk).2⟩
theorem SlAt.cells {p q bm nW B top n:Nat}{F:Nat→Int}{P:List (Nat × Nat)}{D:DataW Unit}{vM:Value}{w:World}(h:SlAt p q bm nW B top F P n D vM w) :
  w.cell? ⟨q,0,none⟩=some (.pointer (some ⟨p,0,none⟩))∧w.cell? ⟨q,1,none⟩=some (.int .i64 0)∧w.cell? ⟨q,2,none⟩=some (.int .i64 (nW:Int))∧w.cell? ⟨q,3,none⟩=some (.map (some bm))∧w.cell? ⟨q,4,none⟩=some vM∧w.cell? ⟨q,5,none⟩=some (.int .i64 (top:Int)):=by
 refine ⟨?_,?_,?_,?_,?_,?_⟩ <;> (rw [cell_of_row _ _ _ _ _ _ h.blk];rfl)
theorem joldFrom_any (p m0:Nat) (hf:Int) (hm0:(m0:Int)=2*hf) (hm1:m0≤300000) (w:World) (vH:w.cell? ⟨p,0,none⟩=some (.int .i64 hf)) :
  Calls Tryz.prog 56 #[.pointer (some ⟨p,0,none⟩)] w fun ev w'=>ev = .returned (.int .i64 (m0:Int))∧w'=w:=by
 have e0:IntKind.i64.wrap (2*hf)=(m0:Int):=by rw [wrapI _ (by omega) (by omega)];omega
 clear hm0 hm1
 go_enter Tryz.func56,Tryz.ntmps56
 go_wp2_with fail
 go_ret
 exact ⟨rfl,rfl⟩
theorem SlAt.aside {X:Nat→Prop}{p q bm nW B top n:Nat}{F:Nat→Int}{P:List (Nat × Nat)}{D:DataW Unit}{vM:Value}{w w':World}(h:SlAt p q bm nW B top F P n D vM w) (ha:Aside X w w') (h1:¬ X q) (h2:¬ X bm) (h3:∀ k,B≤k → ¬ X k):SlAt p q bm nW B top F P n D vM w':=
 ⟨(ha.block q (lt_of_heap h.blk) h1).trans h.blk,ownsMap_aside h.map ha h2,ownsRow_far' h.row fun k hk=>ha.block k (own_lt2 h.row k hk).2 (h3 k (own_lt2 h.row k hk).1)⟩
theorem SlAt.base {p q bm nW B B' top n:Nat}{F:Nat→Int}{P:List (Nat × Nat)}{D:DataW Unit}{vM:Value}{w:World}(h:SlAt p q bm nW B top F P n D vM w) (hB:B'≤B):SlAt p q bm nW B' top F P n D vM w:=⟨h.blk,h.map,h.row.mono hB⟩
theorem SlAt.next {p q bm nW B T n f g' cap':Nat}{F:Nat→Int}{P:List (Nat × Nat)}{D:DataW Unit}{vM:Value}{w7 W w8:World}(h:SlAt p q bm nW B T F P n D vM w7) (hb:Below w7.heap.size w7 W) (hg:W.grownBy w8 vM.ownBlock) (ho:w8.ownsRow B 114 6 (.slice (some ⟨g',0,none⟩) (P.length+1) cap') (P.length+1) (movesV F P++moveV F (f,T))) (hq:q<B) (hm:bm<B) (hqm:bm<q) :
  w8.heap[q]?=some (.cells #[.pointer (some ⟨p,0,none⟩),.int .i64 0,.int .i64 (nW:Int),.map (some bm),vM,.int .i64 (T:Int)] 75)∧SlAt p q bm nW B T F (P ++ [(f,T)]) n D (.slice (some ⟨g',0,none⟩) (P.length+1) cap') (w8.setCell ⟨q,4,none⟩ (.slice (some ⟨g',0,none⟩) (P.length+1) cap')):=by
 have h7:=h.below hb
 have hne:∀ k,k<B→vM.ownBlock≠some k:=fun k hk e=>by have:=(own_lt2 h.row k e).1;omega
 have e1:w8.heap[q]?=some (.cells #[.pointer (some ⟨p,0,none⟩),.int .i64 0,.int .i64 (nW:Int),.map (some bm),vM,.int .i64 (T:Int)] 75):=(hg.block q (lt_of_heap h7.blk) (fun e=>hne q hq e.symm)).trans h7.blk
 refine ⟨e1,⟨?_,?_,?_⟩⟩
 ·exact heap_set_same e1
 ·have m8:=h7.map.kept hg (fun e=>hne bm hm e.symm)
  exact ownsMap_aside m8 (X:=fun k=>k=q) ((Aside.refl (fun k=>k=q) w8).setCell rfl _) (by omega)
 ·have e:movesV F (P ++ [(f,T)])=movesV F P++moveV F (f,T):=by
   unfold movesV
   rw [List.flatMap_append]
   simp
  rw [e,List.length_append]
  refine ownsRow_far' ho fun k hk=>Below.heap_setCell _ _ _ _ ?_
  have:=(own_lt2 ho k hk).1
  show k≠q
  omega
theorem SlAt.setTop {p q bm nW B T n:Nat}{F:Nat→Int}{P:List (Nat × Nat)}{D:DataW Unit}{vM:Value}{w:World}(h:SlAt p q bm nW B T F P n D vM w) (hq:q<B) (hqm:bm<q) (T':Nat):SlAt p q bm nW B T' F P n D vM (w.drew.setCell ⟨q,5,none⟩ (.int .i64 (T':Int))):=by
 have h':=h.below (w':=w.drew) (Below.refl _ _).drew
 refine ⟨heap_set_same h'.blk,ownsMap_aside h'.map (X:=fun k=>k=q) ((Aside.refl (fun k=>k=q) w.drew).setCell rfl _) (by omega),ownsRow_far' h'.row fun k hk=>Below.heap_setCell _ _ _ _ ?_⟩
 have:=(own_lt2 h'.row k hk).1
 show k≠q
 omega
theorem aside_top {X:Nat→Prop}{w w':World}{q o:Nat}(h:Aside X w w') (hq:X q) (v:Value):Aside X w (w'.drew.setCell ⟨q,o,none⟩ v):=Aside.setCell (w':=w'.drew) (h.trans (Aside.of_below (Below.refl _ _).drew)) hq _
theorem SlAt.ice {p q bm nW B T n:Nat}{F:Nat→Int}{P:List (Nat × Nat)}{D:DataW Unit}{vM:Value}{w:World}(h:SlAt p q bm nW B T F P n D vM w):w.frozen? ⟨q,5,none⟩=false:=by simp [World.frozen?,h.blk]
theorem head_size {w:World}{ob t:Nat}{a b c d:Value}(h:w.heap[ob]?=some (.cells #[a,b,c,d] t)):w.cell? ⟨ob,3,none⟩=some d:=by rw [cell_of_row _ _ _ _ _ _ h];rfl
theorem take_new {l:List Nat}(h:l.Nodup) {i f:Nat}(hf:l[i]?=some f):f ∉ l.take i:=fun hm=>by
 have h1:(l.take (i+1)).Nodup:=h.sublist (List.take_sublist _ _)
 rw [List.take_add_one,hf] at h1
 exact (List.nodup_append.1 h1).2.2 f hm f (by simp) rfl
def PlanPost (p B nW m0:Nat) (F:Nat→Int) (l:List Nat) (w:World) (ev:Ending) (w':World):Prop:=∃ q bm n D vM,ev = .returned (.pointer (some ⟨q,0,none⟩))∧SlAt p q bm nW w.heap.size (m0+wordsP F l) F (planP F m0 l) n D vM w'∧Went D (goesP (planP F m0 l))∧w.heap.size≤q∧w.heap.size≤bm∧Below B w w'
set_option maxHeartbeats 4000000 in
set_option maxRecDepth 100000 in
theorem plan_any (p B bW cW nW m0:Nat) (hf:Int) (F:Nat→Int) (rr l:List Nat) (ao:Option Addr) (cap:Nat) (w:World) (hl:rr.length≤300000) (hm0:(m0:Int)=2*hf) (hm1:m0≤300000) (hB:B≤w.heap.size) (own:w.ownsRow B 3 1 (.slice ao rr.length cap) rr.length (ivN rr)) (hn:nW≤300000) (hl2:oldF m0 (sortN rr)=l) (hnd:l.Nodup) (hll:l.length≤300000)
  (hrr:∀ f∈l,f<nW∧0≤F f∧F f<18446744073709551616∧F f % 4=3∧F f / 32768 % 2=0∧F f / 65536≤4096) (he:m0+wordsP F l≤1000000)
  (hp:p<B) (hbW:bW<B) (vH:w.cell? ⟨p,0,none⟩=some (.int .i64 hf)) (vW:w.cell? ⟨p,3,none⟩=some (.slice (some ⟨bW,0,none⟩) nW cW)) (hF:∀ i,i<nW→w.cell? ⟨bW,i,none⟩=some (.int .u64 (F i))) :
  Calls Tryz.prog 30 #[.pointer (some ⟨p,0,none⟩),.slice ao rr.length cap] w (PlanPost p B nW m0 F l w):=by
 have ko:=out_any 0 nW w
 have HW:=toHid hF
 have HR:=toHid hrr
 have HO:=toHid own
 have lp:p<w.heap.size:=by omega
 have lbW:bW<w.heap.size:=by omega
 have hX:∀ k,ao.map Addr.block=some k→B≤k∧k<w.heap.size:=fun k hk=>by
  rcases src_cut own with ⟨rfl,_⟩ | ⟨g,rfl,h1,h2,_⟩
  ·cases hk
  ·cases hk;exact ⟨h1,h2⟩
 have HX:=toHid hX
 clear hX
 have H0:=toHid hm0
 have HWc:=toHid vW
 clear hF hrr own hm0
 go_enter Tryz.func30,Tryz.ntmps30
 go_wp2_with fail
 refine ko.mono ?_
 clear ko
 rintro ev w1 ⟨bm,rfl,hM,hbm,b1⟩
 have vH1:=(b1.cell (p:=⟨p,0,none⟩) lp).trans vH
 have HM:=toHid hM
 have HB1:=toHid b1
 clear hM b1
 have kf:=joldFrom_any p m0 hf H0.out hm1 w1 vH1
 go_wp2_with fail
 refine kf.mono ?_
 clear kf
 rintro ev wz ⟨rfl,e⟩
 rw [e]
 clear e wz
 obtain ⟨w2,hw2⟩:∃ w2,w2=w1.alloc (.cells #[.pointer (some ⟨p,0,none⟩),.int .i64 0,.int .i64 (nW:Int),.map (some bm),.slice none 0 0,.int .i64 (m0:Int)] 75):=⟨_,rfl⟩
 have b2:Below w1.heap.size w1 w2:=by rw [hw2];exact (Below.refl _ _).alloc (Nat.le_refl _) _
 have hS:SlAt p w1.heap.size bm nW w.heap.size m0 F [] 0 (.map []) (.slice none 0 0) w2:=⟨by rw [hw2];exact heap_alloc_new _ _,by rw [hw2];exact HM.out.alloc _,World.ownsRow_nil _ _ _ _⟩
 obtain ⟨q,hq⟩:∃ q,q=w1.heap.size:=⟨_,rfl⟩
 have b02:Below w.heap.size w w2:=HB1.out.trans (b2.mono HB1.out.size)
 have hqw:w.heap.size≤q:=by rw [hq];exact HB1.out.size
 have hbq:bm<q:=by rw [hq];exact HM.out.lt
 have vH2:=(b02.cell (p:=⟨p,0,none⟩) lp).trans vH
 have kf:=joldFrom_any p m0 hf H0.out hm1 w2 vH2
 have ka:=oldFirst_any rr m0 B ao cap w2 hl (ownsRow_far' HO.out fun k hk=>b02.block k (own_lt2 HO.out k hk).2)
 rw [hl2] at ka
 rw [←hq] at hS
 have HS:=toHid hS
 have HB2:=toHid b02
 clear hS b02 b2 HM HB1 vH1 vH2
 go_wp2_with fail
 rw [←hw2,←hq]
 clear hw2 hq w1
 refine kf.mono ?_
 clear kf
 rintro ev wz ⟨rfl,e⟩
 rw [e]
 clear e wz
 go_wp2_with fail
 refine ka.mono ?_
 clear ka
 rintro ev w3 ⟨vL,rfl,ownL,a3⟩
 have hq2:=lt_of_heap HS.out.blk
 have hq3:=Nat.lt_of_lt_of_le (lt_of_heap HS.out.blk) a3.size
 have hS3:SlAt p q bm nW w3.heap.size m0 F [] 0 (.map []) (.slice none 0 0) w3:=by
  have h:=HS.out.aside a3 (fun h=>by have:=HX.out _ h;omega) (fun h=>by have:=HX.out _ h;omega) (fun k hk h=>by have:=HX.out _ h;omega)
  exact ⟨h.blk,h.map,World.ownsRow_nil _ _ _ _⟩
 have B3:Below B w w3:=(HB2.out.mono hB).trans (a3.below (Nat.le_trans hB HB2.out.size) (fun k hk h=>by have:=HX.out _ h;omega))
 have HS3:=toHid hS3
 have HA3:=toHid B3
 have HL:=toHid ownL
 have hwz:w.heap.size≤w2.heap.size:=HB2.out.size
 have hwy:w2.heap.size≤w3.heap.size:=a3.size
 obtain ⟨aL,cL,rfl⟩:=own_slice ownL
 have HC:=toHid (src_cut ownL)
 clear hS3 B3 ownL HS a3
 go_wp2_with fail
 go_loopg [26] (l.length+1) (fun gk v26 wr => ∃ i:Nat,gk=l.length+1 - i∧i≤l.length∧v26 = .int .i64 (i:Int) ∧ ∃ n D vM,n≤i∧Hid (SlAt p q bm nW w3.heap.size (m0+wordsP F (l.take i)) F (planP F m0 (l.take i)) n D vM wr)∧Hid (Went D (goesP (planP F m0 (l.take i))))∧Hid (Aside (fun k=>k=q∨k=bm) w3 wr))
 case atStart=>exact ⟨0,rfl,Nat.zero_le _,rfl,0,_,_,Nat.le_refl _,HS3,went_nil,Aside.refl _ _⟩
 case round =>
  obtain ⟨i,hgk,hi',rfl,n,D,vM,hni,hS,hW,hA⟩:=hrel
  have HG:=toHid hgk
  clear hgk
  have hi0:(0:Int)≤(i:Int):=by omega
  by_cases hlt:i<l.length
  ·have hI:(i:Int)<(l.length:Int):=by omega
   obtain ⟨f,hf'⟩:∃ f,l[i]?=some f:=⟨_,List.getElem?_eq_getElem hlt⟩
   obtain ⟨f1,f2,f3,f4,f5,f6⟩:=HR.out f (List.mem_of_getElem? hf')
   rcases HC.out with ⟨_,e,_⟩ | ⟨g,rfl,g1,g2,_,_,gc⟩
   ·rw [e] at hlt;cases hlt
   have cL:=hA.out.cell (gc i (.int .i64 (f:Int)) (by unfold ivN;rw [List.getElem?_map,hf'];rfl)) (by omega)
   have cW:=hA.out.cell ((HA3.out.cell (p:=⟨p,3,none⟩) hp).trans HWc.out) (by omega)
   have cF:=hA.out.cell ((HA3.out.cell (p:=⟨bW,f,none⟩) hbW).trans (HW.out f f1)) (by omega)
   have hfi:(f:Int)<(nW:Int):=by omega
   have hf0:(0:Int)≤(f:Int):=by omega
   obtain ⟨x,hx⟩:∃ x,x=F f:=⟨_,rfl⟩
   have kt:=toHead_ok x (by rw [hx];exact f2) (by rw [hx];exact f3) (by rw [hx];exact f4) (by rw [hx];exact f5) (by rw [hx];exact f6) wr
   rw [←hx] at cF
   have HF':=toHid hf'
   have Hx:=toHid hx
   have hsz:x / 65536≤4096:=by rw [hx];exact f6
   have hsz0:0≤x / 65536:=by rw [hx];omega
   clear gc hf' hx f2 f3 f4 f5 f6
   go_wp2_with fail
   refine kt.mono ?_
   clear kt
   rintro ev w4 ⟨rfl,b4⟩
   go_upto_region 6 with fail
   obtain ⟨w5,hw5⟩:∃ w5,w5=w4.alloc (.cells #[.int .i64 (x / 4 % 256),.int .i64 (x / 1024 % 16),.int .i64 (x / 16384 % 2),.int .i64 (x / 65536)] 92):=⟨_,rfl⟩
   obtain ⟨ob,hob⟩:∃ ob,ob=w4.heap.size:=⟨_,rfl⟩
   have n5:w5.heap[ob]?=some (.cells #[.int .i64 (x / 4 % 256),.int .i64 (x / 1024 % 16),.int .i64 (x / 16384 % 2),.int .i64 (x / 65536)] 92):=by rw [hw5,hob];exact heap_alloc_new _ _
   have b5:Below w4.heap.size w4 w5:=by rw [hw5];exact (Below.refl _ _).alloc (Nat.le_refl _) _
   rw [←hw5,←hob]
   have hob3:w3.heap.size≤ob:=by rw [hob];exact Nat.le_trans hA.out.size b4.size
   have b45:Below wr.heap.size wr w5:=b4.trans (b5.mono b4.size)
   have HOb:Hid (∀ k,vM.ownBlock=some k→k<ob):=fun k hk=>by rw [hob];exact Nat.lt_of_lt_of_le (own_lt2 hS.out.row k hk).2 b4.size
   have hS4:=hS.out.below b45
   have hA4:=hA.out.trans (Aside.of_below b45)
   clear b5 b4 b45 hw5 hob w4
   have hl4:=hS4.cells
   obtain ⟨T,hT⟩:∃ T,T=m0+wordsP F (l.take i):=⟨_,rfl⟩
   obtain ⟨Pl,hPl⟩:∃ Pl,Pl=planP F m0 (l.take i):=⟨_,rfl⟩
   have hTb:T≤1000000:=by
    have:wordsP F (l.take i)≤wordsP F l:=by
     have e:wordsP F (l.take i++l.drop i)=wordsP F (l.take i)+wordsP F (l.drop i):=by
      unfold wordsP
      rw [List.map_append,List.sum_append]
     rw [List.take_append_drop] at e
     omega
    omega
   rw [←hT,←hPl] at hS4
   have hle3:w3.heap.size≤w5.heap.size:=hA4.size
   have kn:Hid (∀ W,Below w5.heap.size w5 W→Calls Tryz.prog 59 #[.agg #[.int .i64 0,.int .i64 (nW:Int),.map (some bm)],.int .i64 (f:Int),.int .i64 (T:Int)] W fun ev w'=>ev = .returned (.tuple #[]) ∧ ∃ n',n'≤n+1∧SlAt p q bm nW w3.heap.size T F Pl n' (D.put (.int .i64 (f:Int)) (.lit (.int .i64 (T:Int)))) vM w'∧Aside (fun k=>k=q∨k=bm) w3 w'∧w'.heap[ob]?=some (.cells #[.int .i64 (x / 4 % 256),.int .i64 (x / 1024 % 16),.int .i64 (x / 16384 % 2),.int .i64 (x / 65536)] 92)):=fun W hW=>by
    have S5:=hS4.below hW
    refine (note_wide 0 nW bm n f T 0 D W (by omega) hTb (by omega) S5.map (Nat.zero_le _) (Nat.zero_le _)).mono ?_
    rintro ev w' ⟨rfl,⟨n',h1,h2⟩,h3,h4⟩
    refine ⟨rfl,n',h1,⟨(h4 q (lt_of_heap S5.blk) (by omega)).trans S5.blk,h2,ownsRow_far' S5.row fun k hk=>h4 k (own_lt2 S5.row k hk).2 (by have:=(own_lt2 S5.row k hk).1;omega)⟩,?_⟩
    refine ⟨(hA4.trans (Aside.of_below hW)).trans ⟨h3.os,h3.tape,h3.output,h3.size,fun k hk hx=>h4 k hk fun e=>hx (.inr e)⟩,?_⟩
    have nW:=(hW.block ob (lt_of_heap n5)).trans n5
    exact (h4 ob (lt_of_heap nW) (by omega)).trans nW
   have HSc:=toHid hS4.cells.2
   have HS4:=toHid hS4
   have HT:=toHid hT
   have HPl:=toHid hPl
   have HA4:=toHid hA4
   clear hS4 hS hA hA4 hl4 cL cW cF hT hPl
   go_region_held3 (fun W=>W.cell? ⟨q,1,none⟩=some (.int .i64 0)∧W.cell? ⟨q,2,none⟩=some (.int .i64 (nW:Int))∧W.cell? ⟨q,3,none⟩=some (.map (some bm))∧W.cell? ⟨q,4,none⟩=some vM∧W.cell? ⟨q,5,none⟩=some (.int .i64 (T:Int))) (first | with_reducible exact HSc.out | with_reducible exact s7c | exact HSc.out) (first | (go_at_call 59;refine (kn.out _ (by first | exact (Below.refl _ _).drew | exact Below.refl _ _)).mono ?_;rintro ev w7 ⟨rfl,n',hn',s7,a7,n7⟩;have s7c:=s7.cells.2;have N7:=toHid n7;clear n7;have HS7:=toHid s7;have HA7:=toHid a7;clear s7 a7))
   have HS7c:=toHid s7c
   clear s7c kn HS4 HA4 HSc
   obtain ⟨i0,hi0,hz0,hz1,hz2⟩:=infoMove
   have hOW:=HS7.out.row
   obtain ⟨aM,cM,rfl⟩:=own_slice hOW
   have hPn:Pl.length=i:=by
    have:=congrArg List.length (planP_fst F (l.take i) m0)
    rw [List.length_map,←HPl.out,List.length_take] at this
    omega
   have HPn:=toHid hPn
   clear hOW hPn
   have HC7:=toHid (SlAt.cells HS7.out)
   obtain ⟨c0,c1,c2,c3,c4,c5⟩:=SlAt.cells HS7.out
   have fz:w7.frozen? ⟨q,4,none⟩=false:=by simp [World.frozen?,HS7.out.blk]
   have o0:w7.cell? ⟨ob,0,none⟩=some (.int .i64 (x / 4 % 256)):=by rw [cell_of_row _ _ _ _ _ _ N7.out];rfl
   have o1:w7.cell? ⟨ob,1,none⟩=some (.int .i64 (x / 1024 % 16)):=by rw [cell_of_row _ _ _ _ _ _ N7.out];rfl
   have o2:w7.cell? ⟨ob,2,none⟩=some (.int .i64 (x / 16384 % 2)):=by rw [cell_of_row _ _ _ _ _ _ N7.out];rfl
   have o3:w7.cell? ⟨ob,3,none⟩=some (.int .i64 (x / 65536)):=by rw [cell_of_row _ _ _ _ _ _ N7.out];rfl
   have hw37:w3.heap.size≤w7.heap.size:=HA7.out.size
   have hq7:q<w7.heap.size:=by omega
   have ho7:ob<w7.heap.size:=lt_of_heap N7.out
   have hq7':¬ w7.heap.size=q:=by omega
   have ho7':¬ w7.heap.size=ob:=by omega
   go_upto_region 7 with fail
   have hxm:Hid (moveV F (f,T) = [.int .i64 (f:Int),.int .i64 (T:Int),.int .i64 (x / 4 % 256),.int .i64 (x / 1024 % 16),.int .i64 (x / 16384 % 2),.int .i64 (x / 65536)]):=by
    have e:=Hx.out
    subst e
    rfl
   go_cut [] from 51 to 67 (fun wx => ∃ vN,Hid (SlAt p q bm nW w3.heap.size T F (Pl ++ [(f,T)]) n' (D.put (.int .i64 (f:Int)) (.lit (.int .i64 (T:Int)))) vN wx)∧Hid (Aside (fun k=>k=q∨k=bm) w3 wx)∧Hid (wx.heap[ob]?=some (.cells #[.int .i64 (x / 4 % 256),.int .i64 (x / 1024 % 16),.int .i64 (x / 16384 % 2),.int .i64 (x / 65536)] 92)))
   case first =>
    go_region_law (first | (refine step_append_lies _ (by rfl) _ _ _ (by rfl) w3.heap.size 114 i0 (.agg #[.int .i64 0,.int .i64 0,.int .i64 0,.int .i64 0,.int .i64 0,.int .i64 0]) 6 48 Tryz.underlying73 hi0 hz0 hz1 hz2 rfl (by decide) (.slice aM Pl.length cM) Pl.length (movesV F Pl) rfl (by first | exact ownsRow_far' HS7.out.row (fun g hg=>heap_alloc_old _ _ _ (own_lt2 HS7.out.row g hg).2)) ⟨w7.heap.size,0,none⟩ 1 1 [.int .i64 (f:Int),.int .i64 (T:Int),.int .i64 (x / 4 % 256),.int .i64 (x / 1024 % 16),.int .i64 (x / 16384 % 2),.int .i64 (x / 65536)] rfl rfl (World.news_of_block (cs:=#[.int .i64 (f:Int),.int .i64 (T:Int),.int .i64 (x / 4 % 256),.int .i64 (x / 1024 % 16),.int .i64 (x / 16384 % 2),.int .i64 (x / 65536)]) (t:=114) (heap_alloc_new _ _)) (by intro u hu;simp at hu;rcases hu with rfl | rfl | rfl | rfl | rfl | rfl <;> rfl) (by decide) (by have:=HPn.out;unfold maxLen;omega) (by have:=HPn.out;omega) (by simp;omega) _ rfl ?_;intro g' cap' w8 hown8 hgrow8 hat8 hlt8;rw [←hxm.out] at hown8;obtain ⟨q8,s8⟩:=SlAt.next HS7.out (((Below.refl _ _).alloc (Nat.le_refl _) _).drew) hgrow8 hown8 hq3 (by omega) hbq;have a8:=(HA7.out.trans (Aside.of_below (((Below.refl _ _).alloc (Nat.le_refl _) _).drew))).grown hgrow8 (fun k hk=>(own_lt2 HS7.out.row k hk).1);have n8:=(hgrow8.block ob (Nat.lt_of_lt_of_le (lt_of_heap N7.out) (by simp)) (fun e=>by have:=HOb.out ob e.symm;omega)).trans ((heap_alloc_old _ _ _ (lt_of_heap N7.out)).trans N7.out);have N8:=toHid n8;have HA8:=toHid a8;clear n8 a8;have c48:w8.cell? ⟨q,4,none⟩=some (.slice aM Pl.length cM):=(by rw [cell_of_row _ _ _ _ _ _ q8];rfl);have f48:w8.frozen? ⟨q,4,none⟩=false:=(by simp [World.frozen?,q8]);have HS8:=toHid s8;clear s8 hown8 hgrow8 hat8 hlt8))
    all_goals go_wp2_with fail
    all_goals go_meet
    all_goals exact ⟨_,HS8,HA8.out.setCell (Or.inl rfl) _,(Below.heap_setCell _ _ _ _ (show ob≠q by omega)).trans N8.out⟩
   case rest =>
    obtain ⟨vN,hS9,hA9,hN9⟩:=hcut
    have c59:=hS9.out.cells.2.2.2.2.2
    have o39:=head_size hN9.out
    have f59:=hS9.out.ice
    obtain ⟨T',hT'⟩:∃ T',T'=T+(1+szN x):=⟨_,rfl⟩
    have e1:IntKind.i64.wrap (1+x / 65536)=1+x / 65536:=wrapI _ (by omega) (by omega)
    have e2:IntKind.i64.wrap ((T:Int)+(1+x / 65536))=(T':Int):=by
     rw [wrapI _ (by omega) (by omega),hT']
     unfold szN
     omega
    have etk:l.take (i+1)=l.take i ++ [f]:=by rw [List.take_add_one,HF'.out];rfl
    have HT10:Hid (T'=m0+wordsP F (l.take (i+1))):=by
     show T'=_
     rw [etk,wordsP_app1,hT',HT.out,Hx.out]
     omega
    have HP10:Hid (Pl ++ [(f,T)]=planP F m0 (l.take (i+1))):=by
     show _=_
     rw [etk,planP_app,HPl.out,HT.out]
    have HW10:Hid (Went (D.put (.int .i64 (f:Int)) (.lit (.int .i64 (T:Int)))) (goesP (planP F m0 (l.take (i+1))))):=by
     show Went _ _
     rw [←HP10.out,goesP_app]
     ·rw [HPl.out]
      exact went_put hW.out f T
     ·rw [HPl.out,planP_fst]
      exact take_new hnd HF'.out
    have HS10:=toHid (hS9.out.setTop hq3 hbq T')
    have HA10:=toHid (aside_top (o:=5) hA9.out (Or.inl rfl) (.int .i64 (T':Int)))
    have hS10:=HS10.out
    rw [HP10.out] at hS10
    have HS11:Hid (SlAt p q bm nW w3.heap.size (m0+wordsP F (l.take (i+1))) F (planP F m0 (l.take (i+1))) n' (D.put (.int .i64 (f:Int)) (.lit (.int .i64 (T:Int)))) vN _):=(congrArg (fun t=>SlAt p q bm nW w3.heap.size t F (planP F m0 (l.take (i+1))) n' (D.put (.int .i64 (f:Int)) (.lit (.int .i64 (T:Int)))) vN _) HT10.out).mp hS10
    clear hS10
    clear etk hT' hS9 hA9 hN9
    go_wp2_with fail
    go_region_law fail
    all_goals
     go_wp2_with fail
     go_roundg (l.length+1 - (i+1))
     case measure=>have:=HG.out;omega
     case rel=>exact ⟨i+1,rfl,by omega,by go_num,n',_,vN,by omega,HS11,HW10,HA10⟩
  ·obtain rfl:i=l.length:=by omega
   have hI:¬ (l.length:Int)<(l.length:Int):=by omega
   rw [List.take_of_length_le (Nat.le_refl _)] at hS hW
   have HE:Hid (PlanPost p B nW m0 F l w (.returned (.pointer (some ⟨q,0,none⟩))) wr):=⟨q,bm,n,D,vM,rfl,hS.out.base (by omega),hW.out,hqw,hbm,HA3.out.trans (hA.out.below (by omega) (fun k hk h=>by omega))⟩
   go_wp2_with fail
   first | exact HE.out | (go_ret;exact HE.out) | (go_ret2;exact HE.out)
end Go.Proofs.YtnenggkgfhgcnaaGreatDoor

/- An object is carried (carry), by a contract. -/
namespace Go.Proofs.YtnenggkgfhgcnaaGreatDoor
open Go.RowKit Go.Maps

structure CarAt (p q bm nW bW cW:Nat) (W:List Int) (w:World):Prop where
 c0:w.cell? ⟨q,0,none⟩=some (.pointer (some ⟨p,0,none⟩))
 c1:w.cell? ⟨q,1,none⟩=some (.int .i64 0)
 c2:w.cell? ⟨q,2,none⟩=some (.int .i64 (nW:Int))
 c3:w.cell? ⟨q,3,none⟩=some (.map (some bm))
 p3:w.cell? ⟨p,3,none⟩=some (.slice (some ⟨bW,0,none⟩) nW cW)
 row:Blk bW 50 (wordsV W) w
theorem CarAt.aside {X:Nat→Prop}{p q bm nW bW cW:Nat}{W:List Int}{w w':World}(h:CarAt p q bm nW bW cW W w) (ha:Aside X w w') (h1:¬ X q) (h2:¬ X p) (h3:¬ X bW):CarAt p q bm nW bW cW W w':=
 ⟨ha.cell h.c0 h1,ha.cell h.c1 h1,ha.cell h.c2 h1,ha.cell h.c3 h1,ha.cell h.p3 h2,h.row.aside ha h3⟩
theorem Aside.joinI {X Y:Nat→Prop}{w w1 w2:World}(h:Aside X w w1) (h':Aside Y w1 w2) (hy:∀ k,k<w.heap.size→Y k→X k):Aside X w w2:=
 ⟨h'.os.trans h.os,h'.tape.trans h.tape,h'.output.trans h.output,Nat.le_trans h.size h'.size,fun k hk hx=>(h'.block k (Nat.lt_of_lt_of_le hk h.size) (fun hyk=>hx (hy k hk hyk))).trans (h.block k hk hx)⟩
theorem layW_64 {W:List Int}{f t:Nat}{x:Int}(hU:U64 W) (hh:headB x=true) (x0:0≤x) (ht:t+(1+szN x)≤W.length) (hf:f+(1+szN x)≤W.length):U64 (layW W f t x 0):=fun y hy=>by
 have hd:=hdW_facts hh x0 (g:=0) (by omega) (by omega)
 have hWr:∀ j,0≤W.getD j 0∧W.getD j 0<18446744073709551616:=fun j=>by
  rw [List.getD_eq_getElem?_getD]
  cases hj:W[j]? with
  | none=>exact ⟨by decide,by decide⟩
  | some x=>exact hU x (List.mem_of_getElem? hj)
 obtain ⟨i,hi,rfl⟩:=List.mem_iff_getElem.1 hy
 have hg:(layW W f t x 0)[i]=(layW W f t x 0).getD i 0:=by rw [List.getD_eq_getElem?_getD,List.getElem?_eq_getElem hi];rfl
 rw [hg,layW_at W f t i x 0 ht hf]
 split
 ·exact ⟨hd.2.2.2.2.2.1,hd.2.2.2.2.2.2⟩
 ·split
  ·exact hWr _
  ·exact hWr _
set_option maxHeartbeats 4000000 in
set_option maxRecDepth 100000 in
theorem carry_any (a:Nat→Addr) (p q bm nW bW cW f t s nm:Nat) (x:Int) (W:List Int) (D:DataW Unit) (φ:Nat→Option Nat) (w:World) (H:CarAt p q bm nW bW cW W w) (hl:W.length=nW) (hn:nW≤300000) (hcw:nW≤cW) (hU:U64 W) (hh:headB x=true) (x0:0≤x) (hs:(s:Int)=x / 65536) (hf:f+(1+s)≤nW) (ht:t+(1+s)≤nW) (lq:q<w.heap.size) (lb:bW<w.heap.size) (hqb:¬ q=bW) (hpb:¬ p=bW) (hmb:bm≠bW)
  (hφ:∀ f t,φ f=some t→t≤300000) (M:w.ownsMap Tryz.prog 3 (plainElem Tryz.prog 3) bm nm D) (We:Went D φ) (E:∀ w',Aside (· = bW) w w'→WErr a w') :
  Calls Tryz.prog 63 #[.pointer (some ⟨q,0,none⟩),.agg #[.int .i64 (f:Int),.int .i64 (t:Int),.int .i64 (x / 4 % 256),.int .i64 (x / 1024 % 16),.int .i64 (x / 16384 % 2),.int .i64 (s:Int)]] w fun ev w'=>ev = .returned (.tuple #[])∧Blk bW 50 (wordsV (carryW nW φ W f t x)) w'∧Aside (· = bW) w w':=by
 have hsz:szN x=s:=by unfold szN;omega
 obtain ⟨E1,E2,E3⟩:=of_decide_eq_true hh
 obtain ⟨k,hk⟩:∃ k,k=x / 4 % 256:=⟨_,rfl⟩
 obtain ⟨ag,hag⟩:∃ ag,ag=x / 1024 % 16:=⟨_,rfl⟩
 obtain ⟨mk,hmk⟩:∃ mk,mk=x / 16384 % 2:=⟨_,rfl⟩
 have gk0:0≤k∧k≤255:=by omega
 have gm0:0≤mk∧mk≤1:=by omega
 have gs0:(0:Int)≤(s:Int)∧(s:Int)≤4096:=by omega
 have ko:=fun w=>ofHead_ok k 0 mk (s:Int) gk0.1 gk0.2 (by omega) (by omega) gm0.1 gm0.2 gs0.1 gs0.2 w
 obtain ⟨hw,hhw⟩:∃ hw,hw=(s:Int)*65536+mk*16384+0*1024+k*4+3:=⟨_,rfl⟩
 rw [←hhw] at ko
 obtain ⟨LW,hLW⟩:∃ LW,LW=layW W f t x 0:=⟨_,rfl⟩
 have HLW:Hid (LW=(splice W t ((W.drop f).take (1+s))).set t hw):=by
  show _=_
  rw [hLW]
  unfold layW hdW
  rw [hsz,hhw,hk,hmk,hs]
 have HLl:Hid (LW.length=nW):=by show _=_;rw [hLW,layW_len _ _ _ _ _ (by rw [hl,hsz];exact ht) (by rw [hl,hsz];exact hf)];exact hl
 have HL64:Hid (U64 LW):=by rw [hLW];exact layW_64 hU hh x0 (by rw [hl,hsz];exact ht) (by rw [hl,hsz];exact hf)
 have HCW:Hid (carryW nW φ W f t x=if k<8 then LW else mapAt (t+1) s (fun y=>(nowP 0 nW φ y).1) LW):=by show _=_;unfold carryW;rw [hsz,hLW,hk]
 rw [←hk,←hag,←hmk]
 obtain ⟨CW,hCW⟩:∃ CW,CW=carryW nW φ W f t x:=⟨_,rfl⟩
 rw [←hCW] at HCW ⊢
 clear hCW hLW hhw hk hag hmk E1 E2 E3 hh x0 hs hsz
 have HM:=toHid M
 have HWe:=toHid We
 have HEE:=toHid E
 have HPH:=toHid hφ
 clear M We E hφ
 obtain ⟨t1,ht1⟩:∃ t1,t1=t+1:=⟨_,rfl⟩
 obtain ⟨te,hte⟩:∃ te,te=t+1+s:=⟨_,rfl⟩
 have k1:IntKind.i64.wrap ((t:Int)+1)=(t1:Int):=by rw [wrapI _ (by omega) (by omega)];omega
 have k2:IntKind.i64.wrap ((t1:Int)+(s:Int))=(te:Int):=by rw [wrapI _ (by omega) (by omega)];omega
 have i0:(0:Int)≤(t:Int):=by omega
 have i1:(t:Int)≤(te:Int):=by omega
 have i2:(te:Int)≤(nW:Int):=by omega
 have i3:(te:Int)≤(cW:Int):=by omega
 have i4:(0:Int)≤(f:Int):=by omega
 have i5:(f:Int)≤(nW:Int):=by omega
 have i6:(f:Int)≤(cW:Int):=by omega
 have i7:(nW:Int)≤(cW:Int):=by omega
 have j1:¬ cW=t:=by omega
 have j2:¬ cW=f:=by omega
 have HT1:=toHid ht1
 have HTE:=toHid hte
 clear ht1 hte
 obtain ⟨w1,hw1⟩:∃ w1,w1=w.alloc (.cells #[.int .i64 (f:Int),.int .i64 (t:Int),.int .i64 k,.int .i64 ag,.int .i64 mk,.int .i64 (s:Int)] 114):=⟨_,rfl⟩
 obtain ⟨bv,hbv⟩:∃ bv,bv=w.heap.size:=⟨_,rfl⟩
 have n1:w1.heap[bv]?=some (.cells #[.int .i64 (f:Int),.int .i64 (t:Int),.int .i64 k,.int .i64 ag,.int .i64 mk,.int .i64 (s:Int)] 114):=by rw [hw1,hbv];exact heap_alloc_new _ _
 have b1:Below w.heap.size w w1:=by rw [hw1];exact (Below.refl _ _).alloc (Nat.le_refl _) _
 have H1:=H.aside (X:=fun _=>False) (Aside.of_below b1) id id id
 have HH:=toHid H1
 have HN:=toHid n1
 have HW1:=toHid hw1
 have HBV:=toHid hbv
 have HAW1:Hid (Aside (· = bW) w w1):=Aside.of_below b1
 clear H b1 n1 hw1 hbv
 go_enter Tryz.func63,Tryz.ntmps63
 go_upto_region 1 with fail
 rw [←HW1.out,←HBV.out]
 clear HW1
 have v0:w1.cell? ⟨bv,0,none⟩=some (.int .i64 (f:Int)):=by rw [cell_of_row _ _ _ _ _ _ HN.out];rfl
 have v1:w1.cell? ⟨bv,1,none⟩=some (.int .i64 (t:Int)):=by rw [cell_of_row _ _ _ _ _ _ HN.out];rfl
 have v5:w1.cell? ⟨bv,5,none⟩=some (.int .i64 (s:Int)):=by rw [cell_of_row _ _ _ _ _ _ HN.out];rfl
 have HS1:Hid (w1.cell? ⟨q,0,none⟩=some (.pointer (some ⟨p,0,none⟩))∧w1.cell? ⟨p,3,none⟩=some (.slice (some ⟨bW,0,none⟩) nW cW)∧w1.cell? ⟨bv,0,none⟩=some (.int .i64 (f:Int))∧w1.cell? ⟨bv,1,none⟩=some (.int .i64 (t:Int))∧w1.cell? ⟨bv,5,none⟩=some (.int .i64 (s:Int))):=⟨HH.out.c0,HH.out.p3,v0,v1,v5⟩
 clear v0 v1 v5
 go_region_held3 (fun W=>W.cell? ⟨q,0,none⟩=some (.pointer (some ⟨p,0,none⟩))∧W.cell? ⟨p,3,none⟩=some (.slice (some ⟨bW,0,none⟩) nW cW)∧W.cell? ⟨bv,0,none⟩=some (.int .i64 (f:Int))∧W.cell? ⟨bv,1,none⟩=some (.int .i64 (t:Int))∧W.cell? ⟨bv,5,none⟩=some (.int .i64 (s:Int))) (first | with_reducible exact HS1.out | exact HS1.out) (fail)
 have hbb:¬ bv=bW:=by have:=HBV.out;omega
 have HB:=toHid HH.out.row
 have HS2:Hid (w1.cell? ⟨q,0,none⟩=some (.pointer (some ⟨p,0,none⟩))∧w1.cell? ⟨p,3,none⟩=some (.slice (some ⟨bW,0,none⟩) nW cW)∧w1.cell? ⟨bv,0,none⟩=some (.int .i64 (f:Int))):=⟨HS1.out.1,HS1.out.2.1,HS1.out.2.2.1⟩
 have HSK:Hid (∀ W,Aside (· = bW) w1 W→W.cell? ⟨q,0,none⟩=some (.pointer (some ⟨p,0,none⟩))∧W.cell? ⟨p,3,none⟩=some (.slice (some ⟨bW,0,none⟩) nW cW)∧W.cell? ⟨bv,0,none⟩=some (.int .i64 (f:Int))):=fun W ha=>⟨ha.cell HS2.out.1 hqb,ha.cell HS2.out.2.1 hpb,ha.cell HS2.out.2.2 hbb⟩
 have hlen:((W.drop f).take (1+s)).length=1+s:=by rw [List.length_take,List.length_drop];omega
 have HMIN:Hid ((wordsV ((W.drop f).take (1+s))).length=Nat.min (nW - f) (te - t)):=by
  show _=_
  have:=HTE.out
  rw [lenV,hlen]
  simp only [Nat.min_def]
  split <;> omega
 have HFIT:Hid (t+(wordsV ((W.drop f).take (1+s))).length≤(wordsV W).length):=by
  show _≤_
  rw [lenV,lenV,hlen]
  omega
 have HSRC:Hid (∀ j v,(wordsV ((W.drop f).take (1+s)))[j]?=some v→w1.cell? ((⟨bW,f,none⟩:Addr).add j)=some v):=fun j v hj=>by
  have hjn:j<1+s:=by
   have:=(List.getElem?_eq_some_iff.1 hj).1
   rw [lenV,hlen] at this
   exact this
  have e1:(⟨bW,f,none⟩:Addr).add j=⟨bW,f+j,none⟩:=by unfold Addr.add;split <;> simp_all
  rw [e1]
  refine HB.out.cell ?_
  unfold wordsV at hj ⊢
  rw [List.getElem?_map,List.getElem?_take,if_pos hjn,List.getElem?_drop] at hj
  rw [List.getElem?_map]
  exact hj
 clear hlen
 go_upto_region 2 with fail
 go_region_held3 (fun W=>W.cell? ⟨q,0,none⟩=some (.pointer (some ⟨p,0,none⟩))∧W.cell? ⟨p,3,none⟩=some (.slice (some ⟨bW,0,none⟩) nW cW)∧W.cell? ⟨bv,0,none⟩=some (.int .i64 (f:Int))) (first | with_reducible exact HSK.out _ hA6.out | with_reducible exact HS2.out | exact HS2.out | exact HSK.out _ ⟨hA6.out.os,hA6.out.tape,hA6.out.output,hA6.out.size,hA6.out.block⟩) (first | (refine step_copy_aside (by rfl) _ _ _ _ (by rfl) 50 Tryz.underlying26 infoU64m ⟨bW,f,none⟩ (te - t) (cW - t) (nW - f) (cW - f) bW t (by rfl) (by rfl) (wordsV W) 50 HB.out (wordsV ((W.drop f).take (1+s))) HMIN.out HSRC.out HFIT.out (one_words _) ?_;intro w6 hB6 hA6))
 have a16:Aside (· = bW) w1 w6:=⟨hA6.out.os,hA6.out.tape,hA6.out.output,hA6.out.size,hA6.out.block⟩
 have hB6':Blk bW 50 (wordsV (splice W t ((W.drop f).take (1+s)))) w6:=by have h:=hB6.out;rw [wordsV_splice] at h;exact h
 have n6:=(a16.block bv (lt_of_heap HN.out) hbb).trans HN.out
 have c63:w6.cell? ⟨bv,3,none⟩=some (.int .i64 ag):=by rw [cell_of_row _ _ _ _ _ _ n6];rfl
 have f63:w6.frozen? ⟨bv,3,none⟩=false:=by simp [World.frozen?,n6]
 obtain ⟨w7,hw7⟩:∃ w7,w7=w6.setCell ⟨bv,3,none⟩ (.int .i64 0):=⟨_,rfl⟩
 have n7:w7.heap[bv]?=some (.cells #[.int .i64 (f:Int),.int .i64 (t:Int),.int .i64 k,.int .i64 0,.int .i64 mk,.int .i64 (s:Int)] 114):=by rw [hw7];exact heap_set_same n6
 have a67:Aside (· = bv) w6 w7:=by rw [hw7];exact (Aside.refl (fun k=>k=bv) w6).setCell (g:=bv) rfl _
 have A7:Aside (· = bW) w w7:=(HAW1.out.trans a16).joinI a67 (fun k hk h=>by have:=HBV.out;have h:k=bv:=h;omega)
 have hB7:Blk bW 50 (wordsV (splice W t ((W.drop f).take (1+s)))) w7:=hB6'.aside a67 (fun h=>hbb h.symm)
 have HB7:=toHid hB7
 have HA7:=toHid A7
 have HN7:=toHid n7
 have HW7:=toHid hw7
 have HQ7:Hid (w7.cell? ⟨q,0,none⟩=some (.pointer (some ⟨p,0,none⟩))∧w7.cell? ⟨q,1,none⟩=some (.int .i64 0)∧w7.cell? ⟨q,2,none⟩=some (.int .i64 (nW:Int))∧w7.cell? ⟨q,3,none⟩=some (.map (some bm))):=by
  have hqv:¬ q=bv:=by have:=HBV.out;omega
  exact ⟨a67.cell (a16.cell HH.out.c0 hqb) hqv,a67.cell (a16.cell HH.out.c1 hqb) hqv,a67.cell (a16.cell HH.out.c2 hqb) hqv,a67.cell (a16.cell HH.out.c3 hqb) hqv⟩
 clear hB6 hA6 a16 hB6' n6 n7 a67 A7 hB7 hw7 HB HS1 HS2 HSK HMIN HFIT HSRC HAW1
 go_upto_region 4 with fail
 rw [←HW7.out]
 clear HW7 c63 f63
 have d2:w7.cell? ⟨bv,2,none⟩=some (.int .i64 k):=by rw [cell_of_row _ _ _ _ _ _ HN7.out];rfl
 have d3:w7.cell? ⟨bv,3,none⟩=some (.int .i64 0):=by rw [cell_of_row _ _ _ _ _ _ HN7.out];rfl
 have d4:w7.cell? ⟨bv,4,none⟩=some (.int .i64 mk):=by rw [cell_of_row _ _ _ _ _ _ HN7.out];rfl
 have d5:w7.cell? ⟨bv,5,none⟩=some (.int .i64 (s:Int)):=by rw [cell_of_row _ _ _ _ _ _ HN7.out];rfl
 have kh:=ko w7
 go_wp2_with fail
 refine kh.mono ?_
 clear kh ko d2 d3 d4 d5
 rintro ev w8 ⟨rfl,b8⟩
 have hB8:=HB7.out.below b8
 have A8:Aside (· = bW) w w8:=HA7.out.trans (Aside.of_below b8)
 have hlt8:t<(wordsV (splice W t ((W.drop f).take (1+s)))).length:=by
  have h1:=HLl.out
  rw [HLW.out,List.length_set] at h1
  rw [lenV]
  omega
 have c8:w8.cell? ⟨bW,t,none⟩=some (wordsV (splice W t ((W.drop f).take (1+s))))[t]:=hB8.cell (List.getElem?_eq_getElem hlt8)
 obtain ⟨u8,hu8⟩:∃ u8,u8=(wordsV (splice W t ((W.drop f).take (1+s))))[t]:=⟨_,rfl⟩
 rw [←hu8] at c8
 clear hu8
 have f8:=hB8.frozen t
 obtain ⟨w9,hw9⟩:∃ w9,w9=w8.setCell ⟨bW,t,none⟩ (.int .u64 hw):=⟨_,rfl⟩
 have a89:Aside (· = bW) w8 w9:=by rw [hw9];exact (Aside.refl (fun k=>k=bW) w8).setCell (g:=bW) rfl _
 have hB9:Blk bW 50 (wordsV LW) w9:=by
  rw [hw9,HLW.out,←wordsV_set]
  exact hB8.set hlt8 _
 have n9:w9.heap[bv]?=some (.cells #[.int .i64 (f:Int),.int .i64 (t:Int),.int .i64 k,.int .i64 0,.int .i64 mk,.int .i64 (s:Int)] 114):=(a89.block bv (Nat.lt_of_lt_of_le (lt_of_heap HN7.out) b8.size) hbb).trans ((b8.block bv (lt_of_heap HN7.out)).trans HN7.out)
 have HQ9:Hid (w9.cell? ⟨q,0,none⟩=some (.pointer (some ⟨p,0,none⟩))∧w9.cell? ⟨q,1,none⟩=some (.int .i64 0)∧w9.cell? ⟨q,2,none⟩=some (.int .i64 (nW:Int))∧w9.cell? ⟨q,3,none⟩=some (.map (some bm))):=by
  obtain ⟨q0,q1,q2,q3⟩:=HQ7.out
  have a79:Aside (· = bW) w7 w9:=(Aside.of_below (X:=fun k=>k=bW) b8).trans a89
  exact ⟨a79.cell q0 hqb,a79.cell q1 hqb,a79.cell q2 hqb,a79.cell q3 hqb⟩
 have HA9:Hid (Aside (· = bW) w w9):=A8.trans a89
 have HB9:=toHid hB9
 have HN9:=toHid n9
 have HW9:=toHid hw9
 have hti:(0:Int)<(te:Int) - (t:Int):=by have:=HTE.out;omega
 clear hB8 A8 hlt8 a89 hB9 n9 hw9 b8 HQ7 HB7 HA7 HN7
 go_upto_region 5 with fail
 rw [←HW9.out]
 clear HW9 c8 f8
 have d2:w9.cell? ⟨bv,2,none⟩=some (.int .i64 k):=by rw [cell_of_row _ _ _ _ _ _ HN9.out];rfl
 have kr:=raw_any k gk0.1 w9
 go_wp2_with fail
 refine kr.mono ?_
 clear kr
 rintro ev wz ⟨rfl,e⟩
 rw [e]
 clear e wz
 by_cases hk8:k<8
 ·have hd:decide (k<8)=true:=decide_eq_true hk8
  rw [hd]
  have HE:Hid (Blk bW 50 (wordsV CW) w9):=by show Blk _ _ _ _;rw [HCW.out,if_pos hk8];exact HB9.out
  go_wp2_with fail
  go_end0
  exact ⟨rfl,HE.out,HA9.out⟩
 ·have hd:decide (k<8)=false:=decide_eq_false hk8
  rw [hd]
  obtain ⟨q0,q1,q2,q3⟩:=HQ9.out
  have i8:(1:Int)≤((te - t:Nat):Int):=by have:=HTE.out;omega
  have i9:(1:Int)≤((cW - t:Nat):Int):=by have:=HTE.out;omega
  have i10:((te - t:Nat):Int)≤((cW - t:Nat):Int):=by omega
  have HM9:Hid (∀ W,Below w9.heap.size w9 W→W.ownsMap Tryz.prog 3 (plainElem Tryz.prog 3) bm nm D):=fun W hW=>ownsMap_aside HM.out (HA9.out.trans (Aside.of_below hW)) hmb
  have HS9:Hid (∀ W,Aside (· = bW) w9 W→W.cell? ⟨q,1,none⟩=some (.int .i64 0)∧W.cell? ⟨q,2,none⟩=some (.int .i64 (nW:Int))∧W.cell? ⟨q,3,none⟩=some (.map (some bm))):=fun W ha=>⟨ha.cell q1 hqb,ha.cell q2 hqb,ha.cell q3 hqb⟩
  have HS90:=toHid (HS9.out w9 (Aside.refl _ _))
  obtain ⟨t2,ht2⟩:∃ t2,t2=if cW - t=1 then t else t+1:=⟨_,rfl⟩
  have HT2:=toHid ht2
  have hN:t2+(te - t - 1)≤LW.length:=by
   have h1:=HLl.out
   have h2:=HTE.out
   rw [h1,ht2]
   split <;> omega
  have HKF:Hid (∀ cap W,Below w9.heap.size w9 W→Calls Tryz.prog 61 #[.agg #[.int .i64 0,.int .i64 (nW:Int),.map (some bm)],.slice (some ⟨bW,t2,none⟩) (te - t - 1) cap] W fun ev w'=>ev = .returned (.tuple #[])∧Blk bW 50 (wordsV (mapAt t2 (te - t - 1) (fun x=>(nowP 0 nW φ x).1) LW)) w'∧Aside (· = bW) W w'):=fun cap W hW=>follow_any a 0 nW bm nm D φ bW t2 (te - t - 1) cap LW W hn HPH.out hN (by have:=HLl.out;omega) HL64.out (HM9.out W hW) HWe.out (fun e=>hmb e.symm) (fun w' ha=>HEE.out w' ((HA9.out.trans (Aside.of_below hW)).trans ha)) (HB9.out.below hW)
  have HMP:Hid (mapAt t2 (te - t - 1) (fun x=>(nowP 0 nW φ x).1) LW=CW):=by
   show _=_
   have h2:=HTE.out
   rw [HCW.out,if_neg hk8,show te - t - 1=s by omega,ht2]
   split
   ·rw [show s=0 by omega,mapAt_zero,mapAt_zero]
   ·rfl
  have HA9':=toHid HA9.out
  clear d2 q0 q1 q2 q3 ht2 hN
  by_cases hc:cW - t=1
  ·have e2:t2=t:=by rw [HT2.out,if_pos hc]
   subst e2
   go_upto_region 6 with fail
   go_region_held3 (fun W=>W.cell? ⟨q,1,none⟩=some (.int .i64 0)∧W.cell? ⟨q,2,none⟩=some (.int .i64 (nW:Int))∧W.cell? ⟨q,3,none⟩=some (.map (some bm))) (first | with_reducible exact HS90.out | with_reducible exact HS9.out _ hA10.out | exact HS90.out | exact HS9.out _ hA10.out) (first | (go_at_call 61;refine (HKF.out _ _ (by first | exact Below.refl _ _ | exact (Below.refl _ _).drew)).mono ?_;rintro ev w10 ⟨rfl,hB10,hA10'⟩;have hA10:Hid (Aside (· = bW) w9 w10):=⟨hA10'.os,hA10'.tape,hA10'.output,hA10'.size,hA10'.block⟩))
   all_goals
    have HE:Hid (Blk bW 50 (wordsV CW) w10):=by rw [←HMP.out];exact hB10
    have HEA:Hid (Aside (· = bW) w w10):=HA9'.out.trans hA10.out
    go_wp2_with fail
    go_end0
    exact ⟨rfl,HE.out,HEA.out⟩
  ·have e2:t2=t+1:=by rw [HT2.out,if_neg hc]
   subst e2
   go_upto_region 6 with fail
   go_region_held3 (fun W=>W.cell? ⟨q,1,none⟩=some (.int .i64 0)∧W.cell? ⟨q,2,none⟩=some (.int .i64 (nW:Int))∧W.cell? ⟨q,3,none⟩=some (.map (some bm))) (first | with_reducible exact HS90.out | with_reducible exact HS9.out _ hA10.out | exact HS90.out | exact HS9.out _ hA10.out) (first | (go_at_call 61;refine (HKF.out _ _ (by first | exact Below.refl _ _ | exact (Below.refl _ _).drew)).mono ?_;rintro ev w10 ⟨rfl,hB10,hA10'⟩;have hA10:Hid (Aside (· = bW) w9 w10):=⟨hA10'.os,hA10'.tape,hA10'.output,hA10'.size,hA10'.block⟩))
   all_goals
    have HE:Hid (Blk bW 50 (wordsV CW) w10):=by rw [←HMP.out];exact hB10
    have HEA:Hid (Aside (· = bW) w w10):=HA9'.out.trans hA10.out
    go_wp2_with fail
    go_end0
    exact ⟨rfl,HE.out,HEA.out⟩
end Go.Proofs.YtnenggkgfhgcnaaGreatDoor
