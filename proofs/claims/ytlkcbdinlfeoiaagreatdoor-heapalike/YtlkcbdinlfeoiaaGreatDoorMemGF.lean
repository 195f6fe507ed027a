/- Package mem: what can be come to, one word more (reach's closure), by a contract. -/
import Derived.Test.YtlkcbdinlfeoiaaGreatDoorKnAH
namespace Go.Proofs.YtlkcbdinlfeoiaaGreatDoor
open Go.Proofs.Tryz Go.RowKit
set_option maxHeartbeats 8000000
set_option maxRecDepth 100000
set_option linter.unusedSimpArgs false
section
open Go.Maps
theorem Zto {x:Int} (h:0<=ptI x):∃ f:Nat,ptI x=(f:Int)/\x=((f:Int)+1)*4:=by
 unfold ptI at *
 split at h
 ·rename_i hx
  rw [U09 hx]
  exact ⟨(x / 4 - 1).toNat,by omega,by omega⟩
 ·omega
theorem Zst {x:Int}{nW:Nat}{hb:Nat->Bool} (hn:nW<=300000) (h:¬ 0<=ptI x):Z2y nW hb x=false:=by
 unfold ptI at h
 unfold Z2y
 split at h
 ·omega
 ·rename_i hx
  by_cases h4:x % 4=0/\4<=x
  ·have:decide ((x / 4 - 1).toNat<nW)=false:=U0k (by omega)
   rw [this,U1s,U20]
  ·rw [U0k h4,U1s]
theorem Znx {out:List Nat}{x:Int} (h:¬ 0<=ptI x):Z29 out x=out:=by unfold Z29;rw [U08 (by omega)]
theorem Zm0 {out:List Nat}{x:Int}{f:Nat} (h:ptI x=(f:Int)) (hf:f∈out):Z29 out x=out:=by
 unfold Z29
 have:=Z2a.2 hf
 rw [h,U08 (by omega)]
theorem Zl7 {out:List Nat}{x:Int}{f:Nat} (h:ptI x=(f:Int)) (hf:f ∉ out):Z29 out x=out ++ [f]:=by
 unfold Z29
 have:¬ 0<=objI out (f:Int):=fun hh=>hf (Z2a.1 hh)
 rw [h,U09 (by omega)]
 simp
theorem Z3x {w w':World}{k:TypeId}{R:Value->Option (DataW Unit × List MemPlace)}{b n:Nat}{D:DataW Unit} (h:w.ownsMap prog k R b n D) (hw:w'.heap[b]?=w.heap[b]?):w'.ownsMap prog k R b n D:=by
 obtain ⟨es,clock,h1,h2⟩:=h
 exact ⟨es,clock,hw.trans h1,h2⟩
theorem Zjn:∃ i,prog.info? 141=some i/\i.zero=some (.agg #[.int .i64 0,.int .i64 0,.slice none 0 0])/\i.size=3/\i.bytes=40:=by
 refine ⟨(prog.info? 141).get (by kernel_rfl),?_,?_,?_,?_⟩
 ·exact (U4s _).symm
 ·kernel_rfl
 ·kernel_rfl
 ·kernel_rfl
theorem Zp1 (x y:Int) (v:Option Addr) (n c:Nat):∀ u ∈ [Value.int .i64 x,.int .i64 y,.slice v n c],u.oneCell'=true:=fun u hu=>by
 simp at hu
 rcases hu with rfl | rfl | rfl <;> rfl
theorem Zs8 {B p b bh nW qm qh qg bm n oc f g' cap':Nat}{oo:Option Addr}{F:Nat->Int}{out:List Nat}{D:DataW Unit}{xs:List (List Value)}{cs:List Value}{w0 w w4 W5 w9:World} (G:GS B p b bh nW qm qh qg F out w0 w)
  (k3:Zd8 b F out xs) (hc:GObj b F f cs) (k7:B<=bm) (k8:B<=qg) (k9:bm≠qg) (k10:(Value.slice oo out.length oc).ownBlock≠some qg) (k11:(Value.slice oo out.length oc).ownBlock≠some bm) (hn:n<=out.length) (hD:GNum D (out ++ [f]))
  (hB4:Below B w w4) (hBw:B<=w4.heap.size) (e4:w4.heap[qg]?=some (.cells #[.slice oo out.length oc,.map (some bm)] 138)) (hM:w4.ownsMap prog 81 (plainElem prog 3) bm (n+1) D)
  (hlo:∀ g,(Value.slice oo out.length oc).ownBlock=some g->B<=g) (hb5:Below w4.heap.size w4 W5) (hgrow:W5.grownBy w9 (Value.slice oo out.length oc).ownBlock) (hown:w9.ownsRow B 141 3 (.slice (some ⟨g',0,none⟩) (out.length+1) cap') (out.length+1) (xs.flatten++cs)) (hat:(Value.slice oo out.length oc).ownBlock=some g'\/g'=W5.heap.size) :
  w9.cell? ⟨qg,0,none⟩=some (.slice oo out.length oc)/\w9.frozen? ⟨qg,0,none⟩=false/\GS B p b bh nW qm qh qg F (out ++ [f]) w0 (w9.setCell ⟨qg,0,none⟩ (.slice (some ⟨g',0,none⟩) (out.length+1) cap')):=by
 have l4:=Z01 e4
 have lm:=hM.lt
 have s5:=hb5.size
 have e9:w9.heap[qg]?=some (.cells #[.slice oo out.length oc,.map (some bm)] 138):=(hgrow.block qg (by omega) (fun e=>k10 e.symm)).trans ((hb5.block qg l4).trans e4)
 have hgq:g'≠qg:=fun e=>by
  rcases hat with h | h
  ·exact k10 (by rw [h,e])
  ·omega
 have hgm:g'≠bm:=fun e=>by
  rcases hat with h | h
  ·exact k11 (by rw [h,e])
  ·omega
 have hM9:w9.ownsMap prog 81 (plainElem prog 3) bm (n+1) D:=Z3x hM ((hgrow.block bm (by omega) (fun e=>k11 e.symm)).trans (hb5.block bm lm))
 have hB9:Below B w w9:=(hB4.trans (hb5.mono hBw)).grown hgrow (by omega) hlo
 have hB10:Below B w (w9.setCell ⟨qg,0,none⟩ (.slice (some ⟨g',0,none⟩) (out.length+1) cap')):=hB9.setCell k8 _
 refine ⟨by rw [U06 _ _ 0 _ _ _ e9];rfl,by simp [World.frozen?,e9],G.below.trans (hB10.mono G.lo),G.lo,(hB10.cell (p:=⟨qm,0,none⟩) G.lm).trans G.cm,(hB10.cell (p:=⟨qh,0,none⟩) G.lh).trans G.ch,G.lm,G.lh,_,bm,n+1,D,xs ++ [cs],(Z06 e9).trans rfl,?_,Zim k3 hc,Z3x hM9 (Z0a _ _ _ _ _ k9),by rw [U0f];simp;omega,hD,k7,k8,k9,fun e=>hgq (by simpa [Value.ownBlock] using e),fun e=>hgm (by simpa [Value.ownBlock] using e)⟩
 rw [U0f,U2v]
 simp only [List.length_singleton,U2d,List.flatten_nil,U16]
 exact Z04 hown (fun k hk=>Z0a _ _ _ _ _ (fun e=>hgq (by have h2:g'=k:=(by simpa [Value.ownBlock] using hk);omega)))
theorem Zls (a:Nat->Addr) (B p b bh nW cW qm qh qg:Nat) (h ol c u t ot:Int) (vR vK vI vC:Value) (F:Nat->Int) (vs out:List Nat) (hol:out.length<=200000) (x:Int) (x0:0<=x) (x1:x<18446744073709551616) (hx:Zqj vs x) (w0:World) (E:WErr a w0) (S:Seen p b bh nW cW F (fun i=>decide (i∈vs)) w0) (hvs:∀ f∈vs,f<nW) (M:MemAt p h ol c (.slice (some ⟨b,0,none⟩) nW cW) u t ot vR vK vI vC w0) (w:World) (G:GS B p b bh nW qm qh qg F out w0 w) :
  Calls prog 133 #[.int .u64 x,.pointer (some ⟨qm,0,none⟩),.pointer (some ⟨qh,0,none⟩),.pointer (some ⟨qg,0,none⟩)] w fun ev w'=>ev = .returned (.tuple #[])/\GS B p b bh nW qm qh qg F (Z29 out x) w0 w':=by
 have hkx:Hid (keyOf prog 81 (.int .u64 x)=some (.int .u64 x)):=U3h underlying81 (wf_u x0 x1)
 have HE:=Z00 (E.below G.below)
 have SW:=S.below G.below
 have HSW:=Z00 SW
 have HG:=Z00 G
 have cm:=G.cm
 have ch:=G.ch
 by_cases h1:0<=ptI x
 ·obtain ⟨f,hf,hxf⟩:=Zto h1
  have hfv:f∈vs:=by
   have:=hx h1
   rw [hf] at this
   exact Z2a.1 this
  have hfw:=hvs f hfv
  have ko:=Zne p b bh nW cW f F (fun i=>decide (i∈vs)) hfw (U0d hfv) w SW
  rw [<-hxf] at ko
  unfold Z1o at ko
  obtain ⟨hfh,hfl⟩:=SW.fine f hfw (U0d hfv)
  obtain ⟨sz,hsz⟩:∃ sz,sz=szN (F f):=⟨_,rfl⟩
  have hszI:F f / 65536=(sz:Int):=by
   have:=SW.range f hfw
   rw [hsz]
   unfold szN
   omega
  have hs4:sz<=4096:=by
   unfold Z0t at hfh
   have:=U0j hfh
   omega
  have hfsz:f+1+sz<=nW:=by rw [hsz];exact hfl
  have hnW:=SW.hn
  have hcW:=SW.hc
  have HM0:=Z00 M
  rw [hszI] at ko
  obtain ⟨kd,hkd⟩:∃ kd,kd=F f / 4 % 256:=⟨_,rfl⟩
  have HKD:=Z00 hkd
  have HSZ:=Z00 hsz
  have HXF:=Z00 hxf
  have HF:=Z00 hf
  rw [<-hkd] at ko
  generalize F f / 1024 % 16=ag at *
  generalize F f / 16384 % 2=mk at *
  have hpw:=Z02 (SW.c3)
  clear E S hx h1 SW M G hfh hfl hsz hszI hkd hxf hf
  by_cases hfo:f∈out
  ·rw [Zm0 HF.out hfo]
   go_enter func133,ntmps133
   go_wp2_with fail
   refine ko.mono ?_
   rintro ev w1 ⟨rfl,hb1⟩
   clear ko
   go_upto_region 1 with fail
   obtain ⟨w2,hw2⟩:∃ w2,w2=w1.alloc (.cells #[.int .i64 kd,.int .i64 ag,.int .i64 mk,.int .i64 (sz:Int)] 172):=⟨_,rfl⟩
   rw [<-hw2]
   have hb2:Below w.heap.size w w2:=by rw [hw2];exact hb1.alloc hb1.size _
   have G2:=HG.out.keep hb2
   obtain ⟨vO,bm,n,D,xs,g1,g2,g3,g4,g5,g6,g7,g8,g9,g10,g11⟩:=G2.gr
   have y1:w2.cell? ⟨qg,1,none⟩=some (.map (some bm)):=by rw [U06 _ _ 1 _ _ _ g1];rfl
   have HM:=Z00 g4
   have HG2:=Z00 G2
   have hha:has D (.int .u64 x)=true:=by rw [HXF.out,g6.has f];exact U0d hfo
   clear hw2 G2 g1 g2 g3 g4 g5 g6 g7 g8 g9 g10 g11
   go_wp2_with (first | (at_lookup;refine U1r _ rfl _ _ 136 rfl 81 3 .i64 Zjr underlying136 underlying3 (Z6r _) bm n _ rfl HM.out _ _ rfl hkx.out ?_;intro c0 hat hwc;clear hat hwc))
   go_end0
   exact ⟨rfl,HG2.out⟩
  ·rw [Zl7 HF.out hfo]
   obtain ⟨vO,bm,n,D,xs,k1,k2,k3,k4,k5,k6,k7,k8,k9,k10,k11⟩:=HG.out.gr
   obtain ⟨oo,oc,rfl⟩:=Z2w k2
   have lqg:=Z01 k1
   have lbm:=k4.lt
   have hha:has D (.int .u64 x)=false:=by rw [HXF.out,k6.has f];exact U0k hfo
   have hBlo:=HG.out.lo
   have hlm:=HG.out.lm
   go_enter func133,ntmps133
   go_wp2_with fail
   refine ko.mono ?_
   rintro ev w1 ⟨rfl,hb1⟩
   clear ko
   go_upto_region 1 with fail
   obtain ⟨w2,hw2⟩:∃ w2,w2=w1.alloc (.cells #[.int .i64 kd,.int .i64 ag,.int .i64 mk,.int .i64 (sz:Int)] 172):=⟨_,rfl⟩
   rw [<-hw2]
   have hb2:Below w.heap.size w w2:=by rw [hw2];exact hb1.alloc hb1.size _
   obtain ⟨q,hq⟩:∃ q,q=w1.heap.size:=⟨_,rfl⟩
   have hqw:w.heap.size<=q:=by rw [hq];exact hb1.size
   have ob:w2.heap[q]?=some (.cells #[.int .i64 kd,.int .i64 ag,.int .i64 mk,.int .i64 (sz:Int)] 172):=by rw [hw2,hq];exact U0b _ _
   rw [<-hq]
   have e2:w2.heap[qg]?=some (.cells #[.slice oo out.length oc,.map (some bm)] 138):=(hb2.block qg lqg).trans k1
   have y0:w2.cell? ⟨qg,0,none⟩=some (.slice oo out.length oc):=by rw [U06 _ _ 0 _ _ _ e2];rfl
   have y1:w2.cell? ⟨qg,1,none⟩=some (.map (some bm)):=by rw [U06 _ _ 1 _ _ _ e2];rfl
   have HM:Hid (w2.ownsMap prog 81 (plainElem prog 3) bm n D):=k4.kept (Z11 hb2) (by simp)
   clear hw2 hq
   go_upto_region 4 with (first | (at_lookup;refine U1r _ rfl _ _ 136 rfl 81 3 .i64 Zjr underlying136 underlying3 (Z6r _) bm n _ rfl HM.out _ _ rfl hkx.out ?_;intro c0 hat hwc;clear hat hwc) | (at_mapUpdate;refine U3e _ rfl _ _ _ 136 rfl 81 3 Zjr underlying136 _ bm n _ rfl HM.out (by unfold maxLen;omega) _ _ _ rfl rfl hkx.out _ [] (U4m underlying3 (Zp9 (by omega) (by omega))) ?_;intro w3 hown3 hgrow3))
   have hwB:B<=w.heap.size:=by omega
   have hB3:Below B w w3:=(hb2.mono hwB).grown hgrow3 (by have:=hb2.size;omega) (fun k hk=>by cases hk;exact k7)
   have e3:w3.heap[qg]?=some (.cells #[.slice oo out.length oc,.map (some bm)] 138):=(hgrow3.block qg (by have:=hb2.size;omega) (by simp;omega)).trans e2
   have ob3:w3.heap[q]?=some (.cells #[.int .i64 kd,.int .i64 ag,.int .i64 mk,.int .i64 (sz:Int)] 172):=(hgrow3.block q (Z01 ob) (by simp;omega)).trans ob
   have z0:w3.cell? ⟨qg,0,none⟩=some (.slice oo out.length oc):=by rw [U06 _ _ 0 _ _ _ e3];rfl
   obtain ⟨r0,r1,r2,r3,_⟩:=Z0e ob3
   have cm3:=(hB3.cell (p:=⟨qm,0,none⟩) hlm).trans cm
   have HR3:Hid (w3.ownsRow B 141 3 (.slice oo out.length oc) out.length xs.flatten):=Z04 k2 (fun g hg=>(hgrow3.block g (by have:=(Z08 k2 g hg).2;have:=hb2.size;omega) (fun e=>k11 (by rw [hg,e]))).trans (hb2.block g (Z08 k2 g hg).2))
   have hlo:Hid (∀ g,(Value.slice oo out.length oc).ownBlock=some g->B<=g):=fun g hg=>(Z08 k2 g hg).1
   have kf:Hid (∀ W,Below w3.heap.size w3 W->Calls prog 135 #[.pointer (some ⟨p,0,none⟩),.int .i64 (f:Int),.agg #[.int .i64 kd,.int .i64 ag,.int .i64 mk,.int .i64 (sz:Int)]] W fun ev w' => ∃ ao cap,ev = .returned (.slice ao sz cap)/\sz<=cap/\(0<sz->ao=some ⟨b,f+1,none⟩)/\Below w3.heap.size w3 w'):=fun W hW=>by
    refine (Zb2 p b nW cW f sz kd ag mk h ol c u t ot vR vK vI vC hs4 hnW hfsz hcW W (HM0.out.below ((HG.out.below.trans (hB3.mono hBlo)).trans (hW.mono (HG.out.below.trans (hB3.mono hBlo)).size)) (Z02 HM0.out.c0))).mono ?_
    rintro ev w' ⟨ao,cap,h1,h2,h3,h4⟩
    exact ⟨ao,cap,h1,h2,h3,hW.trans (h4.mono hW.size)⟩
   have HE3:=Z00 e3
   have HB3:=Z00 hB3
   have HM3:=Z00 hown3
   have lz:=Z02 z0
   have lq:=Z02 r0
   have hsz3:B<=w3.heap.size:=by have:=HB3.out.size;omega
   obtain ⟨i0,hi0,hz0,hz1,hz2⟩:=Zjn
   have HK3:=Z00 k3
   have HD:Hid (GNum (D.put (.int .u64 x) (.lit (.int .i64 (out.length:Int)))) (out ++ [f])):=by
    show GNum _ _
    rw [HXF.out]
    exact Zlg k6 hfo
   have HXC:Hid (∀ ao cap,sz<=cap->(0<sz->ao=some ⟨b,f+1,none⟩)->GObj b F f [.int .i64 (f:Int),.int .i64 kd,.slice ao sz cap]):=fun ao cap h1 h2=>by
    have e:=HSZ.out
    subst e
    exact ⟨ao,cap,by rw [HKD.out],h1,h2⟩
   clear hown3 hgrow3 e2 e3 ob ob3 y0 y1 hB3 hb2 hha k1 k2 k3 k4 k6 HM hb1
   go_region_law (first
    | (go_simp;go_at_call 135;refine (kf.out _ (by first | exact U01 _ _ | exact (U01 _ _).drew)).mono ?_;rintro ev w4 ⟨ao,cap,rfl,hcap,hao,hb4⟩;have t0:=(hb4.cell (p:=⟨qg,0,none⟩) lz).trans z0;have tr0:=(hb4.cell (p:=⟨q,0,none⟩) lq).trans r0;have tl0:qg<w4.heap.size:=Z02 t0;have tl1:q<w4.heap.size:=Z02 tr0;have tn0:qg≠w4.heap.size:=(by omega);have tn1:q≠w4.heap.size:=(by omega))
    | (refine U3m _ (by rfl) _ _ _ (by rfl) B 141 i0 (.agg #[.int .i64 0,.int .i64 0,.slice none 0 0]) 3 40 underlying135 hi0 hz0 hz1 hz2 rfl (by decide) (.slice oo out.length oc) out.length xs.flatten rfl (Z04 HR3.out (fun g hg=>(Z0u _ _ _ (by have:=(Z08 HR3.out g hg).2;have:=hb4.size;omega)).trans (hb4.block g (Z08 HR3.out g hg).2))) ⟨w4.heap.size,0,none⟩ 1 1 [.int .i64 (f:Int),.int .i64 kd,.slice ao sz cap] rfl rfl (U2j (cs:=#[.int .i64 (f:Int),.int .i64 kd,.slice ao sz cap]) (t:=141) (U0b _ _)) (Zp1 _ _ _ _ _) (by decide) (by unfold maxLen;omega) (by omega) (by have:=hb4.size;simp;omega) _ rfl ?_;intro g' cap' w9 hown9 hgrow9 hat9 hlt9;obtain ⟨t9,tf9,hG9⟩:=Zs8 HG.out HK3.out (HXC.out ao cap hcap hao) k7 k8 k9 k10 k11 k5 HD.out (HB3.out.trans (hb4.mono hsz3)) (by have:=hb4.size;omega) ((hb4.block qg lz).trans HE3.out) (Z3x HM3.out (hb4.block bm HM3.out.lt)) hlo.out (by first | exact (U01 _ _).alloc (U02 _) _ | exact ((U01 _ _).alloc (U02 _) _).drew | exact ((U01 _ _).drew).alloc (by simp) _) hgrow9 hown9 hat9;have HG9:=Z00 hG9;clear hown9 hgrow9 hat9 hlt9 hG9))
   all_goals go_wp2_with fail
   all_goals go_end0
   all_goals first | exact ⟨rfl,HG9.out⟩ | exact ⟨rfl,HG9.out.keep (U01 _ _).drew⟩
 ·have ko:=Znk a p b bh nW cW F (fun i=>decide (i∈vs)) x x0 x1 (Zst SW.hn h1) w HE.out SW
  rw [Znx h1]
  unfold Z1o at ko
  clear E S hx h1 SW M G
  go_enter func133,ntmps133
  go_wp2_with fail
  refine ko.mono ?_
  rintro ev w1 ⟨rfl,hb1⟩
  clear ko
  go_upto_region 1 with fail
  obtain ⟨w2,hw2⟩:∃ w2,w2=w1.alloc (.cells #[.int .i64 0,.int .i64 0,.int .i64 0,.int .i64 0] 172):=⟨_,rfl⟩
  rw [<-hw2]
  have hb2:Below w.heap.size w w2:=by rw [hw2];exact hb1.alloc hb1.size _
  have G2:=HG.out.keep hb2
  obtain ⟨vO,bm,n,D,xs,g1,g2,g3,g4,g5,g6,g7,g8,g9,g10,g11⟩:=G2.gr
  have y1:w2.cell? ⟨qg,1,none⟩=some (.map (some bm)):=by rw [U06 _ _ 1 _ _ _ g1];rfl
  have HM:=Z00 g4
  have HG2:=Z00 G2
  clear hw2 G2 g1 g2 g3 g4 g5 g6 g7 g8 g9 g10 g11
  go_wp2_with (first | (at_lookup;refine U1r _ rfl _ _ 136 rfl 81 3 .i64 Zjr underlying136 underlying3 (Z6r _) bm n _ rfl HM.out _ _ rfl hkx.out ?_;intro c0 hat hwc;clear hat hwc))
  go_end0
  exact ⟨rfl,HG2.out⟩
end
end Go.Proofs.YtlkcbdinlfeoiaaGreatDoor
