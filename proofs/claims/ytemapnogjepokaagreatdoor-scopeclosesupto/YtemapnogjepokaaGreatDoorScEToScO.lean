/- Package scope: open. -/
import Derived.Test.YtemapnogjepokaaGreatDoorScAToScD
import Derived.Deep.RegionHeld3
import Derived.Shelf.SlIter.Nil
import Derived.Shelf.SortM.Plain
import Derived.Shelf.SortM.SortNone
import Derived.Ground.GgzProg
import Derived.Ground.SlgmProg
import Derived.Test.YtemapnogjepokaaGreatDoorProg
import Derived.Maps.OwnSet
import Derived.Sort.KeysCollected
namespace Go.Proofs.YtemapnogjepokaaGreatDoor
open Go.RowKit Go.Maps

set_option maxHeartbeats 8000000 in
set_option maxRecDepth 100000 in
theorem open_any {B p c:Nat}{l:List SD}{w:World}(h:FS B p c l w) (hBw:B≤w.heap.size) (nm:ByteArray) (pl:List ByteArray) (pa:Option Addr) (pc:Nat) (hN:0<pl.length → ∃ b o,pa=some ⟨b,o,none⟩∧b<B∧TS w b o pl) (hz:∀ x∈pl,x.size≤2000000) (ar:Int) (har:(l.length=0→ar = -1)∧(0<l.length → ∃ u:Nat,u<l.length∧ar=u)) (at_:Nat) (ha:at_≤c) (hc:c+pl.length+1≤1000000000) :
  Calls Tryz.prog 17 #[.pointer (some ⟨p,0,none⟩),.string nm,.slice pa pl.length pc,.int .i64 ar,.int .i64 (at_:Int)] w fun ev w'=>ev = .returned (.int .i64 (l.length:Int))∧Fr B w w' ∧ ∃ x,FS B p (c+pl.length+1) (l ++ [x]) w':=by
 have hmm:=@run_makeMap Tryz.prog
 obtain ⟨w2,hw2⟩:∃ w2,w2=(w.alloc (.map #[] 0)).alloc (.cells #[.string nm,.int .i64 ar,.int .i64 (pl.length:Int),.slice none 0 0,.slice none 0 0,.slice none 0 0,.map (some w.heap.size),.slice none 0 0] 68):=⟨_,rfl⟩
 obtain ⟨hst,hb2⟩:=New.start h hBw nm ar pl.length w2 hw2
 have HW2:=toHid hw2
 have HST:=toHid hst
 have HB2:=toHid hb2
 have HN:=toHid hN
 have HZ:=toHid hz
 have hlen:=h.len
 clear h hst hb2 hN hz hw2
 go_enter Tryz.func17,Tryz.ntmps17
 go_wp2_with fail
 clear hmm
 go_loopg [24] (pl.length+1) (fun gk v24 wr => ∃ j:Nat,gk=pl.length+1 - j∧j≤pl.length∧v24 = .int .i64 (j:Int)∧New B p c l (w.heap.size+1) w.heap.size j nm ar pl.length wr∧Fr B w wr)
 case atStart =>
  rw [←HW2.out]
  exact ⟨0,rfl,Nat.zero_le _,rfl,HST.out,HB2.out⟩
 case round =>
  obtain ⟨j,hgk,hj,rfl,hnew,hb⟩:=hrel
  have HG:=toHid hgk
  have hj0:(0:Int)≤(j:Int):=by omega
  clear hgk
  obtain ⟨x,hx,e1,e2,e3,e4,e5,e6,e7,e8,e9⟩:=hnew.ex
  have hf:=hnew.fs
  have hsz:=hb.below.size
  by_cases hlt:j<pl.length
  ·have hI1:(j:Int)<(pl.length:Int):=by omega
   obtain ⟨b1,o1,rfl,hb1,t1⟩:=HN.out (by omega)
   obtain ⟨s,hs⟩:∃ s,pl[j]?=some s:=⟨pl[j],by simp [hlt]⟩
   have y0:=(hb.below.cell (p:=⟨b1,o1+j,none⟩) hb1).trans (t1 j s hs)
   have hbl:=lt_of_cell y0
   have hss:=HZ.out s (List.mem_of_getElem? hs)
   obtain ⟨n,h64,hn,_⟩:=hx.ok.all s
   have H1:=toHid (is_bd hx s (ml hss) hn h64)
   have HX:=toHid hx
   have HF:=toHid hf
   have HB:=toHid hb
   have HE9:=toHid e9
   rw [e1] at H1
   clear hx hf hnew hb t1 hs
   go_wp2_with fail
   refine H1.out.mono ?_
   rintro ev w1 ⟨rfl,rfl⟩
   cases hbd:bdB n with
   | false =>
    have HBI:=toHid (bind_any HX.out s (ml hss) hn h64 (by omega) (by omega) (by omega))
    rw [e1] at HBI
    go_wp2_with fail
    refine HBI.out.mono ?_
    rintro ev w3 ⟨rfl,hex,x',hx',ht⟩
    have HNX:=toHid (New.bound HF.out HX.out e1 e2 e3 e4 e5 e6 e7 e8 HE9.out hx' ht hex)
    have HBX:Hid (Fr B w w3):=HB.out.trans (HX.out.fr hex (by omega))
    clear hex hx' ht
    go_wp2_with fail
    go_roundg (pl.length+1 - (j+1))
    case measure=>have:=HG.out;omega
    case rel=>exact ⟨j+1,rfl,by omega,by go_num,HNX.out,HBX.out⟩
   | true =>
    go_wp2_with fail
    refine (refuse_any HF.out at_ ha).mono ?_
    rintro ev w3 ⟨rfl,hf3,he3⟩
    have hx3:=HF.out.other HX.out he3
    have hb3:=HF.out.exb he3
    have hsz3:=hb3.below.size
    have HBI:=toHid (bind_any hx3 s (ml hss) hn h64 (by omega) (by omega) (by omega))
    rw [e1] at HBI
    have HF3:=toHid hf3
    have HX3:=toHid hx3
    have HB3:Hid (Fr B w w3):=HB.out.trans hb3
    clear he3 hx3 hb3 hf3
    go_wp2_with fail
    refine HBI.out.mono ?_
    rintro ev w4 ⟨rfl,hex,x',hx',ht⟩
    have HNX:=toHid (New.bound HF3.out HX3.out e1 e2 e3 e4 e5 e6 e7 e8 HE9.out hx' ht hex)
    have HBX:Hid (Fr B w w4):=HB3.out.trans (HX3.out.fr hex (by omega))
    clear hex hx' ht
    go_wp2_with fail
    go_roundg (pl.length+1 - (j+1))
    case measure=>have:=HG.out;omega
    case rel=>exact ⟨j+1,rfl,by omega,by go_num,HNX.out,HBX.out⟩
  ·obtain rfl:j=pl.length:=by omega
   obtain ⟨vs,bg,wr',vc,cl,b1,b2,_⟩:=hf.blk
   obtain ⟨c0,c1,c2,c3,cf⟩:=fin_cells b1
   have f0:=cf 0
   have hpl:=hf.lt
   obtain ⟨i0,hi0,hz0,hz1,hz2⟩:=info_parts infoSpp
   have HRW:=toHid b2
   have HX:=toHid hx
   have HF:=toHid hf
   have HB:=toHid hb
   have HE9:=toHid e9
   have HC0:=toHid c0
   have hll:(l.map spPtr).length=l.length:=by simp
   rw [←e4] at har
   have HLO:Hid (x.k≤c+pl.length+1∧x.od.length≤c+pl.length+1∧x.pn≤c+pl.length+1 ∧ ∀ s n,x.mk' s n→n<16):=⟨by omega,by omega,by omega,e8⟩
   obtain ⟨va,vcap,rfl⟩:=row_shape b2
   clear hx hf hnew hb b1 b2 cf e8 e9
   go_wp2_with (first
    | (at_builtin;refine wpList_append_lies _ rfl _ _ _ rfl B 47 i0 (.pointer none) 1 8 Tryz.underlying43 hi0 hz0 hz1 hz2 rfl (by decide) _ l.length (l.map spPtr) rfl (HRW.out.alloc _) ⟨wr.heap.size,0,none⟩ 1 1 [spPtr x] rfl rfl (World.news_of_block (cs:=#[spPtr x]) (t:=47) (by rw [spPtr,e1];exact heap_alloc_new _ _)) (one_ptr x) (by decide) (by unfold maxLen;omega) (by omega) (by simp;omega) _ rfl ?_;intro gn capn w3 hown3 hgrow hat hlt2;obtain ⟨e3',hP3,hb3⟩:=HF.out.push (x:=x) HX.out HE9.out HC0.out hgrow hown3 har (by omega) HLO.out (by omega);have q0:=(World.cell?_of_block (a:=⟨p,0,none⟩) e3').trans c0;have qf:=(World.frozen?_of_block (a:=⟨p,0,none⟩) e3').trans f0;have ql:=lt_of_cell q0;have HP3:=toHid hP3;have HB3:=toHid hb3;clear hown3 hgrow hat e3' hP3 hb3 c0 f0))
   go_ret
   exact ⟨rfl,HB.out.trans HB3.out,x,HP3.out⟩
end Go.Proofs.YtemapnogjepokaaGreatDoor

/- Package scope: nearest, and what asks by it. -/
namespace Go.Proofs.YtemapnogjepokaaGreatDoor
open Go.RowKit Go.Maps

structure SPS (B:Nat) (l:List SD) (v:Value) (w:World):Prop where
 row:w.ownsRow B 47 1 v l.length (l.map spPtr)
 sp:SpL B w l
 ar:∀ (i:Nat) (x:SD),l[i]?=some x→(i=0→x.ar = -1)∧(0<i → ∃ u:Nat,u<i∧x.ar=u)
 len:l.length≤1000000000
theorem SPS.at {B i:Nat}{l:List SD}{v:Value}{w:World}(h:SPS B l v w) (hi:i<l.length):∃ (g cap:Nat) (x:SD),v = .slice (some ⟨g,0,none⟩) l.length cap∧l[i]?=some x∧SpAt B w x∧w.cell? ⟨g,i,none⟩=some (.pointer (some ⟨x.b,0,none⟩)):=by
 obtain ⟨x,hx⟩:∃ x,l[i]?=some x:=⟨l[i],by simp [hi]⟩
 rcases h.row.2 with ⟨_,h0⟩ | ⟨g,cap,cur,rfl,_,hg,_,_,_,htk⟩
 ·omega
 ·refine ⟨g,cap,x,rfl,hx,h.sp.all i x hx,?_⟩
  rw [cell_of_row w g i cur _ _ hg,←Array.getElem?_toList]
  have e:(cur.toList.take (l.length*1))[i]?=(l.map spPtr)[i]?:=by rw [htk]
  rw [List.getElem?_take,if_pos (by omega)] at e
  rw [e,List.getElem?_map,hx]
  rfl
def arN (l:List SD) (i:Nat):Nat:=match l[i]? with
 | some x=>x.ar.toNat
 | none=>0
def chain (A:Nat→Nat) (g:Nat→Bool):Nat→Nat→Nat→Prop
 | 0,a,m=>a=m
 | k+1,a,m=>0<a∧g a=false∧chain A g k (A a) m
set_option maxHeartbeats 4000000 in
set_option maxRecDepth 100000 in
theorem nearest_any {B:Nat}{l:List SD}{v:Value}{w:World}(h:SPS B l v w) (K:FuncId) (cap:Array Value) (hcall:∀ (args:Array Value) (w:World),(callFunc K args).run Tryz.prog w = .ok (.enter K args) w) (g:Nat→Bool) (hg:∀ (i:Nat) (x:SD),l[i]?=some x→Calls Tryz.prog K (#[.pointer (some ⟨x.b,0,none⟩)]++cap) w fun ev w'=>ev = .returned (.bool (g i))∧w'=w) (a:Nat) (ha:a<l.length) :
  Calls Tryz.prog 32 #[v,.int .i64 (a:Int),.func (.func K) #[] cap] w fun ev w'=>w'=w ∧ ∃ m:Nat,ev = .returned (.int .i64 (m:Int))∧m<l.length∧(m=0∨g m=true) ∧ ∃ k,chain (arN l) g k a m:=by
 obtain ⟨g0,cp,_,rfl,_,_,_⟩:=h.at ha
 have H:=toHid h
 have HG:=toHid hg
 have hlen:=h.len
 clear h hg
 go_enter Tryz.func32,Tryz.ntmps32
 go_wp2_with fail
 go_loopg [1] (a+1) (fun gk v1 wr => ∃ f:Nat,gk=f+1∧f<l.length∧v1 = .int .i64 (f:Int)∧wr=w ∧ ∀ m k,chain (arN l) g k f m → ∃ k,chain (arN l) g k a m)
 case atStart=>exact ⟨a,rfl,ha,rfl,rfl,fun m k h=>⟨k,h⟩⟩
 case round =>
  obtain ⟨f,hgk,hf,rfl,rfl,hch⟩:=hrel
  have HGK:=toHid hgk
  have HCH:=toHid hch
  clear hgk hch
  by_cases h0:0<f
  ·have hI0:(0:Int)<(f:Int):=by omega
   have hI1:(f:Int)<(l.length:Int):=by omega
   have hI2:(0:Int)≤(f:Int):=by omega
   obtain ⟨g1,cp1,x,e1,hx,hxa,q1⟩:=H.out.at hf
   simp only [Value.slice.injEq,Option.some.injEq,Addr.mk.injEq,true_and,and_true] at e1
   obtain ⟨rfl,rfl⟩:=e1
   obtain ⟨_,c1,_⟩:=sp_cells hxa
   obtain ⟨u,hu,hxu⟩:=(H.out.ar f x hx).2 h0
   have hgl:=lt_of_cell q1
   have hxl:=lt_of_cell c1
   have HC:=toHid (HG.out f x hx)
   have hA:arN l f=u:=by
    unfold arN
    rw [hx]
    simp only
    omega
   rw [hxu] at c1
   have HA:=toHid hA
   clear hxa hA hxu
   go_wp2_with fail
   refine HC.out.mono ?_
   rintro ev w1 ⟨rfl,rfl⟩
   cases hgf:g f with
   | true =>
    go_wp2_with fail
    go_ret
    exact ⟨rfl,f,rfl,hf,.inr hgf,HCH.out f 0 rfl⟩
   | false =>
    go_wp2_with fail
    go_roundg (u+1)
    case measure=>have:=HGK.out;omega
    case rel=>exact ⟨u,rfl,by omega,rfl,rfl,fun m k hm=>HCH.out m (k+1) ⟨h0,hgf,by rw [HA.out];exact hm⟩⟩
  ·have hI0:¬ (0:Int)<(f:Int):=by omega
   have hf0:f=0:=by omega
   have HZ:=toHid (HCH.out f 0 rfl)
   have HF0:=toHid hf0
   clear hf0
   go_wp2_with fail
   go_ret
   exact ⟨rfl,f,rfl,hf,.inl HF0.out,HZ.out⟩
end Go.Proofs.YtemapnogjepokaaGreatDoor

/- Package scope: who owns a name. -/
namespace Go.Proofs.YtemapnogjepokaaGreatDoor
open Go.RowKit Go.Maps

def SD.bits (x:SD) (s:ByteArray):Nat:=match x.D.atKey (.string s.data.toList) (.lit (.int .i64 0)) with
 | .lit (.int .i64 c)=>c.toNat
 | _=>0
theorem bits_of {x:SD}{s:ByteArray}{n:Nat}(h:x.mk' s n):x.bits s=n:=by
 unfold SD.bits
 unfold SD.mk' at h
 rw [h]
 simp
theorem SpOK.bit {x:SD}(h:SpOK x) (s:ByteArray):x.mk' s (x.bits s)∧x.bits s<64∧(bdB (x.bits s)=true→s∈x.od):=by
 obtain ⟨n,h1,h2,h3⟩:=h.all s
 rw [bits_of h2]
 exact ⟨h2,h1,h3⟩
def bitsAt (l:List SD) (s:ByteArray) (i:Nat):Nat:=match l[i]? with
 | some x=>x.bits s
 | none=>0
theorem bitsAt_of {l:List SD}{s:ByteArray}{i:Nat}{x:SD}(h:l[i]?=some x):bitsAt l s i=x.bits s:=by
 unfold bitsAt
 rw [h]
theorem call_has (args:Array Value) (w:World):(callFunc 31 args).run Tryz.prog w = .ok (.enter 31 args) w:=by kernel_rfl
theorem call_own (args:Array Value) (w:World):(callFunc 35 args).run Tryz.prog w = .ok (.enter 35 args) w:=by kernel_rfl
set_option maxHeartbeats 4000000 in
set_option maxRecDepth 100000 in
theorem has_any {B:Nat}{w:World}{x:SD}(h:SpAt B w x) (s:ByteArray) (hs:s.size≤maxLen) (cb:Nat) (hc:w.cell? ⟨cb,2,none⟩=some (.string s)):Calls Tryz.prog 31 #[.pointer (some ⟨x.b,0,none⟩),.pointer (some ⟨cb,0,none⟩)] w fun ev w'=>ev = .returned (.bool (beB (x.bits s)))∧w'=w:=by
 obtain ⟨h1,h2,_⟩:=h.ok.bit s
 have HB:=toHid (belongs_any h s hs h1 h2)
 have hl:=lt_of_cell hc
 clear h h1
 go_enter Tryz.func31,Tryz.ntmps31
 go_wp2_with fail
 refine HB.out.mono ?_
 rintro ev w1 ⟨rfl,rfl⟩
 go_wp2_with fail
 go_ret
 exact ⟨rfl,rfl⟩
set_option maxHeartbeats 4000000 in
set_option maxRecDepth 100000 in
theorem own_any {B:Nat}{w:World}{x:SD}(h:SpAt B w x) (s:ByteArray) (hs:s.size≤maxLen) (nb:Nat) (hc:w.cell? ⟨nb,0,none⟩=some (.string s)):Calls Tryz.prog 35 #[.pointer (some ⟨x.b,0,none⟩),.pointer (some ⟨nb,0,none⟩)] w fun ev w'=>ev = .returned (.bool (beB (x.bits s) || glB (x.bits s)))∧w'=w:=by
 obtain ⟨h1,h2,_⟩:=h.ok.bit s
 have HB:=toHid (belongs_any h s hs h1 h2)
 have HG:=toHid (is_gl h s hs h1 h2)
 have hl:=lt_of_cell hc
 clear h h1
 go_enter Tryz.func35,Tryz.ntmps35
 go_wp2_with fail
 refine HB.out.mono ?_
 rintro ev w1 ⟨rfl,rfl⟩
 cases hb:beB (x.bits s) with
 | true =>
  go_wp2_with fail
  go_ret
  exact ⟨by rw [hb];rfl,rfl⟩
 | false =>
  go_wp2_with fail
  refine HG.out.mono ?_
  rintro ev w1 ⟨rfl,rfl⟩
  go_wp2_with fail
  go_ret
  exact ⟨by rw [hb];rfl,rfl⟩
def ownG (l:List SD) (s:ByteArray) (i:Nat):Bool:=beB (bitsAt l s i) || glB (bitsAt l s i)
theorem SPS.below {B:Nat}{l:List SD}{v:Value}{w w':World}(h:SPS B l v w) (hb:Below w.heap.size w w'):SPS B l v w':=by
 have he:Ex (fun _=>False) w w':=⟨hb.os,hb.tape,hb.output,hb.size,fun q hq _=>hb.block q hq⟩
 refine ⟨row_kept h.row (fun g hg => ?_),h.sp.ex he (fun _ _ _ _ _ h=>h),h.ar,h.len⟩
 obtain ⟨_,cur,e⟩:=row_block h.row hg
 exact hb.block g (lt_of_heap e)
set_option maxHeartbeats 8000000 in
set_option maxRecDepth 100000 in
theorem owner_any {B:Nat}{l:List SD}{v:Value}{w:World}(h:SPS B l v w) (in_:Nat) (hin:in_<l.length) (s:ByteArray) (hs:s.size≤maxLen) :
  Calls Tryz.prog 20 #[v,.int .i64 (in_:Int),.string s] w fun ev w'=>Below w.heap.size w w' ∧ ∃ m:Nat,ev = .returned (.int .i64 (m:Int))∧(m=0∨(0<m∧m<l.length∧beB (bitsAt l s m)=true ∧ ∃ k,chain (arN l) (ownG l s) k in_ m)):=by
 obtain ⟨wE,hE⟩:∃ wE,wE=w.alloc (.cells #[.string s] 9):=⟨_,rfl⟩
 have hbE:Below w.heap.size w wE:=by rw [hE];exact (Below.refl _ _).alloc (Nat.le_refl _) _
 have hbx:wE.heap[w.heap.size]?=some (.cells #[.string s] 9):=by rw [hE];exact heap_alloc_new _ _
 have y0:wE.cell? ⟨w.heap.size,0,none⟩=some (.string s):=cell_of_heap hbx rfl
 have hE':=h.below hbE
 have HN:=toHid (nearest_any hE' 35 #[.pointer (some ⟨w.heap.size,0,none⟩)] call_own (ownG l s) (fun i x hi=>by
  have:=own_any (hE'.sp.all i x hi) s hs w.heap.size y0
  unfold ownG
  rw [bitsAt_of hi]
  exact this) in_ hin)
 have H:=toHid hE'
 have HE:=toHid hE
 have HB:=toHid hbE
 obtain ⟨g0,cp,_,rfl,_,_,_⟩:=h.at hin
 have hlen:=h.len
 clear h hE' hE hbE hbx
 go_enter Tryz.func20,Tryz.ntmps20
 go_wp2_with fail
 rw [←HE.out]
 refine HN.out.mono ?_
 rintro ev w1 ⟨rfl,m,rfl,hm,hor,hch⟩
 obtain ⟨g1,cp1,x,e1,hx,hxa,q1⟩:=H.out.at hm
 simp only [Value.slice.injEq,Option.some.injEq,Addr.mk.injEq,true_and,and_true] at e1
 obtain ⟨rfl,rfl⟩:=e1
 obtain ⟨h1,h2,_⟩:=hxa.ok.bit s
 have hbz:=bitsAt_of (s:=s) hx
 have HI:=toHid (fun W' (hW:Ex (fun _=>False) w1 W')=>is_gl (hxa.ex hW (fun _ _ h=>h)) s hs h1 h2)
 have hgl:=lt_of_cell q1
 have hyl:=lt_of_cell y0
 have hm0:(0:Int)≤(m:Int):=by omega
 have hm1:(m:Int)<(l.length:Int):=by omega
 have HCH:=toHid hch
 have HOR:=toHid hor
 have HBZ:=toHid hbz
 have HKP:Hid (∀ W':World,W'.heap=w1.heap→W'.cell? ⟨g0,m,none⟩=some (.pointer (some ⟨x.b,0,none⟩))∧W'.cell? ⟨w.heap.size,0,none⟩=some (.string s)):=fun W' hW=>⟨(World.cell?_of_block (a:=⟨g0,m,none⟩) (by rw [hW])).trans q1,(World.cell?_of_block (a:=⟨w.heap.size,0,none⟩) (by rw [hW])).trans y0⟩
 clear hxa hch hor hbz h1 hx
 go_upto_region 2 with fail
 go_region_held3 (fun W=>W.cell? ⟨g0,m,none⟩=some (.pointer (some ⟨x.b,0,none⟩))∧W.cell? ⟨w.heap.size,0,none⟩=some (.string s)) (first | go_keep | exact hk1) ((go_at_call 22;refine (HI.out _ (by first | exact Ex.refl _ _ | exact (Ex.refl _ _).drew | exact (Ex.refl _ _).drewN)).mono ?_;rintro ev w2 ⟨rfl,hw2⟩;have hk1:=HKP.out w2 (by rw [hw2];rfl)))
 have HB2:Hid (Below w.heap.size w w1.drew):=HB.out.drew
 clear hw2 hk1 q1 y0
 cases hg:glB (x.bits s) with
 | true =>
  go_wp2_with fail
  go_ret
  exact ⟨HB2.out,0,rfl,.inl rfl⟩
 | false =>
  have HR:Hid (m=0∨(0<m∧m<l.length∧beB (bitsAt l s m)=true ∧ ∃ k,chain (arN l) (ownG l s) k in_ m)):=by
   rcases HOR.out with h0 | h0
   ·exact .inl h0
   ·by_cases hz:m=0
    ·exact .inl hz
    ·refine .inr ⟨by omega,hm,?_,HCH.out⟩
     unfold ownG at h0
     rw [HBZ.out] at h0 ⊢
     rw [hg,Bool.or_false] at h0
     exact h0
  go_wp2_with fail
  go_ret
  exact ⟨HB2.out,m,rfl,HR.out⟩
theorem flat3:∀ (cl:List (Int × Int × ByteArray)) (j i:Nat) (y:Int × Int × ByteArray),cl[j]?=some y→i<3→(cl.flatMap clCells)[j*3+i]?=(clCells y)[i]?
 | [],_,_,_,h,_=>by simp at h
 | z::cl,0,i,y,h,hi=>by
  simp at h
  subst h
  rw [List.flatMap_cons,List.getElem?_append_left (by simp;omega)]
  simp
 | z::cl,j+1,i,y,h,hi=>by
  rw [List.flatMap_cons,List.getElem?_append_right (by simp;omega)]
  have:=flat3 cl j i y (by simpa using h) hi
  rw [←this]
  congr 1
  simp
  omega
theorem claim_at {w:World}{B n:Nat}{v:Value}{cl:List (Int × Int × ByteArray)}(h:w.ownsRow B 88 3 v n (cl.flatMap clCells)) (hn:n=cl.length) {j:Nat}{y:Int × Int × ByteArray}(hy:cl[j]?=some y):∃ g cap,v = .slice (some ⟨g,0,none⟩) n cap∧w.cell? ⟨g,j*3,none⟩=some (.int .i64 y.1)∧w.cell? ⟨g,j*3+1,none⟩=some (.int .i64 y.2.1)∧w.cell? ⟨g,j*3+2,none⟩=some (.string y.2.2) ∧ ∃ cur,w.heap[g]?=some (.cells cur 88 (0,0)):=by
 have hjl:=(List.getElem?_eq_some_iff.1 hy).1
 rcases h.2 with ⟨_,h0⟩ | ⟨g,cap,cur,rfl,_,hg,_,_,_,htk⟩
 ·omega
 ·have key:∀ i,i<3→w.cell? ⟨g,j*3+i,none⟩=(clCells y)[i]?:=fun i hi=>by
   rw [cell_of_row w g (j*3+i) cur _ _ hg,←Array.getElem?_toList,←flat3 cl j i y hy hi]
   have e:(cur.toList.take (n*3))[j*3+i]?=(cl.flatMap clCells)[j*3+i]?:=by rw [htk]
   rw [List.getElem?_take,if_pos (by omega)] at e
   exact e
  exact ⟨g,cap,rfl,key 0 (by omega),key 1 (by omega),key 2 (by omega),cur,hg⟩
theorem FS.sps {B p c:Nat}{l:List SD}{w:World}(h:FS B p c l w) (hc:c≤1000000000):∃ vs,w.cell? ⟨p,0,none⟩=some vs∧SPS B l vs w:=by
 obtain ⟨vs,bg,wr0,vc,cl,b1,b2,_⟩:=h.blk
 exact ⟨vs,(fin_cells b1).1,b2,h.sp,h.ar,by have:=h.len;omega⟩
set_option maxHeartbeats 8000000 in
set_option maxRecDepth 100000 in
theorem askClaims_any {B p c:Nat}{l:List SD}{w:World}(h:FS B p c l w) (hBw:B≤w.heap.size) (hc:c≤1000000000):Calls Tryz.prog 18 #[.pointer (some ⟨p,0,none⟩)] w fun ev w'=>ev = .returned (.tuple #[])∧Below B w w'∧FS B p c l w':=by
 obtain ⟨vs,bg,wr0,vc,cl,b1,b2,b3,b4,b5,b6,b7⟩:=h.blk
 obtain ⟨c0,c1,c2,c3,cf⟩:=fin_cells b1
 have hpl:=h.lt
 obtain ⟨va,vcap,rfl⟩:=row_shape b3
 have H:=toHid h
 have HB3:=toHid b3
 have HB7:=toHid b7
 clear h b1 b2 b3 b7 cf
 go_enter Tryz.func18,Tryz.ntmps18
 go_wp2_with fail
 go_loopg [10] (cl.length+1) (fun gk v10 wr => ∃ j:Nat,gk=cl.length+1 - j∧j≤cl.length∧v10 = .int .i64 (j:Int)∧FS B p c l wr∧Below B w wr ∧ ∀ (g:Nat),(Value.slice va cl.length vcap).ownBlock=some g→wr.heap[g]?=w.heap[g]?)
 case atStart=>exact ⟨0,rfl,Nat.zero_le _,rfl,H.out,Below.refl _ _,fun _ _=>rfl⟩
 case round =>
  obtain ⟨j,hgk,hj,rfl,hf,hb,hrow⟩:=hrel
  have HG:=toHid hgk
  have hj0:(0:Int)≤(j:Int):=by omega
  clear hgk
  by_cases hlt:j<cl.length
  ·have hI1:(j:Int)<(cl.length:Int):=by omega
   obtain ⟨y,hy⟩:∃ y,cl[j]?=some y:=⟨cl[j],by simp [hlt]⟩
   obtain ⟨g,cap,e1,k0,k1,k2,cur,hgc⟩:=claim_at HB3.out rfl hy
   simp only [Value.slice.injEq,true_and] at e1
   obtain ⟨rfl,rfl⟩:=e1
   obtain ⟨⟨ya0,ya1⟩,⟨yi0,yi1⟩,hs⟩:=HB7.out y (List.mem_of_getElem? hy)
   have hgw:=hrow g rfl
   have k0:=(World.cell?_of_block (a:=⟨g,j*3,none⟩) hgw).trans k0
   have k1:=(World.cell?_of_block (a:=⟨g,j*3+1,none⟩) hgw).trans k1
   have k2:=(World.cell?_of_block (a:=⟨g,j*3+2,none⟩) hgw).trans k2
   obtain ⟨y1,y2,s⟩:=y
   simp only at k0 k1 k2 ya0 ya1 yi0 yi1 hs
   obtain ⟨at_,rfl⟩:∃ at_:Nat,y1=(at_:Int):=⟨y1.toNat,by omega⟩
   obtain ⟨in_,rfl⟩:∃ in_:Nat,y2=(in_:Int):=⟨y2.toNat,by omega⟩
   have hin:in_<l.length:=by omega
   have hgl:g<wr.heap.size:=lt_of_heap (hgw.trans hgc)
   obtain ⟨wE,hE⟩:∃ wE,wE=wr.alloc (.cells #[.int .i64 (at_:Int),.int .i64 (in_:Int),.string s] 88):=⟨_,rfl⟩
   have hbE:Below wr.heap.size wr wE:=by rw [hE];exact (Below.refl _ _).alloc (Nat.le_refl _) _
   have hbx:wE.heap[wr.heap.size]?=some (.cells #[.int .i64 (at_:Int),.int .i64 (in_:Int),.string s] 88):=by rw [hE];exact heap_alloc_new _ _
   have z0:wE.cell? ⟨wr.heap.size,0,none⟩=some (.int .i64 (at_:Int)):=cell_of_heap hbx rfl
   have z1:wE.cell? ⟨wr.heap.size,1,none⟩=some (.int .i64 (in_:Int)):=by rw [cell_of_row _ _ 1 _ _ _ hbx];rfl
   have z2:wE.cell? ⟨wr.heap.size,2,none⟩=some (.string s):=by rw [cell_of_row _ _ 2 _ _ _ hbx];rfl
   have hfE:=hf.below hbE
   have hbs:=hb.size
   have hbEs:=hbE.size
   have hBE:Below B w wE:=hb.trans (hbE.mono (by omega))
   obtain ⟨vs',q0,hsps⟩:=hfE.sps hc
   have HN:=toHid (fun W' (hW:Ex (fun _=>False) wE W')=>nearest_any (hsps.below ⟨hW.os,hW.tape,hW.output,hW.size,fun q hq=>hW.block q hq (fun h=>h)⟩) 31 #[.pointer (some ⟨wr.heap.size,0,none⟩)] call_has (fun i=>beB (bitsAt l s i)) (fun i x hi=>by
    have:=has_any ((hsps.sp.all i x hi).ex hW (fun _ _ h=>h)) s (ml hs) wr.heap.size ((World.cell?_of_block (a:=⟨wr.heap.size,2,none⟩) (hW.block _ (lt_of_cell z2) (fun h=>h))).trans z2)
    simp only [bitsAt_of hi]
    exact this) in_ hin)
   have HF:=toHid hfE
   have HBE:=toHid hBE
   have HE:=toHid hE
   have hpE:=hfE.lt
   have hzl:=lt_of_cell z0
   have HGW:Hid (wE.heap[g]?=w.heap[g]?):=(hbE.block g hgl).trans hgw
   obtain ⟨va2,vcap2,rfl⟩:=row_shape hsps.row
   clear hf hfE hb hBE hbE hbx hE hrow hgw hsps hy
   go_upto_region 4 with fail
   rw [←HE.out]
   go_region_held3 (fun W=>W.cell? ⟨p,0,none⟩=some (.slice va2 l.length vcap2)∧W.cell? ⟨wr.heap.size,1,none⟩=some (.int .i64 (in_:Int))∧W.cell? ⟨wr.heap.size,2,none⟩=some (.string s)) (first | go_keep | exact hk1) ((go_at_call 32;refine (HN.out _ (by first | exact Ex.refl _ _ | exact (Ex.refl _ _).drew | exact (Ex.refl _ _).drewN)).mono ?_;rintro ev w2 ⟨hw2,m,rfl,hm,_,_⟩;have hk1:w2.cell? ⟨p,0,none⟩=some (.slice va2 l.length vcap2)∧w2.cell? ⟨wr.heap.size,1,none⟩=some (.int .i64 (in_:Int))∧w2.cell? ⟨wr.heap.size,2,none⟩=some (.string s):=(by rw [hw2];exact ⟨q0,z1,z2⟩)))
   subst hw2
   have he2:Ex (fun _=>False) wE wE.drew:=(Ex.refl _ _).drew
   have hf2:=HF.out.ex he2 (fun _ _ _ h=>h)
   have hb2:Below B w wE.drew:=HBE.out.trans ⟨he2.os,he2.tape,he2.output,he2.size,fun q hq=>he2.block q (by omega) (fun h=>h)⟩
   have hg2:wE.drew.heap[g]?=w.heap[g]?:=(he2.block g (by omega) (fun h=>h)).trans HGW.out
   have z0:wE.drew.cell? ⟨wr.heap.size,0,none⟩=some (.int .i64 (at_:Int)):=z0
   have hz2:=lt_of_cell z0
   have hgp:g≠p:=fun e=>by
    obtain ⟨vs,bg,wr1,vc,cl1,b1,_⟩:=hf2.blk
    rw [←e,hg2,hgc] at b1
    simp at b1
   have HF2:=toHid hf2
   have HB2:=toHid hb2
   have HG2:=toHid hg2
   have hgl2:g<wE.drew.heap.size:=by have:=he2.size;omega
   clear hf2 hb2 hg2 he2 hk1
   by_cases hm0:m=0
   ·have hm1:((m:Int) == 0)=true:=by rw [beq_iff_eq];omega
    clear hm0
    go_wp2_with fail
    refine (refuse_any HF2.out at_ (by omega)).mono ?_
    rintro ev w3 ⟨rfl,hf3,he3⟩
    have HF3:=toHid hf3
    have HB3':Hid (Below B w w3):=HB2.out.trans (HF2.out.exb he3).below
    have HG3:Hid (w3.heap[g]?=w.heap[g]?):=(he3.block g hgl2 hgp).trans HG2.out
    clear hf3 he3
    go_wp2_with fail
    go_roundg (cl.length+1 - (j+1))
    case measure=>have:=HG.out;omega
    case rel=>exact ⟨j+1,rfl,by omega,by go_num,HF3.out,HB3'.out,fun g' e=>by
     simp [Value.ownBlock] at e
     subst e
     exact HG3.out⟩
   ·have hm1:((m:Int) == 0)=false:=by rw [beq_eq_false_iff_ne];omega
    go_wp2_with fail
    go_roundg (cl.length+1 - (j+1))
    case measure=>have:=HG.out;omega
    case rel=>exact ⟨j+1,rfl,by omega,by go_num,HF2.out,HB2.out,fun g' e=>by
     simp [Value.ownBlock] at e
     subst e
     exact HG2.out⟩
  ·go_wp2_with fail
   go_end0
   exact ⟨rfl,hb,hf⟩
end Go.Proofs.YtemapnogjepokaaGreatDoor

/- slices.Sorted(maps.Keys(m)) at this program: the shelf's layings, and their contracts. -/
namespace Go.Proofs.YtemapnogjepokaaGreatDoor
open Go.Proofs Go.RowKit Go.Maps Go.Sort Go.Shelf

def itKeys_ren:Go.Shelf.Ren:=⟨fun | 7=>34 | 10=>48 | n=>n,fun | 23=>66 | 26=>9 | 3=>3 | 28=>93 | 0=>0 | 27=>92 | 33=>69 | 4=>4 | n=>n,fun | n=>n⟩
theorem itKeys:SlLaysZ.n7 Tryz.prog itKeys_ren:={
 mixed:=by kernel_rfl
 f7 := ⟨ "maps.Keys[map[string]int,string,int]", of_decide_eq_true (by kernel_rfl), Tryz.func34.trans (congrArg some (by kernel_rfl))⟩
 f10 := ⟨ "maps.Keys[map[string]int,string,int]$1", of_decide_eq_true (by kernel_rfl), Tryz.func48.trans (congrArg some (by kernel_rfl))⟩
 t0:=Tryz.underlying0
 a0:=Tryz.isAgg0
 z0:=Tryz.sizeOf0
 v0:=Tryz.zeroValue0
 t4:=Tryz.underlying4
 a4:=Tryz.isAgg4
 z4:=Tryz.sizeOf4
 v4:=Tryz.zeroValue4
 t23:=Tryz.underlying66
 a23:=Tryz.isAgg66
 z23:=Tryz.sizeOf66
 v23:=Tryz.zeroValue66
 t26:=Tryz.underlying9
 a26:=Tryz.isAgg9
 z26:=Tryz.sizeOf9
 v26:=Tryz.zeroValue9
 t27:=Tryz.underlying92
 a27:=Tryz.isAgg92
 z27:=Tryz.sizeOf92
 v27:=Tryz.zeroValue92
 t28:=Tryz.underlying93
 a28:=Tryz.isAgg93
 z28:=Tryz.sizeOf93
 v28:=Tryz.zeroValue93
 t33:=Tryz.underlying69
 a33:=Tryz.isAgg69
 z33:=Tryz.sizeOf69
 v33:=Tryz.zeroValue69 }
def itSorted_ren:Go.Shelf.Ren:=⟨fun | 6=>33 | 8=>46 | 9=>47 | 11=>64 | 13=>66 | 12=>65 | 23=>94 | 24=>95 | 14=>85 | 15=>86 | 16=>87 | 17=>88 | 18=>89 | 19=>90 | 20=>91 | 21=>92 | 22=>93 | 25=>122 | 26=>123 | 27=>124 | 28=>125 | 29=>126 | 30=>127 | 31=>142 | n=>n,fun | 26=>9 | 28=>93 | 24=>32 | 0=>0 | 3=>3 | 37=>127 | 48=>147 | 50=>149 | 4=>4 | 40=>139 | 39=>138 | 45=>144 | 5=>5 | 9=>9 | 51=>161 | 55=>165 | 57=>174 | 58=>175 | 33=>69 | n=>n,fun | n=>n⟩
theorem itSorted:SlLaysZ.n6 Tryz.prog itSorted_ren:={
 mixed:=by kernel_rfl
 f6 := ⟨ "slices.Sorted[string]", of_decide_eq_true (by kernel_rfl), Tryz.func33.trans (congrArg some (by kernel_rfl))⟩
 f8 := ⟨ "slices.Collect[string]", of_decide_eq_true (by kernel_rfl), Tryz.func46.trans (congrArg some (by kernel_rfl))⟩
 f11 := ⟨ "slices.AppendSeq[[]string,string]", of_decide_eq_true (by kernel_rfl), Tryz.func64.trans (congrArg some (by kernel_rfl))⟩
 i26:=by kernel_rfl
 t0:=Tryz.underlying0
 a0:=Tryz.isAgg0
 z0:=Tryz.sizeOf0
 v0:=Tryz.zeroValue0
 t24:=Tryz.underlying32
 a24:=Tryz.isAgg32
 z24:=Tryz.sizeOf32
 v24:=Tryz.zeroValue32
 t26:=Tryz.underlying9
 a26:=Tryz.isAgg9
 z26:=Tryz.sizeOf9
 v26:=Tryz.zeroValue9
 t28:=Tryz.underlying93
 a28:=Tryz.isAgg93
 z28:=Tryz.sizeOf93
 v28:=Tryz.zeroValue93 }
def itSort_ren:Go.Shelf.Ren:=⟨fun | 6=>47 | 8=>66 | 9=>65 | 19=>94 | 20=>95 | 21=>85 | 22=>86 | 23=>87 | 24=>88 | 25=>89 | 26=>90 | 27=>91 | 28=>92 | 29=>93 | 36=>122 | 31=>123 | 32=>124 | 37=>125 | 38=>126 | 39=>127 | 41=>142 | n=>n,fun | 27=>32 | 29=>9 | 3=>3 | 32=>127 | 26=>32 | 0=>0 | 44=>147 | 46=>149 | 4=>4 | 36=>139 | 35=>138 | 41=>144 | 5=>5 | 9=>9 | 53=>161 | 57=>165 | 63=>174 | 64=>175 | n=>n,fun | n=>n⟩
theorem itSort:SlLaysM.n6 Tryz.prog itSort_ren:={
 mixed:=by kernel_rfl
 f6 := ⟨ "slices.Sort[[]string,string]", of_decide_eq_true (by kernel_rfl), Tryz.func47.trans (congrArg some (by kernel_rfl))⟩
 f9 := ⟨ "slices.pdqsortOrdered[string]", of_decide_eq_true (by kernel_rfl), Tryz.func65.trans (congrArg some (by kernel_rfl))⟩
 f21 := ⟨ "slices.insertionSortOrdered[string]", of_decide_eq_true (by kernel_rfl), Tryz.func85.trans (congrArg some (by kernel_rfl))⟩
 f22 := ⟨ "slices.heapSortOrdered[string]", of_decide_eq_true (by kernel_rfl), Tryz.func86.trans (congrArg some (by kernel_rfl))⟩
 f23 := ⟨ "slices.breakPatternsOrdered[string]", of_decide_eq_true (by kernel_rfl), Tryz.func87.trans (congrArg some (by kernel_rfl))⟩
 f24 := ⟨ "slices.choosePivotOrdered[string]", of_decide_eq_true (by kernel_rfl), Tryz.func88.trans (congrArg some (by kernel_rfl))⟩
 f25 := ⟨ "slices.reverseRangeOrdered[string]", of_decide_eq_true (by kernel_rfl), Tryz.func89.trans (congrArg some (by kernel_rfl))⟩
 f26 := ⟨ "slices.partialInsertionSortOrdered[string]", of_decide_eq_true (by kernel_rfl), Tryz.func90.trans (congrArg some (by kernel_rfl))⟩
 f27 := ⟨ "cmp.Less[string]", of_decide_eq_true (by kernel_rfl), Tryz.func91.trans (congrArg some (by kernel_rfl))⟩
 f28 := ⟨ "slices.partitionEqualOrdered[string]", of_decide_eq_true (by kernel_rfl), Tryz.func92.trans (congrArg some (by kernel_rfl))⟩
 f29 := ⟨ "slices.partitionOrdered[string]", of_decide_eq_true (by kernel_rfl), Tryz.func93.trans (congrArg some (by kernel_rfl))⟩
 f36 := ⟨ "slices.siftDownOrdered[string]", of_decide_eq_true (by kernel_rfl), Tryz.func122.trans (congrArg some (by kernel_rfl))⟩
 f37 := ⟨ "slices.medianAdjacentOrdered[string]", of_decide_eq_true (by kernel_rfl), Tryz.func125.trans (congrArg some (by kernel_rfl))⟩
 f38 := ⟨ "slices.medianOrdered[string]", of_decide_eq_true (by kernel_rfl), Tryz.func126.trans (congrArg some (by kernel_rfl))⟩
 f39 := ⟨ "cmp.isNaN[string]", of_decide_eq_true (by kernel_rfl), Tryz.func127.trans (congrArg some (by kernel_rfl))⟩
 f41 := ⟨ "slices.order2Ordered[string]", of_decide_eq_true (by kernel_rfl), Tryz.func142.trans (congrArg some (by kernel_rfl))⟩
 f8:=Tryz.func66.trans (congrArg some (by kernel_rfl))
 f19:=Tryz.func94.trans (congrArg some (by kernel_rfl))
 f20:=Tryz.func95.trans (congrArg some (by kernel_rfl))
 f31:=Tryz.func123.trans (congrArg some (by kernel_rfl))
 f32:=Tryz.func124.trans (congrArg some (by kernel_rfl))
 t0:=Tryz.underlying0
 a0:=Tryz.isAgg0
 z0:=Tryz.sizeOf0
 v0:=Tryz.zeroValue0
 t3:=Tryz.underlying3
 a3:=Tryz.isAgg3
 z3:=Tryz.sizeOf3
 v3:=Tryz.zeroValue3
 t4:=Tryz.underlying4
 a4:=Tryz.isAgg4
 z4:=Tryz.sizeOf4
 v4:=Tryz.zeroValue4
 t5:=Tryz.underlying5
 a5:=Tryz.isAgg5
 z5:=Tryz.sizeOf5
 v5:=Tryz.zeroValue5
 t9:=Tryz.underlying9
 a9:=Tryz.isAgg9
 z9:=Tryz.sizeOf9
 v9:=Tryz.zeroValue9
 t26:=Tryz.underlying32
 a26:=Tryz.isAgg32
 z26:=Tryz.sizeOf32
 v26:=Tryz.zeroValue32
 t27:=Tryz.underlying32
 a27:=Tryz.isAgg32
 z27:=Tryz.sizeOf32
 v27:=Tryz.zeroValue32
 t29:=Tryz.underlying9
 a29:=Tryz.isAgg9
 z29:=Tryz.sizeOf9
 v29:=Tryz.zeroValue9
 t32:=Tryz.underlying127
 a32:=Tryz.isAgg127
 z32:=Tryz.sizeOf127
 v32:=Tryz.zeroValue127
 t35:=Tryz.underlying138
 a35:=Tryz.isAgg138
 z35:=Tryz.sizeOf138
 v35:=Tryz.zeroValue138
 t36:=Tryz.underlying139
 a36:=Tryz.isAgg139
 z36:=Tryz.sizeOf139
 v36:=Tryz.zeroValue139
 t41:=Tryz.underlying144
 a41:=Tryz.isAgg144
 z41:=Tryz.sizeOf144
 v41:=Tryz.zeroValue144
 t44:=Tryz.underlying147
 a44:=Tryz.isAgg147
 z44:=Tryz.sizeOf147
 v44:=Tryz.zeroValue147
 t46:=Tryz.underlying149
 a46:=Tryz.isAgg149
 z46:=Tryz.sizeOf149
 v46:=Tryz.zeroValue149
 t53:=Tryz.underlying161
 a53:=Tryz.isAgg161
 z53:=Tryz.sizeOf161
 v53:=Tryz.zeroValue161
 t57:=Tryz.underlying165
 a57:=Tryz.isAgg165
 z57:=Tryz.sizeOf165
 v57:=Tryz.zeroValue165
 t63:=Tryz.underlying174
 a63:=Tryz.isAgg174
 z63:=Tryz.sizeOf174
 v63:=Tryz.zeroValue174
 t64:=Tryz.underlying175
 a64:=Tryz.isAgg175
 z64:=Tryz.sizeOf175
 v64:=Tryz.zeroValue175 }
theorem itSorts (m:Nat):AnyZ.SortsIn Tryz.prog itSorted_ren Fence.wide m:=
 ⟨fun blk off cap ss W hH hblk hsz=>callsIn_wide.2 (AnyM.slices_Sort_string itSort blk off cap ss W hH hblk hsz),
  fun p cap W=>callsIn_wide.2 (AnyM.slices_Sort_string_none itSort p cap W)⟩

theorem maps_Keys_any (mb:Option Nat) (W:World):CallsIn Fence.wide 5 Tryz.prog 34 #[.map mb] W fun e w'=>e = .returned (.func (.func 48) #[] #[.pointer (some ⟨W.heap.size,0,none⟩)])∧w'=W.alloc (.cells #[.map mb] 66):=
 AnyZ.keys_in itKeys Fence.wide 5 trivial rfl mb W

set_option maxHeartbeats 1000000 in
theorem sorted_keys_any {H:Type}(b nn:Nat) (D0:DataW H) (R:Value→Option (DataW H × List MemPlace)) (w:World) (hown:w.ownsMap Tryz.prog 9 R b nn D0) (hmax:Maps.size D0≤maxLen) (hbytes:Maps.size D0*16≤140737488355328) :
  CallsIn Fence.wide 5 Tryz.prog 33 #[.func (.func 48) #[] #[.pointer (some ⟨w.heap.size,0,none⟩)]] (w.alloc (.cells #[.map (some b)] 66)) fun e w' => ∃ (v:Value) (ss:List (List UInt8)),e = .returned v∧ss.Perm (strKeys D0) ∧
   w'.ownsRow (w.alloc (.cells #[.map (some b)] 66)).heap.size 9 1 v ss.length ((ss.mergeSort (fun x y=>decide (x≤y))).map encStr)∧(v = .slice none 0 0 ↔ ss = [])∧Below (w.alloc (.cells #[.map (some b)] 66)).heap.size (w.alloc (.cells #[.map (some b)] 66)) w':=by
 have hbl:=hown.lt
 have hseq:SeqGives Fence.wide 2 Tryz.prog 48 #[.pointer (some ⟨w.heap.size,0,none⟩)] encStr (fun ss=>ss.Perm (strKeys D0)) (Maps.size D0) (w.alloc (.cells #[.map (some b)] 66)):=
  AnyZ.keys_gives (ρ:=itKeys_ren) { itKeys with } Fence.wide _ trivial rfl (by omega) w.heap.size b nn D0 _ (by simp) (by simp) (by
   obtain ⟨es,clock,hb,Ft,hs,hD⟩:=hown
   exact ⟨es,clock,(Below.heap_alloc _ _ b hbl).trans hb,Ft,hs,hD⟩)
 exact AnyZ.sorted_in itSorted Fence.wide 5 trivial trivial trivial trivial rfl (by omega) (itSorts _) (enters_of Tryz.func47 (by kernel_rfl) rfl) 48 #[.pointer (some ⟨w.heap.size,0,none⟩)] trivial (enters_of Tryz.func48 (by kernel_rfl) rfl) _ _ hmax hbytes _ hseq
end Go.Proofs.YtemapnogjepokaaGreatDoor

/- Package scope: names. -/
namespace Go.Proofs.YtemapnogjepokaaGreatDoor
open Go.RowKit Go.Maps
open Go.Proofs (encStr)

theorem keys_mem {D:DataW Unit}(hm:IsMap D) {b:List UInt8}(h:has D (.string b)=true):b∈strKeys D:=by
 obtain ⟨es,rfl⟩:=hm
 rw [has_eq,List.any_eq_true] at h
 obtain ⟨p,hp,hs⟩:=h
 have e:=WideAt.sameKey_eq hs
 show b∈es.map fun p=>strOf p.1
 exact List.mem_map.2 ⟨p,hp,by rw [e];rfl⟩
theorem keys_nodup {w:World}{R:Value→Option (DataW Unit × List MemPlace)}{b n:Nat}{D:DataW Unit}(hown:w.ownsMap Tryz.prog 9 R b n D):(strKeys D).Nodup:=by
 obtain ⟨es,hD,hpw,_⟩:=hown.entries lawS
 obtain ⟨es',hD',hko⟩:=hown.keysOf
 obtain rfl:es=es':=by rw [hD] at hD';simpa using hD'
 subst hD
 have hk:∀ p∈es,∃ x,p.1 = .string x:=fun p hp=>by
  obtain ⟨v,hv⟩:=hko p hp
  obtain ⟨x,_,hx,_⟩:=Maps.keyOf_str Tryz.underlying9 hv
  exact ⟨x,hx⟩
 show (es.map fun p=>strOf p.1).Nodup
 refine List.pairwise_map.2 (hpw.imp_of_mem fun {p q} hp' hq' hne e=>hne ?_)
 obtain ⟨a,ha⟩:=hk p hp'
 obtain ⟨b,hb⟩:=hk q hq'
 rw [ha,hb] at e ⊢
 exact congrArg _ e
def ofB (b:List UInt8):ByteArray:=⟨b.toArray⟩
theorem ofB_list (b:List UInt8):(ofB b).data.toList=b:=by simp [ofB]
theorem ofB_of (s:ByteArray):ofB s.data.toList=s:=by
 apply WideShapes.bytes_inj
 rw [ofB_list]
def Rising (ks:List ByteArray):Prop:=ks.Pairwise (fun a b=>a.data.toList<b.data.toList)
theorem rising_of {ss:List (List UInt8)}(h:ss.Nodup):Rising ((ss.mergeSort (fun x y=>decide (x≤y))).map ofB):=by
 have tr:∀ a b c:List UInt8,leB a b=true→leB b c=true→leB a c=true:=fun a b c h1 h2=>by
  simp only [leB,decide_eq_true_eq] at *
  exact List.le_trans h1 h2
 have tt:∀ a b:List UInt8,(leB a b || leB b a)=true:=fun a b=>by
  simp only [leB,Bool.or_eq_true,decide_eq_true_eq]
  exact List.le_total a b
 have hp:(ss.mergeSort leB).Pairwise (fun a b=>leB a b=true):=List.pairwise_mergeSort tr tt ss
 have hn:(ss.mergeSort leB).Nodup:=(List.mergeSort_perm ss leB).nodup_iff.2 h
 refine List.pairwise_map.2 ((hp.and hn).imp fun {a b} hab => ?_)
 rw [ofB_list,ofB_list]
 have h1:a≤b:=by simpa [leB] using hab.1
 exact List.not_le.1 (fun h2=>hab.2 (List.le_antisymm h1 h2))
set_option maxHeartbeats 4000000 in
set_option maxRecDepth 100000 in
theorem names_any {B:Nat}{w:World}{x:SD}(h:SpAt B w x) (hk:x.k≤5000000000000):Calls Tryz.prog 19 #[.pointer (some ⟨x.b,0,none⟩)] w fun ev w'=>Below w.heap.size w w' ∧ ∃ (v:Value) (ks:List ByteArray),ev = .returned v∧w'.ownsRow w.heap.size 9 1 v ks.length (ks.map Value.string)∧(∀ s,x.bits s≠0→s∈ks)∧(∀ s∈ks,s.size≤maxLen∧has x.D (.string s.data.toList)=true)∧Rising ks∧ks.length≤x.k:=by
 obtain ⟨_,_,_,c6,_,_⟩:=sp_cells h
 have hbl:=lt_of_cell c6
 have hsz:=h.own.size_le
 have HK:=toHid (callsIn_wide.1 (maps_Keys_any (some x.m) w))
 have HS:=toHid (callsIn_wide.1 (sorted_keys_any x.m x.k x.D _ w h.own (by unfold maxLen;omega) (by omega)))
 have H:=toHid h
 clear h
 go_enter Tryz.func19,Tryz.ntmps19
 go_wp2_with fail
 refine HK.out.mono ?_
 rintro ev w1 ⟨rfl,rfl⟩
 go_wp2_with fail
 refine HS.out.mono ?_
 rintro ev w2 ⟨v,ss,rfl,hp,hrow,_,hb⟩
 have hb2:Below w.heap.size w w2:=((Below.refl _ _).alloc (Nat.le_refl _) _).trans (hb.mono (by simp))
 have HR:Hid (∃ (ks:List ByteArray),w2.ownsRow w.heap.size 9 1 v ks.length (ks.map Value.string)∧(∀ s,x.bits s≠0→s∈ks)∧(∀ s∈ks,s.size≤maxLen∧has x.D (.string s.data.toList)=true)∧Rising ks∧ks.length≤x.k):=by
  refine ⟨(ss.mergeSort (fun x y=>decide (x≤y))).map ofB,?_,fun s hs => ?_,fun s hs => ?_,rising_of (hp.nodup_iff.2 (keys_nodup H.out.own)),?_⟩
  ·have e1:((ss.mergeSort (fun x y=>decide (x≤y))).map ofB).length=ss.length:=by simp
   have e2:((ss.mergeSort (fun x y=>decide (x≤y))).map ofB).map Value.string=(ss.mergeSort (fun x y=>decide (x≤y))).map encStr:=by
    rw [List.map_map]
    rfl
   rw [e1,e2]
   refine ⟨hrow.1,hrow.2.imp id ?_⟩
   rintro ⟨g,cap,cur,q1,q2,q3⟩
   exact ⟨g,cap,cur,q1,by simp at q2;omega,q3⟩
  ·have hh:has x.D (.string s.data.toList)=true:=by
    cases hq:has x.D (.string s.data.toList) with
    | true=>rfl
    | false =>
     exfalso
     apply hs
     have:x.mk' s 0:=atKey_of_not_has hq _
     exact bits_of this
   have:=hp.mem_iff.2 (keys_mem H.out.ok.map hh)
   refine List.mem_map.2 ⟨s.data.toList,?_,ofB_of s⟩
   exact (List.mergeSort_perm ss _).mem_iff.2 this
  ·obtain ⟨b,hb1,rfl⟩:=List.mem_map.1 hs
   have hb2:=hp.mem_iff.1 ((List.mergeSort_perm ss _).mem_iff.1 hb1)
   have hl:=strKeys_le H.out.own Tryz.underlying9 b hb2
   refine ⟨?_,?_⟩
   ·show b.toArray.size≤maxLen
    rw [List.size_toArray]
    exact hl
   ·rw [ofB_list]
    obtain ⟨es,hes⟩:=H.out.ok.map
    rw [hes] at hb2 ⊢
    obtain ⟨p,hp1,rfl⟩:=List.mem_map.1 (show b∈es.map fun p=>strOf p.1 from hb2)
    obtain ⟨es',hD',hko⟩:=H.out.own.keysOf
    obtain rfl:es=es':=by rw [hes] at hD';simpa using hD'
    obtain ⟨vv,hv⟩:=hko p hp1
    obtain ⟨y,_,hy,_⟩:=Maps.keyOf_str Tryz.underlying9 hv
    rw [has_eq,List.any_eq_true]
    exact ⟨p,hp1,by rw [hy];simp [Lit.sameKey,strOf]⟩
  ·rw [List.length_map,List.length_mergeSort,hp.length_eq]
   obtain ⟨es,hes⟩:=H.out.ok.map
   have:(strKeys x.D).length=Maps.size x.D:=by rw [hes];simp [strKeys,Maps.size]
   omega
 clear hp hrow hb
 go_wp2_with fail
 go_ret
 obtain ⟨ks,hks⟩:=HR.out
 exact ⟨hb2,v,ks,rfl,hks⟩
end Go.Proofs.YtemapnogjepokaaGreatDoor

/- Package scope: what settle keeps. -/
namespace Go.Proofs.YtemapnogjepokaaGreatDoor
open Go.RowKit Go.Maps
open Go.Proofs (encStr)

theorem or_sh:∀ n:Fin 64,beB (n.val ||| 16)=beB n.val∧shB (n.val ||| 16)=true∧frB (n.val ||| 16)=frB n.val∧beB (n.val ||| 32)=beB n.val∧shB (n.val ||| 32)=shB n.val∧frB (n.val ||| 32)=true:=by decide
theorem bits_put {x:SD}(h:SpOK x) (s t:ByteArray) (a k:Nat):(⟨x.b,x.m,k,x.nm,x.ar,x.pn,x.D.put (.string s.data.toList) (.lit (.int .i64 ((x.bits s ||| a:Nat):Int))),x.v,x.od⟩:SD).bits t=if t=s then x.bits s ||| a else x.bits t:=by
 have h1:=(h.bit s).1
 have h2:=(h.bit t).1
 have:=mk_put h.map h1 (⟨x.b,x.m,k,x.nm,x.ar,x.pn,x.D.put (.string s.data.toList) (.lit (.int .i64 ((x.bits s ||| a:Nat):Int))),x.v,x.od⟩:SD) rfl t _ h2
 rw [bits_of this]
 split
 next e=>rw [e]
 next=>rfl
def SD.mark (x:SD) (s:ByteArray) (a:Nat):SD:=⟨x.b,x.m,x.k,x.nm,x.ar,x.pn,x.D.put (.string s.data.toList) (.lit (.int .i64 ((x.bits s ||| a:Nat):Int))),x.v,x.od⟩
theorem mark_bits {x:SD}(h:SpOK x) (s t:ByteArray) (a:Nat):(x.mark s a).bits t=if t=s then x.bits s ||| a else x.bits t:=bits_put h s t a x.k
def KeyIn (U:List (List UInt8)) (x:SD):Prop:=∀ b,has x.D (.string b)=true→b∈U
theorem nodup_len:∀ (l U:List (List UInt8)),l.Nodup→(∀ b∈l,b∈U)→l.length≤U.length
 | [],U,_,_=>Nat.zero_le _
 | x::l,U,hn,hs=>by
  obtain ⟨h1,h2⟩:=List.nodup_cons.1 hn
  have hx:=hs x List.mem_cons_self
  have:=nodup_len l (U.erase x) h2 (fun b hb=>(List.mem_erase_of_ne (fun e:b=x=>h1 (by rw [←e];exact hb))).2 (hs b (List.mem_cons_of_mem _ hb)))
  rw [List.length_erase_of_mem hx] at this
  have:=List.length_pos_of_mem hx
  rw [List.length_cons]
  omega
theorem size_in {w:World}{B:Nat}{U:List (List UInt8)}{x:SD}(h:SpAt B w x) (hU:KeyIn U x):Maps.size x.D≤U.length:=by
 obtain ⟨es,hes⟩:=h.ok.map
 have e:(strKeys x.D).length=Maps.size x.D:=by rw [hes];simp [strKeys,Maps.size]
 rw [←e]
 have hn:=keys_nodup h.own
 refine nodup_len _ _ hn (fun b hb=>hU b ?_)
 have hb':=hb
 rw [hes] at hb' ⊢
 obtain ⟨p,hp1,rfl⟩:=List.mem_map.1 (show b∈es.map fun p=>strOf p.1 from hb')
 obtain ⟨es',hD',hko⟩:=h.own.keysOf
 obtain rfl:es=es':=by rw [hes] at hD';simpa using hD'
 obtain ⟨vv,hv⟩:=hko p hp1
 obtain ⟨y,_,hy,_⟩:=Maps.keyOf_str Tryz.underlying9 hv
 rw [has_eq,List.any_eq_true]
 exact ⟨p,hp1,by rw [hy];simp [Lit.sameKey,strOf]⟩
theorem own_size {w:World}{k:TypeId}{R:Value→Option (DataW Unit × List MemPlace)}{b n m:Nat}{D:DataW Unit}(h:w.ownsMap Tryz.prog k R b n D) (hm:Maps.size D≤m):w.ownsMap Tryz.prog k R b m D:=by
 obtain ⟨es,clock,h1,h2,h3,h4⟩:=h
 refine ⟨es,clock,h1,h2,?_,h4⟩
 have e:Maps.size D=es.size:=by rw [h4];simp [Maps.size,length_sorted]
 omega
theorem mark_at {B K:Nat}{U:List (List UInt8)}{w w':World}{x:SD}{s:ByteArray}{a:Nat}(h:SpAt B w x) (hk:x.k=K) (hK:U.length=K) (hU:KeyIn U x) (hs:s.data.toList∈U) (ha:a=16∨a=32) (ho:w'.ownsMap Tryz.prog 9 (plainElem Tryz.prog 3) x.m (x.k+1) (x.D.put (.string s.data.toList) (.lit (.int .i64 ((x.bits s ||| a:Nat):Int))))) (hg:w.grownBy w' (some x.m)):SpAt B w' (x.mark s a)∧Ex x.has w w'∧KeyIn U (x.mark s a):=by
 obtain ⟨h1,h2,h3⟩:=h.ok.bit s
 have hl:x.bits s ||| a<64:=by
  have:=or_lt ⟨x.bits s,h2⟩
  rcases ha with rfl | rfl
  ·exact this.2.2.2.2.1
  ·exact this.2.2.2.2.2
 have hbd:bdB (x.bits s ||| a)=bdB (x.bits s):=by
  have:=or_bd ⟨x.bits s,h2⟩
  rcases ha with rfl | rfl
  ·exact this.2.2.2.1
  ·exact this.2.2.2.2
 obtain ⟨p1,p2⟩:=put_at (m:=a) h h1 hl (fun hb=>h3 (by rw [←hbd];exact hb)) ho hg
 have hU':KeyIn U (x.mark s a):=fun b hb=>by
  by_cases e:b=s.data.toList
  ·rw [e]
   exact hs
  ·refine hU b ?_
   have:has (x.D.put (.string s.data.toList) (.lit (.int .i64 ((x.bits s ||| a:Nat):Int)))) (.string b)=true:=hb
   rw [has_put_other (fun h=>e (by cases h;rfl))] at this
   exact this
 have hsz:Maps.size (x.mark s a).D≤K:=by
  rw [←hK]
  exact size_in (x:=⟨x.b,x.m,x.k+1,x.nm,x.ar,x.pn,(x.mark s a).D,x.v,x.od⟩) p1 hU'
 refine ⟨⟨p1.blk,?_,p1.row,p1.hb,p1.hm,⟨p1.ok.map,p1.ok.all,p1.ok.ods⟩⟩,p2,hU'⟩
 show w'.ownsMap _ _ _ x.m x.k _
 rw [hk]
 exact own_size ho hsz
theorem SPS.turn {B i:Nat}{l:List SD}{v:Value}{w w':World}{x x':SD}(h:SPS B l v w) (hi:l[i]?=some x) (hx:SpAt B w' x') (h1:x'.b=x.b) (h2:x'.m=x.m) (h3:x'.v=x.v) (h4:x'.ar=x.ar) (he:Ex x.has w w'):SPS B (l.set i x') v w':=by
 have hX:=h.sp.all i x hi
 have hlen:(l.set i x').length=l.length:=List.length_set
 refine ⟨?_,h.sp.turn hi he hx h1 h2 (fun g hg=>.inl (by rw [←h3];exact hg)),fun j y hj => ?_,by rw [hlen];exact h.len⟩
 ·rw [hlen,map_set_same spPtr hi (by simp only [spPtr,h1])]
  refine row_kept h.row (fun g hg => ?_)
  obtain ⟨_,cur,e⟩:=row_block h.row hg
  exact he.block g (lt_of_heap e) (sp_types hX e (by decide) (by decide))
 ·by_cases e:i=j
  ·subst e
   rw [List.getElem?_set_self (List.getElem?_eq_some_iff.1 hi).1] at hj
   cases hj
   rw [h4]
   exact h.ar i x hi
  ·rw [List.getElem?_set_ne e] at hj
   exact h.ar j y hj
def FrOK (l:List SD) (P:ByteArray→Nat→Prop):Prop:=∀ (i:Nat) (x:SD) (t:ByteArray),l[i]?=some x→frB (x.bits t)=true→0<i∧beB (x.bits t)=false ∧ ∃ (u:Nat) (y:SD),x.ar=(u:Int)∧0<u∧l[u]?=some y∧(frB (y.bits t)=true∨(beB (y.bits t)=true∧shB (y.bits t)=true)∨P t u)
structure SE (B K:Nat) (U:List (List UInt8)) (l:List SD) (v:Value) (P:ByteArray→Nat→Prop) (w:World):Prop where
 sps:SPS B l v w
 lo:∀ (i:Nat) (x:SD),l[i]?=some x→x.k=K∧KeyIn U x
 hK:U.length=K
 fr:FrOK l P
structure Kin (l l':List SD):Prop where
 len:l'.length=l.length
 ar:arN l'=arN l
 b:∀ (i:Nat) (x:SD),l[i]?=some x → ∃ x',l'[i]?=some x'∧x'.b=x.b∧x'.od=x.od
 be:∀ (s:ByteArray) (i:Nat),beB (bitsAt l' s i)=beB (bitsAt l s i)
theorem Kin.refl (l:List SD):Kin l l:=⟨rfl,rfl,fun _ x h=>⟨x,h,rfl,rfl⟩,fun _ _=>rfl⟩
theorem Kin.trans {a b c:List SD}(h:Kin a b) (k:Kin b c):Kin a c:=⟨k.len.trans h.len,k.ar.trans h.ar,fun i x hi=>by
 obtain ⟨y,hy,e,o⟩:=h.b i x hi
 obtain ⟨z,hz,e2,o2⟩:=k.b i y hy
 exact ⟨z,hz,e2.trans e,o2.trans o⟩,fun s i=>(k.be s i).trans (h.be s i)⟩
theorem kin_mark {l:List SD}{i:Nat}{x:SD}(hi:l[i]?=some x) (hx:SpOK x) (s:ByteArray) {a:Nat}(ha:a=16∨a=32):Kin l (l.set i (x.mark s a)):=by
 have hil:=(List.getElem?_eq_some_iff.1 hi).1
 refine ⟨List.length_set,?_,fun j y hj => ?_,fun t j => ?_⟩
 ·funext j
  unfold arN
  by_cases e:i=j
  ·subst e
   rw [List.getElem?_set_self hil,hi]
   rfl
  ·rw [List.getElem?_set_ne e]
 ·by_cases e:i=j
  ·subst e
   rw [hi] at hj
   cases hj
   exact ⟨x.mark s a,List.getElem?_set_self hil,rfl,rfl⟩
  ·exact ⟨y,by rw [List.getElem?_set_ne e];exact hj,rfl,rfl⟩
 ·unfold bitsAt
  by_cases e:i=j
  ·subst e
   rw [List.getElem?_set_self hil,hi]
   simp only
   rw [mark_bits hx]
   split
   next e =>
    rw [e]
    have:=or_sh ⟨x.bits s,(hx.bit s).2.1⟩
    rcases ha with rfl | rfl
    ·exact this.1
    ·exact this.2.2.2.1
   next=>rfl
  ·rw [List.getElem?_set_ne e]
theorem mark_get {l:List SD}{i:Nat}{x:SD}(hi:l[i]?=some x) (hx:SpOK x) (s:ByteArray) (a:Nat) {j:Nat}{y':SD}(hj:(l.set i (x.mark s a))[j]?=some y'):∃ y,l[j]?=some y∧y'.ar=y.ar ∧ ∀ t,y'.bits t=if j=i∧t=s then y.bits t ||| a else y.bits t:=by
 have hil:=(List.getElem?_eq_some_iff.1 hi).1
 by_cases e:i=j
 ·subst e
  rw [List.getElem?_set_self hil] at hj
  cases hj
  refine ⟨x,hi,rfl,fun t => ?_⟩
  rw [mark_bits hx]
  by_cases e:t=s
  ·subst e
   simp
  ·simp [e]
 ·rw [List.getElem?_set_ne e] at hj
  exact ⟨y',hj,rfl,fun t=>by rw [if_neg (fun h=>e h.1.symm)]⟩
theorem mark_to {l:List SD}{i:Nat}{x:SD}(hi:l[i]?=some x) (hx:SpOK x) (s:ByteArray) (a:Nat) {j:Nat}{y:SD}(hj:l[j]?=some y):∃ y',(l.set i (x.mark s a))[j]?=some y'∧y'.ar=y.ar ∧ ∀ t,y'.bits t=if j=i∧t=s then y.bits t ||| a else y.bits t:=by
 have hil:=(List.getElem?_eq_some_iff.1 hi).1
 by_cases e:i=j
 ·subst e
  rw [hi] at hj
  cases hj
  refine ⟨x.mark s a,List.getElem?_set_self hil,rfl,fun t => ?_⟩
  rw [mark_bits hx]
  by_cases e:t=s
  ·subst e
   simp
  ·simp [e]
 ·exact ⟨y,by rw [List.getElem?_set_ne e];exact hj,rfl,fun t=>by rw [if_neg (fun h=>e h.1.symm)]⟩
theorem bits64 {l:List SD}{B:Nat}{w:World}(h:SpL B w l) {j:Nat}{y:SD}(hj:l[j]?=some y) (t:ByteArray):y.bits t<64:=((h.all j y hj).ok.bit t).2.1
theorem fr_share {B:Nat}{w:World}{l:List SD}{P:ByteArray→Nat→Prop}(h:FrOK l P) (hs:SpL B w l) {i:Nat}{x:SD}(hi:l[i]?=some x) (s:ByteArray):FrOK (l.set i (x.mark s 16)) P:=by
 have hx:=(hs.all i x hi).ok
 intro j y' t hj hf
 obtain ⟨y,hy,ea,eb⟩:=mark_get hi hx s 16 hj
 have h64:=or_sh ⟨y.bits t,bits64 hs hy t⟩
 have f1:frB (y'.bits t)=frB (y.bits t)∧beB (y'.bits t)=beB (y.bits t):=by
  rw [eb t]
  split
  ·exact ⟨h64.2.2.1,h64.1⟩
  ·exact ⟨rfl,rfl⟩
 obtain ⟨p1,p2,u,z,p3,p4,p5,p6⟩:=h j y t hy (by rw [←f1.1];exact hf)
 obtain ⟨z',hz',_,zb⟩:=mark_to hi hx s 16 p5
 have g64:=or_sh ⟨z.bits t,bits64 hs p5 t⟩
 refine ⟨p1,by rw [f1.2];exact p2,u,z',ea.trans p3,p4,hz',?_⟩
 rw [zb t]
 split
 ·rcases p6 with p6 | p6 | p6
  ·exact .inl (by rw [g64.2.2.1];exact p6)
  ·exact .inr (.inl ⟨by rw [g64.1];exact p6.1,g64.2.1⟩)
  ·exact .inr (.inr p6)
 ·exact p6
theorem fr_free {B:Nat}{w:World}{l:List SD}{i:Nat}{x:SD}{s:ByteArray}(h:FrOK l (fun t u=>t=s∧u=i)) (hs:SpL B w l) (hi:l[i]?=some x) (hi0:0<i) (hbe:beB (x.bits s)=false) {u:Nat}(hu:x.ar=(u:Int)) (hu0:0<u) (hul:u<l.length):FrOK (l.set i (x.mark s 32)) (fun t u'=>t=s∧u'=u):=by
 have hx:=(hs.all i x hi).ok
 intro j y' t hj hf
 obtain ⟨y,hy,ea,eb⟩:=mark_get hi hx s 32 hj
 have h64:=or_sh ⟨y.bits t,bits64 hs hy t⟩
 by_cases e:j=i∧t=s
 ·obtain ⟨rfl,rfl⟩:=e
  rw [hi] at hy
  cases hy
  have:=eb t
  rw [if_pos ⟨rfl,rfl⟩] at this
  obtain ⟨z,hz⟩:∃ z,l[u]?=some z:=⟨l[u],by simp [hul]⟩
  obtain ⟨z',hz',_,_⟩:=mark_to hi hx t 32 hz
  exact ⟨hi0,by rw [this,h64.2.2.2.1];exact hbe,u,z',ea.trans hu,hu0,hz',.inr (.inr ⟨rfl,rfl⟩)⟩
 ·have eb:=eb t
  rw [if_neg e] at eb
  rw [eb] at hf
  obtain ⟨p1,p2,u2,z,p3,p4,p5,p6⟩:=h j y t hy hf
  obtain ⟨z',hz',_,zb⟩:=mark_to hi hx s 32 p5
  have g64:=or_sh ⟨z.bits t,bits64 hs p5 t⟩
  refine ⟨p1,by rw [eb];exact p2,u2,z',ea.trans p3,p4,hz',?_⟩
  have zb:=zb t
  by_cases e2:u2=i∧t=s
  ·rw [if_pos e2] at zb
   exact .inl (by rw [zb];exact g64.2.2.2.2.2)
  ·rw [if_neg e2] at zb
   rw [zb]
   rcases p6 with p6 | p6 | p6
   ·exact .inl p6
   ·exact .inr (.inl p6)
   ·exact absurd ⟨p6.2,p6.1⟩ e2
theorem fr_done {l:List SD}{s:ByteArray}{m:Nat}{z:SD}(h:FrOK l (fun t u=>t=s∧u=m)) (hm:l[m]?=some z) (hbe:beB (z.bits s)=true) (hsh:shB (z.bits s)=true):FrOK l (fun _ _=>False):=fun i x t hi hf=>by
 obtain ⟨p1,p2,u,y,p3,p4,p5,p6⟩:=h i x t hi hf
 refine ⟨p1,p2,u,y,p3,p4,p5,?_⟩
 rcases p6 with p6 | p6 | ⟨rfl,rfl⟩
 ·exact .inl p6
 ·exact .inr (.inl p6)
 ·rw [hm] at p5
  cases p5
  exact .inr (.inl ⟨hbe,hsh⟩)
theorem FrOK.imp {l:List SD}{P Q:ByteArray→Nat→Prop}(h:FrOK l P) (hp:∀ t u,P t u→Q t u):FrOK l Q:=fun i x t hi hf=>by
 obtain ⟨p1,p2,u,y,p3,p4,p5,p6⟩:=h i x t hi hf
 exact ⟨p1,p2,u,y,p3,p4,p5,p6.imp id (Or.imp id (hp t u))⟩
theorem chain_ge {A:Nat→Nat}{g:Nat→Bool}(hA:∀ a,0<a→A a<a):∀ (k a m:Nat),chain A g k a m→m≤a
 | 0,a,m,h=>by
  have:a=m:=h
  omega
 | k+1,a,m,h=>by
  have:=chain_ge hA k _ m h.2.2
  have:=hA a h.1
  omega
end Go.Proofs.YtemapnogjepokaaGreatDoor
