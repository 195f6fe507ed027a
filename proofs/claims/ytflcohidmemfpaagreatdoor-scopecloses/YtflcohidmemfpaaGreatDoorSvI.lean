/- Package scope: open. -/
import Derived.Test.YtflcohidmemfpaaGreatDoorSvH
import Derived.Test.YtflcohidmemfpaaGreatDoorSsT
import Derived.Test.YtflcohidmemfpaaGreatDoorCopyB
import Derived.Deep.RegionHeld3
import Derived.Test.YtflcohidmemfpaaGreatDoorRows
set_option linter.all false
namespace Go.Proofs.YtflcohidmemfpaaGreatDoor
open Go.Proofs.Tryz
open Go.RowKit Go.Maps

set_option maxHeartbeats 8000000 in
set_option maxRecDepth 100000 in
theorem Zf2 {B p c:Nat}{l:List SD}{w:World} (h:FS B p c l w) (hBw:B≤w.heap.size) (nm:ByteArray) (pl:List ByteArray) (pa:Option Addr) (pc:Nat) (hN:0<pl.length → ∃ b o,pa=some ⟨b,o,none⟩∧b<B∧TS w b o pl) (hz:∀ x∈pl,x.size≤140737488355328) (ar:Int) (har:(l.length=0→ar = -1)∧(0<l.length → ∃ u:Nat,u<l.length∧ar=u)) (at_:Nat) (ha:at_≤c) (hc:c+pl.length+1≤1000000000) :
  Calls prog 17 #[.pointer (some ⟨p,0,none⟩),.string nm,.slice pa pl.length pc,.int .i64 ar,.int .i64 (at_:Int)] w fun ev w'=>ev = .returned (.int .i64 (l.length:Int))∧Fr B w w' ∧ ∃ x,FS B p (c+pl.length+1) (l ++ [x]) w':=by
 have hmm:=@run_makeMap prog
 obtain ⟨w2,hw2⟩:∃ w2,w2=(w.alloc (.map #[] 0)).alloc (.cells #[.string nm,.int .i64 ar,.int .i64 (pl.length:Int),.slice none 0 0,.slice none 0 0,.slice none 0 0,.map (some w.heap.size),.slice none 0 0] 68):=⟨_,rfl⟩
 obtain ⟨hst,hb2⟩:=New.start h hBw nm ar pl.length w2 hw2
 have HW2:=Z01 hw2
 have HST:=Z01 hst
 have HB2:=Z01 hb2
 have HN:=Z01 hN
 have HZ:=Z01 hz
 have hlen:=h.len
 clear h hst hb2 hN hz hw2
 go_enter func17,ntmps17
 go_wp2_with fail
 clear hmm
 go_loopg [24] (pl.length+1) (fun gk v24 wr => ∃ j:Nat,gk=pl.length+1 - j∧j≤pl.length∧v24 = .int .i64 (j:Int)∧New B p c l (w.heap.size+1) w.heap.size j nm ar pl.length wr∧Fr B w wr)
 case atStart =>
  rw [←HW2.out]
  exact ⟨0,rfl,Nat.zero_le _,rfl,HST.out,HB2.out⟩
 case round =>
  obtain ⟨j,hgk,hj,rfl,hnew,hb⟩:=hrel
  have HG:=Z01 hgk
  have hj0:(0:Int)≤(j:Int):=by omega
  clear hgk
  obtain ⟨x,hx,e1,e2,e3,e4,e5,e6,e7,e8,e9⟩:=hnew.ex
  have hf:=hnew.fs
  have hsz:=hb.below.size
  by_cases hlt:j<pl.length
  ·have hI1:(j:Int)<(pl.length:Int):=by omega
   obtain ⟨b1,o1,rfl,hb1,t1⟩:=HN.out (by omega)
   obtain ⟨s,hs⟩:∃ s,pl[j]?=some s:=⟨pl[j],by simp [hlt]⟩
   have y0:=(hb.below.cell (p:=⟨b1,o1+j,none⟩) hb1).trans (t1 j s hs)
   have hbl:=Z02 y0
   have hss:=HZ.out s (List.mem_of_getElem? hs)
   obtain ⟨n,h64,hn,_⟩:=hx.ok.all s
   have H1:=Z01 (Zyz hx s (ml hss) hn h64)
   have HX:=Z01 hx
   have HF:=Z01 hf
   have HB:=Z01 hb
   have HE9:=Z01 e9
   rw [e1] at H1
   clear hx hf hnew hb t1 hs
   go_wp2_with fail
   refine H1.out.mono ?_
   rintro ev w1 ⟨rfl,rfl⟩
   cases hbd:bdB n with
   | false =>
    have HBI:=Z01 (Z7h HX.out s (ml hss) hn h64 (by omega) (by omega) (by omega))
    rw [e1] at HBI
    go_wp2_with fail
    refine HBI.out.mono ?_
    rintro ev w3 ⟨rfl,hex,x',hx',ht⟩
    have HNX:=Z01 (New.bound HF.out HX.out e1 e2 e3 e4 e5 e6 e7 e8 HE9.out hx' ht hex)
    have HBX:Hid (Fr B w w3):=HB.out.trans (HX.out.fr hex (by omega))
    clear hex hx' ht
    go_wp2_with fail
    go_roundg (pl.length+1 - (j+1))
    case measure=>have:=HG.out;omega
    case rel=>exact ⟨j+1,rfl,by omega,by go_num,HNX.out,HBX.out⟩
   | true =>
    go_wp2_with fail
    refine (Z5q HF.out at_ ha).mono ?_
    rintro ev w3 ⟨rfl,hf3,he3⟩
    have hx3:=HF.out.other HX.out he3
    have hb3:=HF.out.exb he3
    have hsz3:=hb3.below.size
    have HBI:=Z01 (Z7h hx3 s (ml hss) hn h64 (by omega) (by omega) (by omega))
    rw [e1] at HBI
    have HF3:=Z01 hf3
    have HX3:=Z01 hx3
    have HB3:Hid (Fr B w w3):=HB.out.trans hb3
    clear he3 hx3 hb3 hf3
    go_wp2_with fail
    refine HBI.out.mono ?_
    rintro ev w4 ⟨rfl,hex,x',hx',ht⟩
    have HNX:=Z01 (New.bound HF3.out HX3.out e1 e2 e3 e4 e5 e6 e7 e8 HE9.out hx' ht hex)
    have HBX:Hid (Fr B w w4):=HB3.out.trans (HX3.out.fr hex (by omega))
    clear hex hx' ht
    go_wp2_with fail
    go_roundg (pl.length+1 - (j+1))
    case measure=>have:=HG.out;omega
    case rel=>exact ⟨j+1,rfl,by omega,by go_num,HNX.out,HBX.out⟩
  ·obtain rfl:j=pl.length:=by omega
   obtain ⟨vs,bg,wr',vc,cl,b1,b2,_⟩:=hf.blk
   obtain ⟨c0,c1,c2,c3,cf⟩:=Z2e b1
   have f0:=cf 0
   have hpl:=hf.lt
   obtain ⟨i0,hi0,hz0,hz1,hz2⟩:=info_parts Zqp
   have HRW:=Z01 b2
   have HX:=Z01 hx
   have HF:=Z01 hf
   have HB:=Z01 hb
   have HE9:=Z01 e9
   have HC0:=Z01 c0
   have hll:(l.map Z4m).length=l.length:=by simp
   rw [←e4] at har
   have HLO:Hid (x.k≤c+pl.length+1∧x.od.length≤c+pl.length+1∧x.pn≤c+pl.length+1 ∧ ∀ s n,x.mk' s n→n<16):=⟨by omega,by omega,by omega,e8⟩
   obtain ⟨va,vcap,rfl⟩:=Z1o b2
   clear hx hf hnew hb b1 b2 cf e8 e9
   go_wp2_with (first
    | (at_builtin;refine wpList_append_lies _ rfl _ _ _ rfl B 47 i0 (.pointer none) 1 8 underlying43 hi0 hz0 hz1 hz2 rfl (by decide) _ l.length (l.map Z4m) rfl (HRW.out.alloc _) ⟨wr.heap.size,0,none⟩ 1 1 [Z4m x] rfl rfl (World.news_of_block (cs:=#[Z4m x]) (t:=47) (by rw [Z4m,e1];exact heap_alloc_new _ _)) (Zr8 x) (by decide) (by unfold maxLen;omega) (by omega) (by simp;omega) _ rfl ?_;intro gn capn w3 hown3 hgrow hat hlt2;obtain ⟨e3',hP3,hb3⟩:=HF.out.push (x:=x) HX.out HE9.out HC0.out hgrow hown3 har (by omega) HLO.out (by omega);have q0:=(World.cell?_of_block (a:=⟨p,0,none⟩) e3').trans c0;have qf:=(World.frozen?_of_block (a:=⟨p,0,none⟩) e3').trans f0;have ql:=Z02 q0;have HP3:=Z01 hP3;have HB3:=Z01 hb3;clear hown3 hgrow hat e3' hP3 hb3 c0 f0))
   go_ret
   exact ⟨rfl,HB.out.trans HB3.out,x,HP3.out⟩
end Go.Proofs.YtflcohidmemfpaaGreatDoor
namespace Go.Proofs.YtflcohidmemfpaaGreatDoor
open Go.Proofs.Tryz
open Go.RowKit Go.Maps

abbrev Z2x (l:List (DataW Unit)):Nat:=Rows.uptoBulkAll l
theorem Zb6:∀ (l m:List (DataW Unit)),Z2x (l++m)=Z2x l+Z2x m
 | [],m=>by simp [Z2x,Rows.uptoBulkAll]
 | x::l,m=>by
  have:=Zb6 l m
  simp only [Z2x,List.cons_append,Rows.uptoBulkAll] at *
  omega
theorem Zeh {l:List (DataW Unit)}{j:Nat}{e:DataW Unit} (he:l[j]?=some e):Z2x (l.take (j+1))=Z2x (l.take j)+Rows.uptoBulk e:=by
 rw [List.take_add_one,he,Zb6]
 simp [Z2x,Rows.uptoBulkAll]
theorem Zkx (l:List (DataW Unit)) (j:Nat):Z2x (l.take j)≤Z2x l:=by
 conv=>rhs;rw [←List.take_append_drop j l,Zb6]
 omega
theorem Zcc:∀ pl:List ByteArray,pl.length≤Rows.uptoBulkAll (pl.map fun x=>(DataW.lit (.string x.data.toList):DataW Unit))
 | []=>by simp
 | x::l=>by
  have:=Zcc l
  simp only [List.map_cons,Rows.uptoBulkAll,Rows.uptoBulk,List.length_cons]
  omega
theorem Ztr (op s:ByteArray) (z:Int) (pl:List ByteArray) (el:List (DataW Unit)):Z2x el+pl.length+4≤Rows.uptoBulk (mkE op z s pl el):=by
 have:=Zcc pl
 simp only [mkE,Rows.uptoBulk,Rows.uptoBulkAll]
 simp only [Z2x]
 omega
theorem FS.no {B p c:Nat}{l:List SD}{w:World}{x:SD} (h:FS B p c l w) (hx:SpAt B w x) {g cap:Nat} (h0:w.cell? ⟨p,0,none⟩=some (.slice (some ⟨g,0,none⟩) l.length cap)):¬ x.has g ∧ ¬ x.has p:=by
 obtain ⟨vs,bg,wr,vc,cl,h1,h2,_⟩:=h.blk
 obtain rfl:vs = .slice (some ⟨g,0,none⟩) l.length cap:=by
  have:=(Z2e h1).1
  rw [h0] at this
  simpa using this.symm
 obtain ⟨_,cur,e⟩:=Z0d h2 (g:=g) rfl
 exact ⟨Z1r hx e (by decide) (by decide),Z1r hx h1 (by decide) (by decide)⟩
def TmS (n:Nat):Prop:=∀ (B p c:Nat) (l:List SD) (w:World),FS B p c l w→B≤w.heap.size → ∀ (la:Option Addr) (lc:Nat) (el:List (DataW Unit)),Z9m (fun b=>b<B) w (Zfj (fun b=>b<B) w n) la el→el.length≤2000000→(∀ e∈el,OkT 2000000 e)→ZTL el→c+Z2x el≤900000000 → ∀ (in_ at_:Nat),in_<l.length→at_≤c →
 Calls prog 44 #[.pointer (some ⟨p,0,none⟩),.slice la el.length lc,.int .i64 (in_:Int),.int .i64 (at_:Int)] w fun ev w'=>ev = .returned (.tuple #[])∧Fr B w w' ∧ ∃ l',l.length≤l'.length∧FS B p (c+Z2x el) l' w'
set_option maxHeartbeats 16000000 in
set_option maxRecDepth 100000 in
theorem Zdv (n:Nat) (hI:∀ m,n=m+1→TmS m):TmS n:=by
 intro B p c l w h hBw la lc el hr hn hk hz hc in_ at_ hin hat
 have H:=Z01 h
 have HR:=Z01 hr
 have HI:=Z01 hI
 have HK:=Z01 hk
 have HZ:=Z01 hz
 clear h hr hI hk hz
 go_enter func44,ntmps44
 go_wp2_with fail
 go_loopg [13] (el.length+1) (fun gk v13 wr => ∃ (j:Nat) (lj:List SD),gk=el.length+1 - j∧j≤el.length∧v13 = .int .i64 (j:Int)∧l.length≤lj.length∧FS B p (c+Z2x (el.take j)) lj wr∧Fr B w wr)
 case atStart=>exact ⟨0,l,rfl,Nat.zero_le _,rfl,Nat.le_refl _,by simpa [Z2x,Rows.uptoBulkAll] using H.out,Fr.refl _ _⟩
 case round =>
  obtain ⟨j,lj,hgk,hj,rfl,hlj,hf,hb⟩:=hrel
  have HG:=Z01 hgk
  have hj0:(0:Int)≤(j:Int):=by omega
  have hsz:=hb.below.size
  clear hgk
  by_cases hlt:j<el.length
  ·have hI1:(j:Int)<(el.length:Int):=by omega
   obtain ⟨b1,o1,rfl,hbB,t1⟩:=HR.out (by omega)
   obtain ⟨e,he⟩:∃ e,el[j]?=some e:=⟨el[j],by simp [hlt]⟩
   obtain ⟨c0,c1,c2,c3,c4,x0,x1,x2,x3,x4,hr⟩:=t1 j e he
   obtain ⟨m,rfl⟩:∃ m,n=m+1:=by
    cases n with
    | zero=>exact hr.elim
    | succ m=>exact ⟨m,rfl⟩
   have hke:=HK.out e (List.mem_of_getElem? he)
   have hze:=HZ.out e (List.mem_of_getElem? he)
   have hct:=Zeh he
   have hcl:=Zkx el (j+1)
   obtain ⟨op,s,z,pl,el1,pa,la1,pc,lc1,rfl,hcs,g1,g2⟩:=hr
   simp only [List.cons.injEq,and_true] at hcs
   obtain ⟨rfl,rfl,rfl,rfl,rfl⟩:=hcs
   have hce:=Ztr op s z pl el1
   obtain ⟨kp,kl⟩:pl.length≤2000000∧Zov 2000000 el1:=by
    obtain ⟨q,hq⟩:=hke
    cases q with
    | zero=>exact hq.elim
    | succ q =>
     obtain ⟨_,_,_,_,_,hd2,q1,q2,q3⟩:=hq
     obtain ⟨rfl,rfl,rfl,rfl,rfl⟩:=Z6e hd2
     exact ⟨q1,q2,fun e he=>⟨q,q3 e he⟩⟩
   obtain ⟨zs,zp,zl⟩:s.size≤140737488355328∧(∀ x∈pl,x.size≤140737488355328)∧ZTL el1:=by
    obtain ⟨q,hq⟩:=hze
    cases q with
    | zero=>exact hq.elim
    | succ q =>
     obtain ⟨_,_,_,_,_,hd2,_,q2,_,q4,q5⟩:=hq
     obtain ⟨rfl,rfl,rfl,rfl,rfl⟩:=Z6e hd2
     exact ⟨q2,q4,fun e he=>⟨q,q5 e he⟩⟩
   have x0:=(hb.below.cell (p:=⟨b1,o1+j*5,none⟩) hbB).trans x0
   have x1:=(hb.below.cell (p:=⟨b1,o1+j*5+1,none⟩) hbB).trans x1
   have x2:=(hb.below.cell (p:=⟨b1,o1+j*5+2,none⟩) hbB).trans x2
   have x3:=(hb.below.cell (p:=⟨b1,o1+j*5+3,none⟩) hbB).trans x3
   have x4:=(hb.below.cell (p:=⟨b1,o1+j*5+4,none⟩) hbB).trans x4
   have hbl:=Z02 x0
   obtain ⟨wE,hE⟩:∃ wE,wE=wr.alloc (.cells #[.string op,.int .i64 z,.string s,.slice pa pl.length pc,.slice la1 el1.length lc1] 72):=⟨_,rfl⟩
   have hbE:Below wr.heap.size wr wE:=by rw [hE];exact (Below.refl _ _).alloc (Nat.le_refl _) _
   have hbx:wE.heap[wr.heap.size]?=some (.cells #[.string op,.int .i64 z,.string s,.slice pa pl.length pc,.slice la1 el1.length lc1] 72):=by rw [hE];exact heap_alloc_new _ _
   have HBX:Hid (∀ W:World,W.heap[wr.heap.size]?=wE.heap[wr.heap.size]?→W.cell? ⟨wr.heap.size,0,none⟩=some (.string op)∧W.cell? ⟨wr.heap.size,2,none⟩=some (.string s)∧W.cell? ⟨wr.heap.size,3,none⟩=some (.slice pa pl.length pc)∧W.cell? ⟨wr.heap.size,4,none⟩=some (.slice la1 el1.length lc1)∧wr.heap.size<W.heap.size):=fun W hW=>by
    have hk:=hW.trans hbx
    refine ⟨?_,?_,?_,?_,Z00 hk⟩
    ·rw [cell_of_row _ _ 0 _ _ _ hk];rfl
    ·rw [cell_of_row _ _ 2 _ _ _ hk];rfl
    ·rw [cell_of_row _ _ 3 _ _ _ hk];rfl
    ·rw [cell_of_row _ _ 4 _ _ _ hk];rfl
   have HFE:=Z01 (hf.below hbE)
   have HBE:Hid (Fr B w wE):=hb.trans (Fr.of_below hbE (by omega))
   have HE:=Z01 hE
   have HBK:=Z01 hbx
   have HT:=Z01 (fun (W:World) (lk:List SD) (ck wi:Nat) (hF:FS B p ck lk W) (hW:Fr B w W) (hck:ck≤c+Z2x (el.take j)+pl.length+1) (hwi:wi<lk.length) (hatk:at_≤ck)=>HI.out m rfl B p ck lk W hF (by have:=hW.below.size;omega) la1 lc1 el1 (g2.same (fun b hb2 _=>hW.below.block b hb2) (fun b h _=>h) (Z2m (fun b hb2 _=>hW.below.block b hb2) (fun b h _=>h) m)) kl.1 kl.2 zl (by omega) wi at_ hwi hatk)
   have HN:Hid (∀ W,Fr B w W→(0<pl.length → ∃ b o,pa=some ⟨b,o,none⟩∧b<B∧TS W b o pl)):=fun W hW h0=>by
    obtain ⟨b,o,e1,e2,e3⟩:=g1 h0
    exact ⟨b,o,e1,e2,fun i t hi=>(hW.below.cell (p:=⟨b,o+i,none⟩) e2).trans (e3 i t hi)⟩
   have HZP:=Z01 zp
   obtain ⟨y0,y2,y3,y4,yl⟩:=HBX.out wE rfl
   have hin':in_<lj.length:=by omega
   have hatj:at_≤c+Z2x (el.take j):=by omega
   clear t1 HR he hke hze g1 g2 HI HK HZ kl zl zp hE hbx hbE hf hb
   cases hq1:(op.toList == [110,97,109,101]) with
   | true =>
    obtain ⟨g,cap,x,hx,hxa,q0,q1⟩:=HFE.out.at hin'
    obtain ⟨n',h64,hn',_⟩:=hxa.ok.all s
    have hkx:=(HFE.out.lo in_ x hx).1
    have HU:=Z01 (fun W (hW:Ex (fun _=>False) wE W)=>Zxo (hxa.ex hW (fun _ _ h=>h)) s (ml zs) hn' h64 (by omega))
    have hgl:=Z02 q1
    have hpl:=HFE.out.lt
    have hboxn:¬ x.has wr.heap.size:=Z1r hxa HBK.out (by decide) (by decide)
    have HXM:=Z01 hxa.ok.map
    obtain ⟨ng,np⟩:=HFE.out.no hxa q0
    have HKP:Hid (∀ W1:World,(∀ q,q<wE.heap.size → ¬ x.has q→W1.heap[q]?=wE.heap[q]?)→W1.cell? ⟨p,0,none⟩=some (.slice (some ⟨g,0,none⟩) lj.length cap)∧W1.cell? ⟨g,in_,none⟩=some (.pointer (some ⟨x.b,0,none⟩))∧W1.cell? ⟨wr.heap.size,2,none⟩=some (.string s)):=fun W1 hW1=>⟨(World.cell?_of_block (a:=⟨p,0,none⟩) (hW1 p hpl np)).trans q0,(World.cell?_of_block (a:=⟨g,in_,none⟩) (hW1 g hgl ng)).trans q1,(World.cell?_of_block (a:=⟨wr.heap.size,2,none⟩) (hW1 _ yl hboxn)).trans y2⟩
    have HXA:=Z01 hxa
    clear hxa
    go_upto_region 6 with fail
    rw [←HE.out]
    go_region_held3 (fun W=>W.cell? ⟨p,0,none⟩=some (.slice (some ⟨g,0,none⟩) lj.length cap)∧W.cell? ⟨g,in_,none⟩=some (.pointer (some ⟨x.b,0,none⟩))∧W.cell? ⟨wr.heap.size,2,none⟩=some (.string s)) (first | go_keep | exact hk1) ((go_at_call 62;refine (HU.out _ (by first | exact Ex.refl _ _ | exact (Ex.refl _ _).drew | exact (Ex.refl _ _).drewN)).mono ?_;rintro ev w1 ⟨rfl,hsp,hex⟩;have hk1:=HKP.out w1 (fun q hq hn=>hex.block q hq hn)))
    have hexE:Ex x.has wE w1:=⟨hex.os,hex.tape,hex.output,hex.size,hex.block⟩
    have hf1:=HFE.out.turn hx hsp (Z9o HXM.out hn') (.inr (.inl rfl)) hexE
    have hw1:Fr B w w1:=HBE.out.trans (HXA.out.fr hexE (by have:=HBE.out.below.size;omega))
    obtain ⟨_,_,_,z4,zl⟩:=HBX.out w1 (hexE.block _ yl hboxn)
    have HC:=Z01 (HT.out w1 _ _ in_ hf1 hw1 (by omega) (by rw [List.length_set];exact hin') (by omega))
    have HB1:=Z01 hw1
    clear y0 y2 y3 y4 yl hex hexE hf1 hw1 hsp hk1 q0 q1
    go_wp2_with fail
    refine HC.out.mono ?_
    rintro ev w2 ⟨rfl,hb2,l2,hl2,hf2⟩
    have HB2:Hid (Fr B w w2):=HB1.out.trans hb2
    have HF2:Hid (FS B p (c+Z2x (el.take (j+1))) l2 w2):=hf2.more (by omega)
    rw [List.length_set] at hl2
    clear hb2 hf2 z4 zl
    go_wp2_with fail
    go_roundg (el.length+1 - (j+1))
    case measure=>have:=HG.out;omega
    case rel=>exact ⟨j+1,l2,rfl,by omega,by go_num,by omega,HF2.out,HB2.out⟩
   | false =>
    cases hq2:(op.toList == [108,97,109,98,100,97]) with
    | true =>
     have HO:=Z01 (Zf2 HFE.out (by have:=HBE.out.below.size;omega) ⟨#[108,97,109,98,100,97]⟩ pl pa pc (HN.out _ HBE.out) HZP.out (in_:Int) ⟨fun h=>by omega,fun _=>⟨in_,hin',rfl⟩⟩ at_ hatj (by omega))
     go_wp2_with fail
     rw [←HE.out]
     refine HO.out.mono ?_
     rintro ev w1 ⟨rfl,hb1,x,hf1⟩
     have hb1w:=HBE.out.trans hb1
     obtain ⟨_,_,_,z4,zl⟩:=HBX.out w1 ((hb1.kt _ _ _ _ HBK.out (.inl rfl)).trans HBK.out.symm)
     have HC:=Z01 (HT.out w1 _ _ lj.length hf1 hb1w (by omega) (by simp) (by omega))
     have HB1:=Z01 hb1w
     clear y0 y2 y3 y4 yl hb1 hb1w hf1
     go_wp2_with fail
     refine HC.out.mono ?_
     rintro ev w2 ⟨rfl,hb2,l2,hl2,hf2⟩
     have HB2:Hid (Fr B w w2):=HB1.out.trans hb2
     have HF2:Hid (FS B p (c+Z2x (el.take (j+1))) l2 w2):=hf2.more (by omega)
     clear hb2 hf2 z4 zl
     go_wp2_with fail
     go_roundg (el.length+1 - (j+1))
     case measure=>have:=HG.out;omega
     case rel=>exact ⟨j+1,l2,rfl,by omega,by go_num,by simp at hl2;omega,HF2.out,HB2.out⟩
    | false =>
     have HC:=Z01 (HT.out wE lj _ in_ HFE.out HBE.out (by omega) hin' hatj)
     go_wp2_with fail
     rw [←HE.out]
     refine HC.out.mono ?_
     rintro ev w2 ⟨rfl,hb2,l2,hl2,hf2⟩
     have HB2:Hid (Fr B w w2):=HBE.out.trans hb2
     have HF2:Hid (FS B p (c+Z2x (el.take (j+1))) l2 w2):=hf2.more (by omega)
     clear hb2 hf2 y0 y2 y3 y4 yl
     go_wp2_with fail
     go_roundg (el.length+1 - (j+1))
     case measure=>have:=HG.out;omega
     case rel=>exact ⟨j+1,l2,rfl,by omega,by go_num,by omega,HF2.out,HB2.out⟩
  ·obtain rfl:j=el.length:=by omega
   rw [List.take_length] at hf
   have HF:=Z01 hf
   have HB:=Z01 hb
   clear hf hb
   go_wp2_with fail
   go_end0
   exact ⟨rfl,HB.out,lj,hlj,HF.out⟩
theorem Zs0:∀ n,TmS n
 | 0=>Zdv 0 (fun m h=>by omega)
 | n+1=>Zdv (n+1) (fun m h=>by
  have e:n=m:=by omega
  exact e ▸ Zs0 n)
end Go.Proofs.YtflcohidmemfpaaGreatDoor
namespace Go.Proofs.YtflcohidmemfpaaGreatDoor
open Go.Proofs.Tryz
open Go.RowKit Go.Maps

theorem Y0a {n m:Nat} (h:n<64) (hm:m=4∨m=8):bits .or .i64 (n:Int) (m:Int)=((n ||| m:Nat):Int)∧(n ||| m)<64∧bdB (n ||| m)=bdB n:=by
 have h1:=Zpa ⟨n,h⟩
 have h2:=Zve ⟨n,h⟩
 have h3:=Zy5 ⟨n,h⟩
 rcases hm with rfl | rfl
 ·exact ⟨h1.2.2.1,h2.2.2.1,h3.2.1⟩
 ·exact ⟨h1.2.2.2.1,h2.2.2.2.1,h3.2.2.1⟩
set_option maxHeartbeats 8000000 in
set_option maxRecDepth 100000 in
theorem Zs5 {B p c:Nat}{l:List SD}{w:World} (h:FS B p c l w) (hBw:B≤w.heap.size) (pl:List ByteArray) (pa:Option Addr) (pc:Nat) (hN:0<pl.length → ∃ b o,pa=some ⟨b,o,none⟩∧b<B∧TS w b o pl) (hz:∀ x∈pl,x.size≤140737488355328) (m in_ at_:Nat) (hm:m=4∨m=8) (hin:in_<l.length) (ha:at_≤c) (hc:c+pl.length≤1000000000) :
  Calls prog 63 #[.pointer (some ⟨p,0,none⟩),.slice pa pl.length pc,.int .i64 (m:Int),.int .i64 (in_:Int),.int .i64 (at_:Int)] w fun ev w'=>ev = .returned (.tuple #[])∧Fr B w w' ∧ ∃ l',l'.length=l.length∧FS B p (c+pl.length) l' w':=by
 obtain ⟨g,cap,x,hx,hxa,q0,q1⟩:=h.at hin
 have hgl:=Z02 q1
 have hpl:=h.lt
 have H:=Z01 h
 have HN:=Z01 hN
 have HZ:=Z01 hz
 have HX:=Z01 hx
 have hin0:(0:Int)≤(in_:Int):=by omega
 have hin1:(in_:Int)<(l.length:Int):=by omega
 clear h hN hz hxa hx
 go_enter func63,ntmps63
 go_wp2_with fail
 go_loopg [22] (pl.length+1) (fun gk v22 wr => ∃ (j:Nat) (lj:List SD) (y:SD),gk=pl.length+1 - j∧j≤pl.length∧v22 = .int .i64 (j:Int)∧lj.length=l.length∧FS B p (c+j) lj wr∧Fr B w wr∧lj[in_]?=some y∧y.b=x.b)
 case atStart=>exact ⟨0,l,x,rfl,Nat.zero_le _,rfl,rfl,H.out,Fr.refl _ _,HX.out,rfl⟩
 case round =>
  obtain ⟨j,lj,y,hgk,hj,rfl,hlj,hf,hb,hy,hyb⟩:=hrel
  have HG:=Z01 hgk
  have hj0:(0:Int)≤(j:Int):=by omega
  have hsz:=hb.below.size
  clear hgk q0 q1 hgl hpl
  by_cases hlt:j<pl.length
  ·have hI1:(j:Int)<(pl.length:Int):=by omega
   obtain ⟨b1,o1,rfl,hb1,t1⟩:=HN.out (by omega)
   obtain ⟨s,hs⟩:∃ s,pl[j]?=some s:=⟨pl[j],by simp [hlt]⟩
   have y0:=(hb.below.cell (p:=⟨b1,o1+j,none⟩) hb1).trans (t1 j s hs)
   have hbl:=Z02 y0
   have hss:=HZ.out s (List.mem_of_getElem? hs)
   have hya:=hf.sp.all in_ y hy
   obtain ⟨n,h64,hn,hbd⟩:=hya.ok.all s
   obtain ⟨ho,hl64,hobd⟩:=Y0a (m:=m) h64 hm
   obtain ⟨_,_,_,c6,_,_⟩:=Z2t hya
   have hky:=(hf.lo in_ y hy).1
   have hxl:=Z02 c6
   obtain ⟨c',hrun,hat,_⟩:=hya.own.lookup_int Zff underlying66 underlying3 (Z5j wr) (Z9h s (ml hss))
   obtain rfl:=Z5g hn hat
   have HK:=Z01 (Z9h s (ml hss))
   have HP:=Z01 (plainElem_int (H:=Unit) (P:=prog) underlying3 (Z91 hl64))
   have HB6:Hid (bdB (n ||| m)=true→s∈y.od):=fun hb=>hbd (by rw [←hobd];exact hb)
   have HNN:=Z01 hn
   have HF:=Z01 hf
   have HB:=Z01 hb
   have HYA:=Z01 hya
   have HY:=Z01 hy
   rw [hyb] at c6 hxl
   /- the mark is put,in whatever world the finder stands so -/
   have fin:∀ (W W':World),FS B p (c+j) lj W→SpAt B W y→Fr B w W→W'.ownsMap prog 9 (plainElem prog 3) y.m (y.k+1) (y.D.put (.string s.data.toList) (.lit (.int .i64 ((n ||| m:Nat):Int))))→W.grownBy W' (some y.m) → ∃ (lk:List SD) (z:SD),lk.length=l.length∧FS B p (c+(j+1)) lk W'∧Fr B w W'∧lk[in_]?=some z∧z.b=x.b:=fun W W' hF hS hW how hgr=>by
    obtain ⟨a1,a2⟩:=Zhq (m:=m) hS HNN.out hl64 HB6.out how hgr
    refine ⟨lj.set in_ (y.put s (n ||| m)),y.put s (n ||| m),by rw [List.length_set];exact hlj,hF.turn HY.out a1 (Z9o hS.ok.map HNN.out) (by omega) a2,hW.trans (hS.fr a2 (by have:=hW.below.size;omega)),?_,hyb⟩
    exact List.getElem?_set_self (by omega)
   have HFIN:=Z01 fin
   clear t1 hs hn hat hf hb hya hy hbd hobd fin
   by_cases hz0:in_=0
   ·have hz1:((in_:Int) == 0)=true:=by rw [beq_iff_eq];omega
    clear hz0
    go_wp2_with fail
    refine (Z5q HF.out at_ (by omega)).mono ?_
    rintro ev w1 ⟨rfl,hf1,he1⟩
    have hs1:=HF.out.other HYA.out he1
    have HB1:=Z01 (HB.out.trans (HF.out.exb he1))
    obtain ⟨_,_,_,d6,_,_⟩:=Z2t hs1
    rw [hyb] at d6
    have hxl1:=Z02 d6
    have HO1:=Z01 hs1.own
    have HS1:=Z01 hs1
    have HF1:=Z01 hf1
    clear hs1 hf1 he1 hrun c6 hxl
    go_wp2_with (first
     | (at_lookup;refine wpList_lookup_own_int _ rfl _ _ 66 rfl 9 3 .i64 Zff underlying66 underlying3 (Z5j _) y.m y.k _ rfl HO1.out _ _ rfl HK.out ?_;intro c hat hwc;obtain rfl:=Z5g HNN.out hat;clear hat hwc)
     | (at_mapUpdate;refine wpList_mapUpdate_own _ rfl _ _ _ 66 rfl 9 3 Zff underlying66 _ y.m y.k _ rfl HO1.out (by unfold maxLen;omega) _ _ _ rfl rfl HK.out _ [] HP.out ?_;intro w2 hown1 hgrow1;obtain ⟨lk,zz,k1,k2,k3,k4,k5⟩:=HFIN.out w1 w2 HF1.out HS1.out HB1.out hown1 hgrow1;have HK2:=Z01 k2;have HK3:=Z01 k3;clear hown1 hgrow1 k2 k3))
    go_roundg (pl.length+1 - (j+1))
    case measure=>have:=HG.out;omega
    case rel=>exact ⟨j+1,lk,zz,rfl,by omega,by go_num,k1,HK2.out,HK3.out,k4,k5⟩
   ·have hz1:((in_:Int) == 0)=false:=by rw [beq_eq_false_iff_ne];omega
    by_cases hn0:n=0
    ·have hn1:((n:Int) != 0)=false:=by rw [bne_eq_false_iff_eq];omega
     clear hn0
     have HO:=Z01 HYA.out.own
     go_wp2_with (first
      | (at_lookup;refine wpList_lookup_own_int _ rfl _ _ 66 rfl 9 3 .i64 Zff underlying66 underlying3 (Z5j _) y.m y.k _ rfl HO.out _ _ rfl HK.out ?_;intro c hat hwc;obtain rfl:=Z5g HNN.out hat;clear hat hwc)
      | (at_mapUpdate;refine wpList_mapUpdate_own _ rfl _ _ _ 66 rfl 9 3 Zff underlying66 _ y.m y.k _ rfl HO.out (by unfold maxLen;omega) _ _ _ rfl rfl HK.out _ [] HP.out ?_;intro w2 hown1 hgrow1;obtain ⟨lk,zz,k1,k2,k3,k4,k5⟩:=HFIN.out wr w2 HF.out HYA.out HB.out hown1 hgrow1;have HK2:=Z01 k2;have HK3:=Z01 k3;clear hown1 hgrow1 k2 k3))
     go_roundg (pl.length+1 - (j+1))
     case measure=>have:=HG.out;omega
     case rel=>exact ⟨j+1,lk,zz,rfl,by omega,by go_num,k1,HK2.out,HK3.out,k4,k5⟩
    ·have hn1:((n:Int) != 0)=true:=by rw [bne_iff_ne];omega
     go_wp2_with fail
     refine (Z5q HF.out at_ (by omega)).mono ?_
     rintro ev w1 ⟨rfl,hf1,he1⟩
     have hs1:=HF.out.other HYA.out he1
     have HB1:=Z01 (HB.out.trans (HF.out.exb he1))
     obtain ⟨_,_,_,d6,_,_⟩:=Z2t hs1
     rw [hyb] at d6
     have hxl1:=Z02 d6
     have HO1:=Z01 hs1.own
     have HS1:=Z01 hs1
     have HF1:=Z01 hf1
     clear hs1 hf1 he1 hrun c6 hxl
     go_wp2_with (first
      | (at_lookup;refine wpList_lookup_own_int _ rfl _ _ 66 rfl 9 3 .i64 Zff underlying66 underlying3 (Z5j _) y.m y.k _ rfl HO1.out _ _ rfl HK.out ?_;intro c hat hwc;obtain rfl:=Z5g HNN.out hat;clear hat hwc)
      | (at_mapUpdate;refine wpList_mapUpdate_own _ rfl _ _ _ 66 rfl 9 3 Zff underlying66 _ y.m y.k _ rfl HO1.out (by unfold maxLen;omega) _ _ _ rfl rfl HK.out _ [] HP.out ?_;intro w2 hown1 hgrow1;obtain ⟨lk,zz,k1,k2,k3,k4,k5⟩:=HFIN.out w1 w2 HF1.out HS1.out HB1.out hown1 hgrow1;have HK2:=Z01 k2;have HK3:=Z01 k3;clear hown1 hgrow1 k2 k3))
     go_roundg (pl.length+1 - (j+1))
     case measure=>have:=HG.out;omega
     case rel=>exact ⟨j+1,lk,zz,rfl,by omega,by go_num,k1,HK2.out,HK3.out,k4,k5⟩
  ·obtain rfl:j=pl.length:=by omega
   have HF:=Z01 hf
   have HB:=Z01 hb
   clear hf hb
   go_wp2_with fail
   go_end0
   exact ⟨rfl,HB.out,lj,hlj,HF.out⟩
end Go.Proofs.YtflcohidmemfpaaGreatDoor
