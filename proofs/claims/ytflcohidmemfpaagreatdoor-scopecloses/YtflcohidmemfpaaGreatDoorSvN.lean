/- Package scope: Scopes. -/
import Derived.Test.YtflcohidmemfpaaGreatDoorSvM
set_option linter.all false
namespace Go.Proofs.YtflcohidmemfpaaGreatDoor
open Go.Proofs.Tryz
open Go.RowKit Go.Maps

theorem Zrb (s:ByteArray) (a b:Int) (a0 a1 a2:Option Addr) (n0 n1 n2 c0 c1 c2:Nat):∀ u ∈ [Value.string s,.int .i64 a,.int .i64 b,.slice a0 n0 c0,.slice a1 n1 c1,.slice a2 n2 c2],u.oneCell'=true:=fun u hu=>by
 simp only [List.mem_cons,List.not_mem_nil,or_false] at hu
 rcases hu with rfl | rfl | rfl | rfl | rfl | rfl <;> rfl
set_option maxHeartbeats 16000000 in
set_option maxRecDepth 100000 in
theorem Zgn (P:Nat→Prop) (E:Prop) (w:World) (ba:Option Addr) (n bc:Nat) (HFI:Hid (Calls prog 10 #[.slice ba n bc] w fun ev w'=>Below w.heap.size w w'∧((∃ B l v,ev = .returned (.tuple #[v,.nilIface])∧w.heap.size≤B∧Found B l v w'∧P l.length)∨E ∧ ∃ T q,ev = .returned (.tuple #[.slice none 0 0,.iface T (.pointer q)])))) :
  Calls prog 6 #[.slice ba n bc] w fun ev w'=>Below w.heap.size w w'∧((∃ B es v,ev = .returned (.tuple #[v,.nilIface])∧Scp B es v w'∧P es.length)∨E ∧ ∃ T q,ev = .returned (.tuple #[.slice none 0 0,.iface T (.pointer q)])):=by
 go_enter func6,ntmps6
 go_wp2_with fail
 refine HFI.out.mono ?_
 rintro ev w1 ⟨hb1,⟨B,l,v,rfl,hB,hfd,hP⟩ | ⟨hE,T,q,rfl⟩⟩
 ·obtain ⟨K,U,l1,hK,hse,hl1,hod⟩:=SE.start hfd
  have hpos:0<l1.length:=by rw [hl1];exact hfd.pos
  obtain ⟨g0,cp,x0,rfl,hx0,hx0a,_⟩:=hse.sps.at hpos
  have hBw:B≤w1.heap.size:=by have:=hx0a.hb;have:=Z00 hx0a.blk;omega
  have HST:=Z01 (Zie hse hBw hK hpos)
  have HOD:=Z01 hod
  have HB1:=Z01 hb1
  have HPL:Hid (P l1.length):=by show P l1.length;rw [hl1];exact hP
  clear hfd hse hx0 hx0a hod hb1 hl1 hP
  go_wp2_with fail
  refine HST.out.mono ?_
  rintro ev w2 ⟨rfl,hb2,l2,hkin,hs2⟩
  have HLL:=Z01 hkin.len
  have hlen:=hs2.sps.len
  have HB2:Hid (Below w.heap.size w w2):=HB1.out.trans (hb2.mono hB)
  have HOD2:Hid (∀ (i:Nat) (x:SD),l2[i]?=some x→x.od.length≤2200000):=fun i x hi=>by
   obtain ⟨y,hy⟩:∃ y,l1[i]?=some y:=⟨l1[i]'(by have:=(List.getElem?_eq_some_iff.1 hi).1;have:=HLL.out;omega),by simp⟩
   obtain ⟨z,hz,_,ho⟩:=hkin.b i y hy
   rw [hi] at hz
   cases hz
   rw [ho]
   exact HOD.out i y hy
  have HS2:=Z01 hs2
  have hBw2:B≤w2.heap.size:=by have:=hb2.size;omega
  clear hb2 hs2 hkin HST
  go_wp2_with fail
  go_loopg [6,21] (l1.length+1) (fun gk v6 v21 wr => ∃ (j:Nat) (es:List ScE),gk=l1.length+1 - j∧j≤l1.length∧v21 = .int .i64 (j:Int)∧es.map (·.x)=l2.take j∧SC B es v6 wr∧SPS B l2 (.slice (some ⟨g0,0,none⟩) l1.length cp) wr∧Below w.heap.size w wr∧B≤wr.heap.size ∧ ∀ (i:Nat) (e:ScE),es[i]?=some e→ToldS e.x e.ls)
  case atStart=>exact ⟨0,[],rfl,Nat.zero_le _,rfl,by simp,⟨⟨rfl,.inl ⟨rfl,rfl⟩⟩,fun i e hi=>by simp at hi⟩,HS2.out.sps,HB2.out,hBw2,fun i e hi=>by simp at hi⟩
  case round =>
   obtain ⟨j,es,hgk,hj,rfl,hex,hsc,hsp,hb,hBr,htd⟩:=hrel
   have HG:=Z01 hgk
   have hj0:(0:Int)≤(j:Int):=by omega
   have HEL:Hid (es.length=j):=by
    have:=congrArg List.length hex
    rw [List.length_map,List.length_take] at this
    have h2:=HLL.out
    show es.length=j
    omega
   have hjb:es.length≤1000000000:=by have:=HEL.out;have:=HLL.out;omega
   have hjl:j≤1000000000:=by have:=HLL.out;omega
   have HEX:=Z01 hex
   have HSC:=Z01 hsc
   have HSP:=Z01 hsp
   have HB:=Z01 hb
   have HTD:=Z01 htd
   clear hgk hex hsc hsp hb htd
   by_cases hlt:j<l1.length
   ·have hI1:(j:Int)<(l1.length:Int):=by omega
    obtain ⟨x,hx⟩:∃ x,l2[j]?=some x:=⟨l2[j]'(by have:=HLL.out;omega),by simp⟩
    have cx:=HSP.out.cell hx
    have hxl:=Z02 cx
    have HTL:=Z01 (Ztt (HSP.out.sp.all j x hx) (by have:=(HS2.out.lo j x hx).1;omega) (by have:=HOD2.out j x hx;omega))
    have HX:=Z01 hx
    clear hx
    go_wp2_with fail
    refine HTL.out.mono ?_
    rintro ev w3 ⟨hb3,v,ls,rfl,hrows,hts⟩
    obtain ⟨b0,t0,hv0⟩:=Z1o (hrows 0 (by omega))
    obtain ⟨b1,t1,hv1⟩:=Z1o (hrows 1 (by omega))
    obtain ⟨b2,t2,hv2⟩:=Z1o (hrows 2 (by omega))
    have HR:Hid (∀ k,k<3→w3.ownsRow B 9 1 (v k) (ls k).length ((ls k).map Value.string)):=fun k hk=>by
     have:=hrows k hk
     refine ⟨this.1,this.2.imp id ?_⟩
     rintro ⟨g,cap,cur,q1,q2,q3⟩
     exact ⟨g,cap,cur,q1,by omega,q3⟩
    have HSC3:=Z01 (HSC.out.below hb3)
    have HSP3:=Z01 (HSP.out.below hb3)
    have hs3:=hb3.size
    have HB3:Hid (Below w.heap.size w w3):=HB.out.trans (hb3.mono HB.out.size)
    obtain ⟨i0,hi0,hz0,hz1,hz2⟩:=info_parts Zoz
    have HTS:=Z01 hts
    have HE:Hid (scC ⟨x,v,ls⟩ = [.string x.nm,.int .i64 x.ar,.int .i64 (x.pn:Int),.slice b0 (ls 0).length t0,.slice b1 (ls 1).length t1,.slice b2 (ls 2).length t2]):=by
     show [Value.string x.nm,.int .i64 x.ar,.int .i64 (x.pn:Int),v 0,v 1,v 2]=_
     rw [hv0,hv1,hv2]
    rw [hv0,hv1,hv2]
    clear hb3 hrows hts hv0 hv1 hv2 HTL
    go_wp2_with (first
     | (at_builtin;refine wpList_append_lies _ rfl _ _ _ rfl B 34 i0 (.agg #[.string ⟨#[]⟩,.int .i64 0,.int .i64 0,.slice none 0 0,.slice none 0 0,.slice none 0 0]) 6 104 underlying25 hi0 hz0 hz1 hz2 rfl (by decide) _ es.length (es.flatMap scC) rfl (HSC3.out.row.alloc _) ⟨w3.heap.size,0,none⟩ 1 1 [.string x.nm,.int .i64 x.ar,.int .i64 (x.pn:Int),.slice b0 (ls 0).length t0,.slice b1 (ls 1).length t1,.slice b2 (ls 2).length t2] rfl rfl (World.news_of_block (cs:=#[.string x.nm,.int .i64 x.ar,.int .i64 (x.pn:Int),.slice b0 (ls 0).length t0,.slice b1 (ls 1).length t1,.slice b2 (ls 2).length t2]) (t:=34) (heap_alloc_new _ _)) (Zrb _ _ _ _ _ _ _ _ _ _ _ _) (by decide) (by unfold maxLen;omega) (by omega) (by simp;omega) _ rfl ?_;intro gn capn w4 hown4 hgrow hat hlt2;obtain ⟨p1,p2,p3⟩:=SC.push (e:=⟨x,v,ls⟩) HSC3.out (by omega) hgrow (by rw [HE.out];exact hown4) HR.out;have HP1:=Z01 p1;have HP2:=Z01 p2;have HP3:=Z01 p3;clear hown4 hgrow hat p1 p2 p3))
    go_roundg (l1.length+1 - (j+1))
    case measure=>have:=HG.out;omega
    case rel =>
     refine ⟨j+1,es ++ [⟨x,v,ls⟩],rfl,by omega,by go_num,?_,HP1.out,HSP3.out.aside HP2.out,HB3.out.trans (HP3.out.mono (by omega)),by have:=HP3.out.size;omega,fun i e hi => ?_⟩
     ·rw [List.map_append,HEX.out,List.take_add_one,HX.out]
      rfl
     ·rcases Nat.lt_or_ge i es.length with hl | hl
      ·rw [List.getElem?_append_left hl] at hi
       exact HTD.out i e hi
      ·rw [List.getElem?_append_right hl] at hi
       obtain ⟨_,rfl⟩:=List.getElem?_eq_some_iff.1 hi
       simp only [List.getElem_singleton]
       exact HTS.out
   ·obtain rfl:j=l1.length:=by omega
    have hex:es.map (·.x)=l2:=by
     have h1:=HEX.out
     rw [←HLL.out,List.take_length] at h1
     exact h1
    have hget:∀ (i:Nat) (e:ScE),es[i]?=some e→l2[i]?=some e.x:=fun i e hi=>by
     rw [←hex,List.getElem?_map,hi]
     rfl
    have HSX:=Z01 (Scp.mk HSC.out (fun i e hi=>⟨HTD.out i e hi,(HSP.out.sp.all i e.x (hget i e hi)).ok⟩) (fun i e hi=>HSP.out.ar i e.x (hget i e hi)) (by rw [hex];exact HS2.out.fr) hjb (by have:=HEL.out;omega))
    clear hex hget
    go_wp2_with fail
    go_ret2
    exact ⟨HB.out,.inl ⟨B,es,_,rfl,HSX.out,by rw [HEL.out];exact HPL.out⟩⟩
 ·go_wp2_with fail
  go_ret2
  exact ⟨hb1,.inr ⟨hE,_,_,rfl⟩⟩
end Go.Proofs.YtflcohidmemfpaaGreatDoor
namespace Go.Proofs.YtflcohidmemfpaaGreatDoor
open Go.Proofs.Tryz
open Go.RowKit Go.Maps

theorem Zuc (p:Nat) (w:World):Calls prog 24 #[.pointer (some ⟨p,0,none⟩),.slice none 0 0,.int .i64 0] w fun ev w'=>ev = .returned (.tuple #[])∧w'=w:=by
 go_enter func24,ntmps24
 go_wp2_with fail
 go_loopg [10] 1 (fun _ v10 wr=>v10 = .int .i64 0∧wr=w)
 case atStart=>exact ⟨rfl,rfl⟩
 case round =>
  obtain ⟨rfl,rfl⟩:=hrel
  go_wp2_with fail
  go_end0
  exact ⟨rfl,rfl⟩
theorem Zu8 (p:Nat) (w:World) (i:Int):Calls prog 16 #[.pointer (some ⟨p,0,none⟩),.slice none 0 0,.int .i64 i,.bool false] w fun ev w'=>ev = .returned (.tuple #[])∧w'=w:=by
 go_enter func16,ntmps16
 go_wp2_with fail
 go_loopg [12] 1 (fun _ v12 wr=>v12 = .int .i64 0∧wr=w)
 case atStart=>exact ⟨rfl,rfl⟩
 case round =>
  obtain ⟨rfl,rfl⟩:=hrel
  go_wp2_with fail
  go_end0
  exact ⟨rfl,rfl⟩
theorem Zyq (p:Nat) (w:World) (h3:w.cell? ⟨p,3,none⟩=some (.slice none 0 0)):Calls prog 18 #[.pointer (some ⟨p,0,none⟩)] w fun ev w'=>ev = .returned (.tuple #[])∧w'=w:=by
 have hl:=Z02 h3
 go_enter func18,ntmps18
 go_wp2_with fail
 go_loopg [10] 1 (fun _ v10 wr=>v10 = .int .i64 0∧wr=w)
 case atStart=>exact ⟨rfl,rfl⟩
 case round =>
  obtain ⟨rfl,rfl⟩:=hrel
  go_wp2_with fail
  go_end0
  exact ⟨rfl,rfl⟩
theorem Y0e (ka:Option Addr) (kc:Nat) (w:World):Calls prog 26 #[.slice none 0 0,.slice ka 0 kc,.func (.func 27) #[] #[]] w fun ev w'=>ev = .returned (.bool true)∧w'=w:=by
 go_enter func26,ntmps26
 go_wp2_with fail
 go_loopg [17] 1 (fun _ v17 wr=>v17 = .int .i64 0∧wr=w)
 case atStart=>exact ⟨rfl,rfl⟩
 case round =>
  obtain ⟨rfl,rfl⟩:=hrel
  go_wp2_with fail
  go_ret
  exact ⟨rfl,rfl⟩
theorem Zl5:Z6s ⟨#[]⟩ = .ok (1,Z0o kEnd ⟨#[]⟩ 0):=by kernel_rfl
theorem Zlj:Z86 [(kEnd,⟨#[]⟩,0)] = .ok ([],0):=by kernel_rfl
theorem Zv4 {m:List (ByteArray × ByteArray × Nat)} (h:Z6s ⟨#[]⟩ = .ok (m.length,cellsOf m)):m = [(kEnd,⟨#[]⟩,0)]:=by
 rw [Zl5] at h
 simp only [Except.ok.injEq,Prod.mk.injEq] at h
 obtain ⟨h1,h2⟩:=h
 rcases m with _ | ⟨⟨a,b,c⟩,_ | ⟨y,m⟩⟩
 ·simp at h1
 ·simp only [cellsOf,Z0o,List.flatMap_cons,List.flatMap_nil,List.append_nil,List.cons.injEq,Value.string.injEq,Value.int.injEq,true_and,and_true] at h2
  obtain ⟨e1,e2,e3⟩:=h2
  rw [←e1,←e2]
  have:c=0:=by omega
  rw [this]
 ·simp at h1
theorem Zui:∀ W:World,(convert 75 9 (.slice none 0 0)).run prog W = .ok (.string ⟨#[]⟩) W:=fun W=>by kernel_rfl
set_option maxHeartbeats 8000000 in
set_option maxRecDepth 100000 in
theorem Zut (a0 a1 a2:Addr) (w:World) (E:TwEnv w.heap.size a0 a1 a2 w) :
  Calls prog 15 #[.slice none 0 0] w fun ev w'=>Below w.heap.size w w'∧ev = .returned (.tuple #[.string ⟨#[]⟩,.nilIface]):=by
 have HE:=Z01 E
 clear E
 go_enter func15,ntmps15
 go_wp2_with fail
 refine (Zbr _).mono ?_
 rintro ev w1 ⟨rfl,hw1⟩
 obtain ⟨hb1,hs1,_⟩:=Ztn w
 rw [←hw1] at hb1 hs1
 clear hw1
 obtain ⟨wA,hA⟩:∃ wA,wA=w1.alloc (.cells #[.slice (some ⟨w.heap.size+8,0,none⟩) 8 8,.slice none 0 0,.int .i64 0,.bool false] 77):=⟨_,rfl⟩
 have hblk:wA.heap[w.heap.size+9]?=some (.cells #[.slice (some ⟨w.heap.size+8,0,none⟩) 8 8,.slice none 0 0,.int .i64 0,.bool false] 77):=by
  have h:=heap_alloc_new w1 (.cells #[.slice (some ⟨w.heap.size+8,0,none⟩) 8 8,.slice none 0 0,.int .i64 0,.bool false] 77)
  rw [hs1,←hA] at h
  exact h
 have hbA1:Below w1.heap.size w1 wA:=by rw [hA];exact (Below.refl _ _).alloc (Nat.le_refl _) _
 have hbA:Below w.heap.size w wA:=hb1.trans (hbA1.mono hb1.size)
 have HWT:Hid (WT (w.heap.size+9) (.slice (some ⟨w.heap.size+8,0,none⟩) 8 8) wA wA):=⟨⟨_,⟨#[]⟩,_,_,hblk,⟨rfl,.inl ⟨rfl,rfl⟩⟩,by decide⟩,Below.refl _ _⟩
 have HA:=Z01 hA
 have HBA:=Z01 hbA
 have k1:wA.cell? ⟨w.heap.size+9,1,none⟩=some (.slice none 0 0):=by rw [cell_of_row wA _ 1 _ _ _ hblk];rfl
 have k3:wA.cell? ⟨w.heap.size+9,3,none⟩=some (.bool false):=by rw [cell_of_row wA _ 3 _ _ _ hblk];rfl
 have hkl:=Z02 k1
 have hE2:=Z01 ((HE.out.below hbA).up hbA.size)
 have HSN:=Z01 (Zuc (w.heap.size+9) wA)
 clear hblk hbA1 hbA hb1 hA
 have hcv:=Zui
 go_wp2_with fail
 rw [←HA.out]
 refine HSN.out.mono ?_
 rintro ev w2 ⟨rfl,rfl⟩
 go_wp2_with fail
 refine (Zky ⟨#[]⟩ a0 a1 w2 hE2.out.lenv).mono ?_
 rintro ev w3 ⟨hb3,⟨m,ss3,k,ba3,bc3,hs6,hlx,hpr,rfl,_⟩ | ⟨hno,_⟩⟩
 ·obtain rfl:=Zv4 hlx
  rw [Zlj] at hpr
  simp only [Except.ok.injEq,Prod.mk.injEq] at hpr
  obtain ⟨rfl,hk0⟩:=hpr
  clear hk0
  have HB3:Hid (Below w.heap.size w w3):=HBA.out.trans (hb3.mono HBA.out.size)
  clear hb3 hcv
  go_wp2_with fail
  refine (Y0e ba3 bc3 w3).mono ?_
  rintro ev w4 ⟨rfl,rfl⟩
  go_wp2_with fail
  go_ret2
  exact ⟨HB3.out,rfl⟩
 ·exact absurd Zlj (hno [(kEnd,⟨#[]⟩,0)] [] 0 (by decide) Zl5)
end Go.Proofs.YtflcohidmemfpaaGreatDoor
namespace Go.Proofs.YtflcohidmemfpaaGreatDoor
open Go.Proofs.Tryz
open Go.RowKit Go.Maps

set_option maxHeartbeats 8000000 in
set_option maxRecDepth 100000 in
theorem Zte {B p:Nat}{w:World} (h:FS B p 0 [] w) (hBw:B≤w.heap.size) :
  Calls prog 17 #[.pointer (some ⟨p,0,none⟩),.string ⟨#[]⟩,.slice none 0 0,.int .i64 (-1),.int .i64 0] w fun ev w'=>ev = .returned (.int .i64 0)∧Fr B w w'∧(∃ x,FS B p 1 [x] w') ∧ ∀ o,o≠0→w'.cell? ⟨p,o,none⟩=w.cell? ⟨p,o,none⟩:=by
 have hmm:=@run_makeMap prog
 obtain ⟨w2,hw2⟩:∃ w2,w2=(w.alloc (.map #[] 0)).alloc (.cells #[.string ⟨#[]⟩,.int .i64 (-1),.int .i64 0,.slice none 0 0,.slice none 0 0,.slice none 0 0,.map (some w.heap.size),.slice none 0 0] 68):=⟨_,rfl⟩
 obtain ⟨hst,hb2⟩:=New.start h hBw ⟨#[]⟩ (-1) 0 w2 hw2
 have hpb:w2.heap[p]?=w.heap[p]?:=by
  have hb:Below w.heap.size w w2:=by rw [hw2];exact ((Below.refl _ _).alloc (Nat.le_refl _) _).alloc (by simp) _
  exact hb.block p h.lt
 have HW2:=Z01 hw2
 have HST:=Z01 hst
 have HB2:=Z01 hb2
 have HPB:=Z01 hpb
 clear h hst hb2 hw2 hpb
 go_enter func17,ntmps17
 go_wp2_with fail
 clear hmm
 go_loopg [24] 1 (fun gk v24 wr=>v24 = .int .i64 0∧wr=w2)
 case atStart=>exact ⟨rfl,HW2.out.symm⟩
 case round =>
  obtain ⟨rfl,rfl⟩:=hrel
  obtain ⟨x,hx,e1,e2,e3,e4,e5,e6,e7,e8,e9⟩:=HST.out.ex
  have hf:=HST.out.fs
  have hsz:=HB2.out.below.size
  obtain ⟨vs,bg,wr',vc,cl,b1,b2,_⟩:=hf.blk
  obtain ⟨c0,c1,c2,c3,cf⟩:=Z2e b1
  have f0:=cf 0
  have hpl:=hf.lt
  obtain ⟨i0,hi0,hz0,hz1,hz2⟩:=info_parts Zqp
  have HRW:=Z01 b2
  have HX:=Z01 hx
  have HF:=Z01 hf
  have HE9:=Z01 e9
  have HC0:=Z01 c0
  have HLO:Hid (x.k≤1∧x.od.length≤1∧x.pn≤1 ∧ ∀ s n,x.mk' s n→n<16):=⟨by omega,by omega,by omega,e8⟩
  have HAR:Hid ((([]:List SD).length=0→x.ar = -1)∧(0<([]:List SD).length → ∃ u:Nat,u<([]:List SD).length∧x.ar=u)):=⟨fun _=>e4,fun h=>absurd h (by simp)⟩
  obtain ⟨va,vcap,rfl⟩:=Z1o b2
  clear hx hf b1 b2 cf e8 e9 e2 e3 e4 e5 e6 e7
  go_wp2_with (first
   | (at_builtin;refine wpList_append_lies _ rfl _ _ _ rfl B 47 i0 (.pointer none) 1 8 underlying43 hi0 hz0 hz1 hz2 rfl (by decide) _ 0 [] rfl (HRW.out.alloc _) ⟨wr.heap.size,0,none⟩ 1 1 [Z4m x] rfl rfl (World.news_of_block (cs:=#[Z4m x]) (t:=47) (by rw [Z4m,e1];exact heap_alloc_new _ _)) (Zr8 x) (by decide) (by unfold maxLen;omega) (by omega) (by simp;omega) _ rfl ?_;intro gn capn w3 hown3 hgrow hat hlt2;obtain ⟨e3',hP3,hb3⟩:=HF.out.push (x:=x) HX.out HE9.out HC0.out hgrow hown3 HAR.out (by omega) HLO.out (by decide);have HQ:=Z01 e3';have q0:=(World.cell?_of_block (a:=⟨p,0,none⟩) e3').trans c0;have qf:=(World.frozen?_of_block (a:=⟨p,0,none⟩) e3').trans f0;have ql:=Z02 q0;have HP3:=Z01 hP3;have HB3:=Z01 hb3;clear hown3 hgrow hat e3' hP3 hb3 c0 f0))
  go_ret
  refine ⟨rfl,HB2.out.trans HB3.out,⟨x,HP3.out⟩,fun o ho => ?_⟩
  rw [World.cell?_setCell_other _ _ _ _ (fun e=>ho (by simp only [Addr.mk.injEq] at e;exact e.2.1.symm))]
  exact World.cell?_of_block (a:=⟨p,o,none⟩) (HQ.out.trans HPB.out)
end Go.Proofs.YtflcohidmemfpaaGreatDoor
namespace Go.Proofs.YtflcohidmemfpaaGreatDoor
open Go.Proofs.Tryz
open Go.RowKit Go.Maps

set_option maxHeartbeats 8000000 in
set_option maxRecDepth 100000 in
theorem Zt0 (a0 a1 a2:Addr) (w:World) (E:TwEnv w.heap.size a0 a1 a2 w) :
  Calls prog 10 #[.slice none 0 0] w fun ev w'=>Below w.heap.size w w'∧((∃ B l v,ev = .returned (.tuple #[v,.nilIface])∧w.heap.size≤B∧Found B l v w'∧l.length=1)∨False ∧ ∃ T q,ev = .returned (.tuple #[.slice none 0 0,.iface T (.pointer q)])):=by
 have HT:=Z01 (Zut a0 a1 a2 w E)
 clear E
 go_enter func10,ntmps10
 go_wp2_with fail
 refine HT.out.mono ?_
 clear HT
 rintro ev w1 ⟨hb1,rfl⟩
 obtain ⟨wF,hwF⟩:∃ wF,wF=w1.alloc (.cells #[.slice none 0 0,.int .i64 0,.int .i64 (-1),.slice none 0 0] 58):=⟨_,rfl⟩
 obtain ⟨hf0,hbF⟩:=FS.start w1 wF hwF
 have hbk:wF.heap[w1.heap.size]?=some (.cells #[.slice none 0 0,.int .i64 0,.int .i64 (-1),.slice none 0 0] 58):=by rw [hwF];exact heap_alloc_new _ _
 obtain ⟨_,_,f2,f3,_⟩:=Z2e hbk
 have HF2:=Z01 f2
 have HF3:=Z01 f3
 have HWF:=Z01 hwF
 have hs1:=hb1.size
 have hsF:=hbF.size
 have HBF:Hid (Below w.heap.size w wF):=hb1.trans (hbF.mono hs1)
 have HO:=Z01 (Zte hf0 hsF)
 clear hwF hf0 hbF hb1 hbk f2 f3
 go_wp2_with fail
 rw [←HWF.out]
 refine HO.out.mono ?_
 rintro ev w2 ⟨rfl,hb2,⟨x,hf2⟩,hc⟩
 have hsz2:=hb2.below.size
 have HB2:Hid (Below w.heap.size w w2):=HBF.out.trans (hb2.below.mono hs1)
 have c2:=(hc 2 (by decide)).trans HF2.out
 have c3:=(hc 3 (by decide)).trans HF3.out
 obtain ⟨vs,e0,hsps⟩:=hf2.sps (by omega)
 have hp2:=hf2.lt
 have HFD:Hid (Found w1.heap.size [x] vs w2):=⟨hsps,by simp,fun i y hi=>by
  obtain ⟨a,b,d,e⟩:=hf2.lo i y hi
  exact ⟨by omega,by omega,by omega,e⟩,by simp⟩
 have HST:=Z01 (Zu8 w1.heap.size w2 0)
 have HAS:=Z01 (Zyq w1.heap.size w2 c3)
 clear hb2 hf2 hc HO hsps
 go_wp2_with fail
 refine HST.out.mono ?_
 rintro ev w3 ⟨rfl,rfl⟩
 go_wp2_with fail
 refine HAS.out.mono ?_
 rintro ev w4 ⟨rfl,rfl⟩
 go_wp2_with fail
 go_ret2
 exact ⟨HB2.out,.inl ⟨w1.heap.size,[x],vs,rfl,hs1,HFD.out,rfl⟩⟩
theorem Znm (a0 a1 a2:Addr) (w:World) (E:TwEnv w.heap.size a0 a1 a2 w) :
  Calls prog 6 #[.slice none 0 0] w fun ev w'=>Below w.heap.size w w' ∧ ∃ B es v,ev = .returned (.tuple #[v,.nilIface])∧Scp B es v w'∧es.length=1:=by
 refine (Zgn (fun n=>n=1) False w none 0 0 (Zt0 a0 a1 a2 w E)).mono ?_
 rintro ev w' ⟨hb,h | h⟩
 ·exact ⟨hb,h⟩
 ·exact h.1.elim
end Go.Proofs.YtflcohidmemfpaaGreatDoor
namespace Go.Proofs.YtflcohidmemfpaaGreatDoor
open Go.Proofs.Tryz
open Go.RowKit Go.Maps

theorem Zl1 {α:Type} (f:α→List Value) (n:Nat) (hf:∀ a,(f a).length=n):∀ (l:List α) (i k:Nat) (a:α),l[i]?=some a→k<n→(l.flatMap f)[i*n+k]?=(f a)[k]?
 | [],i,k,a,h,_=>by simp at h
 | x::l,0,k,a,h,hk=>by
  simp only [List.getElem?_cons_zero,Option.some.injEq] at h
  subst h
  rw [List.flatMap_cons,List.getElem?_append_left (by rw [hf];omega),Nat.zero_mul,Nat.zero_add]
 | x::l,i+1,k,a,h,hk=>by
  simp only [List.getElem?_cons_succ] at h
  have hl:=hf x
  have e:(i+1)*n+k=n+(i*n+k):=by rw [Nat.add_mul];omega
  rw [List.flatMap_cons,e,List.getElem?_append_right (by omega),hl,Nat.add_sub_cancel_left]
  exact Zl1 f n hf l i k a h hk
theorem SC.cells {B:Nat}{es:List ScE}{v:Value}{w:World} (h:SC B es v w) (hpos:0<es.length):∃ g cap,v = .slice (some ⟨g,0,none⟩) es.length cap∧g<w.heap.size ∧ ∀ (i:Nat) (e:ScE),es[i]?=some e → ∀ k u,(scC e)[k]?=some u→w.cell? ⟨g,i*6+k,none⟩=some u:=by
 rcases h.row.2 with ⟨_,h0⟩ | ⟨g,cap,cur,rfl,_,hg,_,_,_,htk⟩
 ·omega
 ·refine ⟨g,cap,rfl,Z00 hg,fun i e hi k u hu => ?_⟩
  have hk:k<6:=(List.getElem?_eq_some_iff.1 hu).1
  have hil:=(List.getElem?_eq_some_iff.1 hi).1
  rw [cell_of_row w g _ cur _ _ hg,←Array.getElem?_toList]
  have e2:(cur.toList.take (es.length*6))[i*6+k]?=(es.flatMap scC)[i*6+k]?:=by rw [htk]
  rw [List.getElem?_take,if_pos (by omega)] at e2
  rw [e2,Zl1 scC 6 (fun _=>rfl) es i k e hi hk]
  exact hu
set_option maxHeartbeats 8000000 in
set_option maxRecDepth 100000 in
theorem Zst (a0 a1 a2:Addr) (w:World) (E:TwEnv w.heap.size a0 a1 a2 w):Calls prog 4 #[] w fun ev w'=>ev = .returned (.bool true)∧Below w.heap.size w w':=by
 have HS:=Z01 (Znm a0 a1 a2 w E)
 clear E
 go_enter func4,ntmps4
 go_wp2_with fail
 refine HS.out.mono ?_
 rintro ev w1 ⟨hb1,B,es,v,rfl,hsc,hl⟩
 obtain ⟨g,cap,rfl,hg,hc⟩:=hsc.sc.cells hsc.pos
 obtain ⟨e,he⟩:∃ e,es[0]?=some e:=⟨es[0]'hsc.pos,by simp⟩
 have har:=(hsc.ar 0 e he).1 rfl
 have c1:=hc 0 e he 1 (.int .i64 e.x.ar) rfl
 rw [har] at c1
 have HB:=Z01 hb1
 clear hc hsc hb1 he har HS
 go_wp2_with fail
 go_ret
 exact ⟨rfl,HB.out⟩
end Go.Proofs.YtflcohidmemfpaaGreatDoor
namespace Go.Proofs.YtflcohidmemfpaaGreatDoor
open Go.Proofs.Tryz
open Go.RowKit Go.Maps

theorem Zn9 {a b:ByteArray} (h:(a.toList == b.toList)=true):a=b:=by
 rw [beq_iff_eq] at h
 have e:=h
 rw [Z0g,Z0g] at e
 exact WideShapes.bytes_inj e
set_option maxHeartbeats 4000000 in
set_option maxRecDepth 100000 in
theorem Zn5 {B:Nat}{w:World}{v:Value}{xs:List ByteArray} (h:w.ownsRow B 9 1 v xs.length (xs.map Value.string)) (hx:xs.length≤5000000000000) (t:ByteArray):Calls prog 14 #[v,.string t] w fun ev w'=>w'=w ∧ ∃ i:Int,ev = .returned (.int .i64 i)∧(0≤i ↔ t∈xs):=by
 obtain ⟨va,vc,rfl⟩:=Z1o h
 have HR:=Z01 h
 clear h
 go_enter func14,ntmps14
 go_wp2_with fail
 go_loopg [5] (xs.length+1) (fun gk v5 wr => ∃ k:Nat,gk=xs.length+1 - k∧k≤xs.length∧v5 = .int .i64 (k:Int)∧wr=w∧t ∉ xs.take k)
 case atStart=>exact ⟨0,rfl,Nat.zero_le _,rfl,rfl,by simp⟩
 case round =>
  obtain ⟨k,hgk,hk,rfl,rfl,hno⟩:=hrel
  have HG:=Z01 hgk
  have HNO:=Z01 hno
  have hk0:(0:Int)≤(k:Int):=by omega
  clear hgk hno
  by_cases hlt:k<xs.length
  ·have hI:(k:Int)<(xs.length:Int):=by omega
   obtain ⟨s,hs⟩:∃ s,xs[k]?=some s:=⟨xs[k],by simp [hlt]⟩
   obtain ⟨g,rfl,_,cs⟩:=Z7i HR.out rfl hs
   have hgl:=Z02 cs
   have HS:=Z01 hs
   clear hs
   cases he:(s.toList == t.toList)
   ·go_wp2_with fail
    go_roundg (xs.length+1 - (k+1))
    case measure=>have:=HG.out;omega
    case rel =>
     refine ⟨k+1,rfl,by omega,by go_num,rfl,fun hm => ?_⟩
     rw [List.take_add_one,HS.out,List.mem_append] at hm
     rcases hm with hm | hm
     ·exact HNO.out hm
     ·simp only [Option.toList,List.mem_singleton] at hm
      rw [hm] at he
      simp at he
   ·go_wp2_with fail
    go_ret
    refine ⟨rfl,_,rfl,fun _ => ?_,fun _=>hk0⟩
    rw [←Zn9 he]
    exact List.mem_of_getElem? HS.out
  ·obtain rfl:k=xs.length:=by omega
   have hI:¬ (xs.length:Int)<(xs.length:Int):=by omega
   go_wp2_with fail
   go_ret
   refine ⟨rfl,-1,rfl,fun h=>by omega,fun h => ?_⟩
   have:=HNO.out
   rw [List.take_length] at this
   exact absurd h this
theorem Zku {B:Nat}{w:World}{v:Value}{xs:List ByteArray} (h:w.ownsRow B 9 1 v xs.length (xs.map Value.string)) (hx:xs.length≤5000000000000) (t:ByteArray):Calls prog 8 #[v,.string t] w fun ev w'=>w'=w ∧ ∃ b:Bool,ev = .returned (.bool b)∧(b=true ↔ t∈xs):=by
 have HI:=Z01 (Zn5 h hx t)
 clear h
 go_enter func8,ntmps8
 go_wp2_with fail
 refine HI.out.mono ?_
 rintro ev w1 ⟨rfl,i,rfl,hi⟩
 go_wp2_with fail
 go_ret
 exact ⟨rfl,_,rfl,by rw [←hi];simp⟩
end Go.Proofs.YtflcohidmemfpaaGreatDoor
