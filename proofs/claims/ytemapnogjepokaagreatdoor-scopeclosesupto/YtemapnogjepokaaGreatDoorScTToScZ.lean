/- Package scope: what settle starts from; scopes in a row. -/
import Derived.Test.YtemapnogjepokaaGreatDoorScS
import Derived.Test.YtemapnogjepokaaGreatDoorEqBToScM
namespace Go.Proofs.YtemapnogjepokaaGreatDoor
open Go.RowKit Go.Maps

def SD.to (x:SD) (K:Nat):SD:=⟨x.b,x.m,K,x.nm,x.ar,x.pn,x.D,x.v,x.od⟩
def keysAll (l:List SD):List (List UInt8):=(l.map fun x=>strKeys x.D).flatten
theorem keysAll_mem {l:List SD}{x:SD}(hx:x∈l) {b:List UInt8}(hb:b∈strKeys x.D):b∈keysAll l:=List.mem_flatten.2 ⟨strKeys x.D,List.mem_map.2 ⟨x,hx,rfl⟩,hb⟩
theorem keysAll_len (n:Nat):∀ l:List SD,(∀ x∈l,(strKeys x.D).length≤n)→(keysAll l).length≤l.length*n
 | [],_=>by simp [keysAll]
 | x::l,h=>by
  have h1:=h x List.mem_cons_self
  have h2:=keysAll_len n l (fun y hy=>h y (List.mem_cons_of_mem _ hy))
  have e:keysAll (x::l)=strKeys x.D++keysAll l:=by simp [keysAll]
  rw [e,List.length_append,List.length_cons,Nat.add_mul]
  omega
theorem no_fr:∀ n:Fin 16,frB n.val=false:=by decide
theorem SE.start {B:Nat}{l:List SD}{v:Value}{w:World}(h:Found B l v w):∃ K U l',K≤5000000000000∧SE B K U l' v (fun _ _=>False) w∧l'.length=l.length ∧ ∀ (i:Nat) (x:SD),l'[i]?=some x→x.od.length≤2200000:=by
 obtain ⟨U,hU⟩:∃ U,U=keysAll l:=⟨_,rfl⟩
 have hsz:∀ x∈l,(strKeys x.D).length≤2200000:=fun x hx=>by
  obtain ⟨i,hi⟩:=List.mem_iff_getElem?.1 hx
  have hX:=h.sps.sp.all i x hi
  have:=(h.lo i x hi).1
  have h2:=hX.own.size_le
  obtain ⟨es,hes⟩:=hX.ok.map
  have:(strKeys x.D).length=Maps.size x.D:=by rw [hes];simp [strKeys,Maps.size]
  omega
 have hUl:U.length≤5000000000000:=by
  rw [hU]
  have h1:=keysAll_len 2200000 l hsz
  have h2:=h.le
  have:=Nat.mul_le_mul_right 2200000 h2
  omega
 have hkey:∀ x∈l,KeyIn U x:=fun x hx b hb=>by
  obtain ⟨i,hi⟩:=List.mem_iff_getElem?.1 hx
  rw [hU]
  exact keysAll_mem hx (keys_mem (h.sps.sp.all i x hi).ok.map hb)
 have hget:∀ (i:Nat) (y:SD),(l.map (·.to U.length))[i]?=some y → ∃ x,l[i]?=some x∧y=x.to U.length:=fun i y hy=>by
  rw [List.getElem?_map] at hy
  cases hx:l[i]? with
  | none=>rw [hx] at hy;cases hy
  | some x =>
   rw [hx] at hy
   cases hy
   exact ⟨x,rfl,rfl⟩
 have hlen:(l.map (·.to U.length)).length=l.length:=List.length_map _
 have hat:∀ (i:Nat) (x:SD),l[i]?=some x→SpAt B w (x.to U.length):=fun i x hi=>by
  have hX:=h.sps.sp.all i x hi
  exact ⟨hX.blk,own_size hX.own (size_in (x:=x) hX (hkey x (List.mem_of_getElem? hi))),hX.row,hX.hb,hX.hm,⟨hX.ok.map,hX.ok.all,hX.ok.ods⟩⟩
 refine ⟨U.length,U,l.map (·.to U.length),hUl,⟨⟨?_,⟨fun i y hi => ?_,fun i j y z hi hj hij => ?_⟩,fun i y hi => ?_,by rw [hlen];exact h.sps.len⟩,fun i y hi => ?_,rfl,fun i y t hi hf => ?_⟩,hlen,fun i y hi => ?_⟩
 ·have e:(l.map (·.to U.length)).map spPtr=l.map spPtr:=by
   rw [List.map_map]
   rfl
  rw [hlen,e]
  exact h.sps.row
 ·obtain ⟨x,hx,rfl⟩:=hget i y hi
  exact hat i x hx
 ·obtain ⟨x,hx,rfl⟩:=hget i y hi
  obtain ⟨x',hx',rfl⟩:=hget j z hj
  exact h.sps.sp.two i j x x' hx hx' hij
 ·obtain ⟨x,hx,rfl⟩:=hget i y hi
  exact h.sps.ar i x hx
 ·obtain ⟨x,hx,rfl⟩:=hget i y hi
  exact ⟨rfl,hkey x (List.mem_of_getElem? hx)⟩
 ·obtain ⟨x,hx,rfl⟩:=hget i y hi
  have h16:=(h.lo i x hx).2.2.2 t _ ((h.sps.sp.all i x hx).ok.bit t).1
  have e:(x.to U.length).bits t=x.bits t:=rfl
  rw [e,no_fr ⟨x.bits t,h16⟩] at hf
  cases hf
 ·obtain ⟨x,hx,rfl⟩:=hget i y hi
  exact (h.lo i x hx).2.1
structure ScE where
 x:SD
 v:Nat→Value
 ls:Nat→List ByteArray
def scC (e:ScE):List Value:=[.string e.x.nm,.int .i64 e.x.ar,.int .i64 (e.x.pn:Int),e.v 0,e.v 1,e.v 2]
structure SC (B:Nat) (es:List ScE) (v:Value) (w:World):Prop where
 row:w.ownsRow B 34 6 v es.length (es.flatMap scC)
 rows:∀ (i:Nat) (e:ScE),es[i]?=some e → ∀ k,k<3→w.ownsRow B 9 1 (e.v k) (e.ls k).length ((e.ls k).map Value.string)
theorem SC.below {B:Nat}{es:List ScE}{v:Value}{w w':World}(h:SC B es v w) (hb:Below w.heap.size w w'):SC B es v w':=
 ⟨row_kept h.row (fun g hg=>by obtain ⟨_,cur,e⟩:=row_block h.row hg;exact hb.block g (lt_of_heap e)),fun i e hi k hk=>row_kept (h.rows i e hi k hk) (fun g hg=>by obtain ⟨_,cur,e⟩:=row_block (h.rows i e hi k hk) hg;exact hb.block g (lt_of_heap e))⟩
theorem SPS.aside {B:Nat}{l:List SD}{v:Value}{w w':World}(h:SPS B l v w) (he:Ex (fun q => ∃ cs fr,w.heap[q]?=some (.cells cs 34 fr)) w w'):SPS B l v w':=by
 refine ⟨row_kept h.row (fun g hg => ?_),h.sp.ex he (fun i x hi q hq => ?_),h.ar,h.len⟩
 ·obtain ⟨_,cur,e⟩:=row_block h.row hg
  refine he.block g (lt_of_heap e) ?_
  rintro ⟨cs,fr,e2⟩
  rw [e] at e2
  simp at e2
 ·rintro ⟨cs,fr,e2⟩
  exact sp_types (h.sp.all i x hi) e2 (by decide) (by decide) hq
theorem SC.push {B:Nat}{es:List ScE}{v:Value}{w w2:World}{o:Obj}{gn capn:Nat}{e:ScE}(h:SC B es v w) (hBw:B≤w.heap.size) (hg:(w.alloc o).grownBy w2 v.ownBlock) (hown:w2.ownsRow B 34 6 (.slice (some ⟨gn,0,none⟩) (es.length+1) capn) (es.length+1) (es.flatMap scC++scC e)) (hr:∀ k,k<3→w.ownsRow B 9 1 (e.v k) (e.ls k).length ((e.ls k).map Value.string)) :
  SC B (es ++ [e]) (.slice (some ⟨gn,0,none⟩) (es.length+1) capn) w2∧Ex (fun q => ∃ cs fr,w.heap[q]?=some (.cells cs 34 fr)) w w2∧Below B w w2:=by
 have hsz:(w.alloc o).heap.size=w.heap.size+1:=by simp
 have he:Ex (fun q => ∃ cs fr,w.heap[q]?=some (.cells cs 34 fr)) w w2:=⟨hg.os,hg.tape,hg.output,by have:=hg.size;omega,fun q hq hs=>(hg.block q (by omega) (fun eq=>hs (by
  obtain ⟨_,cur,e⟩:=row_block h.row eq.symm
  exact ⟨_,_,e⟩))).trans (Below.heap_alloc _ _ _ hq)⟩
 have hbl:Below B w w2:=⟨hg.os,hg.tape,hg.output,by have:=hg.size;omega,fun q hq=>(hg.block q (by omega) (fun eq=>by
  have:=(row_block h.row eq.symm).1
  omega)).trans (Below.heap_alloc _ _ _ (by omega))⟩
 have keep:∀ (u:Value) (n:Nat) (xs:List Value),w.ownsRow B 9 1 u n xs→w2.ownsRow B 9 1 u n xs:=fun u n xs hu=>row_kept hu (fun g hg'=>by
  obtain ⟨_,cur,e⟩:=row_block hu hg'
  refine he.block g (lt_of_heap e) ?_
  rintro ⟨cs,fr,e2⟩
  rw [e] at e2
  simp at e2)
 refine ⟨⟨?_,fun i y hi k hk => ?_⟩,he,hbl⟩
 ·have e:(es ++ [e]).flatMap scC=es.flatMap scC++scC e:=by simp
  rw [e,List.length_append]
  exact hown
 ·rcases Nat.lt_or_ge i es.length with hl | hl
  ·rw [List.getElem?_append_left hl] at hi
   exact keep _ _ _ (h.rows i y hi k hk)
  ·rw [List.getElem?_append_right hl] at hi
   obtain ⟨_,rfl⟩:=List.getElem?_eq_some_iff.1 hi
   simp only [List.getElem_singleton]
   exact keep _ _ _ (hr k hk)
structure Scp (B:Nat) (es:List ScE) (v:Value) (w:World):Prop where
 sc:SC B es v w
 told:∀ (i:Nat) (e:ScE),es[i]?=some e→ToldS e.x e.ls∧SpOK e.x
 ar:∀ (i:Nat) (e:ScE),es[i]?=some e→(i=0→e.x.ar = -1)∧(0<i → ∃ u:Nat,u<i∧e.x.ar=u)
 fr:FrOK (es.map (·.x)) (fun _ _=>False)
 len:es.length≤1000000000
 pos:0<es.length
theorem infoScope:(Tryz.prog.info? 34).map (fun i=>(i.zero,i.size,i.bytes))=some (some (.agg #[.string ⟨#[]⟩,.int .i64 0,.int .i64 0,.slice none 0 0,.slice none 0 0,.slice none 0 0]),6,104):=by kernel_rfl
end Go.Proofs.YtemapnogjepokaaGreatDoor

/- Package scope: Scopes. -/
namespace Go.Proofs.YtemapnogjepokaaGreatDoor
open Go.RowKit Go.Maps

theorem one_scope (s:ByteArray) (a b:Int) (a0 a1 a2:Option Addr) (n0 n1 n2 c0 c1 c2:Nat):∀ u ∈ [Value.string s,.int .i64 a,.int .i64 b,.slice a0 n0 c0,.slice a1 n1 c1,.slice a2 n2 c2],u.oneCell'=true:=fun u hu=>by
 simp only [List.mem_cons,List.not_mem_nil,or_false] at hu
 rcases hu with rfl | rfl | rfl | rfl | rfl | rfl <;> rfl
set_option maxHeartbeats 16000000 in
set_option maxRecDepth 100000 in
theorem scopes_of (P:Nat→Prop) (E:Prop) (w:World) (ba:Option Addr) (n bc:Nat) (HFI:Hid (Calls Tryz.prog 10 #[.slice ba n bc] w fun ev w'=>Below w.heap.size w w'∧((∃ B l v,ev = .returned (.tuple #[v,.nilIface])∧w.heap.size≤B∧Found B l v w'∧P l.length)∨E ∧ ∃ T q,ev = .returned (.tuple #[.slice none 0 0,.iface T (.pointer q)])))) :
  Calls Tryz.prog 6 #[.slice ba n bc] w fun ev w'=>Below w.heap.size w w'∧((∃ B es v,ev = .returned (.tuple #[v,.nilIface])∧Scp B es v w'∧P es.length)∨E ∧ ∃ T q,ev = .returned (.tuple #[.slice none 0 0,.iface T (.pointer q)])):=by
 go_enter Tryz.func6,Tryz.ntmps6
 go_wp2_with fail
 refine HFI.out.mono ?_
 rintro ev w1 ⟨hb1,⟨B,l,v,rfl,hB,hfd,hP⟩ | ⟨hE,T,q,rfl⟩⟩
 ·obtain ⟨K,U,l1,hK,hse,hl1,hod⟩:=SE.start hfd
  have hpos:0<l1.length:=by rw [hl1];exact hfd.pos
  obtain ⟨g0,cp,x0,rfl,hx0,hx0a,_⟩:=hse.sps.at hpos
  have hBw:B≤w1.heap.size:=by have:=hx0a.hb;have:=lt_of_heap hx0a.blk;omega
  have HST:=toHid (scSettle_any hse hBw hK hpos)
  have HOD:=toHid hod
  have HB1:=toHid hb1
  have HPL:Hid (P l1.length):=by show P l1.length;rw [hl1];exact hP
  clear hfd hse hx0 hx0a hod hb1 hl1 hP
  go_wp2_with fail
  refine HST.out.mono ?_
  rintro ev w2 ⟨rfl,hb2,l2,hkin,hs2⟩
  have HLL:=toHid hkin.len
  have hlen:=hs2.sps.len
  have HB2:Hid (Below w.heap.size w w2):=HB1.out.trans (hb2.mono hB)
  have HOD2:Hid (∀ (i:Nat) (x:SD),l2[i]?=some x→x.od.length≤2200000):=fun i x hi=>by
   obtain ⟨y,hy⟩:∃ y,l1[i]?=some y:=⟨l1[i]'(by have:=(List.getElem?_eq_some_iff.1 hi).1;have:=HLL.out;omega),by simp⟩
   obtain ⟨z,hz,_,ho⟩:=hkin.b i y hy
   rw [hi] at hz
   cases hz
   rw [ho]
   exact HOD.out i y hy
  have HS2:=toHid hs2
  have hBw2:B≤w2.heap.size:=by have:=hb2.size;omega
  clear hb2 hs2 hkin HST
  go_wp2_with fail
  go_loopg [6,21] (l1.length+1) (fun gk v6 v21 wr => ∃ (j:Nat) (es:List ScE),gk=l1.length+1 - j∧j≤l1.length∧v21 = .int .i64 (j:Int)∧es.map (·.x)=l2.take j∧SC B es v6 wr∧SPS B l2 (.slice (some ⟨g0,0,none⟩) l1.length cp) wr∧Below w.heap.size w wr∧B≤wr.heap.size ∧ ∀ (i:Nat) (e:ScE),es[i]?=some e→ToldS e.x e.ls)
  case atStart=>exact ⟨0,[],rfl,Nat.zero_le _,rfl,by simp,⟨⟨rfl,.inl ⟨rfl,rfl⟩⟩,fun i e hi=>by simp at hi⟩,HS2.out.sps,HB2.out,hBw2,fun i e hi=>by simp at hi⟩
  case round =>
   obtain ⟨j,es,hgk,hj,rfl,hex,hsc,hsp,hb,hBr,htd⟩:=hrel
   have HG:=toHid hgk
   have hj0:(0:Int)≤(j:Int):=by omega
   have HEL:Hid (es.length=j):=by
    have:=congrArg List.length hex
    rw [List.length_map,List.length_take] at this
    have h2:=HLL.out
    show es.length=j
    omega
   have hjb:es.length≤1000000000:=by have:=HEL.out;have:=HLL.out;omega
   have hjl:j≤1000000000:=by have:=HLL.out;omega
   have HEX:=toHid hex
   have HSC:=toHid hsc
   have HSP:=toHid hsp
   have HB:=toHid hb
   have HTD:=toHid htd
   clear hgk hex hsc hsp hb htd
   by_cases hlt:j<l1.length
   ·have hI1:(j:Int)<(l1.length:Int):=by omega
    obtain ⟨x,hx⟩:∃ x,l2[j]?=some x:=⟨l2[j]'(by have:=HLL.out;omega),by simp⟩
    have cx:=HSP.out.cell hx
    have hxl:=lt_of_cell cx
    have HTL:=toHid (told_any (HSP.out.sp.all j x hx) (by have:=(HS2.out.lo j x hx).1;omega) (by have:=HOD2.out j x hx;omega))
    have HX:=toHid hx
    clear hx
    go_wp2_with fail
    refine HTL.out.mono ?_
    rintro ev w3 ⟨hb3,v,ls,rfl,hrows,hts⟩
    obtain ⟨b0,t0,hv0⟩:=row_shape (hrows 0 (by omega))
    obtain ⟨b1,t1,hv1⟩:=row_shape (hrows 1 (by omega))
    obtain ⟨b2,t2,hv2⟩:=row_shape (hrows 2 (by omega))
    have HR:Hid (∀ k,k<3→w3.ownsRow B 9 1 (v k) (ls k).length ((ls k).map Value.string)):=fun k hk=>by
     have:=hrows k hk
     refine ⟨this.1,this.2.imp id ?_⟩
     rintro ⟨g,cap,cur,q1,q2,q3⟩
     exact ⟨g,cap,cur,q1,by omega,q3⟩
    have HSC3:=toHid (HSC.out.below hb3)
    have HSP3:=toHid (HSP.out.below hb3)
    have hs3:=hb3.size
    have HB3:Hid (Below w.heap.size w w3):=HB.out.trans (hb3.mono HB.out.size)
    obtain ⟨i0,hi0,hz0,hz1,hz2⟩:=info_parts infoScope
    have HTS:=toHid hts
    have HE:Hid (scC ⟨x,v,ls⟩ = [.string x.nm,.int .i64 x.ar,.int .i64 (x.pn:Int),.slice b0 (ls 0).length t0,.slice b1 (ls 1).length t1,.slice b2 (ls 2).length t2]):=by
     show [Value.string x.nm,.int .i64 x.ar,.int .i64 (x.pn:Int),v 0,v 1,v 2]=_
     rw [hv0,hv1,hv2]
    rw [hv0,hv1,hv2]
    clear hb3 hrows hts hv0 hv1 hv2 HTL
    go_wp2_with (first
     | (at_builtin;refine wpList_append_lies _ rfl _ _ _ rfl B 34 i0 (.agg #[.string ⟨#[]⟩,.int .i64 0,.int .i64 0,.slice none 0 0,.slice none 0 0,.slice none 0 0]) 6 104 Tryz.underlying25 hi0 hz0 hz1 hz2 rfl (by decide) _ es.length (es.flatMap scC) rfl (HSC3.out.row.alloc _) ⟨w3.heap.size,0,none⟩ 1 1 [.string x.nm,.int .i64 x.ar,.int .i64 (x.pn:Int),.slice b0 (ls 0).length t0,.slice b1 (ls 1).length t1,.slice b2 (ls 2).length t2] rfl rfl (World.news_of_block (cs:=#[.string x.nm,.int .i64 x.ar,.int .i64 (x.pn:Int),.slice b0 (ls 0).length t0,.slice b1 (ls 1).length t1,.slice b2 (ls 2).length t2]) (t:=34) (heap_alloc_new _ _)) (one_scope _ _ _ _ _ _ _ _ _ _ _ _) (by decide) (by unfold maxLen;omega) (by omega) (by simp;omega) _ rfl ?_;intro gn capn w4 hown4 hgrow hat hlt2;obtain ⟨p1,p2,p3⟩:=SC.push (e:=⟨x,v,ls⟩) HSC3.out (by omega) hgrow (by rw [HE.out];exact hown4) HR.out;have HP1:=toHid p1;have HP2:=toHid p2;have HP3:=toHid p3;clear hown4 hgrow hat p1 p2 p3))
    go_roundg (l1.length+1 - (j+1))
    case measure=>have:=HG.out;omega
    case rel =>
     refine ⟨j+1,es ++ [⟨x,v,ls⟩],rfl,by omega,by go_num,?_,HP1.out,HSP3.out.aside HP2.out,HB3.out.trans (HP3.out.mono (by omega)),by have:=HP3.out.size;omega,fun i e hi => ?_⟩
     ·rw [List.map_append,HEX.out,List.take_add_one,HX.out]
      rfl
     ·rcases Nat.lt_or_ge i es.length with hl | hl
      ·rw [List.getElem?_append_left hl] at hi
       exact HTD.out i e hi
      ·rw [List.getElem?_append_right hl] at hi
       obtain ⟨_,rfl⟩:=List.getElem?_eq_some_iff.1 hi
       simp only [List.getElem_singleton]
       exact HTS.out
   ·obtain rfl:j=l1.length:=by omega
    have hex:es.map (·.x)=l2:=by
     have h1:=HEX.out
     rw [←HLL.out,List.take_length] at h1
     exact h1
    have hget:∀ (i:Nat) (e:ScE),es[i]?=some e→l2[i]?=some e.x:=fun i e hi=>by
     rw [←hex,List.getElem?_map,hi]
     rfl
    have HSX:=toHid (Scp.mk HSC.out (fun i e hi=>⟨HTD.out i e hi,(HSP.out.sp.all i e.x (hget i e hi)).ok⟩) (fun i e hi=>HSP.out.ar i e.x (hget i e hi)) (by rw [hex];exact HS2.out.fr) hjb (by have:=HEL.out;omega))
    clear hex hget
    go_wp2_with fail
    go_ret2
    exact ⟨HB.out,.inl ⟨B,es,_,rfl,HSX.out,by rw [HEL.out];exact HPL.out⟩⟩
 ·go_wp2_with fail
  go_ret2
  exact ⟨hb1,.inr ⟨hE,_,_,rfl⟩⟩
end Go.Proofs.YtemapnogjepokaaGreatDoor

/- Package scope: nothing at all. -/
namespace Go.Proofs.YtemapnogjepokaaGreatDoor
open Go.RowKit Go.Maps

theorem wstm_nil (p:Nat) (w:World):Calls Tryz.prog 24 #[.pointer (some ⟨p,0,none⟩),.slice none 0 0,.int .i64 0] w fun ev w'=>ev = .returned (.tuple #[])∧w'=w:=by
 go_enter Tryz.func24,Tryz.ntmps24
 go_wp2_with fail
 go_loopg [10] 1 (fun _ v10 wr=>v10 = .int .i64 0∧wr=w)
 case atStart=>exact ⟨rfl,rfl⟩
 case round =>
  obtain ⟨rfl,rfl⟩:=hrel
  go_wp2_with fail
  go_end0
  exact ⟨rfl,rfl⟩
theorem fstm_nil (p:Nat) (w:World) (i:Int):Calls Tryz.prog 16 #[.pointer (some ⟨p,0,none⟩),.slice none 0 0,.int .i64 i,.bool false] w fun ev w'=>ev = .returned (.tuple #[])∧w'=w:=by
 go_enter Tryz.func16,Tryz.ntmps16
 go_wp2_with fail
 go_loopg [12] 1 (fun _ v12 wr=>v12 = .int .i64 0∧wr=w)
 case atStart=>exact ⟨rfl,rfl⟩
 case round =>
  obtain ⟨rfl,rfl⟩:=hrel
  go_wp2_with fail
  go_end0
  exact ⟨rfl,rfl⟩
theorem ask_nil (p:Nat) (w:World) (h3:w.cell? ⟨p,3,none⟩=some (.slice none 0 0)):Calls Tryz.prog 18 #[.pointer (some ⟨p,0,none⟩)] w fun ev w'=>ev = .returned (.tuple #[])∧w'=w:=by
 have hl:=lt_of_cell h3
 go_enter Tryz.func18,Tryz.ntmps18
 go_wp2_with fail
 go_loopg [10] 1 (fun _ v10 wr=>v10 = .int .i64 0∧wr=w)
 case atStart=>exact ⟨rfl,rfl⟩
 case round =>
  obtain ⟨rfl,rfl⟩:=hrel
  go_wp2_with fail
  go_end0
  exact ⟨rfl,rfl⟩
theorem eq_nil (ka:Option Addr) (kc:Nat) (w:World):Calls Tryz.prog 26 #[.slice none 0 0,.slice ka 0 kc,.func (.func 27) #[] #[]] w fun ev w'=>ev = .returned (.bool true)∧w'=w:=by
 go_enter Tryz.func26,Tryz.ntmps26
 go_wp2_with fail
 go_loopg [17] 1 (fun _ v17 wr=>v17 = .int .i64 0∧wr=w)
 case atStart=>exact ⟨rfl,rfl⟩
 case round =>
  obtain ⟨rfl,rfl⟩:=hrel
  go_wp2_with fail
  go_ret
  exact ⟨rfl,rfl⟩
theorem lexP_nil:lexP ⟨#[]⟩ = .ok (1,tokCells kEnd ⟨#[]⟩ 0):=by kernel_rfl
theorem read_nil:pRead [(kEnd,⟨#[]⟩,0)] = .ok ([],0):=by kernel_rfl
theorem nil_toks {m:List (ByteArray × ByteArray × Nat)}(h:lexP ⟨#[]⟩ = .ok (m.length,cellsOf m)):m = [(kEnd,⟨#[]⟩,0)]:=by
 rw [lexP_nil] at h
 simp only [Except.ok.injEq,Prod.mk.injEq] at h
 obtain ⟨h1,h2⟩:=h
 rcases m with _ | ⟨⟨a,b,c⟩,_ | ⟨y,m⟩⟩
 ·simp at h1
 ·simp only [cellsOf,tokCells,List.flatMap_cons,List.flatMap_nil,List.append_nil,List.cons.injEq,Value.string.injEq,Value.int.injEq,true_and,and_true] at h2
  obtain ⟨e1,e2,e3⟩:=h2
  rw [←e1,←e2]
  have:c=0:=by omega
  rw [this]
 ·simp at h1
theorem conv_nil:∀ W:World,(convert 75 9 (.slice none 0 0)).run Tryz.prog W = .ok (.string ⟨#[]⟩) W:=fun W=>by kernel_rfl
set_option maxHeartbeats 8000000 in
set_option maxRecDepth 100000 in
theorem text_nil (a0 a1 a2:Addr) (w:World) (E:TwEnv w.heap.size a0 a1 a2 w) :
  Calls Tryz.prog 15 #[.slice none 0 0] w fun ev w'=>Below w.heap.size w w'∧ev = .returned (.tuple #[.string ⟨#[]⟩,.nilIface]):=by
 have HE:=toHid E
 clear E
 go_enter Tryz.func15,Tryz.ntmps15
 go_wp2_with fail
 refine (ranks_any _).mono ?_
 rintro ev w1 ⟨rfl,hw1⟩
 obtain ⟨hb1,hs1,_⟩:=rk_of w
 rw [←hw1] at hb1 hs1
 clear hw1
 obtain ⟨wA,hA⟩:∃ wA,wA=w1.alloc (.cells #[.slice (some ⟨w.heap.size+8,0,none⟩) 8 8,.slice none 0 0,.int .i64 0,.bool false] 77):=⟨_,rfl⟩
 have hblk:wA.heap[w.heap.size+9]?=some (.cells #[.slice (some ⟨w.heap.size+8,0,none⟩) 8 8,.slice none 0 0,.int .i64 0,.bool false] 77):=by
  have h:=heap_alloc_new w1 (.cells #[.slice (some ⟨w.heap.size+8,0,none⟩) 8 8,.slice none 0 0,.int .i64 0,.bool false] 77)
  rw [hs1,←hA] at h
  exact h
 have hbA1:Below w1.heap.size w1 wA:=by rw [hA];exact (Below.refl _ _).alloc (Nat.le_refl _) _
 have hbA:Below w.heap.size w wA:=hb1.trans (hbA1.mono hb1.size)
 have HWT:Hid (WT (w.heap.size+9) (.slice (some ⟨w.heap.size+8,0,none⟩) 8 8) wA wA):=⟨⟨_,⟨#[]⟩,_,_,hblk,⟨rfl,.inl ⟨rfl,rfl⟩⟩,by decide⟩,Below.refl _ _⟩
 have HA:=toHid hA
 have HBA:=toHid hbA
 have k1:wA.cell? ⟨w.heap.size+9,1,none⟩=some (.slice none 0 0):=by rw [cell_of_row wA _ 1 _ _ _ hblk];rfl
 have k3:wA.cell? ⟨w.heap.size+9,3,none⟩=some (.bool false):=by rw [cell_of_row wA _ 3 _ _ _ hblk];rfl
 have hkl:=lt_of_cell k1
 have hE2:=toHid ((HE.out.below hbA).up hbA.size)
 have HSN:=toHid (wstm_nil (w.heap.size+9) wA)
 clear hblk hbA1 hbA hb1 hA
 have hcv:=conv_nil
 go_wp2_with fail
 rw [←HA.out]
 refine HSN.out.mono ?_
 rintro ev w2 ⟨rfl,rfl⟩
 go_wp2_with fail
 refine (read_any ⟨#[]⟩ a0 a1 w2 hE2.out.lenv).mono ?_
 rintro ev w3 ⟨hb3,⟨m,ss3,k,ba3,bc3,hs6,hlx,hpr,rfl,_⟩ | ⟨hno,_⟩⟩
 ·obtain rfl:=nil_toks hlx
  rw [read_nil] at hpr
  simp only [Except.ok.injEq,Prod.mk.injEq] at hpr
  obtain ⟨rfl,hk0⟩:=hpr
  clear hk0
  have HB3:Hid (Below w.heap.size w w3):=HBA.out.trans (hb3.mono HBA.out.size)
  clear hb3 hcv
  go_wp2_with fail
  refine (eq_nil ba3 bc3 w3).mono ?_
  rintro ev w4 ⟨rfl,rfl⟩
  go_wp2_with fail
  go_ret2
  exact ⟨HB3.out,rfl⟩
 ·exact absurd read_nil (hno [(kEnd,⟨#[]⟩,0)] [] 0 (by decide) lexP_nil)
end Go.Proofs.YtemapnogjepokaaGreatDoor

/- Package scope: the scopes of nothing. -/
namespace Go.Proofs.YtemapnogjepokaaGreatDoor
open Go.RowKit Go.Maps

set_option maxHeartbeats 8000000 in
set_option maxRecDepth 100000 in
theorem open_nil {B p:Nat}{w:World}(h:FS B p 0 [] w) (hBw:B≤w.heap.size) :
  Calls Tryz.prog 17 #[.pointer (some ⟨p,0,none⟩),.string ⟨#[]⟩,.slice none 0 0,.int .i64 (-1),.int .i64 0] w fun ev w'=>ev = .returned (.int .i64 0)∧Fr B w w'∧(∃ x,FS B p 1 [x] w') ∧ ∀ o,o≠0→w'.cell? ⟨p,o,none⟩=w.cell? ⟨p,o,none⟩:=by
 have hmm:=@run_makeMap Tryz.prog
 obtain ⟨w2,hw2⟩:∃ w2,w2=(w.alloc (.map #[] 0)).alloc (.cells #[.string ⟨#[]⟩,.int .i64 (-1),.int .i64 0,.slice none 0 0,.slice none 0 0,.slice none 0 0,.map (some w.heap.size),.slice none 0 0] 68):=⟨_,rfl⟩
 obtain ⟨hst,hb2⟩:=New.start h hBw ⟨#[]⟩ (-1) 0 w2 hw2
 have hpb:w2.heap[p]?=w.heap[p]?:=by
  have hb:Below w.heap.size w w2:=by rw [hw2];exact ((Below.refl _ _).alloc (Nat.le_refl _) _).alloc (by simp) _
  exact hb.block p h.lt
 have HW2:=toHid hw2
 have HST:=toHid hst
 have HB2:=toHid hb2
 have HPB:=toHid hpb
 clear h hst hb2 hw2 hpb
 go_enter Tryz.func17,Tryz.ntmps17
 go_wp2_with fail
 clear hmm
 go_loopg [24] 1 (fun gk v24 wr=>v24 = .int .i64 0∧wr=w2)
 case atStart=>exact ⟨rfl,HW2.out.symm⟩
 case round =>
  obtain ⟨rfl,rfl⟩:=hrel
  obtain ⟨x,hx,e1,e2,e3,e4,e5,e6,e7,e8,e9⟩:=HST.out.ex
  have hf:=HST.out.fs
  have hsz:=HB2.out.below.size
  obtain ⟨vs,bg,wr',vc,cl,b1,b2,_⟩:=hf.blk
  obtain ⟨c0,c1,c2,c3,cf⟩:=fin_cells b1
  have f0:=cf 0
  have hpl:=hf.lt
  obtain ⟨i0,hi0,hz0,hz1,hz2⟩:=info_parts infoSpp
  have HRW:=toHid b2
  have HX:=toHid hx
  have HF:=toHid hf
  have HE9:=toHid e9
  have HC0:=toHid c0
  have HLO:Hid (x.k≤1∧x.od.length≤1∧x.pn≤1 ∧ ∀ s n,x.mk' s n→n<16):=⟨by omega,by omega,by omega,e8⟩
  have HAR:Hid ((([]:List SD).length=0→x.ar = -1)∧(0<([]:List SD).length → ∃ u:Nat,u<([]:List SD).length∧x.ar=u)):=⟨fun _=>e4,fun h=>absurd h (by simp)⟩
  obtain ⟨va,vcap,rfl⟩:=row_shape b2
  clear hx hf b1 b2 cf e8 e9 e2 e3 e4 e5 e6 e7
  go_wp2_with (first
   | (at_builtin;refine wpList_append_lies _ rfl _ _ _ rfl B 47 i0 (.pointer none) 1 8 Tryz.underlying43 hi0 hz0 hz1 hz2 rfl (by decide) _ 0 [] rfl (HRW.out.alloc _) ⟨wr.heap.size,0,none⟩ 1 1 [spPtr x] rfl rfl (World.news_of_block (cs:=#[spPtr x]) (t:=47) (by rw [spPtr,e1];exact heap_alloc_new _ _)) (one_ptr x) (by decide) (by unfold maxLen;omega) (by omega) (by simp;omega) _ rfl ?_;intro gn capn w3 hown3 hgrow hat hlt2;obtain ⟨e3',hP3,hb3⟩:=HF.out.push (x:=x) HX.out HE9.out HC0.out hgrow hown3 HAR.out (by omega) HLO.out (by decide);have HQ:=toHid e3';have q0:=(World.cell?_of_block (a:=⟨p,0,none⟩) e3').trans c0;have qf:=(World.frozen?_of_block (a:=⟨p,0,none⟩) e3').trans f0;have ql:=lt_of_cell q0;have HP3:=toHid hP3;have HB3:=toHid hb3;clear hown3 hgrow hat e3' hP3 hb3 c0 f0))
  go_ret
  refine ⟨rfl,HB2.out.trans HB3.out,⟨x,HP3.out⟩,fun o ho => ?_⟩
  rw [World.cell?_setCell_other _ _ _ _ (fun e=>ho (by simp only [Addr.mk.injEq] at e;exact e.2.1.symm))]
  exact World.cell?_of_block (a:=⟨p,o,none⟩) (HQ.out.trans HPB.out)
end Go.Proofs.YtemapnogjepokaaGreatDoor

/- Package scope: bare. -/
namespace Go.Proofs.YtemapnogjepokaaGreatDoor
open Go.RowKit Go.Maps

set_option maxHeartbeats 8000000 in
set_option maxRecDepth 100000 in
theorem find_nil (a0 a1 a2:Addr) (w:World) (E:TwEnv w.heap.size a0 a1 a2 w) :
  Calls Tryz.prog 10 #[.slice none 0 0] w fun ev w'=>Below w.heap.size w w'∧((∃ B l v,ev = .returned (.tuple #[v,.nilIface])∧w.heap.size≤B∧Found B l v w'∧l.length=1)∨False ∧ ∃ T q,ev = .returned (.tuple #[.slice none 0 0,.iface T (.pointer q)])):=by
 have HT:=toHid (text_nil a0 a1 a2 w E)
 clear E
 go_enter Tryz.func10,Tryz.ntmps10
 go_wp2_with fail
 refine HT.out.mono ?_
 clear HT
 rintro ev w1 ⟨hb1,rfl⟩
 obtain ⟨wF,hwF⟩:∃ wF,wF=w1.alloc (.cells #[.slice none 0 0,.int .i64 0,.int .i64 (-1),.slice none 0 0] 58):=⟨_,rfl⟩
 obtain ⟨hf0,hbF⟩:=FS.start w1 wF hwF
 have hbk:wF.heap[w1.heap.size]?=some (.cells #[.slice none 0 0,.int .i64 0,.int .i64 (-1),.slice none 0 0] 58):=by rw [hwF];exact heap_alloc_new _ _
 obtain ⟨_,_,f2,f3,_⟩:=fin_cells hbk
 have HF2:=toHid f2
 have HF3:=toHid f3
 have HWF:=toHid hwF
 have hs1:=hb1.size
 have hsF:=hbF.size
 have HBF:Hid (Below w.heap.size w wF):=hb1.trans (hbF.mono hs1)
 have HO:=toHid (open_nil hf0 hsF)
 clear hwF hf0 hbF hb1 hbk f2 f3
 go_wp2_with fail
 rw [←HWF.out]
 refine HO.out.mono ?_
 rintro ev w2 ⟨rfl,hb2,⟨x,hf2⟩,hc⟩
 have hsz2:=hb2.below.size
 have HB2:Hid (Below w.heap.size w w2):=HBF.out.trans (hb2.below.mono hs1)
 have c2:=(hc 2 (by decide)).trans HF2.out
 have c3:=(hc 3 (by decide)).trans HF3.out
 obtain ⟨vs,e0,hsps⟩:=hf2.sps (by omega)
 have hp2:=hf2.lt
 have HFD:Hid (Found w1.heap.size [x] vs w2):=⟨hsps,by simp,fun i y hi=>by
  obtain ⟨a,b,d,e⟩:=hf2.lo i y hi
  exact ⟨by omega,by omega,by omega,e⟩,by simp⟩
 have HST:=toHid (fstm_nil w1.heap.size w2 0)
 have HAS:=toHid (ask_nil w1.heap.size w2 c3)
 clear hb2 hf2 hc HO hsps
 go_wp2_with fail
 refine HST.out.mono ?_
 rintro ev w3 ⟨rfl,rfl⟩
 go_wp2_with fail
 refine HAS.out.mono ?_
 rintro ev w4 ⟨rfl,rfl⟩
 go_wp2_with fail
 go_ret2
 exact ⟨HB2.out,.inl ⟨w1.heap.size,[x],vs,rfl,hs1,HFD.out,rfl⟩⟩
theorem scopes_nil (a0 a1 a2:Addr) (w:World) (E:TwEnv w.heap.size a0 a1 a2 w) :
  Calls Tryz.prog 6 #[.slice none 0 0] w fun ev w'=>Below w.heap.size w w' ∧ ∃ B es v,ev = .returned (.tuple #[v,.nilIface])∧Scp B es v w'∧es.length=1:=by
 refine (scopes_of (fun n=>n=1) False w none 0 0 (find_nil a0 a1 a2 w E)).mono ?_
 rintro ev w' ⟨hb,h | h⟩
 ·exact ⟨hb,h⟩
 ·exact h.1.elim
end Go.Proofs.YtemapnogjepokaaGreatDoor

/- Package scope: the law: bare; a scope's cells. -/
namespace Go.Proofs.YtemapnogjepokaaGreatDoor
open Go.RowKit Go.Maps

theorem flat_get {α:Type}(f:α→List Value) (n:Nat) (hf:∀ a,(f a).length=n):∀ (l:List α) (i k:Nat) (a:α),l[i]?=some a→k<n→(l.flatMap f)[i*n+k]?=(f a)[k]?
 | [],i,k,a,h,_=>by simp at h
 | x::l,0,k,a,h,hk=>by
  simp only [List.getElem?_cons_zero,Option.some.injEq] at h
  subst h
  rw [List.flatMap_cons,List.getElem?_append_left (by rw [hf];omega),Nat.zero_mul,Nat.zero_add]
 | x::l,i+1,k,a,h,hk=>by
  simp only [List.getElem?_cons_succ] at h
  have hl:=hf x
  have e:(i+1)*n+k=n+(i*n+k):=by rw [Nat.add_mul];omega
  rw [List.flatMap_cons,e,List.getElem?_append_right (by omega),hl,Nat.add_sub_cancel_left]
  exact flat_get f n hf l i k a h hk
theorem SC.cells {B:Nat}{es:List ScE}{v:Value}{w:World}(h:SC B es v w) (hpos:0<es.length):∃ g cap,v = .slice (some ⟨g,0,none⟩) es.length cap∧g<w.heap.size ∧ ∀ (i:Nat) (e:ScE),es[i]?=some e → ∀ k u,(scC e)[k]?=some u→w.cell? ⟨g,i*6+k,none⟩=some u:=by
 rcases h.row.2 with ⟨_,h0⟩ | ⟨g,cap,cur,rfl,_,hg,_,_,_,htk⟩
 ·omega
 ·refine ⟨g,cap,rfl,lt_of_heap hg,fun i e hi k u hu => ?_⟩
  have hk:k<6:=(List.getElem?_eq_some_iff.1 hu).1
  have hil:=(List.getElem?_eq_some_iff.1 hi).1
  rw [cell_of_row w g _ cur _ _ hg,←Array.getElem?_toList]
  have e2:(cur.toList.take (es.length*6))[i*6+k]?=(es.flatMap scC)[i*6+k]?:=by rw [htk]
  rw [List.getElem?_take,if_pos (by omega)] at e2
  rw [e2,flat_get scC 6 (fun _=>rfl) es i k e hi hk]
  exact hu
set_option maxHeartbeats 8000000 in
set_option maxRecDepth 100000 in
theorem bare_any (a0 a1 a2:Addr) (w:World) (E:TwEnv w.heap.size a0 a1 a2 w):Calls Tryz.prog 4 #[] w fun ev w'=>ev = .returned (.bool true)∧Below w.heap.size w w':=by
 have HS:=toHid (scopes_nil a0 a1 a2 w E)
 clear E
 go_enter Tryz.func4,Tryz.ntmps4
 go_wp2_with fail
 refine HS.out.mono ?_
 rintro ev w1 ⟨hb1,B,es,v,rfl,hsc,hl⟩
 obtain ⟨g,cap,rfl,hg,hc⟩:=hsc.sc.cells hsc.pos
 obtain ⟨e,he⟩:∃ e,es[0]?=some e:=⟨es[0]'hsc.pos,by simp⟩
 have har:=(hsc.ar 0 e he).1 rfl
 have c1:=hc 0 e he 1 (.int .i64 e.x.ar) rfl
 rw [har] at c1
 have HB:=toHid hb1
 clear hc hsc hb1 he har HS
 go_wp2_with fail
 go_ret
 exact ⟨rfl,HB.out⟩
end Go.Proofs.YtemapnogjepokaaGreatDoor

/- Package scope: the law: names that a row has. -/
namespace Go.Proofs.YtemapnogjepokaaGreatDoor
open Go.RowKit Go.Maps

theorem same_bytes {a b:ByteArray}(h:(a.toList == b.toList)=true):a=b:=by
 rw [beq_iff_eq] at h
 have e:=h
 rw [toList_data,toList_data] at e
 exact WideShapes.bytes_inj e
set_option maxHeartbeats 4000000 in
set_option maxRecDepth 100000 in
theorem sindex_any {B:Nat}{w:World}{v:Value}{xs:List ByteArray}(h:w.ownsRow B 9 1 v xs.length (xs.map Value.string)) (hx:xs.length≤5000000000000) (t:ByteArray):Calls Tryz.prog 14 #[v,.string t] w fun ev w'=>w'=w ∧ ∃ i:Int,ev = .returned (.int .i64 i)∧(0≤i ↔ t∈xs):=by
 obtain ⟨va,vc,rfl⟩:=row_shape h
 have HR:=toHid h
 clear h
 go_enter Tryz.func14,Tryz.ntmps14
 go_wp2_with fail
 go_loopg [5] (xs.length+1) (fun gk v5 wr => ∃ k:Nat,gk=xs.length+1 - k∧k≤xs.length∧v5 = .int .i64 (k:Int)∧wr=w∧t ∉ xs.take k)
 case atStart=>exact ⟨0,rfl,Nat.zero_le _,rfl,rfl,by simp⟩
 case round =>
  obtain ⟨k,hgk,hk,rfl,rfl,hno⟩:=hrel
  have HG:=toHid hgk
  have HNO:=toHid hno
  have hk0:(0:Int)≤(k:Int):=by omega
  clear hgk hno
  by_cases hlt:k<xs.length
  ·have hI:(k:Int)<(xs.length:Int):=by omega
   obtain ⟨s,hs⟩:∃ s,xs[k]?=some s:=⟨xs[k],by simp [hlt]⟩
   obtain ⟨g,rfl,_,cs⟩:=row_cell HR.out rfl hs
   have hgl:=lt_of_cell cs
   have HS:=toHid hs
   clear hs
   cases he:(s.toList == t.toList)
   ·go_wp2_with fail
    go_roundg (xs.length+1 - (k+1))
    case measure=>have:=HG.out;omega
    case rel =>
     refine ⟨k+1,rfl,by omega,by go_num,rfl,fun hm => ?_⟩
     rw [List.take_add_one,HS.out,List.mem_append] at hm
     rcases hm with hm | hm
     ·exact HNO.out hm
     ·simp only [Option.toList,List.mem_singleton] at hm
      rw [hm] at he
      simp at he
   ·go_wp2_with fail
    go_ret
    refine ⟨rfl,_,rfl,fun _ => ?_,fun _=>hk0⟩
    rw [←same_bytes he]
    exact List.mem_of_getElem? HS.out
  ·obtain rfl:k=xs.length:=by omega
   have hI:¬ (xs.length:Int)<(xs.length:Int):=by omega
   go_wp2_with fail
   go_ret
   refine ⟨rfl,-1,rfl,fun h=>by omega,fun h => ?_⟩
   have:=HNO.out
   rw [List.take_length] at this
   exact absurd h this
theorem shas_any {B:Nat}{w:World}{v:Value}{xs:List ByteArray}(h:w.ownsRow B 9 1 v xs.length (xs.map Value.string)) (hx:xs.length≤5000000000000) (t:ByteArray):Calls Tryz.prog 8 #[v,.string t] w fun ev w'=>w'=w ∧ ∃ b:Bool,ev = .returned (.bool b)∧(b=true ↔ t∈xs):=by
 have HI:=toHid (sindex_any h hx t)
 clear h
 go_enter Tryz.func8,Tryz.ntmps8
 go_wp2_with fail
 refine HI.out.mono ?_
 rintro ev w1 ⟨rfl,i,rfl,hi⟩
 go_wp2_with fail
 go_ret
 exact ⟨rfl,_,rfl,by rw [←hi];simp⟩
end Go.Proofs.YtemapnogjepokaaGreatDoor
