/- Package tree: terms' closure goes on. -/
import Derived.Test.YtemapnogjepokaaGreatDoorTreeLToTreeO
namespace Go.Proofs.YtemapnogjepokaaGreatDoor
open Go.RowKit

def pTermStep (term:Nat→Out (DataW Unit)) (es:List (DataW Unit)) (k:Nat):Out (List (DataW Unit)):=match term k with
  | .error x=>.error x
  | .ok (e,k')=>.ok (es ++ [e],k')
theorem infoExpr:(Tryz.prog.info? 72).map (fun i=>(i.zero,i.size,i.bytes))=some (some (.agg #[.string ⟨#[]⟩,.int .i64 0,.string ⟨#[]⟩,.slice none 0 0,.slice none 0 0]),5,88):=by kernel_rfl
abbrev zero5:List Value:=[.string ⟨#[]⟩,.int .i64 0,.string ⟨#[]⟩,.slice none 0 0,.slice none 0 0]
theorem zero5_one:∀ u∈zero5,u.oneCell'=true:=by
  intro u hu
  simp at hu
  rcases hu with rfl | rfl | rfl | rfl <;> rfl

theorem term_call {S0:Nat→Prop}{f:FuncId}{args:Array Value}{p g cap:Nat}{rk:Value}{l:List (ByteArray × ByteArray × Nat)}{k bl dp cl cr:Nat}{a0 a1:Addr}{w0 w:World}{es:List (DataW Unit)}{o:Out (DataW Unit)}(h:ReadsE f args p g cap rk l k bl dp a0 a1 o) (C:TermC S0 p g cl cr rk a0 a1 w0 es w) (R:RD w p g cap rk l k bl dp) (E:TErr p a0 a1 w) (W:World) (hb:Below w.heap.size w W) :
    Calls Tryz.prog f args W fun ev w5=>(∃ e k5 op z sx pa pn pc la ln lc,o = .ok (e,k5)∧ev = .returned (.agg #[.string op,.int .i64 z,.string sx,.slice pa pn pc,.slice la ln lc])∧RepE (fun b=>w.heap.size≤b) w5 [.string op,.int .i64 z,.string sx,.slice pa pn pc,.slice la ln lc] e∧RD w5 p g cap rk l k5 bl dp∧Keeps p w w5∧Keeps p W w5∧k<k5∧k5<l.length) ∨
      (∃ y b,o = .error y∧ev = .panicked [{ v:=.iface 61 (.pointer (some ⟨b,0,none⟩)),recovered:=false }]∧faultAt l p a0 a1 w y ev w5):=by
  have hp:=lt_of_heap R.blk
  have hK:=Keeps.of hb (p:=p) (by omega)
  refine (h W (R.more hb) (E.keeps hK) (Old.rk C.ranks (C.old.below hb))).mono ?_
  intro ev w5 hP
  rcases hP.parts with ⟨e5,k5,op5,z5,sx5,pa5,pn5,pc5,la5,ln5,lc5,q5,rfl,hrep5,R5,K5,hk5,hk5l⟩ | ⟨y,b,q5,rfl,hf⟩
  · exact .inl ⟨e5,k5,op5,z5,sx5,pa5,pn5,pc5,la5,ln5,lc5,q5,rfl,hrep5.same (fun _ _ _=>rfl) (fun b h _=>Nat.le_trans hb.size h),R5,hK.trans K5,K5,hk5,hk5l⟩
  · exact .inr ⟨y,b,q5,rfl,faultAt.after hK.below hf⟩

set_option maxHeartbeats 16000000 in
set_option maxRecDepth 100000 in
theorem termsStep_any {S0:Nat→Prop}{p g cap:Nat}{rk:Value}{l:List (ByteArray × ByteArray × Nat)}{bl dp:Nat}{a0 a1:Addr}(cl cr:Nat) (w0:World) (hl:l.length≤100000) (term:Nat→Out (DataW Unit)) (es:List (DataW Unit)) (k:Nat) (hk:k<l.length) (h:ReadsE 112 #[.pointer (some ⟨p,0,none⟩)] p g cap rk l k bl dp a0 a1 (term k)) :
    Steps 192 #[.pointer (some ⟨cl,0,none⟩),.pointer (some ⟨cr,0,none⟩)] p g cap rk l bl dp a0 a1 (fun s k w=>TermC S0 p g cl cr rk a0 a1 w0 s w∧s.length≤k+1) es k (pTermStep term es k):=by
  rintro w R ⟨C,hsk⟩ E
  unfold pTermStep
  generalize term k=o at h ⊢
  refine Calls.mono (R:=fun ev w'=>(∃ e k',o = .ok (e,k')∧ev = .returned (.tuple #[])∧(RD w' p g cap rk l k' bl dp∧TermC S0 p g cl cr rk a0 a1 w0 (es ++ [e]) w'∧Below p w w')∧k<k'∧k'<l.length)∨(∃ y,o = .error y∧faultAt l p a0 a1 w y ev w')) ?_ ?_
  case refine_2 =>
    rintro ev w' (⟨e,k',rfl,rfl,⟨q1,q2,q3⟩,q4,q5⟩ | ⟨y,rfl,q⟩)
    · exact ⟨rfl,q1,⟨q2,by simp;omega⟩,q3,q4,q5⟩
    · exact q
  have hsl:es.length≤100000:=by omega
  obtain ⟨v,cs,hV,hO,hCE,hn1,hn2⟩:=C.l
  have c0:w.cell? ⟨cl,0,none⟩=some v:=by rw [cell_of_row _ _ 0 _ _ _ hV];rfl
  have c1:w.cell? ⟨cr,0,none⟩=some (.pointer (some ⟨p,0,none⟩)):=by rw [cell_of_row _ _ 0 _ _ _ C.r];rfl
  have l0:=lt_of_cell c0
  have l1:=lt_of_cell c1
  have hcp:cl≠p:=by have:=C.hc;have:=C.hp;omega
  obtain ⟨i0,hi,hz0,hz1,hz2⟩:=info_parts infoExpr
  have Hi:=toHid hi
  have HN:=toHid (term_call h C R E)
  have HC:=toHid C
  have HO:=toHid hO
  have HV:=toHid hV
  have HCE:=toHid hCE
  obtain ⟨pa,pc,rfl⟩:∃ pa pc,v = .slice pa es.length pc:=by
    rcases hO.2 with ⟨e,h0⟩ | ⟨g',c',cur,e,_⟩
    · exact ⟨none,0,by rw [h0];exact e⟩
    · exact ⟨_,_,e⟩
  have hbd:Below w.heap.size w w.drew:=(Below.refl _ _).drew
  have hpw:=HC.out.hp
  have hcw:=HC.out.hc
  have hsw:=HC.out.old.size
  have HO5:Hid (∀ w5,Keeps p w w5→w5.ownsRow w0.heap.size 72 5 (.slice pa es.length pc) es.length cs∧w5.heap[cl]?=some (.cells #[.slice pa es.length pc] 49)):=fun w5 K =>
    ⟨ownsRow_far' HO.out (fun k hk=>K.block k (by have:=own_ge HO.out k hk;omega) (own_lt HO.out k hk)),(K.block cl hcp l0).trans HV.out⟩
  clear h C hO hV hCE hi R E
  go_enter Tryz.func192,Tryz.ntmps192
  go_wp2_with fail
  go_region_law (first
    | (go_simp;go_at_call 112;refine (HN.out _ (by first | exact hbd | exact hbd.alloc (Nat.le_refl _) _ | exact ((Below.refl _ _).alloc (Nat.le_refl _) _).drew)).mono ?_;rintro ev w5 (⟨e5,k5,op5,z5,sx5,pa5,pn5,pc5,la5,ln5,lc5,q5,rfl,hrep5,R5,K5,KW,hk5,hk5l⟩ | ⟨y,b,q5,rfl,hf⟩);rotate_left;exact ⟨rfl,Or.inr ⟨y,q5,hf⟩⟩;have e5c:w5.cell? ⟨cl,0,none⟩=some (.slice pa es.length pc):=K5.cell hcp c0;have e5l:=lt_of_cell e5c;have s5:=K5.below.size;have HQ:=toHid q5;have HRP:=toHid hrep5;have HR:=toHid R5;have HK:=toHid K5;have HKW:=toHid KW;clear q5 hrep5 R5 K5 KW)
    | (refine step_append_lies _ (by rfl) _ _ _ (by rfl) w0.heap.size 72 i0 _ 5 88 Tryz.underlying49 Hi.out hz0 hz1 hz2 rfl (by decide) (.slice pa es.length pc) es.length cs (by rfl) (by first | exact (HO5.out _ HK.out).1 | exact (HO5.out _ HK.out).1.alloc _) _ 1 1 zero5 (by rfl) rfl (by first | exact World.news_of_block (cs:=#[.string ⟨#[]⟩,.int .i64 0,.string ⟨#[]⟩,.slice none 0 0,.slice none 0 0]) (t:=72) (heap_alloc_new _ _) | exact World.news_of_block (cs:=#[.string ⟨#[]⟩,.int .i64 0,.string ⟨#[]⟩,.slice none 0 0,.slice none 0 0]) (t:=72) ((HKW.out.block _ (by simp;omega) (by simp)).trans (heap_alloc_new _ _))) zero5_one (by decide) (by unfold maxLen;omega) (by omega) (by first | omega | (simp;omega)) _ rfl ?_
       intro gn capn w2 hown2 hgrow hat hlt
       have hx1:(0:Int)≤es.length:=(by omega)
       have hx2:(es.length:Int)<es.length+1:=(by omega)
       obtain ⟨hz,hV2,e0,e0f,e0l,hcg⟩:=app_facts hgrow hat (by first | exact Below.refl _ _ | exact (Below.refl _ _).alloc (Nat.le_refl _) _) (HO5.out _ HK.out).2 hn1
       obtain ⟨g0,g1,g2,g3,g4,gf,gl⟩:=own_last5 hown2
       have gf0:=gf (es.length*5)
       have gf1:=gf (es.length*5+1)
       have gf2:=gf (es.length*5+2)
       have gf3:=gf (es.length*5+3)
       have gf4:=gf (es.length*5+4)
       have hgc:=hcg.symm
       have HW2:=toHid hown2
       have HZ:=toHid hz
       have HV2:=toHid hV2
       clear hown2 hgrow hat hz hV2 gf))
  all_goals
    have HWA:=toHid (term_wholeA HC.out HV.out HO.out HCE.out hn1 hn2 HR.out HK.out HRP.out HZ.out HV2.out hcg HW2.out)
    have HWB:=toHid (term_wholeB HC.out HV.out HO.out HCE.out hn1 hn2 HR.out HK.out HRP.out HZ.out HV2.out hcg HW2.out)
    go_end0
    refine Or.inl ⟨e5,k5,HQ.out,rfl,?_,hk5,hk5l⟩
    first | with_reducible exact HWA.out | with_reducible exact HWB.out
end Go.Proofs.YtemapnogjepokaaGreatDoor

/- Package tree: terms. -/
namespace Go.Proofs.YtemapnogjepokaaGreatDoor
open Go.RowKit

theorem repL_row {S S':Nat→Prop}{w:World}{base:Nat}{la:Option Addr}{lc:Nat}{cs:List Value}{es:List (DataW Unit)}(hO:w.ownsRow base 72 5 (.slice la es.length lc) es.length cs) (hCE:CellsE S w cs es) (hS:∀ b,S b→S' b) (hB:∀ b,base≤b→S' b):RepL S' w la es:=by
 intro h0
 obtain ⟨hl,⟨e1,e2⟩ | ⟨g',cap',cur,e1,hb,hg,h1,h2,h3,h4⟩⟩:=hO
 ·omega
 ·simp at e1
  obtain ⟨rfl,rfl⟩:=e1
  refine ⟨g',0,rfl,hB _ hb,fun i e hi => ?_⟩
  obtain ⟨c0,c1,c2,c3,c4,q0,q1,q2,q3,q4,hr⟩:=hCE.2 i e hi
  have hi':=(List.getElem?_eq_some_iff.1 hi).1
  have hc:∀ j v,cs[j]?=some v→j<es.length*5→w.cell? ⟨g',j,none⟩=some v:=fun j v hj hlt=>by
   rw [cell_of_row w g' _ _ _ _ hg]
   rw [←h4,List.getElem?_take_of_lt hlt] at hj
   simpa using hj
  refine ⟨c0,c1,c2,c3,c4,?_,?_,?_,?_,?_,hr.same (fun _ _ _=>rfl) (fun b h _=>hS b h)⟩ <;> rw [Nat.zero_add] <;> exact hc _ _ (by assumption) (by omega)

theorem own_cap {w:World}{base n lc:Nat}{la:Option Addr}{xs:List Value}(hO:w.ownsRow base 72 5 (.slice la n lc) n xs):n≤lc:=by
 obtain ⟨_,⟨e1,e2⟩ | ⟨g',cap',cur,e1,_,_,h1,_⟩⟩:=hO
 ·omega
 ·simp at e1
  omega

def tStart (w:World) (p:Nat) (v:Value):World:=(w.alloc (.cells #[.pointer (some ⟨p,0,none⟩)] 119)).alloc (.cells #[v] 49)
theorem tStart_below (w:World) (p:Nat) (v:Value):Below w.heap.size w (tStart w p v):=((Below.refl _ _).alloc (Nat.le_refl _) _).alloc (by simp) _
theorem tStart_r (w:World) (p:Nat) (v:Value):(tStart w p v).heap[w.heap.size]?=some (.cells #[.pointer (some ⟨p,0,none⟩)] 119):=
 (Below.heap_alloc _ _ _ (by simp)).trans (heap_alloc_new w _)
theorem tStart_l (w:World) (p:Nat) (v:Value):(tStart w p v).heap[w.heap.size+1]?=some (.cells #[v] 49):=by
 have:=heap_alloc_new (w.alloc (.cells #[.pointer (some ⟨p,0,none⟩)] 119)) (.cells #[v] 49)
 simpa [tStart] using this
theorem tStart_C {S0:Nat→Prop}{p g:Nat}{rk:Value}{a0 a1:Addr}{w0 w:World}{v:Value}{cs:List Value}{es:List (DataW Unit)}(K0:Keeps p w0 w) (E:TErr p a0 a1 w0) (X:RK p rk w0) (hp:p<w0.heap.size) (hg:g<w0.heap.size) (hO:w.ownsRow w0.heap.size 72 5 v es.length cs) (hCE:CellsE (fun b=>S0 b∨(w0.heap.size≤b∧v.ownBlock≠some b)) w cs es) (hs0:∀ b,S0 b→b<w0.heap.size∧b≠p) :
  TermC S0 p g (w.heap.size+1) w.heap.size rk a0 a1 w0 es (tStart w p v):=by
 have hsz:=K0.below.size
 have hb:=tStart_below w p v
 refine ⟨⟨v,cs,tStart_l w p v,ownsRow_far' hO (fun k hk=>hb.block k (own_lt hO k hk)),hCE.same (same_below hb) (fun b h hl => ?_),fun h=>by have:=own_lt hO _ h;omega,fun h=>by have:=own_lt hO _ h;omega⟩,tStart_r w p v,(Old.below ⟨hsz,fun k hk hl=>K0.block k hk hl⟩ hb),E,X,hp,hg,by omega,by omega,by omega,hs0⟩
 rcases h with h | ⟨h1,h2⟩
 ·exact .inl h
 ·exact .inr ⟨h1,by omega,by omega,h2⟩

set_option maxHeartbeats 2000000 in
set_option maxRecDepth 100000 in
theorem terms_any {S0:Nat→Prop}{p g cap:Nat}{rk:Value}{l:List (ByteArray × ByteArray × Nat)}{k bl dp:Nat}{a0 a1:Addr}(closing:ByteArray) (hl:l.length≤100000) (hen:Ended l) (hk:k<l.length) (term:Nat→Out (DataW Unit))
  (hterm:∀ k',k≤k'→k'<l.length→ReadsE 112 #[.pointer (some ⟨p,0,none⟩)] p g cap rk l k' bl dp a0 a1 (term k')) (w0 w:World) (v:Value) (cs:List Value) (es:List (DataW Unit)) (R:RD w p g cap rk l k bl dp) (K0:Keeps p w0 w) (E:TErr p a0 a1 w0) (X:RK p rk w0) (hp:p<w0.heap.size) (hg:g<w0.heap.size)
  (hO:w.ownsRow w0.heap.size 72 5 v es.length cs) (hCE:CellsE (fun b=>S0 b∨(w0.heap.size≤b∧v.ownBlock≠some b)) w cs es) (hs0:∀ b,S0 b→b<w0.heap.size∧b≠p) (hlen:es.length≤k+1) :
  Calls Tryz.prog 174 #[.pointer (some ⟨p,0,none⟩),.string closing,v] w fun ev w'=>PostL (fun b=>S0 b∨w0.heap.size≤b) p g cap rk l k bl dp a0 a1 w0 (pUpTo l (pTermStep term) closing l.length es k) ev w':=by
 obtain ⟨pa,pc,rfl⟩:∃ pa pc,v = .slice pa es.length pc:=by
  rcases hO.2 with ⟨e,h0⟩ | ⟨g',c',cur,e,_⟩
  ·exact ⟨none,0,by rw [h0];exact e⟩
  ·exact ⟨_,_,e⟩
 have hb:=tStart_below w p (.slice pa es.length pc)
 have hpl:=lt_of_heap R.blk
 have HU:=toHid (upTo_any 192 #[.pointer (some ⟨w.heap.size+1,0,none⟩),.pointer (some ⟨w.heap.size,0,none⟩)] (fun _ _=>rfl) (fun s k w'=>TermC S0 p g (w.heap.size+1) w.heap.size rk a0 a1 w0 s w'∧s.length≤k+1) (fun s k k' w1 w2 h1 h2 h3=>⟨h2.1.keeps h3,by have:=h2.2;omega⟩) (pTermStep term) k (fun s k' hk1 hk2=>termsStep_any _ _ _ hl term s k' hk2 (hterm k' hk1 hk2)) hl hen closing es k l.length (Nat.le_refl _) hk (by omega) (tStart w p (.slice pa es.length pc)) (R.more hb) ⟨tStart_C K0 E X hp hg hO hCE hs0,hlen⟩ ((E.keeps K0).below (hb.mono (by omega))))
 have hbp:Below p w0 (tStart w p (.slice pa es.length pc)):=K0.below.trans (hb.mono (by omega))
 obtain ⟨o,ho⟩:∃ o,pUpTo l (pTermStep term) closing l.length es k=o:=⟨_,rfl⟩
 rw [ho] at HU ⊢
 clear R E X hO hCE hs0 hterm ho
 go_enter Tryz.func174,Tryz.ntmps174
 go_wp2_with fail
 refine HU.out.mono ?_
 intro ev w1 hP
 cases o with
 | error y =>
  obtain ⟨t,g1,b,rfl,g2⟩:=hP
  have HF:Hid (faultAt l p a0 a1 w0 y (.panicked [{ v:=.iface 61 (.pointer (some ⟨b,0,none⟩)),recovered:=false }]) w1):=faultAt.after hbp ⟨t,g1,b,rfl,g2⟩
  clear g1 g2 HU hbp
  go_wp2_with fail
  exact ⟨rfl,HF.out⟩
 | ok y =>
  obtain ⟨es1,k1⟩:=y
  obtain ⟨rfl,R1,⟨C1,_⟩,hb1,hk1,hk1l⟩:=hP
  obtain ⟨v1,cs1,hV,hO,hCE,hn1,hn2⟩:=C1.l
  have c0:w1.cell? ⟨w.heap.size+1,0,none⟩=some v1:=by rw [cell_of_row _ _ 0 _ _ _ hV];rfl
  have l0:=lt_of_cell c0
  obtain ⟨la,lc,rfl⟩:∃ la lc,v1 = .slice la es1.length lc:=by
   rcases hO.2 with ⟨e,h0⟩ | ⟨g',c',cur,e,_⟩
   ·exact ⟨none,0,by rw [h0];exact e⟩
   ·exact ⟨_,_,e⟩
  have HF:Hid (RepL (fun b=>S0 b∨w0.heap.size≤b) w1 la es1∧RD w1 p g cap rk l k1 bl dp∧Keeps p w0 w1):=⟨repL_row hO hCE (fun b h=>h.imp id (fun h=>h.1)) (fun b h=>.inr h),R1,hbp.trans hb1,C1.old.block⟩
  have hcap:=own_cap hO
  clear R1 C1 hO hCE hV hb1 HU hbp
  go_wp2_with fail
  go_ret
  exact ⟨_,_,rfl,HF.out.1,HF.out.2.1,HF.out.2.2,hk1,hk1l,hcap⟩
end Go.Proofs.YtemapnogjepokaaGreatDoor
