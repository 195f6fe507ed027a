/- Package tree: terms' closure goes on. -/
import Derived.Test.YtpcjcgkpjapbpaaGreatDoorTtH
set_option linter.all false
namespace Go.Proofs.YtpcjcgkpjapbpaaGreatDoor
open Go.RowKit

def pTermStep (term:Nat→Out (DataW Unit)) (es:List (DataW Unit)) (k:Nat):Out (List (DataW Unit)):=match term k with
  | .error x=>.error x
  | .ok (e,k')=>.ok (es ++ [e],k')
theorem infoExpr:(Tryz.prog.info? 71).map (fun i=>(i.zero,i.size,i.bytes))=some (some (.agg #[.string ⟨#[]⟩,.int .i64 0,.string ⟨#[]⟩,.slice none 0 0,.slice none 0 0]),5,88):=by kernel_rfl
abbrev zero5:List Value:=[.string ⟨#[]⟩,.int .i64 0,.string ⟨#[]⟩,.slice none 0 0,.slice none 0 0]
theorem zero5_one:∀ u∈zero5,u.oneCell'=true:=by
  intro u hu
  simp at hu
  rcases hu with rfl | rfl | rfl | rfl <;> rfl

theorem term_call {S0:Nat→Prop}{f:FuncId}{args:Array Value}{p g cap:Nat}{rk:Value}{l:List (ByteArray × ByteArray × Nat)}{k bl dp cl cr:Nat}{a0 a1:Addr}{w0 w:World}{es:List (DataW Unit)}{o:Out (DataW Unit)} (h:ReadsE f args p g cap rk l k bl dp a0 a1 o) (C:TermC S0 p g cl cr rk a0 a1 w0 es w) (R:RD w p g cap rk l k bl dp) (E:TErr p a0 a1 w) (W:World) (hb:Below w.heap.size w W) :
    Calls Tryz.prog f args W fun ev w5=>(∃ e k5 op z sx pa pn pc la ln lc,o = .ok (e,k5)∧ev = .returned (.agg #[.string op,.int .i64 z,.string sx,.slice pa pn pc,.slice la ln lc])∧RepE (fun b=>w.heap.size≤b) w5 [.string op,.int .i64 z,.string sx,.slice pa pn pc,.slice la ln lc] e∧RD w5 p g cap rk l k5 bl dp∧Keeps p w w5∧Keeps p W w5∧k<k5∧k5<l.length) ∨
      (∃ y b,o = .error y∧ev = .panicked [{ v:=.iface 58 (.pointer (some ⟨b,0,none⟩)),recovered:=false }]∧faultAt l p a0 a1 w y ev w5):=by
  have hp:=lt_of_heap R.blk
  have hK:=Keeps.of hb (p:=p) (by omega)
  refine (h W (R.more hb) (E.keeps hK) (Old.rk C.ranks (C.old.below hb))).mono ?_
  intro ev w5 hP
  rcases hP.parts with ⟨e5,k5,op5,z5,sx5,pa5,pn5,pc5,la5,ln5,lc5,q5,rfl,hrep5,R5,K5,hk5,hk5l⟩ | ⟨y,b,q5,rfl,hf⟩
  · exact .inl ⟨e5,k5,op5,z5,sx5,pa5,pn5,pc5,la5,ln5,lc5,q5,rfl,hrep5.same (fun _ _ _=>rfl) (fun b h _=>Nat.le_trans hb.size h),R5,hK.trans K5,K5,hk5,hk5l⟩
  · exact .inr ⟨y,b,q5,rfl,faultAt.after hK.below hf⟩

set_option maxHeartbeats 16000000 in
set_option maxRecDepth 100000 in
theorem termsStep_any {S0:Nat→Prop}{p g cap:Nat}{rk:Value}{l:List (ByteArray × ByteArray × Nat)}{bl dp:Nat}{a0 a1:Addr} (cl cr:Nat) (w0:World) (hl:l.length≤100000) (term:Nat→Out (DataW Unit)) (es:List (DataW Unit)) (k:Nat) (hk:k<l.length) (h:ReadsE 72 #[.pointer (some ⟨p,0,none⟩)] p g cap rk l k bl dp a0 a1 (term k)) :
    Steps 144 #[.pointer (some ⟨cl,0,none⟩),.pointer (some ⟨cr,0,none⟩)] p g cap rk l bl dp a0 a1 (fun s k w=>TermC S0 p g cl cr rk a0 a1 w0 s w∧s.length≤k+1) es k (pTermStep term es k):=by
  rintro w R ⟨C,hsk⟩ E
  unfold pTermStep
  generalize term k=o at h ⊢
  refine Calls.mono (R:=fun ev w'=>(∃ e k',o = .ok (e,k')∧ev = .returned (.tuple #[])∧(RD w' p g cap rk l k' bl dp∧TermC S0 p g cl cr rk a0 a1 w0 (es ++ [e]) w'∧Below p w w')∧k<k'∧k'<l.length)∨(∃ y,o = .error y∧faultAt l p a0 a1 w y ev w')) ?_ ?_
  case refine_2 =>
    rintro ev w' (⟨e,k',rfl,rfl,⟨q1,q2,q3⟩,q4,q5⟩ | ⟨y,rfl,q⟩)
    · exact ⟨rfl,q1,⟨q2,by simp;omega⟩,q3,q4,q5⟩
    · exact q
  have hsl:es.length≤100000:=by omega
  obtain ⟨v,cs,hV,hO,hCE,hn1,hn2⟩:=C.l
  have c0:w.cell? ⟨cl,0,none⟩=some v:=by rw [cell_of_row _ _ 0 _ _ _ hV];rfl
  have c1:w.cell? ⟨cr,0,none⟩=some (.pointer (some ⟨p,0,none⟩)):=by rw [cell_of_row _ _ 0 _ _ _ C.r];rfl
  have l0:=lt_of_cell c0
  have l1:=lt_of_cell c1
  have hcp:cl≠p:=by have:=C.hc;have:=C.hp;omega
  obtain ⟨i0,hi,hz0,hz1,hz2⟩:=info_parts infoExpr
  have Hi:=toHid hi
  have HN:=toHid (term_call h C R E)
  have HC:=toHid C
  have HO:=toHid hO
  have HV:=toHid hV
  have HCE:=toHid hCE
  obtain ⟨pa,pc,rfl⟩:∃ pa pc,v = .slice pa es.length pc:=by
    rcases hO.2 with ⟨e,h0⟩ | ⟨g',c',cur,e,_⟩
    · exact ⟨none,0,by rw [h0];exact e⟩
    · exact ⟨_,_,e⟩
  have hbd:Below w.heap.size w w.drew:=(Below.refl _ _).drew
  have hpw:=HC.out.hp
  have hcw:=HC.out.hc
  have hsw:=HC.out.old.size
  have HO5:Hid (∀ w5,Keeps p w w5→w5.ownsRow w0.heap.size 71 5 (.slice pa es.length pc) es.length cs∧w5.heap[cl]?=some (.cells #[.slice pa es.length pc] 37)):=fun w5 K =>
    ⟨ownsRow_far' HO.out (fun k hk=>K.block k (by have:=own_ge HO.out k hk;omega) (own_lt HO.out k hk)),(K.block cl hcp l0).trans HV.out⟩
  clear h C hO hV hCE hi R E
  go_enter Tryz.func144,Tryz.ntmps144
  go_wp2_with fail
  go_region_law (first
    | (go_simp;go_at_call 72;refine (HN.out _ (by first | exact hbd | exact hbd.alloc (Nat.le_refl _) _ | exact ((Below.refl _ _).alloc (Nat.le_refl _) _).drew)).mono ?_;rintro ev w5 (⟨e5,k5,op5,z5,sx5,pa5,pn5,pc5,la5,ln5,lc5,q5,rfl,hrep5,R5,K5,KW,hk5,hk5l⟩ | ⟨y,b,q5,rfl,hf⟩);rotate_left;exact ⟨rfl,Or.inr ⟨y,q5,hf⟩⟩;have e5c:w5.cell? ⟨cl,0,none⟩=some (.slice pa es.length pc):=K5.cell hcp c0;have e5l:=lt_of_cell e5c;have s5:=K5.below.size;have HQ:=toHid q5;have HRP:=toHid hrep5;have HR:=toHid R5;have HK:=toHid K5;have HKW:=toHid KW;clear q5 hrep5 R5 K5 KW)
    | (refine step_append_lies _ (by rfl) _ _ _ (by rfl) w0.heap.size 71 i0 _ 5 88 Tryz.underlying37 Hi.out hz0 hz1 hz2 rfl (by decide) (.slice pa es.length pc) es.length cs (by rfl) (by first | exact (HO5.out _ HK.out).1 | exact (HO5.out _ HK.out).1.alloc _) _ 1 1 zero5 (by rfl) rfl (by first | exact World.news_of_block (cs:=#[.string ⟨#[]⟩,.int .i64 0,.string ⟨#[]⟩,.slice none 0 0,.slice none 0 0]) (t:=71) (heap_alloc_new _ _) | exact World.news_of_block (cs:=#[.string ⟨#[]⟩,.int .i64 0,.string ⟨#[]⟩,.slice none 0 0,.slice none 0 0]) (t:=71) ((HKW.out.block _ (by simp;omega) (by simp)).trans (heap_alloc_new _ _))) zero5_one (by decide) (by unfold maxLen;omega) (by omega) (by first | omega | (simp;omega)) _ rfl ?_
       intro gn capn w2 hown2 hgrow hat hlt
       have hx1:(0:Int)≤es.length:=(by omega)
       have hx2:(es.length:Int)<es.length+1:=(by omega)
       obtain ⟨hz,hV2,e0,e0f,e0l,hcg⟩:=app_facts hgrow hat (by first | exact Below.refl _ _ | exact (Below.refl _ _).alloc (Nat.le_refl _) _) (HO5.out _ HK.out).2 hn1
       obtain ⟨g0,g1,g2,g3,g4,gf,gl⟩:=own_last5 hown2
       have gf0:=gf (es.length*5)
       have gf1:=gf (es.length*5+1)
       have gf2:=gf (es.length*5+2)
       have gf3:=gf (es.length*5+3)
       have gf4:=gf (es.length*5+4)
       have hgc:=hcg.symm
       have HW2:=toHid hown2
       have HZ:=toHid hz
       have HV2:=toHid hV2
       clear hown2 hgrow hat hz hV2 gf))
  all_goals
    have HWA:=toHid (term_wholeA HC.out HV.out HO.out HCE.out hn1 hn2 HR.out HK.out HRP.out HZ.out HV2.out hcg HW2.out)
    have HWB:=toHid (term_wholeB HC.out HV.out HO.out HCE.out hn1 hn2 HR.out HK.out HRP.out HZ.out HV2.out hcg HW2.out)
    go_end0
    refine Or.inl ⟨e5,k5,HQ.out,rfl,?_,hk5,hk5l⟩
    first | with_reducible exact HWA.out | with_reducible exact HWB.out
end Go.Proofs.YtpcjcgkpjapbpaaGreatDoor
