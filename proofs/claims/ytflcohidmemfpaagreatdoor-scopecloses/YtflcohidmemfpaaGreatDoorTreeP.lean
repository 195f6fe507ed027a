/- Package tree: terms' closure goes on. -/
import Derived.Test.YtflcohidmemfpaaGreatDoorSsH
set_option linter.all false
namespace Go.Proofs.YtflcohidmemfpaaGreatDoor
open Go.Proofs.Tryz
open Go.RowKit

def Z0n (term:Nat→Out (DataW Unit)) (es:List (DataW Unit)) (k:Nat):Out (List (DataW Unit)):=match term k with
  | .error x=>.error x
  | .ok (e,k')=>.ok (es ++ [e],k')
theorem Z93:(prog.info? 72).map (fun i=>(i.zero,i.size,i.bytes))=some (some (.agg #[.string ⟨#[]⟩,.int .i64 0,.string ⟨#[]⟩,.slice none 0 0,.slice none 0 0]),5,88):=by kernel_rfl
abbrev Zum:List Value:=[.string ⟨#[]⟩,.int .i64 0,.string ⟨#[]⟩,.slice none 0 0,.slice none 0 0]
theorem Zb5:∀ u∈Zum,u.oneCell'=true:=by
  intro u hu
  simp at hu
  rcases hu with rfl | rfl | rfl | rfl <;> rfl

theorem Zco {S0:Nat→Prop}{f:FuncId}{args:Array Value}{p g cap:Nat}{rk:Value}{l:List (ByteArray × ByteArray × Nat)}{k bl dp cl cr:Nat}{a0 a1:Addr}{w0 w:World}{es:List (DataW Unit)}{o:Out (DataW Unit)} (h:Z0w f args p g cap rk l k bl dp a0 a1 o) (C:TermC S0 p g cl cr rk a0 a1 w0 es w) (R:RD w p g cap rk l k bl dp) (E:TErr p a0 a1 w) (W:World) (hb:Below w.heap.size w W) :
    Calls prog f args W fun ev w5=>(∃ e k5 op z sx pa pn pc la ln lc,o = .ok (e,k5)∧ev = .returned (.agg #[.string op,.int .i64 z,.string sx,.slice pa pn pc,.slice la ln lc])∧Z2l (fun b=>w.heap.size≤b) w5 [.string op,.int .i64 z,.string sx,.slice pa pn pc,.slice la ln lc] e∧RD w5 p g cap rk l k5 bl dp∧Keeps p w w5∧Keeps p W w5∧k<k5∧k5<l.length) ∨
      (∃ y b,o = .error y∧ev = .panicked [{ v:=.iface 61 (.pointer (some ⟨b,0,none⟩)),recovered:=false }]∧Z04 l p a0 a1 w y ev w5):=by
  have hp:=Z00 R.blk
  have hK:=Keeps.of hb (p:=p) (by omega)
  refine (h W (R.more hb) (E.keeps hK) (Old.rk C.ranks (C.old.below hb))).mono ?_
  intro ev w5 hP
  rcases hP.parts with ⟨e5,k5,op5,z5,sx5,pa5,pn5,pc5,la5,ln5,lc5,q5,rfl,hrep5,R5,K5,hk5,hk5l⟩ | ⟨y,b,q5,rfl,hf⟩
  · exact .inl ⟨e5,k5,op5,z5,sx5,pa5,pn5,pc5,la5,ln5,lc5,q5,rfl,hrep5.same (fun _ _ _=>rfl) (fun b h _=>Nat.le_trans hb.size h),R5,hK.trans K5,K5,hk5,hk5l⟩
  · exact .inr ⟨y,b,q5,rfl,Z04.after hK.below hf⟩

set_option maxHeartbeats 16000000 in
set_option maxRecDepth 100000 in
theorem Zeo {S0:Nat→Prop}{p g cap:Nat}{rk:Value}{l:List (ByteArray × ByteArray × Nat)}{bl dp:Nat}{a0 a1:Addr} (cl cr:Nat) (w0:World) (hl:l.length≤100000) (term:Nat→Out (DataW Unit)) (es:List (DataW Unit)) (k:Nat) (hk:k<l.length) (h:Z0w 112 #[.pointer (some ⟨p,0,none⟩)] p g cap rk l k bl dp a0 a1 (term k)) :
    Zjb 192 #[.pointer (some ⟨cl,0,none⟩),.pointer (some ⟨cr,0,none⟩)] p g cap rk l bl dp a0 a1 (fun s k w=>TermC S0 p g cl cr rk a0 a1 w0 s w∧s.length≤k+1) es k (Z0n term es k):=by
  rintro w R ⟨C,hsk⟩ E
  unfold Z0n
  generalize term k=o at h ⊢
  refine Calls.mono (R:=fun ev w'=>(∃ e k',o = .ok (e,k')∧ev = .returned (.tuple #[])∧(RD w' p g cap rk l k' bl dp∧TermC S0 p g cl cr rk a0 a1 w0 (es ++ [e]) w'∧Below p w w')∧k<k'∧k'<l.length)∨(∃ y,o = .error y∧Z04 l p a0 a1 w y ev w')) ?_ ?_
  case refine_2 =>
    rintro ev w' (⟨e,k',rfl,rfl,⟨q1,q2,q3⟩,q4,q5⟩ | ⟨y,rfl,q⟩)
    · exact ⟨rfl,q1,⟨q2,by simp;omega⟩,q3,q4,q5⟩
    · exact q
  have hsl:es.length≤100000:=by omega
  obtain ⟨v,cs,hV,hO,hCE,hn1,hn2⟩:=C.l
  have c0:w.cell? ⟨cl,0,none⟩=some v:=by rw [cell_of_row _ _ 0 _ _ _ hV];rfl
  have c1:w.cell? ⟨cr,0,none⟩=some (.pointer (some ⟨p,0,none⟩)):=by rw [cell_of_row _ _ 0 _ _ _ C.r];rfl
  have l0:=Z02 c0
  have l1:=Z02 c1
  have hcp:cl≠p:=by have:=C.hc;have:=C.hp;omega
  obtain ⟨i0,hi,hz0,hz1,hz2⟩:=info_parts Z93
  have Hi:=Z01 hi
  have HN:=Z01 (Zco h C R E)
  have HC:=Z01 C
  have HO:=Z01 hO
  have HV:=Z01 hV
  have HCE:=Z01 hCE
  obtain ⟨pa,pc,rfl⟩:∃ pa pc,v = .slice pa es.length pc:=by
    rcases hO.2 with ⟨e,h0⟩ | ⟨g',c',cur,e,_⟩
    · exact ⟨none,0,by rw [h0];exact e⟩
    · exact ⟨_,_,e⟩
  have hbd:Below w.heap.size w w.drew:=(Below.refl _ _).drew
  have hpw:=HC.out.hp
  have hcw:=HC.out.hc
  have hsw:=HC.out.old.size
  have HO5:Hid (∀ w5,Keeps p w w5→w5.ownsRow w0.heap.size 72 5 (.slice pa es.length pc) es.length cs∧w5.heap[cl]?=some (.cells #[.slice pa es.length pc] 49)):=fun w5 K =>
    ⟨Z0j HO.out (fun k hk=>K.block k (by have:=Z20 HO.out k hk;omega) (own_lt HO.out k hk)),(K.block cl hcp l0).trans HV.out⟩
  clear h C hO hV hCE hi R E
  go_enter func192,ntmps192
  go_wp2_with fail
  go_region_law (first
    | (go_simp;go_at_call 112;refine (HN.out _ (by first | exact hbd | exact hbd.alloc (Nat.le_refl _) _ | exact ((Below.refl _ _).alloc (Nat.le_refl _) _).drew)).mono ?_;rintro ev w5 (⟨e5,k5,op5,z5,sx5,pa5,pn5,pc5,la5,ln5,lc5,q5,rfl,hrep5,R5,K5,KW,hk5,hk5l⟩ | ⟨y,b,q5,rfl,hf⟩);rotate_left;exact ⟨rfl,Or.inr ⟨y,q5,hf⟩⟩;have e5c:w5.cell? ⟨cl,0,none⟩=some (.slice pa es.length pc):=K5.cell hcp c0;have e5l:=Z02 e5c;have s5:=K5.below.size;have HQ:=Z01 q5;have HRP:=Z01 hrep5;have HR:=Z01 R5;have HK:=Z01 K5;have HKW:=Z01 KW;clear q5 hrep5 R5 K5 KW)
    | (refine step_append_lies _ (by rfl) _ _ _ (by rfl) w0.heap.size 72 i0 _ 5 88 underlying49 Hi.out hz0 hz1 hz2 rfl (by decide) (.slice pa es.length pc) es.length cs (by rfl) (by first | exact (HO5.out _ HK.out).1 | exact (HO5.out _ HK.out).1.alloc _) _ 1 1 Zum (by rfl) rfl (by first | exact World.news_of_block (cs:=#[.string ⟨#[]⟩,.int .i64 0,.string ⟨#[]⟩,.slice none 0 0,.slice none 0 0]) (t:=72) (heap_alloc_new _ _) | exact World.news_of_block (cs:=#[.string ⟨#[]⟩,.int .i64 0,.string ⟨#[]⟩,.slice none 0 0,.slice none 0 0]) (t:=72) ((HKW.out.block _ (by simp;omega) (by simp)).trans (heap_alloc_new _ _))) Zb5 (by decide) (by unfold maxLen;omega) (by omega) (by first | omega | (simp;omega)) _ rfl ?_
       intro gn capn w2 hown2 hgrow hat hlt
       have hx1:(0:Int)≤es.length:=(by omega)
       have hx2:(es.length:Int)<es.length+1:=(by omega)
       obtain ⟨hz,hV2,e0,e0f,e0l,hcg⟩:=Zcx hgrow hat (by first | exact Below.refl _ _ | exact (Below.refl _ _).alloc (Nat.le_refl _) _) (HO5.out _ HK.out).2 hn1
       obtain ⟨g0,g1,g2,g3,g4,gf,gl⟩:=Zc3 hown2
       have gf0:=gf (es.length*5)
       have gf1:=gf (es.length*5+1)
       have gf2:=gf (es.length*5+2)
       have gf3:=gf (es.length*5+3)
       have gf4:=gf (es.length*5+4)
       have hgc:=hcg.symm
       have HW2:=Z01 hown2
       have HZ:=Z01 hz
       have HV2:=Z01 hV2
       clear hown2 hgrow hat hz hV2 gf))
  all_goals
    have HWA:=Z01 (Z82 HC.out HV.out HO.out HCE.out hn1 hn2 HR.out HK.out HRP.out HZ.out HV2.out hcg HW2.out)
    have HWB:=Z01 (Z88 HC.out HV.out HO.out HCE.out hn1 hn2 HR.out HK.out HRP.out HZ.out HV2.out hcg HW2.out)
    go_end0
    refine Or.inl ⟨e5,k5,HQ.out,rfl,?_,hk5,hk5l⟩
    first | with_reducible exact HWA.out | with_reducible exact HWB.out
end Go.Proofs.YtflcohidmemfpaaGreatDoor
