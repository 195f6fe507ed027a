/- Package tree: pairs (written by tools/tree/pairs.py). -/
import Derived.Test.YtflcohidmemfpaaGreatDoorSsI
set_option linter.all false
namespace Go.Proofs.YtflcohidmemfpaaGreatDoor
open Go.Proofs.Tryz
open Go.RowKit

def Z13 (l:List (ByteArray × ByteArray × Nat)) (term:Nat→Out (DataW Unit)) (es:List (DataW Unit)) (k:Nat):Out (List (DataW Unit)):=match Z1c l Z4a (term k) with
  | .error x=>.error x
  | .ok (e,k')=>match term k' with
    | .error x=>.error x
    | .ok (e2,k2)=>.ok (es ++ [e,e2],k2)

theorem Zdt {S0:Nat→Prop}{p g cl cr:Nat}{rk:Value}{a0 a1:Addr}{w0:World}{es:List (DataW Unit)}{w:World} (C:TermC S0 p g cl cr rk a0 a1 w0 es w) :
    ∃ pa pc cs,w.cell? ⟨cl,0,none⟩=some (.slice pa es.length pc)∧w.cell? ⟨cr,0,none⟩=some (.pointer (some ⟨p,0,none⟩))∧cl<w.heap.size∧cr<w.heap.size∧cl≠p∧(Value.slice pa es.length pc).ownBlock≠some cl∧Below w.heap.size w w.drew∧p<w0.heap.size∧w0.heap.size≤cl∧w0.heap.size≤w.heap.size ∧
      Hid (∀ w5,Keeps p w w5→w5.ownsRow w0.heap.size 72 5 (.slice pa es.length pc) es.length cs∧w5.heap[cl]?=some (.cells #[.slice pa es.length pc] 49))∧Hid (w.heap[cl]?=some (.cells #[.slice pa es.length pc] 49))∧Hid (w.ownsRow w0.heap.size 72 5 (.slice pa es.length pc) es.length cs) ∧
      Hid (Z2j (fun b=>S0 b∨(w0.heap.size≤b∧b≠cl∧b≠cr∧(Value.slice pa es.length pc).ownBlock≠some b)) w cs es)∧(Value.slice pa es.length pc).ownBlock≠some cr:=by
  obtain ⟨v,cs,hV,hO,hCE,hn1,hn2⟩:=C.l
  have c0:w.cell? ⟨cl,0,none⟩=some v:=by rw [cell_of_row _ _ 0 _ _ _ hV];rfl
  have c1:w.cell? ⟨cr,0,none⟩=some (.pointer (some ⟨p,0,none⟩)):=by rw [cell_of_row _ _ 0 _ _ _ C.r];rfl
  have hc:=C.hc
  have hp:=C.hp
  obtain ⟨pa,pc,rfl⟩:∃ pa pc,v = .slice pa es.length pc:=by
    rcases hO.2 with ⟨e,h0⟩ | ⟨g',c',cur,e,_⟩
    · exact ⟨none,0,by rw [h0];exact e⟩
    · exact ⟨_,_,e⟩
  exact ⟨pa,pc,cs,c0,c1,Z02 c0,Z02 c1,by omega,hn1,(Below.refl _ _).drew,hp,hc,C.old.size,fun w5 K =>
    ⟨Z0j hO (fun k hk=>K.block k (by have:=Z20 hO k hk;omega) (own_lt hO k hk)),(K.block cl (by omega) (Z00 hV)).trans hV⟩,hV,hO,hCE,hn2⟩

set_option maxHeartbeats 8000000 in
set_option maxRecDepth 100000 in
theorem Zfc {S0:Nat→Prop}{p g cap:Nat}{rk:Value}{l:List (ByteArray × ByteArray × Nat)}{bl dp:Nat}{a0 a1:Addr} (cl cr:Nat) (w0:World) (hl:l.length≤100000) (term:Nat→Out (DataW Unit)) (es:List (DataW Unit)) (k:Nat) (hk:k<l.length) (h:Z0w 176 #[.pointer (some ⟨p,0,none⟩),.string ⟨#[58]⟩] p g cap rk l k bl dp a0 a1 (Z1c l Z4a (term k)))
    (ht:∀ k',k≤k'→k'<l.length→Z0w 112 #[.pointer (some ⟨p,0,none⟩)] p g cap rk l k' bl dp a0 a1 (term k')) :
    Zjb 197 #[.pointer (some ⟨cl,0,none⟩),.pointer (some ⟨cr,0,none⟩)] p g cap rk l bl dp a0 a1 (fun s k w=>TermC S0 p g cl cr rk a0 a1 w0 s w∧s.length≤k+1) es k (Z13 l term es k):=by
  rintro w R ⟨C,hsk⟩ E
  unfold Z13
  generalize Z1c l Z4a (term k)=o at h ⊢
  refine Calls.mono (R:=fun ev w'=>(∃ e k' e2 k2,o = .ok (e,k')∧term k' = .ok (e2,k2)∧ev = .returned (.tuple #[])∧(RD w' p g cap rk l k2 bl dp∧TermC S0 p g cl cr rk a0 a1 w0 (es ++ [e,e2]) w'∧Below p w w')∧k<k'∧k'<k2∧k2<l.length)∨(∃ y,(o = .error y ∨ ∃ e k',o = .ok (e,k')∧term k' = .error y)∧Z04 l p a0 a1 w y ev w')) ?_ ?_
  case refine_2 =>
    rintro ev w' (⟨e,k',e2,k2,rfl,ho,rfl,⟨q1,q2,q3⟩,q4,q5,q6⟩ | ⟨y,(rfl | ⟨e,k',rfl,ho⟩),q⟩)
    · simp only [ho]
      exact ⟨trivial,q1,⟨q2,by simp;omega⟩,q3,by omega,q6⟩
    · exact q
    · simp only [ho]
      exact q
  have hsl:es.length≤100000:=by omega
  have HT:=Z01 ht
  have HE:=Z01 E
  obtain ⟨pa,pc,cs,c0,c1,l0,l1,hcp,hn1,hbd,hpw,hcw,hsw,HO5,HV,HO,HCE,hn2⟩:=Zdt C
  obtain ⟨i0,hi,hz0,hz1,hz2⟩:=info_parts Z93
  have Hi:=Z01 hi
  have HN:=Z01 (Zco h C R E)
  have HC:=Z01 C
  clear h ht hi R E C
  go_enter func197,ntmps197
  go_upto_region 0 with fail
  go_cut [] from 2 to 8 (fun wx => ∃ e k',o = .ok (e,k')∧(RD wx p g cap rk l k' bl dp∧TermC S0 p g cl cr rk a0 a1 w0 (es ++ [e]) wx∧Below p w wx)∧k<k'∧k'<l.length)
  case first =>
    go_region_law (first
      | (go_simp;go_at_call 176;refine (HN.out _ (by first | exact hbd | exact hbd.alloc (Nat.le_refl _) _ | exact ((Below.refl _ _).alloc (Nat.le_refl _) _).drew)).mono ?_;rintro ev w5 (⟨e5,k5,op5,z5,sx5,pa5,pn5,pc5,la5,ln5,lc5,q5,rfl,hrep5,R5,K5,KW,hk5,hk5l⟩ | ⟨y,b,q5,rfl,hf⟩);rotate_left;exact ⟨rfl,Or.inr ⟨y,Or.inl q5,hf⟩⟩;have e5c:w5.cell? ⟨cl,0,none⟩=some (.slice pa es.length pc):=K5.cell hcp c0;have e5l:=Z02 e5c;have s5:=K5.below.size;have HQ:=Z01 q5;have HRP:=Z01 hrep5;have HR:=Z01 R5;have HK:=Z01 K5;have HKW:=Z01 KW;clear q5 hrep5 R5 K5 KW)
      | (refine step_append_lies _ (by rfl) _ _ _ (by rfl) w0.heap.size 72 i0 _ 5 88 underlying49 Hi.out hz0 hz1 hz2 rfl (by decide) (.slice pa es.length pc) es.length cs (by rfl) (by first | exact (HO5.out _ HK.out).1 | exact (HO5.out _ HK.out).1.alloc _) _ 1 1 Zum (by rfl) rfl (by first | exact World.news_of_block (cs:=#[.string ⟨#[]⟩,.int .i64 0,.string ⟨#[]⟩,.slice none 0 0,.slice none 0 0]) (t:=72) (heap_alloc_new _ _) | exact World.news_of_block (cs:=#[.string ⟨#[]⟩,.int .i64 0,.string ⟨#[]⟩,.slice none 0 0,.slice none 0 0]) (t:=72) ((HKW.out.block _ (by simp;omega) (by simp)).trans (heap_alloc_new _ _))) Zb5 (by decide) (by unfold maxLen;omega) (by omega) (by first | omega | (simp;omega)) _ rfl ?_
         intro gn capn w2 hown2 hgrow hat hlt
         have hx1:(0:Int)≤es.length:=(by omega)
         have hx2:(es.length:Int)<es.length+1:=(by omega)
         obtain ⟨hz,hV2,e0,e0f,e0l,hcg⟩:=Zcx hgrow hat (by first | exact Below.refl _ _ | exact (Below.refl _ _).alloc (Nat.le_refl _) _) (HO5.out _ HK.out).2 hn1
         obtain ⟨g0,g1,g2,g3,g4,gf,gl⟩:=Zc3 hown2
         have gf0:=gf (es.length*5)
         have gf1:=gf (es.length*5+1)
         have gf2:=gf (es.length*5+2)
         have gf3:=gf (es.length*5+3)
         have gf4:=gf (es.length*5+4)
         have hgc:=hcg.symm
         have HW2:=Z01 hown2
         have HZ:=Z01 hz
         have HV2:=Z01 hV2
         clear hown2 hgrow hat hz hV2 gf))
    all_goals
      have HWA:=Z01 (Z82 HC.out HV.out HO.out HCE.out hn1 hn2 HR.out HK.out HRP.out HZ.out HV2.out hcg HW2.out)
      have HWB:=Z01 (Z88 HC.out HV.out HO.out HCE.out hn1 hn2 HR.out HK.out HRP.out HZ.out HV2.out hcg HW2.out)
      go_wp2_with fail
      go_meet
      case rel =>
        refine ⟨e5,k5,HQ.out,?_,hk5,hk5l⟩
        first | with_reducible exact HWA.out | with_reducible exact HWB.out
  case rest =>
    obtain ⟨e1,k1,ho1,⟨R1,C1,hb1⟩,hk1,hk1l⟩:=hcut
    have E1:=HE.out.below hb1
    have HO1:=Z01 ho1
    have HB1:=Z01 hb1
    have h2:=HT.out k1 (by omega) hk1l
    obtain ⟨es1,hes1⟩:∃ es1,es1=es ++ [e1]:=⟨_,rfl⟩
    rw [←hes1] at C1
    have hlen1:es1.length≤100001:=by rw [hes1];simp;omega
    have HES:=Z01 hes1
    obtain ⟨o2,ho2⟩:∃ o2,term k1=o2:=⟨_,rfl⟩
    rw [ho2] at h2
    have HO2:=Z01 ho2
    clear hes1 ho1 ho2 hb1 HN HC HO HV HCE HO5 Hi hz0 hz1 hz2 c0 c1 l0 l1 hbd hn1 hn2 hcp hpw hcw hsw cs pa pc i0 HT HE
    obtain ⟨pa,pc,cs,c0,c1,l0,l1,hcp,hn1,hbd,hpw,hcw,hsw,HO5,HV,HO,HCE,hn2⟩:=Zdt C1
    obtain ⟨i0,hi,hz0,hz1,hz2⟩:=info_parts Z93
    have Hi:=Z01 hi
    have HN:=Z01 (Zco h2 C1 R1 E1)
    have HC:=Z01 C1
    clear h2 hi R1 E1 C1
    go_wp2_with fail
    go_region_law (first
      | (go_simp;go_at_call 112;refine (HN.out _ (by first | exact hbd | exact hbd.alloc (Nat.le_refl _) _ | exact ((Below.refl _ _).alloc (Nat.le_refl _) _).drew)).mono ?_;rintro ev w5 (⟨e5,k5,op5,z5,sx5,pa5,pn5,pc5,la5,ln5,lc5,q5,rfl,hrep5,R5,K5,KW,hk5,hk5l⟩ | ⟨y,b,q5,rfl,hf⟩);rotate_left;exact ⟨rfl,Or.inr ⟨y,Or.inr ⟨e1,k1,HO1.out,HO2.out.trans q5⟩,Z04.after HB1.out hf⟩⟩;have e5c:w5.cell? ⟨cl,0,none⟩=some (.slice pa es1.length pc):=K5.cell hcp c0;have e5l:=Z02 e5c;have s5:=K5.below.size;have HQ:=Z01 q5;have HRP:=Z01 hrep5;have HR:=Z01 R5;have HK:=Z01 K5;have HKW:=Z01 KW;clear q5 hrep5 R5 K5 KW)
      | (refine step_append_lies _ (by rfl) _ _ _ (by rfl) w0.heap.size 72 i0 _ 5 88 underlying49 Hi.out hz0 hz1 hz2 rfl (by decide) (.slice pa es1.length pc) es1.length cs (by rfl) (by first | exact (HO5.out _ HK.out).1 | exact (HO5.out _ HK.out).1.alloc _) _ 1 1 Zum (by rfl) rfl (by first | exact World.news_of_block (cs:=#[.string ⟨#[]⟩,.int .i64 0,.string ⟨#[]⟩,.slice none 0 0,.slice none 0 0]) (t:=72) (heap_alloc_new _ _) | exact World.news_of_block (cs:=#[.string ⟨#[]⟩,.int .i64 0,.string ⟨#[]⟩,.slice none 0 0,.slice none 0 0]) (t:=72) ((HKW.out.block _ (by simp;omega) (by simp)).trans (heap_alloc_new _ _))) Zb5 (by decide) (by unfold maxLen;omega) (by omega) (by first | omega | (simp;omega)) _ rfl ?_
         intro gn capn w2 hown2 hgrow hat hlt
         have hx1:(0:Int)≤es1.length:=(by omega)
         have hx2:(es1.length:Int)<es1.length+1:=(by omega)
         obtain ⟨hz,hV2,e0,e0f,e0l,hcg⟩:=Zcx hgrow hat (by first | exact Below.refl _ _ | exact (Below.refl _ _).alloc (Nat.le_refl _) _) (HO5.out _ HK.out).2 hn1
         obtain ⟨g0,g1,g2,g3,g4,gf,gl⟩:=Zc3 hown2
         have gf0:=gf (es1.length*5)
         have gf1:=gf (es1.length*5+1)
         have gf2:=gf (es1.length*5+2)
         have gf3:=gf (es1.length*5+3)
         have gf4:=gf (es1.length*5+4)
         have hgc:=hcg.symm
         have HW2:=Z01 hown2
         have HZ:=Z01 hz
         have HV2:=Z01 hV2
         clear hown2 hgrow hat hz hV2 gf))
    all_goals
      have HWA:=Z01 (Z82 HC.out HV.out HO.out HCE.out hn1 hn2 HR.out HK.out HRP.out HZ.out HV2.out hcg HW2.out)
      have HWB:=Z01 (Z88 HC.out HV.out HO.out HCE.out hn1 hn2 HR.out HK.out HRP.out HZ.out HV2.out hcg HW2.out)
      go_end0
      refine Or.inl ⟨e1,k1,e5,k5,HO1.out,HO2.out.trans HQ.out,rfl,?_,hk1,hk5,hk5l⟩
      have HEE:es1 ++ [e5]=es ++ [e1,e5]:=by rw [HES.out];simp
      rw [←HEE]
      first | (refine ⟨?_,?_,HB1.out.trans ?_⟩;with_reducible exact HWA.out.1;with_reducible exact HWA.out.2.1;with_reducible exact HWA.out.2.2) | (refine ⟨?_,?_,HB1.out.trans ?_⟩;with_reducible exact HWB.out.1;with_reducible exact HWB.out.2.1;with_reducible exact HWB.out.2.2)

def Zo7:ByteArray:=⟨#[125]⟩
end Go.Proofs.YtflcohidmemfpaaGreatDoor
