/- The law's own helpers: BackExprs by a walk. -/
import Derived.Test.YtpcjcgkpjapbpaaGreatDoorTtR
import Derived.Deep.Cut
import Derived.Deep.CutRange
set_option linter.all false
namespace Go.Proofs.YtpcjcgkpjapbpaaGreatDoor
open Go.RowKit

def BackL (n:Nat):Prop:=∀ (S:Nat→Prop) (w:World) (la:Option Addr) (lc:Nat) (el:List (DataW Unit)),rowE S w (repV S w n) la el→BTL el→Calls Tryz.prog 22 #[.slice la el.length lc] w fun ev w' => ∃ la' lc',ev = .returned (.slice la' el.length lc')∧RepVL (fun b=>w.heap.size≤b) w' la' el∧Below w.heap.size w w'
set_option maxHeartbeats 8000000 in
set_option maxRecDepth 100000 in
theorem backExprs_yes (n:Nat) (hI:∀ m,n=m+1→BackL m):BackL n:=by
 intro S w la lc el h hk
 have H:=toHid h
 have HI:=toHid hI
 have HK:=toHid hk
 have hn:=hk.1
 clear h hI hk
 go_enter Tryz.func22,Tryz.ntmps22
 go_wp2
 go_loopg [3,4] (el.length+1) (fun gk v3 v4 wr => ∃ (j:Nat) (ra:Option Addr) (rc:Nat),gk=el.length+1 - j∧j≤el.length∧v3 = .slice ra j rc∧v4 = .int .i64 (j:Int)∧BkC w (el.take j) (.slice ra j rc) wr)
 case atStart=>exact ⟨0,none,0,rfl,Nat.zero_le _,rfl,rfl,⟨⟨[],⟨rfl,.inl ⟨rfl,rfl⟩⟩,CellsV.nil _ _⟩,Below.refl _ _⟩⟩
 case round =>
  obtain ⟨j,ra,rc,hgk,hj,hv3,hv4,C⟩:=hrel
  subst hv3 hv4
  have HG:Hid (gk=el.length+1 - j):=hgk
  clear hgk
  have hj0:(0:Int)≤(j:Int):=by omega
  have hb:=C.bl
  have HC:=toHid C
  have htl:(el.take j).length=j:=by simp;omega
  by_cases hlt:j<el.length
  ·have hI1:(j:Int)<(el.length:Int):=by omega
   obtain ⟨b1,o1,rfl,_,t1⟩:=H.out (by omega)
   obtain ⟨e,he⟩:∃ e,el[j]?=some e:=⟨el[j],by simp [hlt]⟩
   obtain ⟨c0,c1,c2,c3,c4,x0,x1,x2,x3,x4,hr⟩:=t1 j e he
   obtain ⟨m,rfl⟩:∃ m,n=m+1:=by
    cases n with
    | zero=>exact hr.elim
    | succ m=>exact ⟨m,rfl⟩
   obtain ⟨op,s,z,pl,el1,pa,la1,pc,lc1,hd,hcs,g1,g2⟩:=hr
   simp only [List.cons.injEq,and_true] at hcs
   obtain ⟨rfl,rfl,rfl,rfl,rfl⟩:=hcs
   have hT:pl.length≤8796093022208∧BTL el1:=by
    obtain ⟨q,hq⟩:=HK.out.2 e (List.mem_of_getElem? he)
    cases q with
    | zero=>exact hq.elim
    | succ q =>
     obtain ⟨op2,z2,s2,pl2,el2,hd2,q1,q2,q3⟩:=hq
     rw [hd] at hd2
     obtain ⟨rfl,rfl,rfl,rfl,rfl⟩:=mkE_inj hd2
     exact ⟨q1,q2,fun e he=>⟨q,q3 e he⟩⟩
   have hl1:=lt_of_cell x0
   have HF:Hid (∀ W,Below w.heap.size w W→W.cell? ⟨b1,o1+j*5,none⟩=some (.string op)∧W.cell? ⟨b1,o1+j*5+1,none⟩=some (.int .i64 z)∧W.cell? ⟨b1,o1+j*5+2,none⟩=some (.string s)∧W.cell? ⟨b1,o1+j*5+3,none⟩=some (.slice pa pl.length pc)∧W.cell? ⟨b1,o1+j*5+4,none⟩=some (.slice la1 el1.length lc1)):=fun W hW=>⟨(hW.cell (p:=⟨b1,o1+j*5,none⟩) hl1).trans x0,(hW.cell (p:=⟨b1,o1+j*5+1,none⟩) hl1).trans x1,(hW.cell (p:=⟨b1,o1+j*5+2,none⟩) hl1).trans x2,(hW.cell (p:=⟨b1,o1+j*5+3,none⟩) hl1).trans x3,(hW.cell (p:=⟨b1,o1+j*5+4,none⟩) hl1).trans x4⟩
   have HB:=toHid (fun W (hW:Below w.heap.size w W)=>HI.out m rfl S W la1 lc1 el1 (g2.same (same_below hW) (fun b h _=>h) (repV_same (same_below hW) (fun b h _=>h) m)) hT.2)
   have HN:=toHid (fun W (hW:Below w.heap.size w W)=>g1.same (S':=S) (w':=W) (same_below hW) (fun b h _=>h))
   have hpl:=hT.1
   obtain ⟨x0,x1,x2,x3,x4⟩:=HF.out wr hb
   have hsz:=hb.size
   have HTK:Hid (el.take (j+1)=el.take j ++ [mkE op z s pl el1]):=by
    show _=_
    rw [List.take_add_one,he,hd]
    rfl
   clear t1 H he hd hT g1 g2 HI HK C
   go_upto_region 5 with fail
   go_cut [5] from 6 to 46 (fun v5 wx => ∃ (eb:Nat) (la2:Option Addr) (lc2:Nat),v5 = .pointer (some ⟨eb,0,none⟩)∧EF wr op z s (.slice none 0 0) el1 eb la2 lc2 wx)
   case first =>
    go_region_held3 (fun W=>W.cell? ⟨b1,o1+j*5,none⟩=some (.string op)∧W.cell? ⟨b1,o1+j*5+1,none⟩=some (.int .i64 z)∧W.cell? ⟨b1,o1+j*5+2,none⟩=some (.string s)∧W.cell? ⟨b1,o1+j*5+3,none⟩=some (.slice pa pl.length pc)∧W.cell? ⟨b1,o1+j*5+4,none⟩=some (.slice la1 el1.length lc1)) (first | go_keep | exact HF.out _ hbA | exact HF.out _ (hbA.alloc hbA.size _) | exact HF.out _ (hb.alloc hsz _) | exact HF.out _ (hb.alloc hsz _).drew | exact HF.out _ (((((hbA.setCell hsz _).setCell hsz _).setCell hsz _).setCell hsz _).setCell hsz _)) ((go_at_call 22;refine (HB.out _ (by first | exact hb.drew | exact (hb.alloc hsz _).drew | exact hb.drew.alloc hsz _)).mono ?_;rintro ev w1 ⟨la2,lc2,rfl,hR1,hb1⟩;have hbR:Below wr.heap.size wr w1:=(by first | exact ((Below.refl _ _).drew).trans (hb1.mono (by simp)) | exact (((Below.refl _ _).alloc (Nat.le_refl _) _).drew).trans (hb1.mono (by simp)));have hbA:Below w.heap.size w w1:=hb.trans (hbR.mono hsz);(first | (have hE0:=(hb1.block wr.heap.size (by simp)).trans (heap_alloc_new wr _);obtain ⟨u0,u1,u2,u3,u4,uf⟩:=exprR_block hE0;have uf0:=uf 0;have uf1:=uf 1;have uf2:=uf 2;have uf3:=uf 3;have uf4:=uf 4;have ul:=lt_of_heap hE0) | skip)))
    ·go_wp2_with fail
     go_meet
     exact ⟨w1.heap.size,la2,lc2,rfl,ef_late hbR (by simp) hR1⟩
    ·go_wp2_with fail
     go_meet
     exact ⟨wr.heap.size,la2,lc2,rfl,ef_early hbR hE0 (by simp) hR1⟩
   case rest =>
    obtain ⟨eb,la2,lc2,rfl,hE⟩:=hcut
    have hbC:Below w.heap.size w wc:=hb.trans (hE.2.2.2.mono hsz)
    obtain ⟨y0,y1,y2,y3,y4⟩:=HF.out wc hbC
    obtain ⟨u0,u1,u2,u3,u4,uf⟩:=exprR_block hE.2.1
    have uf3:=uf 3
    have hel:=lt_of_heap hE.2.1
    have hb1l:b1<w.heap.size:=hl1
    have hne:b1≠eb:=by have:=hE.1;omega
    have hne2:eb≠b1:=fun h=>hne h.symm
    have HNC:=toHid (HN.out wc hbC)
    have HE:=toHid hE
    obtain ⟨i0,hi0,hz0,hz1,hz2⟩:=info_parts infoStr
    clear uf hE x0 x1 x2 x3 x4
    go_upto_region 6 with fail
    go_cut [] from 6 to 46 (fun wx => ∃ (pa2:Option Addr) (pc2:Nat),EF wr op z s (.slice pa2 pl.length pc2) el1 eb la2 lc2 wx∧RepN (fun b=>wr.heap.size≤b∧b≠eb) wx pa2 pl)
    case first =>
     cases pl with
     | nil =>
      go_region_law (first | (refine step_append_none (by rfl) _ _ _ (by rfl) 9 i0 Tryz.underlying36 hi0 rfl pa pc rfl ?_))
      all_goals (go_wp2_with fail;go_meet)
      all_goals exact ⟨none,0,(ef_no HE.out).drew,fun h=>absurd h (by simp)⟩
     | cons t1 tl =>
      obtain ⟨nb,no,rfl,_,hts⟩:=HNC.out (by simp)
      have HTS:=toHid hts
      clear hts
      go_region_law (first | (refine step_append_grows (by rfl) _ _ _ (by rfl) 9 i0 (.string ⟨#[]⟩) 1 16 Tryz.underlying36 hi0 hz0 hz1 hz2 rfl (by decide) none 0 0 [] (by rfl) (fun _=>⟨rfl,rfl⟩) rfl (fun b h=>by cases h) ⟨nb,no,none⟩ (t1::tl).length pc ((t1::tl).map Value.string) (by rfl) (by simp) (by first | exact ts_news HTS.out | exact ts_newsD HTS.out) (strs_one _) (by simp) (by unfold maxLen;omega) (by omega) ?_;intro v2 w2 hown2 hgrow2;obtain ⟨hbk,hEF,pa2,pc2,hv2,hNN⟩:=ef_names (pl:=t1::tl) (by first | exact HE.out | exact HE.out.drew) hgrow2 (by simpa using hown2);subst hv2;obtain ⟨r0,r1,r2,r3,r4,rf⟩:=exprR_block hbk;have rf3:=rf 3;have HEF:=toHid hEF;have HNN:=toHid hNN;clear hown2 hgrow2 hbk rf hEF hNN))
      all_goals (go_wp2_with fail;go_meet)
      all_goals exact ⟨pa2,pc2,HEF.out,HNN.out⟩
    case rest =>
     obtain ⟨pa2,pc2,hE2,hN2⟩:=hcut
     obtain ⟨u0,u1,u2,u3,u4,uf⟩:=exprR_block hE2.2.1
     have hel2:=lt_of_heap hE2.2.1
     have hb5:=hE2.2.2.2
     have HRP:=toHid (ef_rep hE2 hN2)
     obtain ⟨cs,hO,hCE⟩:=HC.out.l
     have HOo:=toHid hO
     rw [htl] at hO
     have hO5:=ownsRow_far' hO (fun k hk=>hb5.block k (own_lt hO k hk))
     have HOW:=toHid hO5
     have HO:=toHid hO
     have HCE:=toHid hCE
     have HB5:=toHid hb5
     have hsz2:=hb5.size
     obtain ⟨i1,hi1,hy0,hy1,hy2⟩:=info_parts infoExprR
     clear uf hE2 hN2 hO hCE hO5 hb5
     go_wp2_with (first | (at_builtin;refine wpList_append_lies _ rfl _ _ _ rfl w.heap.size 45 i1 (.agg #[.string ⟨#[]⟩,.int .i64 0,.string ⟨#[]⟩,.slice none 0 0,.slice none 0 0]) 5 88 Tryz.underlying40 hi1 hy0 hy1 hy2 rfl (by decide) _ j cs rfl (HOW.out.alloc _) ⟨wc.heap.size,0,none⟩ 1 1 [.string op,.int .i64 z,.string s,.slice pa2 pl.length pc2,.slice la2 el1.length lc2] rfl rfl (World.news_of_block (cs:=#[.string op,.int .i64 z,.string s,.slice pa2 pl.length pc2,.slice la2 el1.length lc2]) (t:=45) (heap_alloc_new _ _)) five_one (by decide) (by unfold maxLen;omega) (by omega) (by simp;omega) _ rfl ?_;intro gn capn w2 hown2 hgrow hat hlt2;have HW2:=toHid hown2;have HZ:Hid (∃ wb,Below wc.heap.size wc wb∧wb.grownBy w2 (Value.slice ra j rc).ownBlock∧((Value.slice ra j rc).ownBlock=some gn∨gn=wb.heap.size)):=⟨_,(Below.refl _ _).alloc (Nat.le_refl _) _,hgrow,hat⟩;clear hown2 hgrow hat))
     have HBK:Hid (BkC w (el.take (j+1)) (.slice (some ⟨gn,0,none⟩) (j+1) capn) w2):=by
      have h:=bk_after HC.out HOo.out HCE.out HB5.out HRP.out HZ.out (by rw [htl];exact HW2.out)
      rw [htl] at h
      show BkC _ _ _ _
      rw [HTK.out]
      exact h
     go_roundg (el.length+1 - (j+1))
     case measure=>have:=HG.out;omega
     case rel=>exact ⟨j+1,some ⟨gn,0,none⟩,capn,rfl,by omega,rfl,by go_num,HBK.out⟩
  ·have he2:el.take j=el:=List.take_of_length_le (by omega)
   have hje:j=el.length:=by omega
   subst hje
   obtain ⟨cs,hO,hCE⟩:=C.l
   rw [he2] at hO hCE
   have HZ:=toHid (repVL_row hO hCE (S':=fun b=>w.heap.size≤b) (fun b h=>h.1) (fun b h=>h))
   clear C hO hCE HC
   go_wp2
   go_ret
   exact ⟨_,_,rfl,HZ.out,hb⟩
theorem backL_all:∀ n,BackL n
 | 0=>backExprs_yes 0 (fun m h=>by omega)
 | n+1=>backExprs_yes (n+1) (fun m h=>by
  have e:n=m:=by omega
  exact e ▸ backL_all n)
theorem backExprs_any (S:Nat→Prop) (w:World) (la:Option Addr) (lc:Nat) (el:List (DataW Unit)) (h:RepVL S w la el) (hk:BTL el):Calls Tryz.prog 22 #[.slice la el.length lc] w fun ev w' => ∃ la' lc',ev = .returned (.slice la' el.length lc')∧RepVL (fun b=>w.heap.size≤b) w' la' el∧Below w.heap.size w w':=by
 obtain ⟨n,hn⟩:=rowE.bound h
 exact backL_all n S w la lc el hn hk
end Go.Proofs.YtpcjcgkpjapbpaaGreatDoor
