/- The law's own helpers: statements that are the same are told to be so. -/
import Derived.Test.YtpcjcgkpjapbpaaGreatDoorTtQ
set_option linter.all false
namespace Go.Proofs.YtpcjcgkpjapbpaaGreatDoor
open Go.RowKit

theorem mkS_inj {kd kd' nm nm':ByteArray}{pl pl':List ByteArray}{el el' bd bd' es es':List (DataW Unit)} (h:mkS kd nm pl el bd es=mkS kd' nm' pl' el' bd' es'):kd=kd'∧nm=nm'∧pl=pl'∧el=el'∧bd=bd'∧es=es':=by
 unfold mkS at h
 injection h with h
 simp only [List.cons.injEq,and_true] at h
 obtain ⟨h1,h2,h3,h4,h5,h6⟩:=h
 refine ⟨bytes_inj ?_,bytes_inj ?_,?_,?_,?_,?_⟩
 ·rw [toList_data,toList_data]
  injection h1 with h1
  injection h1
 ·rw [toList_data,toList_data]
  injection h2 with h2
  injection h2
 ·injection h3 with h3
  exact lits_inj h3
 ·injection h4 with h4
 ·injection h5 with h5
 ·injection h6 with h6
def SameSt (n:Nat):Prop:=∀ (S S':Nat→Prop) (w:World) (ba ka:Option Addr) (bc kc:Nat) (ss:List (DataW Unit)),rowS S w (repVS S w n) ba ss→rowS S' w (repVS S' w n) ka ss→BSL ss→Calls Tryz.prog 9 #[.slice ba ss.length bc,.slice ka ss.length kc] w fun ev w'=>ev = .returned (.bool true)∧Below w.heap.size w w'
set_option maxHeartbeats 8000000 in
set_option maxRecDepth 100000 in
theorem sameStmts_yes (n:Nat) (hI:∀ m,n=m+1→SameSt m):SameSt n:=by
 intro S S' w ba ka bc kc ss h h' hk
 have H:=toHid h
 have H':=toHid h'
 have HI:=toHid hI
 have HK:=toHid hk
 have hn:=hk.1
 clear h h' hI hk
 go_enter Tryz.func9,Tryz.ntmps9
 go_wp2
 go_loopg [5] (ss.length+1) (fun gk v5 wr => ∃ j:Nat,gk=ss.length+1 - j∧j≤ss.length∧v5 = .int .i64 (j:Int)∧Below w.heap.size w wr)
 case atStart=>exact ⟨0,rfl,Nat.zero_le _,rfl,Below.refl _ _⟩
 case round =>
  obtain ⟨j,hgk,hj,hv,hb⟩:=hrel
  subst hv
  have HG:Hid (gk=ss.length+1 - j):=hgk
  clear hgk
  have hj0:(0:Int)≤(j:Int):=by omega
  by_cases hlt:j<ss.length
  ·have hI1:(j:Int)<(ss.length:Int):=by omega
   obtain ⟨b1,o1,rfl,_,t1⟩:=H.out (by omega)
   obtain ⟨b2,o2,rfl,_,t2⟩:=H'.out (by omega)
   obtain ⟨e,he⟩:∃ e,ss[j]?=some e:=⟨ss[j],by simp [hlt]⟩
   obtain ⟨c0,c1,c2,c3,c4,c5,x0,x1,x2,x3,x4,x5,hr⟩:=t1 j e he
   obtain ⟨d0,d1,d2,d3,d4,d5,y0,y1,y2,y3,y4,y5,hr'⟩:=t2 j e he
   obtain ⟨m,rfl⟩:∃ m,n=m+1:=by
    cases n with
    | zero=>exact hr.elim
    | succ m=>exact ⟨m,rfl⟩
   have HS:=toHid (HI.out m rfl)
   obtain ⟨kd,nm,pl,el,bd,es,pa,la,ba1,ea1,pc,lc,bc1,ec1,hd,hcs,g1,g2,g3,g4⟩:=hr
   obtain ⟨kd',nm',pl',el',bd',es',pa',la',ba1',ea1',pc',lc',bc1',ec1',hd',hcs',g1',g2',g3',g4'⟩:=hr'
   simp only [List.cons.injEq,and_true] at hcs hcs'
   obtain ⟨rfl,rfl,rfl,rfl,rfl,rfl⟩:=hcs
   obtain ⟨rfl,rfl,rfl,rfl,rfl,rfl⟩:=hcs'
   have hke:=HK.out.2 e (List.mem_of_getElem? he)
   rw [hd] at hd'
   obtain ⟨rfl,rfl,rfl,rfl,rfl,rfl⟩:=mkS_inj hd'
   have hT:pl.length≤8796093022208∧BTL el∧BSL bd∧BSL es:=by
    obtain ⟨q,hq⟩:=hke
    cases q with
    | zero=>exact hq.elim
    | succ q =>
     obtain ⟨kd2,nm2,pl2,el2,bd2,es2,hd2,q1,q2,q3,q4,q5,q6⟩:=hq
     rw [hd] at hd2
     obtain ⟨rfl,rfl,rfl,rfl,rfl,rfl⟩:=mkS_inj hd2
     exact ⟨q1,q2,⟨q3,fun e he=>⟨q,q5 e he⟩⟩,q4,fun e he=>⟨q,q6 e he⟩⟩
   have hl1:=lt_of_cell x0
   have hl2:=lt_of_cell y0
   have HF:Hid (∀ W,Below w.heap.size w W→W.cell? ⟨b1,o1+j*6,none⟩=some (.string kd)∧W.cell? ⟨b1,o1+j*6+1,none⟩=some (.string nm)∧W.cell? ⟨b1,o1+j*6+2,none⟩=some (.slice pa pl.length pc)∧W.cell? ⟨b1,o1+j*6+3,none⟩=some (.slice la el.length lc)∧W.cell? ⟨b1,o1+j*6+4,none⟩=some (.slice ba1 bd.length bc1)∧W.cell? ⟨b1,o1+j*6+5,none⟩=some (.slice ea1 es.length ec1)∧W.cell? ⟨b2,o2+j*6,none⟩=some (.string kd)∧W.cell? ⟨b2,o2+j*6+1,none⟩=some (.string nm)∧W.cell? ⟨b2,o2+j*6+2,none⟩=some (.slice pa' pl.length pc')∧W.cell? ⟨b2,o2+j*6+3,none⟩=some (.slice la' el.length lc')∧W.cell? ⟨b2,o2+j*6+4,none⟩=some (.slice ba1' bd.length bc1')∧W.cell? ⟨b2,o2+j*6+5,none⟩=some (.slice ea1' es.length ec1')):=fun W hW=>⟨(hW.cell (p:=⟨b1,o1+j*6,none⟩) hl1).trans x0,(hW.cell (p:=⟨b1,o1+j*6+1,none⟩) hl1).trans x1,(hW.cell (p:=⟨b1,o1+j*6+2,none⟩) hl1).trans x2,(hW.cell (p:=⟨b1,o1+j*6+3,none⟩) hl1).trans x3,(hW.cell (p:=⟨b1,o1+j*6+4,none⟩) hl1).trans x4,(hW.cell (p:=⟨b1,o1+j*6+5,none⟩) hl1).trans x5,(hW.cell (p:=⟨b2,o2+j*6,none⟩) hl2).trans y0,(hW.cell (p:=⟨b2,o2+j*6+1,none⟩) hl2).trans y1,(hW.cell (p:=⟨b2,o2+j*6+2,none⟩) hl2).trans y2,(hW.cell (p:=⟨b2,o2+j*6+3,none⟩) hl2).trans y3,(hW.cell (p:=⟨b2,o2+j*6+4,none⟩) hl2).trans y4,(hW.cell (p:=⟨b2,o2+j*6+5,none⟩) hl2).trans y5⟩
   have HP:=toHid (fun W (hW:Below w.heap.size w W)=>sameTexts_yes (S:=S) (S':=S') pl pa pa' pc pc' hT.1 W (g1.same (same_below hW) (fun b h _=>h)) (g1'.same (same_below hW) (fun b h _=>h)))
   have HL:=toHid (fun W (hW:Below w.heap.size w W)=>sameExprs_all (lc:=lc) (kc:=lc') (g2.same (same_below hW) (fun b h _=>h)) (g2'.same (same_below hW) (fun b h _=>h)) hT.2.1)
   have HB:=toHid (fun W (hW:Below w.heap.size w W)=>HS.out S S' W ba1 ba1' bc1 bc1' bd (g3.same (same_below hW) (fun b h _=>h) (repVS_same (same_below hW) (fun b h _=>h) m)) (g3'.same (same_below hW) (fun b h _=>h) (repVS_same (same_below hW) (fun b h _=>h) m)) hT.2.2.1)
   have HZ:=toHid (fun W (hW:Below w.heap.size w W)=>HS.out S S' W ea1 ea1' ec1 ec1' es (g4.same (same_below hW) (fun b h _=>h) (repVS_same (same_below hW) (fun b h _=>h) m)) (g4'.same (same_below hW) (fun b h _=>h) (repVS_same (same_below hW) (fun b h _=>h) m)) hT.2.2.2)
   obtain ⟨x0,x1,x2,x3,x4,x5,y0,y1,y2,y3,y4,y5⟩:=HF.out wr hb
   have hsz:=hb.size
   clear t1 t2 H H' he hd hd' hke hT g1 g2 g3 g4 g1' g2' g3' g4' HI HS HK
   go_wp2
   go_region_held3 (fun W=>W.cell? ⟨b1,o1+j*6,none⟩=some (.string kd)∧W.cell? ⟨b1,o1+j*6+1,none⟩=some (.string nm)∧W.cell? ⟨b1,o1+j*6+2,none⟩=some (.slice pa pl.length pc)∧W.cell? ⟨b1,o1+j*6+3,none⟩=some (.slice la el.length lc)∧W.cell? ⟨b1,o1+j*6+4,none⟩=some (.slice ba1 bd.length bc1)∧W.cell? ⟨b1,o1+j*6+5,none⟩=some (.slice ea1 es.length ec1)∧W.cell? ⟨b2,o2+j*6,none⟩=some (.string kd)∧W.cell? ⟨b2,o2+j*6+1,none⟩=some (.string nm)∧W.cell? ⟨b2,o2+j*6+2,none⟩=some (.slice pa' pl.length pc')∧W.cell? ⟨b2,o2+j*6+3,none⟩=some (.slice la' el.length lc')∧W.cell? ⟨b2,o2+j*6+4,none⟩=some (.slice ba1' bd.length bc1')∧W.cell? ⟨b2,o2+j*6+5,none⟩=some (.slice ea1' es.length ec1')) (first | go_keep | exact HF.out _ hbA | exact HF.out _ hbB) (first
    | (go_at_call 20;refine (HP.out _ (by first | exact hb.drew | exact hb)).mono ?_;rintro ev w1 ⟨rfl,hb1⟩;have hbA:Below w.heap.size w w1:=(hb.drew.trans (hb1.mono (by simp;omega))))
    | (go_at_call 21;refine (HL.out _ (by first | exact hbA | exact hbA.drew)).mono ?_;rintro ev w2 ⟨rfl,hb2⟩;have hbB:Below w.heap.size w w2:=(hbA.trans (hb2.mono hbA.size))))
   clear hb1 hb2 HP HL x0 x1 x2 x3 x4 x5 y0 y1 y2 y3 y4 y5
   have hbB':=hbB
   obtain ⟨x0,x1,x2,x3,x4,x5,y0,y1,y2,y3,y4,y5⟩:=HF.out w2 hbB
   have hsz2:=hbB.size
   clear hbA hb
   go_wp2
   go_region_held3 (fun W=>W.cell? ⟨b1,o1+j*6,none⟩=some (.string kd)∧W.cell? ⟨b1,o1+j*6+1,none⟩=some (.string nm)∧W.cell? ⟨b1,o1+j*6+2,none⟩=some (.slice pa pl.length pc)∧W.cell? ⟨b1,o1+j*6+3,none⟩=some (.slice la el.length lc)∧W.cell? ⟨b1,o1+j*6+4,none⟩=some (.slice ba1 bd.length bc1)∧W.cell? ⟨b1,o1+j*6+5,none⟩=some (.slice ea1 es.length ec1)∧W.cell? ⟨b2,o2+j*6,none⟩=some (.string kd)∧W.cell? ⟨b2,o2+j*6+1,none⟩=some (.string nm)∧W.cell? ⟨b2,o2+j*6+2,none⟩=some (.slice pa' pl.length pc')∧W.cell? ⟨b2,o2+j*6+3,none⟩=some (.slice la' el.length lc')∧W.cell? ⟨b2,o2+j*6+4,none⟩=some (.slice ba1' bd.length bc1')∧W.cell? ⟨b2,o2+j*6+5,none⟩=some (.slice ea1' es.length ec1')) (first | go_keep | exact HF.out _ hbC | exact HF.out _ hbD) (first
    | (go_at_call 9;with_reducible refine Calls.mono (HB.out w2.drew hbB.drew) ?_;rintro ev w3 ⟨rfl,hb3⟩;have hbC:Below w.heap.size w w3:=(hbB.drew.trans (hb3.mono (by simp;omega))))
    | (go_at_call 9;with_reducible refine Calls.mono (HZ.out w3 hbC) ?_;rintro ev w4 ⟨rfl,hb4⟩;have hbD:Below w.heap.size w w4:=(hbC.trans (hb4.mono hbC.size))))
   have HW:Hid (Below w.heap.size w w4):=hbD
   clear hb3 hb4 hbC hbD hbB hbB' HB HZ x0 x1 x2 x3 x4 x5 y0 y1 y2 y3 y4 y5 HF
   go_wp2
   go_roundg (ss.length+1 - (j+1))
   case measure=>have:=HG.out;omega
   case rel=>exact ⟨j+1,rfl,by omega,by go_num,HW.out⟩
  ·go_wp2
   go_ret
   exact ⟨rfl,hb⟩
theorem sameSt_all:∀ n,SameSt n
 | 0=>sameStmts_yes 0 (fun m h=>by omega)
 | n+1=>sameStmts_yes (n+1) (fun m h=>by
  have e:n=m:=by omega
  rw [←e]
  exact sameSt_all n)
end Go.Proofs.YtpcjcgkpjapbpaaGreatDoor
