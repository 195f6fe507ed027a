/- The law's own helpers: Weight of any statements answers some int. -/
import Derived.Test.YtflcohidmemfpaaGreatDoorSsT
import Derived.Test.YtflcohidmemfpaaGreatDoorCopyB
import Derived.Test.YtflcohidmemfpaaGreatDoorSsR
import Derived.Deep.RegionHeld3
set_option linter.all false
namespace Go.Proofs.YtflcohidmemfpaaGreatDoor
open Go.Proofs.Tryz
open Go.RowKit

def WtE (n:Nat):Prop:=∀ (S:Nat→Prop) (w:World) (c0 c1 c2 c3 c4:Value) (e:DataW Unit),Zfj S w n [c0,c1,c2,c3,c4] e→BT e→ZT e→Calls prog 9 #[.agg #[c0,c1,c2,c3,c4]] w fun ev w' => ∃ x:Int,ev = .returned (.int .i64 x)∧Below w.heap.size w w'
theorem Zud {op s:ByteArray}{z:Int}{pl:List ByteArray}{el:List (DataW Unit)} (hk:ZT (mkE op z s pl el)):Fs s∧ZTL el:=by
 obtain ⟨m,hm⟩:=hk
 cases m with
 | zero=>exact hm.elim
 | succ m =>
  obtain ⟨_,_,_,_,_,hd2,_,q2,_,_,q5⟩:=hm
  obtain ⟨rfl,rfl,rfl,rfl,rfl⟩:=Z6e hd2
  exact ⟨q2,fun e he=>⟨m,q5 e he⟩⟩
theorem Zn8 {op s:ByteArray}{z:Int}{pl:List ByteArray}{el:List (DataW Unit)} (hk:BT (mkE op z s pl el)):pl.length≤8796093022208∧BTL el:=by
 obtain ⟨m,hm⟩:=hk
 cases m with
 | zero=>exact hm.elim
 | succ m =>
  obtain ⟨op2,z2,s2,pl2,el2,hd2,q1,q2,q3⟩:=hm
  obtain ⟨rfl,rfl,rfl,rfl,rfl⟩:=Z6e hd2
  exact ⟨q1,q2,fun e he=>⟨m,q3 e he⟩⟩
set_option maxHeartbeats 4000000 in
set_option maxRecDepth 100000 in
theorem Zf7 (n:Nat) (hI:WtE n):WtE (n+1):=by
 intro S w c0 c1 c2 c3 c4 e h hk hz
 obtain ⟨op,s,z,pl,el,pa,la,pc,lc,rfl,hcs,h1,h2⟩:=h
 simp only [List.cons.injEq,and_true] at hcs
 obtain ⟨rfl,rfl,rfl,rfl,rfl⟩:=hcs
 obtain ⟨hp,hT⟩:=Zn8 hk
 obtain ⟨hs,hZ⟩:=Zud hz
 have hn:=hT.1
 obtain ⟨wE,hE⟩:∃ wE,wE=w.alloc (.cells #[.string op,.int .i64 z,.string s,.slice pa pl.length pc,.slice la el.length lc] 42):=⟨_,rfl⟩
 have hb0:Below w.heap.size w wE:=by rw [hE];exact (Below.refl _ _).alloc (Nat.le_refl _) _
 have hs0:wE.heap.size=w.heap.size+1:=by rw [hE];simp
 have e0:wE.heap[w.heap.size]?=some (.cells #[.string op,.int .i64 z,.string s,.slice pa pl.length pc,.slice la el.length lc] 42):=by rw [hE];exact heap_alloc_new w _
 have HC4:Hid (∀ W,Below wE.heap.size wE W→W.cell? ⟨w.heap.size,4,none⟩=some (.slice la el.length lc)):=fun W hW=>by
  rw [cell_of_row _ _ 4 _ _ _ ((hW.block w.heap.size (by omega)).trans e0)]
  rfl
 have HB0:=Z01 hb0
 have HE:=Z01 hE
 have HI:=Z01 hI
 have H2:=Z01 h2
 have HK:=Z01 hT
 have HZ:=Z01 hZ
 clear hb0 e0 hE hI h1 h2 hk hz hT hZ hs0
 go_enter func9,ntmps9
 go_wp2_with fail
 go_loopg [3,4] (el.length+1) (fun gk v3 v4 wr => ∃ (j:Nat) (x:Int),gk=el.length+1 - j∧j≤el.length∧v3 = .int .i64 x∧v4 = .int .i64 (j:Int)∧Below wE.heap.size wE wr)
 case atStart=>exact ⟨0,_,rfl,Nat.zero_le _,rfl,rfl,by rw [HE.out];exact Below.refl _ _⟩
 case round =>
  obtain ⟨j,x,hgk,hj,rfl,rfl,hbE⟩:=hrel
  have HG:Hid (gk=el.length+1 - j):=hgk
  have hb:Below w.heap.size w wr:=HB0.out.trans (hbE.mono HB0.out.size)
  have k4:=HC4.out wr hbE
  have kl:=Z02 k4
  have HBE:=Z01 hbE
  clear hgk hbE
  have hj0:(0:Int)≤(j:Int):=by omega
  by_cases hlt:j<el.length
  ·have hI1:(j:Int)<(el.length:Int):=by omega
   obtain ⟨b1,o1,rfl,_,t1⟩:=H2.out (by omega)
   obtain ⟨e,he⟩:∃ e,el[j]?=some e:=⟨el[j],by simp [hlt]⟩
   obtain ⟨c0,c1,c2,c3,c4,x0,x1,x2,x3,x4,hr⟩:=t1 j e he
   have hl1:=Z02 x0
   have x0:=(hb.cell (p:=⟨b1,o1+j*5,none⟩) hl1).trans x0
   have x1:=(hb.cell (p:=⟨b1,o1+j*5+1,none⟩) hl1).trans x1
   have x2:=(hb.cell (p:=⟨b1,o1+j*5+2,none⟩) hl1).trans x2
   have x3:=(hb.cell (p:=⟨b1,o1+j*5+3,none⟩) hl1).trans x3
   have x4:=(hb.cell (p:=⟨b1,o1+j*5+4,none⟩) hl1).trans x4
   have hk1:=Z02 x0
   have HC:=Z01 (HI.out S wr c0 c1 c2 c3 c4 e (Z2m (Z06 hb) (fun b h _=>h) n _ _ hr) (HK.out.2 e (List.mem_of_getElem? he)) (HZ.out e (List.mem_of_getElem? he)))
   clear t1 H2 he hr
   go_wp2_with fail
   refine HC.out.mono ?_
   rintro ev w1 ⟨x',rfl,hb1⟩
   have HB1:=Z01 (HBE.out.trans (hb1.mono HBE.out.size))
   clear hb1 k4 kl x0 x1 x2 x3 x4 hk1 hb
   go_wp2_with fail
   go_roundg (el.length+1 - (j+1))
   case measure=>have:=HG.out;omega
   case rel=>exact ⟨j+1,_,rfl,by omega,rfl,by go_num,HB1.out⟩
  ·clear H2
   have HB:=Z01 hb
   clear hb
   go_wp2_with fail
   go_ret
   first | exact ⟨⟨_,rfl⟩,HB.out⟩ | exact ⟨_,rfl,HB.out⟩
theorem Zp8:∀ n,WtE n
 | 0=>fun _ _ _ _ _ _ _ _ h _ _=>h.elim
 | n+1=>Zf7 n (Zp8 n)
end Go.Proofs.YtflcohidmemfpaaGreatDoor
namespace Go.Proofs.YtflcohidmemfpaaGreatDoor
open Go.Proofs.Tryz
open Go.RowKit

theorem Zlp {D:Nat}{kd nm:ByteArray}{pl:List ByteArray}{el bd es:List (DataW Unit)} (hk:zS (D+1) (mkS kd nm pl el bd es)):Fs nm∧ZTL el∧ZSL D bd∧ZSL D es:=by
 obtain ⟨_,_,_,_,_,_,hd2,_,q2,_,q4,q5,q6⟩:=hk
 obtain ⟨rfl,rfl,rfl,rfl,rfl,rfl⟩:=Z72 hd2
 exact ⟨q2,q4,q5,q6⟩
theorem Zmq {kd nm:ByteArray}{pl:List ByteArray}{el bd es:List (DataW Unit)} (hk:BS (mkS kd nm pl el bd es)):pl.length≤8796093022208∧BTL el∧BSL bd∧BSL es:=by
 obtain ⟨m,hm⟩:=hk
 cases m with
 | zero=>exact hm.elim
 | succ m =>
  obtain ⟨_,_,_,_,_,_,hd2,q1,q2,q3,q4,q5,q6⟩:=hm
  obtain ⟨rfl,rfl,rfl,rfl,rfl,rfl⟩:=Z72 hd2
  exact ⟨q1,q2,⟨q3,fun e he=>⟨m,q5 e he⟩⟩,q4,fun e he=>⟨m,q6 e he⟩⟩
def WtS (D:Nat):Prop:=∀ (S:Nat→Prop) (w:World) (ba:Option Addr) (bc:Nat) (ss:List (DataW Unit)),Z31 S w ba ss→BSL ss→ZSL D ss→Calls prog 5 #[.slice ba ss.length bc] w fun ev w' => ∃ x:Int,ev = .returned (.int .i64 x)∧Below w.heap.size w w'
set_option maxHeartbeats 16000000 in
set_option maxRecDepth 100000 in
theorem Zbw (D:Nat) (hI:∀ m,D=m+1→WtS m):WtS D:=by
 intro S w la lc el h hk hz
 have H:=Z01 h
 have HI:=Z01 hI
 have HK:=Z01 hk
 have HZ:=Z01 hz
 have hn:=hk.1
 clear h hI hk hz
 go_enter func5,ntmps5
 go_wp2
 go_loopg [3,4] (el.length+1) (fun gk v3 v4 wr => ∃ (j:Nat) (x:Int),gk=el.length+1 - j∧j≤el.length∧v3 = .int .i64 x∧v4 = .int .i64 (j:Int)∧Below w.heap.size w wr)
 case atStart=>exact ⟨0,_,rfl,Nat.zero_le _,rfl,rfl,Below.refl _ _⟩
 case round =>
  obtain ⟨j,x,hgk,hj,rfl,rfl,hb⟩:=hrel
  have HG:Hid (gk=el.length+1 - j):=hgk
  clear hgk
  have hj0:(0:Int)≤(j:Int):=by omega
  by_cases hlt:j<el.length
  ·have hI1:(j:Int)<(el.length:Int):=by omega
   obtain ⟨b1,o1,rfl,_,t1⟩:=H.out (by omega)
   obtain ⟨e,he⟩:∃ e,el[j]?=some e:=⟨el[j],by simp [hlt]⟩
   obtain ⟨c0,c1,c2,c3,c4,c5,x0,x1,x2,x3,x4,x5,hr⟩:=t1 j e he
   obtain ⟨n,hr⟩:=hr
   have hze:=HZ.out e (List.mem_of_getElem? he)
   have hke:=HK.out.2 e (List.mem_of_getElem? he)
   obtain ⟨m,rfl⟩:∃ m,D=m+1:=by
    cases D with
    | zero=>exact hze.elim
    | succ m=>exact ⟨m,rfl⟩
   have HS:=Z01 (HI.out m rfl)
   cases n with
   | zero=>exact hr.elim
   | succ n =>
   obtain ⟨kd,nm,pl,el1,bd,es,pa,la1,ba1,ea1,pc,lc1,bc1,ec1,rfl,hcs,g1,g2,g3,g4⟩:=hr
   simp only [List.cons.injEq,and_true] at hcs
   obtain ⟨rfl,rfl,rfl,rfl,rfl,rfl⟩:=hcs
   obtain ⟨k1,k2,k3,k4⟩:=Zmq hke
   obtain ⟨z1,z2,z3,z4⟩:=Zlp hze
   have hl1:=Z02 x0
   have HF:Hid (∀ W,Below w.heap.size w W→W.cell? ⟨b1,o1+j*6,none⟩=some (.string kd)∧W.cell? ⟨b1,o1+j*6+1,none⟩=some (.string nm)∧W.cell? ⟨b1,o1+j*6+2,none⟩=some (.slice pa pl.length pc)∧W.cell? ⟨b1,o1+j*6+3,none⟩=some (.slice la1 el1.length lc1)∧W.cell? ⟨b1,o1+j*6+4,none⟩=some (.slice ba1 bd.length bc1)∧W.cell? ⟨b1,o1+j*6+5,none⟩=some (.slice ea1 es.length ec1)):=fun W hW=>⟨(hW.cell (p:=⟨b1,o1+j*6,none⟩) hl1).trans x0,(hW.cell (p:=⟨b1,o1+j*6+1,none⟩) hl1).trans x1,(hW.cell (p:=⟨b1,o1+j*6+2,none⟩) hl1).trans x2,(hW.cell (p:=⟨b1,o1+j*6+3,none⟩) hl1).trans x3,(hW.cell (p:=⟨b1,o1+j*6+4,none⟩) hl1).trans x4,(hW.cell (p:=⟨b1,o1+j*6+5,none⟩) hl1).trans x5⟩
   have HB1:=Z01 (fun W (hW:Below w.heap.size w W)=>HS.out S W ba1 bc1 bd (Z31.same (Z5y.imp g3 (fun cs d h=>⟨n,h⟩)) (Z06 hW) (fun b h _=>h)) k3 z3)
   have HB2:=Z01 (fun W (hW:Below w.heap.size w W)=>HS.out S W ea1 ec1 es (Z31.same (Z5y.imp g4 (fun cs d h=>⟨n,h⟩)) (Z06 hW) (fun b h _=>h)) k4 z4)
   obtain ⟨q,hq⟩:=Z9m.bound g2
   have HL:=Z01 hq
   have HKL:=Z01 k2
   have HZL:=Z01 z2
   have hn1:=k2.1
   obtain ⟨x0,x1,x2,x3,x4,x5⟩:=HF.out wr hb
   have hsz:=hb.size
   clear t1 H he g1 g2 g3 g4 HI HS HK HZ hze hke k2 k3 k4 z2 z3 z4 hq
   go_upto_region 5 with fail
   go_cut [3] from 6 to 62 (fun v3 wx => ∃ x:Int,v3 = .int .i64 x∧Below w.heap.size w wx)
   case first =>
    go_region_held3 (fun W=>W.cell? ⟨b1,o1+j*6,none⟩=some (.string kd)∧W.cell? ⟨b1,o1+j*6+1,none⟩=some (.string nm)∧W.cell? ⟨b1,o1+j*6+2,none⟩=some (.slice pa pl.length pc)∧W.cell? ⟨b1,o1+j*6+3,none⟩=some (.slice la1 el1.length lc1)∧W.cell? ⟨b1,o1+j*6+4,none⟩=some (.slice ba1 bd.length bc1)∧W.cell? ⟨b1,o1+j*6+5,none⟩=some (.slice ea1 es.length ec1)) (first | go_keep | with_reducible exact HF.out _ hbA1 | with_reducible exact HF.out _ hbA2) (first
     | (go_at_call_of 5 ba1;refine (HB1.out _ (by first | exact hb | exact hb.drew | exact below_drewN _ hb)).mono ?_;rintro ev w1 ⟨y1,rfl,hb1⟩;have hbA1:Below w.heap.size w w1:=(by first | exact hb.drew.trans (hb1.mono (by simp;omega)) | exact (below_drewN _ hb).trans (hb1.mono (by simp;omega)) | exact hb.trans (hb1.mono hsz)))
     | (go_at_call_of 5 ea1;refine (HB2.out _ hbA1).mono ?_;rintro ev w2 ⟨y2,rfl,hb2⟩;have hbA2:Below w.heap.size w w2:=hbA1.trans (hb2.mono hbA1.size)))
    all_goals (go_wp2_with fail;go_meet;exact ⟨_,rfl,hbA2⟩)
   case rest =>
    obtain ⟨xq,rfl,hbC⟩:=hcut
    have HBC:=Z01 hbC
    clear x0 x1 x2 x3 x4 x5 hbC
    go_wp2_with fail
    go_loopg [3,5] (el1.length+1) (fun gk v3 v5 wr => ∃ (i:Nat) (x:Int),gk=el1.length+1 - i∧i≤el1.length∧v3 = .int .i64 x∧v5 = .int .i64 (i:Int)∧Below w.heap.size w wr)
    case atStart=>exact ⟨0,_,rfl,Nat.zero_le _,rfl,rfl,HBC.out⟩
    case round =>
     obtain ⟨i,x,hgk,hi,rfl,rfl,hb⟩:=hrel
     rename_i gk2 _
     have HG2:=Z01 hgk
     clear hgk
     obtain ⟨x0,x1,x2,x3,x4,x5⟩:=HF.out _ hb
     have hi0:(0:Int)≤(i:Int):=by omega
     have hk1:=Z02 x0
     by_cases hlt2:i<el1.length
     ·have hI2:(i:Int)<(el1.length:Int):=by omega
      obtain ⟨b2,o2,rfl,_,t2⟩:=HL.out (by omega)
      obtain ⟨e2,he2⟩:∃ e,el1[i]?=some e:=⟨el1[i],by simp [hlt2]⟩
      obtain ⟨d0,d1,d2,d3,d4,y0,y1,y2,y3,y4,hr2⟩:=t2 i e2 he2
      have hl2:=Z02 y0
      have y0:=(hb.cell (p:=⟨b2,o2+i*5,none⟩) hl2).trans y0
      have y1:=(hb.cell (p:=⟨b2,o2+i*5+1,none⟩) hl2).trans y1
      have y2:=(hb.cell (p:=⟨b2,o2+i*5+2,none⟩) hl2).trans y2
      have y3:=(hb.cell (p:=⟨b2,o2+i*5+3,none⟩) hl2).trans y3
      have y4:=(hb.cell (p:=⟨b2,o2+i*5+4,none⟩) hl2).trans y4
      have hk2:=Z02 y0
      have HC:=Z01 (fun W (hW:Below w.heap.size w W)=>Zp8 q S W d0 d1 d2 d3 d4 e2 (Z2m (Z06 hW) (fun b h _=>h) q _ _ hr2) (HKL.out.2 e2 (List.mem_of_getElem? he2)) (HZL.out e2 (List.mem_of_getElem? he2)))
      have HB:=Z01 hb
      clear t2 HL he2 hr2
      go_wp2_with fail
      refine (HC.out _ HB.out).mono ?_
      rintro ev w3 ⟨y,rfl,hb3⟩
      have HB3:=Z01 (HB.out.trans (hb3.mono HB.out.size))
      clear hb3 hb x0 x1 x2 x3 x4 x5 y0 y1 y2 y3 y4 hk1 hk2
      go_wp2_with fail
      go_roundg (el1.length+1 - (i+1))
      case measure=>have:=HG2.out;omega
      case rel=>exact ⟨i+1,_,rfl,by omega,rfl,by go_num,HB3.out⟩
     ·have HB:=Z01 hb
      clear hb HL
      go_wp2_with fail
      go_roundg (el.length+1 - (j+1))
      case measure=>have:=HG.out;omega
      case rel=>exact ⟨j+1,_,rfl,by omega,rfl,by go_num,HB.out⟩
  ·clear H
   go_wp2
   go_ret
   first | exact ⟨⟨_,rfl⟩,hb⟩ | exact ⟨_,rfl,hb⟩
theorem Zoy:∀ D,WtS D
 | 0=>Zbw 0 (fun m h=>by omega)
 | D+1=>Zbw (D+1) (fun m h=>by
  have e:D=m:=by omega
  exact e ▸ Zoy D)
end Go.Proofs.YtflcohidmemfpaaGreatDoor
