/- Reached of any memory (the program's), by a walk. -/
import Derived.Test.YtlkcbdinlfeoiaaGreatDoorMemGH
namespace Go.Proofs.YtlkcbdinlfeoiaaGreatDoor
open Go.Proofs.Tryz Go.RowKit
set_option maxHeartbeats 8000000
set_option maxRecDepth 100000
section
open Go.Maps
def Z9u (l:List Nat):List Value:=l.map fun (f:Nat)=>Value.int .i64 (f:Int)
theorem Zqy:∃ i0,prog.info? 3=some i0/\i0.zero=some (.int .i64 0)/\i0.size=1/\i0.bytes=8:=U3g (by kernel_rfl)
theorem Zjh {l:List Nat}{k f:Nat} (h:l[k]?=some f):Z9u (l.take (k+1))=Z9u (l.take k) ++ [.int .i64 (f:Int)]:=by
 unfold Z9u
 rw [U1g,h,U1b]
 rfl
def Zfo (rr:List Nat) (w:World) (ev:Ending) (w':World):Prop:=∃ ao cap,ev = .returned (.tuple #[.slice ao rr.length cap,.nilIface])/\Z4g w' (.slice ao rr.length cap) rr.length (Z9u rr)/\Below w.heap.size w w'
def Za8 (rr:List Nat) (w:World) (ev:Ending) (w':World):Prop:=∃ ao cap,ev = .returned (.tuple #[.slice ao rr.length cap,.nilIface])/\w'.ownsRow w.heap.size 3 1 (.slice ao rr.length cap) rr.length (Z9u rr)/\Below w.heap.size w w'
theorem Znu {w:World}{B B' t n:Nat}{v:Value}{xs:List Value} (h:w.ownsRow B t 1 v n xs) (hB:B'<=B):w.ownsRow B' t 1 v n xs:=by
 rcases h with ⟨e0,e1 | ⟨g,cap,cur,e1,e2,e3⟩⟩
 ·exact ⟨e0,.inl e1⟩
 ·exact ⟨e0,.inr ⟨g,cap,cur,e1,U0n hB e2,e3⟩⟩
theorem Z6k (a:Nat->Addr) (p:Nat) (m:MD) (vs:List Nat) (hS:m.Shape vs) (hCr:m.cardsB=true) (h64:MD64 m) (bR:m.R.length<=300000) (bK:m.K.length<=300000) (bI:m.I.length<=300000) (w:World) (E:MErr3 a w) (R:Z86 p m w) :
  Calls prog 53 #[.pointer (some ⟨p,0,none⟩)] w (Za8 (m.reach vs) w):=by
 have ks:=Z5z a p m h64 bR bK bI w E R
 have HE:=Z00 E
 have HR:=Z00 R
 have H64:=Z00 h64
 have HSS:=Z00 hS
 obtain ⟨i0,hi0,hz0,hz1,hz2⟩:=Zqy
 clear E R h64
 go_enter func53,ntmps53
 go_wp2_with fail
 refine ks.mono ?_
 clear ks
 rintro ev w1 ⟨hb1,⟨us,bh,hs,hC,rfl,hm,_⟩ | ⟨us,hs,hC,rfl⟩ | ⟨hno,rfl⟩⟩
 rotate_left
 ·rw [hCr] at hC;cases hC
 ·exact absurd hS (hno vs)
 have hus:=hS.one hs
 subst hus
 obtain ⟨cur,h1,_⟩:=id hm
 obtain ⟨b,cW,vR,vK,vI,vC,X,GRR⟩:=Zti a p bh m us hs H64.out bR w1 (HE.out.below hb1).we (HR.out.below hb1) hm.heads (Z01 h1)
 have kr:=Zdq X m.R GRR
 have hU:=Z1h hs H64.out
 have hfew:=X.few
 have hol:=hU.len
 obtain ⟨rr,hrr⟩:∃ rr,rr=m.reach us:=⟨_,rfl⟩
 rw [show Z10 m.F (us.length+1) (Z0n [] m.R) 0=rr from hrr.symm] at kr
 rw [<-hrr] at hU hol
 have HRR:=Z00 hrr
 have HB1:=Z00 hb1
 clear h1 hm X GRR hU hrr hs hC hb1 hS
 go_wp2_with fail
 refine kr.mono ?_
 rintro ev w2 ⟨B,qm,qh,qg,vO,bm,rfl,hg,G⟩
 clear kr
 obtain ⟨vO',bm',n,D,xs,k1,k2,k3,_,_,_,_,_,_,_,_⟩:=G.gr
 rw [hg] at k1
 cases k1
 obtain ⟨oo,oc,rfl⟩:=Z2w k2
 have HROW:=Z00 (Z2p k2)
 have HK3:=Z00 k3
 have HB2:Hid (Below w.heap.size w w2):=HB1.out.trans (G.below.mono HB1.out.size)
 have hgf:=Zqq
 clear hg G k2 k3
 go_wp2_with fail
 clear hgf
 go_loopg [6,22] (rr.length+1) (fun gk v6 v22 wr => ∃ (k cp:Nat) (oa:Option Addr),gk=rr.length+1 - k/\k<=rr.length/\v22 = .int .i64 (k:Int)/\v6 = .slice oa k cp/\Below w2.heap.size w2 wr/\Hid (wr.ownsRow w2.heap.size 3 1 (.slice oa k cp) k (Z9u (rr.take k))))
 case atStart=>exact ⟨0,0,none,rfl,U0x _,rfl,rfl,U01 _ _,Z00 (U3t _ _ _ _)⟩
 case round =>
  obtain ⟨k,cp,oa,hgk,hk,rfl,rfl,hb,hown⟩:=hrel
  have HG:=Z00 hgk
  have hk0:(0:Int)<=(k:Int):=by omega
  have HB:=Z00 hb
  clear hgk hb
  by_cases hlt:k<rr.length
  ·have hI:(k:Int)<(rr.length:Int):=by omega
   obtain ⟨f,hf⟩:∃ f,rr[k]?=some f:=⟨_,U03 hlt⟩
   obtain ⟨cs,hxs,ao,cap,rfl,hcap,hao⟩:=HK3.out.2 k f hf
   obtain ⟨_,_,e,_,f1⟩:=HROW.out
   cases e
   obtain ⟨p1,o1,rfl,l1,g1⟩:=f1 (by omega)
   have r0:wr.cell? ⟨p1,o1+k*3,none⟩=some (.int .i64 (f:Int)):=(HB.out.cell (p:=⟨p1,o1+k*3,none⟩) l1).trans (g1 (k*3) _ (Z9l HK3.out.three hxs 0 (by omega)))
   have r1:wr.cell? ⟨p1,o1+k*3+1,none⟩=some (.int .i64 (m.F f / 4 % 256)):=(HB.out.cell (p:=⟨p1,o1+k*3+1,none⟩) l1).trans (g1 (k*3+1) _ (Z9l HK3.out.three hxs 1 (by omega)))
   have r2:wr.cell? ⟨p1,o1+k*3+2,none⟩=some (.slice ao (szN (m.F f)) cap):=(HB.out.cell (p:=⟨p1,o1+k*3+2,none⟩) l1).trans (g1 (k*3+2) _ (Z9l HK3.out.three hxs 2 (by omega)))
   have HST:=Z00 (Zjh hf)
   generalize m.F f / 4 % 256=kd at *
   generalize szN (m.F f)=sz at *
   generalize Z9u (rr.take k)=IV at *
   clear g1 f1 hf hxs hcap hao
   have hwo:=Z08 hown.out
   go_upto_region 8 with fail
   obtain ⟨w3,hw3⟩:∃ w3,w3=wr.alloc (.cells #[.int .i64 (f:Int),.int .i64 kd,.slice ao sz cap] 141):=⟨_,rfl⟩
   obtain ⟨q,hq⟩:∃ q,q=wr.heap.size:=⟨_,rfl⟩
   have ob:w3.heap[q]?=some (.cells #[.int .i64 (f:Int),.int .i64 kd,.slice ao sz cap] 141):=by rw [hw3,hq];exact U0b _ _
   have b3:Below w2.heap.size w2 w3:=by rw [hw3];exact HB.out.alloc HB.out.size _
   have own3:Hid (w3.ownsRow w2.heap.size 3 1 (.slice oa k cp) k IV):=by rw [hw3];exact hown.out.alloc _
   have c0:w3.cell? ⟨q,0,none⟩=some (.int .i64 (f:Int)):=by rw [U06 _ _ 0 _ _ _ ob];rfl
   rw [<-hw3,<-hq]
   have HB3:=Z00 b3
   clear hw3 hq ob b3 hown r0 r1 r2 hwo
   go_wp2_with (first | (at_builtin;refine wpList_append_lies _ rfl _ _ _ rfl w2.heap.size 3 i0 (.int .i64 0) 1 8 underlying100 hi0 hz0 hz1 hz2 rfl (by decide) (.slice oa k cp) k IV rfl (own3.out.alloc _) ⟨w3.heap.size,0,none⟩ 1 1 [.int .i64 (f:Int)] rfl rfl (U2j (cs:=#[.int .i64 (f:Int)]) (t:=3) (U0b _ _)) (fun u hu=>by simp at hu;subst hu;rfl) (by decide) (by unfold maxLen;omega) (by omega) (by have:=HB3.out.size;simp;omega) _ rfl ?_;intro g' cap' w4 hown4 hgrow4 hat4 hlt4))
   go_roundg (rr.length+1 - (k+1))
   case measure=>have:=HG.out;omega
   case rel =>
    refine ⟨k+1,cap',some ⟨g',0,none⟩,rfl,by omega,by go_num,rfl,(HB3.out.alloc HB3.out.size _).grown hgrow4 (by have:=HB3.out.size;simp;omega) (fun k hk=>(Z08 own3.out k hk).1),?_⟩
    show World.ownsRow _ _ _ _ _ _ _
    rw [HST.out]
    exact hown4
  ·have hI:¬ (k:Int)<(rr.length:Int):=by omega
   have hkk:k=rr.length:=by omega
   have HE:Hid (Za8 (m.reach us) w (.returned (.tuple #[.slice oa k cp,.nilIface])) wr):=by
    rw [<-HRR.out]
    have h1:=Znu hown.out HB2.out.size
    rw [hkk,U13 (U02 _)] at h1
    rw [hkk]
    exact ⟨oa,cp,rfl,h1,HB2.out.trans (HB.out.mono HB2.out.size)⟩
   clear hkk hown
   go_wp2_with fail
   first | exact HE.out | (go_ret2;exact HE.out)
theorem Zef (a:Nat->Addr) (p:Nat) (m:MD) (vs:List Nat) (hS:m.Shape vs) (hCr:m.cardsB=true) (h64:MD64 m) (bR:m.R.length<=300000) (bK:m.K.length<=300000) (bI:m.I.length<=300000) (w:World) (E:MErr3 a w) (R:Z86 p m w) :
  Calls prog 53 #[.pointer (some ⟨p,0,none⟩)] w (Zfo (m.reach vs) w):=by
 refine (Z6k a p m vs hS hCr h64 bR bK bI w E R).mono ?_
 rintro ev w' ⟨ao,cap,e,h1,h2⟩
 exact ⟨ao,cap,e,Z2p h1,h2⟩
end
theorem Zf4 (a:Nat->Addr) (p:Nat) (m:MD) (vs:List Nat) (hS:m.Shape vs) (hC:m.cardsB=true) (h64:MD64 m) (bR:m.R.length<=300000) (bK:m.K.length<=300000) (bI:m.I.length<=300000) (w:World) (E:MErr3 a w) (R:Z86 p m w) :
  Calls prog 164 #[.pointer (some ⟨p,0,none⟩)] w fun ev w'=>ev = .returned .nilIface/\Below w.heap.size w w':=by
 have ks:=Zdr a p m vs hS hC h64 bR bK bI w E R
 go_enter func164,ntmps164
 go_wp2_with fail
 refine ks.mono ?_
 rintro ev w1 ⟨bh,rfl,_,_,hb⟩
 go_wp2_with fail
 go_ret
 exact ⟨rfl,hb⟩
structure Apart (g:Nat) (w w':World):Prop where
 os:w'.os=w.os
 tape:w'.tape=w.tape
 output:w'.output=w.output
 size:w'.heap.size=w.heap.size
 block:∀ k,k≠g->w'.heap[k]?=w.heap[k]?
theorem Apart.below {g B:Nat}{w0 w w':World} (h:Apart g w w') (hb:Below B w0 w) (hg:B<=g):Below B w0 w':=⟨h.os.trans hb.os,h.tape.trans hb.tape,h.output.trans hb.output,by rw [h.size];exact hb.size,fun k hk=>(h.block k (by omega)).trans (hb.block k hk)⟩
theorem Z40 {P:Program}{w:World}{ops:Array Oper}{rest:List Oper}{o:Oper}{a:Act}{Q:Exit->Act->World->Prop} (hgd:o.guard=none) (d s:Operand) (dT sT:TypeId)
  (ho:o.op = .call { callee:=.builtin .copy,args:=#[d,s],argTypes:=#[dT,sT] }) (elem:TypeId) (hu:P.underlying dT=some (.slice elem)) (hsz:(P.info? elem).map (·.size)=some 1)
  (dp sp:Option Addr) (dLen dCap sLen sCap:Nat) (hd:a.eval d = .slice dp dLen dCap) (hs:a.eval s = .slice sp sLen sCap)
  (g off:Nat) (cur:List Value) (t:TypeId) (hg:w.heap[g]?=some (.cells cur.toArray t (0,0))) (cs:List Value) (hn:cs.length=Nat.min sLen dLen)
  (hpos:0<cs.length->dp=some ⟨g,off,none⟩ /\ ∃ ad,sp=some ad /\ ∀ j v,cs[j]?=some v->w.cell? (ad.add j)=some v)
  (hfit:off+cs.length<=cur.length) (h1:∀ v∈cs,v.oneCell'=true)
  (h:∀ w',Hid (w'.heap[g]?=some (.cells (splice cur off cs).toArray t (0,0)))->Hid (Apart g w w')->wpList P ops Q rest (a.put o.dst (goInt cs.length)) w') :
  wpList P ops Q (o::rest) a w:=by
 by_cases h0:cs.length=0
 ·obtain rfl:cs = []:=U2l h0
  refine wpList_copy_nothing hgd d s dT sT ho elem hu hsz dp sp dLen dCap sLen sCap hd hs (by simpa using hn.symm) ?_
  exact h w (show _=_ by simpa [splice] using hg) ⟨rfl,rfl,rfl,rfl,fun _ _=>rfl⟩
 ·obtain ⟨rfl,ad,rfl,hsrc⟩:=hpos (by omega)
  refine wpList_copy_own hgd d s dT sT ho elem hu hsz g off dLen dCap ad sLen sCap hd hs cur.toArray t hg cs hn hsrc (by simpa using hfit) h1 ?_
  exact h _ (show _=_ by simpa [splice] using setRow_heap w g _ _ t _ hg) ⟨rfl,rfl,rfl,by simp [World.setRow],fun k hk=>setRow_other w g k _ hk⟩
end Go.Proofs.YtlkcbdinlfeoiaaGreatDoor
