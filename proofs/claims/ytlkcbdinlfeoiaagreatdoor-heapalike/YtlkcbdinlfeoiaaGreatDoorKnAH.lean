/- Package mem: what can be come to, one word more (reach's closure), by a contract. -/
import Derived.Test.YtlkcbdinlfeoiaaGreatDoorKnAF
namespace Go.Proofs.YtlkcbdinlfeoiaaGreatDoor
open Go.Proofs.Tryz Go.RowKit
set_option maxHeartbeats 8000000
set_option maxRecDepth 100000
set_option linter.unusedSimpArgs false
section
open Go.Maps
def GObj (b:Nat) (F:Nat->Int) (f:Nat) (cs:List Value):Prop:=∃ ao cap,cs = [.int .i64 (f:Int),.int .i64 (F f / 4 % 256),.slice ao (szN (F f)) cap]/\szN (F f)<=cap/\(0<szN (F f)->ao=some ⟨b,f+1,none⟩)
def Zd8 (b:Nat) (F:Nat->Int) (out:List Nat) (xs:List (List Value)):Prop:=xs.length=out.length /\ ∀ (j f:Nat),out[j]?=some f -> ∃ cs,xs[j]?=some cs/\GObj b F f cs
theorem Zma (b:Nat) (F:Nat->Int):Zd8 b F [] []:=⟨rfl,fun j f h=>by simp at h⟩
theorem Zim {b:Nat}{F:Nat->Int}{out:List Nat}{xs:List (List Value)} (h:Zd8 b F out xs) {f:Nat}{cs:List Value} (hc:GObj b F f cs):Zd8 b F (out ++ [f]) (xs ++ [cs]):=by
 refine ⟨by simp [h.1],fun j g hj => ?_⟩
 rcases U2w j out.length with hl | hl
 ·rw [U10 hl] at hj
  obtain ⟨c,h1,h2⟩:=h.2 j g hj
  exact ⟨c,by rw [U10 (by rw [h.1];exact hl)];exact h1,h2⟩
 ·rw [U12 hl] at hj
  have hz:j - out.length=0:=by
   have:=(U0e.1 hj).1
   simp at this
   omega
  rw [hz] at hj
  simp at hj
  subst hj
  exact ⟨cs,by rw [U12 (by rw [h.1];exact hl),h.1,hz];rfl,hc⟩
structure GNum (D:DataW Unit) (out:List Nat):Prop where
 isMap:IsMap D
 has:∀ f:Nat,has D (.int .u64 (((f:Int)+1)*4))=decide (f∈out)
 num:∀ (j f:Nat),out[j]?=some f->D.atKey (.int .u64 (((f:Int)+1)*4)) (.lit (.int .i64 0)) = .lit (.int .i64 (j:Int))
 only:∀ x:Int,Maps.has D (.int .u64 x)=true -> ∃ f:Nat,f∈out/\x=((f:Int)+1)*4
theorem Zp7:GNum (.map []) []:=⟨⟨[],rfl⟩,fun f=>by simp [Maps.has],fun j f h=>by simp at h,fun x h=>by simp [Maps.has] at h⟩
theorem Zlg {D:DataW Unit}{out:List Nat} (h:GNum D out) {f:Nat} (hf:f ∉ out):GNum (D.put (.int .u64 (((f:Int)+1)*4)) (.lit (.int .i64 (out.length:Int)))) (out ++ [f]):=by
 have ne:∀ g:Nat,g≠f->(Lit.int .u64 (((g:Int)+1)*4))≠(Lit.int .u64 (((f:Int)+1)*4)):=fun g hg e=>by
  simp only [Lit.int.injEq,true_and] at e
  omega
 refine ⟨h.isMap.put _ _,fun g => ?_,fun j g hj => ?_,fun x hx => ?_⟩
 rotate_left 2
 ·by_cases e:x=((f:Int)+1)*4
  ·exact ⟨f,by simp,e⟩
  ·rw [has_put_other (fun h=>e (by simp only [Lit.int.injEq,true_and] at h;exact h))] at hx
   obtain ⟨g,hg,hxg⟩:=h.only x hx
   exact ⟨g,by simp [hg],hxg⟩
 ·by_cases e:g=f
  ·subst e
   rw [has_put_same h.isMap (by trivial)]
   simp
  ·rw [has_put_other (ne g e),h.has g]
   simp [e]
 ·by_cases e:g=f
  ·subst e
   rw [U4d h.isMap (by trivial)]
   rcases U2w j out.length with hl | hl
   ·rw [U10 hl] at hj
    exact absurd (U0a hj) hf
   ·have:=(U0e.1 hj).1
    simp at this
    obtain rfl:j=out.length:=by omega
    rfl
  ·rw [atKey_put_other (ne g e)]
   rcases U2w j out.length with hl | hl
   ·rw [U10 hl] at hj
    exact h.num j g hj
   ·rw [U12 hl] at hj
    have:=(U0e.1 hj).1
    simp at this
    have hz:j - out.length=0:=by omega
    rw [hz] at hj
    simp at hj
    exact absurd hj.symm e
structure GS (B p b bh nW qm qh qg:Nat) (F:Nat->Int) (out:List Nat) (w0 w:World):Prop where
 below:Below w0.heap.size w0 w
 lo:w0.heap.size<=B
 cm:w.cell? ⟨qm,0,none⟩=some (.pointer (some ⟨p,0,none⟩))
 ch:w.cell? ⟨qh,0,none⟩=some (.slice (some ⟨bh,0,none⟩) nW nW)
 lm:qm<B
 lh:qh<B
 gr:∃ (vO:Value) (bm n:Nat) (D:DataW Unit) (xs:List (List Value)),w.heap[qg]?=some (.cells #[vO,.map (some bm)] 138)/\w.ownsRow B 141 3 vO out.length xs.flatten/\Zd8 b F out xs/\w.ownsMap prog 81 (plainElem prog 3) bm n D/\n<=out.length/\GNum D out/\B<=bm/\B<=qg/\bm≠qg/\vO.ownBlock≠some qg/\vO.ownBlock≠some bm
theorem GS.keep {B p b bh nW qm qh qg:Nat}{F:Nat->Int}{out:List Nat}{w0 w w':World} (h:GS B p b bh nW qm qh qg F out w0 w) (hb:Below w.heap.size w w'):GS B p b bh nW qm qh qg F out w0 w':=by
 obtain ⟨vO,bm,n,D,xs,h1,h2,h3,h4,hr⟩:=h.gr
 exact ⟨h.below.trans (hb.mono h.below.size),h.lo,(hb.cell (p:=⟨qm,0,none⟩) (Z02 h.cm)).trans h.cm,(hb.cell (p:=⟨qh,0,none⟩) (Z02 h.ch)).trans h.ch,h.lm,h.lh,vO,bm,n,D,xs,(hb.block qg (Z01 h1)).trans h1,Z04 h2 (fun k hk=>hb.block k (Z08 h2 k hk).2),h3,h4.kept (Z11 hb) (by simp),hr⟩
end
section
open Go.Maps
structure Went (D:DataW Unit) (φ:Nat->Option Nat):Prop where
 isMap:IsMap D
 has:∀ f:Nat,Maps.has D (.int .i64 (f:Int))=(φ f).isSome
 at':∀ f t:Nat,φ f=some t->D.atKey (.int .i64 (f:Int)) (.lit (.int .i64 0)) = .lit (.int .i64 (t:Int))
theorem Zhq:Went (.map []) (fun _=>none):=⟨⟨[],rfl⟩,fun f=>by simp [Maps.has],fun f t h=>by cases h⟩
def upd (φ:Nat->Option Nat) (f t:Nat):Nat->Option Nat:=fun g=>if g=f then some t else φ g
theorem Zc0 {D:DataW Unit}{φ:Nat->Option Nat} (h:Went D φ) (f t:Nat):Went (D.put (.int .i64 (f:Int)) (.lit (.int .i64 (t:Int)))) (upd φ f t):=by
 have ne:∀ g:Nat,g≠f->(Lit.int .i64 (g:Int))≠(Lit.int .i64 (f:Int)):=fun g hg e=>by
  simp only [Lit.int.injEq,true_and] at e
  omega
 refine ⟨h.isMap.put _ _,fun g => ?_,fun g u hg => ?_⟩
 ·unfold upd
  by_cases e:g=f
  ·subst e
   rw [has_put_same h.isMap (by trivial),U09 rfl]
   rfl
  ·rw [has_put_other (ne g e),h.has g,U08 e]
 ·unfold upd at hg
  by_cases e:g=f
  ·subst e
   rw [U09 rfl] at hg
   cases hg
   rw [U4d h.isMap (by trivial)]
  ·rw [U08 e] at hg
   rw [atKey_put_other (ne g e)]
   exact h.at' g u hg
def Z0g (lo hi:Nat) (φ:Nat->Option Nat) (x:Int):Int × Bool:=if 0<=ptI x/\(lo:Int)<=ptI x/\ptI x<(hi:Int) then (match φ (ptI x).toNat with
 | none=>(2,false)
 | some t=>(((t:Int)+1)*4,true)) else (x,true)
theorem Zhp (lo hi:Int) (bm n f t B:Nat) (D:DataW Unit) (w:World) (hf:f<=300000) (ht:t<=300000) (hn:n<=1000000) (M:w.ownsMap prog 3 (plainElem prog 3) bm n D) (hBs:B<=w.heap.size) (hBm:B<=bm) :
  Calls prog 207 #[.agg #[.int .i64 lo,.int .i64 hi,.map (some bm)],.int .i64 (f:Int),.int .i64 (t:Int)] w fun ev w'=>ev = .returned (.tuple #[])/\(∃ n',n'<=n+1/\w'.ownsMap prog 3 (plainElem prog 3) bm n' (D.put (.int .i64 (f:Int)) (.lit (.int .i64 (t:Int)))))/\Below B w w' /\ ∀ k,k<w.heap.size->k≠bm->w'.heap[k]?=w.heap[k]?:=by
 have hkx:Hid (keyOf prog 3 (.int .i64 (f:Int))=some (.int .i64 (f:Int))):=U3h underlying3 (Zp9 (by omega) (by omega))
 have HM:=Z00 (M.alloc (.cells #[.int .i64 lo,.int .i64 hi,.map (some bm)] 238))
 have bl:=M.lt
 have hbm:¬ w.heap.size=bm:=by omega
 clear M
 go_enter func207,ntmps207
 go_wp2_with (first | (at_mapUpdate;refine U3e _ rfl _ _ _ 236 rfl 3 3 Zrj underlying236 _ bm n _ rfl HM.out (by unfold maxLen;omega) _ _ _ rfl rfl hkx.out _ [] (U4m underlying3 (Zp9 (by omega) (by omega))) ?_;intro w3 hown3 hgrow3))
 go_end0
 refine ⟨rfl,⟨n+1,U02 _,hown3⟩,?_,fun k hk hkm => ?_⟩
 ·exact ((U01 B w).alloc hBs _).grown hgrow3 (by simp;omega) (fun j hj=>by cases hj;exact hBm)
 ·exact (hgrow3.block k (by simp;omega) (by simpa using hkm)).trans (((U01 w.heap.size w).alloc (U02 _) _).block k hk)
theorem Zbu (a:Nat->Addr) (lo hi:Nat) (bm n:Nat) (x:Int) (D:DataW Unit) (φ:Nat->Option Nat) (w:World) (hhi:hi<=300000) (h0:0<=x) (h1:x<18446744073709551616) (hφ:∀ f t,φ f=some t->t<=300000) (M:w.ownsMap prog 3 (plainElem prog 3) bm n D) (W:Went D φ) (E:WErr a w) :
  Calls prog 239 #[.agg #[.int .i64 (lo:Int),.int .i64 (hi:Int),.map (some bm)],.int .u64 x] w fun ev w'=>ev = .returned (.tuple #[.int .u64 (Z0g lo hi φ x).1,.bool (Z0g lo hi φ x).2])/\Below w.heap.size w w':=by
 obtain ⟨w1,hw1⟩:∃ w1,w1=w.alloc (.cells #[.int .i64 (lo:Int),.int .i64 (hi:Int),.map (some bm)] 238):=⟨_,rfl⟩
 have b1:Below w.heap.size w w1:=by rw [hw1];exact (U01 _ _).alloc (U02 _) _
 have n1:w1.heap[w.heap.size]?=some (.cells #[.int .i64 (lo:Int),.int .i64 (hi:Int),.map (some bm)] 238):=by rw [hw1];exact U0b _ _
 have M1:w1.ownsMap prog 3 (plainElem prog 3) bm n D:=by rw [hw1];exact M.alloc _
 have E1:=E.below b1
 have HC:Hid (∀ w2,Below w1.heap.size w1 w2->w2.cell? ⟨w.heap.size,0,none⟩=some (.int .i64 (lo:Int))/\w2.cell? ⟨w.heap.size,1,none⟩=some (.int .i64 (hi:Int))/\w2.cell? ⟨w.heap.size,2,none⟩=some (.map (some bm))/\w2.ownsMap prog 3 (plainElem prog 3) bm n D/\Below w.heap.size w w2):=fun w2 b2=>by
  have n2:=(b2.block _ (Z01 n1)).trans n1
  exact ⟨by rw [U06 _ _ _ _ _ _ n2];rfl,by rw [U06 _ _ _ _ _ _ n2];rfl,by rw [U06 _ _ _ _ _ _ n2];rfl,M1.kept (Z11 b2) (by simp),b1.trans (b2.mono b1.size)⟩
 by_cases hx:x % 4=0/\4<=x/\x / 4 - 1<=1099511627776
 ·have kt:=Z3h x hx.1 hx.2.1 hx.2.2 w1
  obtain ⟨f,hf⟩:∃ f:Nat,(f:Int)=x / 4 - 1:=⟨(x / 4 - 1).toNat,by omega⟩
  rw [<-hf] at kt
  have hfb:(f:Int)<=1099511627776:=by omega
  have hin:(lo:Int)<=(f:Int)/\(f:Int)<(hi:Int)->Z0g lo hi φ x=match φ f with
   | none=>(2,false)
   | some t=>(((t:Int)+1)*4,true):=fun h=>by
   have e:ptI x=(f:Int):=by unfold ptI;rw [U09 (by omega)];omega
   unfold Z0g
   rw [e,U09 ⟨by omega,h.1,h.2⟩]
   rfl
  have hout:¬ ((lo:Int)<=(f:Int)/\(f:Int)<(hi:Int))->Z0g lo hi φ x=(x,true):=fun h=>by
   unfold Z0g
   rw [U08]
   rintro ⟨c1,c2,c3⟩
   unfold ptI at c1 c2 c3
   split at c1 <;> omega
  rw [hw1] at kt
  have HW:=Z00 hw1
  have HE1:=Z00 E1
  have HF:=Z00 hf
  clear hx hf E1 E M M1 hw1 b1 n1
  by_cases cl:(f:Int)<(lo:Int)
  ·rw [hout (by omega)]
   clear hin hout W hφ
   go_enter func239,ntmps239
   go_wp2_with fail
   refine kt.mono ?_
   clear kt
   rintro ev w2 ⟨rfl,b2⟩
   rw [<-HW.out] at b2
   obtain ⟨c0,c1,c2,_,hb⟩:=HC.out w2 b2
   clear b2
   go_wp2_with fail
   go_ret2
   exact ⟨rfl,hb⟩
  ·by_cases ch:(f:Int)<(hi:Int)
   ·have hle:(lo:Int)<=(f:Int):=by omega
    have hnw:=hin ⟨hle,ch⟩
    have hkx:Hid (keyOf prog 3 (.int .i64 (f:Int))=some (.int .i64 (f:Int))):=U3h underlying3 (Zp9 (by omega) (by omega))
    have hhas:=W.has f
    cases hp:φ f with
    | none =>
     rw [hp] at hnw hhas
     rw [hnw]
     clear hin hout hnw
     go_enter func239,ntmps239
     go_wp2_with fail
     refine kt.mono ?_
     clear kt
     rintro ev w2 ⟨rfl,b2⟩
     rw [<-HW.out] at b2
     obtain ⟨c0,c1,c2,M2,hb⟩:=HC.out w2 b2
     have HM:=Z00 M2
     clear b2 M2
     go_wp2_with (first | (at_lookup;refine U1r _ rfl _ _ 236 rfl 3 3 .i64 Zrj underlying236 underlying3 (Z6r _) bm n _ rfl HM.out _ _ rfl hkx.out ?_;intro c0 hat hwc;clear hat hwc))
     go_ret2
     exact ⟨rfl,hb⟩
    | some t =>
     have hat:=W.at' f t hp
     have ht:=hφ f t hp
     rw [hp] at hnw hhas
     rw [hnw]
     have HAT:=Z00 hat
     clear hin hout hnw hat
     have ka:=fun w=>Z94 (t:Int) (by omega) (by omega) w
     go_enter func239,ntmps239
     go_wp2_with fail
     refine kt.mono ?_
     clear kt
     rintro ev w2 ⟨rfl,b2⟩
     rw [<-HW.out] at b2
     obtain ⟨c0,c1,c2,M2,hb⟩:=HC.out w2 b2
     have HM:=Z00 M2
     have HB2:=Z00 hb
     clear b2 M2 hb
     go_wp2_with (first | (at_lookup;refine U1r _ rfl _ _ 236 rfl 3 3 .i64 Zrj underlying236 underlying3 (Z6r _) bm n _ rfl HM.out _ _ rfl hkx.out ?_;intro c9 hat hwc;obtain rfl:c9=(t:Int):=(by have e:=HAT.out.symm.trans hat;cases e;rfl);clear hat hwc))
     refine (ka w2).mono ?_
     clear ka
     rintro ev w3 ⟨rfl,b3⟩
     have HB3:=Z00 (HB2.out.trans (b3.mono HB2.out.size))
     clear b3
     go_wp2_with fail
     go_quiet (fail)
     go_wp2_with fail
     go_ret2
     exact ⟨rfl,Z03 HB3.out⟩
   ·rw [hout (by omega)]
    clear hin hout W hφ
    have cl':(lo:Int)<=(f:Int):=by omega
    have ch':(hi:Int)<=(f:Int):=by omega
    go_enter func239,ntmps239
    go_wp2_with fail
    refine kt.mono ?_
    clear kt
    rintro ev w2 ⟨rfl,b2⟩
    rw [<-HW.out] at b2
    obtain ⟨c0,c1,c2,_,hb⟩:=HC.out w2 b2
    clear b2
    go_wp2_with fail
    go_ret2
    exact ⟨rfl,hb⟩
 ·have hnow:Z0g lo hi φ x=(x,true):=by
   unfold Z0g
   rw [U08]
   rintro ⟨c1,c2,c3⟩
   unfold ptI at c1 c2 c3
   split at c1 <;> omega
  rw [hnow]
  have kt:=Z67 a x h0 h1 hx w1 E1
  rw [hw1] at kt
  have HW:=Z00 hw1
  clear hw1 hnow hx W hφ E E1 M M1 b1 n1
  go_enter func239,ntmps239
  go_wp2_with fail
  refine kt.mono ?_
  clear kt
  rintro ev w2 ⟨rfl,b2⟩
  rw [<-HW.out] at b2
  obtain ⟨c0,c1,c2,_,hb⟩:=HC.out w2 b2
  clear b2
  unfold Z0p
  go_wp2_with fail
  go_ret2
  exact ⟨rfl,hb⟩
end
section
open Go.Maps
structure Aside (X:Nat->Prop) (w w':World):Prop where
 os:w'.os=w.os
 tape:w'.tape=w.tape
 output:w'.output=w.output
 size:w.heap.size<=w'.heap.size
 block:∀ k,k<w.heap.size -> ¬ X k->w'.heap[k]?=w.heap[k]?
theorem Aside.refl (X:Nat->Prop) (w:World):Aside X w w:=⟨rfl,rfl,rfl,U02 _,fun _ _ _=>rfl⟩
theorem Aside.trans {X:Nat->Prop}{w w' w'':World} (h:Aside X w w') (h':Aside X w' w''):Aside X w w'':=
 ⟨h'.os.trans h.os,h'.tape.trans h.tape,h'.output.trans h.output,U0n h.size h'.size,fun k hk hx=>(h'.block k (U0r hk h.size) hx).trans (h.block k hk hx)⟩
theorem Aside.mono {X Y:Nat->Prop}{w w':World} (h:Aside X w w') (hxy:∀ k,X k->Y k):Aside Y w w':=⟨h.os,h.tape,h.output,h.size,fun k hk hy=>h.block k hk (fun hx=>hy (hxy k hx))⟩
theorem Aside.of_below {X:Nat->Prop}{w w':World} (h:Below w.heap.size w w'):Aside X w w':=⟨h.os,h.tape,h.output,h.size,fun k hk _=>h.block k hk⟩
theorem Aside.below {X:Nat->Prop}{B:Nat}{w w':World} (h:Aside X w w') (hB:B<=w.heap.size) (hX:∀ k,k<B -> ¬ X k):Below B w w':=⟨h.os,h.tape,h.output,h.size,fun k hk=>h.block k (U0r hk hB) (hX k hk)⟩
theorem Aside.setCell {X:Nat->Prop}{w w':World} (h:Aside X w w') {g o:Nat} (hg:X g) (v:Value):Aside X w (w'.setCell ⟨g,o,none⟩ v):=
 h.trans ⟨rfl,rfl,rfl,by simp [World.setCell],fun k _ hx=>U3p _ _ _ _ (fun e=>hx (by rw [show k=g from e];exact hg))⟩
theorem Aside.cell {X:Nat->Prop}{w w':World} (h:Aside X w w') {g o:Nat}{v:Value} (hc:w.cell? ⟨g,o,none⟩=some v) (hx:¬ X g):w'.cell? ⟨g,o,none⟩=some v:=
 (U25 (a:=⟨g,o,none⟩) (h.block g (Z02 hc) hx)).trans hc
theorem Z0f {X:Nat->Prop}{P:Program}{k:TypeId}{R:Value->Option (DataW Unit × List MemPlace)}{b n:Nat}{D:DataW Unit}{w w':World} (h:w.ownsMap P k R b n D) (ha:Aside X w w') (hx:¬ X b):w'.ownsMap P k R b n D:=by
 have hlt:=h.lt
 obtain ⟨es,clock,hb,F,hs,hD⟩:=h
 exact ⟨es,clock,(ha.block b hlt hx).trans hb,F,hs,hD⟩
def Z1e (w w':World):Prop:=∀ (k:Nat) (c:Array Value) (t:TypeId),w.heap[k]?=some (.cells c t) -> ∃ c':Array Value,w'.heap[k]?=some (.cells c' t)/\c'.size=c.size
theorem Z1e.refl (w:World):Z1e w w:=fun _ c _ h=>⟨c,h,rfl⟩
theorem Z1e.trans {w w' w'':World} (h:Z1e w w') (h':Z1e w' w''):Z1e w w'':=fun k c t hk=>by
 obtain ⟨c1,h1,e1⟩:=h k c t hk
 obtain ⟨c2,h2,e2⟩:=h' k c1 t h1
 exact ⟨c2,h2,e2.trans e1⟩
theorem Z1e.of_below {w w':World} (h:Below w.heap.size w w'):Z1e w w':=fun _ c _ hk=>⟨c,(h.block _ (Z01 hk)).trans hk,rfl⟩
theorem Z1e.setCell {w w':World} (h:Z1e w w') (g o:Nat) (v:Value):Z1e w (w'.setCell ⟨g,o,none⟩ v):=h.trans fun k c _ hk=>by
 by_cases e:k=g
 ·subst e
  exact ⟨_,Z06 hk,by simp⟩
 ·exact ⟨c,(Z0a _ _ _ _ _ e).trans hk,rfl⟩
def Blk (g:Nat) (t:TypeId) (vs:List Value) (w:World):Prop:=∃ rest:List Value,w.heap[g]?=some (.cells (vs++rest).toArray t)
variable {g:Nat}{t:TypeId}{vs:List Value}{w w':World}
theorem Blk.lt (h:Blk g t vs w):g<w.heap.size:=by obtain ⟨_,h⟩:=h;exact Z01 h
theorem Blk.cell (h:Blk g t vs w) {j:Nat}{v:Value} (hj:vs[j]?=some v):w.cell? ⟨g,j,none⟩=some v:=by
 obtain ⟨r,h⟩:=h
 rw [U06 _ _ _ _ _ _ h,U3u,U10 (U0e.1 hj).1]
 exact hj
theorem Blk.frozen (h:Blk g t vs w) (j:Nat):w.frozen? ⟨g,j,none⟩=false:=by obtain ⟨r,h⟩:=h;simp [World.frozen?,h]
theorem Blk.set (h:Blk g t vs w) {j:Nat} (hj:j<vs.length) (v:Value):Blk g t (vs.set j v) (w.setCell ⟨g,j,none⟩ v):=by
 obtain ⟨r,h⟩:=h
 refine ⟨r,?_⟩
 rw [Z06 h,U00,List.set_append_left _ _ hj]
theorem Blk.same (h:Blk g t vs w) (he:w'.heap[g]?=w.heap[g]?):Blk g t vs w':=by obtain ⟨r,h⟩:=h;exact ⟨r,he.trans h⟩
theorem Blk.below (h:Blk g t vs w) (hb:Below w.heap.size w w'):Blk g t vs w':=h.same (hb.block _ h.lt)
theorem Blk.aside {X:Nat->Prop} (h:Blk g t vs w) (ha:Aside X w w') (hx:¬ X g):Blk g t vs w':=h.same (ha.block _ h.lt hx)
def Z4p (o n:Nat) (f:Int->Int) (L:List Int):List Int:=L.mapIdx fun i x=>if o<=i/\i<o+n then f x else x
theorem Z65 (o n:Nat) (f:Int->Int) (L:List Int):(Z4p o n f L).length=L.length:=by simp [Z4p]
theorem Z76 (o:Nat) (f:Int->Int) (L:List Int):Z4p o 0 f L=L:=by
 unfold Z4p
 apply U24 
 intro i
 rw [U3x]
 cases L[i]? with
 | none=>rfl
 | some x=>simp only [U48];rw [U08 (by omega)]
theorem Zc7 {o n:Nat}{f:Int->Int}{L:List Int}{i:Nat}{x:Int} (h:L[i]?=some x):(Z4p o n f L)[i]?=some (if o<=i/\i<o+n then f x else x):=by
 unfold Z4p
 rw [U3x,h]
 rfl
theorem Zit {o n:Nat}{f:Int->Int}{L:List Int}{x:Int} (h:L[o+n]?=some x):Z4p o (n+1) f L=(Z4p o n f L).set (o+n) (f x):=by
 apply U24
 intro i
 rw [U4i]
 unfold Z4p
 rw [U3x,U3x]
 by_cases e:o+n=i
 ·subst e
  rw [h,U09 rfl,U09 (by simpa using (U0e.1 h).1)]
  simp only [U48]
  rw [U09 (by omega)]
 ·rw [U08 e]
  cases L[i]? with
  | none=>rfl
  | some y =>
   simp only [U48]
   by_cases c:o<=i/\i<o+n
   ·rw [U09 c,U09 (by omega)]
   ·rw [U08 c,U08 (by omega)]
theorem Z49 {lo hi:Nat}{φ:Nat->Option Nat} (hφ:∀ f t,φ f=some t->t<=300000) {x:Int} (h0:0<=x) (h1:x<18446744073709551616):0<=(Z0g lo hi φ x).1/\(Z0g lo hi φ x).1<18446744073709551616:=by
 unfold Z0g
 split
 ·split
  ·exact ⟨by decide,by decide⟩
  ·rename_i t ht
   have:=hφ _ _ ht
   show 0<=((t:Int)+1)*4/\((t:Int)+1)*4<18446744073709551616
   omega
 ·exact ⟨h0,h1⟩
end
section
open Go.Maps
theorem Z4x {L:List Int}{i:Nat}{x:Int} (h:L[i]?=some x):(Z05 L)[i]?=some (.int .u64 x):=by unfold Z05;rw [U0g,h];rfl
theorem Z23 (L:List Int) (i:Nat) (x:Int):(Z05 L).set i (.int .u64 x)=Z05 (L.set i x):=by unfold Z05;rw [U35]
theorem Za5 (a:Nat->Addr) (lo hi bm n:Nat) (D:DataW Unit) (φ:Nat->Option Nat) (g o N cap:Nat) (L:List Int) (w:World) (hhi:hi<=300000) (hφ:∀ f t,φ f=some t->t<=300000) (hN:o+N<=L.length) (hL:L.length<=300000) (hU:U64 L) (M:w.ownsMap prog 3 (plainElem prog 3) bm n D) (W:Went D φ) (hgm:g≠bm) (E:∀ w',Aside (· = g) w w'->WErr a w') (R:Blk g 81 (Z05 L) w) :
  Calls prog 208 #[.agg #[.int .i64 (lo:Int),.int .i64 (hi:Int),.map (some bm)],.slice (some ⟨g,o,none⟩) N cap] w fun ev w'=>ev = .returned (.tuple #[])/\Blk g 81 (Z05 (Z4p o N (fun x=>(Z0g lo hi φ x).1) L)) w'/\Aside (· = g) w w'/\Z1e w w':=by
 obtain ⟨w1,hw1⟩:∃ w1,w1=w.alloc (.cells #[.int .i64 (lo:Int),.int .i64 (hi:Int),.map (some bm)] 238):=⟨_,rfl⟩
 have b1:Below w.heap.size w w1:=by rw [hw1];exact (U01 _ _).alloc (U02 _) _
 have n1:w1.heap[w.heap.size]?=some (.cells #[.int .i64 (lo:Int),.int .i64 (hi:Int),.map (some bm)] 238):=by rw [hw1];exact U0b _ _
 have hgs:=R.lt
 have HR1:=Z00 (R.below b1)
 have HM:=Z00 M
 have HE:=Z00 E
 have HW:=Z00 W
 have HP:=Z00 hφ
 have HU:=Z00 hU
 have HA1:Hid (Aside (· = g) w w1):=Aside.of_below b1
 have HZ1:Hid (Z1e w w1):=Z1e.of_below b1
 have HN1:=Z00 n1
 have hsz:w.heap.size<w1.heap.size:=Z01 n1
 have HS:=Z00 hsz
 have hgq:¬ w.heap.size=g:=by omega
 have HW1:=Z00 hw1
 clear b1 n1 R M E W hφ hU hw1
 have hmw:Hid (∀ wr,Aside (· = g) w1 wr->wr.ownsMap prog 3 (plainElem prog 3) bm n D/\wr.cell? ⟨w.heap.size,0,none⟩=some (.int .i64 (lo:Int))/\wr.cell? ⟨w.heap.size,1,none⟩=some (.int .i64 (hi:Int))/\wr.cell? ⟨w.heap.size,2,none⟩=some (.map (some bm))):=fun wr ha=>by
  refine ⟨?_,?_,?_,?_⟩
  ·exact Z0f (Z0f HM.out HA1.out (fun e=>hgm e.symm)) ha (fun e=>hgm e.symm)
  all_goals (refine ha.cell (by rw [U06 _ _ _ _ _ _ HN1.out];rfl) hgq)
 go_enter func208,ntmps208
 go_wp2_with fail
 rw [<-HW1.out]
 go_loopg [8] (N+1) (fun gk v8 wr => ∃ i:Nat,gk=N+1 - i/\i<=N/\v8 = .int .i64 (i:Int)/\Hid (Aside (· = g) w1 wr)/\Hid (Blk g 81 (Z05 (Z4p o i (fun x=>(Z0g lo hi φ x).1) L)) wr)/\Hid (Z1e w1 wr))
 case atStart=>exact ⟨0,rfl,U0x _,rfl,Aside.refl _ _,by rw [Z76];exact HR1,Z1e.refl _⟩
 case round =>
  obtain ⟨i,hgk,hi',rfl,hA,hB,hZ⟩:=hrel
  have HG:=Z00 hgk
  clear hgk
  have hi0:(0:Int)<=(i:Int):=by omega
  by_cases hlt:i<N
  ·have hI:(i:Int)<(N:Int):=by omega
   obtain ⟨x,hx⟩:∃ x,L[o+i]?=some x:=⟨_,U03 (by omega)⟩
   have hm:=Zc7 (o:=o) (n:=i) (f:=fun x=>(Z0g lo hi φ x).1) hx
   rw [U08 (by omega)] at hm
   have cx:=hB.out.cell (Z4x hm)
   obtain ⟨m1,p0,p1,p2⟩:=hmw.out _ hA.out
   have hux:=HU.out x (U0a hx)
   have kn:=Zbu a lo hi bm n x D φ wr hhi hux.1 hux.2 HP.out m1 HW.out (HE.out _ (HA1.out.trans hA.out))
   have HX:=Z00 hx
   clear hm m1 hx hux
   go_wp2_with fail
   refine kn.mono ?_
   clear kn
   rintro ev w2 ⟨rfl,b2⟩
   have hA2:Aside (· = g) w1 w2:=hA.out.trans (Aside.of_below b2)
   have B2:=hB.out.below b2
   have hl2:o+i<(Z05 (Z4p o i (fun x=>(Z0g lo hi φ x).1) L)).length:=by rw [Z3y,Z65];omega
   obtain ⟨u2,cu2⟩:∃ u,w2.cell? ⟨g,o+i,none⟩=some u:=⟨_,B2.cell (U03 hl2)⟩
   have fz:=B2.frozen (o+i)
   have B3:=Z00 (B2.set hl2 (.int .u64 (Z0g lo hi φ x).1))
   have Z3:=Z00 ((hZ.out.trans (Z1e.of_below b2)).setCell g (o+i) (.int .u64 (Z0g lo hi φ x).1))
   have A3:=Z00 (hA2.setCell (g:=g) (o:=o+i) rfl (.int .u64 (Z0g lo hi φ x).1))
   clear b2 hA2 B2 hl2 cx p0 p1 p2 hA hB hZ
   obtain ⟨y,hy⟩:∃ y,y=(Z0g lo hi φ x).1:=⟨_,rfl⟩
   rw [<-hy] at A3 B3 Z3 ⊢
   have HY:=Z00 hy
   clear hy
   go_wp2_with fail
   go_roundg (N+1 - (i+1))
   case measure=>have:=HG.out;omega
   case rel=>exact ⟨i+1,rfl,by omega,by go_num,A3,by rw [Zit HX.out,<-Z23,<-HY.out];exact B3,Z3⟩
  ·have hI:¬ (i:Int)<(N:Int):=by omega
   obtain rfl:i=N:=by omega
   go_wp2_with fail
   go_end0
   exact ⟨rfl,hB.out,HA1.out.trans hA.out,HZ1.out.trans hZ.out⟩
end
section
open Go.Maps
def Z20 (t:TypeId) (k:Nat) (v:Value) (n:Nat) (vs:List Value) (w:World):Prop:=∃ ao cap,v = .slice ao n cap/\n<=cap/\vs.length=n*k/\(0<n -> ∃ g,ao=some ⟨g,0,none⟩/\Blk g t vs w)
def Z1n (v:Value) (k:Nat):Prop:=∃ (o n cap:Nat),0<n/\v = .slice (some ⟨k,o,none⟩) n cap
theorem Zbs {g g' o n cap:Nat} (h:Z1n (.slice (some ⟨g,o,none⟩) n cap) g'):g'=g:=by obtain ⟨_,_,_,_,e⟩:=h;cases e;rfl
theorem Z20.aside {X:Nat->Prop}{t:TypeId}{k n:Nat}{v:Value}{vs:List Value}{w w':World} (h:Z20 t k v n vs w) (ha:Aside X w w') (hx:∀ g,Z1n v g -> ¬ X g):Z20 t k v n vs w':=by
 obtain ⟨ao,cap,rfl,hc,hl,hf⟩:=h
 refine ⟨ao,cap,rfl,hc,hl,fun hn => ?_⟩
 obtain ⟨g,rfl,hb⟩:=hf hn
 exact ⟨g,rfl,hb.aside ha (hx g ⟨0,n,cap,hn,rfl⟩)⟩
theorem Z20.below {t:TypeId}{k n:Nat}{v:Value}{vs:List Value}{w w':World} (h:Z20 t k v n vs w) (hb:Below w.heap.size w w'):Z20 t k v n vs w':=h.aside (X:=fun _=>False) (Aside.of_below hb) (fun _ _ h=>h)
theorem Zgt {B:Nat}{t:TypeId}{k n:Nat}{v:Value}{xs ys:List Value}{w w':World} (h:w.ownsRow B t k v n xs) (hs:Z1e w w') (hr:Z20 t k v n ys w'):w'.ownsRow B t k v n ys:=by
 obtain ⟨ao,cap',e,_,hl,hf⟩:=hr
 refine ⟨hl,?_⟩
 rcases h.2 with ⟨rfl,rfl⟩ | ⟨g,cap,cur,rfl,hb,hg,hc,hm,hz,_⟩
 ·exact .inl ⟨rfl,rfl⟩
 ·obtain ⟨c',hg',hz'⟩:=hs g cur t hg
  refine .inr ⟨g,cap,c',rfl,hb,hg',hc,hm,hz'.trans hz,?_⟩
  rcases U26 n with h0 | h0
  ·subst h0
   rw [Nat.zero_mul,List.take_zero]
   exact (U2l (by rw [hl,Nat.zero_mul])).symm
  ·cases e
   obtain ⟨g',e2,rest,hbl⟩:=hf h0
   cases e2
   rw [hg'] at hbl
   have e3:c'=(ys++rest).toArray:=by injection (U1h hbl)
   rw [e3,<-hl]
   simp
theorem Zmi (f:Int->Int) (L:List Int):Z4p 0 L.length f L=L.map f:=by
 apply U24
 intro i
 rw [U0g]
 cases h:L[i]? with
 | none=>show (Z4p 0 L.length f L)[i]?=none;rw [List.getElem?_eq_none_iff,Z65];exact List.getElem?_eq_none_iff.1 h
 | some x=>rw [Zc7 h,U09 ⟨by omega,by have:=(U0e.1 h).1;omega⟩];rfl
theorem Zft (lo hi bm:Nat) (ao:Option Addr) (cap:Nat) (w:World) :
  Calls prog 208 #[.agg #[.int .i64 (lo:Int),.int .i64 (hi:Int),.map (some bm)],.slice ao 0 cap] w fun ev w'=>ev = .returned (.tuple #[])/\Below w.heap.size w w':=by
 go_enter func208,ntmps208
 go_wp2_with fail
 go_loopg [8] 1 (fun gk v8 wr=>gk=1/\v8 = .int .i64 0/\Below w.heap.size w wr)
 case atStart=>exact ⟨rfl,rfl,(U01 _ _).alloc (U02 _) _⟩
 case round =>
  obtain ⟨hgk,rfl,hb⟩:=hrel
  clear hgk
  go_wp2_with fail
  go_end0
  exact ⟨rfl,hb⟩
theorem Zao (a:Nat->Addr) (lo hi bm n:Nat) (D:DataW Unit) (φ:Nat->Option Nat) (v:Value) (L:List Int) (w:World) (hhi:hi<=300000) (hφ:∀ f t,φ f=some t->t<=300000) (hL:L.length<=300000) (hU:U64 L) (M:w.ownsMap prog 3 (plainElem prog 3) bm n D) (W:Went D φ) (hvm:¬ Z1n v bm) (E:∀ w',Aside (Z1n v) w w'->WErr a w') (R:Z20 81 1 v L.length (Z05 L) w) :
  Calls prog 208 #[.agg #[.int .i64 (lo:Int),.int .i64 (hi:Int),.map (some bm)],v] w fun ev w'=>ev = .returned (.tuple #[])/\Z20 81 1 v L.length (Z05 (L.map fun x=>(Z0g lo hi φ x).1)) w'/\Aside (Z1n v) w w'/\Z1e w w':=by
 obtain ⟨ao,cap,rfl,hc,hl,hf⟩:=R
 rcases U26 L.length with h0 | h0
 ·rw [h0]
  refine (Zft lo hi bm ao cap w).mono ?_
  rintro ev w' ⟨rfl,hb⟩
  exact ⟨rfl,⟨ao,cap,rfl,U0x _,by simp [Z05,h0],fun h=>absurd h (by omega)⟩,Aside.of_below hb,Z1e.of_below hb⟩
 ·obtain ⟨g,rfl,hb⟩:=hf h0
  have hX:∀ k,k=g->Z1n (.slice (some ⟨g,0,none⟩) L.length cap) k:=fun k e=>by rw [e];exact ⟨0,L.length,cap,h0,rfl⟩
  refine (Za5 a lo hi bm n D φ g 0 L.length cap L w hhi hφ (by omega) hL hU M W (fun e=>hvm (hX _ e.symm)) (fun w' ha=>E w' (ha.mono hX)) hb).mono ?_
  rintro ev w' ⟨rfl,hB,hA,hZ⟩
  rw [Zmi] at hB
  exact ⟨rfl,⟨_,cap,rfl,hc,by simp [Z05],fun _=>⟨g,rfl,hB⟩⟩,hA.mono hX,hZ⟩
end
section
open Go.Maps
def MB (p:Nat) (h o c u t ot:Int) (vW vR vK vI vC:Value) (w:World):Prop:=w.heap[p]?=some (.cells #[.int .i64 h,.int .i64 o,.int .i64 c,vW,.int .i64 u,.int .i64 t,.int .i64 ot,vR,vK,vI,vC] 84)
theorem Aside.grown {X:Nat->Prop}{w w1 w2:World}{row:Option Nat} (h:Aside X w w1) (hg:w1.grownBy w2 row) (hr:∀ k,row=some k->w.heap.size<=k):Aside X w w2:=
 ⟨hg.os.trans h.os,hg.tape.trans h.tape,hg.output.trans h.output,U0n h.size hg.size,fun k hk hx=>(hg.block k (U0r hk h.size) (fun e=>by have:=hr k e.symm;omega)).trans (h.block k hk hx)⟩
theorem Zgh:∃ i0,prog.info? 123=some i0/\i0.zero=some (.agg #[.int .u64 0,.int .i64 0])/\i0.size=2/\i0.bytes=16:=U3g (by kernel_rfl)
theorem Zo0 (n:Nat) (hn:n<=300000) (w:World) :
  (Instr.makeSlice 82 (.int .i64 0) (.int .i64 (n:Int))).run prog w = .ok (.slice (some ⟨w.heap.size,0,none⟩) 0 n) (w.alloc (.cells (madeCells #[.int .u64 0,.int .i64 0] (n*2)) 123)):=by
 obtain ⟨i,hi,hz,h1,h8⟩:=Zgh
 have h:=run_make (P:=prog) w 82 123 i (.agg #[.int .u64 0,.int .i64 0]) underlying82 hi hz .i64 .i64 0 (n:Int) (by omega) (by omega) (by rw [h8];omega) (by omega)
 rw [h,h1]
 rfl
theorem Z20.of_own {B:Nat}{t:TypeId}{k:Nat}{v:Value}{n:Nat}{xs:List Value}{w:World} (h:w.ownsRow B t k v n xs):Z20 t k v n xs w /\ ∀ g,Z1n v g->B<=g:=by
 obtain ⟨hl,⟨rfl,rfl⟩ | ⟨g,cap,cur,rfl,hb,hg,hc,_,_,ht⟩⟩:=h
 ·exact ⟨⟨none,0,rfl,U02 _,hl,fun h=>absurd h (by omega)⟩,fun g ⟨_,_,_,_,e⟩=>by cases e⟩
 ·refine ⟨⟨_,cap,rfl,hc,hl,fun _=>⟨g,rfl,cur.toList.drop (n*k),?_⟩⟩,fun g' hi=>by rw [Zbs hi];exact hb⟩
  rw [<-ht,U3v,Array.toArray_toList]
  exact hg
theorem Zil {B:Nat}{t:TypeId}{k:Nat}{v:Value}{n:Nat}{xs:List Value}{w:World} (h:w.ownsRow B t k v n xs):∃ av cv,v = .slice av n cv:=by
 obtain ⟨_,⟨rfl,rfl⟩ | ⟨g,cap,cur,rfl,_⟩⟩:=h
 ·exact ⟨_,_,rfl⟩
 ·exact ⟨_,_,rfl⟩
theorem Zkj (w:World) (x y:Value):∀ (j:Nat) (u:Value),[x,y][j]?=some u->(w.alloc (.cells #[x,y] 123)).cell? ((⟨w.heap.size,0,none⟩:Addr).add j)=some u:=fun j u hj=>by
 have e:(⟨w.heap.size,0,none⟩:Addr).add j=⟨w.heap.size,j,none⟩:=by unfold Addr.add;split <;> simp_all
 rw [e,U06 _ _ _ _ _ _ (U0b w _),<-U1q]
 exact hj
theorem Zjs (l:List (Int × Int)) (x y:Int):Z2e (l ++ [(x,y)])=Z2e l ++ [.int .u64 x,.int .i64 y]:=by simp [Z2e]
def Z32 (f:Int->Int × Bool) (I:List (Int × Int)):List (Int × Int):=I.filterMap fun x=>if (f x.1).2 then some ((f x.1).1,x.2) else none
theorem Zas (a:Nat->Addr) (lo hi bm n p:Nat) (h o c u t ot:Int) (vW vR vK vI vC:Value) (D:DataW Unit) (φ:Nat->Option Nat) (K:List Int) (I:List (Int × Int)) (w:World) (hhi:hi<=300000) (hφ:∀ f t,φ f=some t->t<=300000) (hK:K.length<=300000) (hU:U64 K) (hI:I.length<=300000) (hUI:Zda I) (M:w.ownsMap prog 3 (plainElem prog 3) bm n D) (W:Went D φ) (hvm:¬ Z1n vK bm) (hvI:∀ g,Z1n vI g -> ¬ Z1n vK g/\g≠p) (hvp:¬ Z1n vK p) (E:∀ w',Aside (fun k=>k=p\/Z1n vK k) w w'->WErr a w') (H:MB p h o c u t ot vW vR vK vI vC w) (RK:Z20 81 1 vK K.length (Z05 K) w) (RI:Z20 123 2 vI I.length (Z2e I) w) :
  Calls prog 204 #[.agg #[.int .i64 (lo:Int),.int .i64 (hi:Int),.map (some bm)],.pointer (some ⟨p,0,none⟩)] w fun ev w'=>ev = .returned (.tuple #[]) /\ ∃ v',MB p h o c u t ot vW vR vK v' vC w'/\Z20 81 1 vK K.length (Z05 (K.map fun x=>(Z0g lo hi φ x).1)) w'/\Z20 123 2 v' (Z32 (Z0g lo hi φ) I).length (Z2e (Z32 (Z0g lo hi φ) I)) w'/\(∀ g,Z1n v' g->w.heap.size<=g)/\Aside (fun k=>k=p\/Z1n vK k) w w'/\Z1e w w'/\w'.ownsRow w.heap.size 123 2 v' (Z32 (Z0g lo hi φ) I).length (Z2e (Z32 (Z0g lo hi φ) I)):=by
 obtain ⟨w1,hw1⟩:∃ w1,w1=w.alloc (.cells #[.int .i64 (lo:Int),.int .i64 (hi:Int),.map (some bm)] 238):=⟨_,rfl⟩
 have b1:Below w.heap.size w w1:=by rw [hw1];exact (U01 _ _).alloc (U02 _) _
 have n1:w1.heap[w.heap.size]?=some (.cells #[.int .i64 (lo:Int),.int .i64 (hi:Int),.map (some bm)] 238):=by rw [hw1];exact U0b _ _
 have HW1:=Z00 hw1
 obtain ⟨aK,cK,rfl,hcK,hlK,hfK⟩:=RK
 have RK:Z20 81 1 (.slice aK K.length cK) K.length (Z05 K) w:=⟨aK,cK,rfl,hcK,hlK,hfK⟩
 obtain ⟨aI,cI,rfl,hcI,hlI,hfI⟩:=RI
 have RI:Z20 123 2 (.slice aI I.length cI) I.length (Z2e I) w:=⟨aI,cI,rfl,hcI,hlI,hfI⟩
 have H1:MB p h o c u t ot vW vR (.slice aK K.length cK) (.slice aI I.length cI) vC w1:=(b1.block _ (Z01 H)).trans H
 have hqp:¬ w.heap.size=p:=by have:=Z01 H;omega
 have hqK:¬ Z1n (.slice aK K.length cK) w.heap.size:=by
  rintro ⟨o',n',c',h0,e⟩
  cases e
  obtain ⟨g,e,hb⟩:=hfK h0
  cases e
  have:=hb.lt
  omega
 have A1:Aside (Z1n (.slice aK K.length cK)) w w1.drew:=Aside.of_below b1.drew
 have M1:=Z0f M A1 hvm
 have kf:=Zao a lo hi bm n D φ (.slice aK K.length cK) K w1.drew hhi hφ hK hU M1 W hvm (fun w' ha=>E w' ((A1.trans ha).mono (fun k hk=>Or.inr hk))) (RK.below b1.drew)
 have HF:Hid (∀ w2,Aside (Z1n (.slice aK K.length cK)) w1.drew w2->w2.cell? ⟨w.heap.size,0,none⟩=some (.int .i64 (lo:Int))/\w2.cell? ⟨w.heap.size,1,none⟩=some (.int .i64 (hi:Int))/\w2.cell? ⟨w.heap.size,2,none⟩=some (.map (some bm))/\w2.cell? ⟨p,8,none⟩=some (.slice aK K.length cK)):=fun w2 ha=>by
  refine ⟨?_,?_,?_,?_⟩
  iterate 3 (refine ha.cell (by show w1.cell? _=_;rw [U06 _ _ _ _ _ _ n1];rfl) hqK)
  exact ha.cell (by show w1.cell? _=_;rw [U06 _ _ _ _ _ _ H1];rfl) hvp
 have HF0:=Z00 (HF.out _ (Aside.refl _ _))
 have HKF:=Z00 kf
 have HA1:=Z00 A1
 have HZ1:Hid (Z1e w w1.drew):=Z1e.of_below b1.drew
 have HN1:=Z00 n1
 have HH1:=Z00 H1
 have HRI:=Z00 RI
 have HM:=Z00 M
 have HWe:=Z00 W
 have HE:=Z00 E
 have HUI:=Z00 hUI
 have HvI:=Z00 hvI
 have HvK:=Z00 hvm
 have HvP:=Z00 hvp
 have HqK:=Z00 hqK
 have hmk:=Zo0 I.length hI
 clear hw1 b1 n1 H H1 RK RI M M1 W E kf A1 hfK hfI hU hUI hvI hvm hvp hqK hlK hlI
 go_enter func204,ntmps204
 go_upto_region 1 with fail
 rw [<-HW1.out]
 go_region_held3 (fun W2=>W2.cell? ⟨w.heap.size,0,none⟩=some (.int .i64 (lo:Int))/\W2.cell? ⟨w.heap.size,1,none⟩=some (.int .i64 (hi:Int))/\W2.cell? ⟨w.heap.size,2,none⟩=some (.map (some bm))/\W2.cell? ⟨p,8,none⟩=some (.slice aK K.length cK)) (first | with_reducible exact HF.out _ hA2 | with_reducible exact HF0.out) (first | (go_at_call 208;refine HKF.out.mono ?_;rintro ev w2 ⟨rfl,hR2,hA2,hZ2⟩))
 have hA:Aside (Z1n (.slice aK K.length cK)) w w2:=HA1.out.trans hA2
 have HZ2:Hid (Z1e w w2):=HZ1.out.trans hZ2
 clear hZ2
 have hH2:MB p h o c u t ot vW vR (.slice aK K.length cK) (.slice aI I.length cI) vC w2:=(hA2.block p (Z01 HH1.out) HvP.out).trans HH1.out
 have hI2:Z20 123 2 (.slice aI I.length cI) I.length (Z2e I) w2:=HRI.out.aside hA (fun g hg=>(HvI.out g hg).1)
 have hM2:w2.ownsMap prog 3 (plainElem prog 3) bm n D:=Z0f HM.out hA HvK.out
 have hP2:=(hA2.block w.heap.size (Z01 HN1.out) HqK.out).trans HN1.out
 have c9:w2.cell? ⟨p,9,none⟩=some (.slice aI I.length cI):=by rw [U06 _ _ _ _ _ _ hH2];rfl
 have hsw:w.heap.size<=w2.heap.size:=hA.size
 have HA:=Z00 hA
 have HH2:=Z00 hH2
 have HI2:=Z00 hI2
 have HM2:=Z00 hM2
 have HP2:=Z00 hP2
 have HR2:=Z00 hR2
 have HSW:=Z00 hsw
 have hpl:p<w2.heap.size:=Z01 hH2
 clear hA hH2 hI2 hM2 hP2 hR2 hA2 hsw HKF HF HF0 HA1 HN1 HH1 HRI HM
 go_wp2_with fail
 go_loopg [4,26] (I.length+1) (fun gk v4 v26 wr => ∃ i:Nat,gk=I.length+1 - i/\i<=I.length/\v26 = .int .i64 (i:Int)/\(∃ av cv,v4 = .slice av (Z32 (Z0g lo hi φ) (I.take i)).length cv)/\Hid (Below w2.heap.size w2 wr)/\Hid (wr.ownsRow w2.heap.size 123 2 v4 (Z32 (Z0g lo hi φ) (I.take i)).length (Z2e (Z32 (Z0g lo hi φ) (I.take i)))))
 case atStart =>
  refine ⟨0,rfl,U0x _,rfl,⟨_,_,rfl⟩,(U01 _ _).alloc (U02 _) _,?_⟩
  refine ⟨rfl,Or.inr ⟨w2.heap.size,I.length,_,rfl,U02 _,U0b _ _,U0x _,?_,?_,rfl⟩⟩
  ·unfold maxLen;omega
  ·simp [madeCells]
 case round =>
  obtain ⟨i,hgk,hi',rfl,⟨av,cv,rfl⟩,hB,hO⟩:=hrel
  have HG:=Z00 hgk
  clear hgk hmk
  have hi0:(0:Int)<=(i:Int):=by omega
  by_cases hlt:i<I.length
  ·have hIi:(i:Int)<(I.length:Int):=by omega
   obtain ⟨⟨x,y⟩,hx⟩:∃ x,I[i]?=some x:=⟨_,U03 hlt⟩
   obtain ⟨_,_,e,_,_,f1⟩:=HI2.out
   cases e
   obtain ⟨gI,rfl,hbI⟩:=f1 (by omega)
   have r1:wr.cell? ⟨gI,i*2,none⟩=some (.int .u64 x):=(hbI.below hB.out).cell (Z52 hx).1
   have r2:wr.cell? ⟨gI,i*2+1,none⟩=some (.int .i64 y):=(hbI.below hB.out).cell (Z52 hx).2
   have hux:=HUI.out (x,y) (U0a hx)
   have hne:Z32 (Z0g lo hi φ) (I.take (i+1))=Z32 (Z0g lo hi φ) (I.take i)++(if (Z0g lo hi φ x).2 then [((Z0g lo hi φ x).1,y)] else []):=by
    rw [U1g,hx]
    unfold Z32
    rw [List.filterMap_append]
    congr 1
    show List.filterMap _ [(x,y)]=_
    rw [U43]
    by_cases hc:(Z0g lo hi φ x).2=true
    ·simp [hc]
    ·simp [hc]
   have HNE:=Z00 hne
   clear hne f1 hbI
   obtain ⟨w3,hw3⟩:∃ w3,w3=wr.alloc (.cells #[.int .u64 x,.int .i64 y] 123):=⟨_,rfl⟩
   have b3:Below wr.heap.size wr w3:=by rw [hw3];exact (U01 _ _).alloc (U02 _) _
   have hB3:Below w2.heap.size w2 w3:=hB.out.trans (b3.mono hB.out.size)
   have n3:w3.heap[wr.heap.size]?=some (.cells #[.int .u64 x,.int .i64 y] 123):=by rw [hw3];exact U0b _ _
   have O3:w3.ownsRow w2.heap.size 123 2 (.slice av (Z32 (Z0g lo hi φ) (I.take i)).length cv) (Z32 (Z0g lo hi φ) (I.take i)).length (Z2e (Z32 (Z0g lo hi φ) (I.take i))):=by rw [hw3];exact hO.out.alloc _
   have P3:=(hB3.block _ (Z01 HP2.out)).trans HP2.out
   have q0:w3.cell? ⟨w.heap.size,0,none⟩=some (.int .i64 (lo:Int)):=by rw [U06 _ _ _ _ _ _ P3];rfl
   have q1:w3.cell? ⟨w.heap.size,1,none⟩=some (.int .i64 (hi:Int)):=by rw [U06 _ _ _ _ _ _ P3];rfl
   have q2:w3.cell? ⟨w.heap.size,2,none⟩=some (.map (some bm)):=by rw [U06 _ _ _ _ _ _ P3];rfl
   have d0:w3.cell? ⟨wr.heap.size,0,none⟩=some (.int .u64 x):=by rw [U06 _ _ _ _ _ _ n3];rfl
   have d1:w3.cell? ⟨wr.heap.size,1,none⟩=some (.int .i64 y):=by rw [U06 _ _ _ _ _ _ n3];rfl
   have M3:=HM2.out.kept (Z11 hB3) (by simp)
   have kn:=Zbu a lo hi bm n x D φ w3 hhi hux.1.1 hux.1.2 hφ M3 HWe.out (HE.out _ ((HA.out.trans (Aside.of_below hB3)).mono (fun k hk=>Or.inr hk)))
   have HO3:=Z00 O3
   have HB3:=Z00 hB3
   have HN3:=Z00 n3
   have HW3:=Z00 hw3
   obtain ⟨q,hq⟩:∃ q,q=wr.heap.size:=⟨_,rfl⟩
   rw [<-hq] at d0 d1 HN3
   have HQ:=Z00 hq
   have hql:w2.heap.size<=q:=by rw [hq];exact hB.out.size
   clear hw3 b3 hB3 n3 O3 P3 M3 hO hB
   go_upto_region 6 with fail
   rw [<-HW3.out,<-HQ.out]
   clear r1 r2 hq
   go_wp2_with fail
   refine kn.mono ?_
   clear kn
   rintro ev w4 ⟨rfl,b4⟩
   have hB4:=HB3.out.trans (b4.mono HB3.out.size)
   have O4:w4.ownsRow w2.heap.size 123 2 (.slice av (Z32 (Z0g lo hi φ) (I.take i)).length cv) (Z32 (Z0g lo hi φ) (I.take i)).length (Z2e (Z32 (Z0g lo hi φ) (I.take i))):=Z04 HO3.out (fun k hk=>b4.block k (Z08 HO3.out k hk).2)
   have n4:=(b4.block _ (Z01 HN3.out)).trans HN3.out
   have e1:w4.cell? ⟨q,1,none⟩=some (.int .i64 y):=by rw [U06 _ _ _ _ _ _ n4];rfl
   have hls:(Z32 (Z0g lo hi φ) (I.take i)).length<=300000:=U0n (List.length_filterMap_le _ _) (by simp;omega)
   have HB4:=Z00 hB4
   have HO4:=Z00 O4
   clear b4 hB4 O4 n4 HN3 HO3 HB3 q0 q1 q2 d0 d1 HW3 HQ
   obtain ⟨x',hx'⟩:∃ x',x'=(Z0g lo hi φ x).1:=⟨_,rfl⟩
   obtain ⟨ok,hok⟩:∃ ok,ok=(Z0g lo hi φ x).2:=⟨_,rfl⟩
   rw [<-hx',<-hok] at HNE ⊢
   clear hx' hok hx hux
   cases ok with
   | false =>
    go_wp2_with fail
    go_roundg (I.length+1 - (i+1))
    case measure=>have:=HG.out;omega
    case rel =>
     have e:Z32 (Z0g lo hi φ) (I.take (i+1))=Z32 (Z0g lo hi φ) (I.take i):=by rw [HNE.out];simp
     refine ⟨i+1,rfl,by omega,by go_num,?_,HB4,?_⟩
     ·rw [e];exact ⟨_,_,rfl⟩
     ·rw [e];exact HO4
   | true =>
    obtain ⟨i0,hi0,hz0,hz1,hz2⟩:=Zgh
    go_wp2_with (first | (at_builtin;refine U4h _ rfl _ _ 82 rfl w2.heap.size 123 i0 (.agg #[.int .u64 0,.int .i64 0]) 2 16 underlying82 hi0 hz0 hz1 hz2 rfl (by decide) _ _ _ rfl (HO4.out.alloc _) ⟨w4.heap.size,0,none⟩ 1 1 [.int .u64 x',.int .i64 y] rfl rfl (Zkj _ _ _) (fun z hz=>by simp at hz;rcases hz with rfl | rfl <;> rfl) (by unfold maxLen;omega) (by omega) (by have:=HB4.out.size;simp;omega) ?_;intro v5 w5 hown5 hgrow5 hnn5;obtain ⟨av5,cv5,rfl⟩:=Zil hown5;have HO5:=Z00 hown5;have HB5:=Z00 ((HB4.out.alloc HB4.out.size _).grown hgrow5 (by have:=HB4.out.size;simp;omega) (fun k hk=>(Z08 HO4.out k hk).1));clear hown5 hgrow5 hnn5))
    go_roundg (I.length+1 - (i+1))
    case measure=>have:=HG.out;omega
    case rel =>
     have e:Z32 (Z0g lo hi φ) (I.take (i+1))=Z32 (Z0g lo hi φ) (I.take i) ++ [(x',y)]:=by rw [HNE.out];simp
     refine ⟨i+1,rfl,by omega,by go_num,?_,HB5,?_⟩
     ·rw [e,U0f];exact ⟨_,_,rfl⟩
     ·rw [e,U0f,Zjs];exact HO5
  ·have hIi:¬ (i:Int)<(I.length:Int):=by omega
   obtain rfl:i=I.length:=by omega
   have hHr:MB p h o c u t ot vW vR (.slice aK K.length cK) (.slice aI I.length cI) vC wr:=(hB.out.block p hpl).trans HH2.out
   obtain ⟨z9,cz9⟩:∃ z,wr.cell? ⟨p,9,none⟩=some z:=⟨_,by rw [U06 _ _ _ _ _ _ hHr];rfl⟩
   have fz:wr.frozen? ⟨p,9,none⟩=false:=by have h:=hHr;unfold MB at h;simp [World.frozen?,h]
   have HHr:=Z00 hHr
   clear hHr
   rw [U3y] at hO ⊢
   obtain ⟨hRI,hg2⟩:=Z20.of_own hO.out
   have HRI:=Z00 hRI
   clear hRI
   go_wp2_with fail
   go_end0
   have hAr:Aside (Z1n (.slice aK K.length cK)) w wr:=HA.out.trans (Aside.of_below hB.out)
   have hs:Aside (· = p) wr (wr.setCell ⟨p,9,none⟩ (.slice av (Z32 (Z0g lo hi φ) I).length cv)):=(Aside.refl (fun k=>k=p) wr).setCell (g:=p) (o:=9) rfl _
   refine ⟨rfl,_,?_,(HR2.out.below hB.out).aside hs (fun g hg e=>HvP.out (by rw [<-e];exact hg)),HRI.out.aside hs (fun g hg e => ?_),fun g hg=>U0n HSW.out (hg2 g hg),(hAr.mono (fun k hk=>Or.inr hk)).trans (hs.mono (fun k hk=>Or.inl hk)),(HZ2.out.trans (Z1e.of_below hB.out)).setCell p 9 _,?_⟩
   ·have h:=Z06 (o:=9) (v:=.slice av (Z32 (Z0g lo hi φ) I).length cv) HHr.out
    exact h
   ·have:=hg2 g hg
    omega
   ·have ho:wr.ownsRow w.heap.size 123 2 (.slice av (Z32 (Z0g lo hi φ) I).length cv) (Z32 (Z0g lo hi φ) I).length (Z2e (Z32 (Z0g lo hi φ) I)):=⟨hO.out.1,by rcases hO.out.2 with h | ⟨g,cap,cur,e1,e2,e3⟩;exact .inl h;exact .inr ⟨g,cap,cur,e1,U0n HSW.out e2,e3⟩⟩
    refine Z04 ho (fun k hk => ?_)
    have h1:=(Z08 hO.out k hk).1
    exact Z0a _ _ _ _ _ (by omega)
end
end Go.Proofs.YtlkcbdinlfeoiaaGreatDoor
