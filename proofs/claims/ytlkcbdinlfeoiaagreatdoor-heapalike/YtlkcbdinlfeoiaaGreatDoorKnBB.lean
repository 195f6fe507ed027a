/- IDs by their serials (slices.SortFunc with known's closure), by a contract. -/
import Derived.Shelf.SlSortCmp.NoneTotal
import Derived.Test.YtlkcbdinlfeoiaaGreatDoorMemGX
import Derived.Test.YtlkcbdinlfeoiaaGreatDoorMemGH
namespace Go.Proofs.YtlkcbdinlfeoiaaGreatDoor
open Go.Proofs.Tryz Go.RowKit
set_option maxHeartbeats 8000000
set_option maxRecDepth 100000
set_option linter.unusedSimpArgs false
section
open Go.Shelf Go.Sort
def Z43 (x:Int × Int):List Value:=[.int .u64 x.1,.int .i64 x.2]
def Zjt (x y:Int × Int):Int:=Lib.compareInt x.2 y.2
theorem idLt (x y:Int × Int):ltOf Zjt x y=decide (x.2<y.2):=by
 unfold ltOf Zjt Lib.compareInt
 by_cases h1:x.2<y.2
 ·simp [h1]
 ·by_cases h2:y.2<x.2 <;> simp [h1,h2]
theorem idSWO:SWO (ltOf Zjt) where
 irrefl x:=by rw [idLt];simp
 trans x y z h1 h2:=by rw [idLt] at *;simp at *;omega
 ntrans x y z h1 h2:=by rw [idLt] at *;simp at *;omega
theorem Zko (x y:Int × Int) (W:World):Calls prog 152 #[.agg (Z43 x).toArray,.agg (Z43 y).toArray] W fun e w'=>e = .returned (.int .i64 (Zjt x y)) /\ ∃ q os,w'=grow (W.drewN q) os:=by
 obtain ⟨xa,xs⟩:=x
 obtain ⟨ya,ys⟩:=y
 have kc:=fun W=>Z7q xs ys W
 show Calls prog 152 #[.agg #[.int .u64 xa,.int .i64 xs],.agg #[.int .u64 ya,.int .i64 ys]] W fun e w'=>e = .returned (.int .i64 (Lib.compareInt xs ys)) /\ ∃ q os,w'=grow (W.drewN q) os
 generalize Lib.compareInt xs ys=r at *
 obtain ⟨w1,hw1⟩:∃ w1,w1=(W.alloc (.cells #[.int .u64 xa,.int .i64 xs] 123)).alloc (.cells #[.int .u64 ya,.int .i64 ys] 123):=⟨_,rfl⟩
 go_enter func152,ntmps152
 go_wp2_with (go_at_call 153;refine (kc _).mono ?_;rintro ev w2 ⟨rfl,hw2⟩;rw [hw2];clear hw2 w2)
 go_ret
 refine ⟨rfl,0,#[.cells #[.int .u64 xa,.int .i64 xs] 123,.cells #[.int .u64 ya,.int .i64 ys] 123],?_⟩
 rw [alloc_eq_grow,alloc_eq_grow,grow_grow]
 rfl
theorem Zqs (d:Array (Int × Int)) (j:Nat) (hj:j<d.size):(flatK Z43 2 d)[j*2]! = .int .u64 d[j]!.1/\(flatK Z43 2 d)[j*2+1]! = .int .i64 d[j]!.2:=by
 rw [get_flatK _ _ _ _ (by omega),get_flatK _ _ _ _ (by omega),show j*2 / 2=j by omega,show j*2 % 2=0 by omega,show (j*2+1) / 2=j by omega,show (j*2+1) % 2=1 by omega]
 exact ⟨rfl,rfl⟩
theorem Zgr (l:List (Int × Int)):(flatK Z43 2 l.toArray).toList=Z2e l:=by
 apply U24
 intro i
 have hlen:(flatK Z43 2 l.toArray).toList.length=l.length*2:=by simp
 by_cases hi:i<l.length*2
 ·obtain ⟨x,hx⟩:∃ x,l[i / 2]?=some x:=⟨_,U03 (by omega)⟩
  have hd:l.toArray[i / 2]! = x:=by simp [hx]
  have h1:=Zqs l.toArray (i / 2) (by simp;omega)
  have h2:=Z52 hx
  rw [hd] at h1
  have hg:∀ k,k<l.length*2->(flatK Z43 2 l.toArray).toList[k]?=some (flatK Z43 2 l.toArray)[k]!:=fun k hk=>by
   rw [U1q,U2a (by simp;omega)]
   congr 1
   rw [U4z]
  rw [hg i hi]
  rcases Nat.mod_two_eq_zero_or_one i with h | h
  ·have e:i=i / 2*2:=by omega
   rw [e,h1.1,h2.1]
  ·have e:i=i / 2*2+1:=by omega
   rw [e,h1.2,h2.2]
 ·rw [U14 (by omega),U14 (by rw [lenI];omega)]
def Zjp (t:TypeId) (w:World) (v:Value) (n:Nat) (xs:List Value):Prop:=∃ ao cap,v = .slice ao n cap/\n<=cap/\(0<n -> ∃ b o cur fz,ao=some ⟨b,o,none⟩/\w.heap[b]?=some (.cells cur t fz) /\ ∀ j u,xs[j]?=some u->cur[o+j]?=some u)
theorem Zr9 {t:TypeId}{w:World}{ao:Option Addr}{n cap:Nat}{xs:List Value} (h:Z4g w (.slice ao n cap) n xs) (hb:0<n -> ∀ b o,ao=some ⟨b,o,none⟩ -> ∃ cur fz,w.heap[b]?=some (.cells cur t fz)):Zjp t w (.slice ao n cap) n xs:=by
 obtain ⟨_,_,e,hc,f⟩:=h
 cases e
 refine ⟨ao,cap,rfl,hc,fun hn => ?_⟩
 obtain ⟨b,o,rfl,_,g⟩:=f hn
 obtain ⟨cur,fz,hk⟩:=hb hn b o rfl
 refine ⟨b,o,cur,fz,rfl,hk,fun j u hj => ?_⟩
 have h1:=g j u hj
 simp only [World.cell?,hk] at h1
 exact h1
theorem idAgg (w:World):(isAgg 123).run prog w = .ok true w:=by kernel_rfl
theorem Zt7 (w:World):(Go.sizeOf 123).run prog w = .ok 2 w:=by kernel_rfl
theorem Zo6 (base:Nat) (v:Value) (l:List (Int × Int)) (hl:l.length<=300000) (w:World) (hown:w.ownsRow base 123 2 v l.length (Z2e l)) (hbw:base<=w.heap.size) :
  Calls prog 151 #[v,.func (.func 152) #[] #[]] w fun ev w'=>ev = .returned (.tuple #[]) /\ ∃ l',l'.Perm l/\l'.Pairwise (fun x y => ¬ y.2<x.2)/\Zjp 123 w' v l'.length (Z2e l')/\Below base w w':=by
 obtain ⟨h1,h2⟩:=hown
 rcases h2 with ⟨rfl,h0⟩ | ⟨g,cap,cur,rfl,hb,hg,hc,hcm,hs,ht⟩
 ·have hnil:l = []:=U2l h0
  subst hnil
  have h:=AnyF.slices_SortFunc_none (P:=prog) (ρ:=Z87) Zsu none 0 (.func (.func 152) #[] #[]) w
  change Calls prog 151 _ _ _ at h
  refine h.mono ?_
  rintro ev w' ⟨rfl,rfl⟩
  exact ⟨rfl,[],List.Perm.refl _,List.Pairwise.nil,⟨none,0,rfl,U02 _,fun h=>absurd h (by simp)⟩,U01 _ _⟩
 ·have hcell:∀ j u,(Z2e l)[j]?=some u->w.cell? ⟨g,j,none⟩=some u:=fun j u hj=>by
   rw [<-ht,U1j] at hj
   split at hj
   ·rw [U06 _ _ _ _ _ _ hg,<-U1q]
    exact hj
   ·cases hj
  have hH:HoldsK Z43 2 w g 0 l.toArray:=fun j hj=>by
   refine ⟨?_,U37 hg _⟩
   rw [U1p]
   refine hcell j _ ?_
   rw [<-Zgr,U1q,U2a hj,U4z (flatK Z43 2 l.toArray) j hj]
   rfl
  have eg:∀ args w,(callFunc 152 args).run prog w = .ok (.enter 152 args) w:=fun args w=>by kernel_rfl
  have h:=AnyQ.slices_SortFunc (P:=prog) (ρ:=Z87) Zsu 2 idAgg Zt7 Z43 (fun _=>rfl) (fun x v hv=>by simp [Z43] at hv;rcases hv with rfl | rfl <;> rfl) Zjt idSWO 152 #[] g 0 cap l.toArray w eg (fun m os dk _ x y=>Zko x y _) hH (Z01 hg) (by simp;omega)
  change Calls prog 151 _ _ _ at h
  rw [U2i] at h
  refine h.mono ?_
  rintro ev w' ⟨rfl,d',n,os,hp,hsrt,rfl⟩
  have hds:d'.size=l.length:=by rw [hp.1,U2i]
  have hperm:d'.toList.Perm l:=by
   have h3:=hp.2.2
   rw [show d'.extract 0 l.length=d' by rw [<-hds];simp,show l.toArray.extract 0 l.length=l.toArray by simp] at h3
   exact h3
  have hpw:d'.toList.Pairwise (fun x y => ¬ y.2<x.2):=by
   rw [U1y]
   intro i j hi hj hij hlt
   have h3:=hsrt i j (U0x _) hij (by rw [<-hds];simpa using hj)
   rw [idLt] at h3
   have hi':i<d'.size:=by simpa using hi
   have hj':j<d'.size:=by simpa using hj
   rw [U4z d' i hi',U4z d' j hj'] at h3
   have:=of_decide_eq_false h3
   simp only [Array.getElem_toList] at hlt
   omega
  refine ⟨rfl,d'.toList,hperm,hpw,?_,?_⟩
  ·have hl':d'.toList.length=l.length:=by simpa using hds
   rw [hl']
   refine Zr9 ?_ (fun _ b o hbo => ?_)
   rotate_left
   ·cases hbo
    refine ⟨putCells id 0 (flatK Z43 2 d') cur,(0,0),?_⟩
    unfold sortWorldK
    rw [heap_grow_old _ _ (by rw [size_putRowK];exact Z01 hg)]
    simp [putRowK,putRow,mapBlock,Sort.ahead,U3c,hg,onCells]
   refine ⟨_,_,rfl,hc,fun _=>⟨g,0,rfl,?_,fun j u hj => ?_⟩⟩
   ·unfold sortWorldK
    rw [size_grow,size_putRowK]
    have:=Z01 hg
    show g<w.heap.size+_
    omega
   ·unfold sortWorldK
    rw [cell?_grow _ _ _ (by rw [size_putRowK];exact Z01 hg)]
    have hjl:j<(flatK Z43 2 d').size:=by
     have:=(U0e.1 hj).1
     rw [lenI,hl'] at this
     rw [size_flatK,hds]
     omega
    have h3:=cell?_putRow (id:Value->Value) (Sort.ahead w n) g 0 (flatK Z43 2 l.toArray) (flatK Z43 2 d') (fun j hj=>hH j hj) (by simp [hds]) j hjl
    rw [show putRowK Z43 2 (Sort.ahead w n) g 0 d'=putRow id (Sort.ahead w n) g 0 (flatK Z43 2 d') from rfl,h3]
    rw [<-Zgr,Array.toArray_toList,U1q,U2a hjl] at hj
    rw [U4z (flatK Z43 2 d') j hjl]
    cases hj
    rfl
  ·unfold sortWorldK
   have hb1:Below base w (putRowK Z43 2 (Sort.ahead w n) g 0 d'):=⟨rfl,rfl,rfl,by rw [size_putRowK];exact U02 _,fun k hk=>by
    simp [putRowK,putRow,mapBlock,Sort.ahead,U3c,show g≠k by omega]⟩
   exact hb1.trans (U4e base _ (by rw [size_putRowK];exact hbw) 0 os)
end
section
open Go.Maps
theorem Zsw:∃ i0,prog.info? 123=some i0/\i0.zero=some (.agg #[.int .u64 0,.int .i64 0])/\i0.size=2/\i0.bytes=16:=U3g (by kernel_rfl)
def Z7l (out:List Nat) (x:Int × Int):Bool:=decide (0<=objI out (ptI x.1))
theorem Ztf {D:DataW Unit}{out:List Nat} (hD:GNum D out) {nH:Nat}{hb:Nat->Bool}{x:Int} (hn:nH<=300000) (h:Z2y nH hb x=true):Maps.has D (.int .u64 x)=decide (0<=objI out (ptI x)):=by
 unfold Z2y at h
 simp only [U0i,U1x] at h
 obtain ⟨f,hf⟩:∃ f:Nat,x=((f:Int)+1)*4:=⟨(x / 4 - 1).toNat,by omega⟩
 have hpt:ptI x=(f:Int):=by
  unfold ptI
  rw [U09 (by omega)]
  omega
 rw [hpt,hf,hD.has]
 by_cases hm:f∈out
 ·rw [U0d hm,U0d (Z2a.2 hm)]
 ·rw [U0k hm,U0k (fun h=>hm (Z2a.1 h))]
theorem Zjf (l:List (Int × Int)) (x:Int × Int):Z2e (l ++ [x])=Z2e l ++ [.int .u64 x.1,.int .i64 x.2]:=by simp [Z2e]
theorem Zfg {I:List (Int × Int)}{p:Int × Int->Bool}{k:Nat}{x:Int × Int} (h:I[k]?=some x):(I.take (k+1)).filter p=(I.take k).filter p++(if p x then [x] else []):=by
 rw [U1g,h,List.filter_append]
 cases hp:p x <;> simp [hp]
def Z88 (out:List Nat) (I:List (Int × Int)) (w:World) (ev:Ending) (w':World):Prop:=∃ v,ev = .returned v/\Zjp 123 w' v ((Z9i I).filter (Z7l out)).length (Z2e ((Z9i I).filter (Z7l out)))/\Below w.heap.size w w'
theorem Zk6 (bm n ol oc nH:Nat) (hbf:Nat->Bool) (hnH:nH<=300000) (oo:Option Addr) (D:DataW Unit) (out:List Nat) (hD:GNum D out) (I:List (Int × Int)) (h64:Zda I) (hok:Z6j nH hbf I=true) (hl:I.length<=300000) (ao:Option Addr) (cap:Nat) (w:World) (hM:w.ownsMap prog 81 (plainElem prog 3) bm n D) (hR:Z4g w (.slice ao I.length cap) I.length (Z2e I)) :
  Calls prog 102 #[.agg #[.slice oo ol oc,.map (some bm)],.slice ao I.length cap] w (Z88 out I w):=by
 have HD:=Z00 hD
 have HM:=Z00 hM
 have HR:=Z00 hR
 have H6:=Z00 h64
 have HK:=Z00 hok
 obtain ⟨i0,hi0,hz0,hz1,hz2⟩:=Zsw
 obtain ⟨PP,hPP⟩:∃ PP,PP=Z88 out I w:=⟨_,rfl⟩
 rw [<-hPP]
 have HPP:=Z00 hPP
 clear hD hM hR h64 hok hPP
 go_enter func102,ntmps102
 go_upto_block 0 with fail
 obtain ⟨w1,hw1⟩:∃ w1,w1=w.alloc (.cells #[.slice oo ol oc,.map (some bm)] 138):=⟨_,rfl⟩
 obtain ⟨q,hq⟩:∃ q,q=w.heap.size:=⟨_,rfl⟩
 have gb:w1.heap[q]?=some (.cells #[.slice oo ol oc,.map (some bm)] 138):=by rw [hw1,hq];exact U0b _ _
 have b1:Below w.heap.size w w1:=by rw [hw1];exact (U01 _ _).alloc (U02 _) _
 have g1:w1.cell? ⟨q,1,none⟩=some (.map (some bm)):=by rw [U06 _ _ 1 _ _ _ gb];rfl
 rw [<-hw1,<-hq]
 have HG1:=Z00 g1
 have HB1:=Z00 b1
 have HM1:=Z00 (Z2v HM.out b1)
 have HR1:=Z00 (HR.out.below b1)
 clear hw1 hq gb b1 g1 HM HR
 go_wp2_with fail
 go_loopg [5,12] (I.length+1) (fun gk vo vi wr => ∃ (k ml cp:Nat) (oa:Option Addr),gk=I.length+1 - k/\k<=I.length/\vi = .int .i64 (k:Int)/\vo = .slice oa ml cp/\Below w1.heap.size w1 wr/\Hid (ml=((I.take k).filter (Z7l out)).length)/\Hid (wr.ownsRow w1.heap.size 123 2 (.slice oa ml cp) ((I.take k).filter (Z7l out)).length (Z2e ((I.take k).filter (Z7l out)))))
 case atStart=>exact ⟨0,0,0,none,rfl,U0x _,rfl,rfl,U01 _ _,rfl,U3t _ _ _ _⟩
 case round =>
  obtain ⟨k,ml,cp,oa,hgk,hk,rfl,rfl,hb,hml0,hown⟩:=hrel
  have HG:=Z00 hgk
  have hk0:(0:Int)<=(k:Int):=by omega
  have HB:=Z00 hb
  clear hgk hb
  by_cases hlt:k<I.length
  ·have hI:(k:Int)<(I.length:Int):=by omega
   obtain ⟨⟨xa,xs⟩,hx⟩:∃ x,I[k]?=some x:=⟨_,U03 hlt⟩
   obtain ⟨_,_,e,_,f1⟩:=HR1.out
   cases e
   obtain ⟨p1,o1,rfl,l1,g1⟩:=f1 (by omega)
   have r0:wr.cell? ⟨p1,o1+k*2,none⟩=some (.int .u64 xa):=(HB.out.cell (p:=⟨p1,o1+k*2,none⟩) l1).trans (g1 (k*2) _ (Z52 hx).1)
   have r1:wr.cell? ⟨p1,o1+k*2+1,none⟩=some (.int .i64 xs):=(HB.out.cell (p:=⟨p1,o1+k*2+1,none⟩) l1).trans (g1 (k*2+1) _ (Z52 hx).2)
   have hx64:=H6.out _ (U0a hx)
   simp only at hx64
   have hkx:Hid (keyOf prog 81 (.int .u64 xa)=some (.int .u64 xa)):=U3h underlying81 (wf_u hx64.1.1 hx64.1.2)
   have hhas:=Ztf HD.out hnH (Z8r HK.out _ (U0a hx))
   have HST:Hid ((I.take (k+1)).filter (Z7l out)=(I.take k).filter (Z7l out)++(if Z7l out (xa,xs) then [(xa,xs)] else [])):=Zfg hx
   have hml:((I.take k).filter (Z7l out)).length<=300000:=U0n (U3b _ _) (by rw [U1k];omega)
   generalize (I.take k).filter (Z7l out)=M at *
   have hmm:=hml0.out
   subst hmm
   go_upto_region 5 with fail
   obtain ⟨w2,hw2⟩:∃ w2,w2=wr.alloc (.cells #[.int .u64 xa,.int .i64 xs] 123):=⟨_,rfl⟩
   obtain ⟨q2,hq2⟩:∃ q2,q2=wr.heap.size:=⟨_,rfl⟩
   have ob2:w2.heap[q2]?=some (.cells #[.int .u64 xa,.int .i64 xs] 123):=by rw [hw2,hq2];exact U0b _ _
   have b2:Below w1.heap.size w1 w2:=by rw [hw2];exact HB.out.alloc HB.out.size _
   have own2:Hid (w2.ownsRow w1.heap.size 123 2 (.slice oa M.length cp) M.length (Z2e M)):=by rw [hw2];exact hown.out.alloc _
   have c20:w2.cell? ⟨q2,0,none⟩=some (.int .u64 xa):=by rw [U06 _ _ 0 _ _ _ ob2];rfl
   have c21:w2.cell? ⟨q2,1,none⟩=some (.int .i64 xs):=by rw [U06 _ _ 1 _ _ _ ob2];rfl
   have gg:w2.cell? ⟨q,1,none⟩=some (.map (some bm)):=(b2.cell (p:=⟨q,1,none⟩) (Z02 HG1.out)).trans HG1.out
   rw [<-hw2,<-hq2]
   have HM2:=Z00 (Z2v HM1.out b2)
   have HB2:=Z00 b2
   clear hw2 hq2 ob2 b2 f1 g1 hx hown r0 r1 hx64
   cases hh:decide (0<=objI out (ptI xa)) with
   | true =>
    rw [hh] at hhas
    have hst:Hid (Z7l out (xa,xs)=true):=hh
    clear hh
    go_wp2_with (first | (at_lookup;refine U1r _ rfl _ _ 136 rfl 81 3 .i64 Zjr underlying136 underlying3 (Z6r _) bm n _ rfl HM2.out _ _ rfl hkx.out ?_;intro c0 hat hwc;clear hat hwc) | (at_builtin;refine wpList_append_lies _ rfl _ _ _ rfl w1.heap.size 123 i0 (.agg #[.int .u64 0,.int .i64 0]) 2 16 underlying82 hi0 hz0 hz1 hz2 rfl (by decide) (.slice oa M.length cp) M.length (Z2e M) rfl (own2.out.alloc _) ⟨w2.heap.size,0,none⟩ 1 1 [.int .u64 xa,.int .i64 xs] rfl rfl (U2j (cs:=#[.int .u64 xa,.int .i64 xs]) (t:=123) (U0b _ _)) (fun u hu=>by simp at hu;rcases hu with rfl | rfl <;> rfl) (by decide) (by unfold maxLen;omega) (by omega) (by have:=HB2.out.size;simp;omega) _ rfl ?_;intro g' cap' w3 hown3 hgrow3 hat3 hlt3))
    go_roundg (I.length+1 - (k+1))
    case measure=>have:=HG.out;omega
    case rel =>
     refine ⟨k+1,M.length+1,cap',some ⟨g',0,none⟩,rfl,by omega,by go_num,rfl,(HB2.out.alloc HB2.out.size _).grown hgrow3 (by have:=HB2.out.size;simp;omega) (fun k hk=>(Z08 own2.out k hk).1),?_,?_⟩
     ·show _=_
      rw [HST.out,hst.out]
      simp
     ·show World.ownsRow _ _ _ _ _ _ _
      rw [HST.out,hst.out,U09 rfl,Zjf,U0f]
      exact hown3
   | false =>
    rw [hh] at hhas
    have hst:Hid (Z7l out (xa,xs)=false):=hh
    clear hh
    go_wp2_with (first | (at_lookup;refine U1r _ rfl _ _ 136 rfl 81 3 .i64 Zjr underlying136 underlying3 (Z6r _) bm n _ rfl HM2.out _ _ rfl hkx.out ?_;intro c0 hat hwc;clear hat hwc))
    go_roundg (I.length+1 - (k+1))
    case measure=>have:=HG.out;omega
    case rel=>exact ⟨k+1,M.length,cp,oa,rfl,by omega,by go_num,rfl,HB2.out,by show _=_;rw [HST.out,hst.out];simp,by show World.ownsRow _ _ _ _ _ _ _;rw [HST.out,hst.out];simpa using own2.out⟩
  ·have hI:¬ (k:Int)<(I.length:Int):=by omega
   have hkk:k=I.length:=by omega
   have hown2:=hown.out
   have hml2:=hml0.out
   rw [hkk,U13 (U02 _)] at hown2 hml2
   have hfl:(I.filter (Z7l out)).length<=300000:=U0n (U3b _ _) hl
   have ks:=Zo6 w1.heap.size _ (I.filter (Z7l out)) hfl wr hown2 HB.out.size
   have HB3:=Z00 (HB1.out.trans (HB.out.mono HB1.out.size))
   have hbs:w.heap.size<=w1.heap.size:=HB1.out.size
   clear hown2 hml2 hkk hown hml0 hfl
   go_wp2_with fail
   refine ks.mono ?_
   rintro ev w4 ⟨rfl,l',hp,hs,hrow,hb4⟩
   have HE:Hid (PP (.returned (.slice oa ml cp)) w4):=by
    rw [HPP.out]
    have e:=Zj2 (Ztg HK.out) (Z7l out) hp (hs.imp (fun h=>by omega))
    rw [e] at hrow
    exact ⟨_,rfl,hrow,HB3.out.trans (hb4.mono hbs)⟩
   clear hp hs hrow hb4 ks
   go_wp2_with fail
   exact HE.out
end
section
open Go.Maps
theorem Z3n {e b k:Nat}{w w':World}{cs:Array Value}{t:TypeId}{fz:Nat × Nat} (h:Lib.OthersKept e (some b) w w') (hk:w.heap[k]?=some (.cells cs t fz)) (hb:k≠b) (ht:t≠e):w'.heap[k]?=some (.cells cs t fz):=
 h k _ hk (by simpa using hb) (by intro c f x;cases x;exact ht rfl)
structure GW (qg bl bm n ol oc:Nat) (oo:Option Addr) (D:DataW Unit) (B:Nat) (xs:List (List Value)) (w0:World) (acc:List UInt8) (w:World):Prop where
 below:Below w0.heap.size w0 w
 lo:w0.heap.size<=bl
 bld:Lib.IsBuilderF 165 5 bl bl (Lib.byteCells acc) w
 nil:acc = [] -> ∃ p,w.heap[bl]?=some (.cells #[p,.slice none 0 0] 165 (0,0))
 gr:w.heap[qg]?=some (.cells #[.slice oo ol oc,.map (some bm)] 138)
 row:w.ownsRow B 141 3 (.slice oo ol oc) ol xs.flatten
 map:w.ownsMap prog 81 (plainElem prog 3) bm n D
theorem GW.lt {qg bl bm n ol oc:Nat}{oo:Option Addr}{D:DataW Unit}{B:Nat}{xs:List (List Value)}{w0 w:World}{acc:List UInt8} (h:GW qg bl bm n ol oc oo D B xs w0 acc w):bl<w.heap.size:=Zet h.bld
theorem GW.keep {qg bl bm n ol oc:Nat}{oo:Option Addr}{D:DataW Unit}{B:Nat}{xs:List (List Value)}{w0 w w':World}{acc:List UInt8} (h:GW qg bl bm n ol oc oo D B xs w0 acc w) (hb:Below w.heap.size w w'):GW qg bl bm n ol oc oo D B xs w0 acc w':=
 ⟨h.below.trans (hb.mono h.below.size),h.lo,Z3u h.bld hb,fun e=>by
  obtain ⟨p,hp⟩:=h.nil e
  exact ⟨p,(hb.block _ (Z01 hp)).trans hp⟩,(hb.block _ (Z01 h.gr)).trans h.gr,Z04 h.row (fun k hk=>hb.block k (Z08 h.row k hk).2),Z2v h.map hb⟩
theorem GW.block {qg bl bm n ol oc:Nat}{oo:Option Addr}{D:DataW Unit}{B:Nat}{xs:List (List Value)}{w0 w:World}{acc:List UInt8} (h:GW qg bl bm n ol oc oo D B xs w0 acc w):∃ cs,w.heap[bl]?=some (.cells cs 165 (0,0)):=by
 rcases h.bld with ⟨_,v,hb,_⟩ | ⟨_,v,hb,_⟩
 ·exact ⟨_,hb⟩
 ·exact ⟨_,hb⟩
theorem GW.write {qg bl bm n ol oc:Nat}{oo:Option Addr}{D:DataW Unit}{B:Nat}{xs:List (List Value)}{w0 w w':World}{acc acc':List UInt8}{ev:Ending} (h:GW qg bl bm n ol oc oo D B xs w0 acc w) (hp:Z34 bl bl acc' w ev w') (hne:acc' ≠ []):GW qg bl bm n ol oc oo D B xs w0 acc' w':=by
 obtain ⟨_,h1,h2,h3⟩:=hp
 obtain ⟨cs,hbl⟩:=h.block
 have hg:qg≠bl:=fun e=>by
  subst e
  have:=h.gr.symm.trans hbl
  simp at this
 refine ⟨h.below.trans (h2.mono h.lo),h.lo,h1,fun e=>absurd e hne,Z3n h3 h.gr hg (by decide),?_,?_⟩
 ·refine Z04 h.row (fun k hk => ?_)
  obtain ⟨_,hr⟩:=h.row
  rcases hr with ⟨e,_⟩ | ⟨g,cap,cur,e,_,hgk,_⟩
  ·rw [e] at hk
   simp [Value.ownBlock] at hk
  ·rw [e] at hk
   simp only [Value.ownBlock,U5a] at hk
   subst hk
   rw [hgk]
   refine Z3n h3 hgk (fun e => ?_) (by decide)
   subst e
   have:=hgk.symm.trans hbl
   simp at this
 ·refine Z3x h.map ?_
  obtain ⟨es,clock,h4,_⟩:=h.map
  rw [h4]
  refine h3 bm _ h4 (fun e => ?_) (by simp)
  cases e
  have:=h4.symm.trans hbl
  simp at this
theorem Z27 (x:ByteArray):∀ l:List ByteArray,Z28 (x::l)=x.data.toList++l.flatMap (fun t=>32::t.data.toList)
 | []=>by simp [Z28,Lib.join,List.intercalate]
 | y::l=>by
  have h:=Z27 y l
  have e:Z28 (x::y::l)=x.data.toList++(32::Z28 (y::l)):=by simp [Z28,Lib.join,List.intercalate]
  rw [e,h]
  simp
theorem Z7y {l:List ByteArray} (c:Nat) (h:∀ t∈l,t.size<=c):(l.flatMap (fun t=>32::t.data.toList)).length<=l.length*(c+1):=by
 induction l with
 | nil=>simp
 | cons t l ih =>
  have h1:=ih (fun t ht=>h t (U3f _ ht))
  have h2:=h t (U4b ..)
  have h3:t.data.toList.length=t.size:=U2c
  rw [U4j,U0f,U1e,U1e,Nat.add_mul]
  omega
theorem Ztm (A s t:ByteArray) (s':ByteArray) (hs:s'.data.toList=s.data.toList ++ [32]):(((A++s')++t)++⟨#[10]⟩).data.toList=A.data.toList++(Z28 [s,t] ++ [10]):=by
 rw [Z27]
 simp [U22,hs]
end
end Go.Proofs.YtlkcbdinlfeoiaaGreatDoor
