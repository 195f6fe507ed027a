/- IDs by their serials (slices.SortFunc with known's closure), by a contract. -/
import Derived.Test.YtlkcbdinlfeoiaaGreatDoorKnAE
import Derived.Test.YtlkcbdinlfeoiaaGreatDoorGShelf
import Derived.Test.YtlkcbdinlfeoiaaGreatDoorSortL
import Derived.Shelf.SlSortCmp.NoneTotal
namespace Go.Proofs.YtlkcbdinlfeoiaaGreatDoor
open Go.Proofs.Tryz
open Go.RowKit Go.Shelf Go.Sort

def Z45 (x:Int × Int):List Value:=[.int .u64 x.1,.int .i64 x.2]
def Znk (x y:Int × Int):Int:=Lib.compareInt x.2 y.2
theorem idLt (x y:Int × Int):ltOf Znk x y=decide (x.2<y.2):=by
 unfold ltOf Znk Lib.compareInt
 by_cases h1:x.2<y.2
 ·simp [h1]
 ·by_cases h2:y.2<x.2 <;> simp [h1,h2]
theorem idSWO:SWO (ltOf Znk) where
 irrefl x:=by rw [idLt];simp
 trans x y z h1 h2:=by rw [idLt] at *;simp at *;omega
 ntrans x y z h1 h2:=by rw [idLt] at *;simp at *;omega
set_option maxHeartbeats 1000000 in
set_option maxRecDepth 100000 in
theorem Zki (x y:Int × Int) (W:World):Calls prog 152 #[.agg (Z45 x).toArray,.agg (Z45 y).toArray] W fun e w'=>e = .returned (.int .i64 (Znk x y)) ∧ ∃ q os,w'=grow (W.drewN q) os:=by
 obtain ⟨xa,xs⟩:=x
 obtain ⟨ya,ys⟩:=y
 have kc:=fun W=>Z7u xs ys W
 show Calls prog 152 #[.agg #[.int .u64 xa,.int .i64 xs],.agg #[.int .u64 ya,.int .i64 ys]] W fun e w'=>e = .returned (.int .i64 (Lib.compareInt xs ys)) ∧ ∃ q os,w'=grow (W.drewN q) os
 generalize Lib.compareInt xs ys=r at *
 obtain ⟨w1,hw1⟩:∃ w1,w1=(W.alloc (.cells #[.int .u64 xa,.int .i64 xs] 123)).alloc (.cells #[.int .u64 ya,.int .i64 ys] 123):=⟨_,rfl⟩
 go_enter func152,ntmps152
 go_wp2_with (go_at_call 153;refine (kc _).mono ?_;rintro ev w2 ⟨rfl,hw2⟩;rw [hw2];clear hw2 w2)
 go_ret
 refine ⟨rfl,0,#[.cells #[.int .u64 xa,.int .i64 xs] 123,.cells #[.int .u64 ya,.int .i64 ys] 123],?_⟩
 rw [alloc_eq_grow,alloc_eq_grow,grow_grow]
 rfl
theorem Zrf (d:Array (Int × Int)) (j:Nat) (hj:j<d.size):(flatK Z45 2 d)[j*2]! = .int .u64 d[j]!.1∧(flatK Z45 2 d)[j*2+1]! = .int .i64 d[j]!.2:=by
 rw [get_flatK _ _ _ _ (by omega),get_flatK _ _ _ _ (by omega),show j*2 / 2=j by omega,show j*2 % 2=0 by omega,show (j*2+1) / 2=j by omega,show (j*2+1) % 2=1 by omega]
 exact ⟨rfl,rfl⟩
theorem Zgm (l:List (Int × Int)):(flatK Z45 2 l.toArray).toList=Z23 l:=by
 apply List.ext_getElem?
 intro i
 have hlen:(flatK Z45 2 l.toArray).toList.length=l.length*2:=by simp
 by_cases hi:i<l.length*2
 ·obtain ⟨x,hx⟩:∃ x,l[i / 2]?=some x:=⟨_,List.getElem?_eq_getElem (by omega)⟩
  have hd:l.toArray[i / 2]! = x:=by simp [hx]
  have h1:=Zrf l.toArray (i / 2) (by simp;omega)
  have h2:=Z52 hx
  rw [hd] at h1
  have hg:∀ k,k<l.length*2→(flatK Z45 2 l.toArray).toList[k]?=some (flatK Z45 2 l.toArray)[k]!:=fun k hk=>by
   rw [Array.getElem?_toList,Array.getElem?_eq_getElem (by simp;omega)]
   congr 1
   rw [getElem!_pos]
  rw [hg i hi]
  rcases Nat.mod_two_eq_zero_or_one i with h | h
  ·have e:i=i / 2*2:=by omega
   rw [e,h1.1,h2.1]
  ·have e:i=i / 2*2+1:=by omega
   rw [e,h1.2,h2.2]
 ·rw [List.getElem?_eq_none (by omega),List.getElem?_eq_none (by rw [lenI];omega)]
def Zjl (t:TypeId) (w:World) (v:Value) (n:Nat) (xs:List Value):Prop:=∃ ao cap,v = .slice ao n cap∧n≤cap∧(0<n → ∃ b o cur fz,ao=some ⟨b,o,none⟩∧w.heap[b]?=some (.cells cur t fz) ∧ ∀ j u,xs[j]?=some u→cur[o+j]?=some u)
theorem Zrw {t:TypeId}{w:World}{ao:Option Addr}{n cap:Nat}{xs:List Value} (h:Z3m w (.slice ao n cap) n xs) (hb:0<n → ∀ b o,ao=some ⟨b,o,none⟩ → ∃ cur fz,w.heap[b]?=some (.cells cur t fz)):Zjl t w (.slice ao n cap) n xs:=by
 obtain ⟨_,_,e,hc,f⟩:=h
 cases e
 refine ⟨ao,cap,rfl,hc,fun hn => ?_⟩
 obtain ⟨b,o,rfl,_,g⟩:=f hn
 obtain ⟨cur,fz,hk⟩:=hb hn b o rfl
 refine ⟨b,o,cur,fz,rfl,hk,fun j u hj => ?_⟩
 have h1:=g j u hj
 simp only [World.cell?,hk] at h1
 exact h1
theorem idAgg (w:World):(isAgg 123).run prog w = .ok true w:=by kernel_rfl
theorem Ztc (w:World):(Go.sizeOf 123).run prog w = .ok 2 w:=by kernel_rfl
theorem Zp2 (base:Nat) (v:Value) (l:List (Int × Int)) (hl:l.length≤300000) (w:World) (hown:w.ownsRow base 123 2 v l.length (Z23 l)) (hbw:base≤w.heap.size) :
  Calls prog 151 #[v,.func (.func 152) #[] #[]] w fun ev w'=>ev = .returned (.tuple #[]) ∧ ∃ l',l'.Perm l∧l'.Pairwise (fun x y => ¬ y.2<x.2)∧Zjl 123 w' v l'.length (Z23 l')∧Below base w w':=by
 obtain ⟨h1,h2⟩:=hown
 rcases h2 with ⟨rfl,h0⟩ | ⟨g,cap,cur,rfl,hb,hg,hc,hcm,hs,ht⟩
 ·have hnil:l = []:=List.eq_nil_of_length_eq_zero h0
  subst hnil
  have h:=AnyF.slices_SortFunc_none (P:=prog) (ρ:=Z8x) Ztd none 0 (.func (.func 152) #[] #[]) w
  change Calls prog 151 _ _ _ at h
  refine h.mono ?_
  rintro ev w' ⟨rfl,rfl⟩
  exact ⟨rfl,[],List.Perm.refl _,List.Pairwise.nil,⟨none,0,rfl,Nat.le_refl _,fun h=>absurd h (by simp)⟩,Below.refl _ _⟩
 ·have hcell:∀ j u,(Z23 l)[j]?=some u→w.cell? ⟨g,j,none⟩=some u:=fun j u hj=>by
   rw [←ht,List.getElem?_take] at hj
   split at hj
   ·rw [cell_of_row _ _ _ _ _ _ hg,←Array.getElem?_toList]
    exact hj
   ·cases hj
  have hH:HoldsK Z45 2 w g 0 l.toArray:=fun j hj=>by
   refine ⟨?_,Lib.frozen_of_heap hg _⟩
   rw [Nat.zero_add]
   refine hcell j _ ?_
   rw [←Zgm,Array.getElem?_toList,Array.getElem?_eq_getElem hj,getElem!_pos (flatK Z45 2 l.toArray) j hj]
   rfl
  have eg:∀ args w,(callFunc 152 args).run prog w = .ok (.enter 152 args) w:=fun args w=>by kernel_rfl
  have h:=AnyQ.slices_SortFunc (P:=prog) (ρ:=Z8x) Ztd 2 idAgg Ztc Z45 (fun _=>rfl) (fun x v hv=>by simp [Z45] at hv;rcases hv with rfl | rfl <;> rfl) Znk idSWO 152 #[] g 0 cap l.toArray w eg (fun m os dk _ x y=>Zki x y _) hH (Z01 hg) (by simp;omega)
  change Calls prog 151 _ _ _ at h
  rw [List.size_toArray] at h
  refine h.mono ?_
  rintro ev w' ⟨rfl,d',n,os,hp,hsrt,rfl⟩
  have hds:d'.size=l.length:=by rw [hp.1,List.size_toArray]
  have hperm:d'.toList.Perm l:=by
   have h3:=hp.2.2
   rw [show d'.extract 0 l.length=d' by rw [←hds];simp,show l.toArray.extract 0 l.length=l.toArray by simp] at h3
   exact h3
  have hpw:d'.toList.Pairwise (fun x y => ¬ y.2<x.2):=by
   rw [List.pairwise_iff_getElem]
   intro i j hi hj hij hlt
   have h3:=hsrt i j (Nat.zero_le _) hij (by rw [←hds];simpa using hj)
   rw [idLt] at h3
   have hi':i<d'.size:=by simpa using hi
   have hj':j<d'.size:=by simpa using hj
   rw [getElem!_pos d' i hi',getElem!_pos d' j hj'] at h3
   have:=of_decide_eq_false h3
   simp only [Array.getElem_toList] at hlt
   omega
  refine ⟨rfl,d'.toList,hperm,hpw,?_,?_⟩
  ·have hl':d'.toList.length=l.length:=by simpa using hds
   rw [hl']
   refine Zrw ?_ (fun _ b o hbo => ?_)
   rotate_left
   ·cases hbo
    refine ⟨putCells id 0 (flatK Z45 2 d') cur,(0,0),?_⟩
    unfold sortWorldK
    rw [heap_grow_old _ _ (by rw [size_putRowK];exact Z01 hg)]
    simp [putRowK,putRow,mapBlock,Sort.ahead,Array.getElem?_modify,hg,onCells]
   refine ⟨_,_,rfl,hc,fun _=>⟨g,0,rfl,?_,fun j u hj => ?_⟩⟩
   ·unfold sortWorldK
    rw [size_grow,size_putRowK]
    have:=Z01 hg
    show g<w.heap.size+_
    omega
   ·unfold sortWorldK
    rw [cell?_grow _ _ _ (by rw [size_putRowK];exact Z01 hg)]
    have hjl:j<(flatK Z45 2 d').size:=by
     have:=(List.getElem?_eq_some_iff.1 hj).1
     rw [lenI,hl'] at this
     rw [size_flatK,hds]
     omega
    have h3:=cell?_putRow (id:Value→Value) (Sort.ahead w n) g 0 (flatK Z45 2 l.toArray) (flatK Z45 2 d') (fun j hj=>hH j hj) (by simp [hds]) j hjl
    rw [show putRowK Z45 2 (Sort.ahead w n) g 0 d'=putRow id (Sort.ahead w n) g 0 (flatK Z45 2 d') from rfl,h3]
    rw [←Zgm,Array.toArray_toList,Array.getElem?_toList,Array.getElem?_eq_getElem hjl] at hj
    rw [getElem!_pos (flatK Z45 2 d') j hjl]
    cases hj
    rfl
  ·unfold sortWorldK
   have hb1:Below base w (putRowK Z45 2 (Sort.ahead w n) g 0 d'):=⟨rfl,rfl,rfl,by rw [size_putRowK];exact Nat.le_refl _,fun k hk=>by
    simp [putRowK,putRow,mapBlock,Sort.ahead,Array.getElem?_modify,show g≠k by omega]⟩
   exact hb1.trans (Lib.below_grow base _ (by rw [size_putRowK];exact hbw) 0 os)
end Go.Proofs.YtlkcbdinlfeoiaaGreatDoor
