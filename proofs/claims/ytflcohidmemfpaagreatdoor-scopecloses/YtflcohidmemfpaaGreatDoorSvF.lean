/- The law TreeBlocks, plain: what Read comes to at blocks, and brackets, in each other. -/
import Derived.Test.YtflcohidmemfpaaGreatDoorSsN
import Derived.Test.YtflcohidmemfpaaGreatDoorSsE
import Derived.Test.YtflcohidmemfpaaGreatDoorSsO
import Derived.Test.YtflcohidmemfpaaGreatDoorRows
set_option linter.all false
namespace Go.Proofs.YtflcohidmemfpaaGreatDoor
open Go.Proofs.Tryz
open Go.RowKit

/-! Tokens. -/
def tokIf (i:Nat):ByteArray × ByteArray × Nat:=(Z8z,kIf,i)
def tokA (i:Nat):ByteArray × ByteArray × Nat:=(Z8u,⟨#[97]⟩,i)
def tokC (i:Nat):ByteArray × ByteArray × Nat:=(kOp,Z4a,i)
def tokN (i:Nat):ByteArray × ByteArray × Nat:=(Z3p,⟨#[]⟩,i)
def tokI (i:Nat):ByteArray × ByteArray × Nat:=(Z9u,⟨#[]⟩,i)
def tokD (i:Nat):ByteArray × ByteArray × Nat:=(Zbt,⟨#[]⟩,i)
def tokL1 (i:Nat):ByteArray × ByteArray × Nat:=(kOp,Zaj,i)
def Y03 (i:Nat):ByteArray × ByteArray × Nat:=(kOp,Zc1,i)
theorem Zc0 {l:List (ByteArray × ByteArray × Nat)}{k:Nat}{x:ByteArray × ByteArray × Nat}{ts:List ByteArray}{b:Bool} (h:l[k]?=some x) (hb:Z0i x ts=b):Z09 l k ts=b:=by
 unfold Z09
 rw [h]
 exact hb
theorem Zoi {l:List (ByteArray × ByteArray × Nat)}{k:Nat}{x:ByteArray × ByteArray × Nat}{ts:List UInt8}{b:Bool} (h:l[k]?=some x) (hb:(x.1.toList == ts)=b):Z0m l k ts=b:=by
 unfold Z0m
 rw [h]
 exact hb
def Zzg (l:List (ByteArray × ByteArray × Nat)) (k:Nat):Prop:=(∀ r ∈ [1,2,4,5,6],Z09 l k (Z0y r)=false)∧Z09 l k [Z7n]=false∧Z09 l k [Zaj]=false
structure Nest (l:List (ByteArray × ByteArray × Nat)) (k n:Nat):Prop where
 op:∀ j,j<n → ∃ i,l[k+j]?=some (tokL1 i)
 cl:∀ j,j<n → ∃ i,l[k+n+j]?=some (Y03 i)
 stop:Zzg l (k+2*n)
theorem Ztp {l:List (ByteArray × ByteArray × Nat)}{k i:Nat} (h:l[k]?=some (Y03 i)):Zzg l k:=by
 refine ⟨fun r hr => ?_,Zc0 h (by kernel_rfl),Zc0 h (by kernel_rfl)⟩
 simp only [List.mem_cons,List.not_mem_nil,or_false] at hr
 rcases hr with rfl | rfl | rfl | rfl | rfl <;> exact Zc0 h (by kernel_rfl)
theorem Nest.inner {l:List (ByteArray × ByteArray × Nat)}{k n:Nat} (h:Nest l k (n+2)):Nest l (k+1) (n+1):=by
 refine ⟨fun j hj => ?_,fun j hj => ?_,?_⟩
 ·obtain ⟨i,hi⟩:=h.op (j+1) (by omega)
  exact ⟨i,by rw [show k+1+j=k+(j+1) by omega];exact hi⟩
 ·obtain ⟨i,hi⟩:=h.cl j (by omega)
  exact ⟨i,by rw [show k+1+(n+1)+j=k+(n+2)+j by omega];exact hi⟩
 ·obtain ⟨i,hi⟩:=h.cl (n+1) (by omega)
  rw [show k+1+2*(n+1)=k+(n+2)+(n+1) by omega]
  exact Ztp hi
structure Leaf (l:List (ByteArray × ByteArray × Nat)) (k m:Nat):Prop where
 none1:Z09 l k [kIf]=false∧Z09 l k [kWhile]=false∧Z09 l k [kFor]=false∧Z09 l k [kDef]=false∧Z09 l k [kTry]=false
 none2:Z09 l k [Zbm,Z53,Zio]=false∧Z09 l k [Z83,Z4t]=false∧Z09 l k [Z8a]=false∧Z09 l k [Zbg]=false∧Z09 l k [Zz1]=false
 noded:Z0m l k dedentB.toList=false∧Z0m l k endB.toList=false
 nl:∃ i,l[k+m]?=some (tokN i)
structure Blocks (l:List (ByteArray × ByteArray × Nat)) (k b m:Nat):Prop where
 head:∀ j,j<b→(∃ i,l[k+5*j]?=some (tokIf i))∧(∃ i,l[k+5*j+1]?=some (tokA i))∧(∃ i,l[k+5*j+2]?=some (tokC i))∧(∃ i,l[k+5*j+3]?=some (tokN i))∧(∃ i,l[k+5*j+4]?=some (tokI i))
 leaf:Leaf l (k+5*b) m
 ded:∀ j,j<b → ∃ i,l[k+5*b+m+1+j]?=some (tokD i)
 more:Z09 l (k+5*b+m+1+b) [Zix]=false∧Z09 l (k+5*b+m+1+b) [Ziv]=false
theorem Blocks.inner {l:List (ByteArray × ByteArray × Nat)}{k b m:Nat} (h:Blocks l k (b+1) m):Blocks l (k+5) b m:=by
 refine ⟨fun j hj => ?_,?_,fun j hj => ?_,?_⟩
 ·have:=h.head (j+1) (by omega)
  rw [show k+5*(j+1)=k+5+5*j by omega] at this
  exact this
 ·have:=h.leaf
  rw [show k+5*(b+1)=k+5+5*b by omega] at this
  exact this
 ·obtain ⟨i,hi⟩:=h.ded j (by omega)
  exact ⟨i,by rw [show k+5+5*b+m+1+j=k+5*(b+1)+m+1+j by omega];exact hi⟩
 ·obtain ⟨i,hi⟩:=h.ded b (by omega)
  rw [show k+5+5*b+m+1+b=k+5*(b+1)+m+1+b by omega]
  exact ⟨Zc0 hi (by kernel_rfl),Zc0 hi (by kernel_rfl)⟩
theorem Blocks.first {l:List (ByteArray × ByteArray × Nat)}{k b m:Nat} (h:Blocks l k b m):Z0m l k dedentB.toList=false∧Z0m l k endB.toList=false:=by
 cases b with
 | zero=>exact h.leaf.noded
 | succ b =>
  obtain ⟨⟨i,hi⟩,_⟩:=h.head 0 (by omega)
  rw [Nat.mul_zero,Nat.add_zero] at hi
  exact ⟨Zoi hi (by kernel_rfl),Zoi hi (by kernel_rfl)⟩
end Go.Proofs.YtflcohidmemfpaaGreatDoor
namespace Go.Proofs.YtflcohidmemfpaaGreatDoor
open Go.Proofs.Tryz
open Go.RowKit

abbrev Za1:=List (ByteArray × ByteArray × Nat)
structure Sh (l m:Za1) (s a b:Nat):Prop where
 ab:a≤b
 get:∀ k,a≤k∧k<b → ∃ (kd tx:ByteArray) (i j:Nat),l[k]?=some (kd,tx,i)∧m[k+s]?=some (kd,tx,j)
 nl:∃ x,l[b]?=some x∧(∀ ts,Z0i x ts=false)∧Z6o x=false∧Z4h x=false∧Z19 x=false
 st:∃ y,m[b+s]?=some y∧Z0i y [Z8s]=false∧Z0i y [Z7n]=false∧Z0i y [Zaj]=false∧(∀ r,r ∈ [1,2,4,5,6]→Z0i y (Z0y r)=false)
def Fol {α:Type} (D:Prop) (s b k:Nat) (o o':Out α):Prop:=∀ e k',o = .ok (e,k')→k≤k'∧k'≤b∧(o' = .ok (e,k'+s)∨D ∧ ∃ j,o' = .error (j,true))
section
variable {l m:Za1}{s a b:Nat}{D:Prop}
theorem Sh.mark (H:Sh l m s a b) {k:Nat} (hk:a≤k∧k<b) (ts:List ByteArray):Z09 m (k+s) ts=Z09 l k ts:=by
 obtain ⟨kd,tx,i,j,h1,h2⟩:=H.get k hk
 unfold Z09
 rw [h1,h2]
 rfl
theorem Sh.marks (H:Sh l m s a b) {ts:List ByteArray} (h:∀ y,m[b+s]?=some y→Z0i y ts=false):Z09 m (b+s) ts=false:=by
 obtain ⟨y,h1,_⟩:=H.st
 unfold Z09
 rw [h1]
 exact h y h1
theorem Sh.stop (H:Sh l m s a b):Z09 m (b+s) [Z8s]=false∧Z09 m (b+s) [Z7n]=false∧Z09 m (b+s) [Zaj]=false ∧ ∀ r,r ∈ [1,2,4,5,6]→Z09 m (b+s) (Z0y r)=false:=by
 obtain ⟨y,h,h1,h2,h3,h4⟩:=H.st
 have e:∀ ts,Z09 m (b+s) ts=Z0i y ts:=fun ts=>by unfold Z09;rw [h]
 exact ⟨(e _).trans h1,(e _).trans h2,(e _).trans h3,fun r hr=>(e _).trans (h4 r hr)⟩
theorem Zyd {α:Type}{k:Nat}{y:Nat × Bool}{o':Out α} : Fol D s b k (.error y:Out α) o':=fun e k' h=>by cases h
theorem Fol.low {α:Type}{k k0:Nat}{o o':Out α} (h:Fol D s b k o o') (hk:k0≤k):Fol D s b k0 o o':=fun e k' he=>by
 obtain ⟨h1,h2⟩:=h e k' he
 exact ⟨Nat.le_trans hk h1,h2⟩
def bo {α β:Type} (o:Out α) (F:α→Nat→Out β):Out β:=match o with | .error x=>.error x | .ok y=>F y.1 y.2
theorem Fol.bind {α β:Type}{k k1:Nat}{o o':Out α}{F F':α→Nat→Out β} (h:Fol D s b k o o') (hF:∀ e k',o = .ok (e,k')→k≤k'→k'≤b→Fol D s b k1 (F e k') (F' e (k'+s))):Fol D s b k1 (bo o F) (bo o' F'):=by
 cases o with
 | error y=>exact Zyd
 | ok y =>
  obtain ⟨e,k'⟩:=y
  obtain ⟨h1,h2,h3⟩:=h e k' rfl
  intro e2 k2 he
  have g:=hF e k' rfl h1 h2 e2 k2 he
  rcases h3 with rfl | ⟨hD,j,rfl⟩
  ·exact g
  ·exact ⟨g.1,g.2.1,.inr ⟨hD,j,rfl⟩⟩
theorem Zze {σ:Type} (l:Za1) (step:σ→Nat→Out σ) (f:Nat) (x:σ) (k:Nat):Z4q l step (f+1) x k=bif Z09 l k [Z8s] then bo (step x (k+1)) (Z4q l step f) else .ok (x,k):=by
 unfold Z4q
 cases step x (k+1) <;> rfl
theorem Zry {σ:Type} (l:Za1) (step:σ→Nat→Out σ) (f:Nat) (x:σ) (k:Nat):Z1w l step f x k=bo (step x k) (Z4q l step f):=by
 unfold Z1w
 cases step x k <;> rfl
theorem Zzp {σ:Type} (l:Za1) (step:σ→Nat→Out σ) (c:ByteArray) (f:Nat) (x:σ) (k:Nat):Z1g l step c f x k=bif Z09 l k [c] then .ok (x,k+1) else bo (Z1w l step f x k) fun e k'=>bif Z09 l k' [c] then .ok (e,k'+1) else .error (k',false):=by
 unfold Z1g
 cases Z1w l step f x k <;> rfl
theorem Zt8 (l:Za1) (c:ByteArray) (o:Out (DataW Unit)):Z1c l c o=bo o fun e k'=>bif Z09 l k' [c] then .ok (e,k'+1) else .error (k',false):=by cases o <;> rfl
theorem e_op (op:ByteArray) (o:Out (DataW Unit)):pOp op o=bo o fun e k'=>.ok (mkE op 0 ⟨#[]⟩ [] [e],k'):=by cases o <;> rfl
theorem e_one (o:Out (DataW Unit)):Zjk o=bo o fun e k'=>.ok ([e],k'):=by cases o <;> rfl
theorem Zvj (l:Za1) (one:Nat→Out (List (DataW Unit))) (k:Nat):Z3f l one k=bo (Z1g l (Z2k l) Z4a l.length [] k) fun names k1=>bo (one k1) fun el k2=>.ok (mkE kLambda 0 ⟨#[]⟩ names el,k2):=by
 unfold Z3f
 cases Z1g l (Z2k l) Z4a l.length [] k with
 | error y=>rfl
 | ok y =>
  obtain ⟨a,c⟩:=y
  cases h:one c <;> simp [bo,h]
theorem Zxq (l:Za1) (rank:Nat) (sub:Nat→Out (DataW Unit)) (k:Nat):Z3l l rank sub k=bo (sub k) (Z0s l rank sub (l.length+1)):=by
 unfold Z3l
 cases sub k <;> rfl
theorem Zzx (op:ByteArray) (o:Out (List (DataW Unit))):Z4u op o=bo o fun el k'=>.ok (mkE op 0 ⟨#[]⟩ [] el,k'):=by cases o <;> rfl
theorem Zwn (e:DataW Unit) (o:Out (DataW Unit)):Z3t e o=bo o fun e2 k'=>.ok (mkE kIndex 0 ⟨#[]⟩ [] [e,e2],k'):=by cases o <;> rfl
theorem Zn0 (term:Nat→Out (DataW Unit)) (es:List (DataW Unit)) (k:Nat):Z0n term es k=bo (term k) fun e k'=>.ok (es ++ [e],k'):=by
 unfold Z0n
 cases term k <;> rfl
theorem Zma (l:Za1) (term:Nat→Out (DataW Unit)) (es:List (DataW Unit)) (k:Nat):Z13 l term es k=bo (Z1c l Z4a (term k)) fun e k'=>bo (term k') fun e2 k2=>.ok (es ++ [e,e2],k2):=by
 unfold Z13
 cases Z1c l Z4a (term k) with
 | error y=>rfl
 | ok y =>
  obtain ⟨a,c⟩:=y
  cases h:term c <;> simp [bo,h]
theorem Zvo (l:Za1) (dp:Nat) (term:Nat→Out (DataW Unit)) (f:Nat) (e:DataW Unit) (k:Nat):Z22 l dp term (f+1) e k=bif Z09 l k [Z7n] then bo (Z2n dp k (Z4u Z8w (Z1g l (Z0n term) Za7 l.length [e] (k+1)))) (Z22 l dp term f) else bif Z09 l k [Zaj] then bo (Z2n dp k (Z3t e (Z1c l Zc1 (term (k+1))))) (Z22 l dp term f) else .ok (e,k):=by
 rw [Z22]
 cases Z09 l k [Z7n] with
 | true=>simp only [cond_true];cases Z2n dp k (Z4u Z8w (Z1g l (Z0n term) Za7 l.length [e] (k+1))) <;> rfl
 | false =>
  simp only [cond_false]
  cases Z09 l k [Zaj] with
  | true=>simp only [cond_true];cases Z2n dp k (Z3t e (Z1c l Zc1 (term (k+1)))) <;> rfl
  | false=>rfl
theorem Y09 (l:Za1) (dp:Nat) (term:Nat→Out (DataW Unit)) (o:Out (DataW Unit)):Zde l dp term o=bo o (Z22 l dp term (l.length+1)):=by cases o <;> rfl
end
end Go.Proofs.YtflcohidmemfpaaGreatDoor
namespace Go.Proofs.YtflcohidmemfpaaGreatDoor
open Go.Proofs.Tryz
open Go.RowKit

abbrev bk (e:DataW Unit):Nat:=Rows.uptoBulk e
abbrev bl (el:List (DataW Unit)):Nat:=Rows.uptoBulkAll el
def nmB (pl:List ByteArray):Nat:=bl (pl.map fun x=>.lit (.string x.data.toList))
theorem Zdr:∀ (a b:List (DataW Unit)),bl (a++b)=bl a+bl b
 | [],b=>by simp [bl,Rows.uptoBulkAll]
 | x::a,b=>by
  have:=Zdr a b
  simp only [bl,List.cons_append,Rows.uptoBulkAll] at *
  omega
theorem Z8x (e:DataW Unit):bl [e]=bk e:=by simp [bl,bk,Rows.uptoBulkAll]
theorem Zrd (a b:DataW Unit):bl [a,b]=bk a+bk b:=by simp [bl,bk,Rows.uptoBulkAll]
theorem Zi7 (s:ByteArray):Rows.uptoBulk (.lit (.string s.data.toList):DataW Unit)=s.size+1:=by
 rw [Rows.uptoBulk,Array.length_toList]
 rfl
theorem Zvm (pl:List ByteArray) (x:ByteArray):nmB (pl ++ [x])=nmB pl+x.size+1:=by
 unfold nmB
 rw [List.map_append,Zdr,List.map_cons,List.map_nil,Z8x]
 show _+Rows.uptoBulk _=_
 rw [Zi7]
 omega
theorem Z27:nmB []=0:=by simp [nmB,bl,Rows.uptoBulkAll]
theorem Zec (op:ByteArray) (z:Int) (s:ByteArray) (pl:List ByteArray) (el:List (DataW Unit)):bk (mkE op z s pl el)=op.size+s.size+nmB pl+bl el+6:=by
 have h1:=Zi7 op
 have h2:=Zi7 s
 simp only [bk,mkE,Rows.uptoBulk,Rows.uptoBulkAll,nmB,bl] at h1 h2 ⊢
 omega
theorem Z70 (kd nm:ByteArray) (pl:List ByteArray) (el bd es:List (DataW Unit)):bk (mkS kd nm pl el bd es)=kd.size+nm.size+nmB pl+bl el+bl bd+bl es+7:=by
 have h1:=Zi7 kd
 have h2:=Zi7 nm
 simp only [bk,mkS,Rows.uptoBulk,Rows.uptoBulkAll,nmB,bl] at h1 h2 ⊢
 omega
theorem Z4i:bl []=0:=by simp [bl,Rows.uptoBulkAll]
def Zat:Za1→Nat
 | []=>0
 | x::l=>x.2.1.size+Zat l
theorem Z8g:∀ a b:Za1,Zat (a++b)=Zat a+Zat b
 | [],b=>by simp [Zat]
 | x::a,b=>by
  simp only [List.cons_append,Zat,Z8g a b]
  omega
theorem Zh0:∀ (l:Za1) (k:Nat),Zat (l.take k)≤Zat l
 | [],k=>by simp
 | x::l,0=>by simp [Zat]
 | x::l,k+1=>by
  have:=Zh0 l k
  simp only [List.take_succ_cons,Zat]
  omega
def Sm (l:Za1) (k:Nat):Nat:=40*k+2*Zat (l.take k)
theorem Ztl {l:Za1}{k:Nat}{x:ByteArray × ByteArray × Nat} (h:l[k]?=some x):Sm l (k+1)=Sm l k+40+2*x.2.1.size:=by
 unfold Sm
 rw [List.take_add_one,h,Z8g]
 simp only [Option.toList_some,Zat]
 omega
theorem Ze1 (l:Za1) (k:Nat):Sm l k+40+2*(Z56 l k).size≤Sm l (k+1):=by
 unfold Z56
 cases hx:l[k]? with
 | some x=>exact Nat.le_of_eq (Ztl hx).symm
 | none =>
  unfold Sm
  rw [List.take_add_one,hx,Z8g]
  have:(⟨#[]⟩:ByteArray).size=0:=rfl
  simp only [Option.toList_none,Zat]
  omega
theorem sm1 (l:Za1) (k:Nat):Sm l k+40≤Sm l (k+1):=by
 have:=Ze1 l k
 omega
section
variable {l:Za1}
def Co (l:Za1) {α:Type} (f:α→Nat) (b k:Nat) (o:Out α):Prop:=∀ e k',o = .ok (e,k')→k≤k'∧f e+Sm l k≤b+Sm l k'
theorem Z0z {α:Type}{f:α→Nat}{b k:Nat}{y:Nat × Bool} : Co l f b k (.error y:Out α):=fun e k' h=>by cases h
theorem Z3d {α:Type}{f:α→Nat}{b k k':Nat}{e:α} (h1:k≤k') (h2:f e+Sm l k≤b+Sm l k'):Co l f b k (.ok (e,k'):Out α):=fun e2 k2 h=>by
 cases h
 exact ⟨h1,h2⟩
theorem Co.bind {α β:Type}{f:α→Nat}{g:β→Nat}{b c k k0:Nat}{o:Out α}{F:α→Nat→Out β} (h:Co l f b k o) (hF:∀ e k',k≤k'→f e+Sm l k≤b+Sm l k'→Co l g c k0 (F e k')):Co l g c k0 (bo o F):=by
 cases o with
 | error y=>exact Z0z
 | ok y =>
  obtain ⟨e,k'⟩:=y
  obtain ⟨h1,h2⟩:=h e k' rfl
  exact hF e k' h1 h2
theorem Co.more {α:Type}{f:α→Nat}{b b' k k0:Nat}{o:Out α} (h:Co l f b k o) (hk:k0≤k) (hb:b+Sm l k0≤b'+Sm l k):Co l f b' k0 o:=fun e k' he=>by
 obtain ⟨h1,h2⟩:=h e k' he
 exact ⟨by omega,by omega⟩
def Zmy (l:Za1) {σ:Type} (f:σ→Nat) (step:σ→Nat→Out σ):Prop:=∀ x k,Co l f (f x) k (step x k)
theorem Zrj {σ:Type}{f:σ→Nat}{step:σ→Nat→Out σ} (hs:Zmy l f step):∀ (n:Nat) (x:σ) (k:Nat),Co l f (f x) k (Z4q l step n x k)
 | 0,x,k=>Z0z
 | n+1,x,k=>by
  rw [Zze]
  cases Z09 l k [Z8s] with
  | false=>exact Z3d (Nat.le_refl _) (Nat.le_refl _)
  | true =>
   simp only [cond_true]
   have s1:=sm1 l k
   exact (hs x (k+1)).bind (fun e k' h1 h2=>(Zrj hs n e k').more (by omega) (by omega))
theorem Zef {σ:Type}{f:σ→Nat}{step:σ→Nat→Out σ} (hs:Zmy l f step) (n:Nat) (x:σ) (k:Nat):Co l f (f x) k (Z1w l step n x k):=by
 rw [Zry]
 exact (hs x k).bind (fun e k' h1 h2=>(Zrj hs n e k').more (by omega) (by omega))
theorem Zbs {σ:Type}{f:σ→Nat}{step:σ→Nat→Out σ} (hs:Zmy l f step) (c:ByteArray) (n:Nat) (x:σ) (k:Nat):Co l f (f x) k (Z1g l step c n x k):=by
 rw [Zzp]
 have s1:=sm1 l k
 cases Z09 l k [c] with
 | true=>exact Z3d (by omega) (by omega)
 | false =>
  simp only [cond_false]
  refine (Zef hs n x k).bind (fun e k' h1 h2 => ?_)
  have s2:=sm1 l k'
  cases Z09 l k' [c] with
  | true=>exact Z3d (by omega) (by omega)
  | false=>exact Z0z
theorem Zcy {c:ByteArray}{b k:Nat}{o:Out (DataW Unit)} (h:Co l bk b k o):Co l bk b k (Z1c l c o):=by
 rw [Zt8]
 refine h.bind (fun e k' h1 h2 => ?_)
 have s1:=sm1 l k'
 cases Z09 l k' [c] with
 | true=>exact Z3d (by omega) (by omega)
 | false=>exact Z0z
theorem Zd0 {b k dp j:Nat}{o:Out (DataW Unit)} (h:Co l bk b k o):Co l bk b k (Z2n dp j o):=by
 unfold Z2n
 split
 ·exact Z0z
 ·exact h
theorem Zij {op:ByteArray}{b k:Nat}{o:Out (List (DataW Unit))} (hop:op.size≤12) (h:Co l bl b (k+1) o):Co l bk b k (Z4u op o):=by
 rw [Zzx]
 refine h.bind (fun el k' h1 h2=>Z3d (by omega) ?_)
 rw [Zec,Z27]
 have:(⟨#[]⟩:ByteArray).size=0:=rfl
 have s1:=sm1 l k
 omega
theorem Zz7 {op:ByteArray}{b k:Nat}{o:Out (DataW Unit)} (hop:op.size≤12) (h:Co l bk b (k+1) o):Co l bk b k (pOp op o):=by
 rw [e_op]
 refine h.bind (fun e k' h1 h2=>Z3d (by omega) ?_)
 rw [Zec,Z27,Z8x]
 have:(⟨#[]⟩:ByteArray).size=0:=rfl
 have s1:=sm1 l k
 omega
theorem Zsz {e:DataW Unit}{k:Nat}{o:Out (DataW Unit)} (h:Co l bk 0 (k+1) o):Co l bk (bk e) k (Z3t e o):=by
 rw [Zwn]
 refine h.bind (fun e2 k' h1 h2=>Z3d (by omega) ?_)
 rw [Zec,Z27,Zrd]
 have:(⟨#[]⟩:ByteArray).size=0:=rfl
 have:kIndex.size=5:=rfl
 have s1:=sm1 l k
 omega
theorem Zr2 {b k:Nat}{o:Out (DataW Unit)} (h:Co l bk b k o):Co l bl b k (Zjk o):=by
 rw [e_one]
 exact h.bind (fun e k' h1 h2=>Z3d h1 (by rw [Z8x];exact h2))
theorem Zcb {term:Nat→Out (DataW Unit)} (ht:∀ k,Co l bk 0 k (term k)):Zmy l bl (Z0n term):=fun x k=>by
 rw [Zn0]
 refine (ht k).bind (fun e k' h1 h2=>Z3d h1 ?_)
 rw [Zdr,Z8x]
 omega
theorem Zj0 {term:Nat→Out (DataW Unit)} (ht:∀ k,Co l bk 0 k (term k)):Zmy l bl (Z13 l term):=fun x k=>by
 rw [Zma]
 refine (Zcy (ht k)).bind (fun e k' h1 h2=>(ht k').bind (fun e2 k2 h3 h4=>Z3d (by omega) ?_))
 rw [Zdr,Zrd]
 omega
theorem Zkj:Zmy l nmB (Z2k l):=fun x k e k' h=>by
 unfold Z2k at h
 split at h
 next y hy =>
  cases hm:Z19 y with
  | false =>
   rw [hm] at h
   cases h
  | true =>
   rw [hm] at h
   simp only [cond_true,Except.ok.injEq,Prod.mk.injEq] at h
   have hs:=Ztl hy
   rw [←h.1,←h.2,Zvm]
   omega
 next=>cases h
theorem Zcl {dp:Nat}{term:Nat→Out (DataW Unit)} (ht:∀ k,Co l bk 0 k (term k)):∀ (f:Nat) (e:DataW Unit) (k:Nat),Co l bk (bk e) k (Z22 l dp term f e k)
 | 0,e,k=>Z0z
 | f+1,e,k=>by
  rw [Zvo]
  have s1:=sm1 l k
  cases Z09 l k [Z7n] with
  | true =>
   simp only [cond_true]
   have h:=Zbs (l:=l) (Zcb ht) Za7 l.length [e] (k+1)
   rw [Z8x] at h
   exact (Zd0 (Zij (op:=Z8w) (by decide) h)).bind (fun e' k' h1 h2=>(Zcl ht f e' k').more (by omega) (by omega))
  | false =>
   simp only [cond_false]
   cases Z09 l k [Zaj] with
   | true =>
    simp only [cond_true]
    exact (Zd0 (Zsz (Zcy (ht (k+1))))).bind (fun e' k' h1 h2=>(Zcl ht f e' k').more (by omega) (by omega))
   | false=>exact Z3d (Nat.le_refl _) (Nat.le_refl _)
theorem Zdi {rank:Nat}{sub:Nat→Out (DataW Unit)} (ht:∀ k,Co l bk 0 k (sub k)):∀ (f:Nat) (e:DataW Unit) (k:Nat),Co l bk (bk e) k (Z0s l rank sub f e k)
 | 0,e,k=>Z3d (Nat.le_refl _) (Nat.le_refl _)
 | f+1,e,k=>by
  unfold Z0s
  cases hx:l[k]? with
  | none=>exact Z3d (Nat.le_refl _) (Nat.le_refl _)
  | some x =>
   simp only
   cases hm:Z0i x (Z0y rank) with
   | false=>exact Z3d (Nat.le_refl _) (Nat.le_refl _)
   | true =>
    simp only [cond_true]
    cases ho:sub (k+1) with
    | error y=>exact Z0z
    | ok y =>
     obtain ⟨e2,k2⟩:=y
     obtain ⟨h1,h2⟩:=ht (k+1) e2 k2 ho
     have hs:=Ztl hx
     have hb:bk (mkE x.2.1 0 ⟨#[]⟩ [] [e,e2])+Sm l k≤bk e+Sm l k2:=by
      rw [Zec,Z27,Zrd]
      have:(⟨#[]⟩:ByteArray).size=0:=rfl
      omega
     simp only
     cases rank == 4 with
     | true=>exact Z3d (by omega) hb
     | false=>exact (Zdi ht f _ _).more (by omega) (by omega)
theorem Zk2 {op s:ByteArray}{z:Int}{k:Nat} (h:op.size+s.size+6+Sm l k≤Sm l (k+1)):Co l bk 0 k (.ok (mkE op z s [] [],k+1):Out (DataW Unit)):=Z3d (by omega) (by
 rw [Zec,Z27,Z4i]
 omega)
theorem Zyi {x:ByteArray × ByteArray × Nat} (h:(Z4h x || Z19 x)=true):x.1.size≤12:=by
 rw [Bool.or_eq_true] at h
 unfold Z4h Z19 at h
 rw [ByteArray.toList_eq,beq_iff_eq,beq_iff_eq] at h
 have e:x.1.size=x.1.data.toList.length:=by rw [Array.length_toList];rfl
 rcases h with h | h <;> rw [e,h] <;> decide
theorem Zz0 {dp k:Nat}{term:Nat→Out (DataW Unit)}{terms pairs:Nat→Out (List (DataW Unit))} (h:Co l bk 0 (k+1) (term (k+1))) (h1:Co l bl 0 (k+1) (terms (k+1))) (h2:Co l bl 0 (k+1) (pairs (k+1))):Co l bk 0 k (Z79 l dp term terms pairs k):=by
 unfold Z79
 cases hx:l[k]? with
 | none=>exact Z0z
 | some x =>
  have ht:=Ztl hx
  have s1:=sm1 l k
  have hz:(⟨#[]⟩:ByteArray).size=0:=rfl
  have hki:kIntT.size=3:=rfl
  simp only
  cases Z6o x with
  | true=>exact Zk2 (by omega)
  | false =>
   simp only [cond_false]
   cases hk:Z4h x || Z19 x with
   | true=>exact Zk2 (by have:=Zyi hk;omega)
   | false =>
    simp only [cond_false]
    cases Z0i x [Z6v,Z78,Z48] with
    | true=>exact Zk2 (by omega)
    | false =>
     simp only [cond_false]
     cases Z0i x [Z7n] with
     | true=>exact Zd0 ((Zcy h).more (by omega) (by omega))
     | false =>
      simp only [cond_false]
      cases Z0i x [Zaj] with
      | true=>exact Zd0 (Zij (by decide) h1)
      | false =>
       simp only [cond_false]
       cases Z0i x [Zsr] with
       | true=>exact Zd0 (Zij (by decide) h2)
       | false=>exact Z0z
theorem Zfe {m:ByteArray}{k dp b:Nat}{o1 o2:Out (DataW Unit)} (h1:Co l bk b k o1) (h2:Co l bk b k o2):Co l bk b k (Z3u l m k dp o1 o2):=by
 unfold Z3u
 cases Z09 l k [m] with
 | true =>
  simp only [cond_true]
  split
  ·exact Z0z
  ·exact h2
 | false=>exact h1
theorem Zrr {one:Nat→Out (List (DataW Unit))}{k:Nat} (h1:∀ k,Co l bl 0 k (one k)):Co l bk 0 k (Z3f l one (k+1)):=by
 rw [Zvj]
 have h:=Zbs (l:=l) (Zkj) Z4a l.length [] (k+1)
 rw [Z27] at h
 refine h.bind (fun names k1 g1 g2=>(h1 k1).bind (fun el k2 g3 g4=>Z3d (by omega) ?_))
 rw [Zec]
 have:(⟨#[]⟩:ByteArray).size=0:=rfl
 have:kLambda.size=6:=rfl
 have s1:=sm1 l k
 omega
theorem Z35:∀ (f dp rank k:Nat),Co l bk 0 k (Z0k l f dp rank k)
 | 0,dp,rank,k=>Z0z
 | f+1,dp,rank,k=>by
  unfold Z0k
  split
  ·exact Zfe (Z35 f dp 1 k) (Zrr (fun k1=>Zr2 (Z35 f (dp+1) 0 k1)))
  ·split
   ·exact Zfe (Z35 f dp 4 k) (Zz7 (by decide) (Z35 f (dp+1) 3 (k+1)))
   ·split
    ·exact Zfe (Z35 f dp 8 k) (Zz7 (by decide) (Z35 f (dp+1) 7 (k+1)))
    ·split
     ·rw [Y09]
      have ht:=fun k=>Z35 f (dp+1) 0 k
      have q1:=Zbs (l:=l) (Zcb ht) Zc1 l.length [] (k+1)
      have q2:=Zbs (l:=l) (Zj0 (l:=l) ht) Zo7 l.length [] (k+1)
      rw [Z4i] at q1 q2
      exact (Zz0 (ht (k+1)) q1 q2).bind (fun e k' g1 g2=>(Zcl ht _ e k').more (by omega) (by omega))
     ·rw [Zxq]
      exact (Z35 f dp (rank+1) k).bind (fun e k' g1 g2=>(Zdi (fun k=>Z35 f dp (rank+1) k) _ e k').more (by omega) (by omega))
theorem Ziu (k:Nat):Co l bk 0 k (Zau l k):=Z35 _ _ _ _
end
end Go.Proofs.YtflcohidmemfpaaGreatDoor
namespace Go.Proofs.YtflcohidmemfpaaGreatDoor
open Go.Proofs.Tryz
open Go.RowKit

section
variable {l:Za1}
theorem Zv1 {bl':Nat}{inner:Nat→Out (List (DataW Unit))}{k:Nat} (h:∀ k,Co l bl 0 k (inner k)):Co l bl 0 k (Z5x l bl' inner k):=by
 have s1:=sm1 l k
 have s2:Sm l (k+1)+40≤Sm l (k+2):=sm1 l (k+1)
 unfold Z5x
 cases Z0m l k [110,101,119,108,105,110,101] with
 | false=>exact Z0z
 | true =>
  simp only [cond_true]
  cases Z0m l (k+1) [105,110,100,101,110,116] with
  | false=>exact Z0z
  | true =>
   simp only [cond_true]
   split
   ·exact Z0z
   ·cases ho:inner (k+2) with
    | error y=>exact Z0z
    | ok y =>
     obtain ⟨ss,k'⟩:=y
     obtain ⟨h1,h2⟩:=h _ _ _ ho
     have s3:=sm1 l k'
     simp only
     cases Z0m l k' [100,101,100,101,110,116] with
     | false=>exact Z0z
     | true=>exact Z3d (by omega) (by omega)
theorem Zo4 {bl':Nat}{inner:Nat→Out (List (DataW Unit))}{k:Nat} (h:∀ k,Co l bl 0 k (inner k)):Co l bl 0 k (Z2g l bl' inner k):=by
 unfold Z2g
 cases Z09 l k [Z4a] with
 | false=>exact Z0z
 | true=>exact (Zv1 h).more (by omega) (by have:=sm1 l k;omega)
theorem z0:(⟨#[]⟩:ByteArray).size=0:=rfl
theorem Ztm {one blk:Nat→Out (List (DataW Unit))}{k:Nat} (h1:∀ k,Co l bl 0 k (one k)) (h2:∀ k,Co l bl 0 k (blk k)):Co l bk 40 k (Z6m one blk k):=by
 unfold Z6m
 cases ho:one k with
 | error y=>exact Z0z
 | ok y =>
  obtain ⟨el,k1⟩:=y
  obtain ⟨g1,g2⟩:=h1 _ _ _ ho
  simp only
  cases ho2:blk k1 with
  | error y=>exact Z0z
  | ok y =>
   obtain ⟨ss,k2⟩:=y
   obtain ⟨g3,g4⟩:=h2 _ _ _ ho2
   refine Z3d (by omega) ?_
   rw [Z70,Z27,Z4i]
   have:=z0
   have:kWhile.size=5:=rfl
   omega
theorem Zym {one blk:Nat→Out (List (DataW Unit))}{k:Nat} (h1:∀ k,Co l bl 0 k (one k)) (h2:∀ k,Co l bl 0 k (blk k)):Co l bk 40 k (Z7c l one blk k):=by
 unfold Z7c
 cases Z0m l k [110,97,109,101] with
 | false=>exact Z0z
 | true =>
  simp only [cond_true]
  cases Z09 l (k+1) [kIn] with
  | false=>exact Z0z
  | true =>
   simp only [cond_true]
   cases ho:one (k+2) with
   | error y=>exact Z0z
   | ok y =>
    obtain ⟨el,k1⟩:=y
    obtain ⟨g1,g2⟩:=h1 _ _ _ ho
    simp only
    cases ho2:blk k1 with
    | error y=>exact Z0z
    | ok y =>
     obtain ⟨ss,k2⟩:=y
     obtain ⟨g3,g4⟩:=h2 _ _ _ ho2
     have ht:=Ze1 l k
     have s2:Sm l (k+1)+40≤Sm l (k+2):=sm1 l (k+1)
     refine Z3d (by omega) ?_
     rw [Z70,Z27,Z4i]
     have:kFor.size=3:=rfl
     omega
theorem Znu {blk:Nat→Out (List (DataW Unit))}{k:Nat} (h2:∀ k,Co l bl 0 k (blk k)):Co l bk 40 k (Z2h l blk k):=by
 unfold Z2h
 cases ho:blk k with
 | error y=>exact Z0z
 | ok y =>
  obtain ⟨ss,k1⟩:=y
  obtain ⟨g1,g2⟩:=h2 _ _ _ ho
  simp only
  cases Z09 l k1 [Za2] with
  | false=>exact Z0z
  | true =>
   simp only [cond_true]
   cases Z0m l (k1+1) [110,97,109,101] with
   | false=>exact Z0z
   | true =>
    simp only [cond_true]
    cases ho2:blk (k1+2) with
    | error y=>exact Z0z
    | ok y =>
     obtain ⟨es,k2⟩:=y
     obtain ⟨g3,g4⟩:=h2 _ _ _ ho2
     have ht:Sm l (k1+1)+40+2*(Z56 l (k1+1)).size≤Sm l (k1+2):=Ze1 l (k1+1)
     have s2:=sm1 l k1
     refine Z3d (by omega) ?_
     rw [Z70,Z27,Z4i]
     have:kTry.size=3:=rfl
     omega
theorem Zg1 {one blk:Nat→Out (List (DataW Unit))} (h1:∀ k,Co l bl 0 k (one k)) (h2:∀ k,Co l bl 0 k (blk k)):∀ (f k:Nat),Co l bk 40 k (Z1y l one blk f k)
 | 0,k=>Z0z
 | f+1,k=>by
  have hkd:kIf.size=2:=rfl
  have hz:=z0
  unfold Z1y
  cases ho:one k with
  | error y=>exact Z0z
  | ok y =>
   obtain ⟨el,k1⟩:=y
   obtain ⟨g1,g2⟩:=h1 _ _ _ ho
   simp only
   cases ho2:blk k1 with
   | error y=>exact Z0z
   | ok y =>
    obtain ⟨ss,k2⟩:=y
    obtain ⟨g3,g4⟩:=h2 _ _ _ ho2
    simp only
    have s2:=sm1 l k2
    cases Z09 l k2 [Zix] with
    | true =>
     simp only [cond_true]
     cases ho3:Z1y l one blk f (k2+1) with
     | error y=>exact Z0z
     | ok y =>
      obtain ⟨s,k3⟩:=y
      obtain ⟨g5,g6⟩:=Zg1 h1 h2 f (k2+1) _ _ ho3
      refine Z3d (by omega) ?_
      rw [Z70,Z27,Z8x]
      omega
    | false =>
     simp only [cond_false]
     cases Z09 l k2 [Ziv] with
     | true =>
      simp only [cond_true]
      cases ho3:blk (k2+1) with
      | error y=>exact Z0z
      | ok y =>
       obtain ⟨es,k3⟩:=y
       obtain ⟨g5,g6⟩:=h2 _ _ _ ho3
       refine Z3d (by omega) ?_
       rw [Z70,Z27]
       omega
     | false =>
      refine Z3d (by omega) ?_
      rw [Z70,Z27,Z4i]
      omega
theorem Zwq {blk:Nat→Out (List (DataW Unit))}{k:Nat} (h2:∀ k,Co l bl 0 k (blk k)):Co l bk 40 k (Z6y l blk k):=by
 unfold Z6y
 cases Z0m l k [110,97,109,101] with
 | false=>exact Z0z
 | true =>
  simp only [cond_true]
  cases Z09 l (k+1) [Z7n] with
  | false=>exact Z0z
  | true =>
   simp only [cond_true]
   cases ho:Z1g l (Z2k l) Za7 l.length [] (k+2) with
   | error y=>exact Z0z
   | ok y =>
    obtain ⟨names,k1⟩:=y
    obtain ⟨g1,g2⟩:=Zbs (l:=l) (Zkj ) Za7 l.length [] (k+2) _ _ ho
    rw [Z27] at g2
    simp only
    cases ho2:blk k1 with
    | error y=>exact Z0z
    | ok y =>
     obtain ⟨ss,k2⟩:=y
     obtain ⟨g3,g4⟩:=h2 _ _ _ ho2
     have ht:=Ze1 l k
     have s2:Sm l (k+1)+40≤Sm l (k+2):=sm1 l (k+1)
     refine Z3d (by omega) ?_
     rw [Z70,Z4i]
     have:kDef.size=3:=rfl
     omega
theorem Zlt (e:DataW Unit):bl (partsOf e)≤bk e:=by
 unfold partsOf
 split
 ·simp only [bl,bk,Rows.uptoBulk,Rows.uptoBulkAll]
  omega
 ·rw [Z4i]
  exact Nat.zero_le _
theorem Zmd {term:Nat→Out (DataW Unit)}{k:Nat} (h:∀ k,Co l bk 0 k (term k)):Co l bk 40 k (Z1m l term k):=by
 have hz:=z0
 unfold Z1m
 cases ho:term k with
 | error y=>exact Z0z
 | ok y =>
  obtain ⟨e,k1⟩:=y
  obtain ⟨g1,g2⟩:=h _ _ _ ho
  simp only
  cases hc:(Z0m l k [110,97,109,101] && (k1 == k+1)) && Z09 l k1 [kEq] with
  | true =>
   simp only [cond_true]
   cases ho1:Zjk (term (k1+1)) with
   | error y=>exact Z0z
   | ok y =>
    obtain ⟨el,k2⟩:=y
    obtain ⟨g3,g4⟩:=Zr2 (h (k1+1)) _ _ ho1
    have ht:=Ze1 l k
    have s2:=sm1 l k1
    obtain rfl:k1=k+1:=by
     simp only [Bool.and_eq_true,beq_iff_eq] at hc
     exact hc.1.2
    refine Z3d (by omega) ?_
    rw [Z70,Z27,Z4i]
    have:kSet.size=3:=rfl
    omega
  | false =>
   simp only [cond_false]
   have hx:Co l bk 40 k (.ok (mkS kExpr ⟨#[]⟩ [] [e] [] [],k1):Out (DataW Unit)):=Z3d (by omega) (by
    rw [Z70,Z27,Z4i,Z8x]
    have:kExpr.size=4:=rfl
    omega)
   cases (Zii e == [105,110,100,101,120]) && Z09 l k1 [kEq] with
   | false=>exact hx
   | true =>
    simp only [cond_true]
    cases ho1:term (k1+1) with
    | error y=>exact Z0z
    | ok y =>
     obtain ⟨e2,k2⟩:=y
     obtain ⟨g3,g4⟩:=h _ _ _ ho1
     have hp:=Zlt e
     have s1:=sm1 l k1
     refine Z3d (by omega) ?_
     rw [Z70,Z27,Z4i,Zdr,Z8x]
     have:kPut.size=3:=rfl
     omega
theorem Zx3 {term:Nat→Out (DataW Unit)}{one:Nat→Out (List (DataW Unit))}{tset:Nat→Out (DataW Unit)}{k:Nat} (h0:∀ k,Co l bk 0 k (term k)) (h1:∀ k,Co l bl 0 k (one k)) (h2:Co l bk 40 k (tset k)):Co l bk 40 k (Z4e l term one tset k):=by
 have ht:=Ze1 l k
 have hz:=z0
 have bare:∀ (names:List ByteArray) (el:List (DataW Unit)) (k1:Nat),k≤k1→nmB names+bl el+Sm l (k+1)≤Sm l k1→Co l bk 40 k (.ok (mkS (Z56 l k) ⟨#[]⟩ names el [] [],k1):Out (DataW Unit)):=fun names el k1 g1 g2=>Z3d g1 (by
  rw [Z70,Z4i]
  omega)
 have many:nmB []+bl []+Sm l (k+1)≤Sm l (k+1):=by rw [Z27,Z4i];omega
 unfold Z4e
 cases Z09 l k [Zbm,Z53,Zio] with
 | true=>exact bare [] [] _ (by omega) many
 | false =>
  simp only [cond_false]
  cases Z09 l k [Z83,Z4t] with
  | true =>
   simp only [cond_true]
   cases ho:Z1w l (Z2k l) l.length [] (k+1) with
   | error y=>exact Z0z
   | ok y =>
    obtain ⟨names,k1⟩:=y
    obtain ⟨g1,g2⟩:=Zef (l:=l) (Zkj ) l.length [] (k+1) _ _ ho
    rw [Z27] at g2
    exact bare names [] k1 (by omega) (by rw [Z4i];omega)
  | false =>
   simp only [cond_false]
   have one':Co l bk 40 k (match one (k+1) with
    | .error y=>.error y
    | .ok (el,k1)=>.ok (mkS (Z56 l k) ⟨#[]⟩ [] el [] [],k1):Out (DataW Unit)):=by
    cases ho:one (k+1) with
    | error y=>exact Z0z
    | ok y =>
     obtain ⟨el,k1⟩:=y
     obtain ⟨g1,g2⟩:=h1 _ _ _ ho
     exact bare [] el k1 (by omega) (by rw [Z27];omega)
   cases Z09 l k [Z8a] with
   | true =>
    simp only [cond_true]
    cases Z0m l (k+1) [110,101,119,108,105,110,101] with
    | true=>exact bare [] [] _ (by omega) many
    | false=>exact one'
   | false =>
    simp only [cond_false]
    cases Z09 l k [Zbg] with
    | true=>exact one'
    | false =>
     simp only [cond_false]
     cases Z09 l k [Zz1] with
     | true =>
      simp only [cond_true]
      cases ho:term (k+1) with
      | error y=>exact Z0z
      | ok y =>
       obtain ⟨e,k1⟩:=y
       obtain ⟨g1,g2⟩:=h0 _ _ _ ho
       have hp:=Zlt e
       simp only
       cases Zii e == [105,110,100,101,120] with
       | true=>exact bare [] (partsOf e) k1 (by omega) (by rw [Z27];omega)
       | false=>exact Z0z
     | false=>exact h2
theorem Zgv {a b c d e f:Nat→Out (DataW Unit)}{k:Nat} (ha:∀ k,Co l bk 40 k (a k)) (hb:∀ k,Co l bk 40 k (b k)) (hc:∀ k,Co l bk 40 k (c k)) (hd:∀ k,Co l bk 40 k (d k)) (he:∀ k,Co l bk 40 k (e k)) (hf:Co l bk 40 k (f k)):Co l bk 0 k (Z0q l a b c d e f k):=by
 have s1:=sm1 l k
 unfold Z0q
 cases Z09 l k [kIf] with
 | true=>exact (ha _).more (by omega) (by omega)
 | false =>
  simp only [cond_false]
  cases Z09 l k [kWhile] with
  | true=>exact (hb _).more (by omega) (by omega)
  | false =>
   simp only [cond_false]
   cases Z09 l k [kFor] with
   | true=>exact (hc _).more (by omega) (by omega)
   | false =>
    simp only [cond_false]
    cases Z09 l k [kDef] with
    | true=>exact (hd _).more (by omega) (by omega)
    | false =>
     simp only [cond_false]
     cases Z09 l k [kTry] with
     | true=>exact (he _).more (by omega) (by omega)
     | false =>
      simp only [cond_false]
      cases ho:f k with
      | error y=>exact Z0z
      | ok y =>
       obtain ⟨s,k1⟩:=y
       obtain ⟨g1,g2⟩:=hf s k1 ho
       have s2:=sm1 l k1
       simp only
       cases Z0m l k1 [110,101,119,108,105,110,101] with
       | false=>exact Z0z
       | true=>exact Z3d (by omega) (by omega)
theorem Zfi {cb:List UInt8}{stmt:Nat→Out (DataW Unit)} (h:∀ k,Co l bk 0 k (stmt k)):∀ (f:Nat) (ss:List (DataW Unit)) (k:Nat),Co l bl (bl ss) k (Z25 l cb stmt f ss k)
 | 0,_,_=>Z0z
 | f+1,ss,k=>by
  unfold Z25
  cases Z0m l k cb with
  | true=>exact Z3d (Nat.le_refl _) (Nat.le_refl _)
  | false =>
   simp only [cond_false]
   cases ho:stmt k with
   | error y=>exact Z0z
   | ok y =>
    obtain ⟨s,k1⟩:=y
    obtain ⟨g1,g2⟩:=h _ _ _ ho
    refine (Zfi h f (ss ++ [s]) k1).more g1 ?_
    rw [Zdr,Z8x]
    omega
theorem Zi0:∀ (d k:Nat),Co l bk 0 k (Z34 l d k)
 | 0,k=>Z0z
 | d+1,k=>by
  have H1:∀ k,Co l bl 0 k (Z8o l k):=fun k=>Zr2 (Ziu k)
  have H2:∀ k,Co l bl 0 k (Z2g l (12 - d) (fun k'=>Z25 l dedentB.toList (Z34 l d) (l.length+1) [] k') k):=fun k=>Zo4 (fun k'=>by
   have h:=Zfi (l:=l) (cb:=dedentB.toList) (fun k=>Zi0 d k) (l.length+1) [] k'
   rw [Z4i] at h
   exact h)
  unfold Z34 Za0
  exact Zgv (fun k=>Zg1 H1 H2 _ _) (fun k=>Ztm H1 H2) (fun k=>Zym H1 H2) (fun k=>Zwq H2) (fun k=>Znu H2) (Zx3 (fun k=>Ziu k) H1 (Zmd (fun k=>Ziu k)))
theorem Zhd {cb:List UInt8}{stmt:Nat→Out (DataW Unit)} : ∀ (f:Nat) (ss:List (DataW Unit)) (k:Nat) (r:List (DataW Unit)) (k':Nat),Z25 l cb stmt f ss k = .ok (r,k')→Z0m l k' cb=true
 | 0,_,_,_,_,h=>by cases h
 | f+1,ss,k,r,k',h=>by
  unfold Z25 at h
  cases hk:Z0m l k cb with
  | true =>
   rw [hk] at h
   cases h
   exact hk
  | false =>
   rw [hk] at h
   simp only [cond_false] at h
   cases ho:stmt k with
   | error y=>rw [ho] at h;cases h
   | ok y =>
    obtain ⟨s,k1⟩:=y
    rw [ho] at h
    exact Zhd f _ _ _ _ h
theorem Zt9 {ss:List (DataW Unit)}{k:Nat} (h:Z86 l = .ok (ss,k)):k<l.length:=by
 unfold Z86 at h
 have h1:=Zhd _ _ _ _ _ h
 unfold Z0m at h1
 split at h1
 ·rename_i x hx
  exact (List.getElem?_eq_some_iff.1 hx).1
 ·cases h1
theorem Zz3 {ss:List (DataW Unit)}{k:Nat} (h:Z86 l = .ok (ss,k)):bl ss≤Sm l k:=by
 unfold Z86 at h
 obtain ⟨_,h2⟩:=Zfi (l:=l) (cb:=endB.toList) (fun k=>Zi0 12 k) (l.length+1) [] 0 ss k h
 rw [Z4i] at h2
 have:Sm l 0=0:=by simp [Sm,Zat]
 omega
end
theorem Zhw:∀ (f:Nat) (L:List UInt8) (o:Nat) (l:Za1),Z6a f L o = .ok l→Zat l≤L.length
 | 0,_,_,_,h=>by cases h
 | f+1,L,o,l,h=>by
  have hle:=Z6i L
  unfold Z6a at h
  split at h
  ·simp only [Except.ok.injEq] at h
   subst h
   exact Nat.zero_le _
  ·cases hk:Zds (L.drop (Z12 L)) with
   | none=>rw [hk] at h;cases h
   | some y =>
    obtain ⟨k,t,m⟩:=y
    rw [hk] at h
    have hm:=Zja hk
    simp at hm
    simp only at h
    cases hr:Z6a f (L.drop (Z12 L+m)) (o+(Z12 L+m)) with
    | error e=>rw [hr] at h;cases h
    | ok l' =>
     rw [hr] at h
     simp only [Except.ok.injEq] at h
     subst h
     have i1:=Zhw f _ _ l' hr
     have:=Zif hk
     simp only [Zat]
     simp at i1
     omega
theorem Zbb:∀ (m:Za1),(∀ x∈m,x.2.1.size=0)→Zat m=0
 | [],_=>rfl
 | x::m,h=>by
  have h1:=h x (by simp)
  have h2:=Zbb m (fun y hy=>h y (by simp [hy]))
  simp only [Zat]
  omega
theorem Zto (s:ByteArray) (S L pre:List UInt8) (hS:Z3y S) (hL:Zcf L) (h:s.data.toList=pre++(L++S)) {st:List Int}{n:Nat}{l:Za1} (hl:st.getLast?=some 0) (hf:falls st) (h2:Zat l≤pre.length) {σ:LexSt} (hs:Z0v s ⟨pre.length,st,n,cellsOf l⟩ = .ok σ):∃ l',σ.tk=cellsOf l'∧Zat l'≤pre.length+L.length:=by
 rw [Z6l s S L pre hS hL h] at hs
 split at hs
 ·simp only [Except.ok.injEq] at hs
  subst hs
  exact ⟨l,rfl,by omega⟩
 ·cases hst:Z1j st (Z21 L:Nat) (pre.length+Z12 L) n (cellsOf l) with
  | none=>rw [hst] at hs;cases hs
  | some x =>
   obtain ⟨st',n',tk'⟩:=x
   rw [hst] at hs
   simp only at hs
   obtain ⟨g1,m,rfl,rfl,g4,g5⟩:=Z69 hst hl hf
   cases hr:Z6a (L.length+1) L pre.length with
   | error e=>rw [hr] at hs;cases hs
   | ok r =>
    rw [hr] at hs
    simp only [Except.ok.injEq] at hs
    subst hs
    have i1:=Zhw _ _ _ r hr
    have i2:=Zbb m (fun x hx=>(g4 x hx).2)
    refine ⟨l++m++r ++ [(Z3p,⟨#[]⟩,pre.length+L.length)],?_,?_⟩
    ·simp only [Z3j]
     simp [cellsOf]
    ·have:(⟨#[]⟩:ByteArray).size=0:=rfl
     simp only [Z8g,Zat]
     omega
theorem Zpy (s:ByteArray):∀ (N:Nat) (R pre:List UInt8) (st:List Int) (n:Nat) (l:Za1),R.length≤N→s.data.toList=pre++R→Inv s ⟨pre.length,st,n,cellsOf l⟩→FineSt ⟨pre.length,st,n,cellsOf l⟩→Zat l≤pre.length → ∀ σ,Z0t s (s.size - pre.length) ⟨pre.length,st,n,cellsOf l⟩ = .ok σ → ∃ l',σ.tk=cellsOf l'∧Zat l'≤s.size
 | N,[],pre,st,n,l,_,h,I,hF,h2,σ,hr=>by
  have hz:=Z24 h
  rw [Zj5 s _ _ _ _ (by simp at hz ⊢;omega)] at hr
  simp only [Except.ok.injEq] at hr
  subst hr
  exact ⟨l,rfl,by simp at hz;omega⟩
 | 0,c::R,_,_,_,_,hN,_,_,_,_,_,_=>by simp at hN
 | N+1,c::R,pre,st,n,l,hN,h,I,hF,h2,σ,hr=>by
  have hz:=Z24 h
  simp at hz
  obtain ⟨L,S,e,hL,hS⟩:=Z7k (c::R)
  have h1:s.data.toList=pre++(L++S):=by rw [h,e]
  have hlt:pre.length<s.size:=by omega
  cases hs:Z0v s ⟨pre.length,st,n,cellsOf l⟩ with
  | error x=>rw [Z5d hlt hs] at hr;cases hr
  | ok τ =>
   rw [Z6f I hlt hs] at hr
   have I1:=(Z2r I hlt hs).1
   obtain ⟨hF1,hat⟩:=Zgy s S L pre hS hL h1 I.last hF hs
   obtain ⟨l1,e1,h3⟩:=Zto s S L pre hS hL h1 I.last hF.falls h2 hs
   have hlen:=congrArg List.length e
   simp at hlen
   obtain ⟨at1,st1,n1,tk1⟩:=τ
   simp only at hat e1
   subst hat
   subst e1
   refine Zpy s N (S.drop 1) _ st1 n1 l1 ?_ ?_ I1 hF1 ?_ σ hr
   ·simp at hN ⊢
    cases S with
    | nil=>simp
    | cons d S=>simp at hlen ⊢;omega
   ·rw [h1]
    simp only [List.append_assoc,List.take_append_drop]
   ·simp only [List.length_append]
    omega
theorem Zvr {s:ByteArray}{m:Za1} (h:Z6s s = .ok (m.length,cellsOf m)):Zat m≤s.size:=by
 unfold Z6s at h
 cases hr:Z0t s s.size ⟨0,[0],0,[]⟩ with
 | error e=>rw [hr] at h;cases h
 | ok σ =>
  rw [hr] at h
  simp only at h
  have hr':Z0t s (s.size - ([]:List UInt8).length) ⟨([]:List UInt8).length,[0],0,cellsOf []⟩ = .ok σ:=by simpa [cellsOf] using hr
  have hF0:FineSt ⟨([]:List UInt8).length,[0],0,cellsOf []⟩:=⟨trivial,[],rfl,rfl,⟨List.Pairwise.nil,fun x hx=>by simp at hx,fun x hx=>by simp at hx,rfl⟩⟩
  have hI0:Inv s ⟨([]:List UInt8).length,[0],0,cellsOf []⟩:=by simpa [cellsOf] using Zza s
  obtain ⟨hF,hl,hsz⟩:=Zew s s.size s.data.toList [] [0] 0 (cellsOf []) (by simp) (by simp) hI0 hF0 σ hr'
  obtain ⟨l,e1,h2⟩:=Zpy s s.size s.data.toList [] [0] 0 [] (by simp) (by simp) hI0 hF0 (Nat.zero_le _) σ hr'
  cases hst:Z1j σ.st 0 σ.at_ σ.n σ.tk with
  | none=>rw [hst] at h;cases h
  | some x =>
   obtain ⟨st',n',tk'⟩:=x
   rw [hst] at h
   simp only [Except.ok.injEq,Prod.mk.injEq] at h
   obtain ⟨g1,r,rfl,rfl,g4,g5⟩:=Z69 hst hl hF.falls
   have i2:=Zbb r (fun x hx=>(g4 x hx).2)
   have he:=h.2
   rw [e1,←Z3j] at he
   have hx:cellsOf m=cellsOf (l++r ++ [(kEnd,⟨#[]⟩,σ.at_)]):=by
    rw [←he,Z3j]
    simp [cellsOf]
   obtain rfl:=Z67 _ _ hx
   have:(⟨#[]⟩:ByteArray).size=0:=rfl
   simp only [Z8g,Zat]
   omega
end Go.Proofs.YtflcohidmemfpaaGreatDoor
