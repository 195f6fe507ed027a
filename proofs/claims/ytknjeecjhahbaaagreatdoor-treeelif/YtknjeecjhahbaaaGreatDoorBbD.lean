/- Package tree, plainly: a term read in another place, where another token ends it. -/
import Derived.Test.YtknjeecjhahbaaaGreatDoorBaQ
import Derived.Test.YtknjeecjhahbaaaGreatDoorBbC
import Derived.Test.YtknjeecjhahbaaaGreatDoorBaV
import Derived.Test.YtknjeecjhahbaaaGreatDoorBaG
set_option linter.all false
namespace Go.Proofs.YtknjeecjhahbaaaGreatDoor
open Go.RowKit

abbrev TokL:=List (ByteArray × ByteArray × Nat)
structure Sh (l m:TokL) (s a b:Nat):Prop where
 ab:a≤b
 get:∀ k,a≤k∧k<b → ∃ (kd tx:ByteArray) (i j:Nat),l[k]?=some (kd,tx,i)∧m[k+s]?=some (kd,tx,j)
 nl:∃ x,l[b]?=some x∧(∀ ts,markB x ts=false)∧isIntB x=false∧isStrB x=false∧isNameB x=false
 st:∃ y,m[b+s]?=some y∧markB y [comma]=false∧markB y [lpar]=false∧markB y [lbrk]=false∧(∀ r,r ∈ [1,2,4,5,6]→markB y (rankOps r)=false)
def Fol {α:Type} (D:Prop) (s b k:Nat) (o o':Out α):Prop:=∀ e k',o = .ok (e,k')→k≤k'∧k'≤b∧(o' = .ok (e,k'+s)∨D ∧ ∃ j,o' = .error (j,true))
section
variable {l m:TokL}{s a b:Nat}{D:Prop}
theorem Sh.lenl (H:Sh l m s a b):b<l.length:=by
 obtain ⟨x,h,_⟩:=H.nl
 exact (List.getElem?_eq_some_iff.1 h).1
theorem Sh.lenm (H:Sh l m s a b):b+s<m.length:=by
 obtain ⟨x,h,_⟩:=H.st
 exact (List.getElem?_eq_some_iff.1 h).1
theorem Sh.mark (H:Sh l m s a b) {k:Nat} (hk:a≤k∧k<b) (ts:List ByteArray):markAt m (k+s) ts=markAt l k ts:=by
 obtain ⟨kd,tx,i,j,h1,h2⟩:=H.get k hk
 unfold markAt
 rw [h1,h2]
 rfl
theorem Sh.markb (H:Sh l m s a b) (ts:List ByteArray):markAt l b ts=false:=by
 obtain ⟨x,h,h1,_⟩:=H.nl
 unfold markAt
 rw [h]
 exact h1 ts
theorem Sh.marks (H:Sh l m s a b) {ts:List ByteArray} (h:∀ y,m[b+s]?=some y→markB y ts=false):markAt m (b+s) ts=false:=by
 obtain ⟨y,h1,_⟩:=H.st
 unfold markAt
 rw [h1]
 exact h y h1
theorem Sh.stop (H:Sh l m s a b):markAt m (b+s) [comma]=false∧markAt m (b+s) [lpar]=false∧markAt m (b+s) [lbrk]=false ∧ ∀ r,r ∈ [1,2,4,5,6]→markAt m (b+s) (rankOps r)=false:=by
 obtain ⟨y,h,h1,h2,h3,h4⟩:=H.st
 have e:∀ ts,markAt m (b+s) ts=markB y ts:=fun ts=>by unfold markAt;rw [h]
 exact ⟨(e _).trans h1,(e _).trans h2,(e _).trans h3,fun r hr=>(e _).trans (h4 r hr)⟩
theorem fol_err {α:Type}{k:Nat}{y:Nat × Bool}{o':Out α} : Fol D s b k (.error y:Out α) o':=fun e k' h=>by cases h
theorem fol_ok {α:Type}{k k':Nat}{e:α} (h1:k≤k') (h2:k'≤b):Fol D s b k (.ok (e,k')) (.ok (e,k'+s)):=fun e2 k2 h=>by
 cases h
 exact ⟨h1,h2,.inl rfl⟩
theorem Fol.low {α:Type}{k k0:Nat}{o o':Out α} (h:Fol D s b k o o') (hk:k0≤k):Fol D s b k0 o o':=fun e k' he=>by
 obtain ⟨h1,h2⟩:=h e k' he
 exact ⟨Nat.le_trans hk h1,h2⟩
def bo {α β:Type} (o:Out α) (F:α→Nat→Out β):Out β:=match o with | .error x=>.error x | .ok y=>F y.1 y.2
theorem Fol.bind {α β:Type}{k k1:Nat}{o o':Out α}{F F':α→Nat→Out β} (h:Fol D s b k o o') (hF:∀ e k',o = .ok (e,k')→k≤k'→k'≤b→Fol D s b k1 (F e k') (F' e (k'+s))):Fol D s b k1 (bo o F) (bo o' F'):=by
 cases o with
 | error y=>exact fol_err
 | ok y =>
  obtain ⟨e,k'⟩:=y
  obtain ⟨h1,h2,h3⟩:=h e k' rfl
  intro e2 k2 he
  have g:=hF e k' rfl h1 h2 e2 k2 he
  rcases h3 with rfl | ⟨hD,j,rfl⟩
  ·exact g
  ·exact ⟨g.1,g.2.1,.inr ⟨hD,j,rfl⟩⟩
theorem e_more {σ:Type} (l:TokL) (step:σ→Nat→Out σ) (f:Nat) (x:σ) (k:Nat):pMore l step (f+1) x k=bif markAt l k [comma] then bo (step x (k+1)) (pMore l step f) else .ok (x,k):=by
 unfold pMore
 cases step x (k+1) <;> rfl
theorem e_several {σ:Type} (l:TokL) (step:σ→Nat→Out σ) (f:Nat) (x:σ) (k:Nat):pSeveral l step f x k=bo (step x k) (pMore l step f):=by
 unfold pSeveral
 cases step x k <;> rfl
theorem e_upTo {σ:Type} (l:TokL) (step:σ→Nat→Out σ) (c:ByteArray) (f:Nat) (x:σ) (k:Nat):pUpTo l step c f x k=bif markAt l k [c] then .ok (x,k+1) else bo (pSeveral l step f x k) fun e k'=>bif markAt l k' [c] then .ok (e,k'+1) else .error (k',false):=by
 unfold pUpTo
 cases pSeveral l step f x k <;> rfl
theorem e_closed (l:TokL) (c:ByteArray) (o:Out (DataW Unit)):pClosed l c o=bo o fun e k'=>bif markAt l k' [c] then .ok (e,k'+1) else .error (k',false):=by cases o <;> rfl
theorem e_op (op:ByteArray) (o:Out (DataW Unit)):pOp op o=bo o fun e k'=>.ok (mkE op 0 ⟨#[]⟩ [] [e],k'):=by cases o <;> rfl
theorem e_one (o:Out (DataW Unit)):pOne o=bo o fun e k'=>.ok ([e],k'):=by cases o <;> rfl
theorem e_lambda (l:TokL) (one:Nat→Out (List (DataW Unit))) (k:Nat):pLambda l one k=bo (pUpTo l (pName l) colon l.length [] k) fun names k1=>bo (one k1) fun el k2=>.ok (mkE kLambda 0 ⟨#[]⟩ names el,k2):=by
 unfold pLambda
 cases pUpTo l (pName l) colon l.length [] k with
 | error y=>rfl
 | ok y =>
  obtain ⟨a,c⟩:=y
  cases h:one c <;> simp [bo,h]
theorem e_sides (l:TokL) (rank:Nat) (sub:Nat→Out (DataW Unit)) (k:Nat):pSides l rank sub k=bo (sub k) (pSidesOn l rank sub (l.length+1)):=by
 unfold pSides
 cases sub k <;> rfl
theorem e_list (op:ByteArray) (o:Out (List (DataW Unit))):pList op o=bo o fun el k'=>.ok (mkE op 0 ⟨#[]⟩ [] el,k'):=by cases o <;> rfl
theorem e_index (e:DataW Unit) (o:Out (DataW Unit)):pIndex e o=bo o fun e2 k'=>.ok (mkE kIndex 0 ⟨#[]⟩ [] [e,e2],k'):=by cases o <;> rfl
theorem e_termStep (term:Nat→Out (DataW Unit)) (es:List (DataW Unit)) (k:Nat):pTermStep term es k=bo (term k) fun e k'=>.ok (es ++ [e],k'):=by
 unfold pTermStep
 cases term k <;> rfl
theorem e_pairStep (l:TokL) (term:Nat→Out (DataW Unit)) (es:List (DataW Unit)) (k:Nat):pPairStep l term es k=bo (pClosed l colon (term k)) fun e k'=>bo (term k') fun e2 k2=>.ok (es ++ [e,e2],k2):=by
 unfold pPairStep
 cases pClosed l colon (term k) with
 | error y=>rfl
 | ok y =>
  obtain ⟨a,c⟩:=y
  cases h:term c <;> simp [bo,h]
theorem e_postOn (l:TokL) (dp:Nat) (term:Nat→Out (DataW Unit)) (f:Nat) (e:DataW Unit) (k:Nat):pPostOn l dp term (f+1) e k=bif markAt l k [lpar] then bo (pDeep dp k (pList kCall (pUpTo l (pTermStep term) rpar l.length [e] (k+1)))) (pPostOn l dp term f) else bif markAt l k [lbrk] then bo (pDeep dp k (pIndex e (pClosed l rbrk (term (k+1))))) (pPostOn l dp term f) else .ok (e,k):=by
 rw [pPostOn]
 cases markAt l k [lpar] with
 | true=>simp only [cond_true];cases pDeep dp k (pList kCall (pUpTo l (pTermStep term) rpar l.length [e] (k+1))) <;> rfl
 | false =>
  simp only [cond_false]
  cases markAt l k [lbrk] with
  | true=>simp only [cond_true];cases pDeep dp k (pIndex e (pClosed l rbrk (term (k+1)))) <;> rfl
  | false=>rfl
theorem e_post (l:TokL) (dp:Nat) (term:Nat→Out (DataW Unit)) (o:Out (DataW Unit)):pPost l dp term o=bo o (pPostOn l dp term (l.length+1)):=by cases o <;> rfl
theorem sh_more (H:Sh l m s a b) {σ:Type}{step step':σ→Nat→Out σ} (hs:∀ x k,a≤k∧k≤b→Fol D s b k (step x k) (step' x (k+s))):∀ (f f':Nat) (x:σ) (k:Nat),a≤k∧k≤b→b - k<f'→Fol D s b k (pMore l step f x k) (pMore m step' f' x (k+s))
 | 0,f',x,k,hk,hf=>fol_err
 | f+1,0,x,k,hk,hf=>absurd hf (by omega)
 | f+1,f'+1,x,k,hk,hf=>by
  rw [e_more,e_more]
  rcases Nat.lt_or_eq_of_le hk.2 with hlt | rfl
  ·rw [H.mark ⟨hk.1,hlt⟩]
   cases markAt l k [comma] with
   | false=>exact fol_ok (Nat.le_refl _) hk.2
   | true =>
    simp only [cond_true]
    have h:=hs x (k+1) (by omega)
    rw [show k+1+s=k+s+1 by omega] at h
    exact Fol.bind (k1:=k) h (fun e k' _ h1 h2=>(sh_more H hs f f' e k' ⟨by omega,h2⟩ (by omega)).low (by omega))
  ·rw [H.markb,H.stop.1]
   exact fol_ok (Nat.le_refl _) (Nat.le_refl _)
theorem sh_several (H:Sh l m s a b) {σ:Type}{step step':σ→Nat→Out σ} (hs:∀ x k,a≤k∧k≤b→Fol D s b k (step x k) (step' x (k+s))) (f f':Nat) (x:σ) (k:Nat) (hk:a≤k∧k≤b) (hf:b<f'):Fol D s b k (pSeveral l step f x k) (pSeveral m step' f' x (k+s)):=by
 rw [e_several,e_several]
 exact (hs x k hk).bind (fun e k' _ h1 h2=>(sh_more H hs f f' e k' ⟨by omega,h2⟩ (by omega)).low (by omega))
theorem sh_upTo (H:Sh l m s a b) {σ:Type}{step step':σ→Nat→Out σ} (hs:∀ x k,a≤k∧k≤b→Fol D s b k (step x k) (step' x (k+s))) (hno:∀ x e k',step x b ≠ .ok (e,k')) (c:ByteArray) (f f':Nat) (x:σ) (k:Nat) (hk:a≤k∧k≤b) (hf:b<f'):Fol D s b k (pUpTo l step c f x k) (pUpTo m step' c f' x (k+s)):=by
 rw [e_upTo,e_upTo]
 rcases Nat.lt_or_eq_of_le hk.2 with hlt | rfl
 ·rw [H.mark ⟨hk.1,hlt⟩]
  cases markAt l k [c] with
  | true =>
   simp only [cond_true]
   rw [show k+s+1=k+1+s by omega]
   exact fol_ok (by omega) (by omega)
  | false =>
   simp only [cond_false]
   refine (sh_several H hs f f' x k hk hf).bind (fun e k' _ h1 h2 => ?_)
   rcases Nat.lt_or_eq_of_le h2 with h3 | rfl
   ·rw [H.mark ⟨by omega,h3⟩]
    cases markAt l k' [c] with
    | true =>
     simp only [cond_true]
     rw [show k'+s+1=k'+1+s by omega]
     exact fol_ok (by omega) (by omega)
    | false=>exact fol_err
   ·rw [H.markb]
    exact fol_err
 ·rw [H.markb]
  simp only [cond_false]
  have:∀ e k',pSeveral l step f x k ≠ .ok (e,k'):=fun e k' h=>by
   rw [e_several] at h
   cases hh:step x k with
   | error y=>rw [hh] at h;cases h
   | ok y=>exact hno x y.1 y.2 hh
  cases hh:pSeveral l step f x k with
  | error y=>exact fol_err
  | ok y=>exact absurd hh (this y.1 y.2)
theorem sh_closed (H:Sh l m s a b) {c:ByteArray}{k:Nat} (hk:a≤k) {o o':Out (DataW Unit)} (h:Fol D s b k o o'):Fol D s b k (pClosed l c o) (pClosed m c o'):=by
 rw [e_closed,e_closed]
 refine h.bind (fun e k' _ h1 h2 => ?_)
 rcases Nat.lt_or_eq_of_le h2 with h3 | rfl
 ·rw [H.mark ⟨by omega,h3⟩]
  cases markAt l k' [c] with
  | true =>
   simp only [cond_true]
   rw [show k'+s+1=k'+1+s by omega]
   exact fol_ok (by omega) (by omega)
  | false=>exact fol_err
 ·rw [H.markb]
  exact fol_err
theorem fol_deep {dp dp' k0 k j:Nat}{o o':Out (DataW Unit)} (hd:¬ D→dp=dp') (h:Fol D s b k o o'):Fol D s b k (pDeep dp k0 o) (pDeep dp' j o'):=by
 unfold pDeep
 by_cases h1:dp=12
 ·rw [if_pos h1];exact fol_err
 ·rw [if_neg h1]
  by_cases h2:dp'=12
  ·rw [if_pos h2]
   intro e k' he
   obtain ⟨a1,a2,_⟩:=h e k' he
   exact ⟨a1,a2,.inr ⟨Classical.byContradiction (fun hD=>h1 ((hd hD).trans h2)),j,rfl⟩⟩
  ·rw [if_neg h2];exact h
theorem sh_ahead (H:Sh l m s a b) {c:ByteArray}{k dp dp':Nat} (hk:a≤k∧k≤b) (hd:¬ D→dp=dp') (hc:∀ y,m[b+s]?=some y→markB y [c]=false) {oR oW oR' oW':Out (DataW Unit)} (hR:Fol D s b k oR oR') (hW:k<b→Fol D s b k oW oW'):Fol D s b k (pAhead l c k dp oR oW) (pAhead m c (k+s) dp' oR' oW'):=by
 unfold pAhead
 rcases Nat.lt_or_eq_of_le hk.2 with hlt | rfl
 ·rw [H.mark ⟨hk.1,hlt⟩]
  cases markAt l k [c] with
  | true=>exact fol_deep (k0:=k) (j:=k+s) hd (hW hlt)
  | false=>exact hR
 ·rw [H.markb,H.marks hc]
  exact hR
theorem sh_op {op:ByteArray}{k:Nat}{o o':Out (DataW Unit)} (h:Fol D s b k o o'):Fol D s b k (pOp op o) (pOp op o'):=by
 rw [e_op,e_op]
 exact h.bind (fun e k' _ h1 h2=>fol_ok h1 h2)
theorem sh_one {k:Nat}{o o':Out (DataW Unit)} (h:Fol D s b k o o'):Fol D s b k (pOne o) (pOne o'):=by
 rw [e_one,e_one]
 exact h.bind (fun e k' _ h1 h2=>fol_ok h1 h2)
theorem sh_name (H:Sh l m s a b) (x:List ByteArray) (k:Nat) (hk:a≤k∧k≤b):Fol D s b k (pName l x k) (pName m x (k+s)):=by
 unfold pName
 rcases Nat.lt_or_eq_of_le hk.2 with hlt | rfl
 ·obtain ⟨kd,tx,i,j,h1,h2⟩:=H.get k ⟨hk.1,hlt⟩
  rw [h1,h2]
  show Fol D s b k (bif isNameB (kd,tx,i) then _ else _) (bif isNameB (kd,tx,j) then _ else _)
  rw [show isNameB (kd,tx,j)=isNameB (kd,tx,i) from rfl]
  cases isNameB (kd,tx,i) with
  | false=>exact fol_err
  | true =>
   simp only [cond_true]
   rw [show k+s+1=k+1+s by omega]
   exact fol_ok (by omega) (by omega)
 ·obtain ⟨y,h,_,_,_,h4⟩:=H.nl
  rw [h]
  simp only [h4,cond_false]
  exact fol_err
theorem name_no (H:Sh l m s a b) (x:List ByteArray) (e:List ByteArray) (k':Nat):pName l x b ≠ .ok (e,k'):=fun h=>by
 unfold pName at h
 obtain ⟨y,h1,_,_,_,h4⟩:=H.nl
 rw [h1] at h
 simp only [h4,cond_false] at h
 cases h
theorem sh_lambda (H:Sh l m s a b) {one one':Nat→Out (List (DataW Unit))} (ho:∀ k,a≤k∧k≤b→Fol D s b k (one k) (one' (k+s))) (k:Nat) (hk:a≤k∧k≤b):Fol D s b k (pLambda l one k) (pLambda m one' (k+s)):=by
 rw [e_lambda,e_lambda]
 refine (sh_upTo H (fun x k hk=>sh_name H x k hk) (fun x e k'=>name_no H x e k') colon l.length m.length [] k hk (by have:=H.lenm;omega)).bind (fun e k' _ h1 h2 => ?_)
 exact ((ho k' ⟨by omega,h2⟩).bind (fun e2 k2 _ h3 h4=>(fol_ok (by omega) h4:Fol D s b k _ _)))
theorem bo_two {k k1:Nat}{o o':Out (DataW Unit)}{F F':DataW Unit→Nat→Out (DataW Unit)} : Fol D s b k o o'→(∀ e k',o = .ok (e,k')→k≤k'→k'≤b→Fol D s b k1 (F e k') (F' e (k'+s))) →
  Fol D s b k1 (match o with | .error y=>.error y | .ok (e,k')=>F e k') (match o' with | .error y=>.error y | .ok (e,k')=>F' e k'):=fun h hF=>by
 have g:=Fol.bind (k1:=k1) h hF
 have e1:∀ (o:Out (DataW Unit)) (F:DataW Unit→Nat→Out (DataW Unit)),bo o F=(match o with | .error y=>.error y | .ok (e,k')=>F e k'):=fun o F=>by cases o <;> rfl
 rw [e1,e1] at g
 exact g
theorem sh_sidesOn (H:Sh l m s a b) {rank:Nat} (hr:rank ∈ [1,2,4,5,6]) {sub sub':Nat→Out (DataW Unit)} (hs:∀ k,a≤k∧k≤b→Fol D s b k (sub k) (sub' (k+s))):∀ (f f':Nat) (e:DataW Unit) (k:Nat),a≤k∧k≤b→b - k<f→b - k<f'→Fol D s b k (pSidesOn l rank sub f e k) (pSidesOn m rank sub' f' e (k+s))
 | 0,_,_,_,_,h,_=>absurd h (by omega)
 | f+1,0,_,_,_,_,h=>absurd h (by omega)
 | f+1,f'+1,e,k,hk,hf,hf'=>by
  unfold pSidesOn
  rcases Nat.lt_or_eq_of_le hk.2 with hlt | rfl
  ·obtain ⟨kd,tx,i,j,h1,h2⟩:=H.get k ⟨hk.1,hlt⟩
   rw [h1,h2]
   simp only
   rw [show markB (kd,tx,j) (rankOps rank)=markB (kd,tx,i) (rankOps rank) from rfl]
   cases markB (kd,tx,i) (rankOps rank) with
   | false=>exact fol_ok (Nat.le_refl _) hk.2
   | true =>
    simp only [cond_true]
    have h:=hs (k+1) (by omega)
    rw [show k+1+s=k+s+1 by omega] at h
    refine bo_two h (fun e2 k2 _ h3 h4 => ?_)
    cases rank == 4 with
    | true=>exact fol_ok (by omega) h4
    | false=>exact (sh_sidesOn H hr hs f f' _ k2 ⟨by omega,h4⟩ (by omega) (by omega)).low (by omega)
  ·obtain ⟨x,g1,g2,_⟩:=H.nl
   obtain ⟨y,g3,_,_,_,g4⟩:=H.st
   rw [g1,g3]
   simp only [g2,g4 rank hr,cond_false]
   exact fol_ok (Nat.le_refl _) (Nat.le_refl _)
theorem sh_sides (H:Sh l m s a b) {rank:Nat} (hr:rank ∈ [1,2,4,5,6]) {sub sub':Nat→Out (DataW Unit)} (hs:∀ k,a≤k∧k≤b→Fol D s b k (sub k) (sub' (k+s))) (k:Nat) (hk:a≤k∧k≤b):Fol D s b k (pSides l rank sub k) (pSides m rank sub' (k+s)):=by
 rw [e_sides,e_sides]
 have h1:=H.lenl
 have h2:=H.lenm
 exact (hs k hk).bind (fun e k' _ h3 h4=>(sh_sidesOn H hr hs (l.length+1) (m.length+1) e k' ⟨by omega,h4⟩ (by omega) (by omega)).low h3)
theorem sh_list {op:ByteArray}{k:Nat}{o o':Out (List (DataW Unit))} (h:Fol D s b k o o'):Fol D s b k (pList op o) (pList op o'):=by
 rw [e_list,e_list]
 exact h.bind (fun e k' _ h1 h2=>fol_ok h1 h2)
theorem sh_index {e0:DataW Unit}{k:Nat}{o o':Out (DataW Unit)} (h:Fol D s b k o o'):Fol D s b k (pIndex e0 o) (pIndex e0 o'):=by
 rw [e_index,e_index]
 exact h.bind (fun e k' _ h1 h2=>fol_ok h1 h2)
theorem sh_termStep {term term':Nat→Out (DataW Unit)} (ht:∀ k,a≤k∧k≤b→Fol D s b k (term k) (term' (k+s))) (x:List (DataW Unit)) (k:Nat) (hk:a≤k∧k≤b):Fol D s b k (pTermStep term x k) (pTermStep term' x (k+s)):=by
 rw [e_termStep,e_termStep]
 exact (ht k hk).bind (fun e k' _ h1 h2=>fol_ok h1 h2)
theorem sh_pairStep (H:Sh l m s a b) {term term':Nat→Out (DataW Unit)} (ht:∀ k,a≤k∧k≤b→Fol D s b k (term k) (term' (k+s))) (x:List (DataW Unit)) (k:Nat) (hk:a≤k∧k≤b):Fol D s b k (pPairStep l term x k) (pPairStep m term' x (k+s)):=by
 rw [e_pairStep,e_pairStep]
 exact (sh_closed H hk.1 (ht k hk)).bind (fun e k' _ h1 h2=>(ht k' ⟨by omega,h2⟩).bind (fun e2 k2 _ h3 h4=>(fol_ok (by omega) h4:Fol D s b k _ _)))
theorem sh_postOn (H:Sh l m s a b) {dp dp':Nat} (hd:¬ D→dp=dp') {term term':Nat→Out (DataW Unit)} (ht:∀ k,a≤k∧k≤b→Fol D s b k (term k) (term' (k+s))) (hno:∀ e k',term b ≠ .ok (e,k')):∀ (f f':Nat) (e:DataW Unit) (k:Nat),a≤k∧k≤b→b - k<f'→Fol D s b k (pPostOn l dp term f e k) (pPostOn m dp' term' f' e (k+s))
 | 0,_,_,_,_,_=>fol_err
 | f+1,0,_,_,_,h=>absurd h (by omega)
 | f+1,f'+1,e,k,hk,hf'=>by
  rw [e_postOn,e_postOn]
  rcases Nat.lt_or_eq_of_le hk.2 with hlt | rfl
  ·rw [H.mark ⟨hk.1,hlt⟩,H.mark ⟨hk.1,hlt⟩]
   have hno':∀ x e k',pTermStep term x b ≠ .ok (e,k'):=fun x e k' h=>by
    rw [e_termStep] at h
    cases hh:term b with
    | error y=>rw [hh] at h;cases h
    | ok y=>exact hno y.1 y.2 hh
   cases markAt l k [lpar] with
   | true =>
    simp only [cond_true]
    have h1:=sh_upTo H (fun x k hk=>sh_termStep ht x k hk) hno' rpar l.length m.length [e] (k+1) (by omega) (by have:=H.lenm;omega)
    rw [show k+1+s=k+s+1 by omega] at h1
    exact (fol_deep hd (sh_list h1)).bind (fun e2 k2 _ h3 h4=>(sh_postOn H hd ht hno f f' e2 k2 ⟨by omega,h4⟩ (by omega)).low (by omega))
   | false =>
    simp only [cond_false]
    cases markAt l k [lbrk] with
    | true =>
     simp only [cond_true]
     have h1:=sh_closed H (c:=rbrk) (k:=k+1) (by omega) (ht (k+1) (by omega))
     rw [show k+1+s=k+s+1 by omega] at h1
     exact (fol_deep hd (sh_index h1)).bind (fun e2 k2 _ h3 h4=>(sh_postOn H hd ht hno f f' e2 k2 ⟨by omega,h4⟩ (by omega)).low (by omega))
    | false=>exact fol_ok (Nat.le_refl _) hk.2
  ·rw [H.markb,H.markb,H.stop.2.1,H.stop.2.2.1]
   exact fol_ok (Nat.le_refl _) (Nat.le_refl _)
theorem sh_post (H:Sh l m s a b) {dp dp':Nat} (hd:¬ D→dp=dp') {term term':Nat→Out (DataW Unit)} (ht:∀ k,a≤k∧k≤b→Fol D s b k (term k) (term' (k+s))) (hno:∀ e k',term b ≠ .ok (e,k')) {k:Nat} (hk:a≤k) {o o':Out (DataW Unit)} (h:Fol D s b k o o'):Fol D s b k (pPost l dp term o) (pPost m dp' term' o'):=by
 rw [e_post,e_post]
 have h2:=H.lenm
 exact h.bind (fun e k' _ h3 h4=>(sh_postOn H hd ht hno (l.length+1) (m.length+1) e k' ⟨by omega,h4⟩ (by omega)).low h3)
theorem sh_atom (H:Sh l m s a b) {dp dp':Nat} (hd:¬ D→dp=dp') {term term':Nat→Out (DataW Unit)}{terms terms' pairs pairs':Nat→Out (List (DataW Unit))} (ht:∀ k,a≤k∧k≤b→Fol D s b k (term k) (term' (k+s))) (hl:∀ k,a≤k∧k≤b→Fol D s b k (terms k) (terms' (k+s))) (hp:∀ k,a≤k∧k≤b→Fol D s b k (pairs k) (pairs' (k+s))) (k:Nat) (hk:a≤k∧k≤b):Fol D s b k (pAtom l dp term terms pairs k) (pAtom m dp' term' terms' pairs' (k+s)):=by
 unfold pAtom
 rcases Nat.lt_or_eq_of_le hk.2 with hlt | rfl
 ·obtain ⟨kd,tx,i,j,h1,h2⟩:=H.get k ⟨hk.1,hlt⟩
  rw [h1,h2]
  simp only
  have e1:isIntB (kd,tx,j)=isIntB (kd,tx,i):=rfl
  have e2:isStrB (kd,tx,j)=isStrB (kd,tx,i):=rfl
  have e3:isNameB (kd,tx,j)=isNameB (kd,tx,i):=rfl
  have e4:∀ ts,markB (kd,tx,j) ts=markB (kd,tx,i) ts:=fun ts=>rfl
  rw [e1,e2,e3,e4,e4,e4,e4]
  have ek:k+s+1=k+1+s:=by omega
  rw [ek]
  cases isIntB (kd,tx,i) with
  | true=>exact fol_ok (by omega) (by omega)
  | false =>
   simp only [cond_false]
   cases isStrB (kd,tx,i) || isNameB (kd,tx,i) with
   | true=>exact fol_ok (by omega) (by omega)
   | false =>
    simp only [cond_false]
    cases markB (kd,tx,i) [kNone,kTrue,kFalse] with
    | true=>exact fol_ok (by omega) (by omega)
    | false =>
     simp only [cond_false]
     cases markB (kd,tx,i) [lpar] with
     | true=>exact (fol_deep hd (sh_closed H (k:=k+1) (by omega) (ht (k+1) (by omega)))).low (by omega)
     | false =>
      simp only [cond_false]
      cases markB (kd,tx,i) [lbrk] with
      | true=>exact (fol_deep hd (sh_list (hl (k+1) (by omega)))).low (by omega)
      | false =>
       simp only [cond_false]
       cases markB (kd,tx,i) [lbrc] with
       | true=>exact (fol_deep hd (sh_list (hp (k+1) (by omega)))).low (by omega)
       | false=>exact fol_err
 ·obtain ⟨x,g1,g2,g3,g4,g5⟩:=H.nl
  rw [g1]
  simp only [g3,g4,g5,g2,cond_false,Bool.or_false]
  exact fol_err
theorem rk_no (H:Sh l m s a b):∀ (f dp rank:Nat),rank≤8 → ∃ y,pRanked l f dp rank b = .error y
 | 0,dp,rank,_=>⟨_,rfl⟩
 | f+1,dp,rank,hr=>by
  have ih:=fun r (h:r≤8)=>rk_no H f dp r h
  have ha:∀ c oR oW,pAhead l c b dp oR oW=oR:=fun c oR oW=>by
   unfold pAhead
   rw [H.markb]
   rfl
  have hs:∀ r sub,(∃ y,sub b = .error y) → ∃ y,pSides l r sub b = .error y:=fun r sub ⟨y,h⟩=>by
   rw [e_sides,h]
   exact ⟨y,rfl⟩
  obtain ⟨x,g1,g2,g3,g4,g5⟩:=H.nl
  unfold pRanked
  split
  ·rw [ha];exact ih 1 (by omega)
  split
  ·rw [ha];exact ih 4 (by omega)
  split
  ·rw [ha];exact ih 8 (by omega)
  split
  ·refine ⟨(b,false),?_⟩
   have e:∀ t u v,pAtom l dp t u v b = .error (b,false):=fun t u v=>by
    unfold pAtom
    rw [g1]
    simp only [g3,g4,g5,g2,cond_false,Bool.or_false]
   rw [e,e_post]
   rfl
  ·exact hs rank _ (ih (rank+1) (by omega))
theorem sh_ranked (H:Sh l m s a b) (hh:∀ y,m[b+s]?=some y→markB y [kLambda]=false∧markB y [kNot]=false∧markB y [kMinus]=false):∀ (f f' dp dp' rank k:Nat),f≤f'→rank≤8→a≤k∧k≤b→(¬ D→dp=dp')→Fol D s b k (pRanked l f dp rank k) (pRanked m f' dp' rank (k+s))
 | 0,f',dp,dp',rank,k,hf,hr,hk,hd=>fol_err
 | f+1,0,dp,dp',rank,k,hf,hr,hk,hd=>absurd hf (by omega)
 | f+1,f'+1,dp,dp',rank,k,hf,hr,hk,hd=>by
  have ih:=fun r j (h1:r≤8) (h2:a≤j∧j≤b)=>sh_ranked H hh f f' dp dp' r j (by omega) h1 h2 hd
  have id:=fun r j (h1:r≤8) (h2:a≤j∧j≤b)=>sh_ranked H hh f f' (dp+1) (dp'+1) r j (by omega) h1 h2 (fun h=>by rw [hd h])
  have ek:k+1+s=k+s+1:=by omega
  have hno:∀ e k',pRanked l f (dp+1) 0 b ≠ .ok (e,k'):=fun e k' h=>by
   obtain ⟨y,hy⟩:=rk_no H f (dp+1) 0 (by omega)
   rw [hy] at h
   cases h
  have ht:=fun j (h2:a≤j∧j≤b)=>id 0 j (by omega) h2
  unfold pRanked
  split
  ·refine sh_ahead H hk hd (fun y hy=>(hh y hy).1) (ih 1 k (by omega) hk) (fun hlt => ?_)
   have h:=sh_lambda H (one:=fun k1=>pOne (pRanked l f (dp+1) 0 k1)) (one':=fun k1=>pOne (pRanked m f' (dp'+1) 0 k1)) (D:=D) (fun j hj=>sh_one (ht j hj)) (k+1) (by omega)
   rw [ek] at h
   exact h.low (by omega)
  split
  ·refine sh_ahead H hk hd (fun y hy=>(hh y hy).2.1) (ih 4 k (by omega) hk) (fun hlt => ?_)
   have h:=sh_op (op:=kNot) (id 3 (k+1) (by omega) (by omega))
   rw [ek] at h
   exact h.low (by omega)
  split
  ·refine sh_ahead H hk hd (fun y hy=>(hh y hy).2.2) (ih 8 k (by omega) hk) (fun hlt => ?_)
   have h:=sh_op (op:=kNeg) (id 7 (k+1) (by omega) (by omega))
   rw [ek] at h
   exact h.low (by omega)
  split
  ·have hstep:∀ x e k',pTermStep (pRanked l f (dp+1) 0) x b ≠ .ok (e,k'):=fun x e k' h=>by
    rw [e_termStep] at h
    obtain ⟨y,hy⟩:=rk_no H f (dp+1) 0 (by omega)
    rw [hy] at h
    cases h
   have hpair:∀ x e k',pPairStep l (pRanked l f (dp+1) 0) x b ≠ .ok (e,k'):=fun x e k' h=>by
    obtain ⟨y,hy⟩:=rk_no H f (dp+1) 0 (by omega)
    rw [e_pairStep,hy] at h
    cases h
   have hm:=H.lenm
   exact sh_post H hd ht hno hk.1 (sh_atom H hd ht (fun j hj=>sh_upTo H (fun x i hi=>sh_termStep ht x i hi) hstep rbrk _ _ [] j hj (by omega)) (fun j hj=>sh_upTo H (fun x i hi=>sh_pairStep H ht x i hi) hpair rbrc _ _ [] j hj (by omega)) k hk)
  ·rename_i h0 h3 h7 h8
   have hmem:rank ∈ [1,2,4,5,6]:=by simp;omega
   exact sh_sides H hmem (fun j hj=>ih (rank+1) j (by omega) hj) k hk
end
end Go.Proofs.YtknjeecjhahbaaaGreatDoor
namespace Go.Proofs.YtknjeecjhahbaaaGreatDoor
open Go.RowKit

def Cut (Z:List UInt8):Prop:=∃ c R,Z=c::R∧(c=41∨c=58)
theorem takeWhile_cut (p:UInt8→Bool) (L Z:List UInt8) (hZ:∀ c∈Z.head?,p c=false):(L++Z).takeWhile p=L.takeWhile p:=by
 induction L with
 | nil =>
  cases Z with
  | nil=>rfl
  | cons c Z=>simp [List.takeWhile,hZ c (by simp)]
 | cons c L ih =>
  simp only [List.cons_append,List.takeWhile]
  cases p c with
  | true=>simp [ih]
  | false=>rfl
theorem Cut.byte {Z:List UInt8} (h:Cut Z) (P:Int→Bool) (h1:P 41=false) (h2:P 58=false):∀ c∈Z.head?,P (c.toNat:Int)=false:=fun c hc=>by
 obtain ⟨d,R,rfl,h⟩:=h
 simp at hc
 subst hc
 rcases h with rfl | rfl
 ·exact h1
 ·exact h2
theorem nameL_cut {c:UInt8}{L Z:List UInt8} (hZ:Cut Z):nameL c (L++Z)=nameL c L:=by
 have e:=takeWhile_cut (fun c=>nameB (c.toNat:Int)) L Z (hZ.byte nameB rfl rfl)
 unfold nameL
 simp only [e]
 have hl:=takeWhile_len (fun c=>nameB (c.toNat:Int)) L
 have t:(c::(L++Z)).take (1+(L.takeWhile fun c=>nameB (c.toNat:Int)).length)=(c::L).take (1+(L.takeWhile fun c=>nameB (c.toNat:Int)).length):=by
  rw [←List.cons_append,List.take_append_of_le_length (by simp;omega)]
 rw [t]
theorem intL_cut {c:UInt8}{L Z:List UInt8} (hZ:Cut Z):intL c (L++Z)=intL c L:=by
 have e:=takeWhile_cut (fun c=>digitB (c.toNat:Int)) (c::L) Z (hZ.byte digitB rfl rfl)
 rw [List.cons_append] at e
 unfold intL
 simp only [e]
 have hl:=takeWhile_len (fun c=>digitB (c.toNat:Int)) (c::L)
 have t:(c::(L++Z)).take ((c::L).takeWhile fun c=>digitB (c.toNat:Int)).length=(c::L).take ((c::L).takeWhile fun c=>digitB (c.toNat:Int)).length:=by
  rw [←List.cons_append,List.take_append_of_le_length hl]
 rw [t]
theorem escL_cut {L Z:List UInt8}{v:Int}{k:Nat} (h:escL L=some (v,k)):escL (L++Z)=some (v,k):=by
 cases L with
 | nil=>cases h
 | cons c L =>
  have e1:∀ L,escL (c::L)=if (c.toNat:Int) == 110 then some (10,1) else if (c.toNat:Int) == 34 then some (34,1) else if (c.toNat:Int) == 92 then some (92,1) else if (c.toNat:Int) == 120 then escX L else none:=fun _=>rfl
  rw [List.cons_append,e1]
  rw [e1] at h
  split
  ·rename_i hc;rw [if_pos hc] at h;exact h
  ·rename_i hc;rw [if_neg hc] at h
   split
   ·rename_i hc;rw [if_pos hc] at h;exact h
   ·rename_i hc;rw [if_neg hc] at h
    split
    ·rename_i hc;rw [if_pos hc] at h;exact h
    ·rename_i hc;rw [if_neg hc] at h
     split
     ·rename_i hc;rw [if_pos hc] at h
      match L,h with
      | a::b::L',h=>exact h
     ·rename_i hc;rw [if_neg hc] at h;cases h
theorem strL_cut:∀ (n n':Nat) (L Z:List UInt8) (acc:List Int) (x:List Int × Nat),n≤n'→strL n L acc=some x→strL n' (L++Z) acc=some x
 | 0,_,_,_,_,_,_,h=>by cases h
 | n+1,0,_,_,_,_,hn,_=>absurd hn (by omega)
 | n+1,n'+1,[],_,_,_,_,h=>by cases h
 | n+1,n'+1,c::L,Z,acc,x,hn,h=>by
  unfold strL at h
  rw [List.cons_append]
  unfold strL
  split
  ·rename_i hc;rw [if_pos hc] at h;exact h
  ·rename_i hc;rw [if_neg hc] at h
   split
   ·rename_i hc;rw [if_pos hc] at h;cases h
   ·rename_i hc;rw [if_neg hc] at h
    split
    ·rename_i hc;rw [if_pos hc] at h;cases h
    ·rename_i hc;rw [if_neg hc] at h
     split
     ·rename_i hc;rw [if_pos hc] at h
      cases he:escL L with
      | none=>rw [he] at h;cases h
      | some v =>
       obtain ⟨v,k⟩:=v
       rw [he] at h
       have hk:=escL_bd he
       rw [escL_cut he]
       simp only at h ⊢
       rw [List.drop_append_of_le_length hk.2]
       cases hs:strL n (L.drop k) (acc ++ [v]) with
       | none=>rw [hs] at h;cases h
       | some y =>
        rw [hs] at h
        rw [strL_cut n n' (L.drop k) Z _ y (by omega) hs]
        exact h
     ·rename_i hc;rw [if_neg hc] at h
      cases hs:strL n L (acc ++ [(c.toNat:Int)]) with
      | none=>rw [hs] at h;cases h
      | some y =>
       rw [hs] at h
       rw [strL_cut n n' L Z _ y (by omega) hs]
       exact h
theorem opAt_tail (k:Nat):∀ c∈(opAt k).data.toList.tail,c≠41∧c≠58:=by
 iterate 21 (rcases k with _ | k;· decide)
 have:opAt (k+1+1+1+1+1+1+1+1+1+1+1+1+1+1+1+1+1+1+1+1+1)=⟨#[]⟩:=rfl
 rw [this]
 simp
theorem prefix_cut:∀ (b L Z:List UInt8),Cut Z→(∀ c∈b,c≠41∧c≠58)→b.isPrefixOf (L++Z)=b.isPrefixOf L
 | [],L,Z,hZ,hb=>by simp
 | c::b,[],Z,hZ,hb=>by
  obtain ⟨d,R,rfl,h⟩:=hZ
  have h1:=hb c (by simp)
  have:(c == d)=false:=by
   rcases h with rfl | rfl
   ·simpa using h1.1
   ·simpa using h1.2
  simp [List.isPrefixOf,this]
 | c::b,d::L,Z,hZ,hb=>by
  have ih:=prefix_cut b L Z hZ (fun x hx=>hb x (by simp [hx]))
  simp [List.isPrefixOf,ih]
theorem opL_cut {c:UInt8}{L Z:List UInt8} (hZ:Cut Z):∀ n k,opL (c::(L++Z)) n k=opL (c::L) n k
 | 0,k=>rfl
 | n+1,k=>by
  have hp:(opAt k).data.toList.isPrefixOf (c::(L++Z))=(opAt k).data.toList.isPrefixOf (c::L):=by
   have ht:=opAt_tail k
   cases e:(opAt k).data.toList with
   | nil=>simp
   | cons d b =>
    rw [e] at ht
    have:=prefix_cut b L Z hZ (fun x hx=>ht x (by simpa using hx))
    simp [List.isPrefixOf,this]
  unfold opL
  rw [hp,opL_cut hZ n (k+1)]
theorem tokL_cut {L Z:List UInt8} (hL:L ≠ []) (hZ:Cut Z) {x:ByteArray × ByteArray × Nat} (h:tokL L=some x):tokL (L++Z)=some x:=by
 cases L with
 | nil=>exact absurd rfl hL
 | cons c L =>
  have hr:∀ L,tokL (c::L)=if smallB (c.toNat:Int) || capitalB (c.toNat:Int) then (nameL c L).map fun x=>(if x.1 then kWord else kName,x.2.1,x.2.2)
   else if digitB (c.toNat:Int) then (intL c L).map fun x=>(kInt,x.1,x.2)
   else if (c.toNat:Int) == 34 then (strL (L.length+1) L []).map fun x=>(kStr,strOfNums x.1,x.2+1)
   else (opL (c::L) 21 0).map fun x=>(kOp,x.1,x.2):=fun _=>rfl
  rw [List.cons_append,hr]
  rw [hr] at h
  split
  ·rename_i hc;rw [if_pos hc] at h
   rw [nameL_cut hZ];exact h
  ·rename_i hc;rw [if_neg hc] at h
   split
   ·rename_i hc;rw [if_pos hc] at h
    rw [intL_cut hZ];exact h
   ·rename_i hc;rw [if_neg hc] at h
    split
    ·rename_i hc;rw [if_pos hc] at h
     cases hs:strL (L.length+1) L [] with
     | none=>rw [hs] at h;cases h
     | some y =>
      rw [hs] at h
      rw [strL_cut (L.length+1) ((L++Z).length+1) L Z [] y (by simp) hs]
      exact h
    ·rename_i hc;rw [if_neg hc] at h
     rw [opL_cut hZ];exact h
end Go.Proofs.YtknjeecjhahbaaaGreatDoor
namespace Go.Proofs.YtknjeecjhahbaaaGreatDoor
open Go.RowKit

theorem neat_drop {L:List UInt8}{m:Nat} (h:Neat L) (k:Neat (L.take m)):Neat (L.drop m):=by
 have e:L.take m++L.drop m=L:=List.take_append_drop m L
 rw [←e] at h
 exact h.back k
theorem take_while_mem {p:UInt8→Bool} : ∀ {L:List UInt8}{n:Nat},n≤(L.takeWhile p).length → ∀ c∈L.take n,p c=true
 | [],n,h,c,hc=>by simp at hc
 | d::L,0,h,c,hc=>by simp at hc
 | d::L,n+1,h,c,hc=>by
  cases hd:p d with
  | false=>simp [List.takeWhile,hd] at h
  | true =>
   simp only [List.takeWhile,hd,List.length_cons] at h
   rcases List.mem_cons.1 hc with rfl | hc
   ·exact hd
   ·exact take_while_mem (by omega) c hc
theorem byte_ne {P:Int→Bool}{c:UInt8} (h:P (c.toNat:Int)=true) (h1:P 10=false) (h2:P 34=false) (h3:P 35=false):c≠10∧c≠34∧c≠35:=by
 refine ⟨?_,?_,?_⟩
 ·rintro rfl;exact absurd (h.symm.trans h1) (by decide)
 ·rintro rfl;exact absurd (h.symm.trans h2) (by decide)
 ·rintro rfl;exact absurd (h.symm.trans h3) (by decide)
theorem hexVal_ne {c:UInt8} (h:0≤hexVal c):c≠10∧c≠34∧c≠92:=by
 refine ⟨?_,?_,?_⟩ <;> (rintro rfl;revert h;decide)
theorem esc_scan {L:List UInt8}{v:Int}{k:Nat} (h:escL L=some (v,k)):scanL 2 (L.take k)=some 1:=by
 cases L with
 | nil=>cases h
 | cons c L =>
  have e1:escL (c::L)=if (c.toNat:Int) == 110 then some (10,1) else if (c.toNat:Int) == 34 then some (34,1) else if (c.toNat:Int) == 92 then some (92,1) else if (c.toNat:Int) == 120 then escX L else none:=rfl
  rw [e1] at h
  have hne:c≠10:=by
   rintro rfl
   have e:escL (10::L)=none:=by rfl
   rw [←e1,e] at h
   cases h
  have one:k=1→scanL 2 ((c::L).take k)=some 1:=fun e=>by
   subst e
   have:scanB 2 c=some 1:=by unfold scanB;rw [if_neg hne,if_neg (by decide),if_neg (by decide)]
   show (match scanB 2 c with | none=>none | some q1=>scanL q1 [])=_
   rw [this]
   rfl
  split at h
  ·simp at h;exact one h.2.symm
  ·split at h
   ·simp at h;exact one h.2.symm
   ·split at h
    ·simp at h;exact one h.2.symm
    ·split at h
     ·match L,h with
      | a::b::L',h =>
       have hx:escX (a::b::L')=if 0≤hexVal a∧0≤hexVal b then some (hexVal a*16+hexVal b,3) else none:=rfl
       rw [hx] at h
       split at h
       ·rename_i hh
        simp at h
        obtain ⟨_,rfl⟩:=h
        obtain ⟨a1,a2,a3⟩:=hexVal_ne hh.1
        obtain ⟨b1,b2,b3⟩:=hexVal_ne hh.2
        have s0:scanB 2 c=some 1:=by unfold scanB;rw [if_neg hne,if_neg (by decide),if_neg (by decide)]
        have s1:scanB 1 a=some 1:=by unfold scanB;rw [if_neg a1,if_neg (by decide),if_pos rfl,if_neg a2,if_neg a3]
        have s2:scanB 1 b=some 1:=by unfold scanB;rw [if_neg b1,if_neg (by decide),if_pos rfl,if_neg b2,if_neg b3]
        show (match scanB 2 c with | none=>none | some q1=>scanL q1 [a,b])=_
        rw [s0]
        show (match scanB 1 a with | none=>none | some q1=>scanL q1 [b])=_
        rw [s1]
        show (match scanB 1 b with | none=>none | some q1=>scanL q1 [])=_
        rw [s2]
        rfl
       ·cases h
     ·cases h
theorem str_scan:∀ (n:Nat) (L:List UInt8) (acc:List Int) (x:List Int × Nat),strL n L acc=some x→scanL 1 (L.take x.2)=some 0
 | 0,_,_,_,h=>by cases h
 | n+1,[],_,_,h=>by cases h
 | n+1,c::L,acc,x,h=>by
  have hr:strL (n+1) (c::L) acc=if (c.toNat:Int) == 34 then some (acc,1)
   else if (c.toNat:Int)<32 then none
   else if 126<(c.toNat:Int) then none
   else if (c.toNat:Int) == 92 then
    match escL L with
    | some (v,k)=>(strL n (L.drop k) (acc ++ [v])).map fun x=>(x.1,x.2+(k+1))
    | none=>none
   else (strL n L (acc ++ [(c.toNat:Int)])).map fun x=>(x.1,x.2+1):=rfl
  rw [hr] at h
  split at h
  ·rename_i hc
   simp only [Option.some.injEq] at h
   subst h
   have:c=34:=UInt8.toNat_inj.mp (show c.toNat=34 by have:=beq_iff_eq.1 hc;omega)
   subst this
   rfl
  ·rename_i h34
   have n34:c≠34:=by rintro rfl;exact h34 rfl
   split at h
   ·cases h
   ·rename_i h32
    have n10:c≠10:=by rintro rfl;exact h32 (by decide)
    split at h
    ·cases h
    ·split at h
     ·rename_i h92
      have c92:c=92:=UInt8.toNat_inj.mp (show c.toNat=92 by have:=beq_iff_eq.1 h92;omega)
      subst c92
      cases he:escL L with
      | none=>rw [he] at h;cases h
      | some v =>
       obtain ⟨v,k⟩:=v
       rw [he] at h
       simp only at h
       cases hs:strL n (L.drop k) (acc ++ [v]) with
       | none=>rw [hs] at h;cases h
       | some y =>
        rw [hs] at h
        simp only [Option.map_some,Option.some.injEq] at h
        subst h
        have ih:=str_scan n _ _ y hs
        have hk:=escL_bd he
        have e2:L.take (y.2+k)=L.take k++(L.drop k).take y.2:=by
         rw [show y.2+k=k+y.2 by omega,List.take_add]
        show scanL 1 ((92::L).take (y.2+(k+1)))=some 0
        rw [show y.2+(k+1)=(y.2+k)+1 by omega,List.take_succ_cons,e2]
        show (match scanB 1 92 with | none=>none | some q1=>scanL q1 (L.take k++(L.drop k).take y.2))=_
        have s1:scanB 1 92=some 2:=by decide
        rw [s1]
        show scanL 2 _=_
        rw [scan_app,esc_scan he]
        exact ih
     ·rename_i h92
      have n92:c≠92:=by rintro rfl;exact h92 rfl
      cases hs:strL n L (acc ++ [(c.toNat:Int)]) with
      | none=>rw [hs] at h;cases h
      | some y =>
       rw [hs] at h
       simp only [Option.map_some,Option.some.injEq] at h
       subst h
       have ih:=str_scan n _ _ y hs
       have s1:scanB 1 c=some 1:=by unfold scanB;rw [if_neg n10,if_neg (by decide),if_pos rfl,if_neg n34,if_neg n92]
       show scanL 1 ((c::L).take (y.2+1))=some 0
       rw [List.take_succ_cons]
       show (match scanB 1 c with | none=>none | some q1=>scanL q1 (L.take y.2))=_
       rw [s1]
       exact ih
theorem opAt_neat (k:Nat):∀ c∈(opAt k).data.toList,c≠10∧c≠34∧c≠35:=by
 iterate 21 (rcases k with _ | k;· decide)
 have:opAt (k+1+1+1+1+1+1+1+1+1+1+1+1+1+1+1+1+1+1+1+1+1)=⟨#[]⟩:=rfl
 rw [this]
 simp
theorem op_neat (L:List UInt8):∀ (n k:Nat) (x:ByteArray × Nat),opL L n k=some x→Neat (L.take x.2)
 | 0,_,_,h=>by cases h
 | n+1,k,x,h=>by
  unfold opL at h
  split at h
  ·rename_i hp
   simp only [Option.some.injEq] at h
   subst h
   rw [List.isPrefixOf_iff_prefix] at hp
   have e:L.take (opAt k).size=(opAt k).data.toList:=(List.prefix_iff_eq_take.1 hp).symm
   rw [e]
   exact neat_plain (opAt_neat k)
  ·exact op_neat L n (k+1) x h
theorem tok_neat {L:List UInt8}{k t:ByteArray}{m:Nat} (h:tokL L=some (k,t,m)) (hL:Neat L):Neat (L.drop m):=by
 cases L with
 | nil=>cases h
 | cons c L =>
  have hr:tokL (c::L)=if smallB (c.toNat:Int) || capitalB (c.toNat:Int) then (nameL c L).map fun x=>(if x.1 then kWord else kName,x.2.1,x.2.2)
   else if digitB (c.toNat:Int) then (intL c L).map fun x=>(kInt,x.1,x.2)
   else if (c.toNat:Int) == 34 then (strL (L.length+1) L []).map fun x=>(kStr,strOfNums x.1,x.2+1)
   else (opL (c::L) 21 0).map fun x=>(kOp,x.1,x.2):=rfl
  rw [hr] at h
  split at h
  ·rename_i hc
   have hc:c≠10∧c≠34∧c≠35:=byte_ne (P:=fun b=>smallB b || capitalB b) hc (by decide) (by decide) (by decide)
   refine neat_drop hL (neat_plain ?_)
   obtain ⟨x,hx,e⟩:=Option.map_eq_some_iff.1 h
   have hm:m=1+(L.takeWhile fun c=>nameB (c.toNat:Int)).length:=by
    unfold nameL at hx
    simp only at hx
    split at hx
    ·simp at hx;subst hx;simp at e;exact e.2.2.symm
    ·split at hx
     ·cases hx
     ·split at hx
      ·cases hx
      ·simp at hx;subst hx;simp at e;exact e.2.2.symm
   rw [hm,Nat.add_comm,List.take_succ_cons]
   intro d hd
   rcases List.mem_cons.1 hd with rfl | hd
   ·exact hc
   ·exact byte_ne (P:=nameB) (take_while_mem (p:=fun c=>nameB (c.toNat:Int)) (Nat.le_refl _) d hd) (by decide) (by decide) (by decide)
  ·split at h
   ·refine neat_drop hL (neat_plain ?_)
    obtain ⟨x,hx,e⟩:=Option.map_eq_some_iff.1 h
    have hm:m=((c::L).takeWhile fun c=>digitB (c.toNat:Int)).length:=by
     unfold intL at hx
     simp only at hx
     split at hx
     ·cases hx
     ·split at hx
      ·simp at hx;subst hx;simp at e;exact e.2.2.symm
      ·cases hx
    rw [hm]
    intro d hd
    exact byte_ne (P:=digitB) (take_while_mem (p:=fun c=>digitB (c.toNat:Int)) (Nat.le_refl _) d hd) (by decide) (by decide) (by decide)
   ·split at h
    ·rename_i h34
     have c34:c=34:=UInt8.toNat_inj.mp (show c.toNat=34 by have:=beq_iff_eq.1 h34;omega)
     subst c34
     obtain ⟨x,hx,e⟩:=Option.map_eq_some_iff.1 h
     have hm:m=x.2+1:=by simp at e;exact e.2.2.symm
     refine neat_drop hL ?_
     rw [hm,List.take_succ_cons]
     show (match scanB 0 34 with | none=>none | some q1=>scanL q1 (L.take x.2))=_
     have s1:scanB 0 34=some 1:=by decide
     rw [s1]
     exact str_scan _ _ _ x hx
    ·obtain ⟨x,hx,e⟩:=Option.map_eq_some_iff.1 h
     have hm:m=x.2:=by simp at e;exact e.2.2.symm
     rw [hm]
     exact neat_drop hL (op_neat _ _ _ x hx)
end Go.Proofs.YtknjeecjhahbaaaGreatDoor
namespace Go.Proofs.YtknjeecjhahbaaaGreatDoor
open Go.RowKit

theorem restL_fuel:∀ (f g:Nat) (L:List UInt8) (o:Nat),L.length<f→L.length<g→restL f L o=restL g L o
 | 0,_,_,_,h,_=>absurd h (Nat.not_lt_zero _)
 | _,0,_,_,_,h=>absurd h (Nat.not_lt_zero _)
 | f+1,g+1,L,o,hf,hg=>by
  unfold restL
  split
  ·rfl
  ·cases ht:tokL (L.drop (skipL L)) with
   | none=>rfl
   | some x =>
    obtain ⟨k,t,m⟩:=x
    have hb:=tokL_bd ht
    have hl:(L.drop (skipL L+m)).length<L.length:=by
     have h1:=hb.1
     have h2:=hb.2
     simp only [List.length_drop] at h2 ⊢
     omega
    simp only
    rw [restL_fuel f g (L.drop (skipL L+m)) (o+(skipL L+m)) (by omega) (by omega)]
theorem restL_eq (f:Nat) (L:List UInt8) (o:Nat):restL (f+1) L o=if skipL L=L.length then .ok []
  else match tokL (L.drop (skipL L)) with
   | none=>.error (o+skipL L)
   | some (k,t,m)=>match restL f (L.drop (skipL L+m)) (o+(skipL L+m)) with
    | .ok l=>.ok ((k,t,o+skipL L)::l)
    | .error e=>.error e:=rfl
theorem blanks_neat (L:List UInt8):Neat (L.take (blanksL L)):=neat_plain (fun c hc=>byte_ne (P:=blankB) (take_while_mem (p:=fun c=>blankB (c.toNat:Int)) (Nat.le_refl _) c hc) (by decide) (by decide) (by decide))
theorem skip_blanks {L:List UInt8} (h:Neat L):skipL L=blanksL L:=by
 have h1:=neat_drop h (blanks_neat L)
 unfold skipL
 cases hd:L.drop (blanksL L) with
 | nil=>rfl
 | cons c r =>
  rw [hd] at h1
  have hc:=(neat_first h1).1
  simp only
  rw [if_neg]
  intro e
  exact hc (UInt8.toNat_inj.mp (show c.toNat=35 by have:=beq_iff_eq.1 e;omega))
theorem cut_skip {Z:List UInt8} (h:Cut Z):skipL Z=0∧blanksL Z=0:=by
 obtain ⟨c,R,rfl,h⟩:=h
 rcases h with rfl | rfl
 ·constructor <;> rfl
 ·constructor <;> rfl
theorem rest_cut {Z:List UInt8} (hZ:Cut Z):∀ (f f':Nat) (L:List UInt8) (o:Nat) (T:List (ByteArray × ByteArray × Nat)),restL f L o = .ok T→Neat L→(L++Z).length<f' →
  restL f' (L++Z) o=match restL (Z.length+1) Z (o+L.length) with
   | .ok T'=>.ok (T++T')
   | .error e=>.error e
 | 0,_,_,_,_,h,_,_=>by cases h
 | f+1,0,_,_,_,_,_,hf=>absurd hf (Nat.not_lt_zero _)
 | f+1,f'+1,L,o,T,h,hN,hf=>by
  have hlen:(L++Z).length=L.length+Z.length:=by simp
  have hzp:0<Z.length:=by obtain ⟨c,R,rfl,_⟩:=hZ;simp
  unfold restL at h
  by_cases hs:skipL L=L.length
  ·rw [if_pos hs] at h
   cases h
   have hb:blanksL L=L.length:=by rw [←skip_blanks hN];exact hs
   obtain ⟨z1,z2⟩:=cut_skip hZ
   have e0:blanksL (L++Z)=L.length:=by rw [blanksL_all hb,z2];rfl
   have e1:skipL (L++Z)=L.length:=by
    unfold skipL
    rw [e0,List.drop_left' rfl]
    obtain ⟨c,R,rfl,hc⟩:=hZ
    simp only
    rw [if_neg]
    rcases hc with rfl | rfl <;> decide
   have e2:restL (f'+1) (L++Z) o=restL (f'+1) Z (o+L.length):=by
    have hne:¬ L.length=(L++Z).length:=by omega
    have hne2:¬ 0=Z.length:=by omega
    unfold restL
    rw [e1,z1,if_neg hne,if_neg hne2,List.drop_left' rfl,List.drop_zero]
    cases tokL Z with
    | none=>simp
    | some x =>
     obtain ⟨k,t,m⟩:=x
     simp only [Nat.zero_add,Nat.add_zero]
     rw [←List.drop_drop,List.drop_left' rfl,show o+(L.length+m)=o+L.length+m by omega]
   rw [e2,restL_fuel (f'+1) (Z.length+1) Z _ (by omega) (by omega)]
   cases restL (Z.length+1) Z (o+L.length) <;> rfl
  ·rw [if_neg hs] at h
   cases ht:tokL (L.drop (skipL L)) with
   | none=>rw [ht] at h;cases h
   | some x =>
    obtain ⟨k,t,m⟩:=x
    rw [ht] at h
    simp only at h
    have hsl:=skipL_le L
    have hb:=tokL_bd ht
    simp only [List.length_drop] at hb
    have hne:L.drop (skipL L) ≠ []:=fun e=>by have:=congrArg List.length e;simp at this;omega
    cases hr:restL f (L.drop (skipL L+m)) (o+(skipL L+m)) with
    | error e=>rw [hr] at h;cases h
    | ok T1 =>
     rw [hr] at h
     cases h
     have hN1:Neat (L.drop (skipL L)):=by
      rw [skip_blanks hN]
      exact neat_drop hN (blanks_neat L)
     have hN2:Neat (L.drop (skipL L+m)):=by
      rw [←List.drop_drop]
      exact tok_neat ht hN1
     obtain ⟨p1,_⟩:=skipL_part (X:=Z) hs
     have hd:(L++Z).drop (skipL L)=L.drop (skipL L)++Z:=List.drop_append_of_le_length hsl
     have hd2:(L++Z).drop (skipL L+m)=L.drop (skipL L+m)++Z:=List.drop_append_of_le_length (by omega)
     have hl2:(L.drop (skipL L+m)).length=L.length - (skipL L+m):=List.length_drop
     have ih:=rest_cut hZ f f' (L.drop (skipL L+m)) (o+(skipL L+m)) T1 hr hN2 (by rw [List.length_append,hl2];omega)
     rw [hl2,show o+(skipL L+m)+(L.length - (skipL L+m))=o+L.length by omega] at ih
     rw [restL_eq f',p1,if_neg (by omega),hd,tokL_cut hne hZ ht]
     simp only
     rw [hd2,ih]
     cases restL (Z.length+1) Z (o+L.length) <;> rfl
end Go.Proofs.YtknjeecjhahbaaaGreatDoor
