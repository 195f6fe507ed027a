/- Package tree: the strings of what is read are no longer than the tokens', the numbers fit: terms. -/
import Derived.Test.YtpcjcgkpjapbpaaGreatDoorTtQ
import Derived.Test.YtpcjcgkpjapbpaaGreatDoorTtE
set_option linter.all false
namespace Go.Proofs.YtpcjcgkpjapbpaaGreatDoor
open Go.RowKit

abbrev Fs (s:ByteArray):Prop:=s.size≤140737488355328
abbrev Fz (z:Int):Prop:=-9223372036854775808≤z∧z≤9223372036854775807
def zT:Nat→DataW Unit→Prop
 | 0,_=>False
 | n+1,d => ∃ (op:ByteArray) (z:Int) (s:ByteArray) (pl:List ByteArray) (el:List (DataW Unit)),d=mkE op z s pl el∧Fs op∧Fs s∧Fz z∧(∀ x∈pl,Fs x) ∧ ∀ e∈el,zT n e
def ZT (d:DataW Unit):Prop:=∃ n,zT n d
theorem zT_more:∀ (n m:Nat) (d:DataW Unit),n≤m→zT n d→zT m d
 | 0,_,_,_,h=>h.elim
 | n+1,0,_,hle,_=>by omega
 | n+1,m+1,d,hle,h=>by
  obtain ⟨op,z,s,pl,el,hd,h1,h2,h3,h4,h5⟩:=h
  exact ⟨op,z,s,pl,el,hd,h1,h2,h3,h4,fun e he=>zT_more n m e (by omega) (h5 e he)⟩
theorem zT_all:∀ el:List (DataW Unit),(∀ e∈el,ZT e) → ∃ n,∀ e∈el,zT n e
 | [],_=>⟨0,fun e he=>by simp at he⟩
 | x::el,h=>by
  obtain ⟨n,hn⟩:=zT_all el (fun e he=>h e (List.mem_cons_of_mem _ he))
  obtain ⟨m,hm⟩:=h x (List.mem_cons_self)
  refine ⟨max n m,fun e he => ?_⟩
  rcases List.mem_cons.1 he with rfl | he
  ·exact zT_more m _ _ (by omega) hm
  ·exact zT_more n _ _ (by omega) (hn e he)
theorem mkZT {op s:ByteArray}{z:Int}{pl:List ByteArray}{el:List (DataW Unit)} (h1:Fs op) (h2:Fs s) (h3:Fz z) (h4:∀ x∈pl,Fs x) (h5:∀ e∈el,ZT e):ZT (mkE op z s pl el):=by
 obtain ⟨n,hn⟩:=zT_all el h5
 exact ⟨n+1,op,z,s,pl,el,rfl,h1,h2,h3,h4,hn⟩
theorem mkZP {op:ByteArray}{el:List (DataW Unit)} (h1:Fs op) (h5:∀ e∈el,ZT e):ZT (mkE op 0 ⟨#[]⟩ [] el):=mkZT h1 (by decide) (by decide) (fun x hx=>by simp at hx) h5
def ZO (o:Out (DataW Unit)):Prop:=∀ e k',o = .ok (e,k')→ZT e
theorem ZO.err (x:Nat × Bool):ZO (.error x):=fun _ _ h=>by cases h
theorem ZO.ok {e:DataW Unit}{k:Nat} (h:ZT e):ZO (.ok (e,k)):=fun _ _ h1=>by
 cases h1
 exact h
def ZL (o:Out (List (DataW Unit))):Prop:=∀ el k',o = .ok (el,k') → ∀ e∈el,ZT e
variable {l:List (ByteArray × ByteArray × Nat)}
theorem intOf_fz (t:ByteArray):Fz (intOf t):=by
 unfold intOf
 split
 next v hv =>
  unfold Lib.parseIntB at hv
  split at hv
  ·cases hv
  ·simp only at hv
   split at hv
   ·cases hv
   ·cases hv
   next u hu =>
    split at hv
    ·cases hv
    ·split at hv
     ·cases hv
     next h1 h2 =>
      simp only [Lib.NumEnd.ok.injEq] at hv
      subst hv
      simp only [not_and,Nat.not_le,Nat.not_lt] at h1 h2
      split
      next h3 =>
       have h4:=h2 h3
       unfold Fz
       omega
      next h3 =>
       have h4:=h1 h3
       unfold Fz
       omega
 ·unfold Fz
  omega
theorem name_z (hT:∀ x∈l,Fs x.2.1) (s:List ByteArray) (k:Nat) (s':List ByteArray) (k':Nat) (hs:∀ x∈s,Fs x) (h:pName l s k = .ok (s',k')):∀ x∈s',Fs x:=by
 unfold pName at h
 split at h
 next x hx =>
  cases hm:isNameB x with
  | false =>
   rw [hm] at h
   cases h
  | true =>
   rw [hm] at h
   simp only [cond_true,Except.ok.injEq,Prod.mk.injEq] at h
   rw [←h.1]
   intro y hy
   simp at hy
   rcases hy with hy | rfl
   ·exact hs y hy
   ·exact hT x (List.mem_of_getElem? hx)
 next=>cases h
theorem z_deep {dp k:Nat}{o:Out (DataW Unit)} (h:ZO o):ZO (pDeep dp k o):=by
 unfold pDeep
 split
 ·exact ZO.err _
 ·exact h
theorem z_closed {c:ByteArray}{o:Out (DataW Unit)} (h:ZO o):ZO (pClosed l c o):=by
 unfold pClosed
 cases o with
 | error y=>exact ZO.err _
 | ok y =>
  obtain ⟨e,k'⟩:=y
  simp only
  cases hm:markAt l k' [c] with
  | true =>
   simp only [cond_true]
   exact ZO.ok (h e k' rfl)
  | false =>
   simp only [cond_false]
   exact ZO.err _
theorem z_list {op:ByteArray}{o:Out (List (DataW Unit))} (hop:Fs op) (h:ZL o):ZO (pList op o):=by
 unfold pList
 cases o with
 | error y=>exact ZO.err _
 | ok y =>
  obtain ⟨el,k'⟩:=y
  exact ZO.ok (mkZP hop (h el k' rfl))
theorem z_op {op:ByteArray}{o:Out (DataW Unit)} (hop:Fs op) (h:ZO o):ZO (pOp op o):=by
 unfold pOp
 cases o with
 | error y=>exact ZO.err _
 | ok y =>
  obtain ⟨e,k'⟩:=y
  exact ZO.ok (mkZP hop (fun x hx=>by simp at hx;subst hx;exact h _ k' rfl))
theorem z_index {e:DataW Unit}{o:Out (DataW Unit)} (he:ZT e) (h:ZO o):ZO (pIndex e o):=by
 unfold pIndex
 cases o with
 | error y=>exact ZO.err _
 | ok y =>
  obtain ⟨e2,k'⟩:=y
  refine ZO.ok (mkZP (by decide) (fun x hx => ?_))
  simp at hx
  rcases hx with rfl | rfl
  ·exact he
  ·exact h _ k' rfl
theorem z_terms {term:Nat→Out (DataW Unit)} (ht:∀ k,ZO (term k)) {c:ByteArray}{es:List (DataW Unit)}{k:Nat} (he:∀ e∈es,ZT e):ZL (pUpTo l (pTermStep term) c l.length es k):=fun el k' h=>by
 obtain ⟨j',h1,h3⟩:=pUpTo_inv (P:=fun s _ => ∀ e∈s,ZT e) (fun s k s' k' j hs h=>by
  unfold pTermStep at h
  cases ho:term k with
  | error y =>
   rw [ho] at h
   cases h
  | ok y =>
   obtain ⟨e1,k1⟩:=y
   rw [ho] at h
   simp only [Except.ok.injEq,Prod.mk.injEq] at h
   rw [←h.1]
   intro x hx
   simp at hx
   rcases hx with hx | rfl
   ·exact hs x hx
   ·exact ht k _ k1 ho) (j:=0) he h
 exact h3
theorem z_pairs {term:Nat→Out (DataW Unit)} (ht:∀ k,ZO (term k)) {c:ByteArray}{k:Nat} : ZL (pUpTo l (pPairStep l term) c l.length [] k):=fun el k' h=>by
 obtain ⟨j',h1,h3⟩:=pUpTo_inv (P:=fun s _ => ∀ e∈s,ZT e) (fun s k s' k' j hs h=>by
  unfold pPairStep at h
  have hc:=z_closed (l:=l) (c:=colon) (ht k)
  cases ho:pClosed l colon (term k) with
  | error y =>
   rw [ho] at h
   cases h
  | ok y =>
   obtain ⟨e1,k1⟩:=y
   rw [ho] at h
   simp only at h
   cases ho2:term k1 with
   | error y =>
    rw [ho2] at h
    cases h
   | ok y =>
    obtain ⟨e2,k2⟩:=y
    rw [ho2] at h
    simp only [Except.ok.injEq,Prod.mk.injEq] at h
    rw [←h.1]
    intro x hx
    simp at hx
    rcases hx with hx | rfl | rfl
    ·exact hs x hx
    ·exact hc _ k1 ho
    ·exact ht k1 _ k2 ho2) (j:=0) (fun e he=>by simp at he) h
 exact h3
theorem z_postOn {dp:Nat}{term:Nat→Out (DataW Unit)} (ht:∀ k,ZO (term k)):∀ (f:Nat) (e:DataW Unit) (k:Nat),ZT e→ZO (pPostOn l dp term f e k)
 | 0,e,k,_=>ZO.err _
 | f+1,e,k,he=>by
  unfold pPostOn
  cases hm:markAt l k [lpar] with
  | true =>
   simp only [cond_true]
   have H:=z_deep (dp:=dp) (k:=k) (z_list (op:=kCall) (by decide) (z_terms (l:=l) ht (c:=rpar) (es:=[e]) (k:=k+1) (fun x hx=>by simp at hx;subst hx;exact he)))
   revert H
   generalize pDeep dp k (pList kCall (pUpTo l (pTermStep term) rpar l.length [e] (k+1)))=o
   intro H
   cases o with
   | error y=>exact ZO.err _
   | ok y=>exact z_postOn ht f _ _ (H _ _ rfl)
  | false =>
   simp only [cond_false]
   cases hm2:markAt l k [lbrk] with
   | true =>
    simp only [cond_true]
    have H:=z_deep (dp:=dp) (k:=k) (z_index he (z_closed (l:=l) (c:=rbrk) (ht (k+1))))
    revert H
    generalize pDeep dp k (pIndex e (pClosed l rbrk (term (k+1))))=o
    intro H
    cases o with
    | error y=>exact ZO.err _
    | ok y=>exact z_postOn ht f _ _ (H _ _ rfl)
   | false =>
    simp only [cond_false]
    exact ZO.ok he
theorem z_sidesOn (hT:∀ x∈l,Fs x.2.1) {rank:Nat}{sub:Nat→Out (DataW Unit)} (ht:∀ k,ZO (sub k)):∀ (f:Nat) (e:DataW Unit) (k:Nat),ZT e→ZO (pSidesOn l rank sub f e k)
 | 0,e,k,h=>ZO.ok h
 | f+1,e,k,h=>by
  unfold pSidesOn
  cases hx:l[k]? with
  | none=>exact ZO.ok h
  | some x =>
   simp only
   cases hm:markB x (rankOps rank) with
   | true =>
    simp only [cond_true]
    cases ho:sub (k+1) with
    | error y=>exact ZO.err _
    | ok y =>
     obtain ⟨e2,k2⟩:=y
     have h2:ZT (mkE x.2.1 0 ⟨#[]⟩ [] [e,e2]):=mkZP (hT x (List.mem_of_getElem? hx)) (fun z hz=>by
      simp at hz
      rcases hz with rfl | rfl
      ·exact h
      ·exact ht (k+1) _ k2 ho)
     simp only
     cases hr:rank == 4 with
     | true =>
      simp only [cond_true]
      exact ZO.ok h2
     | false =>
      simp only [cond_false]
      exact z_sidesOn hT ht f _ _ h2
   | false =>
    simp only [cond_false]
    exact ZO.ok h
theorem z_leaf {op s:ByteArray}{z:Int} (h1:Fs op) (h2:Fs s) (h3:Fz z):ZT (mkE op z s [] []):=mkZT h1 h2 h3 (fun x hx=>by simp at hx) (fun e he=>by simp at he)
theorem kind_fs {x:ByteArray × ByteArray × Nat} (h:(isStrB x || isNameB x)=true):Fs x.1:=by
 unfold Fs
 rw [Bool.or_eq_true] at h
 unfold isStrB isNameB at h
 rw [ByteArray.toList_eq,beq_iff_eq,beq_iff_eq] at h
 have e:x.1.size=x.1.data.toList.length:=by rw [Array.length_toList];rfl
 rcases h with h | h <;> rw [e,h] <;> decide
theorem z_atom (hT:∀ x∈l,Fs x.2.1) {dp:Nat}{term:Nat→Out (DataW Unit)}{terms pairs:Nat→Out (List (DataW Unit))}{k:Nat} (h:ZO (term (k+1))) (h1:ZL (terms (k+1))) (h2:ZL (pairs (k+1))):ZO (pAtom l dp term terms pairs k):=by
 unfold pAtom
 cases hx:l[k]? with
 | none=>exact ZO.err _
 | some x =>
  have ht:=hT x (List.mem_of_getElem? hx)
  simp only
  cases isIntB x with
  | true=>exact ZO.ok (z_leaf (by decide) (by decide) (intOf_fz _))
  | false =>
   simp only [cond_false]
   cases hk:isStrB x || isNameB x with
   | true=>exact ZO.ok (z_leaf (kind_fs hk) ht (by decide))
   | false =>
    simp only [cond_false]
    cases markB x [kNone,kTrue,kFalse] with
    | true=>exact ZO.ok (z_leaf ht (by decide) (by decide))
    | false =>
     simp only [cond_false]
     cases markB x [lpar] with
     | true=>exact z_deep (z_closed h)
     | false =>
      simp only [cond_false]
      cases markB x [lbrk] with
      | true=>exact z_deep (z_list (by decide) h1)
      | false =>
       simp only [cond_false]
       cases markB x [lbrc] with
       | true=>exact z_deep (z_list (by decide) h2)
       | false=>exact ZO.err _
theorem z_ahead {m:ByteArray}{k dp:Nat}{o1 o2:Out (DataW Unit)} (h1:ZO o1) (h2:ZO o2):ZO (pAhead l m k dp o1 o2):=by
 unfold pAhead
 cases hm:markAt l k [m] with
 | true =>
  simp only [cond_true]
  split
  ·exact ZO.err _
  ·exact h2
 | false =>
  simp only [cond_false]
  exact h1
theorem z_lambda (hT:∀ x∈l,Fs x.2.1) {one:Nat→Out (List (DataW Unit))}{k:Nat} (h1:∀ k,ZL (one k)):ZO (pLambda l one k):=by
 unfold pLambda
 cases ho:pUpTo l (pName l) colon l.length [] k with
 | error y=>exact ZO.err _
 | ok y =>
  obtain ⟨names,k1⟩:=y
  simp only
  obtain ⟨j',q1,q2⟩:=pUpTo_inv (P:=fun s _ => ∀ x∈s,Fs x) (fun s k s' k' j hs h=>name_z (l:=l) hT s k s' k' hs h) (j:=0) (fun x hx=>by simp at hx) ho
  cases ho1:one k1 with
  | error y=>exact ZO.err _
  | ok y =>
   obtain ⟨el,k2⟩:=y
   exact ZO.ok (mkZT (by decide) (by decide) (by decide) q2 (h1 k1 el k2 ho1))
theorem z_one {o:Out (DataW Unit)} (h:ZO o):ZL (pOne o):=fun el k' h1=>by
 unfold pOne at h1
 cases o with
 | error y=>cases h1
 | ok y =>
  obtain ⟨e,k1⟩:=y
  simp only [Except.ok.injEq,Prod.mk.injEq] at h1
  rw [←h1.1]
  exact fun x hx=>by simp at hx;subst hx;exact h _ k1 rfl
theorem ranked_z (hT:∀ x∈l,Fs x.2.1):∀ (f dp rank k:Nat),ZO (pRanked l f dp rank k)
 | 0,dp,rank,k=>ZO.err _
 | f+1,dp,rank,k=>by
  unfold pRanked
  split
  ·exact z_ahead (ranked_z hT f dp 1 k) (z_lambda hT (fun k1=>z_one (ranked_z hT f (dp+1) 0 k1)))
  ·split
   ·exact z_ahead (ranked_z hT f dp 4 k) (z_op (by decide) (ranked_z hT f (dp+1) 3 (k+1)))
   ·split
    ·exact z_ahead (ranked_z hT f dp 8 k) (z_op (by decide) (ranked_z hT f (dp+1) 7 (k+1)))
    ·split
     ·unfold pPost
      have H:=z_atom (l:=l) hT (dp:=dp) (term:=pRanked l f (dp+1) 0) (terms:=fun k1=>pUpTo l (pTermStep (pRanked l f (dp+1) 0)) rbrk l.length [] k1) (pairs:=fun k1=>pUpTo l (pPairStep l (pRanked l f (dp+1) 0)) rbrc l.length [] k1) (k:=k) (ranked_z hT f (dp+1) 0 (k+1)) (z_terms (fun k=>ranked_z hT f (dp+1) 0 k) (fun e he=>by simp at he)) (z_pairs (fun k=>ranked_z hT f (dp+1) 0 k))
      revert H
      generalize pAtom l dp (pRanked l f (dp+1) 0) (fun k1=>pUpTo l (pTermStep (pRanked l f (dp+1) 0)) rbrk l.length [] k1) (fun k1=>pUpTo l (pPairStep l (pRanked l f (dp+1) 0)) rbrc l.length [] k1) k=o
      intro H
      cases o with
      | error y=>exact ZO.err _
      | ok y=>exact z_postOn (fun k=>ranked_z hT f (dp+1) 0 k) _ _ _ (H _ _ rfl)
     ·unfold pSides
      have H:=ranked_z hT f dp (rank+1) k
      revert H
      generalize pRanked l f dp (rank+1) k=o
      intro H
      cases o with
      | error y=>exact ZO.err _
      | ok y=>exact z_sidesOn hT (fun k=>ranked_z hT f dp (rank+1) k) _ _ _ (H _ _ rfl)
theorem term_z (hT:∀ x∈l,Fs x.2.1) (k:Nat):ZO (pTerm l k):=ranked_z hT _ _ _ _
end Go.Proofs.YtpcjcgkpjapbpaaGreatDoor
namespace Go.Proofs.YtpcjcgkpjapbpaaGreatDoor
open Go.RowKit

def zS:Nat→DataW Unit→Prop
 | 0,_=>False
 | n+1,d => ∃ (kd nm:ByteArray) (pl:List ByteArray) (el bd es:List (DataW Unit)),d=mkS kd nm pl el bd es∧Fs kd∧Fs nm∧(∀ x∈pl,Fs x)∧(∀ e∈el,ZT e)∧(∀ e∈bd,zS n e) ∧ ∀ e∈es,zS n e
theorem zS_more:∀ (n m:Nat) (d:DataW Unit),n≤m→zS n d→zS m d
 | 0,_,_,_,h=>h.elim
 | n+1,0,_,hle,_=>by omega
 | n+1,m+1,d,hle,h=>by
  obtain ⟨kd,nm,pl,el,bd,es,hd,h1,h2,h3,h4,h5,h6⟩:=h
  exact ⟨kd,nm,pl,el,bd,es,hd,h1,h2,h3,h4,fun e he=>zS_more n m e (by omega) (h5 e he),fun e he=>zS_more n m e (by omega) (h6 e he)⟩
def ZSL (D:Nat) (sl:List (DataW Unit)):Prop:=∀ e∈sl,zS D e
theorem ZSL.nil (D:Nat):ZSL D []:=fun e he=>by simp at he
def ZTL (el:List (DataW Unit)):Prop:=∀ e∈el,ZT e
theorem ZTL.nil:ZTL []:=fun e he=>by simp at he
def ZNL (pl:List ByteArray):Prop:=∀ x∈pl,Fs x
theorem ZNL.nil:ZNL []:=fun e he=>by simp at he
theorem mkZS {D:Nat}{kd nm:ByteArray}{pl:List ByteArray}{el bd es:List (DataW Unit)} (h1:Fs kd) (h2:Fs nm) (h3:ZNL pl) (h4:ZTL el) (h5:ZSL D bd) (h6:ZSL D es):zS (D+1) (mkS kd nm pl el bd es):=⟨kd,nm,pl,el,bd,es,rfl,h1,h2,h3,h4,h5,h6⟩
def ZSO (D:Nat) (o:Out (DataW Unit)):Prop:=∀ s k',o = .ok (s,k')→zS D s
def ZSLO (D:Nat) (o:Out (List (DataW Unit))):Prop:=∀ s k',o = .ok (s,k')→ZSL D s
theorem ZSO.err {D:Nat} (x:Nat × Bool):ZSO D (.error x):=fun _ _ h=>by cases h
theorem ZSO.ok {D:Nat}{e:DataW Unit}{k:Nat} (h:zS D e):ZSO D (.ok (e,k)):=fun _ _ h1=>by
 cases h1
 exact h
theorem ZSO.more {D D':Nat}{o:Out (DataW Unit)} (h:ZSO D o) (hd:D≤D'):ZSO D' o:=fun s k e=>zS_more D D' s hd (h s k e)
theorem ZSLO.err {D:Nat} (x:Nat × Bool):ZSLO D (.error x):=fun _ _ h=>by cases h
theorem ZSLO.ok {D:Nat}{e:List (DataW Unit)}{k:Nat} (h:ZSL D e):ZSLO D (.ok (e,k)):=fun _ _ h1=>by
 cases h1
 exact h
variable {l:List (ByteArray × ByteArray × Nat)}{D:Nat}
theorem txt_fs (hT:∀ x∈l,Fs x.2.1) (k:Nat):Fs (txtAt l k):=by
 unfold txtAt
 cases hx:l[k]? with
 | none=>decide
 | some x=>exact hT x (List.mem_of_getElem? hx)
theorem zs_block {bl:Nat}{inner:Nat→Out (List (DataW Unit))}{k:Nat} (h:∀ k,ZSLO D (inner k)):ZSLO D (pBlock l bl inner k):=by
 unfold pBlock
 cases isKind l k [110,101,119,108,105,110,101] with
 | false=>exact ZSLO.err _
 | true =>
  simp only [cond_true]
  cases isKind l (k+1) [105,110,100,101,110,116] with
  | false=>exact ZSLO.err _
  | true =>
   simp only [cond_true]
   split
   ·exact ZSLO.err _
   ·cases ho:inner (k+2) with
    | error y=>exact ZSLO.err _
    | ok y =>
     obtain ⟨ss,k'⟩:=y
     simp only
     cases isKind l k' [100,101,100,101,110,116] with
     | false=>exact ZSLO.err _
     | true=>exact ZSLO.ok (h _ _ k' ho)
theorem zs_blockOf {bl:Nat}{inner:Nat→Out (List (DataW Unit))}{k:Nat} (h:∀ k,ZSLO D (inner k)):ZSLO D (pBlockOf l bl inner k):=by
 unfold pBlockOf
 cases markAt l k [colon] with
 | false=>exact ZSLO.err _
 | true=>exact zs_block h
theorem zs_while {one blk:Nat→Out (List (DataW Unit))}{k:Nat} (h1:∀ k,ZL (one k)) (h2:∀ k,ZSLO D (blk k)):ZSO (D+1) (pWhile one blk k):=by
 unfold pWhile
 cases ho:one k with
 | error y=>exact ZSO.err _
 | ok y =>
  obtain ⟨el,k1⟩:=y
  simp only
  cases ho2:blk k1 with
  | error y=>exact ZSO.err _
  | ok y=>exact ZSO.ok (mkZS (by decide) (by decide) ZNL.nil (h1 k el k1 ho) (h2 k1 _ _ ho2) (ZSL.nil D))
theorem zs_each (hT:∀ x∈l,Fs x.2.1) {one blk:Nat→Out (List (DataW Unit))}{k:Nat} (h1:∀ k,ZL (one k)) (h2:∀ k,ZSLO D (blk k)):ZSO (D+1) (pEach l one blk k):=by
 unfold pEach
 cases isKind l k [110,97,109,101] with
 | false=>exact ZSO.err _
 | true =>
  simp only [cond_true]
  cases markAt l (k+1) [kIn] with
  | false=>exact ZSO.err _
  | true =>
   simp only [cond_true]
   cases ho:one (k+2) with
   | error y=>exact ZSO.err _
   | ok y =>
    obtain ⟨el,k1⟩:=y
    simp only
    cases ho2:blk k1 with
    | error y=>exact ZSO.err _
    | ok y=>exact ZSO.ok (mkZS (by decide) (txt_fs hT _) ZNL.nil (h1 _ el k1 ho) (h2 k1 _ _ ho2) (ZSL.nil D))
theorem zs_attempt (hT:∀ x∈l,Fs x.2.1) {blk:Nat→Out (List (DataW Unit))}{k:Nat} (h2:∀ k,ZSLO D (blk k)):ZSO (D+1) (pAttempt l blk k):=by
 unfold pAttempt
 cases ho:blk k with
 | error y=>exact ZSO.err _
 | ok y =>
  obtain ⟨ss,k1⟩:=y
  simp only
  cases markAt l k1 [kExcept] with
  | false=>exact ZSO.err _
  | true =>
   simp only [cond_true]
   cases isKind l (k1+1) [110,97,109,101] with
   | false=>exact ZSO.err _
   | true =>
    simp only [cond_true]
    cases ho2:blk (k1+2) with
    | error y=>exact ZSO.err _
    | ok y=>exact ZSO.ok (mkZS (by decide) (txt_fs hT _) ZNL.nil ZTL.nil (h2 k _ _ ho) (h2 _ _ _ ho2))
theorem zs_choice {one blk:Nat→Out (List (DataW Unit))} (h1:∀ k,ZL (one k)) (h2:∀ k,ZSLO D (blk k)):∀ (f k:Nat),ZSO (D+f) (pChoice l one blk f k)
 | 0,k=>ZSO.err _
 | f+1,k=>by
  unfold pChoice
  cases ho:one k with
  | error y=>exact ZSO.err _
  | ok y =>
   obtain ⟨el,k1⟩:=y
   simp only
   cases ho2:blk k1 with
   | error y=>exact ZSO.err _
   | ok y =>
    obtain ⟨ss,k2⟩:=y
    simp only
    have e1:=h1 k el k1 ho
    have e2:ZSL (D+f) ss:=fun s hs=>zS_more D _ s (by omega) (h2 k1 ss k2 ho2 s hs)
    cases markAt l k2 [kElif] with
    | true =>
     simp only [cond_true]
     cases ho3:pChoice l one blk f (k2+1) with
     | error y=>exact ZSO.err _
     | ok y =>
      obtain ⟨s,k3⟩:=y
      refine ZSO.ok (mkZS (D:=D+f) (by decide) (by decide) ZNL.nil e1 e2 (fun x hx => ?_))
      simp at hx
      subst hx
      exact zs_choice h1 h2 f (k2+1) _ k3 ho3
    | false =>
     simp only [cond_false]
     cases markAt l k2 [kElse] with
     | true =>
      simp only [cond_true]
      cases ho3:blk (k2+1) with
      | error y=>exact ZSO.err _
      | ok y=>exact ZSO.ok (mkZS (D:=D+f) (by decide) (by decide) ZNL.nil e1 e2 (fun s hs=>zS_more D _ s (by omega) (h2 _ _ _ ho3 s hs)))
     | false=>exact ZSO.ok (mkZS (D:=D+f) (by decide) (by decide) ZNL.nil e1 e2 (ZSL.nil _))
theorem names_z (hT:∀ x∈l,Fs x.2.1) {c:ByteArray}{k:Nat}{names:List ByteArray}{k1:Nat} (ho:pUpTo l (pName l) c l.length [] k = .ok (names,k1)):ZNL names:=by
 obtain ⟨j',q1,q2⟩:=pUpTo_inv (P:=fun s _ => ∀ x∈s,Fs x) (fun s k s' k' j hs h=>name_z (l:=l) hT s k s' k' hs h) (j:=0) (fun x hx=>by simp at hx) ho
 exact q2
theorem zs_func (hT:∀ x∈l,Fs x.2.1) {blk:Nat→Out (List (DataW Unit))}{k:Nat} (h2:∀ k,ZSLO D (blk k)):ZSO (D+1) (pFunc l blk k):=by
 unfold pFunc
 cases isKind l k [110,97,109,101] with
 | false=>exact ZSO.err _
 | true =>
  simp only [cond_true]
  cases markAt l (k+1) [lpar] with
  | false=>exact ZSO.err _
  | true =>
   simp only [cond_true]
   cases ho:pUpTo l (pName l) rpar l.length [] (k+2) with
   | error y=>exact ZSO.err _
   | ok y =>
    obtain ⟨names,k1⟩:=y
    simp only
    cases ho2:blk k1 with
    | error y=>exact ZSO.err _
    | ok y=>exact ZSO.ok (mkZS (by decide) (txt_fs hT _) (names_z hT ho) ZTL.nil (h2 k1 _ _ ho2) (ZSL.nil D))
theorem parts_z {e:DataW Unit} (h:ZT e):ZTL (partsOf e):=by
 obtain ⟨n,hn⟩:=h
 cases n with
 | zero=>exact hn.elim
 | succ n =>
  obtain ⟨op,z,s,pl,el,rfl,_,_,_,_,h3⟩:=hn
  exact fun e he=>⟨n,h3 e he⟩
theorem zs_bare {kd nm:ByteArray} (h1:Fs kd) (h2:Fs nm):zS (D+1) (mkS kd nm [] [] [] []):=mkZS h1 h2 ZNL.nil ZTL.nil (ZSL.nil D) (ZSL.nil D)
theorem zs_terms {kd nm:ByteArray}{el:List (DataW Unit)} (h1:Fs kd) (h2:Fs nm) (h:ZTL el):zS (D+1) (mkS kd nm [] el [] []):=mkZS h1 h2 ZNL.nil h (ZSL.nil D) (ZSL.nil D)
theorem zs_termSet (hT:∀ x∈l,Fs x.2.1) {term:Nat→Out (DataW Unit)}{k:Nat} (h:∀ k,ZO (term k)):ZSO (D+1) (pTermSet l term k):=by
 unfold pTermSet
 cases ho:term k with
 | error y=>exact ZSO.err _
 | ok y =>
  obtain ⟨e,k1⟩:=y
  simp only
  cases (isKind l k [110,97,109,101] && (k1 == k+1)) && markAt l k1 [kEq] with
  | true =>
   simp only [cond_true]
   cases ho1:pOne (term (k1+1)) with
   | error y=>exact ZSO.err _
   | ok y=>exact ZSO.ok (zs_terms (by decide) (txt_fs hT _) (z_one (h (k1+1)) _ _ ho1))
  | false =>
   simp only [cond_false]
   cases hi:opOf e == [105,110,100,101,120] with
   | false =>
    simp only [Bool.false_and,cond_false]
    exact ZSO.ok (zs_terms (by decide) (by decide) (fun x hx=>by simp at hx;subst hx;exact h k _ k1 ho))
   | true =>
    simp only [Bool.true_and]
    cases markAt l k1 [kEq] with
    | false=>exact ZSO.ok (zs_terms (by decide) (by decide) (fun x hx=>by simp at hx;subst hx;exact h k _ k1 ho))
    | true =>
     simp only [cond_true]
     cases ho1:term (k1+1) with
     | error y=>exact ZSO.err _
     | ok y =>
      obtain ⟨e2,k2⟩:=y
      refine ZSO.ok (zs_terms (by decide) (by decide) (fun x hx => ?_))
      simp at hx
      rcases hx with hx | rfl
      ·exact parts_z (h k e k1 ho) x hx
      ·exact h (k1+1) _ k2 ho1
theorem zs_line (hT:∀ x∈l,Fs x.2.1) {term:Nat→Out (DataW Unit)}{one:Nat→Out (List (DataW Unit))}{tset:Nat→Out (DataW Unit)}{k:Nat} (h0:∀ k,ZO (term k)) (h1:∀ k,ZL (one k)) (h2:ZSO (D+1) (tset k)):ZSO (D+1) (pLine l term one tset k):=by
 have ht:=txt_fs hT k
 unfold pLine
 cases markAt l k [kBreak,kContinue,kPass] with
 | true=>exact ZSO.ok (zs_bare ht (by decide))
 | false =>
  simp only [cond_false]
  cases markAt l k [kGlobal,kNonlocal] with
  | true =>
   simp only [cond_true]
   cases ho:pSeveral l (pName l) l.length [] (k+1) with
   | error y=>exact ZSO.err _
   | ok y =>
    obtain ⟨names,k1⟩:=y
    obtain ⟨j',q1,q2⟩:=pSeveral_inv (P:=fun s _ => ∀ x∈s,Fs x) (fun s k s' k' j hs h=>name_z (l:=l) hT s k s' k' hs h) (j:=0) (fun x hx=>by simp at hx) ho
    exact ZSO.ok (mkZS ht (by decide) q2 ZTL.nil (ZSL.nil D) (ZSL.nil D))
  | false =>
   simp only [cond_false]
   cases markAt l k [kReturn] with
   | true =>
    simp only [cond_true]
    cases isKind l (k+1) [110,101,119,108,105,110,101] with
    | true=>exact ZSO.ok (zs_bare ht (by decide))
    | false =>
     simp only [cond_false]
     cases ho:one (k+1) with
     | error y=>exact ZSO.err _
     | ok y=>exact ZSO.ok (zs_terms ht (by decide) (h1 _ _ _ ho))
   | false =>
    simp only [cond_false]
    cases markAt l k [kRaise] with
    | true =>
     simp only [cond_true]
     cases ho:one (k+1) with
     | error y=>exact ZSO.err _
     | ok y=>exact ZSO.ok (zs_terms ht (by decide) (h1 _ _ _ ho))
    | false =>
     simp only [cond_false]
     cases markAt l k [kDel] with
     | true =>
      simp only [cond_true]
      cases ho:term (k+1) with
      | error y=>exact ZSO.err _
      | ok y =>
       obtain ⟨e,k1⟩:=y
       simp only
       cases opOf e == [105,110,100,101,120] with
       | true=>exact ZSO.ok (zs_terms ht (by decide) (parts_z (h0 _ e k1 ho)))
       | false=>exact ZSO.err _
     | false=>exact h2
theorem zs_statement {a b c d e f:Nat→Out (DataW Unit)}{k:Nat} (ha:∀ k,ZSO D (a k)) (hb:∀ k,ZSO D (b k)) (hc:∀ k,ZSO D (c k)) (hd:∀ k,ZSO D (d k)) (he:∀ k,ZSO D (e k)) (hf:ZSO D (f k)):ZSO D (pStatement l a b c d e f k):=by
 unfold pStatement
 cases markAt l k [kIf] with
 | true=>exact ha _
 | false =>
  simp only [cond_false]
  cases markAt l k [kWhile] with
  | true=>exact hb _
  | false =>
   simp only [cond_false]
   cases markAt l k [kFor] with
   | true=>exact hc _
   | false =>
    simp only [cond_false]
    cases markAt l k [kDef] with
    | true=>exact hd _
    | false =>
     simp only [cond_false]
     cases markAt l k [kTry] with
     | true=>exact he _
     | false =>
      simp only [cond_false]
      cases ho:f k with
      | error y=>exact ZSO.err _
      | ok y =>
       obtain ⟨s,k1⟩:=y
       simp only
       cases isKind l k1 [110,101,119,108,105,110,101] with
       | false=>exact ZSO.err _
       | true=>exact ZSO.ok (hf s k1 ho)
theorem zs_stmts {cb:List UInt8}{stmt:Nat→Out (DataW Unit)} (h:∀ k,ZSO D (stmt k)):∀ (f:Nat) (ss:List (DataW Unit)) (k:Nat),ZSL D ss→ZSLO D (pStmts l cb stmt f ss k)
 | 0,_,_,_=>ZSLO.err _
 | f+1,ss,k,hs=>by
  unfold pStmts
  cases isKind l k cb with
  | true=>exact ZSLO.ok hs
  | false =>
   simp only [cond_false]
   cases ho:stmt k with
   | error y=>exact ZSLO.err _
   | ok y =>
    obtain ⟨s,k1⟩:=y
    refine zs_stmts h f (ss ++ [s]) k1 (fun x hx => ?_)
    simp at hx
    rcases hx with hx | rfl
    ·exact hs x hx
    ·exact h k _ k1 ho
theorem stmtAt_z (hT:∀ x∈l,Fs x.2.1):∀ (d k:Nat),ZSO (d*(l.length+1)) (pStmtAt l d k)
 | 0,k=>ZSO.err _
 | d+1,k=>by
  have H1:∀ k,ZL (pOneAt l k):=fun k=>z_one (term_z hT k)
  have H2:∀ k,ZSLO (d*(l.length+1)) (pBlockOf l (12 - d) (fun k'=>pStmts l dedentB.toList (pStmtAt l d) (l.length+1) [] k') k):=fun k=>zs_blockOf (fun k'=>zs_stmts (fun k=>stmtAt_z hT d k) _ _ _ (ZSL.nil _))
  have e:(d+1)*(l.length+1)=d*(l.length+1)+(l.length+1):=Nat.succ_mul _ _
  unfold pStmtAt pStmtIn
  rw [e]
  exact zs_statement (fun k=>(zs_choice H1 H2 _ _).more (by omega)) (fun k=>(zs_while H1 H2).more (by omega)) (fun k=>(zs_each hT H1 H2).more (by omega)) (fun k=>(zs_func hT H2).more (by omega)) (fun k=>(zs_attempt hT H2).more (by omega)) ((zs_line (D:=d*(l.length+1)) hT (fun k=>term_z hT k) H1 (zs_termSet hT (fun k=>term_z hT k))).more (by omega))
theorem read_z {ss:List (DataW Unit)}{k:Nat} (hT:∀ x∈l,Fs x.2.1) (h:pRead l = .ok (ss,k)):ZSL (12*(l.length+1)) ss:=by
 unfold pRead at h
 exact zs_stmts (fun k=>stmtAt_z hT 12 k) _ _ _ (ZSL.nil _) ss k h
end Go.Proofs.YtpcjcgkpjapbpaaGreatDoor
namespace Go.Proofs.YtpcjcgkpjapbpaaGreatDoor
open Go.RowKit

def scanB (q:Nat) (c:UInt8):Option Nat:=
 if c=10 then none
 else if q=0 then (if c=35 then none else if c=34 then some 1 else some 0)
 else if q=1 then (if c=34 then some 0 else if c=92 then some 2 else some 1)
 else some 1
def scanL:Nat→List UInt8→Option Nat
 | q,[]=>some q
 | q,c::L=>match scanB q c with
  | none=>none
  | some q'=>scanL q' L
def Neat (L:List UInt8):Prop:=scanL 0 L=some 0
theorem scan_app:∀ (A B:List UInt8) (q:Nat),scanL q (A++B)=match scanL q A with | none=>none | some q'=>scanL q' B
 | [],B,q=>rfl
 | c::A,B,q=>by
  show (match scanB q c with | none=>none | some q'=>scanL q' (A++B))=_
  show _=(match (match scanB q c with | none=>none | some q'=>scanL q' A) with | none=>none | some q'=>scanL q' B)
  cases scanB q c with
  | none=>rfl
  | some q'=>exact scan_app A B q'
theorem Neat.app {A B:List UInt8} (h:Neat A) (k:Neat B):Neat (A++B):=by
 unfold Neat at *
 rw [scan_app,h]
 exact k
theorem Neat.back {A B:List UInt8} (h:Neat (A++B)) (k:Neat A):Neat B:=by
 unfold Neat at *
 rw [scan_app,k] at h
 exact h
theorem neat_plain:∀ {L:List UInt8},(∀ c∈L,c≠10∧c≠34∧c≠35)→Neat L
 | [],_=>rfl
 | c::L,h=>by
  obtain ⟨h1,h2,h3⟩:=h c (by simp)
  have e:scanB 0 c=some 0:=by unfold scanB;rw [if_neg h1,if_pos rfl,if_neg h3,if_neg h2]
  show (match scanB 0 c with | none=>none | some q'=>scanL q' L)=_
  rw [e]
  exact neat_plain (fun x hx=>h x (by simp [hx]))
end Go.Proofs.YtpcjcgkpjapbpaaGreatDoor
namespace Go.Proofs.YtpcjcgkpjapbpaaGreatDoor
open Go.RowKit

abbrev Cs (s:ByteArray):Prop:=scanL 0 s.data.toList=some 0
def cqT:Nat→DataW Unit→Prop
 | 0,_=>False
 | n+1,d => ∃ (op:ByteArray) (z:Int) (s:ByteArray) (pl:List ByteArray) (el:List (DataW Unit)),d=mkE op z s pl el∧Cs op∧(op=⟨#[110,97,109,101]⟩→Cs s)∧(∀ x∈pl,Cs x) ∧ ∀ e∈el,cqT n e
def CqT (d:DataW Unit):Prop:=∃ n,cqT n d
def CqO (o:Out (DataW Unit)):Prop:=∀ e k',o = .ok (e,k')→CqT e
theorem CqO.err (x:Nat × Bool):CqO (.error x):=fun _ _ h=>by cases h
theorem CqO.ok {e:DataW Unit}{k:Nat} (h:CqT e):CqO (.ok (e,k)):=fun _ _ h1=>by
 cases h1
 exact h
variable {l:List (ByteArray × ByteArray × Nat)}
end Go.Proofs.YtpcjcgkpjapbpaaGreatDoor
