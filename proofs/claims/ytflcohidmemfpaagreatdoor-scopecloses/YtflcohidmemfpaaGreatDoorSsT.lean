/- Package tree: the strings of what is read are no longer than the tokens', the numbers fit: terms. -/
import Derived.Test.YtflcohidmemfpaaGreatDoorSsQ
import Derived.Test.YtflcohidmemfpaaGreatDoorSsE
set_option linter.all false
namespace Go.Proofs.YtflcohidmemfpaaGreatDoor
open Go.Proofs.Tryz
open Go.RowKit

abbrev Fs (s:ByteArray):Prop:=s.size≤140737488355328
abbrev Fz (z:Int):Prop:=-9223372036854775808≤z∧z≤9223372036854775807
def zT:Nat→DataW Unit→Prop
 | 0,_=>False
 | n+1,d => ∃ (op:ByteArray) (z:Int) (s:ByteArray) (pl:List ByteArray) (el:List (DataW Unit)),d=mkE op z s pl el∧Fs op∧Fs s∧Fz z∧(∀ x∈pl,Fs x) ∧ ∀ e∈el,zT n e
def ZT (d:DataW Unit):Prop:=∃ n,zT n d
theorem Zjy:∀ (n m:Nat) (d:DataW Unit),n≤m→zT n d→zT m d
 | 0,_,_,_,h=>h.elim
 | n+1,0,_,hle,_=>by omega
 | n+1,m+1,d,hle,h=>by
  obtain ⟨op,z,s,pl,el,hd,h1,h2,h3,h4,h5⟩:=h
  exact ⟨op,z,s,pl,el,hd,h1,h2,h3,h4,fun e he=>Zjy n m e (by omega) (h5 e he)⟩
theorem Zw2:∀ el:List (DataW Unit),(∀ e∈el,ZT e) → ∃ n,∀ e∈el,zT n e
 | [],_=>⟨0,fun e he=>by simp at he⟩
 | x::el,h=>by
  obtain ⟨n,hn⟩:=Zw2 el (fun e he=>h e (List.mem_cons_of_mem _ he))
  obtain ⟨m,hm⟩:=h x (List.mem_cons_self)
  refine ⟨max n m,fun e he => ?_⟩
  rcases List.mem_cons.1 he with rfl | he
  ·exact Zjy m _ _ (by omega) hm
  ·exact Zjy n _ _ (by omega) (hn e he)
theorem mkZT {op s:ByteArray}{z:Int}{pl:List ByteArray}{el:List (DataW Unit)} (h1:Fs op) (h2:Fs s) (h3:Fz z) (h4:∀ x∈pl,Fs x) (h5:∀ e∈el,ZT e):ZT (mkE op z s pl el):=by
 obtain ⟨n,hn⟩:=Zw2 el h5
 exact ⟨n+1,op,z,s,pl,el,rfl,h1,h2,h3,h4,hn⟩
theorem mkZP {op:ByteArray}{el:List (DataW Unit)} (h1:Fs op) (h5:∀ e∈el,ZT e):ZT (mkE op 0 ⟨#[]⟩ [] el):=mkZT h1 (by decide) (by decide) (fun x hx=>by simp at hx) h5
def ZO (o:Out (DataW Unit)):Prop:=∀ e k',o = .ok (e,k')→ZT e
theorem ZO.err (x:Nat × Bool):ZO (.error x):=fun _ _ h=>by cases h
theorem ZO.ok {e:DataW Unit}{k:Nat} (h:ZT e):ZO (.ok (e,k)):=fun _ _ h1=>by
 cases h1
 exact h
def ZL (o:Out (List (DataW Unit))):Prop:=∀ el k',o = .ok (el,k') → ∀ e∈el,ZT e
variable {l:List (ByteArray × ByteArray × Nat)}
theorem Zuu (t:ByteArray):Fz (Zuj t):=by
 unfold Zuj
 split
 next v hv =>
  unfold Lib.parseIntB at hv
  split at hv
  ·cases hv
  ·simp only at hv
   split at hv
   ·cases hv
   ·cases hv
   next u hu =>
    split at hv
    ·cases hv
    ·split at hv
     ·cases hv
     next h1 h2 =>
      simp only [Lib.NumEnd.ok.injEq] at hv
      subst hv
      simp only [not_and,Nat.not_le,Nat.not_lt] at h1 h2
      split
      next h3 =>
       have h4:=h2 h3
       unfold Fz
       omega
      next h3 =>
       have h4:=h1 h3
       unfold Fz
       omega
 ·unfold Fz
  omega
theorem Zqr (hT:∀ x∈l,Fs x.2.1) (s:List ByteArray) (k:Nat) (s':List ByteArray) (k':Nat) (hs:∀ x∈s,Fs x) (h:Z2k l s k = .ok (s',k')):∀ x∈s',Fs x:=by
 unfold Z2k at h
 split at h
 next x hx =>
  cases hm:Z19 x with
  | false =>
   rw [hm] at h
   cases h
  | true =>
   rw [hm] at h
   simp only [cond_true,Except.ok.injEq,Prod.mk.injEq] at h
   rw [←h.1]
   intro y hy
   simp at hy
   rcases hy with hy | rfl
   ·exact hs y hy
   ·exact hT x (List.mem_of_getElem? hx)
 next=>cases h
theorem Zgs {dp k:Nat}{o:Out (DataW Unit)} (h:ZO o):ZO (Z2n dp k o):=by
 unfold Z2n
 split
 ·exact ZO.err _
 ·exact h
theorem Zfk {c:ByteArray}{o:Out (DataW Unit)} (h:ZO o):ZO (Z1c l c o):=by
 unfold Z1c
 cases o with
 | error y=>exact ZO.err _
 | ok y =>
  obtain ⟨e,k'⟩:=y
  simp only
  cases hm:Z09 l k' [c] with
  | true =>
   simp only [cond_true]
   exact ZO.ok (h e k' rfl)
  | false =>
   simp only [cond_false]
   exact ZO.err _
theorem Zr6 {op:ByteArray}{o:Out (List (DataW Unit))} (hop:Fs op) (h:ZL o):ZO (Z4u op o):=by
 unfold Z4u
 cases o with
 | error y=>exact ZO.err _
 | ok y =>
  obtain ⟨el,k'⟩:=y
  exact ZO.ok (mkZP hop (h el k' rfl))
theorem z_op {op:ByteArray}{o:Out (DataW Unit)} (hop:Fs op) (h:ZO o):ZO (pOp op o):=by
 unfold pOp
 cases o with
 | error y=>exact ZO.err _
 | ok y =>
  obtain ⟨e,k'⟩:=y
  exact ZO.ok (mkZP hop (fun x hx=>by simp at hx;subst hx;exact h _ k' rfl))
theorem Zwu {e:DataW Unit}{o:Out (DataW Unit)} (he:ZT e) (h:ZO o):ZO (Z3t e o):=by
 unfold Z3t
 cases o with
 | error y=>exact ZO.err _
 | ok y =>
  obtain ⟨e2,k'⟩:=y
  refine ZO.ok (mkZP (by decide) (fun x hx => ?_))
  simp at hx
  rcases hx with rfl | rfl
  ·exact he
  ·exact h _ k' rfl
theorem Zpk {term:Nat→Out (DataW Unit)} (ht:∀ k,ZO (term k)) {c:ByteArray}{es:List (DataW Unit)}{k:Nat} (he:∀ e∈es,ZT e):ZL (Z1g l (Z0n term) c l.length es k):=fun el k' h=>by
 obtain ⟨j',h1,h3⟩:=Z49 (P:=fun s _ => ∀ e∈s,ZT e) (fun s k s' k' j hs h=>by
  unfold Z0n at h
  cases ho:term k with
  | error y =>
   rw [ho] at h
   cases h
  | ok y =>
   obtain ⟨e1,k1⟩:=y
   rw [ho] at h
   simp only [Except.ok.injEq,Prod.mk.injEq] at h
   rw [←h.1]
   intro x hx
   simp at hx
   rcases hx with hx | rfl
   ·exact hs x hx
   ·exact ht k _ k1 ho) (j:=0) he h
 exact h3
theorem Zyc {term:Nat→Out (DataW Unit)} (ht:∀ k,ZO (term k)) {c:ByteArray}{k:Nat} : ZL (Z1g l (Z13 l term) c l.length [] k):=fun el k' h=>by
 obtain ⟨j',h1,h3⟩:=Z49 (P:=fun s _ => ∀ e∈s,ZT e) (fun s k s' k' j hs h=>by
  unfold Z13 at h
  have hc:=Zfk (l:=l) (c:=Z4a) (ht k)
  cases ho:Z1c l Z4a (term k) with
  | error y =>
   rw [ho] at h
   cases h
  | ok y =>
   obtain ⟨e1,k1⟩:=y
   rw [ho] at h
   simp only at h
   cases ho2:term k1 with
   | error y =>
    rw [ho2] at h
    cases h
   | ok y =>
    obtain ⟨e2,k2⟩:=y
    rw [ho2] at h
    simp only [Except.ok.injEq,Prod.mk.injEq] at h
    rw [←h.1]
    intro x hx
    simp at hx
    rcases hx with hx | rfl | rfl
    ·exact hs x hx
    ·exact hc _ k1 ho
    ·exact ht k1 _ k2 ho2) (j:=0) (fun e he=>by simp at he) h
 exact h3
theorem Zf6 {dp:Nat}{term:Nat→Out (DataW Unit)} (ht:∀ k,ZO (term k)):∀ (f:Nat) (e:DataW Unit) (k:Nat),ZT e→ZO (Z22 l dp term f e k)
 | 0,e,k,_=>ZO.err _
 | f+1,e,k,he=>by
  unfold Z22
  cases hm:Z09 l k [Z7n] with
  | true =>
   simp only [cond_true]
   have H:=Zgs (dp:=dp) (k:=k) (Zr6 (op:=Z8w) (by decide) (Zpk (l:=l) ht (c:=Za7) (es:=[e]) (k:=k+1) (fun x hx=>by simp at hx;subst hx;exact he)))
   revert H
   generalize Z2n dp k (Z4u Z8w (Z1g l (Z0n term) Za7 l.length [e] (k+1)))=o
   intro H
   cases o with
   | error y=>exact ZO.err _
   | ok y=>exact Zf6 ht f _ _ (H _ _ rfl)
  | false =>
   simp only [cond_false]
   cases hm2:Z09 l k [Zaj] with
   | true =>
    simp only [cond_true]
    have H:=Zgs (dp:=dp) (k:=k) (Zwu he (Zfk (l:=l) (c:=Zc1) (ht (k+1))))
    revert H
    generalize Z2n dp k (Z3t e (Z1c l Zc1 (term (k+1))))=o
    intro H
    cases o with
    | error y=>exact ZO.err _
    | ok y=>exact Zf6 ht f _ _ (H _ _ rfl)
   | false =>
    simp only [cond_false]
    exact ZO.ok he
theorem Zh2 (hT:∀ x∈l,Fs x.2.1) {rank:Nat}{sub:Nat→Out (DataW Unit)} (ht:∀ k,ZO (sub k)):∀ (f:Nat) (e:DataW Unit) (k:Nat),ZT e→ZO (Z0s l rank sub f e k)
 | 0,e,k,h=>ZO.ok h
 | f+1,e,k,h=>by
  unfold Z0s
  cases hx:l[k]? with
  | none=>exact ZO.ok h
  | some x =>
   simp only
   cases hm:Z0i x (Z0y rank) with
   | true =>
    simp only [cond_true]
    cases ho:sub (k+1) with
    | error y=>exact ZO.err _
    | ok y =>
     obtain ⟨e2,k2⟩:=y
     have h2:ZT (mkE x.2.1 0 ⟨#[]⟩ [] [e,e2]):=mkZP (hT x (List.mem_of_getElem? hx)) (fun z hz=>by
      simp at hz
      rcases hz with rfl | rfl
      ·exact h
      ·exact ht (k+1) _ k2 ho)
     simp only
     cases hr:rank == 4 with
     | true =>
      simp only [cond_true]
      exact ZO.ok h2
     | false =>
      simp only [cond_false]
      exact Zh2 hT ht f _ _ h2
   | false =>
    simp only [cond_false]
    exact ZO.ok h
theorem Zot {op s:ByteArray}{z:Int} (h1:Fs op) (h2:Fs s) (h3:Fz z):ZT (mkE op z s [] []):=mkZT h1 h2 h3 (fun x hx=>by simp at hx) (fun e he=>by simp at he)
theorem Zx9 {x:ByteArray × ByteArray × Nat} (h:(Z4h x || Z19 x)=true):Fs x.1:=by
 unfold Fs
 rw [Bool.or_eq_true] at h
 unfold Z4h Z19 at h
 rw [ByteArray.toList_eq,beq_iff_eq,beq_iff_eq] at h
 have e:x.1.size=x.1.data.toList.length:=by rw [Array.length_toList];rfl
 rcases h with h | h <;> rw [e,h] <;> decide
theorem Zzj (hT:∀ x∈l,Fs x.2.1) {dp:Nat}{term:Nat→Out (DataW Unit)}{terms pairs:Nat→Out (List (DataW Unit))}{k:Nat} (h:ZO (term (k+1))) (h1:ZL (terms (k+1))) (h2:ZL (pairs (k+1))):ZO (Z79 l dp term terms pairs k):=by
 unfold Z79
 cases hx:l[k]? with
 | none=>exact ZO.err _
 | some x =>
  have ht:=hT x (List.mem_of_getElem? hx)
  simp only
  cases Z6o x with
  | true=>exact ZO.ok (Zot (by decide) (by decide) (Zuu _))
  | false =>
   simp only [cond_false]
   cases hk:Z4h x || Z19 x with
   | true=>exact ZO.ok (Zot (Zx9 hk) ht (by decide))
   | false =>
    simp only [cond_false]
    cases Z0i x [Z6v,Z78,Z48] with
    | true=>exact ZO.ok (Zot ht (by decide) (by decide))
    | false =>
     simp only [cond_false]
     cases Z0i x [Z7n] with
     | true=>exact Zgs (Zfk h)
     | false =>
      simp only [cond_false]
      cases Z0i x [Zaj] with
      | true=>exact Zgs (Zr6 (by decide) h1)
      | false =>
       simp only [cond_false]
       cases Z0i x [Zsr] with
       | true=>exact Zgs (Zr6 (by decide) h2)
       | false=>exact ZO.err _
theorem Zip {m:ByteArray}{k dp:Nat}{o1 o2:Out (DataW Unit)} (h1:ZO o1) (h2:ZO o2):ZO (Z3u l m k dp o1 o2):=by
 unfold Z3u
 cases hm:Z09 l k [m] with
 | true =>
  simp only [cond_true]
  split
  ·exact ZO.err _
  ·exact h2
 | false =>
  simp only [cond_false]
  exact h1
theorem Zu2 (hT:∀ x∈l,Fs x.2.1) {one:Nat→Out (List (DataW Unit))}{k:Nat} (h1:∀ k,ZL (one k)):ZO (Z3f l one k):=by
 unfold Z3f
 cases ho:Z1g l (Z2k l) Z4a l.length [] k with
 | error y=>exact ZO.err _
 | ok y =>
  obtain ⟨names,k1⟩:=y
  simp only
  obtain ⟨j',q1,q2⟩:=Z49 (P:=fun s _ => ∀ x∈s,Fs x) (fun s k s' k' j hs h=>Zqr (l:=l) hT s k s' k' hs h) (j:=0) (fun x hx=>by simp at hx) ho
  cases ho1:one k1 with
  | error y=>exact ZO.err _
  | ok y =>
   obtain ⟨el,k2⟩:=y
   exact ZO.ok (mkZT (by decide) (by decide) (by decide) q2 (h1 k1 el k2 ho1))
theorem Zwz {o:Out (DataW Unit)} (h:ZO o):ZL (Zjk o):=fun el k' h1=>by
 unfold Zjk at h1
 cases o with
 | error y=>cases h1
 | ok y =>
  obtain ⟨e,k1⟩:=y
  simp only [Except.ok.injEq,Prod.mk.injEq] at h1
  rw [←h1.1]
  exact fun x hx=>by simp at hx;subst hx;exact h _ k1 rfl
theorem Z2u (hT:∀ x∈l,Fs x.2.1):∀ (f dp rank k:Nat),ZO (Z0k l f dp rank k)
 | 0,dp,rank,k=>ZO.err _
 | f+1,dp,rank,k=>by
  unfold Z0k
  split
  ·exact Zip (Z2u hT f dp 1 k) (Zu2 hT (fun k1=>Zwz (Z2u hT f (dp+1) 0 k1)))
  ·split
   ·exact Zip (Z2u hT f dp 4 k) (z_op (by decide) (Z2u hT f (dp+1) 3 (k+1)))
   ·split
    ·exact Zip (Z2u hT f dp 8 k) (z_op (by decide) (Z2u hT f (dp+1) 7 (k+1)))
    ·split
     ·unfold Zde
      have H:=Zzj (l:=l) hT (dp:=dp) (term:=Z0k l f (dp+1) 0) (terms:=fun k1=>Z1g l (Z0n (Z0k l f (dp+1) 0)) Zc1 l.length [] k1) (pairs:=fun k1=>Z1g l (Z13 l (Z0k l f (dp+1) 0)) Zo7 l.length [] k1) (k:=k) (Z2u hT f (dp+1) 0 (k+1)) (Zpk (fun k=>Z2u hT f (dp+1) 0 k) (fun e he=>by simp at he)) (Zyc (fun k=>Z2u hT f (dp+1) 0 k))
      revert H
      generalize Z79 l dp (Z0k l f (dp+1) 0) (fun k1=>Z1g l (Z0n (Z0k l f (dp+1) 0)) Zc1 l.length [] k1) (fun k1=>Z1g l (Z13 l (Z0k l f (dp+1) 0)) Zo7 l.length [] k1) k=o
      intro H
      cases o with
      | error y=>exact ZO.err _
      | ok y=>exact Zf6 (fun k=>Z2u hT f (dp+1) 0 k) _ _ _ (H _ _ rfl)
     ·unfold Z3l
      have H:=Z2u hT f dp (rank+1) k
      revert H
      generalize Z0k l f dp (rank+1) k=o
      intro H
      cases o with
      | error y=>exact ZO.err _
      | ok y=>exact Zh2 hT (fun k=>Z2u hT f dp (rank+1) k) _ _ _ (H _ _ rfl)
theorem Zoe (hT:∀ x∈l,Fs x.2.1) (k:Nat):ZO (Zau l k):=Z2u hT _ _ _ _
end Go.Proofs.YtflcohidmemfpaaGreatDoor
namespace Go.Proofs.YtflcohidmemfpaaGreatDoor
open Go.Proofs.Tryz
open Go.RowKit

def zS:Nat→DataW Unit→Prop
 | 0,_=>False
 | n+1,d => ∃ (kd nm:ByteArray) (pl:List ByteArray) (el bd es:List (DataW Unit)),d=mkS kd nm pl el bd es∧Fs kd∧Fs nm∧(∀ x∈pl,Fs x)∧(∀ e∈el,ZT e)∧(∀ e∈bd,zS n e) ∧ ∀ e∈es,zS n e
theorem Zcr:∀ (n m:Nat) (d:DataW Unit),n≤m→zS n d→zS m d
 | 0,_,_,_,h=>h.elim
 | n+1,0,_,hle,_=>by omega
 | n+1,m+1,d,hle,h=>by
  obtain ⟨kd,nm,pl,el,bd,es,hd,h1,h2,h3,h4,h5,h6⟩:=h
  exact ⟨kd,nm,pl,el,bd,es,hd,h1,h2,h3,h4,fun e he=>Zcr n m e (by omega) (h5 e he),fun e he=>Zcr n m e (by omega) (h6 e he)⟩
def ZSL (D:Nat) (sl:List (DataW Unit)):Prop:=∀ e∈sl,zS D e
theorem ZSL.nil (D:Nat):ZSL D []:=fun e he=>by simp at he
def ZTL (el:List (DataW Unit)):Prop:=∀ e∈el,ZT e
theorem ZTL.nil:ZTL []:=fun e he=>by simp at he
def ZNL (pl:List ByteArray):Prop:=∀ x∈pl,Fs x
theorem ZNL.nil:ZNL []:=fun e he=>by simp at he
theorem Zsp {D:Nat}{kd nm:ByteArray}{pl:List ByteArray}{el bd es:List (DataW Unit)} (h1:Fs kd) (h2:Fs nm) (h3:ZNL pl) (h4:ZTL el) (h5:ZSL D bd) (h6:ZSL D es):zS (D+1) (mkS kd nm pl el bd es):=⟨kd,nm,pl,el,bd,es,rfl,h1,h2,h3,h4,h5,h6⟩
def ZSO (D:Nat) (o:Out (DataW Unit)):Prop:=∀ s k',o = .ok (s,k')→zS D s
def Zao (D:Nat) (o:Out (List (DataW Unit))):Prop:=∀ s k',o = .ok (s,k')→ZSL D s
theorem ZSO.err {D:Nat} (x:Nat × Bool):ZSO D (.error x):=fun _ _ h=>by cases h
theorem ZSO.ok {D:Nat}{e:DataW Unit}{k:Nat} (h:zS D e):ZSO D (.ok (e,k)):=fun _ _ h1=>by
 cases h1
 exact h
theorem ZSO.more {D D':Nat}{o:Out (DataW Unit)} (h:ZSO D o) (hd:D≤D'):ZSO D' o:=fun s k e=>Zcr D D' s hd (h s k e)
theorem Zao.err {D:Nat} (x:Nat × Bool):Zao D (.error x):=fun _ _ h=>by cases h
theorem Zao.ok {D:Nat}{e:List (DataW Unit)}{k:Nat} (h:ZSL D e):Zao D (.ok (e,k)):=fun _ _ h1=>by
 cases h1
 exact h
variable {l:List (ByteArray × ByteArray × Nat)}{D:Nat}
theorem Zhc (hT:∀ x∈l,Fs x.2.1) (k:Nat):Fs (Z56 l k):=by
 unfold Z56
 cases hx:l[k]? with
 | none=>decide
 | some x=>exact hT x (List.mem_of_getElem? hx)
theorem Zvh {bl:Nat}{inner:Nat→Out (List (DataW Unit))}{k:Nat} (h:∀ k,Zao D (inner k)):Zao D (Z5x l bl inner k):=by
 unfold Z5x
 cases Z0m l k [110,101,119,108,105,110,101] with
 | false=>exact Zao.err _
 | true =>
  simp only [cond_true]
  cases Z0m l (k+1) [105,110,100,101,110,116] with
  | false=>exact Zao.err _
  | true =>
   simp only [cond_true]
   split
   ·exact Zao.err _
   ·cases ho:inner (k+2) with
    | error y=>exact Zao.err _
    | ok y =>
     obtain ⟨ss,k'⟩:=y
     simp only
     cases Z0m l k' [100,101,100,101,110,116] with
     | false=>exact Zao.err _
     | true=>exact Zao.ok (h _ _ k' ho)
theorem Zo3 {bl:Nat}{inner:Nat→Out (List (DataW Unit))}{k:Nat} (h:∀ k,Zao D (inner k)):Zao D (Z2g l bl inner k):=by
 unfold Z2g
 cases Z09 l k [Z4a] with
 | false=>exact Zao.err _
 | true=>exact Zvh h
theorem Zvs {one blk:Nat→Out (List (DataW Unit))}{k:Nat} (h1:∀ k,ZL (one k)) (h2:∀ k,Zao D (blk k)):ZSO (D+1) (Z6m one blk k):=by
 unfold Z6m
 cases ho:one k with
 | error y=>exact ZSO.err _
 | ok y =>
  obtain ⟨el,k1⟩:=y
  simp only
  cases ho2:blk k1 with
  | error y=>exact ZSO.err _
  | ok y=>exact ZSO.ok (Zsp (by decide) (by decide) ZNL.nil (h1 k el k1 ho) (h2 k1 _ _ ho2) (ZSL.nil D))
theorem Zxa (hT:∀ x∈l,Fs x.2.1) {one blk:Nat→Out (List (DataW Unit))}{k:Nat} (h1:∀ k,ZL (one k)) (h2:∀ k,Zao D (blk k)):ZSO (D+1) (Z7c l one blk k):=by
 unfold Z7c
 cases Z0m l k [110,97,109,101] with
 | false=>exact ZSO.err _
 | true =>
  simp only [cond_true]
  cases Z09 l (k+1) [kIn] with
  | false=>exact ZSO.err _
  | true =>
   simp only [cond_true]
   cases ho:one (k+2) with
   | error y=>exact ZSO.err _
   | ok y =>
    obtain ⟨el,k1⟩:=y
    simp only
    cases ho2:blk k1 with
    | error y=>exact ZSO.err _
    | ok y=>exact ZSO.ok (Zsp (by decide) (Zhc hT _) ZNL.nil (h1 _ el k1 ho) (h2 k1 _ _ ho2) (ZSL.nil D))
theorem Zme (hT:∀ x∈l,Fs x.2.1) {blk:Nat→Out (List (DataW Unit))}{k:Nat} (h2:∀ k,Zao D (blk k)):ZSO (D+1) (Z2h l blk k):=by
 unfold Z2h
 cases ho:blk k with
 | error y=>exact ZSO.err _
 | ok y =>
  obtain ⟨ss,k1⟩:=y
  simp only
  cases Z09 l k1 [Za2] with
  | false=>exact ZSO.err _
  | true =>
   simp only [cond_true]
   cases Z0m l (k1+1) [110,97,109,101] with
   | false=>exact ZSO.err _
   | true =>
    simp only [cond_true]
    cases ho2:blk (k1+2) with
    | error y=>exact ZSO.err _
    | ok y=>exact ZSO.ok (Zsp (by decide) (Zhc hT _) ZNL.nil ZTL.nil (h2 k _ _ ho) (h2 _ _ _ ho2))
theorem Zht {one blk:Nat→Out (List (DataW Unit))} (h1:∀ k,ZL (one k)) (h2:∀ k,Zao D (blk k)):∀ (f k:Nat),ZSO (D+f) (Z1y l one blk f k)
 | 0,k=>ZSO.err _
 | f+1,k=>by
  unfold Z1y
  cases ho:one k with
  | error y=>exact ZSO.err _
  | ok y =>
   obtain ⟨el,k1⟩:=y
   simp only
   cases ho2:blk k1 with
   | error y=>exact ZSO.err _
   | ok y =>
    obtain ⟨ss,k2⟩:=y
    simp only
    have e1:=h1 k el k1 ho
    have e2:ZSL (D+f) ss:=fun s hs=>Zcr D _ s (by omega) (h2 k1 ss k2 ho2 s hs)
    cases Z09 l k2 [Zix] with
    | true =>
     simp only [cond_true]
     cases ho3:Z1y l one blk f (k2+1) with
     | error y=>exact ZSO.err _
     | ok y =>
      obtain ⟨s,k3⟩:=y
      refine ZSO.ok (Zsp (D:=D+f) (by decide) (by decide) ZNL.nil e1 e2 (fun x hx => ?_))
      simp at hx
      subst hx
      exact Zht h1 h2 f (k2+1) _ k3 ho3
    | false =>
     simp only [cond_false]
     cases Z09 l k2 [Ziv] with
     | true =>
      simp only [cond_true]
      cases ho3:blk (k2+1) with
      | error y=>exact ZSO.err _
      | ok y=>exact ZSO.ok (Zsp (D:=D+f) (by decide) (by decide) ZNL.nil e1 e2 (fun s hs=>Zcr D _ s (by omega) (h2 _ _ _ ho3 s hs)))
     | false=>exact ZSO.ok (Zsp (D:=D+f) (by decide) (by decide) ZNL.nil e1 e2 (ZSL.nil _))
theorem Zxt (hT:∀ x∈l,Fs x.2.1) {c:ByteArray}{k:Nat}{names:List ByteArray}{k1:Nat} (ho:Z1g l (Z2k l) c l.length [] k = .ok (names,k1)):ZNL names:=by
 obtain ⟨j',q1,q2⟩:=Z49 (P:=fun s _ => ∀ x∈s,Fs x) (fun s k s' k' j hs h=>Zqr (l:=l) hT s k s' k' hs h) (j:=0) (fun x hx=>by simp at hx) ho
 exact q2
theorem Zxd (hT:∀ x∈l,Fs x.2.1) {blk:Nat→Out (List (DataW Unit))}{k:Nat} (h2:∀ k,Zao D (blk k)):ZSO (D+1) (Z6y l blk k):=by
 unfold Z6y
 cases Z0m l k [110,97,109,101] with
 | false=>exact ZSO.err _
 | true =>
  simp only [cond_true]
  cases Z09 l (k+1) [Z7n] with
  | false=>exact ZSO.err _
  | true =>
   simp only [cond_true]
   cases ho:Z1g l (Z2k l) Za7 l.length [] (k+2) with
   | error y=>exact ZSO.err _
   | ok y =>
    obtain ⟨names,k1⟩:=y
    simp only
    cases ho2:blk k1 with
    | error y=>exact ZSO.err _
    | ok y=>exact ZSO.ok (Zsp (by decide) (Zhc hT _) (Zxt hT ho) ZTL.nil (h2 k1 _ _ ho2) (ZSL.nil D))
theorem Zpn {e:DataW Unit} (h:ZT e):ZTL (partsOf e):=by
 obtain ⟨n,hn⟩:=h
 cases n with
 | zero=>exact hn.elim
 | succ n =>
  obtain ⟨op,z,s,pl,el,rfl,_,_,_,_,h3⟩:=hn
  exact fun e he=>⟨n,h3 e he⟩
theorem Zs8 {kd nm:ByteArray} (h1:Fs kd) (h2:Fs nm):zS (D+1) (mkS kd nm [] [] [] []):=Zsp h1 h2 ZNL.nil ZTL.nil (ZSL.nil D) (ZSL.nil D)
theorem Z6d {kd nm:ByteArray}{el:List (DataW Unit)} (h1:Fs kd) (h2:Fs nm) (h:ZTL el):zS (D+1) (mkS kd nm [] el [] []):=Zsp h1 h2 ZNL.nil h (ZSL.nil D) (ZSL.nil D)
theorem Zo1 (hT:∀ x∈l,Fs x.2.1) {term:Nat→Out (DataW Unit)}{k:Nat} (h:∀ k,ZO (term k)):ZSO (D+1) (Z1m l term k):=by
 unfold Z1m
 cases ho:term k with
 | error y=>exact ZSO.err _
 | ok y =>
  obtain ⟨e,k1⟩:=y
  simp only
  cases (Z0m l k [110,97,109,101] && (k1 == k+1)) && Z09 l k1 [kEq] with
  | true =>
   simp only [cond_true]
   cases ho1:Zjk (term (k1+1)) with
   | error y=>exact ZSO.err _
   | ok y=>exact ZSO.ok (Z6d (by decide) (Zhc hT _) (Zwz (h (k1+1)) _ _ ho1))
  | false =>
   simp only [cond_false]
   cases hi:Zii e == [105,110,100,101,120] with
   | false =>
    simp only [Bool.false_and,cond_false]
    exact ZSO.ok (Z6d (by decide) (by decide) (fun x hx=>by simp at hx;subst hx;exact h k _ k1 ho))
   | true =>
    simp only [Bool.true_and]
    cases Z09 l k1 [kEq] with
    | false=>exact ZSO.ok (Z6d (by decide) (by decide) (fun x hx=>by simp at hx;subst hx;exact h k _ k1 ho))
    | true =>
     simp only [cond_true]
     cases ho1:term (k1+1) with
     | error y=>exact ZSO.err _
     | ok y =>
      obtain ⟨e2,k2⟩:=y
      refine ZSO.ok (Z6d (by decide) (by decide) (fun x hx => ?_))
      simp at hx
      rcases hx with hx | rfl
      ·exact Zpn (h k e k1 ho) x hx
      ·exact h (k1+1) _ k2 ho1
theorem Zyj (hT:∀ x∈l,Fs x.2.1) {term:Nat→Out (DataW Unit)}{one:Nat→Out (List (DataW Unit))}{tset:Nat→Out (DataW Unit)}{k:Nat} (h0:∀ k,ZO (term k)) (h1:∀ k,ZL (one k)) (h2:ZSO (D+1) (tset k)):ZSO (D+1) (Z4e l term one tset k):=by
 have ht:=Zhc hT k
 unfold Z4e
 cases Z09 l k [Zbm,Z53,Zio] with
 | true=>exact ZSO.ok (Zs8 ht (by decide))
 | false =>
  simp only [cond_false]
  cases Z09 l k [Z83,Z4t] with
  | true =>
   simp only [cond_true]
   cases ho:Z1w l (Z2k l) l.length [] (k+1) with
   | error y=>exact ZSO.err _
   | ok y =>
    obtain ⟨names,k1⟩:=y
    obtain ⟨j',q1,q2⟩:=Z77 (P:=fun s _ => ∀ x∈s,Fs x) (fun s k s' k' j hs h=>Zqr (l:=l) hT s k s' k' hs h) (j:=0) (fun x hx=>by simp at hx) ho
    exact ZSO.ok (Zsp ht (by decide) q2 ZTL.nil (ZSL.nil D) (ZSL.nil D))
  | false =>
   simp only [cond_false]
   cases Z09 l k [Z8a] with
   | true =>
    simp only [cond_true]
    cases Z0m l (k+1) [110,101,119,108,105,110,101] with
    | true=>exact ZSO.ok (Zs8 ht (by decide))
    | false =>
     simp only [cond_false]
     cases ho:one (k+1) with
     | error y=>exact ZSO.err _
     | ok y=>exact ZSO.ok (Z6d ht (by decide) (h1 _ _ _ ho))
   | false =>
    simp only [cond_false]
    cases Z09 l k [Zbg] with
    | true =>
     simp only [cond_true]
     cases ho:one (k+1) with
     | error y=>exact ZSO.err _
     | ok y=>exact ZSO.ok (Z6d ht (by decide) (h1 _ _ _ ho))
    | false =>
     simp only [cond_false]
     cases Z09 l k [Zz1] with
     | true =>
      simp only [cond_true]
      cases ho:term (k+1) with
      | error y=>exact ZSO.err _
      | ok y =>
       obtain ⟨e,k1⟩:=y
       simp only
       cases Zii e == [105,110,100,101,120] with
       | true=>exact ZSO.ok (Z6d ht (by decide) (Zpn (h0 _ e k1 ho)))
       | false=>exact ZSO.err _
     | false=>exact h2
theorem Zho {a b c d e f:Nat→Out (DataW Unit)}{k:Nat} (ha:∀ k,ZSO D (a k)) (hb:∀ k,ZSO D (b k)) (hc:∀ k,ZSO D (c k)) (hd:∀ k,ZSO D (d k)) (he:∀ k,ZSO D (e k)) (hf:ZSO D (f k)):ZSO D (Z0q l a b c d e f k):=by
 unfold Z0q
 cases Z09 l k [kIf] with
 | true=>exact ha _
 | false =>
  simp only [cond_false]
  cases Z09 l k [kWhile] with
  | true=>exact hb _
  | false =>
   simp only [cond_false]
   cases Z09 l k [kFor] with
   | true=>exact hc _
   | false =>
    simp only [cond_false]
    cases Z09 l k [kDef] with
    | true=>exact hd _
    | false =>
     simp only [cond_false]
     cases Z09 l k [kTry] with
     | true=>exact he _
     | false =>
      simp only [cond_false]
      cases ho:f k with
      | error y=>exact ZSO.err _
      | ok y =>
       obtain ⟨s,k1⟩:=y
       simp only
       cases Z0m l k1 [110,101,119,108,105,110,101] with
       | false=>exact ZSO.err _
       | true=>exact ZSO.ok (hf s k1 ho)
theorem Zfy {cb:List UInt8}{stmt:Nat→Out (DataW Unit)} (h:∀ k,ZSO D (stmt k)):∀ (f:Nat) (ss:List (DataW Unit)) (k:Nat),ZSL D ss→Zao D (Z25 l cb stmt f ss k)
 | 0,_,_,_=>Zao.err _
 | f+1,ss,k,hs=>by
  unfold Z25
  cases Z0m l k cb with
  | true=>exact Zao.ok hs
  | false =>
   simp only [cond_false]
   cases ho:stmt k with
   | error y=>exact Zao.err _
   | ok y =>
    obtain ⟨s,k1⟩:=y
    refine Zfy h f (ss ++ [s]) k1 (fun x hx => ?_)
    simp at hx
    rcases hx with hx | rfl
    ·exact hs x hx
    ·exact h k _ k1 ho
theorem Zkr (hT:∀ x∈l,Fs x.2.1):∀ (d k:Nat),ZSO (d*(l.length+1)) (Z34 l d k)
 | 0,k=>ZSO.err _
 | d+1,k=>by
  have H1:∀ k,ZL (Z8o l k):=fun k=>Zwz (Zoe hT k)
  have H2:∀ k,Zao (d*(l.length+1)) (Z2g l (12 - d) (fun k'=>Z25 l dedentB.toList (Z34 l d) (l.length+1) [] k') k):=fun k=>Zo3 (fun k'=>Zfy (fun k=>Zkr hT d k) _ _ _ (ZSL.nil _))
  have e:(d+1)*(l.length+1)=d*(l.length+1)+(l.length+1):=Nat.succ_mul _ _
  unfold Z34 Za0
  rw [e]
  exact Zho (fun k=>(Zht H1 H2 _ _).more (by omega)) (fun k=>(Zvs H1 H2).more (by omega)) (fun k=>(Zxa hT H1 H2).more (by omega)) (fun k=>(Zxd hT H2).more (by omega)) (fun k=>(Zme hT H2).more (by omega)) ((Zyj (D:=d*(l.length+1)) hT (fun k=>Zoe hT k) H1 (Zo1 hT (fun k=>Zoe hT k))).more (by omega))
theorem Zw0 {ss:List (DataW Unit)}{k:Nat} (hT:∀ x∈l,Fs x.2.1) (h:Z86 l = .ok (ss,k)):ZSL (12*(l.length+1)) ss:=by
 unfold Z86 at h
 exact Zfy (fun k=>Zkr hT 12 k) _ _ _ (ZSL.nil _) ss k h
end Go.Proofs.YtflcohidmemfpaaGreatDoor
namespace Go.Proofs.YtflcohidmemfpaaGreatDoor
open Go.Proofs.Tryz
open Go.RowKit

def Z9y (q:Nat) (c:UInt8):Option Nat:=
 if c=10 then none
 else if q=0 then (if c=35 then none else if c=34 then some 1 else some 0)
 else if q=1 then (if c=34 then some 0 else if c=92 then some 2 else some 1)
 else some 1
def Z5z:Nat→List UInt8→Option Nat
 | q,[]=>some q
 | q,c::L=>match Z9y q c with
  | none=>none
  | some q'=>Z5z q' L
def Zo9 (L:List UInt8):Prop:=Z5z 0 L=some 0
theorem Z7l:∀ (A B:List UInt8) (q:Nat),Z5z q (A++B)=match Z5z q A with | none=>none | some q'=>Z5z q' B
 | [],B,q=>rfl
 | c::A,B,q=>by
  show (match Z9y q c with | none=>none | some q'=>Z5z q' (A++B))=_
  show _=(match (match Z9y q c with | none=>none | some q'=>Z5z q' A) with | none=>none | some q'=>Z5z q' B)
  cases Z9y q c with
  | none=>rfl
  | some q'=>exact Z7l A B q'
theorem Zo9.app {A B:List UInt8} (h:Zo9 A) (k:Zo9 B):Zo9 (A++B):=by
 unfold Zo9 at *
 rw [Z7l,h]
 exact k
theorem Zo9.back {A B:List UInt8} (h:Zo9 (A++B)) (k:Zo9 A):Zo9 B:=by
 unfold Zo9 at *
 rw [Z7l,k] at h
 exact h
theorem Ze3:∀ {L:List UInt8},(∀ c∈L,c≠10∧c≠34∧c≠35)→Zo9 L
 | [],_=>rfl
 | c::L,h=>by
  obtain ⟨h1,h2,h3⟩:=h c (by simp)
  have e:Z9y 0 c=some 0:=by unfold Z9y;rw [if_neg h1,if_pos rfl,if_neg h3,if_neg h2]
  show (match Z9y 0 c with | none=>none | some q'=>Z5z q' L)=_
  rw [e]
  exact Ze3 (fun x hx=>h x (by simp [hx]))
end Go.Proofs.YtflcohidmemfpaaGreatDoor
namespace Go.Proofs.YtflcohidmemfpaaGreatDoor
open Go.Proofs.Tryz
open Go.RowKit

abbrev Cs (s:ByteArray):Prop:=Z5z 0 s.data.toList=some 0
def cqT:Nat→DataW Unit→Prop
 | 0,_=>False
 | n+1,d => ∃ (op:ByteArray) (z:Int) (s:ByteArray) (pl:List ByteArray) (el:List (DataW Unit)),d=mkE op z s pl el∧Cs op∧(op=⟨#[110,97,109,101]⟩→Cs s)∧(∀ x∈pl,Cs x) ∧ ∀ e∈el,cqT n e
def CqT (d:DataW Unit):Prop:=∃ n,cqT n d
def CqO (o:Out (DataW Unit)):Prop:=∀ e k',o = .ok (e,k')→CqT e
theorem CqO.err (x:Nat × Bool):CqO (.error x):=fun _ _ h=>by cases h
theorem CqO.ok {e:DataW Unit}{k:Nat} (h:CqT e):CqO (.ok (e,k)):=fun _ _ h1=>by
 cases h1
 exact h
variable {l:List (ByteArray × ByteArray × Nat)}
end Go.Proofs.YtflcohidmemfpaaGreatDoor
