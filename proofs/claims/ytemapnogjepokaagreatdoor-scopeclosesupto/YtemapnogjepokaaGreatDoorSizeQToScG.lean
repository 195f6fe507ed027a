/- Package tree: no list of statements that is read is longer than twice the tokens. -/
import Derived.Test.YtemapnogjepokaaGreatDoorReadAToSizeP
import Derived.Test.YtemapnogjepokaaGreatDoorScEToScO
import Derived.Deep.RegionHeld3
import Derived.Test.YtemapnogjepokaaGreatDoorRows
namespace Go.Proofs.YtemapnogjepokaaGreatDoor
open Go.RowKit

def okS (N:Nat):Nat→DataW Unit→Prop
 | 0,_=>False
 | n+1,d => ∃ (kd nm:ByteArray) (pl:List ByteArray) (el bd es:List (DataW Unit)),d=mkS kd nm pl el bd es∧pl.length≤N∧(el.length≤N ∧ ∀ e∈el,OkT N e)∧bd.length≤N∧es.length≤N∧(∀ e∈bd,okS N n e) ∧ ∀ e∈es,okS N n e
def OkS (N:Nat) (d:DataW Unit):Prop:=∃ n,okS N n d
theorem okS_more {N:Nat} : ∀ (n m:Nat) (d:DataW Unit),n≤m→okS N n d→okS N m d
 | 0,_,_,_,h=>h.elim
 | n+1,0,_,hle,_=>by omega
 | n+1,m+1,d,hle,h=>by
  obtain ⟨kd,nm,pl,el,bd,es,hd,h1,h2,h3,h4,h5,h6⟩:=h
  exact ⟨kd,nm,pl,el,bd,es,hd,h1,h2,h3,h4,fun e he=>okS_more n m e (by omega) (h5 e he),fun e he=>okS_more n m e (by omega) (h6 e he)⟩
theorem okS_all {N:Nat} : ∀ el:List (DataW Unit),(∀ e∈el,OkS N e) → ∃ n,∀ e∈el,okS N n e
 | [],_=>⟨0,fun e he=>by simp at he⟩
 | x::el,h=>by
  obtain ⟨n,hn⟩:=okS_all el (fun e he=>h e (List.mem_cons_of_mem _ he))
  obtain ⟨m,hm⟩:=h x (List.mem_cons_self)
  refine ⟨max n m,fun e he => ?_⟩
  rcases List.mem_cons.1 he with rfl | he
  ·exact okS_more m _ _ (by omega) hm
  ·exact okS_more n _ _ (by omega) (hn e he)
def OkSL (N:Nat) (sl:List (DataW Unit)):Prop:=sl.length≤N ∧ ∀ e∈sl,OkS N e
def OkTL (N:Nat) (el:List (DataW Unit)):Prop:=el.length≤N ∧ ∀ e∈el,OkT N e
theorem mkOkS {N:Nat}{kd nm:ByteArray}{pl:List ByteArray}{el bd es:List (DataW Unit)}(h1:pl.length≤N) (h2:OkTL N el) (h3:OkSL N bd) (h4:OkSL N es):OkS N (mkS kd nm pl el bd es):=by
 obtain ⟨n,hn⟩:=okS_all bd h3.2
 obtain ⟨m,hm⟩:=okS_all es h4.2
 exact ⟨max n m+1,kd,nm,pl,el,bd,es,rfl,h1,h2,h3.1,h4.1,fun e he=>okS_more n _ e (by omega) (hn e he),fun e he=>okS_more m _ e (by omega) (hm e he)⟩
theorem OkTL.nil (N:Nat):OkTL N []:=⟨Nat.zero_le _,fun e he=>by simp at he⟩
theorem OkSL.nil (N:Nat):OkSL N []:=⟨Nat.zero_le _,fun e he=>by simp at he⟩
def OkSO (N:Nat) (o:Out (DataW Unit)):Prop:=∀ s k',o = .ok (s,k')→OkS N s
def OkSLO (N:Nat) (o:Out (List (DataW Unit))):Prop:=∀ s k',o = .ok (s,k')→OkSL N s
theorem OkSO.err {N:Nat}(x:Nat × Bool):OkSO N (.error x):=fun _ _ h=>by cases h
theorem OkSO.ok {N:Nat}{e:DataW Unit}{k:Nat}(h:OkS N e):OkSO N (.ok (e,k)):=fun _ _ h1=>by
 cases h1
 exact h
theorem OkSLO.err {N:Nat}(x:Nat × Bool):OkSLO N (.error x):=fun _ _ h=>by cases h
theorem OkSLO.ok {N:Nat}{e:List (DataW Unit)}{k:Nat}(h:OkSL N e):OkSLO N (.ok (e,k)):=fun _ _ h1=>by
 cases h1
 exact h
variable {l:List (ByteArray × ByteArray × Nat)}{N:Nat}
theorem sz_block {bl:Nat}{inner:Nat→Out (List (DataW Unit))}{k:Nat}(h:∀ k,OkSLO N (inner k)):OkSLO N (pBlock l bl inner k):=by
 unfold pBlock
 cases isKind l k [110,101,119,108,105,110,101] with
 | false=>exact OkSLO.err _
 | true =>
  simp only [cond_true]
  cases isKind l (k+1) [105,110,100,101,110,116] with
  | false=>exact OkSLO.err _
  | true =>
   simp only [cond_true]
   split
   ·exact OkSLO.err _
   ·cases ho:inner (k+2) with
    | error y=>exact OkSLO.err _
    | ok y =>
     obtain ⟨ss,k'⟩:=y
     simp only
     cases isKind l k' [100,101,100,101,110,116] with
     | false=>exact OkSLO.err _
     | true=>exact OkSLO.ok (h _ _ k' ho)
theorem sz_blockOf {bl:Nat}{inner:Nat→Out (List (DataW Unit))}{k:Nat}(h:∀ k,OkSLO N (inner k)):OkSLO N (pBlockOf l bl inner k):=by
 unfold pBlockOf
 cases markAt l k [colon] with
 | false=>exact OkSLO.err _
 | true=>exact sz_block h
theorem sz_while {one blk:Nat→Out (List (DataW Unit))}{k:Nat}(h1:∀ k,OkL N (one k)) (h2:∀ k,OkSLO N (blk k)):OkSO N (pWhile one blk k):=by
 unfold pWhile
 cases ho:one k with
 | error y=>exact OkSO.err _
 | ok y =>
  obtain ⟨el,k1⟩:=y
  simp only
  cases ho2:blk k1 with
  | error y=>exact OkSO.err _
  | ok y=>exact OkSO.ok (mkOkS (Nat.zero_le _) (h1 k el k1 ho) (h2 k1 _ _ ho2) (OkSL.nil N))
theorem sz_each {one blk:Nat→Out (List (DataW Unit))}{k:Nat}(h1:∀ k,OkL N (one k)) (h2:∀ k,OkSLO N (blk k)):OkSO N (pEach l one blk k):=by
 unfold pEach
 cases isKind l k [110,97,109,101] with
 | false=>exact OkSO.err _
 | true =>
  simp only [cond_true]
  cases markAt l (k+1) [kIn] with
  | false=>exact OkSO.err _
  | true =>
   simp only [cond_true]
   cases ho:one (k+2) with
   | error y=>exact OkSO.err _
   | ok y =>
    obtain ⟨el,k1⟩:=y
    simp only
    cases ho2:blk k1 with
    | error y=>exact OkSO.err _
    | ok y=>exact OkSO.ok (mkOkS (Nat.zero_le _) (h1 _ el k1 ho) (h2 k1 _ _ ho2) (OkSL.nil N))
theorem sz_attempt {blk:Nat→Out (List (DataW Unit))}{k:Nat}(h2:∀ k,OkSLO N (blk k)):OkSO N (pAttempt l blk k):=by
 unfold pAttempt
 cases ho:blk k with
 | error y=>exact OkSO.err _
 | ok y =>
  obtain ⟨ss,k1⟩:=y
  simp only
  cases markAt l k1 [kExcept] with
  | false=>exact OkSO.err _
  | true =>
   simp only [cond_true]
   cases isKind l (k1+1) [110,97,109,101] with
   | false=>exact OkSO.err _
   | true =>
    simp only [cond_true]
    cases ho2:blk (k1+2) with
    | error y=>exact OkSO.err _
    | ok y=>exact OkSO.ok (mkOkS (Nat.zero_le _) (OkTL.nil N) (h2 k _ _ ho) (h2 _ _ _ ho2))
theorem sz_choice {one blk:Nat→Out (List (DataW Unit))}(hN:4≤N) (h1:∀ k,OkL N (one k)) (h2:∀ k,OkSLO N (blk k)):∀ (f k:Nat),OkSO N (pChoice l one blk f k)
 | 0,k=>OkSO.err _
 | f+1,k=>by
  unfold pChoice
  cases ho:one k with
  | error y=>exact OkSO.err _
  | ok y =>
   obtain ⟨el,k1⟩:=y
   simp only
   cases ho2:blk k1 with
   | error y=>exact OkSO.err _
   | ok y =>
    obtain ⟨ss,k2⟩:=y
    simp only
    have e1:=h1 k el k1 ho
    have e2:=h2 k1 ss k2 ho2
    cases markAt l k2 [kElif] with
    | true =>
     simp only [cond_true]
     cases ho3:pChoice l one blk f (k2+1) with
     | error y=>exact OkSO.err _
     | ok y =>
      obtain ⟨s,k3⟩:=y
      refine OkSO.ok (mkOkS (Nat.zero_le _) e1 e2 ⟨by simp;omega,fun x hx => ?_⟩)
      simp at hx
      subst hx
      exact sz_choice hN h1 h2 f (k2+1) _ k3 ho3
    | false =>
     simp only [cond_false]
     cases markAt l k2 [kElse] with
     | true =>
      simp only [cond_true]
      cases ho3:blk (k2+1) with
      | error y=>exact OkSO.err _
      | ok y=>exact OkSO.ok (mkOkS (Nat.zero_le _) e1 e2 (h2 _ _ _ ho3))
     | false=>exact OkSO.ok (mkOkS (Nat.zero_le _) e1 e2 (OkSL.nil N))
theorem sz_func {blk:Nat→Out (List (DataW Unit))}{k:Nat}(hN:l.length+1≤N) (h2:∀ k,OkSLO N (blk k)):OkSO N (pFunc l blk k):=by
 unfold pFunc
 cases isKind l k [110,97,109,101] with
 | false=>exact OkSO.err _
 | true =>
  simp only [cond_true]
  cases markAt l (k+1) [lpar] with
  | false=>exact OkSO.err _
  | true =>
   simp only [cond_true]
   cases ho:pUpTo l (pName l) rpar l.length [] (k+2) with
   | error y=>exact OkSO.err _
   | ok y =>
    obtain ⟨names,k1⟩:=y
    simp only
    obtain ⟨j',q1,q2⟩:=pUpTo_inv (P:=fun s j=>s.length=j) (fun s k s' k' j hs h=>name_inv (l:=l) s k s' k' j hs h) (j:=0) rfl ho
    cases ho2:blk k1 with
    | error y=>exact OkSO.err _
    | ok y=>exact OkSO.ok (mkOkS (by omega) (OkTL.nil N) (h2 k1 _ _ ho2) (OkSL.nil N))
theorem parts_ok {e:DataW Unit}(h:OkT N e):OkTL N (partsOf e):=by
 obtain ⟨n,hn⟩:=h
 cases n with
 | zero=>exact hn.elim
 | succ n =>
  obtain ⟨op,z,s,pl,el,rfl,_,h2,h3⟩:=hn
  exact ⟨h2,fun e he=>⟨n,h3 e he⟩⟩
theorem sz_bare {kd nm:ByteArray} : OkS N (mkS kd nm [] [] [] []):=mkOkS (Nat.zero_le _) (OkTL.nil N) (OkSL.nil N) (OkSL.nil N)
theorem sz_terms {kd nm:ByteArray}{el:List (DataW Unit)}(h:OkTL N el):OkS N (mkS kd nm [] el [] []):=mkOkS (Nat.zero_le _) h (OkSL.nil N) (OkSL.nil N)
theorem sz_termSet {term:Nat→Out (DataW Unit)}{k:Nat}(hN:4≤N) (hix:∀ k,IxO (term k)) (h:∀ k,OkO N (term k)):OkSO N (pTermSet l term k):=by
 unfold pTermSet
 cases ho:term k with
 | error y=>exact OkSO.err _
 | ok y =>
  obtain ⟨e,k1⟩:=y
  simp only
  cases (isKind l k [110,97,109,101] && (k1 == k+1)) && markAt l k1 [kEq] with
  | true =>
   simp only [cond_true]
   cases ho1:pOne (term (k1+1)) with
   | error y=>exact OkSO.err _
   | ok y=>exact OkSO.ok (sz_terms (ok_one hN (h (k1+1)) _ _ ho1))
  | false =>
   simp only [cond_false]
   cases hi:opOf e == [105,110,100,101,120] with
   | false =>
    simp only [Bool.false_and,cond_false]
    exact OkSO.ok (sz_terms ⟨by simp;omega,fun x hx=>by simp at hx;subst hx;exact h k _ k1 ho⟩)
   | true =>
    simp only [Bool.true_and]
    cases markAt l k1 [kEq] with
    | false=>exact OkSO.ok (sz_terms ⟨by simp;omega,fun x hx=>by simp at hx;subst hx;exact h k _ k1 ho⟩)
    | true =>
     simp only [cond_true]
     cases ho1:term (k1+1) with
     | error y=>exact OkSO.err _
     | ok y =>
      obtain ⟨e2,k2⟩:=y
      have h2:=hix k e k1 ho (by simpa using hi)
      refine OkSO.ok (sz_terms ⟨by simp [h2];omega,fun x hx => ?_⟩)
      simp at hx
      rcases hx with hx | rfl
      ·exact (parts_ok (h k e k1 ho)).2 x hx
      ·exact h (k1+1) _ k2 ho1
theorem sz_line {term:Nat→Out (DataW Unit)}{one:Nat→Out (List (DataW Unit))}{tset:Nat→Out (DataW Unit)}{k:Nat}(hN:l.length+1≤N) (h0:∀ k,OkO N (term k)) (h1:∀ k,OkL N (one k)) (h2:OkSO N (tset k)):OkSO N (pLine l term one tset k):=by
 unfold pLine
 cases markAt l k [kBreak,kContinue,kPass] with
 | true=>exact OkSO.ok sz_bare
 | false =>
  simp only [cond_false]
  cases markAt l k [kGlobal,kNonlocal] with
  | true =>
   simp only [cond_true]
   cases ho:pSeveral l (pName l) l.length [] (k+1) with
   | error y=>exact OkSO.err _
   | ok y =>
    obtain ⟨names,k1⟩:=y
    obtain ⟨j',q1,q2⟩:=pSeveral_inv (P:=fun s j=>s.length=j) (fun s k s' k' j hs h=>name_inv (l:=l) s k s' k' j hs h) (j:=0) rfl ho
    exact OkSO.ok (mkOkS (by omega) (OkTL.nil N) (OkSL.nil N) (OkSL.nil N))
  | false =>
   simp only [cond_false]
   cases markAt l k [kReturn] with
   | true =>
    simp only [cond_true]
    cases isKind l (k+1) [110,101,119,108,105,110,101] with
    | true=>exact OkSO.ok sz_bare
    | false =>
     simp only [cond_false]
     cases ho:one (k+1) with
     | error y=>exact OkSO.err _
     | ok y=>exact OkSO.ok (sz_terms (h1 _ _ _ ho))
   | false =>
    simp only [cond_false]
    cases markAt l k [kRaise] with
    | true =>
     simp only [cond_true]
     cases ho:one (k+1) with
     | error y=>exact OkSO.err _
     | ok y=>exact OkSO.ok (sz_terms (h1 _ _ _ ho))
    | false =>
     simp only [cond_false]
     cases markAt l k [kDel] with
     | true =>
      simp only [cond_true]
      cases ho:term (k+1) with
      | error y=>exact OkSO.err _
      | ok y =>
       obtain ⟨e,k1⟩:=y
       simp only
       cases opOf e == [105,110,100,101,120] with
       | true=>exact OkSO.ok (sz_terms (parts_ok (h0 _ e k1 ho)))
       | false=>exact OkSO.err _
     | false=>exact h2
theorem sz_statement {a b c d e f:Nat→Out (DataW Unit)}{k:Nat}(ha:∀ k,OkSO N (a k)) (hb:∀ k,OkSO N (b k)) (hc:∀ k,OkSO N (c k)) (hd:∀ k,OkSO N (d k)) (he:∀ k,OkSO N (e k)) (hf:OkSO N (f k)):OkSO N (pStatement l a b c d e f k):=by
 unfold pStatement
 cases markAt l k [kIf] with
 | true=>exact ha _
 | false =>
  simp only [cond_false]
  cases markAt l k [kWhile] with
  | true=>exact hb _
  | false =>
   simp only [cond_false]
   cases markAt l k [kFor] with
   | true=>exact hc _
   | false =>
    simp only [cond_false]
    cases markAt l k [kDef] with
    | true=>exact hd _
    | false =>
     simp only [cond_false]
     cases markAt l k [kTry] with
     | true=>exact he _
     | false =>
      simp only [cond_false]
      cases ho:f k with
      | error y=>exact OkSO.err _
      | ok y =>
       obtain ⟨s,k1⟩:=y
       simp only
       cases isKind l k1 [110,101,119,108,105,110,101] with
       | false=>exact OkSO.err _
       | true=>exact OkSO.ok (hf s k1 ho)
theorem sz_stmts {cb:List UInt8}{stmt:Nat→Out (DataW Unit)}(h:∀ k,OkSO N (stmt k)):∀ (f:Nat) (ss:List (DataW Unit)) (k:Nat),ss.length+f≤N→(∀ s∈ss,OkS N s)→OkSLO N (pStmts l cb stmt f ss k)
 | 0,_,_,_,_=>OkSLO.err _
 | f+1,ss,k,hn,hs=>by
  unfold pStmts
  cases isKind l k cb with
  | true=>exact OkSLO.ok ⟨by omega,hs⟩
  | false =>
   simp only [cond_false]
   cases ho:stmt k with
   | error y=>exact OkSLO.err _
   | ok y =>
    obtain ⟨s,k1⟩:=y
    refine sz_stmts h f (ss ++ [s]) k1 (by simp;omega) (fun x hx => ?_)
    simp at hx
    rcases hx with hx | rfl
    ·exact hs x hx
    ·exact h k _ k1 ho
theorem stmtAt_sz (hN:2*l.length+4≤N):∀ (d k:Nat),OkSO N (pStmtAt l d k)
 | 0,k=>OkSO.err _
 | d+1,k=>by
  have H1:∀ k,OkL N (pOneAt l k):=fun k=>ok_one (by omega) (term_ok hN k)
  have H2:∀ k,OkSLO N (pBlockOf l (12 - d) (fun k'=>pStmts l dedentB.toList (pStmtAt l d) (l.length+1) [] k') k):=fun k=>sz_blockOf (fun k'=>sz_stmts (fun k=>stmtAt_sz hN d k) _ _ _ (by simp;omega) (fun s hs=>by simp at hs))
  unfold pStmtAt pStmtIn
  exact sz_statement (fun k=>sz_choice (by omega) H1 H2 _ _) (fun k=>sz_while H1 H2) (fun k=>sz_each H1 H2) (fun k=>sz_func (by omega) H2) (fun k=>sz_attempt H2) (sz_line (by omega) (fun k=>term_ok hN k) H1 (sz_termSet (by omega) (term_ix l) (fun k=>term_ok hN k)))
theorem read_sz {ss:List (DataW Unit)}{k:Nat}(hN:2*l.length+4≤N) (h:pRead l = .ok (ss,k)):OkSL N ss:=by
 unfold pRead at h
 exact sz_stmts (fun k=>stmtAt_sz hN 12 k) _ _ _ (by simp;omega) (fun s hs=>by simp at hs) ss k h
end Go.Proofs.YtemapnogjepokaaGreatDoor

/- Package tree: the strings of what is read are no longer than the tokens', the numbers fit: terms. -/
namespace Go.Proofs.YtemapnogjepokaaGreatDoor
open Go.RowKit

abbrev Fs (s:ByteArray):Prop:=s.size≤2000000
abbrev Fz (z:Int):Prop:=-9223372036854775808≤z∧z≤9223372036854775807
def zT:Nat→DataW Unit→Prop
 | 0,_=>False
 | n+1,d => ∃ (op:ByteArray) (z:Int) (s:ByteArray) (pl:List ByteArray) (el:List (DataW Unit)),d=mkE op z s pl el∧Fs op∧Fs s∧Fz z∧(∀ x∈pl,Fs x) ∧ ∀ e∈el,zT n e
def ZT (d:DataW Unit):Prop:=∃ n,zT n d
theorem zT_more:∀ (n m:Nat) (d:DataW Unit),n≤m→zT n d→zT m d
 | 0,_,_,_,h=>h.elim
 | n+1,0,_,hle,_=>by omega
 | n+1,m+1,d,hle,h=>by
  obtain ⟨op,z,s,pl,el,hd,h1,h2,h3,h4,h5⟩:=h
  exact ⟨op,z,s,pl,el,hd,h1,h2,h3,h4,fun e he=>zT_more n m e (by omega) (h5 e he)⟩
theorem zT_all:∀ el:List (DataW Unit),(∀ e∈el,ZT e) → ∃ n,∀ e∈el,zT n e
 | [],_=>⟨0,fun e he=>by simp at he⟩
 | x::el,h=>by
  obtain ⟨n,hn⟩:=zT_all el (fun e he=>h e (List.mem_cons_of_mem _ he))
  obtain ⟨m,hm⟩:=h x (List.mem_cons_self)
  refine ⟨max n m,fun e he => ?_⟩
  rcases List.mem_cons.1 he with rfl | he
  ·exact zT_more m _ _ (by omega) hm
  ·exact zT_more n _ _ (by omega) (hn e he)
theorem mkZT {op s:ByteArray}{z:Int}{pl:List ByteArray}{el:List (DataW Unit)}(h1:Fs op) (h2:Fs s) (h3:Fz z) (h4:∀ x∈pl,Fs x) (h5:∀ e∈el,ZT e):ZT (mkE op z s pl el):=by
 obtain ⟨n,hn⟩:=zT_all el h5
 exact ⟨n+1,op,z,s,pl,el,rfl,h1,h2,h3,h4,hn⟩
theorem mkZP {op:ByteArray}{el:List (DataW Unit)}(h1:Fs op) (h5:∀ e∈el,ZT e):ZT (mkE op 0 ⟨#[]⟩ [] el):=mkZT h1 (by decide) (by decide) (fun x hx=>by simp at hx) h5
def ZO (o:Out (DataW Unit)):Prop:=∀ e k',o = .ok (e,k')→ZT e
theorem ZO.err (x:Nat × Bool):ZO (.error x):=fun _ _ h=>by cases h
theorem ZO.ok {e:DataW Unit}{k:Nat}(h:ZT e):ZO (.ok (e,k)):=fun _ _ h1=>by
 cases h1
 exact h
def ZL (o:Out (List (DataW Unit))):Prop:=∀ el k',o = .ok (el,k') → ∀ e∈el,ZT e
variable {l:List (ByteArray × ByteArray × Nat)}
theorem intOf_fz (t:ByteArray):Fz (intOf t):=by
 unfold intOf
 split
 next v hv =>
  unfold Lib.parseIntB at hv
  split at hv
  ·cases hv
  ·simp only at hv
   split at hv
   ·cases hv
   ·cases hv
   next u hu =>
    split at hv
    ·cases hv
    ·split at hv
     ·cases hv
     next h1 h2 =>
      simp only [Lib.NumEnd.ok.injEq] at hv
      subst hv
      simp only [not_and,Nat.not_le,Nat.not_lt] at h1 h2
      split
      next h3 =>
       have h4:=h2 h3
       unfold Fz
       omega
      next h3 =>
       have h4:=h1 h3
       unfold Fz
       omega
 ·unfold Fz
  omega
theorem name_z (hT:∀ x∈l,Fs x.2.1) (s:List ByteArray) (k:Nat) (s':List ByteArray) (k':Nat) (hs:∀ x∈s,Fs x) (h:pName l s k = .ok (s',k')):∀ x∈s',Fs x:=by
 unfold pName at h
 split at h
 next x hx =>
  cases hm:isNameB x with
  | false =>
   rw [hm] at h
   cases h
  | true =>
   rw [hm] at h
   simp only [cond_true,Except.ok.injEq,Prod.mk.injEq] at h
   rw [←h.1]
   intro y hy
   simp at hy
   rcases hy with hy | rfl
   ·exact hs y hy
   ·exact hT x (List.mem_of_getElem? hx)
 next=>cases h
theorem z_deep {dp k:Nat}{o:Out (DataW Unit)}(h:ZO o):ZO (pDeep dp k o):=by
 unfold pDeep
 split
 ·exact ZO.err _
 ·exact h
theorem z_closed {c:ByteArray}{o:Out (DataW Unit)}(h:ZO o):ZO (pClosed l c o):=by
 unfold pClosed
 cases o with
 | error y=>exact ZO.err _
 | ok y =>
  obtain ⟨e,k'⟩:=y
  simp only
  cases hm:markAt l k' [c] with
  | true =>
   simp only [cond_true]
   exact ZO.ok (h e k' rfl)
  | false =>
   simp only [cond_false]
   exact ZO.err _
theorem z_list {op:ByteArray}{o:Out (List (DataW Unit))}(hop:Fs op) (h:ZL o):ZO (pList op o):=by
 unfold pList
 cases o with
 | error y=>exact ZO.err _
 | ok y =>
  obtain ⟨el,k'⟩:=y
  exact ZO.ok (mkZP hop (h el k' rfl))
theorem z_op {op:ByteArray}{o:Out (DataW Unit)}(hop:Fs op) (h:ZO o):ZO (pOp op o):=by
 unfold pOp
 cases o with
 | error y=>exact ZO.err _
 | ok y =>
  obtain ⟨e,k'⟩:=y
  exact ZO.ok (mkZP hop (fun x hx=>by simp at hx;subst hx;exact h _ k' rfl))
theorem z_index {e:DataW Unit}{o:Out (DataW Unit)}(he:ZT e) (h:ZO o):ZO (pIndex e o):=by
 unfold pIndex
 cases o with
 | error y=>exact ZO.err _
 | ok y =>
  obtain ⟨e2,k'⟩:=y
  refine ZO.ok (mkZP (by decide) (fun x hx => ?_))
  simp at hx
  rcases hx with rfl | rfl
  ·exact he
  ·exact h _ k' rfl
theorem z_terms {term:Nat→Out (DataW Unit)}(ht:∀ k,ZO (term k)) {c:ByteArray}{es:List (DataW Unit)}{k:Nat}(he:∀ e∈es,ZT e):ZL (pUpTo l (pTermStep term) c l.length es k):=fun el k' h=>by
 obtain ⟨j',h1,h3⟩:=pUpTo_inv (P:=fun s _ => ∀ e∈s,ZT e) (fun s k s' k' j hs h=>by
  unfold pTermStep at h
  cases ho:term k with
  | error y =>
   rw [ho] at h
   cases h
  | ok y =>
   obtain ⟨e1,k1⟩:=y
   rw [ho] at h
   simp only [Except.ok.injEq,Prod.mk.injEq] at h
   rw [←h.1]
   intro x hx
   simp at hx
   rcases hx with hx | rfl
   ·exact hs x hx
   ·exact ht k _ k1 ho) (j:=0) he h
 exact h3
theorem z_pairs {term:Nat→Out (DataW Unit)}(ht:∀ k,ZO (term k)) {c:ByteArray}{k:Nat} : ZL (pUpTo l (pPairStep l term) c l.length [] k):=fun el k' h=>by
 obtain ⟨j',h1,h3⟩:=pUpTo_inv (P:=fun s _ => ∀ e∈s,ZT e) (fun s k s' k' j hs h=>by
  unfold pPairStep at h
  have hc:=z_closed (l:=l) (c:=colon) (ht k)
  cases ho:pClosed l colon (term k) with
  | error y =>
   rw [ho] at h
   cases h
  | ok y =>
   obtain ⟨e1,k1⟩:=y
   rw [ho] at h
   simp only at h
   cases ho2:term k1 with
   | error y =>
    rw [ho2] at h
    cases h
   | ok y =>
    obtain ⟨e2,k2⟩:=y
    rw [ho2] at h
    simp only [Except.ok.injEq,Prod.mk.injEq] at h
    rw [←h.1]
    intro x hx
    simp at hx
    rcases hx with hx | rfl | rfl
    ·exact hs x hx
    ·exact hc _ k1 ho
    ·exact ht k1 _ k2 ho2) (j:=0) (fun e he=>by simp at he) h
 exact h3
theorem z_postOn {dp:Nat}{term:Nat→Out (DataW Unit)}(ht:∀ k,ZO (term k)):∀ (f:Nat) (e:DataW Unit) (k:Nat),ZT e→ZO (pPostOn l dp term f e k)
 | 0,e,k,_=>ZO.err _
 | f+1,e,k,he=>by
  unfold pPostOn
  cases hm:markAt l k [lpar] with
  | true =>
   simp only [cond_true]
   have H:=z_deep (dp:=dp) (k:=k) (z_list (op:=kCall) (by decide) (z_terms (l:=l) ht (c:=rpar) (es:=[e]) (k:=k+1) (fun x hx=>by simp at hx;subst hx;exact he)))
   revert H
   generalize pDeep dp k (pList kCall (pUpTo l (pTermStep term) rpar l.length [e] (k+1)))=o
   intro H
   cases o with
   | error y=>exact ZO.err _
   | ok y=>exact z_postOn ht f _ _ (H _ _ rfl)
  | false =>
   simp only [cond_false]
   cases hm2:markAt l k [lbrk] with
   | true =>
    simp only [cond_true]
    have H:=z_deep (dp:=dp) (k:=k) (z_index he (z_closed (l:=l) (c:=rbrk) (ht (k+1))))
    revert H
    generalize pDeep dp k (pIndex e (pClosed l rbrk (term (k+1))))=o
    intro H
    cases o with
    | error y=>exact ZO.err _
    | ok y=>exact z_postOn ht f _ _ (H _ _ rfl)
   | false =>
    simp only [cond_false]
    exact ZO.ok he
theorem z_sidesOn (hT:∀ x∈l,Fs x.2.1) {rank:Nat}{sub:Nat→Out (DataW Unit)}(ht:∀ k,ZO (sub k)):∀ (f:Nat) (e:DataW Unit) (k:Nat),ZT e→ZO (pSidesOn l rank sub f e k)
 | 0,e,k,h=>ZO.ok h
 | f+1,e,k,h=>by
  unfold pSidesOn
  cases hx:l[k]? with
  | none=>exact ZO.ok h
  | some x =>
   simp only
   cases hm:markB x (rankOps rank) with
   | true =>
    simp only [cond_true]
    cases ho:sub (k+1) with
    | error y=>exact ZO.err _
    | ok y =>
     obtain ⟨e2,k2⟩:=y
     have h2:ZT (mkE x.2.1 0 ⟨#[]⟩ [] [e,e2]):=mkZP (hT x (List.mem_of_getElem? hx)) (fun z hz=>by
      simp at hz
      rcases hz with rfl | rfl
      ·exact h
      ·exact ht (k+1) _ k2 ho)
     simp only
     cases hr:rank == 4 with
     | true =>
      simp only [cond_true]
      exact ZO.ok h2
     | false =>
      simp only [cond_false]
      exact z_sidesOn hT ht f _ _ h2
   | false =>
    simp only [cond_false]
    exact ZO.ok h
theorem z_leaf {op s:ByteArray}{z:Int}(h1:Fs op) (h2:Fs s) (h3:Fz z):ZT (mkE op z s [] []):=mkZT h1 h2 h3 (fun x hx=>by simp at hx) (fun e he=>by simp at he)
theorem kind_fs {x:ByteArray × ByteArray × Nat}(h:(isStrB x || isNameB x)=true):Fs x.1:=by
 unfold Fs
 rw [Bool.or_eq_true] at h
 unfold isStrB isNameB at h
 rw [ByteArray.toList_eq,beq_iff_eq,beq_iff_eq] at h
 have e:x.1.size=x.1.data.toList.length:=by rw [Array.length_toList];rfl
 rcases h with h | h <;> rw [e,h] <;> decide
theorem z_atom (hT:∀ x∈l,Fs x.2.1) {dp:Nat}{term:Nat→Out (DataW Unit)}{terms pairs:Nat→Out (List (DataW Unit))}{k:Nat}(h:ZO (term (k+1))) (h1:ZL (terms (k+1))) (h2:ZL (pairs (k+1))):ZO (pAtom l dp term terms pairs k):=by
 unfold pAtom
 cases hx:l[k]? with
 | none=>exact ZO.err _
 | some x =>
  have ht:=hT x (List.mem_of_getElem? hx)
  simp only
  cases isIntB x with
  | true=>exact ZO.ok (z_leaf (by decide) (by decide) (intOf_fz _))
  | false =>
   simp only [cond_false]
   cases hk:isStrB x || isNameB x with
   | true=>exact ZO.ok (z_leaf (kind_fs hk) ht (by decide))
   | false =>
    simp only [cond_false]
    cases markB x [kNone,kTrue,kFalse] with
    | true=>exact ZO.ok (z_leaf ht (by decide) (by decide))
    | false =>
     simp only [cond_false]
     cases markB x [lpar] with
     | true=>exact z_deep (z_closed h)
     | false =>
      simp only [cond_false]
      cases markB x [lbrk] with
      | true=>exact z_deep (z_list (by decide) h1)
      | false =>
       simp only [cond_false]
       cases markB x [lbrc] with
       | true=>exact z_deep (z_list (by decide) h2)
       | false=>exact ZO.err _
theorem z_ahead {m:ByteArray}{k dp:Nat}{o1 o2:Out (DataW Unit)}(h1:ZO o1) (h2:ZO o2):ZO (pAhead l m k dp o1 o2):=by
 unfold pAhead
 cases hm:markAt l k [m] with
 | true =>
  simp only [cond_true]
  split
  ·exact ZO.err _
  ·exact h2
 | false =>
  simp only [cond_false]
  exact h1
theorem z_lambda (hT:∀ x∈l,Fs x.2.1) {one:Nat→Out (List (DataW Unit))}{k:Nat}(h1:∀ k,ZL (one k)):ZO (pLambda l one k):=by
 unfold pLambda
 cases ho:pUpTo l (pName l) colon l.length [] k with
 | error y=>exact ZO.err _
 | ok y =>
  obtain ⟨names,k1⟩:=y
  simp only
  obtain ⟨j',q1,q2⟩:=pUpTo_inv (P:=fun s _ => ∀ x∈s,Fs x) (fun s k s' k' j hs h=>name_z (l:=l) hT s k s' k' hs h) (j:=0) (fun x hx=>by simp at hx) ho
  cases ho1:one k1 with
  | error y=>exact ZO.err _
  | ok y =>
   obtain ⟨el,k2⟩:=y
   exact ZO.ok (mkZT (by decide) (by decide) (by decide) q2 (h1 k1 el k2 ho1))
theorem z_one {o:Out (DataW Unit)}(h:ZO o):ZL (pOne o):=fun el k' h1=>by
 unfold pOne at h1
 cases o with
 | error y=>cases h1
 | ok y =>
  obtain ⟨e,k1⟩:=y
  simp only [Except.ok.injEq,Prod.mk.injEq] at h1
  rw [←h1.1]
  exact fun x hx=>by simp at hx;subst hx;exact h _ k1 rfl
theorem ranked_z (hT:∀ x∈l,Fs x.2.1):∀ (f dp rank k:Nat),ZO (pRanked l f dp rank k)
 | 0,dp,rank,k=>ZO.err _
 | f+1,dp,rank,k=>by
  unfold pRanked
  split
  ·exact z_ahead (ranked_z hT f dp 1 k) (z_lambda hT (fun k1=>z_one (ranked_z hT f (dp+1) 0 k1)))
  ·split
   ·exact z_ahead (ranked_z hT f dp 4 k) (z_op (by decide) (ranked_z hT f (dp+1) 3 (k+1)))
   ·split
    ·exact z_ahead (ranked_z hT f dp 8 k) (z_op (by decide) (ranked_z hT f (dp+1) 7 (k+1)))
    ·split
     ·unfold pPost
      have H:=z_atom (l:=l) hT (dp:=dp) (term:=pRanked l f (dp+1) 0) (terms:=fun k1=>pUpTo l (pTermStep (pRanked l f (dp+1) 0)) rbrk l.length [] k1) (pairs:=fun k1=>pUpTo l (pPairStep l (pRanked l f (dp+1) 0)) rbrc l.length [] k1) (k:=k) (ranked_z hT f (dp+1) 0 (k+1)) (z_terms (fun k=>ranked_z hT f (dp+1) 0 k) (fun e he=>by simp at he)) (z_pairs (fun k=>ranked_z hT f (dp+1) 0 k))
      revert H
      generalize pAtom l dp (pRanked l f (dp+1) 0) (fun k1=>pUpTo l (pTermStep (pRanked l f (dp+1) 0)) rbrk l.length [] k1) (fun k1=>pUpTo l (pPairStep l (pRanked l f (dp+1) 0)) rbrc l.length [] k1) k=o
      intro H
      cases o with
      | error y=>exact ZO.err _
      | ok y=>exact z_postOn (fun k=>ranked_z hT f (dp+1) 0 k) _ _ _ (H _ _ rfl)
     ·unfold pSides
      have H:=ranked_z hT f dp (rank+1) k
      revert H
      generalize pRanked l f dp (rank+1) k=o
      intro H
      cases o with
      | error y=>exact ZO.err _
      | ok y=>exact z_sidesOn hT (fun k=>ranked_z hT f dp (rank+1) k) _ _ _ (H _ _ rfl)
theorem term_z (hT:∀ x∈l,Fs x.2.1) (k:Nat):ZO (pTerm l k):=ranked_z hT _ _ _ _
end Go.Proofs.YtemapnogjepokaaGreatDoor

/- Package tree: the strings of what is read are no longer than the tokens', the numbers fit: statements, and how deep they are. -/
namespace Go.Proofs.YtemapnogjepokaaGreatDoor
open Go.RowKit

def zS:Nat→DataW Unit→Prop
 | 0,_=>False
 | n+1,d => ∃ (kd nm:ByteArray) (pl:List ByteArray) (el bd es:List (DataW Unit)),d=mkS kd nm pl el bd es∧Fs kd∧Fs nm∧(∀ x∈pl,Fs x)∧(∀ e∈el,ZT e)∧(∀ e∈bd,zS n e) ∧ ∀ e∈es,zS n e
theorem zS_more:∀ (n m:Nat) (d:DataW Unit),n≤m→zS n d→zS m d
 | 0,_,_,_,h=>h.elim
 | n+1,0,_,hle,_=>by omega
 | n+1,m+1,d,hle,h=>by
  obtain ⟨kd,nm,pl,el,bd,es,hd,h1,h2,h3,h4,h5,h6⟩:=h
  exact ⟨kd,nm,pl,el,bd,es,hd,h1,h2,h3,h4,fun e he=>zS_more n m e (by omega) (h5 e he),fun e he=>zS_more n m e (by omega) (h6 e he)⟩
def ZSL (D:Nat) (sl:List (DataW Unit)):Prop:=∀ e∈sl,zS D e
theorem ZSL.nil (D:Nat):ZSL D []:=fun e he=>by simp at he
def ZTL (el:List (DataW Unit)):Prop:=∀ e∈el,ZT e
theorem ZTL.nil:ZTL []:=fun e he=>by simp at he
def ZNL (pl:List ByteArray):Prop:=∀ x∈pl,Fs x
theorem ZNL.nil:ZNL []:=fun e he=>by simp at he
theorem mkZS {D:Nat}{kd nm:ByteArray}{pl:List ByteArray}{el bd es:List (DataW Unit)}(h1:Fs kd) (h2:Fs nm) (h3:ZNL pl) (h4:ZTL el) (h5:ZSL D bd) (h6:ZSL D es):zS (D+1) (mkS kd nm pl el bd es):=⟨kd,nm,pl,el,bd,es,rfl,h1,h2,h3,h4,h5,h6⟩
def ZSO (D:Nat) (o:Out (DataW Unit)):Prop:=∀ s k',o = .ok (s,k')→zS D s
def ZSLO (D:Nat) (o:Out (List (DataW Unit))):Prop:=∀ s k',o = .ok (s,k')→ZSL D s
theorem ZSO.err {D:Nat}(x:Nat × Bool):ZSO D (.error x):=fun _ _ h=>by cases h
theorem ZSO.ok {D:Nat}{e:DataW Unit}{k:Nat}(h:zS D e):ZSO D (.ok (e,k)):=fun _ _ h1=>by
 cases h1
 exact h
theorem ZSO.more {D D':Nat}{o:Out (DataW Unit)}(h:ZSO D o) (hd:D≤D'):ZSO D' o:=fun s k e=>zS_more D D' s hd (h s k e)
theorem ZSLO.err {D:Nat}(x:Nat × Bool):ZSLO D (.error x):=fun _ _ h=>by cases h
theorem ZSLO.ok {D:Nat}{e:List (DataW Unit)}{k:Nat}(h:ZSL D e):ZSLO D (.ok (e,k)):=fun _ _ h1=>by
 cases h1
 exact h
variable {l:List (ByteArray × ByteArray × Nat)}{D:Nat}
theorem txt_fs (hT:∀ x∈l,Fs x.2.1) (k:Nat):Fs (txtAt l k):=by
 unfold txtAt
 cases hx:l[k]? with
 | none=>decide
 | some x=>exact hT x (List.mem_of_getElem? hx)
theorem zs_block {bl:Nat}{inner:Nat→Out (List (DataW Unit))}{k:Nat}(h:∀ k,ZSLO D (inner k)):ZSLO D (pBlock l bl inner k):=by
 unfold pBlock
 cases isKind l k [110,101,119,108,105,110,101] with
 | false=>exact ZSLO.err _
 | true =>
  simp only [cond_true]
  cases isKind l (k+1) [105,110,100,101,110,116] with
  | false=>exact ZSLO.err _
  | true =>
   simp only [cond_true]
   split
   ·exact ZSLO.err _
   ·cases ho:inner (k+2) with
    | error y=>exact ZSLO.err _
    | ok y =>
     obtain ⟨ss,k'⟩:=y
     simp only
     cases isKind l k' [100,101,100,101,110,116] with
     | false=>exact ZSLO.err _
     | true=>exact ZSLO.ok (h _ _ k' ho)
theorem zs_blockOf {bl:Nat}{inner:Nat→Out (List (DataW Unit))}{k:Nat}(h:∀ k,ZSLO D (inner k)):ZSLO D (pBlockOf l bl inner k):=by
 unfold pBlockOf
 cases markAt l k [colon] with
 | false=>exact ZSLO.err _
 | true=>exact zs_block h
theorem zs_while {one blk:Nat→Out (List (DataW Unit))}{k:Nat}(h1:∀ k,ZL (one k)) (h2:∀ k,ZSLO D (blk k)):ZSO (D+1) (pWhile one blk k):=by
 unfold pWhile
 cases ho:one k with
 | error y=>exact ZSO.err _
 | ok y =>
  obtain ⟨el,k1⟩:=y
  simp only
  cases ho2:blk k1 with
  | error y=>exact ZSO.err _
  | ok y=>exact ZSO.ok (mkZS (by decide) (by decide) ZNL.nil (h1 k el k1 ho) (h2 k1 _ _ ho2) (ZSL.nil D))
theorem zs_each (hT:∀ x∈l,Fs x.2.1) {one blk:Nat→Out (List (DataW Unit))}{k:Nat}(h1:∀ k,ZL (one k)) (h2:∀ k,ZSLO D (blk k)):ZSO (D+1) (pEach l one blk k):=by
 unfold pEach
 cases isKind l k [110,97,109,101] with
 | false=>exact ZSO.err _
 | true =>
  simp only [cond_true]
  cases markAt l (k+1) [kIn] with
  | false=>exact ZSO.err _
  | true =>
   simp only [cond_true]
   cases ho:one (k+2) with
   | error y=>exact ZSO.err _
   | ok y =>
    obtain ⟨el,k1⟩:=y
    simp only
    cases ho2:blk k1 with
    | error y=>exact ZSO.err _
    | ok y=>exact ZSO.ok (mkZS (by decide) (txt_fs hT _) ZNL.nil (h1 _ el k1 ho) (h2 k1 _ _ ho2) (ZSL.nil D))
theorem zs_attempt (hT:∀ x∈l,Fs x.2.1) {blk:Nat→Out (List (DataW Unit))}{k:Nat}(h2:∀ k,ZSLO D (blk k)):ZSO (D+1) (pAttempt l blk k):=by
 unfold pAttempt
 cases ho:blk k with
 | error y=>exact ZSO.err _
 | ok y =>
  obtain ⟨ss,k1⟩:=y
  simp only
  cases markAt l k1 [kExcept] with
  | false=>exact ZSO.err _
  | true =>
   simp only [cond_true]
   cases isKind l (k1+1) [110,97,109,101] with
   | false=>exact ZSO.err _
   | true =>
    simp only [cond_true]
    cases ho2:blk (k1+2) with
    | error y=>exact ZSO.err _
    | ok y=>exact ZSO.ok (mkZS (by decide) (txt_fs hT _) ZNL.nil ZTL.nil (h2 k _ _ ho) (h2 _ _ _ ho2))
theorem zs_choice {one blk:Nat→Out (List (DataW Unit))}(h1:∀ k,ZL (one k)) (h2:∀ k,ZSLO D (blk k)):∀ (f k:Nat),ZSO (D+f) (pChoice l one blk f k)
 | 0,k=>ZSO.err _
 | f+1,k=>by
  unfold pChoice
  cases ho:one k with
  | error y=>exact ZSO.err _
  | ok y =>
   obtain ⟨el,k1⟩:=y
   simp only
   cases ho2:blk k1 with
   | error y=>exact ZSO.err _
   | ok y =>
    obtain ⟨ss,k2⟩:=y
    simp only
    have e1:=h1 k el k1 ho
    have e2:ZSL (D+f) ss:=fun s hs=>zS_more D _ s (by omega) (h2 k1 ss k2 ho2 s hs)
    cases markAt l k2 [kElif] with
    | true =>
     simp only [cond_true]
     cases ho3:pChoice l one blk f (k2+1) with
     | error y=>exact ZSO.err _
     | ok y =>
      obtain ⟨s,k3⟩:=y
      refine ZSO.ok (mkZS (D:=D+f) (by decide) (by decide) ZNL.nil e1 e2 (fun x hx => ?_))
      simp at hx
      subst hx
      exact zs_choice h1 h2 f (k2+1) _ k3 ho3
    | false =>
     simp only [cond_false]
     cases markAt l k2 [kElse] with
     | true =>
      simp only [cond_true]
      cases ho3:blk (k2+1) with
      | error y=>exact ZSO.err _
      | ok y=>exact ZSO.ok (mkZS (D:=D+f) (by decide) (by decide) ZNL.nil e1 e2 (fun s hs=>zS_more D _ s (by omega) (h2 _ _ _ ho3 s hs)))
     | false=>exact ZSO.ok (mkZS (D:=D+f) (by decide) (by decide) ZNL.nil e1 e2 (ZSL.nil _))
theorem names_z (hT:∀ x∈l,Fs x.2.1) {c:ByteArray}{k:Nat}{names:List ByteArray}{k1:Nat}(ho:pUpTo l (pName l) c l.length [] k = .ok (names,k1)):ZNL names:=by
 obtain ⟨j',q1,q2⟩:=pUpTo_inv (P:=fun s _ => ∀ x∈s,Fs x) (fun s k s' k' j hs h=>name_z (l:=l) hT s k s' k' hs h) (j:=0) (fun x hx=>by simp at hx) ho
 exact q2
theorem zs_func (hT:∀ x∈l,Fs x.2.1) {blk:Nat→Out (List (DataW Unit))}{k:Nat}(h2:∀ k,ZSLO D (blk k)):ZSO (D+1) (pFunc l blk k):=by
 unfold pFunc
 cases isKind l k [110,97,109,101] with
 | false=>exact ZSO.err _
 | true =>
  simp only [cond_true]
  cases markAt l (k+1) [lpar] with
  | false=>exact ZSO.err _
  | true =>
   simp only [cond_true]
   cases ho:pUpTo l (pName l) rpar l.length [] (k+2) with
   | error y=>exact ZSO.err _
   | ok y =>
    obtain ⟨names,k1⟩:=y
    simp only
    cases ho2:blk k1 with
    | error y=>exact ZSO.err _
    | ok y=>exact ZSO.ok (mkZS (by decide) (txt_fs hT _) (names_z hT ho) ZTL.nil (h2 k1 _ _ ho2) (ZSL.nil D))
theorem parts_z {e:DataW Unit}(h:ZT e):ZTL (partsOf e):=by
 obtain ⟨n,hn⟩:=h
 cases n with
 | zero=>exact hn.elim
 | succ n =>
  obtain ⟨op,z,s,pl,el,rfl,_,_,_,_,h3⟩:=hn
  exact fun e he=>⟨n,h3 e he⟩
theorem zs_bare {kd nm:ByteArray}(h1:Fs kd) (h2:Fs nm):zS (D+1) (mkS kd nm [] [] [] []):=mkZS h1 h2 ZNL.nil ZTL.nil (ZSL.nil D) (ZSL.nil D)
theorem zs_terms {kd nm:ByteArray}{el:List (DataW Unit)}(h1:Fs kd) (h2:Fs nm) (h:ZTL el):zS (D+1) (mkS kd nm [] el [] []):=mkZS h1 h2 ZNL.nil h (ZSL.nil D) (ZSL.nil D)
theorem zs_termSet (hT:∀ x∈l,Fs x.2.1) {term:Nat→Out (DataW Unit)}{k:Nat}(h:∀ k,ZO (term k)):ZSO (D+1) (pTermSet l term k):=by
 unfold pTermSet
 cases ho:term k with
 | error y=>exact ZSO.err _
 | ok y =>
  obtain ⟨e,k1⟩:=y
  simp only
  cases (isKind l k [110,97,109,101] && (k1 == k+1)) && markAt l k1 [kEq] with
  | true =>
   simp only [cond_true]
   cases ho1:pOne (term (k1+1)) with
   | error y=>exact ZSO.err _
   | ok y=>exact ZSO.ok (zs_terms (by decide) (txt_fs hT _) (z_one (h (k1+1)) _ _ ho1))
  | false =>
   simp only [cond_false]
   cases hi:opOf e == [105,110,100,101,120] with
   | false =>
    simp only [Bool.false_and,cond_false]
    exact ZSO.ok (zs_terms (by decide) (by decide) (fun x hx=>by simp at hx;subst hx;exact h k _ k1 ho))
   | true =>
    simp only [Bool.true_and]
    cases markAt l k1 [kEq] with
    | false=>exact ZSO.ok (zs_terms (by decide) (by decide) (fun x hx=>by simp at hx;subst hx;exact h k _ k1 ho))
    | true =>
     simp only [cond_true]
     cases ho1:term (k1+1) with
     | error y=>exact ZSO.err _
     | ok y =>
      obtain ⟨e2,k2⟩:=y
      refine ZSO.ok (zs_terms (by decide) (by decide) (fun x hx => ?_))
      simp at hx
      rcases hx with hx | rfl
      ·exact parts_z (h k e k1 ho) x hx
      ·exact h (k1+1) _ k2 ho1
theorem zs_line (hT:∀ x∈l,Fs x.2.1) {term:Nat→Out (DataW Unit)}{one:Nat→Out (List (DataW Unit))}{tset:Nat→Out (DataW Unit)}{k:Nat}(h0:∀ k,ZO (term k)) (h1:∀ k,ZL (one k)) (h2:ZSO (D+1) (tset k)):ZSO (D+1) (pLine l term one tset k):=by
 have ht:=txt_fs hT k
 unfold pLine
 cases markAt l k [kBreak,kContinue,kPass] with
 | true=>exact ZSO.ok (zs_bare ht (by decide))
 | false =>
  simp only [cond_false]
  cases markAt l k [kGlobal,kNonlocal] with
  | true =>
   simp only [cond_true]
   cases ho:pSeveral l (pName l) l.length [] (k+1) with
   | error y=>exact ZSO.err _
   | ok y =>
    obtain ⟨names,k1⟩:=y
    obtain ⟨j',q1,q2⟩:=pSeveral_inv (P:=fun s _ => ∀ x∈s,Fs x) (fun s k s' k' j hs h=>name_z (l:=l) hT s k s' k' hs h) (j:=0) (fun x hx=>by simp at hx) ho
    exact ZSO.ok (mkZS ht (by decide) q2 ZTL.nil (ZSL.nil D) (ZSL.nil D))
  | false =>
   simp only [cond_false]
   cases markAt l k [kReturn] with
   | true =>
    simp only [cond_true]
    cases isKind l (k+1) [110,101,119,108,105,110,101] with
    | true=>exact ZSO.ok (zs_bare ht (by decide))
    | false =>
     simp only [cond_false]
     cases ho:one (k+1) with
     | error y=>exact ZSO.err _
     | ok y=>exact ZSO.ok (zs_terms ht (by decide) (h1 _ _ _ ho))
   | false =>
    simp only [cond_false]
    cases markAt l k [kRaise] with
    | true =>
     simp only [cond_true]
     cases ho:one (k+1) with
     | error y=>exact ZSO.err _
     | ok y=>exact ZSO.ok (zs_terms ht (by decide) (h1 _ _ _ ho))
    | false =>
     simp only [cond_false]
     cases markAt l k [kDel] with
     | true =>
      simp only [cond_true]
      cases ho:term (k+1) with
      | error y=>exact ZSO.err _
      | ok y =>
       obtain ⟨e,k1⟩:=y
       simp only
       cases opOf e == [105,110,100,101,120] with
       | true=>exact ZSO.ok (zs_terms ht (by decide) (parts_z (h0 _ e k1 ho)))
       | false=>exact ZSO.err _
     | false=>exact h2
theorem zs_statement {a b c d e f:Nat→Out (DataW Unit)}{k:Nat}(ha:∀ k,ZSO D (a k)) (hb:∀ k,ZSO D (b k)) (hc:∀ k,ZSO D (c k)) (hd:∀ k,ZSO D (d k)) (he:∀ k,ZSO D (e k)) (hf:ZSO D (f k)):ZSO D (pStatement l a b c d e f k):=by
 unfold pStatement
 cases markAt l k [kIf] with
 | true=>exact ha _
 | false =>
  simp only [cond_false]
  cases markAt l k [kWhile] with
  | true=>exact hb _
  | false =>
   simp only [cond_false]
   cases markAt l k [kFor] with
   | true=>exact hc _
   | false =>
    simp only [cond_false]
    cases markAt l k [kDef] with
    | true=>exact hd _
    | false =>
     simp only [cond_false]
     cases markAt l k [kTry] with
     | true=>exact he _
     | false =>
      simp only [cond_false]
      cases ho:f k with
      | error y=>exact ZSO.err _
      | ok y =>
       obtain ⟨s,k1⟩:=y
       simp only
       cases isKind l k1 [110,101,119,108,105,110,101] with
       | false=>exact ZSO.err _
       | true=>exact ZSO.ok (hf s k1 ho)
theorem zs_stmts {cb:List UInt8}{stmt:Nat→Out (DataW Unit)}(h:∀ k,ZSO D (stmt k)):∀ (f:Nat) (ss:List (DataW Unit)) (k:Nat),ZSL D ss→ZSLO D (pStmts l cb stmt f ss k)
 | 0,_,_,_=>ZSLO.err _
 | f+1,ss,k,hs=>by
  unfold pStmts
  cases isKind l k cb with
  | true=>exact ZSLO.ok hs
  | false =>
   simp only [cond_false]
   cases ho:stmt k with
   | error y=>exact ZSLO.err _
   | ok y =>
    obtain ⟨s,k1⟩:=y
    refine zs_stmts h f (ss ++ [s]) k1 (fun x hx => ?_)
    simp at hx
    rcases hx with hx | rfl
    ·exact hs x hx
    ·exact h k _ k1 ho
theorem stmtAt_z (hT:∀ x∈l,Fs x.2.1):∀ (d k:Nat),ZSO (d*(l.length+1)) (pStmtAt l d k)
 | 0,k=>ZSO.err _
 | d+1,k=>by
  have H1:∀ k,ZL (pOneAt l k):=fun k=>z_one (term_z hT k)
  have H2:∀ k,ZSLO (d*(l.length+1)) (pBlockOf l (12 - d) (fun k'=>pStmts l dedentB.toList (pStmtAt l d) (l.length+1) [] k') k):=fun k=>zs_blockOf (fun k'=>zs_stmts (fun k=>stmtAt_z hT d k) _ _ _ (ZSL.nil _))
  have e:(d+1)*(l.length+1)=d*(l.length+1)+(l.length+1):=Nat.succ_mul _ _
  unfold pStmtAt pStmtIn
  rw [e]
  exact zs_statement (fun k=>(zs_choice H1 H2 _ _).more (by omega)) (fun k=>(zs_while H1 H2).more (by omega)) (fun k=>(zs_each hT H1 H2).more (by omega)) (fun k=>(zs_func hT H2).more (by omega)) (fun k=>(zs_attempt hT H2).more (by omega)) ((zs_line (D:=d*(l.length+1)) hT (fun k=>term_z hT k) H1 (zs_termSet hT (fun k=>term_z hT k))).more (by omega))
theorem read_z {ss:List (DataW Unit)}{k:Nat}(hT:∀ x∈l,Fs x.2.1) (h:pRead l = .ok (ss,k)):ZSL (12*(l.length+1)) ss:=by
 unfold pRead at h
 exact zs_stmts (fun k=>stmtAt_z hT 12 k) _ _ _ (ZSL.nil _) ss k h
end Go.Proofs.YtemapnogjepokaaGreatDoor

/- Terms of which the data are the same are the same. -/
namespace Go.Proofs.YtemapnogjepokaaGreatDoor
open Go.RowKit

theorem below_drewN {B:Nat}{a w:World}(n:Nat) (h:Below B a w):Below B a (w.drewN n):=⟨h.os,h.tape,h.output,h.size,h.block⟩
theorem lits_inj:∀ {a b:List ByteArray},(a.map fun x=>(DataW.lit (.string x.data.toList):DataW Unit))=b.map (fun x=>.lit (.string x.data.toList))→a=b
 | [],[],_=>rfl
 | [],_::_,h=>by cases h
 | _::_,[],h=>by cases h
 | x::a,y::b,h=>by
  simp only [List.map_cons,List.cons.injEq] at h
  obtain ⟨h1,h2⟩:=h
  have h3:x.data.toList=y.data.toList:=by injection h1 with h1;injection h1
  rw [lits_inj h2,bytes_inj (a:=x) (b:=y) (by rw [toList_data,toList_data];exact h3)]
theorem mkE_inj {op op' s s':ByteArray}{z z':Int}{pl pl':List ByteArray}{el el':List (DataW Unit)}(h:mkE op z s pl el=mkE op' z' s' pl' el'):op=op'∧z=z'∧s=s'∧pl=pl'∧el=el':=by
 unfold mkE at h
 injection h with h
 simp only [List.cons.injEq,and_true] at h
 obtain ⟨h1,h2,h3,h4,h5⟩:=h
 refine ⟨bytes_inj ?_,?_,bytes_inj ?_,?_,?_⟩
 ·rw [toList_data,toList_data]
  injection h1 with h1
  injection h1
 ·injection h2 with h2
  injection h2
 ·rw [toList_data,toList_data]
  injection h3 with h3
  injection h3
 ·injection h4 with h4
  exact lits_inj h4
 ·injection h5 with h5
end Go.Proofs.YtemapnogjepokaaGreatDoor

/- Statements of which the data are the same are the same. -/
namespace Go.Proofs.YtemapnogjepokaaGreatDoor
open Go.RowKit

theorem mkS_inj {kd kd' nm nm':ByteArray}{pl pl':List ByteArray}{el el' bd bd' es es':List (DataW Unit)}(h:mkS kd nm pl el bd es=mkS kd' nm' pl' el' bd' es'):kd=kd'∧nm=nm'∧pl=pl'∧el=el'∧bd=bd'∧es=es':=by
 unfold mkS at h
 injection h with h
 simp only [List.cons.injEq,and_true] at h
 obtain ⟨h1,h2,h3,h4,h5,h6⟩:=h
 refine ⟨bytes_inj ?_,bytes_inj ?_,?_,?_,?_,?_⟩
 ·rw [toList_data,toList_data]
  injection h1 with h1
  injection h1
 ·rw [toList_data,toList_data]
  injection h2 with h2
  injection h2
 ·injection h3 with h3
  exact lits_inj h3
 ·injection h4 with h4
 ·injection h5 with h5
 ·injection h6 with h6
end Go.Proofs.YtemapnogjepokaaGreatDoor

/- Package scope: terms. -/
namespace Go.Proofs.YtemapnogjepokaaGreatDoor
open Go.RowKit Go.Maps

abbrev costs (l:List (DataW Unit)):Nat:=Rows.uptoBulkAll l
theorem costs_app:∀ (l m:List (DataW Unit)),costs (l++m)=costs l+costs m
 | [],m=>by simp [costs,Rows.uptoBulkAll]
 | x::l,m=>by
  have:=costs_app l m
  simp only [costs,List.cons_append,Rows.uptoBulkAll] at *
  omega
theorem costs_take {l:List (DataW Unit)}{j:Nat}{e:DataW Unit}(he:l[j]?=some e):costs (l.take (j+1))=costs (l.take j)+Rows.uptoBulk e:=by
 rw [List.take_add_one,he,costs_app]
 simp [costs,Rows.uptoBulkAll]
theorem costs_le (l:List (DataW Unit)) (j:Nat):costs (l.take j)≤costs l:=by
 conv=>rhs;rw [←List.take_append_drop j l,costs_app]
 omega
theorem names_len:∀ pl:List ByteArray,pl.length≤Rows.uptoBulkAll (pl.map fun x=>(DataW.lit (.string x.data.toList):DataW Unit))
 | []=>by simp
 | x::l=>by
  have:=names_len l
  simp only [List.map_cons,Rows.uptoBulkAll,Rows.uptoBulk,List.length_cons]
  omega
theorem cost_mkE (op s:ByteArray) (z:Int) (pl:List ByteArray) (el:List (DataW Unit)):costs el+pl.length+4≤Rows.uptoBulk (mkE op z s pl el):=by
 have:=names_len pl
 simp only [mkE,Rows.uptoBulk,Rows.uptoBulkAll]
 simp only [costs]
 omega
theorem FS.no {B p c:Nat}{l:List SD}{w:World}{x:SD}(h:FS B p c l w) (hx:SpAt B w x) {g cap:Nat}(h0:w.cell? ⟨p,0,none⟩=some (.slice (some ⟨g,0,none⟩) l.length cap)):¬ x.has g ∧ ¬ x.has p:=by
 obtain ⟨vs,bg,wr,vc,cl,h1,h2,_⟩:=h.blk
 obtain rfl:vs = .slice (some ⟨g,0,none⟩) l.length cap:=by
  have:=(fin_cells h1).1
  rw [h0] at this
  simpa using this.symm
 obtain ⟨_,cur,e⟩:=row_block h2 (g:=g) rfl
 exact ⟨sp_types hx e (by decide) (by decide),sp_types hx h1 (by decide) (by decide)⟩
def TmS (n:Nat):Prop:=∀ (B p c:Nat) (l:List SD) (w:World),FS B p c l w→B≤w.heap.size → ∀ (la:Option Addr) (lc:Nat) (el:List (DataW Unit)),rowE (fun b=>b<B) w (repV (fun b=>b<B) w n) la el→el.length≤2000000→(∀ e∈el,OkT 2000000 e)→ZTL el→c+costs el≤900000000 → ∀ (in_ at_:Nat),in_<l.length→at_≤c →
 Calls Tryz.prog 44 #[.pointer (some ⟨p,0,none⟩),.slice la el.length lc,.int .i64 (in_:Int),.int .i64 (at_:Int)] w fun ev w'=>ev = .returned (.tuple #[])∧Fr B w w' ∧ ∃ l',l.length≤l'.length∧FS B p (c+costs el) l' w'
set_option maxHeartbeats 16000000 in
set_option maxRecDepth 100000 in
theorem terms_step (n:Nat) (hI:∀ m,n=m+1→TmS m):TmS n:=by
 intro B p c l w h hBw la lc el hr hn hk hz hc in_ at_ hin hat
 have H:=toHid h
 have HR:=toHid hr
 have HI:=toHid hI
 have HK:=toHid hk
 have HZ:=toHid hz
 clear h hr hI hk hz
 go_enter Tryz.func44,Tryz.ntmps44
 go_wp2_with fail
 go_loopg [13] (el.length+1) (fun gk v13 wr => ∃ (j:Nat) (lj:List SD),gk=el.length+1 - j∧j≤el.length∧v13 = .int .i64 (j:Int)∧l.length≤lj.length∧FS B p (c+costs (el.take j)) lj wr∧Fr B w wr)
 case atStart=>exact ⟨0,l,rfl,Nat.zero_le _,rfl,Nat.le_refl _,by simpa [costs,Rows.uptoBulkAll] using H.out,Fr.refl _ _⟩
 case round =>
  obtain ⟨j,lj,hgk,hj,rfl,hlj,hf,hb⟩:=hrel
  have HG:=toHid hgk
  have hj0:(0:Int)≤(j:Int):=by omega
  have hsz:=hb.below.size
  clear hgk
  by_cases hlt:j<el.length
  ·have hI1:(j:Int)<(el.length:Int):=by omega
   obtain ⟨b1,o1,rfl,hbB,t1⟩:=HR.out (by omega)
   obtain ⟨e,he⟩:∃ e,el[j]?=some e:=⟨el[j],by simp [hlt]⟩
   obtain ⟨c0,c1,c2,c3,c4,x0,x1,x2,x3,x4,hr⟩:=t1 j e he
   obtain ⟨m,rfl⟩:∃ m,n=m+1:=by
    cases n with
    | zero=>exact hr.elim
    | succ m=>exact ⟨m,rfl⟩
   have hke:=HK.out e (List.mem_of_getElem? he)
   have hze:=HZ.out e (List.mem_of_getElem? he)
   have hct:=costs_take he
   have hcl:=costs_le el (j+1)
   obtain ⟨op,s,z,pl,el1,pa,la1,pc,lc1,rfl,hcs,g1,g2⟩:=hr
   simp only [List.cons.injEq,and_true] at hcs
   obtain ⟨rfl,rfl,rfl,rfl,rfl⟩:=hcs
   have hce:=cost_mkE op s z pl el1
   obtain ⟨kp,kl⟩:pl.length≤2000000∧OkTL 2000000 el1:=by
    obtain ⟨q,hq⟩:=hke
    cases q with
    | zero=>exact hq.elim
    | succ q =>
     obtain ⟨_,_,_,_,_,hd2,q1,q2,q3⟩:=hq
     obtain ⟨rfl,rfl,rfl,rfl,rfl⟩:=mkE_inj hd2
     exact ⟨q1,q2,fun e he=>⟨q,q3 e he⟩⟩
   obtain ⟨zs,zp,zl⟩:s.size≤2000000∧(∀ x∈pl,x.size≤2000000)∧ZTL el1:=by
    obtain ⟨q,hq⟩:=hze
    cases q with
    | zero=>exact hq.elim
    | succ q =>
     obtain ⟨_,_,_,_,_,hd2,_,q2,_,q4,q5⟩:=hq
     obtain ⟨rfl,rfl,rfl,rfl,rfl⟩:=mkE_inj hd2
     exact ⟨q2,q4,fun e he=>⟨q,q5 e he⟩⟩
   have x0:=(hb.below.cell (p:=⟨b1,o1+j*5,none⟩) hbB).trans x0
   have x1:=(hb.below.cell (p:=⟨b1,o1+j*5+1,none⟩) hbB).trans x1
   have x2:=(hb.below.cell (p:=⟨b1,o1+j*5+2,none⟩) hbB).trans x2
   have x3:=(hb.below.cell (p:=⟨b1,o1+j*5+3,none⟩) hbB).trans x3
   have x4:=(hb.below.cell (p:=⟨b1,o1+j*5+4,none⟩) hbB).trans x4
   have hbl:=lt_of_cell x0
   obtain ⟨wE,hE⟩:∃ wE,wE=wr.alloc (.cells #[.string op,.int .i64 z,.string s,.slice pa pl.length pc,.slice la1 el1.length lc1] 72):=⟨_,rfl⟩
   have hbE:Below wr.heap.size wr wE:=by rw [hE];exact (Below.refl _ _).alloc (Nat.le_refl _) _
   have hbx:wE.heap[wr.heap.size]?=some (.cells #[.string op,.int .i64 z,.string s,.slice pa pl.length pc,.slice la1 el1.length lc1] 72):=by rw [hE];exact heap_alloc_new _ _
   have HBX:Hid (∀ W:World,W.heap[wr.heap.size]?=wE.heap[wr.heap.size]?→W.cell? ⟨wr.heap.size,0,none⟩=some (.string op)∧W.cell? ⟨wr.heap.size,2,none⟩=some (.string s)∧W.cell? ⟨wr.heap.size,3,none⟩=some (.slice pa pl.length pc)∧W.cell? ⟨wr.heap.size,4,none⟩=some (.slice la1 el1.length lc1)∧wr.heap.size<W.heap.size):=fun W hW=>by
    have hk:=hW.trans hbx
    refine ⟨?_,?_,?_,?_,lt_of_heap hk⟩
    ·rw [cell_of_row _ _ 0 _ _ _ hk];rfl
    ·rw [cell_of_row _ _ 2 _ _ _ hk];rfl
    ·rw [cell_of_row _ _ 3 _ _ _ hk];rfl
    ·rw [cell_of_row _ _ 4 _ _ _ hk];rfl
   have HFE:=toHid (hf.below hbE)
   have HBE:Hid (Fr B w wE):=hb.trans (Fr.of_below hbE (by omega))
   have HE:=toHid hE
   have HBK:=toHid hbx
   have HT:=toHid (fun (W:World) (lk:List SD) (ck wi:Nat) (hF:FS B p ck lk W) (hW:Fr B w W) (hck:ck≤c+costs (el.take j)+pl.length+1) (hwi:wi<lk.length) (hatk:at_≤ck)=>HI.out m rfl B p ck lk W hF (by have:=hW.below.size;omega) la1 lc1 el1 (g2.same (fun b hb2 _=>hW.below.block b hb2) (fun b h _=>h) (repV_same (fun b hb2 _=>hW.below.block b hb2) (fun b h _=>h) m)) kl.1 kl.2 zl (by omega) wi at_ hwi hatk)
   have HN:Hid (∀ W,Fr B w W→(0<pl.length → ∃ b o,pa=some ⟨b,o,none⟩∧b<B∧TS W b o pl)):=fun W hW h0=>by
    obtain ⟨b,o,e1,e2,e3⟩:=g1 h0
    exact ⟨b,o,e1,e2,fun i t hi=>(hW.below.cell (p:=⟨b,o+i,none⟩) e2).trans (e3 i t hi)⟩
   have HZP:=toHid zp
   obtain ⟨y0,y2,y3,y4,yl⟩:=HBX.out wE rfl
   have hin':in_<lj.length:=by omega
   have hatj:at_≤c+costs (el.take j):=by omega
   clear t1 HR he hke hze g1 g2 HI HK HZ kl zl zp hE hbx hbE hf hb
   cases hq1:(op.toList == [110,97,109,101]) with
   | true =>
    obtain ⟨g,cap,x,hx,hxa,q0,q1⟩:=HFE.out.at hin'
    obtain ⟨n',h64,hn',_⟩:=hxa.ok.all s
    have hkx:=(HFE.out.lo in_ x hx).1
    have HU:=toHid (fun W (hW:Ex (fun _=>False) wE W)=>use_any (hxa.ex hW (fun _ _ h=>h)) s (ml zs) hn' h64 (by omega))
    have hgl:=lt_of_cell q1
    have hpl:=HFE.out.lt
    have hboxn:¬ x.has wr.heap.size:=sp_types hxa HBK.out (by decide) (by decide)
    have HXM:=toHid hxa.ok.map
    obtain ⟨ng,np⟩:=HFE.out.no hxa q0
    have HKP:Hid (∀ W1:World,(∀ q,q<wE.heap.size → ¬ x.has q→W1.heap[q]?=wE.heap[q]?)→W1.cell? ⟨p,0,none⟩=some (.slice (some ⟨g,0,none⟩) lj.length cap)∧W1.cell? ⟨g,in_,none⟩=some (.pointer (some ⟨x.b,0,none⟩))∧W1.cell? ⟨wr.heap.size,2,none⟩=some (.string s)):=fun W1 hW1=>⟨(World.cell?_of_block (a:=⟨p,0,none⟩) (hW1 p hpl np)).trans q0,(World.cell?_of_block (a:=⟨g,in_,none⟩) (hW1 g hgl ng)).trans q1,(World.cell?_of_block (a:=⟨wr.heap.size,2,none⟩) (hW1 _ yl hboxn)).trans y2⟩
    have HXA:=toHid hxa
    clear hxa
    go_upto_region 6 with fail
    rw [←HE.out]
    go_region_held3 (fun W=>W.cell? ⟨p,0,none⟩=some (.slice (some ⟨g,0,none⟩) lj.length cap)∧W.cell? ⟨g,in_,none⟩=some (.pointer (some ⟨x.b,0,none⟩))∧W.cell? ⟨wr.heap.size,2,none⟩=some (.string s)) (first | go_keep | exact hk1) ((go_at_call 62;refine (HU.out _ (by first | exact Ex.refl _ _ | exact (Ex.refl _ _).drew | exact (Ex.refl _ _).drewN)).mono ?_;rintro ev w1 ⟨rfl,hsp,hex⟩;have hk1:=HKP.out w1 (fun q hq hn=>hex.block q hq hn)))
    have hexE:Ex x.has wE w1:=⟨hex.os,hex.tape,hex.output,hex.size,hex.block⟩
    have hf1:=HFE.out.turn hx hsp (put_turned HXM.out hn') (.inr (.inl rfl)) hexE
    have hw1:Fr B w w1:=HBE.out.trans (HXA.out.fr hexE (by have:=HBE.out.below.size;omega))
    obtain ⟨_,_,_,z4,zl⟩:=HBX.out w1 (hexE.block _ yl hboxn)
    have HC:=toHid (HT.out w1 _ _ in_ hf1 hw1 (by omega) (by rw [List.length_set];exact hin') (by omega))
    have HB1:=toHid hw1
    clear y0 y2 y3 y4 yl hex hexE hf1 hw1 hsp hk1 q0 q1
    go_wp2_with fail
    refine HC.out.mono ?_
    rintro ev w2 ⟨rfl,hb2,l2,hl2,hf2⟩
    have HB2:Hid (Fr B w w2):=HB1.out.trans hb2
    have HF2:Hid (FS B p (c+costs (el.take (j+1))) l2 w2):=hf2.more (by omega)
    rw [List.length_set] at hl2
    clear hb2 hf2 z4 zl
    go_wp2_with fail
    go_roundg (el.length+1 - (j+1))
    case measure=>have:=HG.out;omega
    case rel=>exact ⟨j+1,l2,rfl,by omega,by go_num,by omega,HF2.out,HB2.out⟩
   | false =>
    cases hq2:(op.toList == [108,97,109,98,100,97]) with
    | true =>
     have HO:=toHid (open_any HFE.out (by have:=HBE.out.below.size;omega) ⟨#[108,97,109,98,100,97]⟩ pl pa pc (HN.out _ HBE.out) HZP.out (in_:Int) ⟨fun h=>by omega,fun _=>⟨in_,hin',rfl⟩⟩ at_ hatj (by omega))
     go_wp2_with fail
     rw [←HE.out]
     refine HO.out.mono ?_
     rintro ev w1 ⟨rfl,hb1,x,hf1⟩
     have hb1w:=HBE.out.trans hb1
     obtain ⟨_,_,_,z4,zl⟩:=HBX.out w1 ((hb1.kt _ _ _ _ HBK.out (.inl rfl)).trans HBK.out.symm)
     have HC:=toHid (HT.out w1 _ _ lj.length hf1 hb1w (by omega) (by simp) (by omega))
     have HB1:=toHid hb1w
     clear y0 y2 y3 y4 yl hb1 hb1w hf1
     go_wp2_with fail
     refine HC.out.mono ?_
     rintro ev w2 ⟨rfl,hb2,l2,hl2,hf2⟩
     have HB2:Hid (Fr B w w2):=HB1.out.trans hb2
     have HF2:Hid (FS B p (c+costs (el.take (j+1))) l2 w2):=hf2.more (by omega)
     clear hb2 hf2 z4 zl
     go_wp2_with fail
     go_roundg (el.length+1 - (j+1))
     case measure=>have:=HG.out;omega
     case rel=>exact ⟨j+1,l2,rfl,by omega,by go_num,by simp at hl2;omega,HF2.out,HB2.out⟩
    | false =>
     have HC:=toHid (HT.out wE lj _ in_ HFE.out HBE.out (by omega) hin' hatj)
     go_wp2_with fail
     rw [←HE.out]
     refine HC.out.mono ?_
     rintro ev w2 ⟨rfl,hb2,l2,hl2,hf2⟩
     have HB2:Hid (Fr B w w2):=HBE.out.trans hb2
     have HF2:Hid (FS B p (c+costs (el.take (j+1))) l2 w2):=hf2.more (by omega)
     clear hb2 hf2 y0 y2 y3 y4 yl
     go_wp2_with fail
     go_roundg (el.length+1 - (j+1))
     case measure=>have:=HG.out;omega
     case rel=>exact ⟨j+1,l2,rfl,by omega,by go_num,by omega,HF2.out,HB2.out⟩
  ·obtain rfl:j=el.length:=by omega
   rw [List.take_length] at hf
   have HF:=toHid hf
   have HB:=toHid hb
   clear hf hb
   go_wp2_with fail
   go_end0
   exact ⟨rfl,HB.out,lj,hlj,HF.out⟩
theorem tmS_all:∀ n,TmS n
 | 0=>terms_step 0 (fun m h=>by omega)
 | n+1=>terms_step (n+1) (fun m h=>by
  have e:n=m:=by omega
  exact e ▸ tmS_all n)
end Go.Proofs.YtemapnogjepokaaGreatDoor

/- Package scope: say; a claim more. -/
namespace Go.Proofs.YtemapnogjepokaaGreatDoor
open Go.RowKit Go.Maps

theorem or_any {n m:Nat}(h:n<64) (hm:m=4∨m=8):bits .or .i64 (n:Int) (m:Int)=((n ||| m:Nat):Int)∧(n ||| m)<64∧bdB (n ||| m)=bdB n:=by
 have h1:=or_one ⟨n,h⟩
 have h2:=or_lt ⟨n,h⟩
 have h3:=or_bd ⟨n,h⟩
 rcases hm with rfl | rfl
 ·exact ⟨h1.2.2.1,h2.2.2.1,h3.2.1⟩
 ·exact ⟨h1.2.2.2.1,h2.2.2.2.1,h3.2.2.1⟩
set_option maxHeartbeats 8000000 in
set_option maxRecDepth 100000 in
theorem say_any {B p c:Nat}{l:List SD}{w:World}(h:FS B p c l w) (hBw:B≤w.heap.size) (pl:List ByteArray) (pa:Option Addr) (pc:Nat) (hN:0<pl.length → ∃ b o,pa=some ⟨b,o,none⟩∧b<B∧TS w b o pl) (hz:∀ x∈pl,x.size≤2000000) (m in_ at_:Nat) (hm:m=4∨m=8) (hin:in_<l.length) (ha:at_≤c) (hc:c+pl.length≤1000000000) :
  Calls Tryz.prog 63 #[.pointer (some ⟨p,0,none⟩),.slice pa pl.length pc,.int .i64 (m:Int),.int .i64 (in_:Int),.int .i64 (at_:Int)] w fun ev w'=>ev = .returned (.tuple #[])∧Fr B w w' ∧ ∃ l',l'.length=l.length∧FS B p (c+pl.length) l' w':=by
 obtain ⟨g,cap,x,hx,hxa,q0,q1⟩:=h.at hin
 have hgl:=lt_of_cell q1
 have hpl:=h.lt
 have H:=toHid h
 have HN:=toHid hN
 have HZ:=toHid hz
 have HX:=toHid hx
 have hin0:(0:Int)≤(in_:Int):=by omega
 have hin1:(in_:Int)<(l.length:Int):=by omega
 clear h hN hz hxa hx
 go_enter Tryz.func63,Tryz.ntmps63
 go_wp2_with fail
 go_loopg [22] (pl.length+1) (fun gk v22 wr => ∃ (j:Nat) (lj:List SD) (y:SD),gk=pl.length+1 - j∧j≤pl.length∧v22 = .int .i64 (j:Int)∧lj.length=l.length∧FS B p (c+j) lj wr∧Fr B w wr∧lj[in_]?=some y∧y.b=x.b)
 case atStart=>exact ⟨0,l,x,rfl,Nat.zero_le _,rfl,rfl,H.out,Fr.refl _ _,HX.out,rfl⟩
 case round =>
  obtain ⟨j,lj,y,hgk,hj,rfl,hlj,hf,hb,hy,hyb⟩:=hrel
  have HG:=toHid hgk
  have hj0:(0:Int)≤(j:Int):=by omega
  have hsz:=hb.below.size
  clear hgk q0 q1 hgl hpl
  by_cases hlt:j<pl.length
  ·have hI1:(j:Int)<(pl.length:Int):=by omega
   obtain ⟨b1,o1,rfl,hb1,t1⟩:=HN.out (by omega)
   obtain ⟨s,hs⟩:∃ s,pl[j]?=some s:=⟨pl[j],by simp [hlt]⟩
   have y0:=(hb.below.cell (p:=⟨b1,o1+j,none⟩) hb1).trans (t1 j s hs)
   have hbl:=lt_of_cell y0
   have hss:=HZ.out s (List.mem_of_getElem? hs)
   have hya:=hf.sp.all in_ y hy
   obtain ⟨n,h64,hn,hbd⟩:=hya.ok.all s
   obtain ⟨ho,hl64,hobd⟩:=or_any (m:=m) h64 hm
   obtain ⟨_,_,_,c6,_,_⟩:=sp_cells hya
   have hky:=(hf.lo in_ y hy).1
   have hxl:=lt_of_cell c6
   obtain ⟨c',hrun,hat,_⟩:=hya.own.lookup_int lawS Tryz.underlying66 Tryz.underlying3 (zeroInt wr) (key_str s (ml hss))
   obtain rfl:=lit_one hn hat
   have HK:=toHid (key_str s (ml hss))
   have HP:=toHid (plainElem_int (H:=Unit) (P:=Tryz.prog) Tryz.underlying3 (wf_small hl64))
   have HB6:Hid (bdB (n ||| m)=true→s∈y.od):=fun hb=>hbd (by rw [←hobd];exact hb)
   have HNN:=toHid hn
   have HF:=toHid hf
   have HB:=toHid hb
   have HYA:=toHid hya
   have HY:=toHid hy
   rw [hyb] at c6 hxl
   /- the mark is put,in whatever world the finder stands so -/
   have fin:∀ (W W':World),FS B p (c+j) lj W→SpAt B W y→Fr B w W→W'.ownsMap Tryz.prog 9 (plainElem Tryz.prog 3) y.m (y.k+1) (y.D.put (.string s.data.toList) (.lit (.int .i64 ((n ||| m:Nat):Int))))→W.grownBy W' (some y.m) → ∃ (lk:List SD) (z:SD),lk.length=l.length∧FS B p (c+(j+1)) lk W'∧Fr B w W'∧lk[in_]?=some z∧z.b=x.b:=fun W W' hF hS hW how hgr=>by
    obtain ⟨a1,a2⟩:=put_at (m:=m) hS HNN.out hl64 HB6.out how hgr
    refine ⟨lj.set in_ (y.put s (n ||| m)),y.put s (n ||| m),by rw [List.length_set];exact hlj,hF.turn HY.out a1 (put_turned hS.ok.map HNN.out) (by omega) a2,hW.trans (hS.fr a2 (by have:=hW.below.size;omega)),?_,hyb⟩
    exact List.getElem?_set_self (by omega)
   have HFIN:=toHid fin
   clear t1 hs hn hat hf hb hya hy hbd hobd fin
   by_cases hz0:in_=0
   ·have hz1:((in_:Int) == 0)=true:=by rw [beq_iff_eq];omega
    clear hz0
    go_wp2_with fail
    refine (refuse_any HF.out at_ (by omega)).mono ?_
    rintro ev w1 ⟨rfl,hf1,he1⟩
    have hs1:=HF.out.other HYA.out he1
    have HB1:=toHid (HB.out.trans (HF.out.exb he1))
    obtain ⟨_,_,_,d6,_,_⟩:=sp_cells hs1
    rw [hyb] at d6
    have hxl1:=lt_of_cell d6
    have HO1:=toHid hs1.own
    have HS1:=toHid hs1
    have HF1:=toHid hf1
    clear hs1 hf1 he1 hrun c6 hxl
    go_wp2_with (first
     | (at_lookup;refine wpList_lookup_own_int _ rfl _ _ 66 rfl 9 3 .i64 lawS Tryz.underlying66 Tryz.underlying3 (zeroInt _) y.m y.k _ rfl HO1.out _ _ rfl HK.out ?_;intro c hat hwc;obtain rfl:=lit_one HNN.out hat;clear hat hwc)
     | (at_mapUpdate;refine wpList_mapUpdate_own _ rfl _ _ _ 66 rfl 9 3 lawS Tryz.underlying66 _ y.m y.k _ rfl HO1.out (by unfold maxLen;omega) _ _ _ rfl rfl HK.out _ [] HP.out ?_;intro w2 hown1 hgrow1;obtain ⟨lk,zz,k1,k2,k3,k4,k5⟩:=HFIN.out w1 w2 HF1.out HS1.out HB1.out hown1 hgrow1;have HK2:=toHid k2;have HK3:=toHid k3;clear hown1 hgrow1 k2 k3))
    go_roundg (pl.length+1 - (j+1))
    case measure=>have:=HG.out;omega
    case rel=>exact ⟨j+1,lk,zz,rfl,by omega,by go_num,k1,HK2.out,HK3.out,k4,k5⟩
   ·have hz1:((in_:Int) == 0)=false:=by rw [beq_eq_false_iff_ne];omega
    by_cases hn0:n=0
    ·have hn1:((n:Int) != 0)=false:=by rw [bne_eq_false_iff_eq];omega
     clear hn0
     have HO:=toHid HYA.out.own
     go_wp2_with (first
      | (at_lookup;refine wpList_lookup_own_int _ rfl _ _ 66 rfl 9 3 .i64 lawS Tryz.underlying66 Tryz.underlying3 (zeroInt _) y.m y.k _ rfl HO.out _ _ rfl HK.out ?_;intro c hat hwc;obtain rfl:=lit_one HNN.out hat;clear hat hwc)
      | (at_mapUpdate;refine wpList_mapUpdate_own _ rfl _ _ _ 66 rfl 9 3 lawS Tryz.underlying66 _ y.m y.k _ rfl HO.out (by unfold maxLen;omega) _ _ _ rfl rfl HK.out _ [] HP.out ?_;intro w2 hown1 hgrow1;obtain ⟨lk,zz,k1,k2,k3,k4,k5⟩:=HFIN.out wr w2 HF.out HYA.out HB.out hown1 hgrow1;have HK2:=toHid k2;have HK3:=toHid k3;clear hown1 hgrow1 k2 k3))
     go_roundg (pl.length+1 - (j+1))
     case measure=>have:=HG.out;omega
     case rel=>exact ⟨j+1,lk,zz,rfl,by omega,by go_num,k1,HK2.out,HK3.out,k4,k5⟩
    ·have hn1:((n:Int) != 0)=true:=by rw [bne_iff_ne];omega
     go_wp2_with fail
     refine (refuse_any HF.out at_ (by omega)).mono ?_
     rintro ev w1 ⟨rfl,hf1,he1⟩
     have hs1:=HF.out.other HYA.out he1
     have HB1:=toHid (HB.out.trans (HF.out.exb he1))
     obtain ⟨_,_,_,d6,_,_⟩:=sp_cells hs1
     rw [hyb] at d6
     have hxl1:=lt_of_cell d6
     have HO1:=toHid hs1.own
     have HS1:=toHid hs1
     have HF1:=toHid hf1
     clear hs1 hf1 he1 hrun c6 hxl
     go_wp2_with (first
      | (at_lookup;refine wpList_lookup_own_int _ rfl _ _ 66 rfl 9 3 .i64 lawS Tryz.underlying66 Tryz.underlying3 (zeroInt _) y.m y.k _ rfl HO1.out _ _ rfl HK.out ?_;intro c hat hwc;obtain rfl:=lit_one HNN.out hat;clear hat hwc)
      | (at_mapUpdate;refine wpList_mapUpdate_own _ rfl _ _ _ 66 rfl 9 3 lawS Tryz.underlying66 _ y.m y.k _ rfl HO1.out (by unfold maxLen;omega) _ _ _ rfl rfl HK.out _ [] HP.out ?_;intro w2 hown1 hgrow1;obtain ⟨lk,zz,k1,k2,k3,k4,k5⟩:=HFIN.out w1 w2 HF1.out HS1.out HB1.out hown1 hgrow1;have HK2:=toHid k2;have HK3:=toHid k3;clear hown1 hgrow1 k2 k3))
     go_roundg (pl.length+1 - (j+1))
     case measure=>have:=HG.out;omega
     case rel=>exact ⟨j+1,lk,zz,rfl,by omega,by go_num,k1,HK2.out,HK3.out,k4,k5⟩
  ·obtain rfl:j=pl.length:=by omega
   have HF:=toHid hf
   have HB:=toHid hb
   clear hf hb
   go_wp2_with fail
   go_end0
   exact ⟨rfl,HB.out,lj,hlj,HF.out⟩
end Go.Proofs.YtemapnogjepokaaGreatDoor
