/- Package lex, plainly: a line that begins with raise; brackets. -/
import Derived.Test.YtknjeecjhahbaaaGreatDoorBbD
import Derived.Test.YtknjeecjhahbaaaGreatDoorBbC
import Derived.Test.YtknjeecjhahbaaaGreatDoorBaQ
set_option linter.all false
namespace Go.Proofs.YtknjeecjhahbaaaGreatDoor
open Go.RowKit

theorem lexP_one (s:ByteArray) (C:List UInt8) (hC:Bytes C) (h:s.data.toList=C ++ [10]) :
  (∀ ts,restL (C.length+1) C 0 = .ok ts→lexP s = .ok ((ts ++ [tokN C.length,tokE (C.length+1)]).length,cellsOf (ts ++ [tokN C.length,tokE (C.length+1)])))∧(∀ e,restL (C.length+1) C 0 = .error e → ∃ e',lexP s = .error e'):=by
 have hz:=data_size h
 simp at hz
 have h0:s.data.toList = []++(List.replicate 0 32++C++10 :: []):=by simpa using h
 constructor
 ·intro ts hr
  have hst:settleP [0] ((0:Nat):Int) (([]:List UInt8).length+0) 0 []=some ([0],0,[]):=settle_ahead 0 _ _ _
  have l1:=line_of s C [] 0 [] h0 hC ts (by simpa using hr) [0] 0 [] _ _ _ hst
  have h1:([]:List UInt8).length<s.size:=by simp;omega
  have g1:=runLines_go (inv0 s) h1 l1
  have hs2:∀ i n tk,settleP [0] 0 i n tk=some ([0],n,tk):=fun i n tk=>by
   have:=settle_ahead 0 i n tk
   simpa [ahead,desc,pfx,cellsOf] using this
  unfold lexP
  have e:=g1.trans (runLines_end (by simp;omega))
  simp only [List.length_nil,Nat.sub_zero] at e
  rw [e]
  simp only [hs2]
  congr 2
  ·simp
  ·simp [cellsOf,tokN,tokE]
 ·intro e hr
  have hl:=lineStep_list s (10 :: []) C [] (.inr ⟨[],rfl⟩) hC.noend (by simpa using h) [0] 0 []
  have hsk:skipL C=0:=by simpa using skip_rep 0 hC
  have hb:blanksL C=0:=by simpa using blanks_rep 0 hC
  obtain ⟨c,r,hc,_,_⟩:=hC.first
  rw [hsk,hb,if_neg (by rw [hc];simp)] at hl
  have hst:settleP [0] ((0:Nat):Int) (([]:List UInt8).length+0) 0 []=some ([0],0,[]):=settle_ahead 0 _ _ _
  rw [hst] at hl
  simp only [List.length_nil] at hl
  rw [hr] at hl
  simp only at hl
  refine ⟨e,?_⟩
  unfold lexP
  obtain ⟨n,hn⟩:∃ n,s.size=n+1:=⟨s.size - 1,by omega⟩
  have:runLines s s.size ⟨0,[0],0,[]⟩ = .error e:=by
   rw [hn]
   unfold runLines
   rw [if_pos (by simp;omega),hl]
  rw [this]
def raiseC:List UInt8:=[114,97,105,115,101,32]
def tokRz (i:Nat):ByteArray × ByteArray × Nat:=(kWord,kRaise,i)
def tokP (i:Nat):ByteArray × ByteArray × Nat:=(kOp,lpar,i)
def tokQ (i:Nat):ByteArray × ByteArray × Nat:=(kOp,rpar,i)
theorem raise_bytes {X:List UInt8} (h:noEnd X):Bytes (raiseC++X):=⟨⟨114,[97,105,115,101,32]++X,rfl,by decide,by decide⟩,fun c hc=>by
 rcases List.mem_append.1 hc with h1 | h1
 ·exact (show ∀ c∈raiseC,c≠10 by decide) c h1
 ·exact h c h1⟩
theorem tokL_raise (R:List UInt8):tokL (raiseC++R)=some (kWord,kRaise,5):=by kernel_rfl
theorem tokL_par (R:List UInt8):tokL (40::R)=some (kOp,lpar,1):=by kernel_rfl
theorem tokL_rap (R:List UInt8):tokL (41::R)=some (kOp,rpar,1):=by kernel_rfl
theorem skip_par (R:List UInt8):skipL (40::R)=0:=by kernel_rfl
theorem skip_rap (R:List UInt8):skipL (41::R)=0:=by kernel_rfl
theorem restL_blank (f:Nat) (X:List UInt8) (o:Nat):restL (f+1) (32::X) o=restL (f+1) X (o+1):=by
 have hb:blanksL (32::X)=blanksL X+1:=by
  unfold blanksL
  have:blankB (((32:UInt8).toNat:Nat):Int)=true:=by decide
  simp only [List.takeWhile,this,List.length_cons]
 have hs:skipL (32::X)=skipL X+1:=by
  unfold skipL
  rw [hb,List.drop_succ_cons]
  cases X.drop (blanksL X) with
  | nil=>rfl
  | cons c r =>
   simp only
   split <;> simp
 rw [restL_eq,restL_eq,hs]
 have hl:((32::X).length)=X.length+1:=rfl
 rw [hl,List.drop_succ_cons]
 by_cases h:skipL X=X.length
 ·rw [if_pos h,if_pos (by omega)]
 ·rw [if_neg h,if_neg (by omega)]
  cases tokL (X.drop (skipL X)) with
  | none=>simp;omega
  | some x =>
   obtain ⟨k,t,m⟩:=x
   simp only
   rw [show skipL X+1+m=(skipL X+m)+1 by omega,List.drop_succ_cons,show o+(skipL X+m+1)=o+1+(skipL X+m) by omega,show o+(skipL X+1)=o+1+skipL X by omega]
theorem rest_raise (f:Nat) (X:List UInt8):restL (f+2) (raiseC++X) 0=match restL (f+1) X 6 with
  | .ok l=>.ok (tokRz 0::l)
  | .error e=>.error e:=by
 have h0:skipL (raiseC++X)=0:=by kernel_rfl
 rw [restL_eq,h0,if_neg (by simp [raiseC]),List.drop_zero,tokL_raise]
 simp only [Nat.zero_add]
 have hd:(raiseC++X).drop 5=32::X:=rfl
 rw [hd,restL_blank]
 cases restL (f+1) X (5+1) <;> rfl
theorem rest_pars (X:List UInt8):∀ (n f o:Nat),restL (f+n) (List.replicate n 40++X) o=match restL f X (o+n) with
  | .ok l=>.ok ((List.range n).map (fun i=>tokP (o+i))++l)
  | .error e=>.error e
 | 0,f,o=>by
  simp only [List.replicate_zero,List.nil_append,Nat.add_zero]
  cases restL f X o <;> rfl
 | n+1,f,o=>by
  rw [show f+(n+1)=(f+n)+1 by omega,List.replicate_succ,List.cons_append,restL_eq,skip_par,if_neg (by simp),List.drop_zero,tokL_par]
  simp only [Nat.zero_add]
  rw [List.drop_succ_cons,List.drop_zero,rest_pars X n f (o+1),show o+1+n=o+(n+1) by omega]
  cases restL f X (o+(n+1)) with
  | error e=>rfl
  | ok l =>
   simp only [Nat.add_zero]
   rw [List.range_succ_eq_map]
   simp [tokP,Function.comp_def,Nat.add_assoc,Nat.add_comm 1]
theorem rest_raps:∀ (n f o:Nat),n<f→restL f (List.replicate n 41) o = .ok ((List.range n).map fun i=>tokQ (o+i))
 | 0,f+1,o,_=>restL_nil f o
 | n+1,f+1,o,h=>by
  rw [List.replicate_succ,restL_eq,skip_rap,if_neg (by simp),List.drop_zero,tokL_rap]
  simp only [Nat.zero_add]
  rw [List.drop_succ_cons,List.drop_zero,rest_raps n f (o+1) (by omega)]
  simp only [Nat.add_zero]
  rw [List.range_succ_eq_map]
  simp [tokQ,Function.comp_def,Nat.add_assoc,Nat.add_comm 1]
theorem rest_place {f:Nat}{X:List UInt8}{o:Nat}{T:TokL} (h:restL f X o = .ok T) (hf:X.length<f) (o':Nat):∃ T',restL f X o' = .ok T'∧T'.map (fun x=>(x.1,x.2.1))=T.map (fun x=>(x.1,x.2.1)):=by
 have hs:=restL_same gap_nil f f X o o' hf (by simpa using hf)
 rw [h,List.append_nil] at hs
 cases e:restL f X o' with
 | error y=>rw [e] at hs;exact hs.elim
 | ok T'=>rw [e] at hs;exact ⟨T',rfl,hs.symm⟩
theorem rest_brackets {X:List UInt8}{T:TokL} (hN:Neat X) (h:restL (X.length+1) X 6 = .ok T) (n:Nat) (hn:0<n) :
  ∃ T',restL ((raiseC++(List.replicate n 40++(X++List.replicate n 41))).length+1) (raiseC++(List.replicate n 40++(X++List.replicate n 41))) 0 = .ok (tokRz 0::((List.range n).map (fun i=>tokP (6+i))++(T'++(List.range n).map (fun i=>tokQ (6+n+X.length+i)))))∧T'.map (fun x=>(x.1,x.2.1))=T.map (fun x=>(x.1,x.2.1)):=by
 obtain ⟨T',h',e⟩:=rest_place h (by omega) (6+n)
 refine ⟨T',?_,e⟩
 have hl:(raiseC++(List.replicate n 40++(X++List.replicate n 41))).length+1=(X.length+n+4+n)+1+2:=by simp [raiseC];omega
 have hZ:Cut (List.replicate n 41):=by
  obtain ⟨m,rfl⟩:∃ m,n=m+1:=⟨n - 1,by omega⟩
  exact ⟨41,List.replicate m 41,rfl,.inl rfl⟩
 have hr:=rest_cut hZ (X.length+1) (X.length+n+5) X (6+n) T' h' hN (by simp)
 rw [rest_raps n _ _ (by simp)] at hr
 simp only at hr
 rw [hl,rest_raise,show X.length+n+4+n+1+1=(X.length+n+6)+n by omega,rest_pars,restL_fuel (X.length+n+6) (X.length+n+5) _ _ (by rw [List.length_append,List.length_replicate];omega) (by rw [List.length_append,List.length_replicate];omega),hr]
end Go.Proofs.YtknjeecjhahbaaaGreatDoor
namespace Go.Proofs.YtknjeecjhahbaaaGreatDoor
open Go.RowKit

def nlB (x:ByteArray × ByteArray × Nat):Bool:=x.1.toList == [110,101,119,108,105,110,101]
theorem tokL_nl {L:List UInt8}{k t:ByteArray}{m:Nat} (h:tokL L=some (k,t,m)) (o:Nat):nlB (k,t,o)=false:=by
 cases L with
 | nil=>cases h
 | cons c L =>
  have hr:tokL (c::L)=if smallB (c.toNat:Int) || capitalB (c.toNat:Int) then (nameL c L).map fun x=>(if x.1 then kWord else kName,x.2.1,x.2.2)
   else if digitB (c.toNat:Int) then (intL c L).map fun x=>(kInt,x.1,x.2)
   else if (c.toNat:Int) == 34 then (strL (L.length+1) L []).map fun x=>(kStr,strOfNums x.1,x.2+1)
   else (opL (c::L) 21 0).map fun x=>(kOp,x.1,x.2):=rfl
  rw [hr] at h
  have w:nlB (kWord,t,o)=false:=by kernel_rfl
  have n:nlB (kName,t,o)=false:=by kernel_rfl
  have i:nlB (kInt,t,o)=false:=by kernel_rfl
  have s:nlB (kStr,t,o)=false:=by kernel_rfl
  have p:nlB (kOp,t,o)=false:=by kernel_rfl
  split at h
  ·obtain ⟨x,hx,e⟩:=Option.map_eq_some_iff.1 h
   simp only [Prod.mk.injEq] at e
   rw [←e.1]
   split
   ·exact w
   ·exact n
  ·split at h
   ·obtain ⟨x,hx,e⟩:=Option.map_eq_some_iff.1 h
    simp only [Prod.mk.injEq] at e
    rw [←e.1];exact i
   ·split at h
    ·obtain ⟨x,hx,e⟩:=Option.map_eq_some_iff.1 h
     simp only [Prod.mk.injEq] at e
     rw [←e.1];exact s
    ·obtain ⟨x,hx,e⟩:=Option.map_eq_some_iff.1 h
     simp only [Prod.mk.injEq] at e
     rw [←e.1];exact p
theorem rest_nl:∀ (f:Nat) (L:List UInt8) (o:Nat) (T:TokL),restL f L o = .ok T → ∀ x∈T,nlB x=false
 | 0,_,_,_,h=>by cases h
 | f+1,L,o,T,h=>by
  rw [restL_eq] at h
  split at h
  ·cases h;intro x hx;cases hx
  ·cases ht:tokL (L.drop (skipL L)) with
   | none=>rw [ht] at h;cases h
   | some x =>
    obtain ⟨k,t,m⟩:=x
    rw [ht] at h
    simp only at h
    cases hr:restL f (L.drop (skipL L+m)) (o+(skipL L+m)) with
    | error e=>rw [hr] at h;cases h
    | ok T1 =>
     rw [hr] at h
     cases h
     intro x hx
     rcases List.mem_cons.1 hx with rfl | hx
     ·exact tokL_nl ht _
     ·exact rest_nl f _ _ T1 hr x hx
theorem raise_eq {l:TokL}{i:Nat} (h:l[0]?=some (tokRz i)) (d:Nat):pStmtAt l (d+1) 0=match pTerm l 1 with
  | .error y=>.error y
  | .ok (e,k1)=>bif isKind l k1 [110,101,119,108,105,110,101] then .ok (mkS kRaise ⟨#[]⟩ [] [e] [] [],k1+1) else .error (k1,false):=by
 have m1:markAt l 0 [kIf]=false:=mark_of h (by kernel_rfl)
 have m2:markAt l 0 [kWhile]=false:=mark_of h (by kernel_rfl)
 have m3:markAt l 0 [kFor]=false:=mark_of h (by kernel_rfl)
 have m4:markAt l 0 [kDef]=false:=mark_of h (by kernel_rfl)
 have m5:markAt l 0 [kTry]=false:=mark_of h (by kernel_rfl)
 have b1:markAt l 0 [kBreak,kContinue,kPass]=false:=mark_of h (by kernel_rfl)
 have b2:markAt l 0 [kGlobal,kNonlocal]=false:=mark_of h (by kernel_rfl)
 have b3:markAt l 0 [kReturn]=false:=mark_of h (by kernel_rfl)
 have b4:markAt l 0 [kRaise]=true:=mark_of h (by kernel_rfl)
 have tx:txtAt l 0=kRaise:=by unfold txtAt;rw [h];rfl
 unfold pStmtAt pStmtIn pStatement
 rw [m1,m2,m3,m4,m5]
 unfold pLine
 rw [b1,b2,b3,b4,tx]
 unfold pOneAt pOne
 show (match (match (match pTerm l 1 with | .ok (e,k')=>.ok ([e],k') | .error x=>.error x:Out (List (DataW Unit))) with | .error y=>.error y | .ok (el,k1)=>.ok (mkS kRaise ⟨#[]⟩ [] el [] [],k1):Out (DataW Unit)) with | .error y=>.error y | .ok (s,k1)=>bif isKind l k1 [110,101,119,108,105,110,101] then .ok (s,k1+1) else .error (k1,false):Out (DataW Unit))=_
 cases pTerm l 1 with
 | error y=>rfl
 | ok y=>rfl
theorem nl_at {l:TokL}{k:Nat}{x:ByteArray × ByteArray × Nat} (h:l[k]?=some x):isKind l k [110,101,119,108,105,110,101]=nlB x:=by
 unfold isKind
 rw [h]
 rfl
def raiseT (T:TokL) (i j:Nat):TokL:=(tokRz 0::T) ++ [tokN i,tokE j]
theorem raiseT_0 (T:TokL) (i j:Nat):(raiseT T i j)[0]?=some (tokRz 0):=rfl
theorem raiseT_in {T:TokL}{i j k:Nat} (hk:k<T.length):(raiseT T i j)[k+1]?=T[k]?:=by
 unfold raiseT
 rw [List.cons_append,List.getElem?_cons_succ,List.getElem?_append_left hk]
theorem raiseT_nl (T:TokL) (i j:Nat):(raiseT T i j)[T.length+1]?=some (tokN i):=by
 unfold raiseT
 rw [List.cons_append,List.getElem?_cons_succ,List.getElem?_append_right (Nat.le_refl _),Nat.sub_self]
 rfl
theorem raiseT_end (T:TokL) (i j:Nat):(raiseT T i j)[T.length+1+1]?=some (tokE j):=by
 unfold raiseT
 rw [List.cons_append,List.getElem?_cons_succ,List.getElem?_append_right (by omega),show T.length+1 - T.length=1 by omega]
 rfl
theorem raiseT_len (T:TokL) (i j:Nat):(raiseT T i j).length=T.length+3:=by unfold raiseT;simp
theorem raiseT_none {T:TokL}{i j k:Nat} (hk:T.length+3≤k):(raiseT T i j)[k]?=none:=List.getElem?_eq_none (by rw [raiseT_len];exact hk)
theorem raise_read {T:TokL}{i j:Nat} (hT:∀ x∈T,nlB x=false) {ss:List (DataW Unit)}{k:Nat} (h:pRead (raiseT T i j) = .ok (ss,k)):∃ e,pTerm (raiseT T i j) 1 = .ok (e,T.length+1)∧ss = [mkS kRaise ⟨#[]⟩ [] [e] [] []]:=by
 unfold pRead at h
 rw [raiseT_len] at h
 have e0:isKind (raiseT T i j) 0 endB.toList=false:=kind_of (raiseT_0 T i j) (by kernel_rfl)
 unfold pStmts at h
 rw [e0,raise_eq (raiseT_0 T i j) 11] at h
 simp only [cond_false] at h
 cases ht:pTerm (raiseT T i j) 1 with
 | error y=>rw [ht] at h;cases h
 | ok y =>
  obtain ⟨e,k1⟩:=y
  rw [ht] at h
  simp only at h
  cases hk:isKind (raiseT T i j) k1 [110,101,119,108,105,110,101] with
  | false=>rw [hk] at h;cases h
  | true =>
   have e1:k1=T.length+1:=by
    rcases Nat.lt_trichotomy k1 (T.length+1) with hlt | he | hgt
    ·exfalso
     rcases Nat.eq_zero_or_pos k1 with rfl | hp
     ·rw [nl_at (raiseT_0 T i j)] at hk
      exact absurd hk (by rw [show nlB (tokRz 0)=false by kernel_rfl];decide)
     ·obtain ⟨q,rfl⟩:∃ q,k1=q+1:=⟨k1 - 1,by omega⟩
      have hq:q<T.length:=by omega
      have hx:=raiseT_in (i:=i) (j:=j) hq
      rw [List.getElem?_eq_getElem hq] at hx
      rw [nl_at hx,hT _ (List.getElem_mem hq)] at hk
      cases hk
    ·exact he
    ·exfalso
     by_cases h2:k1=T.length+1+1
     ·subst h2
      rw [nl_at (raiseT_end T i j)] at hk
      exact absurd hk (by rw [show nlB (tokE j)=false by kernel_rfl];decide)
     ·unfold isKind at hk
      rw [raiseT_none (by omega)] at hk
      cases hk
   subst e1
   rw [hk] at h
   simp only [cond_true,List.nil_append] at h
   have e2:isKind (raiseT T i j) (T.length+1+1) endB.toList=true:=kind_of (raiseT_end T i j) (by kernel_rfl)
   unfold pStmts at h
   rw [e2] at h
   simp only [cond_true,Except.ok.injEq,Prod.mk.injEq] at h
   exact ⟨e,rfl,h.1.symm⟩
theorem raise_ok {T:TokL}{i j:Nat}{e:DataW Unit} (h:pTerm (raiseT T i j) 1 = .ok (e,T.length+1)):pRead (raiseT T i j) = .ok ([mkS kRaise ⟨#[]⟩ [] [e] [] []],T.length+1+1):=by
 unfold pRead
 have e0:isKind (raiseT T i j) 0 endB.toList=false:=kind_of (raiseT_0 T i j) (by kernel_rfl)
 have e2:isKind (raiseT T i j) (T.length+1+1) endB.toList=true:=kind_of (raiseT_end T i j) (by kernel_rfl)
 have hs:pStmtAt (raiseT T i j) 12 0 = .ok (mkS kRaise ⟨#[]⟩ [] [e] [] [],T.length+1+1):=by
  rw [raise_eq (raiseT_0 T i j) 11,h]
  show (bif isKind (raiseT T i j) (T.length+1) [110,101,119,108,105,110,101] then _ else _)=_
  rw [nl_at (raiseT_nl T i j),show nlB (tokN i)=true by kernel_rfl]
  rfl
 rw [raiseT_len]
 exact stmts_two e0 hs e2
theorem raise_err {T:TokL}{i j:Nat}{y:Nat × Bool} (h:pTerm (raiseT T i j) 1 = .error y):pRead (raiseT T i j) = .error y:=by
 unfold pRead
 have e0:isKind (raiseT T i j) 0 endB.toList=false:=kind_of (raiseT_0 T i j) (by kernel_rfl)
 have hs:pStmtAt (raiseT T i j) 12 0 = .error y:=by rw [raise_eq (raiseT_0 T i j) 11,h]
 exact stmts_err e0 hs
theorem par_starts {l:TokL}{k i:Nat} (h:l[k]?=some (tokP i)):Starts l k:=⟨mark_of h (by kernel_rfl),mark_of h (by kernel_rfl),mark_of h (by kernel_rfl)⟩
theorem par_stops {l:TokL}{k i:Nat} (h:l[k]?=some (tokQ i)):Stops l k:=by
 refine ⟨fun r hr => ?_,mark_of h (by kernel_rfl),mark_of h (by kernel_rfl)⟩
 simp only [List.mem_cons,List.not_mem_nil,or_false] at hr
 rcases hr with rfl | rfl | rfl | rfl | rfl <;> exact mark_of h (by kernel_rfl)
theorem par_atom {l:TokL}{dp k i:Nat}{term:Nat→Out (DataW Unit)}{terms pairs:Nat→Out (List (DataW Unit))} (h:l[k]?=some (tokP i)):pAtom l dp term terms pairs k=pDeep dp k (pClosed l rpar (term (k+1))):=by
 unfold pAtom
 rw [h]
 show (bif isIntB (tokP i) then _ else _)=_
 rw [show isIntB (tokP i)=false by kernel_rfl,show (isStrB (tokP i) || isNameB (tokP i))=false by kernel_rfl,show markB (tokP i) [kNone,kTrue,kFalse]=false by kernel_rfl,show markB (tokP i) [lpar]=true by kernel_rfl]
 rfl
theorem rank8_par {l:TokL}{f dp k i:Nat} (h:l[k]?=some (tokP i)):pRanked l (f+1) dp 8 k=pPost l dp (pRanked l f (dp+1) 0) (pDeep dp k (pClosed l rpar (pRanked l f (dp+1) 0 (k+1)))):=by
 conv=>lhs;unfold pRanked
 rw [if_neg (by decide),if_neg (by decide),if_neg (by decide),if_pos rfl,par_atom h]
theorem par_down {l:TokL}{f dp k i:Nat} (h:l[k]?=some (tokP i)) (hq:∀ e k1,pClosed l rpar (pRanked l f (dp+1) 0 (k+1)) = .ok (e,k1)→Stops l k1):pRanked l (f+9) dp 0 k=pDeep dp k (pClosed l rpar (pRanked l f (dp+1) 0 (k+1))):=by
 have hs:∀ e k1,pDeep dp k (pClosed l rpar (pRanked l f (dp+1) 0 (k+1))) = .ok (e,k1)→Stops l k1:=fun e k1 he=>by
  unfold pDeep at he
  split at he
  ·cases he
  ·exact hq e k1 he
 refine ranked_down (f:=f+1) (par_starts h) ?_ hs
 rw [rank8_par h]
 exact bpost_stop hs
theorem pars_all {l:TokL} : ∀ (n f dp k b:Nat),(∀ i,i<n → ∃ j,l[k+i]?=some (tokP j))→(∀ i,i<n → ∃ j,l[b+i]?=some (tokQ j))→Stops l (b+n) → ∀ e,(pRanked l f (dp+n) 0 (k+n) = .ok (e,b) ∨ ∃ y,pRanked l f (dp+n) 0 (k+n) = .error (y,true))→pRanked l (f+9*n) dp 0 k = .ok (e,b+n) ∨ ∃ y,pRanked l (f+9*n) dp 0 k = .error (y,true)
 | 0,f,dp,k,b,_,_,_,e,h=>h
 | n+1,f,dp,k,b,ho,hc,hs,e,h=>by
  obtain ⟨j0,h0⟩:=ho 0 (by omega)
  have ih:=pars_all n f (dp+1) (k+1) b (fun i hi=>by
   obtain ⟨j,hj⟩:=ho (i+1) (by omega)
   exact ⟨j,by rw [show k+1+i=k+(i+1) by omega];exact hj⟩) (fun i hi=>hc i (by omega)) (by
   obtain ⟨j,hj⟩:=hc n (by omega)
   exact par_stops hj) e (by
   rw [show dp+1+n=dp+(n+1) by omega,show k+1+n=k+(n+1) by omega]
   exact h)
  obtain ⟨jn,hn⟩:=hc n (by omega)
  rw [show f+9*(n+1)=f+9*n+9 by omega]
  have hcl:∀ e1 k1,pClosed l rpar (pRanked l (f+9*n) (dp+1) 0 (k+1)) = .ok (e1,k1)→Stops l k1:=fun e1 k1 he=>by
   rcases ih with hi | ⟨y,hi⟩
   ·rw [hi] at he
    unfold pClosed at he
    simp only [mark_of hn (show markB (tokQ jn) [rpar]=true by kernel_rfl),cond_true,Except.ok.injEq,Prod.mk.injEq] at he
    rw [←he.2]
    exact hs
   ·rw [hi] at he
    cases he
  have hd:=par_down (f:=f+9*n) (dp:=dp) (k:=k) (by simpa using h0) hcl
  rw [hd]
  unfold pDeep
  split
  ·exact .inr ⟨_,rfl⟩
  ·rcases ih with hi | ⟨y,hi⟩
   ·left
    rw [hi]
    unfold pClosed
    simp only [mark_of hn (show markB (tokQ jn) [rpar]=true by kernel_rfl),cond_true]
    rfl
   ·right
    rw [hi]
    exact ⟨y,rfl⟩
end Go.Proofs.YtknjeecjhahbaaaGreatDoor
namespace Go.Proofs.YtknjeecjhahbaaaGreatDoor
open Go.RowKit

theorem markB_nl (i:Nat) (ts:List ByteArray):markB (tokN i) ts=false:=by
 unfold markB
 rw [show (((tokN i).1.toList == [111,112]) || ((tokN i).1.toList == [119,111,114,100]))=false by kernel_rfl]
 rfl
theorem nl_stops {l:TokL}{k i:Nat} (h:l[k]?=some (tokN i)):Stops l k:=⟨fun r _=>mark_of h (markB_nl i _),mark_of h (markB_nl i _),mark_of h (markB_nl i _)⟩
theorem kt_at {T T':TokL} (h:T'.map (fun x=>(x.1,x.2.1))=T.map (fun x=>(x.1,x.2.1))) {k:Nat} (hk:k<T.length):∃ (kd tx:ByteArray) (i j:Nat),T[k]?=some (kd,tx,i)∧T'[k]?=some (kd,tx,j):=by
 have hl:T'.length=T.length:=by simpa using congrArg List.length h
 have e:=congrArg (fun l=>l[k]?) h
 simp only [List.getElem?_map] at e
 rw [List.getElem?_eq_getElem hk,List.getElem?_eq_getElem (show k<T'.length by omega)] at e ⊢
 simp only [Option.map_some,Option.some.injEq,Prod.mk.injEq] at e
 refine ⟨T[k].1,T[k].2.1,T[k].2.2,(T'[k]'(by omega)).2.2,rfl,?_⟩
 rw [←e.1,←e.2]
theorem raise_lex {s:ByteArray}{X:List UInt8} (hX:Neat X) (h:s.data.toList=raiseC++X ++ [10]) {c:Nat}{m:TokL} (hl:lexP s = .ok (c,cellsOf m)) :
  ∃ T,restL (X.length+1) X 6 = .ok T∧m=raiseT T (raiseC++X).length ((raiseC++X).length+1):=by
 obtain ⟨p1,p2⟩:=lexP_one s (raiseC++X) (raise_bytes (scan_end X 0 0 hX)) h
 have e:(raiseC++X).length+1=(X.length+5)+2:=by rw [List.length_append,show raiseC.length=6 from rfl];omega
 cases hr:restL ((raiseC++X).length+1) (raiseC++X) 0 with
 | error y =>
  obtain ⟨e',he⟩:=p2 y hr
  rw [he] at hl
  cases hl
 | ok ts =>
  have q:=p1 ts hr
  rw [hl] at q
  simp only [Except.ok.injEq,Prod.mk.injEq] at q
  have hm:=cells_inj _ _ q.2
  rw [e,rest_raise] at hr
  cases hT:restL (X.length+5+1) X 6 with
  | error y=>rw [hT] at hr;cases hr
  | ok T =>
   rw [hT] at hr
   cases hr
   exact ⟨T,by rw [←hT];exact restL_fuel _ _ _ _ (by omega) (by omega),hm⟩
theorem brackets_read {s1 s2:ByteArray}{X:List UInt8}{n:Nat} (hX:Neat X) (h1:s1.data.toList=raiseC++X ++ [10]) (h2:s2.data.toList=raiseC++(List.replicate n 40++(X++List.replicate n 41)) ++ [10])
  {c:Nat}{m1:TokL} (hl:lexP s1 = .ok (c,cellsOf m1)) {ss:List (DataW Unit)}{k:Nat} (hr:pRead m1 = .ok (ss,k)) :
  ∃ m2,lexP s2 = .ok (m2.length,cellsOf m2)∧((∃ k',pRead m2 = .ok (ss,k')) ∨ ∃ y,pRead m2 = .error (y,true)):=by
 obtain ⟨T,hT,rfl⟩:=raise_lex hX h1 hl
 obtain ⟨e,he,rfl⟩:=raise_read (rest_nl _ _ _ _ hT) hr
 rcases Nat.eq_zero_or_pos n with rfl | hn
 ·have hs:s2=s1:=by
   apply ByteArray.ext
   apply Array.toList_inj.1
   rw [h1,h2]
   simp
  refine ⟨_,?_,.inl ⟨_,hr⟩⟩
  obtain ⟨p1,p2⟩:=lexP_one s1 (raiseC++X) (raise_bytes (scan_end X 0 0 hX)) h1
  have e:(raiseC++X).length+1=(X.length+5)+2:=by rw [List.length_append,show raiseC.length=6 from rfl];omega
  have q:=p1 (tokRz 0::T) (by
   rw [e,rest_raise,restL_fuel (X.length+5+1) (X.length+1) _ _ (by omega) (by omega),hT])
  rw [hs]
  exact q
 ·obtain ⟨T',hT',hk⟩:=rest_brackets hX hT n hn
  have hlen:T'.length=T.length:=by simpa using congrArg List.length hk
  obtain ⟨U,hU⟩:∃ U:TokL,U=(List.range n).map (fun i=>tokP (6+i))++(T'++(List.range n).map (fun i=>tokQ (6+n+X.length+i))):=⟨_,rfl⟩
  rw [←hU] at hT'
  have hUl:U.length=n+(T.length+n):=by rw [hU];simp [hlen]
  have uP:∀ i,i<n→U[i]?=some (tokP (6+i)):=fun i hi=>by
   rw [hU,List.getElem?_append_left (by simpa using hi),List.getElem?_map,List.getElem?_range hi]
   rfl
  have uT:∀ i,i<T.length→U[i+n]?=T'[i]?:=fun i hi=>by
   rw [hU,List.getElem?_append_right (by simp),List.length_map,List.length_range,Nat.add_sub_cancel,List.getElem?_append_left (by omega)]
  have uQ:∀ i,i<n→U[T.length+n+i]?=some (tokQ (6+n+X.length+i)):=fun i hi=>by
   rw [hU,List.getElem?_append_right (by simp;omega),List.length_map,List.length_range,List.getElem?_append_right (by omega),show T.length+n+i - n - T'.length=i by omega,List.getElem?_map,List.getElem?_range hi]
   rfl
  have hend:noEnd (List.replicate n 40++(X++List.replicate n 41)):=fun x hx=>by
   rcases List.mem_append.1 hx with hx | hx
   ·rw [List.eq_of_mem_replicate hx];decide
   ·rcases List.mem_append.1 hx with hx | hx
    ·exact scan_end X 0 0 hX x hx
    ·rw [List.eq_of_mem_replicate hx];decide
  obtain ⟨p1,_⟩:=lexP_one s2 _ (raise_bytes hend) h2
  have q:=p1 _ hT'
  obtain ⟨i2,hi2⟩:∃ i,i=(raiseC++(List.replicate n 40++(X++List.replicate n 41))).length:=⟨_,rfl⟩
  rw [←hi2] at q
  obtain ⟨i1,hi1⟩:∃ i,i=(raiseC++X).length:=⟨_,rfl⟩
  rw [←hi1] at he hr
  refine ⟨raiseT U i2 (i2+1),q,?_⟩
  -- l1 and l2
  have H:Sh (raiseT T i1 (i1+1)) (raiseT U i2 (i2+1)) n 1 (T.length+1):=by
   refine ⟨by omega,fun k hk' => ?_,⟨_,raiseT_nl T i1 (i1+1),markB_nl i1,by kernel_rfl,by kernel_rfl,by kernel_rfl⟩,?_⟩
   ·obtain ⟨q,rfl⟩:∃ q,k=q+1:=⟨k - 1,by omega⟩
    have hq:q<T.length:=by omega
    obtain ⟨kd,tx,i,j,g1,g2⟩:=kt_at hk hq
    refine ⟨kd,tx,i,j,(raiseT_in hq).trans g1,?_⟩
    rw [show q+1+n=(q+n)+1 by omega,raiseT_in (by omega),uT q hq]
    exact g2
   ·refine ⟨tokQ (6+n+X.length+0),?_,by kernel_rfl,by kernel_rfl,by kernel_rfl,fun r hr => ?_⟩
    ·rw [show T.length+1+n=(T.length+n+0)+1 by omega,raiseT_in (by omega)]
     exact uQ 0 hn
    ·simp only [List.mem_cons,List.not_mem_nil,or_false] at hr
     rcases hr with rfl | rfl | rfl | rfl | rfl <;> kernel_rfl
  have hh:∀ y,(raiseT U i2 (i2+1))[T.length+1+n]?=some y→markB y [kLambda]=false∧markB y [kNot]=false∧markB y [kMinus]=false:=fun y hy=>by
   have hq:=uQ 0 hn
   rw [Nat.add_zero] at hq
   rw [show T.length+1+n=(T.length+n)+1 by omega,raiseT_in (by omega),hq] at hy
   cases hy
   exact ⟨by kernel_rfl,by kernel_rfl,by kernel_rfl⟩
  have fl:fuelE (raiseT U i2 (i2+1))=(fuelE (raiseT T i1 (i1+1))+11*n)+9*n:=by
   unfold fuelE
   rw [raiseT_len,raiseT_len,hUl]
   omega
  have F:=sh_ranked (D:=True) H hh (fuelE (raiseT T i1 (i1+1))) (fuelE (raiseT T i1 (i1+1))+11*n) 0 n 0 1 (by omega) (by omega) ⟨by omega,by omega⟩ (fun h=>absurd trivial h)
  obtain ⟨_,_,F⟩:=F e (T.length+1) he
  have G:=pars_all (l:=raiseT U i2 (i2+1)) n (fuelE (raiseT T i1 (i1+1))+11*n) 0 1 (T.length+1+n) (fun i hi=>⟨_,by rw [show 1+i=i+1 by omega,raiseT_in (by omega)];exact uP i hi⟩) (fun i hi=>⟨_,by rw [show T.length+1+n+i=(T.length+n+i)+1 by omega,raiseT_in (by omega)];exact uQ i hi⟩) (by
   have:=raiseT_nl U i2 (i2+1)
   rw [hUl,show n+(T.length+n)+1=T.length+1+n+n by omega] at this
   exact nl_stops this) e (by
   rw [Nat.zero_add]
   exact F.imp id (fun h=>h.2))
  rw [←fl] at G
  rcases G with G | ⟨y,G⟩
  ·refine .inl ⟨_,raise_ok (e:=e) ?_⟩
   rw [hUl,show n+(T.length+n)+1=T.length+1+n+n by omega]
   exact G
  ·exact .inr ⟨y,raise_err G⟩
end Go.Proofs.YtknjeecjhahbaaaGreatDoor
