/- The law TreeBlocks, plain: what Read comes to at blocks, and brackets, in each other. -/
import Derived.Test.YtknjeecjhahbaaaGreatDoorBaP
import Derived.Test.YtknjeecjhahbaaaGreatDoorBaG
set_option linter.all false
namespace Go.Proofs.YtknjeecjhahbaaaGreatDoor
open Go.RowKit

/-! Tokens. -/
def tokIf (i:Nat):ByteArray × ByteArray × Nat:=(kWord,kIf,i)
def tokA (i:Nat):ByteArray × ByteArray × Nat:=(kName,⟨#[97]⟩,i)
def tokC (i:Nat):ByteArray × ByteArray × Nat:=(kOp,colon,i)
def tokN (i:Nat):ByteArray × ByteArray × Nat:=(kNewline,⟨#[]⟩,i)
def tokI (i:Nat):ByteArray × ByteArray × Nat:=(kIndent,⟨#[]⟩,i)
def tokD (i:Nat):ByteArray × ByteArray × Nat:=(kDedent,⟨#[]⟩,i)
def tokE (i:Nat):ByteArray × ByteArray × Nat:=(kEnd,⟨#[]⟩,i)
def tokL1 (i:Nat):ByteArray × ByteArray × Nat:=(kOp,lbrk,i)
def tokR1 (i:Nat):ByteArray × ByteArray × Nat:=(kOp,rbrk,i)
theorem mark_of {l:List (ByteArray × ByteArray × Nat)}{k:Nat}{x:ByteArray × ByteArray × Nat}{ts:List ByteArray}{b:Bool} (h:l[k]?=some x) (hb:markB x ts=b):markAt l k ts=b:=by
 unfold markAt
 rw [h]
 exact hb
theorem kind_of {l:List (ByteArray × ByteArray × Nat)}{k:Nat}{x:ByteArray × ByteArray × Nat}{ts:List UInt8}{b:Bool} (h:l[k]?=some x) (hb:(x.1.toList == ts)=b):isKind l k ts=b:=by
 unfold isKind
 rw [h]
 exact hb
def Starts (l:List (ByteArray × ByteArray × Nat)) (k:Nat):Prop:=markAt l k [kLambda]=false∧markAt l k [kNot]=false∧markAt l k [kMinus]=false
def Stops (l:List (ByteArray × ByteArray × Nat)) (k:Nat):Prop:=(∀ r ∈ [1,2,4,5,6],markAt l k (rankOps r)=false)∧markAt l k [lpar]=false∧markAt l k [lbrk]=false
theorem bsidesOn_stop {l:List (ByteArray × ByteArray × Nat)}{r:Nat}{sub:Nat→Out (DataW Unit)}{f:Nat}{e:DataW Unit}{k:Nat} (h:markAt l k (rankOps r)=false):pSidesOn l r sub (f+1) e k = .ok (e,k):=by
 unfold pSidesOn
 unfold markAt at h
 cases hx:l[k]? with
 | none=>rfl
 | some x =>
  rw [hx] at h
  simp only at h ⊢
  rw [h]
  rfl
theorem bsides_stop {l:List (ByteArray × ByteArray × Nat)}{r:Nat}{sub:Nat→Out (DataW Unit)}{k:Nat}{o:Out (DataW Unit)} (h:sub k=o) (hq:∀ e k1,o = .ok (e,k1)→markAt l k1 (rankOps r)=false):pSides l r sub k=o:=by
 unfold pSides
 rw [h]
 cases o with
 | error y=>rfl
 | ok z =>
  obtain ⟨e,k1⟩:=z
  exact bsidesOn_stop (hq e k1 rfl)
theorem ranked_down {l:List (ByteArray × ByteArray × Nat)}{f dp k:Nat}{o:Out (DataW Unit)} (hs:Starts l k) (h8:pRanked l f dp 8 k=o) (hq:∀ e k1,o = .ok (e,k1)→Stops l k1):pRanked l (f+8) dp 0 k=o:=by
 have q:=fun r (hr:r ∈ [1,2,4,5,6]) e k1 (he:o = .ok (e,k1))=>(hq e k1 he).1 r hr
 have r7:pRanked l (f+1) dp 7 k=o:=by
  unfold pRanked
  rw [if_neg (by decide),if_neg (by decide),if_pos rfl]
  unfold pAhead
  rw [hs.2.2]
  exact h8
 have r6:pRanked l (f+2) dp 6 k=o:=by
  unfold pRanked
  rw [if_neg (by decide),if_neg (by decide),if_neg (by decide),if_neg (by decide)]
  exact bsides_stop r7 (q 6 (by decide))
 have r5:pRanked l (f+3) dp 5 k=o:=by
  unfold pRanked
  rw [if_neg (by decide),if_neg (by decide),if_neg (by decide),if_neg (by decide)]
  exact bsides_stop r6 (q 5 (by decide))
 have r4:pRanked l (f+4) dp 4 k=o:=by
  unfold pRanked
  rw [if_neg (by decide),if_neg (by decide),if_neg (by decide),if_neg (by decide)]
  exact bsides_stop r5 (q 4 (by decide))
 have r3:pRanked l (f+5) dp 3 k=o:=by
  unfold pRanked
  rw [if_neg (by decide),if_pos rfl]
  unfold pAhead
  rw [hs.2.1]
  exact r4
 have r2:pRanked l (f+6) dp 2 k=o:=by
  unfold pRanked
  rw [if_neg (by decide),if_neg (by decide),if_neg (by decide),if_neg (by decide)]
  exact bsides_stop r3 (q 2 (by decide))
 have r1:pRanked l (f+7) dp 1 k=o:=by
  unfold pRanked
  rw [if_neg (by decide),if_neg (by decide),if_neg (by decide),if_neg (by decide)]
  exact bsides_stop r2 (q 1 (by decide))
 unfold pRanked
 rw [if_pos rfl]
 unfold pAhead
 rw [hs.1]
 exact r1
theorem bpost_stop {l:List (ByteArray × ByteArray × Nat)}{dp:Nat}{term:Nat→Out (DataW Unit)}{o:Out (DataW Unit)} (hq:∀ e k1,o = .ok (e,k1)→Stops l k1):pPost l dp term o=o:=by
 unfold pPost
 cases o with
 | error y=>rfl
 | ok z =>
  obtain ⟨e,k1⟩:=z
  have h:=hq e k1 rfl
  show pPostOn l dp term (l.length+1) e k1=_
  unfold pPostOn
  rw [h.2.1,h.2.2]
  rfl
structure Nest (l:List (ByteArray × ByteArray × Nat)) (k n:Nat):Prop where
 op:∀ j,j<n → ∃ i,l[k+j]?=some (tokL1 i)
 cl:∀ j,j<n → ∃ i,l[k+n+j]?=some (tokR1 i)
 stop:Stops l (k+2*n)
theorem stops_cl {l:List (ByteArray × ByteArray × Nat)}{k i:Nat} (h:l[k]?=some (tokR1 i)):Stops l k:=by
 refine ⟨fun r hr => ?_,mark_of h (by kernel_rfl),mark_of h (by kernel_rfl)⟩
 simp only [List.mem_cons,List.not_mem_nil,or_false] at hr
 rcases hr with rfl | rfl | rfl | rfl | rfl <;> exact mark_of h (by kernel_rfl)
theorem Nest.inner {l:List (ByteArray × ByteArray × Nat)}{k n:Nat} (h:Nest l k (n+2)):Nest l (k+1) (n+1):=by
 refine ⟨fun j hj => ?_,fun j hj => ?_,?_⟩
 ·obtain ⟨i,hi⟩:=h.op (j+1) (by omega)
  exact ⟨i,by rw [show k+1+j=k+(j+1) by omega];exact hi⟩
 ·obtain ⟨i,hi⟩:=h.cl j (by omega)
  exact ⟨i,by rw [show k+1+(n+1)+j=k+(n+2)+j by omega];exact hi⟩
 ·obtain ⟨i,hi⟩:=h.cl (n+1) (by omega)
  rw [show k+1+2*(n+1)=k+(n+2)+(n+1) by omega]
  exact stops_cl hi
structure Leaf (l:List (ByteArray × ByteArray × Nat)) (k m:Nat):Prop where
 none1:markAt l k [kIf]=false∧markAt l k [kWhile]=false∧markAt l k [kFor]=false∧markAt l k [kDef]=false∧markAt l k [kTry]=false
 none2:markAt l k [kBreak,kContinue,kPass]=false∧markAt l k [kGlobal,kNonlocal]=false∧markAt l k [kReturn]=false∧markAt l k [kRaise]=false∧markAt l k [kDel]=false
 noded:isKind l k dedentB.toList=false∧isKind l k endB.toList=false
 nl:∃ i,l[k+m]?=some (tokN i)
structure Blocks (l:List (ByteArray × ByteArray × Nat)) (k b m:Nat):Prop where
 head:∀ j,j<b→(∃ i,l[k+5*j]?=some (tokIf i))∧(∃ i,l[k+5*j+1]?=some (tokA i))∧(∃ i,l[k+5*j+2]?=some (tokC i))∧(∃ i,l[k+5*j+3]?=some (tokN i))∧(∃ i,l[k+5*j+4]?=some (tokI i))
 leaf:Leaf l (k+5*b) m
 ded:∀ j,j<b → ∃ i,l[k+5*b+m+1+j]?=some (tokD i)
 more:markAt l (k+5*b+m+1+b) [kElif]=false∧markAt l (k+5*b+m+1+b) [kElse]=false
theorem Blocks.inner {l:List (ByteArray × ByteArray × Nat)}{k b m:Nat} (h:Blocks l k (b+1) m):Blocks l (k+5) b m:=by
 refine ⟨fun j hj => ?_,?_,fun j hj => ?_,?_⟩
 ·have:=h.head (j+1) (by omega)
  rw [show k+5*(j+1)=k+5+5*j by omega] at this
  exact this
 ·have:=h.leaf
  rw [show k+5*(b+1)=k+5+5*b by omega] at this
  exact this
 ·obtain ⟨i,hi⟩:=h.ded j (by omega)
  exact ⟨i,by rw [show k+5+5*b+m+1+j=k+5*(b+1)+m+1+j by omega];exact hi⟩
 ·obtain ⟨i,hi⟩:=h.ded b (by omega)
  rw [show k+5+5*b+m+1+b=k+5*(b+1)+m+1+b by omega]
  exact ⟨mark_of hi (by kernel_rfl),mark_of hi (by kernel_rfl)⟩
theorem Blocks.first {l:List (ByteArray × ByteArray × Nat)}{k b m:Nat} (h:Blocks l k b m):isKind l k dedentB.toList=false∧isKind l k endB.toList=false:=by
 cases b with
 | zero=>exact h.leaf.noded
 | succ b =>
  obtain ⟨⟨i,hi⟩,_⟩:=h.head 0 (by omega)
  rw [Nat.mul_zero,Nat.add_zero] at hi
  exact ⟨kind_of hi (by kernel_rfl),kind_of hi (by kernel_rfl)⟩
theorem stmts_two {l:List (ByteArray × ByteArray × Nat)}{cb:List UInt8}{stmt:Nat→Out (DataW Unit)}{s:DataW Unit}{k k' f:Nat} (h0:isKind l k cb=false) (hs:stmt k = .ok (s,k')) (h1:isKind l k' cb=true):pStmts l cb stmt (f+2) [] k = .ok ([s],k'):=by
 unfold pStmts
 rw [h0]
 simp only [hs,cond_false]
 unfold pStmts
 rw [h1]
 rfl
theorem stmts_err {l:List (ByteArray × ByteArray × Nat)}{cb:List UInt8}{stmt:Nat→Out (DataW Unit)}{y:Nat × Bool}{k f:Nat} (h0:isKind l k cb=false) (hs:stmt k = .error y):pStmts l cb stmt (f+1) [] k = .error y:=by
 unfold pStmts
 rw [h0]
 simp only [hs,cond_false]
end Go.Proofs.YtknjeecjhahbaaaGreatDoor
namespace Go.Proofs.YtknjeecjhahbaaaGreatDoor
open Go.RowKit

structure Bytes (C:List UInt8):Prop where
 first:∃ c r,C=c::r∧c≠32∧c≠35
 noend:noEnd C
theorem blanks_rep (m:Nat) {C:List UInt8} (h:Bytes C):blanksL (List.replicate m 32++C)=m:=by
 obtain ⟨c,r,rfl,h1,_⟩:=h.first
 have hc:blankB (c.toNat:Int)=false:=by
  have:c.toNat≠32:=fun e=>h1 (UInt8.toNat_inj.mp e)
  simp [blankB]
  omega
 unfold blanksL
 induction m with
 | zero=>simp [hc]
 | succ m ih =>
  rw [List.replicate_succ,List.cons_append,List.takeWhile]
  have:blankB (((32:UInt8).toNat:Nat):Int)=true:=by decide
  simp only [this,List.length_cons,ih]
theorem skip_rep (m:Nat) {C:List UInt8} (h:Bytes C):skipL (List.replicate m 32++C)=m:=by
 have hb:=blanks_rep m h
 obtain ⟨c,r,rfl,_,h2⟩:=h.first
 unfold skipL
 rw [hb,List.drop_left' (by simp)]
 have:c.toNat≠35:=fun e=>h2 (UInt8.toNat_inj.mp e)
 simp only
 rw [if_neg (by simp;omega)]
theorem restL_rep (m f o:Nat) {C:List UInt8} (h:Bytes C):restL (f+1) (List.replicate m 32++C) o=restL (f+1) C (o+m):=by
 have h1:=skip_rep m h
 have h0:skipL C=0:=by simpa using skip_rep 0 h
 obtain ⟨c,r,hC,_,_⟩:=h.first
 have hne:¬ m=(List.replicate m (32:UInt8)++C).length:=by rw [hC];simp
 have hne0:¬ 0=C.length:=by rw [hC];simp
 unfold restL
 rw [h1,h0,if_neg hne,if_neg hne0,List.drop_left' (by simp),List.drop_zero]
 cases tokL C with
 | none=>simp
 | some x =>
  obtain ⟨k,t,j⟩:=x
  simp only [Nat.zero_add,Nat.add_zero]
  rw [←List.drop_drop,List.drop_left' (by simp),show o+(m+j)=o+m+j by omega]
theorem line_of (s:ByteArray) (C rest:List UInt8) (m:Nat) (pre:List UInt8) (h:s.data.toList=pre++(List.replicate m 32++C++10::rest)) (hC:Bytes C) (ts:List (ByteArray × ByteArray × Nat)) (hr:restL (m+C.length+1) C (pre.length+m) = .ok ts)
  (st:List Int) (n:Nat) (tk:List Value) (st':List Int) (n':Nat) (tk':List Value) (hst:settleP st m (pre.length+m) n tk=some (st',n',tk')) :
  lineStep s ⟨pre.length,st,n,tk⟩ = .ok ⟨pre.length+m+C.length+1,st',n'+ts.length+1,tk'++cellsOf ts++tokCells kNewline ⟨#[]⟩ (pre.length+m+C.length)⟩:=by
 have hz:=data_size h
 simp at hz
 have hn:noEnd (List.replicate m 32++C):=fun c hc=>by
  rcases List.mem_append.1 hc with h1 | h1
  ·rw [List.eq_of_mem_replicate h1]
   decide
  ·exact hC.noend c h1
 have hl:=lineStep_list s (10::rest) (List.replicate m 32++C) pre (.inr ⟨rest,rfl⟩) hn h st n tk
 have hsk:=skip_rep m hC
 have hb:=blanks_rep m hC
 obtain ⟨c,r,hc,_,_⟩:=id hC.first
 rw [hl,hsk,hb,if_neg (by rw [hc];simp),hst]
 have e:restL ((List.replicate m (32:UInt8)++C).length+1) (List.replicate m 32++C) pre.length = .ok ts:=by
  rw [restL_rep m _ _ hC]
  simpa using hr
 simp only [e]
 have e2:(List.replicate m (32:UInt8)++C).length=m+C.length:=by simp
 rw [e2]
 unfold afterLine
 rw [if_pos (by omega),←Nat.add_assoc]
theorem restL_nil (f o:Nat):restL (f+1) [] o = .ok []:=by
 unfold restL
 rw [if_pos (by rfl)]
def pfx (i m:Nat):List (ByteArray × ByteArray × Nat):=if m=0 then [] else [tokI i]
def desc:Nat→List Int
 | 0 => [0]
 | m+1=>((m+1:Nat):Int)::desc m
def ahead:Nat→List Int
 | 0 => [0]
 | m+1=>desc m
theorem desc_head (m:Nat):∃ r,desc m=(m:Int)::r:=by
 cases m with
 | zero=>exact ⟨[],rfl⟩
 | succ m=>exact ⟨desc m,rfl⟩
theorem settle_ahead (m i n:Nat) (tk:List Value):settleP (ahead m) (m:Int) i n tk=some (desc m,n+(pfx i m).length,tk++cellsOf (pfx i m)):=by
 cases m with
 | zero=>simp [settleP,ahead,desc,pfx,popTo,dedents,cellsOf]
 | succ m =>
  obtain ⟨r,hr⟩:=desc_head m
  show settleP (desc m) _ i n tk=some (((m+1:Nat):Int)::desc m,_,_)
  rw [hr]
  unfold settleP
  simp only
  rw [if_pos (by omega)]
  simp [pfx,cellsOf,tokI]
end Go.Proofs.YtknjeecjhahbaaaGreatDoor
