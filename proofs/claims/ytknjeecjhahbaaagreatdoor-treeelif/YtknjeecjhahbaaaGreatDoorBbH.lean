/- Package lex, plainly: lines one behind the other. -/
import Derived.Test.YtknjeecjhahbaaaGreatDoorBbE
set_option linter.all false
namespace Go.Proofs.YtknjeecjhahbaaaGreatDoor
open Go.RowKit

theorem run_line {s:ByteArray}{pre:List UInt8}{st:List Int}{n:Nat}{tk:List Value} (I:Inv s ⟨pre.length,st,n,tk⟩) (C rest:List UInt8) (m:Nat) (h:s.data.toList=pre++(List.replicate m 32++C++10::rest)) (hC:Bytes C) {ts:TokL} (hr:restL (m+C.length+1) C (pre.length+m) = .ok ts)
  {st':List Int}{n':Nat}{tk':List Value} (hst:settleP st m (pre.length+m) n tk=some (st',n',tk')) :
  runLines s (s.size - pre.length) ⟨pre.length,st,n,tk⟩=runLines s (s.size - (pre++(List.replicate m 32++C ++ [10])).length) ⟨(pre++(List.replicate m 32++C ++ [10])).length,st',n'+ts.length+1,tk'++cellsOf ts++tokCells kNewline ⟨#[]⟩ (pre.length+m+C.length)⟩∧Inv s ⟨(pre++(List.replicate m 32++C ++ [10])).length,st',n'+ts.length+1,tk'++cellsOf ts++tokCells kNewline ⟨#[]⟩ (pre.length+m+C.length)⟩:=by
 have l1:=line_of s C rest m pre h hC ts hr st n tk st' n' tk' hst
 have hz:=data_size h
 simp at hz
 have hlt:pre.length<s.size:=by omega
 have e:(pre++(List.replicate m (32:UInt8)++C ++ [10])).length=pre.length+m+C.length+1:=by simp;omega
 rw [e]
 exact ⟨runLines_go I hlt l1,(lineStep_inv I hlt l1).1⟩
theorem settle_keep (x:Int) (xs:List Int) (i n:Nat) (tk:List Value):settleP (x::xs) x i n tk=some (x::xs,n,tk):=by
 unfold settleP
 simp [popTo,dedents]
theorem settle_inl {x y:Int} (h:x<y) (xs:List Int) (i n:Nat) (tk:List Value):settleP (x::xs) y i n tk=some (y::x::xs,n+1,tk++tokCells kIndent ⟨#[]⟩ i):=by
 unfold settleP
 simp only
 rw [if_pos h]
theorem settle_outl {x y:Int} (h:x<y) (xs:List Int) (i n:Nat) (tk:List Value):settleP (y::x::xs) x i n tk=some (x::xs,n+1,tk++dedents i 1):=by
 unfold settleP
 have h1:¬ y<x:=by omega
 have h2:popTo x (y::x::xs)=(1,x::xs):=by
  unfold popTo
  rw [if_pos h]
  unfold popTo
  simp
 simp [h1,h2]
def Kt (l m:TokL):Prop:=l.map (fun x=>(x.1,x.2.1))=m.map (fun x=>(x.1,x.2.1))
theorem Kt.len {l m:TokL} (h:Kt l m):l.length=m.length:=by simpa using congrArg List.length h
theorem Kt.app {l m l' m':TokL} (h:Kt l m) (h':Kt l' m'):Kt (l++l') (m++m'):=by
 unfold Kt at *
 rw [List.map_append,List.map_append,h,h']
theorem Kt.refl (l:TokL):Kt l l:=rfl
theorem Kt.one (k t:ByteArray) (i j:Nat):Kt [(k,t,i)] [(k,t,j)]:=rfl
theorem Kt.al {l m:TokL} (h:Kt l m):Al l m:=by
 apply al_of
 unfold ktOf
 have e:=congrArg (List.map fun (x:ByteArray × ByteArray)=>(x.1.toList,x.2.toList)) h
 simpa [List.map_map,Function.comp_def] using e
theorem run_ktl {s:ByteArray}{pre:List UInt8}{st:List Int}{l lc:TokL} (I:Inv s ⟨pre.length,st,l.length,cellsOf l⟩) (hk:Kt l lc) (C rest:List UInt8) (m:Nat) (h:s.data.toList=pre++(List.replicate m 32++C++10::rest)) (hC:Bytes C) {T Tc:TokL} (hr:restL (C.length+1) C 0 = .ok T) (hT:Kt T Tc)
  {st':List Int}{dc:TokL} (hst:∀ i n tk,settleP st m i n tk=some (st',n+dc.length,tk++cellsOf (dc.map fun x=>(x.1,x.2.1,i)))) :
  ∃ l',runLines s (s.size - pre.length) ⟨pre.length,st,l.length,cellsOf l⟩=runLines s (s.size - (pre++(List.replicate m 32++C ++ [10])).length) ⟨(pre++(List.replicate m 32++C ++ [10])).length,st',l'.length,cellsOf l'⟩∧Inv s ⟨(pre++(List.replicate m 32++C ++ [10])).length,st',l'.length,cellsOf l'⟩∧Kt l' (lc++(dc++(Tc ++ [tokN 0]))):=by
 obtain ⟨T',hr',hk'⟩:=rest_place hr (by omega) (pre.length+m)
 have hr2:restL (m+C.length+1) C (pre.length+m) = .ok T':=by rw [←hr'];exact restL_fuel _ _ _ _ (by omega) (by omega)
 have q:=run_line I C rest m h hC hr2 (hst (pre.length+m) l.length (cellsOf l))
 refine ⟨l++((dc.map fun x=>(x.1,x.2.1,pre.length+m))++(T' ++ [tokN (pre.length+m+C.length)])),?_⟩
 have e1:l.length+dc.length+T'.length+1=(l++((dc.map fun x=>(x.1,x.2.1,pre.length+m))++(T' ++ [tokN (pre.length+m+C.length)]))).length:=by simp;omega
 have e2:cellsOf l++cellsOf (dc.map fun x=>(x.1,x.2.1,pre.length+m))++cellsOf T'++tokCells kNewline ⟨#[]⟩ (pre.length+m+C.length)=cellsOf (l++((dc.map fun x=>(x.1,x.2.1,pre.length+m))++(T' ++ [tokN (pre.length+m+C.length)]))):=by
  simp only [cells_append,List.append_assoc]
  simp [cellsOf,tokN]
 rw [e1,e2] at q
 refine ⟨q.1,q.2,hk.app (Kt.app ?_ (Kt.app (Eq.trans hk' hT) (Kt.one _ _ _ _)))⟩
 unfold Kt
 rw [List.map_map]
 rfl
structure Kw (w:List UInt8) (k:ByteArray) (n:Nat):Prop where
 skip:∀ R,skipL (w++R)=0
 tok:∀ R,tokL (w++R)=some (kWord,k,n)
 drop:∀ R,(w++R).drop n=32::R
 ne:w ≠ []
 len:w.length=n+1
theorem rest_kw {w:List UInt8}{k:ByteArray}{n:Nat} (W:Kw w k n) {X:List UInt8} (hX:Neat X) {T:TokL}{o:Nat} (h:restL (X.length+1) X o = .ok T):∃ T',restL ((w++(X ++ [58])).length+1) (w++(X ++ [58])) 0 = .ok T'∧Kt T' ((kWord,k,0)::(T ++ [(kOp,colon,0)])):=by
 obtain ⟨T1,h1,k1⟩:=rest_place h (by omega) (n+1)
 have hc:=rest_cut (Z:=[58]) ⟨58,[],rfl,.inr rfl⟩ (X.length+1) (X.length+2+n) X (n+1) T1 h1 hX (by simp;omega)
 have hz:restL (([58]:List UInt8).length+1) [58] (n+1+X.length) = .ok [(kOp,colon,n+1+X.length)]:=by
  have e0:skipL [58]=0:=by kernel_rfl
  have e1:tokL [58]=some (kOp,colon,1):=by kernel_rfl
  rw [restL_eq,e0,if_neg (by decide),List.drop_zero,e1]
  rfl
 rw [hz] at hc
 simp only at hc
 refine ⟨(kWord,k,0)::(T1 ++ [(kOp,colon,n+1+X.length)]),?_,?_⟩
 ·have hl:(w++(X ++ [58])).length+1=(X.length+2+n)+1:=by simp [W.len];omega
  have hn:¬ 0=(w++(X ++ [58])).length:=by simp [W.len]
  rw [hl,restL_eq,W.skip,if_neg hn,List.drop_zero,W.tok]
  simp only [Nat.zero_add]
  rw [W.drop,show X.length+2+n=(X.length+1+n)+1 by omega,restL_blank,show X.length+1+n+1=X.length+2+n by omega,hc]
 ·unfold Kt
  simp [k1]
end Go.Proofs.YtknjeecjhahbaaaGreatDoor
namespace Go.Proofs.YtknjeecjhahbaaaGreatDoor
open Go.RowKit

theorem lex_fin {s:ByteArray}{l lc:TokL}{L:Nat}{st st':List Int}{dc:TokL} (hr:runLines s s.size ⟨0,[0],0,[]⟩=runLines s (s.size - L) ⟨L,st,l.length,cellsOf l⟩) (hL:¬ L<s.size) (hk:Kt l lc) (hst:∀ i n tk,settleP st 0 i n tk=some (st',n+dc.length,tk++cellsOf (dc.map fun x=>(x.1,x.2.1,i)))) :
  ∃ l',lexP s = .ok (l'.length,cellsOf l')∧Kt l' (lc++(dc ++ [tokE 0])):=by
 have e:=hr.trans (runLines_end (σ:=⟨L,st,l.length,cellsOf l⟩) hL)
 refine ⟨l++((dc.map fun x=>(x.1,x.2.1,L)) ++ [tokE L]),?_,hk.app (Kt.app ?_ (Kt.one _ _ _ _))⟩
 ·unfold lexP
  rw [e]
  simp only [hst]
  congr 2
  ·simp;omega
  ·simp only [cells_append,List.append_assoc]
   simp [cellsOf,tokE]
 ·unfold Kt
  rw [List.map_map]
  rfl
def ifC:List UInt8:=[105,102,32]
def elifC:List UInt8:=[101,108,105,102,32]
def elseC:List UInt8:=[101,108,115,101,58]
def passC:List UInt8:=[112,97,115,115]
def tkPass:ByteArray × ByteArray × Nat:=(kWord,kPass,0)
def tkElse:ByteArray × ByteArray × Nat:=(kWord,kElse,0)
def tkElif:ByteArray × ByteArray × Nat:=(kWord,kElif,0)
def tkIf:ByteArray × ByteArray × Nat:=(kWord,kIf,0)
def tkCol:ByteArray × ByteArray × Nat:=(kOp,colon,0)
theorem kwIf:Kw ifC kIf 2:=⟨fun R=>by kernel_rfl,fun R=>by kernel_rfl,fun R=>rfl,by decide,rfl⟩
theorem kwElif:Kw elifC kElif 4:=⟨fun R=>by kernel_rfl,fun R=>by kernel_rfl,fun R=>rfl,by decide,rfl⟩
theorem rest_pass:restL (passC.length+1) passC 0 = .ok [tkPass]:=by kernel_rfl
theorem rest_else:restL (elseC.length+1) elseC 0 = .ok [tkElse,(kOp,colon,4)]:=by kernel_rfl
theorem bytes_pass:Bytes passC:=⟨⟨112,[97,115,115],rfl,by decide,by decide⟩,by unfold noEnd;decide⟩
theorem bytes_else:Bytes elseC:=⟨⟨101,[108,115,101,58],rfl,by decide,by decide⟩,by unfold noEnd;decide⟩
theorem bytes_kw {c:UInt8}{w:List UInt8} (h1:c≠32) (h2:c≠35) (hw:∀ x∈c::w,x≠10) {X:List UInt8} (hX:Neat X):Bytes ((c::w)++(X ++ [58])):=⟨⟨c,w++(X ++ [58]),rfl,h1,h2⟩,fun x hx=>by
 rcases List.mem_append.1 hx with h | h
 ·exact hw x h
 ·rcases List.mem_append.1 h with h | h
  ·exact scan_end X 0 0 hX x h
  ·rw [List.mem_singleton.1 h];decide⟩
theorem bytes_if {X:List UInt8} (hX:Neat X):Bytes (ifC++(X ++ [58])):=bytes_kw (c:=105) (w:=[102,32]) (by decide) (by decide) (by decide) hX
theorem bytes_elif {X:List UInt8} (hX:Neat X):Bytes (elifC++(X ++ [58])):=bytes_kw (c:=101) (w:=[108,105,102,32]) (by decide) (by decide) (by decide) hX
theorem cells0 (i:Nat):cellsOf (([]:TokL).map fun x=>(x.1,x.2.1,i)) = []:=rfl
theorem st_keep (x:Int) (xs:List Int) (i n:Nat) (tk:List Value):settleP (x::xs) x i n tk=some (x::xs,n+([]:TokL).length,tk++cellsOf (([]:TokL).map fun x=>(x.1,x.2.1,i))):=by
 rw [settle_keep,cells0]
 simp
theorem st_in {x y:Int} (h:x<y) (xs:List Int) (i n:Nat) (tk:List Value):settleP (x::xs) y i n tk=some (y::x::xs,n+([tokI 0]:TokL).length,tk++cellsOf (([tokI 0]:TokL).map fun x=>(x.1,x.2.1,i))):=by
 rw [settle_inl h]
 simp [cellsOf,tokI]
theorem ded_cells (i:Nat):dedents i 1=cellsOf (([tokD 0]:TokL).map fun x=>(x.1,x.2.1,i)):=by simp [dedents,cellsOf,tokD,kDedent]
theorem st_out {x y:Int} (h:x<y) (xs:List Int) (i n:Nat) (tk:List Value):settleP (y::x::xs) x i n tk=some (x::xs,n+([tokD 0]:TokL).length,tk++cellsOf (([tokD 0]:TokL).map fun x=>(x.1,x.2.1,i))):=by
 rw [settle_outl h,ded_cells]
 rfl
theorem st_two (i n:Nat) (tk:List Value):settleP [4,2,0] 0 i n tk=some ([0],n+([tokD 0,tokD 0]:TokL).length,tk++cellsOf (([tokD 0,tokD 0]:TokL).map fun x=>(x.1,x.2.1,i))):=by
 have h:popTo 0 [4,2,0]=(2,[0]):=by decide
 unfold settleP
 simp [h,dedents,cellsOf,tokD,kDedent]
def pTxt (X Y:List UInt8):List UInt8:=ifC++(X ++ [58])++10::(List.replicate 2 32++passC++10::(elifC++(Y ++ [58])++10::(List.replicate 2 32++passC ++ [10])))
def blkT:TokL:=[tokN 0,tokI 0,tkPass,tokN 0]
def pTok (T U:TokL):TokL:=(tkIf::T)++(tkCol::(blkT++(tokD 0::tkElif::(U++(tkCol::(blkT ++ [tokD 0,tokE 0]))))))
theorem p_lex {s:ByteArray}{X Y:List UInt8} (hX:Neat X) (hY:Neat Y) {T U:TokL}{o o':Nat} (hT:restL (X.length+1) X o = .ok T) (hU:restL (Y.length+1) Y o' = .ok U) (h:s.data.toList=pTxt X Y):∃ l,lexP s = .ok (l.length,cellsOf l)∧Kt l (pTok T U):=by
 obtain ⟨T1,r1,k1⟩:=rest_kw kwIf hX hT
 obtain ⟨U1,r2,k2⟩:=rest_kw kwElif hY hU
 unfold pTxt at h
 obtain ⟨l1,a1,I1,q1⟩:=run_ktl (pre:=[]) (l:=[]) (lc:=[]) (inv0 s) (Kt.refl _) (ifC++(X ++ [58])) _ 0 (by simpa using h) (bytes_if hX) r1 k1 (fun i n tk=>st_keep 0 [] i n tk)
 obtain ⟨l2,a2,I2,q2⟩:=run_ktl I1 q1 passC (elifC++(Y ++ [58])++10::(List.replicate 2 32++passC ++ [10])) 2 (by rw [h];simp) bytes_pass rest_pass (Kt.refl _) (fun i n tk=>st_in (x:=0) (y:=2) (by decide) [] i n tk)
 obtain ⟨l3,a3,I3,q3⟩:=run_ktl I2 q2 (elifC++(Y ++ [58])) (List.replicate 2 32++passC ++ [10]) 0 (by rw [h];simp) (bytes_elif hY) r2 k2 (fun i n tk=>st_out (x:=0) (y:=2) (by decide) [] i n tk)
 obtain ⟨l4,a4,I4,q4⟩:=run_ktl I3 q3 passC [] 2 (by rw [h];simp) bytes_pass rest_pass (Kt.refl _) (fun i n tk=>st_in (x:=0) (y:=2) (by decide) [] i n tk)
 have hz:=data_size h
 obtain ⟨l,b1,b2⟩:=lex_fin ((a1.trans a2).trans (a3.trans a4)) (by simp at hz ⊢;omega) q4 (fun i n tk=>st_out (x:=0) (y:=2) (by decide) [] i n tk)
 refine ⟨l,b1,?_⟩
 have e:pTok T U=((((([]++([]++((kWord,kIf,0)::(T ++ [(kOp,colon,0)]) ++ [tokN 0])))++([tokI 0]++([tkPass] ++ [tokN 0])))++([tokD 0]++((kWord,kElif,0)::(U ++ [(kOp,colon,0)]) ++ [tokN 0])))++([tokI 0]++([tkPass] ++ [tokN 0])))++([tokD 0] ++ [tokE 0])):=by
  simp [pTok,blkT,tkIf,tkElif,tkCol]
 rw [e]
 exact b2
def qTxt (X Y:List UInt8):List UInt8:=ifC++(X ++ [58])++10::(List.replicate 2 32++passC++10::(elseC++10::(List.replicate 2 32++(ifC++(Y ++ [58]))++10::(List.replicate 4 32++passC ++ [10]))))
def qTok (T U:TokL):TokL:=(tkIf::T)++(tkCol::(blkT++(tokD 0::tkElse::tkCol::tokN 0::tokI 0::tkIf::(U++(tkCol::(blkT ++ [tokD 0,tokD 0,tokE 0]))))))
theorem q_lex {s:ByteArray}{X Y:List UInt8} (hX:Neat X) (hY:Neat Y) {T U:TokL}{o o':Nat} (hT:restL (X.length+1) X o = .ok T) (hU:restL (Y.length+1) Y o' = .ok U) (h:s.data.toList=qTxt X Y):∃ l,lexP s = .ok (l.length,cellsOf l)∧Kt l (qTok T U):=by
 obtain ⟨T1,r1,k1⟩:=rest_kw kwIf hX hT
 obtain ⟨U1,r2,k2⟩:=rest_kw kwIf hY hU
 unfold qTxt at h
 obtain ⟨l1,a1,I1,q1⟩:=run_ktl (pre:=[]) (l:=[]) (lc:=[]) (inv0 s) (Kt.refl _) (ifC++(X ++ [58])) _ 0 (by simpa using h) (bytes_if hX) r1 k1 (fun i n tk=>st_keep 0 [] i n tk)
 obtain ⟨l2,a2,I2,q2⟩:=run_ktl I1 q1 passC (elseC++10::(List.replicate 2 32++(ifC++(Y ++ [58]))++10::(List.replicate 4 32++passC ++ [10]))) 2 (by rw [h];simp) bytes_pass rest_pass (Kt.refl _) (fun i n tk=>st_in (x:=0) (y:=2) (by decide) [] i n tk)
 obtain ⟨l3,a3,I3,q3⟩:=run_ktl I2 q2 elseC (List.replicate 2 32++(ifC++(Y ++ [58]))++10::(List.replicate 4 32++passC ++ [10])) 0 (by rw [h];simp) bytes_else rest_else (show Kt _ [tkElse,tkCol] from rfl) (fun i n tk=>st_out (x:=0) (y:=2) (by decide) [] i n tk)
 obtain ⟨l4,a4,I4,q4⟩:=run_ktl I3 q3 (ifC++(Y ++ [58])) (List.replicate 4 32++passC ++ [10]) 2 (by rw [h];simp) (bytes_if hY) r2 k2 (fun i n tk=>st_in (x:=0) (y:=2) (by decide) [] i n tk)
 obtain ⟨l5,a5,I5,q5⟩:=run_ktl I4 q4 passC [] 4 (by rw [h];simp) bytes_pass rest_pass (Kt.refl _) (fun i n tk=>st_in (x:=2) (y:=4) (by decide) [0] i n tk)
 have hz:=data_size h
 obtain ⟨l,b1,b2⟩:=lex_fin ((a1.trans a2).trans ((a3.trans a4).trans a5)) (by simp at hz ⊢;omega) q5 (fun i n tk=>st_two i n tk)
 refine ⟨l,b1,?_⟩
 have e:qTok T U=(((((([]++([]++((kWord,kIf,0)::(T ++ [(kOp,colon,0)]) ++ [tokN 0])))++([tokI 0]++([tkPass] ++ [tokN 0])))++([tokD 0]++([tkElse,tkCol] ++ [tokN 0])))++([tokI 0]++((kWord,kIf,0)::(U ++ [(kOp,colon,0)]) ++ [tokN 0])))++([tokI 0]++([tkPass] ++ [tokN 0])))++([tokD 0,tokD 0] ++ [tokE 0])):=by
  simp [qTok,blkT,tkIf,tkElse,tkCol]
 rw [e]
 exact b2
end Go.Proofs.YtknjeecjhahbaaaGreatDoor
namespace Go.Proofs.YtknjeecjhahbaaaGreatDoor
open Go.RowKit

def sPass:DataW Unit:=mkS kPass ⟨#[]⟩ [] [] [] []
theorem pass_at {l:TokL}{k d:Nat} (h0:l[k]?=some tkPass) (h1:l[k+1]?=some (tokN 0)):pStmtAt l (d+1) k = .ok (sPass,k+2):=by
 have m1:markAt l k [kIf]=false:=mark_of h0 (by kernel_rfl)
 have m2:markAt l k [kWhile]=false:=mark_of h0 (by kernel_rfl)
 have m3:markAt l k [kFor]=false:=mark_of h0 (by kernel_rfl)
 have m4:markAt l k [kDef]=false:=mark_of h0 (by kernel_rfl)
 have m5:markAt l k [kTry]=false:=mark_of h0 (by kernel_rfl)
 have b1:markAt l k [kBreak,kContinue,kPass]=true:=mark_of h0 (by kernel_rfl)
 have tx:txtAt l k=kPass:=by unfold txtAt;rw [h0];rfl
 have hn:isKind l (k+1) [110,101,119,108,105,110,101]=true:=kind_of h1 (by kernel_rfl)
 unfold pStmtAt pStmtIn pStatement
 rw [m1,m2,m3,m4,m5]
 unfold pLine
 rw [b1,tx]
 show (bif isKind l (k+1) [110,101,119,108,105,110,101] then _ else _)=_
 rw [hn]
 rfl
structure BlkAt (l:TokL) (k:Nat):Prop where
 c:l[k]?=some tkCol
 n:l[k+1]?=some (tokN 0)
 i:l[k+2]?=some (tokI 0)
 p:l[k+3]?=some tkPass
 m:l[k+4]?=some (tokN 0)
 d:l[k+5]?=some (tokD 0)
theorem blk_open {l:TokL}{k bl:Nat}{inner:Nat→Out (List (DataW Unit))} (h0:l[k]?=some tkCol) (h1:l[k+1]?=some (tokN 0)) (h2:l[k+2]?=some (tokI 0)) (hb:bl≠12) {ss:List (DataW Unit)}{k':Nat} (hi:inner (k+3) = .ok (ss,k')) (hd:l[k']?=some (tokD 0)):pBlockOf l bl inner k = .ok (ss,k'+1):=by
 unfold pBlockOf
 rw [mark_of h0 (show markB tkCol [colon]=true by kernel_rfl)]
 show pBlock l bl inner (k+1)=_
 unfold pBlock
 rw [kind_of h1 (show ((tokN 0).1.toList == [110,101,119,108,105,110,101])=true by kernel_rfl),kind_of h2 (show ((tokI 0).1.toList == [105,110,100,101,110,116])=true by kernel_rfl)]
 simp only [cond_true]
 rw [if_neg hb,show k+1+2=k+3 by omega,hi]
 simp only
 rw [kind_of hd (show ((tokD 0).1.toList == [100,101,100,101,110,116])=true by kernel_rfl)]
 rfl
theorem blk_pass {l:TokL}{k d:Nat} (B:BlkAt l k) (hd:d+1≤11) (hl:0<l.length):pBlockOf l (12 - (d+1)) (fun k'=>pStmts l dedentB.toList (pStmtAt l (d+1)) (l.length+1) [] k') k = .ok ([sPass],k+6):=by
 obtain ⟨n,hn⟩:∃ n,l.length=n+1:=⟨l.length - 1,by omega⟩
 have hs:pStmts l dedentB.toList (pStmtAt l (d+1)) (l.length+1) [] (k+3) = .ok ([sPass],k+5):=by
  rw [hn]
  exact stmts_two (kind_of B.p (by kernel_rfl)) (pass_at B.p (by rw [show k+3+1=k+4 by omega];exact B.m)) (kind_of B.d (by kernel_rfl))
 exact blk_open B.c B.n B.i (by omega) hs B.d
theorem choice_eq {l:TokL}{one blk:Nat→Out (List (DataW Unit))}{f k k1 k2:Nat}{el ss:List (DataW Unit)} (h1:one k = .ok (el,k1)) (h2:blk k1 = .ok (ss,k2)):pChoice l one blk (f+1) k=bif markAt l k2 [kElif] then (match pChoice l one blk f (k2+1) with
     | .error y=>.error y
     | .ok (s,k3)=>.ok (mkS kIf ⟨#[]⟩ [] el ss [s],k3)) else bif markAt l k2 [kElse] then (match blk (k2+1) with
     | .error y=>.error y
     | .ok (es,k3)=>.ok (mkS kIf ⟨#[]⟩ [] el ss es,k3)) else .ok (mkS kIf ⟨#[]⟩ [] el ss [],k2):=by
 conv=>lhs;unfold pChoice
 rw [h1]
 simp only
 rw [h2]
 rfl
theorem if_at {l:TokL}{k d:Nat}{x:ByteArray × ByteArray × Nat} (h:l[k]?=some x) (hx:markB x [kIf]=true):pStmtAt l (d+1) k=pChoice l (pOneAt l) (pBlockOf l (12 - d) (fun k'=>pStmts l dedentB.toList (pStmtAt l d) (l.length+1) [] k')) l.length (k+1):=by
 conv=>lhs;unfold pStmtAt pStmtIn pStatement
 rw [mark_of h hx]
 rfl
theorem pTok_len (T U:TokL):(pTok T U).length=T.length+U.length+15:=by simp [pTok,blkT];omega
theorem qTok_len (T U:TokL):(qTok T U).length=T.length+U.length+20:=by simp [qTok,blkT];omega
theorem app_at {A B:TokL} (j:Nat):(A++B)[A.length+j]?=B[j]?:=by rw [List.getElem?_append_right (by omega),Nat.add_sub_cancel_left]
theorem term_there {T:TokL}{i j s:Nat}{e:DataW Unit}{l:TokL} (h:pTerm (raiseT T i j) 1 = .ok (e,T.length+1)) (hl:T.length+3≤l.length) (hg:∀ q,q<T.length → ∃ (kd tx:ByteArray) (a b:Nat),T[q]?=some (kd,tx,a)∧l[q+1+s]?=some (kd,tx,b)) (hc:l[T.length+1+s]?=some tkCol):pTerm l (1+s) = .ok (e,T.length+1+s):=by
 have H:Sh (raiseT T i j) l s 1 (T.length+1):=by
  refine ⟨by omega,fun k hk' => ?_,⟨_,raiseT_nl T i j,markB_nl i,by kernel_rfl,by kernel_rfl,by kernel_rfl⟩,⟨tkCol,hc,by kernel_rfl,by kernel_rfl,by kernel_rfl,fun r hr => ?_⟩⟩
  ·obtain ⟨q,rfl⟩:∃ q,k=q+1:=⟨k - 1,by omega⟩
   have hq:q<T.length:=by omega
   obtain ⟨kd,tx,a,b,g1,g2⟩:=hg q hq
   exact ⟨kd,tx,a,b,(raiseT_in hq).trans g1,g2⟩
  ·simp only [List.mem_cons,List.not_mem_nil,or_false] at hr
   rcases hr with rfl | rfl | rfl | rfl | rfl <;> kernel_rfl
 have hh:∀ y,l[T.length+1+s]?=some y→markB y [kLambda]=false∧markB y [kNot]=false∧markB y [kMinus]=false:=fun y hy=>by
  rw [hc] at hy
  cases hy
  exact ⟨by kernel_rfl,by kernel_rfl,by kernel_rfl⟩
 have F:=sh_ranked (D:=False) H hh (fuelE (raiseT T i j)) (fuelE l) 0 0 0 1 (by unfold fuelE;rw [raiseT_len];omega) (by omega) ⟨by omega,by omega⟩ (fun _=>rfl)
 obtain ⟨_,_,F⟩:=F e (T.length+1) h
 rcases F with F | F
 ·exact F
 ·exact F.1.elim
theorem one_at {l:TokL}{k k':Nat}{e:DataW Unit} (h:pTerm l k = .ok (e,k')):pOneAt l k = .ok ([e],k'):=by
 unfold pOneAt pOne
 rw [h]
theorem kt_self {T:TokL}{q:Nat} (hq:q<T.length) {l:TokL}{k:Nat} (h:l[k]?=T[q]?):∃ (kd tx:ByteArray) (a b:Nat),T[q]?=some (kd,tx,a)∧l[k]?=some (kd,tx,b):=
 ⟨T[q].1,T[q].2.1,T[q].2.2,T[q].2.2,List.getElem?_eq_getElem hq,h.trans (List.getElem?_eq_getElem hq)⟩
def sIf2 (e1 e2:DataW Unit):DataW Unit:=mkS kIf ⟨#[]⟩ [] [e1] [sPass] [mkS kIf ⟨#[]⟩ [] [e2] [sPass] []]
theorem p_read {T U:TokL}{i j i' j':Nat}{e1 e2:DataW Unit} (h1:pTerm (raiseT T i j) 1 = .ok (e1,T.length+1)) (h2:pTerm (raiseT U i' j') 1 = .ok (e2,U.length+1)):∃ k,pRead (pTok T U) = .ok ([sIf2 e1 e2],k):=by
 obtain ⟨l,hl⟩:∃ l,l=pTok T U:=⟨_,rfl⟩
 have hlen:l.length=T.length+U.length+15:=by rw [hl,pTok_len]
 have a0:l[0]?=some tkIf:=by rw [hl];rfl
 have aT:∀ q,q<T.length→l[q+1+0]?=T[q]?:=fun q hq=>by
  rw [hl,Nat.add_zero]
  unfold pTok
  rw [List.getElem?_append_left (by simp;omega),List.getElem?_cons_succ]
 have aR:∀ q,l[T.length+1+q]?=(tkCol::(blkT++(tokD 0::tkElif::(U++(tkCol::(blkT ++ [tokD 0,tokE 0]))))))[q]?:=fun q=>by
  rw [hl]
  unfold pTok
  exact app_at (A:=tkIf::T) q
 have aU:∀ q,q<U.length→l[q+1+(T.length+7)]?=U[q]?:=fun q hq=>by
  rw [show q+1+(T.length+7)=T.length+1+(q+7) by omega,aR]
  show (U++(tkCol::(blkT ++ [tokD 0,tokE 0])))[q]?=_
  rw [List.getElem?_append_left hq]
 have aS:∀ q,l[T.length+U.length+8+q]?=(tkCol::(blkT ++ [tokD 0,tokE 0]))[q]?:=fun q=>by
  rw [show T.length+U.length+8+q=T.length+1+((U.length+q)+7) by omega,aR]
  exact app_at (A:=U) q
 rw [←hl]
 have t1:=term_there (s:=0) (l:=l) h1 (by omega) (fun q hq=>kt_self hq (aT q hq)) (aR 0)
 have t2:=term_there (s:=T.length+7) (l:=l) h2 (by omega) (fun q hq=>kt_self hq (aU q hq)) (by rw [show U.length+1+(T.length+7)=T.length+U.length+8+0 by omega];exact aS 0)
 have B1:BlkAt l (T.length+1):=⟨aR 0,aR 1,aR 2,aR 3,aR 4,aR 5⟩
 have B2:BlkAt l (T.length+U.length+8):=⟨aS 0,aS 1,aS 2,aS 3,aS 4,aS 5⟩
 have b1:pBlockOf l (12 - 11) (fun k'=>pStmts l dedentB.toList (pStmtAt l 11) (l.length+1) [] k') (T.length+1+0) = .ok ([sPass],T.length+1+6):=blk_pass (d:=10) B1 (by omega) (by omega)
 have b2:pBlockOf l (12 - 11) (fun k'=>pStmts l dedentB.toList (pStmtAt l 11) (l.length+1) [] k') (U.length+1+(T.length+7)) = .ok ([sPass],T.length+U.length+8+6):=by
  rw [show U.length+1+(T.length+7)=T.length+U.length+8 by omega]
  exact blk_pass (d:=10) B2 (by omega) (by omega)
 obtain ⟨n,hn⟩:∃ n,l.length=n+1+1:=⟨l.length - 2,by omega⟩
 have hE:l[T.length+U.length+8+6]?=some (tokE 0):=aS 6
 have c2:pChoice l (pOneAt l) (pBlockOf l (12 - 11) (fun k'=>pStmts l dedentB.toList (pStmtAt l 11) (l.length+1) [] k')) (n+1) (1+(T.length+7)) = .ok (mkS kIf ⟨#[]⟩ [] [e2] [sPass] [],T.length+U.length+8+6):=by
  refine (choice_eq (one_at t2) b2).trans ?_
  rw [mark_of hE (show markB (tokE 0) [kElif]=false by kernel_rfl),mark_of hE (show markB (tokE 0) [kElse]=false by kernel_rfl)]
  rfl
 have hEl:l[T.length+1+6]?=some tkElif:=aR 6
 have c1:pChoice l (pOneAt l) (pBlockOf l (12 - 11) (fun k'=>pStmts l dedentB.toList (pStmtAt l 11) (l.length+1) [] k')) (n+1+1) (0+1) = .ok (sIf2 e1 e2,T.length+U.length+8+6):=by
  refine (choice_eq (k:=0+1) (one_at t1) b1).trans ?_
  rw [mark_of hEl (show markB tkElif [kElif]=true by kernel_rfl),show T.length+1+6+1=1+(T.length+7) by omega,c2]
  rfl
 have hs:pStmtAt l 12 0 = .ok (sIf2 e1 e2,T.length+U.length+8+6):=(if_at (d:=11) a0 (by kernel_rfl)).trans ((congrArg (fun f=>pChoice l (pOneAt l) (pBlockOf l (12 - 11) (fun k'=>pStmts l dedentB.toList (pStmtAt l 11) (l.length+1) [] k')) f (0+1)) hn).trans c1)
 refine ⟨T.length+U.length+8+6,?_⟩
 unfold pRead
 rw [show l.length+1=n+1+2 by omega]
 exact stmts_two (kind_of a0 (by kernel_rfl)) hs (kind_of hE (by kernel_rfl))
theorem q_read {T U:TokL}{i j i' j':Nat}{e1 e2:DataW Unit} (h1:pTerm (raiseT T i j) 1 = .ok (e1,T.length+1)) (h2:pTerm (raiseT U i' j') 1 = .ok (e2,U.length+1)):∃ k,pRead (qTok T U) = .ok ([sIf2 e1 e2],k):=by
 obtain ⟨l,hl⟩:∃ l,l=qTok T U:=⟨_,rfl⟩
 have hlen:l.length=T.length+U.length+20:=by rw [hl,qTok_len]
 have a0:l[0]?=some tkIf:=by rw [hl];rfl
 have aT:∀ q,q<T.length→l[q+1+0]?=T[q]?:=fun q hq=>by
  rw [hl,Nat.add_zero]
  unfold qTok
  rw [List.getElem?_append_left (by simp;omega),List.getElem?_cons_succ]
 have aR:∀ q,l[T.length+1+q]?=(tkCol::(blkT++(tokD 0::tkElse::tkCol::tokN 0::tokI 0::tkIf::(U++(tkCol::(blkT ++ [tokD 0,tokD 0,tokE 0]))))))[q]?:=fun q=>by
  rw [hl]
  unfold qTok
  exact app_at (A:=tkIf::T) q
 have aU:∀ q,q<U.length→l[q+1+(T.length+11)]?=U[q]?:=fun q hq=>by
  rw [show q+1+(T.length+11)=T.length+1+(q+11) by omega,aR]
  show (U++(tkCol::(blkT ++ [tokD 0,tokD 0,tokE 0])))[q]?=_
  rw [List.getElem?_append_left hq]
 have aS:∀ q,l[T.length+U.length+12+q]?=(tkCol::(blkT ++ [tokD 0,tokD 0,tokE 0]))[q]?:=fun q=>by
  rw [show T.length+U.length+12+q=T.length+1+((U.length+q)+11) by omega,aR]
  exact app_at (A:=U) q
 rw [←hl]
 have t1:=term_there (s:=0) (l:=l) h1 (by omega) (fun q hq=>kt_self hq (aT q hq)) (aR 0)
 have t2:=term_there (s:=T.length+11) (l:=l) h2 (by omega) (fun q hq=>kt_self hq (aU q hq)) (by rw [show U.length+1+(T.length+11)=T.length+U.length+12+0 by omega];exact aS 0)
 have B1:BlkAt l (T.length+1):=⟨aR 0,aR 1,aR 2,aR 3,aR 4,aR 5⟩
 have B2:BlkAt l (T.length+U.length+12):=⟨aS 0,aS 1,aS 2,aS 3,aS 4,aS 5⟩
 have b1:pBlockOf l (12 - 11) (fun k'=>pStmts l dedentB.toList (pStmtAt l 11) (l.length+1) [] k') (T.length+1+0) = .ok ([sPass],T.length+1+6):=blk_pass (d:=10) B1 (by omega) (by omega)
 have b2:pBlockOf l (12 - 10) (fun k'=>pStmts l dedentB.toList (pStmtAt l 10) (l.length+1) [] k') (U.length+1+(T.length+11)) = .ok ([sPass],T.length+U.length+12+6):=by
  rw [show U.length+1+(T.length+11)=T.length+U.length+12 by omega]
  exact blk_pass (d:=9) B2 (by omega) (by omega)
 obtain ⟨n,hn⟩:∃ n,l.length=n+1:=⟨l.length - 1,by omega⟩
 have hD:l[T.length+U.length+12+6]?=some (tokD 0):=aS 6
 have hE:l[T.length+U.length+12+7]?=some (tokE 0):=aS 7
 have aI:l[T.length+1+10]?=some tkIf:=aR 10
 have c2:pChoice l (pOneAt l) (pBlockOf l (12 - 10) (fun k'=>pStmts l dedentB.toList (pStmtAt l 10) (l.length+1) [] k')) (n+1) (T.length+1+10+1) = .ok (mkS kIf ⟨#[]⟩ [] [e2] [sPass] [],T.length+U.length+12+6):=by
  rw [show T.length+1+10+1=1+(T.length+11) by omega]
  refine (choice_eq (one_at t2) b2).trans ?_
  rw [mark_of hD (show markB (tokD 0) [kElif]=false by kernel_rfl),mark_of hD (show markB (tokD 0) [kElse]=false by kernel_rfl)]
  rfl
 have s2:pStmtAt l 11 (T.length+1+10) = .ok (mkS kIf ⟨#[]⟩ [] [e2] [sPass] [],T.length+U.length+12+6):=(if_at (d:=10) aI (by kernel_rfl)).trans ((congrArg (fun f=>pChoice l (pOneAt l) (pBlockOf l (12 - 10) (fun k'=>pStmts l dedentB.toList (pStmtAt l 10) (l.length+1) [] k')) f (T.length+1+10+1)) hn).trans c2)
 have ss:pStmts l dedentB.toList (pStmtAt l 11) (l.length+1) [] (T.length+1+7+3) = .ok ([mkS kIf ⟨#[]⟩ [] [e2] [sPass] []],T.length+U.length+12+6):=by
  rw [show T.length+1+7+3=T.length+1+10 by omega,show l.length+1=n+2 by omega]
  exact stmts_two (kind_of aI (by kernel_rfl)) s2 (kind_of hD (by kernel_rfl))
 have hbl:=blk_open (l:=l) (k:=T.length+1+7) (bl:=12 - 11) (inner:=fun k'=>pStmts l dedentB.toList (pStmtAt l 11) (l.length+1) [] k') (aR 7) (aR 8) (aR 9) (by decide) ss hD
 have hEl:l[T.length+1+6]?=some tkElse:=aR 6
 have c1:pChoice l (pOneAt l) (pBlockOf l (12 - 11) (fun k'=>pStmts l dedentB.toList (pStmtAt l 11) (l.length+1) [] k')) (n+1) (0+1) = .ok (sIf2 e1 e2,T.length+U.length+12+6+1):=by
  refine (choice_eq (k:=0+1) (one_at t1) b1).trans ?_
  rw [mark_of hEl (show markB tkElse [kElif]=false by kernel_rfl),mark_of hEl (show markB tkElse [kElse]=true by kernel_rfl),show T.length+1+6+1=T.length+1+7 by omega,hbl]
  rfl
 have hs:pStmtAt l 12 0 = .ok (sIf2 e1 e2,T.length+U.length+12+6+1):=(if_at (d:=11) a0 (by kernel_rfl)).trans ((congrArg (fun f=>pChoice l (pOneAt l) (pBlockOf l (12 - 11) (fun k'=>pStmts l dedentB.toList (pStmtAt l 11) (l.length+1) [] k')) f (0+1)) hn).trans c1)
 refine ⟨T.length+U.length+12+6+1,?_⟩
 unfold pRead
 rw [show l.length+1=n+2 by omega]
 exact stmts_two (kind_of a0 (by kernel_rfl)) hs (kind_of (by rw [show T.length+U.length+12+6+1=T.length+U.length+12+7 by omega];exact hE) (by kernel_rfl))
end Go.Proofs.YtknjeecjhahbaaaGreatDoor
namespace Go.Proofs.YtknjeecjhahbaaaGreatDoor
open Go.RowKit

theorem elif_read {s1 s2 sp sq:ByteArray}{X Y:List UInt8} (hX:Neat X) (hY:Neat Y) (h1:s1.data.toList=raiseC++X ++ [10]) (h2:s2.data.toList=raiseC++Y ++ [10]) (hp:sp.data.toList=pTxt X Y) (hq:sq.data.toList=qTxt X Y)
  {c1 c2:Nat}{m1 m2:TokL} (hl1:lexP s1 = .ok (c1,cellsOf m1)) (hl2:lexP s2 = .ok (c2,cellsOf m2)) {ss1 ss2:List (DataW Unit)}{k1 k2:Nat} (hr1:pRead m1 = .ok (ss1,k1)) (hr2:pRead m2 = .ok (ss2,k2)) :
  ∃ mp mq ss,lexP sp = .ok (mp.length,cellsOf mp)∧lexP sq = .ok (mq.length,cellsOf mq)∧(∃ k,pRead mp = .ok (ss,k)) ∧ ∃ k,pRead mq = .ok (ss,k):=by
 obtain ⟨T,hT,rfl⟩:=raise_lex hX h1 hl1
 obtain ⟨U,hU,rfl⟩:=raise_lex hY h2 hl2
 obtain ⟨e1,he1,_⟩:=raise_read (rest_nl _ _ _ _ hT) hr1
 obtain ⟨e2,he2,_⟩:=raise_read (rest_nl _ _ _ _ hU) hr2
 obtain ⟨mp,p1,p2⟩:=p_lex hX hY hT hU hp
 obtain ⟨mq,q1,q2⟩:=q_lex hX hY hT hU hq
 refine ⟨mp,mq,[sIf2 e1 e2],p1,q1,?_,?_⟩
 ·rw [read_al p2.al]
  exact p_read he1 he2
 ·rw [read_al q2.al]
  exact q_read he1 he2
end Go.Proofs.YtknjeecjhahbaaaGreatDoor
