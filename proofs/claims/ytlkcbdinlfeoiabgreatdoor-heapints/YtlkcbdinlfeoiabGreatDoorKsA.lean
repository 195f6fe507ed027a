/- Lines of a text, plainly: a text that is cut behind each newline; the lines of a heap. -/
import Derived.Test.YtlkcbdinlfeoiabGreatDoorKnAG
import Derived.Lib.Split
import Derived.Test.YtlkcbdinlfeoiabGreatDoorKnAE
import Derived.Lib.SplitLaws
import Derived.Test.YtlkcbdinlfeoiabGreatDoorKnAP
import Derived.Test.YtlkcbdinlfeoiabGreatDoorHpE
import Derived.Test.YtlkcbdinlfeoiabGreatDoorKnAH
import Derived.Test.YtlkcbdinlfeoiabGreatDoorKnBE
import Derived.Test.YtlkcbdinlfeoiabGreatDoorKrC
import Derived.Test.YtlkcbdinlfeoiabGreatDoorKrA
namespace Go.Proofs.YtlkcbdinlfeoiabGreatDoor
open Go.RowKit

def lsB (s:ByteArray):List UInt8:=s.data.toList
theorem lsB_app (a b:ByteArray):lsB (a++b)=lsB a++lsB b:=by unfold lsB;rw [ByteArray.data_append,Array.toList_append]
theorem lsB_inj {a b:ByteArray} (h:lsB a=lsB b):a=b:=by
 cases a;cases b
 unfold lsB at h
 congr
 exact Array.toList_inj.1 h
theorem lsB_size (s:ByteArray):(lsB s).length=s.size:=rfl
def NoNL (l:List UInt8):Prop:=(10:UInt8) ∉ l
theorem NoNL.app {a b:List UInt8} (ha:NoNL a) (hb:NoNL b):NoNL (a++b):=fun h=>by
 rcases List.mem_append.1 h with q | q
 ·exact ha q
 ·exact hb q
theorem index_nl:∀ (a r:List UInt8),NoNL a→Lib.index (a++10::r) [10]=(a.length:Int)
 | [],r,_=>by
  show (if ([10]:List UInt8).isPrefixOf (10::r) then _ else _)=_
  rw [if_pos (by simp [List.isPrefixOf])]
  rfl
 | b::a,r,h=>by
  have hb:¬ (10:UInt8)=b:=fun e=>h (by rw [e];simp)
  have ih:=index_nl a r (fun q=>h (by simp [q]))
  show (if ([10]:List UInt8).isPrefixOf (b::(a++10::r)) then _ else if Lib.index (a++10::r) [10] == -1 then _ else _)=_
  rw [if_neg (by simp [List.isPrefixOf,hb]),ih,if_neg (by rw [beq_iff_eq];omega)]
  simp
  exact ih
def IsLine (l:List UInt8):Prop:=∃ a,l=a ++ [10]∧NoNL a
theorem splitK_lines:∀ (L:List (List UInt8)) (k:Nat),L.length≤k→(∀ l∈L,IsLine l)→Lib.splitK [10] 1 k L.flatten=L ++ [[]]
 | [],k,_,_=>by cases k <;> rfl
 | l::L,0,h,_=>by simp at h
 | l::L,k+1,h,hl=>by
  obtain ⟨a,rfl,ha⟩:=hl l (by simp)
  have ih:=splitK_lines L k (by simpa using h) (fun x hx=>hl x (by simp [hx]))
  have e:(((a ++ [10])::L).flatten:List UInt8)=a++10::L.flatten:=by simp
  have hi:=index_nl a L.flatten ha
  rw [e]
  unfold Lib.splitK
  rw [hi,if_neg (by rw [beq_iff_eq];omega)]
  have h1:(a++10::L.flatten).take (((a.length:Int)).toNat+1)=a ++ [10]:=by
   rw [Int.toNat_natCast]
   have:a++10::L.flatten=(a ++ [10])++L.flatten:=by simp
   rw [this,List.take_append_of_le_length (by simp),List.take_of_length_le (by simp)]
  have h2:(a++10::L.flatten).drop (((a.length:Int)).toNat+([10]:List UInt8).length)=L.flatten:=by
   rw [Int.toNat_natCast]
   have:a++10::L.flatten=(a ++ [10])++L.flatten:=by simp
   rw [this,List.drop_append_of_le_length (by simp),List.drop_of_length_le (by simp)]
   rfl
  rw [h1,h2,ih]
  rfl
theorem dec_no (n:Nat):∀ (u:Nat),u≤n→NoNL (Lib.decDigits u):=by
 induction n with
 | zero =>
  intro u hu
  obtain rfl:u=0:=by omega
  unfold Lib.decDigits NoNL
  decide
 | succ n ihn =>
  intro u hu
  unfold Lib.decDigits
  split
  ·rename_i h
   intro q
   have:(10:UInt8)=UInt8.ofNat (48+u):=by simpa using q
   have:=congrArg UInt8.toNat this
   simp at this
   omega
  ·rename_i h
   refine NoNL.app ?_ ?_
   ·exact ihn (u / 10) (by omega)
   ·intro q
    have:(10:UInt8)=UInt8.ofNat (48+u % 10):=by simpa using q
    have:=congrArg UInt8.toNat this
    simp at this
    omega
theorem decB_no (n:Int):NoNL (lsB (decB n)):=by
 unfold decB
 show NoNL (Lib.itoa n)
 unfold Lib.itoa
 split
 ·intro q
  rcases List.mem_cons.1 q with q | q
  ·exact absurd q (by decide)
  ·exact dec_no _ _ (Nat.le_refl _) q
 ·exact dec_no _ _ (Nat.le_refl _)
theorem constB_no (n:Int):NoNL (lsB (constB n)):=by
 unfold constB NoNL lsB
 split
 ·decide
 ·split <;> decide
theorem tellB_no (out:List Nat) (x:Int):NoNL (lsB (tellB out x)):=by
 unfold tellB
 split
 ·exact decB_no _
 ·split
  ·exact constB_no _
  ·split
   ·unfold NoNL lsB;decide
   ·split
    ·unfold NoNL lsB;decide
    ·rw [lsB_app]
     exact NoNL.app (by unfold NoNL lsB;decide) (decB_no _)
theorem hexL_no (x:Nat):∀ k,NoNL (hexL x k)
 | 0=>by unfold hexL NoNL;decide
 | k+1=>by
  intro q
  unfold hexL at q
  rcases List.mem_cons.1 q with q | q
  ·have h:x / 16 ^ k % 16<16:=Nat.mod_lt _ (by decide)
   revert q
   generalize x / 16 ^ k % 16=d at h
   have hd:∀ d:Fin 16,¬ (10:UInt8)=digC d.val:=by decide
   exact hd ⟨d,h⟩
  ·exact hexL_no x k q
def rootL (out:List Nat) (x:Int):List UInt8:=(lsB sRoot++lsB (tellB out x)) ++ [10]
theorem rootL_line (out:List Nat) (x:Int):IsLine (rootL out x):=⟨_,rfl,NoNL.app (by unfold NoNL lsB sRoot;decide) (tellB_no out x)⟩
theorem gLines_ls (out:List Nat):∀ (l:List Int) (acc:ByteArray),lsB (gLines sRoot out acc l)=lsB acc++(l.map (rootL out)).flatten
 | [],acc=>by simp [gLines]
 | x::l,acc=>by
  show lsB (gLines sRoot out (gLine sRoot out acc x) l)=_
  rw [gLines_ls out l]
  unfold gLine
  rw [lsB_app,lsB_app,lsB_app,List.map_cons,List.flatten_cons]
  unfold rootL
  simp [lsB]
def fldL (kd:Int) (out:List Nat) (x:Int):List UInt8:=if kd<8 then [32,48,120]++hexL x.toNat 16 else [32]++lsB (tellB out x)
theorem fldL_no (kd:Int) (out:List Nat) (x:Int):NoNL (fldL kd out x):=by
 unfold fldL
 split
 ·exact NoNL.app (by unfold NoNL;decide) (hexL_no _ _)
 ·exact NoNL.app (by unfold NoNL;decide) (tellB_no _ _)
theorem gFields_ls (kd:Int) (out:List Nat):∀ (l:List Int) (acc:ByteArray),lsB (gFields kd out acc l)=lsB acc++(l.map (fldL kd out)).flatten
 | [],acc=>by simp [gFields]
 | x::l,acc=>by
  show lsB (gFields kd out (gField kd out acc x) l)=_
  rw [gFields_ls kd out l,List.map_cons,List.flatten_cons]
  unfold gField fldL
  split
  ·rw [lsB_app,lsB_app];simp [lsB]
  ·rw [lsB_app,lsB_app];simp [lsB]
theorem noNL_flat:∀ (L:List (List UInt8)),(∀ l∈L,NoNL l)→NoNL L.flatten
 | [],_=>by unfold NoNL;simp
 | a::L,h=>by rw [List.flatten_cons];exact (h a (by simp)).app (noNL_flat L (fun x hx=>h x (by simp [hx])))
def objL (F:Nat→Int) (out:List Nat) (i f:Nat):List UInt8:=(((lsB (decB (i:Int)) ++ [32])++lsB (decB (F f / 4 % 256)))++((fieldsP F f).map (fldL (F f / 4 % 256) out)).flatten) ++ [10]
theorem objL_line (F:Nat→Int) (out:List Nat) (i f:Nat):IsLine (objL F out i f):=⟨_,rfl,(((decB_no _).app (by unfold NoNL;decide)).app (decB_no _)).app (noNL_flat _ (fun l hl=>by
 obtain ⟨x,_,rfl⟩:=List.mem_map.1 hl
 exact fldL_no _ _ _))⟩
theorem gObjT_ls (F:Nat→Int) (out:List Nat) (i f:Nat) (acc:ByteArray):lsB (gObjT F out i f acc)=lsB acc++objL F out i f:=by
 unfold gObjT objL
 rw [lsB_app,gFields_ls,lsB_app,lsB_app,lsB_app]
 simp [lsB]
def hobjL (T:Int→List Int→ByteArray) (F:Nat→Int) (out:List Nat) (i f:Nat):List UInt8:=
 if F f / 4 % 256<8 then (((lsB (decB (i:Int)) ++ [32])++lsB (decB (F f / 4 % 256)))++lsB (T (F f / 4 % 256) (fieldsP F f))) ++ [10] else objL F out i f
theorem hObjT_ls (T:Int→List Int→ByteArray) (F:Nat→Int) (out:List Nat) (i f:Nat) (acc:ByteArray):lsB (hObjT T F out i f acc)=lsB acc++hobjL T F out i f:=by
 unfold hObjT hobjL
 split
 ·rw [lsB_app,lsB_app,lsB_app,lsB_app,lsB_app];simp [lsB]
 ·exact gObjT_ls F out i f acc
def objLs (F:Nat→Int) (out:List Nat) (k:Nat):List (List UInt8):=(List.range k).map fun i=>objL F out i (out.getD i 0)
def hobjLs (T:Int→List Int→ByteArray) (F:Nat→Int) (out:List Nat) (k:Nat):List (List UInt8):=(List.range k).map fun i=>hobjL T F out i (out.getD i 0)
theorem gObjs_ls (F:Nat→Int) (out:List Nat) (acc:ByteArray):∀ k,k≤out.length→lsB (gObjsP F out acc k)=lsB acc++(objLs F out k).flatten
 | 0,_=>by simp [gObjsP,objLs]
 | k+1,h=>by
  have ih:=gObjs_ls F out acc k (by omega)
  unfold gObjsP objLs
  rw [List.getElem?_eq_getElem (by omega),List.range_succ,List.map_append,List.flatten_append]
  show lsB (gObjT F out k out[k] (gObjsP F out acc k))=_
  rw [gObjT_ls,ih,List.append_assoc]
  have e:out.getD k 0=out[k]:=by rw [List.getD_eq_getElem?_getD,List.getElem?_eq_getElem (by omega)];rfl
  rw [←e];simp [objLs]
theorem hObjs_ls (T:Int→List Int→ByteArray) (F:Nat→Int) (out:List Nat) (acc:ByteArray):∀ k,k≤out.length→lsB (hObjsP T F out acc k)=lsB acc++(hobjLs T F out k).flatten
 | 0,_=>by simp [hObjsP,hobjLs]
 | k+1,h=>by
  have ih:=hObjs_ls T F out acc k (by omega)
  unfold hObjsP hobjLs
  rw [List.getElem?_eq_getElem (by omega),List.range_succ,List.map_append,List.flatten_append]
  show lsB (hObjT T F out k out[k] (hObjsP T F out acc k))=_
  rw [hObjT_ls,ih,List.append_assoc]
  have e:out.getD k 0=out[k]:=by rw [List.getD_eq_getElem?_getD,List.getElem?_eq_getElem (by omega)];rfl
  rw [←e];simp [hobjLs]
def linesAt (T:Int→List Int→ByteArray) (F:Nat→Int) (out:List Nat) (R:List Int) (i:Nat):List (List UInt8):=R.map (rootL out)++((List.range out.length).map (fun j=>if j<i then hobjL T F out j (out.getD j 0) else objL F out j (out.getD j 0)) ++ [[]])
theorem linesAt_len (T:Int→List Int→ByteArray) (F:Nat→Int) (out:List Nat) (R:List Int) (i:Nat):(linesAt T F out R i).length=R.length+(out.length+1):=by
 unfold linesAt;simp
theorem linesAt_zero (T:Int→List Int→ByteArray) (F:Nat→Int) (out:List Nat) (R:List Int) (k:Nat) (hk:R.length+out.length≤k):Lib.splitK [10] 1 k (lsB (gObjsP F out (gLines sRoot out ⟨#[]⟩ R) out.length))=linesAt T F out R 0:=by
 have e:lsB (gObjsP F out (gLines sRoot out ⟨#[]⟩ R) out.length)=(R.map (rootL out)++objLs F out out.length).flatten:=by
  rw [gObjs_ls F out _ _ (Nat.le_refl _),gLines_ls,List.flatten_append]
  rfl
 rw [e,splitK_lines _ k (by simp [objLs];exact hk) (fun l hl=>by
  rcases List.mem_append.1 hl with q | q
  ·obtain ⟨x,_,rfl⟩:=List.mem_map.1 q;exact rootL_line _ _
  ·obtain ⟨x,_,rfl⟩:=List.mem_map.1 q;exact objL_line _ _ _ _)]
 unfold linesAt objLs
 simp
theorem linesAt_set (T:Int→List Int→ByteArray) (F:Nat→Int) (out:List Nat) (R:List Int) (i:Nat) (hi:i<out.length):(linesAt T F out R i).set (R.length+i) (hobjL T F out i (out.getD i 0))=linesAt T F out R (i+1):=by
 unfold linesAt
 rw [List.set_append,if_neg (by simp),List.length_map,show R.length+i - R.length=i by omega,List.set_append,if_pos (by simpa using hi)]
 congr 1
 congr 1
 apply List.ext_getElem?
 intro j
 rw [List.getElem?_set]
 by_cases hj:i=j
 ·subst hj
  rw [if_pos rfl,if_pos (by simpa using hi),List.getElem?_map,List.getElem?_range hi]
  simp
 ·rw [if_neg hj,List.getElem?_map,List.getElem?_map]
  by_cases hr:j<out.length
  ·rw [List.getElem?_range hr]
   show some (if j<i then _ else _)=some (if j<i+1 then _ else _)
   by_cases hji:j<i
   ·rw [if_pos hji,if_pos (by omega)]
   ·rw [if_neg hji,if_neg (by omega)]
  ·rw [List.getElem?_eq_none (by simpa using hr)]
   rfl
theorem linesAt_keep (T:Int→List Int→ByteArray) (F:Nat→Int) (out:List Nat) (R:List Int) (i:Nat) (h:¬ F (out.getD i 0) / 4 % 256<8):linesAt T F out R i=linesAt T F out R (i+1):=by
 unfold linesAt
 congr 1
 congr 1
 refine List.map_congr_left fun j _ => ?_
 by_cases hji:j<i
 ·rw [if_pos hji,if_pos (by omega)]
 ·rw [if_neg hji]
  by_cases e:j=i
  ·subst e
   rw [if_pos (by omega)]
   unfold hobjL
   rw [if_neg h]
  ·rw [if_neg (by omega)]
theorem linesAt_end (T:Int→List Int→ByteArray) (F:Nat→Int) (out:List Nat) (R:List Int):(linesAt T F out R out.length).flatten=lsB (hObjsP T F out (gLines sRoot out ⟨#[]⟩ R) out.length):=by
 rw [hObjs_ls T F out _ _ (Nat.le_refl _),gLines_ls]
 unfold linesAt hobjLs
 rw [List.flatten_append,List.flatten_append]
 have e:(List.range out.length).map (fun j=>if j<out.length then hobjL T F out j (out.getD j 0) else objL F out j (out.getD j 0))=(List.range out.length).map fun i=>hobjL T F out i (out.getD i 0):=List.map_congr_left fun j hj=>if_pos (List.mem_range.1 hj)
 rw [e]
 simp [lsB]
end Go.Proofs.YtlkcbdinlfeoiabGreatDoor
namespace Go.Proofs.YtlkcbdinlfeoiabGreatDoor
open Go.RowKit

theorem count_lines:∀ (L:List (List UInt8)),(∀ l∈L,IsLine l)→L.flatten.count 10=L.length
 | [],_=>rfl
 | l::L,h=>by
  obtain ⟨a,rfl,ha⟩:=h l (by simp)
  have ih:=count_lines L (fun x hx=>h x (by simp [hx]))
  rw [List.flatten_cons,List.count_append,ih,List.count_append,List.count_eq_zero.2 ha]
  simp
  omega
theorem main_lines (F:Nat→Int) (out:List Nat) (R:List Int):(lsB (gObjsP F out (gLines sRoot out ⟨#[]⟩ R) out.length)).count 10=R.length+out.length:=by
 have e:lsB (gObjsP F out (gLines sRoot out ⟨#[]⟩ R) out.length)=(R.map (rootL out)++objLs F out out.length).flatten:=by
  rw [gObjs_ls F out _ _ (Nat.le_refl _),gLines_ls,List.flatten_append]
  rfl
 rw [e,count_lines _ (fun l hl=>by
  rcases List.mem_append.1 hl with q | q
  ·obtain ⟨x,_,rfl⟩:=List.mem_map.1 q;exact rootL_line _ _
  ·obtain ⟨x,_,rfl⟩:=List.mem_map.1 q;exact objL_line _ _ _ _)]
 simp [objLs]
theorem objI_range (out:List Nat) (x:Int) : -1≤objI out x∧objI out x<out.length+1:=by
 rcases Int.lt_or_le (objI out x) 0 with h | h
 ·refine ⟨?_,by omega⟩
  unfold objI at *
  split
  ·omega
  ·exact Int.le_refl _
 ·obtain ⟨k,f,e,_,_,hk⟩:=objI_some h
  omega
theorem tellB_szH (out:List Nat) (x:Int) (ho:out.length≤300000):(tellB out x).size≤22:=by
 have hr:=objI_range out (ptI x)
 unfold tellB
 split
 ·have : -9223372036854775808≤wrap64 x∧wrap64 x≤9223372036854775807:=by unfold wrap64;omega
  have:=decB_size (wrap64 x / 4) (by omega) (by omega)
  omega
 ·split
  ·unfold constB
   split
   ·decide
   ·split <;> decide
  ·split
   ·decide
   ·split
    ·decide
    ·rw [ByteArray.size_append]
     have:=decB_size (objI out (ptI x)) (by omega) (by omega)
     show 1+_≤22
     omega
theorem flat_lenH {α:Type} (f:α→List UInt8) (c:Nat):∀ (l:List α),(∀ x∈l,(f x).length≤c)→(l.map f).flatten.length≤c*l.length
 | [],_=>by simp
 | a::l,h=>by
  have:=flat_lenH f c l (fun x hx=>h x (by simp [hx]))
  have:=h a (by simp)
  rw [List.map_cons,List.flatten_cons,List.length_append,List.length_cons,Nat.mul_add]
  omega
theorem objL_size (F:Nat→Int) (out:List Nat) (ho:out.length≤300000) (i f:Nat) (hi:i≤300000):(objL F out i f).length≤64*(1+szN (F f)):=by
 have h1:=decB_size (i:Int) (by omega) (by omega)
 have h2:=decB_size (F f / 4 % 256) (by omega) (by omega)
 have h3:=flat_lenH (fldL (F f / 4 % 256) out) 23 (fieldsP F f) (fun x _=>by
  unfold fldL
  split
  ·rw [List.length_append,hexL_len];simp
  ·rw [List.length_append,lsB_size];have:=tellB_szH out x ho;simp;omega)
 have h4:(fieldsP F f).length=szN (F f):=by unfold fieldsP;simp
 unfold objL
 rw [List.length_append,List.length_append,List.length_append,List.length_append,lsB_size,lsB_size]
 simp only [List.length_cons,List.length_nil]
 rw [h4] at h3
 omega
def TFew (T:Int→List Int→ByteArray) (kd:Int) (l:List Int):Prop:=(T kd l).size≤20+40*(1+l.length)
theorem hobjL_size {T:Int→List Int→ByteArray} (F:Nat→Int) (out:List Nat) (ho:out.length≤300000) (i f:Nat) (hi:i≤300000) (hT:F f / 4 % 256<8→TFew T (F f / 4 % 256) (fieldsP F f)):(hobjL T F out i f).length≤104*(1+szN (F f)):=by
 unfold hobjL
 split
 ·rename_i hk
  have hT:=hT hk
  unfold TFew at hT
  have h1:=decB_size (i:Int) (by omega) (by omega)
  have h2:=decB_size (F f / 4 % 256) (by omega) (by omega)
  have h4:(fieldsP F f).length=szN (F f):=by unfold fieldsP;simp
  rw [h4] at hT
  rw [List.length_append,List.length_append,List.length_append,List.length_append,lsB_size,lsB_size,lsB_size]
  simp only [List.length_cons,List.length_nil]
  omega
 ·have:=objL_size F out ho i f hi
  omega
theorem sum_lines (g:Nat→Nat→List UInt8) (c:Nat) (F:Nat→Int):∀ (out:List Nat) (b:Nat),(∀ j f,out[j]?=some f→(g (b+j) f).length≤c*(1+szN (F f)))→((List.range out.length).map fun i=>g (b+i) (out.getD i 0)).flatten.length≤c*liveP F out
 | [],b,_=>by simp [liveP]
 | f::out,b,h=>by
  have ih:=sum_lines g c F out (b+1) (fun j f hj=>by have:=h (j+1) f (by simpa using hj);rw [show b+1+j=b+(j+1) by omega];exact this)
  have h0:=h 0 f rfl
  have e:(List.range (out.length+1)).map (fun i=>g (b+i) ((f::out).getD i 0))=g b f::(List.range out.length).map fun i=>g (b+1+i) (out.getD i 0):=by
   rw [List.range_succ_eq_map,List.map_cons,List.map_map]
   refine congr (congrArg List.cons rfl) (List.map_congr_left fun i _ => ?_)
   show g (b+(i+1)) _=_
   rw [show b+(i+1)=b+1+i by omega]
   rfl
  show ((List.range (out.length+1)).map _).flatten.length≤_
  rw [e,List.flatten_cons,List.length_append]
  unfold liveP at ih ⊢
  rw [List.map_cons,List.sum_cons,Nat.mul_add]
  have h0:(g b f).length≤_:=h0
  omega
theorem main_size (F:Nat→Int) (out:List Nat) (ho:out.length≤300000) (R:List Int):(gObjsP F out (gLines sRoot out ⟨#[]⟩ R) out.length).size≤28*R.length+104*liveP F out:=by
 have h1:=flat_lenH (rootL out) 28 R (fun x _=>by
  have:=tellB_szH out x ho
  unfold rootL
  rw [List.length_append,List.length_append,lsB_size,lsB_size]
  show 5+_+1≤28
  omega)
 have h2:=sum_lines (objL F out) 104 F out 0 (fun j f hj=>by
  have:=objL_size F out ho (0+j) f (by have:=(List.getElem?_eq_some_iff.1 hj).1;omega)
  omega)
 simp only [Nat.zero_add] at h2
 rw [←lsB_size,gObjs_ls F out _ _ (Nat.le_refl _),gLines_ls,List.length_append,List.length_append]
 unfold objLs
 have:(lsB ⟨#[]⟩).length=0:=rfl
 omega
theorem hmain_size {T:Int→List Int→ByteArray} (F:Nat→Int) (out:List Nat) (ho:out.length≤300000) (R:List Int) (hT:∀ f∈out,F f / 4 % 256<8→TFew T (F f / 4 % 256) (fieldsP F f)):(hObjsP T F out (gLines sRoot out ⟨#[]⟩ R) out.length).size≤28*R.length+104*liveP F out:=by
 have h1:=flat_lenH (rootL out) 28 R (fun x _=>by
  have:=tellB_szH out x ho
  unfold rootL
  rw [List.length_append,List.length_append,lsB_size,lsB_size]
  show 5+_+1≤28
  omega)
 have h2:=sum_lines (hobjL T F out) 104 F out 0 (fun j f hj=>hobjL_size F out ho (0+j) f (by have:=(List.getElem?_eq_some_iff.1 hj).1;omega) (hT f (List.mem_of_getElem? hj)))
 simp only [Nat.zero_add] at h2
 rw [←lsB_size,hObjs_ls T F out _ _ (Nat.le_refl _),gLines_ls,List.length_append,List.length_append]
 unfold hobjLs
 have:(lsB ⟨#[]⟩).length=0:=rfl
 omega
end Go.Proofs.YtlkcbdinlfeoiabGreatDoor
namespace Go.Proofs.YtlkcbdinlfeoiabGreatDoor
open Go.RowKit

def mRootL (out:List Nat) (c:CL):List UInt8:=(lsB sRoot++lsB (cellB out c)) ++ [10]
def mFldL (out:List Nat) (c:CL):List UInt8:=[32]++lsB (cellB out c)
def mHeadL (T:Int→List Int→ByteArray) (i:Nat) (d:ND):List UInt8:=((lsB (decB (i:Int)) ++ [32])++lsB (decB d.kind))++(if d.kind<8 then lsB (T d.kind d.raw) else [])
def mObjL (T:Int→List Int→ByteArray) (M:MO) (out:List Nat) (i:Nat):List UInt8:=match M.N[out.getD i 0]? with
 | some d=>(mHeadL T i d++(d.f.map (mFldL out)).flatten) ++ [10]
 | none => []
theorem rootsM_ls (out:List Nat):∀ (l:List CL) (acc:ByteArray),lsB (rootsM out acc l)=lsB acc++(l.map (mRootL out)).flatten
 | [],acc=>by simp [rootsM]
 | c::l,acc=>by
  show lsB (rootsM out (((acc++sRoot)++cellB out c)++⟨#[10]⟩) l)=_
  rw [rootsM_ls out l,lsB_app,lsB_app,lsB_app,List.map_cons,List.flatten_cons]
  unfold mRootL
  simp [lsB]
theorem fieldsM_ls (out:List Nat):∀ (l:List CL) (acc:ByteArray),lsB (fieldsM out acc l)=lsB acc++(l.map (mFldL out)).flatten
 | [],acc=>by simp [fieldsM]
 | c::l,acc=>by
  show lsB (fieldsM out ((acc++⟨#[32]⟩)++cellB out c) l)=_
  rw [fieldsM_ls out l,lsB_app,lsB_app,List.map_cons,List.flatten_cons]
  unfold mFldL
  simp [lsB]
theorem mObjT_ls (T:Int→List Int→ByteArray) {M:MO} (hraw:∀ d∈M.N,d.kind<8→d.f = []) (out:List Nat) (i:Nat) {d:ND} (hd:M.N[out.getD i 0]?=some d) (acc:ByteArray):lsB (mObjT T out i d acc)=lsB acc++mObjL T M out i:=by
 unfold mObjT mObjL
 rw [hd]
 show _=lsB acc++((mHeadL T i d++(d.f.map (mFldL out)).flatten) ++ [10])
 unfold mHeadL
 by_cases hk:d.kind<8
 ·rw [if_pos hk,if_pos hk,hraw d (List.mem_of_getElem? hd) hk,lsB_app,lsB_app,lsB_app,lsB_app,lsB_app]
  simp [lsB]
 ·rw [if_neg hk,if_neg hk,lsB_app,fieldsM_ls,lsB_app,lsB_app,lsB_app]
  simp [lsB]
def mObjLs (T:Int→List Int→ByteArray) (M:MO) (out:List Nat) (k:Nat):List UInt8:=((List.range k).map (mObjL T M out)).flatten
theorem mObjs_ls (T:Int→List Int→ByteArray) {M:MO} (hraw:∀ d∈M.N,d.kind<8→d.f = []) (out:List Nat) (hout:∀ i∈out,i<M.N.length) (acc:ByteArray):∀ k,k≤out.length→lsB (mObjsP T M out acc k)=lsB acc++mObjLs T M out k
 | 0,_=>by simp [mObjsP,mObjLs]
 | k+1,h=>by
  have ih:=mObjs_ls T hraw out hout acc k (by omega)
  have hk:out[k]?=some out[k]:=List.getElem?_eq_getElem (by omega)
  have hlt:out[k]<M.N.length:=hout _ (List.getElem_mem _)
  have e:out.getD k 0=out[k]:=by rw [List.getD_eq_getElem?_getD,hk];rfl
  have hd:M.N[out.getD k 0]?=some M.N[out[k]]:=by rw [e];exact List.getElem?_eq_getElem hlt
  unfold mObjsP mObjLs
  rw [hk,List.range_succ,List.map_append,List.flatten_append]
  show lsB (match M.N[out[k]]? with
   | some d=>mObjT T out k d (mObjsP T M out acc k)
   | none=>mObjsP T M out acc k)=_
  rw [List.getElem?_eq_getElem hlt]
  show lsB (mObjT T out k M.N[out[k]] (mObjsP T M out acc k))=_
  rw [mObjT_ls T hraw out k hd,ih,List.append_assoc]
  simp [mObjLs]
theorem text_ls (T:Int→List Int→ByteArray) {M:MO} (hraw:∀ d∈M.N,d.kind<8→d.f = []) (hout:∀ i∈M.all,i<M.N.length):lsB (M.text T)=(M.R.map (mRootL M.all)).flatten++mObjLs T M M.all M.all.length:=by
 unfold MO.text
 rw [mObjs_ls T hraw M.all hout _ _ (Nat.le_refl _),rootsM_ls]
 simp [lsB]
theorem flat_take {α:Type} (f:α→List UInt8) (l:List α) (k:Nat):((l.take k).map f).flatten.length≤(l.map f).flatten.length:=by
 conv=>rhs;rw [←List.take_append_drop k l]
 rw [List.map_append,List.flatten_append,List.length_append]
 omega
theorem flat_range (f:Nat→List UInt8) {k n:Nat} (h:k≤n):((List.range k).map f).flatten.length≤((List.range n).map f).flatten.length:=by
 have e:List.range k=(List.range n).take k:=by rw [List.take_range,Nat.min_eq_left h]
 rw [e]
 exact flat_take f _ _
theorem range_next (f:Nat→List UInt8) (k:Nat):((List.range (k+1)).map f).flatten=((List.range k).map f).flatten++f k:=by
 rw [List.range_succ,List.map_append,List.flatten_append];simp
theorem take_next {α:Type} (f:α→List UInt8) {l:List α}{k:Nat}{c:α} (h:l[k]?=some c):((l.take (k+1)).map f).flatten=((l.take k).map f).flatten++f c:=by
 obtain ⟨hl,rfl⟩:=List.getElem?_eq_some_iff.1 h
 rw [List.take_succ_eq_append_getElem hl,List.map_append,List.flatten_append];simp
end Go.Proofs.YtlkcbdinlfeoiabGreatDoor
namespace Go.Proofs.YtlkcbdinlfeoiabGreatDoor
open Go.RowKit Go.Maps Go.Shelf

theorem genSplit_all (s:ByteArray) (hs:s.size<4294967281) (w:World) :
  Calls Tryz.prog 64 #[.string s,.string ⟨#[10]⟩,.int .i64 1,.int .i64 (-1)] w fun e w' => ∃ N,e = .returned (.slice (some ⟨w.heap.size,0,none⟩) (Lib.splitB nlB 1 ((lsB s).count 10) s).length N)∧(Lib.splitB nlB 1 ((lsB s).count 10) s).length≤N∧N≤s.size+1∧w'=w.alloc (.cells (Lib.cellsOf (Lib.splitB nlB 1 ((lsB s).count 10) s) N) 9):=by
 have hI:∀ (x:ByteArray) (c:Array Value),x.size≤s.size→Calls Tryz.prog 105 #[.string x,.string nlB] (w.alloc (.cells c 9)) fun e w'=>e = .returned (.int .i64 (Lib.indexB x nlB))∧w'=w.alloc (.cells c 9):=fun x c _=>by
  refine (hstrings_Index_one x 10 _).mono ?_
  rintro e w' ⟨rfl,rfl⟩
  refine ⟨?_,rfl⟩
  show _=Ending.returned (Value.int .i64 (Lib.index x.data.toList [10]))
  rw [Lib.index_one]
 have hC:Calls Tryz.prog 104 #[.string s,.string nlB] w fun e w'=>e = .returned (.int .i64 (Lib.countB s nlB))∧w'=w:=by
  refine (hstrings_Count_one s 10 w).mono ?_
  rintro e w' ⟨rfl,rfl⟩
  refine ⟨?_,rfl⟩
  show _=Ending.returned (Value.int .i64 ((Lib.count s.data.toList [10]:Nat):Int))
  rw [Lib.count_one]
  rfl
 have hcl:=Lib.countB_le nlB (by decide) s.size s (Nat.le_refl _)
 have hce:Lib.countB s nlB=(lsB s).count 10:=Lib.count_one 10 _
 rw [←hce]
 obtain ⟨N,hN⟩:∃ N,N=Lib.countB s nlB+1:=⟨_,rfl⟩
 refine (Any.strings_genSplit_core hlays221 (by kernel_rfl) s nlB 1 (-1) N w hs (by decide) (by decide) hI hC (by decide) (by decide) (by rw [if_pos (by decide),hN];omega)).mono ?_
 rintro e w' ⟨rfl,rfl⟩
 have hk:N - 1=Lib.countB s nlB:=by omega
 rw [hk]
 refine ⟨N,rfl,?_,by omega,rfl⟩
 have:=Lib.splitB_length_le nlB 1 (Lib.countB s nlB) s
 omega
theorem splitAfter_all (s:ByteArray) (hs:s.size<4294967281) (w:World) :
  Calls Tryz.prog 34 #[.string s,.string ⟨#[10]⟩] w fun e w' => ∃ N,e = .returned (.slice (some ⟨w.heap.size,0,none⟩) (Lib.splitB nlB 1 ((lsB s).count 10) s).length N)∧(Lib.splitB nlB 1 ((lsB s).count 10) s).length≤N∧N≤s.size+1∧w'=w.alloc (.cells (Lib.cellsOf (Lib.splitB nlB 1 ((lsB s).count 10) s) N) 9):=by
 have kg:=genSplit_all s hs w
 clear hs
 obtain ⟨L,hL⟩:∃ L,L=Lib.splitB nlB 1 ((lsB s).count 10) s:=⟨_,rfl⟩
 rw [←hL] at kg ⊢
 clear hL
 go_enter Tryz.func34,Tryz.ntmps34
 go_wp2_with fail
 refine kg.mono ?_
 rintro e w' ⟨N,rfl,hl,hN,rfl⟩
 go_wp2_with fail
 go_ret
 exact ⟨N,rfl,hl,hN,rfl⟩
def MD.bare (m:MD):MD:={ m with K:=[],I:=[] }
theorem bare_shape {m:MD}{vs:List Nat} (S:m.Shape vs):m.bare.Shape vs:=by
 refine ⟨S.1,S.2.1,S.2.2.1,?_⟩
 have h:=S.2.2.2
 unfold MD.restB at h ⊢
 simp only [Bool.and_eq_true] at h
 show (m.R.all (fieldB m.W.length fun i=>decide (i∈vs)) && (([]:List Int).all (fieldB m.W.length fun i=>decide (i∈vs)) && idsB m.W.length (fun i=>decide (i∈vs)) []))=true
 rw [h.1]
 rfl
theorem bare_64 {m:MD} (h:MD64 m):MD64 m.bare:=⟨h.1,h.2,fun x hx=>(by cases hx),fun x hx=>(by cases hx)⟩
def strsL (L:List (List UInt8)):List ByteArray:=L.map fun l=>⟨l.toArray⟩
theorem strsL_data (L:List (List UInt8)):(strsL L).map lsB=L:=by
 unfold strsL
 rw [List.map_map]
 exact (List.map_congr_left fun l _=>by simp [lsB]).trans (List.map_id _)
theorem strs_eq {l:List ByteArray}{L:List (List UInt8)} (h:l.map lsB=L):l=strsL L:=by
 rw [←h]
 unfold strsL
 rw [List.map_map]
 conv=>lhs;rw [←List.map_id l]
 refine List.map_congr_left fun x _ => ?_
 exact lsB_inj (by simp [lsB])
theorem strsL_len (L:List (List UInt8)):(strsL L).length=L.length:=by unfold strsL;simp
theorem strsL_set (L:List (List UInt8)) (j:Nat) (s:ByteArray):(strsL L).set j s=strsL (L.set j (lsB s)):=by
 unfold strsL
 rw [List.map_set]
 congr 1
theorem joinL (L:List (List UInt8)):Lib.join ((strsL L).map (·.data.toList)) (⟨#[]⟩:ByteArray).data.toList=L.flatten:=by
 have:(strsL L).map (·.data.toList)=L:=strsL_data L
 rw [this]
 exact joinE_flat L
def TellsR (T:Int→List Int→ByteArray) (q:Nat) (m:MD) (f:Nat) (w:World):Prop:=∀ W,Below w.heap.size w W→Calls Tryz.prog 35 #[.pointer (some ⟨q,0,none⟩),.int .i64 (f:Int)] W fun ev w' =>
 ((¬ m.F f / 4 % 256<8∧ev = .returned (.tuple #[.string ⟨#[]⟩,.bool false]))∨(m.F f / 4 % 256<8∧ev = .returned (.tuple #[.string (decB (m.F f / 4 % 256)++T (m.F f / 4 % 256) (fieldsP m.F f)),.bool true])))∧Below W.heap.size W w'
theorem lines_blk {L:List ByteArray}{N o:Nat}{w:World} (h:w.heap[o]?=some (.cells (Lib.cellsOf L N) 9)):Blk o 9 (L.map Value.string) w:=⟨_,h⟩
theorem strsV_set (L:List (List UInt8)) (j:Nat) (s:ByteArray):((strsL L).map Value.string).set j (.string s)=(strsL (L.set j (lsB s))).map Value.string:=by
 rw [←List.map_set,strsL_set]
structure ShowAt (T:Int→List Int→ByteArray) (m:MD) (rr:List Nat) (o4 i:Nat) (w4 w:World):Prop where
 below:Below o4 w4 w
 blk:Blk o4 9 ((strsL (linesAt T m.F rr m.R i)).map Value.string) w
theorem ShowAt.keep {T:Int→List Int→ByteArray}{m:MD}{rr:List Nat}{o4 i:Nat}{w4 w w':World} (h:ShowAt T m rr o4 i w4 w) (hb:Below w.heap.size w w'):ShowAt T m rr o4 i w4 w':=⟨h.below.trans (hb.mono (Nat.le_of_lt h.blk.lt)),h.blk.below hb⟩
theorem ShowAt.set {T:Int→List Int→ByteArray}{m:MD}{rr:List Nat}{o4 i:Nat}{w4 w:World} (h:ShowAt T m rr o4 i w4 w) (hi:i<rr.length) {s:ByteArray} (hs:lsB s=hobjL T m.F rr i (rr.getD i 0)):ShowAt T m rr o4 (i+1) w4 (w.setCell ⟨o4,m.R.length+i,none⟩ (.string s)):=by
 refine ⟨h.below.setCell (Nat.le_refl _) _,?_⟩
 have hb:=h.blk.set (j:=m.R.length+i) (by rw [List.length_map,strsL_len,linesAt_len];omega) (.string s)
 rw [strsV_set,hs,linesAt_set T m.F rr m.R i hi] at hb
 exact hb
theorem ShowAt.next {T:Int→List Int→ByteArray}{m:MD}{rr:List Nat}{o4 i:Nat}{w4 w:World} (h:ShowAt T m rr o4 i w4 w) (hk:¬ m.F (rr.getD i 0) / 4 % 256<8):ShowAt T m rr o4 (i+1) w4 w:=⟨h.below,by rw [←linesAt_keep T m.F rr m.R i hk];exact h.blk⟩
set_option maxHeartbeats 4000000 in
set_option maxRecDepth 100000 in
theorem hshow_gen (T:Int→List Int→ByteArray) (a:Nat→Addr) (q p:Nat) (tn sr:Int) (m:MD) (vs:List Nat) (hS:m.Shape vs) (hCr:m.cardsB=true) (h64:MD64 m) (bR:m.R.length≤5000) (hT:∀ f∈m.reach vs,m.F f / 4 % 256<8→TFew T (m.F f / 4 % 256) (fieldsP m.F f)) (w:World) (E:MErr3 a w) (ht:TabbedM w) (hz:Tz16 w) (H:HeapAt q p tn sr w) (R:RepP p m w) (hx:∀ f∈m.reach vs,TellsR T q m f w) :
  Calls Tryz.prog 15 #[.pointer (some ⟨q,0,none⟩)] w fun ev w'=>ev = .returned (.string (hObjsP T m.F (m.reach vs) (gLines sRoot (m.reach vs) ⟨#[]⟩ m.R) (m.reach vs).length))∧Below w.heap.size w w':=by
 have HE:=toHid E
 have HR:=toHid R
 have H64:=toHid (bare_64 h64)
 have HSS:=toHid (bare_shape hS)
 have HX:=toHid hx
 have HT:=toHid ht
 have HZ:=toHid hz
 have hlive:liveP m.F (m.reach vs)≤300000:=by
  obtain ⟨l1,l2,e,w1,w2⟩:=hS.bare
  subst e
  exact (live_few hS h64 w1 w2).1
 have hsz:(gObjsP m.F (m.reach vs) (gLines sRoot (m.reach vs) ⟨#[]⟩ m.R) (m.reach vs).length).size<40000000:=by
  have:=main_size m.F (m.reach vs) (by have:=(reach_outs hS h64).len;have:=hS.few;omega) m.R
  omega
 have hsz2:(hObjsP T m.F (m.reach vs) (gLines sRoot (m.reach vs) ⟨#[]⟩ m.R) (m.reach vs).length).size<40000000:=by
  have:=hmain_size (T:=T) m.F (m.reach vs) (by have:=(reach_outs hS h64).len;have:=hS.few;omega) m.R hT
  omega
 have hTl:∀ i f,(m.reach vs)[i]?=some f→m.F f / 4 % 256<8→(T (m.F f / 4 % 256) (fieldsP m.F f)).size≤20000000:=fun i f hf hk=>by
  have hfm:=List.mem_of_getElem? hf
  have h1:=hT f hfm hk
  unfold TFew at h1
  have h2:(fieldsP m.F f).length=szN (m.F f):=by unfold fieldsP;simp
  have h3:=(hS.fine f ((reach_outs hS h64).sub f hfm)).1
  have h4:=(of_decide_eq_true h3).2.2
  have h5:szN (m.F f)≤4096:=by unfold szN;omega
  omega
 obtain ⟨Z,hZ⟩:∃ Z,Z=hObjsP T m.F (m.reach vs) (gLines sRoot (m.reach vs) ⟨#[]⟩ m.R) (m.reach vs).length:=⟨_,rfl⟩
 rw [←hZ] at hsz2 ⊢
 have HZ1:=toHid hZ
 clear hZ
 obtain ⟨vW,vR,vK,vI,vC,hp,M,hW,hR,hKr,hIr,hCr'⟩:=R
 have HW:=toHid hW
 have HRr:=toHid hR
 have HC:=toHid hCr'
 obtain ⟨aW,cW,rfl,_⟩:=hW
 obtain ⟨aR,cR,rfl,_⟩:=hR
 obtain ⟨aK,cK,rfl,_⟩:=hKr
 obtain ⟨aI,cI,rfl,_⟩:=hIr
 obtain ⟨aC,cC,rfl,_⟩:=hCr'
 have d0:=H.c0
 obtain ⟨m0,m1,m2,m3,m4,m5,m6,m7,m8,m9,m10⟩:=M
 have HTL:=toHid hTl
 clear E h64 H ht hz hx hT hlive hTl
 go_enter Tryz.func15,Tryz.ntmps15
 go_upto_region 3 with fail
 obtain ⟨w1,hw1⟩:∃ w1,w1=w.alloc (.cells #[.int .i64 m.half,.int .i64 m.old,.int .i64 m.card,.slice aW m.W.length cW,.int .i64 m.used,.int .i64 m.top,.int .i64 m.oldTop,.slice aR m.R.length cR,.slice none 0 0,.slice none 0 0,.slice aC m.C.length cC] 54):=⟨_,rfl⟩
 obtain ⟨o,ho⟩:∃ o,o=w.heap.size:=⟨_,rfl⟩
 have b1:Below w.heap.size w w1:=by rw [hw1];exact (Below.refl _ _).alloc (Nat.le_refl _) _
 have R1:Hid (RepP o m.bare w1):=by
  have hM:=memAt_alloc w m.half m.old m.card (.slice aW m.W.length cW) m.used m.top m.oldTop (.slice aR m.R.length cR) (.slice none 0 0) (.slice none 0 0) (.slice aC m.C.length cC) 54
  rw [←hw1,←ho] at hM
  refine ⟨_,_,_,_,_,?_,hM,HW.out.below b1,HRr.out.below b1,?_,?_,HC.out.below b1⟩
  ·rw [hw1,ho];simp
  ·exact ⟨none,0,rfl,Nat.le_refl _,fun h=>absurd h (by show ¬ 0<0;simp)⟩
  ·exact ⟨none,0,rfl,Nat.le_refl _,fun h=>absurd h (by show ¬ 0<0;simp)⟩
 rw [←hw1,←ho]
 have bR3:m.bare.R.length≤300000:=by show m.R.length≤_;omega
 have kg:=graph_any a o m.bare H64.out bR3 (by show 0≤300000;omega) (by show 0≤300000;omega) w1 (HE.out.below b1) (HT.out.below b1 (Nat.le_refl _)) (HZ.out.below b1 (Nat.le_refl _)) R1.out
 have m7':w1.cell? ⟨o,7,none⟩=some (.slice aR m.R.length cR):=by rw [hw1,ho,cell_of_row _ _ 7 _ _ _ (heap_alloc_new _ _)];rfl
 have HO7:Hid (o<w1.heap.size∧w1.cell? ⟨o,7,none⟩=some (.slice aR m.R.length cR)):=⟨lt_of_cell m7',m7'⟩
 clear hw1 ho m0 m1 m2 m3 m4 m5 m6 m7 m8 m9 m10 d0
 have HB1:=toHid b1
 clear b1
 go_wp2_with fail
 refine kg.mono ?_
 clear kg
 rintro ev w2 ⟨b2,⟨us,hus,_,rfl⟩ | ⟨us,_,hC,_⟩ | ⟨hno,_⟩⟩
 rotate_left
 ·have hC:m.cardsB=false:=hC
  rw [hCr] at hC;cases hC
 ·exact absurd HSS.out (hno vs)
 have hus:=HSS.out.one hus
 subst hus
 have HB2:=toHid (HB1.out.trans (b2.mono HB1.out.size))
 have HO72:Hid (o<w2.heap.size∧w2.cell? ⟨o,7,none⟩=some (.slice aR m.R.length cR)):=⟨Nat.lt_of_lt_of_le HO7.out.1 b2.size,(b2.cell (p:=⟨o,7,none⟩) HO7.out.1).trans HO7.out.2⟩
 have R2:=toHid (R1.out.below b2)
 have kr:=preached_any a o m.bare us HSS.out hCr H64.out bR3 (by show 0≤300000;omega) (by show 0≤300000;omega) w2 (HE.out.below HB2.out) R2.out
 have hAe:m.bare.text us=gObjsP m.F (m.reach us) (gLines sRoot (m.reach us) ⟨#[]⟩ m.R) (m.reach us).length:=by
  show gIds (m.reach us) (gLines sWeak (m.reach us) (gObjsP m.F (m.reach us) (gLines sRoot (m.reach us) ⟨#[]⟩ m.R) (m.reach us).length) []) ((ordI []).filter (hasI (m.reach us)))=_
  rw [show ordI [] = [] by unfold ordI;simp]
  rfl
 rw [hAe]
 have hre:m.bare.reach us=m.reach us:=rfl
 clear b2 hAe
 go_wp2_with fail
 refine kr.mono ?_
 clear kr
 rintro ev w3 ⟨ao,cap,rfl,hrow,b3⟩
 rw [hre] at hrow ⊢
 have HROW:=toHid hrow
 have HB3:=toHid (HB2.out.trans (b3.mono HB2.out.size))
 have HO73:Hid (o<w3.heap.size∧w3.cell? ⟨o,7,none⟩=some (.slice aR m.R.length cR)):=⟨Nat.lt_of_lt_of_le HO72.out.1 b3.size,(b3.cell (p:=⟨o,7,none⟩) HO72.out.1).trans HO72.out.2⟩
 clear hrow b3 R1 R2 HW HRr HC HB1 HB2 m7' HO7 HO72 hre
 have hol:=reach_outs HSS.out H64.out
 have hfw:=HSS.out.few
 have hrl:(m.reach us).length≤us.length:=hol.len
 obtain ⟨rr,hrr⟩:∃ rr,rr=m.reach us:=⟨_,rfl⟩
 have hZ:=HZ1.out
 clear HZ1
 rw [←hrr] at HX HROW hrl hsz hZ HTL ⊢
 have hrn:rr.length≤300000:=Nat.le_trans hrl hfw
 obtain ⟨A,hA⟩:∃ A,A=gObjsP m.F rr (gLines sRoot rr ⟨#[]⟩ m.R) rr.length:=⟨_,rfl⟩
 rw [←hA] at hsz ⊢
 have hcnt:(lsB A).count 10=m.R.length+rr.length:=by rw [hA];exact main_lines m.F rr m.R
 have hL:Lib.splitB nlB 1 ((lsB A).count 10) A=strsL (linesAt T m.F rr m.R 0):=strs_eq (by
  rw [hcnt,show (Lib.splitB nlB 1 (m.R.length+rr.length) A).map lsB=_ from Lib.splitB_data nlB 1 _ A,hA]
  exact linesAt_zero T m.F rr m.R _ (Nat.le_refl _))
 have HZ2:Hid (lsB Z=(linesAt T m.F rr m.R rr.length).flatten):=by show _=_;rw [hZ];exact (linesAt_end T m.F rr m.R).symm
 clear hol hfw hrl hrr hA hZ hcnt
 go_upto_region 5 with fail
 have ks:=splitAfter_all A (by omega) w3
 obtain ⟨nL,hnL⟩:∃ nL,nL=m.R.length+(rr.length+1):=⟨_,rfl⟩
 rw [hL,strsL_len,linesAt_len,←hnL] at ks
 have HNL:=toHid hnL
 clear hL hnL
 go_wp2_with fail
 refine ks.mono ?_
 clear ks
 rintro ev w4 ⟨N,rfl,hl,hNs,hw4⟩
 obtain ⟨o4,ho4⟩:∃ o4,o4=w3.heap.size:=⟨_,rfl⟩
 have hn4:w4.heap[o4]?=some (.cells (Lib.cellsOf (strsL (linesAt T m.F rr m.R 0)) N) 9):=by rw [hw4,ho4];exact heap_alloc_new _ _
 have b34:Below w3.heap.size w3 w4:=by rw [hw4];exact (Below.refl _ _).alloc (Nat.le_refl _) _
 have HB4:Hid (Below w.heap.size w w4):=HB3.out.trans (b34.mono HB3.out.size)
 have hwo:Hid (w.heap.size≤o4):=by show _≤_;rw [ho4];exact HB3.out.size
 have HO74:Hid (o<o4∧w4.cell? ⟨o,7,none⟩=some (.slice aR m.R.length cR)):=⟨by rw [ho4];exact HO73.out.1,(b34.cell (p:=⟨o,7,none⟩) HO73.out.1).trans HO73.out.2⟩
 have HROW4:Hid (∃ ao2 cap2,(.slice ao rr.length cap:Value) = .slice ao2 rr.length cap2∧(0<rr.length → ∃ b o1,ao2=some ⟨b,o1,none⟩∧b<o4 ∧ ∀ j u,(natsV rr)[j]?=some u→w4.cell? ⟨b,o1+j,none⟩=some u)):=by
  obtain ⟨a2,c2,e,_,f⟩:=HROW.out
  refine ⟨a2,c2,e,fun h => ?_⟩
  obtain ⟨b,o1,e1,e2,e3⟩:=f h
  exact ⟨b,o1,e1,by rw [ho4];exact e2,fun j u hj=>(b34.cell (p:=⟨b,o1+j,none⟩) e2).trans (e3 j u hj)⟩
 have HS0:Hid (ShowAt T m rr o4 0 w4 w4):=⟨Below.refl _ _,lines_blk hn4⟩
 rw [←ho4]
 clear hw4 ho4 hn4 HROW HB3 b34 HO73
 go_wp2_with fail
 go_loopg [34] (rr.length+1) (fun gk v34 wr => ∃ (i:Nat),gk=rr.length+1 - i∧i≤rr.length∧v34 = .int .i64 (i:Int)∧Hid (ShowAt T m rr o4 i w4 wr))
 case atStart=>exact ⟨0,rfl,Nat.zero_le _,rfl,HS0⟩
 case round =>
  clear HS0
  obtain ⟨i,hgk,hk,rfl,hSh⟩:=hrel
  have HG:=toHid hgk
  have hk0:(0:Int)≤(i:Int):=by omega
  have HBw:Hid (Below w.heap.size w wr):=HB4.out.trans (hSh.out.below.mono hwo.out)
  clear hgk
  by_cases hlt:i<rr.length
  ·have hI:(i:Int)<(rr.length:Int):=by omega
   obtain ⟨f,hf⟩:∃ f,rr[i]?=some f:=⟨_,List.getElem?_eq_getElem hlt⟩
   have hfd:rr.getD i 0=f:=by rw [List.getD_eq_getElem?_getD,hf];rfl
   obtain ⟨_,_,e,f1⟩:=HROW4.out
   cases e
   obtain ⟨p1,o1,rfl,l1,g1⟩:=f1 (by omega)
   have r0:wr.cell? ⟨p1,o1+i,none⟩=some (.int .i64 (f:Int)):=(hSh.out.below.cell (p:=⟨p1,o1+i,none⟩) l1).trans (g1 i _ (by unfold natsV;rw [List.getElem?_map,hf];rfl))
   have kt0:=HX.out f (List.mem_of_getElem? hf) wr HBw.out
   have HF:=toHid hf
   have HFD:=toHid hfd
   clear g1 f1 hf hfd
   by_cases hkd:m.F f / 4 % 256<8
   ·have kt:=kt0.mono (R':=fun ev w'=>ev = .returned (.tuple #[.string (decB (m.F f / 4 % 256)++T (m.F f / 4 % 256) (fieldsP m.F f)),.bool true])∧Below wr.heap.size wr w') (fun ev w' t=>by
     rcases t with ⟨⟨h,_⟩ | ⟨_,h⟩,hb⟩
     ·exact absurd hkd h
     ·exact ⟨h,hb⟩)
    clear kt0
    have hdk:=decB_size (m.F f / 4 % 256) (by omega) (by omega)
    have htl:=HTL.out i f HF.out hkd
    have hdi:=decB_size (i:Int) (by omega) (by omega)
    obtain ⟨S,hSd⟩:∃ S,S=decB (m.F f / 4 % 256)++T (m.F f / 4 % 256) (fieldsP m.F f):=⟨_,rfl⟩
    have hSs:S.size≤20000100:=by rw [hSd,ByteArray.size_append];omega
    have hLine:Hid (lsB (((decB (i:Int)++⟨#[32]⟩)++S)++⟨#[10]⟩)=hobjL T m.F rr i (rr.getD i 0)):=by
     show _=_
     unfold hobjL
     rw [HFD.out,if_pos hkd,hSd,lsB_app,lsB_app,lsB_app,lsB_app]
     simp [lsB]
    rw [←hSd] at kt
    have a1:=fun wx=>run_string_add_sum (P:=Tryz.prog) (w:=wx) (decB (i:Int)) ⟨#[32]⟩ (by show _+1≤_;omega)
    have a2:=fun wx=>run_string_add_sum (P:=Tryz.prog) (w:=wx) (decB (i:Int)++⟨#[32]⟩) S (by rw [ByteArray.size_append];show _+1+_≤_;omega)
    have a3:=fun wx=>run_string_add_sum (P:=Tryz.prog) (w:=wx) ((decB (i:Int)++⟨#[32]⟩)++S) ⟨#[10]⟩ (by rw [ByteArray.size_append,ByteArray.size_append];show _+1+_+1≤_;omega)
    have kI:Hid (∀ W,Below w.heap.size w W→Calls Tryz.prog 36 #[.int .i64 (i:Int)] W fun ev w'=>ev = .returned (.string (decB (i:Int)))∧Below W.heap.size W w'):=fun W hW=>itoa_at (by omega) (by omega) W (HT.out.below hW (Nat.le_refl _))
    have hnL:=HNL.out
    obtain ⟨J,hJ⟩:∃ J:Nat,J=m.R.length+i:=⟨_,rfl⟩
    have hJi:(m.R.length:Int)+(i:Int)=(J:Int):=by omega
    have hJl:(J:Int)<(nL:Int):=by omega
    have hJ0:(0:Int)≤(J:Int):=by omega
    have hwr:IntKind.i64.wrap ((m.R.length:Int)+(i:Int))=(J:Int):=(wrapI _ (by omega) (by omega)).trans hJi
    have HJ:=toHid hJ
    have HC7:Hid (∀ W,Below o4 w4 W→W.cell? ⟨o,7,none⟩=some (.slice aR m.R.length cR)):=fun W hW=>(hW.cell (p:=⟨o,7,none⟩) HO74.out.1).trans HO74.out.2
    clear hSd hdk htl hkd hJi hJ hnL
    generalize decB (i:Int)=di at *
    go_wp2_with fail
    refine kt.mono ?_
    clear kt r0
    rintro ev w5 ⟨rfl,b5⟩
    have hSh5:=toHid (hSh.out.keep b5)
    have HB5:Hid (Below w.heap.size w w5):=HBw.out.trans (b5.mono HBw.out.size)
    clear b5
    have hc7:=HC7.out w5 hSh5.out.below
    have hs5:=hSh5.out
    have hbw5:=HB5.out
    go_upto_region 11 with fail
    go_region_held3 (fun W=>W.cell? ⟨o,7,none⟩=some (.slice aR m.R.length cR)) (first | with_reducible exact hc7 | with_reducible exact HC7.out _ hs5.below | with_reducible exact HC7.out _ hs5.below.drew | with_reducible exact HC7.out _ hs6.below | with_reducible exact HC7.out _ hs6.below.drew | with_reducible exact HC7.out _ hs7.below | with_reducible exact HC7.out _ (hs6.below.setCell (Nat.le_refl _) _)) (first
     | (go_at_call 36;refine (kI.out _ (by first | with_reducible exact hbw5 | with_reducible exact hbw5.drew)).mono ?_;rintro ev w6 ⟨rfl,b6⟩;have hs6:ShowAt T m rr o4 i w4 w6:=(by first | with_reducible exact hs5.keep b6 | with_reducible exact (hs5.keep (Below.refl _ _).drew).keep b6);have cj:=hs6.blk.cell (j:=J) (v:=.string ((strsL (linesAt T m.F rr m.R i)).getD J ⟨#[]⟩)) (by rw [List.getElem?_map,List.getD_eq_getElem?_getD,List.getElem?_eq_getElem (by rw [strsL_len,linesAt_len];have:=HJ.out;omega)];rfl);have fj:=hs6.blk.frozen J;have hs7:ShowAt T m rr o4 (i+1) w4 (w6.setCell ⟨o4,J,none⟩ (.string (((di++⟨#[32]⟩)++S)++⟨#[10]⟩))):=(by rw [HJ.out];exact hs6.set hlt hLine.out);clear b6))
    all_goals (
     have HS7:=toHid hs7
     clear hs7 hs6 cj fj hs5 hbw5
     go_wp2_with fail
     go_roundg (rr.length+1 - (i+1))
     case measure=>have:=HG.out;omega
     case rel=>exact ⟨i+1,rfl,by omega,by go_num,HS7⟩)
   ·have kt:=kt0.mono (R':=fun ev w'=>ev = .returned (.tuple #[.string ⟨#[]⟩,.bool false])∧Below wr.heap.size wr w') (fun ev w' t=>by
     rcases t with ⟨⟨_,h⟩ | ⟨h,_⟩,hb⟩
     ·exact ⟨h,hb⟩
     ·exact absurd h hkd)
    clear kt0
    have HSN:Hid (ShowAt T m rr o4 (i+1) w4 wr):=hSh.out.next (by rw [HFD.out];exact hkd)
    clear hkd
    go_wp2_with fail
    refine kt.mono ?_
    clear kt r0
    rintro ev w5 ⟨rfl,b5⟩
    have HSN5:=toHid (HSN.out.keep b5)
    clear b5
    go_wp2_with fail
    go_roundg (rr.length+1 - (i+1))
    case measure=>have:=HG.out;omega
    case rel=>exact ⟨i+1,rfl,by omega,by go_num,HSN5⟩
  ·have hI:¬ (i:Int)<(rr.length:Int):=by omega
   obtain rfl:i=rr.length:=by omega
   have hcs:∀ (j:Nat) y,(strsL (linesAt T m.F rr m.R rr.length))[j]?=some y→wr.cell? ⟨o4,0+j,none⟩=some (.string y):=fun j y hj=>by
    rw [Nat.zero_add]
    exact hSh.out.blk.cell (by rw [List.getElem?_map,hj];rfl)
   have hsj:=joinL (linesAt T m.F rr m.R rr.length)
   rw [←HZ2.out] at hsj
   have kj:=sstrings_Join o4 0 N (strsL (linesAt T m.F rr m.R rr.length)) ⟨#[]⟩ wr hcs hSh.out.blk.lt (by rw [strsL_len,linesAt_len];omega) (by rw [strsL_len,linesAt_len];have:=HNL.out;omega) (by rw [hsj,lsB_size];omega)
   rw [hsj,strsL_len,linesAt_len,←HNL.out,show (⟨(lsB Z).toArray⟩:ByteArray)=Z from lsB_inj (by simp [lsB])] at kj
   clear hcs hsj
   go_wp2_with fail
   refine kj.mono ?_
   clear kj
   rintro ev w5 ⟨rfl,b5⟩
   go_wp2_with fail
   first | go_ret | skip
   exact ⟨rfl,HBw.out.trans (b5.mono HBw.out.size)⟩
end Go.Proofs.YtlkcbdinlfeoiabGreatDoor
namespace Go.Proofs.YtlkcbdinlfeoiabGreatDoor
open Go.RowKit Go.Maps

variable {h:HP}{sr:Int}{m:MD}{w w':World}{a:Nat→Addr}{w0:World}{M:MO}{X:MXtra}
theorem rowV_ofK {t:TypeId}{k:Nat}{v:Value}{n:Nat}{xs:List Value}{w:World} (h:RowB t k v n xs w):RowV w v n xs:=by
 obtain ⟨ao,cap,e,hc,_,f⟩:=h
 refine ⟨ao,cap,e,hc,fun hn => ?_⟩
 obtain ⟨g,rfl,hb⟩:=f hn
 exact ⟨g,0,rfl,hb.lt,fun j u hj=>by rw [Nat.zero_add];exact hb.cell hj⟩
theorem HAt.rep (H:HAt h sr m w):RepP h.p m w:=
 ⟨_,_,_,_,_,H.tp.lt,H.cm,⟨_,_,rfl,H.cap,fun _=>⟨h.bW,rfl,H.tW.lt,fun _ _ hj=>H.hW.cell hj⟩⟩,H.col.R,H.col.K,rowV_ofK H.col.I,⟨_,_,rfl,H.capC,fun _=>⟨h.bC,rfl,H.tC.lt,fun _ _ hj=>H.hC.cell hj⟩⟩⟩
theorem HAt.heapAt (H:HAt h sr m w):HeapAt h.q h.p h.tn sr w:=⟨H.tq.lt,H.c0,H.c1,H.c2⟩
def BoxM (T:Int→List Int→ByteArray) (M:MO):Prop:=∀ d∈M.N,d.kind<8→d.kind=1 ∧ ∃ y,d.raw = [y]∧0≤y∧y<18446744073709551616∧T 1 [y]=⟨#[32]⟩++decB (wrap64 y)
theorem fieldsP_one {F:Nat→Int}{f:Nat}{y:Int} (h:fieldsP F f = [y]):szN (F f)=1∧F (f+1)=y:=by
 have h1:=congrArg List.length h
 unfold fieldsP at h h1
 simp at h1
 rw [h1] at h
 simp at h
 exact ⟨h1,h⟩
set_option maxHeartbeats 1000000 in
theorem hshow_box (T:Int→List Int→ByteArray) (s:HS a w0 h sr m M X w) (hM:BoxM T M) :
  Calls Tryz.prog 15 #[.pointer (some ⟨h.q,0,none⟩)] w fun ev w'=>ev = .returned (.string (M.text T))∧Below w.heap.size w w':=by
 obtain ⟨vs,S,φ,hr,hw⟩:=s.hm
 have hwl:=s.wlen
 have R:=s.at'.rep
 have H:=s.at'.heapAt
 have E:=s.benv
 obtain ⟨e1,e2,_⟩:=hr.all
 have hF:∀ f∈m.reach vs,∃ d∈M.N,m.F f / 4 % 256=d.kind∧(d.kind<8→fieldsP m.F f=d.raw):=fun f hf=>by
  rw [e1] at hf
  obtain ⟨i,hi,rfl⟩:=List.mem_map.1 hf
  obtain ⟨d,h1,_,h3,h4,_⟩:=hr.rel.has i (e2 i hi)
  refine ⟨d,List.mem_of_getElem? h1,h3,fun hk => ?_⟩
  rw [h4]
  unfold wdN
  rw [if_pos hk]
 have hX:∀ f∈m.reach vs,∃ x,m.W[f]?=some x∧m.F f=x∧0≤x∧x<18446744073709551616∧x % 4=3∧x / 32768 % 2=0∧x / 65536≤4096∧f+szN x<m.W.length:=fun f hf=>by
  obtain ⟨h1,h2⟩:=hr.shape.fine f ((reach_outs hr.shape hr.h64).sub f hf)
  have hlt:f<m.W.length:=by omega
  have hFf:m.F f=m.W[f]:=by unfold MD.F;rw [List.getD_eq_getElem?_getD,List.getElem?_eq_getElem hlt];rfl
  rw [hFf] at h1 h2
  obtain ⟨q1,q2,q3⟩:=of_decide_eq_true h1
  obtain ⟨u1,u2⟩:=hr.h64.w _ (List.getElem_mem hlt)
  exact ⟨m.W[f],List.getElem?_eq_getElem hlt,hFf,u1,u2,q1,q2,q3,by omega⟩
 have hBox:∀ f∈m.reach vs,m.F f / 4 % 256<8→m.F f / 4 % 256=1 ∧ ∃ y,fieldsP m.F f = [y]∧0≤y∧y<18446744073709551616∧T 1 [y]=⟨#[32]⟩++decB (wrap64 y):=fun f hf hk=>by
  obtain ⟨d,hd,q1,q2⟩:=hF f hf
  rw [q1] at hk ⊢
  obtain ⟨k1,y,k2,k3,k4,k5⟩:=hM d hd hk
  exact ⟨k1,y,(q2 hk).trans k2,k3,k4,k5⟩
 have wr:∀ y:Int,0≤y→y<18446744073709551616 → -9223372036854775808≤wrap64 y∧wrap64 y≤9223372036854775807:=fun y _ _=>by unfold wrap64;omega
 have ks:=hshow_gen T a h.q h.p h.tn sr m vs hr.shape hr.cards hr.h64 s.rlen.2 (fun f hf hk=>by
  obtain ⟨k1,y,k2,k3,k4,k5⟩:=hBox f hf hk
  unfold TFew
  rw [k1,k2,k5,ByteArray.size_append]
  have:=decB_size (wrap64 y) (wr y k3 k4).1 (wr y k3 k4).2
  show 1+_≤20+40*(1+1)
  omega) w E.me E.tab E.tz H R (fun f hf W hW=>by
  obtain ⟨x,x1,x2,x3,x4,x5,x6,x7,x8⟩:=hX f hf
  by_cases hk:m.F f / 4 % 256<8
  ·obtain ⟨k1,y,k2,k3,k4,k5⟩:=hBox f hf hk
   obtain ⟨z1,z2⟩:=fieldsP_one k2
   have hlt:f+1<m.W.length:=by rw [x2] at z1;omega
   have hg:m.W[f+1]?=some y:=by
    rw [←z2,List.getElem?_eq_getElem hlt]
    unfold MD.F
    rw [List.getD_eq_getElem?_getD,List.getElem?_eq_getElem hlt]
    rfl
   have hd:=decB_size (wrap64 y) (wr y k3 k4).1 (wr y k3 k4).2
   refine (tellRaw_box h.q h.p h.tn sr m f x y (wrap64 y) x1 hg (by rw [IntKind.wrap_i64,wrap64_eq]) (wr y k3 k4).1 (wr y k3 k4).2 (by omega) x3 x4 x5 x6 x7 (by rw [←x2];exact k1) (by omega) W (H.below hW) (R.below hW) (E.tab.below hW (Nat.le_refl _))).mono ?_
   rintro ev w1 ⟨rfl,hb⟩
   refine ⟨.inr ⟨hk,?_⟩,hb⟩
   rw [k1,k2,k5]
   have:decB 1++⟨#[32]⟩++decB (wrap64 y)=decB 1++(⟨#[32]⟩++decB (wrap64 y)):=lsB_inj (by rw [lsB_app,lsB_app,lsB_app,lsB_app,List.append_assoc])
   rw [this]
  ·refine (tellRaw_no h.q h.p h.tn sr m f x x1 x3 x4 x5 x6 x7 (by rw [←x2];omega) (by rw [←x2];omega) W (H.below hW) (R.below hW)).mono ?_
   rintro ev w1 ⟨rfl,hb⟩
   exact ⟨.inl ⟨hk,rfl⟩,hb⟩)
 rw [hr.text T] at ks
 exact ks
end Go.Proofs.YtlkcbdinlfeoiabGreatDoor
