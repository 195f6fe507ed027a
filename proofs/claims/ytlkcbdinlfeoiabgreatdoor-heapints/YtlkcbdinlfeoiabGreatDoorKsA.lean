/- Lines of a text, plainly: a text that is cut behind each newline; the lines of a heap. -/
import Derived.Test.YtlkcbdinlfeoiabGreatDoorKnAG
import Derived.Lib.Split
import Derived.Test.YtlkcbdinlfeoiabGreatDoorKnAE
import Derived.Lib.SplitLaws
import Derived.Test.YtlkcbdinlfeoiabGreatDoorKnAP
namespace Go.Proofs.YtlkcbdinlfeoiabGreatDoor
open Go.RowKit

def lsB (s:ByteArray):List UInt8:=s.data.toList
theorem lsB_app (a b:ByteArray):lsB (a++b)=lsB a++lsB b:=by unfold lsB;rw [ByteArray.data_append,Array.toList_append]
theorem lsB_inj {a b:ByteArray} (h:lsB a=lsB b):a=b:=by
 cases a;cases b
 unfold lsB at h
 congr
 exact Array.toList_inj.1 h
theorem lsB_size (s:ByteArray):(lsB s).length=s.size:=rfl
def NoNL (l:List UInt8):Prop:=(10:UInt8) ∉ l
theorem NoNL.app {a b:List UInt8} (ha:NoNL a) (hb:NoNL b):NoNL (a++b):=fun h=>by
 rcases List.mem_append.1 h with q | q
 ·exact ha q
 ·exact hb q
theorem index_nl:∀ (a r:List UInt8),NoNL a→Lib.index (a++10::r) [10]=(a.length:Int)
 | [],r,_=>by
  show (if ([10]:List UInt8).isPrefixOf (10::r) then _ else _)=_
  rw [if_pos (by simp [List.isPrefixOf])]
  rfl
 | b::a,r,h=>by
  have hb:¬ (10:UInt8)=b:=fun e=>h (by rw [e];simp)
  have ih:=index_nl a r (fun q=>h (by simp [q]))
  show (if ([10]:List UInt8).isPrefixOf (b::(a++10::r)) then _ else if Lib.index (a++10::r) [10] == -1 then _ else _)=_
  rw [if_neg (by simp [List.isPrefixOf,hb]),ih,if_neg (by rw [beq_iff_eq];omega)]
  simp
  exact ih
def IsLine (l:List UInt8):Prop:=∃ a,l=a ++ [10]∧NoNL a
theorem splitK_lines:∀ (L:List (List UInt8)) (k:Nat),L.length≤k→(∀ l∈L,IsLine l)→Lib.splitK [10] 1 k L.flatten=L ++ [[]]
 | [],k,_,_=>by cases k <;> rfl
 | l::L,0,h,_=>by simp at h
 | l::L,k+1,h,hl=>by
  obtain ⟨a,rfl,ha⟩:=hl l (by simp)
  have ih:=splitK_lines L k (by simpa using h) (fun x hx=>hl x (by simp [hx]))
  have e:(((a ++ [10])::L).flatten:List UInt8)=a++10::L.flatten:=by simp
  have hi:=index_nl a L.flatten ha
  rw [e]
  unfold Lib.splitK
  rw [hi,if_neg (by rw [beq_iff_eq];omega)]
  have h1:(a++10::L.flatten).take (((a.length:Int)).toNat+1)=a ++ [10]:=by
   rw [Int.toNat_natCast]
   have:a++10::L.flatten=(a ++ [10])++L.flatten:=by simp
   rw [this,List.take_append_of_le_length (by simp),List.take_of_length_le (by simp)]
  have h2:(a++10::L.flatten).drop (((a.length:Int)).toNat+([10]:List UInt8).length)=L.flatten:=by
   rw [Int.toNat_natCast]
   have:a++10::L.flatten=(a ++ [10])++L.flatten:=by simp
   rw [this,List.drop_append_of_le_length (by simp),List.drop_of_length_le (by simp)]
   rfl
  rw [h1,h2,ih]
  rfl
theorem dec_no (n:Nat):∀ (u:Nat),u≤n→NoNL (Lib.decDigits u):=by
 induction n with
 | zero =>
  intro u hu
  obtain rfl:u=0:=by omega
  unfold Lib.decDigits NoNL
  decide
 | succ n ihn =>
  intro u hu
  unfold Lib.decDigits
  split
  ·rename_i h
   intro q
   have:(10:UInt8)=UInt8.ofNat (48+u):=by simpa using q
   have:=congrArg UInt8.toNat this
   simp at this
   omega
  ·rename_i h
   refine NoNL.app ?_ ?_
   ·exact ihn (u / 10) (by omega)
   ·intro q
    have:(10:UInt8)=UInt8.ofNat (48+u % 10):=by simpa using q
    have:=congrArg UInt8.toNat this
    simp at this
    omega
theorem decB_no (n:Int):NoNL (lsB (decB n)):=by
 unfold decB
 show NoNL (Lib.itoa n)
 unfold Lib.itoa
 split
 ·intro q
  rcases List.mem_cons.1 q with q | q
  ·exact absurd q (by decide)
  ·exact dec_no _ _ (Nat.le_refl _) q
 ·exact dec_no _ _ (Nat.le_refl _)
theorem constB_no (n:Int):NoNL (lsB (constB n)):=by
 unfold constB NoNL lsB
 split
 ·decide
 ·split <;> decide
theorem tellB_no (out:List Nat) (x:Int):NoNL (lsB (tellB out x)):=by
 unfold tellB
 split
 ·exact decB_no _
 ·split
  ·exact constB_no _
  ·split
   ·unfold NoNL lsB;decide
   ·split
    ·unfold NoNL lsB;decide
    ·rw [lsB_app]
     exact NoNL.app (by unfold NoNL lsB;decide) (decB_no _)
theorem hexL_no (x:Nat):∀ k,NoNL (hexL x k)
 | 0=>by unfold hexL NoNL;decide
 | k+1=>by
  intro q
  unfold hexL at q
  rcases List.mem_cons.1 q with q | q
  ·have h:x / 16 ^ k % 16<16:=Nat.mod_lt _ (by decide)
   revert q
   generalize x / 16 ^ k % 16=d at h
   have hd:∀ d:Fin 16,¬ (10:UInt8)=digC d.val:=by decide
   exact hd ⟨d,h⟩
  ·exact hexL_no x k q
def rootL (out:List Nat) (x:Int):List UInt8:=(lsB sRoot++lsB (tellB out x)) ++ [10]
theorem rootL_line (out:List Nat) (x:Int):IsLine (rootL out x):=⟨_,rfl,NoNL.app (by unfold NoNL lsB sRoot;decide) (tellB_no out x)⟩
theorem gLines_ls (out:List Nat):∀ (l:List Int) (acc:ByteArray),lsB (gLines sRoot out acc l)=lsB acc++(l.map (rootL out)).flatten
 | [],acc=>by simp [gLines]
 | x::l,acc=>by
  show lsB (gLines sRoot out (gLine sRoot out acc x) l)=_
  rw [gLines_ls out l]
  unfold gLine
  rw [lsB_app,lsB_app,lsB_app,List.map_cons,List.flatten_cons]
  unfold rootL
  simp [lsB]
def fldL (kd:Int) (out:List Nat) (x:Int):List UInt8:=if kd<8 then [32,48,120]++hexL x.toNat 16 else [32]++lsB (tellB out x)
theorem fldL_no (kd:Int) (out:List Nat) (x:Int):NoNL (fldL kd out x):=by
 unfold fldL
 split
 ·exact NoNL.app (by unfold NoNL;decide) (hexL_no _ _)
 ·exact NoNL.app (by unfold NoNL;decide) (tellB_no _ _)
theorem gFields_ls (kd:Int) (out:List Nat):∀ (l:List Int) (acc:ByteArray),lsB (gFields kd out acc l)=lsB acc++(l.map (fldL kd out)).flatten
 | [],acc=>by simp [gFields]
 | x::l,acc=>by
  show lsB (gFields kd out (gField kd out acc x) l)=_
  rw [gFields_ls kd out l,List.map_cons,List.flatten_cons]
  unfold gField fldL
  split
  ·rw [lsB_app,lsB_app];simp [lsB]
  ·rw [lsB_app,lsB_app];simp [lsB]
theorem noNL_flat:∀ (L:List (List UInt8)),(∀ l∈L,NoNL l)→NoNL L.flatten
 | [],_=>by unfold NoNL;simp
 | a::L,h=>by rw [List.flatten_cons];exact (h a (by simp)).app (noNL_flat L (fun x hx=>h x (by simp [hx])))
def objL (F:Nat→Int) (out:List Nat) (i f:Nat):List UInt8:=(((lsB (decB (i:Int)) ++ [32])++lsB (decB (F f / 4 % 256)))++((fieldsP F f).map (fldL (F f / 4 % 256) out)).flatten) ++ [10]
theorem objL_line (F:Nat→Int) (out:List Nat) (i f:Nat):IsLine (objL F out i f):=⟨_,rfl,(((decB_no _).app (by unfold NoNL;decide)).app (decB_no _)).app (noNL_flat _ (fun l hl=>by
 obtain ⟨x,_,rfl⟩:=List.mem_map.1 hl
 exact fldL_no _ _ _))⟩
theorem gObjT_ls (F:Nat→Int) (out:List Nat) (i f:Nat) (acc:ByteArray):lsB (gObjT F out i f acc)=lsB acc++objL F out i f:=by
 unfold gObjT objL
 rw [lsB_app,gFields_ls,lsB_app,lsB_app,lsB_app]
 simp [lsB]
def hobjL (T:Int→List Int→ByteArray) (F:Nat→Int) (out:List Nat) (i f:Nat):List UInt8:=
 if F f / 4 % 256<8 then (((lsB (decB (i:Int)) ++ [32])++lsB (decB (F f / 4 % 256)))++lsB (T (F f / 4 % 256) (fieldsP F f))) ++ [10] else objL F out i f
theorem hObjT_ls (T:Int→List Int→ByteArray) (F:Nat→Int) (out:List Nat) (i f:Nat) (acc:ByteArray):lsB (hObjT T F out i f acc)=lsB acc++hobjL T F out i f:=by
 unfold hObjT hobjL
 split
 ·rw [lsB_app,lsB_app,lsB_app,lsB_app,lsB_app];simp [lsB]
 ·exact gObjT_ls F out i f acc
def objLs (F:Nat→Int) (out:List Nat) (k:Nat):List (List UInt8):=(List.range k).map fun i=>objL F out i (out.getD i 0)
def hobjLs (T:Int→List Int→ByteArray) (F:Nat→Int) (out:List Nat) (k:Nat):List (List UInt8):=(List.range k).map fun i=>hobjL T F out i (out.getD i 0)
theorem gObjs_ls (F:Nat→Int) (out:List Nat) (acc:ByteArray):∀ k,k≤out.length→lsB (gObjsP F out acc k)=lsB acc++(objLs F out k).flatten
 | 0,_=>by simp [gObjsP,objLs]
 | k+1,h=>by
  have ih:=gObjs_ls F out acc k (by omega)
  unfold gObjsP objLs
  rw [List.getElem?_eq_getElem (by omega),List.range_succ,List.map_append,List.flatten_append]
  show lsB (gObjT F out k out[k] (gObjsP F out acc k))=_
  rw [gObjT_ls,ih,List.append_assoc]
  have e:out.getD k 0=out[k]:=by rw [List.getD_eq_getElem?_getD,List.getElem?_eq_getElem (by omega)];rfl
  rw [←e];simp [objLs]
theorem hObjs_ls (T:Int→List Int→ByteArray) (F:Nat→Int) (out:List Nat) (acc:ByteArray):∀ k,k≤out.length→lsB (hObjsP T F out acc k)=lsB acc++(hobjLs T F out k).flatten
 | 0,_=>by simp [hObjsP,hobjLs]
 | k+1,h=>by
  have ih:=hObjs_ls T F out acc k (by omega)
  unfold hObjsP hobjLs
  rw [List.getElem?_eq_getElem (by omega),List.range_succ,List.map_append,List.flatten_append]
  show lsB (hObjT T F out k out[k] (hObjsP T F out acc k))=_
  rw [hObjT_ls,ih,List.append_assoc]
  have e:out.getD k 0=out[k]:=by rw [List.getD_eq_getElem?_getD,List.getElem?_eq_getElem (by omega)];rfl
  rw [←e];simp [hobjLs]
def linesAt (T:Int→List Int→ByteArray) (F:Nat→Int) (out:List Nat) (R:List Int) (i:Nat):List (List UInt8):=R.map (rootL out)++((List.range out.length).map (fun j=>if j<i then hobjL T F out j (out.getD j 0) else objL F out j (out.getD j 0)) ++ [[]])
theorem linesAt_len (T:Int→List Int→ByteArray) (F:Nat→Int) (out:List Nat) (R:List Int) (i:Nat):(linesAt T F out R i).length=R.length+(out.length+1):=by
 unfold linesAt;simp
theorem linesAt_zero (T:Int→List Int→ByteArray) (F:Nat→Int) (out:List Nat) (R:List Int) (k:Nat) (hk:R.length+out.length≤k):Lib.splitK [10] 1 k (lsB (gObjsP F out (gLines sRoot out ⟨#[]⟩ R) out.length))=linesAt T F out R 0:=by
 have e:lsB (gObjsP F out (gLines sRoot out ⟨#[]⟩ R) out.length)=(R.map (rootL out)++objLs F out out.length).flatten:=by
  rw [gObjs_ls F out _ _ (Nat.le_refl _),gLines_ls,List.flatten_append]
  rfl
 rw [e,splitK_lines _ k (by simp [objLs];exact hk) (fun l hl=>by
  rcases List.mem_append.1 hl with q | q
  ·obtain ⟨x,_,rfl⟩:=List.mem_map.1 q;exact rootL_line _ _
  ·obtain ⟨x,_,rfl⟩:=List.mem_map.1 q;exact objL_line _ _ _ _)]
 unfold linesAt objLs
 simp
theorem linesAt_set (T:Int→List Int→ByteArray) (F:Nat→Int) (out:List Nat) (R:List Int) (i:Nat) (hi:i<out.length):(linesAt T F out R i).set (R.length+i) (hobjL T F out i (out.getD i 0))=linesAt T F out R (i+1):=by
 unfold linesAt
 rw [List.set_append,if_neg (by simp),List.length_map,show R.length+i - R.length=i by omega,List.set_append,if_pos (by simpa using hi)]
 congr 1
 congr 1
 apply List.ext_getElem?
 intro j
 rw [List.getElem?_set]
 by_cases hj:i=j
 ·subst hj
  rw [if_pos rfl,if_pos (by simpa using hi),List.getElem?_map,List.getElem?_range hi]
  simp
 ·rw [if_neg hj,List.getElem?_map,List.getElem?_map]
  by_cases hr:j<out.length
  ·rw [List.getElem?_range hr]
   show some (if j<i then _ else _)=some (if j<i+1 then _ else _)
   by_cases hji:j<i
   ·rw [if_pos hji,if_pos (by omega)]
   ·rw [if_neg hji,if_neg (by omega)]
  ·rw [List.getElem?_eq_none (by simpa using hr)]
   rfl
theorem linesAt_keep (T:Int→List Int→ByteArray) (F:Nat→Int) (out:List Nat) (R:List Int) (i:Nat) (h:¬ F (out.getD i 0) / 4 % 256<8):linesAt T F out R i=linesAt T F out R (i+1):=by
 unfold linesAt
 congr 1
 congr 1
 refine List.map_congr_left fun j _ => ?_
 by_cases hji:j<i
 ·rw [if_pos hji,if_pos (by omega)]
 ·rw [if_neg hji]
  by_cases e:j=i
  ·subst e
   rw [if_pos (by omega)]
   unfold hobjL
   rw [if_neg h]
  ·rw [if_neg (by omega)]
theorem linesAt_end (T:Int→List Int→ByteArray) (F:Nat→Int) (out:List Nat) (R:List Int):(linesAt T F out R out.length).flatten=lsB (hObjsP T F out (gLines sRoot out ⟨#[]⟩ R) out.length):=by
 rw [hObjs_ls T F out _ _ (Nat.le_refl _),gLines_ls]
 unfold linesAt hobjLs
 rw [List.flatten_append,List.flatten_append]
 have e:(List.range out.length).map (fun j=>if j<out.length then hobjL T F out j (out.getD j 0) else objL F out j (out.getD j 0))=(List.range out.length).map fun i=>hobjL T F out i (out.getD i 0):=List.map_congr_left fun j hj=>if_pos (List.mem_range.1 hj)
 rw [e]
 simp [lsB]
end Go.Proofs.YtlkcbdinlfeoiabGreatDoor
namespace Go.Proofs.YtlkcbdinlfeoiabGreatDoor
open Go.RowKit

theorem count_lines:∀ (L:List (List UInt8)),(∀ l∈L,IsLine l)→L.flatten.count 10=L.length
 | [],_=>rfl
 | l::L,h=>by
  obtain ⟨a,rfl,ha⟩:=h l (by simp)
  have ih:=count_lines L (fun x hx=>h x (by simp [hx]))
  rw [List.flatten_cons,List.count_append,ih,List.count_append,List.count_eq_zero.2 ha]
  simp
  omega
theorem main_lines (F:Nat→Int) (out:List Nat) (R:List Int):(lsB (gObjsP F out (gLines sRoot out ⟨#[]⟩ R) out.length)).count 10=R.length+out.length:=by
 have e:lsB (gObjsP F out (gLines sRoot out ⟨#[]⟩ R) out.length)=(R.map (rootL out)++objLs F out out.length).flatten:=by
  rw [gObjs_ls F out _ _ (Nat.le_refl _),gLines_ls,List.flatten_append]
  rfl
 rw [e,count_lines _ (fun l hl=>by
  rcases List.mem_append.1 hl with q | q
  ·obtain ⟨x,_,rfl⟩:=List.mem_map.1 q;exact rootL_line _ _
  ·obtain ⟨x,_,rfl⟩:=List.mem_map.1 q;exact objL_line _ _ _ _)]
 simp [objLs]
theorem objI_range (out:List Nat) (x:Int) : -1≤objI out x∧objI out x<out.length+1:=by
 rcases Int.lt_or_le (objI out x) 0 with h | h
 ·refine ⟨?_,by omega⟩
  unfold objI at *
  split
  ·omega
  ·exact Int.le_refl _
 ·obtain ⟨k,f,e,_,_,hk⟩:=objI_some h
  omega
theorem tellB_szH (out:List Nat) (x:Int) (ho:out.length≤300000):(tellB out x).size≤22:=by
 have hr:=objI_range out (ptI x)
 unfold tellB
 split
 ·have : -9223372036854775808≤wrap64 x∧wrap64 x≤9223372036854775807:=by unfold wrap64;omega
  have:=decB_size (wrap64 x / 4) (by omega) (by omega)
  omega
 ·split
  ·unfold constB
   split
   ·decide
   ·split <;> decide
  ·split
   ·decide
   ·split
    ·decide
    ·rw [ByteArray.size_append]
     have:=decB_size (objI out (ptI x)) (by omega) (by omega)
     show 1+_≤22
     omega
theorem flat_lenH {α:Type} (f:α→List UInt8) (c:Nat):∀ (l:List α),(∀ x∈l,(f x).length≤c)→(l.map f).flatten.length≤c*l.length
 | [],_=>by simp
 | a::l,h=>by
  have:=flat_lenH f c l (fun x hx=>h x (by simp [hx]))
  have:=h a (by simp)
  rw [List.map_cons,List.flatten_cons,List.length_append,List.length_cons,Nat.mul_add]
  omega
theorem objL_size (F:Nat→Int) (out:List Nat) (ho:out.length≤300000) (i f:Nat) (hi:i≤300000):(objL F out i f).length≤64*(1+szN (F f)):=by
 have h1:=decB_size (i:Int) (by omega) (by omega)
 have h2:=decB_size (F f / 4 % 256) (by omega) (by omega)
 have h3:=flat_lenH (fldL (F f / 4 % 256) out) 23 (fieldsP F f) (fun x _=>by
  unfold fldL
  split
  ·rw [List.length_append,hexL_len];simp
  ·rw [List.length_append,lsB_size];have:=tellB_szH out x ho;simp;omega)
 have h4:(fieldsP F f).length=szN (F f):=by unfold fieldsP;simp
 unfold objL
 rw [List.length_append,List.length_append,List.length_append,List.length_append,lsB_size,lsB_size]
 simp only [List.length_cons,List.length_nil]
 rw [h4] at h3
 omega
def TFew (T:Int→List Int→ByteArray) (kd:Int) (l:List Int):Prop:=(T kd l).size≤20+40*(1+l.length)
theorem hobjL_size {T:Int→List Int→ByteArray} (F:Nat→Int) (out:List Nat) (ho:out.length≤300000) (i f:Nat) (hi:i≤300000) (hT:F f / 4 % 256<8→TFew T (F f / 4 % 256) (fieldsP F f)):(hobjL T F out i f).length≤104*(1+szN (F f)):=by
 unfold hobjL
 split
 ·rename_i hk
  have hT:=hT hk
  unfold TFew at hT
  have h1:=decB_size (i:Int) (by omega) (by omega)
  have h2:=decB_size (F f / 4 % 256) (by omega) (by omega)
  have h4:(fieldsP F f).length=szN (F f):=by unfold fieldsP;simp
  rw [h4] at hT
  rw [List.length_append,List.length_append,List.length_append,List.length_append,lsB_size,lsB_size,lsB_size]
  simp only [List.length_cons,List.length_nil]
  omega
 ·have:=objL_size F out ho i f hi
  omega
theorem sum_lines (g:Nat→Nat→List UInt8) (c:Nat) (F:Nat→Int):∀ (out:List Nat) (b:Nat),(∀ j f,out[j]?=some f→(g (b+j) f).length≤c*(1+szN (F f)))→((List.range out.length).map fun i=>g (b+i) (out.getD i 0)).flatten.length≤c*liveP F out
 | [],b,_=>by simp [liveP]
 | f::out,b,h=>by
  have ih:=sum_lines g c F out (b+1) (fun j f hj=>by have:=h (j+1) f (by simpa using hj);rw [show b+1+j=b+(j+1) by omega];exact this)
  have h0:=h 0 f rfl
  have e:(List.range (out.length+1)).map (fun i=>g (b+i) ((f::out).getD i 0))=g b f::(List.range out.length).map fun i=>g (b+1+i) (out.getD i 0):=by
   rw [List.range_succ_eq_map,List.map_cons,List.map_map]
   refine congr (congrArg List.cons rfl) (List.map_congr_left fun i _ => ?_)
   show g (b+(i+1)) _=_
   rw [show b+(i+1)=b+1+i by omega]
   rfl
  show ((List.range (out.length+1)).map _).flatten.length≤_
  rw [e,List.flatten_cons,List.length_append]
  unfold liveP at ih ⊢
  rw [List.map_cons,List.sum_cons,Nat.mul_add]
  have h0:(g b f).length≤_:=h0
  omega
theorem main_size (F:Nat→Int) (out:List Nat) (ho:out.length≤300000) (R:List Int):(gObjsP F out (gLines sRoot out ⟨#[]⟩ R) out.length).size≤28*R.length+104*liveP F out:=by
 have h1:=flat_lenH (rootL out) 28 R (fun x _=>by
  have:=tellB_szH out x ho
  unfold rootL
  rw [List.length_append,List.length_append,lsB_size,lsB_size]
  show 5+_+1≤28
  omega)
 have h2:=sum_lines (objL F out) 104 F out 0 (fun j f hj=>by
  have:=objL_size F out ho (0+j) f (by have:=(List.getElem?_eq_some_iff.1 hj).1;omega)
  omega)
 simp only [Nat.zero_add] at h2
 rw [←lsB_size,gObjs_ls F out _ _ (Nat.le_refl _),gLines_ls,List.length_append,List.length_append]
 unfold objLs
 have:(lsB ⟨#[]⟩).length=0:=rfl
 omega
theorem hmain_size {T:Int→List Int→ByteArray} (F:Nat→Int) (out:List Nat) (ho:out.length≤300000) (R:List Int) (hT:∀ f∈out,F f / 4 % 256<8→TFew T (F f / 4 % 256) (fieldsP F f)):(hObjsP T F out (gLines sRoot out ⟨#[]⟩ R) out.length).size≤28*R.length+104*liveP F out:=by
 have h1:=flat_lenH (rootL out) 28 R (fun x _=>by
  have:=tellB_szH out x ho
  unfold rootL
  rw [List.length_append,List.length_append,lsB_size,lsB_size]
  show 5+_+1≤28
  omega)
 have h2:=sum_lines (hobjL T F out) 104 F out 0 (fun j f hj=>hobjL_size F out ho (0+j) f (by have:=(List.getElem?_eq_some_iff.1 hj).1;omega) (hT f (List.mem_of_getElem? hj)))
 simp only [Nat.zero_add] at h2
 rw [←lsB_size,hObjs_ls T F out _ _ (Nat.le_refl _),gLines_ls,List.length_append,List.length_append]
 unfold hobjLs
 have:(lsB ⟨#[]⟩).length=0:=rfl
 omega
end Go.Proofs.YtlkcbdinlfeoiabGreatDoor
namespace Go.Proofs.YtlkcbdinlfeoiabGreatDoor
open Go.RowKit

def mRootL (out:List Nat) (c:CL):List UInt8:=(lsB sRoot++lsB (cellB out c)) ++ [10]
def mFldL (out:List Nat) (c:CL):List UInt8:=[32]++lsB (cellB out c)
def mHeadL (T:Int→List Int→ByteArray) (i:Nat) (d:ND):List UInt8:=((lsB (decB (i:Int)) ++ [32])++lsB (decB d.kind))++(if d.kind<8 then lsB (T d.kind d.raw) else [])
def mObjL (T:Int→List Int→ByteArray) (M:MO) (out:List Nat) (i:Nat):List UInt8:=match M.N[out.getD i 0]? with
 | some d=>(mHeadL T i d++(d.f.map (mFldL out)).flatten) ++ [10]
 | none => []
theorem rootsM_ls (out:List Nat):∀ (l:List CL) (acc:ByteArray),lsB (rootsM out acc l)=lsB acc++(l.map (mRootL out)).flatten
 | [],acc=>by simp [rootsM]
 | c::l,acc=>by
  show lsB (rootsM out (((acc++sRoot)++cellB out c)++⟨#[10]⟩) l)=_
  rw [rootsM_ls out l,lsB_app,lsB_app,lsB_app,List.map_cons,List.flatten_cons]
  unfold mRootL
  simp [lsB]
theorem fieldsM_ls (out:List Nat):∀ (l:List CL) (acc:ByteArray),lsB (fieldsM out acc l)=lsB acc++(l.map (mFldL out)).flatten
 | [],acc=>by simp [fieldsM]
 | c::l,acc=>by
  show lsB (fieldsM out ((acc++⟨#[32]⟩)++cellB out c) l)=_
  rw [fieldsM_ls out l,lsB_app,lsB_app,List.map_cons,List.flatten_cons]
  unfold mFldL
  simp [lsB]
theorem mObjT_ls (T:Int→List Int→ByteArray) {M:MO} (hraw:∀ d∈M.N,d.kind<8→d.f = []) (out:List Nat) (i:Nat) {d:ND} (hd:M.N[out.getD i 0]?=some d) (acc:ByteArray):lsB (mObjT T out i d acc)=lsB acc++mObjL T M out i:=by
 unfold mObjT mObjL
 rw [hd]
 show _=lsB acc++((mHeadL T i d++(d.f.map (mFldL out)).flatten) ++ [10])
 unfold mHeadL
 by_cases hk:d.kind<8
 ·rw [if_pos hk,if_pos hk,hraw d (List.mem_of_getElem? hd) hk,lsB_app,lsB_app,lsB_app,lsB_app,lsB_app]
  simp [lsB]
 ·rw [if_neg hk,if_neg hk,lsB_app,fieldsM_ls,lsB_app,lsB_app,lsB_app]
  simp [lsB]
def mObjLs (T:Int→List Int→ByteArray) (M:MO) (out:List Nat) (k:Nat):List UInt8:=((List.range k).map (mObjL T M out)).flatten
theorem mObjs_ls (T:Int→List Int→ByteArray) {M:MO} (hraw:∀ d∈M.N,d.kind<8→d.f = []) (out:List Nat) (hout:∀ i∈out,i<M.N.length) (acc:ByteArray):∀ k,k≤out.length→lsB (mObjsP T M out acc k)=lsB acc++mObjLs T M out k
 | 0,_=>by simp [mObjsP,mObjLs]
 | k+1,h=>by
  have ih:=mObjs_ls T hraw out hout acc k (by omega)
  have hk:out[k]?=some out[k]:=List.getElem?_eq_getElem (by omega)
  have hlt:out[k]<M.N.length:=hout _ (List.getElem_mem _)
  have e:out.getD k 0=out[k]:=by rw [List.getD_eq_getElem?_getD,hk];rfl
  have hd:M.N[out.getD k 0]?=some M.N[out[k]]:=by rw [e];exact List.getElem?_eq_getElem hlt
  unfold mObjsP mObjLs
  rw [hk,List.range_succ,List.map_append,List.flatten_append]
  show lsB (match M.N[out[k]]? with
   | some d=>mObjT T out k d (mObjsP T M out acc k)
   | none=>mObjsP T M out acc k)=_
  rw [List.getElem?_eq_getElem hlt]
  show lsB (mObjT T out k M.N[out[k]] (mObjsP T M out acc k))=_
  rw [mObjT_ls T hraw out k hd,ih,List.append_assoc]
  simp [mObjLs]
theorem text_ls (T:Int→List Int→ByteArray) {M:MO} (hraw:∀ d∈M.N,d.kind<8→d.f = []) (hout:∀ i∈M.all,i<M.N.length):lsB (M.text T)=(M.R.map (mRootL M.all)).flatten++mObjLs T M M.all M.all.length:=by
 unfold MO.text
 rw [mObjs_ls T hraw M.all hout _ _ (Nat.le_refl _),rootsM_ls]
 simp [lsB]
theorem flat_take {α:Type} (f:α→List UInt8) (l:List α) (k:Nat):((l.take k).map f).flatten.length≤(l.map f).flatten.length:=by
 conv=>rhs;rw [←List.take_append_drop k l]
 rw [List.map_append,List.flatten_append,List.length_append]
 omega
theorem flat_range (f:Nat→List UInt8) {k n:Nat} (h:k≤n):((List.range k).map f).flatten.length≤((List.range n).map f).flatten.length:=by
 have e:List.range k=(List.range n).take k:=by rw [List.take_range,Nat.min_eq_left h]
 rw [e]
 exact flat_take f _ _
theorem range_next (f:Nat→List UInt8) (k:Nat):((List.range (k+1)).map f).flatten=((List.range k).map f).flatten++f k:=by
 rw [List.range_succ,List.map_append,List.flatten_append];simp
theorem take_next {α:Type} (f:α→List UInt8) {l:List α}{k:Nat}{c:α} (h:l[k]?=some c):((l.take (k+1)).map f).flatten=((l.take k).map f).flatten++f c:=by
 obtain ⟨hl,rfl⟩:=List.getElem?_eq_some_iff.1 h
 rw [List.take_succ_eq_append_getElem hl,List.map_append,List.flatten_append];simp
end Go.Proofs.YtlkcbdinlfeoiabGreatDoor
