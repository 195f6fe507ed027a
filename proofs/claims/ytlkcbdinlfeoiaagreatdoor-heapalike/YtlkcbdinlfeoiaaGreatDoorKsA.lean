/- Lines of a text, plainly: a text that is cut behind each newline; the lines of a heap. -/
import Derived.Test.YtlkcbdinlfeoiaaGreatDoorKrC
namespace Go.Proofs.YtlkcbdinlfeoiaaGreatDoor
open Go.Proofs.Tryz Go.RowKit
set_option maxHeartbeats 8000000
set_option maxRecDepth 100000
set_option linter.unusedSimpArgs false
def lsB (s:ByteArray):List UInt8:=s.data.toList
theorem Z0x (a b:ByteArray):lsB (a++b)=lsB a++lsB b:=by unfold lsB;rw [U22,Array.toList_append]
theorem Zbm {a b:ByteArray} (h:lsB a=lsB b):a=b:=by
 cases a;cases b
 unfold lsB at h
 congr
 exact U5i.1 h
theorem Z1y (s:ByteArray):(lsB s).length=s.size:=rfl
def Z5u (l:List UInt8):Prop:=(10:UInt8) ∉ l
theorem Z5u.app {a b:List UInt8} (ha:Z5u a) (hb:Z5u b):Z5u (a++b):=fun h=>by
 rcases U0c.1 h with q | q
 ·exact ha q
 ·exact hb q
theorem Zh4:∀ (a r:List UInt8),Z5u a->Lib.index (a++10::r) [10]=(a.length:Int)
 | [],r,_=>by
  show (if ([10]:List UInt8).isPrefixOf (10::r) then _ else _)=_
  rw [U09 (by simp [List.isPrefixOf])]
  rfl
 | b::a,r,h=>by
  have hb:¬ (10:UInt8)=b:=fun e=>h (by rw [e];simp)
  have ih:=Zh4 a r (fun q=>h (by simp [q]))
  show (if ([10]:List UInt8).isPrefixOf (b::(a++10::r)) then _ else if Lib.index (a++10::r) [10] == -1 then _ else _)=_
  rw [U08 (by simp [List.isPrefixOf,hb]),ih,U08 (by rw [U3d];omega)]
  simp
  exact ih
def Zgu (l:List UInt8):Prop:=∃ a,l=a ++ [10]/\Z5u a
theorem Z7k:∀ (L:List (List UInt8)) (k:Nat),L.length<=k->(∀ l∈L,Zgu l)->Lib.splitK [10] 1 k L.flatten=L ++ [[]]
 | [],k,_,_=>by cases k <;> rfl
 | l::L,0,h,_=>by simp at h
 | l::L,k+1,h,hl=>by
  obtain ⟨a,rfl,ha⟩:=hl l (by simp)
  have ih:=Z7k L k (by simpa using h) (fun x hx=>hl x (by simp [hx]))
  have e:(((a ++ [10])::L).flatten:List UInt8)=a++10::L.flatten:=by simp
  have hi:=Zh4 a L.flatten ha
  rw [e]
  unfold Lib.splitK
  rw [hi,U08 (by rw [U3d];omega)]
  have h1:(a++10::L.flatten).take (((a.length:Int)).toNat+1)=a ++ [10]:=by
   rw [U1t]
   have:a++10::L.flatten=(a ++ [10])++L.flatten:=by simp
   rw [this,U2b (by simp),U13 (by simp)]
  have h2:(a++10::L.flatten).drop (((a.length:Int)).toNat+([10]:List UInt8).length)=L.flatten:=by
   rw [U1t]
   have:a++10::L.flatten=(a ++ [10])++L.flatten:=by simp
   rw [this,U3q (by simp),List.drop_of_length_le (by simp)]
   rfl
  rw [h1,h2,ih]
  rfl
theorem Zqg (n:Nat):∀ (u:Nat),u<=n->Z5u (Lib.decDigits u):=by
 induction n with
 | zero =>
  intro u hu
  obtain rfl:u=0:=by omega
  unfold Lib.decDigits Z5u
  decide
 | succ n ihn =>
  intro u hu
  unfold Lib.decDigits
  split
  ·rename_i h
   intro q
   have:(10:UInt8)=UInt8.ofNat (48+u):=by simpa using q
   have:=congrArg UInt8.toNat this
   simp at this
   omega
  ·rename_i h
   refine Z5u.app ?_ ?_
   ·exact ihn (u / 10) (by omega)
   ·intro q
    have:(10:UInt8)=UInt8.ofNat (48+u % 10):=by simpa using q
    have:=congrArg UInt8.toNat this
    simp at this
    omega
theorem Zc9 (n:Int):Z5u (lsB (Z1b n)):=by
 unfold Z1b
 show Z5u (Lib.itoa n)
 unfold Lib.itoa
 split
 ·intro q
  rcases U19.1 q with q | q
  ·exact absurd q (by decide)
  ·exact Zqg _ _ (U02 _) q
 ·exact Zqg _ _ (U02 _)
theorem Znd (n:Int):Z5u (lsB (Z8a n)):=by
 unfold Z8a Z5u lsB
 split
 ·decide
 ·split <;> decide
theorem Zhf (out:List Nat) (x:Int):Z5u (lsB (Z12 out x)):=by
 unfold Z12
 split
 ·exact Zc9 _
 ·split
  ·exact Znd _
  ·split
   ·unfold Z5u lsB;decide
   ·split
    ·unfold Z5u lsB;decide
    ·rw [Z0x]
     exact Z5u.app (by unfold Z5u lsB;decide) (Zc9 _)
theorem Zmt (x:Nat):∀ k,Z5u (Z5a x k)
 | 0=>by unfold Z5a Z5u;decide
 | k+1=>by
  intro q
  unfold Z5a at q
  rcases U19.1 q with q | q
  ·have h:x / 16 ^ k % 16<16:=Nat.mod_lt _ (by decide)
   revert q
   generalize x / 16 ^ k % 16=d at h
   have hd:∀ d:Fin 16,¬ (10:UInt8)=Zos d.val:=by decide
   exact hd ⟨d,h⟩
  ·exact Zmt x k q
def Z9k (out:List Nat) (x:Int):List UInt8:=(lsB sRoot++lsB (Z12 out x)) ++ [10]
theorem Zar (out:List Nat) (x:Int):Zgu (Z9k out x):=⟨_,rfl,Z5u.app (by unfold Z5u lsB sRoot;decide) (Zhf out x)⟩
theorem Z42 (out:List Nat):∀ (l:List Int) (acc:ByteArray),lsB (Z0d sRoot out acc l)=lsB acc++(l.map (Z9k out)).flatten
 | [],acc=>by simp [Z0d]
 | x::l,acc=>by
  show lsB (Z0d sRoot out (Z3w sRoot out acc x) l)=_
  rw [Z42 out l]
  unfold Z3w
  rw [Z0x,Z0x,Z0x,U1f,U2d]
  unfold Z9k
  simp [lsB]
def Zqw (kd:Int) (out:List Nat) (x:Int):List UInt8:=if kd<8 then [32,48,120]++Z5a x.toNat 16 else [32]++lsB (Z12 out x)
theorem Zs0 (kd:Int) (out:List Nat) (x:Int):Z5u (Zqw kd out x):=by
 unfold Zqw
 split
 ·exact Z5u.app (by unfold Z5u;decide) (Zmt _ _)
 ·exact Z5u.app (by unfold Z5u;decide) (Zhf _ _)
theorem Za2 (kd:Int) (out:List Nat):∀ (l:List Int) (acc:ByteArray),lsB (Z1f kd out acc l)=lsB acc++(l.map (Zqw kd out)).flatten
 | [],acc=>by simp [Z1f]
 | x::l,acc=>by
  show lsB (Z1f kd out (Z1z kd out acc x) l)=_
  rw [Za2 kd out l,U1f,U2d]
  unfold Z1z Zqw
  split
  ·rw [Z0x,Z0x];simp [lsB]
  ·rw [Z0x,Z0x];simp [lsB]
theorem Zdc:∀ (L:List (List UInt8)),(∀ l∈L,Z5u l)->Z5u L.flatten
 | [],_=>by unfold Z5u;simp
 | a::L,h=>by rw [U2d];exact (h a (by simp)).app (Zdc L (fun x hx=>h x (by simp [hx])))
def Znr (F:Nat->Int) (out:List Nat) (i f:Nat):List UInt8:=(((lsB (Z1b (i:Int)) ++ [32])++lsB (Z1b (F f / 4 % 256)))++((Z07 F f).map (Zqw (F f / 4 % 256) out)).flatten) ++ [10]
theorem Ze7 (F:Nat->Int) (out:List Nat) (i f:Nat):Zgu (Znr F out i f):=⟨_,rfl,(((Zc9 _).app (by unfold Z5u;decide)).app (Zc9 _)).app (Zdc _ (fun l hl=>by
 obtain ⟨x,_,rfl⟩:=U0l.1 hl
 exact Zs0 _ _ _))⟩
theorem Zgm (F:Nat->Int) (out:List Nat) (i f:Nat) (acc:ByteArray):lsB (Z4t F out i f acc)=lsB acc++Znr F out i f:=by
 unfold Z4t Znr
 rw [Z0x,Za2,Z0x,Z0x,Z0x]
 simp [lsB]
def Z61 (T:Int->List Int->ByteArray) (F:Nat->Int) (out:List Nat) (i f:Nat):List UInt8:=
 if F f / 4 % 256<8 then (((lsB (Z1b (i:Int)) ++ [32])++lsB (Z1b (F f / 4 % 256)))++lsB (T (F f / 4 % 256) (Z07 F f))) ++ [10] else Znr F out i f
theorem Zoi (T:Int->List Int->ByteArray) (F:Nat->Int) (out:List Nat) (i f:Nat) (acc:ByteArray):lsB (Zfv T F out i f acc)=lsB acc++Z61 T F out i f:=by
 unfold Zfv Z61
 split
 ·rw [Z0x,Z0x,Z0x,Z0x,Z0x];simp [lsB]
 ·exact Zgm F out i f acc
def Z9x (F:Nat->Int) (out:List Nat) (k:Nat):List (List UInt8):=(List.range k).map fun i=>Znr F out i (out.getD i 0)
def Za1 (T:Int->List Int->ByteArray) (F:Nat->Int) (out:List Nat) (k:Nat):List (List UInt8):=(List.range k).map fun i=>Z61 T F out i (out.getD i 0)
theorem Z7z (F:Nat->Int) (out:List Nat) (acc:ByteArray):∀ k,k<=out.length->lsB (Z0j F out acc k)=lsB acc++(Z9x F out k).flatten
 | 0,_=>by simp [Z0j,Z9x]
 | k+1,h=>by
  have ih:=Z7z F out acc k (by omega)
  unfold Z0j Z9x
  rw [U03 (by omega),U4y,U1b,U2v]
  show lsB (Z4t F out k out[k] (Z0j F out acc k))=_
  rw [Zgm,ih,U0y]
  have e:out.getD k 0=out[k]:=by rw [U07,U03 (by omega)];rfl
  rw [<-e];simp [Z9x]
theorem Zbv (T:Int->List Int->ByteArray) (F:Nat->Int) (out:List Nat) (acc:ByteArray):∀ k,k<=out.length->lsB (Z2u T F out acc k)=lsB acc++(Za1 T F out k).flatten
 | 0,_=>by simp [Z2u,Za1]
 | k+1,h=>by
  have ih:=Zbv T F out acc k (by omega)
  unfold Z2u Za1
  rw [U03 (by omega),U4y,U1b,U2v]
  show lsB (Zfv T F out k out[k] (Z2u T F out acc k))=_
  rw [Zoi,ih,U0y]
  have e:out.getD k 0=out[k]:=by rw [U07,U03 (by omega)];rfl
  rw [<-e];simp [Za1]
def Z1g (T:Int->List Int->ByteArray) (F:Nat->Int) (out:List Nat) (R:List Int) (i:Nat):List (List UInt8):=R.map (Z9k out)++((List.range out.length).map (fun j=>if j<i then Z61 T F out j (out.getD j 0) else Znr F out j (out.getD j 0)) ++ [[]])
theorem Z2i (T:Int->List Int->ByteArray) (F:Nat->Int) (out:List Nat) (R:List Int) (i:Nat):(Z1g T F out R i).length=R.length+(out.length+1):=by
 unfold Z1g;simp
theorem Ze1 (T:Int->List Int->ByteArray) (F:Nat->Int) (out:List Nat) (R:List Int) (k:Nat) (hk:R.length+out.length<=k):Lib.splitK [10] 1 k (lsB (Z0j F out (Z0d sRoot out ⟨#[]⟩ R) out.length))=Z1g T F out R 0:=by
 have e:lsB (Z0j F out (Z0d sRoot out ⟨#[]⟩ R) out.length)=(R.map (Z9k out)++Z9x F out out.length).flatten:=by
  rw [Z7z F out _ _ (U02 _),Z42,U2v]
  rfl
 rw [e,Z7k _ k (by simp [Z9x];exact hk) (fun l hl=>by
  rcases U0c.1 hl with q | q
  ·obtain ⟨x,_,rfl⟩:=U0l.1 q;exact Zar _ _
  ·obtain ⟨x,_,rfl⟩:=U0l.1 q;exact Ze7 _ _ _ _)]
 unfold Z1g Z9x
 simp
theorem Zes (T:Int->List Int->ByteArray) (F:Nat->Int) (out:List Nat) (R:List Int) (i:Nat) (hi:i<out.length):(Z1g T F out R i).set (R.length+i) (Z61 T F out i (out.getD i 0))=Z1g T F out R (i+1):=by
 unfold Z1g
 rw [List.set_append,U08 (by simp),U0v,show R.length+i - R.length=i by omega,List.set_append,U09 (by simpa using hi)]
 congr 1
 congr 1
 apply U24
 intro j
 rw [U4i]
 by_cases hj:i=j
 ·subst hj
  rw [U09 rfl,U09 (by simpa using hi),U0g,U1u hi]
  simp
 ·rw [U08 hj,U0g,U0g]
  by_cases hr:j<out.length
  ·rw [U1u hr]
   show some (if j<i then _ else _)=some (if j<i+1 then _ else _)
   by_cases hji:j<i
   ·rw [U09 hji,U09 (by omega)]
   ·rw [U08 hji,U08 (by omega)]
  ·rw [U14 (by simpa using hr)]
   rfl
theorem Zd9 (T:Int->List Int->ByteArray) (F:Nat->Int) (out:List Nat) (R:List Int) (i:Nat) (h:¬ F (out.getD i 0) / 4 % 256<8):Z1g T F out R i=Z1g T F out R (i+1):=by
 unfold Z1g
 congr 1
 congr 1
 refine U15 fun j _ => ?_
 by_cases hji:j<i
 ·rw [U09 hji,U09 (by omega)]
 ·rw [U08 hji]
  by_cases e:j=i
  ·subst e
   rw [U09 (by omega)]
   unfold Z61
   rw [U08 h]
  ·rw [U08 (by omega)]
theorem Zfq (T:Int->List Int->ByteArray) (F:Nat->Int) (out:List Nat) (R:List Int):(Z1g T F out R out.length).flatten=lsB (Z2u T F out (Z0d sRoot out ⟨#[]⟩ R) out.length):=by
 rw [Zbv T F out _ _ (U02 _),Z42]
 unfold Z1g Za1
 rw [U2v,U2v]
 have e:(List.range out.length).map (fun j=>if j<out.length then Z61 T F out j (out.getD j 0) else Znr F out j (out.getD j 0))=(List.range out.length).map fun i=>Z61 T F out i (out.getD i 0):=U15 fun j hj=>U09 (U0u.1 hj)
 rw [e]
 simp [lsB]
theorem Z8b:∀ (L:List (List UInt8)),(∀ l∈L,Zgu l)->L.flatten.count 10=L.length
 | [],_=>rfl
 | l::L,h=>by
  obtain ⟨a,rfl,ha⟩:=h l (by simp)
  have ih:=Z8b L (fun x hx=>h x (by simp [hx]))
  rw [U2d,U23,ih,U23,U58.2 ha]
  simp
  omega
theorem Ziv (F:Nat->Int) (out:List Nat) (R:List Int):(lsB (Z0j F out (Z0d sRoot out ⟨#[]⟩ R) out.length)).count 10=R.length+out.length:=by
 have e:lsB (Z0j F out (Z0d sRoot out ⟨#[]⟩ R) out.length)=(R.map (Z9k out)++Z9x F out out.length).flatten:=by
  rw [Z7z F out _ _ (U02 _),Z42,U2v]
  rfl
 rw [e,Z8b _ (fun l hl=>by
  rcases U0c.1 hl with q | q
  ·obtain ⟨x,_,rfl⟩:=U0l.1 q;exact Zar _ _
  ·obtain ⟨x,_,rfl⟩:=U0l.1 q;exact Ze7 _ _ _ _)]
 simp [Z9x]
theorem Zjl (out:List Nat) (x:Int) : -1<=objI out x/\objI out x<out.length+1:=by
 rcases Int.lt_or_le (objI out x) 0 with h | h
 ·refine ⟨?_,by omega⟩
  unfold objI at *
  split
  ·omega
  ·exact Int.le_refl _
 ·obtain ⟨k,f,e,_,_,hk⟩:=Z6i h
  omega
theorem Z9h (out:List Nat) (x:Int) (ho:out.length<=300000):(Z12 out x).size<=22:=by
 have hr:=Zjl out (ptI x)
 unfold Z12
 split
 ·have : -9223372036854775808<=wrap64 x/\wrap64 x<=9223372036854775807:=by unfold wrap64;omega
  have:=Z0m (wrap64 x / 4) (by omega) (by omega)
  omega
 ·split
  ·unfold Z8a
   split
   ·decide
   ·split <;> decide
  ·split
   ·decide
   ·split
    ·decide
    ·rw [U0o]
     have:=Z0m (objI out (ptI x)) (by omega) (by omega)
     show 1+_<=22
     omega
theorem Z6n {α:Type} (f:α->List UInt8) (c:Nat):∀ (l:List α),(∀ x∈l,(f x).length<=c)->(l.map f).flatten.length<=c*l.length
 | [],_=>by simp
 | a::l,h=>by
  have:=Z6n f c l (fun x hx=>h x (by simp [hx]))
  have:=h a (by simp)
  rw [U1f,U2d,U0f,U1e,Nat.mul_add]
  omega
theorem Zcm (F:Nat->Int) (out:List Nat) (ho:out.length<=300000) (i f:Nat) (hi:i<=300000):(Znr F out i f).length<=64*(1+szN (F f)):=by
 have h1:=Z0m (i:Int) (by omega) (by omega)
 have h2:=Z0m (F f / 4 % 256) (by omega) (by omega)
 have h3:=Z6n (Zqw (F f / 4 % 256) out) 23 (Z07 F f) (fun x _=>by
  unfold Zqw
  split
  ·rw [U0f,Z5d];simp
  ·rw [U0f,Z1y];have:=Z9h out x ho;simp;omega)
 have h4:(Z07 F f).length=szN (F f):=by unfold Z07;simp
 unfold Znr
 rw [U0f,U0f,U0f,U0f,Z1y,Z1y]
 simp only [U1e,U2t]
 rw [h4] at h3
 omega
def Zsi (T:Int->List Int->ByteArray) (kd:Int) (l:List Int):Prop:=(T kd l).size<=20+40*(1+l.length)
theorem Zj8 {T:Int->List Int->ByteArray} (F:Nat->Int) (out:List Nat) (ho:out.length<=300000) (i f:Nat) (hi:i<=300000) (hT:F f / 4 % 256<8->Zsi T (F f / 4 % 256) (Z07 F f)):(Z61 T F out i f).length<=104*(1+szN (F f)):=by
 unfold Z61
 split
 ·rename_i hk
  have hT:=hT hk
  unfold Zsi at hT
  have h1:=Z0m (i:Int) (by omega) (by omega)
  have h2:=Z0m (F f / 4 % 256) (by omega) (by omega)
  have h4:(Z07 F f).length=szN (F f):=by unfold Z07;simp
  rw [h4] at hT
  rw [U0f,U0f,U0f,U0f,Z1y,Z1y,Z1y]
  simp only [U1e,U2t]
  omega
 ·have:=Zcm F out ho i f hi
  omega
theorem Z98 (g:Nat->Nat->List UInt8) (c:Nat) (F:Nat->Int):∀ (out:List Nat) (b:Nat),(∀ j f,out[j]?=some f->(g (b+j) f).length<=c*(1+szN (F f)))->((List.range out.length).map fun i=>g (b+i) (out.getD i 0)).flatten.length<=c*Z8k F out
 | [],b,_=>by simp [Z8k]
 | f::out,b,h=>by
  have ih:=Z98 g c F out (b+1) (fun j f hj=>by have:=h (j+1) f (by simpa using hj);rw [show b+1+j=b+(j+1) by omega];exact this)
  have h0:=h 0 f rfl
  have e:(List.range (out.length+1)).map (fun i=>g (b+i) ((f::out).getD i 0))=g b f::(List.range out.length).map fun i=>g (b+1+i) (out.getD i 0):=by
   rw [List.range_succ_eq_map,U1f,U2h]
   refine congr (congrArg List.cons rfl) (U15 fun i _ => ?_)
   show g (b+(i+1)) _=_
   rw [show b+(i+1)=b+1+i by omega]
   rfl
  show ((List.range (out.length+1)).map _).flatten.length<=_
  rw [e,U2d,U0f]
  unfold Z8k at ih ⊢
  rw [U1f,U32,Nat.mul_add]
  have h0:(g b f).length<=_:=h0
  omega
theorem Zlo (F:Nat->Int) (out:List Nat) (ho:out.length<=300000) (R:List Int):(Z0j F out (Z0d sRoot out ⟨#[]⟩ R) out.length).size<=28*R.length+104*Z8k F out:=by
 have h1:=Z6n (Z9k out) 28 R (fun x _=>by
  have:=Z9h out x ho
  unfold Z9k
  rw [U0f,U0f,Z1y,Z1y]
  show 5+_+1<=28
  omega)
 have h2:=Z98 (Znr F out) 104 F out 0 (fun j f hj=>by
  have:=Zcm F out ho (0+j) f (by have:=(U0e.1 hj).1;omega)
  omega)
 simp only [U1p] at h2
 rw [<-Z1y,Z7z F out _ _ (U02 _),Z42,U0f,U0f]
 unfold Z9x
 have:(lsB ⟨#[]⟩).length=0:=rfl
 omega
theorem Zjc {T:Int->List Int->ByteArray} (F:Nat->Int) (out:List Nat) (ho:out.length<=300000) (R:List Int) (hT:∀ f∈out,F f / 4 % 256<8->Zsi T (F f / 4 % 256) (Z07 F f)):(Z2u T F out (Z0d sRoot out ⟨#[]⟩ R) out.length).size<=28*R.length+104*Z8k F out:=by
 have h1:=Z6n (Z9k out) 28 R (fun x _=>by
  have:=Z9h out x ho
  unfold Z9k
  rw [U0f,U0f,Z1y,Z1y]
  show 5+_+1<=28
  omega)
 have h2:=Z98 (Z61 T F out) 104 F out 0 (fun j f hj=>Zj8 F out ho (0+j) f (by have:=(U0e.1 hj).1;omega) (hT f (U0a hj)))
 simp only [U1p] at h2
 rw [<-Z1y,Zbv T F out _ _ (U02 _),Z42,U0f,U0f]
 unfold Za1
 have:(lsB ⟨#[]⟩).length=0:=rfl
 omega
section
open Go.Maps Go.Shelf
theorem Zde (s:ByteArray) (hs:s.size<4294967281) (w:World) :
  Calls prog 104 #[.string s,.string ⟨#[10]⟩,.int .i64 1,.int .i64 (-1)] w fun e w' => ∃ N,e = .returned (.slice (some ⟨w.heap.size,0,none⟩) (Lib.splitB nlB 1 ((lsB s).count 10) s).length N)/\(Lib.splitB nlB 1 ((lsB s).count 10) s).length<=N/\N<=s.size+1/\w'=w.alloc (.cells (Lib.cellsOf (Lib.splitB nlB 1 ((lsB s).count 10) s) N) 9):=by
 have hI:∀ (x:ByteArray) (c:Array Value),x.size<=s.size->Calls prog 156 #[.string x,.string nlB] (w.alloc (.cells c 9)) fun e w'=>e = .returned (.int .i64 (Lib.indexB x nlB))/\w'=w.alloc (.cells c 9):=fun x c _=>by
  refine (Z6g x 10 _).mono ?_
  rintro e w' ⟨rfl,rfl⟩
  refine ⟨?_,rfl⟩
  show _=Ending.returned (Value.int .i64 (Lib.index x.data.toList [10]))
  rw [Lib.index_one]
 have hC:Calls prog 155 #[.string s,.string nlB] w fun e w'=>e = .returned (.int .i64 (Lib.countB s nlB))/\w'=w:=by
  refine (Z63 s 10 w).mono ?_
  rintro e w' ⟨rfl,rfl⟩
  refine ⟨?_,rfl⟩
  show _=Ending.returned (Value.int .i64 ((Lib.count s.data.toList [10]:Nat):Int))
  rw [Lib.count_one]
  rfl
 have hcl:=Lib.countB_le nlB (by decide) s.size s (U02 _)
 have hce:Lib.countB s nlB=(lsB s).count 10:=Lib.count_one 10 _
 rw [<-hce]
 obtain ⟨N,hN⟩:∃ N,N=Lib.countB s nlB+1:=⟨_,rfl⟩
 refine (Any.strings_genSplit_core Zow (by kernel_rfl) s nlB 1 (-1) N w hs (by decide) (by decide) hI hC (by decide) (by decide) (by rw [U09 (by decide),hN];omega)).mono ?_
 rintro e w' ⟨rfl,rfl⟩
 have hk:N - 1=Lib.countB s nlB:=by omega
 rw [hk]
 refine ⟨N,rfl,?_,by omega,rfl⟩
 have:=Lib.splitB_length_le nlB 1 (Lib.countB s nlB) s
 omega
theorem Z9o (s:ByteArray) (hs:s.size<4294967281) (w:World) :
  Calls prog 54 #[.string s,.string ⟨#[10]⟩] w fun e w' => ∃ N,e = .returned (.slice (some ⟨w.heap.size,0,none⟩) (Lib.splitB nlB 1 ((lsB s).count 10) s).length N)/\(Lib.splitB nlB 1 ((lsB s).count 10) s).length<=N/\N<=s.size+1/\w'=w.alloc (.cells (Lib.cellsOf (Lib.splitB nlB 1 ((lsB s).count 10) s) N) 9):=by
 have kg:=Zde s hs w
 clear hs
 obtain ⟨L,hL⟩:∃ L,L=Lib.splitB nlB 1 ((lsB s).count 10) s:=⟨_,rfl⟩
 rw [<-hL] at kg ⊢
 clear hL
 go_enter func54,ntmps54
 go_wp2_with fail
 refine kg.mono ?_
 rintro e w' ⟨N,rfl,hl,hN,rfl⟩
 go_wp2_with fail
 go_ret
 exact ⟨N,rfl,hl,hN,rfl⟩
def MD.bare (m:MD):MD:={ m with K:=[],I:=[] }
theorem Zif {m:MD}{vs:List Nat} (S:m.Shape vs):m.bare.Shape vs:=by
 refine ⟨S.1,S.2.1,S.2.2.1,?_⟩
 have h:=S.2.2.2
 unfold MD.restB at h ⊢
 simp only [U0i] at h
 show (m.R.all (Z0b m.W.length fun i=>decide (i∈vs)) && (([]:List Int).all (Z0b m.W.length fun i=>decide (i∈vs)) && Z6j m.W.length (fun i=>decide (i∈vs)) []))=true
 rw [h.1]
 rfl
theorem Zr5 {m:MD} (h:MD64 m):MD64 m.bare:=⟨h.1,h.2,fun x hx=>(by cases hx),fun x hx=>(by cases hx)⟩
def Z4l (L:List (List UInt8)):List ByteArray:=L.map fun l=>⟨l.toArray⟩
theorem Ziu (L:List (List UInt8)):(Z4l L).map lsB=L:=by
 unfold Z4l
 rw [U2h]
 exact (U15 fun l _=>by simp [lsB]).trans (List.map_id _)
theorem Zr6 {l:List ByteArray}{L:List (List UInt8)} (h:l.map lsB=L):l=Z4l L:=by
 rw [<-h]
 unfold Z4l
 rw [U2h]
 conv=>lhs;rw [<-List.map_id l]
 refine U15 fun x _ => ?_
 exact Zbm (by simp [lsB])
theorem Z47 (L:List (List UInt8)):(Z4l L).length=L.length:=by unfold Z4l;simp
theorem Zn0 (L:List (List UInt8)) (j:Nat) (s:ByteArray):(Z4l L).set j s=Z4l (L.set j (lsB s)):=by
 unfold Z4l
 rw [U35]
 congr 1
theorem joinL (L:List (List UInt8)):Lib.join ((Z4l L).map (·.data.toList)) (⟨#[]⟩:ByteArray).data.toList=L.flatten:=by
 have:(Z4l L).map (·.data.toList)=L:=Ziu L
 rw [this]
 exact Za6 L
def Ztr (T:Int->List Int->ByteArray) (q:Nat) (m:MD) (f:Nat) (w:World):Prop:=∀ W,Below w.heap.size w W->Calls prog 55 #[.pointer (some ⟨q,0,none⟩),.int .i64 (f:Int)] W fun ev w' =>
 ((¬ m.F f / 4 % 256<8/\ev = .returned (.tuple #[.string ⟨#[]⟩,.bool false]))\/(m.F f / 4 % 256<8/\ev = .returned (.tuple #[.string (Z1b (m.F f / 4 % 256)++T (m.F f / 4 % 256) (Z07 m.F f)),.bool true])))/\Below W.heap.size W w'
theorem Zkc {L:List ByteArray}{N o:Nat}{w:World} (h:w.heap[o]?=some (.cells (Lib.cellsOf L N) 9)):Blk o 9 (L.map Value.string) w:=⟨_,h⟩
theorem Zkq (L:List (List UInt8)) (j:Nat) (s:ByteArray):((Z4l L).map Value.string).set j (.string s)=(Z4l (L.set j (lsB s))).map Value.string:=by
 rw [<-U35,Zn0]
structure ShowAt (T:Int->List Int->ByteArray) (m:MD) (rr:List Nat) (o4 i:Nat) (w4 w:World):Prop where
 below:Below o4 w4 w
 blk:Blk o4 9 ((Z4l (Z1g T m.F rr m.R i)).map Value.string) w
theorem ShowAt.keep {T:Int->List Int->ByteArray}{m:MD}{rr:List Nat}{o4 i:Nat}{w4 w w':World} (h:ShowAt T m rr o4 i w4 w) (hb:Below w.heap.size w w'):ShowAt T m rr o4 i w4 w':=⟨h.below.trans (hb.mono (U50 h.blk.lt)),h.blk.below hb⟩
theorem ShowAt.set {T:Int->List Int->ByteArray}{m:MD}{rr:List Nat}{o4 i:Nat}{w4 w:World} (h:ShowAt T m rr o4 i w4 w) (hi:i<rr.length) {s:ByteArray} (hs:lsB s=Z61 T m.F rr i (rr.getD i 0)):ShowAt T m rr o4 (i+1) w4 (w.setCell ⟨o4,m.R.length+i,none⟩ (.string s)):=by
 refine ⟨h.below.setCell (U02 _) _,?_⟩
 have hb:=h.blk.set (j:=m.R.length+i) (by rw [U0v,Z47,Z2i];omega) (.string s)
 rw [Zkq,hs,Zes T m.F rr m.R i hi] at hb
 exact hb
theorem ShowAt.next {T:Int->List Int->ByteArray}{m:MD}{rr:List Nat}{o4 i:Nat}{w4 w:World} (h:ShowAt T m rr o4 i w4 w) (hk:¬ m.F (rr.getD i 0) / 4 % 256<8):ShowAt T m rr o4 (i+1) w4 w:=⟨h.below,by rw [<-Zd9 T m.F rr m.R i hk];exact h.blk⟩
theorem Zlv (T:Int->List Int->ByteArray) (a:Nat->Addr) (q p:Nat) (tn sr:Int) (m:MD) (vs:List Nat) (hS:m.Shape vs) (hCr:m.cardsB=true) (h64:MD64 m) (bR:m.R.length<=5000) (hT:∀ f∈m.reach vs,m.F f / 4 % 256<8->Zsi T (m.F f / 4 % 256) (Z07 m.F f)) (w:World) (E:MErr3 a w) (ht:Z2b w) (hz:Zem w) (H:HeapAt q p tn sr w) (R:Z86 p m w) (hx:∀ f∈m.reach vs,Ztr T q m f w) :
  Calls prog 22 #[.pointer (some ⟨q,0,none⟩)] w fun ev w'=>ev = .returned (.string (Z2u T m.F (m.reach vs) (Z0d sRoot (m.reach vs) ⟨#[]⟩ m.R) (m.reach vs).length))/\Below w.heap.size w w':=by
 have HE:=Z00 E
 have HR:=Z00 R
 have H64:=Z00 (Zr5 h64)
 have HSS:=Z00 (Zif hS)
 have HX:=Z00 hx
 have HT:=Z00 ht
 have HZ:=Z00 hz
 have hlive:Z8k m.F (m.reach vs)<=300000:=by
  obtain ⟨l1,l2,e,w1,w2⟩:=hS.bare
  subst e
  exact (Zh7 hS h64 w1 w2).1
 have hsz:(Z0j m.F (m.reach vs) (Z0d sRoot (m.reach vs) ⟨#[]⟩ m.R) (m.reach vs).length).size<40000000:=by
  have:=Zlo m.F (m.reach vs) (by have:=(Z1h hS h64).len;have:=hS.few;omega) m.R
  omega
 have hsz2:(Z2u T m.F (m.reach vs) (Z0d sRoot (m.reach vs) ⟨#[]⟩ m.R) (m.reach vs).length).size<40000000:=by
  have:=Zjc (T:=T) m.F (m.reach vs) (by have:=(Z1h hS h64).len;have:=hS.few;omega) m.R hT
  omega
 have hTl:∀ i f,(m.reach vs)[i]?=some f->m.F f / 4 % 256<8->(T (m.F f / 4 % 256) (Z07 m.F f)).size<=20000000:=fun i f hf hk=>by
  have hfm:=U0a hf
  have h1:=hT f hfm hk
  unfold Zsi at h1
  have h2:(Z07 m.F f).length=szN (m.F f):=by unfold Z07;simp
  have h3:=(hS.fine f ((Z1h hS h64).sub f hfm)).1
  have h4:=(U0j h3).2.2
  have h5:szN (m.F f)<=4096:=by unfold szN;omega
  omega
 obtain ⟨Z,hZ⟩:∃ Z,Z=Z2u T m.F (m.reach vs) (Z0d sRoot (m.reach vs) ⟨#[]⟩ m.R) (m.reach vs).length:=⟨_,rfl⟩
 rw [<-hZ] at hsz2 ⊢
 have HZ1:=Z00 hZ
 clear hZ
 obtain ⟨vW,vR,vK,vI,vC,hp,M,hW,hR,hKr,hIr,hCr'⟩:=R
 have HW:=Z00 hW
 have HRr:=Z00 hR
 have HC:=Z00 hCr'
 obtain ⟨aW,cW,rfl,_⟩:=hW
 obtain ⟨aR,cR,rfl,_⟩:=hR
 obtain ⟨aK,cK,rfl,_⟩:=hKr
 obtain ⟨aI,cI,rfl,_⟩:=hIr
 obtain ⟨aC,cC,rfl,_⟩:=hCr'
 have d0:=H.c0
 obtain ⟨m0,m1,m2,m3,m4,m5,m6,m7,m8,m9,m10⟩:=M
 have HTL:=Z00 hTl
 clear E h64 H ht hz hx hT hlive hTl
 go_enter func22,ntmps22
 go_upto_region 3 with fail
 obtain ⟨w1,hw1⟩:∃ w1,w1=w.alloc (.cells #[.int .i64 m.half,.int .i64 m.old,.int .i64 m.card,.slice aW m.W.length cW,.int .i64 m.used,.int .i64 m.top,.int .i64 m.oldTop,.slice aR m.R.length cR,.slice none 0 0,.slice none 0 0,.slice aC m.C.length cC] 84):=⟨_,rfl⟩
 obtain ⟨o,ho⟩:∃ o,o=w.heap.size:=⟨_,rfl⟩
 have b1:Below w.heap.size w w1:=by rw [hw1];exact (U01 _ _).alloc (U02 _) _
 have R1:Hid (Z86 o m.bare w1):=by
  have hM:=Z3l w m.half m.old m.card (.slice aW m.W.length cW) m.used m.top m.oldTop (.slice aR m.R.length cR) (.slice none 0 0) (.slice none 0 0) (.slice aC m.C.length cC) 84
  rw [<-hw1,<-ho] at hM
  refine ⟨_,_,_,_,_,?_,hM,HW.out.below b1,HRr.out.below b1,?_,?_,HC.out.below b1⟩
  ·rw [hw1,ho];simp
  ·exact ⟨none,0,rfl,U02 _,fun h=>absurd h (by show ¬ 0<0;simp)⟩
  ·exact ⟨none,0,rfl,U02 _,fun h=>absurd h (by show ¬ 0<0;simp)⟩
 rw [<-hw1,<-ho]
 have bR3:m.bare.R.length<=300000:=by show m.R.length<=_;omega
 have kg:=Znb a o m.bare H64.out bR3 (by show 0<=300000;omega) (by show 0<=300000;omega) w1 (HE.out.below b1) (HT.out.below b1 (U02 _)) (HZ.out.below b1 (U02 _)) R1.out
 have m7':w1.cell? ⟨o,7,none⟩=some (.slice aR m.R.length cR):=by rw [hw1,ho,U06 _ _ 7 _ _ _ (U0b _ _)];rfl
 have HO7:Hid (o<w1.heap.size/\w1.cell? ⟨o,7,none⟩=some (.slice aR m.R.length cR)):=⟨Z02 m7',m7'⟩
 clear hw1 ho m0 m1 m2 m3 m4 m5 m6 m7 m8 m9 m10 d0
 have HB1:=Z00 b1
 clear b1
 go_wp2_with fail
 refine kg.mono ?_
 clear kg
 rintro ev w2 ⟨b2,⟨us,hus,_,rfl⟩ | ⟨us,_,hC,_⟩ | ⟨hno,_⟩⟩
 rotate_left
 ·have hC:m.cardsB=false:=hC
  rw [hCr] at hC;cases hC
 ·exact absurd HSS.out (hno vs)
 have hus:=HSS.out.one hus
 subst hus
 have HB2:=Z00 (HB1.out.trans (b2.mono HB1.out.size))
 have HO72:Hid (o<w2.heap.size/\w2.cell? ⟨o,7,none⟩=some (.slice aR m.R.length cR)):=⟨U0r HO7.out.1 b2.size,(b2.cell (p:=⟨o,7,none⟩) HO7.out.1).trans HO7.out.2⟩
 have R2:=Z00 (R1.out.below b2)
 have kr:=Zef a o m.bare us HSS.out hCr H64.out bR3 (by show 0<=300000;omega) (by show 0<=300000;omega) w2 (HE.out.below HB2.out) R2.out
 have hAe:m.bare.text us=Z0j m.F (m.reach us) (Z0d sRoot (m.reach us) ⟨#[]⟩ m.R) (m.reach us).length:=by
  show Z7d (m.reach us) (Z0d sWeak (m.reach us) (Z0j m.F (m.reach us) (Z0d sRoot (m.reach us) ⟨#[]⟩ m.R) (m.reach us).length) []) ((Z9i []).filter (Z7l (m.reach us)))=_
  rw [show Z9i [] = [] by unfold Z9i;simp]
  rfl
 rw [hAe]
 have hre:m.bare.reach us=m.reach us:=rfl
 clear b2 hAe
 go_wp2_with fail
 refine kr.mono ?_
 clear kr
 rintro ev w3 ⟨ao,cap,rfl,hrow,b3⟩
 rw [hre] at hrow ⊢
 have HROW:=Z00 hrow
 have HB3:=Z00 (HB2.out.trans (b3.mono HB2.out.size))
 have HO73:Hid (o<w3.heap.size/\w3.cell? ⟨o,7,none⟩=some (.slice aR m.R.length cR)):=⟨U0r HO72.out.1 b3.size,(b3.cell (p:=⟨o,7,none⟩) HO72.out.1).trans HO72.out.2⟩
 clear hrow b3 R1 R2 HW HRr HC HB1 HB2 m7' HO7 HO72 hre
 have hol:=Z1h HSS.out H64.out
 have hfw:=HSS.out.few
 have hrl:(m.reach us).length<=us.length:=hol.len
 obtain ⟨rr,hrr⟩:∃ rr,rr=m.reach us:=⟨_,rfl⟩
 have hZ:=HZ1.out
 clear HZ1
 rw [<-hrr] at HX HROW hrl hsz hZ HTL ⊢
 have hrn:rr.length<=300000:=U0n hrl hfw
 obtain ⟨A,hA⟩:∃ A,A=Z0j m.F rr (Z0d sRoot rr ⟨#[]⟩ m.R) rr.length:=⟨_,rfl⟩
 rw [<-hA] at hsz ⊢
 have hcnt:(lsB A).count 10=m.R.length+rr.length:=by rw [hA];exact Ziv m.F rr m.R
 have hL:Lib.splitB nlB 1 ((lsB A).count 10) A=Z4l (Z1g T m.F rr m.R 0):=Zr6 (by
  rw [hcnt,show (Lib.splitB nlB 1 (m.R.length+rr.length) A).map lsB=_ from Lib.splitB_data nlB 1 _ A,hA]
  exact Ze1 T m.F rr m.R _ (U02 _))
 have HZ2:Hid (lsB Z=(Z1g T m.F rr m.R rr.length).flatten):=by show _=_;rw [hZ];exact (Zfq T m.F rr m.R).symm
 clear hol hfw hrl hrr hA hZ hcnt
 go_upto_region 5 with fail
 have ks:=Z9o A (by omega) w3
 obtain ⟨nL,hnL⟩:∃ nL,nL=m.R.length+(rr.length+1):=⟨_,rfl⟩
 rw [hL,Z47,Z2i,<-hnL] at ks
 have HNL:=Z00 hnL
 clear hL hnL
 go_wp2_with fail
 refine ks.mono ?_
 clear ks
 rintro ev w4 ⟨N,rfl,hl,hNs,hw4⟩
 obtain ⟨o4,ho4⟩:∃ o4,o4=w3.heap.size:=⟨_,rfl⟩
 have hn4:w4.heap[o4]?=some (.cells (Lib.cellsOf (Z4l (Z1g T m.F rr m.R 0)) N) 9):=by rw [hw4,ho4];exact U0b _ _
 have b34:Below w3.heap.size w3 w4:=by rw [hw4];exact (U01 _ _).alloc (U02 _) _
 have HB4:Hid (Below w.heap.size w w4):=HB3.out.trans (b34.mono HB3.out.size)
 have hwo:Hid (w.heap.size<=o4):=by show _<=_;rw [ho4];exact HB3.out.size
 have HO74:Hid (o<o4/\w4.cell? ⟨o,7,none⟩=some (.slice aR m.R.length cR)):=⟨by rw [ho4];exact HO73.out.1,(b34.cell (p:=⟨o,7,none⟩) HO73.out.1).trans HO73.out.2⟩
 have HROW4:Hid (∃ ao2 cap2,(.slice ao rr.length cap:Value) = .slice ao2 rr.length cap2/\(0<rr.length -> ∃ b o1,ao2=some ⟨b,o1,none⟩/\b<o4 /\ ∀ j u,(Z9u rr)[j]?=some u->w4.cell? ⟨b,o1+j,none⟩=some u)):=by
  obtain ⟨a2,c2,e,_,f⟩:=HROW.out
  refine ⟨a2,c2,e,fun h => ?_⟩
  obtain ⟨b,o1,e1,e2,e3⟩:=f h
  exact ⟨b,o1,e1,by rw [ho4];exact e2,fun j u hj=>(b34.cell (p:=⟨b,o1+j,none⟩) e2).trans (e3 j u hj)⟩
 have HS0:Hid (ShowAt T m rr o4 0 w4 w4):=⟨U01 _ _,Zkc hn4⟩
 rw [<-ho4]
 clear hw4 ho4 hn4 HROW HB3 b34 HO73
 go_wp2_with fail
 go_loopg [34] (rr.length+1) (fun gk v34 wr => ∃ (i:Nat),gk=rr.length+1 - i/\i<=rr.length/\v34 = .int .i64 (i:Int)/\Hid (ShowAt T m rr o4 i w4 wr))
 case atStart=>exact ⟨0,rfl,U0x _,rfl,HS0⟩
 case round =>
  clear HS0
  obtain ⟨i,hgk,hk,rfl,hSh⟩:=hrel
  have HG:=Z00 hgk
  have hk0:(0:Int)<=(i:Int):=by omega
  have HBw:Hid (Below w.heap.size w wr):=HB4.out.trans (hSh.out.below.mono hwo.out)
  clear hgk
  by_cases hlt:i<rr.length
  ·have hI:(i:Int)<(rr.length:Int):=by omega
   obtain ⟨f,hf⟩:∃ f,rr[i]?=some f:=⟨_,U03 hlt⟩
   have hfd:rr.getD i 0=f:=by rw [U07,hf];rfl
   obtain ⟨_,_,e,f1⟩:=HROW4.out
   cases e
   obtain ⟨p1,o1,rfl,l1,g1⟩:=f1 (by omega)
   have r0:wr.cell? ⟨p1,o1+i,none⟩=some (.int .i64 (f:Int)):=(hSh.out.below.cell (p:=⟨p1,o1+i,none⟩) l1).trans (g1 i _ (by unfold Z9u;rw [U0g,hf];rfl))
   have kt0:=HX.out f (U0a hf) wr HBw.out
   have HF:=Z00 hf
   have HFD:=Z00 hfd
   clear g1 f1 hf hfd
   by_cases hkd:m.F f / 4 % 256<8
   ·have kt:=kt0.mono (R':=fun ev w'=>ev = .returned (.tuple #[.string (Z1b (m.F f / 4 % 256)++T (m.F f / 4 % 256) (Z07 m.F f)),.bool true])/\Below wr.heap.size wr w') (fun ev w' t=>by
     rcases t with ⟨⟨h,_⟩ | ⟨_,h⟩,hb⟩
     ·exact absurd hkd h
     ·exact ⟨h,hb⟩)
    clear kt0
    have hdk:=Z0m (m.F f / 4 % 256) (by omega) (by omega)
    have htl:=HTL.out i f HF.out hkd
    have hdi:=Z0m (i:Int) (by omega) (by omega)
    obtain ⟨S,hSd⟩:∃ S,S=Z1b (m.F f / 4 % 256)++T (m.F f / 4 % 256) (Z07 m.F f):=⟨_,rfl⟩
    have hSs:S.size<=20000100:=by rw [hSd,U0o];omega
    have hLine:Hid (lsB (((Z1b (i:Int)++⟨#[32]⟩)++S)++⟨#[10]⟩)=Z61 T m.F rr i (rr.getD i 0)):=by
     show _=_
     unfold Z61
     rw [HFD.out,U09 hkd,hSd,Z0x,Z0x,Z0x,Z0x]
     simp [lsB]
    rw [<-hSd] at kt
    have a1:=fun wx=>U38 (P:=prog) (w:=wx) (Z1b (i:Int)) ⟨#[32]⟩ (by show _+1<=_;omega)
    have a2:=fun wx=>U38 (P:=prog) (w:=wx) (Z1b (i:Int)++⟨#[32]⟩) S (by rw [U0o];show _+1+_<=_;omega)
    have a3:=fun wx=>U38 (P:=prog) (w:=wx) ((Z1b (i:Int)++⟨#[32]⟩)++S) ⟨#[10]⟩ (by rw [U0o,U0o];show _+1+_+1<=_;omega)
    have kI:Hid (∀ W,Below w.heap.size w W->Calls prog 56 #[.int .i64 (i:Int)] W fun ev w'=>ev = .returned (.string (Z1b (i:Int)))/\Below W.heap.size W w'):=fun W hW=>Z75 (by omega) (by omega) W (HT.out.below hW (U02 _))
    have hnL:=HNL.out
    obtain ⟨J,hJ⟩:∃ J:Nat,J=m.R.length+i:=⟨_,rfl⟩
    have hJi:(m.R.length:Int)+(i:Int)=(J:Int):=by omega
    have hJl:(J:Int)<(nL:Int):=by omega
    have hJ0:(0:Int)<=(J:Int):=by omega
    have hwr:IntKind.i64.wrap ((m.R.length:Int)+(i:Int))=(J:Int):=(Z18 _ (by omega) (by omega)).trans hJi
    have HJ:=Z00 hJ
    have HC7:Hid (∀ W,Below o4 w4 W->W.cell? ⟨o,7,none⟩=some (.slice aR m.R.length cR)):=fun W hW=>(hW.cell (p:=⟨o,7,none⟩) HO74.out.1).trans HO74.out.2
    clear hSd hdk htl hkd hJi hJ hnL
    generalize Z1b (i:Int)=di at *
    go_wp2_with fail
    refine kt.mono ?_
    clear kt r0
    rintro ev w5 ⟨rfl,b5⟩
    have hSh5:=Z00 (hSh.out.keep b5)
    have HB5:Hid (Below w.heap.size w w5):=HBw.out.trans (b5.mono HBw.out.size)
    clear b5
    have hc7:=HC7.out w5 hSh5.out.below
    have hs5:=hSh5.out
    have hbw5:=HB5.out
    go_upto_region 11 with fail
    go_region_held3 (fun W=>W.cell? ⟨o,7,none⟩=some (.slice aR m.R.length cR)) (first | with_reducible exact hc7 | with_reducible exact HC7.out _ hs5.below | with_reducible exact HC7.out _ hs5.below.drew | with_reducible exact HC7.out _ hs6.below | with_reducible exact HC7.out _ hs6.below.drew | with_reducible exact HC7.out _ hs7.below | with_reducible exact HC7.out _ (hs6.below.setCell (U02 _) _)) (first
     | (go_at_call 56;refine (kI.out _ (by first | with_reducible exact hbw5 | with_reducible exact hbw5.drew)).mono ?_;rintro ev w6 ⟨rfl,b6⟩;have hs6:ShowAt T m rr o4 i w4 w6:=(by first | with_reducible exact hs5.keep b6 | with_reducible exact (hs5.keep (U01 _ _).drew).keep b6);have cj:=hs6.blk.cell (j:=J) (v:=.string ((Z4l (Z1g T m.F rr m.R i)).getD J ⟨#[]⟩)) (by rw [U0g,U07,U03 (by rw [Z47,Z2i];have:=HJ.out;omega)];rfl);have fj:=hs6.blk.frozen J;have hs7:ShowAt T m rr o4 (i+1) w4 (w6.setCell ⟨o4,J,none⟩ (.string (((di++⟨#[32]⟩)++S)++⟨#[10]⟩))):=(by rw [HJ.out];exact hs6.set hlt hLine.out);clear b6))
    all_goals (
     have HS7:=Z00 hs7
     clear hs7 hs6 cj fj hs5 hbw5
     go_wp2_with fail
     go_roundg (rr.length+1 - (i+1))
     case measure=>have:=HG.out;omega
     case rel=>exact ⟨i+1,rfl,by omega,by go_num,HS7⟩)
   ·have kt:=kt0.mono (R':=fun ev w'=>ev = .returned (.tuple #[.string ⟨#[]⟩,.bool false])/\Below wr.heap.size wr w') (fun ev w' t=>by
     rcases t with ⟨⟨_,h⟩ | ⟨h,_⟩,hb⟩
     ·exact ⟨h,hb⟩
     ·exact absurd h hkd)
    clear kt0
    have HSN:Hid (ShowAt T m rr o4 (i+1) w4 wr):=hSh.out.next (by rw [HFD.out];exact hkd)
    clear hkd
    go_wp2_with fail
    refine kt.mono ?_
    clear kt r0
    rintro ev w5 ⟨rfl,b5⟩
    have HSN5:=Z00 (HSN.out.keep b5)
    clear b5
    go_wp2_with fail
    go_roundg (rr.length+1 - (i+1))
    case measure=>have:=HG.out;omega
    case rel=>exact ⟨i+1,rfl,by omega,by go_num,HSN5⟩
  ·have hI:¬ (i:Int)<(rr.length:Int):=by omega
   obtain rfl:i=rr.length:=by omega
   have hcs:∀ (j:Nat) y,(Z4l (Z1g T m.F rr m.R rr.length))[j]?=some y->wr.cell? ⟨o4,0+j,none⟩=some (.string y):=fun j y hj=>by
    rw [U1p]
    exact hSh.out.blk.cell (by rw [U0g,hj];rfl)
   have hsj:=joinL (Z1g T m.F rr m.R rr.length)
   rw [<-HZ2.out] at hsj
   have kj:=Z6p o4 0 N (Z4l (Z1g T m.F rr m.R rr.length)) ⟨#[]⟩ wr hcs hSh.out.blk.lt (by rw [Z47,Z2i];omega) (by rw [Z47,Z2i];have:=HNL.out;omega) (by rw [hsj,Z1y];omega)
   rw [hsj,Z47,Z2i,<-HNL.out,show (⟨(lsB Z).toArray⟩:ByteArray)=Z from Zbm (by simp [lsB])] at kj
   clear hcs hsj
   go_wp2_with fail
   refine kj.mono ?_
   clear kj
   rintro ev w5 ⟨rfl,b5⟩
   go_wp2_with fail
   first | go_ret | skip
   exact ⟨rfl,HBw.out.trans (b5.mono HBw.out.size)⟩
end
section
open Go.Maps
variable {h:HP}{sr:Int}{m:MD}{w w':World}{a:Nat->Addr}{w0:World}{M:MO}{X:MXtra}
theorem Zom {t:TypeId}{k:Nat}{v:Value}{n:Nat}{xs:List Value}{w:World} (h:Z20 t k v n xs w):Z4g w v n xs:=by
 obtain ⟨ao,cap,e,hc,_,f⟩:=h
 refine ⟨ao,cap,e,hc,fun hn => ?_⟩
 obtain ⟨g,rfl,hb⟩:=f hn
 exact ⟨g,0,rfl,hb.lt,fun j u hj=>by rw [U1p];exact hb.cell hj⟩
theorem HAt.rep (H:HAt h sr m w):Z86 h.p m w:=
 ⟨_,_,_,_,_,H.tp.lt,H.cm,⟨_,_,rfl,H.cap,fun _=>⟨h.bW,rfl,H.tW.lt,fun _ _ hj=>H.hW.cell hj⟩⟩,H.col.R,H.col.K,Zom H.col.I,⟨_,_,rfl,H.capC,fun _=>⟨h.bC,rfl,H.tC.lt,fun _ _ hj=>H.hC.cell hj⟩⟩⟩
theorem HAt.heapAt (H:HAt h sr m w):HeapAt h.q h.p h.tn sr w:=⟨H.tq.lt,H.c0,H.c1,H.c2⟩
theorem Zeu {F:Nat->Int}{f:Nat}{y:Int} (h:Z07 F f = [y]):szN (F f)=1/\F (f+1)=y:=by
 have h1:=congrArg List.length h
 unfold Z07 at h h1
 simp at h1
 rw [h1] at h
 simp at h
 exact ⟨h1,h⟩
end
end Go.Proofs.YtlkcbdinlfeoiaaGreatDoor
