/- Package lex: digits, by its contract. -/
import Derived.Test.YtflcohidmemfpaaGreatDoorSsB
import Derived.Test.YtflcohidmemfpaaGreatDoorShelf
set_option linter.all false
namespace Go.Proofs.YtflcohidmemfpaaGreatDoor
open Go.Proofs.Tryz
open Go.RowKit

theorem Zdw (P:Int→Bool) (s:ByteArray):∀ n i k,i≤k→k<Z16 P s n i → ∃ h:k<s.size,P (s[k].toNat:Int)=true
 | 0,i,k,h1,h2=>by simp [Z16] at h2;omega
 | n+1,i,k,h1,h2=>by
  unfold Z16 at h2
  split at h2
  ·rename_i h
   split at h2
   ·rename_i hP
    by_cases e:k=i
    ·subst e;exact ⟨h,hP⟩
    ·exact Zdw P s n (i+1) k (by omega) h2
   ·omega
  ·omega

theorem Z64 (M:Nat):∀ (l:List UInt8) (acc:Nat),(∀ c∈l,48≤c.toNat∧c.toNat≤57)→(∃ u,Lib.parseUintM M acc l = .ok u)∨Lib.parseUintM M acc l = .range
 | [],acc,_=>.inl ⟨acc,rfl⟩
 | c::r,acc,h=>by
  have hc:=h c (by simp)
  simp only [Lib.parseUintM,hc,and_self,if_true]
  split
  ·exact .inr rfl
  ·split
   ·exact .inr rfl
   ·exact Z64 M r _ (fun x hx=>h x (by simp [hx]))

theorem Zas (l:List UInt8) (hl:l ≠ []) (h:∀ c∈l,48≤c.toNat∧c.toNat≤57):(∃ v,Lib.parseIntB 64 l = .ok v)∨Lib.parseIntB 64 l = .range:=by
 cases l with
 | nil=>exact absurd rfl hl
 | cons c r =>
  have hc:=h c (by simp)
  have e1:¬ c.toNat=43:=by omega
  have e2:¬ c.toNat=45:=by omega
  simp only [Lib.parseIntB,e1,e2,or_self,not_false_eq_true,true_and,false_and,if_false]
  have hp:=Z64 (2 ^ 64 - 1) (c::r) 0 h
  unfold Lib.parseUintB
  rw [if_neg hl]
  rcases hp with ⟨u,hu⟩ | hu
  ·rw [hu]
   simp only
   split
   ·exact .inr rfl
   ·exact .inl ⟨_,rfl⟩
  ·rw [hu]
   exact .inr rfl

def Z39 (s:ByteArray) (i:Nat):Nat:=Z16 Z1f s (s.size - i) i
def Z5w (s:ByteArray) (i:Nat):Option (ByteArray × Nat):=
 if h:i<s.size then
  if (s[i].toNat:Int) == 48 && decide (1<Z39 s i - i) then none
  else match Lib.parseIntB 64 (s.extract i (Z39 s i)).data.toList with
   | .ok _=>some (s.extract i (Z39 s i),Z39 s i)
   | _=>none
 else none

def Zcq (B p:Nat) (s:ByteArray) (i:Nat) (a0:Addr) (w:World) (ev:Ending) (w':World):Prop:=
 match Z5w s i with
 | some (t,j)=>ev = .returned (.string t)∧Went p w w' j∧j≤s.size
 | none=>Z3h B w i a0 ev w'
theorem Zcq.some {B p:Nat}{s:ByteArray}{i j:Nat}{a0:Addr}{w w':World}{t:ByteArray} (h:Z5w s i=some (t,j)) (h1:Went p w w' j) (h2:j≤s.size):Zcq B p s i a0 w (.returned (.string t)) w':=by
 unfold Zcq
 rw [h]
 exact ⟨rfl,h1,h2⟩
theorem Zcq.none {B p:Nat}{s:ByteArray}{i:Nat}{a0:Addr}{w w':World}{ev:Ending} (h:Z5w s i=Option.none) (h1:Z3h B w i a0 ev w'):Zcq B p s i a0 w ev w':=by
 unfold Zcq
 rw [h]
 exact h1

theorem Z5t : prog.globalNamed "strconv.ErrRange" = some 8 := by kernel_rfl
theorem Zwd {B:Nat}{a w:World} (h:Below B a w) (q:Nat):Below B a (w.drewN q):=below_drewN h q
theorem Zb9 (w:World) (t:ByteArray):Below w.heap.size w (Lib.bytesWorld w 5 t):=
 ⟨rfl,rfl,rfl,by rw [Lib.bytesWorld_size];omega,fun k hk=>Lib.bytesWorld_at_old w 5 t k hk⟩

theorem Zik {s:ByteArray}{i j:Nat}{p:UInt8→Prop} (hj:j≤s.size) (h:∀ k (_:i≤k) (_:k<j) (hk:k<s.size),p s[k]):∀ c∈(s.extract i j).data.toList,p c:=by
 intro c hc
 obtain ⟨n,hn,rfl⟩:=List.mem_iff_getElem.1 hc
 have hz:n<j - i:=by simp at hn;omega
 have e:(s.extract i j).data.toList[n]=s[i+n]:=by
  simp
  rfl
 rw [e]
 exact h (i+n) (by omega) (by omega) (by omega)

set_option maxHeartbeats 1000000 in
theorem Zjo (B p i : Nat) (s : ByteArray) (a0 : Addr) (w : World) (h : At p s i w) (hlt : i < s.size) (hd : Z1f (s[i].toNat : Int) = true) (hp : p < w.heap.size) (hBp : B ≤ p) (hgB : 3 < B) (hg : w.cell? ⟨3, 0, none⟩ = some (.iface 214 (.pointer (some a0)))) (tp : TypeId) (vp : Value) (hvB : 8 < B) (hv : w.var? prog "strconv.ErrRange" = some #[.iface tp vp]) :
  Calls prog 107 #[.pointer (some ⟨p,0,none⟩)] w fun ev w'=>Zcq B p s i a0 w ev w':=by
 have hA:=h
 obtain ⟨hs,hat,c0,c1,f1⟩:=h
 have hle:=Z29 Z1f s (s.size - i) i
 have hI:(i:Int)<(s.size:Int):=by omega
 have hj0:i+1≤Z16 Z1f s (s.size - i) i:=by
  rw [Z8k hlt hd];exact (Z29 Z1f s _ (i+1)).1
 have hall:∀ c∈(s.extract i (Z16 Z1f s (s.size - i) i)).data.toList,48≤c.toNat∧c.toNat≤57:=
  Zik (p:=fun c=>48≤c.toNat∧c.toNat≤57) (hle.2 (by omega)) (fun k h1 h2 hk=>by
   obtain ⟨_,hd⟩:=Zdw Z1f s _ i k h1 h2
   simp [Z1f] at hd
   omega)
 go_enter func107,ntmps107
 go_wp2_with fail
 refine (Zaz 106 Z1f Zmu Z4x p s i _ hs hat c0 c1 f1).mono ?_
 rintro ev w1 ⟨rfl,hwent⟩
 have hj2:Z16 Z1f s (s.size - i) i≤s.size:=hle.2 (by omega)
 have hjj:Z39 s i=Z16 Z1f s (s.size - i) i:=rfl
 generalize Z16 Z1f s (s.size - i) i=j at hj0 hj2 hwent hjj hall ⊢
 have HJ:Hid (Z39 s i=j):=hjj
 have hA2:=hA.moved hwent hj2
 have d0:=hA2.c0
 have d1:=hA2.c1
 have hgg:w1.cell? ⟨3,0,none⟩=some (.iface 214 (.pointer (some a0))):=(World.cell?_of_block (w:=w) (hwent.far 3 (by omega))).trans hg
 have hJ1:(i:Int)≤(j:Int):=by omega
 have hJ2:(j:Int)≤(s.size:Int):=by omega
 have hesz:(s.extract i j).size=j - i:=by simp [ByteArray.size_extract];omega
 have hP:(0:Int)<((s.extract i j).size:Int):=by omega
 have hpos:0<(s.extract i j).size:=by omega
 have hfirst:(s.extract i j)[0]=s[i]:=by simp [ByteArray.getElem_extract]
 have HFI:Hid ((s.extract i j)[0]=s[i]):=hfirst
 clear hfirst hjj hle c0 c1 f1 hA2 hA
 go_wp2_with fail
 go_quiet (fail)
 by_cases hz:(s[i].toNat:Int) == 48∧1<j - i
 ·have HN:Hid (Z5w s i=none):=show Z5w s i=none by simp [Z5w,hlt,HJ.out,hz]
  have h48:(((s.extract i j)[0].toNat:Int) == 48)=true:=by rw [HFI.out];exact hz.1
  have h1:(1:Int)<((s.extract i j).size:Int):=by omega
  go_wp2_with fail
  refine (Z3a _ a0 _ (by exact hgg)).mono ?_
  rintro ev w3 ⟨rfl,rfl⟩
  go_wp2
  exact ⟨rfl,Zcq.none HN.out ⟨_,rfl,Z5c ((hwent.below hBp).alloc (by rw [hwent.size];omega) _),Z18 rfl rfl,Z18 rfl rfl⟩⟩
 have hnz:((s[i].toNat:Int) == 48 && decide (1<j - i))=false:=by
  simp only [Bool.and_eq_false_iff,decide_eq_false_iff_not]
  by_cases e:((s[i].toNat:Int) == 48)=true
  ·exact .inr (fun h=>hz ⟨e,h⟩)
  ·exact .inl (Bool.eq_false_iff.2 e)
 have hne:(s.extract i j).data.toList ≠ []:=by
  intro e
  have:=congrArg List.length e
  simp at this
  omega
 have hpick:(((s.extract i j)[0].toNat:Int) == 48)=false∨((((s.extract i j)[0].toNat:Int) == 48)=true ∧ ¬ (1:Int)<((s.extract i j).size:Int)):=by
  rw [HFI.out]
  by_cases e:((s[i].toNat:Int) == 48)=true
  ·exact .inr ⟨e,fun h=>hz ⟨e,by omega⟩⟩
  ·exact .inl (Bool.eq_false_iff.2 e)
 rcases Zas _ hne hall with ⟨v,hok⟩ | hrg
 ·have HN:Hid (Z5w s i=some (s.extract i j,j)):=show Z5w s i=some (s.extract i j,j) by simp only [Z5w,hlt,dif_pos,HJ.out,hnz,Bool.false_eq_true,if_false,hok]
  have HOK:Hid (Lib.parseIntB 64 (s.extract i j).data.toList = .ok v):=hok
  clear hok hne hall hnz hz
  rcases hpick with h48 | ⟨h48,h1⟩
  all_goals
   go_wp2_with fail
   refine (Zl4 _ (by omega) v HOK.out _).mono ?_
   rintro ev w2 ⟨rfl,hw2⟩
   have hb2:Below (w1.drewN nq).heap.size (w1.drewN nq) w2:=by
    rcases hw2 with rfl | ⟨t,rfl⟩
    ·exact Below.refl _ _
    ·exact Zb9 _ _
   clear hw2
   have hfin:Went p w w2 j:=(hwent.drewN nq).went.trans (Went.ofBelow hb2 (by show p<w1.heap.size;rw [hwent.size];exact hp) (hwent.drewN nq).at_)
   go_wp2_with fail
   go_ret
   exact Zcq.some HN.out hfin hj2
 ·have HN:Hid (Z5w s i=none):=show Z5w s i=none by simp only [Z5w,hlt,dif_pos,HJ.out,hnz,Bool.false_eq_true,if_false,hrg]
  have HOK:Hid (Lib.parseIntB 64 (s.extract i j).data.toList = .range):=hrg
  have hvr : (w1.drewN nq).var? prog "strconv.ErrRange" = some #[.iface tp vp] := var?_below ((Zwd (Below.refl B w1) nq)) Z5t hvB (var?_below (hwent.below hBp) Z5t hvB hv)
  clear hrg hne hall hnz hz
  rcases hpick with h48 | ⟨h48,h1⟩
  all_goals
   go_wp2_with fail
   refine (Zj7 _ (by omega) HOK.out tp vp _ hvr).mono ?_
   rintro ev w2 ⟨N,rfl,_,_,hb2⟩
   have hb3:Below B w w2:=(hwent.below hBp).trans ((Zwd (Below.refl B w1) nq).trans (hb2.mono (by show B≤w1.heap.size;rw [hwent.size];omega)))
   have hg2:w2.cell? ⟨3,0,none⟩=some (.iface 214 (.pointer (some a0))):=(hb3.cell (p:=⟨3,0,none⟩) hgB).trans hg
   go_wp2_with fail
   refine (Z3a _ a0 _ hg2).mono ?_
   rintro ev w3 ⟨rfl,rfl⟩
   go_wp2
   exact ⟨rfl,Zcq.none HN.out ⟨_,rfl,hb3.alloc (by have:=hb3.size;omega) _,Z18 rfl rfl,Z18 rfl rfl⟩⟩
end Go.Proofs.YtflcohidmemfpaaGreatDoor
namespace Go.Proofs.YtflcohidmemfpaaGreatDoor
open Go.Proofs.Tryz
open Go.RowKit

structure Env (B:Nat) (a0:Addr) (w:World):Prop where
 hg:w.cell? ⟨3,0,none⟩=some (.iface 214 (.pointer (some a0)))
 words:∃ tt fr,w.heap[5]?=some (.cells wordCells tt fr)
 ops:∃ tt fr,w.heap[4]?=some (.cells opCells tt fr)
 range : ∃ tp vp, w.var? prog "strconv.ErrRange" = some #[.iface tp vp]
 bg:3<B
 bw:5<B
 bo:4<B
 br:8<B

theorem Env.below {B:Nat}{a0:Addr}{w w':World} (h:Env B a0 w) (hb:Below B w w'):Env B a0 w' where
 hg:=(hb.cell (p:=⟨3,0,none⟩) h.bg).trans h.hg
 words:=by obtain ⟨tt,fr,e⟩:=h.words;exact ⟨tt,fr,(hb.block _ h.bw).trans e⟩
 ops:=by obtain ⟨tt,fr,e⟩:=h.ops;exact ⟨tt,fr,(hb.block _ h.bo).trans e⟩
 range:=by obtain ⟨tp,vp,e⟩:=h.range;exact ⟨tp,vp,var?_below hb Z5t h.br e⟩
 bg:=h.bg
 bw:=h.bw
 bo:=h.bo
 br:=h.br

theorem RS.went {B p:Nat}{s:ByteArray}{i j:Nat}{op:List Int}{n:Nat}{tk:List Value}{w w':World} (h:RS B p s i op n tk w) (hm:Went p w w' j) (hj:j≤s.size):RS B p s j op n tk w':=by
 obtain ⟨hA,hp,hpl,⟨g,cap,vt,c2,c3,o2,o3,ngp,ntp,ntg⟩,f2,f3⟩:=h
 have own_lt:∀ {e size m:Nat}{v:Value}{xs:List Value},w.ownsRow B e size v m xs → ∀ k,v.ownBlock=some k→k<w.heap.size:=by
  intro e size m v xs ho k hk
  rcases ho.2 with ⟨rfl,_⟩ | ⟨g',cap',cur,rfl,_,hg',_⟩
  ·simp [Value.ownBlock] at hk
  ·simp [Value.ownBlock] at hk;subst hk;exact Z00 hg'
 refine ⟨hA.went hm hj,hp,Nat.lt_of_lt_of_le hpl hm.size,⟨g,cap,vt,(hm.near 2 (by decide)).trans c2,(hm.near 3 (by decide)).trans c3,?_,?_,ngp,ntp,ntg⟩,(hm.fz 2).trans f2,(hm.fz 3).trans f3⟩
 ·exact Z0j o2 (fun k hk=>hm.far k (own_lt o2 k hk) (fun e=>by simp [Value.ownBlock] at hk;omega))
 ·exact Z0j o3 (fun k hk=>hm.far k (own_lt o3 k hk) (fun e=>ntp (by rw [hk,e])))

def Z8u:ByteArray:=⟨#[110,97,109,101]⟩
def Z8z:ByteArray:=⟨#[119,111,114,100]⟩
def Zpu:ByteArray:=⟨#[105,110,116]⟩
def Zoa:ByteArray:=⟨#[115,116,114]⟩
def kOp:ByteArray:=⟨#[111,112]⟩

def Z1v (s:ByteArray) (i:Nat):Option (ByteArray × ByteArray × Nat):=
 if h:i<s.size then
  if Z32 (s[i].toNat:Int) || Z1n (s[i].toNat:Int) then (Z37 s i).map fun x=>(if x.1 then Z8z else Z8u,x.2.1,x.2.2)
  else if Z1f (s[i].toNat:Int) then (Z5w s i).map fun x=>(Zpu,x.1,x.2)
  else if (s[i].toNat:Int) == 34 then (Z5u s i).map fun x=>(Zoa,strOfNums x.1,x.2)
  else (Zet s i).map fun x=>(kOp,x.1,x.2)
 else none

def Z4j (B p:Nat) (s:ByteArray) (i:Nat) (op:List Int) (n:Nat) (tk:List Value) (a0:Addr) (w:World) (ev:Ending) (w':World):Prop:=
 match Z1v s i with
 | some (k,t,j)=>ev = .returned (.tuple #[])∧RS B p s j op (n+1) (tk++Z0o k t i) w'∧Below B w w'∧j≤s.size
 | none=>Z3h B w i a0 ev w'
theorem Z4j.some {B p:Nat}{s:ByteArray}{i j:Nat}{op:List Int}{n:Nat}{tk:List Value}{a0:Addr}{w w':World}{k t:ByteArray} (h:Z1v s i=some (k,t,j)) (h1:RS B p s j op (n+1) (tk++Z0o k t i) w') (h2:Below B w w') (h3:j≤s.size):Z4j B p s i op n tk a0 w (.returned (.tuple #[])) w':=by
 unfold Z4j
 rw [h]
 exact ⟨rfl,h1,h2,h3⟩
theorem Z4j.none {B p:Nat}{s:ByteArray}{i:Nat}{op:List Int}{n:Nat}{tk:List Value}{a0:Addr}{w w':World}{ev:Ending} (h:Z1v s i=Option.none) (h1:Z3h B w i a0 ev w'):Z4j B p s i op n tk a0 w ev w':=by
 unfold Z4j
 rw [h]
 exact h1

set_option maxHeartbeats 1000000 in
theorem Zji (B p i:Nat) (s:ByteArray) (op:List Int) (n:Nat) (tk:List Value) (a0:Addr) (w:World) (h:RS B p s i op n tk w) (E:Env B a0 w) (hlt:i<s.size) (hn:n≤100000)
  (hsm:Z32 (s[i].toNat:Int)=true) :
  Calls prog 73 #[.pointer (some ⟨p,0,none⟩)] w fun ev w'=>Z4j B p s i op n tk a0 w ev w':=by
 have hA:=h.hA
 obtain ⟨hs,hat,c0,c1,f1⟩:=h.hA
 have hI:(i:Int)<(s.size:Int):=by omega
 have hI0:(0:Int)≤(i:Int):=by omega
 have hB:B≤w.heap.size:=by have:=h.hp;have:=h.hpl;omega
 obtain ⟨tt,fr,hw⟩:=E.words
 have hsc:(Z32 (s[i].toNat:Int) || Z1n (s[i].toNat:Int))=true:=by rw [hsm,Bool.true_or]
 have HSC:Hid ((Z32 (s[i].toNat:Int) || Z1n (s[i].toNat:Int))=true):=hsc
 clear hsc
 go_enter func73,ntmps73
 go_wp2_with (first | (go_at_call 103;refine (Z5k _ _).mono ?_;rintro e w' ⟨rfl,hww⟩;rw [hww];clear hww) | (go_at_call 104;refine (Z40 _ _).mono ?_;rintro e w' ⟨rfl,hww⟩;rw [hww];clear hww) | (go_at_call 106;refine (Z4x _ _).mono ?_;rintro e w' ⟨rfl,hww⟩;rw [hww];clear hww))
 refine (Zgf B p i s a0 w hA hlt h.hpl h.hp E.bg E.hg tt fr E.bw hw).mono ?_
 intro ev w1 hq
 unfold Zkg at hq
 cases hna:Z37 s i with
 | none =>
  rw [hna] at hq
  have HN:Hid (Z1v s i=Option.none):=show Z1v s i=Option.none by simp only [Z1v,hlt,dif_pos,HSC.out,if_true,hna,Option.map_none]
  clear hna
  obtain ⟨b,rfl,t1,t2,t3⟩:=hq
  go_wp2
  exact ⟨rfl,Z4j.none HN.out ⟨b,rfl,t1,t2,t3⟩⟩
 | some x =>
  obtain ⟨wd,t,j⟩:=x
  rw [hna] at hq
  have HN:Hid (Z1v s i=Option.some (if wd then Z8z else Z8u,t,j)):=show Z1v s i=Option.some (if wd then Z8z else Z8u,t,j) by simp only [Z1v,hlt,dif_pos,HSC.out,if_true,hna,Option.map_some]
  clear hna
  obtain ⟨rfl,hwt,hj⟩:=hq
  have h1:=h.went hwt hj
  have hb1:=hwt.below h.hp hB
  have hB1:B≤w1.heap.size:=Nat.le_trans hB hb1.size
  cases wd
  all_goals
   simp only [Bool.false_eq_true,if_false,if_true]
   go_wp2_with fail
   refine (Z6j B p s j op n tk _ _ _ i h1 hB1 hn).mono ?_
   rintro ev w2 ⟨rfl,h2,hb2⟩
   go_wp2_with fail
   first | go_end0 | refine bodyPost_ret (results_none rfl _ _ _) rfl ?_
   exact Z4j.some HN.out h2 (hb1.trans hb2) hj

set_option maxHeartbeats 1000000 in
theorem Zfw (B p i:Nat) (s:ByteArray) (op:List Int) (n:Nat) (tk:List Value) (a0:Addr) (w:World) (h:RS B p s i op n tk w) (E:Env B a0 w) (hlt:i<s.size) (hn:n≤100000)
  (hsm:Z32 (s[i].toNat:Int)=false) (hcp:Z1n (s[i].toNat:Int)=true) :
  Calls prog 73 #[.pointer (some ⟨p,0,none⟩)] w fun ev w'=>Z4j B p s i op n tk a0 w ev w':=by
 have hA:=h.hA
 obtain ⟨hs,hat,c0,c1,f1⟩:=h.hA
 have hI:(i:Int)<(s.size:Int):=by omega
 have hI0:(0:Int)≤(i:Int):=by omega
 have hB:B≤w.heap.size:=by have:=h.hp;have:=h.hpl;omega
 obtain ⟨tt,fr,hw⟩:=E.words
 have hsc:(Z32 (s[i].toNat:Int) || Z1n (s[i].toNat:Int))=true:=by rw [hsm,hcp];rfl
 have HSC:Hid ((Z32 (s[i].toNat:Int) || Z1n (s[i].toNat:Int))=true):=hsc
 clear hsc
 go_enter func73,ntmps73
 go_wp2_with (first | (go_at_call 103;refine (Z5k _ _).mono ?_;rintro e w' ⟨rfl,hww⟩;rw [hww];clear hww) | (go_at_call 104;refine (Z40 _ _).mono ?_;rintro e w' ⟨rfl,hww⟩;rw [hww];clear hww) | (go_at_call 106;refine (Z4x _ _).mono ?_;rintro e w' ⟨rfl,hww⟩;rw [hww];clear hww))
 refine (Zgf B p i s a0 w hA hlt h.hpl h.hp E.bg E.hg tt fr E.bw hw).mono ?_
 intro ev w1 hq
 unfold Zkg at hq
 cases hna:Z37 s i with
 | none =>
  rw [hna] at hq
  have HN:Hid (Z1v s i=Option.none):=show Z1v s i=Option.none by simp only [Z1v,hlt,dif_pos,HSC.out,if_true,hna,Option.map_none]
  clear hna
  obtain ⟨b,rfl,t1,t2,t3⟩:=hq
  go_wp2
  exact ⟨rfl,Z4j.none HN.out ⟨b,rfl,t1,t2,t3⟩⟩
 | some x =>
  obtain ⟨wd,t,j⟩:=x
  rw [hna] at hq
  have HN:Hid (Z1v s i=Option.some (if wd then Z8z else Z8u,t,j)):=show Z1v s i=Option.some (if wd then Z8z else Z8u,t,j) by simp only [Z1v,hlt,dif_pos,HSC.out,if_true,hna,Option.map_some]
  clear hna
  obtain ⟨rfl,hwt,hj⟩:=hq
  have h1:=h.went hwt hj
  have hb1:=hwt.below h.hp hB
  have hB1:B≤w1.heap.size:=Nat.le_trans hB hb1.size
  cases wd
  all_goals
   simp only [Bool.false_eq_true,if_false,if_true]
   go_wp2_with fail
   refine (Z6j B p s j op n tk _ _ _ i h1 hB1 hn).mono ?_
   rintro ev w2 ⟨rfl,h2,hb2⟩
   go_wp2_with fail
   first | go_end0 | refine bodyPost_ret (results_none rfl _ _ _) rfl ?_
   exact Z4j.some HN.out h2 (hb1.trans hb2) hj

end Go.Proofs.YtflcohidmemfpaaGreatDoor
namespace Go.Proofs.YtflcohidmemfpaaGreatDoor
open Go.Proofs.Tryz
open Go.RowKit

set_option maxHeartbeats 1000000 in
theorem Zrn (B p i:Nat) (s:ByteArray) (op:List Int) (n:Nat) (tk:List Value) (a0:Addr) (w:World) (h:RS B p s i op n tk w) (E:Env B a0 w) (hlt:i<s.size) (hn:n≤100000)
  (hsm:Z32 (s[i].toNat:Int)=false) (hcp:Z1n (s[i].toNat:Int)=false) (hdg:Z1f (s[i].toNat:Int)=true) :
  Calls prog 73 #[.pointer (some ⟨p,0,none⟩)] w fun ev w'=>Z4j B p s i op n tk a0 w ev w':=by
 have hA:=h.hA
 obtain ⟨hs,hat,c0,c1,f1⟩:=h.hA
 have hI:(i:Int)<(s.size:Int):=by omega
 have hI0:(0:Int)≤(i:Int):=by omega
 have hB:B≤w.heap.size:=by have:=h.hp;have:=h.hpl;omega
 obtain ⟨tp,vp,hv⟩:=E.range
 go_enter func73,ntmps73
 go_wp2_with (first | (go_at_call 103;refine (Z5k _ _).mono ?_;rintro e w' ⟨rfl,hww⟩;rw [hww];clear hww) | (go_at_call 104;refine (Z40 _ _).mono ?_;rintro e w' ⟨rfl,hww⟩;rw [hww];clear hww) | (go_at_call 106;refine (Z4x _ _).mono ?_;rintro e w' ⟨rfl,hww⟩;rw [hww];clear hww))
 refine (Zjo B p i s a0 w hA hlt hdg h.hpl h.hp E.bg E.hg tp vp E.br hv).mono ?_
 intro ev w1 hq
 unfold Zcq at hq
 cases hna:Z5w s i with
 | none =>
  rw [hna] at hq
  have HN:Hid (Z1v s i=Option.none):=show Z1v s i=Option.none by simp only [Z1v,hlt,dif_pos,hsm,hcp,Bool.or_self,Bool.false_eq_true,if_false,hdg,if_true,hna,Option.map_none]
  clear hna
  obtain ⟨b,rfl,t1,t2,t3⟩:=hq
  go_wp2
  exact ⟨rfl,Z4j.none HN.out ⟨b,rfl,t1,t2,t3⟩⟩
 | some x =>
  obtain ⟨t,j⟩:=x
  rw [hna] at hq
  have HN:Hid (Z1v s i=Option.some (Zpu,t,j)):=show Z1v s i=Option.some (Zpu,t,j) by simp only [Z1v,hlt,dif_pos,hsm,hcp,Bool.or_self,Bool.false_eq_true,if_false,hdg,if_true,hna,Option.map_some]
  clear hna
  obtain ⟨rfl,hwt,hj⟩:=hq
  have h1:=h.went hwt hj
  have hb1:=hwt.below h.hp hB
  have hB1:B≤w1.heap.size:=Nat.le_trans hB hb1.size
  go_wp2_with fail
  refine (Z6j B p s j op n tk _ _ _ i h1 hB1 hn).mono ?_
  rintro ev w2 ⟨rfl,h2,hb2⟩
  go_wp2_with fail
  first | go_end0 | refine bodyPost_ret (results_none rfl _ _ _) rfl ?_
  exact Z4j.some HN.out h2 (hb1.trans hb2) hj

set_option maxHeartbeats 1000000 in
theorem Zpw (B p i:Nat) (s:ByteArray) (op:List Int) (n:Nat) (tk:List Value) (a0:Addr) (w:World) (h:RS B p s i op n tk w) (E:Env B a0 w) (hlt:i<s.size) (hn:n≤100000)
  (hsm:Z32 (s[i].toNat:Int)=false) (hcp:Z1n (s[i].toNat:Int)=false) (hdg:Z1f (s[i].toNat:Int)=false) (hq34:((s[i].toNat:Int) == 34)=true) :
  Calls prog 73 #[.pointer (some ⟨p,0,none⟩)] w fun ev w'=>Z4j B p s i op n tk a0 w ev w':=by
 have hA:=h.hA
 obtain ⟨hs,hat,c0,c1,f1⟩:=h.hA
 have hI:(i:Int)<(s.size:Int):=by omega
 have hI0:(0:Int)≤(i:Int):=by omega
 have hB:B≤w.heap.size:=by have:=h.hp;have:=h.hpl;omega
 go_enter func73,ntmps73
 go_wp2_with (first | (go_at_call 103;refine (Z5k _ _).mono ?_;rintro e w' ⟨rfl,hww⟩;rw [hww];clear hww) | (go_at_call 104;refine (Z40 _ _).mono ?_;rintro e w' ⟨rfl,hww⟩;rw [hww];clear hww) | (go_at_call 106;refine (Z4x _ _).mono ?_;rintro e w' ⟨rfl,hww⟩;rw [hww];clear hww))
 refine (Znp B p i s a0 w hA hlt h.hpl h.hp E.bg E.hg).mono ?_
 intro ev w1 hq
 unfold Z7z at hq
 cases hna:Z5u s i with
 | none =>
  rw [hna] at hq
  have HN:Hid (Z1v s i=Option.none):=show Z1v s i=Option.none by simp only [Z1v,hlt,dif_pos,hsm,hcp,Bool.or_self,Bool.false_eq_true,if_false,hdg,hq34,if_true,hna,Option.map_none]
  clear hna
  obtain ⟨b,rfl,t1,t2,t3⟩:=hq
  go_wp2
  exact ⟨rfl,Z4j.none HN.out ⟨b,rfl,t1,t2,t3⟩⟩
 | some x =>
  obtain ⟨t,j⟩:=x
  rw [hna] at hq
  have HN:Hid (Z1v s i=Option.some (Zoa,strOfNums t,j)):=show Z1v s i=Option.some (Zoa,strOfNums t,j) by simp only [Z1v,hlt,dif_pos,hsm,hcp,Bool.or_self,Bool.false_eq_true,if_false,hdg,hq34,if_true,hna,Option.map_some]
  clear hna
  obtain ⟨rfl,hwt,hj⟩:=hq
  have h1:=h.went hwt hj
  have hb1:=hwt.below h.hp hB
  have hB1:B≤w1.heap.size:=Nat.le_trans hB hb1.size
  go_wp2_with fail
  refine (Z6j B p s j op n tk _ _ _ i h1 hB1 hn).mono ?_
  rintro ev w2 ⟨rfl,h2,hb2⟩
  go_wp2_with fail
  first | go_end0 | refine bodyPost_ret (results_none rfl _ _ _) rfl ?_
  exact Z4j.some HN.out h2 (hb1.trans hb2) hj

set_option maxHeartbeats 1000000 in
theorem Zul (B p i:Nat) (s:ByteArray) (op:List Int) (n:Nat) (tk:List Value) (a0:Addr) (w:World) (h:RS B p s i op n tk w) (E:Env B a0 w) (hlt:i<s.size) (hn:n≤100000)
  (hsm:Z32 (s[i].toNat:Int)=false) (hcp:Z1n (s[i].toNat:Int)=false) (hdg:Z1f (s[i].toNat:Int)=false) (hq34:((s[i].toNat:Int) == 34)=false) :
  Calls prog 73 #[.pointer (some ⟨p,0,none⟩)] w fun ev w'=>Z4j B p s i op n tk a0 w ev w':=by
 have hA:=h.hA
 obtain ⟨hs,hat,c0,c1,f1⟩:=h.hA
 have hI:(i:Int)<(s.size:Int):=by omega
 have hI0:(0:Int)≤(i:Int):=by omega
 have hB:B≤w.heap.size:=by have:=h.hp;have:=h.hpl;omega
 obtain ⟨tt,fr,hw⟩:=E.ops
 go_enter func73,ntmps73
 go_wp2_with (first | (go_at_call 103;refine (Z5k _ _).mono ?_;rintro e w' ⟨rfl,hww⟩;rw [hww];clear hww) | (go_at_call 104;refine (Z40 _ _).mono ?_;rintro e w' ⟨rfl,hww⟩;rw [hww];clear hww) | (go_at_call 106;refine (Z4x _ _).mono ?_;rintro e w' ⟨rfl,hww⟩;rw [hww];clear hww))
 refine (Zwf B p i s a0 w hA hlt h.hpl h.hp E.hg tt fr hw).mono ?_
 intro ev w1 hq
 unfold Zvn at hq
 cases hna:Zet s i with
 | none =>
  rw [hna] at hq
  have HN:Hid (Z1v s i=Option.none):=show Z1v s i=Option.none by simp only [Z1v,hlt,dif_pos,hsm,hcp,Bool.or_self,Bool.false_eq_true,if_false,hdg,hq34,hna,Option.map_none]
  clear hna
  obtain ⟨b,rfl,t1,t2,t3⟩:=hq
  go_wp2
  exact ⟨rfl,Z4j.none HN.out ⟨b,rfl,t1,t2,t3⟩⟩
 | some x =>
  obtain ⟨t,j⟩:=x
  rw [hna] at hq
  have HN:Hid (Z1v s i=Option.some (kOp,t,j)):=show Z1v s i=Option.some (kOp,t,j) by simp only [Z1v,hlt,dif_pos,hsm,hcp,Bool.or_self,Bool.false_eq_true,if_false,hdg,hq34,hna,Option.map_some]
  clear hna
  obtain ⟨rfl,hwt,hj⟩:=hq
  have h1:=h.went hwt hj
  have hb1:=hwt.below h.hp hB
  have hB1:B≤w1.heap.size:=Nat.le_trans hB hb1.size
  go_wp2_with fail
  refine (Z6j B p s j op n tk _ _ _ i h1 hB1 hn).mono ?_
  rintro ev w2 ⟨rfl,h2,hb2⟩
  go_wp2_with fail
  first | go_end0 | refine bodyPost_ret (results_none rfl _ _ _) rfl ?_
  exact Z4j.some HN.out h2 (hb1.trans hb2) hj

theorem Zhz (B p i:Nat) (s:ByteArray) (op:List Int) (n:Nat) (tk:List Value) (a0:Addr) (w:World) (h:RS B p s i op n tk w) (E:Env B a0 w) (hlt:i<s.size) (hn:n≤100000) :
  Calls prog 73 #[.pointer (some ⟨p,0,none⟩)] w fun ev w'=>Z4j B p s i op n tk a0 w ev w':=by
 cases hsm:Z32 (s[i].toNat:Int)
 ·cases hcp:Z1n (s[i].toNat:Int)
  ·cases hdg:Z1f (s[i].toNat:Int)
   ·cases hq:((s[i].toNat:Int) == 34)
    ·exact Zul B p i s op n tk a0 w h E hlt hn hsm hcp hdg hq
    ·exact Zpw B p i s op n tk a0 w h E hlt hn hsm hcp hdg hq
   ·exact Zrn B p i s op n tk a0 w h E hlt hn hsm hcp hdg
  ·exact Zfw B p i s op n tk a0 w h E hlt hn hsm hcp
 ·exact Zji B p i s op n tk a0 w h E hlt hn hsm

theorem Z9s (s:ByteArray):∀ n i acc l j,Z1e s n i acc=some (l,j)→i<j
 | 0,_,_,_,_,h=>by simp [Z1e] at h
 | n+1,i,acc,l,j,h=>by
  unfold Z1e at h
  split at h
  ·split at h
   ·simp at h;omega
   ·split at h
    ·cases h
    ·split at h
     ·cases h
     ·split at h
      ·cases he:Z6r s (i+1) with
       | none=>rw [he] at h;cases h
       | some x =>
        obtain ⟨v,k⟩:=x
        rw [he] at h
        have:=Zf1 s (i+1) k v he
        have:=Z9s s n k _ l j h
        omega
      ·have:=Z9s s n (i+1) _ l j h
       omega
  ·cases h
theorem Zhv (s:ByteArray) (i:Nat):∀ n k t j,k+n=21→Z4c s i n k=some (t,j)→i<j
 | 0,_,_,_,_,h=>by simp [Z4c] at h
 | n+1,k,t,j,hk,h=>by
  unfold Z4c at h
  split at h
  ·simp at h
   have:1≤(Zb0 k).size:=by
    have hk':k<21:=by omega
    clear hk h
    iterate 21 (rcases k with _ | k;· decide)
    omega
   omega
  ·exact Zhv s i n (k+1) t j (by omega) h
theorem Z7j {s:ByteArray}{i j:Nat}{k t:ByteArray} (h:Z1v s i=some (k,t,j)):i<j:=by
 unfold Z1v at h
 split at h
 ·rename_i hlt
  split at h
  ·cases hn:Z37 s i with
   | none=>rw [hn] at h;cases h
   | some x =>
    rw [hn] at h
    simp at h
    have hx:x.2.2=Z5e s i:=by
     unfold Z37 at hn
     rw [dif_pos hlt] at hn
     split at hn
     ·simp at hn;rw [←hn]
     ·split at hn
      ·cases hn
      ·split at hn
       ·cases hn
       ·simp at hn;rw [←hn]
    have:=(Z29 Z55 s (s.size - (i+1)) (i+1)).1
    unfold Z5e at hx
    omega
  ·split at h
   ·rename_i hdg
    cases hn:Z5w s i with
    | none=>rw [hn] at h;cases h
    | some x =>
     rw [hn] at h
     simp at h
     have hx:x.2=Z39 s i:=by
      unfold Z5w at hn
      rw [dif_pos hlt] at hn
      split at hn
      ·cases hn
      ·split at hn
       ·simp at hn;rw [←hn]
       ·cases hn
     have:i+1≤Z39 s i:=by
      unfold Z39
      rw [Z8k hlt hdg]
      exact (Z29 Z1f s _ (i+1)).1
     omega
   ·split at h
    ·cases hn:Z5u s i with
     | none=>rw [hn] at h;cases h
     | some x =>
      obtain ⟨l,j'⟩:=x
      rw [hn] at h
      simp at h
      have:=Z9s s _ _ _ _ _ hn
      omega
    ·cases hn:Zet s i with
     | none=>rw [hn] at h;cases h
     | some x =>
      obtain ⟨t',j'⟩:=x
      rw [hn] at h
      simp at h
      have:=Zhv s i 21 0 _ _ rfl hn
      omega
 ·cases h
end Go.Proofs.YtflcohidmemfpaaGreatDoor
namespace Go.Proofs.YtflcohidmemfpaaGreatDoor
open Go.Proofs.Tryz
open Go.RowKit

def Z3p:ByteArray:=⟨#[110,101,119,108,105,110,101]⟩
def Z9u:ByteArray:=⟨#[105,110,100,101,110,116]⟩

def Z0f (s:ByteArray) (i:Nat):Nat:=Z17 s (Z1d s i)

def Z15 (s:ByteArray):Nat→Nat→List Value→Nat→Except Nat (Nat × List Value × Nat)
 | 0,i,_,_=>.error i
 | f+1,i,tk,n =>
  if Z2d s (Z0f s i) then .ok (Z0f s i,tk,n)
  else match Z1v s (Z0f s i) with
   | some (k,t,j)=>Z15 s f j (tk++Z0o k t (Z0f s i)) (n+1)
   | none=>.error (Z0f s i)

theorem Z51 (s:ByteArray) (i:Nat) (h:i≤s.size):i≤Z0f s i∧Z0f s i≤s.size:=by
 have h1:=Z4p s i h
 have h2:=Zga s (Z1d s i) h1.2
 exact ⟨Nat.le_trans h1.1 h2.1,h2.2⟩

theorem Zge {s:ByteArray}{i:Nat} (h:¬ i<s.size):Z2d s i=true:=by simp [Z2d,h]

theorem Zhj {s:ByteArray}{i:Nat} (h:Z2d s (Z17 s i)=false):Z17 s i=i:=by
 unfold Z17 at h ⊢
 split
 ·rename_i hlt
  split
  ·rename_i h35
   rw [dif_pos hlt,if_pos h35] at h
   exfalso
   have key:∀ n k,s.size - k≤n→k≤s.size→Z2d s (Z16 Z87 s n k)=true:=by
    intro n
    induction n with
    | zero =>
     intro k hk hks
     have:k=s.size:=by omega
     subst this
     simp [Z16,Z2d]
    | succ n ih =>
     intro k hk hks
     unfold Z16
     split
     ·rename_i hkl
      split
      ·exact ih (k+1) (by omega) (by omega)
      ·rename_i hP
       simp [Z2d,hkl]
       simp [Z87] at hP
       exact hP
     ·rename_i hkl
      exact Zge hkl
   rw [key _ i (Nat.le_refl _) (by omega)] at h
   cases h
  ·rfl
 ·rfl

theorem Z9v (s:ByteArray):∀ n i acc l j,Z1e s n i acc=some (l,j)→j≤s.size
 | 0,_,_,_,_,h=>by simp [Z1e] at h
 | n+1,i,acc,l,j,h=>by
  unfold Z1e at h
  split at h
  ·split at h
   ·simp at h;omega
   ·split at h
    ·cases h
    ·split at h
     ·cases h
     ·split at h
      ·cases he:Z6r s (i+1) with
       | none=>rw [he] at h;cases h
       | some x =>
        obtain ⟨v,k⟩:=x
        rw [he] at h
        exact Z9v s n k _ l j h
      ·exact Z9v s n (i+1) _ l j h
  ·cases h
theorem Zhu (s:ByteArray) (i:Nat) (hi:i≤s.size):∀ n k t j,Z4c s i n k=some (t,j)→j≤s.size
 | 0,_,_,_,h=>by simp [Z4c] at h
 | n+1,k,t,j,h=>by
  unfold Z4c at h
  split at h
  ·rename_i hp
   have h1:=Zak hp
   have h2:(s.extract i s.size).size=s.size - i:=by simp
   simp at h
   omega
  ·exact Zhu s i hi n (k+1) t j h
theorem Zb1 {s:ByteArray}{i j:Nat}{k t:ByteArray} (h:Z1v s i=some (k,t,j)):j≤s.size:=by
 unfold Z1v at h
 split at h
 ·rename_i hlt
  split at h
  ·cases hn:Z37 s i with
   | none=>rw [hn] at h;cases h
   | some x =>
    rw [hn] at h
    simp at h
    have hx:x.2.2=Z5e s i:=by
     unfold Z37 at hn
     rw [dif_pos hlt] at hn
     split at hn
     ·simp at hn;rw [←hn]
     ·split at hn
      ·cases hn
      ·split at hn
       ·cases hn
       ·simp at hn;rw [←hn]
    have:=(Z29 Z55 s (s.size - (i+1)) (i+1)).2 (by omega)
    unfold Z5e at hx
    omega
  ·split at h
   ·cases hn:Z5w s i with
    | none=>rw [hn] at h;cases h
    | some x =>
     rw [hn] at h
     simp at h
     have hx:x.2=Z39 s i:=by
      unfold Z5w at hn
      rw [dif_pos hlt] at hn
      split at hn
      ·cases hn
      ·split at hn
       ·simp at hn;rw [←hn]
       ·cases hn
     have:Z39 s i≤s.size:=(Z29 Z1f s _ i).2 (by omega)
     omega
   ·split at h
    ·cases hn:Z5u s i with
     | none=>rw [hn] at h;cases h
     | some x =>
      obtain ⟨l,j'⟩:=x
      rw [hn] at h
      simp at h
      have:=Z9v s _ _ _ _ _ hn
      omega
    ·cases hn:Zet s i with
     | none=>rw [hn] at h;cases h
     | some x =>
      obtain ⟨t',j'⟩:=x
      rw [hn] at h
      simp at h
      have:=Zhu s i (by omega) 21 0 _ _ hn
      omega
 ·cases h

theorem Zlg {s:ByteArray}{i:Nat} (h:Z2d s i=false):i<s.size:=by
 by_cases hlt:i<s.size
 ·exact hlt
 ·rw [Zge hlt] at h;cases h

def Z11 (s:ByteArray) (i:Nat):Nat:=if i<s.size then i+1 else i

structure LexSt where
 at_:Nat
 st:List Int
 n:Nat
 tk:List Value

def Z1j (st:List Int) (ind:Int) (i n:Nat) (tk:List Value):Option (List Int × Nat × List Value):=
 match st with
 | []=>none
 | x::xs =>
  if x<ind then some (ind::x::xs,n+1,tk++Z0o Z9u ⟨#[]⟩ i)
  else if (Z2f ind (x::xs)).2.head?=some ind then some ((Z2f ind (x::xs)).2,n+(Z2f ind (x::xs)).1,tk++Z4z i (Z2f ind (x::xs)).1)
  else none

def Z0v (s:ByteArray) (σ:LexSt):Except Nat LexSt:=
 if Z2d s (Z0f s σ.at_) then .ok { σ with at_:=Z11 s (Z0f s σ.at_) }
 else match Z1j σ.st ((Z1d s σ.at_:Nat) - (σ.at_:Int)) (Z0f s σ.at_) σ.n σ.tk with
  | none=>.error (Z0f s σ.at_)
  | some (st',n',tk') =>
   match Z1v s (Z0f s σ.at_) with
   | none=>.error (Z0f s σ.at_)
   | some (k,t,j) =>
    match Z15 s (s.size+1 - j) j (tk'++Z0o k t (Z0f s σ.at_)) (n'+1) with
    | .error e=>.error e
    | .ok (e,tk2,n2)=>.ok ⟨Z11 s e,st',n2+1,tk2++Z0o Z3p ⟨#[]⟩ e⟩

theorem Z8e (s:ByteArray):∀ f g i tk n,i≤s.size→s.size+1 - i≤f→s.size+1 - i≤g→Z15 s f i tk n=Z15 s g i tk n
 | 0,_,i,_,_,h,hf,_=>by omega
 | _,0,i,_,_,h,_,hg=>by omega
 | f+1,g+1,i,tk,n,h,hf,hg=>by
  unfold Z15
  split
  ·rfl
  ·rename_i he
   cases ht:Z1v s (Z0f s i) with
   | none=>rfl
   | some x =>
    obtain ⟨k,t,j⟩:=x
    have h1:=Z7j ht
    have h2:=Z51 s i h
    exact Z8e s f g j _ _ (Zb1 ht) (by omega) (by omega)

theorem Z7x {s:ByteArray}{i j:Nat}{k t:ByteArray}{tk:List Value}{n:Nat} (hi:i≤s.size) (he:Z2d s (Z0f s i)=false) (ht:Z1v s (Z0f s i)=some (k,t,j)) :
  Z15 s (s.size+1 - i) i tk n=Z15 s (s.size+1 - j) j (tk++Z0o k t (Z0f s i)) (n+1):=by
 obtain ⟨f,hf⟩:∃ f,s.size+1 - i=f+1:=⟨s.size - i,by omega⟩
 have h1:=Z7j ht
 have h2:=Z51 s i hi
 rw [hf]
 have e:Z15 s (f+1) i tk n=Z15 s f j (tk++Z0o k t (Z0f s i)) (n+1):=by
  simp only [Z15,he,Bool.false_eq_true,if_false,ht]
 rw [e]
 exact Z8e s _ _ _ _ _ (Zb1 ht) (by omega) (Nat.le_refl _)
theorem Z98 {s:ByteArray}{i:Nat}{tk:List Value}{n:Nat} (hi:i≤s.size) (he:Z2d s (Z0f s i)=true):Z15 s (s.size+1 - i) i tk n = .ok (Z0f s i,tk,n):=by
 obtain ⟨f,hf⟩:∃ f,s.size+1 - i=f+1:=⟨s.size - i,by omega⟩
 rw [hf]
 simp only [Z15,he,if_true]
theorem Z6b {s:ByteArray}{i:Nat}{tk:List Value}{n:Nat} (hi:i≤s.size) (he:Z2d s (Z0f s i)=false) (ht:Z1v s (Z0f s i)=none):Z15 s (s.size+1 - i) i tk n = .error (Z0f s i):=by
 obtain ⟨f,hf⟩:∃ f,s.size+1 - i=f+1:=⟨s.size - i,by omega⟩
 rw [hf]
 simp only [Z15,he,Bool.false_eq_true,if_false,ht]

theorem Zxn {s:ByteArray}{i:Nat} (h:Z2d s (Z0f s i)=false):Z0f s i=Z1d s i:=Zhj h
end Go.Proofs.YtflcohidmemfpaaGreatDoor
namespace Go.Proofs.YtflcohidmemfpaaGreatDoor
open Go.Proofs.Tryz
open Go.RowKit

def Zgr (B p:Nat) (s:ByteArray) (i:Nat) (st:List Int) (ind:Int) (n:Nat) (tk:List Value) (a0:Addr) (w:World) (ev:Ending) (w':World):Prop:=
 match Z1j st ind i n tk with
 | some (st',n',tk')=>ev = .returned (.tuple #[])∧RS B p s i st'.reverse n' tk' w'∧Below B w w'
 | none=>Z3h B w i a0 ev w'

theorem Zel (B p:Nat) (s:ByteArray) (i:Nat) (st:List Int) (ind:Int) (n:Nat) (tk:List Value) (a0:Addr) (w:World) (h:RS B p s i st.reverse n tk w) (E:Env B a0 w) (hst:st.getLast?=some 0) (hl:st.length≤30000) (hn:n≤40000) (h0:0≤ind) :
  Calls prog 58 #[.pointer (some ⟨p,0,none⟩),.int .i64 ind] w fun ev w'=>Zgr B p s i st ind n tk a0 w ev w':=by
 cases st with
 | nil=>cases hst
 | cons x xs =>
  by_cases hx:x<ind
  ·rw [List.reverse_cons] at h
   refine (Zr5 B p s i xs.reverse x ind n tk w h (by simp at hl ⊢;omega) (by omega) hx).mono ?_
   rintro ev w' ⟨h1,h2,h3⟩
   unfold Zgr
   simp only [Z1j,hx,if_true]
   refine ⟨h1,?_,h3⟩
   simpa [List.reverse_cons,Z9u] using h2
  ·refine (Zm3 B p s i x xs ind n tk a0 w h (by simp at hl;omega) (by omega) hx h0 hst E.bg E.hg).mono ?_
   intro ev w' hq
   unfold Zd8 at hq
   unfold Zgr
   simp only [Z1j,hx,if_false]
   split at hq
   ·rename_i he
    rw [if_pos he]
    exact hq
   ·rename_i he
    rw [if_neg he]
    exact hq

theorem Zdp (ind:Int):∀ st:List Int,(Z2f ind st).2 ≠ []→st.getLast?=some 0→(Z2f ind st).2.getLast?=some 0
 | [],h,_=>by simp [Z2f] at h
 | x::xs,h,hl=>by
  unfold Z2f at h ⊢
  split
  ·rename_i hlt
   rw [if_pos hlt] at h
   simp only at h ⊢
   cases xs with
   | nil=>simp [Z2f] at h
   | cons y ys=>exact Zdp ind (y::ys) h (by simpa using hl)
  ·exact hl
theorem Zba (ind:Int):∀ st:List Int,(Z2f ind st).1+(Z2f ind st).2.length=st.length
 | []=>rfl
 | x::xs=>by
  unfold Z2f
  split
  ·have:=Zba ind xs
   simp only [List.length_cons]
   omega
  ·simp
theorem Z3x {st st':List Int}{ind:Int}{i n n':Nat}{tk tk':List Value} (h:Z1j st ind i n tk=some (st',n',tk')) (hl:st.getLast?=some 0):st'.getLast?=some 0∧n'+st'.length≤n+st.length+2:=by
 cases st with
 | nil=>cases hl
 | cons x xs =>
  unfold Z1j at h
  simp only at h
  split at h
  ·simp at h
   obtain ⟨rfl,rfl,rfl⟩:=h
   refine ⟨by simpa using hl,by simp;omega⟩
  ·split at h
   ·rename_i he
    simp at h
    obtain ⟨rfl,rfl,rfl⟩:=h
    refine ⟨Zdp ind _ (fun e=>by rw [e] at he;cases he) hl,?_⟩
    have:=Zba ind (x::xs)
    omega
   ·cases h

def Z76 (B p:Nat) (s:ByteArray) (σ:LexSt) (a0:Addr) (w:World) (ev:Ending) (w':World):Prop:=
 match Z0v s σ with
 | .ok σ'=>ev = .returned (.tuple #[])∧RS B p s σ'.at_ σ'.st.reverse σ'.n σ'.tk w'∧Below B w w'
 | .error e=>Z3h B w e a0 ev w'

theorem Z76.ok {B p:Nat}{s:ByteArray}{σ σ':LexSt}{a0:Addr}{w w':World} (h:Z0v s σ = .ok σ') (h1:RS B p s σ'.at_ σ'.st.reverse σ'.n σ'.tk w') (h2:Below B w w'):Z76 B p s σ a0 w (.returned (.tuple #[])) w':=by
 unfold Z76
 rw [h]
 exact ⟨rfl,h1,h2⟩
theorem Z76.err {B p:Nat}{s:ByteArray}{σ:LexSt}{e:Nat}{a0:Addr}{w w':World}{ev:Ending} (h:Z0v s σ = .error e) (h1:Z3h B w e a0 ev w'):Z76 B p s σ a0 w ev w':=by
 unfold Z76
 rw [h]
 exact h1
theorem Z5h {s:ByteArray}{σ:LexSt} (h:Z2d s (Z0f s σ.at_)=true):Z0v s σ = .ok { σ with at_:=Z11 s (Z0f s σ.at_) }:=by
 simp only [Z0v,h,if_true]

structure Inv (s:ByteArray) (σ:LexSt):Prop where
 hat:σ.at_≤s.size
 last:σ.st.getLast?=some 0
 cnt:σ.n+σ.st.length≤4*σ.at_+1

set_option maxHeartbeats 1000000 in
theorem Zm7 (B p:Nat) (s:ByteArray) (σ:LexSt) (a0:Addr) (w:World) (h:RS B p s σ.at_ σ.st.reverse σ.n σ.tk w) (he:Z2d s (Z0f s σ.at_)=true) :
  Calls prog 57 #[.pointer (some ⟨p,0,none⟩)] w fun ev w'=>Z76 B p s σ a0 w ev w':=by
 have hb:=Z4p s σ.at_ h.hA.hat
 have hsk:=Z51 s σ.at_ h.hA.hat
 have HE:Hid (Z2d s (Z0f s σ.at_)=true):=he
 clear he
 have hB:B≤w.heap.size:=by have:=h.hp;have:=h.hpl;omega
 go_enter func57,ntmps57
 go_wp2_with fail
 refine (Z44 p s σ.at_ w h.hA).mono ?_
 rintro ev w1 ⟨rfl,hm1⟩
 have h1:=h.went hm1.went hb.2
 go_wp2_with fail
 refine (Z6w p s _ w1 h1.hA).mono ?_
 rintro ev w2 ⟨rfl,hm2⟩
 rw [show Z2d s (Z17 s (Z1d s σ.at_))=true from HE.out]
 have h2:=h1.went hm2.went hsk.2
 have hm:=hm1.trans hm2
 have hsz:=h2.hA.hs
 generalize hsx:Z17 s (Z1d s σ.at_)=e at hm2 hm h2
 have HSX:Hid (Z0f s σ.at_=e):=hsx
 clear hsx hm1 hm2 h1
 have hle:e≤s.size:=by have:=HSX.out;omega
 obtain ⟨hs,_,c0,c1,f1⟩:=h2.hA
 by_cases hlt:e<s.size
 ·have hI:(e:Int)<(s.size:Int):=by omega
  go_wp2_with fail
  go_quiet (fail)
  go_wp2_with fail
  go_end0
  have hm3:=(hm.drewN nq).trans (Moved.set (hm.drewN nq).at_ (e+1))
  have ea:Z11 s (Z0f s σ.at_)=e+1:=by rw [HSX.out];simp [Z11,hlt]
  refine Z76.ok (Z5h HE.out) ?_ (hm3.below h.hp)
  rw [ea]
  exact h.went hm3.went (show e+1≤s.size by omega)
 ·have hd:decide ((e:Int)<(s.size:Int))=false:=by simp;omega
  go_wp2_with fail
  go_quiet (fail)
  go_wp2_with fail
  go_end0
  have ea:Z11 s (Z0f s σ.at_)=e:=by rw [HSX.out];simp [Z11,hlt]
  refine Z76.ok (Z5h HE.out) ?_ ((hm.drewN _).below h.hp)
  rw [ea]
  exact h.went (hm.drewN _).went hle
end Go.Proofs.YtflcohidmemfpaaGreatDoor
namespace Go.Proofs.YtflcohidmemfpaaGreatDoor
open Go.Proofs.Tryz
open Go.RowKit

theorem Z75 {s:ByteArray}{σ:LexSt} (h:Z2d s (Z0f s σ.at_)=false) (h1:Z1j σ.st ((Z1d s σ.at_:Nat) - (σ.at_:Int)) (Z0f s σ.at_) σ.n σ.tk=none):Z0v s σ = .error (Z0f s σ.at_):=by
 simp only [Z0v,h,Bool.false_eq_true,if_false,h1]
theorem Zae {s:ByteArray}{σ:LexSt}{x:List Int × Nat × List Value} (h:Z2d s (Z0f s σ.at_)=false) (h1:Z1j σ.st ((Z1d s σ.at_:Nat) - (σ.at_:Int)) (Z0f s σ.at_) σ.n σ.tk=some x) (h2:Z1v s (Z0f s σ.at_)=none):Z0v s σ = .error (Z0f s σ.at_):=by
 simp only [Z0v,h,Bool.false_eq_true,if_false,h1,h2]
theorem Z8r {s:ByteArray}{σ:LexSt}{st':List Int}{n':Nat}{tk':List Value}{k t:ByteArray}{j e:Nat} (h:Z2d s (Z0f s σ.at_)=false) (h1:Z1j σ.st ((Z1d s σ.at_:Nat) - (σ.at_:Int)) (Z0f s σ.at_) σ.n σ.tk=some (st',n',tk')) (h2:Z1v s (Z0f s σ.at_)=some (k,t,j)) (h3:Z15 s (s.size+1 - j) j (tk'++Z0o k t (Z0f s σ.at_)) (n'+1) = .error e):Z0v s σ = .error e:=by
 simp only [Z0v,h,Bool.false_eq_true,if_false,h1,h2,h3]
theorem Zbh {s:ByteArray}{σ:LexSt}{st':List Int}{n':Nat}{tk':List Value}{k t:ByteArray}{j e:Nat}{tk2:List Value}{n2:Nat} (h:Z2d s (Z0f s σ.at_)=false) (h1:Z1j σ.st ((Z1d s σ.at_:Nat) - (σ.at_:Int)) (Z0f s σ.at_) σ.n σ.tk=some (st',n',tk')) (h2:Z1v s (Z0f s σ.at_)=some (k,t,j)) (h3:Z15 s (s.size+1 - j) j (tk'++Z0o k t (Z0f s σ.at_)) (n'+1) = .ok (e,tk2,n2)):Z0v s σ = .ok ⟨Z11 s e,st',n2+1,tk2++Z0o Z3p ⟨#[]⟩ e⟩:=by
 simp only [Z0v,h,Bool.false_eq_true,if_false,h1,h2,h3]

set_option maxHeartbeats 2000000 in
theorem Zp9 (B p:Nat) (s:ByteArray) (σ:LexSt) (a0:Addr) (w:World) (h:RS B p s σ.at_ σ.st.reverse σ.n σ.tk w) (E:Env B a0 w) (I:Inv s σ) (he:Z2d s (Z0f s σ.at_)=false) :
  Calls prog 57 #[.pointer (some ⟨p,0,none⟩)] w fun ev w'=>Z76 B p s σ a0 w ev w':=by
 have hs:=h.hA.hs
 have hb:=Z4p s σ.at_ h.hA.hat
 have hsk:=Z51 s σ.at_ h.hA.hat
 have hlt:Z0f s σ.at_<s.size:=Zlg he
 have hse:Z0f s σ.at_=Z1d s σ.at_:=Zxn he
 have HE:Hid (Z2d s (Z0f s σ.at_)=false):=he
 have HSE:Hid (Z0f s σ.at_=Z1d s σ.at_):=hse
 have hcnt:=I.cnt
 have hIa:=I.hat
 clear he hse
 have hB:B≤w.heap.size:=by have:=h.hp;have:=h.hpl;omega
 go_enter func57,ntmps57
 go_wp2_with fail
 refine (Z44 p s σ.at_ w h.hA).mono ?_
 rintro ev w1 ⟨rfl,hm1⟩
 have h1:=h.went hm1.went hb.2
 go_wp2_with fail
 refine (Z6w p s _ w1 h1.hA).mono ?_
 rintro ev w2 ⟨rfl,hm2⟩
 rw [show Z2d s (Z17 s (Z1d s σ.at_))=false from HE.out]
 have h2:RS B p s (Z0f s σ.at_) σ.st.reverse σ.n σ.tk w2:=h1.went hm2.went hsk.2
 have hm:Moved p w w2 (Z0f s σ.at_):=hm1.trans hm2
 have hb2:Below B w w2:=hm.below h.hp
 have E2:=E.below hb2
 clear hm1 hm2 h1 hm
 go_wp2_with fail
 refine (Zel B p s (Z0f s σ.at_) σ.st _ σ.n σ.tk a0 w2 h2 E2 I.last (by omega) (by omega) (by omega)).mono ?_
 intro ev w3 hq
 unfold Zgr at hq
 cases hst:Z1j σ.st ((Z1d s σ.at_:Nat) - (σ.at_:Int)) (Z0f s σ.at_) σ.n σ.tk with
 | none =>
  rw [hst] at hq
  have HL:Hid (Z0v s σ = .error (Z0f s σ.at_)):=Z75 HE.out hst
  clear hst
  obtain ⟨b,rfl,t1,t2,t3⟩:=hq
  go_wp2
  exact ⟨rfl,Z76.err HL.out ⟨b,rfl,hb2.trans t1,t2,t3⟩⟩
 | some x =>
  obtain ⟨st',n',tk'⟩:=x
  rw [hst] at hq
  obtain ⟨rfl,h3,hb3⟩:=hq
  have hinv:=Z3x hst I.last
  have hb3w:=hb2.trans hb3
  have E3:=E.below hb3w
  have HST:Hid (Z1j σ.st ((Z1d s σ.at_:Nat) - (σ.at_:Int)) (Z0f s σ.at_) σ.n σ.tk=some (st',n',tk')):=hst
  clear hst
  go_wp2_with fail
  refine (Zhz B p (Z0f s σ.at_) s st'.reverse n' tk' a0 w3 h3 E3 hlt (by omega)).mono ?_
  intro ev w4 hq
  unfold Z4j at hq
  cases htk:Z1v s (Z0f s σ.at_) with
  | none =>
   rw [htk] at hq
   have HL:Hid (Z0v s σ = .error (Z0f s σ.at_)):=Zae HE.out HST.out htk
   clear htk
   obtain ⟨b,rfl,t1,t2,t3⟩:=hq
   go_wp2
   exact ⟨rfl,Z76.err HL.out ⟨b,rfl,hb3w.trans t1,t2,t3⟩⟩
  | some y =>
   obtain ⟨k,t,j⟩:=y
   rw [htk] at hq
   obtain ⟨rfl,h4,hb4,hj⟩:=hq
   have hjlt:=Z7j htk
   have hb4w:=hb3w.trans hb4
   have E4:=E.below hb4w
   have HTK:Hid (Z1v s (Z0f s σ.at_)=some (k,t,j)):=htk
   clear htk h2 h3 hb2 hb3 hb4 E2 E3 hb3w
   have hbj:=Z4p s j hj
   go_wp2_with fail
   refine (Z44 p s j w4 h4.hA).mono ?_
   rintro ev w5 ⟨rfl,hm5⟩
   have h5:=h4.went hm5.went hbj.2
   have hb5w:=hb4w.trans (hm5.below h.hp)
   clear h4 hm5 hb4w E4
   go_wp2_with fail
   go_loopg [] (s.size - j) (fun gk wr => ∃ (i:Nat) (tk1:List Value) (n1:Nat),gk=s.size - i∧j≤i∧i≤s.size∧n1+j≤n'+1+i∧Z15 s (s.size+1 - i) i tk1 n1=Z15 s (s.size+1 - j) j (tk'++Z0o k t (Z0f s σ.at_)) (n'+1)∧RS B p s (Z1d s i) st'.reverse n1 tk1 wr∧Below B w wr)
   case atStart=>exact ⟨j,_,_,rfl,Nat.le_refl _,hj,by omega,rfl,h5,hb5w⟩
   case round =>
    obtain ⟨i,tk1,n1,hgk,hji,his,hn1,hrs,hr,hbr⟩:=hrel
    have HG:Hid (gk=s.size - i):=hgk
    have HR:Hid (Z15 s (s.size+1 - i) i tk1 n1=Z15 s (s.size+1 - j) j (tk'++Z0o k t (Z0f s σ.at_)) (n'+1)):=hrs
    clear hgk hrs h5 hb5w
    have hski:=Z51 s i his
    have hatr:=hr.hA.hat
    go_wp2_with fail
    refine (Z6w p s _ wr hr.hA).mono ?_
    rintro ev w6 ⟨rfl,hm6⟩
    have h6:RS B p s (Z0f s i) st'.reverse n1 tk1 w6:=hr.went hm6.went hski.2
    have hb6:Below B w w6:=hbr.trans (hm6.below h.hp)
    have hB6:B≤w6.heap.size:=Nat.le_trans hB hb6.size
    have E6:=E.below hb6
    clear hr hbr hm6
    cases hen:Z2d s (Z0f s i)
    ·rw [show Z2d s (Z17 s (Z1d s i))=false from hen]
     have hlt6:=Zlg hen
     have HEN:Hid (Z2d s (Z0f s i)=false):=hen
     clear hen
     go_wp2_with fail
     refine (Zhz B p (Z0f s i) s st'.reverse n1 tk1 a0 w6 h6 E6 hlt6 (by omega)).mono ?_
     intro ev w7 hq
     unfold Z4j at hq
     cases htk:Z1v s (Z0f s i) with
     | none =>
      rw [htk] at hq
      have HL:Hid (Z0v s σ = .error (Z0f s i)):=Z8r HE.out HST.out HTK.out (HR.out.symm.trans (Z6b his HEN.out htk))
      clear htk
      obtain ⟨b,rfl,t1,t2,t3⟩:=hq
      go_wp2
      exact ⟨rfl,Z76.err HL.out ⟨b,rfl,hb6.trans t1,t2,t3⟩⟩
     | some z =>
      obtain ⟨k2,t2,j2⟩:=z
      rw [htk] at hq
      obtain ⟨rfl,h7,hb7,hj2⟩:=hq
      have hj2lt:=Z7j htk
      have hgo:=Z7x (tk:=tk1) (n:=n1) his HEN.out htk
      have HGO:Hid (Z15 s (s.size+1 - i) i tk1 n1=Z15 s (s.size+1 - j2) j2 (tk1++Z0o k2 t2 (Z0f s i)) (n1+1)):=hgo
      clear htk hgo
      have hb7w:=hb6.trans hb7
      have hbj2:=Z4p s j2 hj2
      go_wp2_with fail
      refine (Z44 p s j2 w7 h7.hA).mono ?_
      rintro ev w8 ⟨rfl,hm8⟩
      have h8:=h7.went hm8.went hbj2.2
      have hb8:=hb7w.trans (hm8.below h.hp)
      clear h7 hm8 hb7 hb7w h6 E6 hb6
      go_wp2_with fail
      go_roundg (s.size - j2)
      case measure=>have:=HG.out;omega
      case rel=>exact ⟨j2,_,_,rfl,by omega,hj2,by omega,HGO.out.symm.trans HR.out,h8,hb8⟩
    ·rw [show Z2d s (Z17 s (Z1d s i))=true from hen]
     have HL:Hid (Z0v s σ = .ok ⟨Z11 s (Z0f s i),st',n1+1,tk1++Z0o Z3p ⟨#[]⟩ (Z0f s i)⟩):=Zbh HE.out HST.out HTK.out (HR.out.symm.trans (Z98 his hen))
     clear hen
     have hatc:=h6.hA.c1
     go_wp2_with fail
     refine (Z6j B p s (Z0f s i) st'.reverse n1 tk1 w6 _ _ (Z0f s i) h6 hB6 (by omega)).mono ?_
     rintro ev w7 ⟨rfl,h7,hb7⟩
     have hb7w:=hb6.trans hb7
     clear hatc h6 hb7
     generalize hse:Z0f s i=e at h7 hski HL ⊢
     obtain ⟨_,_,c0,c1,f1⟩:=h7.hA
     clear hse
     by_cases hle:e<s.size
     ·have hI:(e:Int)<(s.size:Int):=by omega
      go_wp2_with fail
      go_quiet (fail)
      go_wp2_with fail
      go_end0
      have hm8:=((Moved.refl c1).drewN nq).trans (Moved.set ((Moved.refl c1).drewN nq).at_ (e+1))
      refine Z76.ok HL.out ?_ (hb7w.trans (hm8.below h.hp))
      have ea:Z11 s e=e+1:=by simp [Z11,hle]
      rw [ea]
      exact h7.went hm8.went (show e+1≤s.size by omega)
     ·have hd:decide ((e:Int)<(s.size:Int))=false:=by simp;omega
      go_wp2_with fail
      go_quiet (fail)
      go_wp2_with fail
      go_end0
      have hm8:=(Moved.refl c1).drewN nq
      refine Z76.ok HL.out ?_ (hb7w.trans (hm8.below h.hp))
      have ea:Z11 s e=e:=by simp [Z11,hle]
      rw [ea]
      exact h7.went hm8.went hski.2
end Go.Proofs.YtflcohidmemfpaaGreatDoor
