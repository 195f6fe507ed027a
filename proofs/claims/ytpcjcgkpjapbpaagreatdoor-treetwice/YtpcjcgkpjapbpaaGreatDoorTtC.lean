/- Package lex: digits, by its contract. -/
import Derived.Test.YtpcjcgkpjapbpaaGreatDoorTtB
import Derived.Test.YtpcjcgkpjapbpaaGreatDoorShelf
set_option linter.all false
namespace Go.Proofs.YtpcjcgkpjapbpaaGreatDoor
open Go.RowKit

theorem passTo_all (P:Int→Bool) (s:ByteArray):∀ n i k,i≤k→k<passTo P s n i → ∃ h:k<s.size,P (s[k].toNat:Int)=true
 | 0,i,k,h1,h2=>by simp [passTo] at h2;omega
 | n+1,i,k,h1,h2=>by
  unfold passTo at h2
  split at h2
  ·rename_i h
   split at h2
   ·rename_i hP
    by_cases e:k=i
    ·subst e;exact ⟨h,hP⟩
    ·exact passTo_all P s n (i+1) k (by omega) h2
   ·omega
  ·omega

theorem parseUintM_digits (M:Nat):∀ (l:List UInt8) (acc:Nat),(∀ c∈l,48≤c.toNat∧c.toNat≤57)→(∃ u,Lib.parseUintM M acc l = .ok u)∨Lib.parseUintM M acc l = .range
 | [],acc,_=>.inl ⟨acc,rfl⟩
 | c::r,acc,h=>by
  have hc:=h c (by simp)
  simp only [Lib.parseUintM,hc,and_self,if_true]
  split
  ·exact .inr rfl
  ·split
   ·exact .inr rfl
   ·exact parseUintM_digits M r _ (fun x hx=>h x (by simp [hx]))

theorem parseIntB_digits (l:List UInt8) (hl:l ≠ []) (h:∀ c∈l,48≤c.toNat∧c.toNat≤57):(∃ v,Lib.parseIntB 64 l = .ok v)∨Lib.parseIntB 64 l = .range:=by
 cases l with
 | nil=>exact absurd rfl hl
 | cons c r =>
  have hc:=h c (by simp)
  have e1:¬ c.toNat=43:=by omega
  have e2:¬ c.toNat=45:=by omega
  simp only [Lib.parseIntB,e1,e2,or_self,not_false_eq_true,true_and,false_and,if_false]
  have hp:=parseUintM_digits (2 ^ 64 - 1) (c::r) 0 h
  unfold Lib.parseUintB
  rw [if_neg hl]
  rcases hp with ⟨u,hu⟩ | hu
  ·rw [hu]
   simp only
   split
   ·exact .inr rfl
   ·exact .inl ⟨_,rfl⟩
  ·rw [hu]
   exact .inr rfl

def digitsTo (s:ByteArray) (i:Nat):Nat:=passTo digitB s (s.size - i) i
def intAt (s:ByteArray) (i:Nat):Option (ByteArray × Nat):=
 if h:i<s.size then
  if (s[i].toNat:Int) == 48 && decide (1<digitsTo s i - i) then none
  else match Lib.parseIntB 64 (s.extract i (digitsTo s i)).data.toList with
   | .ok _=>some (s.extract i (digitsTo s i),digitsTo s i)
   | _=>none
 else none

def DPost (B p:Nat) (s:ByteArray) (i:Nat) (a0:Addr) (w:World) (ev:Ending) (w':World):Prop:=
 match intAt s i with
 | some (t,j)=>ev = .returned (.string t)∧Went p w w' j∧j≤s.size
 | none=>Thrown B w i a0 ev w'
theorem DPost.some {B p:Nat}{s:ByteArray}{i j:Nat}{a0:Addr}{w w':World}{t:ByteArray} (h:intAt s i=some (t,j)) (h1:Went p w w' j) (h2:j≤s.size):DPost B p s i a0 w (.returned (.string t)) w':=by
 unfold DPost
 rw [h]
 exact ⟨rfl,h1,h2⟩
theorem DPost.none {B p:Nat}{s:ByteArray}{i:Nat}{a0:Addr}{w w':World}{ev:Ending} (h:intAt s i=Option.none) (h1:Thrown B w i a0 ev w'):DPost B p s i a0 w ev w':=by
 unfold DPost
 rw [h]
 exact h1

theorem rangeNamed : Tryz.prog.globalNamed "strconv.ErrRange" = some 6 := by kernel_rfl
theorem belowN {B:Nat}{a w:World} (h:Below B a w) (q:Nat):Below B a (w.drewN q):=below_drewN h q
theorem below_bytes (w:World) (t:ByteArray):Below w.heap.size w (Lib.bytesWorld w 5 t):=
 ⟨rfl,rfl,rfl,by rw [Lib.bytesWorld_size];omega,fun k hk=>Lib.bytesWorld_at_old w 5 t k hk⟩

theorem extract_all {s:ByteArray}{i j:Nat}{p:UInt8→Prop} (hj:j≤s.size) (h:∀ k (_:i≤k) (_:k<j) (hk:k<s.size),p s[k]):∀ c∈(s.extract i j).data.toList,p c:=by
 intro c hc
 obtain ⟨n,hn,rfl⟩:=List.mem_iff_getElem.1 hc
 have hz:n<j - i:=by simp at hn;omega
 have e:(s.extract i j).data.toList[n]=s[i+n]:=by
  simp
  rfl
 rw [e]
 exact h (i+n) (by omega) (by omega) (by omega)

set_option maxHeartbeats 1000000 in
theorem digits_walk (B p i : Nat) (s : ByteArray) (a0 : Addr) (w : World) (h : At p s i w) (hlt : i < s.size) (hd : digitB (s[i].toNat : Int) = true) (hp : p < w.heap.size) (hBp : B ≤ p) (hgB : 2 < B) (hg : w.cell? ⟨2, 0, none⟩ = some (.iface 163 (.pointer (some a0)))) (tp : TypeId) (vp : Value) (hvB : 6 < B) (hv : w.var? Tryz.prog "strconv.ErrRange" = some #[.iface tp vp]) :
  Calls Tryz.prog 67 #[.pointer (some ⟨p,0,none⟩)] w fun ev w'=>DPost B p s i a0 w ev w':=by
 have hA:=h
 obtain ⟨hs,hat,c0,c1,f1⟩:=h
 have hle:=passTo_le digitB s (s.size - i) i
 have hI:(i:Int)<(s.size:Int):=by omega
 have hj0:i+1≤passTo digitB s (s.size - i) i:=by
  rw [passTo_go hlt hd];exact (passTo_le digitB s _ (i+1)).1
 have hall:∀ c∈(s.extract i (passTo digitB s (s.size - i) i)).data.toList,48≤c.toNat∧c.toNat≤57:=
  extract_all (p:=fun c=>48≤c.toNat∧c.toNat≤57) (hle.2 (by omega)) (fun k h1 h2 hk=>by
   obtain ⟨_,hd⟩:=passTo_all digitB s _ i k h1 h2
   simp [digitB] at hd
   omega)
 go_enter Tryz.func67,Tryz.ntmps67
 go_wp2_with fail
 refine (pass_any 66 digitB enterDigit digit_any p s i _ hs hat c0 c1 f1).mono ?_
 rintro ev w1 ⟨rfl,hwent⟩
 have hj2:passTo digitB s (s.size - i) i≤s.size:=hle.2 (by omega)
 have hjj:digitsTo s i=passTo digitB s (s.size - i) i:=rfl
 generalize passTo digitB s (s.size - i) i=j at hj0 hj2 hwent hjj hall ⊢
 have HJ:Hid (digitsTo s i=j):=hjj
 have hA2:=hA.moved hwent hj2
 have d0:=hA2.c0
 have d1:=hA2.c1
 have hgg:w1.cell? ⟨2,0,none⟩=some (.iface 163 (.pointer (some a0))):=(World.cell?_of_block (w:=w) (hwent.far 2 (by omega))).trans hg
 have hJ1:(i:Int)≤(j:Int):=by omega
 have hJ2:(j:Int)≤(s.size:Int):=by omega
 have hesz:(s.extract i j).size=j - i:=by simp [ByteArray.size_extract];omega
 have hP:(0:Int)<((s.extract i j).size:Int):=by omega
 have hpos:0<(s.extract i j).size:=by omega
 have hfirst:(s.extract i j)[0]=s[i]:=by simp [ByteArray.getElem_extract]
 have HFI:Hid ((s.extract i j)[0]=s[i]):=hfirst
 clear hfirst hjj hle c0 c1 f1 hA2 hA
 go_wp2_with fail
 go_quiet (fail)
 by_cases hz:(s[i].toNat:Int) == 48∧1<j - i
 ·have HN:Hid (intAt s i=none):=show intAt s i=none by simp [intAt,hlt,HJ.out,hz]
  have h48:(((s.extract i j)[0].toNat:Int) == 48)=true:=by rw [HFI.out];exact hz.1
  have h1:(1:Int)<((s.extract i j).size:Int):=by omega
  go_wp2_with fail
  refine (none_any _ a0 _ (by exact hgg)).mono ?_
  rintro ev w3 ⟨rfl,rfl⟩
  go_wp2
  exact ⟨rfl,DPost.none HN.out ⟨_,rfl,below_drewN' ((hwent.below hBp).alloc (by rw [hwent.size];omega) _),cell_new rfl rfl,cell_new rfl rfl⟩⟩
 have hnz:((s[i].toNat:Int) == 48 && decide (1<j - i))=false:=by
  simp only [Bool.and_eq_false_iff,decide_eq_false_iff_not]
  by_cases e:((s[i].toNat:Int) == 48)=true
  ·exact .inr (fun h=>hz ⟨e,h⟩)
  ·exact .inl (Bool.eq_false_iff.2 e)
 have hne:(s.extract i j).data.toList ≠ []:=by
  intro e
  have:=congrArg List.length e
  simp at this
  omega
 have hpick:(((s.extract i j)[0].toNat:Int) == 48)=false∨((((s.extract i j)[0].toNat:Int) == 48)=true ∧ ¬ (1:Int)<((s.extract i j).size:Int)):=by
  rw [HFI.out]
  by_cases e:((s[i].toNat:Int) == 48)=true
  ·exact .inr ⟨e,fun h=>hz ⟨e,by omega⟩⟩
  ·exact .inl (Bool.eq_false_iff.2 e)
 rcases parseIntB_digits _ hne hall with ⟨v,hok⟩ | hrg
 ·have HN:Hid (intAt s i=some (s.extract i j,j)):=show intAt s i=some (s.extract i j,j) by simp only [intAt,hlt,dif_pos,HJ.out,hnz,Bool.false_eq_true,if_false,hok]
  have HOK:Hid (Lib.parseIntB 64 (s.extract i j).data.toList = .ok v):=hok
  clear hok hne hall hnz hz
  rcases hpick with h48 | ⟨h48,h1⟩
  all_goals
   go_wp2_with fail
   refine (parse_ok _ (by omega) v HOK.out _).mono ?_
   rintro ev w2 ⟨rfl,hw2⟩
   have hb2:Below (w1.drewN nq).heap.size (w1.drewN nq) w2:=by
    rcases hw2 with rfl | ⟨t,rfl⟩
    ·exact Below.refl _ _
    ·exact below_bytes _ _
   clear hw2
   have hfin:Went p w w2 j:=(hwent.drewN nq).went.trans (Went.ofBelow hb2 (by show p<w1.heap.size;rw [hwent.size];exact hp) (hwent.drewN nq).at_)
   go_wp2_with fail
   go_ret
   exact DPost.some HN.out hfin hj2
 ·have HN:Hid (intAt s i=none):=show intAt s i=none by simp only [intAt,hlt,dif_pos,HJ.out,hnz,Bool.false_eq_true,if_false,hrg]
  have HOK:Hid (Lib.parseIntB 64 (s.extract i j).data.toList = .range):=hrg
  have hvr : (w1.drewN nq).var? Tryz.prog "strconv.ErrRange" = some #[.iface tp vp] := var?_below ((belowN (Below.refl B w1) nq)) rangeNamed hvB (var?_below (hwent.below hBp) rangeNamed hvB hv)
  clear hrg hne hall hnz hz
  rcases hpick with h48 | ⟨h48,h1⟩
  all_goals
   go_wp2_with fail
   refine (parse_range _ (by omega) HOK.out tp vp _ hvr).mono ?_
   rintro ev w2 ⟨N,rfl,_,_,hb2⟩
   have hb3:Below B w w2:=(hwent.below hBp).trans ((belowN (Below.refl B w1) nq).trans (hb2.mono (by show B≤w1.heap.size;rw [hwent.size];omega)))
   have hg2:w2.cell? ⟨2,0,none⟩=some (.iface 163 (.pointer (some a0))):=(hb3.cell (p:=⟨2,0,none⟩) hgB).trans hg
   go_wp2_with fail
   refine (none_any _ a0 _ hg2).mono ?_
   rintro ev w3 ⟨rfl,rfl⟩
   go_wp2
   exact ⟨rfl,DPost.none HN.out ⟨_,rfl,hb3.alloc (by have:=hb3.size;omega) _,cell_new rfl rfl,cell_new rfl rfl⟩⟩
end Go.Proofs.YtpcjcgkpjapbpaaGreatDoor
namespace Go.Proofs.YtpcjcgkpjapbpaaGreatDoor
open Go.RowKit

structure Env (B:Nat) (a0:Addr) (w:World):Prop where
 hg:w.cell? ⟨2,0,none⟩=some (.iface 163 (.pointer (some a0)))
 words:∃ tt fr,w.heap[4]?=some (.cells wordCells tt fr)
 ops:∃ tt fr,w.heap[3]?=some (.cells opCells tt fr)
 range : ∃ tp vp, w.var? Tryz.prog "strconv.ErrRange" = some #[.iface tp vp]
 bg:2<B
 bw:4<B
 bo:3<B
 br:6<B

theorem Env.below {B:Nat}{a0:Addr}{w w':World} (h:Env B a0 w) (hb:Below B w w'):Env B a0 w' where
 hg:=(hb.cell (p:=⟨2,0,none⟩) h.bg).trans h.hg
 words:=by obtain ⟨tt,fr,e⟩:=h.words;exact ⟨tt,fr,(hb.block _ h.bw).trans e⟩
 ops:=by obtain ⟨tt,fr,e⟩:=h.ops;exact ⟨tt,fr,(hb.block _ h.bo).trans e⟩
 range:=by obtain ⟨tp,vp,e⟩:=h.range;exact ⟨tp,vp,var?_below hb rangeNamed h.br e⟩
 bg:=h.bg
 bw:=h.bw
 bo:=h.bo
 br:=h.br

theorem RS.went {B p:Nat}{s:ByteArray}{i j:Nat}{op:List Int}{n:Nat}{tk:List Value}{w w':World} (h:RS B p s i op n tk w) (hm:Went p w w' j) (hj:j≤s.size):RS B p s j op n tk w':=by
 obtain ⟨hA,hp,hpl,⟨g,cap,vt,c2,c3,o2,o3,ngp,ntp,ntg⟩,f2,f3⟩:=h
 have own_lt:∀ {e size m:Nat}{v:Value}{xs:List Value},w.ownsRow B e size v m xs → ∀ k,v.ownBlock=some k→k<w.heap.size:=by
  intro e size m v xs ho k hk
  rcases ho.2 with ⟨rfl,_⟩ | ⟨g',cap',cur,rfl,_,hg',_⟩
  ·simp [Value.ownBlock] at hk
  ·simp [Value.ownBlock] at hk;subst hk;exact lt_of_heap hg'
 refine ⟨hA.went hm hj,hp,Nat.lt_of_lt_of_le hpl hm.size,⟨g,cap,vt,(hm.near 2 (by decide)).trans c2,(hm.near 3 (by decide)).trans c3,?_,?_,ngp,ntp,ntg⟩,(hm.fz 2).trans f2,(hm.fz 3).trans f3⟩
 ·exact ownsRow_far' o2 (fun k hk=>hm.far k (own_lt o2 k hk) (fun e=>by simp [Value.ownBlock] at hk;omega))
 ·exact ownsRow_far' o3 (fun k hk=>hm.far k (own_lt o3 k hk) (fun e=>ntp (by rw [hk,e])))

def kName:ByteArray:=⟨#[110,97,109,101]⟩
def kWord:ByteArray:=⟨#[119,111,114,100]⟩
def kInt:ByteArray:=⟨#[105,110,116]⟩
def kStr:ByteArray:=⟨#[115,116,114]⟩
def kOp:ByteArray:=⟨#[111,112]⟩

def tokAt (s:ByteArray) (i:Nat):Option (ByteArray × ByteArray × Nat):=
 if h:i<s.size then
  if smallB (s[i].toNat:Int) || capitalB (s[i].toNat:Int) then (nameAt s i).map fun x=>(if x.1 then kWord else kName,x.2.1,x.2.2)
  else if digitB (s[i].toNat:Int) then (intAt s i).map fun x=>(kInt,x.1,x.2)
  else if (s[i].toNat:Int) == 34 then (strAt s i).map fun x=>(kStr,strOfNums x.1,x.2)
  else (opTok s i).map fun x=>(kOp,x.1,x.2)
 else none

def TPost (B p:Nat) (s:ByteArray) (i:Nat) (op:List Int) (n:Nat) (tk:List Value) (a0:Addr) (w:World) (ev:Ending) (w':World):Prop:=
 match tokAt s i with
 | some (k,t,j)=>ev = .returned (.tuple #[])∧RS B p s j op (n+1) (tk++tokCells k t i) w'∧Below B w w'∧j≤s.size
 | none=>Thrown B w i a0 ev w'
theorem TPost.some {B p:Nat}{s:ByteArray}{i j:Nat}{op:List Int}{n:Nat}{tk:List Value}{a0:Addr}{w w':World}{k t:ByteArray} (h:tokAt s i=some (k,t,j)) (h1:RS B p s j op (n+1) (tk++tokCells k t i) w') (h2:Below B w w') (h3:j≤s.size):TPost B p s i op n tk a0 w (.returned (.tuple #[])) w':=by
 unfold TPost
 rw [h]
 exact ⟨rfl,h1,h2,h3⟩
theorem TPost.none {B p:Nat}{s:ByteArray}{i:Nat}{op:List Int}{n:Nat}{tk:List Value}{a0:Addr}{w w':World}{ev:Ending} (h:tokAt s i=Option.none) (h1:Thrown B w i a0 ev w'):TPost B p s i op n tk a0 w ev w':=by
 unfold TPost
 rw [h]
 exact h1

set_option maxHeartbeats 1000000 in
theorem token_small (B p i:Nat) (s:ByteArray) (op:List Int) (n:Nat) (tk:List Value) (a0:Addr) (w:World) (h:RS B p s i op n tk w) (E:Env B a0 w) (hlt:i<s.size) (hn:n≤100000)
  (hsm:smallB (s[i].toNat:Int)=true) :
  Calls Tryz.prog 44 #[.pointer (some ⟨p,0,none⟩)] w fun ev w'=>TPost B p s i op n tk a0 w ev w':=by
 have hA:=h.hA
 obtain ⟨hs,hat,c0,c1,f1⟩:=h.hA
 have hI:(i:Int)<(s.size:Int):=by omega
 have hI0:(0:Int)≤(i:Int):=by omega
 have hB:B≤w.heap.size:=by have:=h.hp;have:=h.hpl;omega
 obtain ⟨tt,fr,hw⟩:=E.words
 have hsc:(smallB (s[i].toNat:Int) || capitalB (s[i].toNat:Int))=true:=by rw [hsm,Bool.true_or]
 have HSC:Hid ((smallB (s[i].toNat:Int) || capitalB (s[i].toNat:Int))=true):=hsc
 clear hsc
 go_enter Tryz.func44,Tryz.ntmps44
 go_wp2_with (first | (go_at_call 63;refine (small_any _ _).mono ?_;rintro e w' ⟨rfl,hww⟩;rw [hww];clear hww) | (go_at_call 64;refine (capital_any _ _).mono ?_;rintro e w' ⟨rfl,hww⟩;rw [hww];clear hww) | (go_at_call 66;refine (digit_any _ _).mono ?_;rintro e w' ⟨rfl,hww⟩;rw [hww];clear hww))
 refine (name_walk B p i s a0 w hA hlt h.hpl h.hp E.bg E.hg tt fr E.bw hw).mono ?_
 intro ev w1 hq
 unfold NPost at hq
 cases hna:nameAt s i with
 | none =>
  rw [hna] at hq
  have HN:Hid (tokAt s i=Option.none):=show tokAt s i=Option.none by simp only [tokAt,hlt,dif_pos,HSC.out,if_true,hna,Option.map_none]
  clear hna
  obtain ⟨b,rfl,t1,t2,t3⟩:=hq
  go_wp2
  exact ⟨rfl,TPost.none HN.out ⟨b,rfl,t1,t2,t3⟩⟩
 | some x =>
  obtain ⟨wd,t,j⟩:=x
  rw [hna] at hq
  have HN:Hid (tokAt s i=Option.some (if wd then kWord else kName,t,j)):=show tokAt s i=Option.some (if wd then kWord else kName,t,j) by simp only [tokAt,hlt,dif_pos,HSC.out,if_true,hna,Option.map_some]
  clear hna
  obtain ⟨rfl,hwt,hj⟩:=hq
  have h1:=h.went hwt hj
  have hb1:=hwt.below h.hp hB
  have hB1:B≤w1.heap.size:=Nat.le_trans hB hb1.size
  cases wd
  all_goals
   simp only [Bool.false_eq_true,if_false,if_true]
   go_wp2_with fail
   refine (add_any B p s j op n tk _ _ _ i h1 hB1 hn).mono ?_
   rintro ev w2 ⟨rfl,h2,hb2⟩
   go_wp2_with fail
   first | go_end0 | refine bodyPost_ret (results_none rfl _ _ _) rfl ?_
   exact TPost.some HN.out h2 (hb1.trans hb2) hj

set_option maxHeartbeats 1000000 in
theorem token_capital (B p i:Nat) (s:ByteArray) (op:List Int) (n:Nat) (tk:List Value) (a0:Addr) (w:World) (h:RS B p s i op n tk w) (E:Env B a0 w) (hlt:i<s.size) (hn:n≤100000)
  (hsm:smallB (s[i].toNat:Int)=false) (hcp:capitalB (s[i].toNat:Int)=true) :
  Calls Tryz.prog 44 #[.pointer (some ⟨p,0,none⟩)] w fun ev w'=>TPost B p s i op n tk a0 w ev w':=by
 have hA:=h.hA
 obtain ⟨hs,hat,c0,c1,f1⟩:=h.hA
 have hI:(i:Int)<(s.size:Int):=by omega
 have hI0:(0:Int)≤(i:Int):=by omega
 have hB:B≤w.heap.size:=by have:=h.hp;have:=h.hpl;omega
 obtain ⟨tt,fr,hw⟩:=E.words
 have hsc:(smallB (s[i].toNat:Int) || capitalB (s[i].toNat:Int))=true:=by rw [hsm,hcp];rfl
 have HSC:Hid ((smallB (s[i].toNat:Int) || capitalB (s[i].toNat:Int))=true):=hsc
 clear hsc
 go_enter Tryz.func44,Tryz.ntmps44
 go_wp2_with (first | (go_at_call 63;refine (small_any _ _).mono ?_;rintro e w' ⟨rfl,hww⟩;rw [hww];clear hww) | (go_at_call 64;refine (capital_any _ _).mono ?_;rintro e w' ⟨rfl,hww⟩;rw [hww];clear hww) | (go_at_call 66;refine (digit_any _ _).mono ?_;rintro e w' ⟨rfl,hww⟩;rw [hww];clear hww))
 refine (name_walk B p i s a0 w hA hlt h.hpl h.hp E.bg E.hg tt fr E.bw hw).mono ?_
 intro ev w1 hq
 unfold NPost at hq
 cases hna:nameAt s i with
 | none =>
  rw [hna] at hq
  have HN:Hid (tokAt s i=Option.none):=show tokAt s i=Option.none by simp only [tokAt,hlt,dif_pos,HSC.out,if_true,hna,Option.map_none]
  clear hna
  obtain ⟨b,rfl,t1,t2,t3⟩:=hq
  go_wp2
  exact ⟨rfl,TPost.none HN.out ⟨b,rfl,t1,t2,t3⟩⟩
 | some x =>
  obtain ⟨wd,t,j⟩:=x
  rw [hna] at hq
  have HN:Hid (tokAt s i=Option.some (if wd then kWord else kName,t,j)):=show tokAt s i=Option.some (if wd then kWord else kName,t,j) by simp only [tokAt,hlt,dif_pos,HSC.out,if_true,hna,Option.map_some]
  clear hna
  obtain ⟨rfl,hwt,hj⟩:=hq
  have h1:=h.went hwt hj
  have hb1:=hwt.below h.hp hB
  have hB1:B≤w1.heap.size:=Nat.le_trans hB hb1.size
  cases wd
  all_goals
   simp only [Bool.false_eq_true,if_false,if_true]
   go_wp2_with fail
   refine (add_any B p s j op n tk _ _ _ i h1 hB1 hn).mono ?_
   rintro ev w2 ⟨rfl,h2,hb2⟩
   go_wp2_with fail
   first | go_end0 | refine bodyPost_ret (results_none rfl _ _ _) rfl ?_
   exact TPost.some HN.out h2 (hb1.trans hb2) hj

end Go.Proofs.YtpcjcgkpjapbpaaGreatDoor
namespace Go.Proofs.YtpcjcgkpjapbpaaGreatDoor
open Go.RowKit

set_option maxHeartbeats 1000000 in
theorem token_int (B p i:Nat) (s:ByteArray) (op:List Int) (n:Nat) (tk:List Value) (a0:Addr) (w:World) (h:RS B p s i op n tk w) (E:Env B a0 w) (hlt:i<s.size) (hn:n≤100000)
  (hsm:smallB (s[i].toNat:Int)=false) (hcp:capitalB (s[i].toNat:Int)=false) (hdg:digitB (s[i].toNat:Int)=true) :
  Calls Tryz.prog 44 #[.pointer (some ⟨p,0,none⟩)] w fun ev w'=>TPost B p s i op n tk a0 w ev w':=by
 have hA:=h.hA
 obtain ⟨hs,hat,c0,c1,f1⟩:=h.hA
 have hI:(i:Int)<(s.size:Int):=by omega
 have hI0:(0:Int)≤(i:Int):=by omega
 have hB:B≤w.heap.size:=by have:=h.hp;have:=h.hpl;omega
 obtain ⟨tp,vp,hv⟩:=E.range
 go_enter Tryz.func44,Tryz.ntmps44
 go_wp2_with (first | (go_at_call 63;refine (small_any _ _).mono ?_;rintro e w' ⟨rfl,hww⟩;rw [hww];clear hww) | (go_at_call 64;refine (capital_any _ _).mono ?_;rintro e w' ⟨rfl,hww⟩;rw [hww];clear hww) | (go_at_call 66;refine (digit_any _ _).mono ?_;rintro e w' ⟨rfl,hww⟩;rw [hww];clear hww))
 refine (digits_walk B p i s a0 w hA hlt hdg h.hpl h.hp E.bg E.hg tp vp E.br hv).mono ?_
 intro ev w1 hq
 unfold DPost at hq
 cases hna:intAt s i with
 | none =>
  rw [hna] at hq
  have HN:Hid (tokAt s i=Option.none):=show tokAt s i=Option.none by simp only [tokAt,hlt,dif_pos,hsm,hcp,Bool.or_self,Bool.false_eq_true,if_false,hdg,if_true,hna,Option.map_none]
  clear hna
  obtain ⟨b,rfl,t1,t2,t3⟩:=hq
  go_wp2
  exact ⟨rfl,TPost.none HN.out ⟨b,rfl,t1,t2,t3⟩⟩
 | some x =>
  obtain ⟨t,j⟩:=x
  rw [hna] at hq
  have HN:Hid (tokAt s i=Option.some (kInt,t,j)):=show tokAt s i=Option.some (kInt,t,j) by simp only [tokAt,hlt,dif_pos,hsm,hcp,Bool.or_self,Bool.false_eq_true,if_false,hdg,if_true,hna,Option.map_some]
  clear hna
  obtain ⟨rfl,hwt,hj⟩:=hq
  have h1:=h.went hwt hj
  have hb1:=hwt.below h.hp hB
  have hB1:B≤w1.heap.size:=Nat.le_trans hB hb1.size
  go_wp2_with fail
  refine (add_any B p s j op n tk _ _ _ i h1 hB1 hn).mono ?_
  rintro ev w2 ⟨rfl,h2,hb2⟩
  go_wp2_with fail
  first | go_end0 | refine bodyPost_ret (results_none rfl _ _ _) rfl ?_
  exact TPost.some HN.out h2 (hb1.trans hb2) hj

set_option maxHeartbeats 1000000 in
theorem token_str (B p i:Nat) (s:ByteArray) (op:List Int) (n:Nat) (tk:List Value) (a0:Addr) (w:World) (h:RS B p s i op n tk w) (E:Env B a0 w) (hlt:i<s.size) (hn:n≤100000)
  (hsm:smallB (s[i].toNat:Int)=false) (hcp:capitalB (s[i].toNat:Int)=false) (hdg:digitB (s[i].toNat:Int)=false) (hq34:((s[i].toNat:Int) == 34)=true) :
  Calls Tryz.prog 44 #[.pointer (some ⟨p,0,none⟩)] w fun ev w'=>TPost B p s i op n tk a0 w ev w':=by
 have hA:=h.hA
 obtain ⟨hs,hat,c0,c1,f1⟩:=h.hA
 have hI:(i:Int)<(s.size:Int):=by omega
 have hI0:(0:Int)≤(i:Int):=by omega
 have hB:B≤w.heap.size:=by have:=h.hp;have:=h.hpl;omega
 go_enter Tryz.func44,Tryz.ntmps44
 go_wp2_with (first | (go_at_call 63;refine (small_any _ _).mono ?_;rintro e w' ⟨rfl,hww⟩;rw [hww];clear hww) | (go_at_call 64;refine (capital_any _ _).mono ?_;rintro e w' ⟨rfl,hww⟩;rw [hww];clear hww) | (go_at_call 66;refine (digit_any _ _).mono ?_;rintro e w' ⟨rfl,hww⟩;rw [hww];clear hww))
 refine (quoted_any B p i s a0 w hA hlt h.hpl h.hp E.bg E.hg).mono ?_
 intro ev w1 hq
 unfold QPost at hq
 cases hna:strAt s i with
 | none =>
  rw [hna] at hq
  have HN:Hid (tokAt s i=Option.none):=show tokAt s i=Option.none by simp only [tokAt,hlt,dif_pos,hsm,hcp,Bool.or_self,Bool.false_eq_true,if_false,hdg,hq34,if_true,hna,Option.map_none]
  clear hna
  obtain ⟨b,rfl,t1,t2,t3⟩:=hq
  go_wp2
  exact ⟨rfl,TPost.none HN.out ⟨b,rfl,t1,t2,t3⟩⟩
 | some x =>
  obtain ⟨t,j⟩:=x
  rw [hna] at hq
  have HN:Hid (tokAt s i=Option.some (kStr,strOfNums t,j)):=show tokAt s i=Option.some (kStr,strOfNums t,j) by simp only [tokAt,hlt,dif_pos,hsm,hcp,Bool.or_self,Bool.false_eq_true,if_false,hdg,hq34,if_true,hna,Option.map_some]
  clear hna
  obtain ⟨rfl,hwt,hj⟩:=hq
  have h1:=h.went hwt hj
  have hb1:=hwt.below h.hp hB
  have hB1:B≤w1.heap.size:=Nat.le_trans hB hb1.size
  go_wp2_with fail
  refine (add_any B p s j op n tk _ _ _ i h1 hB1 hn).mono ?_
  rintro ev w2 ⟨rfl,h2,hb2⟩
  go_wp2_with fail
  first | go_end0 | refine bodyPost_ret (results_none rfl _ _ _) rfl ?_
  exact TPost.some HN.out h2 (hb1.trans hb2) hj

set_option maxHeartbeats 1000000 in
theorem token_op (B p i:Nat) (s:ByteArray) (op:List Int) (n:Nat) (tk:List Value) (a0:Addr) (w:World) (h:RS B p s i op n tk w) (E:Env B a0 w) (hlt:i<s.size) (hn:n≤100000)
  (hsm:smallB (s[i].toNat:Int)=false) (hcp:capitalB (s[i].toNat:Int)=false) (hdg:digitB (s[i].toNat:Int)=false) (hq34:((s[i].toNat:Int) == 34)=false) :
  Calls Tryz.prog 44 #[.pointer (some ⟨p,0,none⟩)] w fun ev w'=>TPost B p s i op n tk a0 w ev w':=by
 have hA:=h.hA
 obtain ⟨hs,hat,c0,c1,f1⟩:=h.hA
 have hI:(i:Int)<(s.size:Int):=by omega
 have hI0:(0:Int)≤(i:Int):=by omega
 have hB:B≤w.heap.size:=by have:=h.hp;have:=h.hpl;omega
 obtain ⟨tt,fr,hw⟩:=E.ops
 go_enter Tryz.func44,Tryz.ntmps44
 go_wp2_with (first | (go_at_call 63;refine (small_any _ _).mono ?_;rintro e w' ⟨rfl,hww⟩;rw [hww];clear hww) | (go_at_call 64;refine (capital_any _ _).mono ?_;rintro e w' ⟨rfl,hww⟩;rw [hww];clear hww) | (go_at_call 66;refine (digit_any _ _).mono ?_;rintro e w' ⟨rfl,hww⟩;rw [hww];clear hww))
 refine (op_walk B p i s a0 w hA hlt h.hpl h.hp E.hg tt fr hw).mono ?_
 intro ev w1 hq
 unfold OPost at hq
 cases hna:opTok s i with
 | none =>
  rw [hna] at hq
  have HN:Hid (tokAt s i=Option.none):=show tokAt s i=Option.none by simp only [tokAt,hlt,dif_pos,hsm,hcp,Bool.or_self,Bool.false_eq_true,if_false,hdg,hq34,hna,Option.map_none]
  clear hna
  obtain ⟨b,rfl,t1,t2,t3⟩:=hq
  go_wp2
  exact ⟨rfl,TPost.none HN.out ⟨b,rfl,t1,t2,t3⟩⟩
 | some x =>
  obtain ⟨t,j⟩:=x
  rw [hna] at hq
  have HN:Hid (tokAt s i=Option.some (kOp,t,j)):=show tokAt s i=Option.some (kOp,t,j) by simp only [tokAt,hlt,dif_pos,hsm,hcp,Bool.or_self,Bool.false_eq_true,if_false,hdg,hq34,hna,Option.map_some]
  clear hna
  obtain ⟨rfl,hwt,hj⟩:=hq
  have h1:=h.went hwt hj
  have hb1:=hwt.below h.hp hB
  have hB1:B≤w1.heap.size:=Nat.le_trans hB hb1.size
  go_wp2_with fail
  refine (add_any B p s j op n tk _ _ _ i h1 hB1 hn).mono ?_
  rintro ev w2 ⟨rfl,h2,hb2⟩
  go_wp2_with fail
  first | go_end0 | refine bodyPost_ret (results_none rfl _ _ _) rfl ?_
  exact TPost.some HN.out h2 (hb1.trans hb2) hj

theorem token_any (B p i:Nat) (s:ByteArray) (op:List Int) (n:Nat) (tk:List Value) (a0:Addr) (w:World) (h:RS B p s i op n tk w) (E:Env B a0 w) (hlt:i<s.size) (hn:n≤100000) :
  Calls Tryz.prog 44 #[.pointer (some ⟨p,0,none⟩)] w fun ev w'=>TPost B p s i op n tk a0 w ev w':=by
 cases hsm:smallB (s[i].toNat:Int)
 ·cases hcp:capitalB (s[i].toNat:Int)
  ·cases hdg:digitB (s[i].toNat:Int)
   ·cases hq:((s[i].toNat:Int) == 34)
    ·exact token_op B p i s op n tk a0 w h E hlt hn hsm hcp hdg hq
    ·exact token_str B p i s op n tk a0 w h E hlt hn hsm hcp hdg hq
   ·exact token_int B p i s op n tk a0 w h E hlt hn hsm hcp hdg
  ·exact token_capital B p i s op n tk a0 w h E hlt hn hsm hcp
 ·exact token_small B p i s op n tk a0 w h E hlt hn hsm

theorem strFrom_lt (s:ByteArray):∀ n i acc l j,strFrom s n i acc=some (l,j)→i<j
 | 0,_,_,_,_,h=>by simp [strFrom] at h
 | n+1,i,acc,l,j,h=>by
  unfold strFrom at h
  split at h
  ·split at h
   ·simp at h;omega
   ·split at h
    ·cases h
    ·split at h
     ·cases h
     ·split at h
      ·cases he:escAt s (i+1) with
       | none=>rw [he] at h;cases h
       | some x =>
        obtain ⟨v,k⟩:=x
        rw [he] at h
        have:=escAt_le s (i+1) k v he
        have:=strFrom_lt s n k _ l j h
        omega
      ·have:=strFrom_lt s n (i+1) _ l j h
       omega
  ·cases h
theorem opFrom_lt (s:ByteArray) (i:Nat):∀ n k t j,k+n=21→opFrom s i n k=some (t,j)→i<j
 | 0,_,_,_,_,h=>by simp [opFrom] at h
 | n+1,k,t,j,hk,h=>by
  unfold opFrom at h
  split at h
  ·simp at h
   have:1≤(opAt k).size:=by
    have hk':k<21:=by omega
    clear hk h
    iterate 21 (rcases k with _ | k;· decide)
    omega
   omega
  ·exact opFrom_lt s i n (k+1) t j (by omega) h
theorem tokAt_lt {s:ByteArray}{i j:Nat}{k t:ByteArray} (h:tokAt s i=some (k,t,j)):i<j:=by
 unfold tokAt at h
 split at h
 ·rename_i hlt
  split at h
  ·cases hn:nameAt s i with
   | none=>rw [hn] at h;cases h
   | some x =>
    rw [hn] at h
    simp at h
    have hx:x.2.2=nameTo s i:=by
     unfold nameAt at hn
     rw [dif_pos hlt] at hn
     split at hn
     ·simp at hn;rw [←hn]
     ·split at hn
      ·cases hn
      ·split at hn
       ·cases hn
       ·simp at hn;rw [←hn]
    have:=(passTo_le nameB s (s.size - (i+1)) (i+1)).1
    unfold nameTo at hx
    omega
  ·split at h
   ·rename_i hdg
    cases hn:intAt s i with
    | none=>rw [hn] at h;cases h
    | some x =>
     rw [hn] at h
     simp at h
     have hx:x.2=digitsTo s i:=by
      unfold intAt at hn
      rw [dif_pos hlt] at hn
      split at hn
      ·cases hn
      ·split at hn
       ·simp at hn;rw [←hn]
       ·cases hn
     have:i+1≤digitsTo s i:=by
      unfold digitsTo
      rw [passTo_go hlt hdg]
      exact (passTo_le digitB s _ (i+1)).1
     omega
   ·split at h
    ·cases hn:strAt s i with
     | none=>rw [hn] at h;cases h
     | some x =>
      obtain ⟨l,j'⟩:=x
      rw [hn] at h
      simp at h
      have:=strFrom_lt s _ _ _ _ _ hn
      omega
    ·cases hn:opTok s i with
     | none=>rw [hn] at h;cases h
     | some x =>
      obtain ⟨t',j'⟩:=x
      rw [hn] at h
      simp at h
      have:=opFrom_lt s i 21 0 _ _ rfl hn
      omega
 ·cases h
end Go.Proofs.YtpcjcgkpjapbpaaGreatDoor
namespace Go.Proofs.YtpcjcgkpjapbpaaGreatDoor
open Go.RowKit

def kNewline:ByteArray:=⟨#[110,101,119,108,105,110,101]⟩
def kIndent:ByteArray:=⟨#[105,110,100,101,110,116]⟩

def skipTo (s:ByteArray) (i:Nat):Nat:=commentTo s (blanksTo s i)

def restToks (s:ByteArray):Nat→Nat→List Value→Nat→Except Nat (Nat × List Value × Nat)
 | 0,i,_,_=>.error i
 | f+1,i,tk,n =>
  if endsB s (skipTo s i) then .ok (skipTo s i,tk,n)
  else match tokAt s (skipTo s i) with
   | some (k,t,j)=>restToks s f j (tk++tokCells k t (skipTo s i)) (n+1)
   | none=>.error (skipTo s i)

theorem skipTo_le (s:ByteArray) (i:Nat) (h:i≤s.size):i≤skipTo s i∧skipTo s i≤s.size:=by
 have h1:=blanksTo_le s i h
 have h2:=commentTo_le s (blanksTo s i) h1.2
 exact ⟨Nat.le_trans h1.1 h2.1,h2.2⟩

theorem endsB_end {s:ByteArray}{i:Nat} (h:¬ i<s.size):endsB s i=true:=by simp [endsB,h]

theorem comment_ends {s:ByteArray}{i:Nat} (h:endsB s (commentTo s i)=false):commentTo s i=i:=by
 unfold commentTo at h ⊢
 split
 ·rename_i hlt
  split
  ·rename_i h35
   rw [dif_pos hlt,if_pos h35] at h
   exfalso
   have key:∀ n k,s.size - k≤n→k≤s.size→endsB s (passTo lineB s n k)=true:=by
    intro n
    induction n with
    | zero =>
     intro k hk hks
     have:k=s.size:=by omega
     subst this
     simp [passTo,endsB]
    | succ n ih =>
     intro k hk hks
     unfold passTo
     split
     ·rename_i hkl
      split
      ·exact ih (k+1) (by omega) (by omega)
      ·rename_i hP
       simp [endsB,hkl]
       simp [lineB] at hP
       exact hP
     ·rename_i hkl
      exact endsB_end hkl
   rw [key _ i (Nat.le_refl _) (by omega)] at h
   cases h
  ·rfl
 ·rfl

theorem strFrom_bd (s:ByteArray):∀ n i acc l j,strFrom s n i acc=some (l,j)→j≤s.size
 | 0,_,_,_,_,h=>by simp [strFrom] at h
 | n+1,i,acc,l,j,h=>by
  unfold strFrom at h
  split at h
  ·split at h
   ·simp at h;omega
   ·split at h
    ·cases h
    ·split at h
     ·cases h
     ·split at h
      ·cases he:escAt s (i+1) with
       | none=>rw [he] at h;cases h
       | some x =>
        obtain ⟨v,k⟩:=x
        rw [he] at h
        exact strFrom_bd s n k _ l j h
      ·exact strFrom_bd s n (i+1) _ l j h
  ·cases h
theorem opFrom_bd (s:ByteArray) (i:Nat) (hi:i≤s.size):∀ n k t j,opFrom s i n k=some (t,j)→j≤s.size
 | 0,_,_,_,h=>by simp [opFrom] at h
 | n+1,k,t,j,h=>by
  unfold opFrom at h
  split at h
  ·rename_i hp
   have h1:=prefixB_size hp
   have h2:(s.extract i s.size).size=s.size - i:=by simp
   simp at h
   omega
  ·exact opFrom_bd s i hi n (k+1) t j h
theorem tokAt_bd {s:ByteArray}{i j:Nat}{k t:ByteArray} (h:tokAt s i=some (k,t,j)):j≤s.size:=by
 unfold tokAt at h
 split at h
 ·rename_i hlt
  split at h
  ·cases hn:nameAt s i with
   | none=>rw [hn] at h;cases h
   | some x =>
    rw [hn] at h
    simp at h
    have hx:x.2.2=nameTo s i:=by
     unfold nameAt at hn
     rw [dif_pos hlt] at hn
     split at hn
     ·simp at hn;rw [←hn]
     ·split at hn
      ·cases hn
      ·split at hn
       ·cases hn
       ·simp at hn;rw [←hn]
    have:=(passTo_le nameB s (s.size - (i+1)) (i+1)).2 (by omega)
    unfold nameTo at hx
    omega
  ·split at h
   ·cases hn:intAt s i with
    | none=>rw [hn] at h;cases h
    | some x =>
     rw [hn] at h
     simp at h
     have hx:x.2=digitsTo s i:=by
      unfold intAt at hn
      rw [dif_pos hlt] at hn
      split at hn
      ·cases hn
      ·split at hn
       ·simp at hn;rw [←hn]
       ·cases hn
     have:digitsTo s i≤s.size:=(passTo_le digitB s _ i).2 (by omega)
     omega
   ·split at h
    ·cases hn:strAt s i with
     | none=>rw [hn] at h;cases h
     | some x =>
      obtain ⟨l,j'⟩:=x
      rw [hn] at h
      simp at h
      have:=strFrom_bd s _ _ _ _ _ hn
      omega
    ·cases hn:opTok s i with
     | none=>rw [hn] at h;cases h
     | some x =>
      obtain ⟨t',j'⟩:=x
      rw [hn] at h
      simp at h
      have:=opFrom_bd s i (by omega) 21 0 _ _ hn
      omega
 ·cases h

theorem tokAt_le {s:ByteArray}{i:Nat} (h:endsB s i=false):i<s.size:=by
 by_cases hlt:i<s.size
 ·exact hlt
 ·rw [endsB_end hlt] at h;cases h

def afterLine (s:ByteArray) (i:Nat):Nat:=if i<s.size then i+1 else i

structure LexSt where
 at_:Nat
 st:List Int
 n:Nat
 tk:List Value

def settleP (st:List Int) (ind:Int) (i n:Nat) (tk:List Value):Option (List Int × Nat × List Value):=
 match st with
 | []=>none
 | x::xs =>
  if x<ind then some (ind::x::xs,n+1,tk++tokCells kIndent ⟨#[]⟩ i)
  else if (popTo ind (x::xs)).2.head?=some ind then some ((popTo ind (x::xs)).2,n+(popTo ind (x::xs)).1,tk++dedents i (popTo ind (x::xs)).1)
  else none

def lineStep (s:ByteArray) (σ:LexSt):Except Nat LexSt:=
 if endsB s (skipTo s σ.at_) then .ok { σ with at_:=afterLine s (skipTo s σ.at_) }
 else match settleP σ.st ((blanksTo s σ.at_:Nat) - (σ.at_:Int)) (skipTo s σ.at_) σ.n σ.tk with
  | none=>.error (skipTo s σ.at_)
  | some (st',n',tk') =>
   match tokAt s (skipTo s σ.at_) with
   | none=>.error (skipTo s σ.at_)
   | some (k,t,j) =>
    match restToks s (s.size+1 - j) j (tk'++tokCells k t (skipTo s σ.at_)) (n'+1) with
    | .error e=>.error e
    | .ok (e,tk2,n2)=>.ok ⟨afterLine s e,st',n2+1,tk2++tokCells kNewline ⟨#[]⟩ e⟩

theorem restToks_fuel (s:ByteArray):∀ f g i tk n,i≤s.size→s.size+1 - i≤f→s.size+1 - i≤g→restToks s f i tk n=restToks s g i tk n
 | 0,_,i,_,_,h,hf,_=>by omega
 | _,0,i,_,_,h,_,hg=>by omega
 | f+1,g+1,i,tk,n,h,hf,hg=>by
  unfold restToks
  split
  ·rfl
  ·rename_i he
   cases ht:tokAt s (skipTo s i) with
   | none=>rfl
   | some x =>
    obtain ⟨k,t,j⟩:=x
    have h1:=tokAt_lt ht
    have h2:=skipTo_le s i h
    exact restToks_fuel s f g j _ _ (tokAt_bd ht) (by omega) (by omega)

theorem restToks_go {s:ByteArray}{i j:Nat}{k t:ByteArray}{tk:List Value}{n:Nat} (hi:i≤s.size) (he:endsB s (skipTo s i)=false) (ht:tokAt s (skipTo s i)=some (k,t,j)) :
  restToks s (s.size+1 - i) i tk n=restToks s (s.size+1 - j) j (tk++tokCells k t (skipTo s i)) (n+1):=by
 obtain ⟨f,hf⟩:∃ f,s.size+1 - i=f+1:=⟨s.size - i,by omega⟩
 have h1:=tokAt_lt ht
 have h2:=skipTo_le s i hi
 rw [hf]
 have e:restToks s (f+1) i tk n=restToks s f j (tk++tokCells k t (skipTo s i)) (n+1):=by
  simp only [restToks,he,Bool.false_eq_true,if_false,ht]
 rw [e]
 exact restToks_fuel s _ _ _ _ _ (tokAt_bd ht) (by omega) (Nat.le_refl _)
theorem restToks_stop {s:ByteArray}{i:Nat}{tk:List Value}{n:Nat} (hi:i≤s.size) (he:endsB s (skipTo s i)=true):restToks s (s.size+1 - i) i tk n = .ok (skipTo s i,tk,n):=by
 obtain ⟨f,hf⟩:∃ f,s.size+1 - i=f+1:=⟨s.size - i,by omega⟩
 rw [hf]
 simp only [restToks,he,if_true]
theorem restToks_none {s:ByteArray}{i:Nat}{tk:List Value}{n:Nat} (hi:i≤s.size) (he:endsB s (skipTo s i)=false) (ht:tokAt s (skipTo s i)=none):restToks s (s.size+1 - i) i tk n = .error (skipTo s i):=by
 obtain ⟨f,hf⟩:∃ f,s.size+1 - i=f+1:=⟨s.size - i,by omega⟩
 rw [hf]
 simp only [restToks,he,Bool.false_eq_true,if_false,ht]

theorem skip_eq {s:ByteArray}{i:Nat} (h:endsB s (skipTo s i)=false):skipTo s i=blanksTo s i:=comment_ends h
end Go.Proofs.YtpcjcgkpjapbpaaGreatDoor
namespace Go.Proofs.YtpcjcgkpjapbpaaGreatDoor
open Go.RowKit

def StPost (B p:Nat) (s:ByteArray) (i:Nat) (st:List Int) (ind:Int) (n:Nat) (tk:List Value) (a0:Addr) (w:World) (ev:Ending) (w':World):Prop:=
 match settleP st ind i n tk with
 | some (st',n',tk')=>ev = .returned (.tuple #[])∧RS B p s i st'.reverse n' tk' w'∧Below B w w'
 | none=>Thrown B w i a0 ev w'

theorem settle_any (B p:Nat) (s:ByteArray) (i:Nat) (st:List Int) (ind:Int) (n:Nat) (tk:List Value) (a0:Addr) (w:World) (h:RS B p s i st.reverse n tk w) (E:Env B a0 w) (hst:st.getLast?=some 0) (hl:st.length≤30000) (hn:n≤40000) (h0:0≤ind) :
  Calls Tryz.prog 30 #[.pointer (some ⟨p,0,none⟩),.int .i64 ind] w fun ev w'=>StPost B p s i st ind n tk a0 w ev w':=by
 cases st with
 | nil=>cases hst
 | cons x xs =>
  by_cases hx:x<ind
  ·rw [List.reverse_cons] at h
   refine (settle_in B p s i xs.reverse x ind n tk w h (by simp at hl ⊢;omega) (by omega) hx).mono ?_
   rintro ev w' ⟨h1,h2,h3⟩
   unfold StPost
   simp only [settleP,hx,if_true]
   refine ⟨h1,?_,h3⟩
   simpa [List.reverse_cons,kIndent] using h2
  ·refine (settle_out B p s i x xs ind n tk a0 w h (by simp at hl;omega) (by omega) hx h0 hst E.bg E.hg).mono ?_
   intro ev w' hq
   unfold SPost at hq
   unfold StPost
   simp only [settleP,hx,if_false]
   split at hq
   ·rename_i he
    rw [if_pos he]
    exact hq
   ·rename_i he
    rw [if_neg he]
    exact hq

theorem popTo_last (ind:Int):∀ st:List Int,(popTo ind st).2 ≠ []→st.getLast?=some 0→(popTo ind st).2.getLast?=some 0
 | [],h,_=>by simp [popTo] at h
 | x::xs,h,hl=>by
  unfold popTo at h ⊢
  split
  ·rename_i hlt
   rw [if_pos hlt] at h
   simp only at h ⊢
   cases xs with
   | nil=>simp [popTo] at h
   | cons y ys=>exact popTo_last ind (y::ys) h (by simpa using hl)
  ·exact hl
theorem popTo_len (ind:Int):∀ st:List Int,(popTo ind st).1+(popTo ind st).2.length=st.length
 | []=>rfl
 | x::xs=>by
  unfold popTo
  split
  ·have:=popTo_len ind xs
   simp only [List.length_cons]
   omega
  ·simp
theorem settleP_inv {st st':List Int}{ind:Int}{i n n':Nat}{tk tk':List Value} (h:settleP st ind i n tk=some (st',n',tk')) (hl:st.getLast?=some 0):st'.getLast?=some 0∧n'+st'.length≤n+st.length+2:=by
 cases st with
 | nil=>cases hl
 | cons x xs =>
  unfold settleP at h
  simp only at h
  split at h
  ·simp at h
   obtain ⟨rfl,rfl,rfl⟩:=h
   refine ⟨by simpa using hl,by simp;omega⟩
  ·split at h
   ·rename_i he
    simp at h
    obtain ⟨rfl,rfl,rfl⟩:=h
    refine ⟨popTo_last ind _ (fun e=>by rw [e] at he;cases he) hl,?_⟩
    have:=popTo_len ind (x::xs)
    omega
   ·cases h

def LPost (B p:Nat) (s:ByteArray) (σ:LexSt) (a0:Addr) (w:World) (ev:Ending) (w':World):Prop:=
 match lineStep s σ with
 | .ok σ'=>ev = .returned (.tuple #[])∧RS B p s σ'.at_ σ'.st.reverse σ'.n σ'.tk w'∧Below B w w'
 | .error e=>Thrown B w e a0 ev w'

theorem LPost.ok {B p:Nat}{s:ByteArray}{σ σ':LexSt}{a0:Addr}{w w':World} (h:lineStep s σ = .ok σ') (h1:RS B p s σ'.at_ σ'.st.reverse σ'.n σ'.tk w') (h2:Below B w w'):LPost B p s σ a0 w (.returned (.tuple #[])) w':=by
 unfold LPost
 rw [h]
 exact ⟨rfl,h1,h2⟩
theorem LPost.err {B p:Nat}{s:ByteArray}{σ:LexSt}{e:Nat}{a0:Addr}{w w':World}{ev:Ending} (h:lineStep s σ = .error e) (h1:Thrown B w e a0 ev w'):LPost B p s σ a0 w ev w':=by
 unfold LPost
 rw [h]
 exact h1
theorem lineStep_blank {s:ByteArray}{σ:LexSt} (h:endsB s (skipTo s σ.at_)=true):lineStep s σ = .ok { σ with at_:=afterLine s (skipTo s σ.at_) }:=by
 simp only [lineStep,h,if_true]

structure Inv (s:ByteArray) (σ:LexSt):Prop where
 hat:σ.at_≤s.size
 last:σ.st.getLast?=some 0
 cnt:σ.n+σ.st.length≤4*σ.at_+1

set_option maxHeartbeats 1000000 in
theorem line_blank (B p:Nat) (s:ByteArray) (σ:LexSt) (a0:Addr) (w:World) (h:RS B p s σ.at_ σ.st.reverse σ.n σ.tk w) (he:endsB s (skipTo s σ.at_)=true) :
  Calls Tryz.prog 29 #[.pointer (some ⟨p,0,none⟩)] w fun ev w'=>LPost B p s σ a0 w ev w':=by
 have hb:=blanksTo_le s σ.at_ h.hA.hat
 have hsk:=skipTo_le s σ.at_ h.hA.hat
 have HE:Hid (endsB s (skipTo s σ.at_)=true):=he
 clear he
 have hB:B≤w.heap.size:=by have:=h.hp;have:=h.hpl;omega
 go_enter Tryz.func29,Tryz.ntmps29
 go_wp2_with fail
 refine (passBlanks_any p s σ.at_ w h.hA).mono ?_
 rintro ev w1 ⟨rfl,hm1⟩
 have h1:=h.went hm1.went hb.2
 go_wp2_with fail
 refine (lineEnds_any p s _ w1 h1.hA).mono ?_
 rintro ev w2 ⟨rfl,hm2⟩
 rw [show endsB s (commentTo s (blanksTo s σ.at_))=true from HE.out]
 have h2:=h1.went hm2.went hsk.2
 have hm:=hm1.trans hm2
 have hsz:=h2.hA.hs
 generalize hsx:commentTo s (blanksTo s σ.at_)=e at hm2 hm h2
 have HSX:Hid (skipTo s σ.at_=e):=hsx
 clear hsx hm1 hm2 h1
 have hle:e≤s.size:=by have:=HSX.out;omega
 obtain ⟨hs,_,c0,c1,f1⟩:=h2.hA
 by_cases hlt:e<s.size
 ·have hI:(e:Int)<(s.size:Int):=by omega
  go_wp2_with fail
  go_quiet (fail)
  go_wp2_with fail
  go_end0
  have hm3:=(hm.drewN nq).trans (Moved.set (hm.drewN nq).at_ (e+1))
  have ea:afterLine s (skipTo s σ.at_)=e+1:=by rw [HSX.out];simp [afterLine,hlt]
  refine LPost.ok (lineStep_blank HE.out) ?_ (hm3.below h.hp)
  rw [ea]
  exact h.went hm3.went (show e+1≤s.size by omega)
 ·have hd:decide ((e:Int)<(s.size:Int))=false:=by simp;omega
  go_wp2_with fail
  go_quiet (fail)
  go_wp2_with fail
  go_end0
  have ea:afterLine s (skipTo s σ.at_)=e:=by rw [HSX.out];simp [afterLine,hlt]
  refine LPost.ok (lineStep_blank HE.out) ?_ ((hm.drewN _).below h.hp)
  rw [ea]
  exact h.went (hm.drewN _).went hle
end Go.Proofs.YtpcjcgkpjapbpaaGreatDoor
namespace Go.Proofs.YtpcjcgkpjapbpaaGreatDoor
open Go.RowKit

theorem lineStep_settle {s:ByteArray}{σ:LexSt} (h:endsB s (skipTo s σ.at_)=false) (h1:settleP σ.st ((blanksTo s σ.at_:Nat) - (σ.at_:Int)) (skipTo s σ.at_) σ.n σ.tk=none):lineStep s σ = .error (skipTo s σ.at_):=by
 simp only [lineStep,h,Bool.false_eq_true,if_false,h1]
theorem lineStep_tok {s:ByteArray}{σ:LexSt}{x:List Int × Nat × List Value} (h:endsB s (skipTo s σ.at_)=false) (h1:settleP σ.st ((blanksTo s σ.at_:Nat) - (σ.at_:Int)) (skipTo s σ.at_) σ.n σ.tk=some x) (h2:tokAt s (skipTo s σ.at_)=none):lineStep s σ = .error (skipTo s σ.at_):=by
 simp only [lineStep,h,Bool.false_eq_true,if_false,h1,h2]
theorem lineStep_rest {s:ByteArray}{σ:LexSt}{st':List Int}{n':Nat}{tk':List Value}{k t:ByteArray}{j e:Nat} (h:endsB s (skipTo s σ.at_)=false) (h1:settleP σ.st ((blanksTo s σ.at_:Nat) - (σ.at_:Int)) (skipTo s σ.at_) σ.n σ.tk=some (st',n',tk')) (h2:tokAt s (skipTo s σ.at_)=some (k,t,j)) (h3:restToks s (s.size+1 - j) j (tk'++tokCells k t (skipTo s σ.at_)) (n'+1) = .error e):lineStep s σ = .error e:=by
 simp only [lineStep,h,Bool.false_eq_true,if_false,h1,h2,h3]
theorem lineStep_ok {s:ByteArray}{σ:LexSt}{st':List Int}{n':Nat}{tk':List Value}{k t:ByteArray}{j e:Nat}{tk2:List Value}{n2:Nat} (h:endsB s (skipTo s σ.at_)=false) (h1:settleP σ.st ((blanksTo s σ.at_:Nat) - (σ.at_:Int)) (skipTo s σ.at_) σ.n σ.tk=some (st',n',tk')) (h2:tokAt s (skipTo s σ.at_)=some (k,t,j)) (h3:restToks s (s.size+1 - j) j (tk'++tokCells k t (skipTo s σ.at_)) (n'+1) = .ok (e,tk2,n2)):lineStep s σ = .ok ⟨afterLine s e,st',n2+1,tk2++tokCells kNewline ⟨#[]⟩ e⟩:=by
 simp only [lineStep,h,Bool.false_eq_true,if_false,h1,h2,h3]

set_option maxHeartbeats 2000000 in
theorem line_toks (B p:Nat) (s:ByteArray) (σ:LexSt) (a0:Addr) (w:World) (h:RS B p s σ.at_ σ.st.reverse σ.n σ.tk w) (E:Env B a0 w) (I:Inv s σ) (he:endsB s (skipTo s σ.at_)=false) :
  Calls Tryz.prog 29 #[.pointer (some ⟨p,0,none⟩)] w fun ev w'=>LPost B p s σ a0 w ev w':=by
 have hs:=h.hA.hs
 have hb:=blanksTo_le s σ.at_ h.hA.hat
 have hsk:=skipTo_le s σ.at_ h.hA.hat
 have hlt:skipTo s σ.at_<s.size:=tokAt_le he
 have hse:skipTo s σ.at_=blanksTo s σ.at_:=skip_eq he
 have HE:Hid (endsB s (skipTo s σ.at_)=false):=he
 have HSE:Hid (skipTo s σ.at_=blanksTo s σ.at_):=hse
 have hcnt:=I.cnt
 have hIa:=I.hat
 clear he hse
 have hB:B≤w.heap.size:=by have:=h.hp;have:=h.hpl;omega
 go_enter Tryz.func29,Tryz.ntmps29
 go_wp2_with fail
 refine (passBlanks_any p s σ.at_ w h.hA).mono ?_
 rintro ev w1 ⟨rfl,hm1⟩
 have h1:=h.went hm1.went hb.2
 go_wp2_with fail
 refine (lineEnds_any p s _ w1 h1.hA).mono ?_
 rintro ev w2 ⟨rfl,hm2⟩
 rw [show endsB s (commentTo s (blanksTo s σ.at_))=false from HE.out]
 have h2:RS B p s (skipTo s σ.at_) σ.st.reverse σ.n σ.tk w2:=h1.went hm2.went hsk.2
 have hm:Moved p w w2 (skipTo s σ.at_):=hm1.trans hm2
 have hb2:Below B w w2:=hm.below h.hp
 have E2:=E.below hb2
 clear hm1 hm2 h1 hm
 go_wp2_with fail
 refine (settle_any B p s (skipTo s σ.at_) σ.st _ σ.n σ.tk a0 w2 h2 E2 I.last (by omega) (by omega) (by omega)).mono ?_
 intro ev w3 hq
 unfold StPost at hq
 cases hst:settleP σ.st ((blanksTo s σ.at_:Nat) - (σ.at_:Int)) (skipTo s σ.at_) σ.n σ.tk with
 | none =>
  rw [hst] at hq
  have HL:Hid (lineStep s σ = .error (skipTo s σ.at_)):=lineStep_settle HE.out hst
  clear hst
  obtain ⟨b,rfl,t1,t2,t3⟩:=hq
  go_wp2
  exact ⟨rfl,LPost.err HL.out ⟨b,rfl,hb2.trans t1,t2,t3⟩⟩
 | some x =>
  obtain ⟨st',n',tk'⟩:=x
  rw [hst] at hq
  obtain ⟨rfl,h3,hb3⟩:=hq
  have hinv:=settleP_inv hst I.last
  have hb3w:=hb2.trans hb3
  have E3:=E.below hb3w
  have HST:Hid (settleP σ.st ((blanksTo s σ.at_:Nat) - (σ.at_:Int)) (skipTo s σ.at_) σ.n σ.tk=some (st',n',tk')):=hst
  clear hst
  go_wp2_with fail
  refine (token_any B p (skipTo s σ.at_) s st'.reverse n' tk' a0 w3 h3 E3 hlt (by omega)).mono ?_
  intro ev w4 hq
  unfold TPost at hq
  cases htk:tokAt s (skipTo s σ.at_) with
  | none =>
   rw [htk] at hq
   have HL:Hid (lineStep s σ = .error (skipTo s σ.at_)):=lineStep_tok HE.out HST.out htk
   clear htk
   obtain ⟨b,rfl,t1,t2,t3⟩:=hq
   go_wp2
   exact ⟨rfl,LPost.err HL.out ⟨b,rfl,hb3w.trans t1,t2,t3⟩⟩
  | some y =>
   obtain ⟨k,t,j⟩:=y
   rw [htk] at hq
   obtain ⟨rfl,h4,hb4,hj⟩:=hq
   have hjlt:=tokAt_lt htk
   have hb4w:=hb3w.trans hb4
   have E4:=E.below hb4w
   have HTK:Hid (tokAt s (skipTo s σ.at_)=some (k,t,j)):=htk
   clear htk h2 h3 hb2 hb3 hb4 E2 E3 hb3w
   have hbj:=blanksTo_le s j hj
   go_wp2_with fail
   refine (passBlanks_any p s j w4 h4.hA).mono ?_
   rintro ev w5 ⟨rfl,hm5⟩
   have h5:=h4.went hm5.went hbj.2
   have hb5w:=hb4w.trans (hm5.below h.hp)
   clear h4 hm5 hb4w E4
   go_wp2_with fail
   go_loopg [] (s.size - j) (fun gk wr => ∃ (i:Nat) (tk1:List Value) (n1:Nat),gk=s.size - i∧j≤i∧i≤s.size∧n1+j≤n'+1+i∧restToks s (s.size+1 - i) i tk1 n1=restToks s (s.size+1 - j) j (tk'++tokCells k t (skipTo s σ.at_)) (n'+1)∧RS B p s (blanksTo s i) st'.reverse n1 tk1 wr∧Below B w wr)
   case atStart=>exact ⟨j,_,_,rfl,Nat.le_refl _,hj,by omega,rfl,h5,hb5w⟩
   case round =>
    obtain ⟨i,tk1,n1,hgk,hji,his,hn1,hrs,hr,hbr⟩:=hrel
    have HG:Hid (gk=s.size - i):=hgk
    have HR:Hid (restToks s (s.size+1 - i) i tk1 n1=restToks s (s.size+1 - j) j (tk'++tokCells k t (skipTo s σ.at_)) (n'+1)):=hrs
    clear hgk hrs h5 hb5w
    have hski:=skipTo_le s i his
    have hatr:=hr.hA.hat
    go_wp2_with fail
    refine (lineEnds_any p s _ wr hr.hA).mono ?_
    rintro ev w6 ⟨rfl,hm6⟩
    have h6:RS B p s (skipTo s i) st'.reverse n1 tk1 w6:=hr.went hm6.went hski.2
    have hb6:Below B w w6:=hbr.trans (hm6.below h.hp)
    have hB6:B≤w6.heap.size:=Nat.le_trans hB hb6.size
    have E6:=E.below hb6
    clear hr hbr hm6
    cases hen:endsB s (skipTo s i)
    ·rw [show endsB s (commentTo s (blanksTo s i))=false from hen]
     have hlt6:=tokAt_le hen
     have HEN:Hid (endsB s (skipTo s i)=false):=hen
     clear hen
     go_wp2_with fail
     refine (token_any B p (skipTo s i) s st'.reverse n1 tk1 a0 w6 h6 E6 hlt6 (by omega)).mono ?_
     intro ev w7 hq
     unfold TPost at hq
     cases htk:tokAt s (skipTo s i) with
     | none =>
      rw [htk] at hq
      have HL:Hid (lineStep s σ = .error (skipTo s i)):=lineStep_rest HE.out HST.out HTK.out (HR.out.symm.trans (restToks_none his HEN.out htk))
      clear htk
      obtain ⟨b,rfl,t1,t2,t3⟩:=hq
      go_wp2
      exact ⟨rfl,LPost.err HL.out ⟨b,rfl,hb6.trans t1,t2,t3⟩⟩
     | some z =>
      obtain ⟨k2,t2,j2⟩:=z
      rw [htk] at hq
      obtain ⟨rfl,h7,hb7,hj2⟩:=hq
      have hj2lt:=tokAt_lt htk
      have hgo:=restToks_go (tk:=tk1) (n:=n1) his HEN.out htk
      have HGO:Hid (restToks s (s.size+1 - i) i tk1 n1=restToks s (s.size+1 - j2) j2 (tk1++tokCells k2 t2 (skipTo s i)) (n1+1)):=hgo
      clear htk hgo
      have hb7w:=hb6.trans hb7
      have hbj2:=blanksTo_le s j2 hj2
      go_wp2_with fail
      refine (passBlanks_any p s j2 w7 h7.hA).mono ?_
      rintro ev w8 ⟨rfl,hm8⟩
      have h8:=h7.went hm8.went hbj2.2
      have hb8:=hb7w.trans (hm8.below h.hp)
      clear h7 hm8 hb7 hb7w h6 E6 hb6
      go_wp2_with fail
      go_roundg (s.size - j2)
      case measure=>have:=HG.out;omega
      case rel=>exact ⟨j2,_,_,rfl,by omega,hj2,by omega,HGO.out.symm.trans HR.out,h8,hb8⟩
    ·rw [show endsB s (commentTo s (blanksTo s i))=true from hen]
     have HL:Hid (lineStep s σ = .ok ⟨afterLine s (skipTo s i),st',n1+1,tk1++tokCells kNewline ⟨#[]⟩ (skipTo s i)⟩):=lineStep_ok HE.out HST.out HTK.out (HR.out.symm.trans (restToks_stop his hen))
     clear hen
     have hatc:=h6.hA.c1
     go_wp2_with fail
     refine (add_any B p s (skipTo s i) st'.reverse n1 tk1 w6 _ _ (skipTo s i) h6 hB6 (by omega)).mono ?_
     rintro ev w7 ⟨rfl,h7,hb7⟩
     have hb7w:=hb6.trans hb7
     clear hatc h6 hb7
     generalize hse:skipTo s i=e at h7 hski HL ⊢
     obtain ⟨_,_,c0,c1,f1⟩:=h7.hA
     clear hse
     by_cases hle:e<s.size
     ·have hI:(e:Int)<(s.size:Int):=by omega
      go_wp2_with fail
      go_quiet (fail)
      go_wp2_with fail
      go_end0
      have hm8:=((Moved.refl c1).drewN nq).trans (Moved.set ((Moved.refl c1).drewN nq).at_ (e+1))
      refine LPost.ok HL.out ?_ (hb7w.trans (hm8.below h.hp))
      have ea:afterLine s e=e+1:=by simp [afterLine,hle]
      rw [ea]
      exact h7.went hm8.went (show e+1≤s.size by omega)
     ·have hd:decide ((e:Int)<(s.size:Int))=false:=by simp;omega
      go_wp2_with fail
      go_quiet (fail)
      go_wp2_with fail
      go_end0
      have hm8:=(Moved.refl c1).drewN nq
      refine LPost.ok HL.out ?_ (hb7w.trans (hm8.below h.hp))
      have ea:afterLine s e=e:=by simp [afterLine,hle]
      rw [ea]
      exact h7.went hm8.went hski.2
end Go.Proofs.YtpcjcgkpjapbpaaGreatDoor
