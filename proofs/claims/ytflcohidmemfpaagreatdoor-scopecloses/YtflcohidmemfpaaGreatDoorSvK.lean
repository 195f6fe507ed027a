/- Package scope: names. -/
import Derived.Test.YtflcohidmemfpaaGreatDoorSvJ
import Derived.Test.YtflcohidmemfpaaGreatDoorIter
import Derived.Maps.OwnSet
import Derived.Sort.KeysCollected
set_option linter.all false
namespace Go.Proofs.YtflcohidmemfpaaGreatDoor
open Go.Proofs.Tryz
open Go.RowKit Go.Maps
open Go.Proofs (encStr)

theorem Zkl {D:DataW Unit} (hm:IsMap D) {b:List UInt8} (h:has D (.string b)=true):b∈strKeys D:=by
 obtain ⟨es,rfl⟩:=hm
 rw [has_eq,List.any_eq_true] at h
 obtain ⟨p,hp,hs⟩:=h
 have e:=WideAt.sameKey_eq hs
 show b∈es.map fun p=>strOf p.1
 exact List.mem_map.2 ⟨p,hp,by rw [e];rfl⟩
theorem Zdn {w:World}{R:Value→Option (DataW Unit × List MemPlace)}{b n:Nat}{D:DataW Unit} (hown:w.ownsMap prog 9 R b n D):(strKeys D).Nodup:=by
 obtain ⟨es,hD,hpw,_⟩:=hown.entries Zff
 obtain ⟨es',hD',hko⟩:=hown.keysOf
 obtain rfl:es=es':=by rw [hD] at hD';simpa using hD'
 subst hD
 have hk:∀ p∈es,∃ x,p.1 = .string x:=fun p hp=>by
  obtain ⟨v,hv⟩:=hko p hp
  obtain ⟨x,_,hx,_⟩:=Maps.keyOf_str underlying9 hv
  exact ⟨x,hx⟩
 show (es.map fun p=>strOf p.1).Nodup
 refine List.pairwise_map.2 (hpw.imp_of_mem fun {p q} hp' hq' hne e=>hne ?_)
 obtain ⟨a,ha⟩:=hk p hp'
 obtain ⟨b,hb⟩:=hk q hq'
 rw [ha,hb] at e ⊢
 exact congrArg _ e
def ofB (b:List UInt8):ByteArray:=⟨b.toArray⟩
theorem Zb2 (b:List UInt8):(ofB b).data.toList=b:=by simp [ofB]
theorem Zzb (s:ByteArray):ofB s.data.toList=s:=by
 apply WideShapes.bytes_inj
 rw [Zb2]
def Zll (ks:List ByteArray):Prop:=ks.Pairwise (fun a b=>a.data.toList<b.data.toList)
theorem Zrf {ss:List (List UInt8)} (h:ss.Nodup):Zll ((ss.mergeSort (fun x y=>decide (x≤y))).map ofB):=by
 have tr:∀ a b c:List UInt8,leB a b=true→leB b c=true→leB a c=true:=fun a b c h1 h2=>by
  simp only [leB,decide_eq_true_eq] at *
  exact List.le_trans h1 h2
 have tt:∀ a b:List UInt8,(leB a b || leB b a)=true:=fun a b=>by
  simp only [leB,Bool.or_eq_true,decide_eq_true_eq]
  exact List.le_total a b
 have hp:(ss.mergeSort leB).Pairwise (fun a b=>leB a b=true):=List.pairwise_mergeSort tr tt ss
 have hn:(ss.mergeSort leB).Nodup:=(List.mergeSort_perm ss leB).nodup_iff.2 h
 refine List.pairwise_map.2 ((hp.and hn).imp fun {a b} hab => ?_)
 rw [Zb2,Zb2]
 have h1:a≤b:=by simpa [leB] using hab.1
 exact List.not_le.1 (fun h2=>hab.2 (List.le_antisymm h1 h2))
set_option maxHeartbeats 4000000 in
set_option maxRecDepth 100000 in
theorem Zhn {B:Nat}{w:World}{x:SD} (h:SpAt B w x) (hk:x.k≤5000000000000):Calls prog 19 #[.pointer (some ⟨x.b,0,none⟩)] w fun ev w'=>Below w.heap.size w w' ∧ ∃ (v:Value) (ks:List ByteArray),ev = .returned v∧w'.ownsRow w.heap.size 9 1 v ks.length (ks.map Value.string)∧(∀ s,x.bits s≠0→s∈ks)∧(∀ s∈ks,s.size≤maxLen∧has x.D (.string s.data.toList)=true)∧Zll ks∧ks.length≤x.k:=by
 obtain ⟨_,_,_,c6,_,_⟩:=Z2t h
 have hbl:=Z02 c6
 have hsz:=h.own.size_le
 have HK:=Z01 (callsIn_wide.1 (Zem (some x.m) w))
 have HS:=Z01 (callsIn_wide.1 (Zc5 x.m x.k x.D _ w h.own (by unfold maxLen;omega) (by omega)))
 have H:=Z01 h
 clear h
 go_enter func19,ntmps19
 go_wp2_with fail
 refine HK.out.mono ?_
 rintro ev w1 ⟨rfl,rfl⟩
 go_wp2_with fail
 refine HS.out.mono ?_
 rintro ev w2 ⟨v,ss,rfl,hp,hrow,_,hb⟩
 have hb2:Below w.heap.size w w2:=((Below.refl _ _).alloc (Nat.le_refl _) _).trans (hb.mono (by simp))
 have HR:Hid (∃ (ks:List ByteArray),w2.ownsRow w.heap.size 9 1 v ks.length (ks.map Value.string)∧(∀ s,x.bits s≠0→s∈ks)∧(∀ s∈ks,s.size≤maxLen∧has x.D (.string s.data.toList)=true)∧Zll ks∧ks.length≤x.k):=by
  refine ⟨(ss.mergeSort (fun x y=>decide (x≤y))).map ofB,?_,fun s hs => ?_,fun s hs => ?_,Zrf (hp.nodup_iff.2 (Zdn H.out.own)),?_⟩
  ·have e1:((ss.mergeSort (fun x y=>decide (x≤y))).map ofB).length=ss.length:=by simp
   have e2:((ss.mergeSort (fun x y=>decide (x≤y))).map ofB).map Value.string=(ss.mergeSort (fun x y=>decide (x≤y))).map encStr:=by
    rw [List.map_map]
    rfl
   rw [e1,e2]
   refine ⟨hrow.1,hrow.2.imp id ?_⟩
   rintro ⟨g,cap,cur,q1,q2,q3⟩
   exact ⟨g,cap,cur,q1,by simp at q2;omega,q3⟩
  ·have hh:has x.D (.string s.data.toList)=true:=by
    cases hq:has x.D (.string s.data.toList) with
    | true=>rfl
    | false =>
     exfalso
     apply hs
     have:x.mk' s 0:=atKey_of_not_has hq _
     exact Zkf this
   have:=hp.mem_iff.2 (Zkl H.out.ok.map hh)
   refine List.mem_map.2 ⟨s.data.toList,?_,Zzb s⟩
   exact (List.mergeSort_perm ss _).mem_iff.2 this
  ·obtain ⟨b,hb1,rfl⟩:=List.mem_map.1 hs
   have hb2:=hp.mem_iff.1 ((List.mergeSort_perm ss _).mem_iff.1 hb1)
   have hl:=strKeys_le H.out.own underlying9 b hb2
   refine ⟨?_,?_⟩
   ·show b.toArray.size≤maxLen
    rw [List.size_toArray]
    exact hl
   ·rw [Zb2]
    obtain ⟨es,hes⟩:=H.out.ok.map
    rw [hes] at hb2 ⊢
    obtain ⟨p,hp1,rfl⟩:=List.mem_map.1 (show b∈es.map fun p=>strOf p.1 from hb2)
    obtain ⟨es',hD',hko⟩:=H.out.own.keysOf
    obtain rfl:es=es':=by rw [hes] at hD';simpa using hD'
    obtain ⟨vv,hv⟩:=hko p hp1
    obtain ⟨y,_,hy,_⟩:=Maps.keyOf_str underlying9 hv
    rw [has_eq,List.any_eq_true]
    exact ⟨p,hp1,by rw [hy];simp [Lit.sameKey,strOf]⟩
  ·rw [List.length_map,List.length_mergeSort,hp.length_eq]
   obtain ⟨es,hes⟩:=H.out.ok.map
   have:(strKeys x.D).length=Maps.size x.D:=by rw [hes];simp [strKeys,Maps.size]
   omega
 clear hp hrow hb
 go_wp2_with fail
 go_ret
 obtain ⟨ks,hks⟩:=HR.out
 exact ⟨hb2,v,ks,rfl,hks⟩
end Go.Proofs.YtflcohidmemfpaaGreatDoor
namespace Go.Proofs.YtflcohidmemfpaaGreatDoor
open Go.Proofs.Tryz
open Go.RowKit Go.Maps
open Go.Proofs (encStr)

theorem Zna:∀ n:Fin 64,beB (n.val ||| 16)=beB n.val∧shB (n.val ||| 16)=true∧frB (n.val ||| 16)=frB n.val∧beB (n.val ||| 32)=beB n.val∧shB (n.val ||| 32)=shB n.val∧frB (n.val ||| 32)=true:=by decide
theorem Zvl {x:SD} (h:SpOK x) (s t:ByteArray) (a k:Nat):(⟨x.b,x.m,k,x.nm,x.ar,x.pn,x.D.put (.string s.data.toList) (.lit (.int .i64 ((x.bits s ||| a:Nat):Int))),x.v,x.od⟩:SD).bits t=if t=s then x.bits s ||| a else x.bits t:=by
 have h1:=(h.bit s).1
 have h2:=(h.bit t).1
 have:=Zqj h.map h1 (⟨x.b,x.m,k,x.nm,x.ar,x.pn,x.D.put (.string s.data.toList) (.lit (.int .i64 ((x.bits s ||| a:Nat):Int))),x.v,x.od⟩:SD) rfl t _ h2
 rw [Zkf this]
 split
 next e=>rw [e]
 next=>rfl
def SD.mark (x:SD) (s:ByteArray) (a:Nat):SD:=⟨x.b,x.m,x.k,x.nm,x.ar,x.pn,x.D.put (.string s.data.toList) (.lit (.int .i64 ((x.bits s ||| a:Nat):Int))),x.v,x.od⟩
theorem Z9d {x:SD} (h:SpOK x) (s t:ByteArray) (a:Nat):(x.mark s a).bits t=if t=s then x.bits s ||| a else x.bits t:=Zvl h s t a x.k
def Zjp (U:List (List UInt8)) (x:SD):Prop:=∀ b,has x.D (.string b)=true→b∈U
theorem Zh1:∀ (l U:List (List UInt8)),l.Nodup→(∀ b∈l,b∈U)→l.length≤U.length
 | [],U,_,_=>Nat.zero_le _
 | x::l,U,hn,hs=>by
  obtain ⟨h1,h2⟩:=List.nodup_cons.1 hn
  have hx:=hs x List.mem_cons_self
  have:=Zh1 l (U.erase x) h2 (fun b hb=>(List.mem_erase_of_ne (fun e:b=x=>h1 (by rw [←e];exact hb))).2 (hs b (List.mem_cons_of_mem _ hb)))
  rw [List.length_erase_of_mem hx] at this
  have:=List.length_pos_of_mem hx
  rw [List.length_cons]
  omega
theorem Zp5 {w:World}{B:Nat}{U:List (List UInt8)}{x:SD} (h:SpAt B w x) (hU:Zjp U x):Maps.size x.D≤U.length:=by
 obtain ⟨es,hes⟩:=h.ok.map
 have e:(strKeys x.D).length=Maps.size x.D:=by rw [hes];simp [strKeys,Maps.size]
 rw [←e]
 have hn:=Zdn h.own
 refine Zh1 _ _ hn (fun b hb=>hU b ?_)
 have hb':=hb
 rw [hes] at hb' ⊢
 obtain ⟨p,hp1,rfl⟩:=List.mem_map.1 (show b∈es.map fun p=>strOf p.1 from hb')
 obtain ⟨es',hD',hko⟩:=h.own.keysOf
 obtain rfl:es=es':=by rw [hes] at hD';simpa using hD'
 obtain ⟨vv,hv⟩:=hko p hp1
 obtain ⟨y,_,hy,_⟩:=Maps.keyOf_str underlying9 hv
 rw [has_eq,List.any_eq_true]
 exact ⟨p,hp1,by rw [hy];simp [Lit.sameKey,strOf]⟩
theorem Zl3 {w:World}{k:TypeId}{R:Value→Option (DataW Unit × List MemPlace)}{b n m:Nat}{D:DataW Unit} (h:w.ownsMap prog k R b n D) (hm:Maps.size D≤m):w.ownsMap prog k R b m D:=by
 obtain ⟨es,clock,h1,h2,h3,h4⟩:=h
 refine ⟨es,clock,h1,h2,?_,h4⟩
 have e:Maps.size D=es.size:=by rw [h4];simp [Maps.size,length_sorted]
 omega
theorem Zql {B K:Nat}{U:List (List UInt8)}{w w':World}{x:SD}{s:ByteArray}{a:Nat} (h:SpAt B w x) (hk:x.k=K) (hK:U.length=K) (hU:Zjp U x) (hs:s.data.toList∈U) (ha:a=16∨a=32) (ho:w'.ownsMap prog 9 (plainElem prog 3) x.m (x.k+1) (x.D.put (.string s.data.toList) (.lit (.int .i64 ((x.bits s ||| a:Nat):Int))))) (hg:w.grownBy w' (some x.m)):SpAt B w' (x.mark s a)∧Ex x.has w w'∧Zjp U (x.mark s a):=by
 obtain ⟨h1,h2,h3⟩:=h.ok.bit s
 have hl:x.bits s ||| a<64:=by
  have:=Zve ⟨x.bits s,h2⟩
  rcases ha with rfl | rfl
  ·exact this.2.2.2.2.1
  ·exact this.2.2.2.2.2
 have hbd:bdB (x.bits s ||| a)=bdB (x.bits s):=by
  have:=Zy5 ⟨x.bits s,h2⟩
  rcases ha with rfl | rfl
  ·exact this.2.2.2.1
  ·exact this.2.2.2.2
 obtain ⟨p1,p2⟩:=Zhq (m:=a) h h1 hl (fun hb=>h3 (by rw [←hbd];exact hb)) ho hg
 have hU':Zjp U (x.mark s a):=fun b hb=>by
  by_cases e:b=s.data.toList
  ·rw [e]
   exact hs
  ·refine hU b ?_
   have:has (x.D.put (.string s.data.toList) (.lit (.int .i64 ((x.bits s ||| a:Nat):Int)))) (.string b)=true:=hb
   rw [has_put_other (fun h=>e (by cases h;rfl))] at this
   exact this
 have hsz:Maps.size (x.mark s a).D≤K:=by
  rw [←hK]
  exact Zp5 (x:=⟨x.b,x.m,x.k+1,x.nm,x.ar,x.pn,(x.mark s a).D,x.v,x.od⟩) p1 hU'
 refine ⟨⟨p1.blk,?_,p1.row,p1.hb,p1.hm,⟨p1.ok.map,p1.ok.all,p1.ok.ods⟩⟩,p2,hU'⟩
 show w'.ownsMap _ _ _ x.m x.k _
 rw [hk]
 exact Zl3 ho hsz
theorem SPS.turn {B i:Nat}{l:List SD}{v:Value}{w w':World}{x x':SD} (h:SPS B l v w) (hi:l[i]?=some x) (hx:SpAt B w' x') (h1:x'.b=x.b) (h2:x'.m=x.m) (h3:x'.v=x.v) (h4:x'.ar=x.ar) (he:Ex x.has w w'):SPS B (l.set i x') v w':=by
 have hX:=h.sp.all i x hi
 have hlen:(l.set i x').length=l.length:=List.length_set
 refine ⟨?_,h.sp.turn hi he hx h1 h2 (fun g hg=>.inl (by rw [←h3];exact hg)),fun j y hj => ?_,by rw [hlen];exact h.len⟩
 ·rw [hlen,Za6 Z4m hi (by simp only [Z4m,h1])]
  refine Z1a h.row (fun g hg => ?_)
  obtain ⟨_,cur,e⟩:=Z0d h.row hg
  exact he.block g (Z00 e) (Z1r hX e (by decide) (by decide))
 ·by_cases e:i=j
  ·subst e
   rw [List.getElem?_set_self (List.getElem?_eq_some_iff.1 hi).1] at hj
   cases hj
   rw [h4]
   exact h.ar i x hi
  ·rw [List.getElem?_set_ne e] at hj
   exact h.ar j y hj
def Zo8 (l:List SD) (P:ByteArray→Nat→Prop):Prop:=∀ (i:Nat) (x:SD) (t:ByteArray),l[i]?=some x→frB (x.bits t)=true→0<i∧beB (x.bits t)=false ∧ ∃ (u:Nat) (y:SD),x.ar=(u:Int)∧0<u∧l[u]?=some y∧(frB (y.bits t)=true∨(beB (y.bits t)=true∧shB (y.bits t)=true)∨P t u)
structure SE (B K:Nat) (U:List (List UInt8)) (l:List SD) (v:Value) (P:ByteArray→Nat→Prop) (w:World):Prop where
 sps:SPS B l v w
 lo:∀ (i:Nat) (x:SD),l[i]?=some x→x.k=K∧Zjp U x
 hK:U.length=K
 fr:Zo8 l P
structure Kin (l l':List SD):Prop where
 len:l'.length=l.length
 ar:arN l'=arN l
 b:∀ (i:Nat) (x:SD),l[i]?=some x → ∃ x',l'[i]?=some x'∧x'.b=x.b∧x'.od=x.od
 be:∀ (s:ByteArray) (i:Nat),beB (Z30 l' s i)=beB (Z30 l s i)
theorem Kin.refl (l:List SD):Kin l l:=⟨rfl,rfl,fun _ x h=>⟨x,h,rfl,rfl⟩,fun _ _=>rfl⟩
theorem Kin.trans {a b c:List SD} (h:Kin a b) (k:Kin b c):Kin a c:=⟨k.len.trans h.len,k.ar.trans h.ar,fun i x hi=>by
 obtain ⟨y,hy,e,o⟩:=h.b i x hi
 obtain ⟨z,hz,e2,o2⟩:=k.b i y hy
 exact ⟨z,hz,e2.trans e,o2.trans o⟩,fun s i=>(k.be s i).trans (h.be s i)⟩
theorem Zle {l:List SD}{i:Nat}{x:SD} (hi:l[i]?=some x) (hx:SpOK x) (s:ByteArray) {a:Nat} (ha:a=16∨a=32):Kin l (l.set i (x.mark s a)):=by
 have hil:=(List.getElem?_eq_some_iff.1 hi).1
 refine ⟨List.length_set,?_,fun j y hj => ?_,fun t j => ?_⟩
 ·funext j
  unfold arN
  by_cases e:i=j
  ·subst e
   rw [List.getElem?_set_self hil,hi]
   rfl
  ·rw [List.getElem?_set_ne e]
 ·by_cases e:i=j
  ·subst e
   rw [hi] at hj
   cases hj
   exact ⟨x.mark s a,List.getElem?_set_self hil,rfl,rfl⟩
  ·exact ⟨y,by rw [List.getElem?_set_ne e];exact hj,rfl,rfl⟩
 ·unfold Z30
  by_cases e:i=j
  ·subst e
   rw [List.getElem?_set_self hil,hi]
   simp only
   rw [Z9d hx]
   split
   next e =>
    rw [e]
    have:=Zna ⟨x.bits s,(hx.bit s).2.1⟩
    rcases ha with rfl | rfl
    ·exact this.1
    ·exact this.2.2.2.1
   next=>rfl
  ·rw [List.getElem?_set_ne e]
theorem Zko {l:List SD}{i:Nat}{x:SD} (hi:l[i]?=some x) (hx:SpOK x) (s:ByteArray) (a:Nat) {j:Nat}{y':SD} (hj:(l.set i (x.mark s a))[j]?=some y'):∃ y,l[j]?=some y∧y'.ar=y.ar ∧ ∀ t,y'.bits t=if j=i∧t=s then y.bits t ||| a else y.bits t:=by
 have hil:=(List.getElem?_eq_some_iff.1 hi).1
 by_cases e:i=j
 ·subst e
  rw [List.getElem?_set_self hil] at hj
  cases hj
  refine ⟨x,hi,rfl,fun t => ?_⟩
  rw [Z9d hx]
  by_cases e:t=s
  ·subst e
   simp
  ·simp [e]
 ·rw [List.getElem?_set_ne e] at hj
  exact ⟨y',hj,rfl,fun t=>by rw [if_neg (fun h=>e h.1.symm)]⟩
theorem Zjt {l:List SD}{i:Nat}{x:SD} (hi:l[i]?=some x) (hx:SpOK x) (s:ByteArray) (a:Nat) {j:Nat}{y:SD} (hj:l[j]?=some y):∃ y',(l.set i (x.mark s a))[j]?=some y'∧y'.ar=y.ar ∧ ∀ t,y'.bits t=if j=i∧t=s then y.bits t ||| a else y.bits t:=by
 have hil:=(List.getElem?_eq_some_iff.1 hi).1
 by_cases e:i=j
 ·subst e
  rw [hi] at hj
  cases hj
  refine ⟨x.mark s a,List.getElem?_set_self hil,rfl,fun t => ?_⟩
  rw [Z9d hx]
  by_cases e:t=s
  ·subst e
   simp
  ·simp [e]
 ·exact ⟨y,by rw [List.getElem?_set_ne e];exact hj,rfl,fun t=>by rw [if_neg (fun h=>e h.1.symm)]⟩
theorem Zkv {l:List SD}{B:Nat}{w:World} (h:SpL B w l) {j:Nat}{y:SD} (hj:l[j]?=some y) (t:ByteArray):y.bits t<64:=((h.all j y hj).ok.bit t).2.1
theorem Ztq {B:Nat}{w:World}{l:List SD}{P:ByteArray→Nat→Prop} (h:Zo8 l P) (hs:SpL B w l) {i:Nat}{x:SD} (hi:l[i]?=some x) (s:ByteArray):Zo8 (l.set i (x.mark s 16)) P:=by
 have hx:=(hs.all i x hi).ok
 intro j y' t hj hf
 obtain ⟨y,hy,ea,eb⟩:=Zko hi hx s 16 hj
 have h64:=Zna ⟨y.bits t,Zkv hs hy t⟩
 have f1:frB (y'.bits t)=frB (y.bits t)∧beB (y'.bits t)=beB (y.bits t):=by
  rw [eb t]
  split
  ·exact ⟨h64.2.2.1,h64.1⟩
  ·exact ⟨rfl,rfl⟩
 obtain ⟨p1,p2,u,z,p3,p4,p5,p6⟩:=h j y t hy (by rw [←f1.1];exact hf)
 obtain ⟨z',hz',_,zb⟩:=Zjt hi hx s 16 p5
 have g64:=Zna ⟨z.bits t,Zkv hs p5 t⟩
 refine ⟨p1,by rw [f1.2];exact p2,u,z',ea.trans p3,p4,hz',?_⟩
 rw [zb t]
 split
 ·rcases p6 with p6 | p6 | p6
  ·exact .inl (by rw [g64.2.2.1];exact p6)
  ·exact .inr (.inl ⟨by rw [g64.1];exact p6.1,g64.2.1⟩)
  ·exact .inr (.inr p6)
 ·exact p6
theorem Zxe {B:Nat}{w:World}{l:List SD}{i:Nat}{x:SD}{s:ByteArray} (h:Zo8 l (fun t u=>t=s∧u=i)) (hs:SpL B w l) (hi:l[i]?=some x) (hi0:0<i) (hbe:beB (x.bits s)=false) {u:Nat} (hu:x.ar=(u:Int)) (hu0:0<u) (hul:u<l.length):Zo8 (l.set i (x.mark s 32)) (fun t u'=>t=s∧u'=u):=by
 have hx:=(hs.all i x hi).ok
 intro j y' t hj hf
 obtain ⟨y,hy,ea,eb⟩:=Zko hi hx s 32 hj
 have h64:=Zna ⟨y.bits t,Zkv hs hy t⟩
 by_cases e:j=i∧t=s
 ·obtain ⟨rfl,rfl⟩:=e
  rw [hi] at hy
  cases hy
  have:=eb t
  rw [if_pos ⟨rfl,rfl⟩] at this
  obtain ⟨z,hz⟩:∃ z,l[u]?=some z:=⟨l[u],by simp [hul]⟩
  obtain ⟨z',hz',_,_⟩:=Zjt hi hx t 32 hz
  exact ⟨hi0,by rw [this,h64.2.2.2.1];exact hbe,u,z',ea.trans hu,hu0,hz',.inr (.inr ⟨rfl,rfl⟩)⟩
 ·have eb:=eb t
  rw [if_neg e] at eb
  rw [eb] at hf
  obtain ⟨p1,p2,u2,z,p3,p4,p5,p6⟩:=h j y t hy hf
  obtain ⟨z',hz',_,zb⟩:=Zjt hi hx s 32 p5
  have g64:=Zna ⟨z.bits t,Zkv hs p5 t⟩
  refine ⟨p1,by rw [eb];exact p2,u2,z',ea.trans p3,p4,hz',?_⟩
  have zb:=zb t
  by_cases e2:u2=i∧t=s
  ·rw [if_pos e2] at zb
   exact .inl (by rw [zb];exact g64.2.2.2.2.2)
  ·rw [if_neg e2] at zb
   rw [zb]
   rcases p6 with p6 | p6 | p6
   ·exact .inl p6
   ·exact .inr (.inl p6)
   ·exact absurd ⟨p6.2,p6.1⟩ e2
theorem Zyh {l:List SD}{s:ByteArray}{m:Nat}{z:SD} (h:Zo8 l (fun t u=>t=s∧u=m)) (hm:l[m]?=some z) (hbe:beB (z.bits s)=true) (hsh:shB (z.bits s)=true):Zo8 l (fun _ _=>False):=fun i x t hi hf=>by
 obtain ⟨p1,p2,u,y,p3,p4,p5,p6⟩:=h i x t hi hf
 refine ⟨p1,p2,u,y,p3,p4,p5,?_⟩
 rcases p6 with p6 | p6 | ⟨rfl,rfl⟩
 ·exact .inl p6
 ·exact .inr (.inl p6)
 ·rw [hm] at p5
  cases p5
  exact .inr (.inl ⟨hbe,hsh⟩)
theorem Zo8.imp {l:List SD}{P Q:ByteArray→Nat→Prop} (h:Zo8 l P) (hp:∀ t u,P t u→Q t u):Zo8 l Q:=fun i x t hi hf=>by
 obtain ⟨p1,p2,u,y,p3,p4,p5,p6⟩:=h i x t hi hf
 exact ⟨p1,p2,u,y,p3,p4,p5,p6.imp id (Or.imp id (hp t u))⟩
theorem Zld {A:Nat→Nat}{g:Nat→Bool} (hA:∀ a,0<a→A a<a):∀ (k a m:Nat),Zfb A g k a m→m≤a
 | 0,a,m,h=>by
  have:a=m:=h
  omega
 | k+1,a,m,h=>by
  have:=Zld hA k _ m h.2.2
  have:=hA a h.1
  omega
end Go.Proofs.YtflcohidmemfpaaGreatDoor
