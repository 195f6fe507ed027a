/- Package tree: statements in memory. -/
import Derived.Test.YtflcohidmemfpaaGreatDoorSsK
set_option linter.all false
namespace Go.Proofs.YtflcohidmemfpaaGreatDoor
open Go.Proofs.Tryz
open Go.RowKit

def mkS (kd nm:ByteArray) (pl:List ByteArray) (el bd es:List (DataW Unit)):DataW Unit:=
 .agg [.lit (.string kd.data.toList),.lit (.string nm.data.toList),.slice (pl.map fun x=>.lit (.string x.data.toList)) [],.slice el [],.slice bd [],.slice es []]
def Z5y (S:Nat→Prop) (w:World) (q:List Value→DataW Unit→Prop) (ba:Option Addr) (bd:List (DataW Unit)):Prop:=
 0<bd.length → ∃ b o,ba=some ⟨b,o,none⟩∧S b ∧ ∀ (i:Nat) (s:DataW Unit),bd[i]?=some s → ∃ c0 c1 c2 c3 c4 c5,w.cell? ⟨b,o+i*6,none⟩=some c0∧w.cell? ⟨b,o+i*6+1,none⟩=some c1∧w.cell? ⟨b,o+i*6+2,none⟩=some c2∧w.cell? ⟨b,o+i*6+3,none⟩=some c3∧w.cell? ⟨b,o+i*6+4,none⟩=some c4∧w.cell? ⟨b,o+i*6+5,none⟩=some c5∧q [c0,c1,c2,c3,c4,c5] s
def Z54 (S:Nat→Prop) (w:World) (pa:Option Addr) (pl:List ByteArray):Prop:=0<pl.length → ∃ b o,pa=some ⟨b,o,none⟩∧S b∧TS w b o pl
def Zsq (S:Nat→Prop) (w:World):Nat→List Value→DataW Unit→Prop
 | 0,_,_=>False
 | n+1,cs,d => ∃ (kd nm:ByteArray) (pl:List ByteArray) (el bd es:List (DataW Unit)) (pa la ba ea:Option Addr) (pc lc bc ec:Nat),
   d=mkS kd nm pl el bd es∧cs = [.string kd,.string nm,.slice pa pl.length pc,.slice la el.length lc,.slice ba bd.length bc,.slice ea es.length ec] ∧
   Z54 S w pa pl∧Z89 S w la el∧Z5y S w (Zsq S w n) ba bd∧Z5y S w (Zsq S w n) ea es∧el.length≤lc
def Zih (S:Nat→Prop) (w:World) (cs:List Value) (d:DataW Unit):Prop:=∃ n,Zsq S w n cs d
def Z1h (S:Nat→Prop) (w:World) (ba:Option Addr) (bd:List (DataW Unit)):Prop:=Z5y S w (Zih S w) ba bd
theorem Z5y.same {S S':Nat→Prop}{w w':World}{q q':List Value→DataW Unit→Prop}{ba:Option Addr}{bd:List (DataW Unit)} (h:Z5y S w q ba bd) (K:Z5i S w w') (hS:∀ b,S b→b<w.heap.size→S' b) (hq:∀ cs d,q cs d→q' cs d):Z5y S' w' q' ba bd:=by
 intro h0
 obtain ⟨b,o,e,hb,hx⟩:=h h0
 have hbl:b<w.heap.size:=by
  obtain ⟨c0,_,_,_,_,_,h1,_⟩:=hx 0 bd[0] (by simp)
  exact Z02 h1
 refine ⟨b,o,e,hS b hb hbl,fun i x hi => ?_⟩
 obtain ⟨c0,c1,c2,c3,c4,c5,h0,h1,h2,h3,h4,h5,hr⟩:=hx i x hi
 exact ⟨c0,c1,c2,c3,c4,c5,K.cell hb h0,K.cell hb h1,K.cell hb h2,K.cell hb h3,K.cell hb h4,K.cell hb h5,hq _ _ hr⟩
theorem Z54.same {S S':Nat→Prop}{w w':World}{pa:Option Addr}{pl:List ByteArray} (h:Z54 S w pa pl) (K:Z5i S w w') (hS:∀ b,S b→b<w.heap.size→S' b):Z54 S' w' pa pl:=fun h0=>by
 obtain ⟨b,o,e,hb,ht⟩:=h h0
 exact ⟨b,o,e,hS b hb (Z02 (ht 0 pl[0] (by simp))),ht.same K hb⟩
theorem Zc6 {S S':Nat→Prop}{w w':World} (K:Z5i S w w') (hS:∀ b,S b→b<w.heap.size→S' b):∀ (n:Nat) (cs:List Value) (d:DataW Unit),Zsq S w n cs d→Zsq S' w' n cs d
 | 0,_,_,h=>h.elim
 | n+1,cs,d,h=>by
  obtain ⟨kd,nm,pl,el,bd,es,pa,la,ba,ea,pc,lc,bc,ec,hd,hcs,h1,h2,h3,h4⟩:=h
  exact ⟨kd,nm,pl,el,bd,es,pa,la,ba,ea,pc,lc,bc,ec,hd,hcs,h1.same K hS,h2.same K hS,h3.same K hS (Zc6 K hS n),h4.1.same K hS (Zc6 K hS n),h4.2⟩
theorem Zih.same {S S':Nat→Prop}{w w':World}{cs:List Value}{d:DataW Unit} (h:Zih S w cs d) (K:Z5i S w w') (hS:∀ b,S b→b<w.heap.size→S' b):Zih S' w' cs d:=by
 obtain ⟨n,hn⟩:=h
 exact ⟨n,Zc6 K hS n _ _ hn⟩
theorem Z1h.same {S S':Nat→Prop}{w w':World}{ba:Option Addr}{bd:List (DataW Unit)} (h:Z1h S w ba bd) (K:Z5i S w w') (hS:∀ b,S b→b<w.heap.size→S' b):Z1h S' w' ba bd:=Z5y.same h K hS (fun _ _ h=>h.same K hS)
theorem Z5y.imp {S:Nat→Prop}{w:World}{q q':List Value→DataW Unit→Prop}{ba:Option Addr}{bd:List (DataW Unit)} (h:Z5y S w q ba bd) (hq:∀ cs d,q cs d→q' cs d):Z5y S w q' ba bd:=h.same (fun _ _ _=>rfl) (fun _ h _=>h) hq
theorem Z71 {S:Nat→Prop}{w:World} : ∀ (n m:Nat) (cs:List Value) (d:DataW Unit),n≤m→Zsq S w n cs d→Zsq S w m cs d
 | 0,_,_,_,_,h=>h.elim
 | n+1,0,_,_,hle,_=>by omega
 | n+1,m+1,cs,d,hle,h=>by
  obtain ⟨kd,nm,pl,el,bd,es,pa,la,ba,ea,pc,lc,bc,ec,hd,hcs,h1,h2,h3,h4⟩:=h
  exact ⟨kd,nm,pl,el,bd,es,pa,la,ba,ea,pc,lc,bc,ec,hd,hcs,h1,h2,h3.imp (fun cs d=>Z71 n m cs d (by omega)),h4.1.imp (fun cs d=>Z71 n m cs d (by omega)),h4.2⟩
theorem Z5y.bound {S:Nat→Prop}{w:World}{ba:Option Addr}{bd:List (DataW Unit)} (h:Z1h S w ba bd):∃ n,Z5y S w (Zsq S w n) ba bd:=by
 by_cases h0:0<bd.length
 ·obtain ⟨b,o,e,hb,hx⟩:=h h0
  obtain ⟨n,hn⟩:=Go.Deep.fuel_lt (n:=bd.length) (q:=fun i m => ∀ s,bd[i]?=some s → ∃ c0 c1 c2 c3 c4 c5,w.cell? ⟨b,o+i*6,none⟩=some c0∧w.cell? ⟨b,o+i*6+1,none⟩=some c1∧w.cell? ⟨b,o+i*6+2,none⟩=some c2∧w.cell? ⟨b,o+i*6+3,none⟩=some c3∧w.cell? ⟨b,o+i*6+4,none⟩=some c4∧w.cell? ⟨b,o+i*6+5,none⟩=some c5∧Zsq S w m [c0,c1,c2,c3,c4,c5] s)
   (fun i x y hxy h e he=>by
    obtain ⟨c0,c1,c2,c3,c4,c5,h0,h1,h2,h3,h4,h5,hr⟩:=h e he
    exact ⟨c0,c1,c2,c3,c4,c5,h0,h1,h2,h3,h4,h5,Z71 x y _ _ hxy hr⟩)
   (fun i hi=>by
    obtain ⟨c0,c1,c2,c3,c4,c5,h0,h1,h2,h3,h4,h5,n,hr⟩:=hx i bd[i] (by simp [hi])
    refine ⟨n,fun e he => ?_⟩
    have:bd[i]=e:=by simpa [hi] using he
    subst this
    exact ⟨c0,c1,c2,c3,c4,c5,h0,h1,h2,h3,h4,h5,hr⟩)
  exact ⟨n,fun _=>⟨b,o,e,hb,fun i x hi=>hn i (List.getElem?_eq_some_iff.1 hi).1 x hi⟩⟩
 ·exact ⟨0,fun h=>absurd h h0⟩
theorem Z2z {S:Nat→Prop}{w:World}{kd nm:ByteArray}{pl:List ByteArray}{el bd es:List (DataW Unit)}{pa la ba ea:Option Addr}{pc lc bc ec:Nat} (h1:Z54 S w pa pl) (h2:Z89 S w la el) (h3:Z1h S w ba bd) (h4:Z1h S w ea es) (hc:el.length≤lc:=by first | (simp;done) | omega) :
  Zih S w [.string kd,.string nm,.slice pa pl.length pc,.slice la el.length lc,.slice ba bd.length bc,.slice ea es.length ec] (mkS kd nm pl el bd es):=by
 obtain ⟨n,hn⟩:=Z5y.bound h3
 obtain ⟨m,hm⟩:=Z5y.bound h4
 exact ⟨max n m+1,kd,nm,pl,el,bd,es,pa,la,ba,ea,pc,lc,bc,ec,rfl,rfl,h1,h2,hn.imp (fun cs d=>Z71 n (max n m) cs d (by omega)),hm.imp (fun cs d=>Z71 m (max n m) cs d (by omega)),hc⟩
theorem Z54.nil (S:Nat→Prop) (w:World) (pa:Option Addr):Z54 S w pa []:=fun h=>absurd h (by simp)
theorem Z89.nil (S:Nat→Prop) (w:World) (la:Option Addr):Z89 S w la []:=fun h=>absurd h (by simp)
theorem Z1h.nil (S:Nat→Prop) (w:World) (ba:Option Addr):Z1h S w ba []:=fun h=>absurd h (by simp)
theorem Zih.form {S:Nat→Prop}{w:World}{c0 c1 c2 c3 c4 c5:Value}{d:DataW Unit} (h:Zih S w [c0,c1,c2,c3,c4,c5] d):∃ (kd nm:ByteArray) (pa:Option Addr) (pn pc:Nat) (la:Option Addr) (ln lc:Nat) (ba:Option Addr) (bn bc:Nat) (ea:Option Addr) (en ec:Nat),c0 = .string kd∧c1 = .string nm∧c2 = .slice pa pn pc∧c3 = .slice la ln lc∧c4 = .slice ba bn bc∧c5 = .slice ea en ec:=by
 obtain ⟨n,hn⟩:=h
 cases n with
 | zero=>exact hn.elim
 | succ n =>
  obtain ⟨kd,nm,pl,el,bd,es,pa,la,ba,ea,pc,lc,bc,ec,_,hcs,_⟩:=hn
  simp only [List.cons.injEq,and_true] at hcs
  exact ⟨kd,nm,pa,pl.length,pc,la,el.length,lc,ba,bd.length,bc,ea,es.length,ec,hcs.1,hcs.2.1,hcs.2.2.1,hcs.2.2.2.1,hcs.2.2.2.2.1,hcs.2.2.2.2.2⟩

def Zal (S:Nat→Prop) (p g cap:Nat) (rk:Value) (l:List (ByteArray × ByteArray × Nat)) (k bl dp:Nat) (a0 a1:Addr) (w:World) (o:Out (List (DataW Unit))) (ev:Ending) (w':World):Prop:=match o with
 | .ok (sl,k') => ∃ ba bc,ev = .returned (.slice ba sl.length bc)∧Z1h S w' ba sl∧RD w' p g cap rk l k' bl dp∧Keeps p w w'∧k≤k'∧k'<l.length
 | .error x=>Z04 l p a0 a1 w x ev w'
def Z41 (f:FuncId) (args:Array Value) (p g cap:Nat) (rk:Value) (l:List (ByteArray × ByteArray × Nat)) (k bl dp:Nat) (a0 a1:Addr) (o:Out (List (DataW Unit))):Prop:=
 ∀ w,RD w p g cap rk l k bl dp→TErr p a0 a1 w→RK p rk w→Calls prog f args w fun ev w'=>Zal (fun b=>w.heap.size≤b) p g cap rk l k bl dp a0 a1 w o ev w'
def Zby (S:Nat→Prop) (p g cap:Nat) (rk:Value) (l:List (ByteArray × ByteArray × Nat)) (k bl dp:Nat) (a0 a1:Addr) (w:World) (o:Out (DataW Unit)) (ev:Ending) (w':World):Prop:=match o with
 | .ok (s,k') => ∃ c0 c1 c2 c3 c4 c5,ev = .returned (.agg #[c0,c1,c2,c3,c4,c5])∧Zih S w' [c0,c1,c2,c3,c4,c5] s∧RD w' p g cap rk l k' bl dp∧Keeps p w w'∧k<k'∧k'<l.length
 | .error x=>Z04 l p a0 a1 w x ev w'
def Z4g (f:FuncId) (args:Array Value) (p g cap:Nat) (rk:Value) (l:List (ByteArray × ByteArray × Nat)) (k bl dp:Nat) (a0 a1:Addr) (o:Out (DataW Unit)):Prop:=
 ∀ w,RD w p g cap rk l k bl dp→TErr p a0 a1 w→RK p rk w→Calls prog f args w fun ev w'=>Zby (fun b=>w.heap.size≤b) p g cap rk l k bl dp a0 a1 w o ev w'
theorem Zby.parts {S:Nat→Prop}{p g cap:Nat}{rk:Value}{l:List (ByteArray × ByteArray × Nat)}{k bl dp:Nat}{a0 a1:Addr}{w:World}{o:Out (DataW Unit)}{ev:Ending}{w':World} (h:Zby S p g cap rk l k bl dp a0 a1 w o ev w') :
  (∃ s k' kd nm pa pn pc la ln lc ba bn bc ea en ec,o = .ok (s,k')∧ev = .returned (.agg #[.string kd,.string nm,.slice pa pn pc,.slice la ln lc,.slice ba bn bc,.slice ea en ec])∧Zih S w' [.string kd,.string nm,.slice pa pn pc,.slice la ln lc,.slice ba bn bc,.slice ea en ec] s∧RD w' p g cap rk l k' bl dp∧Keeps p w w'∧k<k'∧k'<l.length) ∨
  (∃ y b,o = .error y∧ev = .panicked [{ v:=.iface 61 (.pointer (some ⟨b,0,none⟩)),recovered:=false }]∧Z04 l p a0 a1 w y (.panicked [{ v:=.iface 61 (.pointer (some ⟨b,0,none⟩)),recovered:=false }]) w'):=by
 unfold Zby at h
 cases o with
 | error y =>
  obtain ⟨t,g1,b,rfl,g2⟩:=h
  exact .inr ⟨y,b,rfl,rfl,t,g1,b,rfl,g2⟩
 | ok y =>
  obtain ⟨e,k'⟩:=y
  obtain ⟨c0,c1,c2,c3,c4,c5,rfl,hrep,h1,h2,h3,h4⟩:=h
  obtain ⟨kd,nm,pa,pn,pc,la,ln,lc,ba,bn,bc,ea,en,ec,rfl,rfl,rfl,rfl,rfl,rfl⟩:=hrep.form
  exact .inl ⟨e,k',kd,nm,pa,pn,pc,la,ln,lc,ba,bn,bc,ea,en,ec,rfl,rfl,hrep,h1,h2,h3,h4⟩
theorem Zal.parts {S:Nat→Prop}{p g cap:Nat}{rk:Value}{l:List (ByteArray × ByteArray × Nat)}{k bl dp:Nat}{a0 a1:Addr}{w:World}{o:Out (List (DataW Unit))}{ev:Ending}{w':World} (h:Zal S p g cap rk l k bl dp a0 a1 w o ev w') :
  (∃ sl k' ba bc,o = .ok (sl,k')∧ev = .returned (.slice ba sl.length bc)∧Z1h S w' ba sl∧RD w' p g cap rk l k' bl dp∧Keeps p w w'∧k≤k'∧k'<l.length) ∨
  (∃ y b,o = .error y∧ev = .panicked [{ v:=.iface 61 (.pointer (some ⟨b,0,none⟩)),recovered:=false }]∧Z04 l p a0 a1 w y (.panicked [{ v:=.iface 61 (.pointer (some ⟨b,0,none⟩)),recovered:=false }]) w'):=by
 unfold Zal at h
 cases o with
 | error y =>
  obtain ⟨t,g1,b,rfl,g2⟩:=h
  exact .inr ⟨y,b,rfl,rfl,t,g1,b,rfl,g2⟩
 | ok y =>
  obtain ⟨e,k'⟩:=y
  obtain ⟨ba,bc,h0⟩:=h
  exact .inl ⟨e,k',ba,bc,rfl,h0⟩
theorem Z9t.parts {S:Nat→Prop}{p g cap:Nat}{rk:Value}{l:List (ByteArray × ByteArray × Nat)}{k bl dp:Nat}{a0 a1:Addr}{w:World}{o:Out (List (DataW Unit))}{ev:Ending}{w':World} (h:Z9t S p g cap rk l k bl dp a0 a1 w o ev w') :
  (∃ el k' la lc,o = .ok (el,k')∧ev = .returned (.slice la el.length lc)∧Z89 S w' la el∧RD w' p g cap rk l k' bl dp∧Keeps p w w'∧k<k'∧k'<l.length∧el.length≤lc) ∨
  (∃ y b,o = .error y∧ev = .panicked [{ v:=.iface 61 (.pointer (some ⟨b,0,none⟩)),recovered:=false }]∧Z04 l p a0 a1 w y (.panicked [{ v:=.iface 61 (.pointer (some ⟨b,0,none⟩)),recovered:=false }]) w'):=by
 unfold Z9t at h
 cases o with
 | error y =>
  obtain ⟨t,g1,b,rfl,g2⟩:=h
  exact .inr ⟨y,b,rfl,rfl,t,g1,b,rfl,g2⟩
 | ok y =>
  obtain ⟨e,k'⟩:=y
  obtain ⟨la,lc,h0⟩:=h
  exact .inl ⟨e,k',la,lc,rfl,h0⟩
end Go.Proofs.YtflcohidmemfpaaGreatDoor
namespace Go.Proofs.YtflcohidmemfpaaGreatDoor
open Go.Proofs.Tryz
open Go.RowKit

def Z0m (l:List (ByteArray × ByteArray × Nat)) (k:Nat) (kd:List UInt8):Bool:=match l[k]? with
 | some x=>x.1.toList == kd
 | none=>false
theorem Z1t {l:List (ByteArray × ByteArray × Nat)}{k:Nat}{x:ByteArray × ByteArray × Nat} (hx:l[k]?=some x) (kd:List UInt8):Z0m l k kd=(x.1.toList == kd):=by
 unfold Z0m
 rw [hx]
structure TokS (l:List (ByteArray × ByteArray × Nat)):Prop where
 ok:TokOK l
 fin:∀ (k:Nat) (x:ByteArray × ByteArray × Nat),l[k]?=some x→(x.1.toList == [101,110,100])=false→k+1<l.length
theorem TokS.next {l:List (ByteArray × ByteArray × Nat)} (T:TokS l) {k:Nat}{kd:List UInt8} (h:Z0m l k kd=true) (hkd:(kd == [101,110,100])=false):k+1<l.length:=by
 unfold Z0m at h
 split at h
 next x hx =>
  refine T.fin k x hx ?_
  have:x.1.toList=kd:=by simpa using h
  rw [this]
  exact hkd
 next=>cases h
def Z5x (l:List (ByteArray × ByteArray × Nat)) (bl:Nat) (inner:Nat→Out (List (DataW Unit))) (k:Nat):Out (List (DataW Unit)):=
 bif Z0m l k [110,101,119,108,105,110,101] then (bif Z0m l (k+1) [105,110,100,101,110,116] then (if bl=12 then .error (k+1,true) else match inner (k+2) with
  | .error x=>.error x
  | .ok (ss,k')=>bif Z0m l k' [100,101,100,101,110,116] then .ok (ss,k'+1) else .error (k',false)) else .error (k+1,false)) else .error (k,false)
theorem Zh8 {w:World}{p g cap:Nat}{rk:Value}{l:List (ByteArray × ByteArray × Nat)}{k bl dp:Nat} (R:RD w p g cap rk l k bl dp) {z:Int}{n:Nat} (hz:z=(n:Int)):RD (w.setCell ⟨p,3,none⟩ (.int .i64 z)) p g cap rk l k n dp:=by
 rw [hz]
 exact R.blocks n
theorem Zfq:(⟨#[110,101,119,108,105,110,101]⟩:ByteArray).toList = [110,101,119,108,105,110,101]:=by kernel_rfl
theorem Zsd:(⟨#[105,110,100,101,110,116]⟩:ByteArray).toList = [105,110,100,101,110,116]:=by kernel_rfl
theorem Zqx:(⟨#[100,101,100,101,110,116]⟩:ByteArray).toList = [100,101,100,101,110,116]:=by kernel_rfl

set_option maxHeartbeats 4000000 in
set_option maxRecDepth 100000 in
theorem Zp6 {p g cap:Nat}{rk:Value}{l:List (ByteArray × ByteArray × Nat)}{k bl dp:Nat}{a0 a1:Addr} (T:TokS l) (hk:k<l.length) (hbl:bl≤12) (inner:Nat→Out (List (DataW Unit)))
  (h:∀ k',k<k'→k'<l.length→bl<12→Z41 40 #[.pointer (some ⟨p,0,none⟩),.string ⟨#[100,101,100,101,110,116]⟩] p g cap rk l k' (bl+1) dp a0 a1 (inner k')):Z41 114 #[.pointer (some ⟨p,0,none⟩)] p g cap rk l k bl dp a0 a1 (Z5x l bl inner k):=by
 intro w R E X
 have hl:=T.ok.hl
 obtain ⟨x,hx⟩:∃ x,l[k]?=some x:=⟨l[k],by simp [hk]⟩
 have hpl:=Z00 R.blk
 unfold Z5x
 cases hn:Z0m l k [110,101,119,108,105,110,101] with
 | false =>
  simp only [cond_false]
  have hn':=(Z1t hx [110,101,119,108,105,110,101]).symm.trans hn
  have HC:=Z01 (Z6t R E hx ⟨#[110,101,119,108,105,110,101]⟩ (by rw [Zfq];exact hn'))
  clear R E X h
  go_enter func114,ntmps114
  go_wp2_with fail
  refine HC.out.mono ?_
  rintro ev w1 ⟨t,g1,b,rfl,g2⟩
  have HF:Hid (Z04 l p a0 a1 w (k,false) (.panicked [{ v:=.iface 61 (.pointer (some ⟨b,0,none⟩)),recovered:=false }]) w1):=⟨t,g1,b,rfl,g2⟩
  clear g1 g2 HC
  go_wp2_with fail
  exact ⟨rfl,HF.out⟩
 | true =>
  simp only [cond_true]
  have hn':=(Z1t hx [110,101,119,108,105,110,101]).symm.trans hn
  have hk1:=T.next hn (by decide)
  obtain ⟨x1,hx1⟩:∃ x,l[k+1]?=some x:=⟨l[k+1],by simp [hk1]⟩
  have HC:=Z01 (Z9c R hx hl ⟨#[110,101,119,108,105,110,101]⟩ (by rw [Zfq];exact hn'))
  have F0:=Z5s (.string x1.1) (.string x1.2.1) (.int .i64 (x1.2.2:Int))
  have HE:=Z01 E
  have HX:=Z01 X
  clear R E X
  cases hi:Z0m l (k+1) [105,110,100,101,110,116] with
  | false =>
   simp only [cond_false]
   have hi':=(Z1t hx1 [105,110,100,101,110,116]).symm.trans hi
   clear h
   go_enter func114,ntmps114
   go_wp2_with fail
   refine HC.out.mono ?_
   rintro ev w1 ⟨rfl,R1,K1⟩
   clear HC
   go_wp2_with fail
   refine (Z1k R1 hx1).mono ?_
   rintro ev w2 ⟨rfl,hb2⟩
   have R2:=R1.more hb2
   have hp1:=Z00 R1.blk
   have K2:Keeps p w w2:=K1.trans (Keeps.of hb2 (by omega))
   have HC2:=Z01 (Z6t R2 (HE.out.keeps K2) hx1 ⟨#[105,110,100,101,110,116]⟩ (by rw [Zsd];exact hi'))
   have hq:=(R2.cells).2.2.2.1
   clear R1 R2 hb2 K1
   go_wp2_with fail
   refine HC2.out.mono ?_
   rintro ev w3 ⟨t,g1,b,rfl,g2⟩
   have HF:Hid (Z04 l p a0 a1 w (k+1,false) (.panicked [{ v:=.iface 61 (.pointer (some ⟨b,0,none⟩)),recovered:=false }]) w3):=Z04.after K2.below ⟨t,g1,b,rfl,g2⟩
   clear g1 g2 HC2 K2
   go_wp2_with fail
   exact ⟨rfl,HF.out⟩
  | true =>
   simp only [cond_true]
   have hi':=(Z1t hx1 [105,110,100,101,110,116]).symm.trans hi
   have hk2:=T.next hi (by decide)
   by_cases h12:bl=12
   ·subst h12
    rw [if_pos rfl]
    clear h
    have e12:((12:Nat):Int)=12:=rfl
    go_enter func114,ntmps114
    go_wp2_with fail
    refine HC.out.mono ?_
    rintro ev w1 ⟨rfl,R1,K1⟩
    clear HC
    go_wp2_with fail
    refine (Z1k R1 hx1).mono ?_
    rintro ev w2 ⟨rfl,hb2⟩
    have R2:=R1.more hb2
    have hp1:=Z00 R1.blk
    have K2:Keeps p w w2:=K1.trans (Keeps.of hb2 (by omega))
    have hq:=(R2.cells).2.2.2.1
    rw [e12] at hq
    have E2:=HE.out.keeps K2
    have hg1:=E2.g1
    have hgl:=Z02 E2.g1
    have HC2:=Z01 (Z4o R2 hx1 a1)
    clear R1 R2 hb2 K1 E2
    go_wp2_with fail
    refine HC2.out.mono ?_
    rintro ev w3 ⟨b,rfl,hbw,d0,d1⟩
    have HF:Hid (Z04 l p a0 a1 w (k+1,true) (.panicked [{ v:=.iface 61 (.pointer (some ⟨b,0,none⟩)),recovered:=false }]) w3):=⟨x1,hx1,b,rfl,K2.below.trans hbw,d0,d1⟩
    clear hbw d0 d1 HC2 K2
    go_wp2_with fail
    exact ⟨rfl,HF.out⟩
   ·rw [if_neg h12]
    have hb12:((bl:Int) == 12)=false:=by simp;omega
    have hbn:¬ (bl:Int)=12:=by omega
    have hb0:(0:Int)≤(bl:Int):=by omega
    have hb1:(bl:Int)≤12:=by omega
    have HH:=Z01 (h (k+2) (by omega) hk2 (by omega))
    clear h
    obtain ⟨o,ho⟩:∃ o,inner (k+2)=o:=⟨_,rfl⟩
    rw [ho] at HH ⊢
    clear ho
    go_enter func114,ntmps114
    go_wp2_with fail
    refine HC.out.mono ?_
    rintro ev w1 ⟨rfl,R1,K1⟩
    clear HC
    go_wp2_with fail
    refine (Z1k R1 hx1).mono ?_
    rintro ev w2 ⟨rfl,hb2⟩
    have R2:=R1.more hb2
    have hp1:=Z00 R1.blk
    have K2:Keeps p w w2:=K1.trans (Keeps.of hb2 (by omega))
    have hq:=(R2.cells).2.2.2.1
    have HC2:=Z01 (Z9c R2 hx1 hl ⟨#[105,110,100,101,110,116]⟩ (by rw [Zsd];exact hi'))
    have HK2:=Z01 K2
    clear R1 R2 hb2 K1 K2
    go_wp2_with fail
    refine HC2.out.mono ?_
    rintro ev w3 ⟨rfl,R3,K3⟩
    have hq3:=(R3.cells).2.2.2.1
    have hf3:=R3.open_ 3
    have hl3:=Z00 R3.blk
    have R4:RD (w3.setCell ⟨p,3,none⟩ (.int .i64 ((bl:Int)+1))) p g cap rk l (k+1+1) (bl+1) dp:=Zh8 R3 (by omega)
    have K4:Keeps p w (w3.setCell ⟨p,3,none⟩ (.int .i64 ((bl:Int)+1))):=(HK2.out.trans K3).set
    have HC4:=Z01 (HH.out _ R4 (HE.out.keeps K4) (HX.out.keeps K4))
    have HK4:=Z01 K4
    clear R3 R4 K3 K4 HC2
    go_wp2_with fail
    refine HC4.out.mono ?_
    intro ev w5 hP
    rcases hP.parts with ⟨ss,k5,ba,bc,rfl,rfl,hrep5,R5,K5,hk5,hk5l⟩ | ⟨y,b,rfl,rfl,hf⟩
    rotate_left
    ·have HF:=Z01 (Z04.after HK4.out.below hf)
     clear hP HC4 hf
     go_wp2_with fail
     exact ⟨rfl,HF.out⟩
    have hq5:=(R5.cells).2.2.2.1
    have hf5:=R5.open_ 3
    have hl5:=Z00 R5.blk
    have hsz:(w3.setCell ⟨p,3,none⟩ (.int .i64 ((bl:Int)+1))).heap.size=w3.heap.size:=Z1x _ _ _
    have hs4:=HK4.out.below.size
    rw [hsz] at hs4
    have R6:RD (w5.setCell ⟨p,3,none⟩ (.int .i64 (bl:Int))) p g cap rk l k5 bl dp:=Zh8 R5 (by omega)
    have K6:Keeps p w (w5.setCell ⟨p,3,none⟩ (.int .i64 (bl:Int))):=(HK4.out.trans K5).set
    have hr6:Z1h (fun b=>w.heap.size≤b) (w5.setCell ⟨p,3,none⟩ (.int .i64 (bl:Int))) ba ss:=hrep5.same (Z1z (by show ¬ (_≤p);rw [hsz];omega)) (fun b hb _=>by rw [hsz] at hb;omega)
    obtain ⟨x5,hx5⟩:∃ x,l[k5]?=some x:=⟨l[k5],by simp [hk5l]⟩
    have HR6:=Z01 R6
    have HK6:=Z01 K6
    have HRP:=Z01 hr6
    have hbn0:(0:Int)≤((bl+1:Nat):Int):=by omega
    have hbn1:((bl+1:Nat):Int)≤13:=by omega
    clear hP HC4 hrep5 R5 K5 R6 K6 hr6
    cases hd:Z0m l k5 [100,101,100,101,110,116] with
    | false =>
     have hd':=(Z1t hx5 [100,101,100,101,110,116]).symm.trans hd
     have HC6:=Z01 (Z6t HR6.out (HE.out.keeps HK6.out) hx5 ⟨#[100,101,100,101,110,116]⟩ (by rw [Zqx];exact hd'))
     go_wp2_with fail
     refine HC6.out.mono ?_
     rintro ev w7 ⟨t,g1,b,rfl,g2⟩
     have HF:Hid (Zal (fun b=>w.heap.size≤b) p g cap rk l k bl dp a0 a1 w (.error (k5,false)) (.panicked [{ v:=.iface 61 (.pointer (some ⟨b,0,none⟩)),recovered:=false }]) w7):=by
      exact Z04.after HK6.out.below ⟨t,g1,b,rfl,g2⟩
     clear g1 g2 HC6
     go_wp2_with fail
     exact ⟨rfl,HF.out⟩
    | true =>
     have hd':=(Z1t hx5 [100,101,100,101,110,116]).symm.trans hd
     have hk6:=T.next hd (by decide)
     have HC6:=Z01 (Z9c HR6.out hx5 hl ⟨#[100,101,100,101,110,116]⟩ (by rw [Zqx];exact hd'))
     go_wp2_with fail
     refine HC6.out.mono ?_
     rintro ev w7 ⟨rfl,R7,K7⟩
     have HF:Hid (Zal (fun b=>w.heap.size≤b) p g cap rk l k bl dp a0 a1 w (.ok (ss,k5+1)) (.returned (.slice ba ss.length bc)) w7):=by
      exact ⟨ba,bc,rfl,HRP.out.same (K7.same (by show ¬ (_≤p);omega)) (fun b hb _=>hb),R7,HK6.out.trans K7,by omega,hk6⟩
     clear R7 K7 HC6
     go_wp2_with fail
     go_ret
     exact HF.out

def Z2g (l:List (ByteArray × ByteArray × Nat)) (bl:Nat) (inner:Nat→Out (List (DataW Unit))) (k:Nat):Out (List (DataW Unit)):=bif Z09 l k [Z4a] then Z5x l bl inner (k+1) else .error (k,false)
set_option maxHeartbeats 4000000 in
set_option maxRecDepth 100000 in
theorem Zbn {p g cap:Nat}{rk:Value}{l:List (ByteArray × ByteArray × Nat)}{k bl dp:Nat}{a0 a1:Addr} (T:TokS l) (hk:k<l.length) (hbl:bl≤12) (inner:Nat→Out (List (DataW Unit)))
  (h:∀ k',k<k'→k'<l.length→bl<12→Z41 40 #[.pointer (some ⟨p,0,none⟩),.string ⟨#[100,101,100,101,110,116]⟩] p g cap rk l k' (bl+1) dp a0 a1 (inner k')):Z41 79 #[.pointer (some ⟨p,0,none⟩)] p g cap rk l k bl dp a0 a1 (Z2g l bl inner k):=by
 intro w R E X
 have hl:=T.ok.hl
 obtain ⟨x,hx⟩:∃ x,l[k]?=some x:=⟨l[k],by simp [hk]⟩
 unfold Z2g
 rw [Z0r hx]
 have HC:=Z01 (Z2q R E hx hl Z4a)
 have HE:=Z01 E
 have HX:=Z01 X
 cases hm:Z0i x [Z4a] with
 | false =>
  rw [hm] at HC
  clear R E X h
  go_enter func79,ntmps79
  go_wp2_with fail
  refine HC.out.mono ?_
  intro ev w1 hT
  have hT':Z04 l p a0 a1 w (k,false) ev w1:=by simpa using hT
  obtain ⟨t,g1,b,rfl,g2⟩:=hT'
  have HF:Hid (Z04 l p a0 a1 w (k,false) (.panicked [{ v:=.iface 61 (.pointer (some ⟨b,0,none⟩)),recovered:=false }]) w1):=⟨t,g1,b,rfl,g2⟩
  clear g1 g2 HC hT
  go_wp2_with fail
  exact ⟨rfl,HF.out⟩
 | true =>
  rw [hm] at HC
  have hk1:=T.ok.hen.next hx hm
  have HB:=Z01 (Zp6 T hk1 hbl inner (fun k' h1 h2 h3=>h k' (by omega) h2 h3))
  simp only [cond_true]
  obtain ⟨o,ho⟩:∃ o,Z5x l bl inner (k+1)=o:=⟨_,rfl⟩
  rw [ho] at HB ⊢
  clear R E X h ho
  go_enter func79,ntmps79
  go_wp2_with fail
  refine HC.out.mono ?_
  intro ev w1 hT
  have hT':ev = .returned (.tuple #[])∧RD w1 p g cap rk l (k+1) bl dp∧Keeps p w w1:=by simpa using hT
  obtain ⟨rfl,R1,K1⟩:=hT'
  have HB1:=Z01 (HB.out w1 R1 (HE.out.keeps K1) (HX.out.keeps K1))
  have hs1:=K1.below.size
  clear hT HC R1
  go_wp2_with fail
  refine HB1.out.mono ?_
  intro ev w2 hP
  rcases hP.parts with ⟨ss,k5,ba,bc,rfl,rfl,hrep5,R5,K5,hk5,hk5l⟩ | ⟨y,b,rfl,rfl,hf⟩
  rotate_left
  ·have HF:=Z01 (Z04.after K1.below hf)
   clear hP HB1 hf HB
   go_wp2_with fail
   exact ⟨rfl,HF.out⟩
  have HF:Hid (Zal (fun b=>w.heap.size≤b) p g cap rk l k bl dp a0 a1 w (.ok (ss,k5)) (.returned (.slice ba ss.length bc)) w2):=⟨ba,bc,rfl,hrep5.same (fun _ _ _=>rfl) (fun b hb _=>by omega),R5,K1.trans K5,by omega,hk5l⟩
  clear hP HB1 hrep5 R5 K5 HB K1
  go_wp2_with fail
  go_ret
  exact HF.out
end Go.Proofs.YtflcohidmemfpaaGreatDoor
namespace Go.Proofs.YtflcohidmemfpaaGreatDoor
open Go.Proofs.Tryz
open Go.RowKit

theorem Z08 {w:World}{b:Nat}{u0 u1 u2 u3 u4 u5:Value} (h:w.heap[b]?=some (.cells #[u0,u1,u2,u3,u4,u5] 52)) :
  w.cell? ⟨b,0,none⟩=some u0∧w.cell? ⟨b,1,none⟩=some u1∧w.cell? ⟨b,2,none⟩=some u2∧w.cell? ⟨b,3,none⟩=some u3∧w.cell? ⟨b,4,none⟩=some u4∧w.cell? ⟨b,5,none⟩=some u5 ∧ ∀ o,w.frozen? ⟨b,o,none⟩=false:=by
 refine ⟨?_,?_,?_,?_,?_,?_,fun o=>by simp [World.frozen?,h]⟩
 ·rw [cell_of_row w b 0 _ _ _ h];rfl
 ·rw [cell_of_row w b 1 _ _ _ h];rfl
 ·rw [cell_of_row w b 2 _ _ _ h];rfl
 ·rw [cell_of_row w b 3 _ _ _ h];rfl
 ·rw [cell_of_row w b 4 _ _ _ h];rfl
 ·rw [cell_of_row w b 5 _ _ _ h];rfl
def set6 (w:World) (b:Nat) (v0 v1 v2 v3 v4 v5:Value):World:=((((((w.setCell ⟨b,0,none⟩ v0).setCell ⟨b,1,none⟩ v1).setCell ⟨b,2,none⟩ v2).setCell ⟨b,3,none⟩ v3).setCell ⟨b,4,none⟩ v4).setCell ⟨b,5,none⟩ v5)
theorem Znz {w:World}{b:Nat}{u0 u1 u2 u3 u4 u5:Value}{fr:Nat × Nat} (h:w.heap[b]?=some (.cells #[u0,u1,u2,u3,u4,u5] 52 fr)) (v0 v1 v2 v3 v4 v5:Value):(set6 w b v0 v1 v2 v3 v4 v5).heap[b]?=some (.cells #[v0,v1,v2,v3,v4,v5] 52 fr):=by
 unfold set6
 rw [Z0a (Z0a (Z0a (Z0a (Z0a (Z0a h)))))]
 rfl
theorem Zm8 {w:World}{b k:Nat} (h:k≠b) (v0 v1 v2 v3 v4 v5:Value):(set6 w b v0 v1 v2 v3 v4 v5).heap[k]?=w.heap[k]?:=by
 unfold set6
 rw [Z07 _ _ _ _ _ h,Z07 _ _ _ _ _ h,Z07 _ _ _ _ _ h,Z07 _ _ _ _ _ h,Z07 _ _ _ _ _ h,Z07 _ _ _ _ _ h]
theorem RD.set6 {w:World}{p g cap:Nat}{rk:Value}{l:List (ByteArray × ByteArray × Nat)}{k bl dp b:Nat} (R:RD w p g cap rk l k bl dp) (hp:p≠b) (hg:g≠b) (v0 v1 v2 v3 v4 v5:Value):RD (Go.Proofs.YtflcohidmemfpaaGreatDoor.set6 w b v0 v1 v2 v3 v4 v5) p g cap rk l k bl dp:=
 (((((R.other hp hg).other hp hg).other hp hg).other hp hg).other hp hg).other hp hg
theorem Keeps.set6 {p b:Nat}{w w':World} (h:Keeps p w w') (hp:p≤b) (hb:w.heap.size≤b) (v0 v1 v2 v3 v4 v5:Value):Keeps p w (Go.Proofs.YtflcohidmemfpaaGreatDoor.set6 w' b v0 v1 v2 v3 v4 v5):=
 (((((h.other hp hb).other hp hb).other hp hb).other hp hb).other hp hb).other hp hb
theorem Zsi {S:Nat→Prop}{w:World}{b:Nat} (h:¬ S b) (v0 v1 v2 v3 v4 v5:Value):Z5i S w (set6 w b v0 v1 v2 v3 v4 v5):=fun k hk _=>Zm8 (b:=b) (k:=k) (fun e=>h (by rw [←e];exact hk)) _ _ _ _ _ _ 
theorem Z0e (f:Func) (r:Nat) (hr:f.results = #[.cell r 52]) (tmps:Array Value) (W:World) (b:Nat) (v0 v1 v2 v3 v4 v5:Value) (h2:tmps[r]?.getD undef = .pointer (some ⟨b,0,none⟩)) (hb:W.heap[b]?=some (.cells #[v0,v1,v2,v3,v4,v5] 52)) :
  (results f tmps).run prog W = .ok (.agg #[v0,v1,v2,v3,v4,v5]) W:=by
 obtain ⟨c0,c1,c2,c3,c4,c5,_⟩:=Z08 hb
 simp [results,hr,go_sem,h2,c0,c1,c2,c3,c4,c5]

structure StAt (p g cap:Nat) (rk:Value) (l:List (ByteArray × ByteArray × Nat)) (bl dp:Nat) (w:World) (B k2:Nat) (wx:World):Prop where
 rd:RD wx p g cap rk l k2 bl dp
 ks:Keeps p w wx
 b4:wx.heap[B]?=some (.cells #[.string ⟨#[]⟩,.string ⟨#[]⟩,.slice none 0 0,.slice none 0 0,.slice none 0 0,.slice none 0 0] 52)
 pl:p<w.heap.size
 gl:g<w.heap.size
 wB:w.heap.size≤B
theorem StAt.more {p g cap:Nat}{rk:Value}{l:List (ByteArray × ByteArray × Nat)}{k2 bl dp B:Nat}{w wx w':World} (A:StAt p g cap rk l bl dp w B k2 wx) (hb:Below wx.heap.size wx w'):StAt p g cap rk l bl dp w B k2 w':=by
 have hs:=A.ks.below.size
 have hp:=A.pl
 exact ⟨A.rd.more hb,A.ks.trans (Keeps.of hb (by omega)),(hb.block _ (Z00 A.b4)).trans A.b4,A.pl,A.gl,A.wB⟩
theorem StAt.go {p g cap:Nat}{rk:Value}{l:List (ByteArray × ByteArray × Nat)}{k2 k3 bl dp B:Nat}{w wx w':World} (A:StAt p g cap rk l bl dp w B k2 wx) (R:RD w' p g cap rk l k3 bl dp) (K:Keeps p wx w'):StAt p g cap rk l bl dp w B k3 w':=by
 have hp:=A.pl
 have hB:=A.wB
 exact ⟨R,A.ks.trans K,(K.block _ (by omega) (Z00 A.b4)).trans A.b4,A.pl,A.gl,A.wB⟩
theorem Z8j {p g cap:Nat}{rk:Value}{l:List (ByteArray × ByteArray × Nat)}{k bl dp:Nat}{w:World} (R:RD w p g cap rk l k bl dp):StAt p g cap rk l bl dp w w.heap.size k (w.alloc (.cells #[.string ⟨#[]⟩,.string ⟨#[]⟩,.slice none 0 0,.slice none 0 0,.slice none 0 0,.slice none 0 0] 52)):=by
 have hpl:=Z00 R.blk
 have hb0:Below w.heap.size w (w.alloc (.cells #[.string ⟨#[]⟩,.string ⟨#[]⟩,.slice none 0 0,.slice none 0 0,.slice none 0 0,.slice none 0 0] 52)):=(Below.refl _ _).alloc (Nat.le_refl _) _
 exact ⟨R.more hb0,Keeps.of hb0 (by omega),heap_alloc_new w _,hpl,R.gl,Nat.le_refl _⟩
theorem Z1l {S:Nat→Prop}{p g cap:Nat}{rk:Value}{l:List (ByteArray × ByteArray × Nat)}{k2 bl dp B:Nat}{w wx:World}{s:DataW Unit}{c0 c1 c2 c3 c4 c5:Value} (A:StAt p g cap rk l bl dp w B k2 wx) (hrep:Zih S wx [c0,c1,c2,c3,c4,c5] s) (hS:∀ b,S b→B<b) :
  (set6 wx B c0 c1 c2 c3 c4 c5).heap[B]?=some (.cells #[c0,c1,c2,c3,c4,c5] 52)∧Zih (fun b=>w.heap.size≤b) (set6 wx B c0 c1 c2 c3 c4 c5) [c0,c1,c2,c3,c4,c5] s∧RD (set6 wx B c0 c1 c2 c3 c4 c5) p g cap rk l k2 bl dp∧Keeps p w (set6 wx B c0 c1 c2 c3 c4 c5):=by
 have hp:=A.pl
 have hg:=A.gl
 have hB:=A.wB
 exact ⟨Znz A.b4 _ _ _ _ _ _ ,hrep.same (Zsi (fun h=>by have:=hS B h;omega) _ _ _ _ _ _ ) (fun b h _=>by have:=hS b h;omega),A.rd.set6 (by omega) (by omega) _ _ _ _ _ _ ,A.ks.set6 (by omega) hB _ _ _ _ _ _ ⟩
end Go.Proofs.YtflcohidmemfpaaGreatDoor
namespace Go.Proofs.YtflcohidmemfpaaGreatDoor
open Go.Proofs.Tryz
open Go.RowKit

def kFor:ByteArray:=⟨#[102,111,114]⟩
def kIn:ByteArray:=⟨#[105,110]⟩
def kTry:ByteArray:=⟨#[116,114,121]⟩
def Za2:ByteArray:=⟨#[101,120,99,101,112,116]⟩
def Z56 (l:List (ByteArray × ByteArray × Nat)) (k:Nat):ByteArray:=match l[k]? with
 | some x=>x.2.1
 | none=>⟨#[]⟩
theorem Z8l {l:List (ByteArray × ByteArray × Nat)}{k:Nat}{x:ByteArray × ByteArray × Nat} (hx:l[k]?=some x):Z56 l k=x.2.1:=by
 unfold Z56
 rw [hx]
def Z7c (l:List (ByteArray × ByteArray × Nat)) (one blk:Nat→Out (List (DataW Unit))) (k:Nat):Out (DataW Unit):=
 bif Z0m l k [110,97,109,101] then (bif Z09 l (k+1) [kIn] then (match one (k+2) with
  | .error y=>.error y
  | .ok (el,k1)=>match blk k1 with
   | .error y=>.error y
   | .ok (ss,k2)=>.ok (mkS kFor (Z56 l k) [] el ss [],k2)) else .error (k+1,false)) else .error (k,false)
def Z2h (l:List (ByteArray × ByteArray × Nat)) (blk:Nat→Out (List (DataW Unit))) (k:Nat):Out (DataW Unit):=match blk k with
 | .error y=>.error y
 | .ok (ss,k1)=>bif Z09 l k1 [Za2] then (bif Z0m l (k1+1) [110,97,109,101] then (match blk (k1+2) with
   | .error y=>.error y
   | .ok (es,k2)=>.ok (mkS kTry (Z56 l (k1+1)) [] [] ss es,k2)) else .error (k1+1,false)) else .error (k1,false)
theorem StAt.put {p g cap:Nat}{rk:Value}{l:List (ByteArray × ByteArray × Nat)}{k2 bl dp B b o:Nat}{w wx:World}{v:Value} (A:StAt p g cap rk l bl dp w B k2 wx) (hb:B<b):StAt p g cap rk l bl dp w B k2 (wx.setCell ⟨b,o,none⟩ v):=by
 have hp:=A.pl
 have hg:=A.gl
 have hB:=A.wB
 exact ⟨A.rd.other (by omega) (by omega),A.ks.other (by omega) (by omega),(Z07 _ _ _ _ _ (by omega)).trans A.b4,A.pl,A.gl,A.wB⟩
theorem Z4b {w:World}{b o:Nat}{cs:Array Value}{v:Value} (h:w.heap[b]?=some (.cells cs 52)) (cs':Array Value) (e:cs.setIfInBounds o v=cs'):(w.setCell ⟨b,o,none⟩ v).heap[b]?=some (.cells cs' 52):=by
 rw [Z0a h,e]

set_option maxHeartbeats 4000000 in
set_option maxRecDepth 100000 in
theorem Zln {p g cap:Nat}{rk:Value}{l:List (ByteArray × ByteArray × Nat)}{k bl dp:Nat}{a0 a1:Addr} (T:TokS l) (hk:k<l.length) (one blk:Nat→Out (List (DataW Unit)))
  (h1:∀ k',k<k'→k'<l.length→Z4r 78 #[.pointer (some ⟨p,0,none⟩)] p g cap rk l k' bl dp a0 a1 (one k'))
  (h2:∀ k',k<k'→k'<l.length→Z41 79 #[.pointer (some ⟨p,0,none⟩)] p g cap rk l k' bl dp a0 a1 (blk k')):Z4g 80 #[.pointer (some ⟨p,0,none⟩)] p g cap rk l k bl dp a0 a1 (Z7c l one blk k):=by
 intro w R E X
 have hl:=T.ok.hl
 have A0:=Z8j R
 have HE:=Z01 E
 have HX:=Z01 X
 obtain ⟨o,ho⟩:∃ o,Z7c l one blk k=o:=⟨_,rfl⟩
 rw [ho]
 have HO:=Z01 ho
 have HPE:Hid (∀ y ev w',o = .error y→Z04 l p a0 a1 w y ev w'→Zby (fun b=>w.heap.size≤b) p g cap rk l k bl dp a0 a1 w o ev w'):=by
  rintro y ev w' rfl h
  exact h
 have hpl:=A0.pl
 have hgl:=A0.gl
 obtain ⟨x,hx⟩:∃ x,l[k]?=some x:=⟨l[k],by simp [hk]⟩
 have HN:=Z01 (Z66 A0.rd (HE.out.keeps A0.ks) hx hl)
 have HA0:=Z01 A0
 have HH1:=Z01 h1
 have HH2:=Z01 h2
 clear R E X A0 ho h1 h2
 go_enter func80,ntmps80
 go_wp2_with fail
 refine HN.out.mono ?_
 rintro ev w1 (⟨hm,rfl,R1,K1⟩ | ⟨hm,t,g1,b,rfl,g2⟩)
 rotate_left
 ·have ho2:o = .error (k,false):=by
   rw [←HO.out,Z7c,Z1t hx,show (x.1.toList == [110,97,109,101])=false from hm]
   rfl
  have HF:=Z01 (HPE.out _ _ _ ho2 (Z04.after HA0.out.ks.below ⟨t,g1,b,rfl,g2⟩))
  clear g1 g2 HN
  go_wp2_with fail
  exact ⟨rfl,HF.out⟩
 have hkn:Z0m l k [110,97,109,101]=true:=(Z1t hx _).trans hm
 have hk1:=T.next hkn (by decide)
 obtain ⟨x1,hx1⟩:∃ x,l[k+1]?=some x:=⟨l[k+1],by simp [hk1]⟩
 have hba:Below w1.heap.size w1 (w1.alloc (.cells #[.string kFor,.string x.2.1,.slice none 0 0,.slice none 0 0,.slice none 0 0,.slice none 0 0] 52)):=(Below.refl _ _).alloc (Nat.le_refl _) _
 have A1:=(HA0.out.go R1 K1).more hba
 have hB1:(w1.alloc (.cells #[.string kFor,.string x.2.1,.slice none 0 0,.slice none 0 0,.slice none 0 0,.slice none 0 0] 52)).heap[w1.heap.size]?=some (.cells #[.string kFor,.string x.2.1,.slice none 0 0,.slice none 0 0,.slice none 0 0,.slice none 0 0] 52):=heap_alloc_new w1 _
 have hsz:w.heap.size<w1.heap.size:=by
  have h3:=K1.below.size
  simp at h3
  omega
 have HA1:=Z01 A1
 have HB1:=Z01 hB1
 have HC1:=Z01 (Z2q A1.rd (HE.out.keeps A1.ks) hx1 hl kIn)
 clear R1 K1 A1 hB1 hba HN
 go_wp2_with fail
 refine HC1.out.mono ?_
 intro ev w2 hT
 cases hm1:Z0i x1 [kIn] with
 | false =>
 rw [hm1] at hT
 rw [if_neg (by decide)] at hT
 obtain ⟨t,g1,b,rfl,g2⟩:=hT
 have ho2:o = .error (k+1,false):=by
  rw [←HO.out,Z7c,hkn,Z0r hx1,hm1]
  rfl
 have HF:=Z01 (HPE.out _ _ _ ho2 (Z04.after HA1.out.ks.below ⟨t,g1,b,rfl,g2⟩))
 clear g1 g2 HC1
 go_wp2_with fail
 exact ⟨rfl,HF.out⟩
 | true =>
 rw [hm1] at hT
 rw [if_pos rfl] at hT
 obtain ⟨rfl,R2,K2⟩:=hT
 have hk2:=T.ok.hen.next hx1 hm1
 have A2:=HA1.out.go R2 K2
 have hB2:=(K2.block w1.heap.size (by omega) (Z00 HB1.out)).trans HB1.out
 have HC2:=Z01 (HH1.out (k+2) (by omega) hk2 w2 A2.rd (HE.out.keeps A2.ks) (HX.out.keeps A2.ks))
 have HA2:=Z01 A2
 have HB2:=Z01 hB2
 have hlt2:=Z00 hB2
 clear HC1 R2 K2 A2 hB2
 go_wp2_with fail
 refine HC2.out.mono ?_
 intro ev w3 hP
 rcases hP.parts with ⟨el,k3,la,lc,q3,rfl,hL,R3,K3,hk3,hk3l,hcap⟩ | ⟨y,b,q3,rfl,hf⟩
 rotate_left
 ·have ho2:o = .error y:=by
   rw [←HO.out,Z7c,hkn,Z0r hx1,hm1]
   simp only [cond_true,q3]
  have HF:=Z01 (HPE.out _ _ _ ho2 (Z04.after HA2.out.ks.below hf))
  clear hP HC2 hf
  go_wp2_with fail
  exact ⟨rfl,HF.out⟩
 have A3:=HA2.out.go R3 K3
 have hB3:=(K3.block w1.heap.size (by omega) hlt2).trans HB2.out
 obtain ⟨t0,t1,t2,t3,t4,t5,tf⟩:=Z08 hB3
 have tf3:=tf 3
 have tl:=Z00 hB3
 have A4:=A3.put (b:=w1.heap.size) (o:=3) (v:=.slice la el.length lc) hsz
 have hB4:=Z4b (o:=3) (v:=.slice la el.length lc) hB3 #[.string kFor,.string x.2.1,.slice none 0 0,.slice la el.length lc,.slice none 0 0,.slice none 0 0] rfl
 have hL4:Z89 (fun b=>w1.heap.size<b) (w3.setCell ⟨w1.heap.size,3,none⟩ (.slice la el.length lc)) la el:=hL.same (Z1z (by show ¬ (w2.heap.size≤w1.heap.size);omega)) (fun b hb _=>by show w1.heap.size<b;omega)
 have HC4:=Z01 (HH2.out k3 (by omega) hk3l _ A4.rd (HE.out.keeps A4.ks) (HX.out.keeps A4.ks))
 have HA4:=Z01 A4
 have HB4:=Z01 hB4
 have HL4:=Z01 hL4
 have HQ3:=Z01 q3
 have hlt4:=Z00 hB4
 clear hP HC2 R3 K3 A3 hB3 tf A4 hB4 hL hL4 q3
 go_wp2_with fail
 refine HC4.out.mono ?_
 intro ev w5 hP
 rcases hP.parts with ⟨ss,k5,ba,bc,q5,rfl,hS5,R5,K5,hk5,hk5l⟩ | ⟨y,b,q5,rfl,hf⟩
 rotate_left
 ·have ho2:o = .error y:=by
   rw [←HO.out,Z7c,hkn,Z0r hx1,hm1]
   simp only [cond_true,HQ3.out,q5]
  have HF:=Z01 (HPE.out _ _ _ ho2 (Z04.after HA4.out.ks.below hf))
  clear hP HC4 hf
  go_wp2_with fail
  exact ⟨rfl,HF.out⟩
 have A5:=HA4.out.go R5 K5
 have hB5:=(K5.block w1.heap.size (by omega) hlt4).trans HB4.out
 obtain ⟨s0,s1,s2,s3,s4,s5,sf⟩:=Z08 hB5
 have sf4:=sf 4
 have sl:=Z00 hB5
 have A6:=A5.put (b:=w1.heap.size) (o:=4) (v:=.slice ba ss.length bc) hsz
 have hB6:=Z4b (o:=4) (v:=.slice ba ss.length bc) hB5 #[.string kFor,.string x.2.1,.slice none 0 0,.slice la el.length lc,.slice ba ss.length bc,.slice none 0 0] rfl
 have hsx:(w3.setCell ⟨w1.heap.size,3,none⟩ (.slice la el.length lc)).heap.size=w3.heap.size:=Z1x _ _ _
 have hs3:w1.heap.size<w3.heap.size:=tl
 have hL6:Z89 (fun b=>w1.heap.size<b) (w5.setCell ⟨w1.heap.size,4,none⟩ (.slice ba ss.length bc)) la el:=(HL4.out.same (K5.same (by show ¬ (w1.heap.size<p);omega)) (fun b hb _=>hb)).same (Z1z (by show ¬ (w1.heap.size<w1.heap.size);omega)) (fun b hb _=>hb)
 have hS6:Z1h (fun b=>w1.heap.size<b) (w5.setCell ⟨w1.heap.size,4,none⟩ (.slice ba ss.length bc)) ba ss:=hS5.same (Z1z (by show ¬ (_≤w1.heap.size);rw [hsx];omega)) (fun b hb _=>by rw [hsx] at hb;show w1.heap.size<b;omega)
 have ho6:o = .ok (mkS kFor x.2.1 [] el ss [],k5):=by
  rw [←HO.out,Z7c,hkn,Z0r hx1,hm1]
  simp only [cond_true,HQ3.out,q5,Z8l hx]
 have HZ:=Z01 (Z1l (c0:=.string kFor) (c1:=.string x.2.1) (c2:=.slice none 0 0) (c3:=.slice la el.length lc) (c4:=.slice ba ss.length bc) (c5:=.slice none 0 0) A6 (Z2z (kd:=kFor) (nm:=x.2.1) (pl:=[]) (es:=[]) (pc:=0) (lc:=lc) (bc:=bc) (ec:=0) (Z54.nil _ _ none) hL6 hS6 (Z1h.nil _ _ none)) (fun b (hb:w1.heap.size<b)=>by omega))
 obtain ⟨u0,u1,u2,u3,u4,u5,uf⟩:=Z08 A6.b4
 have uf0:=uf 0
 have uf1:=uf 1
 have uf2:=uf 2
 have uf3:=uf 3
 have uf4:=uf 4
 have uf5:=uf 5
 have ul:=Z00 A6.b4
 obtain ⟨q0,q1,q2,qq3,q4,qq5,_⟩:=Z08 hB6
 have HO6:=Z01 ho6
 clear hP HC4 A5 hB5 sf A6 hB6 hL6 hS6 uf hS5 R5 K5 ho6 q5
 go_wp2_with fail
 obtain ⟨z1,z2,z3,z4⟩:=HZ.out
 refine bodyPost_ret (Z0e _ 2 rfl _ _ w.heap.size _ _ _ _ _ _ rfl z1) rfl ?_
 rw [HO6.out]
 exact ⟨_,_,_,_,_,_,rfl,z2,z3,z4,by omega,hk5l⟩
end Go.Proofs.YtflcohidmemfpaaGreatDoor
namespace Go.Proofs.YtflcohidmemfpaaGreatDoor
open Go.Proofs.Tryz
open Go.RowKit

set_option maxHeartbeats 4000000 in
set_option maxRecDepth 100000 in
theorem Zcz {p g cap:Nat}{rk:Value}{l:List (ByteArray × ByteArray × Nat)}{k bl dp:Nat}{a0 a1:Addr} (T:TokS l) (hk:k<l.length) (blk:Nat→Out (List (DataW Unit)))
  (h2:∀ k',k≤k'→k'<l.length→Z41 79 #[.pointer (some ⟨p,0,none⟩)] p g cap rk l k' bl dp a0 a1 (blk k')):Z4g 82 #[.pointer (some ⟨p,0,none⟩)] p g cap rk l k bl dp a0 a1 (Z2h l blk k):=by
 intro w R E X
 have hl:=T.ok.hl
 have A0:=Z8j R
 have HE:=Z01 E
 have HX:=Z01 X
 obtain ⟨o,ho⟩:∃ o,Z2h l blk k=o:=⟨_,rfl⟩
 rw [ho]
 have HO:=Z01 ho
 have HPE:Hid (∀ y ev w',o = .error y→Z04 l p a0 a1 w y ev w'→Zby (fun b=>w.heap.size≤b) p g cap rk l k bl dp a0 a1 w o ev w'):=by
  rintro y ev w' rfl h
  exact h
 have hpl:=A0.pl
 have hgl:=A0.gl
 have HC0:=Z01 (h2 k (Nat.le_refl _) hk _ A0.rd (HE.out.keeps A0.ks) (HX.out.keeps A0.ks))
 have HA0:=Z01 A0
 have HH2:=Z01 h2
 have hs0:(w.alloc (.cells #[.string ⟨#[]⟩,.string ⟨#[]⟩,.slice none 0 0,.slice none 0 0,.slice none 0 0,.slice none 0 0] 52)).heap.size=w.heap.size+1:=by simp
 clear R E X A0 ho h2
 go_enter func82,ntmps82
 go_wp2_with fail
 refine HC0.out.mono ?_
 intro ev w1 hP
 rw [hs0] at hP
 rcases hP.parts with ⟨ss,k1,ba,bc,q1,rfl,hS1,R1,K1,hk1,hk1l⟩ | ⟨y,b,q1,rfl,hf⟩
 rotate_left
 ·have ho2:o = .error y:=by
   rw [←HO.out,Z2h]
   simp only [q1]
  have HF:=Z01 (HPE.out _ _ _ ho2 (Z04.after HA0.out.ks.below hf))
  clear hP HC0 hf
  go_wp2_with fail
  exact ⟨rfl,HF.out⟩
 have hba:Below w1.heap.size w1 (w1.alloc (.cells #[.string kTry,.string ⟨#[]⟩,.slice none 0 0,.slice none 0 0,.slice ba ss.length bc,.slice none 0 0] 52)):=(Below.refl _ _).alloc (Nat.le_refl _) _
 have A1:=(HA0.out.go R1 K1).more hba
 have hB1:(w1.alloc (.cells #[.string kTry,.string ⟨#[]⟩,.slice none 0 0,.slice none 0 0,.slice ba ss.length bc,.slice none 0 0] 52)).heap[w1.heap.size]?=some (.cells #[.string kTry,.string ⟨#[]⟩,.slice none 0 0,.slice none 0 0,.slice ba ss.length bc,.slice none 0 0] 52):=heap_alloc_new w1 _
 have hsz:w.heap.size<w1.heap.size:=by
  have h3:=K1.below.size
  omega
 have hS2:Z1h (fun b=>w.heap.size<b∧b≠w1.heap.size) (w1.alloc (.cells #[.string kTry,.string ⟨#[]⟩,.slice none 0 0,.slice none 0 0,.slice ba ss.length bc,.slice none 0 0] 52)) ba ss:=hS1.same (Z06 hba) (fun b hb hlt=>⟨by omega,by omega⟩)
 obtain ⟨x1,hx1⟩:∃ x,l[k1]?=some x:=⟨l[k1],by simp [hk1l]⟩
 have HA1:=Z01 A1
 have HB1:=Z01 hB1
 have HS2:=Z01 hS2
 have HQ1:=Z01 q1
 have HC1:=Z01 (Z2q A1.rd (HE.out.keeps A1.ks) hx1 hl Za2)
 clear hP R1 K1 A1 hB1 hba HC0 hS1 hS2 q1
 go_wp2_with fail
 refine HC1.out.mono ?_
 intro ev w2 hT
 cases hm1:Z0i x1 [Za2] with
 | false =>
 rw [hm1,if_neg (by decide)] at hT
 obtain ⟨t,g1,b,rfl,g2⟩:=hT
 have ho2:o = .error (k1,false):=by
  rw [←HO.out,Z2h]
  simp only [HQ1.out,Z0r hx1,hm1,cond_false]
 have HF:=Z01 (HPE.out _ _ _ ho2 (Z04.after HA1.out.ks.below ⟨t,g1,b,rfl,g2⟩))
 clear g1 g2 HC1
 go_wp2_with fail
 exact ⟨rfl,HF.out⟩
 | true =>
 rw [hm1,if_pos rfl] at hT
 obtain ⟨rfl,R2,K2⟩:=hT
 have hk2:=T.ok.hen.next hx1 hm1
 obtain ⟨x,hx⟩:∃ x,l[k1+1]?=some x:=⟨l[k1+1],by simp [hk2]⟩
 have A2:=HA1.out.go R2 K2
 have hB2:=(K2.block w1.heap.size (by omega) (Z00 HB1.out)).trans HB1.out
 have hS3:=HS2.out.same (S':=(fun b=>w.heap.size<b∧b≠w1.heap.size)) (K2.same (fun h=>by have:=h.1;omega)) (fun b hb _=>hb)
 have HN:=Z01 (Z66 A2.rd (HE.out.keeps A2.ks) hx hl)
 have HA2:=Z01 A2
 have HB2:=Z01 hB2
 have HS3:=Z01 hS3
 have hlt2:=Z00 hB2
 clear HC1 R2 K2 A2 hB2 hS3
 go_wp2_with fail
 refine HN.out.mono ?_
 rintro ev w3 (⟨hm,rfl,R3,K3⟩ | ⟨hm,t,g1,b,rfl,g2⟩)
 rotate_left
 ·have ho2:o = .error (k1+1,false):=by
   rw [←HO.out,Z2h]
   simp only [HQ1.out,Z0r hx1,hm1,cond_true,Z1t hx,show (x.1.toList == [110,97,109,101])=false from hm,cond_false]
  have HF:=Z01 (HPE.out _ _ _ ho2 (Z04.after HA2.out.ks.below ⟨t,g1,b,rfl,g2⟩))
  clear g1 g2 HN
  go_wp2_with fail
  exact ⟨rfl,HF.out⟩
 have hkn:Z0m l (k1+1) [110,97,109,101]=true:=(Z1t hx _).trans hm
 have hk3:=T.next hkn (by decide)
 have A3:=HA2.out.go R3 K3
 have hB3:=(K3.block w1.heap.size (by omega) hlt2).trans HB2.out
 have hS4:=HS3.out.same (S':=(fun b=>w.heap.size<b∧b≠w1.heap.size)) (K3.same (fun h=>by have:=h.1;omega)) (fun b hb _=>hb)
 obtain ⟨t0,t1,t2,t3,t4,t5,tf⟩:=Z08 hB3
 have tf1:=tf 1
 have tl:=Z00 hB3
 have A4:=A3.put (b:=w1.heap.size) (o:=1) (v:=.string x.2.1) hsz
 have hB4:=Z4b (o:=1) (v:=.string x.2.1) hB3 #[.string kTry,.string x.2.1,.slice none 0 0,.slice none 0 0,.slice ba ss.length bc,.slice none 0 0] rfl
 have hS5:=hS4.same (S':=(fun b=>w.heap.size<b∧b≠w1.heap.size)) (w':=w3.setCell ⟨w1.heap.size,1,none⟩ (.string x.2.1)) (Z1z (fun h=>h.2 rfl)) (fun b hb _=>hb)
 have HC4:=Z01 (HH2.out (k1+1+1) (by omega) hk3 _ A4.rd (HE.out.keeps A4.ks) (HX.out.keeps A4.ks))
 have HA4:=Z01 A4
 have HB4:=Z01 hB4
 have HS5:=Z01 hS5
 have hlt4:=Z00 hB4
 clear HN R3 K3 A3 hB3 tf A4 hB4 hS4 hS5
 go_wp2_with fail
 refine HC4.out.mono ?_
 intro ev w5 hP
 rcases hP.parts with ⟨es,k5,ea,ec,q5,rfl,hE5,R5,K5,hk5,hk5l⟩ | ⟨y,b,q5,rfl,hf⟩
 rotate_left
 ·have ho2:o = .error y:=by
   rw [←HO.out,Z2h]
   simp only [HQ1.out,Z0r hx1,hm1,cond_true,hkn,q5]
  have HF:=Z01 (HPE.out _ _ _ ho2 (Z04.after HA4.out.ks.below hf))
  clear hP HC4 hf
  go_wp2_with fail
  exact ⟨rfl,HF.out⟩
 have A5:=HA4.out.go R5 K5
 have hB5:=(K5.block w1.heap.size (by omega) hlt4).trans HB4.out
 have hS6:=HS5.out.same (S':=(fun b=>w.heap.size<b∧b≠w1.heap.size)) (K5.same (fun h=>by have:=h.1;omega)) (fun b hb _=>hb)
 obtain ⟨s0,s1,s2,s3,s4,s5,sf⟩:=Z08 hB5
 have sf5:=sf 5
 have sl:=Z00 hB5
 have A6:=A5.put (b:=w1.heap.size) (o:=5) (v:=.slice ea es.length ec) hsz
 have hB6:=Z4b (o:=5) (v:=.slice ea es.length ec) hB5 #[.string kTry,.string x.2.1,.slice none 0 0,.slice none 0 0,.slice ba ss.length bc,.slice ea es.length ec] rfl
 have hsx:(w3.setCell ⟨w1.heap.size,1,none⟩ (.string x.2.1)).heap.size=w3.heap.size:=Z1x _ _ _
 have hS7:=hS6.same (S':=(fun b=>w.heap.size<b∧b≠w1.heap.size)) (w':=w5.setCell ⟨w1.heap.size,5,none⟩ (.slice ea es.length ec)) (Z1z (fun h=>h.2 rfl)) (fun b hb _=>hb)
 have hE6:Z1h (fun b=>w.heap.size<b∧b≠w1.heap.size) (w5.setCell ⟨w1.heap.size,5,none⟩ (.slice ea es.length ec)) ea es:=hE5.same (Z1z (by show ¬ (_≤w1.heap.size);rw [hsx];omega)) (fun b hb _=>by rw [hsx] at hb;exact ⟨by omega,by omega⟩)
 have ho6:o = .ok (mkS kTry x.2.1 [] [] ss es,k5):=by
  rw [←HO.out,Z2h]
  simp only [HQ1.out,Z0r hx1,hm1,cond_true,hkn,q5,Z8l hx]
 have HZ:=Z01 (Z1l (c0:=.string kTry) (c1:=.string x.2.1) (c2:=.slice none 0 0) (c3:=.slice none 0 0) (c4:=.slice ba ss.length bc) (c5:=.slice ea es.length ec) A6 (Z2z (kd:=kTry) (nm:=x.2.1) (pl:=[]) (el:=[]) (pc:=0) (lc:=0) (bc:=bc) (ec:=ec) (Z54.nil _ _ none) (Z89.nil _ _ none) hS7 hE6) (fun b hb=>hb.1))
 obtain ⟨u0,u1,u2,u3,u4,u5,uf⟩:=Z08 A6.b4
 have uf0:=uf 0
 have uf1:=uf 1
 have uf2:=uf 2
 have uf3:=uf 3
 have uf4:=uf 4
 have uf5:=uf 5
 have ul:=Z00 A6.b4
 obtain ⟨q0,qq1,q2,qq3,q4,qq5,_⟩:=Z08 hB6
 have HO6:=Z01 ho6
 clear hP HC4 A5 hB5 sf A6 hB6 hS6 hS7 hE5 hE6 uf R5 K5 ho6 q5
 go_wp2_with fail
 obtain ⟨z1,z2,z3,z4⟩:=HZ.out
 refine bodyPost_ret (Z0e _ 2 rfl _ _ w.heap.size _ _ _ _ _ _ rfl z1) rfl ?_
 rw [HO6.out]
 exact ⟨_,_,_,_,_,_,rfl,z2,z3,z4,by omega,hk5l⟩
end Go.Proofs.YtflcohidmemfpaaGreatDoor
