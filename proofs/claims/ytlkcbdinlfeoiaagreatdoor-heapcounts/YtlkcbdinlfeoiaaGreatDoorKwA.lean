/- Acts that are handed in, read out of memory. -/
import Derived.Test.YtlkcbdinlfeoiaaGreatDoorMemD
import Derived.Deep.Fields
import Derived.Deep.Strs
import Derived.ChangeSlices
import Derived.ChangeArms
import Derived.Lib.SmallJoins
import Derived.Test.YtlkcbdinlfeoiaaGreatDoorKvC
import Derived.Test.YtlkcbdinlfeoiaaGreatDoorKrC
import Derived.Test.YtlkcbdinlfeoiaaGreatDoorKnAE
import Derived.Test.YtlkcbdinlfeoiaaGreatDoorKnAF
import Derived.Test.YtlkcbdinlfeoiaaGreatDoorMemGH
import Derived.Test.YtlkcbdinlfeoiaaGreatDoorKnAT
import Derived.Test.YtlkcbdinlfeoiaaGreatDoorKnBC
namespace Go.Proofs.YtlkcbdinlfeoiaaGreatDoor
open Go.Proofs.Tryz
open Go.RowKit Go.ChangeShapes Go.WideShapes Go.Deep Go.Joins

theorem Znj:prog.cellsOf 36=6:=by kernel_rfl
theorem Znp:prog.cellsOf 9=1:=by kernel_rfl
theorem Zmu:prog.cellsOf 3=1:=by kernel_rfl
theorem Zn8:prog.cellsOf 2=1:=by kernel_rfl
theorem Zmn:prog.bytesOf 36=64:=by kernel_rfl
theorem Z9j {H:Type}{P:Program}{e:TypeId} : ∀ {l:List (DataW H)}{d:DataW H},d∈l → ∀ n∈d.weights P e,n∈DataW.weightsAll P e l
 | [],d,h=>by simp at h
 | x::l,d,h=>fun n hn=>by
  simp only [DataW.weightsAll]
  rcases List.mem_cons.1 h with rfl | h
  ·exact List.mem_append_left _ hn
  ·exact List.mem_append_right _ (Z9j h n hn)
def NMA (ps:List MemPlace):Prop:=∀ p∈ps,∀ bb,p ≠ .map bb
structure ActD where
 nm:ByteArray
 a:Int
 b:Int
 c:Int
 n:Int
 s:ByteArray
instance:Inhabited ActD:=⟨⟨⟨#[]⟩,0,0,0,0,⟨#[]⟩⟩⟩
def ActAt (W:World) (b o:Nat) (x:ActD):Prop:=W.cell? ⟨b,o,none⟩=some (.string x.nm)∧W.cell? ⟨b,o+1,none⟩=some (.int .i64 x.a)∧W.cell? ⟨b,o+2,none⟩=some (.int .i64 x.b)∧W.cell? ⟨b,o+3,none⟩=some (.int .i64 x.c)∧W.cell? ⟨b,o+4,none⟩=some (.int .i64 x.n)∧W.cell? ⟨b,o+5,none⟩=some (.string x.s)
def Z7h (W:World) (b o:Nat) (l:List ActD):Prop:=∀ j x,l[j]?=some x→ActAt W b (o+j*6) x
section
variable {H:Type}{enc:TypeId × Value→H}{W:World}{base:Nat}{sp:Nat→Bool}{held:Bool}{fuel:Nat}
theorem Zcx {P:Program}{t:TypeId}{f0 f1 f2 f3 f4 f5:Field}{cs:List Value}{x:DataW H × List MemPlace} (ht:P.underlying t=some (.struct #[f0,f1,f2,f3,f4,f5])) (h:DataW.trod enc P W base sp held fuel t cs=some x) :
  ∃ y0 y1 y2 y3 y4 y5 n,x=(.agg [y0.1,y1.1,y2.1,y3.1,y4.1,y5.1],y0.2++(y1.2++(y2.2++(y3.2++(y4.2++y5.2)))))∧cs.length=P.cellsOf t∧DataW.trod enc P W base sp held n f0.type ((cs.drop f0.offset).take (P.cellsOf f0.type))=some y0 ∧
   DataW.trod enc P W base sp held n f1.type ((cs.drop f1.offset).take (P.cellsOf f1.type))=some y1∧DataW.trod enc P W base sp held n f2.type ((cs.drop f2.offset).take (P.cellsOf f2.type))=some y2 ∧
   DataW.trod enc P W base sp held n f3.type ((cs.drop f3.offset).take (P.cellsOf f3.type))=some y3∧DataW.trod enc P W base sp held n f4.type ((cs.drop f4.offset).take (P.cellsOf f4.type))=some y4 ∧
   DataW.trod enc P W base sp held n f5.type ((cs.drop f5.offset).take (P.cellsOf f5.type))=some y5:=by
 obtain ⟨xs,n,_,rfl,hl,hlen,hf⟩:=DataW.trod_struct ht h
 match xs,hlen with
 | [y0,y1,y2,y3,y4,y5],_=>exact ⟨y0,y1,y2,y3,y4,y5,n,by simp,hl,by simpa using hf 0 f0 rfl,by simpa using hf 1 f1 rfl,by simpa using hf 2 f2 rfl,by simpa using hf 3 f3 rfl,by simpa using hf 4 f4 rfl,by simpa using hf 5 f5 rfl⟩
set_option maxRecDepth 100000 in
theorem Znd {cs:List Value}{y:DataW H × List MemPlace} (h:DataW.trod enc prog W base sp held fuel 22 cs=some y) (hw:∀ n∈y.1.weights prog 22,n≤140737488351232) :
  ∃ (xa:Option Addr) (xb xo cap:Nat) (l:List ActD),cs = [.slice xa l.length cap]∧l.length*64≤140737488351232∧(0<l.length→xa=some ⟨xb,xo,none⟩)∧Z7h W xb xo l∧(∀ z∈l,z.s.size≤140737488351232)∧NMA y.2:=by
 rcases open_slice underlying22 h with ⟨rfl,rfl⟩ | ⟨a,len,cap,m,n,D,Pl,rfl,hb,hl,hm,hmm,rfl,hx⟩
 ·exact ⟨none,0,0,0,[],rfl,Nat.zero_le _,by simp,fun j x hj=>by simp at hj,by simp,fun p hp=>by cases hp⟩
 have hlm:len≤m:=by rw [hmm];split <;> omega
 rw [Znj] at hx
 have each:∀ i,i<m → ∃ z:ActD,W.cell? (a.add (i*6))=some (.string z.nm)∧W.cell? (a.add (i*6+1))=some (.int .i64 z.a)∧W.cell? (a.add (i*6+2))=some (.int .i64 z.b)∧W.cell? (a.add (i*6+3))=some (.int .i64 z.c)∧W.cell? (a.add (i*6+4))=some (.int .i64 z.n)∧W.cell? (a.add (i*6+5))=some (.string z.s) ∧
   D i = .agg [.lit (.string z.nm.data.toList),.lit (.int .i64 z.a),.lit (.int .i64 z.b),.lit (.int .i64 z.c),.lit (.int .i64 z.n),.lit (.string z.s.data.toList)]∧Pl i = []:=by
  intro i hi
  obtain ⟨cs',h1,h2⟩:=hx i hi
  obtain ⟨_,hlen,hcell⟩:=World.cells?_some h1
  obtain ⟨y0,y1,y2,y3,y4,y5,k,hxy,_,g0,g1,g2,g3,g4,g5⟩:=Zcx underlying36 h2
  match cs',hlen with
  | [v0,v1,v2,v3,v4,v5],_ =>
   simp [Znp,Zmu,Zn8] at g0 g1 g2 g3 g4 g5
   obtain ⟨s0,q0,r0,_⟩:=DataW.trod_string underlying9 g0
   obtain ⟨z1,q1,r1,_⟩:=DataW.trod_int underlying3 g1
   obtain ⟨z2,q2,r2,_⟩:=DataW.trod_int underlying3 g2
   obtain ⟨z3,q3,r3,_⟩:=DataW.trod_int underlying3 g3
   obtain ⟨z4,q4,r4,_⟩:=DataW.trod_int underlying2 g4
   obtain ⟨s5,q5,r5,_⟩:=DataW.trod_string underlying9 g5
   simp only [List.cons.injEq,and_true] at q0 q1 q2 q3 q4 q5
   subst q0 q1 q2 q3 q4 q5
   have e0:=hcell 0 (by omega)
   have e1:=hcell 1 (by omega)
   have e2:=hcell 2 (by omega)
   have e3:=hcell 3 (by omega)
   have e4:=hcell 4 (by omega)
   have e5:=hcell 5 (by omega)
   rw [add_add] at e0 e1 e2 e3 e4 e5
   simp only [Prod.mk.injEq] at hxy
   refine ⟨⟨s0,z1,z2,z3,z4,s5⟩,by simpa using e0,by simpa using e1,by simpa using e2,by simpa using e3,by simpa using e4,by simpa using e5,?_,?_⟩
   ·rw [hxy.1,r0,r1,r2,r3,r4,r5]
   ·rw [hxy.2,r0,r1,r2,r3,r4,r5]
    rfl
 obtain ⟨f,hf⟩:=choose_lt each
 have hgp:NMA (MemPlace.row a (m*prog.cellsOf 36)++(List.range m).flatMap Pl):=fun p hp bb e=>by
  rcases List.mem_append.1 hp with h1 | h1
  ·obtain ⟨j,_,rfl⟩:=MemPlace.mem_row.1 h1
   cases e
  ·obtain ⟨i,hi,h2⟩:=List.mem_flatMap.1 h1
   rw [(hf i (List.mem_range.1 hi)).2.2.2.2.2.2.2] at h2
   simp at h2
 have hwl:(len+(m - len))*64≤140737488351232:=by
  refine hw _ ?_
  simp only [DataW.weights,underlying22,Zmn]
  simp
 have hws:∀ i,i<len→(f i).s.size≤140737488351232:=fun i hi=>by
  refine hw _ ?_
  simp only [DataW.weights,underlying22]
  refine List.mem_cons_of_mem _ (List.mem_append_left _ (Z9j (List.mem_map.2 ⟨i,List.mem_range.2 hi,rfl⟩) _ ?_))
  rw [(hf i (by omega)).2.2.2.2.2.2.1]
  simp [DataW.weights,underlying36,DataW.weightsEach]
 rcases Nat.eq_zero_or_pos len with h0 | h0
 ·subst h0
  exact ⟨some a,0,0,cap,[],rfl,Nat.zero_le _,by simp,fun j x hj=>by simp at hj,by simp,hgp⟩
 ·obtain ⟨xb,xo,spot⟩:=a
  have hspot:spot=none:=by simpa [Addr.add] using World.cell?_spot (hf 0 (by omega)).1
  subst hspot
  refine ⟨some ⟨xb,xo,none⟩,xb,xo,cap,(List.range len).map f,by simp,by simp;omega,fun _=>rfl,fun j x hj => ?_,fun z hz => ?_,hgp⟩
  ·have hjl:j<len:=by
    have:=(List.getElem?_eq_some_iff.1 hj).1
    simpa using this
   have ex:f j=x:=by
    rw [List.getElem?_map,List.getElem?_range hjl] at hj
    simpa using hj
   subst ex
   obtain ⟨c0,c1,c2,c3,c4,c5,_⟩:=hf j (by omega)
   rw [add_plain] at c0 c1 c2 c3 c4 c5
   exact ⟨c0,by rw [Nat.add_assoc];exact c1,by rw [Nat.add_assoc];exact c2,by rw [Nat.add_assoc];exact c3,by rw [Nat.add_assoc];exact c4,by rw [Nat.add_assoc];exact c5⟩
  ·obtain ⟨i,hi,rfl⟩:=List.mem_map.1 hz
   exact hws i (List.mem_range.1 hi)
end
theorem Z7h.below {W W':World}{b o:Nat}{l:List ActD} (h:Z7h W b o l) (hb:Below W.heap.size W W'):Z7h W' b o l:=fun j x hj=>by
 obtain ⟨c0,c1,c2,c3,c4,c5⟩:=h j x hj
 have lt:=Z03 c0
 exact ⟨(hb.cell (p:=⟨b,o+j*6,none⟩) lt).trans c0,(hb.cell (p:=⟨b,o+j*6+1,none⟩) lt).trans c1,(hb.cell (p:=⟨b,o+j*6+2,none⟩) lt).trans c2,(hb.cell (p:=⟨b,o+j*6+3,none⟩) lt).trans c3,(hb.cell (p:=⟨b,o+j*6+4,none⟩) lt).trans c4,(hb.cell (p:=⟨b,o+j*6+5,none⟩) lt).trans c5⟩
end Go.Proofs.YtlkcbdinlfeoiaaGreatDoor
namespace Go.Proofs.YtlkcbdinlfeoiaaGreatDoor
open Go.Proofs.Tryz
open Go.RowKit

def Zd4 (l:List ActD):Prop:=l.length≤120 ∧ ∀ x∈l,x.nm.toList = [109,97,107,101] → ¬ (300<x.c∧x.c≤4096)
set_option maxHeartbeats 2000000 in
set_option maxRecDepth 100000 in
theorem Zl3 (xa:Option Addr) (xb xo cap:Nat) (l:List ActD) (w:World) (hl:l.length*64≤140737488351232) (hxa:0<l.length→xa=some ⟨xb,xo,none⟩) (hin:Z7h w xb xo l) :
  Calls prog 10 #[.slice xa l.length cap] w fun ev w'=>(ev = .returned (.bool true)∧Zd4 l∧w'=w)∨(ev = .returned (.bool false)∧w'=w):=by
 have HIN:=Z00 hin
 have HXA:=Z00 hxa
 clear hin hxa
 go_enter func10,ntmps10
 go_wp2_with fail
 go_loopg [3,4] (l.length+1) (fun gk v3 v4 wr => ∃ (k:Nat) (n:Int),gk=l.length+1 - k∧k≤l.length∧v3 = .int .i64 n∧v4 = .int .i64 (k:Int)∧Hid (∀ j x,j<k→l[j]?=some x→x.nm.toList = [109,97,107,101] → ¬ (300<x.c∧x.c≤4096))∧wr=w)
 case atStart=>exact ⟨0,0,rfl,Nat.zero_le _,rfl,rfl,fun j x hj=>absurd hj (by omega),rfl⟩
 case round =>
  obtain ⟨k,n,hgk,hk,rfl,rfl,HP,rfl⟩:=hrel
  have HG:=Z00 hgk
  clear hgk
  by_cases hlt:k<l.length
  ·obtain ⟨x,hx⟩:∃ x,l[k]?=some x:=⟨_,List.getElem?_eq_getElem hlt⟩
   obtain ⟨c0,c1,c2,c3,c4,c5⟩:=HIN.out k x hx
   have hX:=HXA.out (by omega)
   subst hX
   have HX:=Z00 hx
   clear hx
   have hI:(k:Int)<(l.length:Int):=by omega
   have hI0:(0:Int)≤(k:Int):=by omega
   have next:∀ {P:Prop},((x.nm.toList = [109,97,107,101] → ¬ (300<x.c∧x.c≤4096))→P)→(x.nm.toList = [109,97,107,101] → ¬ (300<x.c∧x.c≤4096))→P:=fun f h=>f h
   have step:(x.nm.toList = [109,97,107,101] → ¬ (300<x.c∧x.c≤4096))→Hid (∀ j y,j<k+1→l[j]?=some y→y.nm.toList = [109,97,107,101] → ¬ (300<y.c∧y.c≤4096)):=fun h j y hj hy=>by
    by_cases e:j=k
    ·subst e
     rw [HX.out] at hy
     cases hy
     exact h
    ·exact HP.out j y (by omega) hy
   clear next
   have HS:=Z00 step
   clear step
   by_cases e1:x.nm.toList = [109,97,107,101]
   ·have e1':(x.nm.toList == [109,97,107,101])=true:=by rw [e1];rfl
    by_cases e2:300<x.c
    ·by_cases e3:x.c≤4096
     ·go_wp2_with fail
      go_ret
      exact .inr ⟨rfl,rfl⟩
     ·have HN:=Z00 (HS.out (fun _ h=>e3 h.2))
      go_wp2_with fail
      go_roundg (l.length+1 - (k+1))
      case measure=>have:=HG.out;omega
      case rel=>exact ⟨k+1,_,rfl,by omega,rfl,by go_num,HN,rfl⟩
    ·have HN:=Z00 (HS.out (fun _ h=>e2 h.1))
     go_wp2_with fail
     go_roundg (l.length+1 - (k+1))
     case measure=>have:=HG.out;omega
     case rel=>exact ⟨k+1,_,rfl,by omega,rfl,by go_num,HN,rfl⟩
   ·have e1':(x.nm.toList == [109,97,107,101])=false:=by rw [beq_eq_false_iff_ne];exact e1
    have HN:=Z00 (HS.out (fun h=>absurd h e1))
    go_wp2_with fail
    go_roundg (l.length+1 - (k+1))
    case measure=>have:=HG.out;omega
    case rel=>exact ⟨k+1,_,rfl,by omega,rfl,by go_num,HN,rfl⟩
  ·obtain rfl:k=l.length:=by omega
   have hI:¬ (l.length:Int)<(l.length:Int):=by omega
   have hall:∀ y∈l,y.nm.toList = [109,97,107,101] → ¬ (300<y.c∧y.c≤4096):=fun y hy=>by
    obtain ⟨j,hj⟩:=List.getElem?_of_mem hy
    exact HP.out j y (List.getElem?_eq_some_iff.1 hj).1 hj
   have HALL:=Z00 hall
   clear hall
   by_cases e1:l.length≤120
   ·have e1':(l.length:Int)≤120:=by omega
    by_cases e2:n≤3000
    ·go_wp2_with fail
     go_ret
     exact .inl ⟨rfl,⟨e1,HALL.out⟩,rfl⟩
    ·go_wp2_with fail
     go_ret
     exact .inr ⟨rfl,rfl⟩
   ·have e1':¬ (l.length:Int)≤120:=by omega
    go_wp2_with fail
    go_ret
    exact .inr ⟨rfl,rfl⟩
end Go.Proofs.YtlkcbdinlfeoiaaGreatDoor
namespace Go.Proofs.YtlkcbdinlfeoiaaGreatDoor
open Go.Proofs.Tryz
open Go.RowKit Go.Maps

theorem Zlb {m:MD}{vs:List Nat} (S:m.Shape vs):m.C.length≤300000:=by
 have hn:=S.1.nums
 unfold Z0c at hn
 have h2:=S.1.c
 have h3:(m.old+m.card - 1) / m.card≤m.old+m.card - 1:=Int.ediv_le_self _ (by omega)
 omega
variable {h:HP}{sr:Int}{m:MD}{w w':World}{a:Nat→Addr}{w0:World}{M:MO}{X:MXtra}
set_option maxHeartbeats 2000000 in
set_option maxRecDepth 100000 in
theorem Zpb (s:HS a w0 h sr m M X w):Calls prog 21 #[.pointer (some ⟨h.q,0,none⟩)] w fun ev w' => ∃ p,ev = .returned (.pointer (some ⟨p,0,none⟩))∧Z6d p m w'∧Below w.heap.size w w':=by
 obtain ⟨l1,l2,rt⟩:=s.hm.right
 have hwl:=s.wlen
 have hrl:=s.rlen
 have hk1:=s.kl
 have hk2:=s.hm.weaks
 have hil:=Z8l rt.S
 obtain ⟨n1,n2,n3,n4,n5,n6,n7,n8,n9,n10,_⟩:=s.nums
 have hcl:m.C.length≤300000:=Zlb rt.S
 have kc:=Zok h.p m w s.at'.col.repP.rep (by omega) (by omega) (by omega) (by omega) hcl
 have c0:=s.at'.c0
 have lp:=s.at'.tp.lt
 clear s rt hwl hrl hk1 hk2 hil n1 n2 n3 n4 n5 n6 n7 n8 n9 n10 hcl
 go_enter func21,ntmps21
 go_wp2_with fail
 refine kc.mono ?_
 clear kc
 rintro ev w2 ⟨a3,a7,a8,a9,a10,k3,k7,k8,k9,k10,rfl,S⟩
 have HS2:=Z00 S
 clear S
 go_wp2_with fail
 go_ret
 exact ⟨_,rfl,HS2.out.repP,HS2.out.1⟩
theorem Zoj (s:HS a w0 h sr m M X w) {p:Nat}{W:World} (hb:Below w.heap.size w W) (R:Z6d p m W):Calls prog 35 #[.pointer (some ⟨p,0,none⟩)] W fun ev w'=>ev = .returned (.tuple #[.int .i64 (M.words:Int),.nilIface])∧Below W.heap.size W w':=by
 obtain ⟨l1,l2,rt⟩:=s.hm.right
 have hrl:=s.rlen
 have hk1:=s.kl
 have hk2:=s.hm.weaks
 refine (Zor a p m rt.h64 (by omega) (by omega) (Z8l rt.S) W (s.benv.below hb).me R).mono fun ev w' t => ?_
 obtain ⟨b,⟨vs,S,_,e⟩ | ⟨vs,S,hc,e⟩ | ⟨hn,e⟩⟩:=t
 ·obtain rfl:=rt.S.one S
  rw [s.hm.live rt.S] at e
  exact ⟨e,b⟩
 ·rw [rt.C] at hc
  cases hc
 ·exact absurd rt.S (hn _)
def Zf3 (a:Nat→Addr) (w0:World) (q:Nat) (old:Int) (i:Nat) (w:World):Prop:=∃ h sr m M X,HS a w0 h sr m M X w∧h.q=q∧m.old=old∧X.K.length≤i∧X.next≤(i:Int)
theorem Zf3.base {q i:Nat}{old:Int} (L:Zf3 a w0 q old i w):Below w0.heap.size w0 w:=by obtain ⟨_,_,_,_,_,s,_⟩:=L;exact s.base
theorem Stp.lives {q i:Nat}{old:Int} (t:Stp a w0 h m M X w w') (hq:h.q=q) (ho:m.old=old) (hk:X.K.length≤i) (hn:X.next≤(i:Int)):Zf3 a w0 q old i w':=by
 obtain ⟨h',sr',n,N,D,s⟩:=t
 exact ⟨h',sr',n,M,X,s,N.q.trans hq,D.old.trans ho,hk,hn⟩
theorem Zm3 {q i:Nat}{old:Int} (L:Zf3 a w0 q old i w) (hi:i≤1000) (x:ActD) :
  Calls prog 15 #[.pointer (some ⟨q,0,none⟩),Z5y x.nm x.a x.b x.c x.n x.s] w fun ev w' => ∃ n b v,ev = .returned (.tuple #[.int .i64 n,.bool b,v])∧Zf3 a w0 q old (i+1) w':=by
 obtain ⟨h,sr,m,M,X,s,rfl,ho,hk,hn⟩:=L
 by_cases hl:x.nm.toList = [108,111,111,107]
 ·refine (Zd8 s hl).mono fun ev w' ⟨b,v,e,p⟩=>⟨_,_,_,e,?_⟩
  rcases p with ⟨_,_,_,t⟩ | ⟨_,_,_,_,j,_,⟨_,_,t⟩ | ⟨_,t⟩⟩
  all_goals exact t.lives rfl ho (by omega) (by omega)
 ·refine (Zrh s (by omega) (by omega) hl).mono fun ev w' ⟨n,v,e,p⟩=>⟨_,_,_,e,?_⟩
  obtain ⟨_,g2,g3⟩:=Zhk M X x.nm.toList x.a x.b x.c x.n x.s
  rcases p with ⟨_,_,_,t⟩ | ⟨_,_,_,t,_⟩ | ⟨_,_,_,t⟩
  ·exact t.lives rfl ho (by omega) (by omega)
  ·exact t.lives rfl ho (by omega) (by omega)
  ·exact t.lives rfl ho (by omega) (by omega)
end Go.Proofs.YtlkcbdinlfeoiaaGreatDoor
namespace Go.Proofs.YtlkcbdinlfeoiaaGreatDoor
open Go.Proofs.Tryz
open Go.RowKit Go.Maps

set_option maxHeartbeats 4000000 in
set_option maxRecDepth 100000 in
theorem heapCounts_skip (xa:Option Addr) (cap:Nat) (l:List ActD) (half old card rs:Int) (w:World) (kh:Calls prog 9 #[] w fun ev w'=>ev = .returned (.bool true)∧Below w.heap.size w w')
  (kb:∀ W,Below w.heap.size w W→Calls prog 10 #[.slice xa l.length cap] W fun ev w'=>(ev = .returned (.bool true)∧Zd4 l∧w'=W)∨(ev = .returned (.bool false)∧w'=W))
  (hc:2000<half∨(¬ 2000<half∧2000<old)∨(¬ 2000<half ∧ ¬ 2000<old∧20<rs)) :
  Calls prog 6 #[.int .i64 half,.int .i64 old,.int .i64 card,.int .i64 rs,.slice xa l.length cap] w fun ev w'=>ev = .returned (.bool true)∧Below w.heap.size w w':=by
 rcases hc with c1 | ⟨c1,c2⟩ | ⟨c1,c2,c3⟩
 all_goals (
  go_enter func6,ntmps6
  go_wp2_with fail
  refine kh.mono ?_
  clear kh
  rintro ev w1 ⟨rfl,b1⟩
  have k1:=kb w1 b1
  have HB:=Z00 b1
  clear b1 kb
  go_wp2_with fail
  refine k1.mono ?_
  clear k1
  rintro ev w2 (⟨rfl,_,rfl⟩ | ⟨rfl,rfl⟩)
  all_goals (
   go_wp2_with fail
   go_ret
   exact ⟨rfl,HB.out⟩))
set_option maxHeartbeats 4000000 in
set_option maxRecDepth 100000 in
theorem heapCounts_bad (a:Nat→Addr) (xa:Option Addr) (cap:Nat) (l:List ActD) (half old card rs:Int) (w:World) (E:HEnv a w) (kh:Calls prog 9 #[] w fun ev w'=>ev = .returned (.bool true)∧Below w.heap.size w w')
  (kb:∀ W,Below w.heap.size w W→Calls prog 10 #[.slice xa l.length cap] W fun ev w'=>(ev = .returned (.bool true)∧Zd4 l∧w'=W)∨(ev = .returned (.bool false)∧w'=W))
  (c1:¬ 2000<half) (c2:¬ 2000<old) (c3:¬ 20<rs) (H:¬ Zau half old card 2 rs) :
  Calls prog 6 #[.int .i64 half,.int .i64 old,.int .i64 card,.int .i64 rs,.slice xa l.length cap] w fun ev w'=>ev = .returned (.bool true)∧Below w.heap.size w w':=by
 have HE:=Z00 E
 have HH:=Z00 H
 clear E H
 go_enter func6,ntmps6
 go_wp2_with fail
 refine kh.mono ?_
 clear kh
 rintro ev w1 ⟨rfl,b1⟩
 have k1:=kb w1 b1
 have HB:=Z00 b1
 clear b1 kb
 go_wp2_with fail
 refine k1.mono ?_
 clear k1
 rintro ev w2 (⟨rfl,_,rfl⟩ | ⟨rfl,rfl⟩)
 rotate_left
 ·go_wp2_with fail
  go_ret
  exact ⟨rfl,HB.out⟩
 have kn:=Zqt a half old card 2 rs HH.out w2 (HE.out.below HB.out).we
 clear HE HH
 unfold Z0r at kn
 go_wp2_with fail
 refine kn.mono ?_
 clear kn
 rintro ev w3 ⟨rfl,b3⟩
 have HB3:Hid (Below w.heap.size w w3):=HB.out.trans (b3.mono HB.out.size)
 clear b3
 go_wp2_with fail
 go_ret
 exact ⟨rfl,HB3.out⟩
set_option maxHeartbeats 8000000 in
set_option maxRecDepth 100000 in
theorem heapCounts_good (a:Nat→Addr) (xa:Option Addr) (xb xo cap:Nat) (l:List ActD) (half old card:Int) (n:Nat) (w:World) (E:HEnv a w) (kh:Calls prog 9 #[] w fun ev w'=>ev = .returned (.bool true)∧Below w.heap.size w w')
  (kb:∀ W,Below w.heap.size w W→Calls prog 10 #[.slice xa l.length cap] W fun ev w'=>(ev = .returned (.bool true)∧Zd4 l∧w'=W)∨(ev = .returned (.bool false)∧w'=W))
  (hxa:0<l.length→xa=some ⟨xb,xo,none⟩) (hin:Z7h w xb xo l)
  (c1:¬ 2000<half) (c2:¬ 2000<old) (c3:¬ 20<(n:Int)) (H:Zau half old card 2 (n:Int)) :
  Calls prog 6 #[.int .i64 half,.int .i64 old,.int .i64 card,.int .i64 (n:Int),.slice xa l.length cap] w fun ev w'=>ev = .returned (.bool true)∧Below w.heap.size w w':=by
 have HE:=Z00 E
 have HH:=Z00 H
 have HIN:=Z00 hin
 have HXA:=Z00 hxa
 clear E H hin hxa
 go_enter func6,ntmps6
 go_wp2_with fail
 refine kh.mono ?_
 clear kh
 rintro ev w1 ⟨rfl,b1⟩
 have k1:=kb w1 b1
 have HB:=Z00 b1
 clear b1 kb
 go_wp2_with fail
 refine k1.mono ?_
 clear k1
 rintro ev w2 (⟨rfl,hBP,rfl⟩ | ⟨rfl,rfl⟩)
 rotate_left
 ·go_wp2_with fail
  go_ret
  exact ⟨rfl,HB.out⟩
 have HBP:=Z00 hBP
 clear hBP
 have kn:=Zr9 a half old card 2 n w2 (HE.out.below HB.out) HH.out
 clear HE HH
 go_wp2_with fail
 refine kn.mono ?_
 clear kn
 rintro ev w3 ⟨h,m,rfl,s,_,e2,_⟩
 obtain ⟨q,hq⟩:∃ q,q=h.q:=⟨_,rfl⟩
 have HL:Hid (Zf3 a w2 q old 0 w3):=⟨h,0,m,_,_,s,hq.symm,e2,Nat.zero_le _,Int.le_refl _⟩
 rw [←hq]
 clear s e2 hq
 go_wp2_with fail
 go_loopg [14] (l.length+1) (fun gk v14 wr => ∃ k:Nat,gk=l.length+1 - k∧k≤l.length∧v14 = .int .i64 (k:Int)∧Hid (Zf3 a w2 q old k wr))
 case atStart=>exact ⟨0,rfl,Nat.zero_le _,rfl,HL⟩
 case round =>
  obtain ⟨k,hgk,hk,rfl,HLr⟩:=hrel
  have HG:=Z00 hgk
  clear hgk HL
  have hl120:=HBP.out.1
  by_cases hlt:k<l.length
  ·obtain ⟨x,hx⟩:∃ x,l[k]?=some x:=⟨_,List.getElem?_eq_getElem hlt⟩
   obtain ⟨d0,d1,d2,d3,d4,d5⟩:=(HIN.out.below (HB.out.trans (HLr.out.base.mono HB.out.size))) k x hx
   have hX:=HXA.out (by omega)
   subst hX
   clear hx
   have ka:=Zm3 HLr.out (by omega) x
   unfold Z5y at ka
   have hI:(k:Int)<(l.length:Int):=by omega
   have hI0:(0:Int)≤(k:Int):=by omega
   go_wp2_with fail
   refine ka.mono ?_
   clear ka
   rintro ev w5 ⟨n5,b5,v5,rfl,hL5⟩
   have HL5:=Z00 hL5
   clear hL5
   go_wp2_with fail
   go_roundg (l.length+1 - (k+1))
   case measure=>have:=HG.out;omega
   case rel=>exact ⟨k+1,rfl,by omega,by go_num,HL5⟩
  ·obtain rfl:k=l.length:=by omega
   have hI:¬ (l.length:Int)<(l.length:Int):=by omega
   obtain ⟨h6,sr6,m6,M6,X6,s6,hq6,ho6,_,_⟩:=HLr.out
   have kj:=Zb2 s6
   rw [hq6] at kj
   have HS6:=Z00 s6
   have HB6:Hid (Below w.heap.size w wr):=HB.out.trans (s6.base.mono HB.out.size)
   have HO6:Hid (h6.q=q∧m6.old=old):=⟨hq6,ho6⟩
   clear s6 hq6 ho6 HLr
   go_wp2_with fail
   refine kj.mono ?_
   clear kj
   rintro ev w7 (⟨rfl,hb,_⟩ | ⟨rfl,h7,sr7,m7,N7,D7,s7,t1,t2,_⟩)
   ·have HB7:Hid (Below w.heap.size w w7):=HB6.out.trans ((hb.mono (Nat.le_refl _)).mono HB6.out.size)
    clear hb
    unfold Z0r
    go_wp2_with fail
    go_ret
    exact ⟨rfl,HB7.out⟩
   ·have kw:=Zkj s7
    have hle:(M6.words:Int)≤old:=by
     obtain ⟨_,_,_,_,_,_,_,_,n9,_⟩:=s7.nums
     rw [t2] at n9
     have:=D7.old.trans HO6.out.2
     omega
    have hq7:h7.q=q:=N7.q.trans HO6.out.1
    rw [t1,t2,hq7] at kw
    have HS7:=Z00 s7
    have HQ7:=Z00 hq7
    have HB7:Hid (Below w.heap.size w w7):=HB.out.trans (s7.base.mono HB.out.size)
    clear s7 N7 D7 t1 t2 hq7
    go_wp2_with fail
    refine kw.mono ?_
    clear kw
    rintro ev w8 ⟨rfl,b8⟩
    have s8:=HS7.out.below b8
    have ks:=Zpb s8
    rw [HQ7.out] at ks
    have HS8:=Z00 s8
    have HB8:Hid (Below w.heap.size w w8):=HB7.out.trans (b8.mono HB7.out.size)
    clear s8 b8
    go_wp2_with fail
    refine ks.mono ?_
    clear ks
    rintro ev w9 ⟨p,rfl,R,b9⟩
    have kl:=Zoj HS8.out b9 R
    have HB9:Hid (Below w.heap.size w w9):=HB8.out.trans (b9.mono HB8.out.size)
    clear b9 R
    go_wp2_with fail
    refine kl.mono ?_
    clear kl
    rintro ev w10 ⟨rfl,b10⟩
    have HB10:Hid (Below w.heap.size w w10):=HB9.out.trans (b10.mono HB9.out.size)
    clear b10
    go_wp2_with fail
    go_ret
    exact ⟨by simp,HB10.out⟩
theorem heapCounts_any (a:Nat→Addr) (half old card rs:Int) (xa:Option Addr) (xb xo cap:Nat) (l:List ActD) (w:World) (E:HEnv a w) (hl:l.length*64≤140737488351232) (hxa:0<l.length→xa=some ⟨xb,xo,none⟩) (hin:Z7h w xb xo l) :
  Calls prog 6 #[.int .i64 half,.int .i64 old,.int .i64 card,.int .i64 rs,.slice xa l.length cap] w fun ev w'=>ev = .returned (.bool true)∧Below w.heap.size w w':=by
 have kh:=Zoa a w E
 have kb:∀ W,Below w.heap.size w W→Calls prog 10 #[.slice xa l.length cap] W fun ev w'=>(ev = .returned (.bool true)∧Zd4 l∧w'=W)∨(ev = .returned (.bool false)∧w'=W):=fun W hW=>Zl3 xa xb xo cap l W hl hxa (hin.below hW)
 by_cases c1:2000<half
 ·exact heapCounts_skip xa cap l half old card rs w kh kb (.inl c1)
 by_cases c2:2000<old
 ·exact heapCounts_skip xa cap l half old card rs w kh kb (.inr (.inl ⟨c1,c2⟩))
 by_cases c3:20<rs
 ·exact heapCounts_skip xa cap l half old card rs w kh kb (.inr (.inr ⟨c1,c2,c3⟩))
 by_cases H:Zau half old card 2 rs
 ·obtain ⟨n,rfl⟩:∃ n:Nat,rs=(n:Int):=⟨rs.toNat,by have:=H.2.2.2.1;omega⟩
  exact heapCounts_good a xa xb xo cap l half old card n w E kh kb hxa hin c1 c2 c3 H
 ·exact heapCounts_bad a xa cap l half old card rs w E kh kb c1 c2 c3 H
end Go.Proofs.YtlkcbdinlfeoiaaGreatDoor
