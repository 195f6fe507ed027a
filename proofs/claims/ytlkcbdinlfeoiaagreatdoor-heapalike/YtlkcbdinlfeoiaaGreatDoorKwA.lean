/- Acts that are handed in, read out of memory. -/
import Derived.Test.YtlkcbdinlfeoiaaGreatDoorMemD
import Derived.Lib.SmallJoins
namespace Go.Proofs.YtlkcbdinlfeoiaaGreatDoor
open Go.Proofs.Tryz Go.RowKit
set_option maxHeartbeats 8000000
set_option maxRecDepth 100000
section
open Go.ChangeShapes Go.WideShapes Go.Deep Go.Joins
theorem Zn5:prog.cellsOf 36=6:=by kernel_rfl
theorem Zl2:prog.cellsOf 9=1:=by kernel_rfl
theorem Znh:prog.cellsOf 3=1:=by kernel_rfl
theorem Zmh:prog.cellsOf 2=1:=by kernel_rfl
theorem Zl8:prog.bytesOf 36=64:=by kernel_rfl
theorem Z8h {H:Type}{P:Program}{e:TypeId} : ∀ {l:List (DataW H)}{d:DataW H},d∈l -> ∀ n∈d.weights P e,n∈DataW.weightsAll P e l
 | [],d,h=>by simp at h
 | x::l,d,h=>fun n hn=>by
  simp only [DataW.weightsAll]
  rcases U19.1 h with rfl | h
  ·exact U2q _ hn
  ·exact U2k _ (Z8h h n hn)
def NMA (ps:List MemPlace):Prop:=∀ p∈ps,∀ bb,p ≠ .map bb
structure ActD where
 nm:ByteArray
 a:Int
 b:Int
 c:Int
 n:Int
 s:ByteArray
instance:Inhabited ActD:=⟨⟨⟨#[]⟩,0,0,0,0,⟨#[]⟩⟩⟩
def ActAt (W:World) (b o:Nat) (x:ActD):Prop:=W.cell? ⟨b,o,none⟩=some (.string x.nm)/\W.cell? ⟨b,o+1,none⟩=some (.int .i64 x.a)/\W.cell? ⟨b,o+2,none⟩=some (.int .i64 x.b)/\W.cell? ⟨b,o+3,none⟩=some (.int .i64 x.c)/\W.cell? ⟨b,o+4,none⟩=some (.int .i64 x.n)/\W.cell? ⟨b,o+5,none⟩=some (.string x.s)
def Zcx (W:World) (b o:Nat) (l:List ActD):Prop:=∀ j x,l[j]?=some x->ActAt W b (o+j*6) x
section
variable {H:Type}{enc:TypeId × Value->H}{W:World}{base:Nat}{sp:Nat->Bool}{held:Bool}{fuel:Nat}
theorem Zcs {P:Program}{t:TypeId}{f0 f1 f2 f3 f4 f5:Field}{cs:List Value}{x:DataW H × List MemPlace} (ht:P.underlying t=some (.struct #[f0,f1,f2,f3,f4,f5])) (h:DataW.trod enc P W base sp held fuel t cs=some x) :
  ∃ y0 y1 y2 y3 y4 y5 n,x=(.agg [y0.1,y1.1,y2.1,y3.1,y4.1,y5.1],y0.2++(y1.2++(y2.2++(y3.2++(y4.2++y5.2)))))/\cs.length=P.cellsOf t/\DataW.trod enc P W base sp held n f0.type ((cs.drop f0.offset).take (P.cellsOf f0.type))=some y0 /\
   DataW.trod enc P W base sp held n f1.type ((cs.drop f1.offset).take (P.cellsOf f1.type))=some y1/\DataW.trod enc P W base sp held n f2.type ((cs.drop f2.offset).take (P.cellsOf f2.type))=some y2 /\
   DataW.trod enc P W base sp held n f3.type ((cs.drop f3.offset).take (P.cellsOf f3.type))=some y3/\DataW.trod enc P W base sp held n f4.type ((cs.drop f4.offset).take (P.cellsOf f4.type))=some y4 /\
   DataW.trod enc P W base sp held n f5.type ((cs.drop f5.offset).take (P.cellsOf f5.type))=some y5:=by
 obtain ⟨xs,n,_,rfl,hl,hlen,hf⟩:=DataW.trod_struct ht h
 match xs,hlen with
 | [y0,y1,y2,y3,y4,y5],_=>exact ⟨y0,y1,y2,y3,y4,y5,n,by simp,hl,by simpa using hf 0 f0 rfl,by simpa using hf 1 f1 rfl,by simpa using hf 2 f2 rfl,by simpa using hf 3 f3 rfl,by simpa using hf 4 f4 rfl,by simpa using hf 5 f5 rfl⟩
theorem Zth {cs:List Value}{y:DataW H × List MemPlace} (h:DataW.trod enc prog W base sp held fuel 22 cs=some y) (hw:∀ n∈y.1.weights prog 22,n<=140737488351232) :
  ∃ (xa:Option Addr) (xb xo cap:Nat) (l:List ActD),cs = [.slice xa l.length cap]/\l.length*64<=140737488351232/\(0<l.length->xa=some ⟨xb,xo,none⟩)/\Zcx W xb xo l/\(∀ z∈l,z.s.size<=140737488351232)/\NMA y.2:=by
 rcases open_slice underlying22 h with ⟨rfl,rfl⟩ | ⟨a,len,cap,m,n,D,Pl,rfl,hb,hl,hm,hmm,rfl,hx⟩
 ·exact ⟨none,0,0,0,[],rfl,U0x _,by simp,fun j x hj=>by simp at hj,by simp,fun p hp=>by cases hp⟩
 have hlm:len<=m:=by rw [hmm];split <;> omega
 rw [Zn5] at hx
 have each:∀ i,i<m -> ∃ z:ActD,W.cell? (a.add (i*6))=some (.string z.nm)/\W.cell? (a.add (i*6+1))=some (.int .i64 z.a)/\W.cell? (a.add (i*6+2))=some (.int .i64 z.b)/\W.cell? (a.add (i*6+3))=some (.int .i64 z.c)/\W.cell? (a.add (i*6+4))=some (.int .i64 z.n)/\W.cell? (a.add (i*6+5))=some (.string z.s) /\
   D i = .agg [.lit (.string z.nm.data.toList),.lit (.int .i64 z.a),.lit (.int .i64 z.b),.lit (.int .i64 z.c),.lit (.int .i64 z.n),.lit (.string z.s.data.toList)]/\Pl i = []:=by
  intro i hi
  obtain ⟨cs',h1,h2⟩:=hx i hi
  obtain ⟨_,hlen,hcell⟩:=World.cells?_some h1
  obtain ⟨y0,y1,y2,y3,y4,y5,k,hxy,_,g0,g1,g2,g3,g4,g5⟩:=Zcs underlying36 h2
  match cs',hlen with
  | [v0,v1,v2,v3,v4,v5],_ =>
   simp [Zl2,Znh,Zmh] at g0 g1 g2 g3 g4 g5
   obtain ⟨s0,q0,r0,_⟩:=DataW.trod_string underlying9 g0
   obtain ⟨z1,q1,r1,_⟩:=U53 underlying3 g1
   obtain ⟨z2,q2,r2,_⟩:=U53 underlying3 g2
   obtain ⟨z3,q3,r3,_⟩:=U53 underlying3 g3
   obtain ⟨z4,q4,r4,_⟩:=U53 underlying2 g4
   obtain ⟨s5,q5,r5,_⟩:=DataW.trod_string underlying9 g5
   simp only [List.cons.injEq,and_true] at q0 q1 q2 q3 q4 q5
   subst q0 q1 q2 q3 q4 q5
   have e0:=hcell 0 (by omega)
   have e1:=hcell 1 (by omega)
   have e2:=hcell 2 (by omega)
   have e3:=hcell 3 (by omega)
   have e4:=hcell 4 (by omega)
   have e5:=hcell 5 (by omega)
   rw [add_add] at e0 e1 e2 e3 e4 e5
   simp only [Prod.mk.injEq] at hxy
   refine ⟨⟨s0,z1,z2,z3,z4,s5⟩,by simpa using e0,by simpa using e1,by simpa using e2,by simpa using e3,by simpa using e4,by simpa using e5,?_,?_⟩
   ·rw [hxy.1,r0,r1,r2,r3,r4,r5]
   ·rw [hxy.2,r0,r1,r2,r3,r4,r5]
    rfl
 obtain ⟨f,hf⟩:=choose_lt each
 have hgp:NMA (MemPlace.row a (m*prog.cellsOf 36)++(List.range m).flatMap Pl):=fun p hp bb e=>by
  rcases U0c.1 hp with h1 | h1
  ·obtain ⟨j,_,rfl⟩:=MemPlace.mem_row.1 h1
   cases e
  ·obtain ⟨i,hi,h2⟩:=U4o.1 h1
   rw [(hf i (U0u.1 hi)).2.2.2.2.2.2.2] at h2
   simp at h2
 have hwl:(len+(m - len))*64<=140737488351232:=by
  refine hw _ ?_
  simp only [DataW.weights,underlying22,Zl8]
  simp
 have hws:∀ i,i<len->(f i).s.size<=140737488351232:=fun i hi=>by
  refine hw _ ?_
  simp only [DataW.weights,underlying22]
  refine U3f _ (U2q _ (Z8h (U0l.2 ⟨i,U0u.2 hi,rfl⟩) _ ?_))
  rw [(hf i (by omega)).2.2.2.2.2.2.1]
  simp [DataW.weights,underlying36,DataW.weightsEach]
 rcases U26 len with h0 | h0
 ·subst h0
  exact ⟨some a,0,0,cap,[],rfl,U0x _,by simp,fun j x hj=>by simp at hj,by simp,hgp⟩
 ·obtain ⟨xb,xo,spot⟩:=a
  have hspot:spot=none:=by simpa [Addr.add] using World.cell?_spot (hf 0 (by omega)).1
  subst hspot
  refine ⟨some ⟨xb,xo,none⟩,xb,xo,cap,(List.range len).map f,by simp,by simp;omega,fun _=>rfl,fun j x hj => ?_,fun z hz => ?_,hgp⟩
  ·have hjl:j<len:=by
    have:=(U0e.1 hj).1
    simpa using this
   have ex:f j=x:=by
    rw [U0g,U1u hjl] at hj
    simpa using hj
   subst ex
   obtain ⟨c0,c1,c2,c3,c4,c5,_⟩:=hf j (by omega)
   rw [add_plain] at c0 c1 c2 c3 c4 c5
   exact ⟨c0,by rw [U2f];exact c1,by rw [U2f];exact c2,by rw [U2f];exact c3,by rw [U2f];exact c4,by rw [U2f];exact c5⟩
  ·obtain ⟨i,hi,rfl⟩:=U0l.1 hz
   exact hws i (U0u.1 hi)
end
theorem Zcx.below {W W':World}{b o:Nat}{l:List ActD} (h:Zcx W b o l) (hb:Below W.heap.size W W'):Zcx W' b o l:=fun j x hj=>by
 obtain ⟨c0,c1,c2,c3,c4,c5⟩:=h j x hj
 have lt:=Z02 c0
 exact ⟨(hb.cell (p:=⟨b,o+j*6,none⟩) lt).trans c0,(hb.cell (p:=⟨b,o+j*6+1,none⟩) lt).trans c1,(hb.cell (p:=⟨b,o+j*6+2,none⟩) lt).trans c2,(hb.cell (p:=⟨b,o+j*6+3,none⟩) lt).trans c3,(hb.cell (p:=⟨b,o+j*6+4,none⟩) lt).trans c4,(hb.cell (p:=⟨b,o+j*6+5,none⟩) lt).trans c5⟩
end
def Zn6 (l:List ActD):Prop:=l.length<=120 /\ ∀ x∈l,x.nm.toList = [109,97,107,101] -> ¬ (300<x.c/\x.c<=4096)
theorem Zud (xa:Option Addr) (xb xo cap:Nat) (l:List ActD) (w:World) (hl:l.length*64<=140737488351232) (hxa:0<l.length->xa=some ⟨xb,xo,none⟩) (hin:Zcx w xb xo l) :
  Calls prog 10 #[.slice xa l.length cap] w fun ev w'=>(ev = .returned (.bool true)/\Zn6 l/\w'=w)\/(ev = .returned (.bool false)/\w'=w):=by
 have HIN:=Z00 hin
 have HXA:=Z00 hxa
 clear hin hxa
 go_enter func10,ntmps10
 go_wp2_with fail
 go_loopg [3,4] (l.length+1) (fun gk v3 v4 wr => ∃ (k:Nat) (n:Int),gk=l.length+1 - k/\k<=l.length/\v3 = .int .i64 n/\v4 = .int .i64 (k:Int)/\Hid (∀ j x,j<k->l[j]?=some x->x.nm.toList = [109,97,107,101] -> ¬ (300<x.c/\x.c<=4096))/\wr=w)
 case atStart=>exact ⟨0,0,rfl,U0x _,rfl,rfl,fun j x hj=>absurd hj (by omega),rfl⟩
 case round =>
  obtain ⟨k,n,hgk,hk,rfl,rfl,HP,rfl⟩:=hrel
  have HG:=Z00 hgk
  clear hgk
  by_cases hlt:k<l.length
  ·obtain ⟨x,hx⟩:∃ x,l[k]?=some x:=⟨_,U03 hlt⟩
   obtain ⟨c0,c1,c2,c3,c4,c5⟩:=HIN.out k x hx
   have hX:=HXA.out (by omega)
   subst hX
   have HX:=Z00 hx
   clear hx
   have hI:(k:Int)<(l.length:Int):=by omega
   have hI0:(0:Int)<=(k:Int):=by omega
   have next:∀ {P:Prop},((x.nm.toList = [109,97,107,101] -> ¬ (300<x.c/\x.c<=4096))->P)->(x.nm.toList = [109,97,107,101] -> ¬ (300<x.c/\x.c<=4096))->P:=fun f h=>f h
   have step:(x.nm.toList = [109,97,107,101] -> ¬ (300<x.c/\x.c<=4096))->Hid (∀ j y,j<k+1->l[j]?=some y->y.nm.toList = [109,97,107,101] -> ¬ (300<y.c/\y.c<=4096)):=fun h j y hj hy=>by
    by_cases e:j=k
    ·subst e
     rw [HX.out] at hy
     cases hy
     exact h
    ·exact HP.out j y (by omega) hy
   clear next
   have HS:=Z00 step
   clear step
   by_cases e1:x.nm.toList = [109,97,107,101]
   ·have e1':(x.nm.toList == [109,97,107,101])=true:=by rw [e1];rfl
    by_cases e2:300<x.c
    ·by_cases e3:x.c<=4096
     ·go_wp2_with fail
      go_ret
      exact .inr ⟨rfl,rfl⟩
     ·have HN:=Z00 (HS.out (fun _ h=>e3 h.2))
      go_wp2_with fail
      go_roundg (l.length+1 - (k+1))
      case measure=>have:=HG.out;omega
      case rel=>exact ⟨k+1,_,rfl,by omega,rfl,by go_num,HN,rfl⟩
    ·have HN:=Z00 (HS.out (fun _ h=>e2 h.1))
     go_wp2_with fail
     go_roundg (l.length+1 - (k+1))
     case measure=>have:=HG.out;omega
     case rel=>exact ⟨k+1,_,rfl,by omega,rfl,by go_num,HN,rfl⟩
   ·have e1':(x.nm.toList == [109,97,107,101])=false:=by rw [U0w];exact e1
    have HN:=Z00 (HS.out (fun h=>absurd h e1))
    go_wp2_with fail
    go_roundg (l.length+1 - (k+1))
    case measure=>have:=HG.out;omega
    case rel=>exact ⟨k+1,_,rfl,by omega,rfl,by go_num,HN,rfl⟩
  ·obtain rfl:k=l.length:=by omega
   have hI:¬ (l.length:Int)<(l.length:Int):=by omega
   have hall:∀ y∈l,y.nm.toList = [109,97,107,101] -> ¬ (300<y.c/\y.c<=4096):=fun y hy=>by
    obtain ⟨j,hj⟩:=U1z hy
    exact HP.out j y (U0e.1 hj).1 hj
   have HALL:=Z00 hall
   clear hall
   by_cases e1:l.length<=120
   ·have e1':(l.length:Int)<=120:=by omega
    by_cases e2:n<=3000
    ·go_wp2_with fail
     go_ret
     exact .inl ⟨rfl,⟨e1,HALL.out⟩,rfl⟩
    ·go_wp2_with fail
     go_ret
     exact .inr ⟨rfl,rfl⟩
   ·have e1':¬ (l.length:Int)<=120:=by omega
    go_wp2_with fail
    go_ret
    exact .inr ⟨rfl,rfl⟩
end Go.Proofs.YtlkcbdinlfeoiaaGreatDoor
