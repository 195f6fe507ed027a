/- Package mem: what can be come to (eachField, reach), by contracts. -/
import Derived.Test.YtlkcbdinlfeoiaaGreatDoorMemGF
namespace Go.Proofs.YtlkcbdinlfeoiaaGreatDoor
open Go.Proofs.Tryz Go.RowKit
set_option maxHeartbeats 8000000
set_option maxRecDepth 100000
section
open Go.Maps
structure GE (a:Nat->Addr) (p b bh nW cW:Nat) (h ol c u t ot:Int) (vR vK vI vC:Value) (F:Nat->Int) (vs:List Nat) (w0:World):Prop where
 err:WErr a w0
 seen:Seen p b bh nW cW F (fun i=>decide (i∈vs)) w0
 lt:∀ f∈vs,f<nW
 mem:MemAt p h ol c (.slice (some ⟨b,0,none⟩) nW cW) u t ot vR vK vI vC w0
 few:vs.length<=200000
 reachy:Reachy F vs
theorem Zeg {a:Nat->Addr}{B p b bh nW cW qm qh qg:Nat}{h ol c u t ot:Int}{vR vK vI vC:Value}{F:Nat->Int}{vs out:List Nat}{w0:World} (X:GE a p b bh nW cW h ol c u t ot vR vK vI vC F vs w0) (hU:Outs vs out) {x:Int} (x0:0<=x) (x1:x<18446744073709551616) (hx:Zqj vs x) (w:World) (G:GS B p b bh nW qm qh qg F out w0 w) :
  Calls prog 133 #[.int .u64 x,.pointer (some ⟨qm,0,none⟩),.pointer (some ⟨qh,0,none⟩),.pointer (some ⟨qg,0,none⟩)] w fun ev w'=>ev = .returned (.tuple #[])/\GS B p b bh nW qm qh qg F (Z29 out x) w0 w':=
 Zls a B p b bh nW cW qm qh qg h ol c u t ot vR vK vI vC F vs out (U0n hU.len X.few) x x0 x1 hx w0 X.err X.seen X.lt X.mem w G
theorem Zkl {a:Nat->Addr}{B p b bh nW cW qm qh qg:Nat}{h ol c u t ot:Int}{vR vK vI vC:Value}{F:Nat->Int}{vs out:List Nat}{w0:World} (X:GE a p b bh nW cW h ol c u t ot vR vK vI vC F vs w0) (hU:Outs vs out) {f:Nat} (hf:f∈vs) {ao:Option Addr}{cap:Nat} (_hc:szN (F f)<=cap) (hao:0<szN (F f)->ao=some ⟨b,f+1,none⟩) (w:World) (G:GS B p b bh nW qm qh qg F out w0 w) :
  Calls prog 136 #[.agg #[.int .i64 (f:Int),.int .i64 (F f / 4 % 256),.slice ao (szN (F f)) cap],.func (.func 133) #[] #[.pointer (some ⟨qm,0,none⟩),.pointer (some ⟨qh,0,none⟩),.pointer (some ⟨qg,0,none⟩)]] w fun ev w'=>ev = .returned (.tuple #[])/\GS B p b bh nW qm qh qg F (Z33 F out f) w0 w':=by
 have hkd0:0<=F f / 4 % 256:=U3o _ (by decide)
 have hfw:=X.lt f hf
 have hfin:=X.seen.fine f hfw (U0d hf)
 have hnW:=X.seen.hn
 have HX:=Z00 X
 have HG:=Z00 G
 have HU:=Z00 hU
 have HRY:=Z00 (X.reachy.held f hf)
 obtain ⟨st,hst⟩:∃ st,st=Z33 F out f:=⟨_,rfl⟩
 rw [<-hst]
 have HST:=Z00 hst
 obtain ⟨sz,hsz⟩:∃ sz,sz=szN (F f):=⟨_,rfl⟩
 rw [<-hsz] at _hc hao ⊢
 have hfsz:f+1+sz<=nW:=by rw [hsz];exact hfin.2
 have HLN:Hid ((Z07 F f).length=sz):=by show _=_;rw [Z13,hsz]
 have HAT:Hid (∀ k,k<sz->(Z07 F f)[k]?=some (F (f+1+k))):=fun k hk=>Z44 (by rw [<-hsz];exact hk)
 clear X G hU hst hsz hfin
 by_cases hr:F f / 4 % 256<8
 ·have e:st=out:=by rw [HST.out];unfold Z33;rw [U09 hr]
  subst e
  have kr:=fun W=>Z21 (F f / 4 % 256) hkd0 W
  rw [U0d hr] at kr
  generalize F f / 4 % 256=kd at *
  go_enter func136,ntmps136
  go_wp2_with fail
  refine (kr _).mono ?_
  rintro ev w1 ⟨rfl,hq⟩
  rw [hq]
  clear hq w1
  go_wp2_with fail
  refine U2n (results_none rfl _ _ _) rfl ?_
  exact ⟨rfl,HG.out.keep ((U01 _ _).alloc (U02 _) _)⟩
 ·have e:st=Z0n out (Z07 F f):=by rw [HST.out];unfold Z33;rw [U08 hr]
  have HRZ:=Z00 (HRY.out hr)
  have kr:=fun W=>Z21 (F f / 4 % 256) hkd0 W
  rw [U0k hr] at kr
  have HEE:=Z00 e
  clear HST e HRY
  generalize F f / 4 % 256=kd at *
  go_enter func136,ntmps136
  go_wp2_with fail
  refine (kr _).mono ?_
  rintro ev w1 ⟨rfl,hq⟩
  have hb1:Below w.heap.size w w1:=by rw [hq];exact (U01 _ _).alloc (U02 _) _
  have ob:w1.heap[w.heap.size]?=some (.cells #[.int .i64 (f:Int),.int .i64 kd,.slice ao sz cap] 141):=by rw [hq];exact U0b w _
  have o2:w1.cell? ⟨w.heap.size,2,none⟩=some (.slice ao sz cap):=by rw [U06 _ _ 2 _ _ _ ob];rfl
  have HG1:=Z00 (HG.out.keep hb1)
  clear hq kr ob hb1
  go_wp2_with fail
  go_loopg [12] (sz+1) (fun gk v12 wr => ∃ k:Nat,gk=sz+1 - k/\k<=sz/\v12 = .int .i64 (k:Int)/\Hid (GS B p b bh nW qm qh qg F (Z0n out ((Z07 F f).take k)) w0 wr)/\Hid (Outs vs (Z0n out ((Z07 F f).take k))))
  case atStart=>exact ⟨0,rfl,U0x _,rfl,HG1,HU⟩
  case round =>
   obtain ⟨k,hgk,hk,rfl,hG,hU⟩:=hrel
   have HGK:=Z00 hgk
   have hk0:(0:Int)<=(k:Int):=by omega
   clear hgk o2
   by_cases hlt:k<sz
   ·have hI:(k:Int)<(sz:Int):=by omega
    obtain rfl:=hao (by omega)
    obtain ⟨x,hx⟩:∃ x,x=F (f+1+k):=⟨_,rfl⟩
    have SWr:=HX.out.seen.below hG.out.below
    have rx:wr.cell? ⟨b,f+1+k,none⟩=some (.int .u64 x):=by rw [hx];exact SWr.words _ (by omega)
    have hxr:=SWr.range (f+1+k) (by omega)
    rw [<-hx] at hxr
    have hxf:=HAT.out k hlt
    rw [<-hx] at hxf
    have kc:=Zeg HX.out hU.out hxr.1 hxr.2 (HRZ.out x (U0a hxf)) wr hG.out
    rw [<-Z4h hxf] at kc
    have HU2:Hid (Outs vs (Z0n out ((Z07 F f).take (k+1)))):=by show Outs _ _;rw [Z4h hxf];exact hU.out.come (HRZ.out x (U0a hxf))
    clear SWr hx hxr hxf hG hU
    go_wp2_with fail
    refine kc.mono ?_
    rintro ev w2 ⟨rfl,hG2⟩
    have HG2:=Z00 hG2
    clear kc hG2
    go_wp2_with fail
    go_roundg (sz+1 - (k+1))
    case measure=>have:=HGK.out;omega
    case rel=>exact ⟨k+1,rfl,by omega,by go_num,HG2,HU2⟩
   ·have hI:¬ (k:Int)<(sz:Int):=by omega
    have HE2:Hid (st=Z0n out ((Z07 F f).take k)):=by show _=_;rw [HEE.out,U13 (by have:=HLN.out;omega)]
    go_wp2_with fail
    go_end0
    exact ⟨rfl,by rw [HE2.out];exact hG.out⟩
theorem GE.below {a:Nat->Addr}{p b bh nW cW:Nat}{h ol c u t ot:Int}{vR vK vI vC:Value}{F:Nat->Int}{vs:List Nat}{w w':World} (X:GE a p b bh nW cW h ol c u t ot vR vK vI vC F vs w) (hb:Below w.heap.size w w'):GE a p b bh nW cW h ol c u t ot vR vK vI vC F vs w':=
 ⟨X.err.below hb,X.seen.below hb,X.lt,X.mem.below hb (Z02 X.mem.c0),X.few,X.reachy⟩
theorem Z9l:∀ {xs:List (List Value)},(∀ cs∈xs,cs.length=3) -> ∀ {k:Nat}{cs:List Value},xs[k]?=some cs -> ∀ i,i<3->xs.flatten[k*3+i]?=cs[i]?
 | [],_,k,cs,h,_,_=>by simp at h
 | c::xs,hl,0,cs,h,i,hi=>by
  simp at h
  subst h
  have:=hl c (by simp)
  rw [U2d,U10 (by omega)]
  simp
 | c::xs,hl,k+1,cs,h,i,hi=>by
  have h3:=hl c (by simp)
  rw [U2d,U12 (by omega),h3,show (k+1)*3+i - 3=k*3+i by omega]
  exact Z9l (fun x hx=>hl x (by simp [hx])) (by simpa using h) i hi
theorem Zd8.three {b:Nat}{F:Nat->Int}{out:List Nat}{xs:List (List Value)} (h:Zd8 b F out xs):∀ cs∈xs,cs.length=3:=fun cs hc=>by
 obtain ⟨j,hj⟩:=U21.1 hc
 have hl:=(U0e.1 hj).1
 obtain ⟨c2,h1,ao,cap,rfl,_⟩:=h.2 j (out[j]'(by rw [<-h.1];exact hl)) (U03 _)
 rw [hj] at h1
 cases h1
 rfl
theorem Zqa {B p b bh nW qm qh qg q i:Nat}{F:Nat->Int}{ou:List Nat}{w w0 wx:World} (G:GS B p b bh nW qm qh qg F ou w0 wx) (hb:Below w.heap.size w w0) (h1:w.heap.size<=q) (h2:q<B) (hm:q≠qm) (hh:q≠qh) (v:Value):GS B p b bh nW qm qh qg F ou w (wx.setCell ⟨q,i,none⟩ v):=by
 obtain ⟨vO,bm,n,D,xs,k1,k2,k3,k4,k5,k6,k7,k8,k9,k10,k11⟩:=G.gr
 have hs:=hb.size
 have hx:∀ k,k≠q->(wx.setCell ⟨q,i,none⟩ v).heap[k]?=wx.heap[k]?:=fun k hk=>Z0a _ _ _ _ _ hk
 refine ⟨(hb.trans (G.below.mono hs)).setCell h1 _,U0n hs G.lo,(U25 (a:=⟨qm,0,none⟩) (hx qm (fun e=>hm e.symm))).trans G.cm,(U25 (a:=⟨qh,0,none⟩) (hx qh (fun e=>hh e.symm))).trans G.ch,G.lm,G.lh,vO,bm,n,D,xs,(hx qg (by omega)).trans k1,Z04 k2 (fun g hg=>hx g (by have:=(Z08 k2 g hg).1;omega)),k3,Z3x k4 (hx bm (by omega)),k5,k6,k7,k8,k9,k10,k11⟩
theorem Zc6 (tmps:Array Value) (W:World) (b:Nat) (v0 v1:Value) (h2:tmps[4]?.getD undef = .pointer (some ⟨b,0,none⟩)) (c0:W.cell? ⟨b,0,none⟩=some v0) (c1:W.cell? ⟨b,1,none⟩=some v1) :
  (results f81 tmps).run prog W = .ok (.agg #[v0,v1]) W:=by
 simp [results,Tryz.results81,go_sem,h2,c0,c1]
structure GR (vs:List Nat) (R:List Int) (vR:Value) (w:World):Prop where
 row:Z4g w vR R.length (Z05 R)
 u64:U64 R
 len:R.length<=300000
 held:∀ x∈R,Zqj vs x
theorem Zph (p b bh nW:Nat) (F:Nat->Int) (w w5:World) (t1 t2 t3:TypeId) (h:w5=((((w.alloc (.cells #[.pointer (some ⟨p,0,none⟩)] t1)).alloc (.cells #[.slice (some ⟨bh,0,none⟩) nW nW] t2)).alloc (.cells #[.slice none 0 0,.map none] t3)).alloc (.map #[] 0)).alloc (.cells #[.slice none 0 0,.map (some (w.heap.size+1+1+1))] 138)):∃ a3,Below w.heap.size w a3/\GS a3.heap.size p b bh nW w.heap.size (w.heap.size+1) (w.heap.size+1+1+1+1) F [] a3 w5/\a3.heap[w.heap.size+1+1]?=some (.cells #[.slice none 0 0,.map none] t3):=by
 obtain ⟨a1,ha1⟩:∃ a1,a1=w.alloc (.cells #[.pointer (some ⟨p,0,none⟩)] t1):=⟨_,rfl⟩
 rw [<-ha1] at h
 obtain ⟨a2,ha2⟩:∃ a2,a2=a1.alloc (.cells #[.slice (some ⟨bh,0,none⟩) nW nW] t2):=⟨_,rfl⟩
 rw [<-ha2] at h
 obtain ⟨a3,ha3⟩:∃ a3,a3=a2.alloc (.cells #[.slice none 0 0,.map none] t3):=⟨_,rfl⟩
 rw [<-ha3] at h
 obtain ⟨a4,ha4⟩:∃ a4,a4=a3.alloc (.map #[] 0):=⟨_,rfl⟩
 rw [<-ha4] at h
 have s1:a1.heap.size=w.heap.size+1:=by rw [ha1];simp
 have s2:a2.heap.size=w.heap.size+1+1:=by rw [ha2];simp [s1]
 have s3:a3.heap.size=w.heap.size+1+1+1:=by rw [ha3];simp [s2]
 have s4:a4.heap.size=w.heap.size+1+1+1+1:=by rw [ha4];simp [s3]
 have b1:Below w.heap.size w a1:=by rw [ha1];exact (U01 _ _).alloc (U02 _) _
 have b2:Below a1.heap.size a1 a2:=by rw [ha2];exact (U01 _ _).alloc (U02 _) _
 have b3:Below a2.heap.size a2 a3:=by rw [ha3];exact (U01 _ _).alloc (U02 _) _
 have b4:Below a3.heap.size a3 a4:=by rw [ha4];exact (U01 _ _).alloc (U02 _) _
 have b5:Below a4.heap.size a4 w5:=by rw [h];exact (U01 _ _).alloc (U02 _) _
 have n1:a1.heap[w.heap.size]?=some (.cells #[.pointer (some ⟨p,0,none⟩)] t1):=by rw [ha1];exact U0b _ _
 have n2:a2.heap[w.heap.size+1]?=some (.cells #[.slice (some ⟨bh,0,none⟩) nW nW] t2):=by rw [<-s1,ha2];exact U0b _ _
 have n3:a3.heap[w.heap.size+1+1]?=some (.cells #[.slice none 0 0,.map none] t3):=by rw [<-s2,ha3];exact U0b _ _
 have n5:w5.heap[w.heap.size+1+1+1+1]?=some (.cells #[.slice none 0 0,.map (some (w.heap.size+1+1+1))] 138):=by
  have:=U0b a4 (.cells #[.slice none 0 0,.map (some (w.heap.size+1+1+1))] 138)
  rw [<-s4,h]
  exact this
 have m4:a4.ownsMap prog 81 (plainElem (H:=Unit) prog 3) (w.heap.size+1+1+1) 0 (.map []):=by
  rw [<-s3,ha4]
  exact U4a a3 prog 81 (plainElem (H:=Unit) prog 3)
 have c45:Below a3.heap.size a3 w5:=b4.trans (b5.mono (by omega))
 have c35:Below a2.heap.size a2 w5:=b3.trans (c45.mono (by omega))
 have c25:Below a1.heap.size a1 w5:=b2.trans (c35.mono (by omega))
 refine ⟨a3,b1.trans ((b2.trans (b3.mono (by omega))).mono (by omega)),⟨c45,U02 _,?_,?_,by omega,by omega,.slice none 0 0,w.heap.size+1+1+1,0,.map [],[],n5,⟨rfl,.inl ⟨rfl,rfl⟩⟩,Zma b F,Z3x m4 (b5.block _ (by omega)),U02 _,Zp7,by omega,by omega,by omega,by simp [Value.ownBlock],by simp [Value.ownBlock]⟩,n3⟩
 ·rw [U06 _ _ 0 _ _ _ ((c25.block _ (by omega)).trans n1)];rfl
 ·rw [U06 _ _ 0 _ _ _ ((c35.block _ (by omega)).trans n2)];rfl
theorem Zdq {a:Nat->Addr}{p b bh nW cW:Nat}{h ol c u t ot:Int}{vR vK vI vC:Value}{F:Nat->Int}{vs:List Nat}{w:World} (X:GE a p b bh nW cW h ol c u t ot vR vK vI vC F vs w) (R:List Int) (HR:GR vs R vR w) :
  Calls prog 81 #[.pointer (some ⟨p,0,none⟩),.slice (some ⟨bh,0,none⟩) nW nW] w fun ev w' => ∃ B qm qh qg vO bm,ev = .returned (.agg #[vO,.map (some bm)])/\w'.heap[qg]?=some (.cells #[vO,.map (some bm)] 138)/\GS B p b bh nW qm qh qg F (Z10 F (vs.length+1) (Z0n [] R) 0) w w':=by
 have hmm:=@run_makeMap prog
 obtain ⟨aR,cR,rfl,hcR,fR⟩:=HR.row
 have c7:=X.mem.c7
 have hfew:=X.few
 have HX:=Z00 X
 have HRR:=Z00 HR
 obtain ⟨rr,hrr⟩:∃ rr,rr=Z10 F (vs.length+1) (Z0n [] R) 0:=⟨_,rfl⟩
 rw [<-hrr]
 have HRE:=Z00 hrr
 clear X HR hrr
 go_enter func81,ntmps81
 go_upto_region 3 with fail
 obtain ⟨w5,hw5⟩:∃ w5,w5=((((w.alloc (.cells #[.pointer (some ⟨p,0,none⟩)] 44)).alloc (.cells #[.slice (some ⟨bh,0,none⟩) nW nW] 132)).alloc (.cells #[.slice none 0 0,.map none] 138)).alloc (.map #[] 0)).alloc (.cells #[.slice none 0 0,.map (some (w.heap.size+1+1+1))] 138):=⟨_,rfl⟩
 rw [<-hw5]
 obtain ⟨a3,hb3,hG5,hr3⟩:=Zph p b bh nW F w w5 _ _ _ hw5
 clear hw5 hmm
 have HB3:=Z00 hb3
 have HR3:=Z00 hr3
 have HX3:=Z00 (HX.out.below hb3)
 have HRW3:=Z00 (HRR.out.row.below hb3)
 have d7:=HX3.out.mem.c7
 have lp7:=Z02 d7
 have HG5:=Z00 hG5
 have cm5:=hG5.cm
 have d75:=(hG5.below.cell (p:=⟨p,7,none⟩) lp7).trans d7
 have hRl:=HRR.out.len
 clear hG5 hr3 hb3 fR c7
 go_wp2_with fail
 go_loopg [18] (R.length+1) (fun gk v18 wr => ∃ k:Nat,gk=R.length+1 - k/\k<=R.length/\v18 = .int .i64 (k:Int)/\Hid (GS a3.heap.size p b bh nW w.heap.size (w.heap.size+1) (w.heap.size+1+1+1+1) F (Z0n [] (R.take k)) a3 wr)/\Hid (Outs vs (Z0n [] (R.take k))))
 case atStart=>exact ⟨0,rfl,U0x _,rfl,HG5,Z5f vs⟩
 case round =>
  obtain ⟨k,hgk,hk,rfl,hG,hU⟩:=hrel
  have HGK:=Z00 hgk
  have hk0:(0:Int)<=(k:Int):=by omega
  clear hgk d75 cm5
  by_cases hlt:k<R.length
  ·have hI:(k:Int)<(R.length:Int):=by omega
   obtain ⟨x,hx⟩:∃ x,R[k]?=some x:=⟨_,U03 hlt⟩
   obtain ⟨_,_,e,_,f1⟩:=HRW3.out
   cases e
   obtain ⟨pR,oR,rfl,lR,gR⟩:=f1 (by omega)
   have rx:wr.cell? ⟨pR,oR+k,none⟩=some (.int .u64 x):=(hG.out.below.cell (p:=⟨pR,oR+k,none⟩) lR).trans (gR k _ (Z2d hx))
   have hxr:=HRR.out.u64 x (U0a hx)
   have hxh:=HRR.out.held x (U0a hx)
   have kc:=Zeg HX3.out hU.out hxr.1 hxr.2 hxh wr hG.out
   rw [<-Z4h hx] at kc
   have HU2:Hid (Outs vs (Z0n [] (R.take (k+1)))):=by show Outs _ _;rw [Z4h hx];exact hU.out.come hxh
   clear f1 gR hx hxr hxh hG hU
   go_wp2_with fail
   refine kc.mono ?_
   rintro ev w2 ⟨rfl,hG2⟩
   have HG2:=Z00 hG2
   clear kc hG2
   go_wp2_with fail
   go_roundg (R.length+1 - (k+1))
   case measure=>have:=HGK.out;omega
   case rel=>exact ⟨k+1,rfl,by omega,by go_num,HG2,HU2⟩
  ·have hI:¬ (k:Int)<(R.length:Int):=by omega
   have hkk:R.take k=R:=U13 (by omega)
   rw [hkk] at hG hU
   clear hkk
   obtain ⟨ou,hou⟩:∃ ou,ou=Z0n [] R:=⟨_,rfl⟩
   rw [<-hou] at hG hU
   have HRE1:Hid (rr=Z10 F (vs.length+1) ou 0):=by show _=_;rw [HRE.out,hou]
   clear hou
   go_wp2_with fail
   go_loopg [9] (vs.length+1) (fun gk v9 wx => ∃ (k:Nat) (ou:List Nat),gk=vs.length+1 - k/\k<=ou.length/\v9 = .int .i64 (k:Int)/\Hid (GS a3.heap.size p b bh nW w.heap.size (w.heap.size+1) (w.heap.size+1+1+1+1) F ou a3 wx)/\Hid (Outs vs ou)/\Hid (rr=Z10 F (vs.length+1 - k) ou k))
   case atStart=>exact ⟨0,ou,rfl,U0x _,rfl,hG,hU,HRE1⟩
   case round =>
    clear hI hlt hk hk0 HGK hG hU HRE1
    obtain ⟨k,ou,hgk,hk,rfl,hG,hU,HRE1⟩:=hrel
    obtain ⟨wx,hwx⟩:∃ wx,wx=wr:=⟨_,rfl⟩
    subst hwx
    have HGK:=Z00 hgk
    have hk0:(0:Int)<=(k:Int):=by omega
    have hol:=hU.out.len
    obtain ⟨vO,bm,n,D,xs,k1,k2,k3,_,_,_,_,_,_,_,_⟩:=hG.out.gr
    obtain ⟨oo,oc,rfl⟩:=Z2w k2
    have z0:wx.cell? ⟨w.heap.size+1+1+1+1,0,none⟩=some (.slice oo ou.length oc):=by rw [U06 _ _ 0 _ _ _ k1];rfl
    have z1:wx.cell? ⟨w.heap.size+1+1+1+1,1,none⟩=some (.map (some bm)):=by rw [U06 _ _ 1 _ _ _ k1];rfl
    have HK1:=Z00 k1
    clear hgk k1
    by_cases hlt:k<ou.length
    ·have hI:(k:Int)<(ou.length:Int):=by omega
     obtain ⟨f,hf⟩:∃ f,ou[k]?=some f:=⟨_,U03 hlt⟩
     have hfv:=hU.out.sub f (U0a hf)
     obtain ⟨cs,hxs,ao,cap,rfl,hcap,hao⟩:=k3.2 k f hf
     obtain ⟨_,_,e,_,f1⟩:=Z2p k2
     cases e
     obtain ⟨p1,o1,rfl,l1,g1⟩:=f1 (by omega)
     have r0:wx.cell? ⟨p1,o1+k*3,none⟩=some (.int .i64 (f:Int)):=g1 (k*3) _ (Z9l k3.three hxs 0 (by omega))
     have r1:wx.cell? ⟨p1,o1+k*3+1,none⟩=some (.int .i64 (F f / 4 % 256)):=g1 (k*3+1) _ (Z9l k3.three hxs 1 (by omega))
     have r2:wx.cell? ⟨p1,o1+k*3+2,none⟩=some (.slice ao (szN (F f)) cap):=g1 (k*3+2) _ (Z9l k3.three hxs 2 (by omega))
     have kc:=Zkl HX3.out hU.out hfv hcap hao wx hG.out
     obtain ⟨n',hn'⟩:∃ n',vs.length+1 - k=n'+1:=⟨vs.length - k,by omega⟩
     have HGO:Hid (rr=Z10 F (vs.length+1 - (k+1)) (Z33 F ou f) (k+1)):=by
      show _=_
      rw [HRE1.out,hn',Zej hf,show vs.length+1 - (k+1)=n' by omega]
     have HU2:Hid (Outs vs (Z33 F ou f)):=hU.out.step HX3.out.reachy hfv
     have hlen:k+1<=(Z33 F ou f).length:=by
      obtain ⟨r,hr⟩:=Zcq F ou f
      rw [hr,U0f]
      omega
     clear f1 g1 k2 k3 hxs hf hn' HRE1 hG hU HK1
     generalize F f / 4 % 256=kd at *
     generalize szN (F f)=sz at *
     go_wp2_with fail
     refine kc.mono ?_
     rintro ev w2 ⟨rfl,hG2⟩
     have HG2:=Z00 hG2
     clear kc hG2
     go_wp2_with fail
     go_roundg (vs.length+1 - (k+1))
     case measure=>have:=HGK.out;omega
     case rel=>exact ⟨k+1,_,rfl,hlen,by go_num,HG2,HU2,HGO⟩
    ·have hI:¬ (k:Int)<(ou.length:Int):=by omega
     have hle:ou.length<=k:=by omega
     have HE:Hid (rr=ou):=by show _=_;rw [HRE1.out,Z3z hle]
     have rb:wx.heap[w.heap.size+1+1]?=some (.cells #[.slice none 0 0,.map none] 138):=(hG.out.below.block _ (Z01 HR3.out)).trans HR3.out
     have rb0:wx.cell? ⟨w.heap.size+1+1,0,none⟩=some (.slice none 0 0):=by rw [U06 _ _ 0 _ _ _ rb];rfl
     have rb1:wx.cell? ⟨w.heap.size+1+1,1,none⟩=some (.map none):=by rw [U06 _ _ 1 _ _ _ rb];rfl
     have rf0:wx.frozen? ⟨w.heap.size+1+1,0,none⟩=false:=by simp [World.frozen?,rb]
     have rf1:wx.frozen? ⟨w.heap.size+1+1,1,none⟩=false:=by simp [World.frozen?,rb]
     have HRB:=Z00 rb
     have hqr:w.heap.size+1+1<a3.heap.size:=Z01 HR3.out
     clear k2 k3 rb
     go_wp2_with fail
     have W2:((wx.setCell ⟨w.heap.size+1+1,0,none⟩ (.slice oo ou.length oc)).setCell ⟨w.heap.size+1+1,1,none⟩ (.map (some bm))).heap[w.heap.size+1+1]?=some (.cells #[.slice oo ou.length oc,.map (some bm)] 138):=(Z06 ((Z06 HRB.out).trans rfl)).trans rfl
     refine U2n (Zc6 _ _ (w.heap.size+1+1) _ _ rfl (by rw [U06 _ _ 0 _ _ _ W2];rfl) (by rw [U06 _ _ 1 _ _ _ W2];rfl)) rfl ?_
     have e:=HE.out
     subst e
     exact ⟨_,_,_,_,_,_,rfl,(Z0a _ _ _ _ _ (by omega)).trans ((Z0a _ _ _ _ _ (by omega)).trans HK1.out),Zqa (Zqa hG.out HB3.out (by omega) hqr (by omega) (by omega) _) (U01 _ _) (by omega) hqr (by omega) (by omega) _⟩
end
end Go.Proofs.YtlkcbdinlfeoiaaGreatDoor
