/- Graph of any memory, by a walk. -/
import Derived.Test.YtlkcbdinlfeoiaaGreatDoorKnBE
namespace Go.Proofs.YtlkcbdinlfeoiaaGreatDoor
open Go.Proofs.Tryz Go.RowKit
set_option maxHeartbeats 8000000
set_option maxRecDepth 100000
set_option linter.unusedSimpArgs false
section
open Go.Maps
theorem Z56 {nH:Nat}{hb:Nat->Bool}{x:Int} (hn:nH<=300000) (h:Z0b nH hb x=true):(x % 4=2->x / 4<=2)/\x % 4≠3/\(x / 4<=1099511627776\/x % 4=1):=by
 unfold Z0b at h
 by_cases c1:x % 4=1
 ·exact ⟨fun h=>by omega,by omega,Or.inr c1⟩
 ·rw [U08 c1] at h
  by_cases c2:x % 4=2
  ·rw [U09 c2] at h
   have:=U0j h
   exact ⟨fun _=>this,by omega,Or.inl (by omega)⟩
  ·rw [U08 c2] at h
   rcases Bool.or_eq_true_iff.1 h with h | h
   ·have e:=eq_of_beq h
    subst e
    exact ⟨fun h=>by omega,by omega,Or.inl (by decide)⟩
   ·unfold Z2y at h
    simp only [U0i,U1x] at h
    exact ⟨fun h=>by omega,by omega,Or.inl (by omega)⟩
theorem MD.Shape.rest {m:MD}{vs:List Nat} (S:m.Shape vs):(∀ x∈m.R,Z0b m.W.length (fun i=>decide (i∈vs)) x=true)/\(∀ x∈m.K,Z0b m.W.length (fun i=>decide (i∈vs)) x=true)/\Z6j m.W.length (fun i=>decide (i∈vs)) m.I=true:=by
 have h:=S.2.2.2
 unfold MD.restB at h
 simp only [U0i] at h
 exact ⟨fun x hx=>U0m.1 h.1 x hx,fun x hx=>U0m.1 h.2.1 x hx,h.2.2⟩
def MD.text (m:MD) (vs:List Nat):ByteArray:=Z7d (m.reach vs) (Z0d sWeak (m.reach vs) (Z0j m.F (m.reach vs) (Z0d sRoot (m.reach vs) ⟨#[]⟩ m.R) (m.reach vs).length) m.K) ((Z9i m.I).filter (Z7l (m.reach vs)))
def Z6o (a:Nat->Addr) (m:MD) (w:World) (ev:Ending) (w':World):Prop:=Below w.heap.size w w' /\
 ((∃ vs,m.Shape vs/\m.cardsB=true/\ev = .returned (.tuple #[.string (m.text vs),.nilIface])) \/
  (∃ vs,m.Shape vs/\m.cardsB=false/\ev = .returned (.tuple #[.string ⟨#[]⟩,Z0p a 4])) \/
  ((∀ vs,¬ m.Shape vs)/\ev = .returned (.tuple #[.string ⟨#[]⟩,Z0p a 2])))
theorem Z5x {s:ByteArray} (hs:s.size=5) {out:List Nat} (hn:out.length<=300000):∀ (l:List Int) (A:ByteArray),(Z0d s out A l).size<=A.size+l.length*28
 | [],A=>by simp [Z0d]
 | x::l,A=>by
  have h1:=Z5x hs hn l (Z3w s out A x)
  have h2:=Z39 out hn x
  have h3:(Z3w s out A x).size<=A.size+28:=by
   unfold Z3w
   rw [U0o,U0o,U0o,hs]
   show _+1<=_
   omega
  show (Z0d s out (Z3w s out A x) l).size<=_
  rw [U1e]
  omega
theorem Z8m {F:Nat->Int}{out:List Nat} (hn:out.length<=300000) (hf:∀ f∈out,szN (F f)<=4096) (A:ByteArray):∀ k,k<=out.length->(Z0j F out A k).size<=A.size+k*200000
 | 0,_=>by show A.size<=_;omega
 | k+1,hk=>by
  obtain ⟨f,hfk⟩:∃ f,out[k]?=some f:=⟨_,U03 (by omega)⟩
  rw [Z90 hfk]
  have h1:=Z8m hn hf A k (by omega)
  have h2:=Za7 (F:=F) hn (k:=k) (f:=f) (by omega) (hf f (U0a hfk)) (Z0j F out A k)
  omega
theorem Zqh (A:ByteArray):(⟨A.data.toList.toArray⟩:ByteArray)=A:=by cases A;simp
theorem Zrx {qg bl bm n ol oc:Nat}{oo:Option Addr}{D:DataW Unit}{B:Nat}{xs:List (List Value)}{w0 w:World}{A:ByteArray} (G:GW qg bl bm n ol oc oo D B xs w0 A.data.toList w):Calls prog 103 #[.pointer (some ⟨bl,0,none⟩)] w fun ev w'=>ev = .returned (.string A)/\Below bl w w':=by
 by_cases h:A.data.toList = []
 ·obtain ⟨p,hp⟩:=G.nil h
  have e:A=⟨#[]⟩:=by rw [<-Zqh A,h]
  rw [e]
  exact Zni bl bl p w hp
 ·have h1:=lText bl bl A.data.toList w G.bld h
  rw [Zqh] at h1
  exact h1
theorem GW.three {qg bl bm n ol oc p cI nI:Nat}{oo aI:Option Addr}{D:DataW Unit}{B:Nat}{xs:List (List Value)}{w0 w:World}{acc:List UInt8} (h:GW qg bl bm n ol oc oo D B xs w0 acc w) (h9:w0.cell? ⟨p,9,none⟩=some (.slice aI nI cI)):w.cell? ⟨qg,0,none⟩=some (.slice oo ol oc)/\w.cell? ⟨qg,1,none⟩=some (.map (some bm))/\w.cell? ⟨p,9,none⟩=some (.slice aI nI cI):=
 ⟨by rw [U06 _ _ 0 _ _ _ h.gr];rfl,by rw [U06 _ _ 1 _ _ _ h.gr];rfl,(h.below.cell (p:=⟨p,9,none⟩) (Z02 h9)).trans h9⟩
theorem GW.drew {qg bl bm n ol oc:Nat}{oo:Option Addr}{D:DataW Unit}{B:Nat}{xs:List (List Value)}{w0 w:World}{acc:List UInt8} (h:GW qg bl bm n ol oc oo D B xs w0 acc w):GW qg bl bm n ol oc oo D B xs w0 acc w.drew:=h.keep (U01 _ _).drew
theorem Ztd {nH:Nat}{hb:Nat->Bool} (hn:nH<=300000) {I:List (Int × Int)}{out:List Nat} (h:Z6j nH hb I=true):∀ x∈(Z9i I).filter (Z7l out),Z7l out x=true/\x.1 % 4=0/\x.1≠0/\x.1 / 4<=1099511627776:=fun x hx=>by
 obtain ⟨h1,h2⟩:=U1l.1 hx
 have h3:=Z8r h x ((Z4z I).mem_iff.1 h1)
 unfold Z2y at h3
 simp only [U0i,U1x] at h3
 exact ⟨h2,by omega,by omega,by omega⟩
theorem Znb (a:Nat->Addr) (p:Nat) (m:MD) (h64:MD64 m) (bR:m.R.length<=300000) (bK:m.K.length<=300000) (bI:m.I.length<=300000) (w:World) (E:MErr3 a w) (ht:Z2b w) (hz:Zem w) (R:Z86 p m w) :
  Calls prog 52 #[.pointer (some ⟨p,0,none⟩)] w (Z6o a m w):=by
 have ks:=Z5z a p m h64 bR bK bI w E R
 have HE:=Z00 E
 have HR:=Z00 R
 have H64:=Z00 h64
 have HTT:=Z00 ht
 have HZZ:=Z00 hz
 clear E R h64 ht hz
 go_enter func52,ntmps52
 go_wp2_with fail
 refine ks.mono ?_
 clear ks
 rintro ev w1 ⟨hb1,⟨vs,bh,hs,hC,rfl,hm,_⟩ | ⟨vs,hs,hC,rfl⟩ | ⟨hno,rfl⟩⟩
 rotate_left
 ·have HP:Hid (Z6o a m w (.returned (.tuple #[.string ⟨#[]⟩,Z0p a 4])) w1):=⟨hb1,.inr (.inl ⟨vs,hs,hC,rfl⟩)⟩
  unfold Z0p at *
  clear hs hC hb1
  go_wp2_with fail
  go_ret2
  exact HP.out
 ·have HP:Hid (Z6o a m w (.returned (.tuple #[.string ⟨#[]⟩,Z0p a 2])) w1):=⟨hb1,.inr (.inr ⟨hno,rfl⟩)⟩
  unfold Z0p at *
  clear hno hb1
  go_wp2_with fail
  go_ret2
  exact HP.out
 obtain ⟨w2,hw2⟩:∃ w2,w2=w1.alloc (.cells #[.pointer none,.slice none 0 0] 165):=⟨_,rfl⟩
 have b2:Below w1.heap.size w1 w2:=by rw [hw2];exact (U01 _ _).alloc (U02 _) _
 have hbld:Lib.IsBuilderF 165 5 w1.heap.size w1.heap.size (Lib.byteCells []) w2:=by rw [hw2];exact Zfs w1
 have hlb:w2.heap[w1.heap.size]?=some (.cells #[.pointer none,.slice none 0 0] 165 (0,0)):=by rw [hw2];exact U0b _ _
 obtain ⟨cur,h1,_⟩:=id hm
 have hm2:Z1l w2 bh m.W.length vs:=hm.below b2
 have hb2:=hb1.trans (b2.mono hb1.size)
 obtain ⟨b,cW,vR,vK,vI,vC,X,GRR⟩:=Zti a p bh m vs hs H64.out bR w2 (HE.out.below hb2).we (HR.out.below hb2) hm2.heads (U0r (Z01 h1) b2.size)
 have kr:=Zdq X m.R GRR
 have hU:=Z1h hs H64.out
 have hfew:=X.few
 have hol:=hU.len
 obtain ⟨rr,hrr⟩:∃ rr,rr=m.reach vs:=⟨_,rfl⟩
 rw [show Z10 m.F (vs.length+1) (Z0n [] m.R) 0=rr from hrr.symm] at kr
 rw [<-hrr] at hU hol
 have hrl:rr.length<=300000:=by omega
 have hfine:∀ f∈rr,szN (m.F f)<=4096/\f+1+szN (m.F f)<=m.W.length:=fun f hf=>by
  obtain ⟨hfh,hfl⟩:=hs.fine f (hU.sub f hf)
  refine ⟨?_,hfl⟩
  have hr:=Z5c H64.out f (by omega)
  unfold Z0t at hfh
  have:=U0j hfh
  unfold szN
  omega
 have hwl:=(Z4d hs).2.1
 obtain ⟨rR,rK,rI⟩:=hs.rest
 have tR:Tells2 m.R:=⟨H64.out.r,fun x hx=>Z56 hwl (rR x hx),bR⟩
 have tK:Tells2 m.K:=⟨H64.out.k,fun x hx=>Z56 hwl (rK x hx),bK⟩
 have hheld:Zb6 m.F rr:=fun f hf hkd x hx=>by
  obtain ⟨j,hj⟩:=U21.1 hx
  have hl:=(U0e.1 hj).1
  rw [Z13] at hl
  rw [Z44 hl] at hj
  cases hj
  exact Z56 hwl (hs.held (hU.sub f hf) hl hkd)
 have HV:Hid (∀ w',Below w.heap.size w w'->Z6o a m w (.returned (.tuple #[.string (Z7d rr (Z0d sWeak rr (Z0j m.F rr (Z0d sRoot rr ⟨#[]⟩ m.R) rr.length) m.K) ((Z9i m.I).filter (Z7l rr))),.nilIface])) w'):=fun w' hb=>⟨hb,.inl ⟨vs,hs,hC,by rw [hrr];rfl⟩⟩
 obtain ⟨_,vR',vK',vI',vC',hp,M,⟨aW,cW',rfl,hcW,fW⟩,wR,wK,wI,_⟩:=HR.out.below hb1
 obtain ⟨b',rfl,lb,gW⟩:=fW (Z4d hs).1
 obtain ⟨aR,cR,rfl,_,_⟩:=id wR
 obtain ⟨aK,cK,rfl,_,_⟩:=id wK
 obtain ⟨aI,cI,rfl,_,_⟩:=id wI
 have hbb:b=b':=by
  have e1:=X.mem.c3
  have e2:=(b2.cell (p:=⟨p,3,none⟩) hp).trans M.c3
  rw [e1] at e2
  cases e2
  rfl
 have mem1:∀ i,i<m.W.length->w1.cell? ⟨b,i,none⟩=some (.int .u64 (m.F i)):=fun i hi=>by
  rw [hbb]
  exact gW i _ (Z2d (by unfold MD.F;rw [U07,U03 hi];rfl))
 have HM7:=Z00 M.c7
 have HM8:=Z00 M.c8
 have HM9:=Z00 M.c9
 have HWR:=Z00 wR
 have HWK:=Z00 wK
 have HWI:=Z00 wI
 have HB1:=Z00 hb1
 have HB2:=Z00 b2
 have HBLD:=Z00 hbld
 have HLB:=Z00 hlb
 have HMEM:=Z00 mem1
 have HFINE:=Z00 hfine
 have HHELD:=Z00 hheld
 have HTR:=Z00 tR
 have HTK:=Z00 tK
 have HRI:=Z00 rI
 have HW2:=Z00 hw2
 have HRNG:=Z00 (Z5c H64.out)
 clear h1 hm hm2 X GRR hU hrr hs hC hb1 b2 hbld hlb hb2 hfine hheld tR tK rR rK rI M wR wK wI gW fW lb hbb mem1 hw2 hp hcW
 go_wp2_with fail
 rw [<-HW2.out]
 refine kr.mono ?_
 rintro ev w3 ⟨B,qm,qh,qg0,vO,bm,rfl,hg,G⟩
 clear kr
 obtain ⟨vO',bm',n,D,xs,k1,k2,k3,k4,k5,k6,_,_,_,_,_⟩:=G.gr
 rw [hg] at k1
 cases k1
 obtain ⟨oo,oc,rfl⟩:=Z2w k2
 obtain ⟨w4,hw4⟩:∃ w4,w4=w3.alloc (.cells #[.slice oo rr.length oc,.map (some bm)] 138):=⟨_,rfl⟩
 obtain ⟨qg,hqg⟩:∃ qg,qg=w3.heap.size:=⟨_,rfl⟩
 have b34:Below w3.heap.size w3 w4:=by rw [hw4];exact (U01 _ _).alloc (U02 _) _
 have b24:Below w2.heap.size w2 w4:=G.below.trans (b34.mono G.below.size)
 have hg4:w4.heap[qg]?=some (.cells #[.slice oo rr.length oc,.map (some bm)] 138):=by rw [hw4,hqg];exact U0b _ _
 have G0:GW qg w1.heap.size bm n rr.length oc oo D B xs w1 (ByteArray.mk #[]).data.toList w4:=⟨HB2.out.trans (b24.mono HB2.out.size),U02 _,Z3u HBLD.out b24,fun _=>⟨_,(b24.block _ (Z01 HLB.out)).trans HLB.out⟩,hg4,Z04 k2 (fun k hk=>b34.block k (Z08 k2 k hk).2),Z2v k4 b34⟩
 have XX:GX a D rr w1:=⟨(HE.out.below HB1.out).we,HTT.out.below HB1.out (U02 _),HZZ.out.below HB1.out (U02 _),k6,hrl⟩
 have YY:GM b m.W.length m.F rr xs w1:=⟨k3,HMEM.out,HRNG.out,HFINE.out,HHELD.out,hwl⟩
 have HG0:=Z00 G0
 have HXX:=Z00 XX
 have HYY:=Z00 YY
 have c7:w4.cell? ⟨p,7,none⟩=some (.slice aR m.R.length cR):=(G0.below.cell (p:=⟨p,7,none⟩) (Z02 HM7.out)).trans HM7.out
 have HW4:=Z00 hw4
 have HQG:=Z00 hqg
 clear hg G k2 k3 k4 k5 k6 b34 b24 hg4 G0 XX YY hw4 hqg
 go_upto_region 6 with fail
 rw [<-HW4.out,<-HQG.out]
 go_upto_block 0 with fail
 refine Zms (a0:=⟨#[]⟩) HXX.out HG0.out HTR.out (by decide) HWR.out ?_
 intro v33 v34 v35 v36 v37 v38 v39 v40 v41 v9 v32 wa Ga
 have HGa:=Z00 Ga
 have cg0:wa.cell? ⟨qg,0,none⟩=some (.slice oo rr.length oc):=by rw [U06 _ _ 0 _ _ _ Ga.gr];rfl
 have cg1:wa.cell? ⟨qg,1,none⟩=some (.map (some bm)):=by rw [U06 _ _ 1 _ _ _ Ga.gr];rfl
 clear Ga c7
 have hsR:sRoot.size=5:=rfl
 have hsz1:=Z5x hsR hrl m.R ⟨#[]⟩
 have hz0:(ByteArray.mk #[]).size=0:=rfl
 have HSZ1:Hid ((Z0d sRoot rr ⟨#[]⟩ m.R).size<=10000000000):=by show _<=_;omega
 clear hsR hsz1 hz0
 go_upto_block 2 with fail
 refine Znc HXX.out HYY.out HGa.out HSZ1.out ?_
 intro v46 v47 v48 v49 v50 v51 v52 v53 v54 v55 v56 v57 v58 v59 v60 v61 v10 v11 v45 wb Gb
 have HGb:=Z00 Gb
 have c8:wb.cell? ⟨p,8,none⟩=some (.slice aK m.K.length cK):=(Gb.below.cell (p:=⟨p,8,none⟩) (Z02 HM8.out)).trans HM8.out
 clear Gb cg0 cg1
 have hsz2:=Z8m (F:=m.F) hrl (fun f hf=>(HFINE.out f hf).1) (Z0d sRoot rr ⟨#[]⟩ m.R) rr.length (U02 _)
 have HSZ2:Hid ((Z0j m.F rr (Z0d sRoot rr ⟨#[]⟩ m.R) rr.length).size<=90000000000):=by show _<=_;have:=HSZ1.out;omega
 clear hsz2
 generalize Z0j m.F rr (Z0d sRoot rr ⟨#[]⟩ m.R) rr.length=t2 at *
 go_upto_block 4 with fail
 refine Zlt HXX.out HGb.out HTK.out (by have:=HSZ2.out;omega) HWK.out ?_
 intro v68 v69 v70 v71 v72 v73 v74 v75 v76 v13 v67 wc Gc
 have hsz3:=Z5x (show sWeak.size=5 from rfl) hrl m.K t2
 have HSZ3:Hid ((Z0d sWeak rr t2 m.K).size<=100000000000):=by show _<=_;have:=HSZ2.out;omega
 clear hsz3 c8
 generalize Z0d sWeak rr t2 m.K=t3 at *
 go_upto_region 21 with fail
 have hS:=Gc.three HM9.out
 have KN:Hid (∀ W,GW qg w1.heap.size bm n rr.length oc oo D B xs w1 t3.data.toList W->Calls prog 102 #[.agg #[.slice oo rr.length oc,.map (some bm)],.slice aI m.I.length cI] W (Z88 rr m.I W)):=fun W hW=>Zk6 bm n rr.length oc m.W.length _ hwl oo D rr HXX.out.num m.I H64.out.i HRI.out bI aI cI W hW.map ((show Z4g w1 (.slice aI m.I.length cI) m.I.length (Z2e m.I) from HWI.out).below hW.below)
 go_region_held3 (fun W=>W.cell? ⟨qg,0,none⟩=some (.slice oo rr.length oc)/\W.cell? ⟨qg,1,none⟩=some (.map (some bm))/\W.cell? ⟨p,9,none⟩=some (.slice aI m.I.length cI)) (first | with_reducible exact Gc.three HM9.out | with_reducible exact Gc.drew.three HM9.out) (first
  | (go_at_call 102;refine (KN.out _ (by first | with_reducible exact Gc | with_reducible exact Gc.drew)).mono ?_;rintro ev wd ⟨v,rfl,hrow,hbx⟩;obtain ⟨aM,cM,rfl,hcM,fM⟩:=id hrow;replace Gc:GW qg w1.heap.size bm n rr.length oc oo D B xs w1 t3.data.toList wd:=(by first | with_reducible exact Gc.keep hbx | with_reducible exact Gc.drew.keep hbx);clear hbx fM))
 have HGd:=Z00 Gc
 have HROW:=Z00 hrow
 clear hS Gc hrow hcM KN
 have hml:((Z9i m.I).filter (Z7l rr)).length<=300000:=U0n (U3b _ _) (by rw [Zpw];exact bI)
 have hm64:Zda ((Z9i m.I).filter (Z7l rr)):=fun x hx=>ord64 H64.out.i x (U1l.1 hx).1
 have HMIN:=Z00 (Ztd (out:=rr) hwl HRI.out)
 have HM64:=Z00 hm64
 clear hm64
 generalize (Z9i m.I).filter (Z7l rr)=MM at *
 go_upto_block 6 with fail
 refine Zjx HXX.out HGd.out HM64.out HMIN.out hml HSZ3.out HROW.out ?_
 intro v85 v86 v87 v88 v89 v90 v91 v92 v93 v94 v95 v96 v97 v15 v84 we Ge
 have kt:=Zrx Ge
 have HGe:=Z00 Ge
 clear Ge
 go_wp2_with fail
 refine kt.mono ?_
 rintro ev wf ⟨rfl,hbf⟩
 have HBF:=Z00 (HB1.out.trans ((HGe.out.below.trans hbf).mono HB1.out.size))
 clear kt hbf
 go_wp2_with fail
 go_ret2
 exact HV.out _ HBF.out
end
end Go.Proofs.YtlkcbdinlfeoiaaGreatDoor
