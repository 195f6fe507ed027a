/- Graph: lines of roots, and of weak ones, by contracts. -/
import Derived.Test.YtlkcbdinlfeoiaaGreatDoorKnBB
namespace Go.Proofs.YtlkcbdinlfeoiaaGreatDoor
open Go.Proofs.Tryz Go.RowKit
set_option maxHeartbeats 8000000
set_option maxRecDepth 100000
set_option linter.unusedSimpArgs false
section
open Go.Maps
noncomputable def pBlock (n:Nat):Code:=(f52.body.bind (Z3q n)).getD .skip
structure Tells2 (l:List Int):Prop where
 u64:U64 l
 fine:∀ x∈l,(x % 4=2->x / 4<=2)/\x % 4≠3/\(x / 4<=1099511627776\/x % 4=1)
 len:l.length<=300000
structure GX (a:Nat->Addr) (D:DataW Unit) (out:List Nat) (w0:World):Prop where
 err:WErr a w0
 tab:Z2b w0
 tz:Zem w0
 num:GNum D out
 few:out.length<=300000
def wRoot:ByteArray:=⟨#[114,111,111,116]⟩
def wWeak:ByteArray:=⟨#[119,101,97,107]⟩
theorem Zhz:sRoot.data.toList=wRoot.data.toList ++ [32]:=rfl
theorem Zj3:sWeak.data.toList=wWeak.data.toList ++ [32]:=rfl
theorem Zgw (s:ByteArray) (out:List Nat) (acc:ByteArray) (x:Int):(Z3w s out acc x).data.toList ≠ []:=by
 unfold Z3w
 intro h
 have:=congrArg List.length h
 simp [U22] at this
theorem Zms {a:Nat->Addr}{p qg bl bm n ol oc cR B:Nat}{oo aR:Option Addr}{D:DataW Unit}{out:List Nat}{xs:List (List Value)}{a0:ByteArray}{l:List Int}{w0 wr:World}{u1 u2 u3 u4 u5 u8 u9 u10 u11 u12 u13 u14 u15 u16 u17 u18 u19 u20 u21 u22 u23 u24 u25 u26 u27 u28 u29 u33 u34 u35 u36 u37 u38 u39 u40 u41 u42 u43 u44 u45 u46 u47 u48 u49 u50 u51 u52 u53 u54 u55 u56 u57 u58 u59 u60 u61 u62 u63 u64 u65 u66 u67 u68 u69 u70 u71 u72 u73 u74 u75 u76 u77 u78 u79 u80 u81 u82 u83 u84 u85 u86 u87 u88 u89 u90 u91 u92 u93 u94 u95 u96 u97 u98 u99:Value}{K:Act->World->Prop}{Q:Exit->Act->World->Prop}
  (X:GX a D out w0) (G:GW qg bl bm n ol oc oo D B xs w0 a0.data.toList wr) (hl:Tells2 l) (ha:a0.size<=10000000000000) (hrow:Z4g w0 (.slice aR l.length cR) l.length (Z05 l))
  (hrest:∀ (v33 v34 v35 v36 v37 v38 v39 v40 v41 v9 v32:Value) (wx:World),(GW qg bl bm n ol oc oo D B xs w0 (Z0d sRoot out a0 l).data.toList wx)->K ⟨#[.pointer (some ⟨p,0,none⟩),u1,u2,u3,u4,u5,.pointer (some ⟨bl,0,none⟩),.pointer (some ⟨qg,0,none⟩),u8,v9,u10,u11,u12,u13,u14,u15,u16,u17,u18,u19,u20,u21,u22,u23,u24,u25,u26,u27,u28,u29,.slice aR l.length cR,.int .i64 (l.length:Int),v32,v33,v34,v35,v36,v37,v38,v39,v40,v41,u42,u43,u44,u45,u46,u47,u48,u49,u50,u51,u52,u53,u54,u55,u56,u57,u58,u59,u60,u61,u62,u63,u64,u65,u66,u67,u68,u69,u70,u71,u72,u73,u74,u75,u76,u77,u78,u79,u80,u81,u82,u83,u84,u85,u86,u87,u88,u89,u90,u91,u92,u93,u94,u95,u96,u97,u98,u99],[]⟩ wx) :
  Code.wp prog (pBlock 0) (Exit.then K Q) ⟨#[.pointer (some ⟨p,0,none⟩),u1,u2,u3,u4,u5,.pointer (some ⟨bl,0,none⟩),.pointer (some ⟨qg,0,none⟩),u8,u9,u10,u11,u12,u13,u14,u15,u16,u17,u18,u19,u20,u21,u22,u23,u24,u25,u26,u27,u28,u29,.slice aR l.length cR,.int .i64 (l.length:Int),.int .i64 0,u33,u34,u35,u36,u37,u38,u39,u40,u41,u42,u43,u44,u45,u46,u47,u48,u49,u50,u51,u52,u53,u54,u55,u56,u57,u58,u59,u60,u61,u62,u63,u64,u65,u66,u67,u68,u69,u70,u71,u72,u73,u74,u75,u76,u77,u78,u79,u80,u81,u82,u83,u84,u85,u86,u87,u88,u89,u90,u91,u92,u93,u94,u95,u96,u97,u98,u99],[]⟩ wr:=by
 have HR:=Z00 hrest
 have HL:=Z00 hl
 have HW:=Z00 hrow
 have HX:=Z00 X
 have HG0:=Z00 G
 have hll:=hl.len
 clear hrest hl hrow X G
 conv=>arg 2;whnf
 go_wp2_with fail
 go_loopg [32] (l.length+1) (fun gk vi wr => ∃ (k:Nat),gk=l.length+1 - k/\k<=l.length/\vi = .int .i64 (k:Int)/\(Z0d sRoot out a0 (l.take k)).size<=10000000000000+k*28/\Hid (GW qg bl bm n ol oc oo D B xs w0 (Z0d sRoot out a0 (l.take k)).data.toList wr))
 case atStart=>exact ⟨0,rfl,U0x _,rfl,by show a0.size<=_;omega,HG0.out⟩
 case round =>
  obtain ⟨k,hgk,hk,rfl,hsz,hG⟩:=hrel
  have HG:=Z00 hgk
  have hk0:(0:Int)<=(k:Int):=by omega
  clear hgk
  by_cases hlt:k<l.length
  ·have hI:(k:Int)<(l.length:Int):=by omega
   obtain ⟨x,hx⟩:∃ x,l[k]?=some x:=⟨_,U03 hlt⟩
   obtain ⟨_,_,e,_,f1⟩:=HW.out
   cases e
   obtain ⟨p1,o1,rfl,l1,g1⟩:=f1 (by omega)
   have rx:wr.cell? ⟨p1,o1+k,none⟩=some (.int .u64 x):=(hG.out.below.cell (p:=⟨p1,o1+k,none⟩) l1).trans (g1 k _ (Z2d hx))
   have hxr:=HL.out.u64 x (U0a hx)
   obtain ⟨t1,t2,t3⟩:=HL.out.fine x (U0a hx)
   have kt:=Z84 a bm n ol oc oo _ out HX.out.few HX.out.num x hxr.1 hxr.2 t1 t2 t3 wr (HX.out.err.below hG.out.below) (HX.out.tab.below hG.out.below (U02 _)) hG.out.map
   have hts:=Z39 out HX.out.few x
   have HE:Hid (Z0d sRoot out a0 (l.take (k+1))=Z3w sRoot out (Z0d sRoot out a0 (l.take k)) x):=Z8i hx
   have hne:=Zgw sRoot out (Z0d sRoot out a0 (l.take k)) x
   rw [<-HE.out] at hne
   have HT:Hid ((Z0d sRoot out a0 (l.take (k+1))).data.toList=(Z0d sRoot out a0 (l.take k)).data.toList++(Z28 [wRoot,Z12 out x] ++ [10])):=by
    show _=_
    rw [HE.out]
    exact Ztm _ wRoot _ sRoot Zhz
   have HSZ:Hid ((Z0d sRoot out a0 (l.take (k+1))).size<=10000000000000+(k+1)*28):=by
    show _<=_
    rw [HE.out]
    unfold Z3w
    rw [U0o,U0o,U0o]
    show _+5+_+1<=_
    omega
   have hjl:(Z28 [wRoot,Z12 out x]).length<=1000:=by
    rw [Z27]
    have h1:=Z7y (l:=[Z12 out x]) 22 (by intro t ht;simp at ht;subst ht;exact hts)
    rw [U0f]
    have h2:wRoot.data.toList.length=4:=rfl
    simp only [U1e,U2t] at h1
    omega
   have hal:(Z0d sRoot out a0 (l.take k)).data.toList.length<=100000000000000:=by
    have:(Z0d sRoot out a0 (l.take k)).data.toList.length=(Z0d sRoot out a0 (l.take k)).size:=U2c
    omega
   have c0:wr.cell? ⟨qg,0,none⟩=some (.slice oo ol oc):=by rw [U06 _ _ 0 _ _ _ hG.out.gr];rfl
   have c1:wr.cell? ⟨qg,1,none⟩=some (.map (some bm)):=by rw [U06 _ _ 1 _ _ _ hG.out.gr];rfl
   have HNE:=Z00 hne
   have HJL:=Z00 hjl
   have HAL:=Z00 hal
   unfold wRoot at HT HJL
   generalize Z12 out x=tx at *
   clear f1 g1 hx hxr hne hjl hal hsz HE hts t1 t2 t3
   go_wp2_with fail
   refine kt.mono ?_
   rintro ev w2 ⟨rfl,hb2⟩
   clear kt
   have G3:=Z00 ((hG.out.keep hb2).keep ((U01 _ _).alloc (U02 _) (.cells #[.string ⟨#[114,111,111,116]⟩,.string tx] 9)))
   have hob:=U0b w2 (.cells #[.string ⟨#[114,111,111,116]⟩,.string tx] 9)
   have ka:=Zc3 bl bl w2.heap.size 0 2 [⟨#[114,111,111,116]⟩,tx] _ _ G3.out.bld (U50 G3.out.lt) (fun j y hj=>by
    rw [U06 _ _ _ _ _ _ hob,U1p]
    match j,hj with
    | 0,hj=>cases hj;rfl
    | 1,hj=>cases hj;rfl) (Z01 hob) (by simp) (by simp) (by have:=HJL.out;omega) HAL.out
   rw [<-HT.out] at ka
   clear hob hb2
   go_wp2_with fail
   refine ka.mono ?_
   intro ev w4 hp
   have he:=hp.1
   have G4:=Z00 (G3.out.write hp HNE.out)
   clear ka hp
   subst he
   go_wp2_with fail
   go_roundg (l.length+1 - (k+1))
   case measure=>have:=HG.out;omega
   case rel=>exact ⟨k+1,rfl,by omega,by go_num,HSZ.out,G4.out⟩
  ·have hI:¬ (k:Int)<(l.length:Int):=by omega
   have HE:Hid (Z0d sRoot out a0 (l.take k)=Z0d sRoot out a0 l):=by show _=_;rw [U13 (by omega)]
   go_wp2_with fail
   have e:=hG.out
   rw [HE.out] at e
   exact HR.out _ _ _ _ _ _ _ _ _ _ _ _ e
theorem Zlt {a:Nat->Addr}{p qg bl bm n ol oc cR B:Nat}{oo aR:Option Addr}{D:DataW Unit}{out:List Nat}{xs:List (List Value)}{a0:ByteArray}{l:List Int}{w0 wr:World}{u1 u2 u3 u4 u5 u8 u9 u10 u11 u12 u13 u14 u15 u16 u17 u18 u19 u20 u21 u22 u23 u24 u25 u26 u27 u28 u29 u30 u31 u32 u33 u34 u35 u36 u37 u38 u39 u40 u41 u42 u43 u44 u45 u46 u47 u48 u49 u50 u51 u52 u53 u54 u55 u56 u57 u58 u59 u60 u61 u62 u63 u64 u68 u69 u70 u71 u72 u73 u74 u75 u76 u77 u78 u79 u80 u81 u82 u83 u84 u85 u86 u87 u88 u89 u90 u91 u92 u93 u94 u95 u96 u97 u98 u99:Value}{K:Act->World->Prop}{Q:Exit->Act->World->Prop}
  (X:GX a D out w0) (G:GW qg bl bm n ol oc oo D B xs w0 a0.data.toList wr) (hl:Tells2 l) (ha:a0.size<=10000000000000) (hrow:Z4g w0 (.slice aR l.length cR) l.length (Z05 l))
  (hrest:∀ (v68 v69 v70 v71 v72 v73 v74 v75 v76 v13 v67:Value) (wx:World),(GW qg bl bm n ol oc oo D B xs w0 (Z0d sWeak out a0 l).data.toList wx)->K ⟨#[.pointer (some ⟨p,0,none⟩),u1,u2,u3,u4,u5,.pointer (some ⟨bl,0,none⟩),.pointer (some ⟨qg,0,none⟩),u8,u9,u10,u11,u12,v13,u14,u15,u16,u17,u18,u19,u20,u21,u22,u23,u24,u25,u26,u27,u28,u29,u30,u31,u32,u33,u34,u35,u36,u37,u38,u39,u40,u41,u42,u43,u44,u45,u46,u47,u48,u49,u50,u51,u52,u53,u54,u55,u56,u57,u58,u59,u60,u61,u62,u63,u64,.slice aR l.length cR,.int .i64 (l.length:Int),v67,v68,v69,v70,v71,v72,v73,v74,v75,v76,u77,u78,u79,u80,u81,u82,u83,u84,u85,u86,u87,u88,u89,u90,u91,u92,u93,u94,u95,u96,u97,u98,u99],[]⟩ wx) :
  Code.wp prog (pBlock 4) (Exit.then K Q) ⟨#[.pointer (some ⟨p,0,none⟩),u1,u2,u3,u4,u5,.pointer (some ⟨bl,0,none⟩),.pointer (some ⟨qg,0,none⟩),u8,u9,u10,u11,u12,u13,u14,u15,u16,u17,u18,u19,u20,u21,u22,u23,u24,u25,u26,u27,u28,u29,u30,u31,u32,u33,u34,u35,u36,u37,u38,u39,u40,u41,u42,u43,u44,u45,u46,u47,u48,u49,u50,u51,u52,u53,u54,u55,u56,u57,u58,u59,u60,u61,u62,u63,u64,.slice aR l.length cR,.int .i64 (l.length:Int),.int .i64 0,u68,u69,u70,u71,u72,u73,u74,u75,u76,u77,u78,u79,u80,u81,u82,u83,u84,u85,u86,u87,u88,u89,u90,u91,u92,u93,u94,u95,u96,u97,u98,u99],[]⟩ wr:=by
 have HR:=Z00 hrest
 have HL:=Z00 hl
 have HW:=Z00 hrow
 have HX:=Z00 X
 have HG0:=Z00 G
 have hll:=hl.len
 clear hrest hl hrow X G
 conv=>arg 2;whnf
 go_wp2_with fail
 go_loopg [67] (l.length+1) (fun gk vi wr => ∃ (k:Nat),gk=l.length+1 - k/\k<=l.length/\vi = .int .i64 (k:Int)/\(Z0d sWeak out a0 (l.take k)).size<=10000000000000+k*28/\Hid (GW qg bl bm n ol oc oo D B xs w0 (Z0d sWeak out a0 (l.take k)).data.toList wr))
 case atStart=>exact ⟨0,rfl,U0x _,rfl,by show a0.size<=_;omega,HG0.out⟩
 case round =>
  obtain ⟨k,hgk,hk,rfl,hsz,hG⟩:=hrel
  have HG:=Z00 hgk
  have hk0:(0:Int)<=(k:Int):=by omega
  clear hgk
  by_cases hlt:k<l.length
  ·have hI:(k:Int)<(l.length:Int):=by omega
   obtain ⟨x,hx⟩:∃ x,l[k]?=some x:=⟨_,U03 hlt⟩
   obtain ⟨_,_,e,_,f1⟩:=HW.out
   cases e
   obtain ⟨p1,o1,rfl,l1,g1⟩:=f1 (by omega)
   have rx:wr.cell? ⟨p1,o1+k,none⟩=some (.int .u64 x):=(hG.out.below.cell (p:=⟨p1,o1+k,none⟩) l1).trans (g1 k _ (Z2d hx))
   have hxr:=HL.out.u64 x (U0a hx)
   obtain ⟨t1,t2,t3⟩:=HL.out.fine x (U0a hx)
   have kt:=Z84 a bm n ol oc oo _ out HX.out.few HX.out.num x hxr.1 hxr.2 t1 t2 t3 wr (HX.out.err.below hG.out.below) (HX.out.tab.below hG.out.below (U02 _)) hG.out.map
   have hts:=Z39 out HX.out.few x
   have HE:Hid (Z0d sWeak out a0 (l.take (k+1))=Z3w sWeak out (Z0d sWeak out a0 (l.take k)) x):=Z8i hx
   have hne:=Zgw sWeak out (Z0d sWeak out a0 (l.take k)) x
   rw [<-HE.out] at hne
   have HT:Hid ((Z0d sWeak out a0 (l.take (k+1))).data.toList=(Z0d sWeak out a0 (l.take k)).data.toList++(Z28 [wWeak,Z12 out x] ++ [10])):=by
    show _=_
    rw [HE.out]
    exact Ztm _ wWeak _ sWeak Zj3
   have HSZ:Hid ((Z0d sWeak out a0 (l.take (k+1))).size<=10000000000000+(k+1)*28):=by
    show _<=_
    rw [HE.out]
    unfold Z3w
    rw [U0o,U0o,U0o]
    show _+5+_+1<=_
    omega
   have hjl:(Z28 [wWeak,Z12 out x]).length<=1000:=by
    rw [Z27]
    have h1:=Z7y (l:=[Z12 out x]) 22 (by intro t ht;simp at ht;subst ht;exact hts)
    rw [U0f]
    have h2:wWeak.data.toList.length=4:=rfl
    simp only [U1e,U2t] at h1
    omega
   have hal:(Z0d sWeak out a0 (l.take k)).data.toList.length<=100000000000000:=by
    have:(Z0d sWeak out a0 (l.take k)).data.toList.length=(Z0d sWeak out a0 (l.take k)).size:=U2c
    omega
   have c0:wr.cell? ⟨qg,0,none⟩=some (.slice oo ol oc):=by rw [U06 _ _ 0 _ _ _ hG.out.gr];rfl
   have c1:wr.cell? ⟨qg,1,none⟩=some (.map (some bm)):=by rw [U06 _ _ 1 _ _ _ hG.out.gr];rfl
   have HNE:=Z00 hne
   have HJL:=Z00 hjl
   have HAL:=Z00 hal
   unfold wWeak at HT HJL
   generalize Z12 out x=tx at *
   clear f1 g1 hx hxr hne hjl hal hsz HE hts t1 t2 t3
   go_wp2_with fail
   refine kt.mono ?_
   rintro ev w2 ⟨rfl,hb2⟩
   clear kt
   have G3:=Z00 ((hG.out.keep hb2).keep ((U01 _ _).alloc (U02 _) (.cells #[.string ⟨#[119,101,97,107]⟩,.string tx] 9)))
   have hob:=U0b w2 (.cells #[.string ⟨#[119,101,97,107]⟩,.string tx] 9)
   have ka:=Zc3 bl bl w2.heap.size 0 2 [⟨#[119,101,97,107]⟩,tx] _ _ G3.out.bld (U50 G3.out.lt) (fun j y hj=>by
    rw [U06 _ _ _ _ _ _ hob,U1p]
    match j,hj with
    | 0,hj=>cases hj;rfl
    | 1,hj=>cases hj;rfl) (Z01 hob) (by simp) (by simp) (by have:=HJL.out;omega) HAL.out
   rw [<-HT.out] at ka
   clear hob hb2
   go_wp2_with fail
   refine ka.mono ?_
   intro ev w4 hp
   have he:=hp.1
   have G4:=Z00 (G3.out.write hp HNE.out)
   clear ka hp
   subst he
   go_wp2_with fail
   go_roundg (l.length+1 - (k+1))
   case measure=>have:=HG.out;omega
   case rel=>exact ⟨k+1,rfl,by omega,by go_num,HSZ.out,G4.out⟩
  ·have hI:¬ (k:Int)<(l.length:Int):=by omega
   have HE:Hid (Z0d sWeak out a0 (l.take k)=Z0d sWeak out a0 l):=by show _=_;rw [U13 (by omega)]
   go_wp2_with fail
   have e:=hG.out
   rw [HE.out] at e
   exact HR.out _ _ _ _ _ _ _ _ _ _ _ _ e
end
end Go.Proofs.YtlkcbdinlfeoiaaGreatDoor
