/- Graph: lines of IDs, by a contract. -/
import Derived.Test.YtlkcbdinlfeoiaaGreatDoorMemGZ
import Derived.Deep.CutBlock
import Derived.Deep.RegionHeld3
import Derived.Deep.RegionLawGrows
namespace Go.Proofs.YtlkcbdinlfeoiaaGreatDoor
open Go.Proofs.Tryz
open Go.RowKit Go.Maps

structure GQ (qg bl bm n ol oc:Nat) (oo:Option Addr) (D:DataW Unit) (B:Nat) (xs:List (List Value)) (w0:World) (acc:List UInt8) (q:Nat) (cs:Array Value) (t:TypeId) (w:World):Prop where
 gw:GW qg bl bm n ol oc oo D B xs w0 acc w
 own:w.heap[q]?=some (.cells cs t)
 ne:q≠bl
theorem GQ.keep {qg bl bm n ol oc:Nat}{oo:Option Addr}{D:DataW Unit}{B:Nat}{xs:List (List Value)}{w0 w w':World}{acc:List UInt8}{q:Nat}{cs:Array Value}{t:TypeId} (h:GQ qg bl bm n ol oc oo D B xs w0 acc q cs t w) (hb:Below w.heap.size w w'):GQ qg bl bm n ol oc oo D B xs w0 acc q cs t w':=⟨h.gw.keep hb,(hb.block _ (Z01 h.own)).trans h.own,h.ne⟩
theorem GQ.drew {qg bl bm n ol oc:Nat}{oo:Option Addr}{D:DataW Unit}{B:Nat}{xs:List (List Value)}{w0 w:World}{acc:List UInt8}{q:Nat}{cs:Array Value}{t:TypeId} (h:GQ qg bl bm n ol oc oo D B xs w0 acc q cs t w):GQ qg bl bm n ol oc oo D B xs w0 acc q cs t w.drew:=h.keep (Below.refl _ _).drew
theorem GQ.alloc {qg bl bm n ol oc:Nat}{oo:Option Addr}{D:DataW Unit}{B:Nat}{xs:List (List Value)}{w0 w:World}{acc:List UInt8}{q:Nat}{cs:Array Value}{t:TypeId} (h:GQ qg bl bm n ol oc oo D B xs w0 acc q cs t w) (o:Obj):GQ qg bl bm n ol oc oo D B xs w0 acc q cs t (w.alloc o):=h.keep ((Below.refl _ _).alloc (Nat.le_refl _) o)
theorem GQ.new {qg bl bm n ol oc:Nat}{oo:Option Addr}{D:DataW Unit}{B:Nat}{xs:List (List Value)}{w0 w:World}{acc:List UInt8} (h:GW qg bl bm n ol oc oo D B xs w0 acc w) (cs:Array Value) (t:TypeId):GQ qg bl bm n ol oc oo D B xs w0 acc w.heap.size cs t (w.alloc (.cells cs t)):=
 ⟨h.keep ((Below.refl _ _).alloc (Nat.le_refl _) _),heap_alloc_new _ _,by have:=h.lt;omega⟩
theorem GQ.write {qg bl bm n ol oc:Nat}{oo:Option Addr}{D:DataW Unit}{B:Nat}{xs:List (List Value)}{w0 w w':World}{acc acc':List UInt8}{q:Nat}{cs:Array Value}{t:TypeId}{ev:Ending} (h:GQ qg bl bm n ol oc oo D B xs w0 acc q cs t w) (hp:Z37 bl bl acc' w ev w') (hne:acc' ≠ []) (ht:t≠5):GQ qg bl bm n ol oc oo D B xs w0 acc' q cs t w':=⟨h.gw.write hp hne,Z3p hp.2.2.2 h.own h.ne ht,h.ne⟩
theorem GQ.cell {qg bl bm n ol oc:Nat}{oo:Option Addr}{D:DataW Unit}{B:Nat}{xs:List (List Value)}{w0 w:World}{acc:List UInt8}{q:Nat}{cs:Array Value}{t:TypeId} (h:GQ qg bl bm n ol oc oo D B xs w0 acc q cs t w) (j:Nat):w.cell? ⟨q,j,none⟩=cs[j]?:=cell_of_row _ _ j _ _ _ h.own
theorem GQ.gcells {qg bl bm n ol oc:Nat}{oo:Option Addr}{D:DataW Unit}{B:Nat}{xs:List (List Value)}{w0 w:World}{acc:List UInt8}{q:Nat}{cs:Array Value}{t:TypeId} (h:GQ qg bl bm n ol oc oo D B xs w0 acc q cs t w):w.cell? ⟨qg,0,none⟩=some (.slice oo ol oc)∧w.cell? ⟨qg,1,none⟩=some (.map (some bm)):=
 ⟨by rw [cell_of_row _ _ 0 _ _ _ h.gw.gr];rfl,by rw [cell_of_row _ _ 1 _ _ _ h.gw.gr];rfl⟩
theorem GQ.four {qg bl bm n ol oc:Nat}{oo:Option Addr}{D:DataW Unit}{B:Nat}{xs:List (List Value)}{w0 w:World}{acc:List UInt8}{q:Nat}{v0 v1:Value}{t:TypeId} (h:GQ qg bl bm n ol oc oo D B xs w0 acc q #[v0,v1] t w):w.cell? ⟨q,0,none⟩=some v0∧w.cell? ⟨q,1,none⟩=some v1∧w.cell? ⟨qg,0,none⟩=some (.slice oo ol oc)∧w.cell? ⟨qg,1,none⟩=some (.map (some bm)):=⟨h.cell 0,h.cell 1,h.gcells⟩
theorem GX.at {a:Nat→Addr}{D:DataW Unit}{out:List Nat}{w0 w:World} (X:GX a D out w0) (hb:Below w0.heap.size w0 w):GX a D out w:=⟨X.err.below hb,X.tab.below hb (Nat.le_refl _),X.tz.below hb (Nat.le_refl _),X.num,X.few⟩
theorem Z92 {k:Int} (h0 : -9223372036854775808≤k) (h1:k≤9223372036854775807) (w:World) (ht:Z2e w):Calls prog 56 #[.int .i64 k] w fun ev w'=>ev = .returned (.string (Z1c k))∧Below w.heap.size w w':=by
 refine (Zhb k h0 h1 w ht).mono ?_
 rintro ev w' ⟨rfl,j,os,rfl⟩
 exact ⟨rfl,Lib.below_grow w.heap.size w (Nat.le_refl _) j os⟩
theorem Zfn {t:TypeId}{w w':World}{v:Value}{n:Nat}{ys:List Value}{qg bl bm n' ol oc:Nat}{oo:Option Addr}{D:DataW Unit}{B:Nat}{xs:List (List Value)}{w0:World}{acc:List UInt8} (h:Zjl t w v n ys) (G:GW qg bl bm n' ol oc oo D B xs w0 acc w) (ho:Lib.OthersKept 5 (some bl) w w') (ht:t≠5) (hl:t≠165):Zjl t w' v n ys:=by
 obtain ⟨ao,cap,e,hc,f⟩:=h
 refine ⟨ao,cap,e,hc,fun hn => ?_⟩
 obtain ⟨b,o,cur,fz,e1,hk,g⟩:=f hn
 obtain ⟨cs,hb⟩:=G.block
 refine ⟨b,o,cur,fz,e1,Z3p ho hk (fun e => ?_) ht,g⟩
 subst e
 have:=hk.symm.trans hb
 simp at this
 exact hl this.2.1
theorem Z43 {t:TypeId}{w w':World}{v:Value}{n:Nat}{ys:List Value} (h:Zjl t w v n ys) (hb:Below w.heap.size w w'):Zjl t w' v n ys:=by
 obtain ⟨ao,cap,e,hc,f⟩:=h
 refine ⟨ao,cap,e,hc,fun hn => ?_⟩
 obtain ⟨b,o,cur,fz,e1,hk,g⟩:=f hn
 exact ⟨b,o,cur,fz,e1,(hb.block _ (Z01 hk)).trans hk,g⟩
theorem Zm0 {t:TypeId}{w:World}{v:Value}{n:Nat}{ys:List Value} (h:Zjl t w v n ys):Zjl t w.drew v n ys:=h
theorem Zrs {out:List Nat}{A:ByteArray}{x:Int × Int} (h:Z7b out x=true) (h4:x.1 % 4=0) (h5:x.1≠0):(gId out A x).data.toList=A.data.toList++(Z2a [⟨#[105,100]⟩,Z1c x.2,Z10 out x.1] ++ [10]):=by
 have h0:¬ objI out (ptI x.1)<0:=by
  have:=of_decide_eq_true h
  omega
 have e:Z10 out x.1=⟨#[64]⟩++Z1c (objI out (ptI x.1)):=by
  unfold Z10
  rw [if_neg (by omega),if_neg (by omega),if_neg h5,if_neg h0]
 rw [e,Z26]
 unfold gId
 rw [if_neg h0]
 simp [ByteArray.data_append]
theorem Zso {out:List Nat}{A:ByteArray}{x:Int × Int} (h:Z7b out x=true):(gId out A x).data.toList ≠ []:=by
 have h0:¬ objI out (ptI x.1)<0:=by
  have:=of_decide_eq_true h
  omega
 unfold gId
 rw [if_neg h0]
 intro h
 have:=congrArg List.length h
 simp [ByteArray.data_append] at this
theorem Zp6 {out:List Nat} (hn:out.length≤300000) (A:ByteArray) {x:Int × Int} (h : -9223372036854775808≤x.2∧x.2<9223372036854775808):(gId out A x).size≤A.size+80:=by
 have hb:=Zb3 (vs:=out) (x:=ptI x.1) hn
 have h1:=Z0s x.2 (by omega) (by omega)
 have h2:=Z0s (objI out (ptI x.1)) (by omega) (by omega)
 unfold gId
 split
 ·omega
 ·rw [ByteArray.size_append,ByteArray.size_append,ByteArray.size_append,ByteArray.size_append,ByteArray.size_append]
  show _+3+_+2+_+1≤_
  omega
set_option maxRecDepth 100000 in
set_option maxHeartbeats 2000000 in
theorem Zl5 {a:Nat→Addr}{qg bl bm n ol oc cR B:Nat}{oo aR:Option Addr}{D:DataW Unit}{out:List Nat}{xs:List (List Value)}{a0:ByteArray}{M:List (Int × Int)}{w0 wr:World}{u0 u1 u2 u3 u4 u5 u8 u9 u10 u11 u12 u13 u14 u15 u16 u17 u18 u19 u20 u21 u22 u23 u24 u25 u26 u27 u28 u29 u30 u31 u32 u33 u34 u35 u36 u37 u38 u39 u40 u41 u42 u43 u44 u45 u46 u47 u48 u49 u50 u51 u52 u53 u54 u55 u56 u57 u58 u59 u60 u61 u62 u63 u64 u65 u66 u67 u68 u69 u70 u71 u72 u73 u74 u75 u76 u77 u78 u79 u80 u81 u85 u86 u87 u88 u89 u90 u91 u92 u93 u94 u95 u96 u97 u98 u99:Value}{K:Act→World→Prop}{Q:Exit→Act→World→Prop}
  (X:GX a D out w0) (G:GW qg bl bm n ol oc oo D B xs w0 a0.data.toList wr) (h64:Zd7 M) (hin:∀ x∈M,Z7b out x=true∧x.1 % 4=0∧x.1≠0∧x.1 / 4≤1099511627776) (hll:M.length≤300000) (ha:a0.size≤100000000000) (hrow:Zjl 123 wr (.slice aR M.length cR) M.length (Z23 M))
  (hrest:∀ (v85 v86 v87 v88 v89 v90 v91 v92 v93 v94 v95 v96 v97 v15 v84:Value) (wx:World),(GW qg bl bm n ol oc oo D B xs w0 (Z6u out a0 M).data.toList wx)→K ⟨#[u0,u1,u2,u3,u4,u5,.pointer (some ⟨bl,0,none⟩),.pointer (some ⟨qg,0,none⟩),u8,u9,u10,u11,u12,u13,u14,v15,u16,u17,u18,u19,u20,u21,u22,u23,u24,u25,u26,u27,u28,u29,u30,u31,u32,u33,u34,u35,u36,u37,u38,u39,u40,u41,u42,u43,u44,u45,u46,u47,u48,u49,u50,u51,u52,u53,u54,u55,u56,u57,u58,u59,u60,u61,u62,u63,u64,u65,u66,u67,u68,u69,u70,u71,u72,u73,u74,u75,u76,u77,u78,u79,u80,u81,.slice aR M.length cR,.int .i64 (M.length:Int),v84,v85,v86,v87,v88,v89,v90,v91,v92,v93,v94,v95,v96,v97,u98,u99],[]⟩ wx) :
  Code.wp prog (pBlock 6) (Exit.then K Q) ⟨#[u0,u1,u2,u3,u4,u5,.pointer (some ⟨bl,0,none⟩),.pointer (some ⟨qg,0,none⟩),u8,u9,u10,u11,u12,u13,u14,u15,u16,u17,u18,u19,u20,u21,u22,u23,u24,u25,u26,u27,u28,u29,u30,u31,u32,u33,u34,u35,u36,u37,u38,u39,u40,u41,u42,u43,u44,u45,u46,u47,u48,u49,u50,u51,u52,u53,u54,u55,u56,u57,u58,u59,u60,u61,u62,u63,u64,u65,u66,u67,u68,u69,u70,u71,u72,u73,u74,u75,u76,u77,u78,u79,u80,u81,.slice aR M.length cR,.int .i64 (M.length:Int),.int .i64 0,u85,u86,u87,u88,u89,u90,u91,u92,u93,u94,u95,u96,u97,u98,u99],[]⟩ wr:=by
 have HR:=Z00 hrest
 have H6:=Z00 h64
 have HIN:=Z00 hin
 have HW:=Z00 hrow
 have HX:=Z00 X
 have HG0:=Z00 G
 clear hrest h64 hin hrow X G
 conv=>arg 2;whnf
 go_wp2_with fail
 go_loopg [84] (M.length+1) (fun gk vi wr => ∃ (k:Nat),gk=M.length+1 - k∧k≤M.length∧vi = .int .i64 (k:Int)∧(Z6u out a0 (M.take k)).size≤100000000000+k*80∧Hid (GW qg bl bm n ol oc oo D B xs w0 (Z6u out a0 (M.take k)).data.toList wr)∧Hid (Zjl 123 wr (.slice aR M.length cR) M.length (Z23 M)))
 case atStart=>exact ⟨0,rfl,Nat.zero_le _,rfl,by show a0.size≤_;omega,HG0.out,HW.out⟩
 case round =>
  obtain ⟨k,hgk,hk,rfl,hsz,hG,hrw⟩:=hrel
  have HG:=Z00 hgk
  have hk0:(0:Int)≤(k:Int):=by omega
  clear hgk
  by_cases hlt:k<M.length
  ·have hI:(k:Int)<(M.length:Int):=by omega
   obtain ⟨⟨xa,xs'⟩,hx⟩:∃ x,M[k]?=some x:=⟨_,List.getElem?_eq_getElem hlt⟩
   have hxm:=List.mem_of_getElem? hx
   obtain ⟨_,_,e,_,f1⟩:=hrw.out
   cases e
   obtain ⟨p1,o1,cur,fz,rfl,hbk,g1⟩:=f1 (by omega)
   have r0:wr.cell? ⟨p1,o1+k*2,none⟩=some (.int .u64 xa):=by rw [cell_of_row _ _ _ _ _ _ hbk];exact g1 (k*2) _ (Z52 hx).1
   have r1:wr.cell? ⟨p1,o1+k*2+1,none⟩=some (.int .i64 xs'):=by rw [cell_of_row _ _ _ _ _ _ hbk];exact g1 (k*2+1) _ (Z52 hx).2
   have hx64:=H6.out _ hxm
   obtain ⟨i1,i2,i3,i4⟩:=HIN.out _ hxm
   simp only at hx64 i2 i3 i4
   have hts:=Z3e out HX.out.few xa
   have hds:=Z0s xs' (by omega) (by omega)
   have HE:Hid (Z6u out a0 (M.take (k+1))=gId out (Z6u out a0 (M.take k)) (xa,xs')):=Zl4 hx
   have hne:=Zso (A:=Z6u out a0 (M.take k)) i1
   rw [←HE.out] at hne
   have HT:Hid ((Z6u out a0 (M.take (k+1))).data.toList=(Z6u out a0 (M.take k)).data.toList++(Z2a [⟨#[105,100]⟩,Z1c xs',Z10 out xa] ++ [10])):=by
    show _=_
    rw [HE.out]
    exact Zrs i1 i2 i3
   have HSZ:Hid ((Z6u out a0 (M.take (k+1))).size≤100000000000+(k+1)*80):=by
    show _≤_
    rw [HE.out]
    have:=Zp6 HX.out.few (Z6u out a0 (M.take k)) (x:=(xa,xs')) hx64.2
    omega
   have hjl:(Z2a [⟨#[105,100]⟩,Z1c xs',Z10 out xa]).length≤1000:=by
    rw [Z26]
    have h1:=Z84 (l:=[Z1c xs',Z10 out xa]) 22 (by intro t ht;simp at ht;rcases ht with rfl | rfl <;> omega)
    rw [List.length_append]
    have h2:(ByteArray.mk #[105,100]).data.toList.length=2:=rfl
    simp only [List.length_cons,List.length_nil] at h1
    omega
   have hal:(Z6u out a0 (M.take k)).data.toList.length≤100000000000000:=by
    have:(Z6u out a0 (M.take k)).data.toList.length=(Z6u out a0 (M.take k)).size:=Array.length_toList
    omega
   have KI:Hid (∀ W,Below w0.heap.size w0 W→Calls prog 56 #[.int .i64 xs'] W fun ev w'=>ev = .returned (.string (Z1c xs'))∧Below W.heap.size W w'):=fun W hW=>Z92 (by omega) (by omega) W (HX.out.at hW).tab
   have KT:Hid (∀ W,GW qg bl bm n ol oc oo D B xs w0 (Z6u out a0 (M.take k)).data.toList W→Calls prog 100 #[.agg #[.slice oo ol oc,.map (some bm)],.int .u64 xa] W fun ev w'=>ev = .returned (.string (Z10 out xa))∧Below W.heap.size W w'):=fun W hW=>Z7x a bm n ol oc oo _ out HX.out.few HX.out.num xa hx64.1.1 hx64.1.2 (fun h=>by omega) (by omega) (Or.inl i4) W (HX.out.at hW.below).err (HX.out.at hW.below).tab hW.map
   have KA:Hid (∀ W,GW qg bl bm n ol oc oo D B xs w0 (Z6u out a0 (M.take k)).data.toList W→Calls prog 99 #[.pointer (some ⟨bl,0,none⟩),.slice (some ⟨W.heap.size,0,none⟩) 3 3] (W.alloc (.cells #[.string ⟨#[105,100]⟩,.string (Z1c xs'),.string (Z10 out xa)] 9)) (Z37 bl bl (Z6u out a0 (M.take (k+1))).data.toList (W.alloc (.cells #[.string ⟨#[105,100]⟩,.string (Z1c xs'),.string (Z10 out xa)] 9)))):=fun W hW=>by
    have G3:=hW.keep ((Below.refl _ _).alloc (Nat.le_refl _) (.cells #[.string ⟨#[105,100]⟩,.string (Z1c xs'),.string (Z10 out xa)] 9))
    have hob:=heap_alloc_new W (.cells #[.string ⟨#[105,100]⟩,.string (Z1c xs'),.string (Z10 out xa)] 9)
    rw [HT.out]
    exact Zcb bl bl W.heap.size 0 3 [⟨#[105,100]⟩,Z1c xs',Z10 out xa] _ _ G3.bld (Nat.le_of_lt G3.lt) (fun j y hj=>by
     rw [cell_of_row _ _ _ _ _ _ hob,Nat.zero_add]
     match j,hj with
     | 0,hj=>cases hj;rfl
     | 1,hj=>cases hj;rfl
     | 2,hj=>cases hj;rfl) (Z01 hob) (by simp) (by simp) (by omega) hal
   have HNE:=Z00 hne
   have HRW:=Z00 (Z43 hrw.out ((Below.refl wr.heap.size wr).alloc (Nat.le_refl _) (.cells #[.int .u64 xa,.int .i64 xs'] 123)))
   obtain ⟨AT,hAT⟩:∃ AT,AT=(Z6u out a0 (M.take k)).data.toList:=⟨_,rfl⟩
   obtain ⟨AN,hAN⟩:∃ AN,AN=(Z6u out a0 (M.take (k+1))).data.toList:=⟨_,rfl⟩
   rw [←hAT] at KT KA hG
   rw [←hAN] at KA HNE
   have HAN:=Z00 hAN
   generalize Z10 out xa=tx at *
   generalize Z1c xs'=dx at *
   go_upto_region 24 with fail
   obtain ⟨w2,hw2⟩:∃ w2,w2=wr.alloc (.cells #[.int .u64 xa,.int .i64 xs'] 123):=⟨_,rfl⟩
   obtain ⟨q,hq⟩:∃ q,q=wr.heap.size:=⟨_,rfl⟩
   have hF:=GQ.new hG.out #[.int .u64 xa,.int .i64 xs'] 123
   rw [←hw2,←hq] at hF
   rw [←hw2] at HRW
   rw [←hw2,←hq]
   have hS:=hF.four
   clear f1 g1 hx hx64 i1 i2 i3 i4 hts hds hne hjl hal hAT hAN HE HT hsz hxm hbk r0 r1 hw2 hq hG hrw
   have hRT:=HRW.out
   go_region_held3 (fun W=>W.cell? ⟨q,0,none⟩=some (.int .u64 xa)∧W.cell? ⟨q,1,none⟩=some (.int .i64 xs')∧W.cell? ⟨qg,0,none⟩=some (.slice oo ol oc)∧W.cell? ⟨qg,1,none⟩=some (.map (some bm))) (first | with_reducible exact hF.four | with_reducible exact hF.drew.four | exact (hF.alloc _).four) (first
    | (go_at_call 56;refine (KI.out _ (by first | with_reducible exact hF.gw.below | with_reducible exact hF.drew.gw.below)).mono ?_;rintro ev wx ⟨rfl,hbx⟩;replace hF:GQ qg bl bm n ol oc oo D B xs w0 AT q #[.int .u64 xa,.int .i64 xs'] 123 wx:=(by first | with_reducible exact hF.keep hbx | with_reducible exact hF.drew.keep hbx);replace hRT:Zjl 123 wx (.slice (some ⟨p1,o1,none⟩) M.length cR) M.length (Z23 M):=(by first | with_reducible exact Z43 hRT hbx | with_reducible exact Z43 (Zm0 hRT) hbx);clear hbx)
    | (go_at_call 100;refine (KT.out _ hF.gw).mono ?_;rintro ev wx ⟨rfl,hbx⟩;replace hF:=hF.keep hbx;replace hRT:=Z43 hRT hbx;clear hbx)
    | (go_at_call 99;refine (KA.out _ hF.gw).mono ?_;intro ev wx hpx;have he:=hpx.1;subst he;replace hRT:=Zfn (Z43 hRT ((Below.refl _ _).alloc (Nat.le_refl _) _)) (hF.alloc _).gw hpx.2.2.2 (by decide) (by decide);replace hF:=(hF.alloc _).write hpx HNE.out (by decide)))
   have HF:=Z00 hF
   have HRT:=Z00 hRT
   clear hS hF hRT hpx
   go_wp2_with fail
   go_roundg (M.length+1 - (k+1))
   case measure=>have:=HG.out;omega
   case rel=>exact ⟨k+1,rfl,by omega,by go_num,HSZ.out,by show GW _ _ _ _ _ _ _ _ _ _ _ _ _;rw [←HAN.out];exact HF.out.gw,HRT.out⟩
  ·have hI:¬ (k:Int)<(M.length:Int):=by omega
   have HE:Hid (Z6u out a0 (M.take k)=Z6u out a0 M):=by show _=_;rw [List.take_of_length_le (by omega)]
   go_wp2_with fail
   have e:=hG.out
   rw [HE.out] at e
   exact HR.out _ _ _ _ _ _ _ _ _ _ _ _ _ _ _ _ e
end Go.Proofs.YtlkcbdinlfeoiaaGreatDoor
namespace Go.Proofs.YtlkcbdinlfeoiaaGreatDoor
open Go.Proofs.Tryz
open Go.RowKit Go.Maps

theorem GQ.five {qg bl bm n ol oc:Nat}{oo:Option Addr}{D:DataW Unit}{B:Nat}{xs:List (List Value)}{w0 w:World}{acc:List UInt8}{q:Nat}{v0 v1 v2:Value}{t:TypeId} (h:GQ qg bl bm n ol oc oo D B xs w0 acc q #[v0,v1,v2] t w):w.cell? ⟨q,0,none⟩=some v0∧w.cell? ⟨q,1,none⟩=some v1∧w.cell? ⟨q,2,none⟩=some v2∧w.cell? ⟨qg,0,none⟩=some (.slice oo ol oc)∧w.cell? ⟨qg,1,none⟩=some (.map (some bm)):=⟨h.cell 0,h.cell 1,h.cell 2,h.gcells⟩
theorem Z7d {w w':World} (h:w.grownBy w' none):Below w.heap.size w w':=(Below.refl _ _).grown h (Nat.le_refl _) (fun k hk=>by cases hk)
theorem Zft {out:List Nat} (hn:out.length≤300000) (kd x:Int):(Z29 kd out x).size≤22:=by
 unfold Z29
 split
 ·rw [ByteArray.size_append]
  have:(⟨(Z50 x.toNat 16).toArray⟩:ByteArray).size=16:=by show (Z50 x.toNat 16).toArray.size=16;rw [List.size_toArray,Z5j]
  show 2+_≤_
  omega
 ·exact Z3e out hn x
theorem Zf2 (kd:Int) (out:List Nat) (A:ByteArray) (x:Int):(Z20 kd out A x).data.toList=A.data.toList++(32::(Z29 kd out x).data.toList):=by
 unfold Z20 Z29 s0x
 split <;> simp [ByteArray.data_append]
theorem Z7n (kd:Int) (out:List Nat):∀ (l:List Int) (A:ByteArray),(Z1d kd out A l).data.toList=A.data.toList++(l.map (Z29 kd out)).flatMap (fun t=>32::t.data.toList)
 | [],A=>by simp [Z1d]
 | x::l,A=>by
  show (Z1d kd out (Z20 kd out A x) l).data.toList=_
  rw [Z7n kd out l,Zf2]
  simp
theorem Zgn (F:Nat→Int) (out:List Nat) (k f:Nat) (A:ByteArray):(Z4z F out k f A).data.toList=A.data.toList++(Z2a (Z1c (k:Int)::Z1c (F f / 4 % 256)::(Z07 F f).map (Z29 (F f / 4 % 256) out)) ++ [10]):=by
 unfold Z4z
 rw [Z26,ByteArray.data_append]
 simp only [Array.toList_append,Z7n]
 simp [ByteArray.data_append]
theorem Znz (F:Nat→Int) (out:List Nat) (k f:Nat) (A:ByteArray):(Z4z F out k f A).data.toList ≠ []:=by
 rw [Zgn]
 intro h
 have:=congrArg List.length h
 simp at this
theorem Za2 {F:Nat→Int}{out:List Nat} (hn:out.length≤300000) {k f:Nat} (hk:k≤300000) (hf:szN (F f)≤4096) (A:ByteArray):(Z4z F out k f A).size≤A.size+200000:=by
 have h1:=Z0s (k:Int) (by omega) (by omega)
 have h2:=Z0s (F f / 4 % 256) (by omega) (by omega)
 have h3:=Z7l (F f / 4 % 256) out hn (Z07 F f) (((A++Z1c (k:Int))++⟨#[32]⟩)++Z1c (F f / 4 % 256))
 rw [Z11,ByteArray.size_append,ByteArray.size_append,ByteArray.size_append] at h3
 have h4:(ByteArray.mk #[32]).size=1:=rfl
 unfold Z4z
 rw [ByteArray.size_append]
 show _+1≤_
 omega
theorem Zl8 {x y:ByteArray}{ts:List ByteArray} (hx:x.size≤21) (hy:y.size≤21) (ht:∀ t∈ts,t.size≤22) (hl:ts.length≤4096):(Z2a (x::y::ts)).length≤1000000000000:=by
 rw [Z26]
 have h1:=Z84 (l:=y::ts) 22 (by
  intro t h
  rcases List.mem_cons.1 h with rfl | h
  ·omega
  ·exact ht t h)
 have h2:x.data.toList.length=x.size:=Array.length_toList
 rw [List.length_append]
 rw [List.length_cons] at h1
 have:(ts.length+1)*(22+1)≤4097*23:=Nat.mul_le_mul (by omega) (Nat.le_refl _)
 omega
theorem Zac {w:World}{B:Nat}{v:Value}{x y:ByteArray}{ts:List ByteArray} (h:w.ownsRow B 9 1 v (2+ts.length) ([.string x,.string y]++ts.map Value.string)):∃ g cap,v = .slice (some ⟨g,0,none⟩) (2+ts.length) cap∧(∀ (j:Nat) z,(x::y::ts)[j]?=some z→w.cell? ⟨g,0+j,none⟩=some (.string z))∧2+ts.length≤cap∧g<w.heap.size:=by
 rcases h.2 with ⟨_,h0⟩ | ⟨g,cap,cur,rfl,hb,hg,hc,hcm,hs,ht⟩
 ·omega
 ·refine ⟨g,cap,rfl,fun j z hj => ?_,hc,Z01 hg⟩
  have hj2:([.string x,.string y]++ts.map Value.string:List Value)[j]?=some (.string z):=by
   have e:([.string x,.string y]++ts.map Value.string:List Value)=(x::y::ts).map Value.string:=rfl
   rw [e,List.getElem?_map,hj]
   rfl
  rw [←ht,List.getElem?_take] at hj2
  split at hj2
  ·rw [Nat.zero_add,cell_of_row _ _ _ _ _ _ hg,←Array.getElem?_toList]
   exact hj2
  ·cases hj2
theorem Zb6 {w:World}{q:Nat}{x y:ByteArray} (h:w.heap[q]?=some (.cells #[.string x,.string y] 9)):∀ b0,some (⟨q,0,none⟩:Addr)=some b0 → ∀ (j:Nat) (u:Value),([.string x,.string y]:List Value)[j]?=some u→w.cell? (b0.add j)=some u:=fun b0 e j u hj=>by
 cases e
 have e:(⟨q,0,none⟩:Addr).add j=⟨q,j,none⟩:=by unfold Addr.add;split <;> simp_all
 rw [e,cell_of_row _ _ _ _ _ _ h,←Array.getElem?_toList]
 exact hj
theorem Zay {w:World}{q:Nat}{ts:List ByteArray} (h:w.heap[q]?=some (.cells (ts.map Value.string).toArray 9)):∀ (j:Nat) (u:Value),(ts.map Value.string)[j]?=some u→w.cell? ((⟨q,0,none⟩:Addr).add j)=some u:=fun j u hj=>by
 have e:(⟨q,0,none⟩:Addr).add j=⟨q,j,none⟩:=by unfold Addr.add;split <;> simp_all
 rw [e,cell_of_row _ _ _ _ _ _ h,←Array.getElem?_toList]
 exact hj
theorem Zai {w:World}{q:Nat}{x y:ByteArray} (h:w.heap[q]?=some (.cells #[.string x,.string y] 9)):∀ (j:Nat) z,[x,y][j]?=some z→w.cell? ⟨q,0+j,none⟩=some (.string z):=fun j z hj=>by
 rw [cell_of_row _ _ _ _ _ _ h,Nat.zero_add]
 match j,hj with
 | 0,hj=>cases hj;rfl
 | 1,hj=>cases hj;rfl
theorem Zgp (ts:List ByteArray):∀ v∈ts.map Value.string,v.oneCell'=true:=fun v hv=>by
 obtain ⟨x,_,rfl⟩:=List.mem_map.1 hv
 rfl
def Zbe (F:Nat→Int) (out:List Nat):Prop:=∀ f∈out,¬ F f / 4 % 256<8 → ∀ x∈Z07 F f,(x % 4=2→x / 4≤2)∧x % 4≠3∧(x / 4≤1099511627776∨x % 4=1)
structure GM (b nW:Nat) (F:Nat→Int) (out:List Nat) (xs:List (List Value)) (w0:World):Prop where
 objs:Zem b F out xs
 mem:∀ i,i<nW→w0.cell? ⟨b,i,none⟩=some (.int .u64 (F i))
 range:∀ i,i<nW→0≤F i∧F i<18446744073709551616
 fine:∀ f∈out,szN (F f)≤4096∧f+1+szN (F f)≤nW
 held:Zbe F out
 few:nW≤300000
set_option maxRecDepth 100000 in
set_option maxHeartbeats 2000000 in
theorem Zl0 {a:Nat→Addr}{qg bl bm n oc B b nW:Nat}{oo:Option Addr}{D:DataW Unit}{F:Nat→Int}{out:List Nat}{xs:List (List Value)}{a0:ByteArray}{w0 wr:World}{u0 u1 u2 u3 u4 u5 u8 u9 u10 u11 u12 u13 u14 u15 u16 u17 u18 u19 u20 u21 u22 u23 u24 u25 u26 u27 u28 u29 u30 u31 u32 u33 u34 u35 u36 u37 u38 u39 u40 u41 u42 u46 u47 u48 u49 u50 u51 u52 u53 u54 u55 u56 u57 u58 u59 u60 u61 u62 u63 u64 u65 u66 u67 u68 u69 u70 u71 u72 u73 u74 u75 u76 u77 u78 u79 u80 u81 u82 u83 u84 u85 u86 u87 u88 u89 u90 u91 u92 u93 u94 u95 u96 u97 u98 u99:Value}{K:Act→World→Prop}{Q:Exit→Act→World→Prop}
  (X:GX a D out w0) (Y:GM b nW F out xs w0) (G:GW qg bl bm n out.length oc oo D B xs w0 a0.data.toList wr) (ha:a0.size≤10000000000)
  (hrest:∀ (v46 v47 v48 v49 v50 v51 v52 v53 v54 v55 v56 v57 v58 v59 v60 v61 v10 v11 v45:Value) (wx:World),(GW qg bl bm n out.length oc oo D B xs w0 (Z0l F out a0 out.length).data.toList wx)→K ⟨#[u0,u1,u2,u3,u4,u5,.pointer (some ⟨bl,0,none⟩),.pointer (some ⟨qg,0,none⟩),u8,u9,v10,v11,u12,u13,u14,u15,u16,u17,u18,u19,u20,u21,u22,u23,u24,u25,u26,u27,u28,u29,u30,u31,u32,u33,u34,u35,u36,u37,u38,u39,u40,u41,u42,.slice oo out.length oc,.int .i64 (out.length:Int),v45,v46,v47,v48,v49,v50,v51,v52,v53,v54,v55,v56,v57,v58,v59,v60,v61,u62,u63,u64,u65,u66,u67,u68,u69,u70,u71,u72,u73,u74,u75,u76,u77,u78,u79,u80,u81,u82,u83,u84,u85,u86,u87,u88,u89,u90,u91,u92,u93,u94,u95,u96,u97,u98,u99],[]⟩ wx) :
  Code.wp prog (pBlock 2) (Exit.then K Q) ⟨#[u0,u1,u2,u3,u4,u5,.pointer (some ⟨bl,0,none⟩),.pointer (some ⟨qg,0,none⟩),u8,u9,u10,u11,u12,u13,u14,u15,u16,u17,u18,u19,u20,u21,u22,u23,u24,u25,u26,u27,u28,u29,u30,u31,u32,u33,u34,u35,u36,u37,u38,u39,u40,u41,u42,.slice oo out.length oc,.int .i64 (out.length:Int),.int .i64 0,u46,u47,u48,u49,u50,u51,u52,u53,u54,u55,u56,u57,u58,u59,u60,u61,u62,u63,u64,u65,u66,u67,u68,u69,u70,u71,u72,u73,u74,u75,u76,u77,u78,u79,u80,u81,u82,u83,u84,u85,u86,u87,u88,u89,u90,u91,u92,u93,u94,u95,u96,u97,u98,u99],[]⟩ wr:=by
 have HR:=Z00 hrest
 have HX:=Z00 X
 have HY:=Z00 Y
 have HG0:=Z00 G
 have hfew:=X.few
 obtain ⟨i0,hi0,hz0,hz1,hz2⟩:=Zlz
 clear hrest X Y G
 conv=>arg 2;whnf
 go_wp2_with fail
 go_loopg [45] (out.length+1) (fun gk vi wr => ∃ (k:Nat),gk=out.length+1 - k∧k≤out.length∧vi = .int .i64 (k:Int)∧(Z0l F out a0 k).size≤10000000000+k*200000∧Hid (GW qg bl bm n out.length oc oo D B xs w0 (Z0l F out a0 k).data.toList wr))
 case atStart=>exact ⟨0,rfl,Nat.zero_le _,rfl,by show a0.size≤_;omega,HG0.out⟩
 case round =>
  obtain ⟨k,hgk,hk,rfl,hsz,hG⟩:=hrel
  have HG:=Z00 hgk
  have hk0:(0:Int)≤(k:Int):=by omega
  clear hgk
  by_cases hlt:k<out.length
  ·have hI:(k:Int)<(out.length:Int):=by omega
   obtain ⟨f,hf⟩:∃ f,out[k]?=some f:=⟨_,List.getElem?_eq_getElem hlt⟩
   have hfm:=List.mem_of_getElem? hf
   obtain ⟨cs,hxs,ao,cap,rfl,hcap,hao⟩:=HY.out.objs.2 k f hf
   obtain ⟨hs4,hfl⟩:=HY.out.fine f hfm
   obtain ⟨_,_,e,_,f1⟩:=Z2d hG.out.row
   cases e
   obtain ⟨p1,o1,rfl,l1,g1⟩:=f1 (by omega)
   obtain ⟨sz,hsz'⟩:∃ sz,sz=szN (F f):=⟨_,rfl⟩
   obtain ⟨kd,hkd⟩:∃ kd,kd=F f / 4 % 256:=⟨_,rfl⟩
   have r0:wr.cell? ⟨p1,o1+k*3,none⟩=some (.int .i64 (f:Int)):=g1 (k*3) _ (Z76 HY.out.objs.three hxs 0 (by omega))
   have r1:wr.cell? ⟨p1,o1+k*3+1,none⟩=some (.int .i64 kd):=by rw [hkd];exact g1 (k*3+1) _ (Z76 HY.out.objs.three hxs 1 (by omega))
   have r2:wr.cell? ⟨p1,o1+k*3+2,none⟩=some (.slice ao sz cap):=by rw [hsz'];exact g1 (k*3+2) _ (Z76 HY.out.objs.three hxs 2 (by omega))
   have hkb:0≤kd∧kd≤255:=by omega
   obtain ⟨ts,hts⟩:∃ ts,ts=(Z07 F f).map (Z29 kd out):=⟨_,rfl⟩
   have htl:ts.length=sz:=by rw [hts,List.length_map,Z11,hsz']
   have htz:∀ t∈ts,t.size≤22:=fun t ht=>by
    rw [hts] at ht
    obtain ⟨x,_,rfl⟩:=List.mem_map.1 ht
    exact Zft hfew kd x
   have hd1:=Z0s (k:Int) (by omega) (by omega)
   have hd2:=Z0s kd (by omega) (by omega)
   have HE:Hid (Z0l F out a0 (k+1)=Z4z F out k f (Z0l F out a0 k)):=Z9g hf
   have hne:=Znz F out k f (Z0l F out a0 k)
   rw [←HE.out] at hne
   have HT:Hid ((Z0l F out a0 (k+1)).data.toList=(Z0l F out a0 k).data.toList++(Z2a (Z1c (k:Int)::Z1c kd::ts) ++ [10])):=by
    show _=_
    rw [HE.out,Zgn,hts,hkd]
   have HSZ:Hid ((Z0l F out a0 (k+1)).size≤10000000000+(k+1)*200000):=by
    show _≤_
    rw [HE.out]
    have:=Za2 (F:=F) hfew (k:=k) (f:=f) (by omega) hs4 (Z0l F out a0 k)
    omega
   have hal:(Z0l F out a0 k).data.toList.length≤100000000000000:=by
    have:(Z0l F out a0 k).data.toList.length=(Z0l F out a0 k).size:=Array.length_toList
    omega
   have KI:Hid (∀ W,Below w0.heap.size w0 W→Calls prog 56 #[.int .i64 (k:Int)] W fun ev w'=>ev = .returned (.string (Z1c (k:Int)))∧Below W.heap.size W w'):=fun W hW=>Z92 (by omega) (by omega) W (HX.out.at hW).tab
   have KD:Hid (∀ W,Below w0.heap.size w0 W→Calls prog 56 #[.int .i64 kd] W fun ev w'=>ev = .returned (.string (Z1c kd))∧Below W.heap.size W w'):=fun W hW=>Z92 (by omega) (by omega) W (HX.out.at hW).tab
   have KF:Hid (∀ W,GW qg bl bm n out.length oc (some ⟨p1,o1,none⟩) D B xs w0 (Z0l F out a0 k).data.toList W→Calls prog 101 #[.agg #[.slice (some ⟨p1,o1,none⟩) out.length oc,.map (some bm)],.agg #[.int .i64 (f:Int),.int .i64 kd,.slice ao sz cap]] W (Z4g ts W)):=fun W hW=>by
    have hrow:=Z8y (F:=F) (f:=f) (b:=b) (nW:=nW) (ao:=ao) (cap:=cap) (w:=W) hfl (fun i hi=>(hW.below.cell (p:=⟨b,i,none⟩) (Z03 (HY.out.mem i hi))).trans (HY.out.mem i hi)) hcap hao
    have h:=Z9u a n D (f:Int) kd hkb.1 bm out.length oc cap (some ⟨p1,o1,none⟩) ao out (Z07 F f) (Z87 hfl HY.out.range) (by rw [Z11];omega) hfew HX.out.num (by rw [hkd];exact HY.out.held f hfm) W (HX.out.at hW.below).err (HX.out.at hW.below).tab (HX.out.at hW.below).tz hW.map hrow
    rw [←hts,Z11,←hsz'] at h
    exact h
   have KA:Hid (∀ (W:World) (g c:Nat),GW qg bl bm n out.length oc (some ⟨p1,o1,none⟩) D B xs w0 (Z0l F out a0 k).data.toList W→g<W.heap.size→(∀ (j:Nat) x,(Z1c (k:Int)::Z1c kd::ts)[j]?=some x→W.cell? ⟨g,0+j,none⟩=some (.string x))→2+ts.length≤c→Calls prog 99 #[.pointer (some ⟨bl,0,none⟩),.slice (some ⟨g,0,none⟩) (2+ts.length) c] W (Z37 bl bl (Z0l F out a0 (k+1)).data.toList W)):=fun W g c hW hg hcl hc=>by
    rw [HT.out]
    have h:=Zcb bl bl g 0 c (Z1c (k:Int)::Z1c kd::ts) _ _ hW.bld (Nat.le_of_lt hW.lt) hcl hg (by simp [htl];omega) (by simp [htl];omega) (Zl8 hd1 hd2 htz (by omega)) hal
    rw [show (Z1c (k:Int)::Z1c kd::ts).length=2+ts.length by simp;omega] at h
    exact h
   have HNE:=Z00 hne
   obtain ⟨AT,hAT⟩:∃ AT,AT=(Z0l F out a0 k).data.toList:=⟨_,rfl⟩
   obtain ⟨AN,hAN⟩:∃ AN,AN=(Z0l F out a0 (k+1)).data.toList:=⟨_,rfl⟩
   rw [←hAT] at KF KA hG
   rw [←hAN] at KA HNE
   have HAN:=Z00 hAN
   have hs5:sz≤4096:=by omega
   generalize Z1c (k:Int)=dn at *
   generalize Z1c kd=dk at *
   have HTL:=Z00 htl
   clear f1 g1 hf hfm hxs hcap hao hs4 hfl hd1 hd2 hne hal hAT hAN HE HT hsz hsz' hkd hts htz htl
   go_upto_region 14 with fail
   obtain ⟨w2,hw2⟩:∃ w2,w2=wr.alloc (.cells #[.int .i64 (f:Int),.int .i64 kd,.slice ao sz cap] 141):=⟨_,rfl⟩
   obtain ⟨q,hq⟩:∃ q,q=wr.heap.size:=⟨_,rfl⟩
   have hF:=GQ.new hG.out #[.int .i64 (f:Int),.int .i64 kd,.slice ao sz cap] 141
   rw [←hw2,←hq] at hF
   rw [←hw2,←hq]
   have hS:=hF.five
   clear r0 r1 r2 hw2 hq hG
   by_cases hz:sz=0
   ·have hnil:ts = []:=List.eq_nil_of_length_eq_zero (HTL.out.trans hz)
    subst hnil
    clear hz HTL
    go_region_held3 (fun W=>W.cell? ⟨q,0,none⟩=some (.int .i64 (f:Int))∧W.cell? ⟨q,1,none⟩=some (.int .i64 kd)∧W.cell? ⟨q,2,none⟩=some (.slice ao sz cap)∧W.cell? ⟨qg,0,none⟩=some (.slice (some ⟨p1,o1,none⟩) out.length oc)∧W.cell? ⟨qg,1,none⟩=some (.map (some bm))) (first | with_reducible exact hF.five | with_reducible exact hF.drew.five | exact (hF.alloc _).five) (first
     | (go_at_call_of 56 kd;refine (KD.out _ (by first | with_reducible exact hF.gw.below | with_reducible exact hF.drew.gw.below)).mono ?_;rintro ev wb ⟨rfl,hbx⟩;replace hF:GQ qg bl bm n out.length oc (some ⟨p1,o1,none⟩) D B xs w0 AT q #[.int .i64 (f:Int),.int .i64 kd,.slice ao sz cap] 141 wb:=(by first | with_reducible exact hF.keep hbx | with_reducible exact hF.drew.keep hbx);clear hbx)
     | (go_at_call 56;refine (KI.out _ (by first | with_reducible exact hF.gw.below | with_reducible exact hF.drew.gw.below)).mono ?_;rintro ev wa ⟨rfl,hbx⟩;replace hF:GQ qg bl bm n out.length oc (some ⟨p1,o1,none⟩) D B xs w0 AT q #[.int .i64 (f:Int),.int .i64 kd,.slice ao sz cap] 141 wa:=(by first | with_reducible exact hF.keep hbx | with_reducible exact hF.drew.keep hbx);clear hbx)
     | (go_at_call 101;refine (KF.out _ (by with_reducible exact hF.gw)).mono ?_;rintro ev wc2 ⟨qf2,rfl,hq1,hq2,hbx⟩;replace hF:=hF.keep hbx;clear hbx hq1)
     | (go_at_call 101;refine (KF.out _ (hF.alloc (.cells #[.string dn,.string dk] 9)).gw).mono ?_;rintro ev wc ⟨qf,rfl,hq1,hq2,hbx⟩;have hbk:wc.heap[wb.heap.size]?=some (.cells #[.string dn,.string dk] 9):=((hbx.block _ (by simp)).trans (heap_alloc_new _ _));replace hF:=(hF.alloc (.cells #[.string dn,.string dk] 9)).keep hbx;clear hbx hq1)
     | (refine step_append_room (by rfl) _ _ _ (by rfl) 9 i0 1 underlying90 hi0 hz1 wb.heap.size 0 2 2 (by rfl) ⟨qf,0,none⟩ 0 0 [] (by rfl) (by simp) (fun j u hj=>by simp at hj) (fun u hu=>by simp at hu) (by simp) (fun j hj=>by simp at hj) ?_;rw [show wc.setCells wb.heap.size (0+2*1) []=wc from rfl];have hcl:=Zai hbk;have hgl:=Z01 hbk;have hcp:2+([]:List ByteArray).length≤2:=(by simp))
     | (refine step_append_room (by rfl) _ _ _ (by rfl) 9 i0 1 underlying90 hi0 hz1 wc2.heap.size 0 2 2 (by rfl) ⟨qf2,0,none⟩ 0 0 [] (by rfl) (by simp) (fun j u hj=>by simp at hj) (fun u hu=>by simp at hu) (by simp) (fun j hj=>by simp at hj) ?_;rw [show (wc2.alloc (.cells #[.string dn,.string dk] 9)).setCells wc2.heap.size (0+2*1) []=wc2.alloc (.cells #[.string dn,.string dk] 9) from rfl];replace hF:=hF.alloc (.cells #[.string dn,.string dk] 9);have hbk2:=heap_alloc_new wc2 (.cells #[.string dn,.string dk] 9);have hcl:=Zai hbk2;have hgl:=Z01 hbk2;have hcp:2+([]:List ByteArray).length≤2:=(by simp);clear hbk2)
     | (go_at_call 99;refine (KA.out _ _ _ hF.gw hgl hcl hcp).mono ?_;intro ev we hpx;have he:=hpx.1;subst he;replace hF:=hF.write hpx HNE.out (by decide)))
    all_goals (
     have HF:=Z00 hF
     clear hS hF hpx
     go_wp2_with fail
     go_roundg (out.length+1 - (k+1))
     case measure=>have:=HG.out;omega
     case rel=>exact ⟨k+1,rfl,by omega,by go_num,HSZ.out,by show GW _ _ _ _ _ _ _ _ _ _ _ _ _;rw [←HAN.out];exact HF.out.gw⟩)
   ·have hm1:1≤ts.length:=by have:=HTL.out;omega
    have hm2:ts.length≤4096:=by have:=HTL.out;omega
    clear hz HTL
    go_region_held3 (fun W=>W.cell? ⟨q,0,none⟩=some (.int .i64 (f:Int))∧W.cell? ⟨q,1,none⟩=some (.int .i64 kd)∧W.cell? ⟨q,2,none⟩=some (.slice ao sz cap)∧W.cell? ⟨qg,0,none⟩=some (.slice (some ⟨p1,o1,none⟩) out.length oc)∧W.cell? ⟨qg,1,none⟩=some (.map (some bm))) (first | with_reducible exact hF.five | with_reducible exact hF.drew.five | exact (hF.alloc _).five) (first
     | (go_at_call_of 56 kd;refine (KD.out _ (by first | with_reducible exact hF.gw.below | with_reducible exact hF.drew.gw.below)).mono ?_;rintro ev wb ⟨rfl,hbx⟩;replace hF:GQ qg bl bm n out.length oc (some ⟨p1,o1,none⟩) D B xs w0 AT q #[.int .i64 (f:Int),.int .i64 kd,.slice ao sz cap] 141 wb:=(by first | with_reducible exact hF.keep hbx | with_reducible exact hF.drew.keep hbx);clear hbx)
     | (go_at_call 56;refine (KI.out _ (by first | with_reducible exact hF.gw.below | with_reducible exact hF.drew.gw.below)).mono ?_;rintro ev wa ⟨rfl,hbx⟩;replace hF:GQ qg bl bm n out.length oc (some ⟨p1,o1,none⟩) D B xs w0 AT q #[.int .i64 (f:Int),.int .i64 kd,.slice ao sz cap] 141 wa:=(by first | with_reducible exact hF.keep hbx | with_reducible exact hF.drew.keep hbx);clear hbx)
     | (go_at_call 101;refine (KF.out _ (by with_reducible exact hF.gw)).mono ?_;rintro ev wc2 ⟨qf2,rfl,hq1,hq2,hbx⟩;replace hF:=hF.keep hbx;clear hbx hq1)
     | (go_at_call 101;refine (KF.out _ (hF.alloc (.cells #[.string dn,.string dk] 9)).gw).mono ?_;rintro ev wc ⟨qf,rfl,hq1,hq2,hbx⟩;have hbk:wc.heap[wb.heap.size]?=some (.cells #[.string dn,.string dk] 9):=((hbx.block _ (by simp)).trans (heap_alloc_new _ _));replace hF:=(hF.alloc (.cells #[.string dn,.string dk] 9)).keep hbx;clear hbx hq1)
     | (refine step_append_grows (by rfl) _ _ _ (by rfl) 9 i0 (.string ⟨#[]⟩) 1 16 underlying90 hi0 hz0 hz1 hz2 rfl (by decide) (some ⟨wb.heap.size,0,none⟩) 2 2 [.string dn,.string dk] (by rfl) (fun h=>by cases h) rfl (Zb6 hbk) ⟨qf,0,none⟩ ts.length ts.length (ts.map Value.string) (by rfl) (by simp) (Zay hq2) (Zgp ts) (by omega) (by unfold maxLen;omega) (by omega) ?_;intro v' wd hown hgrow;obtain ⟨g',cap',rfl,hcl,hcp,hgl⟩:=Zac hown;replace hF:=hF.keep (Z7d hgrow);clear hown hgrow hbk hq2)
     | (refine step_append_grows (by rfl) _ _ _ (by rfl) 9 i0 (.string ⟨#[]⟩) 1 16 underlying90 hi0 hz0 hz1 hz2 rfl (by decide) (some ⟨wc2.heap.size,0,none⟩) 2 2 [.string dn,.string dk] (by rfl) (fun h=>by cases h) rfl (Zb6 (heap_alloc_new wc2 (.cells #[.string dn,.string dk] 9))) ⟨qf2,0,none⟩ ts.length ts.length (ts.map Value.string) (by rfl) (by simp) (Zay ((((Below.refl wc2.heap.size wc2).alloc (Nat.le_refl _) _).block _ (Z01 hq2)).trans hq2)) (Zgp ts) (by omega) (by unfold maxLen;omega) (by omega) ?_;intro v' wd hown hgrow;obtain ⟨g',cap',rfl,hcl,hcp,hgl⟩:=Zac hown;replace hF:=(hF.alloc (.cells #[.string dn,.string dk] 9)).keep (Z7d hgrow);clear hown hgrow hq2)
     | (go_at_call 99;refine (KA.out _ _ _ hF.gw hgl hcl hcp).mono ?_;intro ev we hpx;have he:=hpx.1;subst he;replace hF:=hF.write hpx HNE.out (by decide)))
    all_goals (
     have HF:=Z00 hF
     clear hS hF hpx
     go_wp2_with fail
     go_roundg (out.length+1 - (k+1))
     case measure=>have:=HG.out;omega
     case rel=>exact ⟨k+1,rfl,by omega,by go_num,HSZ.out,by show GW _ _ _ _ _ _ _ _ _ _ _ _ _;rw [←HAN.out];exact HF.out.gw⟩)
  ·have hI:¬ (k:Int)<(out.length:Int):=by omega
   have HE:Hid (Z0l F out a0 k=Z0l F out a0 out.length):=by show _=_;rw [show k=out.length by omega]
   go_wp2_with fail
   have e:=hG.out
   rw [HE.out] at e
   exact HR.out _ _ _ _ _ _ _ _ _ _ _ _ _ _ _ _ _ _ _ _ e
end Go.Proofs.YtlkcbdinlfeoiaaGreatDoor
