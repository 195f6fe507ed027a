/- Graph: lines of IDs, by a contract. -/
import Derived.Test.YtlkcbdinlfeoiaaGreatDoorMemGZ
namespace Go.Proofs.YtlkcbdinlfeoiaaGreatDoor
open Go.Proofs.Tryz Go.RowKit
set_option maxHeartbeats 8000000
set_option maxRecDepth 100000
set_option linter.unusedSimpArgs false
section
open Go.Maps
structure GQ (qg bl bm n ol oc:Nat) (oo:Option Addr) (D:DataW Unit) (B:Nat) (xs:List (List Value)) (w0:World) (acc:List UInt8) (q:Nat) (cs:Array Value) (t:TypeId) (w:World):Prop where
 gw:GW qg bl bm n ol oc oo D B xs w0 acc w
 own:w.heap[q]?=some (.cells cs t)
 ne:q≠bl
theorem GQ.keep {qg bl bm n ol oc:Nat}{oo:Option Addr}{D:DataW Unit}{B:Nat}{xs:List (List Value)}{w0 w w':World}{acc:List UInt8}{q:Nat}{cs:Array Value}{t:TypeId} (h:GQ qg bl bm n ol oc oo D B xs w0 acc q cs t w) (hb:Below w.heap.size w w'):GQ qg bl bm n ol oc oo D B xs w0 acc q cs t w':=⟨h.gw.keep hb,(hb.block _ (Z01 h.own)).trans h.own,h.ne⟩
theorem GQ.drew {qg bl bm n ol oc:Nat}{oo:Option Addr}{D:DataW Unit}{B:Nat}{xs:List (List Value)}{w0 w:World}{acc:List UInt8}{q:Nat}{cs:Array Value}{t:TypeId} (h:GQ qg bl bm n ol oc oo D B xs w0 acc q cs t w):GQ qg bl bm n ol oc oo D B xs w0 acc q cs t w.drew:=h.keep (U01 _ _).drew
theorem GQ.alloc {qg bl bm n ol oc:Nat}{oo:Option Addr}{D:DataW Unit}{B:Nat}{xs:List (List Value)}{w0 w:World}{acc:List UInt8}{q:Nat}{cs:Array Value}{t:TypeId} (h:GQ qg bl bm n ol oc oo D B xs w0 acc q cs t w) (o:Obj):GQ qg bl bm n ol oc oo D B xs w0 acc q cs t (w.alloc o):=h.keep ((U01 _ _).alloc (U02 _) o)
theorem GQ.new {qg bl bm n ol oc:Nat}{oo:Option Addr}{D:DataW Unit}{B:Nat}{xs:List (List Value)}{w0 w:World}{acc:List UInt8} (h:GW qg bl bm n ol oc oo D B xs w0 acc w) (cs:Array Value) (t:TypeId):GQ qg bl bm n ol oc oo D B xs w0 acc w.heap.size cs t (w.alloc (.cells cs t)):=
 ⟨h.keep ((U01 _ _).alloc (U02 _) _),U0b _ _,by have:=h.lt;omega⟩
theorem GQ.write {qg bl bm n ol oc:Nat}{oo:Option Addr}{D:DataW Unit}{B:Nat}{xs:List (List Value)}{w0 w w':World}{acc acc':List UInt8}{q:Nat}{cs:Array Value}{t:TypeId}{ev:Ending} (h:GQ qg bl bm n ol oc oo D B xs w0 acc q cs t w) (hp:Z34 bl bl acc' w ev w') (hne:acc' ≠ []) (ht:t≠5):GQ qg bl bm n ol oc oo D B xs w0 acc' q cs t w':=⟨h.gw.write hp hne,Z3n hp.2.2.2 h.own h.ne ht,h.ne⟩
theorem GQ.cell {qg bl bm n ol oc:Nat}{oo:Option Addr}{D:DataW Unit}{B:Nat}{xs:List (List Value)}{w0 w:World}{acc:List UInt8}{q:Nat}{cs:Array Value}{t:TypeId} (h:GQ qg bl bm n ol oc oo D B xs w0 acc q cs t w) (j:Nat):w.cell? ⟨q,j,none⟩=cs[j]?:=U06 _ _ j _ _ _ h.own
theorem GQ.gcells {qg bl bm n ol oc:Nat}{oo:Option Addr}{D:DataW Unit}{B:Nat}{xs:List (List Value)}{w0 w:World}{acc:List UInt8}{q:Nat}{cs:Array Value}{t:TypeId} (h:GQ qg bl bm n ol oc oo D B xs w0 acc q cs t w):w.cell? ⟨qg,0,none⟩=some (.slice oo ol oc)/\w.cell? ⟨qg,1,none⟩=some (.map (some bm)):=
 ⟨by rw [U06 _ _ 0 _ _ _ h.gw.gr];rfl,by rw [U06 _ _ 1 _ _ _ h.gw.gr];rfl⟩
theorem GQ.four {qg bl bm n ol oc:Nat}{oo:Option Addr}{D:DataW Unit}{B:Nat}{xs:List (List Value)}{w0 w:World}{acc:List UInt8}{q:Nat}{v0 v1:Value}{t:TypeId} (h:GQ qg bl bm n ol oc oo D B xs w0 acc q #[v0,v1] t w):w.cell? ⟨q,0,none⟩=some v0/\w.cell? ⟨q,1,none⟩=some v1/\w.cell? ⟨qg,0,none⟩=some (.slice oo ol oc)/\w.cell? ⟨qg,1,none⟩=some (.map (some bm)):=⟨h.cell 0,h.cell 1,h.gcells⟩
theorem GX.at {a:Nat->Addr}{D:DataW Unit}{out:List Nat}{w0 w:World} (X:GX a D out w0) (hb:Below w0.heap.size w0 w):GX a D out w:=⟨X.err.below hb,X.tab.below hb (U02 _),X.tz.below hb (U02 _),X.num,X.few⟩
theorem Z75 {k:Int} (h0 : -9223372036854775808<=k) (h1:k<=9223372036854775807) (w:World) (ht:Z2b w):Calls prog 56 #[.int .i64 k] w fun ev w'=>ev = .returned (.string (Z1b k))/\Below w.heap.size w w':=by
 refine (Zhm k h0 h1 w ht).mono ?_
 rintro ev w' ⟨rfl,j,os,rfl⟩
 exact ⟨rfl,U4e w.heap.size w (U02 _) j os⟩
theorem Zf0 {t:TypeId}{w w':World}{v:Value}{n:Nat}{ys:List Value}{qg bl bm n' ol oc:Nat}{oo:Option Addr}{D:DataW Unit}{B:Nat}{xs:List (List Value)}{w0:World}{acc:List UInt8} (h:Zjp t w v n ys) (G:GW qg bl bm n' ol oc oo D B xs w0 acc w) (ho:Lib.OthersKept 5 (some bl) w w') (ht:t≠5) (hl:t≠165):Zjp t w' v n ys:=by
 obtain ⟨ao,cap,e,hc,f⟩:=h
 refine ⟨ao,cap,e,hc,fun hn => ?_⟩
 obtain ⟨b,o,cur,fz,e1,hk,g⟩:=f hn
 obtain ⟨cs,hb⟩:=G.block
 refine ⟨b,o,cur,fz,e1,Z3n ho hk (fun e => ?_) ht,g⟩
 subst e
 have:=hk.symm.trans hb
 simp at this
 exact hl this.2.1
theorem Z46 {t:TypeId}{w w':World}{v:Value}{n:Nat}{ys:List Value} (h:Zjp t w v n ys) (hb:Below w.heap.size w w'):Zjp t w' v n ys:=by
 obtain ⟨ao,cap,e,hc,f⟩:=h
 refine ⟨ao,cap,e,hc,fun hn => ?_⟩
 obtain ⟨b,o,cur,fz,e1,hk,g⟩:=f hn
 exact ⟨b,o,cur,fz,e1,(hb.block _ (Z01 hk)).trans hk,g⟩
theorem Zk8 {t:TypeId}{w:World}{v:Value}{n:Nat}{ys:List Value} (h:Zjp t w v n ys):Zjp t w.drew v n ys:=h
theorem Zrb {out:List Nat}{A:ByteArray}{x:Int × Int} (h:Z7l out x=true) (h4:x.1 % 4=0) (h5:x.1≠0):(gId out A x).data.toList=A.data.toList++(Z28 [⟨#[105,100]⟩,Z1b x.2,Z12 out x.1] ++ [10]):=by
 have h0:¬ objI out (ptI x.1)<0:=by
  have:=U0j h
  omega
 have e:Z12 out x.1=⟨#[64]⟩++Z1b (objI out (ptI x.1)):=by
  unfold Z12
  rw [U08 (by omega),U08 (by omega),U08 h5,U08 h0]
 rw [e,Z27]
 unfold gId
 rw [U08 h0]
 simp [U22]
theorem Zt2 {out:List Nat}{A:ByteArray}{x:Int × Int} (h:Z7l out x=true):(gId out A x).data.toList ≠ []:=by
 have h0:¬ objI out (ptI x.1)<0:=by
  have:=U0j h
  omega
 unfold gId
 rw [U08 h0]
 intro h
 have:=congrArg List.length h
 simp [U22] at this
theorem Zok {out:List Nat} (hn:out.length<=300000) (A:ByteArray) {x:Int × Int} (h : -9223372036854775808<=x.2/\x.2<9223372036854775808):(gId out A x).size<=A.size+80:=by
 have hb:=Zb9 (vs:=out) (x:=ptI x.1) hn
 have h1:=Z0m x.2 (by omega) (by omega)
 have h2:=Z0m (objI out (ptI x.1)) (by omega) (by omega)
 unfold gId
 split
 ·omega
 ·rw [U0o,U0o,U0o,U0o,U0o]
  show _+3+_+2+_+1<=_
  omega
theorem Zjx {a:Nat->Addr}{qg bl bm n ol oc cR B:Nat}{oo aR:Option Addr}{D:DataW Unit}{out:List Nat}{xs:List (List Value)}{a0:ByteArray}{M:List (Int × Int)}{w0 wr:World}{u0 u1 u2 u3 u4 u5 u8 u9 u10 u11 u12 u13 u14 u15 u16 u17 u18 u19 u20 u21 u22 u23 u24 u25 u26 u27 u28 u29 u30 u31 u32 u33 u34 u35 u36 u37 u38 u39 u40 u41 u42 u43 u44 u45 u46 u47 u48 u49 u50 u51 u52 u53 u54 u55 u56 u57 u58 u59 u60 u61 u62 u63 u64 u65 u66 u67 u68 u69 u70 u71 u72 u73 u74 u75 u76 u77 u78 u79 u80 u81 u85 u86 u87 u88 u89 u90 u91 u92 u93 u94 u95 u96 u97 u98 u99:Value}{K:Act->World->Prop}{Q:Exit->Act->World->Prop}
  (X:GX a D out w0) (G:GW qg bl bm n ol oc oo D B xs w0 a0.data.toList wr) (h64:Zda M) (hin:∀ x∈M,Z7l out x=true/\x.1 % 4=0/\x.1≠0/\x.1 / 4<=1099511627776) (hll:M.length<=300000) (ha:a0.size<=100000000000) (hrow:Zjp 123 wr (.slice aR M.length cR) M.length (Z2e M))
  (hrest:∀ (v85 v86 v87 v88 v89 v90 v91 v92 v93 v94 v95 v96 v97 v15 v84:Value) (wx:World),(GW qg bl bm n ol oc oo D B xs w0 (Z7d out a0 M).data.toList wx)->K ⟨#[u0,u1,u2,u3,u4,u5,.pointer (some ⟨bl,0,none⟩),.pointer (some ⟨qg,0,none⟩),u8,u9,u10,u11,u12,u13,u14,v15,u16,u17,u18,u19,u20,u21,u22,u23,u24,u25,u26,u27,u28,u29,u30,u31,u32,u33,u34,u35,u36,u37,u38,u39,u40,u41,u42,u43,u44,u45,u46,u47,u48,u49,u50,u51,u52,u53,u54,u55,u56,u57,u58,u59,u60,u61,u62,u63,u64,u65,u66,u67,u68,u69,u70,u71,u72,u73,u74,u75,u76,u77,u78,u79,u80,u81,.slice aR M.length cR,.int .i64 (M.length:Int),v84,v85,v86,v87,v88,v89,v90,v91,v92,v93,v94,v95,v96,v97,u98,u99],[]⟩ wx) :
  Code.wp prog (pBlock 6) (Exit.then K Q) ⟨#[u0,u1,u2,u3,u4,u5,.pointer (some ⟨bl,0,none⟩),.pointer (some ⟨qg,0,none⟩),u8,u9,u10,u11,u12,u13,u14,u15,u16,u17,u18,u19,u20,u21,u22,u23,u24,u25,u26,u27,u28,u29,u30,u31,u32,u33,u34,u35,u36,u37,u38,u39,u40,u41,u42,u43,u44,u45,u46,u47,u48,u49,u50,u51,u52,u53,u54,u55,u56,u57,u58,u59,u60,u61,u62,u63,u64,u65,u66,u67,u68,u69,u70,u71,u72,u73,u74,u75,u76,u77,u78,u79,u80,u81,.slice aR M.length cR,.int .i64 (M.length:Int),.int .i64 0,u85,u86,u87,u88,u89,u90,u91,u92,u93,u94,u95,u96,u97,u98,u99],[]⟩ wr:=by
 have HR:=Z00 hrest
 have H6:=Z00 h64
 have HIN:=Z00 hin
 have HW:=Z00 hrow
 have HX:=Z00 X
 have HG0:=Z00 G
 clear hrest h64 hin hrow X G
 conv=>arg 2;whnf
 go_wp2_with fail
 go_loopg [84] (M.length+1) (fun gk vi wr => ∃ (k:Nat),gk=M.length+1 - k/\k<=M.length/\vi = .int .i64 (k:Int)/\(Z7d out a0 (M.take k)).size<=100000000000+k*80/\Hid (GW qg bl bm n ol oc oo D B xs w0 (Z7d out a0 (M.take k)).data.toList wr)/\Hid (Zjp 123 wr (.slice aR M.length cR) M.length (Z2e M)))
 case atStart=>exact ⟨0,rfl,U0x _,rfl,by show a0.size<=_;omega,HG0.out,HW.out⟩
 case round =>
  obtain ⟨k,hgk,hk,rfl,hsz,hG,hrw⟩:=hrel
  have HG:=Z00 hgk
  have hk0:(0:Int)<=(k:Int):=by omega
  clear hgk
  by_cases hlt:k<M.length
  ·have hI:(k:Int)<(M.length:Int):=by omega
   obtain ⟨⟨xa,xs'⟩,hx⟩:∃ x,M[k]?=some x:=⟨_,U03 hlt⟩
   have hxm:=U0a hx
   obtain ⟨_,_,e,_,f1⟩:=hrw.out
   cases e
   obtain ⟨p1,o1,cur,fz,rfl,hbk,g1⟩:=f1 (by omega)
   have r0:wr.cell? ⟨p1,o1+k*2,none⟩=some (.int .u64 xa):=by rw [U06 _ _ _ _ _ _ hbk];exact g1 (k*2) _ (Z52 hx).1
   have r1:wr.cell? ⟨p1,o1+k*2+1,none⟩=some (.int .i64 xs'):=by rw [U06 _ _ _ _ _ _ hbk];exact g1 (k*2+1) _ (Z52 hx).2
   have hx64:=H6.out _ hxm
   obtain ⟨i1,i2,i3,i4⟩:=HIN.out _ hxm
   simp only at hx64 i2 i3 i4
   have hts:=Z39 out HX.out.few xa
   have hds:=Z0m xs' (by omega) (by omega)
   have HE:Hid (Z7d out a0 (M.take (k+1))=gId out (Z7d out a0 (M.take k)) (xa,xs')):=Zmc hx
   have hne:=Zt2 (A:=Z7d out a0 (M.take k)) i1
   rw [<-HE.out] at hne
   have HT:Hid ((Z7d out a0 (M.take (k+1))).data.toList=(Z7d out a0 (M.take k)).data.toList++(Z28 [⟨#[105,100]⟩,Z1b xs',Z12 out xa] ++ [10])):=by
    show _=_
    rw [HE.out]
    exact Zrb i1 i2 i3
   have HSZ:Hid ((Z7d out a0 (M.take (k+1))).size<=100000000000+(k+1)*80):=by
    show _<=_
    rw [HE.out]
    have:=Zok HX.out.few (Z7d out a0 (M.take k)) (x:=(xa,xs')) hx64.2
    omega
   have hjl:(Z28 [⟨#[105,100]⟩,Z1b xs',Z12 out xa]).length<=1000:=by
    rw [Z27]
    have h1:=Z7y (l:=[Z1b xs',Z12 out xa]) 22 (by intro t ht;simp at ht;rcases ht with rfl | rfl <;> omega)
    rw [U0f]
    have h2:(ByteArray.mk #[105,100]).data.toList.length=2:=rfl
    simp only [U1e,U2t] at h1
    omega
   have hal:(Z7d out a0 (M.take k)).data.toList.length<=100000000000000:=by
    have:(Z7d out a0 (M.take k)).data.toList.length=(Z7d out a0 (M.take k)).size:=U2c
    omega
   have KI:Hid (∀ W,Below w0.heap.size w0 W->Calls prog 56 #[.int .i64 xs'] W fun ev w'=>ev = .returned (.string (Z1b xs'))/\Below W.heap.size W w'):=fun W hW=>Z75 (by omega) (by omega) W (HX.out.at hW).tab
   have KT:Hid (∀ W,GW qg bl bm n ol oc oo D B xs w0 (Z7d out a0 (M.take k)).data.toList W->Calls prog 100 #[.agg #[.slice oo ol oc,.map (some bm)],.int .u64 xa] W fun ev w'=>ev = .returned (.string (Z12 out xa))/\Below W.heap.size W w'):=fun W hW=>Z84 a bm n ol oc oo _ out HX.out.few HX.out.num xa hx64.1.1 hx64.1.2 (fun h=>by omega) (by omega) (Or.inl i4) W (HX.out.at hW.below).err (HX.out.at hW.below).tab hW.map
   have KA:Hid (∀ W,GW qg bl bm n ol oc oo D B xs w0 (Z7d out a0 (M.take k)).data.toList W->Calls prog 99 #[.pointer (some ⟨bl,0,none⟩),.slice (some ⟨W.heap.size,0,none⟩) 3 3] (W.alloc (.cells #[.string ⟨#[105,100]⟩,.string (Z1b xs'),.string (Z12 out xa)] 9)) (Z34 bl bl (Z7d out a0 (M.take (k+1))).data.toList (W.alloc (.cells #[.string ⟨#[105,100]⟩,.string (Z1b xs'),.string (Z12 out xa)] 9)))):=fun W hW=>by
    have G3:=hW.keep ((U01 _ _).alloc (U02 _) (.cells #[.string ⟨#[105,100]⟩,.string (Z1b xs'),.string (Z12 out xa)] 9))
    have hob:=U0b W (.cells #[.string ⟨#[105,100]⟩,.string (Z1b xs'),.string (Z12 out xa)] 9)
    rw [HT.out]
    exact Zc3 bl bl W.heap.size 0 3 [⟨#[105,100]⟩,Z1b xs',Z12 out xa] _ _ G3.bld (U50 G3.lt) (fun j y hj=>by
     rw [U06 _ _ _ _ _ _ hob,U1p]
     match j,hj with
     | 0,hj=>cases hj;rfl
     | 1,hj=>cases hj;rfl
     | 2,hj=>cases hj;rfl) (Z01 hob) (by simp) (by simp) (by omega) hal
   have HNE:=Z00 hne
   have HRW:=Z00 (Z46 hrw.out ((U01 wr.heap.size wr).alloc (U02 _) (.cells #[.int .u64 xa,.int .i64 xs'] 123)))
   obtain ⟨AT,hAT⟩:∃ AT,AT=(Z7d out a0 (M.take k)).data.toList:=⟨_,rfl⟩
   obtain ⟨AN,hAN⟩:∃ AN,AN=(Z7d out a0 (M.take (k+1))).data.toList:=⟨_,rfl⟩
   rw [<-hAT] at KT KA hG
   rw [<-hAN] at KA HNE
   have HAN:=Z00 hAN
   generalize Z12 out xa=tx at *
   generalize Z1b xs'=dx at *
   go_upto_region 24 with fail
   obtain ⟨w2,hw2⟩:∃ w2,w2=wr.alloc (.cells #[.int .u64 xa,.int .i64 xs'] 123):=⟨_,rfl⟩
   obtain ⟨q,hq⟩:∃ q,q=wr.heap.size:=⟨_,rfl⟩
   have hF:=GQ.new hG.out #[.int .u64 xa,.int .i64 xs'] 123
   rw [<-hw2,<-hq] at hF
   rw [<-hw2] at HRW
   rw [<-hw2,<-hq]
   have hS:=hF.four
   clear f1 g1 hx hx64 i1 i2 i3 i4 hts hds hne hjl hal hAT hAN HE HT hsz hxm hbk r0 r1 hw2 hq hG hrw
   have hRT:=HRW.out
   go_region_held3 (fun W=>W.cell? ⟨q,0,none⟩=some (.int .u64 xa)/\W.cell? ⟨q,1,none⟩=some (.int .i64 xs')/\W.cell? ⟨qg,0,none⟩=some (.slice oo ol oc)/\W.cell? ⟨qg,1,none⟩=some (.map (some bm))) (first | with_reducible exact hF.four | with_reducible exact hF.drew.four | exact (hF.alloc _).four) (first
    | (go_at_call 56;refine (KI.out _ (by first | with_reducible exact hF.gw.below | with_reducible exact hF.drew.gw.below)).mono ?_;rintro ev wx ⟨rfl,hbx⟩;replace hF:GQ qg bl bm n ol oc oo D B xs w0 AT q #[.int .u64 xa,.int .i64 xs'] 123 wx:=(by first | with_reducible exact hF.keep hbx | with_reducible exact hF.drew.keep hbx);replace hRT:Zjp 123 wx (.slice (some ⟨p1,o1,none⟩) M.length cR) M.length (Z2e M):=(by first | with_reducible exact Z46 hRT hbx | with_reducible exact Z46 (Zk8 hRT) hbx);clear hbx)
    | (go_at_call 100;refine (KT.out _ hF.gw).mono ?_;rintro ev wx ⟨rfl,hbx⟩;replace hF:=hF.keep hbx;replace hRT:=Z46 hRT hbx;clear hbx)
    | (go_at_call 99;refine (KA.out _ hF.gw).mono ?_;intro ev wx hpx;have he:=hpx.1;subst he;replace hRT:=Zf0 (Z46 hRT ((U01 _ _).alloc (U02 _) _)) (hF.alloc _).gw hpx.2.2.2 (by decide) (by decide);replace hF:=(hF.alloc _).write hpx HNE.out (by decide)))
   have HF:=Z00 hF
   have HRT:=Z00 hRT
   clear hS hF hRT hpx
   go_wp2_with fail
   go_roundg (M.length+1 - (k+1))
   case measure=>have:=HG.out;omega
   case rel=>exact ⟨k+1,rfl,by omega,by go_num,HSZ.out,by show GW _ _ _ _ _ _ _ _ _ _ _ _ _;rw [<-HAN.out];exact HF.out.gw,HRT.out⟩
  ·have hI:¬ (k:Int)<(M.length:Int):=by omega
   have HE:Hid (Z7d out a0 (M.take k)=Z7d out a0 M):=by show _=_;rw [U13 (by omega)]
   go_wp2_with fail
   have e:=hG.out
   rw [HE.out] at e
   exact HR.out _ _ _ _ _ _ _ _ _ _ _ _ _ _ _ _ e
end
section
open Go.Maps
theorem GQ.five {qg bl bm n ol oc:Nat}{oo:Option Addr}{D:DataW Unit}{B:Nat}{xs:List (List Value)}{w0 w:World}{acc:List UInt8}{q:Nat}{v0 v1 v2:Value}{t:TypeId} (h:GQ qg bl bm n ol oc oo D B xs w0 acc q #[v0,v1,v2] t w):w.cell? ⟨q,0,none⟩=some v0/\w.cell? ⟨q,1,none⟩=some v1/\w.cell? ⟨q,2,none⟩=some v2/\w.cell? ⟨qg,0,none⟩=some (.slice oo ol oc)/\w.cell? ⟨qg,1,none⟩=some (.map (some bm)):=⟨h.cell 0,h.cell 1,h.cell 2,h.gcells⟩
theorem Z7o {w w':World} (h:w.grownBy w' none):Below w.heap.size w w':=(U01 _ _).grown h (U02 _) (fun k hk=>by cases hk)
theorem Zg3 {out:List Nat} (hn:out.length<=300000) (kd x:Int):(Z24 kd out x).size<=22:=by
 unfold Z24
 split
 ·rw [U0o]
  have:(⟨(Z5a x.toNat 16).toArray⟩:ByteArray).size=16:=by show (Z5a x.toNat 16).toArray.size=16;rw [U2i,Z5d]
  show 2+_<=_
  omega
 ·exact Z39 out hn x
theorem Zfi (kd:Int) (out:List Nat) (A:ByteArray) (x:Int):(Z1z kd out A x).data.toList=A.data.toList++(32::(Z24 kd out x).data.toList):=by
 unfold Z1z Z24 s0x
 split <;> simp [U22]
theorem Z7m (kd:Int) (out:List Nat):∀ (l:List Int) (A:ByteArray),(Z1f kd out A l).data.toList=A.data.toList++(l.map (Z24 kd out)).flatMap (fun t=>32::t.data.toList)
 | [],A=>by simp [Z1f]
 | x::l,A=>by
  show (Z1f kd out (Z1z kd out A x) l).data.toList=_
  rw [Z7m kd out l,Zfi]
  simp
theorem Zh8 (F:Nat->Int) (out:List Nat) (k f:Nat) (A:ByteArray):(Z4t F out k f A).data.toList=A.data.toList++(Z28 (Z1b (k:Int)::Z1b (F f / 4 % 256)::(Z07 F f).map (Z24 (F f / 4 % 256) out)) ++ [10]):=by
 unfold Z4t
 rw [Z27,U22]
 simp only [Array.toList_append,Z7m]
 simp [U22]
theorem Zo9 (F:Nat->Int) (out:List Nat) (k f:Nat) (A:ByteArray):(Z4t F out k f A).data.toList ≠ []:=by
 rw [Zh8]
 intro h
 have:=congrArg List.length h
 simp at this
theorem Za7 {F:Nat->Int}{out:List Nat} (hn:out.length<=300000) {k f:Nat} (hk:k<=300000) (hf:szN (F f)<=4096) (A:ByteArray):(Z4t F out k f A).size<=A.size+200000:=by
 have h1:=Z0m (k:Int) (by omega) (by omega)
 have h2:=Z0m (F f / 4 % 256) (by omega) (by omega)
 have h3:=Z7f (F f / 4 % 256) out hn (Z07 F f) (((A++Z1b (k:Int))++⟨#[32]⟩)++Z1b (F f / 4 % 256))
 rw [Z13,U0o,U0o,U0o] at h3
 have h4:(ByteArray.mk #[32]).size=1:=rfl
 unfold Z4t
 rw [U0o]
 show _+1<=_
 omega
theorem Zkv {x y:ByteArray}{ts:List ByteArray} (hx:x.size<=21) (hy:y.size<=21) (ht:∀ t∈ts,t.size<=22) (hl:ts.length<=4096):(Z28 (x::y::ts)).length<=1000000000000:=by
 rw [Z27]
 have h1:=Z7y (l:=y::ts) 22 (by
  intro t h
  rcases U19.1 h with rfl | h
  ·omega
  ·exact ht t h)
 have h2:x.data.toList.length=x.size:=U2c
 rw [U0f]
 rw [U1e] at h1
 have:(ts.length+1)*(22+1)<=4097*23:=Nat.mul_le_mul (by omega) (U02 _)
 omega
theorem Zaf {w:World}{B:Nat}{v:Value}{x y:ByteArray}{ts:List ByteArray} (h:w.ownsRow B 9 1 v (2+ts.length) ([.string x,.string y]++ts.map Value.string)):∃ g cap,v = .slice (some ⟨g,0,none⟩) (2+ts.length) cap/\(∀ (j:Nat) z,(x::y::ts)[j]?=some z->w.cell? ⟨g,0+j,none⟩=some (.string z))/\2+ts.length<=cap/\g<w.heap.size:=by
 rcases h.2 with ⟨_,h0⟩ | ⟨g,cap,cur,rfl,hb,hg,hc,hcm,hs,ht⟩
 ·omega
 ·refine ⟨g,cap,rfl,fun j z hj => ?_,hc,Z01 hg⟩
  have hj2:([.string x,.string y]++ts.map Value.string:List Value)[j]?=some (.string z):=by
   have e:([.string x,.string y]++ts.map Value.string:List Value)=(x::y::ts).map Value.string:=rfl
   rw [e,U0g,hj]
   rfl
  rw [<-ht,U1j] at hj2
  split at hj2
  ·rw [U1p,U06 _ _ _ _ _ _ hg,<-U1q]
   exact hj2
  ·cases hj2
theorem Zb0 {w:World}{q:Nat}{x y:ByteArray} (h:w.heap[q]?=some (.cells #[.string x,.string y] 9)):∀ b0,some (⟨q,0,none⟩:Addr)=some b0 -> ∀ (j:Nat) (u:Value),([.string x,.string y]:List Value)[j]?=some u->w.cell? (b0.add j)=some u:=fun b0 e j u hj=>by
 cases e
 have e:(⟨q,0,none⟩:Addr).add j=⟨q,j,none⟩:=by unfold Addr.add;split <;> simp_all
 rw [e,U06 _ _ _ _ _ _ h,<-U1q]
 exact hj
theorem Zap {w:World}{q:Nat}{ts:List ByteArray} (h:w.heap[q]?=some (.cells (ts.map Value.string).toArray 9)):∀ (j:Nat) (u:Value),(ts.map Value.string)[j]?=some u->w.cell? ((⟨q,0,none⟩:Addr).add j)=some u:=fun j u hj=>by
 have e:(⟨q,0,none⟩:Addr).add j=⟨q,j,none⟩:=by unfold Addr.add;split <;> simp_all
 rw [e,U06 _ _ _ _ _ _ h,<-U1q]
 exact hj
theorem Zac {w:World}{q:Nat}{x y:ByteArray} (h:w.heap[q]?=some (.cells #[.string x,.string y] 9)):∀ (j:Nat) z,[x,y][j]?=some z->w.cell? ⟨q,0+j,none⟩=some (.string z):=fun j z hj=>by
 rw [U06 _ _ _ _ _ _ h,U1p]
 match j,hj with
 | 0,hj=>cases hj;rfl
 | 1,hj=>cases hj;rfl
theorem Zh3 (ts:List ByteArray):∀ v∈ts.map Value.string,v.oneCell'=true:=fun v hv=>by
 obtain ⟨x,_,rfl⟩:=U0l.1 hv
 rfl
def Zb6 (F:Nat->Int) (out:List Nat):Prop:=∀ f∈out,¬ F f / 4 % 256<8 -> ∀ x∈Z07 F f,(x % 4=2->x / 4<=2)/\x % 4≠3/\(x / 4<=1099511627776\/x % 4=1)
structure GM (b nW:Nat) (F:Nat->Int) (out:List Nat) (xs:List (List Value)) (w0:World):Prop where
 objs:Zd8 b F out xs
 mem:∀ i,i<nW->w0.cell? ⟨b,i,none⟩=some (.int .u64 (F i))
 range:∀ i,i<nW->0<=F i/\F i<18446744073709551616
 fine:∀ f∈out,szN (F f)<=4096/\f+1+szN (F f)<=nW
 held:Zb6 F out
 few:nW<=300000
theorem Znc {a:Nat->Addr}{qg bl bm n oc B b nW:Nat}{oo:Option Addr}{D:DataW Unit}{F:Nat->Int}{out:List Nat}{xs:List (List Value)}{a0:ByteArray}{w0 wr:World}{u0 u1 u2 u3 u4 u5 u8 u9 u10 u11 u12 u13 u14 u15 u16 u17 u18 u19 u20 u21 u22 u23 u24 u25 u26 u27 u28 u29 u30 u31 u32 u33 u34 u35 u36 u37 u38 u39 u40 u41 u42 u46 u47 u48 u49 u50 u51 u52 u53 u54 u55 u56 u57 u58 u59 u60 u61 u62 u63 u64 u65 u66 u67 u68 u69 u70 u71 u72 u73 u74 u75 u76 u77 u78 u79 u80 u81 u82 u83 u84 u85 u86 u87 u88 u89 u90 u91 u92 u93 u94 u95 u96 u97 u98 u99:Value}{K:Act->World->Prop}{Q:Exit->Act->World->Prop}
  (X:GX a D out w0) (Y:GM b nW F out xs w0) (G:GW qg bl bm n out.length oc oo D B xs w0 a0.data.toList wr) (ha:a0.size<=10000000000)
  (hrest:∀ (v46 v47 v48 v49 v50 v51 v52 v53 v54 v55 v56 v57 v58 v59 v60 v61 v10 v11 v45:Value) (wx:World),(GW qg bl bm n out.length oc oo D B xs w0 (Z0j F out a0 out.length).data.toList wx)->K ⟨#[u0,u1,u2,u3,u4,u5,.pointer (some ⟨bl,0,none⟩),.pointer (some ⟨qg,0,none⟩),u8,u9,v10,v11,u12,u13,u14,u15,u16,u17,u18,u19,u20,u21,u22,u23,u24,u25,u26,u27,u28,u29,u30,u31,u32,u33,u34,u35,u36,u37,u38,u39,u40,u41,u42,.slice oo out.length oc,.int .i64 (out.length:Int),v45,v46,v47,v48,v49,v50,v51,v52,v53,v54,v55,v56,v57,v58,v59,v60,v61,u62,u63,u64,u65,u66,u67,u68,u69,u70,u71,u72,u73,u74,u75,u76,u77,u78,u79,u80,u81,u82,u83,u84,u85,u86,u87,u88,u89,u90,u91,u92,u93,u94,u95,u96,u97,u98,u99],[]⟩ wx) :
  Code.wp prog (pBlock 2) (Exit.then K Q) ⟨#[u0,u1,u2,u3,u4,u5,.pointer (some ⟨bl,0,none⟩),.pointer (some ⟨qg,0,none⟩),u8,u9,u10,u11,u12,u13,u14,u15,u16,u17,u18,u19,u20,u21,u22,u23,u24,u25,u26,u27,u28,u29,u30,u31,u32,u33,u34,u35,u36,u37,u38,u39,u40,u41,u42,.slice oo out.length oc,.int .i64 (out.length:Int),.int .i64 0,u46,u47,u48,u49,u50,u51,u52,u53,u54,u55,u56,u57,u58,u59,u60,u61,u62,u63,u64,u65,u66,u67,u68,u69,u70,u71,u72,u73,u74,u75,u76,u77,u78,u79,u80,u81,u82,u83,u84,u85,u86,u87,u88,u89,u90,u91,u92,u93,u94,u95,u96,u97,u98,u99],[]⟩ wr:=by
 have HR:=Z00 hrest
 have HX:=Z00 X
 have HY:=Z00 Y
 have HG0:=Z00 G
 have hfew:=X.few
 obtain ⟨i0,hi0,hz0,hz1,hz2⟩:=Zno
 clear hrest X Y G
 conv=>arg 2;whnf
 go_wp2_with fail
 go_loopg [45] (out.length+1) (fun gk vi wr => ∃ (k:Nat),gk=out.length+1 - k/\k<=out.length/\vi = .int .i64 (k:Int)/\(Z0j F out a0 k).size<=10000000000+k*200000/\Hid (GW qg bl bm n out.length oc oo D B xs w0 (Z0j F out a0 k).data.toList wr))
 case atStart=>exact ⟨0,rfl,U0x _,rfl,by show a0.size<=_;omega,HG0.out⟩
 case round =>
  obtain ⟨k,hgk,hk,rfl,hsz,hG⟩:=hrel
  have HG:=Z00 hgk
  have hk0:(0:Int)<=(k:Int):=by omega
  clear hgk
  by_cases hlt:k<out.length
  ·have hI:(k:Int)<(out.length:Int):=by omega
   obtain ⟨f,hf⟩:∃ f,out[k]?=some f:=⟨_,U03 hlt⟩
   have hfm:=U0a hf
   obtain ⟨cs,hxs,ao,cap,rfl,hcap,hao⟩:=HY.out.objs.2 k f hf
   obtain ⟨hs4,hfl⟩:=HY.out.fine f hfm
   obtain ⟨_,_,e,_,f1⟩:=Z2p hG.out.row
   cases e
   obtain ⟨p1,o1,rfl,l1,g1⟩:=f1 (by omega)
   obtain ⟨sz,hsz'⟩:∃ sz,sz=szN (F f):=⟨_,rfl⟩
   obtain ⟨kd,hkd⟩:∃ kd,kd=F f / 4 % 256:=⟨_,rfl⟩
   have r0:wr.cell? ⟨p1,o1+k*3,none⟩=some (.int .i64 (f:Int)):=g1 (k*3) _ (Z9l HY.out.objs.three hxs 0 (by omega))
   have r1:wr.cell? ⟨p1,o1+k*3+1,none⟩=some (.int .i64 kd):=by rw [hkd];exact g1 (k*3+1) _ (Z9l HY.out.objs.three hxs 1 (by omega))
   have r2:wr.cell? ⟨p1,o1+k*3+2,none⟩=some (.slice ao sz cap):=by rw [hsz'];exact g1 (k*3+2) _ (Z9l HY.out.objs.three hxs 2 (by omega))
   have hkb:0<=kd/\kd<=255:=by omega
   obtain ⟨ts,hts⟩:∃ ts,ts=(Z07 F f).map (Z24 kd out):=⟨_,rfl⟩
   have htl:ts.length=sz:=by rw [hts,U0v,Z13,hsz']
   have htz:∀ t∈ts,t.size<=22:=fun t ht=>by
    rw [hts] at ht
    obtain ⟨x,_,rfl⟩:=U0l.1 ht
    exact Zg3 hfew kd x
   have hd1:=Z0m (k:Int) (by omega) (by omega)
   have hd2:=Z0m kd (by omega) (by omega)
   have HE:Hid (Z0j F out a0 (k+1)=Z4t F out k f (Z0j F out a0 k)):=Z90 hf
   have hne:=Zo9 F out k f (Z0j F out a0 k)
   rw [<-HE.out] at hne
   have HT:Hid ((Z0j F out a0 (k+1)).data.toList=(Z0j F out a0 k).data.toList++(Z28 (Z1b (k:Int)::Z1b kd::ts) ++ [10])):=by
    show _=_
    rw [HE.out,Zh8,hts,hkd]
   have HSZ:Hid ((Z0j F out a0 (k+1)).size<=10000000000+(k+1)*200000):=by
    show _<=_
    rw [HE.out]
    have:=Za7 (F:=F) hfew (k:=k) (f:=f) (by omega) hs4 (Z0j F out a0 k)
    omega
   have hal:(Z0j F out a0 k).data.toList.length<=100000000000000:=by
    have:(Z0j F out a0 k).data.toList.length=(Z0j F out a0 k).size:=U2c
    omega
   have KI:Hid (∀ W,Below w0.heap.size w0 W->Calls prog 56 #[.int .i64 (k:Int)] W fun ev w'=>ev = .returned (.string (Z1b (k:Int)))/\Below W.heap.size W w'):=fun W hW=>Z75 (by omega) (by omega) W (HX.out.at hW).tab
   have KD:Hid (∀ W,Below w0.heap.size w0 W->Calls prog 56 #[.int .i64 kd] W fun ev w'=>ev = .returned (.string (Z1b kd))/\Below W.heap.size W w'):=fun W hW=>Z75 (by omega) (by omega) W (HX.out.at hW).tab
   have KF:Hid (∀ W,GW qg bl bm n out.length oc (some ⟨p1,o1,none⟩) D B xs w0 (Z0j F out a0 k).data.toList W->Calls prog 101 #[.agg #[.slice (some ⟨p1,o1,none⟩) out.length oc,.map (some bm)],.agg #[.int .i64 (f:Int),.int .i64 kd,.slice ao sz cap]] W (Z4c ts W)):=fun W hW=>by
    have hrow:=Z8c (F:=F) (f:=f) (b:=b) (nW:=nW) (ao:=ao) (cap:=cap) (w:=W) hfl (fun i hi=>(hW.below.cell (p:=⟨b,i,none⟩) (Z02 (HY.out.mem i hi))).trans (HY.out.mem i hi)) hcap hao
    have h:=Z9r a n D (f:Int) kd hkb.1 bm out.length oc cap (some ⟨p1,o1,none⟩) ao out (Z07 F f) (Z8z hfl HY.out.range) (by rw [Z13];omega) hfew HX.out.num (by rw [hkd];exact HY.out.held f hfm) W (HX.out.at hW.below).err (HX.out.at hW.below).tab (HX.out.at hW.below).tz hW.map hrow
    rw [<-hts,Z13,<-hsz'] at h
    exact h
   have KA:Hid (∀ (W:World) (g c:Nat),GW qg bl bm n out.length oc (some ⟨p1,o1,none⟩) D B xs w0 (Z0j F out a0 k).data.toList W->g<W.heap.size->(∀ (j:Nat) x,(Z1b (k:Int)::Z1b kd::ts)[j]?=some x->W.cell? ⟨g,0+j,none⟩=some (.string x))->2+ts.length<=c->Calls prog 99 #[.pointer (some ⟨bl,0,none⟩),.slice (some ⟨g,0,none⟩) (2+ts.length) c] W (Z34 bl bl (Z0j F out a0 (k+1)).data.toList W)):=fun W g c hW hg hcl hc=>by
    rw [HT.out]
    have h:=Zc3 bl bl g 0 c (Z1b (k:Int)::Z1b kd::ts) _ _ hW.bld (U50 hW.lt) hcl hg (by simp [htl];omega) (by simp [htl];omega) (Zkv hd1 hd2 htz (by omega)) hal
    rw [show (Z1b (k:Int)::Z1b kd::ts).length=2+ts.length by simp;omega] at h
    exact h
   have HNE:=Z00 hne
   obtain ⟨AT,hAT⟩:∃ AT,AT=(Z0j F out a0 k).data.toList:=⟨_,rfl⟩
   obtain ⟨AN,hAN⟩:∃ AN,AN=(Z0j F out a0 (k+1)).data.toList:=⟨_,rfl⟩
   rw [<-hAT] at KF KA hG
   rw [<-hAN] at KA HNE
   have HAN:=Z00 hAN
   have hs5:sz<=4096:=by omega
   generalize Z1b (k:Int)=dn at *
   generalize Z1b kd=dk at *
   have HTL:=Z00 htl
   clear f1 g1 hf hfm hxs hcap hao hs4 hfl hd1 hd2 hne hal hAT hAN HE HT hsz hsz' hkd hts htz htl
   go_upto_region 14 with fail
   obtain ⟨w2,hw2⟩:∃ w2,w2=wr.alloc (.cells #[.int .i64 (f:Int),.int .i64 kd,.slice ao sz cap] 141):=⟨_,rfl⟩
   obtain ⟨q,hq⟩:∃ q,q=wr.heap.size:=⟨_,rfl⟩
   have hF:=GQ.new hG.out #[.int .i64 (f:Int),.int .i64 kd,.slice ao sz cap] 141
   rw [<-hw2,<-hq] at hF
   rw [<-hw2,<-hq]
   have hS:=hF.five
   clear r0 r1 r2 hw2 hq hG
   by_cases hz:sz=0
   ·have hnil:ts = []:=U2l (HTL.out.trans hz)
    subst hnil
    clear hz HTL
    go_region_held3 (fun W=>W.cell? ⟨q,0,none⟩=some (.int .i64 (f:Int))/\W.cell? ⟨q,1,none⟩=some (.int .i64 kd)/\W.cell? ⟨q,2,none⟩=some (.slice ao sz cap)/\W.cell? ⟨qg,0,none⟩=some (.slice (some ⟨p1,o1,none⟩) out.length oc)/\W.cell? ⟨qg,1,none⟩=some (.map (some bm))) (first | with_reducible exact hF.five | with_reducible exact hF.drew.five | exact (hF.alloc _).five) (first
     | (go_at_call_of 56 kd;refine (KD.out _ (by first | with_reducible exact hF.gw.below | with_reducible exact hF.drew.gw.below)).mono ?_;rintro ev wb ⟨rfl,hbx⟩;replace hF:GQ qg bl bm n out.length oc (some ⟨p1,o1,none⟩) D B xs w0 AT q #[.int .i64 (f:Int),.int .i64 kd,.slice ao sz cap] 141 wb:=(by first | with_reducible exact hF.keep hbx | with_reducible exact hF.drew.keep hbx);clear hbx)
     | (go_at_call 56;refine (KI.out _ (by first | with_reducible exact hF.gw.below | with_reducible exact hF.drew.gw.below)).mono ?_;rintro ev wa ⟨rfl,hbx⟩;replace hF:GQ qg bl bm n out.length oc (some ⟨p1,o1,none⟩) D B xs w0 AT q #[.int .i64 (f:Int),.int .i64 kd,.slice ao sz cap] 141 wa:=(by first | with_reducible exact hF.keep hbx | with_reducible exact hF.drew.keep hbx);clear hbx)
     | (go_at_call 101;refine (KF.out _ (by with_reducible exact hF.gw)).mono ?_;rintro ev wc2 ⟨qf2,rfl,hq1,hq2,hbx⟩;replace hF:=hF.keep hbx;clear hbx hq1)
     | (go_at_call 101;refine (KF.out _ (hF.alloc (.cells #[.string dn,.string dk] 9)).gw).mono ?_;rintro ev wc ⟨qf,rfl,hq1,hq2,hbx⟩;have hbk:wc.heap[wb.heap.size]?=some (.cells #[.string dn,.string dk] 9):=((hbx.block _ (by simp)).trans (U0b _ _));replace hF:=(hF.alloc (.cells #[.string dn,.string dk] 9)).keep hbx;clear hbx hq1)
     | (refine step_append_room (by rfl) _ _ _ (by rfl) 9 i0 1 underlying90 hi0 hz1 wb.heap.size 0 2 2 (by rfl) ⟨qf,0,none⟩ 0 0 [] (by rfl) (by simp) (fun j u hj=>by simp at hj) (fun u hu=>by simp at hu) (by simp) (fun j hj=>by simp at hj) ?_;rw [show wc.setCells wb.heap.size (0+2*1) []=wc from rfl];have hcl:=Zac hbk;have hgl:=Z01 hbk;have hcp:2+([]:List ByteArray).length<=2:=(by simp))
     | (refine step_append_room (by rfl) _ _ _ (by rfl) 9 i0 1 underlying90 hi0 hz1 wc2.heap.size 0 2 2 (by rfl) ⟨qf2,0,none⟩ 0 0 [] (by rfl) (by simp) (fun j u hj=>by simp at hj) (fun u hu=>by simp at hu) (by simp) (fun j hj=>by simp at hj) ?_;rw [show (wc2.alloc (.cells #[.string dn,.string dk] 9)).setCells wc2.heap.size (0+2*1) []=wc2.alloc (.cells #[.string dn,.string dk] 9) from rfl];replace hF:=hF.alloc (.cells #[.string dn,.string dk] 9);have hbk2:=U0b wc2 (.cells #[.string dn,.string dk] 9);have hcl:=Zac hbk2;have hgl:=Z01 hbk2;have hcp:2+([]:List ByteArray).length<=2:=(by simp);clear hbk2)
     | (go_at_call 99;refine (KA.out _ _ _ hF.gw hgl hcl hcp).mono ?_;intro ev we hpx;have he:=hpx.1;subst he;replace hF:=hF.write hpx HNE.out (by decide)))
    all_goals (
     have HF:=Z00 hF
     clear hS hF hpx
     go_wp2_with fail
     go_roundg (out.length+1 - (k+1))
     case measure=>have:=HG.out;omega
     case rel=>exact ⟨k+1,rfl,by omega,by go_num,HSZ.out,by show GW _ _ _ _ _ _ _ _ _ _ _ _ _;rw [<-HAN.out];exact HF.out.gw⟩)
   ·have hm1:1<=ts.length:=by have:=HTL.out;omega
    have hm2:ts.length<=4096:=by have:=HTL.out;omega
    clear hz HTL
    go_region_held3 (fun W=>W.cell? ⟨q,0,none⟩=some (.int .i64 (f:Int))/\W.cell? ⟨q,1,none⟩=some (.int .i64 kd)/\W.cell? ⟨q,2,none⟩=some (.slice ao sz cap)/\W.cell? ⟨qg,0,none⟩=some (.slice (some ⟨p1,o1,none⟩) out.length oc)/\W.cell? ⟨qg,1,none⟩=some (.map (some bm))) (first | with_reducible exact hF.five | with_reducible exact hF.drew.five | exact (hF.alloc _).five) (first
     | (go_at_call_of 56 kd;refine (KD.out _ (by first | with_reducible exact hF.gw.below | with_reducible exact hF.drew.gw.below)).mono ?_;rintro ev wb ⟨rfl,hbx⟩;replace hF:GQ qg bl bm n out.length oc (some ⟨p1,o1,none⟩) D B xs w0 AT q #[.int .i64 (f:Int),.int .i64 kd,.slice ao sz cap] 141 wb:=(by first | with_reducible exact hF.keep hbx | with_reducible exact hF.drew.keep hbx);clear hbx)
     | (go_at_call 56;refine (KI.out _ (by first | with_reducible exact hF.gw.below | with_reducible exact hF.drew.gw.below)).mono ?_;rintro ev wa ⟨rfl,hbx⟩;replace hF:GQ qg bl bm n out.length oc (some ⟨p1,o1,none⟩) D B xs w0 AT q #[.int .i64 (f:Int),.int .i64 kd,.slice ao sz cap] 141 wa:=(by first | with_reducible exact hF.keep hbx | with_reducible exact hF.drew.keep hbx);clear hbx)
     | (go_at_call 101;refine (KF.out _ (by with_reducible exact hF.gw)).mono ?_;rintro ev wc2 ⟨qf2,rfl,hq1,hq2,hbx⟩;replace hF:=hF.keep hbx;clear hbx hq1)
     | (go_at_call 101;refine (KF.out _ (hF.alloc (.cells #[.string dn,.string dk] 9)).gw).mono ?_;rintro ev wc ⟨qf,rfl,hq1,hq2,hbx⟩;have hbk:wc.heap[wb.heap.size]?=some (.cells #[.string dn,.string dk] 9):=((hbx.block _ (by simp)).trans (U0b _ _));replace hF:=(hF.alloc (.cells #[.string dn,.string dk] 9)).keep hbx;clear hbx hq1)
     | (refine step_append_grows (by rfl) _ _ _ (by rfl) 9 i0 (.string ⟨#[]⟩) 1 16 underlying90 hi0 hz0 hz1 hz2 rfl (by decide) (some ⟨wb.heap.size,0,none⟩) 2 2 [.string dn,.string dk] (by rfl) (fun h=>by cases h) rfl (Zb0 hbk) ⟨qf,0,none⟩ ts.length ts.length (ts.map Value.string) (by rfl) (by simp) (Zap hq2) (Zh3 ts) (by omega) (by unfold maxLen;omega) (by omega) ?_;intro v' wd hown hgrow;obtain ⟨g',cap',rfl,hcl,hcp,hgl⟩:=Zaf hown;replace hF:=hF.keep (Z7o hgrow);clear hown hgrow hbk hq2)
     | (refine step_append_grows (by rfl) _ _ _ (by rfl) 9 i0 (.string ⟨#[]⟩) 1 16 underlying90 hi0 hz0 hz1 hz2 rfl (by decide) (some ⟨wc2.heap.size,0,none⟩) 2 2 [.string dn,.string dk] (by rfl) (fun h=>by cases h) rfl (Zb0 (U0b wc2 (.cells #[.string dn,.string dk] 9))) ⟨qf2,0,none⟩ ts.length ts.length (ts.map Value.string) (by rfl) (by simp) (Zap ((((U01 wc2.heap.size wc2).alloc (U02 _) _).block _ (Z01 hq2)).trans hq2)) (Zh3 ts) (by omega) (by unfold maxLen;omega) (by omega) ?_;intro v' wd hown hgrow;obtain ⟨g',cap',rfl,hcl,hcp,hgl⟩:=Zaf hown;replace hF:=(hF.alloc (.cells #[.string dn,.string dk] 9)).keep (Z7o hgrow);clear hown hgrow hq2)
     | (go_at_call 99;refine (KA.out _ _ _ hF.gw hgl hcl hcp).mono ?_;intro ev we hpx;have he:=hpx.1;subst he;replace hF:=hF.write hpx HNE.out (by decide)))
    all_goals (
     have HF:=Z00 hF
     clear hS hF hpx
     go_wp2_with fail
     go_roundg (out.length+1 - (k+1))
     case measure=>have:=HG.out;omega
     case rel=>exact ⟨k+1,rfl,by omega,by go_num,HSZ.out,by show GW _ _ _ _ _ _ _ _ _ _ _ _ _;rw [<-HAN.out];exact HF.out.gw⟩)
  ·have hI:¬ (k:Int)<(out.length:Int):=by omega
   have HE:Hid (Z0j F out a0 k=Z0j F out a0 out.length):=by show _=_;rw [show k=out.length by omega]
   go_wp2_with fail
   have e:=hG.out
   rw [HE.out] at e
   exact HR.out _ _ _ _ _ _ _ _ _ _ _ _ _ _ _ _ _ _ _ _ e
end
end Go.Proofs.YtlkcbdinlfeoiaaGreatDoor
