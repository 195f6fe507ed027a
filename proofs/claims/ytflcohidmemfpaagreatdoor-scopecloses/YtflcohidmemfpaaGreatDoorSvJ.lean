/- Package scope: statements. -/
import Derived.Test.YtflcohidmemfpaaGreatDoorScI
import Derived.Test.YtflcohidmemfpaaGreatDoorSvI
import Derived.Deep.RegionHeld3
set_option linter.all false
namespace Go.Proofs.YtflcohidmemfpaaGreatDoor
open Go.Proofs.Tryz
open Go.RowKit Go.Maps

set_option maxHeartbeats 16000000 in
set_option maxRecDepth 100000 in
theorem Z74 (D:Nat) (hI:∀ m,D=m+1→StS m):StS D:=by
 intro B p c l w h hBw la lc el hr hk hz hc in_ looped hin
 have H:=Z01 h
 have HR:=Z01 hr
 have HI:=Z01 hI
 have HK:=Z01 hk
 have HZ:=Z01 hz
 have hn:=hk.1
 clear h hr hI hk hz
 go_enter func16,ntmps16
 go_wp2_with fail
 go_loopg [12] (el.length+1) (fun gk v12 wr => ∃ (j:Nat) (lj:List SD),gk=el.length+1 - j∧j≤el.length∧v12 = .int .i64 (j:Int)∧l.length≤lj.length∧FS B p (c+2*Z2x (el.take j)) lj wr∧Fr B w wr)
 case atStart=>exact ⟨0,l,rfl,Nat.zero_le _,rfl,Nat.le_refl _,by simpa [Z2x,Rows.uptoBulkAll] using H.out,Fr.refl _ _⟩
 case round =>
  obtain ⟨j,lj,hgk,hj,rfl,hlj,hf,hb⟩:=hrel
  have HG:=Z01 hgk
  have hj0:(0:Int)≤(j:Int):=by omega
  have hsz:=hb.below.size
  clear hgk
  by_cases hlt:j<el.length
  ·have hI1:(j:Int)<(el.length:Int):=by omega
   obtain ⟨b1,o1,rfl,hbB,t1⟩:=HR.out (by omega)
   obtain ⟨e,he⟩:∃ e,el[j]?=some e:=⟨el[j],by simp [hlt]⟩
   obtain ⟨c0,c1,c2,c3,c4,c5,x0,x1,x2,x3,x4,x5,n,hr⟩:=t1 j e he
   have hke:=HK.out.2 e (List.mem_of_getElem? he)
   have hze:=HZ.out e (List.mem_of_getElem? he)
   have hct:=Zeh he
   have hcl:=Zkx el (j+1)
   obtain ⟨m,rfl⟩:∃ m,D=m+1:=by
    cases D with
    | zero=>exact hze.elim
    | succ m=>exact ⟨m,rfl⟩
   cases n with
   | zero=>exact hr.elim
   | succ n =>
   obtain ⟨kd,nm,pl,el1,bd,es,pa,la1,ba1,ea1,pc,lc1,bc1,ec1,rfl,hcs,g1,g2,g3,g4⟩:=hr
   simp only [List.cons.injEq,and_true] at hcs
   obtain ⟨rfl,rfl,rfl,rfl,rfl,rfl⟩:=hcs
   have x0:=(hb.below.cell (p:=⟨b1,o1+j*6,none⟩) hbB).trans x0
   have x1:=(hb.below.cell (p:=⟨b1,o1+j*6+1,none⟩) hbB).trans x1
   have x2:=(hb.below.cell (p:=⟨b1,o1+j*6+2,none⟩) hbB).trans x2
   have x3:=(hb.below.cell (p:=⟨b1,o1+j*6+3,none⟩) hbB).trans x3
   have x4:=(hb.below.cell (p:=⟨b1,o1+j*6+4,none⟩) hbB).trans x4
   have x5:=(hb.below.cell (p:=⟨b1,o1+j*6+5,none⟩) hbB).trans x5
   have hbl:=Z02 x0
   have HS:=Z01 (fun W (hF:FS B p (c+2*Z2x (el.take j)) lj W) (hW:Fr B w W)=>Zdh m (HI.out m rfl) hF (by have:=hW.below.size;omega) kd nm pl el1 bd es pa la1 ba1 ea1 pc lc1 bc1 ec1 ⟨g1.same (fun b hb2 _=>hW.below.block b hb2) (fun b h _=>h),g2.same (fun b hb2 _=>hW.below.block b hb2) (fun b h _=>h),Z31.same (Z5y.imp g3 (fun cs d h=>⟨n,h⟩)) (fun b hb2 _=>hW.below.block b hb2) (fun b h _=>h),Z31.same (Z5y.imp g4 (fun cs d h=>⟨n,h⟩)) (fun b hb2 _=>hW.below.block b hb2) (fun b h _=>h),hke,hze⟩ (by omega) in_ looped (by omega))
   have HF:=Z01 hf
   have HB:=Z01 hb
   have HT:=Z01 hct
   have HCL:=Z01 hcl
   clear t1 HR he hke hze g1 g2 g3 g4 HI HK HZ hf hb hct hcl
   go_wp2_with fail
   refine (HS.out _ (by first | exact HF.out | exact HF.out.below ((Below.refl _ _).alloc (Nat.le_refl _) _)) (by first | exact HB.out | exact HB.out.trans (Fr.of_below ((Below.refl _ _).alloc (Nat.le_refl _) _) (by omega)))).mono ?_
   rintro ev w2 ⟨rfl,hb2,l2,hl2,hf2⟩
   have HB2:Hid (Fr B w w2):=by first | exact HB.out.trans hb2 | exact (HB.out.trans (Fr.of_below ((Below.refl _ _).alloc (Nat.le_refl _) _) (by omega))).trans hb2
   have HF2:Hid (FS B p (c+2*Z2x (el.take (j+1))) l2 w2):=hf2.more (by have:=HT.out;omega)
   clear hb2 hf2 x0 x1 x2 x3 x4 x5
   go_wp2_with fail
   go_roundg (el.length+1 - (j+1))
   case measure=>have:=HG.out;omega
   case rel=>exact ⟨j+1,l2,rfl,by omega,by go_num,by omega,HF2.out,HB2.out⟩
  ·obtain rfl:j=el.length:=by omega
   rw [List.take_length] at hf
   have HF:=Z01 hf
   have HB:=Z01 hb
   clear hf hb
   go_wp2_with fail
   go_end0
   exact ⟨rfl,HB.out,lj,hlj,HF.out⟩
theorem Zr0:∀ D,StS D
 | 0=>Z74 0 (fun m h=>by omega)
 | D+1=>Z74 (D+1) (fun m h=>by
  have e:D=m:=by omega
  exact e ▸ Zr0 D)
end Go.Proofs.YtflcohidmemfpaaGreatDoor
namespace Go.Proofs.YtflcohidmemfpaaGreatDoor
open Go.Proofs.Tryz
open Go.RowKit Go.Maps

structure SPS (B:Nat) (l:List SD) (v:Value) (w:World):Prop where
 row:w.ownsRow B 47 1 v l.length (l.map Z4m)
 sp:SpL B w l
 ar:∀ (i:Nat) (x:SD),l[i]?=some x→(i=0→x.ar = -1)∧(0<i → ∃ u:Nat,u<i∧x.ar=u)
 len:l.length≤1000000000
theorem SPS.at {B i:Nat}{l:List SD}{v:Value}{w:World} (h:SPS B l v w) (hi:i<l.length):∃ (g cap:Nat) (x:SD),v = .slice (some ⟨g,0,none⟩) l.length cap∧l[i]?=some x∧SpAt B w x∧w.cell? ⟨g,i,none⟩=some (.pointer (some ⟨x.b,0,none⟩)):=by
 obtain ⟨x,hx⟩:∃ x,l[i]?=some x:=⟨l[i],by simp [hi]⟩
 rcases h.row.2 with ⟨_,h0⟩ | ⟨g,cap,cur,rfl,_,hg,_,_,_,htk⟩
 ·omega
 ·refine ⟨g,cap,x,rfl,hx,h.sp.all i x hx,?_⟩
  rw [cell_of_row w g i cur _ _ hg,←Array.getElem?_toList]
  have e:(cur.toList.take (l.length*1))[i]?=(l.map Z4m)[i]?:=by rw [htk]
  rw [List.getElem?_take,if_pos (by omega)] at e
  rw [e,List.getElem?_map,hx]
  rfl
def arN (l:List SD) (i:Nat):Nat:=match l[i]? with
 | some x=>x.ar.toNat
 | none=>0
def Zfb (A:Nat→Nat) (g:Nat→Bool):Nat→Nat→Nat→Prop
 | 0,a,m=>a=m
 | k+1,a,m=>0<a∧g a=false∧Zfb A g k (A a) m
set_option maxHeartbeats 4000000 in
set_option maxRecDepth 100000 in
theorem Zbe {B:Nat}{l:List SD}{v:Value}{w:World} (h:SPS B l v w) (K:FuncId) (cap:Array Value) (hcall:∀ (args:Array Value) (w:World),(callFunc K args).run prog w = .ok (.enter K args) w) (g:Nat→Bool) (hg:∀ (i:Nat) (x:SD),l[i]?=some x→Calls prog K (#[.pointer (some ⟨x.b,0,none⟩)]++cap) w fun ev w'=>ev = .returned (.bool (g i))∧w'=w) (a:Nat) (ha:a<l.length) :
  Calls prog 32 #[v,.int .i64 (a:Int),.func (.func K) #[] cap] w fun ev w'=>w'=w ∧ ∃ m:Nat,ev = .returned (.int .i64 (m:Int))∧m<l.length∧(m=0∨g m=true) ∧ ∃ k,Zfb (arN l) g k a m:=by
 obtain ⟨g0,cp,_,rfl,_,_,_⟩:=h.at ha
 have H:=Z01 h
 have HG:=Z01 hg
 have hlen:=h.len
 clear h hg
 go_enter func32,ntmps32
 go_wp2_with fail
 go_loopg [1] (a+1) (fun gk v1 wr => ∃ f:Nat,gk=f+1∧f<l.length∧v1 = .int .i64 (f:Int)∧wr=w ∧ ∀ m k,Zfb (arN l) g k f m → ∃ k,Zfb (arN l) g k a m)
 case atStart=>exact ⟨a,rfl,ha,rfl,rfl,fun m k h=>⟨k,h⟩⟩
 case round =>
  obtain ⟨f,hgk,hf,rfl,rfl,hch⟩:=hrel
  have HGK:=Z01 hgk
  have HCH:=Z01 hch
  clear hgk hch
  by_cases h0:0<f
  ·have hI0:(0:Int)<(f:Int):=by omega
   have hI1:(f:Int)<(l.length:Int):=by omega
   have hI2:(0:Int)≤(f:Int):=by omega
   obtain ⟨g1,cp1,x,e1,hx,hxa,q1⟩:=H.out.at hf
   simp only [Value.slice.injEq,Option.some.injEq,Addr.mk.injEq,true_and,and_true] at e1
   obtain ⟨rfl,rfl⟩:=e1
   obtain ⟨_,c1,_⟩:=Z2t hxa
   obtain ⟨u,hu,hxu⟩:=(H.out.ar f x hx).2 h0
   have hgl:=Z02 q1
   have hxl:=Z02 c1
   have HC:=Z01 (HG.out f x hx)
   have hA:arN l f=u:=by
    unfold arN
    rw [hx]
    simp only
    omega
   rw [hxu] at c1
   have HA:=Z01 hA
   clear hxa hA hxu
   go_wp2_with fail
   refine HC.out.mono ?_
   rintro ev w1 ⟨rfl,rfl⟩
   cases hgf:g f with
   | true =>
    go_wp2_with fail
    go_ret
    exact ⟨rfl,f,rfl,hf,.inr hgf,HCH.out f 0 rfl⟩
   | false =>
    go_wp2_with fail
    go_roundg (u+1)
    case measure=>have:=HGK.out;omega
    case rel=>exact ⟨u,rfl,by omega,rfl,rfl,fun m k hm=>HCH.out m (k+1) ⟨h0,hgf,by rw [HA.out];exact hm⟩⟩
  ·have hI0:¬ (0:Int)<(f:Int):=by omega
   have hf0:f=0:=by omega
   have HZ:=Z01 (HCH.out f 0 rfl)
   have HF0:=Z01 hf0
   clear hf0
   go_wp2_with fail
   go_ret
   exact ⟨rfl,f,rfl,hf,.inl HF0.out,HZ.out⟩
end Go.Proofs.YtflcohidmemfpaaGreatDoor
namespace Go.Proofs.YtflcohidmemfpaaGreatDoor
open Go.Proofs.Tryz
open Go.RowKit Go.Maps

def SD.bits (x:SD) (s:ByteArray):Nat:=match x.D.atKey (.string s.data.toList) (.lit (.int .i64 0)) with
 | .lit (.int .i64 c)=>c.toNat
 | _=>0
theorem Zkf {x:SD}{s:ByteArray}{n:Nat} (h:x.mk' s n):x.bits s=n:=by
 unfold SD.bits
 unfold SD.mk' at h
 rw [h]
 simp
theorem SpOK.bit {x:SD} (h:SpOK x) (s:ByteArray):x.mk' s (x.bits s)∧x.bits s<64∧(bdB (x.bits s)=true→s∈x.od):=by
 obtain ⟨n,h1,h2,h3⟩:=h.all s
 rw [Zkf h2]
 exact ⟨h2,h1,h3⟩
def Z30 (l:List SD) (s:ByteArray) (i:Nat):Nat:=match l[i]? with
 | some x=>x.bits s
 | none=>0
theorem Zc4 {l:List SD}{s:ByteArray}{i:Nat}{x:SD} (h:l[i]?=some x):Z30 l s i=x.bits s:=by
 unfold Z30
 rw [h]
theorem Ztz (args:Array Value) (w:World):(callFunc 31 args).run prog w = .ok (.enter 31 args) w:=by kernel_rfl
theorem Zvy (args:Array Value) (w:World):(callFunc 35 args).run prog w = .ok (.enter 35 args) w:=by kernel_rfl
set_option maxHeartbeats 4000000 in
set_option maxRecDepth 100000 in
theorem Zyk {B:Nat}{w:World}{x:SD} (h:SpAt B w x) (s:ByteArray) (hs:s.size≤maxLen) (cb:Nat) (hc:w.cell? ⟨cb,2,none⟩=some (.string s)):Calls prog 31 #[.pointer (some ⟨x.b,0,none⟩),.pointer (some ⟨cb,0,none⟩)] w fun ev w'=>ev = .returned (.bool (beB (x.bits s)))∧w'=w:=by
 obtain ⟨h1,h2,_⟩:=h.ok.bit s
 have HB:=Z01 (Z85 h s hs h1 h2)
 have hl:=Z02 hc
 clear h h1
 go_enter func31,ntmps31
 go_wp2_with fail
 refine HB.out.mono ?_
 rintro ev w1 ⟨rfl,rfl⟩
 go_wp2_with fail
 go_ret
 exact ⟨rfl,rfl⟩
set_option maxHeartbeats 4000000 in
set_option maxRecDepth 100000 in
theorem Zy7 {B:Nat}{w:World}{x:SD} (h:SpAt B w x) (s:ByteArray) (hs:s.size≤maxLen) (nb:Nat) (hc:w.cell? ⟨nb,0,none⟩=some (.string s)):Calls prog 35 #[.pointer (some ⟨x.b,0,none⟩),.pointer (some ⟨nb,0,none⟩)] w fun ev w'=>ev = .returned (.bool (beB (x.bits s) || glB (x.bits s)))∧w'=w:=by
 obtain ⟨h1,h2,_⟩:=h.ok.bit s
 have HB:=Z01 (Z85 h s hs h1 h2)
 have HG:=Z01 (Zzk h s hs h1 h2)
 have hl:=Z02 hc
 clear h h1
 go_enter func35,ntmps35
 go_wp2_with fail
 refine HB.out.mono ?_
 rintro ev w1 ⟨rfl,rfl⟩
 cases hb:beB (x.bits s) with
 | true =>
  go_wp2_with fail
  go_ret
  exact ⟨by rw [hb];rfl,rfl⟩
 | false =>
  go_wp2_with fail
  refine HG.out.mono ?_
  rintro ev w1 ⟨rfl,rfl⟩
  go_wp2_with fail
  go_ret
  exact ⟨by rw [hb];rfl,rfl⟩
def Zuo (l:List SD) (s:ByteArray) (i:Nat):Bool:=beB (Z30 l s i) || glB (Z30 l s i)
theorem SPS.below {B:Nat}{l:List SD}{v:Value}{w w':World} (h:SPS B l v w) (hb:Below w.heap.size w w'):SPS B l v w':=by
 have he:Ex (fun _=>False) w w':=⟨hb.os,hb.tape,hb.output,hb.size,fun q hq _=>hb.block q hq⟩
 refine ⟨Z1a h.row (fun g hg => ?_),h.sp.ex he (fun _ _ _ _ _ h=>h),h.ar,h.len⟩
 obtain ⟨_,cur,e⟩:=Z0d h.row hg
 exact hb.block g (Z00 e)
set_option maxHeartbeats 8000000 in
set_option maxRecDepth 100000 in
theorem Zq2 {B:Nat}{l:List SD}{v:Value}{w:World} (h:SPS B l v w) (in_:Nat) (hin:in_<l.length) (s:ByteArray) (hs:s.size≤maxLen) :
  Calls prog 20 #[v,.int .i64 (in_:Int),.string s] w fun ev w'=>Below w.heap.size w w' ∧ ∃ m:Nat,ev = .returned (.int .i64 (m:Int))∧(m=0∨(0<m∧m<l.length∧beB (Z30 l s m)=true ∧ ∃ k,Zfb (arN l) (Zuo l s) k in_ m)):=by
 obtain ⟨wE,hE⟩:∃ wE,wE=w.alloc (.cells #[.string s] 9):=⟨_,rfl⟩
 have hbE:Below w.heap.size w wE:=by rw [hE];exact (Below.refl _ _).alloc (Nat.le_refl _) _
 have hbx:wE.heap[w.heap.size]?=some (.cells #[.string s] 9):=by rw [hE];exact heap_alloc_new _ _
 have y0:wE.cell? ⟨w.heap.size,0,none⟩=some (.string s):=Z0c hbx rfl
 have hE':=h.below hbE
 have HN:=Z01 (Zbe hE' 35 #[.pointer (some ⟨w.heap.size,0,none⟩)] Zvy (Zuo l s) (fun i x hi=>by
  have:=Zy7 (hE'.sp.all i x hi) s hs w.heap.size y0
  unfold Zuo
  rw [Zc4 hi]
  exact this) in_ hin)
 have H:=Z01 hE'
 have HE:=Z01 hE
 have HB:=Z01 hbE
 obtain ⟨g0,cp,_,rfl,_,_,_⟩:=h.at hin
 have hlen:=h.len
 clear h hE' hE hbE hbx
 go_enter func20,ntmps20
 go_wp2_with fail
 rw [←HE.out]
 refine HN.out.mono ?_
 rintro ev w1 ⟨rfl,m,rfl,hm,hor,hch⟩
 obtain ⟨g1,cp1,x,e1,hx,hxa,q1⟩:=H.out.at hm
 simp only [Value.slice.injEq,Option.some.injEq,Addr.mk.injEq,true_and,and_true] at e1
 obtain ⟨rfl,rfl⟩:=e1
 obtain ⟨h1,h2,_⟩:=hxa.ok.bit s
 have hbz:=Zc4 (s:=s) hx
 have HI:=Z01 (fun W' (hW:Ex (fun _=>False) w1 W')=>Zzk (hxa.ex hW (fun _ _ h=>h)) s hs h1 h2)
 have hgl:=Z02 q1
 have hyl:=Z02 y0
 have hm0:(0:Int)≤(m:Int):=by omega
 have hm1:(m:Int)<(l.length:Int):=by omega
 have HCH:=Z01 hch
 have HOR:=Z01 hor
 have HBZ:=Z01 hbz
 have HKP:Hid (∀ W':World,W'.heap=w1.heap→W'.cell? ⟨g0,m,none⟩=some (.pointer (some ⟨x.b,0,none⟩))∧W'.cell? ⟨w.heap.size,0,none⟩=some (.string s)):=fun W' hW=>⟨(World.cell?_of_block (a:=⟨g0,m,none⟩) (by rw [hW])).trans q1,(World.cell?_of_block (a:=⟨w.heap.size,0,none⟩) (by rw [hW])).trans y0⟩
 clear hxa hch hor hbz h1 hx
 go_upto_region 2 with fail
 go_region_held3 (fun W=>W.cell? ⟨g0,m,none⟩=some (.pointer (some ⟨x.b,0,none⟩))∧W.cell? ⟨w.heap.size,0,none⟩=some (.string s)) (first | go_keep | exact hk1) ((go_at_call 22;refine (HI.out _ (by first | exact Ex.refl _ _ | exact (Ex.refl _ _).drew | exact (Ex.refl _ _).drewN)).mono ?_;rintro ev w2 ⟨rfl,hw2⟩;have hk1:=HKP.out w2 (by rw [hw2];rfl)))
 have HB2:Hid (Below w.heap.size w w1.drew):=HB.out.drew
 clear hw2 hk1 q1 y0
 cases hg:glB (x.bits s) with
 | true =>
  go_wp2_with fail
  go_ret
  exact ⟨HB2.out,0,rfl,.inl rfl⟩
 | false =>
  have HR:Hid (m=0∨(0<m∧m<l.length∧beB (Z30 l s m)=true ∧ ∃ k,Zfb (arN l) (Zuo l s) k in_ m)):=by
   rcases HOR.out with h0 | h0
   ·exact .inl h0
   ·by_cases hz:m=0
    ·exact .inl hz
    ·refine .inr ⟨by omega,hm,?_,HCH.out⟩
     unfold Zuo at h0
     rw [HBZ.out] at h0 ⊢
     rw [hg,Bool.or_false] at h0
     exact h0
  go_wp2_with fail
  go_ret
  exact ⟨HB2.out,m,rfl,HR.out⟩
theorem Y0g:∀ (cl:List (Int × Int × ByteArray)) (j i:Nat) (y:Int × Int × ByteArray),cl[j]?=some y→i<3→(cl.flatMap Z33)[j*3+i]?=(Z33 y)[i]?
 | [],_,_,_,h,_=>by simp at h
 | z::cl,0,i,y,h,hi=>by
  simp at h
  subst h
  rw [List.flatMap_cons,List.getElem?_append_left (by simp;omega)]
  simp
 | z::cl,j+1,i,y,h,hi=>by
  rw [List.flatMap_cons,List.getElem?_append_right (by simp;omega)]
  have:=Y0g cl j i y (by simpa using h) hi
  rw [←this]
  congr 1
  simp
  omega
theorem Zsx {w:World}{B n:Nat}{v:Value}{cl:List (Int × Int × ByteArray)} (h:w.ownsRow B 88 3 v n (cl.flatMap Z33)) (hn:n=cl.length) {j:Nat}{y:Int × Int × ByteArray} (hy:cl[j]?=some y):∃ g cap,v = .slice (some ⟨g,0,none⟩) n cap∧w.cell? ⟨g,j*3,none⟩=some (.int .i64 y.1)∧w.cell? ⟨g,j*3+1,none⟩=some (.int .i64 y.2.1)∧w.cell? ⟨g,j*3+2,none⟩=some (.string y.2.2) ∧ ∃ cur,w.heap[g]?=some (.cells cur 88 (0,0)):=by
 have hjl:=(List.getElem?_eq_some_iff.1 hy).1
 rcases h.2 with ⟨_,h0⟩ | ⟨g,cap,cur,rfl,_,hg,_,_,_,htk⟩
 ·omega
 ·have key:∀ i,i<3→w.cell? ⟨g,j*3+i,none⟩=(Z33 y)[i]?:=fun i hi=>by
   rw [cell_of_row w g (j*3+i) cur _ _ hg,←Array.getElem?_toList,←Y0g cl j i y hy hi]
   have e:(cur.toList.take (n*3))[j*3+i]?=(cl.flatMap Z33)[j*3+i]?:=by rw [htk]
   rw [List.getElem?_take,if_pos (by omega)] at e
   exact e
  exact ⟨g,cap,rfl,key 0 (by omega),key 1 (by omega),key 2 (by omega),cur,hg⟩
theorem FS.sps {B p c:Nat}{l:List SD}{w:World} (h:FS B p c l w) (hc:c≤1000000000):∃ vs,w.cell? ⟨p,0,none⟩=some vs∧SPS B l vs w:=by
 obtain ⟨vs,bg,wr0,vc,cl,b1,b2,_⟩:=h.blk
 exact ⟨vs,(Z2e b1).1,b2,h.sp,h.ar,by have:=h.len;omega⟩
set_option maxHeartbeats 8000000 in
set_option maxRecDepth 100000 in
theorem Zft {B p c:Nat}{l:List SD}{w:World} (h:FS B p c l w) (hBw:B≤w.heap.size) (hc:c≤1000000000):Calls prog 18 #[.pointer (some ⟨p,0,none⟩)] w fun ev w'=>ev = .returned (.tuple #[])∧Below B w w'∧FS B p c l w':=by
 obtain ⟨vs,bg,wr0,vc,cl,b1,b2,b3,b4,b5,b6,b7⟩:=h.blk
 obtain ⟨c0,c1,c2,c3,cf⟩:=Z2e b1
 have hpl:=h.lt
 obtain ⟨va,vcap,rfl⟩:=Z1o b3
 have H:=Z01 h
 have HB3:=Z01 b3
 have HB7:=Z01 b7
 clear h b1 b2 b3 b7 cf
 go_enter func18,ntmps18
 go_wp2_with fail
 go_loopg [10] (cl.length+1) (fun gk v10 wr => ∃ j:Nat,gk=cl.length+1 - j∧j≤cl.length∧v10 = .int .i64 (j:Int)∧FS B p c l wr∧Below B w wr ∧ ∀ (g:Nat),(Value.slice va cl.length vcap).ownBlock=some g→wr.heap[g]?=w.heap[g]?)
 case atStart=>exact ⟨0,rfl,Nat.zero_le _,rfl,H.out,Below.refl _ _,fun _ _=>rfl⟩
 case round =>
  obtain ⟨j,hgk,hj,rfl,hf,hb,hrow⟩:=hrel
  have HG:=Z01 hgk
  have hj0:(0:Int)≤(j:Int):=by omega
  clear hgk
  by_cases hlt:j<cl.length
  ·have hI1:(j:Int)<(cl.length:Int):=by omega
   obtain ⟨y,hy⟩:∃ y,cl[j]?=some y:=⟨cl[j],by simp [hlt]⟩
   obtain ⟨g,cap,e1,k0,k1,k2,cur,hgc⟩:=Zsx HB3.out rfl hy
   simp only [Value.slice.injEq,true_and] at e1
   obtain ⟨rfl,rfl⟩:=e1
   obtain ⟨⟨ya0,ya1⟩,⟨yi0,yi1⟩,hs⟩:=HB7.out y (List.mem_of_getElem? hy)
   have hgw:=hrow g rfl
   have k0:=(World.cell?_of_block (a:=⟨g,j*3,none⟩) hgw).trans k0
   have k1:=(World.cell?_of_block (a:=⟨g,j*3+1,none⟩) hgw).trans k1
   have k2:=(World.cell?_of_block (a:=⟨g,j*3+2,none⟩) hgw).trans k2
   obtain ⟨y1,y2,s⟩:=y
   simp only at k0 k1 k2 ya0 ya1 yi0 yi1 hs
   obtain ⟨at_,rfl⟩:∃ at_:Nat,y1=(at_:Int):=⟨y1.toNat,by omega⟩
   obtain ⟨in_,rfl⟩:∃ in_:Nat,y2=(in_:Int):=⟨y2.toNat,by omega⟩
   have hin:in_<l.length:=by omega
   have hgl:g<wr.heap.size:=Z00 (hgw.trans hgc)
   obtain ⟨wE,hE⟩:∃ wE,wE=wr.alloc (.cells #[.int .i64 (at_:Int),.int .i64 (in_:Int),.string s] 88):=⟨_,rfl⟩
   have hbE:Below wr.heap.size wr wE:=by rw [hE];exact (Below.refl _ _).alloc (Nat.le_refl _) _
   have hbx:wE.heap[wr.heap.size]?=some (.cells #[.int .i64 (at_:Int),.int .i64 (in_:Int),.string s] 88):=by rw [hE];exact heap_alloc_new _ _
   have z0:wE.cell? ⟨wr.heap.size,0,none⟩=some (.int .i64 (at_:Int)):=Z0c hbx rfl
   have z1:wE.cell? ⟨wr.heap.size,1,none⟩=some (.int .i64 (in_:Int)):=by rw [cell_of_row _ _ 1 _ _ _ hbx];rfl
   have z2:wE.cell? ⟨wr.heap.size,2,none⟩=some (.string s):=by rw [cell_of_row _ _ 2 _ _ _ hbx];rfl
   have hfE:=hf.below hbE
   have hbs:=hb.size
   have hbEs:=hbE.size
   have hBE:Below B w wE:=hb.trans (hbE.mono (by omega))
   obtain ⟨vs',q0,hsps⟩:=hfE.sps hc
   have HN:=Z01 (fun W' (hW:Ex (fun _=>False) wE W')=>Zbe (hsps.below ⟨hW.os,hW.tape,hW.output,hW.size,fun q hq=>hW.block q hq (fun h=>h)⟩) 31 #[.pointer (some ⟨wr.heap.size,0,none⟩)] Ztz (fun i=>beB (Z30 l s i)) (fun i x hi=>by
    have:=Zyk ((hsps.sp.all i x hi).ex hW (fun _ _ h=>h)) s (ml hs) wr.heap.size ((World.cell?_of_block (a:=⟨wr.heap.size,2,none⟩) (hW.block _ (Z02 z2) (fun h=>h))).trans z2)
    simp only [Zc4 hi]
    exact this) in_ hin)
   have HF:=Z01 hfE
   have HBE:=Z01 hBE
   have HE:=Z01 hE
   have hpE:=hfE.lt
   have hzl:=Z02 z0
   have HGW:Hid (wE.heap[g]?=w.heap[g]?):=(hbE.block g hgl).trans hgw
   obtain ⟨va2,vcap2,rfl⟩:=Z1o hsps.row
   clear hf hfE hb hBE hbE hbx hE hrow hgw hsps hy
   go_upto_region 4 with fail
   rw [←HE.out]
   go_region_held3 (fun W=>W.cell? ⟨p,0,none⟩=some (.slice va2 l.length vcap2)∧W.cell? ⟨wr.heap.size,1,none⟩=some (.int .i64 (in_:Int))∧W.cell? ⟨wr.heap.size,2,none⟩=some (.string s)) (first | go_keep | exact hk1) ((go_at_call 32;refine (HN.out _ (by first | exact Ex.refl _ _ | exact (Ex.refl _ _).drew | exact (Ex.refl _ _).drewN)).mono ?_;rintro ev w2 ⟨hw2,m,rfl,hm,_,_⟩;have hk1:w2.cell? ⟨p,0,none⟩=some (.slice va2 l.length vcap2)∧w2.cell? ⟨wr.heap.size,1,none⟩=some (.int .i64 (in_:Int))∧w2.cell? ⟨wr.heap.size,2,none⟩=some (.string s):=(by rw [hw2];exact ⟨q0,z1,z2⟩)))
   subst hw2
   have he2:Ex (fun _=>False) wE wE.drew:=(Ex.refl _ _).drew
   have hf2:=HF.out.ex he2 (fun _ _ _ h=>h)
   have hb2:Below B w wE.drew:=HBE.out.trans ⟨he2.os,he2.tape,he2.output,he2.size,fun q hq=>he2.block q (by omega) (fun h=>h)⟩
   have hg2:wE.drew.heap[g]?=w.heap[g]?:=(he2.block g (by omega) (fun h=>h)).trans HGW.out
   have z0:wE.drew.cell? ⟨wr.heap.size,0,none⟩=some (.int .i64 (at_:Int)):=z0
   have hz2:=Z02 z0
   have hgp:g≠p:=fun e=>by
    obtain ⟨vs,bg,wr1,vc,cl1,b1,_⟩:=hf2.blk
    rw [←e,hg2,hgc] at b1
    simp at b1
   have HF2:=Z01 hf2
   have HB2:=Z01 hb2
   have HG2:=Z01 hg2
   have hgl2:g<wE.drew.heap.size:=by have:=he2.size;omega
   clear hf2 hb2 hg2 he2 hk1
   by_cases hm0:m=0
   ·have hm1:((m:Int) == 0)=true:=by rw [beq_iff_eq];omega
    clear hm0
    go_wp2_with fail
    refine (Z5q HF2.out at_ (by omega)).mono ?_
    rintro ev w3 ⟨rfl,hf3,he3⟩
    have HF3:=Z01 hf3
    have HB3':Hid (Below B w w3):=HB2.out.trans (HF2.out.exb he3).below
    have HG3:Hid (w3.heap[g]?=w.heap[g]?):=(he3.block g hgl2 hgp).trans HG2.out
    clear hf3 he3
    go_wp2_with fail
    go_roundg (cl.length+1 - (j+1))
    case measure=>have:=HG.out;omega
    case rel=>exact ⟨j+1,rfl,by omega,by go_num,HF3.out,HB3'.out,fun g' e=>by
     simp [Value.ownBlock] at e
     subst e
     exact HG3.out⟩
   ·have hm1:((m:Int) == 0)=false:=by rw [beq_eq_false_iff_ne];omega
    go_wp2_with fail
    go_roundg (cl.length+1 - (j+1))
    case measure=>have:=HG.out;omega
    case rel=>exact ⟨j+1,rfl,by omega,by go_num,HF2.out,HB2.out,fun g' e=>by
     simp [Value.ownBlock] at e
     subst e
     exact HG2.out⟩
  ·go_wp2_with fail
   go_end0
   exact ⟨rfl,hb,hf⟩
end Go.Proofs.YtflcohidmemfpaaGreatDoor
