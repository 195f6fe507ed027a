/- Package tree: line (written by tools/tree/line.py). -/
import Derived.Test.YtflcohidmemfpaaGreatDoorSsM
set_option linter.all false
namespace Go.Proofs.YtflcohidmemfpaaGreatDoor
open Go.Proofs.Tryz
open Go.RowKit

def Zbm:ByteArray:=⟨#[98,114,101,97,107]⟩
def Z53:ByteArray:=⟨#[99,111,110,116,105,110,117,101]⟩
def Zio:ByteArray:=⟨#[112,97,115,115]⟩
def Z83:ByteArray:=⟨#[103,108,111,98,97,108]⟩
def Z4t:ByteArray:=⟨#[110,111,110,108,111,99,97,108]⟩
def Z8a:ByteArray:=⟨#[114,101,116,117,114,110]⟩
def Zbg:ByteArray:=⟨#[114,97,105,115,101]⟩
def Zz1:ByteArray:=⟨#[100,101,108]⟩
def Z4e (l:List (ByteArray × ByteArray × Nat)) (term:Nat→Out (DataW Unit)) (one:Nat→Out (List (DataW Unit))) (tset:Nat→Out (DataW Unit)) (k:Nat):Out (DataW Unit):=
 bif Z09 l k [Zbm,Z53,Zio] then .ok (mkS (Z56 l k) ⟨#[]⟩ [] [] [] [],k+1)
 else bif Z09 l k [Z83,Z4t] then (match Z1w l (Z2k l) l.length [] (k+1) with
  | .error y=>.error y
  | .ok (names,k1)=>.ok (mkS (Z56 l k) ⟨#[]⟩ names [] [] [],k1))
 else bif Z09 l k [Z8a] then (bif Z0m l (k+1) [110,101,119,108,105,110,101] then .ok (mkS (Z56 l k) ⟨#[]⟩ [] [] [] [],k+1) else (match one (k+1) with
  | .error y=>.error y
  | .ok (el,k1)=>.ok (mkS (Z56 l k) ⟨#[]⟩ [] el [] [],k1)))
 else bif Z09 l k [Zbg] then (match one (k+1) with
  | .error y=>.error y
  | .ok (el,k1)=>.ok (mkS (Z56 l k) ⟨#[]⟩ [] el [] [],k1))
 else bif Z09 l k [Zz1] then (match term (k+1) with
  | .error y=>.error y
  | .ok (e,k1)=>bif Zii e == [105,110,100,101,120] then .ok (mkS (Z56 l k) ⟨#[]⟩ [] (partsOf e) [] [],k1) else .error (k1,false))
 else tset k
theorem Zzh (w:World) (a b:ByteArray):TS (w.alloc (.cells #[.string a,.string b] 9)) w.heap.size 0 [a,b]:=fun j x hj=>by
 rw [cell_of_row _ _ _ _ _ _ (heap_alloc_new w _)]
 match j with
 | 0=>simp at hj;subst hj;rfl
 | 1=>simp at hj;subst hj;rfl
 | j+2=>simp at hj
theorem Zww {w:World}{p g cap:Nat}{rk:Value}{l:List (ByteArray × ByteArray × Nat)}{k bl dp:Nat} (R:RD w p g cap rk l k bl dp) {x:ByteArray × ByteArray × Nat} (hx:l[k]?=some x) (a b:ByteArray) :
  Calls prog 110 #[.pointer (some ⟨p,0,none⟩),.slice (some ⟨w.heap.size,0,none⟩) 2 2] (w.alloc (.cells #[.string a,.string b] 9)) fun ev w'=>ev = .returned (.bool (Z0i x [a,b]))∧Below w.heap.size w w':=by
 have hb0:Below w.heap.size w (w.alloc (.cells #[.string a,.string b] 9)):=(Below.refl _ _).alloc (Nat.le_refl _) _
 exact (Z10 (R.more hb0) hx [a,b] w.heap.size 0 2 (by simp) (Zzh w a b)).mono fun ev w' h=>⟨h.1,hb0.trans (h.2.mono hb0.size)⟩
theorem Zp7 {w:World}{p g cap:Nat}{rk:Value}{l:List (ByteArray × ByteArray × Nat)}{k bl dp:Nat} (R:RD w p g cap rk l k bl dp) {x:ByteArray × ByteArray × Nat} (hx:l[k]?=some x) (a b c:ByteArray) :
  Calls prog 110 #[.pointer (some ⟨p,0,none⟩),.slice (some ⟨w.heap.size,0,none⟩) 3 3] (w.alloc (.cells #[.string a,.string b,.string c] 9)) fun ev w'=>ev = .returned (.bool (Z0i x [a,b,c]))∧Below w.heap.size w w':=by
 have hb0:Below w.heap.size w (w.alloc (.cells #[.string a,.string b,.string c] 9)):=(Below.refl _ _).alloc (Nat.le_refl _) _
 exact (Z10 (R.more hb0) hx [a,b,c] w.heap.size 0 3 (by simp) (Zlb w a b c)).mono fun ev w' h=>⟨h.1,hb0.trans (h.2.mono hb0.size)⟩
set_option maxHeartbeats 8000000 in
set_option maxRecDepth 100000 in
theorem Zha {p g cap:Nat}{rk:Value}{l:List (ByteArray × ByteArray × Nat)}{k bl dp:Nat}{a0 a1:Addr} (T:TokS l) (hk:k<l.length) (term:Nat→Out (DataW Unit)) (one:Nat→Out (List (DataW Unit))) (tset:Nat→Out (DataW Unit))
  (h0:∀ k',k<k'→k'<l.length→Z0w 112 #[.pointer (some ⟨p,0,none⟩)] p g cap rk l k' bl dp a0 a1 (term k'))
  (h1:∀ k',k<k'→k'<l.length→Z4r 78 #[.pointer (some ⟨p,0,none⟩)] p g cap rk l k' bl dp a0 a1 (one k'))
  (h2:Z4g 121 #[.pointer (some ⟨p,0,none⟩)] p g cap rk l k bl dp a0 a1 (tset k)):Z4g 83 #[.pointer (some ⟨p,0,none⟩)] p g cap rk l k bl dp a0 a1 (Z4e l term one tset k):=by
 intro w R E X
 have hl:=T.ok.hl
 have A0:=Zi4 R
 have HE:=Z01 E
 have HX:=Z01 X
 obtain ⟨o,ho⟩:∃ o,Z4e l term one tset k=o:=⟨_,rfl⟩
 rw [ho]
 have HO:=Z01 ho
 have HPE:Hid (∀ y ev w',o = .error y→Z04 l p a0 a1 w y ev w'→Zby (fun b=>w.heap.size≤b) p g cap rk l k bl dp a0 a1 w o ev w'):=by
  rintro y ev w' rfl h
  exact h
 have hpl:=A0.pl
 have hgl:=A0.gl
 have hX0:=Ze6 w p
 have hs0:=Zcg w p
 obtain ⟨x,hx⟩:∃ x,l[k]?=some x:=⟨l[k],by simp [hk]⟩
 have HN:=Z01 (Z1k A0.rd hx)
 have HA0:=Z01 A0
 have HX0:=Z01 hX0
 have HH0:=Z01 h0
 have HH1:=Z01 h1
 have HH2:=Z01 h2
 have HMX:=Z01 (fun ts=>Z0r hx ts)
 have HTX:=Z01 (Z8l hx)
 have HHX:=Z01 hx
 have HKK:Hid (∀ ts,Z0i x ts=true→k+1<l.length):=fun ts h=>T.ok.hen.next hx h
 have F1:=Z4v (.string x.1) (.string x.2.1) (.int .i64 (x.2.2:Int))
 clear R E X A0 ho h0 h1 h2 hX0 hx
 go_enter func83,ntmps83
 go_wp2_with fail
 refine HN.out.mono ?_
 rintro ev w1 ⟨rfl,hb1⟩
 have A1:=HA0.out.more hb1
 have hsz:=hb1.size
 rw [hs0] at hsz
 have hX1:=(hb1.block w.heap.size (by omega)).trans HX0.out
 have c1:=Z38 hX1
 have l1:=Z02 c1
 have HA1:=Z01 A1
 have HX1:=Z01 hX1
 have HC1:=Z01 (Zp7 A1.rd HHX.out Zbm Z53 Zio)
 clear hb1 A1 hX1 HN
 go_wp2_with fail
 refine HC1.out.mono ?_
 rintro ev w2 ⟨rfl,hb2⟩
 have A2:=HA1.out.more hb2
 have hs2:=hb2.size
 have hX2:=(hb2.block w.heap.size (by omega)).trans HX1.out
 have c2:=Z38 hX2
 have l2:=Z02 c2
 have HA2:=Z01 A2
 have HX2:=Z01 hX2
 cases hm0:Z0i x [Zbm,Z53,Zio] with
 | true =>
 have hk1:=HKK.out _ hm0
 have HC2:=Z01 (Z23 A2.rd HHX.out hl)
 clear hb2 A2 hX2 HC1 c1
 go_wp2_with fail
 refine HC2.out.mono ?_
 rintro ev w3 ⟨rfl,R3,K3⟩
 have A3:=HA2.out.go R3 K3
 have ho6:o = .ok (mkS x.2.1 ⟨#[]⟩ [] [] [] [],k+1):=by
  rw [←HO.out,Z4e,HMX.out,hm0,cond_true,HTX.out] <;> rfl
 have hZ:=Z1l (c0:=.string x.2.1) (c1:=.string ⟨#[]⟩) (c2:=.slice none 0 0) (c3:=.slice none 0 0) (c4:=.slice none 0 0) (c5:=.slice none 0 0) A3 (Z2z (S:=fun b=>(w.heap.size+1)<b) (kd:=x.2.1) (nm:=⟨#[]⟩) (pl:=[]) (el:=[]) (bd:=[]) (es:=[]) (pc:=0) (lc:=0) (bc:=0) (ec:=0) (Z54.nil _ _ none) (Z89.nil _ _ none) (Z1h.nil _ _ none) (Z1h.nil _ _ none)) (fun b hb=>hb)
 have HZ:=Z01 hZ
 obtain ⟨u0,u1,u2,u3,u4,u5,uf⟩:=Z08 A3.b4
 have uf0:=uf 0
 have uf1:=uf 1
 have uf2:=uf 2
 have uf3:=uf 3
 have uf4:=uf 4
 have uf5:=uf 5
 have ul:=Z00 A3.b4
 have HO6:=Z01 ho6
 clear HC2 A3 R3 K3 c2 uf ho6 hZ
 go_wp2_with fail
 obtain ⟨z1,z2,z3,z4⟩:=HZ.out
 refine bodyPost_ret (Z0e _ 2 rfl _ _ (w.heap.size+1) _ _ _ _ _ _ rfl z1) rfl ?_
 rw [HO6.out]
 exact ⟨_,_,_,_,_,_,rfl,z2,z3,z4,by omega,hk1⟩
 | false =>
 have HC2:=Z01 (Zww A2.rd HHX.out Z83 Z4t)
 clear hb2 A2 hX2 HC1 c1
 go_wp2_with fail
 refine HC2.out.mono ?_
 rintro ev w3 ⟨rfl,hb3⟩
 have A3:=HA2.out.more hb3
 have hs3:=hb3.size
 have hX3:=(hb3.block w.heap.size (by omega)).trans HX2.out
 have c3:=Z38 hX3
 have l3:=Z02 c3
 have HA3:=Z01 A3
 have HX3:=Z01 hX3
 cases hm1:Z0i x [Z83,Z4t] with
 | true =>
 have hk1:=HKK.out _ hm1
 have HC3:=Z01 (Z23 A3.rd HHX.out hl)
 clear hb3 A3 hX3 HC2 c2
 go_wp2_with fail
 refine HC3.out.mono ?_
 rintro ev w4 ⟨rfl,R4,K4⟩
 have hba:Below w4.heap.size w4 (w4.alloc (.cells #[.string x.2.1,.string ⟨#[]⟩,.slice none 0 0,.slice none 0 0,.slice none 0 0,.slice none 0 0] 52)):=(Below.refl _ _).alloc (Nat.le_refl _) _
 have A4:=(HA3.out.go R4 K4).more hba
 have hB4:(w4.alloc (.cells #[.string x.2.1,.string ⟨#[]⟩,.slice none 0 0,.slice none 0 0,.slice none 0 0,.slice none 0 0] 52)).heap[w4.heap.size]?=some (.cells #[.string x.2.1,.string ⟨#[]⟩,.slice none 0 0,.slice none 0 0,.slice none 0 0,.slice none 0 0] 52):=heap_alloc_new w4 _
 have hs4:=K4.below.size
 have hX4:=(hba.block w.heap.size (by omega)).trans (Z95 HX3.out K4 hpl)
 have c4':=Z38 hX4
 have l4':=Z02 c4'
 have c4:=Z38 (Z95 HX3.out K4 hpl)
 have l4:=Z02 c4
 have hlt4:=Z00 hB4
 have hsa:(w4.alloc (.cells #[.string x.2.1,.string ⟨#[]⟩,.slice none 0 0,.slice none 0 0,.slice none 0 0,.slice none 0 0] 52)).heap.size=w4.heap.size+1:=by simp
 have C4:FunC x.2.1 ⟨#[]⟩ p g w4.heap.size w.heap.size (w4.alloc (.cells #[.string x.2.1,.string ⟨#[]⟩,.slice none 0 0,.slice none 0 0,.slice none 0 0,.slice none 0 0] 52)) [] (w4.alloc (.cells #[.string x.2.1,.string ⟨#[]⟩,.slice none 0 0,.slice none 0 0,.slice none 0 0,.slice none 0 0] 52)):=⟨⟨.slice none 0 0,hB4,rfl,.inl ⟨rfl,rfl⟩⟩,c4',by omega,by omega,by omega,by omega,hlt4,l4',by omega,Nat.le_refl _,fun _ _ _ _=>rfl⟩
 have HU:=Z01 (Zbf 119 #[.pointer (some ⟨w4.heap.size,0,none⟩),.pointer (some ⟨w.heap.size,0,none⟩)] (fun _ _=>rfl) (fun s k w'=>FunC x.2.1 ⟨#[]⟩ p g w4.heap.size w.heap.size (w4.alloc (.cells #[.string x.2.1,.string ⟨#[]⟩,.slice none 0 0,.slice none 0 0,.slice none 0 0,.slice none 0 0] 52)) s w'∧s.length≤k) (fun s k k' w1 w2 h1 h2 h3=>FunC.step s k k' w1 w2 h1 h2 h3) (Z2k l) 0 (fun s k _ hk=>Zgu _ _ _ hl (fun k x hx hn=>T.ok.last k x hx (by rw [hn];simp)) s k hk) hl T.ok.hen [] (k+1) l.length (Nat.zero_le _) hk1 (by omega) _ A4.rd ⟨C4,by simp⟩ (HE.out.keeps A4.ks))
 have HA4:=Z01 A4
 clear HC3 R4 K4 A4 hB4 hX4 C4 c3 hba c4'
 go_wp2_with fail
 refine HU.out.mono ?_
 intro ev w5 hP
 obtain ⟨o3,q5⟩:∃ o3,Z1w l (Z2k l) l.length [] (k+1)=o3:=⟨_,rfl⟩
 rw [q5] at hP
 rcases o3 with y | ⟨names,k5⟩
 obtain ⟨t,g1,b,rfl,g2⟩:=hP
 ·have ho2:o = .error y:=by
   rw [←HO.out,Z4e,HMX.out,hm0,cond_false,HMX.out,hm1,cond_true,q5] <;> rfl
  have HF:=Z01 (HPE.out _ _ _ ho2 (Z04.after HA4.out.ks.below ⟨t,g1,b,rfl,g2⟩))
  clear HU g1 g2 c4
  go_wp2_with fail
  exact ⟨rfl,HF.out⟩
 obtain ⟨rfl,R5,⟨C5,hn5⟩,hb5,hk5,hk5l⟩:=hP
 have A5:=Zwa HA4.out C5 hb5 R5 (by omega)
 have hs5:=hb5.size
 rw [hsa] at hs5
 obtain ⟨va,hV,hO⟩:=C5.e
 obtain ⟨pa,pc,rfl,hN⟩:=Zfx hO
 have hNN:Z54 (fun b=>(w.heap.size+1)<b) w5 pa names:=fun h0=>by
  obtain ⟨b,e,hb,ht⟩:=hN h0
  exact ⟨b,0,e,by show _<_;omega,ht⟩
 obtain ⟨v0,v1,v2,v3,v4,v5,_⟩:=Z08 hV
 have vl:=Z00 hV
 have ho6:o = .ok (mkS x.2.1 ⟨#[]⟩ names [] [] [],k5):=by
  rw [←HO.out,Z4e,HMX.out,hm0,cond_false,HMX.out,hm1,cond_true,q5,HTX.out] <;> rfl
 have hZ:=Z1l (c0:=.string x.2.1) (c1:=.string ⟨#[]⟩) (c2:=.slice pa names.length pc) (c3:=.slice none 0 0) (c4:=.slice none 0 0) (c5:=.slice none 0 0) A5 (Z2z (kd:=x.2.1) (nm:=⟨#[]⟩) (el:=[]) (bd:=[]) (es:=[]) (pc:=pc) (lc:=0) (bc:=0) (ec:=0) hNN (Z89.nil _ _ none) (Z1h.nil _ _ none) (Z1h.nil _ _ none)) (fun b hb=>hb)
 have HZ:=Z01 hZ
 obtain ⟨u0,u1,u2,u3,u4,u5,uf⟩:=Z08 A5.b4
 have uf0:=uf 0
 have uf1:=uf 1
 have uf2:=uf 2
 have uf3:=uf 3
 have uf4:=uf 4
 have uf5:=uf 5
 have ul:=Z00 A5.b4
 have HO6:=Z01 ho6
 clear HU A5 R5 C5 hb5 hV hO hN hNN q5 c4 uf ho6 hZ
 go_wp2_with fail
 obtain ⟨z1,z2,z3,z4⟩:=HZ.out
 refine bodyPost_ret (Z0e _ 2 rfl _ _ (w.heap.size+1) _ _ _ _ _ _ rfl z1) rfl ?_
 rw [HO6.out]
 exact ⟨_,_,_,_,_,_,rfl,z2,z3,z4,by omega,hk5l⟩
 | false =>
 have HC3:=Z01 (Z0u A3.rd HHX.out hl Z8a)
 clear hb3 A3 hX3 HC2 c2
 go_wp2_with fail
 refine HC3.out.mono ?_
 rintro ev w4 ⟨rfl,R4,K4⟩
 have hs4:=K4.below.size
 have hX4:=Z95 HX3.out K4 hpl
 have c4:=Z38 hX4
 have l4:=Z02 c4
 have HX4:=Z01 hX4
 cases hm2:Z0i x [Z8a] with
 | true =>
  have hk1:=HKK.out _ hm2
  rw [hm2,if_pos rfl] at R4
  have A4:=HA3.out.go R4 K4
  obtain ⟨x1,hx1⟩:∃ x,l[k+1]?=some x:=⟨l[k+1],by simp [hk1]⟩
  have HA4:=Z01 A4
  have HC4:=Z01 (Z1k A4.rd hx1)
  have G0:=Z5s (.string x1.1) (.string x1.2.1) (.int .i64 (x1.2.2:Int))
  have HKN:=Z01 (Z1t hx1 [110,101,119,108,105,110,101])
  obtain ⟨m,hmn⟩:∃ m,(x1.1.toList == [110,101,119,108,105,110,101])=m:=⟨_,rfl⟩
  have HMN:=Z01 hmn
  clear HC3 R4 K4 A4 hX4 c3 hx1 hmn
  go_wp2_with fail
  refine HC4.out.mono ?_
  rintro ev w5 ⟨rfl,hb5⟩
  have A5:=HA4.out.more hb5
  have hs5:=hb5.size
  have hX5:=(hb5.block w.heap.size (by omega)).trans HX4.out
  have c5:=Z38 hX5
  have l5:=Z02 c5
  cases m with
  | true =>
  have hmn:=HMN.out
  have ho6:o = .ok (mkS x.2.1 ⟨#[]⟩ [] [] [] [],k+1):=by
   rw [←HO.out,Z4e,HMX.out,hm0,cond_false,HMX.out,hm1,cond_false,HMX.out,hm2,cond_true,HKN.out,hmn,cond_true,HTX.out] <;> rfl
  have hZ:=Z1l (c0:=.string x.2.1) (c1:=.string ⟨#[]⟩) (c2:=.slice none 0 0) (c3:=.slice none 0 0) (c4:=.slice none 0 0) (c5:=.slice none 0 0) A5 (Z2z (S:=fun b=>(w.heap.size+1)<b) (kd:=x.2.1) (nm:=⟨#[]⟩) (pl:=[]) (el:=[]) (bd:=[]) (es:=[]) (pc:=0) (lc:=0) (bc:=0) (ec:=0) (Z54.nil _ _ none) (Z89.nil _ _ none) (Z1h.nil _ _ none) (Z1h.nil _ _ none)) (fun b hb=>hb)
  have HZ:=Z01 hZ
  obtain ⟨u0,u1,u2,u3,u4,u5,uf⟩:=Z08 A5.b4
  have uf0:=uf 0
  have uf1:=uf 1
  have uf2:=uf 2
  have uf3:=uf 3
  have uf4:=uf 4
  have uf5:=uf 5
  have ul:=Z00 A5.b4
  have HO6:=Z01 ho6
  clear HC4 A5 hb5 hX5 c4 c5 uf ho6 hZ
  go_wp2_with fail
  obtain ⟨z1,z2,z3,z4⟩:=HZ.out
  refine bodyPost_ret (Z0e _ 2 rfl _ _ (w.heap.size+1) _ _ _ _ _ _ rfl z1) rfl ?_
  rw [HO6.out]
  exact ⟨_,_,_,_,_,_,rfl,z2,z3,z4,by omega,hk1⟩
  | false =>
  have hmn:=HMN.out
  have HC5:=Z01 (HH1.out (k+1) (by omega) hk1 _ A5.rd (HE.out.keeps A5.ks) (HX.out.keeps A5.ks))
  have HA5:=Z01 A5
  clear HC4 A5 hb5 hX5 c4
  go_wp2_with fail
  refine HC5.out.mono ?_
  intro ev w6 hP
  rcases hP.parts with ⟨el,k6,la,lc,q6,rfl,hL6,R6,K6,hk6,hk6l,hcap⟩ | ⟨y,b,q6,rfl,hf⟩
  rotate_left
  ·have ho2:o = .error y:=by
    rw [←HO.out,Z4e,HMX.out,hm0,cond_false,HMX.out,hm1,cond_false,HMX.out,hm2,cond_true,HKN.out,hmn,cond_false,q6] <;> rfl
   have HF:=Z01 (HPE.out _ _ _ ho2 (Z04.after HA5.out.ks.below hf))
   clear hP HC5 hf c5
   go_wp2_with fail
   exact ⟨rfl,HF.out⟩
  have A6:=HA5.out.go R6 K6
  have ho6:o = .ok (mkS x.2.1 ⟨#[]⟩ [] el [] [],k6):=by
   rw [←HO.out,Z4e,HMX.out,hm0,cond_false,HMX.out,hm1,cond_false,HMX.out,hm2,cond_true,HKN.out,hmn,cond_false,q6,HTX.out] <;> rfl
  have hZ:=Z1l (c0:=.string x.2.1) (c1:=.string ⟨#[]⟩) (c2:=.slice none 0 0) (c3:=.slice la el.length lc) (c4:=.slice none 0 0) (c5:=.slice none 0 0) A6 (Z2z (kd:=x.2.1) (nm:=⟨#[]⟩) (pl:=[]) (bd:=[]) (es:=[]) (pc:=0) (lc:=lc) (bc:=0) (ec:=0) (Z54.nil _ _ none) hL6 (Z1h.nil _ _ none) (Z1h.nil _ _ none)) (fun b hb=>by omega)
  have HZ:=Z01 hZ
  obtain ⟨u0,u1,u2,u3,u4,u5,uf⟩:=Z08 A6.b4
  have uf0:=uf 0
  have uf1:=uf 1
  have uf2:=uf 2
  have uf3:=uf 3
  have uf4:=uf 4
  have uf5:=uf 5
  have ul:=Z00 A6.b4
  have HO6:=Z01 ho6
  clear hP HC5 A6 hL6 R6 K6 q6 c5 uf ho6 hZ
  go_wp2_with fail
  obtain ⟨z1,z2,z3,z4⟩:=HZ.out
  refine bodyPost_ret (Z0e _ 2 rfl _ _ (w.heap.size+1) _ _ _ _ _ _ rfl z1) rfl ?_
  rw [HO6.out]
  exact ⟨_,_,_,_,_,_,rfl,z2,z3,z4,by omega,hk6l⟩
 | false =>
 rw [hm2,if_neg (by decide)] at R4
 have A4:=HA3.out.go R4 K4
 have HA4:=Z01 A4
 have HC4:=Z01 (Z0u A4.rd HHX.out hl Zbg)
 clear HC3 R4 K4 A4 hX4 c3
 go_wp2_with fail
 refine HC4.out.mono ?_
 rintro ev w5 ⟨rfl,R5,K5⟩
 have hs5:=K5.below.size
 have hX5:=Z95 HX4.out K5 hpl
 have c5:=Z38 hX5
 have l5:=Z02 c5
 have HX5:=Z01 hX5
 cases hm3:Z0i x [Zbg] with
 | true =>
 have hk1:=HKK.out _ hm3
 rw [hm3,if_pos rfl] at R5
 have A5:=HA4.out.go R5 K5
 have HC5:=Z01 (HH1.out (k+1) (by omega) hk1 _ A5.rd (HE.out.keeps A5.ks) (HX.out.keeps A5.ks))
 have HA5:=Z01 A5
 clear HC4 A5 R5 K5 hX5 c4
 go_wp2_with fail
 refine HC5.out.mono ?_
 intro ev w6 hP
 rcases hP.parts with ⟨el,k6,la,lc,q6,rfl,hL6,R6,K6,hk6,hk6l,hcap⟩ | ⟨y,b,q6,rfl,hf⟩
 rotate_left
 ·have ho2:o = .error y:=by
   rw [←HO.out,Z4e,HMX.out,hm0,cond_false,HMX.out,hm1,cond_false,HMX.out,hm2,cond_false,HMX.out,hm3,cond_true,q6] <;> rfl
  have HF:=Z01 (HPE.out _ _ _ ho2 (Z04.after HA5.out.ks.below hf))
  clear hP HC5 hf c5
  go_wp2_with fail
  exact ⟨rfl,HF.out⟩
 have A6:=HA5.out.go R6 K6
 have ho6:o = .ok (mkS x.2.1 ⟨#[]⟩ [] el [] [],k6):=by
  rw [←HO.out,Z4e,HMX.out,hm0,cond_false,HMX.out,hm1,cond_false,HMX.out,hm2,cond_false,HMX.out,hm3,cond_true,q6,HTX.out] <;> rfl
 have hZ:=Z1l (c0:=.string x.2.1) (c1:=.string ⟨#[]⟩) (c2:=.slice none 0 0) (c3:=.slice la el.length lc) (c4:=.slice none 0 0) (c5:=.slice none 0 0) A6 (Z2z (kd:=x.2.1) (nm:=⟨#[]⟩) (pl:=[]) (bd:=[]) (es:=[]) (pc:=0) (lc:=lc) (bc:=0) (ec:=0) (Z54.nil _ _ none) hL6 (Z1h.nil _ _ none) (Z1h.nil _ _ none)) (fun b hb=>by omega)
 have HZ:=Z01 hZ
 obtain ⟨u0,u1,u2,u3,u4,u5,uf⟩:=Z08 A6.b4
 have uf0:=uf 0
 have uf1:=uf 1
 have uf2:=uf 2
 have uf3:=uf 3
 have uf4:=uf 4
 have uf5:=uf 5
 have ul:=Z00 A6.b4
 have HO6:=Z01 ho6
 clear hP HC5 A6 hL6 R6 K6 q6 c5 uf ho6 hZ
 go_wp2_with fail
 obtain ⟨z1,z2,z3,z4⟩:=HZ.out
 refine bodyPost_ret (Z0e _ 2 rfl _ _ (w.heap.size+1) _ _ _ _ _ _ rfl z1) rfl ?_
 rw [HO6.out]
 exact ⟨_,_,_,_,_,_,rfl,z2,z3,z4,by omega,hk6l⟩
 | false =>
 rw [hm3,if_neg (by decide)] at R5
 have A5:=HA4.out.go R5 K5
 have HA5:=Z01 A5
 have HC5:=Z01 (Z0u A5.rd HHX.out hl Zz1)
 clear HC4 R5 K5 A5 hX5 c4
 go_wp2_with fail
 refine HC5.out.mono ?_
 rintro ev w6 ⟨rfl,R6,K6⟩
 have hs6:=K6.below.size
 have hX6:=Z95 HX5.out K6 hpl
 have c6:=Z38 hX6
 have l6:=Z02 c6
 have HX6:=Z01 hX6
 cases hm4:Z0i x [Zz1] with
 | true =>
  have hk1:=HKK.out _ hm4
  rw [hm4,if_pos rfl] at R6
  have A6:=HA5.out.go R6 K6
  have HC6:=Z01 (HH0.out (k+1) (by omega) hk1 _ A6.rd (HE.out.keeps A6.ks) (HX.out.keeps A6.ks))
  have HA6:=Z01 A6
  clear HC5 A6 R6 K6 hX6 c5
  go_wp2_with fail
  refine HC6.out.mono ?_
  intro ev w7 hP
  rcases hP.parts with ⟨e7,k7,op7,z7,sx7,pa7,pn7,pc7,la7,ln7,lc7,q7,rfl,hrep7,R7,K7,hk7,hk7l⟩ | ⟨y,b,q7,rfl,hf⟩
  rotate_left
  ·have ho2:o = .error y:=by
    rw [←HO.out,Z4e,HMX.out,hm0,cond_false,HMX.out,hm1,cond_false,HMX.out,hm2,cond_false,HMX.out,hm3,cond_false,HMX.out,hm4,cond_true,q7] <;> rfl
   have HF:=Z01 (HPE.out _ _ _ ho2 (Z04.after HA6.out.ks.below hf))
   clear hP HC6 hf c6
   go_wp2_with fail
   exact ⟨rfl,HF.out⟩
  have hop:=hrep7.op
  have hcap7:=hrep7.caps
  obtain ⟨rfl,hL7'⟩:=hrep7.els
  have hba7:Below w7.heap.size w7 (w7.alloc (.cells #[.string op7,.int .i64 z7,.string sx7,.slice pa7 pn7 pc7,.slice la7 (partsOf e7).length lc7] 72)):=(Below.refl _ _).alloc (Nat.le_refl _) _
  have hs7:=K7.below.size
  have A7:=(HA6.out.go R7 K7).more hba7
  have hB7:(w7.alloc (.cells #[.string op7,.int .i64 z7,.string sx7,.slice pa7 pn7 pc7,.slice la7 (partsOf e7).length lc7] 72)).heap[w7.heap.size]?=some (.cells #[.string op7,.int .i64 z7,.string sx7,.slice pa7 pn7 pc7,.slice la7 (partsOf e7).length lc7] 72):=heap_alloc_new w7 _
  obtain ⟨t0,t1,t2,t3,t4,_⟩:=Z05 hB7
  have tl:=Z00 hB7
  have hX7:=Z95 HX6.out K7 hpl
  have c7:=Z38 hX7
  have l7:=Z02 c7
  have hL7:=hL7'.same (S':=fun b=>(w.heap.size+1)<b) (Z06 hba7) (fun b hb _=>by show _<b;omega)
  have HA7:=Z01 A7
  have HQ7:=Z01 q7
  have HL7:=Z01 hL7
  cases hi:Zii e7 == [105,110,100,101,120] with
  | true =>
  have hi1:(op7.toList == [105,110,100,101,120])=true:=by rw [Z0g,←hop];exact hi
  have hi2:(op7.toList != [105,110,100,101,120])=false:=by simp only [bne,hi1];rfl
  have HHI:=Z01 hi
  clear HC6 hP R7 K7 hrep7 hX7 c6 hop hi hL7 hL7' A7 q7 hba7 hB7
  have A7:=HA7.out
  have hL7:=HL7.out
  have ho6:o = .ok (mkS x.2.1 ⟨#[]⟩ [] (partsOf e7) [] [],k7):=by
   rw [←HO.out,Z4e,HMX.out,hm0,cond_false,HMX.out,hm1,cond_false,HMX.out,hm2,cond_false,HMX.out,hm3,cond_false,HMX.out,hm4,cond_true,HQ7.out]
   simp only [HHI.out,cond_true,HTX.out]
  have hZ:=Z1l (c0:=.string x.2.1) (c1:=.string ⟨#[]⟩) (c2:=.slice none 0 0) (c3:=.slice la7 (partsOf e7).length lc7) (c4:=.slice none 0 0) (c5:=.slice none 0 0) A7 (Z2z (kd:=x.2.1) (nm:=⟨#[]⟩) (pl:=[]) (bd:=[]) (es:=[]) (pc:=0) (lc:=lc7) (bc:=0) (ec:=0) (Z54.nil _ _ none) hL7 (Z1h.nil _ _ none) (Z1h.nil _ _ none)) (fun b hb=>hb)
  have HZ:=Z01 hZ
  obtain ⟨u0,u1,u2,u3,u4,u5,uf⟩:=Z08 A7.b4
  have uf0:=uf 0
  have uf1:=uf 1
  have uf2:=uf 2
  have uf3:=uf 3
  have uf4:=uf 4
  have uf5:=uf 5
  have ul:=Z00 A7.b4
  have HO6:=Z01 ho6
  clear A7 hL7 uf ho6 hZ
  go_wp2_with fail
  obtain ⟨z1,z2,z3,z4⟩:=HZ.out
  refine bodyPost_ret (Z0e _ 2 rfl _ _ (w.heap.size+1) _ _ _ _ _ _ rfl z1) rfl ?_
  rw [HO6.out]
  exact ⟨_,_,_,_,_,_,rfl,z2,z3,z4,by omega,hk7l⟩
  | false =>
  have hi1:(op7.toList == [105,110,100,101,120])=false:=by rw [Z0g,←hop];exact hi
  have hi2:(op7.toList != [105,110,100,101,120])=true:=by simp only [bne,hi1];rfl
  obtain ⟨x7,hx7⟩:∃ x,l[k7]?=some x:=⟨l[k7],by simp [hk7l]⟩
  have E7:=HE.out.keeps A7.ks
  have hg0:=E7.g0
  have hgl0:=Z02 E7.g0
  have HC7:=Z01 (Z4o A7.rd hx7 a0)
  have ho2:o = .error (k7,false):=by
   rw [←HO.out,Z4e,HMX.out,hm0,cond_false,HMX.out,hm1,cond_false,HMX.out,hm2,cond_false,HMX.out,hm3,cond_false,HMX.out,hm4,cond_true,q7]
   simp only [hi,cond_false]
  have HO2:=Z01 ho2
  have HX7:=Z01 hx7
  clear HC6 hP R7 K7 hrep7 hX7 c6 hop hi hL7 hL7' A7 q7 E7 ho2 hx7 hba7 hB7
  go_wp2_with fail
  refine HC7.out.mono ?_
  rintro ev w8 ⟨b,rfl,hbw,d0,d1⟩
  have HF:=Z01 (HPE.out _ _ w8 HO2.out ⟨x7,HX7.out,b,rfl,HA7.out.ks.below.trans hbw,d0,d1⟩)
  clear hbw d0 d1 HC7
  go_wp2_with fail
  exact ⟨rfl,HF.out⟩
 | false =>
 rw [hm4,if_neg (by decide)] at R6
 have A6:=HA5.out.go R6 K6
 have HC6:=Z01 (HH2.out _ A6.rd (HE.out.keeps A6.ks) (HX.out.keeps A6.ks))
 have HA6:=Z01 A6
 clear HC5 A6 R6 K6 hX6 c5
 go_wp2_with fail
 refine HC6.out.mono ?_
 intro ev w9 hP
 rcases hP.parts with ⟨s4,k4,kd4,nm4,pa4,pn4,pc4,la4,ln4,lc4,ba4,bn4,bc4,ea4,en4,ec4,q4,rfl,hrep4,R4,K4,hk4,hk4l⟩ | ⟨y,b,q4,rfl,hf⟩
 rotate_left
 ·have ho2:o = .error y:=by
   rw [←HO.out,Z4e,HMX.out,hm0,cond_false,HMX.out,hm1,cond_false,HMX.out,hm2,cond_false,HMX.out,hm3,cond_false,HMX.out,hm4,cond_false,q4] <;> rfl
  have HF:=Z01 (HPE.out _ _ _ ho2 (Z04.after HA6.out.ks.below hf))
  clear hP HC6 hf c6
  go_wp2_with fail
  exact ⟨rfl,HF.out⟩
 have A9:=HA6.out.go R4 K4
 have ho6:o = .ok (s4,k4):=by
  rw [←HO.out,Z4e,HMX.out,hm0,cond_false,HMX.out,hm1,cond_false,HMX.out,hm2,cond_false,HMX.out,hm3,cond_false,HMX.out,hm4,cond_false,q4] <;> rfl
 have hZ:=Z1l (c0:=.string kd4) (c1:=.string nm4) (c2:=.slice pa4 pn4 pc4) (c3:=.slice la4 ln4 lc4) (c4:=.slice ba4 bn4 bc4) (c5:=.slice ea4 en4 ec4) A9 (hrep4) (fun b hb=>by omega)
 have HZ:=Z01 hZ
 obtain ⟨u0,u1,u2,u3,u4,u5,uf⟩:=Z08 A9.b4
 have uf0:=uf 0
 have uf1:=uf 1
 have uf2:=uf 2
 have uf3:=uf 3
 have uf4:=uf 4
 have uf5:=uf 5
 have ul:=Z00 A9.b4
 have HO6:=Z01 ho6
 clear hP HC6 A9 hrep4 R4 K4 q4 c6 uf ho6 hZ
 go_wp2_with fail
 obtain ⟨z1,z2,z3,z4⟩:=HZ.out
 refine bodyPost_ret (Z0e _ 2 rfl _ _ (w.heap.size+1) _ _ _ _ _ _ rfl z1) rfl ?_
 rw [HO6.out]
 exact ⟨_,_,_,_,_,_,rfl,z2,z3,z4,by omega,hk4l⟩
end Go.Proofs.YtflcohidmemfpaaGreatDoor
