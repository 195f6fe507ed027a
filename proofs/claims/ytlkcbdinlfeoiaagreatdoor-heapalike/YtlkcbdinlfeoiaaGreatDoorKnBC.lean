/- slices.Repeat of a word, by a contract. -/
import Derived.Test.YtlkcbdinlfeoiaaGreatDoorKnAO
import Derived.Test.YtlkcbdinlfeoiaaGreatDoorMemHC
namespace Go.Proofs.YtlkcbdinlfeoiaaGreatDoor
open Go.Proofs.Tryz Go.RowKit
set_option maxHeartbeats 8000000
set_option maxRecDepth 100000
set_option linter.unusedSimpArgs false
section
open Go.Shelf
theorem Zh0:(prog.info? 81).map (·.size)=some 1:=by kernel_rfl
theorem Zhs {v:Value}{cur:List Value}{c m:Nat} (h:cur.take c=List.replicate c v):(splice cur c (List.replicate m v)).take (c+m)=List.replicate (c+m) v:=by
 unfold splice
 rw [h,<-U0y,U2b (by simp),U13 (by simp),List.replicate_append_replicate]
theorem Zax (v:Int) (n:Nat) (hn:n<=5000) (qx ox:Nat) (w:World) (hx:w.cell? ⟨qx,ox,none⟩=some (.int .u64 v)) :
  Calls prog 41 #[.slice (some ⟨qx,ox,none⟩) 1 1,.int .i64 (n:Int)] w fun ev w' => ∃ g,ev = .returned (.slice (some ⟨g,0,none⟩) n n)/\w.heap.size<=g/\w'.heap[g]?=some (.cells (Array.replicate n (.int .u64 v)) 81)/\Below w.heap.size w w':=by
 have km:=Zmk 1 n (by decide) (by omega) w
 rw [show 1*n / 18446744073709551616=0 by omega,show 1*n % 18446744073709551616=n by omega] at km
 have kk:=fun W=>Z72 n (by omega) (n:Int) rfl W
 have HX:=Z00 hx
 clear hx
 go_enter func41,ntmps41
 go_wp2_with fail
 refine km.mono ?_
 rintro ev w1 ⟨rfl,hw1⟩
 rw [hw1]
 clear hw1 w1 km
 go_upto_region 7 with fail
 obtain ⟨w1,hw1⟩:∃ w1,w1=w.alloc (.cells (Array.replicate n (.int .u64 0)) 81):=⟨_,rfl⟩
 obtain ⟨q,hq⟩:∃ q,q=w.heap.size:=⟨_,rfl⟩
 have ob:w1.heap[q]?=some (.cells (List.replicate n (Value.int .u64 0)).toArray 81 (0,0)):=by rw [hw1,hq,List.toArray_replicate];exact U0b _ _
 have b1:Below w.heap.size w w1:=by rw [hw1];exact (U01 _ _).alloc (U02 _) _
 have hqw:w.heap.size<=q:=by omega
 rw [<-hw1,<-hq]
 have hx1:=(b1.cell (p:=⟨qx,ox,none⟩) (Z02 HX.out)).trans HX.out
 obtain ⟨m0,hm0⟩:∃ m0,m0=Nat.min 1 n:=⟨_,rfl⟩
 have HOB:=Z00 ob
 have HB1:=Z00 b1
 have HX1:=Z00 hx1
 have HM0:=Z00 hm0
 clear hw1 hq ob b1 hx1 kk hm0
 have hn0:(0:Int)<=(n:Int):=by omega
 go_wp2_with (refine wpList_copy_splice rfl _ _ _ _ rfl 81 underlying79 Zh0 (some ⟨q,0,none⟩) (some ⟨qx,ox,none⟩) n n 1 1 rfl rfl q 0 (List.replicate n (Value.int .u64 0)) 81 HOB.out (List.replicate m0 (Value.int .u64 v)) (by rw [U17,HM0.out]) (fun _=>⟨rfl,_,rfl,fun j u hj=>by
   have hj0:j=0:=by
    have:=(U0e.1 hj).1
    rw [U17,HM0.out] at this
    have h1:Nat.min 1 n<=1:=Nat.min_le_left _ _
    omega
   subst hj0
   rw [U4f] at hj
   split at hj
   ·cases hj;exact HX1.out
   ·cases hj⟩) (by rw [U17,U17,HM0.out];have h1:Nat.min 1 n<=n:=U5h _ _;omega) (fun u hu=>by rw [U3k hu];rfl) w.heap.size w HB1.out hqw ?_;intro w2 hg2 hb2)
 have h20:splice (List.replicate n (Value.int .u64 0)) 0 (List.replicate m0 (Value.int .u64 v))=List.replicate m0 (Value.int .u64 v)++List.replicate (n - m0) (Value.int .u64 0):=by
  unfold splice
  simp
 have hm0n:m0<=n:=by rw [HM0.out];exact U5h _ _
 have hm01:n=0\/1<=m0:=by
  rcases U26 n with h | h
  ·exact Or.inl h
  ·refine Or.inr ?_
   rw [HM0.out]
   exact Nat.le_min.2 ⟨U02 _,h⟩
 have HSTART:Hid (∃ cur:List Value,w2.heap[q]?=some (.cells cur.toArray 81 (0,0))/\cur.length=n/\cur.take m0=List.replicate m0 (Value.int .u64 v)):=by
  refine ⟨_,hg2.out,?_,?_⟩
  ·rw [h20];simp;omega
  ·rw [h20,U2b (by simp),U13 (by simp)]
 clear h20 hg2
 go_loopg [8] (n+1 - m0) (fun gk vc wr => ∃ (c:Nat),gk=n+1 - c/\c<=n/\(n=0\/1<=c)/\vc = .int .i64 (c:Int)/\Below w.heap.size w wr/\Hid (∃ cur:List Value,wr.heap[q]?=some (.cells cur.toArray 81 (0,0))/\cur.length=n/\cur.take c=List.replicate c (Value.int .u64 v)))
 case atStart=>exact ⟨m0,rfl,hm0n,hm01,by simp,hb2,HSTART.out⟩
 case round =>
  obtain ⟨c,hgk,hc,hc1,rfl,hb,hcur⟩:=hrel
  have HG:=Z00 hgk
  have hc0:(0:Int)<=(c:Int):=by omega
  clear hgk
  by_cases hlt:c<n
  ·have hI:(c:Int)<(n:Int):=by omega
   have hcn:¬ n=c:=by omega
   have hcn':¬ c=n:=by omega
   have hcle:(c:Int)<=(n:Int):=by omega
   obtain ⟨cur,ho,hl,ht⟩:=hcur.out
   obtain ⟨m,hm⟩:∃ m,m=Nat.min c (n - c):=⟨_,rfl⟩
   have hm1:1<=m:=by rw [hm];exact Nat.le_min.2 ⟨by omega,by omega⟩
   have hm2':m<=n - c:=by rw [hm];exact U5h _ _
   have hm2:c+m<=n:=by omega
   have hm3:m<=c:=by rw [hm];exact Nat.min_le_left _ _
   have HCC:Hid (∀ j u,(List.replicate m (Value.int .u64 v))[j]?=some u->wr.cell? ((⟨q,0,none⟩:Addr).add j)=some u):=fun j u hj=>by
    have hjm:j<m:=by simpa using (U0e.1 hj).1
    rw [U4f,U09 hjm] at hj
    cases hj
    have e:(⟨q,0,none⟩:Addr).add j=⟨q,j,none⟩:=by unfold Addr.add;split <;> simp_all
    rw [e,U06 _ _ _ _ _ _ ho,<-U1q]
    have h1:=congrArg (fun l=>l[j]?) ht
    simp only [U1j,U4f,U09 (show j<c by omega)] at h1
    exact h1
   have HB:=Z00 hb
   have HOO:=Z00 ho
   have HTT:Hid ((splice cur c (List.replicate m (Value.int .u64 v))).take (c+m)=List.replicate (c+m) (Value.int .u64 v)):=Zhs ht
   have HLL:Hid ((splice cur c (List.replicate m (Value.int .u64 v))).length=n):=by show _=_;rw [length_splice _ _ _ (by simp;omega),hl]
   have HMM:=Z00 hm
   have hlc:c+m<=cur.length:=by omega
   clear hm ht hl ho hb hcur
   go_upto_region 9 with fail
   go_region_held3 (fun _=>True) (exact trivial) (first | (refine step_copy_splice (by rfl) _ _ _ _ (by rfl) 81 underlying79 Zh0 (some ⟨q,c,none⟩) (some ⟨q,0,none⟩) (n - c) (n - c) c n (by rfl) (by rfl) q c cur 81 HOO.out (List.replicate m (Value.int .u64 v)) (by rw [U17,HMM.out]) (fun _=>⟨rfl,_,rfl,HCC.out⟩) (by rw [U17];omega) (fun u hu=>by rw [U3k hu];rfl) w.heap.size w (HB.out.drew) hqw ?_;intro w3 hg3 hb3))
   have hwr:IntKind.i64.wrap ((c:Int)+(m:Int))=((c+m:Nat):Int):=by rw [U1d];omega
   rw [hwr]
   clear hwr
   go_wp2_with fail
   go_roundg (n+1 - (c+m))
   case measure=>have:=HG.out;omega
   case rel=>exact ⟨c+m,rfl,hm2,Or.inr (by omega),rfl,hb3,⟨_,hg3.out,HLL.out,HTT.out⟩⟩
  ·have hI:¬ (c:Int)<(n:Int):=by omega
   have HE:Hid (wr.heap[q]?=some (.cells (Array.replicate n (.int .u64 v)) 81)):=by
    obtain ⟨cur,ho,hl,ht⟩:=hcur.out
    have hcn:c=n:=by omega
    rw [hcn,U13 (by omega)] at ht
    rw [ht,List.toArray_replicate] at ho
    exact ho
   have HB:=Z00 hb
   clear hcur hb
   go_wp2_with fail
   go_ret
   exact ⟨q,rfl,hqw,HE.out,HB.out⟩
end
def Zdf (half old card tn rs:Int):Prop:=Z0c half old card/\0<=tn/\tn<=15/\0<=rs/\rs<=5000
theorem Zr2 (a:Nat->Addr) (half old card tn rs:Int) (H:¬ Zdf half old card tn rs) (w:World) (E:WErr a w) :
  Calls prog 11 #[.agg #[.int .i64 half,.int .i64 old,.int .i64 card,.int .i64 tn],.int .i64 rs] w fun ev w'=>ev = .returned (.tuple #[.pointer none,Z0p a 1])/\Below w.heap.size w w':=by
 obtain ⟨w1,hw1⟩:∃ w1,w1=w.alloc (.cells #[.int .i64 half,.int .i64 old,.int .i64 card,.int .i64 tn] 31):=⟨_,rfl⟩
 have b1:Below w.heap.size w w1:=by rw [hw1];exact (U01 _ _).alloc (U02 _) _
 have hn1:w1.heap[w.heap.size]?=some (.cells #[.int .i64 half,.int .i64 old,.int .i64 card,.int .i64 tn] 31):=by rw [hw1];exact U0b _ _
 have HW1:=Z00 hw1
 have HE:=Z00 E
 by_cases hn:Z0c half old card
 ·have hq1:(old+card - 1) / card<=old+card - 1:=U4n _ (by unfold Z0c at hn;omega)
  have hq0:0<=(old+card - 1) / card:=U45 (by unfold Z0c at hn;omega) (by unfold Z0c at hn;omega)
  have kn:=Zqf half old card hn (2*half+old).toNat ((old+card - 1) / card).toNat (by unfold Z0c at hn;omega) (by omega) w1
  clear hq1 hq0
  have hno:¬ (0<=tn/\tn<=15/\0<=rs/\rs<=5000):=fun h=>H ⟨hn,h⟩
  rw [hw1] at kn
  clear hw1
  go_enter func11,ntmps11
  go_wp2_with fail
  rw [<-HW1.out] at kn ⊢
  refine kn.mono ?_
  clear kn
  rintro ev w2 ⟨rfl,q2,rfl⟩
  obtain ⟨b2,_⟩:=Zbb half old card (2*half+old).toNat ((old+card - 1) / card).toNat w1 q2
  generalize (Zin half old card (2*half+old).toNat ((old+card - 1) / card).toNat w1).drewN q2=w2 at *
  have b12:=b1.trans (b2.mono b1.size)
  have hn2:=(b2.block _ (Z01 hn1)).trans hn1
  have c3:w2.cell? ⟨w.heap.size,3,none⟩=some (.int .i64 tn):=by rw [U06 _ _ 3 _ _ _ hn2];rfl
  have e1:=(HE.out.below b12).c1
  have HB:=Z00 b12
  clear b1 hn1 b2 b12 hn2 H E
  have k1:=fun w=>Z0z tn 0 15 w
  have k2:=fun w=>Z0z rs 0 5000 w
  by_cases ht:0<=tn/\tn<=15
  ·have hr:¬ (0<=rs/\rs<=5000):=fun h=>hno ⟨ht.1,ht.2,h⟩
   have ht':(decide (0<=tn) && decide (tn<=15))=true:=by simp [ht]
   have hr':(decide (0<=rs) && decide (rs<=5000))=false:=by rw [U1m,U0p,U0p];omega
   rw [ht'] at k1
   rw [hr'] at k2
   clear ht hr ht' hr' hno
   go_wp2_with fail
   refine (k1 _).mono ?_
   rintro ev w3 ⟨rfl,rfl⟩
   go_wp2_with fail
   refine (k2 _).mono ?_
   rintro ev w3 ⟨rfl,rfl⟩
   go_upto_region 5 with fail
   go_region
   all_goals go_wp2_with fail
   all_goals go_ret2
   all_goals exact ⟨rfl,HB.out.drew⟩
  ·have ht':(decide (0<=tn) && decide (tn<=15))=false:=by rw [U1m,U0p,U0p];omega
   rw [ht'] at k1
   clear ht ht' hno k2
   go_wp2_with fail
   refine (k1 _).mono ?_
   rintro ev w3 ⟨rfl,rfl⟩
   go_upto_region 5 with fail
   go_region
   all_goals go_wp2_with fail
   all_goals go_ret2
   all_goals exact ⟨rfl,HB.out.drew⟩
 ·have kn:=Zt9 a half old card hn w1 (HE.out.below b1)
  rw [hw1] at kn
  clear hw1
  go_enter func11,ntmps11
  go_wp2_with fail
  rw [<-HW1.out] at kn ⊢
  refine kn.mono ?_
  rintro ev w2 ⟨rfl,b2⟩
  unfold Z0p
  go_wp2_with fail
  go_ret2
  exact ⟨rfl,b1.trans (b2.mono b1.size)⟩
structure HeapIs (q p bW bR bC nW nR nC:Nat) (half old card used top oldTop tn sr:Int) (cW cR cC:Array Value) (w:World):Prop where
 hq:w.heap[q]?=some (.cells #[.pointer (some ⟨p,0,none⟩),.int .i64 tn,.int .i64 sr] 88)
 hp:w.heap[p]?=some (.cells #[.int .i64 half,.int .i64 old,.int .i64 card,.slice (some ⟨bW,0,none⟩) nW nW,.int .i64 used,.int .i64 top,.int .i64 oldTop,.slice (some ⟨bR,0,none⟩) nR nR,.slice none 0 0,.slice none 0 0,.slice (some ⟨bC,0,none⟩) nC nC] 84)
 hW:w.heap[bW]?=some (.cells cW 81)
 hR:w.heap[bR]?=some (.cells cR 81)
 hC:w.heap[bC]?=some (.cells cC 4)
theorem Zia (half old card:Int) (nW nC:Nat) (w:World) (q:Nat):((Zin half old card nW nC w).drewN q).heap[w.heap.size]?=some (.cells #[.int .i64 half,.int .i64 old,.int .i64 card,.slice (some ⟨w.heap.size+1,0,none⟩) nW nW,.int .i64 0,.int .i64 0,.int .i64 0,.slice none 0 0,.slice none 0 0,.slice none 0 0,.slice (some ⟨w.heap.size+2,0,none⟩) nC nC] 84):=by
 exact ((Z03 (((U01 (w.heap.size+1) _).alloc (by simp) _).alloc (by simp) _)).block w.heap.size (by omega)).trans (U0b w _)
def Zrs (half old card tn:Int) (nW nC n:Nat) (w:World) (ev:Ending) (w':World):Prop:=∃ q p g,ev = .returned (.tuple #[.pointer (some ⟨q,0,none⟩),.nilIface])/\w.heap.size<=p/\p+2<g/\g<q/\Below w.heap.size w w' /\
 HeapIs q p (p+1) g (p+2) nW n nC half old card 0 0 0 tn 0 (Array.replicate nW (.int .u64 0)) (Array.replicate n (.int .u64 2)) (Array.replicate nC (.bool false)) w'
theorem Zrz (half old card tn:Int) (n nW nC:Nat) (hW:(nW:Int)=2*half+old) (hC:(nC:Int)=(old+card - 1) / card) (H:Zdf half old card tn n) (w:World) :
  Calls prog 11 #[.agg #[.int .i64 half,.int .i64 old,.int .i64 card,.int .i64 tn],.int .i64 (n:Int)] w (Zrs half old card tn nW nC n w):=by
 obtain ⟨w1,hw1⟩:∃ w1,w1=w.alloc (.cells #[.int .i64 half,.int .i64 old,.int .i64 card,.int .i64 tn] 31):=⟨_,rfl⟩
 have b1:Below w.heap.size w w1:=by rw [hw1];exact (U01 _ _).alloc (U02 _) _
 have hn1:w1.heap[w.heap.size]?=some (.cells #[.int .i64 half,.int .i64 old,.int .i64 card,.int .i64 tn] 31):=by rw [hw1];exact U0b _ _
 have HW1:=Z00 hw1
 obtain ⟨hn,t0,t1,r0,r1⟩:=H
 have kn:=Zqf half old card hn nW nC hW hC w1
 rw [hw1] at kn
 clear hw1
 go_enter func11,ntmps11
 go_wp2_with fail
 rw [<-HW1.out] at kn ⊢
 refine kn.mono ?_
 clear kn
 rintro ev w2 ⟨rfl,q2,rfl⟩
 obtain ⟨b2,M2,W2,C2⟩:=Zbb half old card nW nC w1 q2
 have P2:=Zia half old card nW nC w1 q2
 have m7:=M2.c7
 generalize (Zin half old card nW nC w1).drewN q2=w2 at *
 have b12:=b1.trans (b2.mono b1.size)
 have hn2:=(b2.block _ (Z01 hn1)).trans hn1
 have c3:w2.cell? ⟨w.heap.size,3,none⟩=some (.int .i64 tn):=by rw [U06 _ _ 3 _ _ _ hn2];rfl
 have HB:=Z00 b12
 have HP2:=Z00 P2
 have HLP:Hid (w.heap.size<w1.heap.size):=Z01 hn1
 have HW2:=Z00 W2
 have HC2:=Z00 C2
 clear b1 hn1 b2 b12 hn2 M2 W2 C2 P2
 have ht':(decide (0<=tn) && decide (tn<=15))=true:=by simp [t0,t1]
 have hr':(decide (0<=(n:Int)) && decide ((n:Int)<=5000))=true:=by simp;omega
 have k1:=fun w=>Z0z tn 0 15 w
 have k2:=fun w=>Z0z n 0 5000 w
 rw [ht'] at k1
 rw [hr'] at k2
 clear ht' hr'
 go_wp2_with fail
 refine (k1 _).mono ?_
 rintro ev w3 ⟨rfl,rfl⟩
 go_wp2_with fail
 refine (k2 _).mono ?_
 rintro ev w3 ⟨rfl,rfl⟩
 clear k1 k2
 go_wp2_with fail
 have kr:=Zax 2 n (by omega) w3.heap.size 0 (w3.alloc (.cells #[.int .u64 2] 81)) (by rw [U06 _ _ 0 _ _ _ (U0b _ _)];rfl)
 obtain ⟨p,hp⟩:∃ p,p=w1.heap.size:=⟨_,rfl⟩
 rw [<-hp] at HLP HP2 HW2 HC2 m7 ⊢
 have HLG:Hid (p+2<w3.heap.size):=Z01 HC2.out
 clear hp
 refine kr.mono ?_
 clear kr
 rintro ev w4 ⟨g,rfl,hg,hgr,b4⟩
 have b34:Below w3.heap.size w3 w4:=((U01 _ _).alloc (U02 _) _).trans (b4.mono (by simp))
 have hg3:w3.heap.size<g:=by simp at hg;omega
 have p4:=(b34.block p (by have:=HLG.out;omega)).trans HP2.out
 have W4:=Z00 ((b34.block (p+1) (by have:=HLG.out;omega)).trans HW2.out)
 have C4:=Z00 ((b34.block (p+2) (by have:=HLG.out;omega)).trans HC2.out)
 have c34:=(b34.cell (p:=⟨w.heap.size,3,none⟩) (by have:=HLG.out;have:=HLP.out;show w.heap.size<_;omega)).trans c3
 have c74:=(b34.cell (p:=⟨p,7,none⟩) (by have:=HLG.out;show p<_;omega)).trans m7
 have HG:=Z00 hgr
 have HB4:Hid (Below w.heap.size w w4):=HB.out.trans (b34.mono HB.out.size)
 clear hg hgr b4 b34 c3 m7
 have HP4:=Z00 p4
 clear p4
 have fz:w4.frozen? ⟨p,7,none⟩=false:=by have h:=HP4.out;simp [World.frozen?,h]
 go_upto_region 7 with fail
 obtain ⟨w5,hw5⟩:∃ w5,w5=w4.setCell ⟨p,7,none⟩ (.slice (some ⟨g,0,none⟩) n n):=⟨_,rfl⟩
 have hlp:=HLP.out
 have hlg:=HLG.out
 have P5:Hid (w5.heap[p]?=some (.cells #[.int .i64 half,.int .i64 old,.int .i64 card,.slice (some ⟨p+1,0,none⟩) nW nW,.int .i64 0,.int .i64 0,.int .i64 0,.slice (some ⟨g,0,none⟩) n n,.slice none 0 0,.slice none 0 0,.slice (some ⟨p+2,0,none⟩) nC nC] 84)):=by
  show w5.heap[p]?=_
  rw [hw5];exact (Z06 HP4.out).trans rfl
 have W5:Hid (w5.heap[p+1]?=some (.cells (Array.replicate nW (.int .u64 0)) 81)):=by show w5.heap[p+1]?=_;rw [hw5,Z0a _ _ _ _ _ (by omega)];exact W4.out
 have C5:Hid (w5.heap[p+2]?=some (.cells (Array.replicate nC (.bool false)) 4)):=by show w5.heap[p+2]?=_;rw [hw5,Z0a _ _ _ _ _ (by omega)];exact C4.out
 have G5:Hid (w5.heap[g]?=some (.cells (Array.replicate n (.int .u64 2)) 81)):=by show w5.heap[g]?=_;rw [hw5,Z0a _ _ _ _ _ (by omega)];exact HG.out
 have B5:Hid (Below w.heap.size w w5):=by rw [hw5];exact HB4.out.setCell (by show w.heap.size<=p;omega) _
 have c35:w5.cell? ⟨w.heap.size,3,none⟩=some (.int .i64 tn):=by
  have h:=((U01 p w4).setCell (p:=⟨p,7,none⟩) (U02 p) (.slice (some ⟨g,0,none⟩) n n)).cell (p:=⟨w.heap.size,3,none⟩) hlp
  rw [hw5];exact h.trans c34
 rw [<-hw5]
 clear hw5 fz c34 c74 HB4 HG C4 W4 HP4
 go_wp2_with fail
 have ba:Below w5.heap.size w5 (w5.alloc (.cells #[.pointer (some ⟨p,0,none⟩),.int .i64 tn,.int .i64 0] 88)):=(U01 _ _).alloc (U02 _) _
 go_ret2
 exact ⟨w5.heap.size,p,g,rfl,by omega,by omega,Z01 G5.out,B5.out.alloc B5.out.size _,U0b _ _,(ba.block p (Z01 P5.out)).trans P5.out,(ba.block _ (Z01 W5.out)).trans W5.out,(ba.block g (Z01 G5.out)).trans G5.out,(ba.block _ (Z01 C5.out)).trans C5.out⟩
theorem HeapIs.at {q p bW bR bC nW nR nC:Nat}{half old card used top oldTop tn sr:Int}{cW cR cC:Array Value}{w:World} (h:HeapIs q p bW bR bC nW nR nC half old card used top oldTop tn sr cW cR cC w):HeapAt q p tn sr w:=
 ⟨Z01 h.hq,by rw [U06 _ _ 0 _ _ _ h.hq];rfl,by rw [U06 _ _ 1 _ _ _ h.hq];rfl,by rw [U06 _ _ 2 _ _ _ h.hq];rfl⟩
theorem HeapIs.rep {q p bW bR bC:Nat}{half old card used top oldTop tn sr:Int}{W R:List Int}{C:List Bool}{w:World} (h:HeapIs q p bW bR bC W.length R.length C.length half old card used top oldTop tn sr (Z05 W).toArray (Z05 R).toArray (Z0s C).toArray w) :
  Z86 p ⟨half,old,card,used,top,oldTop,W,R,[],[],C⟩ w:=by
 refine ⟨.slice (some ⟨bW,0,none⟩) W.length W.length,.slice (some ⟨bR,0,none⟩) R.length R.length,.slice none 0 0,.slice none 0 0,.slice (some ⟨bC,0,none⟩) C.length C.length,Z01 h.hp,?_,?_,?_,?_,?_,?_⟩
 ·constructor <;> (rw [U06 _ _ _ _ _ _ h.hp];rfl)
 ·refine ⟨_,_,rfl,U02 _,fun _=>⟨bW,rfl,Z01 h.hW,fun j u hj => ?_⟩⟩
  rw [U06 _ _ j _ _ _ h.hW,U3u]
  exact hj
 ·refine ⟨_,_,rfl,U02 _,fun _=>⟨bR,0,rfl,Z01 h.hR,fun j u hj => ?_⟩⟩
  rw [U1p,U06 _ _ j _ _ _ h.hR,U3u]
  exact hj
 ·exact ⟨none,0,rfl,U02 _,fun h=>absurd h (by simp)⟩
 ·exact ⟨none,0,rfl,U02 _,fun h=>absurd h (by simp)⟩
 ·refine ⟨_,_,rfl,U02 _,fun _=>⟨bC,rfl,Z01 h.hC,fun j u hj => ?_⟩⟩
  rw [U06 _ _ j _ _ _ h.hC,U3u]
  exact hj
def Z9j (half old card:Int) (nW nC n:Nat):MD:=⟨half,old,card,0,0,0,List.replicate nW 0,List.replicate n 2,[],[],List.replicate nC false⟩
theorem Zih {half old card:Int}{nW nC n:Nat} (hn:Z0c half old card) (hW:(nW:Int)=2*half+old) (hC:(nC:Int)=(old+card - 1) / card):(Z9j half old card nW nC n).Shape []:=by
 have e1:(Z9j half old card nW nC n).n1=(Z9j half old card nW nC n).n0:=by simp [MD.n1,MD.n0,Z9j]
 have e2:(Z9j half old card nW nC n).m1=(Z9j half old card nW nC n).m0:=by simp [MD.m1,MD.m0,Z9j]
 have hn':=hn
 unfold Z0c at hn'
 refine ⟨⟨hn,by simpa [Z9j] using hW,by simpa [Z9j] using hC,by simp [Z9j],by simp [Z9j],by simp [Z9j],?_,by simp [Z9j],?_⟩,?_,?_,?_⟩
 ·show (0:Int)<=half;omega
 ·show (0:Int)<=old;omega
 ·unfold MD.objs;rw [e1,e2,U28,U28];rfl
 ·unfold MD.holdB;rw [e1,e2,U28,U28];rfl
 ·unfold MD.restB
  have:(Z9j half old card nW nC n).R.all (Z0b (Z9j half old card nW nC n).W.length (fun i=>decide (i∈([]:List Nat))))=true:=by
   rw [U0m]
   intro x hx
   rw [(U39.1 hx).2]
   rfl
  rw [this]
  rfl
theorem Zi1 (half old card:Int) (nW nC n:Nat):(Z9j half old card nW nC n).cardsB=true:=by
 have e2:(Z9j half old card nW nC n).m1=(Z9j half old card nW nC n).m0:=by simp [MD.m1,MD.m0,Z9j]
 unfold MD.cardsB
 rw [e2,U28]
 rfl
theorem Zrr (half old card:Int) (nW nC n:Nat):MD64 (Z9j half old card nW nC n):=
 ⟨(fun x hx=>by rw [(U39.1 hx).2];decide),(fun x hx=>by rw [(U39.1 hx).2];decide),(fun x hx=>by cases hx),(fun x hx=>by cases hx)⟩
def cell0:Value:=.agg #[.int .i64 0,.int .i64 0,.pointer none]
structure ModelAt (q b n:Nat) (w:World):Prop where
 lq:q<w.heap.size
 lb:b<w.heap.size
 c0:w.cell? ⟨q,0,none⟩=some (.slice (some ⟨b,0,none⟩) n n)
 k0:∀ k<n,w.cell? ⟨b,k*3,none⟩=some (.int .i64 0)
 k1:∀ k<n,w.cell? ⟨b,k*3+1,none⟩=some (.int .i64 0)
 k2:∀ k<n,w.cell? ⟨b,k*3+2,none⟩=some (.pointer none)
theorem ModelAt.below {q b n:Nat}{w w':World} (h:ModelAt q b n w) (hb:Below w.heap.size w w'):ModelAt q b n w' where
 lq:=U0r h.lq hb.size
 lb:=U0r h.lb hb.size
 c0:=(hb.cell (p:=⟨q,0,none⟩) h.lq).trans h.c0
 k0 k hk:=(hb.cell (p:=⟨b,k*3,none⟩) h.lb).trans (h.k0 k hk)
 k1 k hk:=(hb.cell (p:=⟨b,k*3+1,none⟩) h.lb).trans (h.k1 k hk)
 k2 k hk:=(hb.cell (p:=⟨b,k*3+2,none⟩) h.lb).trans (h.k2 k hk)
structure HEnv (a:Nat->Addr) (w:World):Prop where
 errs:MErr a w
 tab:Z2b w
 tz:Zem w
theorem HEnv.below {a:Nat->Addr}{w w':World} (h:HEnv a w) (hb:Below w.heap.size w w'):HEnv a w':=⟨h.errs.below hb,h.tab.below hb (U02 _),h.tz.below hb (U02 _)⟩
theorem HEnv.me {a:Nat->Addr}{w:World} (h:HEnv a w):MErr3 a w:=⟨h.errs.c1,h.errs.c2,h.errs.c4⟩
theorem HEnv.we {a:Nat->Addr}{w:World} (h:HEnv a w):WErr a w:=⟨h.errs.c1,h.errs.c2⟩
theorem Zsg (q p:Nat) (half top:Int) (h0:0<=top) (h1:top<=half) (h2:half<=65536) (w:World) (c0:w.cell? ⟨q,0,none⟩=some (.pointer (some ⟨p,0,none⟩))) (m0:w.cell? ⟨p,0,none⟩=some (.int .i64 half)) (m5:w.cell? ⟨p,5,none⟩=some (.int .i64 top)) :
  Calls prog 168 #[.pointer (some ⟨q,0,none⟩)] w fun ev w'=>ev = .returned (.int .i64 (half - top)) /\ ∃ k,w'=w.drewN k:=by
 go_enter func168,ntmps168
 go_wp2_with fail
 go_quiet (fail)
 go_wp2_with fail
 go_ret
 exact ⟨rfl,_,rfl⟩
section
variable {q p bW bR bC nW nR nC:Nat}{half old card used top oldTop tn sr:Int}{cW cR cC:Array Value}{w w':World}
theorem HeapIs.below (H:HeapIs q p bW bR bC nW nR nC half old card used top oldTop tn sr cW cR cC w) (hb:Below w.heap.size w w'):HeapIs q p bW bR bC nW nR nC half old card used top oldTop tn sr cW cR cC w':=
 ⟨(hb.block _ (Z01 H.hq)).trans H.hq,(hb.block _ (Z01 H.hp)).trans H.hp,(hb.block _ (Z01 H.hW)).trans H.hW,(hb.block _ (Z01 H.hR)).trans H.hR,(hb.block _ (Z01 H.hC)).trans H.hC⟩
theorem HeapIs.ne (H:HeapIs q p bW bR bC nW nR nC half old card used top oldTop tn sr cW cR cC w):q≠p/\q≠bW/\q≠bR/\q≠bC/\p≠bW/\p≠bR/\p≠bC/\bW≠bC/\bR≠bC:=by
 refine ⟨?_,?_,?_,?_,?_,?_,?_,?_,?_⟩
 ·rintro rfl;have:=H.hq.symm.trans H.hp;simp at this
 ·rintro rfl;have:=H.hq.symm.trans H.hW;simp at this
 ·rintro rfl;have:=H.hq.symm.trans H.hR;simp at this
 ·rintro rfl;have:=H.hq.symm.trans H.hC;simp at this
 ·rintro rfl;have:=H.hp.symm.trans H.hW;simp at this
 ·rintro rfl;have:=H.hp.symm.trans H.hR;simp at this
 ·rintro rfl;have:=H.hp.symm.trans H.hC;simp at this
 ·rintro rfl;have:=H.hW.symm.trans H.hC;simp at this
 ·rintro rfl;have:=H.hR.symm.trans H.hC;simp at this
theorem HeapIs.setTop (H:HeapIs q p bW bR bC nW nR nC half old card used top oldTop tn sr cW cR cC w) (v:Int):HeapIs q p bW bR bC nW nR nC half old card used v oldTop tn sr cW cR cC (w.setCell ⟨p,5,none⟩ (.int .i64 v)):=by
 obtain ⟨n1,n2,n3,n4,n5,n6,n7,n8,n9⟩:=H.ne
 exact ⟨(Z0a _ _ _ _ _ n1).trans H.hq,Z06 H.hp,(Z0a _ _ _ _ _ n5.symm).trans H.hW,(Z0a _ _ _ _ _ n6.symm).trans H.hR,(Z0a _ _ _ _ _ n7.symm).trans H.hC⟩
theorem HeapIs.setWord (H:HeapIs q p bW bR bC nW nR nC half old card used top oldTop tn sr cW cR cC w) (hWR:bW≠bR) (r:Nat) (v:Value):HeapIs q p bW bR bC nW nR nC half old card used top oldTop tn sr (cW.setIfInBounds r v) cR cC (w.setCell ⟨bW,r,none⟩ v):=by
 obtain ⟨n1,n2,n3,n4,n5,n6,n7,n8,n9⟩:=H.ne
 exact ⟨(Z0a _ _ _ _ _ n2).trans H.hq,(Z0a _ _ _ _ _ n5).trans H.hp,Z06 H.hW,(Z0a _ _ _ _ _ hWR.symm).trans H.hR,(Z0a _ _ _ _ _ n8.symm).trans H.hC⟩
theorem HeapIs.words (H:HeapIs q p bW bR bC nW nR nC half old card used top oldTop tn sr cW cR cC w) (hWR:bW≠bR) (c:Array Value) (ha:Apart bW w w') (hg:w'.heap[bW]?=some (.cells c 81)):HeapIs q p bW bR bC nW nR nC half old card used top oldTop tn sr c cR cC w':=by
 obtain ⟨n1,n2,n3,n4,n5,n6,n7,n8,n9⟩:=H.ne
 exact ⟨(ha.block _ n2).trans H.hq,(ha.block _ n5).trans H.hp,hg,(ha.block _ hWR.symm).trans H.hR,(ha.block _ n8.symm).trans H.hC⟩
theorem HeapIs.cells (H:HeapIs q p bW bR bC nW nR nC half old card used top oldTop tn sr cW cR cC w):w.cell? ⟨q,0,none⟩=some (.pointer (some ⟨p,0,none⟩))/\w.cell? ⟨p,0,none⟩=some (.int .i64 half)/\w.cell? ⟨p,3,none⟩=some (.slice (some ⟨bW,0,none⟩) nW nW)/\w.cell? ⟨p,4,none⟩=some (.int .i64 used)/\w.cell? ⟨p,5,none⟩=some (.int .i64 top)/\w.cell? ⟨p,7,none⟩=some (.slice (some ⟨bR,0,none⟩) nR nR):=by
 refine ⟨?_,?_,?_,?_,?_,?_⟩
 ·rw [U06 _ _ _ _ _ _ H.hq];rfl
 all_goals (rw [U06 _ _ _ _ _ _ H.hp];rfl)
theorem Zk3 {b o:Nat}{c:Array Value}{t:TypeId} (h:w.heap[b]?=some (.cells c t)):w.frozen? ⟨b,o,none⟩=false:=by simp [World.frozen?,h]
end
end Go.Proofs.YtlkcbdinlfeoiaaGreatDoor
