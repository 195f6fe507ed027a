/- Byte, Quoted of the document, Quote, by contracts (CodS, CodT over the heap's base). -/
import Derived.Test.YtlkcbdinlfeoiaaGreatDoorKvA
import Derived.Test.YtlkcbdinlfeoiaaGreatDoorKsA
namespace Go.Proofs.YtlkcbdinlfeoiaaGreatDoor
open Go.Proofs.Tryz Go.RowKit
set_option maxHeartbeats 8000000
set_option maxRecDepth 100000
set_option linter.unusedSimpArgs false
def Z3f (n:Nat):UInt8:=([48,49,50,51,52,53,54,55,56,57,97,98,99,100,101,102]:List UInt8).getD n 0
def Z7x (c:UInt8):List UInt8:=
 if c.toNat=10 then [92,110]
 else if c.toNat=34 then [92,34]
 else if c.toNat=92 then [92,92]
 else if c.toNat<32\/126<c.toNat then [92,120,Z3f (c.toNat / 16),Z3f (c.toNat % 16)]
 else [c]
def outB (l:List UInt8):ByteArray:=⟨([34]++l.flatMap Z7x).toArray⟩
def Z2l (l:List UInt8):ByteArray:=⟨([34]++l.flatMap Z7x ++ [34]).toArray⟩
theorem Zpg (c:UInt8):(Z7x c).length<=4:=by
 unfold Z7x
 repeat (first | split | simp)
theorem Zbl:∀ l:List UInt8,(l.flatMap Z7x).length<=4*l.length
 | []=>by simp
 | c::r=>by
  have:=Zpg c
  have:=Zbl r
  simp only [U4j,U0f,U1e]
  omega
theorem Ze5 (l:List UInt8):(outB l).size<=4*l.length+1:=by
 have:=Zbl l
 simp only [outB,ByteArray.size,U2i,U0f,U1e,U2t]
 omega
theorem Zdv (l:List UInt8):Z2l l=outB l++⟨#[34]⟩:=by
 apply U59
 simp [Z2l,outB]
theorem Zjz (s:ByteArray) (k:Nat) (h:k<s.size):s.data.toList.take (k+1)=s.data.toList.take k ++ [s[k]]:=by
 rw [U4p (by simpa using h)];rfl
theorem Z7b {n:Nat}{z:Int} (h:((n:Int) == z)=true):(n:Int)=z:=by simpa using h
theorem Z5y {n:Nat}{z:Int} (h:((n:Int) == z)=false):¬ (n:Int)=z:=by simpa using h
theorem Zi8 (c:UInt8):(c.toNat=10/\Z7x c = [92,110])\/(c.toNat=34/\Z7x c = [92,34])\/(c.toNat=92/\Z7x c = [92,92])\/Z7x c = [92,120,Z3f (c.toNat / 16),Z3f (c.toNat % 16)]\/(Z7x c = [c]/\c.toNat≠34/\c.toNat≠92/\32<=c.toNat/\c.toNat<=126):=by
 unfold Z7x
 split
 ·exact .inl ⟨by assumption,rfl⟩
 ·split
  ·exact .inr (.inl ⟨by assumption,rfl⟩)
  ·split
   ·exact .inr (.inr (.inl ⟨by assumption,rfl⟩))
   ·split
    ·exact .inr (.inr (.inr (.inl rfl)))
    ·exact .inr (.inr (.inr (.inr ⟨rfl,by assumption,by assumption,by omega,by omega⟩)))
theorem Zbt (w:World):Lib.IsBuilderF 163 5 w.heap.size w.heap.size [] (w.alloc (.cells #[.pointer none,.slice none 0 0] 163)):=
 Lib.IsBuilderF.of (.inl ⟨U02 _,.slice none 0 0,U0b _ _,U3t _ _ _ _,by simp [Value.ownBlock]⟩)
theorem Zh6 (n:Nat) (h:n<16) (h':n<(⟨#[48,49,50,51,52,53,54,55,56,57,97,98,99,100,101,102]⟩:ByteArray).size):(⟨#[48,49,50,51,52,53,54,55,56,57,97,98,99,100,101,102]⟩:ByteArray)[n].toNat=(Z3f n).toNat:=by
 iterate 16 (rcases n with _ | n;· rfl)
 omega
theorem Zmw (s:ByteArray) (hs:s.size<=1048576) (w:World) :
  Calls prog 108 #[.string s] w fun ev w'=>ev = .returned (.string (Z2l s.data.toList))/\Below w.heap.size w w':=by
 have hf:=Zbt w
 have hb0:Below w.heap.size w (w.alloc (.cells #[.pointer none,.slice none 0 0] 163)):=(U01 _ _).alloc (U02 _) _
 go_enter func108,ntmps108
 go_wp2_with fail
 refine (Z91 w.heap.size w.heap.size [] 34 _ hf (by simp) (by simp)).mono ?_
 rintro ev w1 ⟨rfl,hB1,hb1,_⟩
 have hb1w:Below w.heap.size w w1:=hb0.trans hb1
 clear hf hb0 hb1
 go_wp2_with fail
 go_loopg [9] (s.size+1) (fun gk v9 wr => ∃ k:Nat,gk=s.size+1 - k/\k<=s.size/\v9 = .int .i64 (k:Int)/\Lib.IsBuilderF 163 5 w.heap.size w.heap.size (Lib.byteCells ([34]++(s.data.toList.take k).flatMap Z7x)) wr/\Below w.heap.size w wr)
 case atStart=>exact ⟨0,rfl,U0x _,rfl,hB1,hb1w⟩
 case round =>
  obtain ⟨k,hgk,hk,hv,hB,hb⟩:=hrel
  subst hv
  have HG:Hid (gk=s.size+1 - k):=hgk
  clear hgk hB1 hb1w
  have hk0:(0:Int)<=(k:Int):=by omega
  have hfl:=Zbl (s.data.toList.take k)
  have htl:(s.data.toList.take k).length<=k:=List.length_take_le _ _
  have hcl:(Lib.byteCells ([34]++(s.data.toList.take k).flatMap Z7x)).length<=4194305:=by
   rw [U3z,U0f]
   simp only [U1e,U2t]
   omega
  have hsz:=hb.size
  by_cases hlt:k<s.size
  ·have hI:(k:Int)<(s.size:Int):=by omega
   have hts:=Zjz s k hlt
   have HSN:Hid (Lib.byteCells ([34]++(s.data.toList.take (k+1)).flatMap Z7x)=Lib.byteCells ([34]++(s.data.toList.take k).flatMap Z7x)++Lib.byteCells (Z7x s[k])):=by
    show _=_
    rw [hts,<-U40]
    simp
   clear hts hfl htl
   have hc1:s[k].toNat<=255:=by have:=s[k].toNat_lt;omega
   have hC1:(s[k].toNat:Int)<=255:=by omega
   have hC0:(0:Int)<=(s[k].toNat:Int):=by omega
   generalize Lib.byteCells ([34]++(s.data.toList.take k).flatMap Z7x)=bs at hB hcl HSN
   cases e10:((s[k].toNat:Int) == 10)
   rotate_left
   ·go_wp2_with fail
    refine (Zg2 w.heap.size w.heap.size bs ⟨#[92,110]⟩ _ hB (by have:(⟨#[92,110]⟩:ByteArray).size=2:=rfl;omega) hsz).mono ?_
    rintro ev w2 ⟨rfl,hB2,hb2,_⟩
    go_wp2_with fail
    go_roundg (s.size+1 - (k+1))
    case measure=>have:=HG.out;omega
    case rel =>
     refine ⟨k+1,rfl,by omega,by go_num,?_,hb.trans hb2⟩
     rw [HSN.out]
     have e:Z7x s[k] = [92,110]:=by simp [Z7x,show s[k].toNat=10 by have:=Z7b e10;omega]
     rw [e]
     exact hB2
   have n10:¬ s[k].toNat=10:=by have:=Z5y e10;omega
   cases e34:((s[k].toNat:Int) == 34)
   rotate_left
   ·go_wp2_with fail
    refine (Z91 w.heap.size w.heap.size bs 92 _ hB (by omega) hsz).mono ?_
    rintro ev w2 ⟨rfl,hB2,hb2,_⟩
    have hsz2:=(hb.trans hb2).size
    go_wp2_with fail
    refine (Z91 w.heap.size w.heap.size _ (s[k].toNat:Int) _ hB2 (by simp;omega) hsz2).mono ?_
    rintro ev w3 ⟨rfl,hB3,hb3,_⟩
    go_wp2_with fail
    go_roundg (s.size+1 - (k+1))
    case measure=>have:=HG.out;omega
    case rel =>
     refine ⟨k+1,rfl,by omega,by go_num,?_,(hb.trans hb2).trans hb3⟩
     rw [HSN.out]
     have e:Z7x s[k] = [92,s[k]]:=by
      have h34:s[k].toNat=34:=by have:=Z7b e34;omega
      have h34':s[k]=34:=UInt8.toNat_inj.mp h34
      rw [h34']
      rfl
     rw [e]
     have e2:bs++Lib.byteCells [92,s[k]]=bs ++ [.int .u8 92] ++ [.int .u8 (s[k].toNat:Int)]:=by simp [Lib.byteCells]
     rw [e2]
     exact hB3
   have n34:¬ s[k].toNat=34:=by have:=Z5y e34;omega
   cases e92:((s[k].toNat:Int) == 92)
   rotate_left
   ·go_wp2_with fail
    refine (Z91 w.heap.size w.heap.size bs 92 _ hB (by omega) hsz).mono ?_
    rintro ev w2 ⟨rfl,hB2,hb2,_⟩
    have hsz2:=(hb.trans hb2).size
    go_wp2_with fail
    refine (Z91 w.heap.size w.heap.size _ (s[k].toNat:Int) _ hB2 (by simp;omega) hsz2).mono ?_
    rintro ev w3 ⟨rfl,hB3,hb3,_⟩
    go_wp2_with fail
    go_roundg (s.size+1 - (k+1))
    case measure=>have:=HG.out;omega
    case rel =>
     refine ⟨k+1,rfl,by omega,by go_num,?_,(hb.trans hb2).trans hb3⟩
     rw [HSN.out]
     have e:Z7x s[k] = [92,s[k]]:=by
      have h92:s[k].toNat=92:=by have:=Z7b e92;omega
      have h92':s[k]=92:=UInt8.toNat_inj.mp h92
      rw [h92']
      rfl
     rw [e]
     have e2:bs++Lib.byteCells [92,s[k]]=bs ++ [.int .u8 92] ++ [.int .u8 (s[k].toNat:Int)]:=by simp [Lib.byteCells]
     rw [e2]
     exact hB3
   have n92:¬ s[k].toNat=92:=by have:=Z5y e92;omega
   by_cases hout:s[k].toNat<32\/126<s[k].toNat
   ·have HE:Hid (Z7x s[k] = [92,120,Z3f (s[k].toNat / 16),Z3f (s[k].toNat % 16)]):=by
     show _=_
     rcases Zi8 s[k] with h | h | h | h | h
     ·omega
     ·omega
     ·omega
     ·exact h
     ·omega
    rcases hout with h32 | h126
    ·have hI32:(s[k].toNat:Int)<32:=by omega
     go_wp2_with fail
     refine (Zg2 w.heap.size w.heap.size bs ⟨#[92,120]⟩ _ hB (by have:(⟨#[92,120]⟩:ByteArray).size=2:=rfl;omega) hsz).mono ?_
     rintro ev w2 ⟨rfl,hB2,hb2,_⟩
     have hsz2:=(hb.trans hb2).size
     have hl2:(bs++Lib.strCells ⟨#[92,120]⟩).length<=4194307:=by rw [U0f,U51];have:(⟨#[92,120]⟩:ByteArray).size=2:=rfl;omega
     go_wp2_with fail
     refine (Z91 w.heap.size w.heap.size _ _ _ hB2 (by omega) hsz2).mono ?_
     rintro ev w3 ⟨rfl,hB3,hb3,_⟩
     have hb23:=hb2.trans hb3
     have hsz3:=(hb.trans hb23).size
     rw [Zh6 _ (by omega)] at hB3
     go_wp2_with fail
     refine (Z91 w.heap.size w.heap.size _ _ _ hB3 (by rw [U0f];simp only [U1e,U2t];omega) hsz3).mono ?_
     rintro ev w4 ⟨rfl,hB4,hb4,_⟩
     rw [Zh6 _ (by omega)] at hB4
     go_wp2_with fail
     go_roundg (s.size+1 - (k+1))
     case measure=>have:=HG.out;omega
     case rel =>
      refine ⟨k+1,rfl,by omega,by go_num,?_,(hb.trans hb23).trans hb4⟩
      rw [HSN.out,HE.out]
      have e2:bs++Lib.byteCells [92,120,Z3f (s[k].toNat / 16),Z3f (s[k].toNat % 16)]=bs++Lib.strCells ⟨#[92,120]⟩ ++ [.int .u8 ((Z3f (s[k].toNat / 16)).toNat:Int)] ++ [.int .u8 ((Z3f (s[k].toNat % 16)).toNat:Int)]:=by simp [Lib.byteCells,Lib.strCells]
      rw [e2]
      exact hB4
    ·have hI32:¬ (s[k].toNat:Int)<32:=by omega
     have hI126:126<(s[k].toNat:Int):=by omega
     go_wp2_with fail
     refine (Zg2 w.heap.size w.heap.size bs ⟨#[92,120]⟩ _ hB (by have:(⟨#[92,120]⟩:ByteArray).size=2:=rfl;omega) hsz).mono ?_
     rintro ev w2 ⟨rfl,hB2,hb2,_⟩
     have hsz2:=(hb.trans hb2).size
     have hl2:(bs++Lib.strCells ⟨#[92,120]⟩).length<=4194307:=by rw [U0f,U51];have:(⟨#[92,120]⟩:ByteArray).size=2:=rfl;omega
     go_wp2_with fail
     refine (Z91 w.heap.size w.heap.size _ _ _ hB2 (by omega) hsz2).mono ?_
     rintro ev w3 ⟨rfl,hB3,hb3,_⟩
     have hb23:=hb2.trans hb3
     have hsz3:=(hb.trans hb23).size
     rw [Zh6 _ (by omega)] at hB3
     go_wp2_with fail
     refine (Z91 w.heap.size w.heap.size _ _ _ hB3 (by rw [U0f];simp only [U1e,U2t];omega) hsz3).mono ?_
     rintro ev w4 ⟨rfl,hB4,hb4,_⟩
     rw [Zh6 _ (by omega)] at hB4
     go_wp2_with fail
     go_roundg (s.size+1 - (k+1))
     case measure=>have:=HG.out;omega
     case rel =>
      refine ⟨k+1,rfl,by omega,by go_num,?_,(hb.trans hb23).trans hb4⟩
      rw [HSN.out,HE.out]
      have e2:bs++Lib.byteCells [92,120,Z3f (s[k].toNat / 16),Z3f (s[k].toNat % 16)]=bs++Lib.strCells ⟨#[92,120]⟩ ++ [.int .u8 ((Z3f (s[k].toNat / 16)).toNat:Int)] ++ [.int .u8 ((Z3f (s[k].toNat % 16)).toNat:Int)]:=by simp [Lib.byteCells,Lib.strCells]
      rw [e2]
      exact hB4
   ·have hI32:¬ (s[k].toNat:Int)<32:=by omega
    have hI126:¬ 126<(s[k].toNat:Int):=by omega
    have HE:Hid (Z7x s[k] = [s[k]]):=by
     show _=_
     simp [Z7x,n10,n34,n92,hout]
    go_wp2_with fail
    refine (Z91 w.heap.size w.heap.size bs (s[k].toNat:Int) _ hB (by omega) hsz).mono ?_
    rintro ev w2 ⟨rfl,hB2,hb2,_⟩
    go_wp2_with fail
    go_roundg (s.size+1 - (k+1))
    case measure=>have:=HG.out;omega
    case rel =>
     refine ⟨k+1,rfl,by omega,by go_num,?_,hb.trans hb2⟩
     rw [HSN.out,HE.out]
     exact hB2
  ·obtain rfl:k=s.size:=by omega
   have hI:¬ ((s.size:Nat):Int)<(s.size:Int):=by omega
   go_wp2_with fail
   refine (Z91 w.heap.size w.heap.size _ 34 _ hB (by omega) hsz).mono ?_
   rintro ev w2 ⟨rfl,hB2,hb2,_⟩
   have hsz2:=(hb.trans hb2).size
   have HB:Lib.IsBuilderF 163 5 w.heap.size w.heap.size (Lib.byteCells ([34]++s.data.toList.flatMap Z7x ++ [34])) w2:=by
    rw [U40]
    rw [U13 (by simp)] at hB2
    exact hB2
   go_wp2_with fail
   refine (Zry w.heap.size w.heap.size _ _ HB hsz2).mono ?_
   rintro ev w3 ⟨rfl,hb3⟩
   go_wp2_with fail
   go_ret
   exact ⟨rfl,(hb.trans hb2).trans hb3⟩
theorem Zey (q p b nW cW f sz:Nat) (k g mk:Int) (hfit:f+1+sz<=nW) (hl:nW<=1000000) (hc:nW<=cW) (h0:0<sz) (w:World) (d0:w.cell? ⟨q,0,none⟩=some (.pointer (some ⟨p,0,none⟩))) (d3:w.cell? ⟨p,3,none⟩=some (.slice (some ⟨b,0,none⟩) nW cW)) :
  Calls prog 159 #[.pointer (some ⟨q,0,none⟩),.int .i64 (f:Int),.agg #[.int .i64 k,.int .i64 g,.int .i64 mk,.int .i64 (sz:Int)]] w fun ev w'=>ev = .returned (.slice (some ⟨b,f+1,none⟩) sz (cW - (f+1)))/\Below w.heap.size w w':=by
 have e1:IntKind.i64.wrap ((f:Int)+1)=(f:Int)+1:=Z18 _ (by omega) (by omega)
 have e2:IntKind.i64.wrap ((f:Int)+1+(sz:Int))=(f:Int)+1+(sz:Int):=Z18 _ (by omega) (by omega)
 have s0:(0:Int)<=(f:Int)+1:=by omega
 have s1:(f:Int)+1<=(f:Int)+1+(sz:Int):=by omega
 have s2:(f:Int)+1+(sz:Int)<=(cW:Int):=by omega
 have bA:Below w.heap.size w (w.alloc (.cells #[.int .i64 k,.int .i64 g,.int .i64 mk,.int .i64 (sz:Int)] 172)).drew:=((U01 _ _).alloc (U02 _) _).drew
 have d0':=(bA.cell (p:=⟨q,0,none⟩) (Z02 d0)).trans d0
 have d3':=(bA.cell (p:=⟨p,3,none⟩) (Z02 d3)).trans d3
 have dh:(w.alloc (.cells #[.int .i64 k,.int .i64 g,.int .i64 mk,.int .i64 (sz:Int)] 172)).drew.cell? ⟨w.heap.size,3,none⟩=some (.int .i64 (sz:Int)):=by
  show (w.alloc _).cell? _=_
  rw [U06 _ _ _ _ _ _ (U0b _ _)]
  rfl
 have HBA:=Z00 bA
 clear bA
 go_enter func159,ntmps159
 go_wp2
 go_region
 go_wp2
 go_ret
 exact ⟨by rw [show f+1+sz - (f+1)=sz by omega];rfl,HBA.out⟩
theorem Zl4 (q p b nW cW f nw sz:Nat) (t:ByteArray) (ht:t.size<=2000) (hnw:nw=(t.size+7) / 8) (hsz:sz=1+nw) (k g mk:Int) (hfit:f+1+sz<=nW) (hl:nW<=1000000) (hc:nW<=cW) (w:World) (d0:w.cell? ⟨q,0,none⟩=some (.pointer (some ⟨p,0,none⟩))) (d3:w.cell? ⟨p,3,none⟩=some (.slice (some ⟨b,0,none⟩) nW cW))
  (hW:∀ j x,(Z22 t)[j]?=some x->w.cell? ⟨b,f+1+j,none⟩=some (.int .u64 x)) :
  Calls prog 107 #[.pointer (some ⟨q,0,none⟩),.int .i64 (f:Int),.agg #[.int .i64 k,.int .i64 g,.int .i64 mk,.int .i64 (sz:Int)]] w fun ev w'=>ev = .returned (.tuple #[.string t,.nilIface])/\Below w.heap.size w w':=by
 have bA:Below w.heap.size w (w.alloc (.cells #[.int .i64 k,.int .i64 g,.int .i64 mk,.int .i64 (sz:Int)] 172)):=(U01 _ _).alloc (U02 _) _
 have kf:=Zey q p b nW cW f sz k g mk hfit hl hc (by omega) (w.alloc (.cells #[.int .i64 k,.int .i64 g,.int .i64 mk,.int .i64 (sz:Int)] 172)) ((bA.cell (p:=⟨q,0,none⟩) (Z02 d0)).trans d0) ((bA.cell (p:=⟨p,3,none⟩) (Z02 d3)).trans d3)
 have h0:w.cell? ⟨b,f+1,none⟩=some (.int .u64 (t.size:Int)):=hW 0 _ rfl
 obtain ⟨n,hn⟩:∃ n,n=t.size:=⟨_,rfl⟩
 obtain ⟨s1,hs1⟩:∃ s1,s1=sz - 1:=⟨_,rfl⟩
 obtain ⟨cX,hcX⟩:∃ cX,cX=cW - (f+1):=⟨_,rfl⟩
 have HWW:Hid (∀ W,Below w.heap.size w W->Calls prog 160 #[.slice (if cX=1 then some ⟨b,f+1,none⟩ else some ⟨b,f+1+1,none⟩) s1 (cX - 1),.int .i64 (n:Int)] W fun ev w'=>ev = .returned (.tuple #[.string t,.nilIface])/\Below W.heap.size W w'):=fun W hb=>by
  have e:strOfNums ((List.range t.size).map fun i=>((tb (wv t t.size) i:Nat):Int))=t:=Zay t
  have e3:s1=nw:=by omega
  rw [e3,hn]
  by_cases c1:cX=1
  ·rw [U09 c1]
   have kt:=Zkt (wv t t.size) b (f+1) nw (cX - 1) t.size (by omega) (by omega) W (fun i hi=>absurd hi (by omega))
   rw [e] at kt
   exact kt
  ·rw [U08 c1]
   have kt:=Zkt (wv t t.size) b (f+1+1) nw (cX - 1) t.size (by omega) (by omega) W (fun i hi=>by
    have c:=hW (1+i) _ (Zha (t:=t) (i:=i) (by omega))
    rw [<-U2f] at c
    exact (hb.cell (p:=⟨b,f+1+1+i,none⟩) (Z02 c)).trans c)
   rw [e] at kt
   exact kt
 rw [<-hn] at h0
 have HL:Hid (∀ W,Below w.heap.size w W->W.cell? ⟨b,f+1,none⟩=some (.int .u64 (n:Int))):=fun W hb=>(hb.cell (p:=⟨b,f+1,none⟩) (Z02 h0)).trans h0
 have e1:IntKind.i64.wrap (n:Int)=(n:Int):=Z18 _ (by omega) (by omega)
 have l0:(0:Int)<(sz:Int):=by omega
 have l1:(1:Int)<=(sz:Int):=by omega
 have l2:0<sz:=by omega
 have l3:1<=sz:=by omega
 have HS1:=Z00 hs1
 have HBA:=Z00 bA
 rw [<-hcX] at kf
 clear hW h0 d0 d3 hfit hnw hsz hn bA ht hs1 hcX hc hl
 go_enter func107,ntmps107
 go_wp2_with fail
 refine kf.mono ?_
 clear kf
 rintro ev w1 ⟨rfl,b1⟩
 have B1:Hid (Below w.heap.size w w1):=HBA.out.trans (b1.mono HBA.out.size)
 have c0:=HL.out w1 B1.out
 have c0':=HL.out w1.drew B1.out.drew
 have kt:=HWW.out w1.drew B1.out.drew
 clear b1
 go_upto_region 2 with fail
 have kt':Hid (Calls prog 160 #[.slice (if cX=1 then some ⟨b,f+1,none⟩ else some ⟨b,f+1+1,none⟩) s1 (cX - 1),.int .i64 (n:Int)] w1.drew fun ev w'=>(ev = .returned (.tuple #[.string t,.nilIface])/\Hid (Below w.heap.size w w'))/\w'.cell? ⟨b,f+1,none⟩=some (.int .u64 (n:Int))):=kt.mono fun ev w' r=>⟨⟨r.1,B1.out.drew.trans (r.2.mono B1.out.drew.size)⟩,HL.out _ (B1.out.drew.trans (r.2.mono B1.out.drew.size))⟩
 have C0:=Z00 c0
 have C1:=Z00 c0'
 clear kt c0'
 refine U3n (S:=(fun W=>W.cell? ⟨b,f+1,none⟩=some (.int .u64 (n:Int)))) (by kernel_rfl) C1.out (fun hHeld => ?_)
 refine U0h (i:=0) (oi:={ dst:=some 13,op:=_,type:=_,pos:=_,after:=_,guard:=_ }) (v:=?v0) rfl (by kernel_rfl) (by kernel_rfl) (by kernel_rfl) (fun _ _ _ h=>h) (Or.inl ⟨by rfl,?y0⟩) hHeld ?r0
 case y0=>(intro wz hSw;(try dsimp only at hSw);go_simp;try with_reducible rfl)
 case r0 =>
 try simp only [Act.put,U00,U04,U05]
 refine U0h (i:=1) (oi:={ dst:=some 14,op:=_,type:=_,pos:=_,after:=_,guard:=_ }) (v:=?v1) rfl (by kernel_rfl) (by kernel_rfl) (by kernel_rfl) (fun _ _ _ h=>h) (Or.inl ⟨by rfl,?y1⟩) hHeld ?r1
 case y1=>(intro wz hSw;(try dsimp only at hSw);go_simp;try with_reducible rfl)
 case r1 =>
 try simp only [Act.put,U00,U04,U05]
 refine U0h (i:=2) (oi:={ dst:=some 15,op:=_,type:=_,pos:=_,after:=_,guard:=_ }) (v:=?v2) rfl (by kernel_rfl) (by kernel_rfl) (by kernel_rfl) (fun _ _ _ h=>h) (Or.inl ⟨by rfl,?y2⟩) hHeld ?r2
 case y2=>(intro wz hSw;(try dsimp only at hSw);go_simp;try with_reducible rfl)
 case r2 =>
 try simp only [Act.put,U00,U04,U05]
 refine U0h (i:=3) (oi:={ dst:=some 16,op:=_,type:=_,pos:=_,after:=_,guard:=_ }) (v:=?v3) rfl (by kernel_rfl) (by kernel_rfl) (by kernel_rfl) (fun _ _ _ h=>h) (Or.inl ⟨by rfl,?y3⟩) hHeld ?r3
 case y3=>(intro wz hSw;(try dsimp only at hSw);go_simp;try with_reducible rfl)
 case r3 =>
 try simp only [Act.put,U00,U04,U05]
 refine U0h (i:=4) (oi:={ dst:=some 17,op:=_,type:=_,pos:=_,after:=_,guard:=_ }) (v:=?v4) rfl (by kernel_rfl) (by kernel_rfl) (by kernel_rfl) (fun _ _ _ h=>h) (Or.inl ⟨by rfl,?y4⟩) hHeld ?r4
 case y4=>(intro wz hSw;(try dsimp only at hSw);go_simp;try with_reducible rfl)
 case r4 =>
 try simp only [Act.put,U00,U04,U05]
 refine U0h (i:=5) (oi:={ dst:=some 18,op:=_,type:=_,pos:=_,after:=_,guard:=_ }) (v:=?v5) rfl (by kernel_rfl) (by kernel_rfl) (by kernel_rfl) (fun _ _ _ h=>h) (Or.inl ⟨by rfl,?y5⟩) hHeld ?r5
 case y5=>(intro wz hSw;(try dsimp only at hSw);go_simp;try with_reducible rfl)
 case r5 =>
 try simp only [Act.put,U00,U04,U05]
 refine U11 (rs:=[6]) (by kernel_rfl) (by simp) ?_
 refine U0s (o:={ dst:=some 19,op:=_,type:=_,pos:=_,after:=_,guard:=_ }) rfl (fun K hK => ?_) U0z
 go_simp
 go_at_call 160
 rw [<-HS1.out]
 refine kt'.out.mono ?_
 rintro ev w3 ⟨⟨rfl,HB3⟩,hS⟩
 refine hK.out _ _ (hS) (fun hHeld => ?_)
 clear hK K
 try simp only [Act.put,U00,U04,U05]
 refine U0h (i:=7) (oi:={ dst:=some 20,op:=_,type:=_,pos:=_,after:=_,guard:=_ }) (v:=?v6) rfl (by kernel_rfl) (by kernel_rfl) (by kernel_rfl) (fun _ _ _ h=>h) (Or.inl ⟨by rfl,?y6⟩) hHeld ?r6
 case y6=>(intro wz hSw;(try dsimp only at hSw);go_simp;try with_reducible rfl)
 case r6 =>
 try simp only [Act.put,U00,U04,U05]
 refine U0h (i:=8) (oi:={ dst:=some 21,op:=_,type:=_,pos:=_,after:=_,guard:=_ }) (v:=?v7) rfl (by kernel_rfl) (by kernel_rfl) (by kernel_rfl) (fun _ _ _ h=>h) (Or.inl ⟨by rfl,?y7⟩) hHeld ?r7
 case y7=>(intro wz hSw;(try dsimp only at hSw);go_simp;try with_reducible rfl)
 case r7 =>
 try simp only [Act.put,U00,U04,U05]
 refine U0h (i:=9) (oi:={ dst:=some 6,op:=_,type:=_,pos:=_,after:=_,guard:=_ }) (v:=?v8) rfl (by kernel_rfl) (by kernel_rfl) (by kernel_rfl) (fun _ _ _ h=>h) (Or.inl ⟨by rfl,?y8⟩) hHeld ?r8
 case y8=>(intro wz hSw;(try dsimp only at hSw);go_simp;try with_reducible rfl)
 case r8 =>
 try simp only [Act.put,U00,U04,U05]
 refine U11 (rs:=[10]) (by kernel_rfl) (by simp) ?_
 refine U0s (o:={ dst:=some 7,op:=_,type:=_,pos:=_,after:=_,guard:=_ }) rfl (fun K hK => ?_) U0z
 go_simp
 refine hK.out _ _ (hS) (fun hHeld => ?_)
 clear hK K
 try simp only [Act.put,U00,U04,U05]
 refine U34 (by kernel_rfl) ?_ _
 go_wp2_with fail
 all_goals go_ret2
 all_goals exact ⟨rfl,HB3.out⟩
theorem Zck (q p:Nat) (tn sr:Int) (m:MD) (f:Nat) (x:Int) (t:ByteArray) (ht2:t.size<=2000) (hf:m.W[f]?=some x) (hT:∀ j y,(Z22 t)[j]?=some y->m.W[f+1+j]?=some y) (hl:m.W.length<=1000000) (h0:0<=x) (h1:x<18446744073709551616) (hx:x % 4=3) (hy:x / 32768 % 2=0) (hz:x / 65536<=4096) (k1:x / 4 % 256=2) (hs:x / 65536=((1+(t.size+7) / 8:Nat):Int)) (hfit:f+1+(1+(t.size+7) / 8)<=m.W.length)
  (w:World) (H:HeapAt q p tn sr w) (R:Z86 p m w) (ht:Z2b w) :
  Calls prog 55 #[.pointer (some ⟨q,0,none⟩),.int .i64 (f:Int)] w fun ev w'=>ev = .returned (.tuple #[.string (Z1b 2++⟨#[32]⟩++Z2l t.data.toList),.bool true])/\Below w.heap.size w w':=by
 have kt:Hid (∀ w,Calls prog 105 #[.int .u64 x] w fun ev w'=>ev = .returned (.tuple #[.agg #[.int .i64 (x / 4 % 256),.int .i64 (x / 1024 % 16),.int .i64 (x / 16384 % 2),.int .i64 (x / 65536)],.nilIface])/\Below w.heap.size w w'):=fun w=>Z2c x h0 h1 hx hy hz w
 obtain ⟨vW,vR,vK,vI,vC,hp,M,⟨ao,cap,rfl,hcap,hW⟩,_⟩:=R
 have hlt:f<m.W.length:=(U0e.mp hf).1
 obtain ⟨b,rfl,hb,hc⟩:=hW (by omega)
 have d0:=H.c0
 have d3:=M.c3
 have df:w.cell? ⟨b,f,none⟩=some (.int .u64 x):=hc f _ (by unfold Z05;rw [U0g,hf];rfl)
 have hI:(f:Int)<(m.W.length:Int):=by omega
 have hI0:(0:Int)<=(f:Int):=by omega
 obtain ⟨sz,hsz⟩:∃ sz,sz=1+(t.size+7) / 8:=⟨_,rfl⟩
 rw [<-hsz] at hs hfit
 have HST:Hid (∀ W ag mk,Below w.heap.size w W->Calls prog 107 #[.pointer (some ⟨q,0,none⟩),.int .i64 (f:Int),.agg #[.int .i64 2,.int .i64 ag,.int .i64 mk,.int .i64 (sz:Int)]] W fun ev w'=>ev = .returned (.tuple #[.string t,.nilIface])/\Below W.heap.size W w'):=fun W ag mk hb =>
  Zl4 q p b m.W.length cap f ((t.size+7) / 8) sz t ht2 rfl hsz 2 ag mk hfit hl hcap W ((hb.cell (p:=⟨q,0,none⟩) (Z02 d0)).trans d0) ((hb.cell (p:=⟨p,3,none⟩) (Z02 d3)).trans d3) (fun j y hj=>by
   have c:=hc (f+1+j) _ (by unfold Z05;rw [U0g,hT j y hj];rfl)
   exact (hb.cell (p:=⟨b,f+1+j,none⟩) (Z02 c)).trans c)
 have HQT:Hid (∀ W,Calls prog 108 #[.string t] W fun ev w'=>ev = .returned (.string (Z2l t.data.toList))/\Below W.heap.size W w'):=fun W=>Zmw t (by omega) W
 have HIt:Hid (∀ W,Below w.heap.size w W->Calls prog 56 #[.int .i64 2] W fun ev w'=>ev = .returned (.string (Z1b 2))/\Below W.heap.size W w'):=fun W hW=>Z75 (by omega) (by omega) W (ht.below hW (U02 _))
 have hd1:=Z0m 2 (by omega) (by omega)
 have hq:(Z2l t.data.toList).size<=8002:=by
  rw [Zdv,U0o]
  have:=Ze5 t.data.toList
  have e:t.data.toList.length=t.size:=by rw [U2c];rfl
  show _+1<=_
  omega
 have a1:=fun wx=>U52 (P:=prog) wx (Z1b 2) ⟨#[32]⟩ (by omega) (by decide)
 have a2:=fun wx=>U52 (P:=prog) wx (Z1b 2++⟨#[32]⟩) (Z2l t.data.toList) (by rw [U0o];show (((Z1b 2).size+1:Nat):Int)<=_;omega) (by omega)
 rw [k1,hs] at kt
 clear hW hc M H h0 h1 hx hy hz hf hlt ht hT hfit hsz hs k1 ht2
 generalize Z2l t.data.toList=qt at *
 generalize x / 1024 % 16=ag at *
 generalize x / 16384 % 2=mk at *
 generalize m.W.length=nW at *
 go_enter func55,ntmps55
 go_wp2_with fail
 refine (kt.out _).mono ?_
 rintro ev w1 ⟨rfl,hw1⟩
 obtain ⟨W2,hW2⟩:∃ W2,W2=w1.alloc (.cells #[.int .i64 2,.int .i64 ag,.int .i64 mk,.int .i64 (sz:Int)] 172):=⟨_,rfl⟩
 have hw2:Below w.heap.size w W2:=by rw [hW2];exact hw1.alloc hw1.size _
 have HW2:=Z00 hw2
 have kf:=HST.out W2 ag mk hw2
 have hrow:W2.heap[w1.heap.size]?=some (.cells #[.int .i64 2,.int .i64 ag,.int .i64 mk,.int .i64 (sz:Int)] 172):=by rw [hW2];exact U0b _ _
 have ci:W2.cell? ⟨w1.heap.size,0,none⟩=some (.int .i64 2):=by rw [U06 _ _ _ _ _ _ hrow];rfl
 have ci1:W2.cell? ⟨w1.heap.size,1,none⟩=some (.int .i64 ag):=by rw [U06 _ _ _ _ _ _ hrow];rfl
 have ci2:W2.cell? ⟨w1.heap.size,2,none⟩=some (.int .i64 mk):=by rw [U06 _ _ _ _ _ _ hrow];rfl
 have ci3:W2.cell? ⟨w1.heap.size,3,none⟩=some (.int .i64 (sz:Int)):=by rw [U06 _ _ _ _ _ _ hrow];rfl
 rw [hW2] at kf ci ci1 ci2 ci3
 have HROW:=Z00 hrow
 clear kt d0 d3 df hw1 hw2 hrow
 go_wp2_with fail
 refine kf.mono ?_
 clear kf
 rintro ev w3 ⟨rfl,b3⟩
 rw [<-hW2] at b3 ci
 have c3:w3.cell? ⟨w1.heap.size,0,none⟩=some (.int .i64 2):=(b3.cell (p:=⟨w1.heap.size,0,none⟩) (Z02 ci)).trans ci
 have hw3:Below w.heap.size w w3:=HW2.out.trans (b3.mono HW2.out.size)
 have kq:=HQT.out w3
 have HW3:=Z00 hw3
 have HC3:=Z00 c3
 clear b3 ci ci1 ci2 ci3 hw3 hW2 c3
 go_wp2_with fail
 refine kq.mono ?_
 clear kq
 rintro ev w4 ⟨rfl,b4⟩
 have c4:w4.cell? ⟨w1.heap.size,0,none⟩=some (.int .i64 2):=(b4.cell (p:=⟨w1.heap.size,0,none⟩) (Z02 HC3.out)).trans HC3.out
 have hw4:Below w.heap.size w w4:=HW3.out.trans (b4.mono HW3.out.size)
 have ki:=HIt.out w4 hw4
 have HW4:=Z00 hw4
 clear b4 hw4
 go_wp2_with fail
 refine ki.mono ?_
 clear ki
 rintro ev w5 ⟨rfl,b5⟩
 have HW5:=Z00 (HW4.out.trans (b5.mono HW4.out.size))
 clear b5
 go_wp2_with fail
 go_ret2
 exact ⟨rfl,HW5.out⟩
section
open Go.Maps
def rawT (l:List Int):ByteArray:=strOfNums ((List.range (l.getD 0 0).toNat).map fun i=>((tb (fun a=>(l.getD (1+a) 0).toNat) i:Nat):Int))
def Tx (k:Int) (l:List Int):ByteArray:=if k=1 then ⟨#[32]⟩++Z1b (wrap64 (l.getD 0 0)) else ⟨#[32]⟩++Z2l (rawT l).data.toList
theorem Zqe (y:Int):Tx 1 [y]=⟨#[32]⟩++Z1b (wrap64 y):=rfl
theorem Zm7 (t:ByteArray):rawT (Z22 t)=t:=by
 have e0:((Z22 t).getD 0 0).toNat=t.size:=by
  show ((t.size:Int)).toNat=_
  omega
 unfold rawT
 rw [e0]
 have e1:((List.range t.size).map fun i=>((tb (fun a=>((Z22 t).getD (1+a) 0).toNat) i:Nat):Int))=(List.range t.size).map fun i=>((tb (wv t t.size) i:Nat):Int):=by
  apply U15
  intro i hi
  have hi:=U0u.1 hi
  unfold tb
  show (((((Z22 t).getD (1+i / 8) 0).toNat / 256 ^ (i % 8) % 256:Nat)):Int)=_
  rw [U07,Zha (t:=t) (i:=i / 8) (by omega)]
  show (((((wv t t.size (i / 8):Nat):Int)).toNat / 256 ^ (i % 8) % 256:Nat):Int)=_
  rw [U1t]
 rw [e1]
 exact Zay t
theorem Zn1 (t:ByteArray):Tx 2 (Z22 t)=⟨#[32]⟩++Z2l t.data.toList:=by
 unfold Tx
 rw [U08 (by decide),Zm7]
def RawD (d:ND):Prop:=(d.kind=1 /\ ∃ y,d.raw = [y]/\0<=y/\y<18446744073709551616)\/(d.kind=2 /\ ∃ t:ByteArray,t.size<=2000/\d.raw=Z22 t)
def Ztt (M:MO):Prop:=∀ d∈M.N,d.kind<8->RawD d
theorem Zf2 {t:ByteArray} : (Z2l t.data.toList).size<=4*t.size+2:=by
 rw [Zdv,U0o]
 have:=Ze5 t.data.toList
 have e:t.data.toList.length=t.size:=by rw [U2c];rfl
 show _+1<=_
 omega
variable {h:HP}{sr:Int}{m:MD}{w w':World}{a:Nat->Addr}{w0:World}{M:MO}{X:MXtra}
theorem Ze6 (s:HS a w0 h sr m M X w) (hM:Ztt M) :
  Calls prog 22 #[.pointer (some ⟨h.q,0,none⟩)] w fun ev w'=>ev = .returned (.string (M.text Tx))/\Below w.heap.size w w':=by
 obtain ⟨vs,S,φ,hr,hw⟩:=s.hm
 have hwl:=s.wlen
 have R:=s.at'.rep
 have H:=s.at'.heapAt
 have E:=s.benv
 obtain ⟨e1,e2,_⟩:=hr.all
 have hF:∀ f∈m.reach vs,∃ d∈M.N,m.F f / 4 % 256=d.kind/\(d.kind<8->Z07 m.F f=d.raw):=fun f hf=>by
  rw [e1] at hf
  obtain ⟨i,hi,rfl⟩:=U0l.1 hf
  obtain ⟨d,h1,_,h3,h4,_⟩:=hr.rel.has i (e2 i hi)
  refine ⟨d,U0a h1,h3,fun hk => ?_⟩
  rw [h4]
  unfold wdN
  rw [U09 hk]
 have hX:∀ f∈m.reach vs,∃ x,m.W[f]?=some x/\m.F f=x/\0<=x/\x<18446744073709551616/\x % 4=3/\x / 32768 % 2=0/\x / 65536<=4096/\f+szN x<m.W.length:=fun f hf=>by
  obtain ⟨h1,h2⟩:=hr.shape.fine f ((Z1h hr.shape hr.h64).sub f hf)
  have hlt:f<m.W.length:=by omega
  have hFf:m.F f=m.W[f]:=by unfold MD.F;rw [U07,U03 hlt];rfl
  rw [hFf] at h1 h2
  obtain ⟨q1,q2,q3⟩:=U0j h1
  obtain ⟨u1,u2⟩:=hr.h64.w _ (U1w hlt)
  exact ⟨m.W[f],U03 hlt,hFf,u1,u2,q1,q2,q3,by omega⟩
 have hBox:∀ f∈m.reach vs,m.F f / 4 % 256<8->(m.F f / 4 % 256=1 /\ ∃ y,Z07 m.F f = [y]/\0<=y/\y<18446744073709551616)\/(m.F f / 4 % 256=2 /\ ∃ t:ByteArray,t.size<=2000/\Z07 m.F f=Z22 t):=fun f hf hk=>by
  obtain ⟨d,hd,q1,q2⟩:=hF f hf
  rw [q1] at hk ⊢
  rcases hM d hd hk with ⟨k1,y,k2,k3,k4⟩ | ⟨k1,t,k2,k3⟩
  ·exact .inl ⟨k1,y,(q2 hk).trans k2,k3,k4⟩
  ·exact .inr ⟨k1,t,k2,(q2 hk).trans k3⟩
 have wr:∀ y:Int,0<=y->y<18446744073709551616 -> -9223372036854775808<=wrap64 y/\wrap64 y<=9223372036854775807:=fun y _ _=>by unfold wrap64;omega
 have ks:=Zlv Tx a h.q h.p h.tn sr m vs hr.shape hr.cards hr.h64 s.rlen.2 (fun f hf hk=>by
  unfold Zsi
  rcases hBox f hf hk with ⟨k1,y,k2,k3,k4⟩ | ⟨k1,t,k2,k3⟩
  ·rw [k1,k2,Zqe,U0o]
   have:=Z0m (wrap64 y) (wr y k3 k4).1 (wr y k3 k4).2
   show 1+_<=20+40*(1+1)
   omega
  ·rw [k1,k3,Zn1,U0o,Z54]
   have:=Zf2 (t:=t)
   show 1+_<=_
   omega) w E.me E.tab E.tz H R (fun f hf W hW=>by
  obtain ⟨x,x1,x2,x3,x4,x5,x6,x7,x8⟩:=hX f hf
  by_cases hk:m.F f / 4 % 256<8
  ·rcases hBox f hf hk with ⟨k1,y,k2,k3,k4⟩ | ⟨k1,t,k2,k3⟩
   ·obtain ⟨z1,z2⟩:=Zeu k2
    have hlt:f+1<m.W.length:=by rw [x2] at z1;omega
    have hg:m.W[f+1]?=some y:=by
     rw [<-z2,U03 hlt]
     unfold MD.F
     rw [U07,U03 hlt]
     rfl
    have hd:=Z0m (wrap64 y) (wr y k3 k4).1 (wr y k3 k4).2
    refine (Zfc h.q h.p h.tn sr m f x y (wrap64 y) x1 hg (by rw [U1d,Z58]) (wr y k3 k4).1 (wr y k3 k4).2 (by omega) x3 x4 x5 x6 x7 (by rw [<-x2];exact k1) (by omega) W (H.below hW) (R.below hW) (E.tab.below hW (U02 _))).mono ?_
    rintro ev w1 ⟨rfl,hb⟩
    refine ⟨.inr ⟨hk,?_⟩,hb⟩
    rw [k1,k2,Zqe]
    have:Z1b 1++⟨#[32]⟩++Z1b (wrap64 y)=Z1b 1++(⟨#[32]⟩++Z1b (wrap64 y)):=Zbm (by rw [Z0x,Z0x,Z0x,Z0x,U0y])
    rw [this]
   ·have hlen:szN x=1+(t.size+7) / 8:=by
     have e:=congrArg List.length k3
     rw [Z54] at e
     unfold Z07 at e
     simp at e
     rw [x2] at e
     omega
    have hT:∀ j y,(Z22 t)[j]?=some y->m.W[f+1+j]?=some y:=fun j y hj=>by
     have hjl:j<(Z22 t).length:=(U0e.1 hj).1
     rw [Z54] at hjl
     rw [<-k3] at hj
     unfold Z07 at hj
     have hjs:j<szN (m.F f):=by rw [x2];omega
     have hlt:f+1+j<m.W.length:=by omega
     rw [U0g,U1u hjs] at hj
     have hj:m.F (f+1+j)=y:=by simpa using hj
     rw [<-hj,U03 hlt]
     unfold MD.F
     rw [U07,U03 hlt]
     rfl
    have hs:x / 65536=((1+(t.size+7) / 8:Nat):Int):=by
     unfold szN at hlen
     omega
    refine (Zck h.q h.p h.tn sr m f x t k2 x1 hT (by omega) x3 x4 x5 x6 x7 (by rw [<-x2];exact k1) hs (by omega) W (H.below hW) (R.below hW) (E.tab.below hW (U02 _))).mono ?_
    rintro ev w1 ⟨rfl,hb⟩
    refine ⟨.inr ⟨hk,?_⟩,hb⟩
    rw [k1,k3,Zn1]
    have:Z1b 2++⟨#[32]⟩++Z2l t.data.toList=Z1b 2++(⟨#[32]⟩++Z2l t.data.toList):=Zbm (by rw [Z0x,Z0x,Z0x,Z0x,U0y])
    rw [this]
  ·refine (Zic h.q h.p h.tn sr m f x x1 x3 x4 x5 x6 x7 (by rw [<-x2];omega) (by rw [<-x2];omega) W (H.below hW) (R.below hW)).mono ?_
   rintro ev w1 ⟨rfl,hb⟩
   exact ⟨.inl ⟨hk,rfl⟩,hb⟩)
 rw [hr.text Tx] at ks
 exact ks
end
end Go.Proofs.YtlkcbdinlfeoiaaGreatDoor
