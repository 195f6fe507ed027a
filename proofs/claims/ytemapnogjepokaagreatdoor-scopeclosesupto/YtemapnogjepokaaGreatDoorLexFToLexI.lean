/- Package lex: words, names, by contracts. -/
import Derived.Test.YtemapnogjepokaaGreatDoorLexDToLexE
import Derived.Laws.Rows
import Derived.Deep.AppendLies
import Derived.Deep.RegionHeld3
import Derived.Deep.DrawnRows
namespace Go.Proofs.YtemapnogjepokaaGreatDoor
open Go.RowKit

def wordList:List (List UInt8):=[[97,110,100],[98,114,101,97,107],[99,111,110,116,105,110,117,101],[100,101,102],[100,101,108],[101,108,105,102],[101,108,115,101],[101,120,99,101,112,116],[70,97,108,115,101],[102,111,114],[103,108,111,98,97,108],[105,102],[105,110],[105,115],[108,97,109,98,100,97],[78,111,110,101],[110,111,110,108,111,99,97,108],[110,111,116],[111,114],[112,97,115,115],[114,97,105,115,101],[114,101,116,117,114,110],[84,114,117,101],[116,114,121],[119,104,105,108,101]]
def wordAt (k:Nat):ByteArray:=⟨(wordList.getD k []).toArray⟩
def wordCells:Array Value:=#[.string ⟨#[97,110,100]⟩,.string ⟨#[98,114,101,97,107]⟩,.string ⟨#[99,111,110,116,105,110,117,101]⟩,.string ⟨#[100,101,102]⟩,.string ⟨#[100,101,108]⟩,.string ⟨#[101,108,105,102]⟩,.string ⟨#[101,108,115,101]⟩,.string ⟨#[101,120,99,101,112,116]⟩,.string ⟨#[70,97,108,115,101]⟩,.string ⟨#[102,111,114]⟩,.string ⟨#[103,108,111,98,97,108]⟩,.string ⟨#[105,102]⟩,.string ⟨#[105,110]⟩,.string ⟨#[105,115]⟩,.string ⟨#[108,97,109,98,100,97]⟩,.string ⟨#[78,111,110,101]⟩,.string ⟨#[110,111,110,108,111,99,97,108]⟩,.string ⟨#[110,111,116]⟩,.string ⟨#[111,114]⟩,.string ⟨#[112,97,115,115]⟩,.string ⟨#[114,97,105,115,101]⟩,.string ⟨#[114,101,116,117,114,110]⟩,.string ⟨#[84,114,117,101]⟩,.string ⟨#[116,114,121]⟩,.string ⟨#[119,104,105,108,101]⟩]
def opList:List (List UInt8):=[[61,61],[33,61],[60,61],[62,61],[47,47],[60],[62],[61],[43],[45],[42],[37],[40],[41],[91],[93],[123],[125],[44],[58],[46]]
def opAt (k:Nat):ByteArray:=⟨(opList.getD k []).toArray⟩
def opCells:Array Value:=#[.string ⟨#[61,61]⟩,.string ⟨#[33,61]⟩,.string ⟨#[60,61]⟩,.string ⟨#[62,61]⟩,.string ⟨#[47,47]⟩,.string ⟨#[60]⟩,.string ⟨#[62]⟩,.string ⟨#[61]⟩,.string ⟨#[43]⟩,.string ⟨#[45]⟩,.string ⟨#[42]⟩,.string ⟨#[37]⟩,.string ⟨#[40]⟩,.string ⟨#[41]⟩,.string ⟨#[91]⟩,.string ⟨#[93]⟩,.string ⟨#[123]⟩,.string ⟨#[125]⟩,.string ⟨#[44]⟩,.string ⟨#[58]⟩,.string ⟨#[46]⟩]

theorem word_index (k:Nat) (hk:k<25) (w:World):(Instr.index 178 (.agg wordCells) (.int .i64 (k:Int))).run Tryz.prog w = .ok (.string (wordAt k)) w:=by
 iterate 25 (rcases k with _ | k;· kernel_rfl)
 omega
theorem op_index (k:Nat) (hk:k<21) (w:World):(Instr.index 172 (.agg opCells) (.int .i64 (k:Int))).run Tryz.prog w = .ok (.string (opAt k)) w:=by
 iterate 21 (rcases k with _ | k;· kernel_rfl)
 omega

def wordFrom (t:ByteArray):Nat→Nat→Bool
 | 0,_=>false
 | n+1,k=>if (wordAt k).toList == t.toList then true else wordFrom t n (k+1)
def wordB (t:ByteArray):Bool:=wordFrom t 25 0

theorem wordFrom_hit {t:ByteArray}{k:Nat}(hk:k<25) (h:((wordAt k).toList == t.toList)=true):wordFrom t (25 - k) k=true:=by
 obtain ⟨n,hn⟩:∃ n,25 - k=n+1:=⟨25 - k - 1,by omega⟩
 rw [hn]
 simp only [wordFrom,h,if_true]
theorem wordFrom_miss {t:ByteArray}{k:Nat}(hk:k<25) (h:((wordAt k).toList == t.toList)=false):wordFrom t (25 - k) k=wordFrom t (25 - (k+1)) (k+1):=by
 obtain ⟨n,hn⟩:∃ n,25 - k=n+1:=⟨25 - k - 1,by omega⟩
 rw [hn,show 25 - (k+1)=n by omega]
 simp only [wordFrom,h,Bool.false_eq_true,if_false]

theorem infoWords:(Tryz.prog.info? 178).map (·.size)=some wordCells.size:=by kernel_rfl
theorem infoOps:(Tryz.prog.info? 172).map (·.size)=some opCells.size:=by kernel_rfl

set_option maxHeartbeats 400000 in
theorem isWord_any (t:ByteArray) (w:World) (tt:TypeId) (fr:Nat × Nat) (hw:w.heap[5]?=some (.cells wordCells tt fr)) :
  Calls Tryz.prog 136 #[.string t] w fun ev w'=>ev = .returned (.bool (wordB t))∧w'=w:=by
 go_enter Tryz.func136,Tryz.ntmps136
 go_wp2_with (refine wpList_load_row rfl 178 _ rfl 5 rfl tt _ fr _ hw Tryz.underlying178 rfl infoWords ?_)
 clear hw
 go_loopg [6] 25 (fun n v6 wr => ∃ k:Nat,n=25 - k∧k≤25∧v6 = .int .i64 (k:Int)∧wordFrom t (25 - k) k=wordB t∧wr=w)
 case atStart=>exact ⟨0,rfl,by decide,rfl,rfl,rfl⟩
 case round =>
  obtain ⟨k,hn,hk,hv,hwf,rfl⟩:=hrel
  subst hv
  have HW:Hid (wordFrom t (25 - k) k=wordB t):=hwf
  have HN:Hid (gk=25 - k):=hn
  clear hwf hn
  by_cases hlt:k<25
  ·have hix:=word_index k hlt
   have hI:(k:Int)<25:=by omega
   cases he:((wordAt k).toList == t.toList)
   ·go_wp2
    go_roundg (25 - (k+1))
    case measure=>have:=HN.out;omega
    case rel=>exact ⟨k+1,rfl,by omega,by go_num,(wordFrom_miss hlt he).symm.trans HW.out,rfl⟩
   ·go_wp2
    go_ret
    exact ⟨ret_bool ((wordFrom_hit hlt he).symm.trans HW.out),rfl⟩
  ·have hke:k=25:=by omega
   have HK:Hid (k=25):=hke
   clear hke
   go_wp2
   go_ret
   exact ⟨ret_bool (Eq.trans (by rw [HK.out];rfl) HW.out),rfl⟩

def prefixB (a b:ByteArray):Bool:=if b.size≤a.size then (a.extract 0 b.size).toList == b.toList else false
theorem hasPrefix_any (a b:ByteArray) (w:World) :
  Calls Tryz.prog 140 #[.string a,.string b] w fun ev w'=>ev = .returned (.bool (prefixB a b))∧w'=w:=by
 by_cases h:b.size≤a.size
 ·have hI:(b.size:Int)≤(a.size:Int):=by omega
  go_enter Tryz.func140,Tryz.ntmps140
  go_wp2
  go_ret
  exact ⟨ret_bool (by simp [prefixB,h]),rfl⟩
 ·have hI:¬ (b.size:Int)≤(a.size:Int):=by omega
  go_enter Tryz.func140,Tryz.ntmps140
  go_wp2
  go_ret
  exact ⟨ret_bool (by simp [prefixB,h]),rfl⟩

def nameTo (s:ByteArray) (i:Nat):Nat:=passTo nameB s (s.size - (i+1)) (i+1)
def nameAt (s:ByteArray) (i:Nat):Option (Bool × ByteArray × Nat):=
 if h:i<s.size then
  if wordB (s.extract i (nameTo s i)) then some (true,s.extract i (nameTo s i),nameTo s i)
  else if capitalB (s[i].toNat:Int) then none
  else if 16<nameTo s i - i then none
  else some (false,s.extract i (nameTo s i),nameTo s i)
 else none

def NPost (B p:Nat) (s:ByteArray) (i:Nat) (a0:Addr) (w:World) (ev:Ending) (w':World):Prop:=
 match nameAt s i with
 | some (wd,t,j)=>ev = .returned (.tuple #[.string (if wd then ⟨#[119,111,114,100]⟩ else ⟨#[110,97,109,101]⟩),.string t])∧Went p w w' j∧j≤s.size
 | none=>Thrown B w i a0 ev w'

set_option maxHeartbeats 1000000 in
theorem name_walk (B p i:Nat) (s:ByteArray) (a0:Addr) (w:World) (h:At p s i w) (hlt:i<s.size) (hp:p<w.heap.size) (hBp:B≤p) (_hgB:3<B) (hg:w.cell? ⟨3,0,none⟩=some (.iface 214 (.pointer (some a0)))) (tt:TypeId) (fr:Nat × Nat) (hwB:5<B) (hw:w.heap[5]?=some (.cells wordCells tt fr)) :
  Calls Tryz.prog 105 #[.pointer (some ⟨p,0,none⟩)] w fun ev w'=>NPost B p s i a0 w ev w':=by
 have hM:=Moved.refl h.c1
 have hA:=h
 obtain ⟨hs,hat,c0,c1,f1⟩:=h
 have hm1:=Moved.set c1 (i+1)
 have hA1:=hA.moved hm1 (by omega)
 have hle:=passTo_le nameB s (s.size - (i+1)) (i+1)
 have hI:(i:Int)<(s.size:Int):=by omega
 go_enter Tryz.func105,Tryz.ntmps105
 go_wp2_with fail
 refine (pass_any 135 nameB enterName name_any p s (i+1) _ hs (by omega) hA1.c0 hA1.c1 hA1.f1).mono ?_
 rintro ev w1 ⟨rfl,hm2⟩
 have hj1:i+1≤passTo nameB s (s.size - (i+1)) (i+1):=hle.1
 have hj2:passTo nameB s (s.size - (i+1)) (i+1)≤s.size:=hle.2 (by omega)
 have hwent:Moved p w w1 (passTo nameB s (s.size - (i+1)) (i+1)):=hm1.trans hm2
 have hjj:nameTo s i=passTo nameB s (s.size - (i+1)) (i+1):=rfl
 generalize passTo nameB s (s.size - (i+1)) (i+1)=j at hm2 hj1 hj2 hwent hjj ⊢
 have HJ:Hid (nameTo s i=j):=hjj
 have hA2:=hA.moved hwent hj2
 have d0:=hA2.c0
 have d1:=hA2.c1
 have hww:w1.heap[5]?=some (.cells wordCells tt fr):=(hwent.far 5 (by omega)).trans hw
 have hgg:w1.cell? ⟨3,0,none⟩=some (.iface 214 (.pointer (some a0))):=(World.cell?_of_block (w:=w) (hwent.far 3 (by omega))).trans hg
 clear hjj hm2 hm1 hA1 hle c0 c1 f1 hA2 hM hw hg
 have hJ1:(i:Int)≤(j:Int):=by omega
 have hJ2:(j:Int)≤(s.size:Int):=by omega
 have hesz:(s.extract i j).size=j - i:=by simp [ByteArray.size_extract];omega
 go_wp2_with fail
 go_quiet (fail)
 go_wp2_with fail
 refine (isWord_any _ _ tt fr (by exact hww)).mono ?_
 rintro ev w2 ⟨rfl,rfl⟩
 cases hwd:wordB (s.extract i j)
 rotate_left
 ·go_wp2_with fail
  go_ret2
  unfold NPost
  have hn:nameAt s i=some (true,s.extract i j,j):=by simp [nameAt,hlt,HJ.out,hwd]
  rw [hn]
  exact ⟨rfl,(hwent.drewN _).went,hj2⟩
 have hpos:0<(s.extract i j).size:=by omega
 have hP:(0:Int)<((s.extract i j).size:Int):=by omega
 have hfirst:(s.extract i j)[0]=s[i]:=by simp [ByteArray.getElem_extract]
 have HFI:Hid ((s.extract i j)[0]=s[i]):=hfirst
 clear hfirst
 go_wp2_with fail
 refine (capital_any _ _).mono ?_
 rintro ev w2 ⟨rfl,rfl⟩
 rw [HFI.out]
 cases hcap:capitalB (s[i].toNat:Int)
 rotate_left
 ·have HN:Hid (nameAt s i=none):=show nameAt s i=none by simp [nameAt,hlt,HJ.out,hwd,hcap]
  go_wp2_with fail
  refine (none_any _ a0 _ (by exact hgg)).mono ?_
  rintro ev w3 ⟨rfl,rfl⟩
  go_wp2
  refine ⟨rfl,?_⟩
  unfold NPost
  rw [HN.out]
  exact ⟨_,rfl,below_drewN' ((hwent.below hBp).alloc (by rw [hwent.size];omega) _),cell_new rfl rfl,cell_new rfl rfl⟩
 by_cases h16:16<j - i
 ·have HN:Hid (nameAt s i=none):=show nameAt s i=none by simp [nameAt,hlt,HJ.out,hwd,hcap,h16]
  have h16':(16:Int)<((s.extract i j).size:Int):=by omega
  go_wp2_with fail
  refine (none_any _ a0 _ (by exact hgg)).mono ?_
  rintro ev w3 ⟨rfl,rfl⟩
  go_wp2
  refine ⟨rfl,?_⟩
  unfold NPost
  rw [HN.out]
  exact ⟨_,rfl,below_drewN' ((hwent.below hBp).alloc (by rw [hwent.size];omega) _),cell_new rfl rfl,cell_new rfl rfl⟩
 ·have HN:Hid (nameAt s i=some (false,s.extract i j,j)):=show nameAt s i=some (false,s.extract i j,j) by simp [nameAt,hlt,HJ.out,hwd,hcap,h16]
  have h16':¬ (16:Int)<((s.extract i j).size:Int):=by omega
  go_wp2_with fail
  go_ret2
  unfold NPost
  rw [HN.out]
  exact ⟨rfl,(hwent.drewN _).went,hj2⟩
end Go.Proofs.YtemapnogjepokaaGreatDoor

/- Package lex: ops, by their contract. -/
namespace Go.Proofs.YtemapnogjepokaaGreatDoor
open Go.RowKit

def opFrom (s:ByteArray) (i:Nat):Nat→Nat→Option (ByteArray × Nat)
 | 0,_=>none
 | n+1,k=>if prefixB (s.extract i s.size) (opAt k) then some (opAt k,i+(opAt k).size) else opFrom s i n (k+1)
def opTok (s:ByteArray) (i:Nat):Option (ByteArray × Nat):=opFrom s i 21 0

theorem opFrom_hit {s:ByteArray}{i k:Nat}(hk:k<21) (h:prefixB (s.extract i s.size) (opAt k)=true):opFrom s i (21 - k) k=some (opAt k,i+(opAt k).size):=by
 obtain ⟨n,hn⟩:∃ n,21 - k=n+1:=⟨21 - k - 1,by omega⟩
 rw [hn]
 simp only [opFrom,h,if_true]
theorem opFrom_miss {s:ByteArray}{i k:Nat}(hk:k<21) (h:prefixB (s.extract i s.size) (opAt k)=false):opFrom s i (21 - k) k=opFrom s i (21 - (k+1)) (k+1):=by
 obtain ⟨n,hn⟩:∃ n,21 - k=n+1:=⟨21 - k - 1,by omega⟩
 rw [hn,show 21 - (k+1)=n by omega]
 simp only [opFrom,h,Bool.false_eq_true,if_false]
theorem opAt_size (k:Nat):(opAt k).size≤2:=by
 iterate 21 (rcases k with _ | k;· decide)
 have:opAt (k+1+1+1+1+1+1+1+1+1+1+1+1+1+1+1+1+1+1+1+1+1)=⟨#[]⟩:=rfl
 rw [this]
 decide
theorem prefixB_size {a b:ByteArray}(h:prefixB a b=true):b.size≤a.size:=by
 unfold prefixB at h
 split at h
 ·assumption
 ·cases h

def OPost (B p:Nat) (s:ByteArray) (i:Nat) (a0:Addr) (w:World) (ev:Ending) (w':World):Prop:=
 match opTok s i with
 | some (t,j)=>ev = .returned (.string t)∧Went p w w' j∧j≤s.size
 | none=>Thrown B w i a0 ev w'

set_option maxHeartbeats 1000000 in
theorem op_walk (B p i:Nat) (s:ByteArray) (a0:Addr) (w:World) (h:At p s i w) (hlt:i<s.size) (hp:p<w.heap.size) (hBp:B≤p) (hg:w.cell? ⟨3,0,none⟩=some (.iface 214 (.pointer (some a0)))) (tt:TypeId) (fr:Nat × Nat) (hw:w.heap[4]?=some (.cells opCells tt fr)) :
  Calls Tryz.prog 109 #[.pointer (some ⟨p,0,none⟩)] w fun ev w'=>OPost B p s i a0 w ev w':=by
 have hM:=Moved.refl h.c1
 obtain ⟨hs,hat,c0,c1,f1⟩:=h
 have hI:(i:Int)≤(s.size:Int):=by omega
 have hI0:(0:Int)≤(i:Int):=by omega
 go_enter Tryz.func109,Tryz.ntmps109
 go_wp2_with (refine wpList_load_row rfl 172 _ rfl 4 rfl tt _ fr _ hw Tryz.underlying172 rfl infoOps ?_)
 clear hw
 go_loopg [6] 21 (fun n v6 wr => ∃ k q:Nat,n=21 - k∧k≤21∧v6 = .int .i64 (k:Int)∧opFrom s i (21 - k) k=opTok s i∧wr=w.drewN q)
 case atStart=>exact ⟨0,0,rfl,by decide,rfl,rfl,rfl⟩
 case round =>
  obtain ⟨k,q,hn,hk,hv,hwf,hwr⟩:=hrel
  subst hv
  have hMr:Moved p w wr i:=by rw [hwr];exact hM.drewN q
  have d0:wr.cell? ⟨p,0,none⟩=some (.string s):=(hMr.near 0 (by decide)).trans c0
  have d1:=hMr.at_
  have g1:wr.frozen? ⟨p,1,none⟩=false:=(hMr.fz 1).trans f1
  have dg:wr.cell? ⟨3,0,none⟩=some (.iface 214 (.pointer (some a0))):=by rw [hwr];exact hg
  have HWR:Hid (wr=w.drewN q):=hwr
  clear hwr c0 c1 f1 hg hM
  have HW:Hid (opFrom s i (21 - k) k=opTok s i):=hwf
  have HN:Hid (gk=21 - k):=hn
  clear hwf hn
  have hos:=opAt_size k
  by_cases hlt:k<21
  ·have hix:=op_index k hlt
   have hI:(k:Int)<21:=by omega
   cases he:prefixB (s.extract i s.size) (opAt k)
   ·go_wp2_with fail
    go_quiet ((go_at_call 140;exact Calls.quiet_of_same (hasPrefix_any _ _ _)))
    rw [he]
    go_wp2_with fail
    go_roundg (21 - (k+1))
    case measure=>have:=HN.out;omega
    case rel=>exact ⟨k+1,q+nq,rfl,by omega,by go_num,(opFrom_miss hlt he).symm.trans HW.out,by rw [HWR.out];simp [World.drewN,Nat.add_assoc]⟩
   ·have HP:Hid (prefixB (s.extract i s.size) (opAt k)=true):=he
    have hsz:=prefixB_size he
    have hez:(s.extract i s.size).size=s.size - i:=by simp
    go_wp2_with fail
    go_quiet ((go_at_call 140;exact Calls.quiet_of_same (hasPrefix_any _ _ _)))
    rw [he]
    go_wp2_with fail
    go_ret
    unfold OPost
    rw [←HW.out,opFrom_hit hlt HP.out]
    exact ⟨rfl,((hMr.drewN _).trans (Moved.set (hMr.drewN _).at_ (i+(opAt k).size))).went,by omega⟩
  ·have HK:Hid (k=21):=show k=21 by omega
   go_wp2_with fail
   refine (none_any _ a0 _ dg).mono ?_
   rintro ev w3 ⟨rfl,rfl⟩
   go_wp2
   refine ⟨rfl,?_⟩
   unfold OPost
   have hno:opTok s i=none:=HW.out.symm.trans (by rw [HK.out];rfl)
   rw [hno]
   exact ⟨_,rfl,(hMr.below hBp).alloc (by rw [hMr.size];omega) _,cell_new rfl rfl,cell_new rfl rfl⟩
end Go.Proofs.YtemapnogjepokaaGreatDoor

/- Package lex: add, settle, by contracts: the reader's two slices. -/
namespace Go.Proofs.YtemapnogjepokaaGreatDoor
open Go.RowKit

def tokCells (k t:ByteArray) (i:Nat):List Value:=[.string k,.string t,.int .i64 i]

structure RS (B p:Nat) (s:ByteArray) (at_:Nat) (op:List Int) (n:Nat) (tk:List Value) (w:World):Prop where
 hA:At p s at_ w
 hp:B≤p
 hpl:p<w.heap.size
 ex:∃ g cap vt,w.cell? ⟨p,2,none⟩=some (.slice (some ⟨g,0,none⟩) op.length cap)∧w.cell? ⟨p,3,none⟩=some vt ∧
  w.ownsRow B 3 1 (.slice (some ⟨g,0,none⟩) op.length cap) op.length (op.map (Value.int .i64))∧w.ownsRow B 121 3 vt n tk ∧
  g≠p∧vt.ownBlock≠some p∧vt.ownBlock≠some g
 f2:w.frozen? ⟨p,2,none⟩=false
 f3:w.frozen? ⟨p,3,none⟩=false

theorem infoTok:(Tryz.prog.info? 121).map (fun i=>(i.zero,i.size,i.bytes))=some (some (.agg #[.string ⟨#[]⟩,.string ⟨#[]⟩,.int .i64 0]),3,40):=by kernel_rfl
theorem infoInt:(Tryz.prog.info? 3).map (fun i=>(i.zero,i.size,i.bytes))=some (some (.int .i64 0),1,8):=by kernel_rfl

theorem three_new (w:World) (a b c:Value) (t:TypeId):∀ j u,([a,b,c]:List Value)[j]?=some u→(w.alloc (.cells #[a,b,c] t)).cell? ((⟨w.heap.size,0,none⟩:Addr).add j)=some u:=by
 intro j u h
 have hadd:(⟨w.heap.size,0,none⟩:Addr).add j=⟨w.heap.size,j,none⟩:=by unfold Addr.add;split <;> simp_all
 rw [hadd,World.cell?_alloc_at _ _ _ _ rfl]
 simpa using h

theorem frozen_set (w:World) (p o q:Nat) (v:Value):(w.setCell ⟨p,o,none⟩ v).frozen? ⟨p,q,none⟩=w.frozen? ⟨p,q,none⟩:=by
 simp only [World.setCell,World.frozen?,Array.getElem?_modify]
 simp only [if_true]
 cases w.heap[p]? with
 | none=>rfl
 | some x=>cases x <;> rfl
theorem cell_set (w:World) (p o q:Nat) (v:Value) (h:q≠o):(w.setCell ⟨p,o,none⟩ v).cell? ⟨p,q,none⟩=w.cell? ⟨p,q,none⟩:=
 World.cell?_setCell_other _ _ _ _ (by intro e;exact h (by simpa using e.symm))
theorem heap_set (w:World) (p o k:Nat) (v:Value) (h:k≠p):(w.setCell ⟨p,o,none⟩ v).heap[k]?=w.heap[k]?:=Below.heap_setCell _ _ _ _ h
theorem size_set (w:World) (a:Addr) (v:Value):(w.setCell a v).heap.size=w.heap.size:=by simp [World.setCell]

theorem rs_add {B p:Nat}{s:ByteArray}{at_:Nat}{op:List Int}{n:Nat}{tk news:List Value}{w w1:World}{g cap gn capn:Nat}{vt:Value}{o:Obj}(hA:At p s at_ w) (hp:B≤p) (hpl:p<w.heap.size)
  (c2:w.cell? ⟨p,2,none⟩=some (.slice (some ⟨g,0,none⟩) op.length cap)) (c3:w.cell? ⟨p,3,none⟩=some vt)
  (o2:w.ownsRow B 3 1 (.slice (some ⟨g,0,none⟩) op.length cap) op.length (op.map (Value.int .i64))) (o3:w.ownsRow B 121 3 vt n tk)
  (ngp:g≠p) (ntp:vt.ownBlock≠some p) (ntg:vt.ownBlock≠some g) (f2:w.frozen? ⟨p,2,none⟩=false) (f3:w.frozen? ⟨p,3,none⟩=false) (hB:B≤w.heap.size)
  (hown1:w1.ownsRow B 121 3 (.slice (some ⟨gn,0,none⟩) (n+1) capn) (n+1) (tk++news)) (hgrow:(w.alloc o).grownBy w1 vt.ownBlock) (hat:vt.ownBlock=some gn∨gn=w.heap.size+1) :
  RS B p s at_ op (n+1) (tk++news) (w1.setCell ⟨p,3,none⟩ (.slice (some ⟨gn,0,none⟩) (n+1) capn))∧Below B w (w1.setCell ⟨p,3,none⟩ (.slice (some ⟨gn,0,none⟩) (n+1) capn)):=by
 have hg:g<w.heap.size:=by
  rcases o2.2 with ⟨h,_⟩ | ⟨g',cap',cur,h,_,hg',_⟩
  ·cases h
  ·simp at h;rw [h.1];exact lt_of_heap hg'
 have blk:∀ k,k<w.heap.size→vt.ownBlock≠some k→w1.heap[k]?=w.heap[k]?:=fun k hk hne =>
  (hgrow.block k (by simp;omega) (fun e=>hne e.symm)).trans (Below.heap_alloc _ _ _ hk)
 have bp:w1.heap[p]?=w.heap[p]?:=blk p hpl ntp
 have bg:w1.heap[g]?=w.heap[g]?:=blk g hg ntg
 have ce:∀ q,w1.cell? ⟨p,q,none⟩=w.cell? ⟨p,q,none⟩:=fun q=>World.cell?_of_block (w:=w) (a:=⟨p,q,none⟩) bp
 have fe:∀ q,w1.frozen? ⟨p,q,none⟩=w.frozen? ⟨p,q,none⟩:=fun q=>World.frozen?_of_block (w:=w) (a:=⟨p,q,none⟩) bp
 have hgn:gn≠p∧gn≠g:=by
  rcases hat with h | h
  ·exact ⟨fun e=>ntp (by rw [h,e]),fun e=>ntg (by rw [h,e])⟩
  ·omega
 have hsz:w.heap.size≤w1.heap.size:=by have:=hgrow.size;simp at this;omega
 have hbel:Below B w w1:=Below.grown ((Below.refl _ _).alloc hB _) hgrow (by simp;omega) (own_ge o3)
 refine ⟨⟨⟨hA.hs,hA.hat,?_,?_,?_⟩,hp,by rw [size_set];omega,⟨g,cap,_,?_,World.cell?_setCell_same _ _ _ (u:=vt) ((ce 3).trans c3),?_,?_,ngp,?_,?_⟩,?_,?_⟩,hbel.setCell hp _⟩
 ·rw [cell_set _ _ _ _ _ (by decide),ce];exact hA.c0
 ·rw [cell_set _ _ _ _ _ (by decide),ce];exact hA.c1
 ·rw [frozen_set,fe];exact hA.f1
 ·rw [cell_set _ _ _ _ _ (by decide),ce];exact c2
 ·refine ⟨o2.1,?_⟩
  rcases o2.2 with h | ⟨g',cap',cur,h,hb,hg',rest⟩
  ·exact .inl h
  ·have eg:g'=g:=by simp at h;exact h.1.symm
   refine .inr ⟨g',cap',cur,h,hb,?_,rest⟩
   rw [heap_set _ _ _ _ _ (by rw [eg];exact ngp),eg,bg,←eg];exact hg'
 ·refine ⟨hown1.1,?_⟩
  rcases hown1.2 with h | ⟨g',cap',cur,h,hb,hg',rest⟩
  ·exact .inl h
  ·have eg:g'=gn:=by simp at h;exact h.1.symm
   refine .inr ⟨g',cap',cur,h,hb,?_,rest⟩
   rw [heap_set _ _ _ _ _ (by rw [eg];exact hgn.1)];exact hg'
 ·simp [Value.ownBlock];exact hgn.1
 ·simp [Value.ownBlock];exact hgn.2
 ·rw [frozen_set,fe];exact f2
 ·rw [frozen_set,fe];exact f3

set_option maxHeartbeats 400000 in
theorem add_any (B p:Nat) (s:ByteArray) (at_:Nat) (op:List Int) (n:Nat) (tk:List Value) (w:World) (k t:ByteArray) (i:Nat) (h:RS B p s at_ op n tk w) (hB:B≤w.heap.size) (hn:n≤100000) :
  Calls Tryz.prog 59 #[.pointer (some ⟨p,0,none⟩),.string k,.string t,.int .i64 i] w fun ev w'=>ev = .returned (.tuple #[])∧RS B p s at_ op (n+1) (tk++tokCells k t i) w'∧Below B w w':=by
 obtain ⟨hA,hp,hpl,⟨g,cap,vt,c2,c3,o2,o3,ngp,ntp,ntg⟩,f2,f3⟩:=h
 obtain ⟨i0,hi,hz0,hz1,hz2⟩:=info_parts infoTok
 go_enter Tryz.func59,Tryz.ntmps59
 go_wp2_with (first | (at_builtin;refine wpList_append_lies _ rfl _ _ _ rfl B 121 i0 (.agg #[.string ⟨#[]⟩,.string ⟨#[]⟩,.int .i64 0]) 3 40 Tryz.underlying97 hi hz0 hz1 hz2 rfl (by decide) _ n tk rfl (o3.alloc _) ⟨w.heap.size,0,none⟩ 1 1 (tokCells k t i) rfl rfl (three_new _ _ _ _ _) (fun y hy=>by simp [tokCells] at hy;rcases hy with rfl | rfl | rfl <;> rfl) (by decide) (by unfold maxLen;omega) (by omega) (by simp;omega) _ rfl ?_))
 intro gn capn w1 hown1 hgrow hat hlt
 have R:=rs_add hA hp hpl c2 c3 o2 o3 ngp ntp ntg f2 f3 hB hown1 hgrow (by simpa using hat)
 have e3:w1.cell? ⟨p,3,none⟩=some vt:=by
  rw [hgrow.cell_far ⟨p,3,none⟩ (by simp;omega) (fun e=>ntp e.symm),World.cell?_alloc_past _ _ _ hpl];exact c3
 have g3:w1.frozen? ⟨p,3,none⟩=false:=by
  rw [hgrow.frozen_far ⟨p,3,none⟩ (by simp;omega) (fun e=>ntp e.symm),World.frozen?_alloc_past _ _ _ hpl];exact f3
 clear hgrow hown1 hat hA c2 c3 o2 o3 ntp ntg f2 f3
 go_wp2
 go_end0
 exact ⟨rfl,R.1,R.2⟩
end Go.Proofs.YtemapnogjepokaaGreatDoor

/- Package lex: settle, by its contract. -/
namespace Go.Proofs.YtemapnogjepokaaGreatDoor
open Go.RowKit

theorem RS.top {B p:Nat}{s:ByteArray}{at_:Nat}{l:List Int}{x:Int}{n:Nat}{tk:List Value}{w:World}(h:RS B p s at_ (l ++ [x]) n tk w) :
  ∃ g cap,w.cell? ⟨p,2,none⟩=some (.slice (some ⟨g,0,none⟩) (l.length+1) cap)∧w.cell? ⟨g,l.length,none⟩=some (.int .i64 x):=by
 obtain ⟨_,_,_,⟨g,cap,vt,c2,_,o2,_⟩,_,_⟩:=h
 refine ⟨g,cap,by simpa using c2,?_⟩
 rcases o2.2 with ⟨h,_⟩ | ⟨g',cap',cur,h,_,hg',_,_,hsz,htk⟩
 ·cases h
 ·have eg:g'=g:=by simp at h;exact h.1.symm
  subst eg
  rw [cell_of_row w g' l.length cur 3 (0,0) hg']
  have e:(cur.toList.take ((l ++ [x]).length*1))[l.length]?=((l ++ [x]).map (Value.int .i64))[l.length]?:=by rw [htk]
  rw [List.getElem?_take,if_pos (by simp)] at e
  rw [←Array.getElem?_toList,e]
  simp

theorem RS.drewN {B p:Nat}{s:ByteArray}{at_:Nat}{op:List Int}{n:Nat}{tk:List Value}{w:World}(h:RS B p s at_ op n tk w) (q:Nat):RS B p s at_ op n tk (w.drewN q):=
 ⟨⟨h.hA.hs,h.hA.hat,h.hA.c0,h.hA.c1,h.hA.f1⟩,h.hp,h.hpl,h.ex,h.f2,h.f3⟩

theorem inner_any {B p:Nat}{s:ByteArray}{at_:Nat}{l:List Int}{x:Int}{n:Nat}{tk:List Value}(w:World) (h:RS B p s at_ (l ++ [x]) n tk w) (hl:l.length≤100000) :
  Calls Tryz.prog 74 #[.pointer (some ⟨p,0,none⟩)] w fun ev w'=>ev = .returned (.int .i64 x) ∧ ∃ q,w'=w.drewN q:=by
 obtain ⟨g,cap,c2,cg⟩:=h.top
 exact innermost_any p w g l.length cap x hl c2 cg

def popTo (ind:Int):List Int→Nat × List Int
 | []=>(0,[])
 | x::xs=>if ind<x then ((popTo ind xs).1+1,(popTo ind xs).2) else (0,x::xs)

def dedents (i:Nat):Nat→List Value
 | 0 => []
 | k+1=>dedents i k++tokCells ⟨#[100,101,100,101,110,116]⟩ ⟨#[]⟩ i

theorem ownsRow_far' {w w':World}{base e size n:Nat}{v:Value}{xs:List Value}(h:w.ownsRow base e size v n xs) (hf:∀ k,v.ownBlock=some k→w'.heap[k]?=w.heap[k]?):w'.ownsRow base e size v n xs:=by
 refine ⟨h.1,?_⟩
 rcases h.2 with hn | ⟨g,cap,cur,hv,hb,hg,rest⟩
 ·exact .inl hn
 ·exact .inr ⟨g,cap,cur,hv,hb,(hf g (by rw [hv];rfl)).trans hg,rest⟩

theorem rs_pop {B p:Nat}{s:ByteArray}{at_:Nat}{l:List Int}{x:Int}{n:Nat}{tk:List Value}{w:World}{g cap:Nat}(h:RS B p s at_ (l ++ [x]) n tk w) (hc:w.cell? ⟨p,2,none⟩=some (.slice (some ⟨g,0,none⟩) (l.length+1) cap)) :
  RS B p s at_ l n tk (w.setCell ⟨p,2,none⟩ (.slice (some ⟨g,0,none⟩) l.length cap))∧Below B w (w.setCell ⟨p,2,none⟩ (.slice (some ⟨g,0,none⟩) l.length cap)):=by
 obtain ⟨hA,hp,hpl,⟨g',cap',vt,c2,c3,o2,o3,ngp,ntp,ntg⟩,f2,f3⟩:=h
 have e:g'=g∧cap'=cap:=by
  rw [hc] at c2
  simp at c2
  exact ⟨c2.1.symm,c2.2.symm⟩
 obtain ⟨rfl,rfl⟩:=e
 refine ⟨⟨⟨hA.hs,hA.hat,?_,?_,?_⟩,hp,by rw [size_set];exact hpl,⟨g',cap',vt,World.cell?_setCell_same _ _ _ hc,?_,?_,?_,ngp,ntp,ntg⟩,?_,?_⟩,(Below.refl _ _).setCell hp _⟩
 ·rw [cell_set _ _ _ _ _ (by decide)];exact hA.c0
 ·rw [cell_set _ _ _ _ _ (by decide)];exact hA.c1
 ·rw [frozen_set];exact hA.f1
 ·rw [cell_set _ _ _ _ _ (by decide)];exact c3
 ·refine ⟨by simp,?_⟩
  rcases o2.2 with ⟨h,_⟩ | ⟨g2,cap2,cur,h,hb,hg2,hle,hm,hsz,htk⟩
  ·cases h
  ·have eg:g2=g'∧cap2=cap':=by simp at h;exact ⟨h.1.symm,h.2.symm⟩
   obtain ⟨rfl,rfl⟩:=eg
   refine .inr ⟨g2,cap2,cur,rfl,hb,?_,by simp at hle;omega,hm,hsz,?_⟩
   ·rw [heap_set _ _ _ _ _ ngp];exact hg2
   ·have:=congrArg (List.take l.length) htk
    rw [List.take_take] at this
    simpa using this
 ·exact ownsRow_far' o3 (fun k hk=>heap_set _ _ _ _ _ (fun e=>ntp (by rw [hk,e])))
 ·rw [frozen_set];exact f2
 ·rw [frozen_set];exact f3
end Go.Proofs.YtemapnogjepokaaGreatDoor
