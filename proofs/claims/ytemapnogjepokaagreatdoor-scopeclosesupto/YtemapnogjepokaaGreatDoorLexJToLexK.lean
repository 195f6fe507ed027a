/- Package lex: the walk of settle. -/
import Derived.Test.YtemapnogjepokaaGreatDoorLexFToLexI
import Derived.Shelf.LaysC
import Derived.Shelf.Strconv.ParseIntPublic10
import Derived.Shelf.Strconv.ErrVarParseInt
import Derived.Test.YtemapnogjepokaaGreatDoorProg
namespace Go.Proofs.YtemapnogjepokaaGreatDoor
open Go.RowKit
attribute [local go_sem ↓] Go.wp_at_zero Go.wp_at_succ

theorem RS.drew {B p:Nat}{s:ByteArray}{at_:Nat}{op:List Int}{n:Nat}{tk:List Value}{w:World}(h:RS B p s at_ op n tk w):RS B p s at_ op n tk w.drew:=
 ⟨⟨h.hA.hs,h.hA.hat,h.hA.c0,h.hA.c1,h.hA.f1⟩,h.hp,h.hpl,h.ex,h.f2,h.f3⟩

theorem rs_push {B p:Nat}{s:ByteArray}{at_:Nat}{op:List Int}{ind:Int}{n:Nat}{tk:List Value}{w w1:World}{g cap gn capn:Nat}{vt:Value}{o:Obj}(hA:At p s at_ w) (hp:B≤p) (hpl:p<w.heap.size)
  (c2:w.cell? ⟨p,2,none⟩=some (.slice (some ⟨g,0,none⟩) op.length cap)) (c3:w.cell? ⟨p,3,none⟩=some vt)
  (o2:w.ownsRow B 3 1 (.slice (some ⟨g,0,none⟩) op.length cap) op.length (op.map (Value.int .i64))) (o3:w.ownsRow B 121 3 vt n tk)
  (ngp:g≠p) (ntp:vt.ownBlock≠some p) (ntg:vt.ownBlock≠some g) (f2:w.frozen? ⟨p,2,none⟩=false) (f3:w.frozen? ⟨p,3,none⟩=false) (hB:B≤w.heap.size)
  (hown1:w1.ownsRow B 3 1 (.slice (some ⟨gn,0,none⟩) (op.length+1) capn) (op.length+1) (op.map (Value.int .i64) ++ [.int .i64 ind])) (hgrow:(w.alloc o).grownBy w1 (some g)) (hat:g=gn∨gn=w.heap.size+1) :
  RS B p s at_ (op ++ [ind]) n tk (w1.setCell ⟨p,2,none⟩ (.slice (some ⟨gn,0,none⟩) (op.length+1) capn))∧Below B w (w1.setCell ⟨p,2,none⟩ (.slice (some ⟨gn,0,none⟩) (op.length+1) capn)):=by
 have vlt:∀ k,vt.ownBlock=some k→k<w.heap.size:=fun k hk=>by
  rcases o3.2 with ⟨rfl,_⟩ | ⟨g',cap',cur,rfl,_,hg',_⟩
  ·simp [Value.ownBlock] at hk
  ·simp [Value.ownBlock] at hk;subst hk;exact lt_of_heap hg'
 have blk:∀ k,k<w.heap.size→g≠k→w1.heap[k]?=w.heap[k]?:=fun k hk hne =>
  (hgrow.block k (by simp;omega) (fun e=>hne (by simpa using e.symm))).trans (Below.heap_alloc _ _ _ hk)
 have bp:w1.heap[p]?=w.heap[p]?:=blk p hpl ngp
 have ce:∀ q,w1.cell? ⟨p,q,none⟩=w.cell? ⟨p,q,none⟩:=fun q=>World.cell?_of_block (w:=w) (a:=⟨p,q,none⟩) bp
 have fe:∀ q,w1.frozen? ⟨p,q,none⟩=w.frozen? ⟨p,q,none⟩:=fun q=>World.frozen?_of_block (w:=w) (a:=⟨p,q,none⟩) bp
 have hgn:gn≠p∧vt.ownBlock≠some gn:=by
  rcases hat with h | h
  ·exact ⟨by rw [←h];exact ngp,by rw [←h];exact ntg⟩
  ·exact ⟨by omega,fun e=>by have:=vlt _ e;omega⟩
 have hsz:w.heap.size≤w1.heap.size:=by have:=hgrow.size;simp at this;omega
 have hge:B≤g:=own_ge o2 g rfl
 have hbel:Below B w w1:=Below.grown ((Below.refl _ _).alloc hB _) hgrow (by simp;omega) (fun k hk=>by simp at hk;omega)
 refine ⟨⟨⟨hA.hs,hA.hat,?_,?_,?_⟩,hp,by rw [size_set];omega,⟨gn,capn,vt,by rw [List.length_append];exact World.cell?_setCell_same _ _ _ ((ce 2).trans c2),?_,?_,?_,hgn.1,ntp,hgn.2⟩,?_,?_⟩,hbel.setCell hp _⟩
 ·rw [cell_set _ _ _ _ _ (by decide),ce];exact hA.c0
 ·rw [cell_set _ _ _ _ _ (by decide),ce];exact hA.c1
 ·rw [frozen_set,fe];exact hA.f1
 ·rw [cell_set _ _ _ _ _ (by decide),ce];exact c3
 ·have h2:(w1.setCell ⟨p,2,none⟩ (.slice (some ⟨gn,0,none⟩) (op.length+1) capn)).ownsRow B 3 1 (.slice (some ⟨gn,0,none⟩) (op.length+1) capn) (op.length+1) (op.map (Value.int .i64) ++ [.int .i64 ind]):=
   ownsRow_far' hown1 (fun k hk=>heap_set _ _ _ _ _ (fun e=>hgn.1 (by simp [Value.ownBlock] at hk;omega)))
  simpa using h2
 ·refine ownsRow_far' o3 (fun k hk => ?_)
  rw [heap_set _ _ _ _ _ (fun e=>ntp (by rw [hk,e]))]
  exact blk k (vlt k hk) (fun e=>ntg (by rw [hk,e]))
 ·rw [frozen_set,fe];exact f2
 ·rw [frozen_set,fe];exact f3

set_option maxHeartbeats 1000000 in
theorem settle_in (B p:Nat) (s:ByteArray) (at_:Nat) (l:List Int) (x ind:Int) (n:Nat) (tk:List Value) (w:World) (h:RS B p s at_ (l ++ [x]) n tk w) (hl:l.length≤30000) (hn:n≤50000) (hx:x<ind) :
  Calls Tryz.prog 58 #[.pointer (some ⟨p,0,none⟩),.int .i64 ind] w fun ev w'=>ev = .returned (.tuple #[])∧RS B p s at_ (l ++ [x] ++ [ind]) (n+1) (tk++tokCells ⟨#[105,110,100,101,110,116]⟩ ⟨#[]⟩ at_) w'∧Below B w w':=by
 have hB:B≤w.heap.size:=by have:=h.hp;have:=h.hpl;omega
 obtain ⟨i0,hi,hz0,hz1,hz2⟩:=info_parts infoInt
 go_enter Tryz.func58,Tryz.ntmps58
 go_wp2_with fail
 refine (inner_any _ h (by omega)).mono ?_
 rintro ev w1 ⟨rfl,q,hq⟩
 have h1:RS B p s at_ (l ++ [x]) n tk w1:=by rw [hq];exact h.drewN q
 have hb1:Below B w w1:=by rw [hq];exact below_drewN (Below.refl _ _) q
 have hB1:B≤w1.heap.size:=Nat.le_trans hB hb1.size
 clear hq
 obtain ⟨g,cap,vt,c2,c3,o2,o3,ngp,ntp,ntg⟩:=h1.ex
 have hpl:=h1.hpl
 have hp:=h1.hp
 have f2:=h1.f2
 have f3:=h1.f3
 have hA1:=h1.hA
 have c2':=c2
 have o2':=o2
 simp only [List.length_append,List.length_cons,List.length_nil] at c2 o2
 go_wp2_with (first | (at_builtin;refine wpList_append_lies _ rfl _ _ _ rfl B 3 i0 (.int .i64 0) 1 8 Tryz.underlying115 hi hz0 hz1 hz2 rfl (by decide) _ (l.length+1) ((l ++ [x]).map (Value.int .i64)) rfl (o2.alloc _) ⟨w1.heap.size,0,none⟩ 1 1 [.int .i64 ind] rfl rfl (cell_one_new _ _ _) (fun y hy=>by simp at hy;subst hy;rfl) (by decide) (by unfold maxLen;omega) (by omega) (by simp;omega) _ rfl ?_))
 intro gn capn w2 hown2 hgrow hat hlt
 have R:=rs_push (op:=l ++ [x]) (ind:=ind) (gn:=gn) (capn:=capn) hA1 hp hpl c2' c3 o2' o3 ngp ntp ntg f2 f3 hB1 (by simpa using hown2) hgrow (by simpa [Value.ownBlock] using hat)
 simp only [List.length_append,List.length_cons,List.length_nil] at R
 have e2:w2.cell? ⟨p,2,none⟩=some (.slice (some ⟨g,0,none⟩) (l.length+1) cap):=by
  rw [hgrow.cell_far ⟨p,2,none⟩ (by simp;omega) (fun e=>ngp (by simpa [Value.ownBlock] using e.symm)),World.cell?_alloc_past _ _ _ hpl];exact c2
 have g2:w2.frozen? ⟨p,2,none⟩=false:=by
  rw [hgrow.frozen_far ⟨p,2,none⟩ (by simp;omega) (fun e=>ngp (by simpa [Value.ownBlock] using e.symm)),World.frozen?_alloc_past _ _ _ hpl];exact f2
 clear hgrow hown2 hat c2 c3 o2 o3 ntp ntg f2 f3 c2' o2'
 have hatc:=R.1.hA.c1
 go_wp2_with fail
 refine (add_any B p s at_ _ n tk _ _ _ at_ R.1 (Nat.le_trans hB1 R.2.size) (by omega)).mono ?_
 rintro ev w3 ⟨rfl,h3,hb3⟩
 go_wp2_with fail
 refine bodyPost_ret (results_none rfl _ _ _) rfl ?_
 exact ⟨rfl,h3,(hb1.trans R.2).trans hb3⟩

def SPost (B p:Nat) (s:ByteArray) (at_:Nat) (st:List Int) (ind:Int) (n:Nat) (tk:List Value) (a0:Addr) (w:World) (ev:Ending) (w':World):Prop:=
 if (popTo ind st).2.head?=some ind then ev = .returned (.tuple #[])∧RS B p s at_ (popTo ind st).2.reverse (n+(popTo ind st).1) (tk++dedents at_ (popTo ind st).1) w'∧Below B w w'
 else Thrown B w at_ a0 ev w'

theorem SPost.yes {B p:Nat}{s:ByteArray}{at_:Nat}{st:List Int}{ind x:Int}{xs:List Int}{n k:Nat}{tk:List Value}{a0:Addr}{w w':World}(hp:popTo ind st=(k,x::xs)) (he:ind=x) (h:RS B p s at_ (x::xs).reverse (n+k) (tk++dedents at_ k) w') (hb:Below B w w'):SPost B p s at_ st ind n tk a0 w (.returned (.tuple #[])) w':=by
 unfold SPost
 rw [hp,if_pos (by simp [he])]
 exact ⟨rfl,h,hb⟩
theorem SPost.no {B p:Nat}{s:ByteArray}{at_:Nat}{st:List Int}{ind x:Int}{xs:List Int}{n k:Nat}{tk:List Value}{a0:Addr}{w w':World}{ev:Ending}(hp:popTo ind st=(k,x::xs)) (he:ind≠x) (h:Thrown B w at_ a0 ev w'):SPost B p s at_ st ind n tk a0 w ev w':=by
 unfold SPost
 rw [hp,if_neg (by simp;exact fun e=>he e.symm)]
 exact h

set_option maxHeartbeats 2000000 in
theorem settle_out (B p:Nat) (s:ByteArray) (at_:Nat) (x:Int) (xs:List Int) (ind:Int) (n:Nat) (tk:List Value) (a0:Addr) (w:World) (h:RS B p s at_ (x::xs).reverse n tk w) (hl:xs.length≤30000) (hn:n≤40000) (hx:¬ x<ind) (h0:0≤ind) (hlast:(x::xs).getLast?=some 0)
  (hgB:3<B) (hg:w.cell? ⟨3,0,none⟩=some (.iface 214 (.pointer (some a0)))) :
  Calls Tryz.prog 58 #[.pointer (some ⟨p,0,none⟩),.int .i64 ind] w fun ev w'=>SPost B p s at_ (x::xs) ind n tk a0 w ev w':=by
 have hB:B≤w.heap.size:=by have:=h.hp;have:=h.hpl;omega
 rw [List.reverse_cons] at h
 go_enter Tryz.func58,Tryz.ntmps58
 go_wp2_with fail
 refine (inner_any _ h (by simp;omega)).mono ?_
 rintro ev w1 ⟨rfl,q,hq⟩
 have h1:RS B p s at_ (xs.reverse ++ [x]) n tk w1:=by rw [hq];exact h.drewN q
 have hb1:Below B w w1:=by rw [hq];exact below_drewN (Below.refl _ _) q
 clear hq
 go_wp2_with fail
 go_loopg [] (xs.length+1) (fun gk wr => ∃ (x1:Int) (xs1:List Int) (k:Nat),gk=xs1.length+1∧k+xs1.length=xs.length∧(x1::xs1).getLast?=some 0∧popTo ind (x::xs)=(k+(popTo ind (x1::xs1)).1,(popTo ind (x1::xs1)).2)∧RS B p s at_ (xs1.reverse ++ [x1]) (n+k) (tk++dedents at_ k) wr∧Below B w wr)
 case atStart=>exact ⟨x,xs,0,rfl,by omega,hlast,by simp,by simpa [dedents] using h1,hb1⟩
 case round =>
  obtain ⟨x1,xs1,k,hgk,hkl,hla,hpop,hr,hbr⟩:=hrel
  have HG:Hid (gk=xs1.length+1):=hgk
  have HP:Hid (popTo ind (x::xs)=(k+(popTo ind (x1::xs1)).1,(popTo ind (x1::xs1)).2)):=hpop
  have HL:Hid ((x1::xs1).getLast?=some 0):=hla
  have HLE:Hid (k+xs1.length=xs.length):=hkl
  clear hgk hpop hla h1 h hb1 hlast hkl
  have hlen:xs1.length≤30000:=by have:=HLE.out;omega
  have hkn:k≤30000:=by have:=HLE.out;omega
  go_wp2_with fail
  refine (inner_any _ hr (by simp;omega)).mono ?_
  rintro ev w2 ⟨rfl,q2,hq2⟩
  have h2:RS B p s at_ (xs1.reverse ++ [x1]) (n+k) (tk++dedents at_ k) w2:=by rw [hq2];exact hr.drewN q2
  have hb2:Below B w w2:=by rw [hq2];exact below_drewN hbr q2
  clear hq2 hr hbr
  by_cases hlt:ind<x1
  ·obtain ⟨g,cap,c2,_⟩:=h2.top
   simp only [List.length_reverse] at c2
   have f2:=h2.f2
   have hI1:(0:Int)≤(xs1.length:Int):=by omega
   have hI2:(xs1.length:Int)≤(cap:Int):=by
    obtain ⟨_,_,_,d2,_,o2,_⟩:=h2.ex
    rcases o2.2 with ⟨he,_⟩ | ⟨_,_,_,he,_,_,hle,_⟩
    ·cases he
    ·rw [c2] at d2
     simp at d2 he hle
     omega
   have hwr:IntKind.i64.wrap (xs1.length:Int)=(xs1.length:Int):=wrap_small _ (by omega) (by omega)
   go_wp2_with fail
   go_region
   have R:=rs_pop (l:=xs1.reverse) (g:=g) (cap:=cap) h2 (by simpa using c2)
   simp only [List.length_reverse] at R
   have R1:=R.1.drew
   have hatc:=R1.hA.c1
   have hbR:Below B w (w2.setCell ⟨p,2,none⟩ (.slice (some ⟨g,0,none⟩) xs1.length cap)).drew:=(hb2.trans R.2).drew
   go_wp2_with fail
   refine (add_any B p s at_ _ (n+k) _ _ _ _ at_ R1 (Nat.le_trans hB hbR.size) (by omega)).mono ?_
   rintro ev w3 ⟨rfl,h3,hb3⟩
   go_wp2_with fail
   cases xs1 with
   | nil =>
    have e0:x1=0:=by simpa using HL.out
    omega
   | cons y ys =>
    go_roundg (ys.length+1)
    case measure=>have:=HG.out;simp at this;omega
    case rel =>
     refine ⟨y,ys,k+1,rfl,by have:=HLE.out;simp at this;omega,by simpa using HL.out,?_,?_,hbR.trans hb3⟩
     ·rw [HP.out]
      simp only [popTo,hlt,if_true]
      congr 1
      omega
     ·simpa [dedents,Nat.add_assoc,List.append_assoc] using h3
  ·have hpe:popTo ind (x1::xs1)=(0,x1::xs1):=by simp [popTo,hlt]
   have HPE:Hid (popTo ind (x::xs)=(k,x1::xs1)):=show popTo ind (x::xs)=(k,x1::xs1) by rw [HP.out,hpe];simp
   clear hpe
   have hgw:w2.cell? ⟨3,0,none⟩=some (.iface 214 (.pointer (some a0))):=(hb2.cell (p:=⟨3,0,none⟩) hgB).trans hg
   go_wp2_with fail
   refine (inner_any _ h2 (by simp;omega)).mono ?_
   rintro ev w3 ⟨rfl,q3,hq3⟩
   have h3:RS B p s at_ (xs1.reverse ++ [x1]) (n+k) (tk++dedents at_ k) w3:=by rw [hq3];exact h2.drewN q3
   have hb3:Below B w w3:=by rw [hq3];exact below_drewN hb2 q3
   have hgw3:w3.cell? ⟨3,0,none⟩=some (.iface 214 (.pointer (some a0))):=by rw [hq3];exact hgw
   clear hq3 hgw
   cases he:(ind != x1)
   ·have hie:ind=x1:=by simpa using he
    go_wp2_with fail
    go_end0
    exact SPost.yes HPE.out hie (by simpa using h3) hb3
   ·have hatc:=h3.hA.c1
    go_wp2_with fail
    refine (none_any _ a0 _ hgw3).mono ?_
    rintro ev w4 ⟨rfl,rfl⟩
    go_wp2
    exact ⟨rfl,SPost.no HPE.out (by simpa using he) ⟨_,rfl,hb3.alloc (Nat.le_trans hB hb3.size) _,cell_new rfl rfl,cell_new rfl rfl⟩⟩
end Go.Proofs.YtemapnogjepokaaGreatDoor

/- The library's strconv.ParseInt at this program: the shelf's laying, and two of its contracts. -/
namespace Go.Proofs.YtemapnogjepokaaGreatDoor
open Go.Shelf Go.RowKit
def laysC174_ren:Go.Shelf.Ren:=⟨fun | 174=>137 | 247=>147 | 245=>148 | 287=>164 | 279=>165 | 280=>166 | 281=>167 | 282=>168 | 321=>182 | 322=>183 | 316=>184 | 171=>186 | 205=>185 | 243=>196 | 246=>144 | 283=>157 | 284=>158 | 285=>159 | 286=>160 | 129=>95 | 317=>177 | 318=>178 | 319=>179 | 320=>180 | 337=>193 | 338=>194 | n=>n,fun | 9=>9 | 3=>3 | 2=>2 | 75=>27 | 85=>168 | 4=>4 | 167=>193 | 5=>5 | 53=>149 | 175=>194 | 46=>127 | 168=>196 | 37=>75 | 0=>0 | 210=>210 | 21=>21 | 127=>207 | 145=>216 | 143=>214 | 171=>183 | 173=>185 | 212=>204 | 51=>147 | 20=>20 | 213=>205 | 232=>217 | 233=>218 | 80=>155 | n=>n,fun | 15=>7 | 16=>8 | 17=>6 | 18=>10 | 19=>11 | n=>n⟩
theorem laysC174:Go.Proofs.LaysC.n174 Tryz.prog laysC174_ren:={
 mixed:=by kernel_rfl
 f129:=Tryz.func95.trans (congrArg some (by kernel_rfl))
 f171:=Tryz.func186.trans (congrArg some (by kernel_rfl))
 f174:=Tryz.func137.trans (congrArg some (by kernel_rfl))
 f205:=Tryz.func185.trans (congrArg some (by kernel_rfl))
 f243:=Tryz.func196.trans (congrArg some (by kernel_rfl))
 f245:=Tryz.func148.trans (congrArg some (by kernel_rfl))
 f246:=Tryz.func144.trans (congrArg some (by kernel_rfl))
 f247:=Tryz.func147.trans (congrArg some (by kernel_rfl))
 f279:=Tryz.func165.trans (congrArg some (by kernel_rfl))
 f280:=Tryz.func166.trans (congrArg some (by kernel_rfl))
 f281:=Tryz.func167.trans (congrArg some (by kernel_rfl))
 f282:=Tryz.func168.trans (congrArg some (by kernel_rfl))
 f283:=Tryz.func157.trans (congrArg some (by kernel_rfl))
 f284:=Tryz.func158.trans (congrArg some (by kernel_rfl))
 f285:=Tryz.func159.trans (congrArg some (by kernel_rfl))
 f286:=Tryz.func160.trans (congrArg some (by kernel_rfl))
 f287:=Tryz.func164.trans (congrArg some (by kernel_rfl))
 f316:=Tryz.func184.trans (congrArg some (by kernel_rfl))
 f317:=Tryz.func177.trans (congrArg some (by kernel_rfl))
 f318:=Tryz.func178.trans (congrArg some (by kernel_rfl))
 f319:=Tryz.func179.trans (congrArg some (by kernel_rfl))
 f320:=Tryz.func180.trans (congrArg some (by kernel_rfl))
 f321:=Tryz.func182.trans (congrArg some (by kernel_rfl))
 f322:=Tryz.func183.trans (congrArg some (by kernel_rfl))
 f337:=Tryz.func193.trans (congrArg some (by kernel_rfl))
 f338:=Tryz.func194.trans (congrArg some (by kernel_rfl))
 t0:=Tryz.underlying0
 a0:=Tryz.isAgg0
 z0:=Tryz.sizeOf0
 v0:=Tryz.zeroValue0
 t2:=Tryz.underlying2
 a2:=Tryz.isAgg2
 z2:=Tryz.sizeOf2
 v2:=Tryz.zeroValue2
 t3:=Tryz.underlying3
 a3:=Tryz.isAgg3
 z3:=Tryz.sizeOf3
 v3:=Tryz.zeroValue3
 t4:=Tryz.underlying4
 a4:=Tryz.isAgg4
 z4:=Tryz.sizeOf4
 v4:=Tryz.zeroValue4
 t5:=Tryz.underlying5
 a5:=Tryz.isAgg5
 z5:=Tryz.sizeOf5
 v5:=Tryz.zeroValue5
 t9:=Tryz.underlying9
 a9:=Tryz.isAgg9
 z9:=Tryz.sizeOf9
 v9:=Tryz.zeroValue9
 t20:=Tryz.underlying20
 a20:=Tryz.isAgg20
 z20:=Tryz.sizeOf20
 v20:=Tryz.zeroValue20
 t21:=Tryz.underlying21
 a21:=Tryz.isAgg21
 z21:=Tryz.sizeOf21
 v21:=Tryz.zeroValue21
 t37:=Tryz.underlying75
 a37:=Tryz.isAgg75
 z37:=Tryz.sizeOf75
 v37:=Tryz.zeroValue75
 t46:=Tryz.underlying127
 a46:=Tryz.isAgg127
 z46:=Tryz.sizeOf127
 v46:=Tryz.zeroValue127
 t51:=Tryz.underlying147
 a51:=Tryz.isAgg147
 z51:=Tryz.sizeOf147
 v51:=Tryz.zeroValue147
 t53:=Tryz.underlying149
 a53:=Tryz.isAgg149
 z53:=Tryz.sizeOf149
 v53:=Tryz.zeroValue149
 t75:=Tryz.underlying27
 a75:=Tryz.isAgg27
 z75:=Tryz.sizeOf27
 v75:=Tryz.zeroValue27
 t85:=Tryz.underlying168
 a85:=Tryz.isAgg168
 z85:=Tryz.sizeOf168
 v85:=Tryz.zeroValue168
 t127:=Tryz.underlying207
 a127:=Tryz.isAgg207
 z127:=Tryz.sizeOf207
 v127:=Tryz.zeroValue207
 t143:=Tryz.underlying214
 a143:=Tryz.isAgg214
 z143:=Tryz.sizeOf214
 v143:=Tryz.zeroValue214
 t145:=Tryz.underlying216
 a145:=Tryz.isAgg216
 z145:=Tryz.sizeOf216
 v145:=Tryz.zeroValue216
 t167:=Tryz.underlying193
 a167:=Tryz.isAgg193
 z167:=Tryz.sizeOf193
 v167:=Tryz.zeroValue193
 t168:=Tryz.underlying196
 a168:=Tryz.isAgg196
 z168:=Tryz.sizeOf196
 v168:=Tryz.zeroValue196
 t171:=Tryz.underlying183
 a171:=Tryz.isAgg183
 z171:=Tryz.sizeOf183
 v171:=Tryz.zeroValue183
 t173:=Tryz.underlying185
 a173:=Tryz.isAgg185
 z173:=Tryz.sizeOf185
 v173:=Tryz.zeroValue185
 t175:=Tryz.underlying194
 a175:=Tryz.isAgg194
 z175:=Tryz.sizeOf194
 v175:=Tryz.zeroValue194
 t210:=Tryz.underlying210
 a210:=Tryz.isAgg210
 z210:=Tryz.sizeOf210
 v210:=Tryz.zeroValue210
 t212:=Tryz.underlying204
 a212:=Tryz.isAgg204
 z212:=Tryz.sizeOf204
 v212:=Tryz.zeroValue204
 t213:=Tryz.underlying205
 a213:=Tryz.isAgg205
 z213:=Tryz.sizeOf205
 t232:=Tryz.underlying217
 a232:=Tryz.isAgg217
 z232:=Tryz.sizeOf217
 v232:=Tryz.zeroValue217
 t233:=Tryz.underlying218
 a233:=Tryz.isAgg218
 z233:=Tryz.sizeOf218
 v233:=Tryz.zeroValue218
 g15:=by kernel_rfl
 g16:=by kernel_rfl
 g17:=by kernel_rfl
 g18:=by kernel_rfl
 g19:=by kernel_rfl
 t80:=Tryz.underlying155
 a80:=Tryz.isAgg155
 z80:=Tryz.sizeOf155
 v80:=Tryz.zeroValue155
 i0:=by kernel_rfl
 i2:=by kernel_rfl
 i3:=by kernel_rfl
 i4:=by kernel_rfl
 i5:=by kernel_rfl
 i9:=by kernel_rfl
 i20:=by kernel_rfl
 i21:=by kernel_rfl
 i37:=by kernel_rfl
 i46:=by kernel_rfl
 i51:=by kernel_rfl
 i53:=by kernel_rfl
 i75:=by kernel_rfl
 i80:=by kernel_rfl
 i85:=by kernel_rfl
 i127:=by kernel_rfl
 i143:=by kernel_rfl
 i145:=by kernel_rfl
 i167:=by kernel_rfl
 i168:=by kernel_rfl
 i171:=by kernel_rfl
 i173:=by kernel_rfl
 i175:=by kernel_rfl
 i210:=by kernel_rfl
 i212:=by kernel_rfl
 i232:=by kernel_rfl
 i233:=by kernel_rfl
 m15:=by kernel_rfl
 m16:=by kernel_rfl
 m17:=by kernel_rfl
 m18:=by kernel_rfl
 m19:=by kernel_rfl
 c0:=by kernel_rfl
 c2:=by kernel_rfl
 c3:=by kernel_rfl
 c4:=by kernel_rfl
 c5:=by kernel_rfl
 c9:=by kernel_rfl
 c20:=by kernel_rfl
 c21:=by kernel_rfl
 c37:=by kernel_rfl
 c46:=by kernel_rfl
 c51:=by kernel_rfl
 c53:=by kernel_rfl
 c75:=by kernel_rfl
 c80:=by kernel_rfl
 c85:=by kernel_rfl
 c127:=by kernel_rfl
 c143:=by kernel_rfl
 c145:=by kernel_rfl
 c167:=by kernel_rfl
 c168:=by kernel_rfl
 c171:=by kernel_rfl
 c173:=by kernel_rfl
 c175:=by kernel_rfl
 c210:=by kernel_rfl
 c212:=by kernel_rfl
 c213:=by kernel_rfl
 c232:=by kernel_rfl
 c233:=by kernel_rfl }

theorem parse_ok (s:ByteArray) (hmax:s.size≤9223372036854775806) (v:Int) (h:Lib.parseIntB 64 s.data.toList = .ok v) (w:World) :
  Calls Tryz.prog 137 #[.string s,.int .i64 10,.int .i64 64] w fun e w'=>e = .returned (.tuple #[.int .i64 v,.nilIface])∧(w'=w ∨ ∃ t,w'=Lib.bytesWorld w 5 t):=Any.strconv_ParseInt_10_at64_ok laysC174 s hmax v h w
theorem parse_range (s : ByteArray) (hlim : s.size ≤ 281474976710656) (h : Lib.parseIntB 64 s.data.toList = .range) (tp : TypeId) (p : Value) (w : World) (hvar : w.var? Tryz.prog "strconv.ErrRange" = some #[.iface tp p]) :
  Calls Tryz.prog 137 #[.string s,.int .i64 10,.int .i64 64] w fun e w' => ∃ N,e = .returned (.tuple #[.int .i64 (Lib.intSat 64 s.data.toList),.iface 196 (.pointer (some ⟨N,0,none⟩))])∧w.heap.size≤N∧w'.heap[N]?=some (.cells #[.string ⟨#[80,97,114,115,101,73,110,116]⟩,.string s,.iface tp p] 210 (0,0))∧Below w.heap.size w w':=Any.strconv_ParseInt_10_at64_range_var laysC174 s hlim h tp p w hvar
end Go.Proofs.YtemapnogjepokaaGreatDoor

/- Package lex: digits, by its contract. -/
namespace Go.Proofs.YtemapnogjepokaaGreatDoor
open Go.RowKit

theorem passTo_all (P:Int→Bool) (s:ByteArray):∀ n i k,i≤k→k<passTo P s n i → ∃ h:k<s.size,P (s[k].toNat:Int)=true
 | 0,i,k,h1,h2=>by simp [passTo] at h2;omega
 | n+1,i,k,h1,h2=>by
  unfold passTo at h2
  split at h2
  ·rename_i h
   split at h2
   ·rename_i hP
    by_cases e:k=i
    ·subst e;exact ⟨h,hP⟩
    ·exact passTo_all P s n (i+1) k (by omega) h2
   ·omega
  ·omega

theorem parseUintM_digits (M:Nat):∀ (l:List UInt8) (acc:Nat),(∀ c∈l,48≤c.toNat∧c.toNat≤57)→(∃ u,Lib.parseUintM M acc l = .ok u)∨Lib.parseUintM M acc l = .range
 | [],acc,_=>.inl ⟨acc,rfl⟩
 | c::r,acc,h=>by
  have hc:=h c (by simp)
  simp only [Lib.parseUintM,hc,and_self,if_true]
  split
  ·exact .inr rfl
  ·split
   ·exact .inr rfl
   ·exact parseUintM_digits M r _ (fun x hx=>h x (by simp [hx]))

theorem parseIntB_digits (l:List UInt8) (hl:l ≠ []) (h:∀ c∈l,48≤c.toNat∧c.toNat≤57):(∃ v,Lib.parseIntB 64 l = .ok v)∨Lib.parseIntB 64 l = .range:=by
 cases l with
 | nil=>exact absurd rfl hl
 | cons c r =>
  have hc:=h c (by simp)
  have e1:¬ c.toNat=43:=by omega
  have e2:¬ c.toNat=45:=by omega
  simp only [Lib.parseIntB,e1,e2,or_self,not_false_eq_true,true_and,false_and,if_false]
  have hp:=parseUintM_digits (2 ^ 64 - 1) (c::r) 0 h
  unfold Lib.parseUintB
  rw [if_neg hl]
  rcases hp with ⟨u,hu⟩ | hu
  ·rw [hu]
   simp only
   split
   ·exact .inr rfl
   ·exact .inl ⟨_,rfl⟩
  ·rw [hu]
   exact .inr rfl

def digitsTo (s:ByteArray) (i:Nat):Nat:=passTo digitB s (s.size - i) i
def intAt (s:ByteArray) (i:Nat):Option (ByteArray × Nat):=
 if h:i<s.size then
  if (s[i].toNat:Int) == 48 && decide (1<digitsTo s i - i) then none
  else match Lib.parseIntB 64 (s.extract i (digitsTo s i)).data.toList with
   | .ok _=>some (s.extract i (digitsTo s i),digitsTo s i)
   | _=>none
 else none

def DPost (B p:Nat) (s:ByteArray) (i:Nat) (a0:Addr) (w:World) (ev:Ending) (w':World):Prop:=
 match intAt s i with
 | some (t,j)=>ev = .returned (.string t)∧Went p w w' j∧j≤s.size
 | none=>Thrown B w i a0 ev w'
theorem DPost.some {B p:Nat}{s:ByteArray}{i j:Nat}{a0:Addr}{w w':World}{t:ByteArray}(h:intAt s i=some (t,j)) (h1:Went p w w' j) (h2:j≤s.size):DPost B p s i a0 w (.returned (.string t)) w':=by
 unfold DPost
 rw [h]
 exact ⟨rfl,h1,h2⟩
theorem DPost.none {B p:Nat}{s:ByteArray}{i:Nat}{a0:Addr}{w w':World}{ev:Ending}(h:intAt s i=Option.none) (h1:Thrown B w i a0 ev w'):DPost B p s i a0 w ev w':=by
 unfold DPost
 rw [h]
 exact h1

theorem rangeNamed : Tryz.prog.globalNamed "strconv.ErrRange" = some 8 := by kernel_rfl
theorem belowN {B:Nat}{a w:World}(h:Below B a w) (q:Nat):Below B a (w.drewN q):=below_drewN h q
theorem below_bytes (w:World) (t:ByteArray):Below w.heap.size w (Lib.bytesWorld w 5 t):=
 ⟨rfl,rfl,rfl,by rw [Lib.bytesWorld_size];omega,fun k hk=>Lib.bytesWorld_at_old w 5 t k hk⟩

theorem extract_all {s:ByteArray}{i j:Nat}{p:UInt8→Prop}(hj:j≤s.size) (h:∀ k (_:i≤k) (_:k<j) (hk:k<s.size),p s[k]):∀ c∈(s.extract i j).data.toList,p c:=by
 intro c hc
 obtain ⟨n,hn,rfl⟩:=List.mem_iff_getElem.1 hc
 have hz:n<j - i:=by simp at hn;omega
 have e:(s.extract i j).data.toList[n]=s[i+n]:=by
  simp
  rfl
 rw [e]
 exact h (i+n) (by omega) (by omega) (by omega)

set_option maxHeartbeats 1000000 in
theorem digits_walk (B p i : Nat) (s : ByteArray) (a0 : Addr) (w : World) (h : At p s i w) (hlt : i < s.size) (hd : digitB (s[i].toNat : Int) = true) (hp : p < w.heap.size) (hBp : B ≤ p) (hgB : 3 < B) (hg : w.cell? ⟨3, 0, none⟩ = some (.iface 214 (.pointer (some a0)))) (tp : TypeId) (vp : Value) (hvB : 8 < B) (hv : w.var? Tryz.prog "strconv.ErrRange" = some #[.iface tp vp]) :
  Calls Tryz.prog 107 #[.pointer (some ⟨p,0,none⟩)] w fun ev w'=>DPost B p s i a0 w ev w':=by
 have hA:=h
 obtain ⟨hs,hat,c0,c1,f1⟩:=h
 have hle:=passTo_le digitB s (s.size - i) i
 have hI:(i:Int)<(s.size:Int):=by omega
 have hj0:i+1≤passTo digitB s (s.size - i) i:=by
  rw [passTo_go hlt hd];exact (passTo_le digitB s _ (i+1)).1
 have hall:∀ c∈(s.extract i (passTo digitB s (s.size - i) i)).data.toList,48≤c.toNat∧c.toNat≤57:=
  extract_all (p:=fun c=>48≤c.toNat∧c.toNat≤57) (hle.2 (by omega)) (fun k h1 h2 hk=>by
   obtain ⟨_,hd⟩:=passTo_all digitB s _ i k h1 h2
   simp [digitB] at hd
   omega)
 go_enter Tryz.func107,Tryz.ntmps107
 go_wp2_with fail
 refine (pass_any 106 digitB enterDigit digit_any p s i _ hs hat c0 c1 f1).mono ?_
 rintro ev w1 ⟨rfl,hwent⟩
 have hj2:passTo digitB s (s.size - i) i≤s.size:=hle.2 (by omega)
 have hjj:digitsTo s i=passTo digitB s (s.size - i) i:=rfl
 generalize passTo digitB s (s.size - i) i=j at hj0 hj2 hwent hjj hall ⊢
 have HJ:Hid (digitsTo s i=j):=hjj
 have hA2:=hA.moved hwent hj2
 have d0:=hA2.c0
 have d1:=hA2.c1
 have hgg:w1.cell? ⟨3,0,none⟩=some (.iface 214 (.pointer (some a0))):=(World.cell?_of_block (w:=w) (hwent.far 3 (by omega))).trans hg
 have hJ1:(i:Int)≤(j:Int):=by omega
 have hJ2:(j:Int)≤(s.size:Int):=by omega
 have hesz:(s.extract i j).size=j - i:=by simp [ByteArray.size_extract];omega
 have hP:(0:Int)<((s.extract i j).size:Int):=by omega
 have hpos:0<(s.extract i j).size:=by omega
 have hfirst:(s.extract i j)[0]=s[i]:=by simp [ByteArray.getElem_extract]
 have HFI:Hid ((s.extract i j)[0]=s[i]):=hfirst
 clear hfirst hjj hle c0 c1 f1 hA2 hA
 go_wp2_with fail
 go_quiet (fail)
 by_cases hz:(s[i].toNat:Int) == 48∧1<j - i
 ·have HN:Hid (intAt s i=none):=show intAt s i=none by simp [intAt,hlt,HJ.out,hz]
  have h48:(((s.extract i j)[0].toNat:Int) == 48)=true:=by rw [HFI.out];exact hz.1
  have h1:(1:Int)<((s.extract i j).size:Int):=by omega
  go_wp2_with fail
  refine (none_any _ a0 _ (by exact hgg)).mono ?_
  rintro ev w3 ⟨rfl,rfl⟩
  go_wp2
  exact ⟨rfl,DPost.none HN.out ⟨_,rfl,below_drewN' ((hwent.below hBp).alloc (by rw [hwent.size];omega) _),cell_new rfl rfl,cell_new rfl rfl⟩⟩
 have hnz:((s[i].toNat:Int) == 48 && decide (1<j - i))=false:=by
  simp only [Bool.and_eq_false_iff,decide_eq_false_iff_not]
  by_cases e:((s[i].toNat:Int) == 48)=true
  ·exact .inr (fun h=>hz ⟨e,h⟩)
  ·exact .inl (Bool.eq_false_iff.2 e)
 have hne:(s.extract i j).data.toList ≠ []:=by
  intro e
  have:=congrArg List.length e
  simp at this
  omega
 have hpick:(((s.extract i j)[0].toNat:Int) == 48)=false∨((((s.extract i j)[0].toNat:Int) == 48)=true ∧ ¬ (1:Int)<((s.extract i j).size:Int)):=by
  rw [HFI.out]
  by_cases e:((s[i].toNat:Int) == 48)=true
  ·exact .inr ⟨e,fun h=>hz ⟨e,by omega⟩⟩
  ·exact .inl (Bool.eq_false_iff.2 e)
 rcases parseIntB_digits _ hne hall with ⟨v,hok⟩ | hrg
 ·have HN:Hid (intAt s i=some (s.extract i j,j)):=show intAt s i=some (s.extract i j,j) by simp only [intAt,hlt,dif_pos,HJ.out,hnz,Bool.false_eq_true,if_false,hok]
  have HOK:Hid (Lib.parseIntB 64 (s.extract i j).data.toList = .ok v):=hok
  clear hok hne hall hnz hz
  rcases hpick with h48 | ⟨h48,h1⟩
  all_goals
   go_wp2_with fail
   refine (parse_ok _ (by omega) v HOK.out _).mono ?_
   rintro ev w2 ⟨rfl,hw2⟩
   have hb2:Below (w1.drewN nq).heap.size (w1.drewN nq) w2:=by
    rcases hw2 with rfl | ⟨t,rfl⟩
    ·exact Below.refl _ _
    ·exact below_bytes _ _
   clear hw2
   have hfin:Went p w w2 j:=(hwent.drewN nq).went.trans (Went.ofBelow hb2 (by show p<w1.heap.size;rw [hwent.size];exact hp) (hwent.drewN nq).at_)
   go_wp2_with fail
   go_ret
   exact DPost.some HN.out hfin hj2
 ·have HN:Hid (intAt s i=none):=show intAt s i=none by simp only [intAt,hlt,dif_pos,HJ.out,hnz,Bool.false_eq_true,if_false,hrg]
  have HOK:Hid (Lib.parseIntB 64 (s.extract i j).data.toList = .range):=hrg
  have hvr : (w1.drewN nq).var? Tryz.prog "strconv.ErrRange" = some #[.iface tp vp] := var?_below ((belowN (Below.refl B w1) nq)) rangeNamed hvB (var?_below (hwent.below hBp) rangeNamed hvB hv)
  clear hrg hne hall hnz hz
  rcases hpick with h48 | ⟨h48,h1⟩
  all_goals
   go_wp2_with fail
   refine (parse_range _ (by omega) HOK.out tp vp _ hvr).mono ?_
   rintro ev w2 ⟨N,rfl,_,_,hb2⟩
   have hb3:Below B w w2:=(hwent.below hBp).trans ((belowN (Below.refl B w1) nq).trans (hb2.mono (by show B≤w1.heap.size;rw [hwent.size];omega)))
   have hg2:w2.cell? ⟨3,0,none⟩=some (.iface 214 (.pointer (some a0))):=(hb3.cell (p:=⟨3,0,none⟩) hgB).trans hg
   go_wp2_with fail
   refine (none_any _ a0 _ hg2).mono ?_
   rintro ev w3 ⟨rfl,rfl⟩
   go_wp2
   exact ⟨rfl,DPost.none HN.out ⟨_,rfl,hb3.alloc (by have:=hb3.size;omega) _,cell_new rfl rfl,cell_new rfl rfl⟩⟩
end Go.Proofs.YtemapnogjepokaaGreatDoor
