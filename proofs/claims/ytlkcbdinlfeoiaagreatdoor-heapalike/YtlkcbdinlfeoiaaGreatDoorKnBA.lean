/- Package heap: what Show and New call: within, strings.SplitAfter at a newline, by contracts. -/
import Derived.Test.YtlkcbdinlfeoiaaGreatDoorGShelf
import Derived.Test.YtlkcbdinlfeoiaaGreatDoorCBld
import Derived.Test.YtlkcbdinlfeoiaaGreatDoorKnAH
namespace Go.Proofs.YtlkcbdinlfeoiaaGreatDoor
open Go.Proofs.Tryz Go.RowKit
set_option maxHeartbeats 8000000
set_option maxRecDepth 100000
set_option linter.unusedSimpArgs false
section
open Go.Shelf
theorem Z0z (n l t:Int) (w:World) :
  Calls prog 40 #[.int .i64 n,.int .i64 l,.int .i64 t] w fun ev w'=>ev = .returned (.bool (decide (l<=n) && decide (n<=t)))/\w'=w:=by
 by_cases h0:l<=n
 ·rw [U0d h0,U1v]
  go_enter func40,ntmps40
  go_wp2
  go_ret
  exact ⟨rfl,rfl⟩
 ·rw [U0k h0,U1s]
  have h1:decide (l<=n)=false:=U0k h0
  go_enter func40,ntmps40
  go_wp2
  go_ret
  exact ⟨rfl,rfl⟩
def nlB:ByteArray:=⟨#[10]⟩
end
structure HeapAt (q p:Nat) (tn sr:Int) (w:World):Prop where
 lt:q<w.heap.size
 c0:w.cell? ⟨q,0,none⟩=some (.pointer (some ⟨p,0,none⟩))
 c1:w.cell? ⟨q,1,none⟩=some (.int .i64 tn)
 c2:w.cell? ⟨q,2,none⟩=some (.int .i64 sr)
theorem HeapAt.below {q p:Nat}{tn sr:Int}{w w':World} (h:HeapAt q p tn sr w) (hb:Below w.heap.size w w'):HeapAt q p tn sr w':=
 ⟨U0r h.lt hb.size,(hb.cell (p:=⟨q,0,none⟩) h.lt).trans h.c0,(hb.cell (p:=⟨q,1,none⟩) h.lt).trans h.c1,(hb.cell (p:=⟨q,2,none⟩) h.lt).trans h.c2⟩
theorem Zic (q p:Nat) (tn sr:Int) (m:MD) (f:Nat) (x:Int) (hf:m.W[f]?=some x) (h0:0<=x) (h1:x<18446744073709551616) (hx:x % 4=3) (hy:x / 32768 % 2=0) (hz:x / 65536<=4096) (k1:x / 4 % 256≠1) (k2:x / 4 % 256≠2) (w:World) (H:HeapAt q p tn sr w) (R:Z86 p m w) :
  Calls prog 55 #[.pointer (some ⟨q,0,none⟩),.int .i64 (f:Int)] w fun ev w'=>ev = .returned (.tuple #[.string ⟨#[]⟩,.bool false])/\Below w.heap.size w w':=by
 have kt:Hid (∀ w,Calls prog 105 #[.int .u64 x] w fun ev w'=>ev = .returned (.tuple #[.agg #[.int .i64 (x / 4 % 256),.int .i64 (x / 1024 % 16),.int .i64 (x / 16384 % 2),.int .i64 (x / 65536)],.nilIface])/\Below w.heap.size w w'):=fun w=>Z2c x h0 h1 hx hy hz w
 obtain ⟨vW,vR,vK,vI,vC,hp,M,⟨ao,cap,rfl,hcap,hW⟩,_⟩:=R
 have hlt:f<m.W.length:=(U0e.mp hf).1
 obtain ⟨b,rfl,hb,hc⟩:=hW (by omega)
 have d0:=H.c0
 have d3:=M.c3
 have df:w.cell? ⟨b,f,none⟩=some (.int .u64 x):=hc f _ (by unfold Z05;rw [U0g,hf];rfl)
 have hI:(f:Int)<(m.W.length:Int):=by omega
 have hI0:(0:Int)<=(f:Int):=by omega
 clear hW hc M H h0 h1 hx hy hz hf hlt
 generalize x / 4 % 256=kd at *
 generalize x / 1024 % 16=ag at *
 generalize x / 16384 % 2=mk at *
 generalize x / 65536=sz at *
 generalize m.W.length=nW at *
 go_enter func55,ntmps55
 go_wp2_with fail
 refine (kt.out _).mono ?_
 rintro ev w1 ⟨rfl,hw1⟩
 clear kt d0 d3 df
 go_wp2_with fail
 go_ret2
 exact ⟨rfl,hw1.alloc hw1.size _⟩
section
open Go.Shelf
theorem Z3u {T e:TypeId}{B b:Nat}{bs:List Value}{w w':World} (h:Lib.IsBuilderF T e B b bs w) (hb:Below w.heap.size w w'):Lib.IsBuilderF T e B b bs w':=by
 have one:∀ p,Lib.BuilderAtF T e B b p bs w->Lib.BuilderAtF T e B b p bs w':=fun p ⟨h1,v,h2,h3,h4⟩=>by
  refine ⟨h1,v,(hb.block b (Z01 h2)).trans h2,?_,h4⟩
  refine ⟨h3.1,?_⟩
  rcases h3.2 with hn | ⟨g,cap,cur,fz,hv,hB,hg,rest⟩
  ·exact .inl hn
  ·exact .inr ⟨g,cap,cur,fz,hv,hB,(hb.block g (Z01 hg)).trans hg,rest⟩
 exact h.elim (fun x=>.inl (one _ x)) (fun x=>.inr (one _ x))
theorem Zet {T e:TypeId}{B b:Nat}{bs:List Value}{w:World} (h:Lib.IsBuilderF T e B b bs w):b<w.heap.size:=h.elim (fun x=>x.lt) (fun x=>x.lt)
theorem Zfs (w:World):Lib.IsBuilderF 165 5 w.heap.size w.heap.size [] (w.alloc (.cells #[.pointer none,.slice none 0 0] 165)):=
 .inl ⟨U02 _,_,U0b _ _,⟨by simp,Or.inl ⟨rfl,rfl⟩⟩,by simp [Value.ownBlock]⟩
theorem Zrk:∃ j,prog.info? 163=some j/\j.size≠0:=by
 obtain ⟨j,hj,hjs⟩:=U1i.1 bextra.sizeBuilder
 exact ⟨j,hj,by rw [hjs];decide⟩
theorem Zox:liesAt prog prog.depth 165 (2 / prog.cellsOf 165) 0 163 1=true:=by kernel_rfl
theorem Zdl (b:Nat) (w:World) (h0:w.cell? ⟨b,0,none⟩=some (.pointer none)) (hsh:w.shape? b=some (165,2)) (hfz:w.frozen? ⟨b,0,none⟩=false) :
  Calls prog 161 #[.pointer (some ⟨b,0,none⟩)] w fun e w'=>e = .returned (.tuple #[])/\w'=w.setCell ⟨b,0,none⟩ (.pointer (some ⟨b,0,none⟩)):=by
 obtain ⟨j,hj,hjs⟩:=Zrk
 go_enter func161,ntmps161
 go_wp2
 rw [Lib.run_to_unsafe w ⟨b,0,none⟩ underlying160 underlying203 hj hjs hsh (Nat.zero_lt_succ 1)]
 simp only [Result.andThen]
 rw [Oper.upon_value]
 go_wp2
 rw [U2u func197 (by kernel_rfl) (by kernel_rfl) (by kernel_rfl) (e:=Extern.AbiNoEscape.same) (by kernel_rfl)]
 rw [Lib.run_noEscape]
 simp only [Result.andThen]
 rw [Oper.upon_value]
 go_wp2
 rw [Lib.run_from_unsafe w ⟨b,0,none⟩ underlying203 underlying160 hj hsh Zox]
 simp only [Result.andThen]
 rw [Oper.upon_value]
 go_wp2
 go_end0
 exact ⟨rfl,rfl⟩
theorem Zqc (B b:Nat) (bs:List Value) (w:World) (h:Lib.IsBuilderF 165 5 B b bs w) :
  Calls prog 161 #[.pointer (some ⟨b,0,none⟩)] w fun e w'=>e = .returned (.tuple #[])/\(Lib.BuilderAtF 165 5 B b (.pointer (some ⟨b,0,none⟩)) bs w'/\Below B w w'/\Lib.OthersKept 5 (some b) w w'):=by
 rcases h with h | h
 ·refine (Zdl b w h.cell0 h.shape h.frozen0).mono ?_
  rintro e w' ⟨rfl,rfl⟩
  exact ⟨rfl,h.used _,(U01 B w).setCell (p:=⟨b,0,none⟩) h.1 _,(Lib.OthersKept.refl _ _ w).setCell ⟨b,0,none⟩ rfl _⟩
 ·refine (Any.Builder_copyCheck_used ({ Zhh with } : Lays.n240 prog Zso) bextra.toX72 b w h.cell0).mono ?_
  rintro e w' ⟨rfl,rfl⟩
  exact ⟨rfl,h,U01 B _,Lib.OthersKept.refl _ _ _⟩
theorem Zlb:(165:TypeId)≠5:=by decide
theorem lByte (B b:Nat) (bs:List Value) (c:Int) (w:World) (h:Lib.IsBuilderF 165 5 B b bs w) (hlen:bs.length+1<=140737488355328) (hBw:B<=w.heap.size) :
  Calls prog 146 #[.pointer (some ⟨b,0,none⟩),.int .u8 c] w fun e w'=>e = .returned .nilIface/\Lib.IsBuilderF 165 5 B b (bs ++ [.int .u8 c]) w'/\Below B w w'/\Lib.OthersKept 5 (some b) w w':=by
 obtain ⟨i0,hi,hz0,hz1,hz2⟩:=U3g bextra.infoByte
 have kc:=Zqc B b bs w h
 clear h
 go_enter func146,ntmps146
 go_wp2_with fail
 refine kc.mono ?_
 rintro e w1 ⟨rfl,h1,hb1,hk1⟩
 clear kc
 obtain ⟨hB,v,hbk,hown,hne⟩:=h1
 have c0:w1.cell? ⟨b,0,none⟩=some (.pointer (some ⟨b,0,none⟩)):=by rw [U2e hbk];rfl
 have c1:w1.cell? ⟨b,1,none⟩=some v:=by rw [U2e hbk];rfl
 go_wp2_with (at_builtin;refine wpList_append_ownF _ rfl _ _ 161 rfl B 5 i0 (.int .u8 0) 1 1 underlying161 hi hz0 hz1 hz2 rfl (by decide) _ _ _ rfl (hown.alloc _) ⟨w1.heap.size,0,none⟩ 1 1 [.int .u8 c] rfl rfl ?c1 ?c2 ?c3 ?c4 ?c5 ?_)
 case c1 =>
  intro j u hj
  match j,hj with
  | 0,hj=>simp at hj;subst hj;simp [Addr.add]
 case c2=>intro u hu;simp at hu;subst hu;rfl
 case c3=>unfold maxLen;omega
 case c4=>omega
 case c5=>have:=hb1.size;simp;omega
 intro v' w2 hown' hgrow _
 have hlt:b<w1.heap.size:=Z01 hbk
 have hb2:w2.heap[b]?=some (.cells #[.pointer (some ⟨b,0,none⟩),v] 165 (0,0)):=by
  rw [hgrow.block b (by simp;omega) (fun e=>hne e.symm),Lib.alloc_old w1 _ b hlt]
  exact hbk
 have d0:w2.cell? ⟨b,0,none⟩=some (.pointer (some ⟨b,0,none⟩)):=by rw [U2e hb2];rfl
 have d1:w2.cell? ⟨b,1,none⟩=some v:=by rw [U2e hb2];rfl
 have f1:w2.frozen? ⟨b,1,none⟩=false:=U37 hb2 1
 obtain ⟨g,cap,rfl⟩:∃ g cap,v' = .slice (some ⟨g,0,none⟩) (bs.length+1) cap:=by
  rcases hown'.2 with ⟨_,h0⟩ | ⟨g,cap,cur,fz,hv,_⟩
  ·omega
  ·exact ⟨g,cap,hv⟩
 go_wp2
 go_ret
 refine ⟨rfl,.inr ?_,?_,((hk1.alloc _).grown hgrow (Lib.ownsRowF_kind (hown.alloc _))).setCell ⟨b,1,none⟩ rfl _⟩
 ·exact Lib.BuilderAtF.put (T:=165) (e:=5) hB hb2 (bs':=bs ++ [.int .u8 c]) (by simpa using hown') Zlb
 ·exact ((hb1.alloc (by have:=hb1.size;omega) _).grown hgrow (by have:=hb1.size;simp;omega) (fun k hk=>(hown.lt k hk).1)).setCell (p:=⟨b,1,none⟩) hB _
theorem Zrc (B b:Nat) (bs:List Value) (s:ByteArray) (w:World) (h:Lib.IsBuilderF 165 5 B b bs w) (hlen:bs.length+s.size<=140737488355328) (hBw:B<=w.heap.size) :
  Calls prog 111 #[.pointer (some ⟨b,0,none⟩),.string s] w fun e w'=>e = .returned (.tuple #[.int .i64 s.size,.nilIface])/\Lib.IsBuilderF 165 5 B b (bs++Lib.strCells s) w'/\Below B w w'/\Lib.OthersKept 5 (some b) w w':=by
 obtain ⟨i0,hi,hz0,hz1,hz2⟩:=U3g bextra.infoByte
 have kc:=Zqc B b bs w h
 clear h
 go_enter func111,ntmps111
 go_wp2_with fail
 refine kc.mono ?_
 rintro e w1 ⟨rfl,h1,hb1,hk1⟩
 clear kc
 obtain ⟨hB,v,hbk,hown,hne⟩:=h1
 have c0:w1.cell? ⟨b,0,none⟩=some (.pointer (some ⟨b,0,none⟩)):=by rw [U2e hbk];rfl
 have c1:w1.cell? ⟨b,1,none⟩=some v:=by rw [U2e hbk];rfl
 go_wp2_with (at_builtin;refine Lib.wpList_append_own_stringF _ rfl _ _ 161 9 rfl B 5 i0 underlying161 underlying9 hi hz0 hz1 hz2 _ _ _ rfl hown s rfl ?c3 ?c4 ?c5 ?_)
 case c3=>unfold maxLen;omega
 case c4=>omega
 case c5=>have:=hb1.size;omega
 intro v' w2 hown' hgrow _
 have hlt:b<w1.heap.size:=Z01 hbk
 have hb2:w2.heap[b]?=some (.cells #[.pointer (some ⟨b,0,none⟩),v] 165 (0,0)):=by
  rw [hgrow.block b hlt (fun e=>hne e.symm)]
  exact hbk
 have d0:w2.cell? ⟨b,0,none⟩=some (.pointer (some ⟨b,0,none⟩)):=by rw [U2e hb2];rfl
 have d1:w2.cell? ⟨b,1,none⟩=some v:=by rw [U2e hb2];rfl
 have f1:w2.frozen? ⟨b,1,none⟩=false:=U37 hb2 1
 obtain ⟨ao,n',cap,rfl⟩:∃ ao n' cap,v' = .slice ao n' cap:=by
  rcases hown'.2 with ⟨hv,_⟩ | ⟨g,cap,cur,fz,hv,_⟩
  ·exact ⟨_,_,_,hv⟩
  ·exact ⟨_,_,_,hv⟩
 go_wp2
 go_ret2
 refine ⟨rfl,.inr ?_,?_,(hk1.grown hgrow (Lib.ownsRowF_kind hown)).setCell ⟨b,1,none⟩ rfl _⟩
 ·exact Lib.BuilderAtF.put (T:=165) (e:=5) hB hb2 (bs':=bs++Lib.strCells s) (by simpa [U51] using hown') Zlb
 ·exact (hb1.grown hgrow (by have:=hb1.size;omega) (fun k hk=>(hown.lt k hk).1)).setCell (p:=⟨b,1,none⟩) hB _
theorem lText (B b:Nat) (l:List UInt8) (w:World) (h:Lib.IsBuilderF 165 5 B b (Lib.byteCells l) w) (h0:l ≠ []) :
  Calls prog 103 #[.pointer (some ⟨b,0,none⟩)] w fun e w'=>e = .returned (.string ⟨l.toArray⟩)/\Below B w w':=by
 obtain ⟨p,hAt⟩:∃ p,Lib.BuilderAtF 165 5 B b p (Lib.byteCells l) w:=by
  rcases h with h | h
  ·exact ⟨_,h⟩
  ·exact ⟨_,h⟩
 clear h
 obtain ⟨hB,v,hbk,hown,hne⟩:=hAt
 have hl0:l.length≠0:=by simpa using h0
 rw [U3z] at hown
 obtain ⟨g,cap,cur,fz,rfl,hbg,hg,hfz,hnc,hcm,hcs,htake⟩:∃ g cap cur fz,v = .slice (some ⟨g,0,none⟩) l.length cap/\B<=g/\w.heap[g]?=some (.cells cur 5 fz)/\fz.2<=l.length*1/\l.length<=cap/\cap<=maxLen/\cur.size=cap*1/\cur.toList.take (l.length*1)=Lib.byteCells l:=by
  rcases hown.2 with ⟨_,hz⟩ | ⟨g,cap,cur,fz,hv,r⟩
  ·exact absurd hz hl0
  ·exact ⟨g,cap,cur,fz,hv,r⟩
 have c1:w.drew.cell? ⟨b,1,none⟩=some (.slice (some ⟨g,0,none⟩) l.length cap):=by
  have:w.drew.heap[b]?=some (.cells #[p,.slice (some ⟨g,0,none⟩) l.length cap] 165 (0,0)):=hbk
  rw [U2e this];rfl
 have hSD:(Builtin.unsafeSliceData_ #[161] 226 #[.slice (some ⟨g,0,none⟩) l.length cap]).run prog w.drew = .ok (.pointer (some ⟨g,0,none⟩)) w.drew:=
  Lib.run_unsafeSliceData_row _ _ _ _ _ _ (by omega)
 have hUS:(Builtin.unsafeString_ #[226,3] 9 #[.pointer (some ⟨g,0,none⟩),.int .i64 l.length]).run prog w.drew = .ok (.string ⟨l.toArray⟩) (w.drew.freeze ⟨g,0,none⟩ l.length):=by
  refine Lib.run_unsafeString_row w.drew 226 3 9 5 underlying226 bextra.cellsByte g cur.size (by have hg':w.drew.heap[g]?=some (.cells cur 5 fz):=hg;simp [World.shape?,hg']) l h0 (by omega) (by unfold maxLen at hcm;omega) ?_
  intro j x hx
  have:=hown.cells (g:=g) rfl j (.int .u8 x.toNat) (by simp [Lib.byteCells,hx])
  exact this
 have HB:=Z00 (Lib.below_freeze (Below.drew (U01 B w)) (p:=⟨g,0,none⟩) hbg l.length)
 clear hcs htake hown hg hfz hcm hne hnc hbg hl0 h0
 go_enter func103,ntmps103
 go_wp2
 go_region
 all_goals (go_wp2;go_ret;exact ⟨rfl,HB.out⟩)
theorem Zni (B b:Nat) (p:Value) (w:World) (hbk:w.heap[b]?=some (.cells #[p,.slice none 0 0] 165 (0,0))) :
  Calls prog 103 #[.pointer (some ⟨b,0,none⟩)] w fun e w'=>e = .returned (.string ⟨#[]⟩)/\Below B w w':=by
 have hUS:=fun (W:World) (q:Option Addr)=>Lib.run_unsafeString_none (P:=prog) W 226 3 9 q
 have c1:w.drew.cell? ⟨b,1,none⟩=some (.slice none 0 0):=by
  have:w.drew.heap[b]?=some (.cells #[p,.slice none 0 0] 165 (0,0)):=hbk
  rw [U2e this];rfl
 have hSD:(Builtin.unsafeSliceData_ #[161] 226 #[.slice none 0 0]).run prog w.drew = .ok (.pointer none) w.drew:=rfl
 have HB:=Z00 (Below.drew (U01 B w))
 go_enter func103,ntmps103
 go_wp2
 go_region
 all_goals (go_wp2;go_ret;exact ⟨rfl,HB.out⟩)
end
section
open Go.Shelf
theorem Z8t {e:TypeId}{b:Option Nat}{w w':World} (h:Below w.heap.size w w'):Lib.OthersKept e b w w':=fun k _ hk _ _=>(h.block k (Z01 hk)).trans hk
def Z28 (ws:List ByteArray):List UInt8:=Lib.join (ws.map (·.data.toList)) [32]
def Z34 (B b:Nat) (acc:List UInt8) (w:World) (ev:Ending) (w':World):Prop:=ev = .returned (.tuple #[])/\Lib.IsBuilderF 165 5 B b (Lib.byteCells acc) w'/\Below B w w'/\Lib.OthersKept 5 (some b) w w'
theorem Zc3 (B b bk o c:Nat) (ws:List ByteArray) (acc:List UInt8) (w:World) (hB:Lib.IsBuilderF 165 5 B b (Lib.byteCells acc) w) (hBw:B<=w.heap.size)
  (hcells:∀ (j:Nat) x,ws[j]?=some x->w.cell? ⟨bk,o+j,none⟩=some (.string x)) (hbk:bk<w.heap.size) (hN:ws.length<=1000000) (hc:ws.length<=c) (hlen:(Z28 ws).length<=1000000000000) (hacc:acc.length<=100000000000000) :
  Calls prog 99 #[.pointer (some ⟨b,0,none⟩),.slice (some ⟨bk,o,none⟩) ws.length c] w (Z34 B b (acc++(Z28 ws ++ [10])) w):=by
 have KJ:Hid (∀ W,Below w.heap.size w W->Calls prog 57 #[.slice (some ⟨bk,o,none⟩) ws.length c,.string ⟨#[32]⟩] W fun ev w'=>ev = .returned (.string ⟨(Z28 ws).toArray⟩)/\Below W.heap.size W w'):=fun W hW =>
  Z6p bk o c ws ⟨#[32]⟩ W (fun j x hj=>(hW.cell (p:=⟨bk,o+j,none⟩) hbk).trans (hcells j x hj)) (U0r hbk hW.size) (by omega) hc (by show (Z28 ws).length<=_;omega)
 obtain ⟨js,hjs⟩:∃ js:ByteArray,js=⟨(Z28 ws).toArray⟩:=⟨_,rfl⟩
 rw [<-hjs] at KJ
 have hjl:js.size=(Z28 ws).length:=by rw [hjs];show (Z28 ws).toArray.size=_;simp
 have KW:Hid (∀ W,Below w.heap.size w W->Calls prog 111 #[.pointer (some ⟨b,0,none⟩),.string js] W fun e w'=>e = .returned (.tuple #[.int .i64 js.size,.nilIface])/\Lib.IsBuilderF 165 5 B b (Lib.byteCells (acc++Z28 ws)) w'/\Below B w w'/\Lib.OthersKept 5 (some b) w w'):=fun W hW=>by
  refine (Zrc B b _ js W (Z3u hB hW) (by rw [U3z];omega) (U0n hBw hW.size)).mono ?_
  rintro ev w' ⟨h1,h2,h3,h4⟩
  refine ⟨h1,?_,(hW.mono hBw).trans h3,(Z8t hW).trans h4⟩
  rw [U40]
  have e:Lib.strCells js=Lib.byteCells (Z28 ws):=by rw [hjs];rfl
  rw [<-e]
  exact h2
 have KB:Hid (∀ W,Below B w W->Lib.OthersKept 5 (some b) w W->Lib.IsBuilderF 165 5 B b (Lib.byteCells (acc++Z28 ws)) W->Calls prog 146 #[.pointer (some ⟨b,0,none⟩),.int .u8 10] W fun e w'=>e = .returned .nilIface/\Z34 B b (acc++(Z28 ws ++ [10])) w (.returned (.tuple #[])) w'):=fun W hb ho hW=>by
  refine (lByte B b _ 10 W hW (by rw [U3z,U0f];omega) (U0n hBw hb.size)).mono ?_
  rintro ev w' ⟨h1,h2,h3,h4⟩
  refine ⟨h1,rfl,?_,hb.trans h3,ho.trans h4⟩
  rw [<-U0y,U40]
  exact h2
 have HP:Hid (Z34 B b (acc++(Z28 ws ++ [10])) w=Z34 B b (acc++(Z28 ws ++ [10])) w):=rfl
 obtain ⟨Q,hQ⟩:∃ Q,Q=Z34 B b (acc++(Z28 ws ++ [10])) w:=⟨_,rfl⟩
 rw [<-hQ] at KB ⊢
 clear hcells hlen hacc hB hjs HP hQ hjl
 go_enter func99,ntmps99
 go_wp2_with fail
 go_region_law (first
  | (go_simp;go_at_call 57;refine (KJ.out _ ((U01 _ _).drew)).mono ?_;rintro ev w1 ⟨rfl,hb0⟩;have hb1:Below w.heap.size w w1:=((U01 _ _).drew).trans (hb0.mono (by simp)))
  | (go_simp;go_at_call 111;refine (KW.out _ hb1).mono ?_;rintro ev w2 ⟨rfl,h1,h2,h3⟩))
 go_wp2_with fail
 refine (KB.out _ h2 h3 h1).mono ?_
 rintro ev w3 ⟨rfl,hq⟩
 go_wp2_with fail
 go_end0
 exact hq
end
theorem Za6:∀ l:List (List UInt8),Lib.join l []=l.flatten
 | []=>rfl
 | [x]=>by simp [Lib.join,List.intercalate]
 | x::y::l=>by
  have h:=Za6 (y::l)
  have e:Lib.join (x::y::l) []=x++Lib.join (y::l) []:=by simp [Lib.join,List.intercalate]
  rw [e,h,U2d (l:=x)]
section
open Go.Shelf
def Zem (w:World):Prop:=w.cell? ⟨13,15,none⟩=some (.int .u8 4)
theorem Zem.below {w w':World}{B:Nat} (h:Zem w) (hb:Below B w w') (hB:w.heap.size<=B):Zem w':=(hb.cell (p:=⟨13,15,none⟩) (U0r (Z02 h) hB)).trans h
theorem tz_16 (w:World) (h:Zem w):Calls prog 235 #[.int .u64 16] w fun ev w'=>ev = .returned (.int .i64 4)/\w'=w:=by
 unfold Zem at h
 have key:IntKind.u64.wrap (bits BinOp.and IntKind.u64 16 (IntKind.u64.wrap (-16))*285870213051353865) / 288230376151711744=15:=by kernel_rfl
 go_enter func235,ntmps235
 go_wp2
 go_ret
 exact ⟨rfl,rfl⟩
def Zl9:ByteArray:=⟨#[48,49,50,51,52,53,54,55,56,57,97,98,99,100,101,102,103,104,105,106,107,108,109,110,111,112,113,114,115,116,117,118,119,120,121,122]⟩
theorem Zsv (d:Nat) (h:d<16) (w:World):(Instr.index 9 (.string Zl9) (.int .u64 (d:Int))).run prog w = .ok (.int .u8 ((Zos d).toNat:Int)) w:=by
 iterate 16 (rcases d with _ | d;· kernel_rfl)
 omega
def Zrl (l:List UInt8):List Value:=l.map fun b=>Value.int .u8 (b.toNat:Int)
theorem Zjw {cur:Array Value}{x k d:Nat} (hs:cur.size=65) (hk:k<=16) (hd:x / 16 ^ k % 16=d) (h:cur.toList.drop (65 - k)=Zrl (Z5a x k)):(cur.setIfInBounds (64 - k) (.int .u8 ((Zos d).toNat:Int))).toList.drop (65 - (k+1))=Zrl (Z5a x (k+1)):=by
 rw [U42,show 65 - (k+1)=64 - k by omega]
 have hl:64 - k<cur.toList.length:=by simp;omega
 rw [U49 (by rw [U0t];exact hl),List.getElem_set_self,List.drop_set_of_lt (by omega),show 64 - k+1=65 - k by omega,h,Z5a,hd]
 rfl
theorem Zs7 (x:Nat) (hx:x<18446744073709551616) (w:World) (hz:Zem w) :
  Calls prog 196 #[.slice none 0 0,.int .u64 (x:Int),.int .i64 16,.bool false,.bool false] w fun ev w'=>(∃ n,1<=n/\n<=16/\x<16 ^ n/\ev = .returned (.tuple #[.slice none 0 0,.string ⟨(Z5a x n).toArray⟩]))/\Below w.heap.size w w':=by
 have HZ:=Z00 hz
 clear hz
 go_enter func196,ntmps196
 go_upto_region 4 with fail
 obtain ⟨w1,hw1⟩:∃ w1,w1=w.alloc (.cells Tryz.zeroCells302 302):=⟨_,rfl⟩
 obtain ⟨q,hq⟩:∃ q,q=w.heap.size:=⟨_,rfl⟩
 have ob:w1.heap[q]?=some (.cells Tryz.zeroCells302 302):=by rw [hw1,hq];exact U0b _ _
 have b1:Below w.heap.size w w1:=by rw [hw1];exact (U01 _ _).alloc (U02 _) _
 rw [<-hw1,<-hq]
 have hz1:=HZ.out.below b1 (U02 _)
 have hqw:w.heap.size<=q:=by omega
 have HB1:=Z00 b1
 have HOB:=Z00 ob
 have HZ1:=Z00 hz1
 have HX:=Z00 hx
 have hpw:bits .and .i64 16 15=0:=by kernel_rfl
 clear hw1 hq ob b1 hz1 hx
 go_wp2_with (first | (go_at_call 235;refine (tz_16 _ HZ1.out).mono ?_;rintro ev w2 ⟨rfl,hw2⟩;rw [hw2];clear hw2 w2) | go_in)
 have HI:Hid (∀ (d:Nat) (W:World),d<16->(Instr.index 9 (.string Zl9) (.int .u64 (d:Int))).run prog W = .ok (.int .u8 ((Zos d).toNat:Int)) W):=fun d W h=>Zsv d h W
 unfold Zl9 at HI
 go_loopg [1,13] 17 (fun gk vu vi wr => ∃ (k u j:Nat) (cur:Array Value),gk=17 - k/\k<=15/\vu = .int .u64 (u:Int)/\vi = .int .i64 (j:Int)/\Below w.heap.size w wr/\wr.heap[q]?=some (.cells cur 302)/\cur.size=65/\Hid (j=65 - k)/\Hid (u=x / 16 ^ k)/\Hid (cur.toList.drop (65 - k)=Zrl (Z5a x k)))
 case atStart=>exact ⟨0,x,65,_,rfl,by omega,rfl,rfl,HB1.out,HOB.out,by kernel_rfl,rfl,by show _=_;simp,(by kernel_rfl:List.drop (65 - 0) Tryz.zeroCells302.toList=Zrl (Z5a x 0))⟩
 case round =>
  obtain ⟨k,u,j,cur,hgk,hk,rfl,rfl,hb,ho,hs,hj,hu,hcur⟩:=hrel
  have HG:=Z00 hgk
  have HB:=Z00 hb
  have HO:=Z00 ho
  have hu64:u<18446744073709551616:=by rw [hu.out];exact Nat.lt_of_le_of_lt (Nat.div_le_self _ _) HX.out
  obtain ⟨j1,hj1⟩:∃ j1,j=j1+1:=⟨j - 1,by have:=hj.out;omega⟩
  have hjm:(j:Int) - 1=(j1:Int):=by omega
  have hj2:j1<65:=by have:=hj.out;omega
  have hj3:(j1:Int)<65:=by omega
  have hj4:(0:Int)<=(j1:Int):=by omega
  have HJ:=Z00 hj1
  have huI:(u:Int)<18446744073709551616:=by omega
  have hu0:(0:Int)<=(u:Int):=by omega
  have HK:=Z00 hk
  clear hgk hb ho hj1 hk
  obtain ⟨v0,hv0⟩:∃ v0,cur[j1]?=some v0:=⟨_,U2a (by omega)⟩
  have c0:wr.cell? ⟨q,j1,none⟩=some v0:=by rw [U06 _ _ _ _ _ _ HO.out];exact hv0
  have z0:wr.frozen? ⟨q,j1,none⟩=false:=U37 HO.out j1
  by_cases hge:16<=u
  ·have hgI:(16:Int)<=(u:Int):=by omega
   obtain ⟨d,hd⟩:∃ d,d=u % 16:=⟨_,rfl⟩
   have hd16:d<16:=by omega
   have hand:bits .and .u64 (u:Int) 15=(d:Int):=by rw [Zrp _ hu0 huI];omega
   have i1:=fun W=>HI.out d W hd16
   have HP:Hid ((cur.setIfInBounds j1 (.int .u8 ((Zos d).toNat:Int))).toList.drop (65 - (k+1))=Zrl (Z5a x (k+1))):=by
    have h1:=Zjw (x:=x) (d:=d) hs (by have:=HK.out;omega) (by rw [<-hu.out,hd]) hcur.out
    have h2:64 - k=j1:=by have:=hj.out;have:=HJ.out;omega
    rw [h2] at h1
    exact h1
   have hk14:k<=14:=by
    have h1:=hu.out
    have h2:=HK.out
    have h3:=HX.out
    by_cases e:k=15
    ·subst e
     have:x / 16 ^ 15<16:=Nat.div_lt_of_lt_mul (by omega)
     omega
    ·omega
   obtain ⟨u',hu'⟩:∃ u',u'=u / 16:=⟨_,rfl⟩
   have hdiv:(u:Int) / 16=(u':Int):=by omega
   have HU:Hid (u'=x / 16 ^ (k+1)):=by show _=_;rw [hu',hu.out,Zpp]
   have HD:=Z00 hd
   have HS:=Z00 hs
   have HK14:=Z00 hk14
   have HJJ:=Z00 (show j1=65 - (k+1) by have:=hj.out;have:=HJ.out;omega)
   generalize ((Zos d).toNat:Int)=cd at *
   clear hd hs hk14 hcur hu hj hv0 hu'
   go_wp2_with fail
   go_roundg (17 - (k+1))
   case measure=>have:=HG.out;have:=HK14.out;omega
   case rel=>exact ⟨k+1,u',j1,_,rfl,by have:=HK14.out;omega,rfl,rfl,HB.out.setCell (p:=⟨q,j1,none⟩) hqw _,Z06 HO.out,by rw [U3l];exact HS.out,HJJ.out,HU.out,HP.out⟩
  ·have hgI:¬ (16:Int)<=(u:Int):=by omega
   obtain ⟨d,hd⟩:∃ d,d=u:=⟨_,rfl⟩
   have hd16:u<16:=by omega
   have i1:=fun W=>HI.out u W hd16
   have HP:Hid ((cur.setIfInBounds j1 (.int .u8 ((Zos u).toNat:Int))).toList.drop (65 - (k+1))=Zrl (Z5a x (k+1))):=by
    have h1:=Zjw (x:=x) (d:=u) hs (by have:=HK.out;omega) (by rw [<-hu.out];omega) hcur.out
    have h2:64 - k=j1:=by have:=hj.out;have:=HJ.out;omega
    rw [h2] at h1
    exact h1
   have HXL:Hid (x<16 ^ (k+1)):=by
    have h1:=hu.out
    have h2:x / 16 ^ k<16:=by omega
    have h3:=(Nat.div_lt_iff_lt_mul (k:=16 ^ k) (Nat.pow_pos (by decide))).1 h2
    show x<16 ^ (k+1)
    rw [U5d,Nat.mul_comm]
    exact h3
   have HS:=Z00 hs
   have HJJ:=Z00 (show j1=65 - (k+1) by have:=hj.out;have:=HJ.out;omega)
   generalize ((Zos u).toNat:Int)=cd at *
   clear hd hs hcur hu hj hv0
   have hsl:∀ W,(Instr.sliceAt 302 (.pointer (some ⟨q,0,none⟩)) (some (.int .i64 (j1:Int))) none none).run prog W = .ok (.slice (some ⟨q,j1,none⟩) (65 - j1) (65 - j1)) W:=fun W=>by
    have hal:prog.arrayLen 302=65:=by kernel_rfl
    rw [run_sliceAt_array_l W 302 ⟨q,0,none⟩ (by kernel_rfl) .i64 (j1:Int) (by omega) (by rw [hal];omega)]
    go_simp
    omega
   obtain ⟨w2,hw2⟩:∃ w2,w2=wr.setCell ⟨q,j1,none⟩ (.int .u8 cd):=⟨_,rfl⟩
   have ob2:w2.heap[q]?=some (.cells (cur.setIfInBounds j1 (.int .u8 cd)) 302):=by rw [hw2];exact Z06 HO.out
   have b2:Below w.heap.size w w2:=by rw [hw2];exact HB.out.setCell (p:=⟨q,j1,none⟩) hqw _
   have hcv:(convert 161 9 (.slice (some ⟨q,j1,none⟩) (65 - j1) (65 - j1))).run prog w2 = .ok (.string ⟨(Z5a x (k+1)).toArray⟩) w2:=by
    have h:=run_convert_bytes_back (P:=prog) w2 161 9 5 ⟨q,j1,none⟩ (65 - j1) (Z5a x (k+1)) underlying161 underlying5 underlying9 (fun i hi=>by
     have e:(⟨q,j1,none⟩:Addr).add i=⟨q,j1+i,none⟩:=by unfold Addr.add;split <;> simp_all
     rw [e,U06 _ _ _ _ _ _ ob2,<-U1q]
     have h1:=congrArg (fun l=>l[i]?) HP.out
     simp only [U2o,Zrl,U0g,U03 hi,U48] at h1
     rw [show j1+i=65 - (k+1)+i by have:=HJJ.out;omega]
     exact h1)
    have e2:(Z5a x (k+1)).length=65 - j1:=by rw [Z5d,HJJ.out];have:=HK.out;omega
    rw [e2] at h
    exact h
   have HB2:=Z00 b2
   clear ob2 b2
   go_upto_region 30 with fail
   rw [<-hw2]
   clear hw2
   go_wp2_with fail
   refine U2n (results_tmp2 rfl _ _ _) rfl ?_
   exact ⟨⟨k+1,by omega,by have:=HK.out;omega,HXL.out,rfl⟩,HB2.out⟩
theorem Zi9 (x:Nat) (hx:x<18446744073709551616) (w:World) (hz:Zem w) :
  Calls prog 214 #[.int .u64 (x:Int),.int .i64 16] w fun ev w'=>(∃ n,1<=n/\n<=16/\x<16 ^ n/\ev = .returned (.string ⟨(Z5a x n).toArray⟩))/\Below w.heap.size w w':=by
 have kb:=Zs7 x hx w hz
 clear hx hz
 go_enter func214,ntmps214
 go_wp2_with fail
 refine kb.mono ?_
 rintro ev w2 ⟨⟨n,h1,h2,h3,rfl⟩,hb⟩
 have HR:=Z00 (And.intro h1 (And.intro h2 (And.intro h3 hb)))
 clear h1 h2 h3 hb kb
 obtain ⟨l,hl⟩:∃ l,l=Z5a x n:=⟨_,rfl⟩
 rw [<-hl]
 have HL:=Z00 hl
 clear hl
 go_wp2_with fail
 go_ret
 obtain ⟨h1,h2,h3,hb⟩:=HR.out
 exact ⟨⟨n,h1,h2,h3,by rw [HL.out];rfl⟩,hb⟩
theorem Zc2 (x:Nat) (hx:x<18446744073709551616) (w:World) (hz:Zem w) :
  Calls prog 184 #[.int .u64 (x:Int),.int .i64 16] w fun ev w'=>(∃ n,1<=n/\n<=16/\x<16 ^ n/\ev = .returned (.string ⟨(Z5a x n).toArray⟩))/\Below w.heap.size w w':=by
 have kb:=Zi9 x hx w hz
 clear hx hz
 go_enter func184,ntmps184
 go_wp2_with fail
 refine kb.mono ?_
 rintro ev w2 ⟨⟨n,h1,h2,h3,rfl⟩,hb⟩
 have HR:=Z00 (And.intro h1 (And.intro h2 (And.intro h3 hb)))
 clear h1 h2 h3 hb kb
 obtain ⟨l,hl⟩:∃ l,l=Z5a x n:=⟨_,rfl⟩
 rw [<-hl]
 have HL:=Z00 hl
 clear hl
 go_wp2_with fail
 go_ret
 obtain ⟨h1,h2,h3,hb⟩:=HR.out
 exact ⟨⟨n,h1,h2,h3,by rw [HL.out];rfl⟩,hb⟩
theorem Zku (x n:Nat) (hx:x<16 ^ n):∀ j,Z5a x (n+j)=List.replicate j 48++Z5a x n
 | 0=>rfl
 | j+1=>by
  have h0:x / 16 ^ (n+j)=0:=Nat.div_eq_of_lt (U0r hx (Nat.pow_le_pow_right (by decide) (by omega)))
  rw [<-U2f,Z5a,h0,Zku x n hx j,List.replicate_succ]
  rfl
def s0x:ByteArray:=⟨#[48,120]⟩
theorem Zgj (x:Nat) (hx:x<18446744073709551616) (w:World) (hz:Zem w) :
  Calls prog 150 #[.int .u64 (x:Int)] w fun ev w'=>ev = .returned (.string (s0x++⟨(Z5a x 16).toArray⟩))/\Below w.heap.size w w':=by
 have kf:=Zc2 x hx w hz
 clear hx hz
 go_enter func150,ntmps150
 go_wp2_with fail
 refine kf.mono ?_
 rintro ev w2 ⟨⟨n,h1,h2,h3,rfl⟩,hb⟩
 obtain ⟨l,hl⟩:∃ l,l=Z5a x n:=⟨_,rfl⟩
 obtain ⟨c,hc⟩:∃ c,n+c=16:=⟨16 - n,by omega⟩
 have hln:l.toArray.size=n:=by rw [hl,U2i,Z5d]
 have hsz:(⟨l.toArray⟩:ByteArray).size=n:=hln
 have hI:(16:Int) - (n:Int)=(c:Int):=by omega
 have kr:=Z9f ⟨#[48]⟩ c w2 (by omega) (by show 1*c<=_;omega)
 have hrep:(⟨(Lib.repeatL (ByteArray.mk #[48]).data.toList c).toArray⟩:ByteArray)=⟨(List.replicate c 48).toArray⟩:=by
  have:∀ c,Lib.repeatL [48] c=List.replicate c (48:UInt8):=fun c=>by
   induction c with
   | zero=>rfl
   | succ c ih=>rw [Lib.repeatL,ih];rfl
  show (⟨(Lib.repeatL [48] c).toArray⟩:ByteArray)=_
  rw [this]
 rw [hrep] at kr
 obtain ⟨z,hzz⟩:∃ z:ByteArray,z=⟨(List.replicate c 48).toArray⟩:=⟨_,rfl⟩
 rw [<-hzz] at kr
 have hzs:z.size=c:=by rw [hzz];show (List.replicate c (48:UInt8)).toArray.size=c;simp
 have a1:=fun wx=>U38 (P:=prog) (w:=wx) ⟨#[48,120]⟩ z (by show 2+z.size<=_;omega)
 have hs1:((⟨#[48,120]⟩:ByteArray)++z).size=2+z.size:=by rw [U0o];rfl
 have a2:=fun wx=>U38 (P:=prog) (w:=wx) (⟨#[48,120]⟩++z) ⟨l.toArray⟩ (by rw [hs1,hsz];omega)
 have HE:Hid ((⟨#[48,120]⟩++z)++⟨l.toArray⟩=s0x++⟨(Z5a x 16).toArray⟩):=by
  show _=_
  have h:=Zku x n h3 c
  rw [hc] at h
  rw [h,hzz,hl]
  unfold s0x
  apply U59
  simp [U22]
 have HB:=Z00 hb
 rw [<-hl]
 clear hb h3 hl kf hrep hzz hs1 hc
 go_wp2_with fail
 refine kr.mono ?_
 rintro ev w3 ⟨rfl,hb3⟩
 clear kr
 go_wp2_with fail
 go_ret
 exact ⟨by rw [<-HE.out];rfl,HB.out.trans (hb3.mono HB.out.size)⟩
end
section
open Go.Maps
def Z2b (w : World) : Prop := Lib.TabIs prog w "internal/strconv.uint64pow10" .u64 Lib.pow10Tab
theorem Zfl (a:Nat->Addr) (x:Int) (h0:0<=x) (h1:x<18446744073709551616) (hx:x % 4≠2) (w:World) (E:WErr a w) :
  Calls prog 148 #[.int .u64 x] w fun ev w'=>ev = .returned (.tuple #[.int .i64 0,Z0p a 2])/\Below w.heap.size w w':=by
 by_cases h2:x / 4<=2
 ·have h:=Zct (x / 4) x (by omega) h2 w
  have hm:(x / 4*4+2 == x)=false:=by
   rw [U0w]
   omega
  rw [hm] at h
  clear hm
  go_enter func148,ntmps148
  go_wp2_with fail
  refine h.mono ?_
  rintro ev w1 ⟨rfl,hb⟩
  have k2:=(E.below hb).c2
  go_wp2
  go_quiet (fail)
  go_wp2
  go_ret2
  exact ⟨rfl,Z03 hb⟩
 ·exact Zat a x h0 h1 (by omega) w E
theorem Z2b.below {w w':World}{B:Nat} (h:Z2b w) (hb:Below B w w') (hB:w.heap.size<=B):Z2b w':=Go.Joins.tab_stays (g:=9) (by kernel_rfl) h hb hB
theorem cix0 (a b c:Value) (w:World):(Instr.index 222 (.agg #[a,b,c]) (.int .i64 0)).run prog w = .ok a w:=by kernel_rfl
theorem cix1 (a b c:Value) (w:World):(Instr.index 222 (.agg #[a,b,c]) (.int .i64 1)).run prog w = .ok b w:=by kernel_rfl
theorem cix2 (a b c:Value) (w:World):(Instr.index 222 (.agg #[a,b,c]) (.int .i64 2)).run prog w = .ok c w:=by kernel_rfl
theorem Z2v {w w':World}{k:TypeId}{R:Value->Option (DataW Unit × List MemPlace)}{b n:Nat}{D:DataW Unit} (h:w.ownsMap prog k R b n D) (hb:Below w.heap.size w w'):w'.ownsMap prog k R b n D:=h.kept (Z11 hb) (by simp)
theorem Z84 (a:Nat->Addr) (bm n ol oc:Nat) (oo:Option Addr) (D:DataW Unit) (out:List Nat) (hn:out.length<=300000) (hD:GNum D out) (x:Int) (x0:0<=x) (x1:x<18446744073709551616) (hx:x % 4=2->x / 4<=2) (h3:x % 4≠3) (h40:x / 4<=1099511627776\/x % 4=1) (w:World) (E:WErr a w) (ht:Z2b w) (hM:w.ownsMap prog 81 (plainElem prog 3) bm n D) :
  Calls prog 100 #[.agg #[.slice oo ol oc,.map (some bm)],.int .u64 x] w fun ev w'=>ev = .returned (.string (Z12 out x))/\Below w.heap.size w w':=by
 have hw64:wrap64 x=(x+9223372036854775808) % 18446744073709551616 - 9223372036854775808:=Z58 x
 obtain ⟨w1,hw1⟩:∃ w1,w1=w.alloc (.cells #[.slice oo ol oc,.map (some bm)] 138):=⟨_,rfl⟩
 have b1:Below w.heap.size w w1:=by rw [hw1];exact (U01 _ _).alloc (U02 _) _
 by_cases c1:x % 4=1
 ·have e:Z12 out x=Z1b (wrap64 x / 4):=by unfold Z12;rw [U09 c1]
  rw [e]
  unfold Z1b
  have ki:=Zpv x x0 x1 c1 w1
  have HF:Hid (∀ W,Below w.heap.size w W->Calls prog 106 #[.int .i64 (wrap64 x / 4),.int .i64 10] W fun ev w'=>ev = .returned (.string ⟨(Lib.itoa (wrap64 x / 4)).toArray⟩)/\Below W.heap.size W w'):=fun W hW=>by
   refine (Zab (wrap64 x / 4) (by omega) (by omega) W (ht.below hW (U02 _))).mono ?_
   rintro ev w' ⟨rfl,k,os,rfl⟩
   exact ⟨rfl,U4e W.heap.size W (U02 _) k os⟩
  generalize wrap64 x / 4=v at *
  have HB1:=Z00 b1
  have HW1:=Z00 hw1
  clear hw64 e hx h3 h40 E ht hM b1 hw1
  go_enter func100,ntmps100
  go_wp2_with fail
  rw [<-HW1.out]
  refine ki.mono ?_
  rintro ev w2 ⟨rfl,hb2⟩
  have b2:=HB1.out.trans (hb2.mono HB1.out.size)
  clear ki hb2
  go_wp2_with fail
  refine (HF.out _ b2).mono ?_
  rintro ev w3 ⟨rfl,hb3⟩
  go_wp2_with fail
  go_ret
  exact ⟨rfl,b2.trans (hb3.mono b2.size)⟩
 ·have ki:=Zo8 a x c1 w1 (E.below b1)
  have HE:=Z00 E
  have HB1:=Z00 b1
  have HW1:=Z00 hw1
  have HMM:=Z00 hM
  unfold Z0p at ki
  by_cases c2:x % 4=2
  ·have e:Z12 out x=Z8a (x / 4):=by unfold Z12;rw [U08 c1,U09 c2]
   rw [e]
   have h2:=hx c2
   have HC:Hid (∀ W,Below w.heap.size w W->Calls prog 148 #[.int .u64 x] W fun ev w'=>ev = .returned (.tuple #[.int .i64 (x / 4),.nilIface])/\Below W.heap.size W w'):=fun W _=>Zam x c2 x0 h2 W
   clear e hw64 hx h3 h40 E ht hM b1 hw1
   obtain rfl | rfl | rfl:x=2\/x=6\/x=10:=by omega
   all_goals clear c1 c2 h2 x0 x1
   all_goals (have i0:=cix0;have i1:=cix1;have i2:=cix2)
   all_goals (
    go_enter func100,ntmps100
    go_wp2_with fail
    rw [<-HW1.out]
    refine ki.mono ?_
    rintro ev w2 ⟨rfl,hb2⟩
    have b2:=HB1.out.trans (hb2.mono HB1.out.size)
    clear ki hb2
    go_wp2_with fail
    refine (HC.out _ b2).mono ?_
    rintro ev w3 ⟨rfl,hb3⟩
    have b3:=b2.trans (hb3.mono b2.size)
    clear hb3
    go_wp2_with fail
    go_ret
    exact ⟨rfl,b3⟩)
  ·have HC:Hid (∀ W,Below w.heap.size w W->Calls prog 148 #[.int .u64 x] W fun ev w'=>ev = .returned (.tuple #[.int .i64 0,Z0p a 2])/\Below W.heap.size W w'):=fun W hW=>Zfl a x x0 x1 c2 W (HE.out.below hW)
   unfold Z0p at HC
   have hkx:Hid (keyOf prog 81 (.int .u64 x)=some (.int .u64 x)):=U3h underlying81 (wf_u x0 x1)
   have gb:w1.heap[w.heap.size]?=some (.cells #[.slice oo ol oc,.map (some bm)] 138):=by rw [hw1];exact U0b _ _
   have g1:w1.cell? ⟨w.heap.size,1,none⟩=some (.map (some bm)):=by rw [U06 _ _ 1 _ _ _ gb];rfl
   have lg:w.heap.size<w1.heap.size:=Z01 gb
   clear gb
   by_cases cz:x=0
   ·subst cz
    have e:Z12 out 0=⟨#[110,111,119,104,101,114,101]⟩:=by unfold Z12;rw [U08 (by decide),U08 (by decide),U09 rfl]
    rw [e]
    have hha:has D (.int .u64 0)=false:=by
     cases hh:has D (.int .u64 0) with
     | false=>rfl
     | true=>obtain ⟨f,_,hf⟩:=hD.only 0 hh;omega
    clear e hw64 hx h3 h40 E ht hM b1 hw1 hD
    go_enter func100,ntmps100
    go_wp2_with fail
    rw [<-HW1.out]
    refine ki.mono ?_
    rintro ev w2 ⟨rfl,hb2⟩
    have b2:=HB1.out.trans (hb2.mono HB1.out.size)
    have HB2:=Z00 hb2
    clear ki hb2
    go_wp2_with fail
    refine (HC.out _ b2).mono ?_
    rintro ev w3 ⟨rfl,hb3⟩
    have b3:=b2.trans (hb3.mono b2.size)
    have HM3:=Z00 (Z2v HMM.out b3)
    have g3:=(hb3.cell (p:=⟨w.heap.size,1,none⟩) (Z02 ((HB2.out.cell (p:=⟨w.heap.size,1,none⟩) lg).trans g1))).trans ((HB2.out.cell (p:=⟨w.heap.size,1,none⟩) lg).trans g1)
    clear hb3
    go_wp2_with (first | (at_lookup;refine U1r _ rfl _ _ 136 rfl 81 3 .i64 Zjr underlying136 underlying3 (Z6r _) bm n _ rfl HM3.out _ _ rfl hkx.out ?_;intro c0 hat hwc;clear hat hwc))
    go_ret
    exact ⟨rfl,b3⟩
   ·have hz0:(x == 0)=false:=by rw [U0w];exact cz
    obtain ⟨f,hf⟩:∃ f:Nat,x=((f:Int)+1)*4:=⟨(x / 4 - 1).toNat,by omega⟩
    have hpt:ptI x=(f:Int):=by unfold ptI;rw [U09 (by omega)];omega
    by_cases hfo:f∈out
    ·obtain ⟨k,f',hk,hkf,hff,hkl⟩:=Z6i (Z2a.2 hfo)
     obtain rfl:f'=f:=by omega
     have e:Z12 out x=⟨#[64]⟩++Z1b (k:Int):=by unfold Z12;rw [U08 c1,U08 c2,U08 cz,hpt,hk,U08 (by omega)]
     rw [e]
     have hha:has D (.int .u64 x)=true:=by rw [hf,hD.has];exact U0d hfo
     have HAT:Hid (D.atKey (.int .u64 x) (.lit (.int .i64 0)) = .lit (.int .i64 (k:Int))):=by show _=_;rw [hf];exact hD.num k _ hkf
     have hds:=Z0m (k:Int) (by omega) (by omega)
     have a1:=fun wx=>U38 (P:=prog) (w:=wx) ⟨#[64]⟩ (Z1b (k:Int)) (by show 1+(Z1b (k:Int)).size<=_;omega)
     have HI:Hid (∀ W,Below w.heap.size w W->Calls prog 56 #[.int .i64 (k:Int)] W fun ev w'=>ev = .returned (.string (Z1b (k:Int)))/\Below W.heap.size W w'):=fun W hW=>by
      refine (Zhm (k:Int) (by omega) (by omega) W (ht.below hW (U02 _))).mono ?_
      rintro ev w' ⟨rfl,j,os,rfl⟩
      exact ⟨rfl,U4e W.heap.size W (U02 _) j os⟩
     generalize Z1b (k:Int)=dk at *
     clear e hw64 hx h3 h40 E ht hM b1 hw1 hD hf hpt hk hkf hff
     go_enter func100,ntmps100
     go_wp2_with fail
     rw [<-HW1.out]
     refine ki.mono ?_
     rintro ev w2 ⟨rfl,hb2⟩
     have b2:=HB1.out.trans (hb2.mono HB1.out.size)
     have HB2:=Z00 hb2
     clear ki hb2
     go_wp2_with fail
     refine (HC.out _ b2).mono ?_
     rintro ev w3 ⟨rfl,hb3⟩
     have b3:=b2.trans (hb3.mono b2.size)
     have HM3:=Z00 (Z2v HMM.out b3)
     have g3:=(hb3.cell (p:=⟨w.heap.size,1,none⟩) (Z02 ((HB2.out.cell (p:=⟨w.heap.size,1,none⟩) lg).trans g1))).trans ((HB2.out.cell (p:=⟨w.heap.size,1,none⟩) lg).trans g1)
     clear hb3
     go_wp2_with (first | (at_lookup;refine U1r _ rfl _ _ 136 rfl 81 3 .i64 Zjr underlying136 underlying3 (Z6r _) bm n _ rfl HM3.out _ _ rfl hkx.out ?_;intro c0 hat hwc;obtain rfl:c0=(k:Int):=(by have e:=HAT.out.symm.trans hat;cases e;rfl);clear hat hwc))
     refine (HI.out _ b3).mono ?_
     rintro ev w4 ⟨rfl,hb4⟩
     go_wp2_with fail
     go_ret
     exact ⟨rfl,b3.trans (hb4.mono b3.size)⟩
    ·have hno:objI out (f:Int) = -1:=Zh5 (fun h=>hfo (Z2a.1 h))
     have e:Z12 out x=⟨#[64]⟩:=by unfold Z12;rw [U08 c1,U08 c2,U08 cz,hpt,hno,U09 (by decide)]
     rw [e]
     have hha:has D (.int .u64 x)=false:=by rw [hf,hD.has];exact U0k hfo
     clear e hw64 hx h3 h40 E ht hM b1 hw1 hD hf hpt hno
     go_enter func100,ntmps100
     go_wp2_with fail
     rw [<-HW1.out]
     refine ki.mono ?_
     rintro ev w2 ⟨rfl,hb2⟩
     have b2:=HB1.out.trans (hb2.mono HB1.out.size)
     have HB2:=Z00 hb2
     clear ki hb2
     go_wp2_with fail
     refine (HC.out _ b2).mono ?_
     rintro ev w3 ⟨rfl,hb3⟩
     have b3:=b2.trans (hb3.mono b2.size)
     have HM3:=Z00 (Z2v HMM.out b3)
     have g3:=(hb3.cell (p:=⟨w.heap.size,1,none⟩) (Z02 ((HB2.out.cell (p:=⟨w.heap.size,1,none⟩) lg).trans g1))).trans ((HB2.out.cell (p:=⟨w.heap.size,1,none⟩) lg).trans g1)
     clear hb3
     go_wp2_with (first | (at_lookup;refine U1r _ rfl _ _ 136 rfl 81 3 .i64 Zjr underlying136 underlying3 (Z6r _) bm n _ rfl HM3.out _ _ rfl hkx.out ?_;intro c0 hat hwc;clear hat hwc))
     go_ret
     exact ⟨rfl,b3⟩
end
end Go.Proofs.YtlkcbdinlfeoiaaGreatDoor
