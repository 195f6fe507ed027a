/- Package tree: termOrSet (written by tools/tree/tset.py). -/
import Derived.Test.YtflcohidmemfpaaGreatDoorSsL
import Derived.Test.YtflcohidmemfpaaGreatDoorSsM
import Derived.Deep.RegionLawGrows
import Derived.Test.YtflcohidmemfpaaGreatDoorStmtO
set_option linter.all false
namespace Go.Proofs.YtflcohidmemfpaaGreatDoor
open Go.Proofs.Tryz
open Go.RowKit

def kSet:ByteArray:=⟨#[115,101,116]⟩
def kPut:ByteArray:=⟨#[112,117,116]⟩
def kExpr:ByteArray:=⟨#[101,120,112,114]⟩
def kEq:ByteArray:=⟨#[61]⟩
def Z1m (l:List (ByteArray × ByteArray × Nat)) (term:Nat→Out (DataW Unit)) (k:Nat):Out (DataW Unit):=match term k with
  | .error y=>.error y
  | .ok (e,k1)=>bif (Z0m l k [110,97,109,101] && (k1 == k+1)) && Z09 l k1 [kEq] then (match Zjk (term (k1+1)) with
      | .error y=>.error y
      | .ok (el,k2)=>.ok (mkS kSet (Z56 l k) [] el [] [],k2))
    else bif (Zii e == [105,110,100,101,120]) && Z09 l k1 [kEq] then (match term (k1+1) with
      | .error y=>.error y
      | .ok (e2,k2)=>.ok (mkS kPut ⟨#[]⟩ [] (partsOf e ++ [e2]) [] [],k2))
    else .ok (mkS kExpr ⟨#[]⟩ [] [e] [] [],k1)
theorem Z3r {w:World}{b:Nat}{u0 u1 u2:Value} (h:w.heap[b]?=some (.cells #[u0,u1,u2] 121)):w.cell? ⟨b,0,none⟩=some u0∧w.cell? ⟨b,1,none⟩=some u1∧w.cell? ⟨b,2,none⟩=some u2:=by
  refine ⟨?_,?_,?_⟩
  · rw [cell_of_row w b 0 _ _ _ h];rfl
  · rw [cell_of_row w b 1 _ _ _ h];rfl
  · rw [cell_of_row w b 2 _ _ _ h];rfl
theorem Z2l.row {S:Nat→Prop}{w:World}{op:ByteArray}{c1 c2 c3:Value}{la:Option Addr}{ln lc:Nat}{d:DataW Unit} (h:Z2l S w [.string op,c1,c2,c3,.slice la ln lc] d) (hi:Zii d = [105,110,100,101,120]) (h2:(partsOf d).length=2) :
    ∃ b cur,la=some ⟨b,0,none⟩∧S b∧w.heap[b]?=some (.cells cur 72)∧lc=2∧cur.size=10∧Z2j S w cur.toList (partsOf d):=by
  obtain ⟨n,hn⟩:=h
  cases n with
  | zero=>exact hn.elim
  | succ n =>
    obtain ⟨op',s,z,pl,el,pa,la',pc,lc',hd,hcs,_,hl1,hix⟩:=hn
    simp only [List.cons.injEq,Value.slice.injEq,and_true] at hcs
    obtain ⟨_,_,_,_,e1,e2,e3⟩:=hcs
    subst hd
    rw [Zno] at h2 ⊢
    rw [Zxx] at hi
    have hop:op'=kIndex:=by
      have h3:op'.data.toList=kIndex.data.toList:=hi
      have h4:op'.data=kIndex.data:=Array.toList_inj.1 h3
      cases op'
      simp only at h4
      rw [h4]
    obtain ⟨b,cur,q1,q2,q3,q4,q5⟩:=hix.1 (by omega) hop
    obtain ⟨b',o',r1,r2,r3⟩:=hl1 (by omega)
    rw [q1] at r1
    simp only [Option.some.injEq,Addr.mk.injEq,and_true] at r1
    obtain ⟨r1,r4⟩:=r1
    subst r1
    refine ⟨b,cur,e1.trans q1,q2,q3,by omega,by omega,by simp;omega,fun i e hi => ?_⟩
    obtain ⟨c0,c1,c2,c3,c4,d0,d1,d2,d3,d4,d5⟩:=r3 i e hi
    rw [cell_of_row w _ _ _ _ _ q3,←r4] at d0 d1 d2 d3 d4
    simp only [Nat.zero_add] at d0 d1 d2 d3 d4
    exact ⟨c0,c1,c2,c3,c4,by simpa using d0,by simpa using d1,by simpa using d2,by simpa using d3,by simpa using d4,n,d5⟩
theorem Zfz {op sx:ByteArray}{z:Int}{pa la:Option Addr}{pn pc ln lc:Nat} : ∀ u ∈ [Value.string op,.int .i64 z,.string sx,.slice pa pn pc,.slice la ln lc],u.oneCell'=true:=by
  intro u hu
  simp at hu
  rcases hu with rfl | rfl | rfl | rfl | rfl <;> rfl
theorem Zkt {w:World}{base e size n:Nat}{v:Value}{xs:List Value} (h:w.ownsRow base e size v n xs) (hn:n≠0):∃ gn cap,v = .slice (some ⟨gn,0,none⟩) n cap:=by
  rcases h.2 with ⟨_,h0⟩ | ⟨gn,c,cur,e,_⟩
  · exact absurd h0 hn
  · exact ⟨gn,c,e⟩
theorem Zqg {p g cap:Nat}{rk:Value}{l:List (ByteArray × ByteArray × Nat)}{k8 bl dp B:Nat}{w w8 w9:World}{x:Obj}{S S':Nat→Prop}{cs:List Value}{el:List (DataW Unit)}{e8:DataW Unit}{c0 c1 c2 c3 c4:Value}{gn capn n:Nat} (A8:StAt p g cap rk l bl dp w B k8 w8) (iC:Z2j S w8 cs el) (hS:∀ b,S b→B<b) (hrep:Z2l S' w8 [c0,c1,c2,c3,c4] e8) (hS':∀ b,S' b→B<b)
    (hown:w9.ownsRow (w8.alloc x).heap.size 72 5 (.slice (some ⟨gn,0,none⟩) n capn) n (cs ++ [c0,c1,c2,c3,c4])) (hgrow:(w8.alloc x).grownBy w9 none) (hn:n=el.length+1):StAt p g cap rk l bl dp w B k8 w9∧Z89 (fun b=>B<b) w9 (some ⟨gn,0,none⟩) (el ++ [e8]):=by
  have h0:Below w8.heap.size w8 (w8.alloc x):=(Below.refl _ _).alloc (Nat.le_refl _) _
  have h1:Below w8.heap.size w8 w9:=Below.grown h0 hgrow (by simp) (fun j hj=>by cases hj)
  have hBl:=Z00 A8.b4
  refine ⟨A8.more h1,Zf3 (S:=fun b=>B<b) (base:=(w8.alloc x).heap.size) (lc:=capn) (cs:=cs ++ [c0,c1,c2,c3,c4]) ?_ (Z2j.snoc (iC.same (Z06 h1) (fun b hb _=>hS b hb)) (hrep.same (Z06 h1) (fun b hb _=>hS' b hb))) (fun b h=>h) (fun b h=>by simp at h;omega)⟩
  have hl:(el ++ [e8]).length=n:=by simp;omega
  rw [hl]
  exact hown
theorem Zgj {w:World}{b:Nat}{cur:Array Value}{t:TypeId} (h:w.heap[b]?=some (.cells cur t)):∀ c,some (⟨b,0,none⟩:Addr)=some c → ∀ j u,cur.toList[j]?=some u→w.cell? (c.add j)=some u:=fun c hc j u hj=>by
  cases hc
  exact World.news_of_block h j u hj

set_option maxHeartbeats 16000000 in
set_option maxRecDepth 100000 in
theorem Z97 {p g cap:Nat}{rk:Value}{l:List (ByteArray × ByteArray × Nat)}{k bl dp:Nat}{a0 a1:Addr} (T:TokS l) (hk:k<l.length) (term:Nat→Out (DataW Unit)) (hix:∀ k,IxO (term k))
    (h0:∀ k',k≤k'→k'<l.length→Z0w 112 #[.pointer (some ⟨p,0,none⟩)] p g cap rk l k' bl dp a0 a1 (term k')):Z4g 121 #[.pointer (some ⟨p,0,none⟩)] p g cap rk l k bl dp a0 a1 (Z1m l term k):=by
  intro w R E X
  have hl:=T.ok.hl
  have A0:=Z8j R
  have HE:=Z01 E
  have HX:=Z01 X
  obtain ⟨o,ho⟩:∃ o,Z1m l term k=o:=⟨_,rfl⟩
  rw [ho]
  have HO:=Z01 ho
  have HPE:Hid (∀ y ev w',o = .error y→Z04 l p a0 a1 w y ev w'→Zby (fun b=>w.heap.size≤b) p g cap rk l k bl dp a0 a1 w o ev w'):=by
    rintro y ev w' rfl h
    exact h
  have hpl:=A0.pl
  have hgl:=A0.gl
  have hs0:(w.alloc (.cells #[.string ⟨#[]⟩,.string ⟨#[]⟩,.slice none 0 0,.slice none 0 0,.slice none 0 0,.slice none 0 0] 52)).heap.size=w.heap.size+1:=by simp
  obtain ⟨x,hx⟩:∃ x,l[k]?=some x:=⟨l[k],by simp [hk]⟩
  have HN:=Z01 (Z1k A0.rd hx)
  have HA0:=Z01 A0
  have HH0:=Z01 h0
  have HIX:=Z01 hix
  have HKD:=Z01 (Z1t hx [110,97,109,101])
  have HTX:=Z01 (Z8l hx)
  have hkl:(k:Int)≤100000:=by omega
  have hk0:(0:Int)≤(k:Int):=by omega
  clear R E X A0 ho h0 hx hix
  go_enter func121,ntmps121
  go_wp2_with fail
  refine HN.out.mono ?_
  rintro ev w1 ⟨rfl,hb1⟩
  have hba1:Below w1.heap.size w1 (w1.alloc (.cells #[.string x.1,.string x.2.1,.int .i64 (x.2.2:Int)] 121)):=(Below.refl _ _).alloc (Nat.le_refl _) _
  have A1:=(HA0.out.more hb1).more hba1
  have hs1:=hb1.size
  rw [hs0] at hs1
  have hF1:(w1.alloc (.cells #[.string x.1,.string x.2.1,.int .i64 (x.2.2:Int)] 121)).heap[w1.heap.size]?=some (.cells #[.string x.1,.string x.2.1,.int .i64 (x.2.2:Int)] 121):=heap_alloc_new w1 _
  have r1:=(A1.rd.cells).2.1
  have rl:=Z02 r1
  have hsa1:(w1.alloc (.cells #[.string x.1,.string x.2.1,.int .i64 (x.2.2:Int)] 121)).heap.size=w1.heap.size+1:=by simp
  have HC1:=Z01 (HH0.out k (Nat.le_refl _) hk _ A1.rd (HE.out.keeps A1.ks) (HX.out.keeps A1.ks))
  have HA1:=Z01 A1
  have HF1:=Z01 hF1
  clear hb1 hba1 A1 hF1 HN
  go_wp2_with fail
  refine HC1.out.mono ?_
  intro ev w2 hP
  rw [hsa1] at hP
  rcases hP.parts with ⟨e7,k2,op7,z7,sx7,pa7,pn7,pc7,la7,ln7,lc7,q7,rfl,hrep7,R2,K2,hk2,hk2l⟩ | ⟨y,b,q7,rfl,hf⟩
  rotate_left
  · have ho2:o = .error y:=by
      rw [←HO.out,Z1m]
      simp only [q7]
    have HF:=Z01 (HPE.out _ _ _ ho2 (Z04.after HA1.out.ks.below hf))
    clear hP HC1 hf r1
    go_wp2_with fail
    exact ⟨rfl,HF.out⟩
  have hop:=hrep7.op
  obtain ⟨rfl,_⟩:=hrep7.els
  have hba2:Below w2.heap.size w2 (w2.alloc (.cells #[.string op7,.int .i64 z7,.string sx7,.slice pa7 pn7 pc7,.slice la7 (partsOf e7).length lc7] 72)):=(Below.refl _ _).alloc (Nat.le_refl _) _
  have hs2:=K2.below.size
  rw [hsa1] at hs2
  have A2:=(HA1.out.go R2 K2).more hba2
  have hF2':=(K2.block w1.heap.size (by omega) (by rw [hsa1];omega)).trans HF1.out
  have hF2:=(hba2.block w1.heap.size (by omega)).trans hF2'
  have hB2:(w2.alloc (.cells #[.string op7,.int .i64 z7,.string sx7,.slice pa7 pn7 pc7,.slice la7 (partsOf e7).length lc7] 72)).heap[w2.heap.size]?=some (.cells #[.string op7,.int .i64 z7,.string sx7,.slice pa7 pn7 pc7,.slice la7 (partsOf e7).length lc7] 72):=heap_alloc_new w2 _
  obtain ⟨f0,f1,f2⟩:=Z3r hF2'
  obtain ⟨t0,t1,t2,t3,t4,_⟩:=Z05 hB2
  have fl:=Z00 hF2'
  have tl:=Z00 hB2
  have r2:=(R2.cells).2.1
  have rl2:=Z02 r2
  have hsa2:(w2.alloc (.cells #[.string op7,.int .i64 z7,.string sx7,.slice pa7 pn7 pc7,.slice la7 (partsOf e7).length lc7] 72)).heap.size=w2.heap.size+1:=by simp
  have HRP:Hid (∀ W,Keeps p (w2.alloc (.cells #[.string op7,.int .i64 z7,.string sx7,.slice pa7 pn7 pc7,.slice la7 (partsOf e7).length lc7] 72)) W→Z2l (fun b=>w.heap.size<b) W [.string op7,.int .i64 z7,.string sx7,.slice pa7 pn7 pc7,.slice la7 (partsOf e7).length lc7] e7):=fun W hW=>(hrep7.same (S':=(fun b=>w.heap.size<b)) (Z06 hba2) (fun b hb _=>by show _<b;omega)).same (hW.same (by show ¬ (_<p);omega)) (fun b hb _=>hb)
  obtain ⟨x2,hx2⟩:∃ x,l[k2]?=some x:=⟨l[k2],by simp [hk2l]⟩
  have HMX:=Z01 (Z0r hx2 [kEq])
  have HKK:Hid (Z0i x2 [kEq]=true→k2+1<l.length):=fun h=>T.ok.hen.next hx2 h
  have HHX2:=Z01 hx2
  have hk2i:(k2:Int)≤100000:=by omega
  have HA2:=Z01 A2
  have HF2:=Z01 hF2
  have HB2:=Z01 hB2
  have HQ7:=Z01 q7
  have HOP:=Z01 hop
  have HK2:Hid (Keeps p (w2.alloc (.cells #[.string op7,.int .i64 z7,.string sx7,.slice pa7 pn7 pc7,.slice la7 (partsOf e7).length lc7] 72)) (w2.alloc (.cells #[.string op7,.int .i64 z7,.string sx7,.slice pa7 pn7 pc7,.slice la7 (partsOf e7).length lc7] 72))):=Keeps.refl _ _
  have HPM:=Z01 (Z0u A2.rd hx2 hl kEq)
  clear hP HC1 hrep7 R2 K2 hba2 A2 hF2 hF2' hB2 q7 hop hx2 r1 rl
  cases hnm:x.1.toList == [110,97,109,101] with
  | false =>
    cases hi:Zii e7 == [105,110,100,101,120] with
    | false =>
    have hi1:(op7.toList == [105,110,100,101,120])=false:=by rw [Z0g,←HOP.out];exact hi
    have hba9:Below (w2.alloc (.cells #[.string op7,.int .i64 z7,.string sx7,.slice pa7 pn7 pc7,.slice la7 (partsOf e7).length lc7] 72)).heap.size (w2.alloc (.cells #[.string op7,.int .i64 z7,.string sx7,.slice pa7 pn7 pc7,.slice la7 (partsOf e7).length lc7] 72)) ((w2.alloc (.cells #[.string op7,.int .i64 z7,.string sx7,.slice pa7 pn7 pc7,.slice la7 (partsOf e7).length lc7] 72)).alloc (.cells #[.string op7,.int .i64 z7,.string sx7,.slice pa7 pn7 pc7,.slice la7 (partsOf e7).length lc7] 72)):=(Below.refl _ _).alloc (Nat.le_refl _) _
    have A9:=HA2.out.more hba9
    have hR9:Z2l (fun b=>w.heap.size<b) (w2.alloc (.cells #[.string op7,.int .i64 z7,.string sx7,.slice pa7 pn7 pc7,.slice la7 (partsOf e7).length lc7] 72)) [.string op7,.int .i64 z7,.string sx7,.slice pa7 pn7 pc7,.slice la7 (partsOf e7).length lc7] e7:=HRP.out (w2.alloc (.cells #[.string op7,.int .i64 z7,.string sx7,.slice pa7 pn7 pc7,.slice la7 (partsOf e7).length lc7] 72)) HK2.out
    have hL9:=Z6k hR9 (S':=(fun b=>w.heap.size<b)) (fun b hb=>hb) (by show _<_;first | omega | (rw [hsa2];omega))
    rw [hsa2] at hL9
    have ho6:o = .ok (mkS kExpr ⟨#[]⟩ [] [e7] [] [],k2):=by
      rw [←HO.out,Z1m]
      simp only [HQ7.out]
      rw [HKD.out,hnm,Bool.false_and,Bool.false_and,cond_false,hi,Bool.false_and,cond_false]
    have hZ:=Z1l (c0:=.string kExpr) (c1:=.string ⟨#[]⟩) (c2:=.slice none 0 0) (c3:=.slice (some ⟨w2.heap.size+1,0,none⟩) 1 1) (c4:=.slice none 0 0) (c5:=.slice none 0 0) A9 (Z2z (kd:=kExpr) (nm:=⟨#[]⟩) (pl:=[]) (el:=[e7]) (bd:=[]) (es:=[]) (pc:=0) (lc:=1) (bc:=0) (ec:=0) (Z54.nil _ _ none) hL9 (Z1h.nil _ _ none) (Z1h.nil _ _ none)) (fun b hb=>hb)
    have HZ:=Z01 hZ
    obtain ⟨u0,u1,u2,u3,u4,u5,uf⟩:=Z08 A9.b4
    have uf0:=uf 0
    have uf1:=uf 1
    have uf2:=uf 2
    have uf3:=uf 3
    have uf4:=uf 4
    have uf5:=uf 5
    have ul:=Z00 A9.b4
    have HO6:=Z01 ho6
    clear hba9 A9 hR9 hL9  uf ho6 hZ
    go_wp2_with fail
    obtain ⟨z1,z2,z3,z4⟩:=HZ.out
    refine bodyPost_ret (Z0e _ 2 rfl _ _ w.heap.size _ _ _ _ _ _ rfl z1) rfl ?_
    rw [HO6.out]
    exact ⟨_,_,_,_,_,_,rfl,z2,z3,z4,by omega,hk2l⟩
    | true =>
    have hi1:(op7.toList == [105,110,100,101,120])=true:=by rw [Z0g,←HOP.out];exact hi
    go_wp2_with fail
    refine HPM.out.mono ?_
    rintro ev w3 ⟨rfl,R3,K3⟩
    have hs3:=K3.below.size
    rw [hsa2] at hs3
    clear f0 f1 f2 t0 t1 t2 t3 t4 r2
    cases hm:Z0i x2 [kEq] with
    | false =>
    rw [hm,if_neg (by decide)] at R3
    have A3:=HA2.out.go R3 K3
    have HA3:=Z01 A3
    have HK3:=Z01 (HK2.out.trans K3)
    have hF3:=(K3.block w1.heap.size (by omega) (Z00 HF2.out)).trans HF2.out
    have hB3:=(K3.block w2.heap.size (by omega) (Z00 HB2.out)).trans HB2.out
    obtain ⟨f0,f1,f2⟩:=Z3r hF3
    obtain ⟨t0,t1,t2,t3,t4,_⟩:=Z05 hB3
    have fl:=Z00 hF3
    have tl:=Z00 hB3
    have HF3:=Z01 hF3
    have HB3:=Z01 hB3
    clear A3 R3 K3 hF3 hB3
    have hba9:Below w3.heap.size w3 (w3.alloc (.cells #[.string op7,.int .i64 z7,.string sx7,.slice pa7 pn7 pc7,.slice la7 (partsOf e7).length lc7] 72)):=(Below.refl _ _).alloc (Nat.le_refl _) _
    have A9:=HA3.out.more hba9
    have hR9:Z2l (fun b=>w.heap.size<b) w3 [.string op7,.int .i64 z7,.string sx7,.slice pa7 pn7 pc7,.slice la7 (partsOf e7).length lc7] e7:=HRP.out w3 HK3.out
    have hL9:=Z6k hR9 (S':=(fun b=>w.heap.size<b)) (fun b hb=>hb) (by show _<_;first | omega | (rw [hsa2];omega))
    have ho6:o = .ok (mkS kExpr ⟨#[]⟩ [] [e7] [] [],k2):=by
      rw [←HO.out,Z1m]
      simp only [HQ7.out]
      rw [HKD.out,hnm,Bool.false_and,Bool.false_and,cond_false,hi,Bool.true_and,HMX.out,hm,cond_false]
    have hZ:=Z1l (c0:=.string kExpr) (c1:=.string ⟨#[]⟩) (c2:=.slice none 0 0) (c3:=.slice (some ⟨w3.heap.size,0,none⟩) 1 1) (c4:=.slice none 0 0) (c5:=.slice none 0 0) A9 (Z2z (kd:=kExpr) (nm:=⟨#[]⟩) (pl:=[]) (el:=[e7]) (bd:=[]) (es:=[]) (pc:=0) (lc:=1) (bc:=0) (ec:=0) (Z54.nil _ _ none) hL9 (Z1h.nil _ _ none) (Z1h.nil _ _ none)) (fun b hb=>hb)
    have HZ:=Z01 hZ
    obtain ⟨u0,u1,u2,u3,u4,u5,uf⟩:=Z08 A9.b4
    have uf0:=uf 0
    have uf1:=uf 1
    have uf2:=uf 2
    have uf3:=uf 3
    have uf4:=uf 4
    have uf5:=uf 5
    have ul:=Z00 A9.b4
    have HO6:=Z01 ho6
    clear hba9 A9 hR9 hL9  uf ho6 hZ
    go_wp2_with fail
    obtain ⟨z1,z2,z3,z4⟩:=HZ.out
    refine bodyPost_ret (Z0e _ 2 rfl _ _ w.heap.size _ _ _ _ _ _ rfl z1) rfl ?_
    rw [HO6.out]
    exact ⟨_,_,_,_,_,_,rfl,z2,z3,z4,by omega,hk2l⟩
    | true =>
    rw [hm,if_pos rfl] at R3
    have A3:=HA2.out.go R3 K3
    have HA3:=Z01 A3
    have HK3:=Z01 (HK2.out.trans K3)
    have hF3:=(K3.block w1.heap.size (by omega) (Z00 HF2.out)).trans HF2.out
    have hB3:=(K3.block w2.heap.size (by omega) (Z00 HB2.out)).trans HB2.out
    obtain ⟨f0,f1,f2⟩:=Z3r hF3
    obtain ⟨t0,t1,t2,t3,t4,_⟩:=Z05 hB3
    have fl:=Z00 hF3
    have tl:=Z00 hB3
    have HF3:=Z01 hF3
    have HB3:=Z01 hB3
    clear A3 R3 K3 hF3 hB3
    have h2p:=HIX.out k e7 k2 HQ7.out (by simpa using hi)
    have hbd:Below w3.heap.size w3 w3.drew:=(Below.refl _ _).drew
    have Ad:=HA3.out.more hbd
    have hk3:=HKK.out hm
    have HN:=Z01 (HH0.out (k2+1) (by omega) hk3 _ Ad.rd (HE.out.keeps Ad.ks) (HX.out.keeps Ad.ks))
    obtain ⟨ib,icur,ie,iS,iB,ic,iz,iC⟩:=(HRP.out w3 HK3.out).row (by simpa using hi) h2p
    subst ie ic
    have HAd:=Z01 Ad
    have HIB:=Z01 iB
    have HIC:=Z01 iC
    have hib:w.heap.size<ib:=iS
    have hil:=Z00 iB
    have td4:w3.drew.cell? ⟨w2.heap.size,4,none⟩=some (.slice (some ⟨ib,0,none⟩) 2 2):=by have h:=t4;rw [h2p] at h;exact h
    have hsd:w3.drew.heap.size=w3.heap.size:=rfl
    have HB3':Hid (w3.drew.heap[w2.heap.size]?=some (.cells #[.string op7,.int .i64 z7,.string sx7,.slice pa7 pn7 pc7,.slice (some ⟨ib,0,none⟩) 2 2] 72)):=by
      have h:=HB3.out
      rw [h2p] at h
      exact h
    obtain ⟨i0,hi0,hz0,hz1,hz2⟩:=info_parts Z93
    have Hi0:=Z01 hi0
    clear Ad iB iC hi0 HPM hbd f0 f1 f2 t0 t1 t2 t3 t4
    go_wp2_with fail
    go_region_law (first
      | (refine step_append_grows (by rfl) _ _ _ (by rfl) 72 i0 (.agg #[.string ⟨#[]⟩,.int .i64 0,.string ⟨#[]⟩,.slice none 0 0,.slice none 0 0]) 5 88 underlying49 Hi0.out hz0 hz1 hz2 rfl (by decide) (some ⟨ib,0,none⟩) 2 2 icur.toList (by rfl) (fun h=>by cases h) (by simpa using iz) (Zgj ((Below.heap_alloc _ _ _ (by omega)).trans HIB8.out)) ⟨w8.heap.size,0,none⟩ 1 1 [.string op8,.int .i64 z8,.string sx8,.slice pa8 pn8 pc8,.slice la8 ln8 lc8] (by rfl) rfl (World.news_of_block (cs:=#[.string op8,.int .i64 z8,.string sx8,.slice pa8 pn8 pc8,.slice la8 ln8 lc8]) (t:=72) (heap_alloc_new _ _)) Zfz (by decide) (by unfold maxLen;omega) (by omega) ?_
         intro v' w9 hown9 hgrow9
         obtain ⟨gn,capn,hv⟩:=Zkt hown9 (by decide)
         subst hv
         have hcap9:=Zcm hown9
         have hPR:=Zqg HA8.out HIC8.out (fun b hb=>hb) HR8.out (fun b hb=>(by have h9:w3.heap.size≤b:=hb;omega)) hown9 hgrow9 (by rw [h2p])
         obtain ⟨A9,hL9⟩:=hPR
         obtain ⟨u0,u1,u2,u3,u4,u5,uf⟩:=Z08 A9.b4
         have uf0:=uf 0
         have uf1:=uf 1
         have uf2:=uf 2
         have uf3:=uf 3
         have uf4:=uf 4
         have uf5:=uf 5
         have ul:=Z00 A9.b4
         have HA9:=Z01 A9
         have HL9:=Z01 hL9
         clear hown9 hgrow9 A9 uf hL9)
      | (go_simp;go_at_call 112;refine HN.out.mono ?_;intro ev w8 hP;rcases hP.parts with ⟨e8,k8,op8,z8,sx8,pa8,pn8,pc8,la8,ln8,lc8,q8,rfl,hrep8,R8,K8,hk8,hk8l⟩ | ⟨y,b,q8,rfl,hf⟩;rotate_left;exact ⟨rfl,HPE.out y _ _ (by rw [←HO.out,Z1m];simp only [HQ7.out];rw [HKD.out,hnm,Bool.false_and,Bool.false_and,cond_false,hi,Bool.true_and,HMX.out,hm,cond_true,q8]) (Z04.after HAd.out.ks.below hf)⟩;have A8:=HAd.out.go R8 K8;have hB8:=(K8.block w2.heap.size (by omega) (Z00 HB3'.out)).trans HB3'.out;obtain ⟨g0,g1,g2,g3,g4,_⟩:=Z05 hB8;have gl:=Z00 hB8;have hs8:=K8.below.size;have HIB8:=Z01 ((K8.block ib (by omega) hil).trans HIB.out);have HIC8:=Z01 (HIC.out.same (S':=(fun b=>w.heap.size<b)) (K8.same (by show ¬ (_<p);omega)) (fun b hb _=>hb));have hil8:=Z00 HIB8.out;have HA8:=Z01 A8;have HR8:=Z01 hrep8;have HQ8:=Z01 q8;clear hP A8 hB8 R8 K8 hrep8 q8 g0 g1 g2 g3))
    all_goals
      have ho6:o = .ok (mkS kPut ⟨#[]⟩ [] (partsOf e7 ++ [e8]) [] [],k8):=by
        rw [←HO.out,Z1m]
        simp only [HQ7.out]
        rw [HKD.out,hnm,Bool.false_and,Bool.false_and,cond_false,hi,Bool.true_and,HMX.out,hm,cond_true,HQ8.out] <;> rfl
      have h3p:(partsOf e7 ++ [e8]).length=3:=by simp [h2p]
      have hZ:=Z2z (kd:=kPut) (nm:=⟨#[]⟩) (pl:=[]) (bd:=[]) (es:=[]) (pc:=0) (lc:=capn) (bc:=0) (ec:=0) (Z54.nil _ w9 none) HL9.out (Z1h.nil _ _ none) (Z1h.nil _ _ none)
      rw [h3p] at hZ
      have HZ:=Z01 (Z1l HA9.out hZ (fun b hb=>hb))
      have HO6:=Z01 ho6
      clear ho6 HN hZ
      go_wp2_with fail
      obtain ⟨z1,z2,z3,z4⟩:=HZ.out
      refine bodyPost_ret (Z0e _ 2 rfl _ _ w.heap.size _ _ _ _ _ _ rfl z1) rfl ?_
      rw [HO6.out]
      exact ⟨_,_,_,_,_,_,rfl,z2,z3,z4,by omega,hk8l⟩
  | true =>
  by_cases hk3:k2=k+1
  · have hke:(k2 == k+1)=true:=by simp [hk3]
    have hkz:(k2:Int)=(k:Int)+1:=by omega
    have hkb:((k2:Int) == (k:Int)+1)=true:=by simp [hkz]
    go_wp2_with fail
    refine HPM.out.mono ?_
    rintro ev w3 ⟨rfl,R3,K3⟩
    have hs3:=K3.below.size
    rw [hsa2] at hs3
    clear f0 f1 f2 t0 t1 t2 t3 t4 r2
    cases hm:Z0i x2 [kEq] with
    | true =>
    rw [hm,if_pos rfl] at R3
    have A3:=HA2.out.go R3 K3
    have HA3:=Z01 A3
    have HK3:=Z01 (HK2.out.trans K3)
    have hF3:=(K3.block w1.heap.size (by omega) (Z00 HF2.out)).trans HF2.out
    have hB3:=(K3.block w2.heap.size (by omega) (Z00 HB2.out)).trans HB2.out
    obtain ⟨f0,f1,f2⟩:=Z3r hF3
    obtain ⟨t0,t1,t2,t3,t4,_⟩:=Z05 hB3
    have fl:=Z00 hF3
    have tl:=Z00 hB3
    have HF3:=Z01 hF3
    have HB3:=Z01 hB3
    clear A3 R3 K3 hF3 hB3
    have hbd:Below w3.heap.size w3 w3.drew:=(Below.refl _ _).drew
    have Ad:=HA3.out.more hbd
    have hk3:=HKK.out hm
    have HN:=Z01 (Zf5 (HH0.out (k2+1) (by omega) hk3) _ Ad.rd (HE.out.keeps Ad.ks) (HX.out.keeps Ad.ks))
    have HAd:=Z01 Ad
    have fd1:w3.drew.cell? ⟨w1.heap.size,1,none⟩=some (.string x.2.1):=f1
    have hsd:w3.drew.heap.size=w3.heap.size:=rfl
    clear Ad hbd HPM f0 f2 t0 t1 t2 t3 t4
    go_wp2_with fail
    go_region_law (first
      | (go_simp;go_at_call 78;refine HN.out.mono ?_;intro ev w8 hP;rcases hP.parts with ⟨el,k8,la,lc,q8,rfl,hL8,R8,K8,hk8,hk8l,hcap⟩ | ⟨y,b,q8,rfl,hf⟩;rotate_left;exact ⟨rfl,HPE.out y _ _ (by rw [←HO.out,Z1m];simp only [HQ7.out];rw [HKD.out,hnm,hke,Bool.true_and,Bool.true_and,HMX.out,hm,cond_true,q8]) (Z04.after HAd.out.ks.below hf)⟩;have A8:=HAd.out.go R8 K8;have hF8:=(K8.block w1.heap.size (by omega) (Z00 HF3.out)).trans HF3.out;obtain ⟨g0,g1,g2⟩:=Z3r hF8;have gl:=Z00 hF8;obtain ⟨u0,u1,u2,u3,u4,u5,uf⟩:=Z08 A8.b4;have uf0:=uf 0;have uf1:=uf 1;have uf2:=uf 2;have uf3:=uf 3;have uf4:=uf 4;have uf5:=uf 5;have ul:=Z00 A8.b4;have HA8:=Z01 A8;have HL8:=Z01 hL8;have HQ8:=Z01 q8;clear hP A8 hF8 uf R8 K8 hL8 q8 g0 g2))
    all_goals
      have ho6:o = .ok (mkS kSet x.2.1 [] el [] [],k8):=by
        rw [←HO.out,Z1m]
        simp only [HQ7.out]
        rw [HKD.out,hnm,hke,Bool.true_and,Bool.true_and,HMX.out,hm,cond_true,HQ8.out,HTX.out] <;> rfl
      have HZ:=Z01 (Z1l (c0:=.string kSet) (c1:=.string x.2.1) (c2:=.slice none 0 0) (c3:=.slice la el.length lc) (c4:=.slice none 0 0) (c5:=.slice none 0 0) HA8.out (Z2z (kd:=kSet) (nm:=x.2.1) (pl:=[]) (bd:=[]) (es:=[]) (pc:=0) (lc:=lc) (bc:=0) (ec:=0) (Z54.nil _ _ none) HL8.out (Z1h.nil _ _ none) (Z1h.nil _ _ none)) (fun b hb=>by have h9:w3.heap.size≤b:=hb;omega))
      have HO6:=Z01 ho6
      clear ho6 HN
      go_wp2_with fail
      obtain ⟨z1,z2,z3,z4⟩:=HZ.out
      refine bodyPost_ret (Z0e _ 2 rfl _ _ w.heap.size _ _ _ _ _ _ rfl z1) rfl ?_
      rw [HO6.out]
      exact ⟨_,_,_,_,_,_,rfl,z2,z3,z4,by omega,hk8l⟩
    | false =>
    rw [hm,if_neg (by decide)] at R3
    have A3:=HA2.out.go R3 K3
    have HA3:=Z01 A3
    have HK3:=Z01 (HK2.out.trans K3)
    have hF3:=(K3.block w1.heap.size (by omega) (Z00 HF2.out)).trans HF2.out
    have hB3:=(K3.block w2.heap.size (by omega) (Z00 HB2.out)).trans HB2.out
    obtain ⟨f0,f1,f2⟩:=Z3r hF3
    obtain ⟨t0,t1,t2,t3,t4,_⟩:=Z05 hB3
    have fl:=Z00 hF3
    have tl:=Z00 hB3
    have HF3:=Z01 hF3
    have HB3:=Z01 hB3
    clear A3 R3 K3 hF3 hB3
    cases hi:Zii e7 == [105,110,100,101,120] with
    | false =>
    have hi1:(op7.toList == [105,110,100,101,120])=false:=by rw [Z0g,←HOP.out];exact hi
    have hba9:Below w3.heap.size w3 (w3.alloc (.cells #[.string op7,.int .i64 z7,.string sx7,.slice pa7 pn7 pc7,.slice la7 (partsOf e7).length lc7] 72)):=(Below.refl _ _).alloc (Nat.le_refl _) _
    have A9:=HA3.out.more hba9
    have hR9:Z2l (fun b=>w.heap.size<b) w3 [.string op7,.int .i64 z7,.string sx7,.slice pa7 pn7 pc7,.slice la7 (partsOf e7).length lc7] e7:=HRP.out w3 HK3.out
    have hL9:=Z6k hR9 (S':=(fun b=>w.heap.size<b)) (fun b hb=>hb) (by show _<_;first | omega | (rw [hsa2];omega))
    have ho6:o = .ok (mkS kExpr ⟨#[]⟩ [] [e7] [] [],k2):=by
      rw [←HO.out,Z1m]
      simp only [HQ7.out]
      rw [HKD.out,hnm,hke,Bool.true_and,Bool.true_and,HMX.out,hm,cond_false,Bool.and_false,cond_false]
    have hZ:=Z1l (c0:=.string kExpr) (c1:=.string ⟨#[]⟩) (c2:=.slice none 0 0) (c3:=.slice (some ⟨w3.heap.size,0,none⟩) 1 1) (c4:=.slice none 0 0) (c5:=.slice none 0 0) A9 (Z2z (kd:=kExpr) (nm:=⟨#[]⟩) (pl:=[]) (el:=[e7]) (bd:=[]) (es:=[]) (pc:=0) (lc:=1) (bc:=0) (ec:=0) (Z54.nil _ _ none) hL9 (Z1h.nil _ _ none) (Z1h.nil _ _ none)) (fun b hb=>hb)
    have HZ:=Z01 hZ
    obtain ⟨u0,u1,u2,u3,u4,u5,uf⟩:=Z08 A9.b4
    have uf0:=uf 0
    have uf1:=uf 1
    have uf2:=uf 2
    have uf3:=uf 3
    have uf4:=uf 4
    have uf5:=uf 5
    have ul:=Z00 A9.b4
    have HO6:=Z01 ho6
    clear hba9 A9 hR9 hL9  uf ho6 hZ
    go_wp2_with fail
    obtain ⟨z1,z2,z3,z4⟩:=HZ.out
    refine bodyPost_ret (Z0e _ 2 rfl _ _ w.heap.size _ _ _ _ _ _ rfl z1) rfl ?_
    rw [HO6.out]
    exact ⟨_,_,_,_,_,_,rfl,z2,z3,z4,by omega,hk2l⟩
    | true =>
    have hi1:(op7.toList == [105,110,100,101,120])=true:=by rw [Z0g,←HOP.out];exact hi
    have HPM3:=Z01 (Z0u HA3.out.rd HHX2.out hl kEq)
    go_wp2_with fail
    refine HPM3.out.mono ?_
    rintro ev w4 ⟨rfl,R4,K4⟩
    have hs4:=K4.below.size
    rw [hm,if_neg (by decide)] at R4
    rw [hm]
    clear f0 f1 f2 t0 t1 t2 t3 t4
    have A4:=HA3.out.go R4 K4
    have HA4:=Z01 A4
    have HK4:=Z01 (HK3.out.trans K4)
    have hF4:=(K4.block w1.heap.size (by omega) (Z00 HF3.out)).trans HF3.out
    have hB4:=(K4.block w2.heap.size (by omega) (Z00 HB3.out)).trans HB3.out
    obtain ⟨f0,f1,f2⟩:=Z3r hF4
    obtain ⟨t0,t1,t2,t3,t4,_⟩:=Z05 hB4
    have fl:=Z00 hF4
    have tl:=Z00 hB4
    have HF4:=Z01 hF4
    have HB4:=Z01 hB4
    clear A4 R4 K4 hF4 hB4
    have hba9:Below w4.heap.size w4 (w4.alloc (.cells #[.string op7,.int .i64 z7,.string sx7,.slice pa7 pn7 pc7,.slice la7 (partsOf e7).length lc7] 72)):=(Below.refl _ _).alloc (Nat.le_refl _) _
    have A9:=HA4.out.more hba9
    have hR9:Z2l (fun b=>w.heap.size<b) w4 [.string op7,.int .i64 z7,.string sx7,.slice pa7 pn7 pc7,.slice la7 (partsOf e7).length lc7] e7:=HRP.out w4 HK4.out
    have hL9:=Z6k hR9 (S':=(fun b=>w.heap.size<b)) (fun b hb=>hb) (by show _<_;first | omega | (rw [hsa2];omega))
    have ho6:o = .ok (mkS kExpr ⟨#[]⟩ [] [e7] [] [],k2):=by
      rw [←HO.out,Z1m]
      simp only [HQ7.out]
      rw [HKD.out,hnm,hke,Bool.true_and,Bool.true_and,HMX.out,hm,cond_false,Bool.and_false,cond_false]
    have hZ:=Z1l (c0:=.string kExpr) (c1:=.string ⟨#[]⟩) (c2:=.slice none 0 0) (c3:=.slice (some ⟨w4.heap.size,0,none⟩) 1 1) (c4:=.slice none 0 0) (c5:=.slice none 0 0) A9 (Z2z (kd:=kExpr) (nm:=⟨#[]⟩) (pl:=[]) (el:=[e7]) (bd:=[]) (es:=[]) (pc:=0) (lc:=1) (bc:=0) (ec:=0) (Z54.nil _ _ none) hL9 (Z1h.nil _ _ none) (Z1h.nil _ _ none)) (fun b hb=>hb)
    have HZ:=Z01 hZ
    obtain ⟨u0,u1,u2,u3,u4,u5,uf⟩:=Z08 A9.b4
    have uf0:=uf 0
    have uf1:=uf 1
    have uf2:=uf 2
    have uf3:=uf 3
    have uf4:=uf 4
    have uf5:=uf 5
    have ul:=Z00 A9.b4
    have HO6:=Z01 ho6
    clear hba9 A9 hR9 hL9  uf ho6 hZ
    go_wp2_with fail
    obtain ⟨z1,z2,z3,z4⟩:=HZ.out
    refine bodyPost_ret (Z0e _ 2 rfl _ _ w.heap.size _ _ _ _ _ _ rfl z1) rfl ?_
    rw [HO6.out]
    exact ⟨_,_,_,_,_,_,rfl,z2,z3,z4,by omega,hk2l⟩
  · have hke:(k2 == k+1)=false:=by simp [hk3]
    have hkz:¬ (k2:Int)=(k:Int)+1:=by omega
    have hkb:((k2:Int) == (k:Int)+1)=false:=by simp;omega
    cases hi:Zii e7 == [105,110,100,101,120] with
    | false =>
    have hi1:(op7.toList == [105,110,100,101,120])=false:=by rw [Z0g,←HOP.out];exact hi
    have hba9:Below (w2.alloc (.cells #[.string op7,.int .i64 z7,.string sx7,.slice pa7 pn7 pc7,.slice la7 (partsOf e7).length lc7] 72)).heap.size (w2.alloc (.cells #[.string op7,.int .i64 z7,.string sx7,.slice pa7 pn7 pc7,.slice la7 (partsOf e7).length lc7] 72)) ((w2.alloc (.cells #[.string op7,.int .i64 z7,.string sx7,.slice pa7 pn7 pc7,.slice la7 (partsOf e7).length lc7] 72)).alloc (.cells #[.string op7,.int .i64 z7,.string sx7,.slice pa7 pn7 pc7,.slice la7 (partsOf e7).length lc7] 72)):=(Below.refl _ _).alloc (Nat.le_refl _) _
    have A9:=HA2.out.more hba9
    have hR9:Z2l (fun b=>w.heap.size<b) (w2.alloc (.cells #[.string op7,.int .i64 z7,.string sx7,.slice pa7 pn7 pc7,.slice la7 (partsOf e7).length lc7] 72)) [.string op7,.int .i64 z7,.string sx7,.slice pa7 pn7 pc7,.slice la7 (partsOf e7).length lc7] e7:=HRP.out (w2.alloc (.cells #[.string op7,.int .i64 z7,.string sx7,.slice pa7 pn7 pc7,.slice la7 (partsOf e7).length lc7] 72)) HK2.out
    have hL9:=Z6k hR9 (S':=(fun b=>w.heap.size<b)) (fun b hb=>hb) (by show _<_;first | omega | (rw [hsa2];omega))
    rw [hsa2] at hL9
    have ho6:o = .ok (mkS kExpr ⟨#[]⟩ [] [e7] [] [],k2):=by
      rw [←HO.out,Z1m]
      simp only [HQ7.out]
      rw [HKD.out,hnm,hke,Bool.true_and,Bool.false_and,cond_false,hi,Bool.false_and,cond_false]
    have hZ:=Z1l (c0:=.string kExpr) (c1:=.string ⟨#[]⟩) (c2:=.slice none 0 0) (c3:=.slice (some ⟨w2.heap.size+1,0,none⟩) 1 1) (c4:=.slice none 0 0) (c5:=.slice none 0 0) A9 (Z2z (kd:=kExpr) (nm:=⟨#[]⟩) (pl:=[]) (el:=[e7]) (bd:=[]) (es:=[]) (pc:=0) (lc:=1) (bc:=0) (ec:=0) (Z54.nil _ _ none) hL9 (Z1h.nil _ _ none) (Z1h.nil _ _ none)) (fun b hb=>hb)
    have HZ:=Z01 hZ
    obtain ⟨u0,u1,u2,u3,u4,u5,uf⟩:=Z08 A9.b4
    have uf0:=uf 0
    have uf1:=uf 1
    have uf2:=uf 2
    have uf3:=uf 3
    have uf4:=uf 4
    have uf5:=uf 5
    have ul:=Z00 A9.b4
    have HO6:=Z01 ho6
    clear hba9 A9 hR9 hL9  uf ho6 hZ
    go_wp2_with fail
    obtain ⟨z1,z2,z3,z4⟩:=HZ.out
    refine bodyPost_ret (Z0e _ 2 rfl _ _ w.heap.size _ _ _ _ _ _ rfl z1) rfl ?_
    rw [HO6.out]
    exact ⟨_,_,_,_,_,_,rfl,z2,z3,z4,by omega,hk2l⟩
    | true =>
    have hi1:(op7.toList == [105,110,100,101,120])=true:=by rw [Z0g,←HOP.out];exact hi
    go_wp2_with fail
    refine HPM.out.mono ?_
    rintro ev w3 ⟨rfl,R3,K3⟩
    have hs3:=K3.below.size
    rw [hsa2] at hs3
    clear f0 f1 f2 t0 t1 t2 t3 t4 r2
    cases hm:Z0i x2 [kEq] with
    | false =>
    rw [hm,if_neg (by decide)] at R3
    have A3:=HA2.out.go R3 K3
    have HA3:=Z01 A3
    have HK3:=Z01 (HK2.out.trans K3)
    have hF3:=(K3.block w1.heap.size (by omega) (Z00 HF2.out)).trans HF2.out
    have hB3:=(K3.block w2.heap.size (by omega) (Z00 HB2.out)).trans HB2.out
    obtain ⟨f0,f1,f2⟩:=Z3r hF3
    obtain ⟨t0,t1,t2,t3,t4,_⟩:=Z05 hB3
    have fl:=Z00 hF3
    have tl:=Z00 hB3
    have HF3:=Z01 hF3
    have HB3:=Z01 hB3
    clear A3 R3 K3 hF3 hB3
    have hba9:Below w3.heap.size w3 (w3.alloc (.cells #[.string op7,.int .i64 z7,.string sx7,.slice pa7 pn7 pc7,.slice la7 (partsOf e7).length lc7] 72)):=(Below.refl _ _).alloc (Nat.le_refl _) _
    have A9:=HA3.out.more hba9
    have hR9:Z2l (fun b=>w.heap.size<b) w3 [.string op7,.int .i64 z7,.string sx7,.slice pa7 pn7 pc7,.slice la7 (partsOf e7).length lc7] e7:=HRP.out w3 HK3.out
    have hL9:=Z6k hR9 (S':=(fun b=>w.heap.size<b)) (fun b hb=>hb) (by show _<_;first | omega | (rw [hsa2];omega))
    have ho6:o = .ok (mkS kExpr ⟨#[]⟩ [] [e7] [] [],k2):=by
      rw [←HO.out,Z1m]
      simp only [HQ7.out]
      rw [HKD.out,hnm,hke,Bool.true_and,Bool.false_and,cond_false,hi,Bool.true_and,HMX.out,hm,cond_false]
    have hZ:=Z1l (c0:=.string kExpr) (c1:=.string ⟨#[]⟩) (c2:=.slice none 0 0) (c3:=.slice (some ⟨w3.heap.size,0,none⟩) 1 1) (c4:=.slice none 0 0) (c5:=.slice none 0 0) A9 (Z2z (kd:=kExpr) (nm:=⟨#[]⟩) (pl:=[]) (el:=[e7]) (bd:=[]) (es:=[]) (pc:=0) (lc:=1) (bc:=0) (ec:=0) (Z54.nil _ _ none) hL9 (Z1h.nil _ _ none) (Z1h.nil _ _ none)) (fun b hb=>hb)
    have HZ:=Z01 hZ
    obtain ⟨u0,u1,u2,u3,u4,u5,uf⟩:=Z08 A9.b4
    have uf0:=uf 0
    have uf1:=uf 1
    have uf2:=uf 2
    have uf3:=uf 3
    have uf4:=uf 4
    have uf5:=uf 5
    have ul:=Z00 A9.b4
    have HO6:=Z01 ho6
    clear hba9 A9 hR9 hL9  uf ho6 hZ
    go_wp2_with fail
    obtain ⟨z1,z2,z3,z4⟩:=HZ.out
    refine bodyPost_ret (Z0e _ 2 rfl _ _ w.heap.size _ _ _ _ _ _ rfl z1) rfl ?_
    rw [HO6.out]
    exact ⟨_,_,_,_,_,_,rfl,z2,z3,z4,by omega,hk2l⟩
    | true =>
    rw [hm,if_pos rfl] at R3
    have A3:=HA2.out.go R3 K3
    have HA3:=Z01 A3
    have HK3:=Z01 (HK2.out.trans K3)
    have hF3:=(K3.block w1.heap.size (by omega) (Z00 HF2.out)).trans HF2.out
    have hB3:=(K3.block w2.heap.size (by omega) (Z00 HB2.out)).trans HB2.out
    obtain ⟨f0,f1,f2⟩:=Z3r hF3
    obtain ⟨t0,t1,t2,t3,t4,_⟩:=Z05 hB3
    have fl:=Z00 hF3
    have tl:=Z00 hB3
    have HF3:=Z01 hF3
    have HB3:=Z01 hB3
    clear A3 R3 K3 hF3 hB3
    have h2p:=HIX.out k e7 k2 HQ7.out (by simpa using hi)
    have hbd:Below w3.heap.size w3 w3.drew:=(Below.refl _ _).drew
    have Ad:=HA3.out.more hbd
    have hk3:=HKK.out hm
    have HN:=Z01 (HH0.out (k2+1) (by omega) hk3 _ Ad.rd (HE.out.keeps Ad.ks) (HX.out.keeps Ad.ks))
    obtain ⟨ib,icur,ie,iS,iB,ic,iz,iC⟩:=(HRP.out w3 HK3.out).row (by simpa using hi) h2p
    subst ie ic
    have HAd:=Z01 Ad
    have HIB:=Z01 iB
    have HIC:=Z01 iC
    have hib:w.heap.size<ib:=iS
    have hil:=Z00 iB
    have td4:w3.drew.cell? ⟨w2.heap.size,4,none⟩=some (.slice (some ⟨ib,0,none⟩) 2 2):=by have h:=t4;rw [h2p] at h;exact h
    have hsd:w3.drew.heap.size=w3.heap.size:=rfl
    have HB3':Hid (w3.drew.heap[w2.heap.size]?=some (.cells #[.string op7,.int .i64 z7,.string sx7,.slice pa7 pn7 pc7,.slice (some ⟨ib,0,none⟩) 2 2] 72)):=by
      have h:=HB3.out
      rw [h2p] at h
      exact h
    obtain ⟨i0,hi0,hz0,hz1,hz2⟩:=info_parts Z93
    have Hi0:=Z01 hi0
    clear Ad iB iC hi0 HPM hbd f0 f1 f2 t0 t1 t2 t3 t4
    go_wp2_with fail
    go_region_law (first
      | (refine step_append_grows (by rfl) _ _ _ (by rfl) 72 i0 (.agg #[.string ⟨#[]⟩,.int .i64 0,.string ⟨#[]⟩,.slice none 0 0,.slice none 0 0]) 5 88 underlying49 Hi0.out hz0 hz1 hz2 rfl (by decide) (some ⟨ib,0,none⟩) 2 2 icur.toList (by rfl) (fun h=>by cases h) (by simpa using iz) (Zgj ((Below.heap_alloc _ _ _ (by omega)).trans HIB8.out)) ⟨w8.heap.size,0,none⟩ 1 1 [.string op8,.int .i64 z8,.string sx8,.slice pa8 pn8 pc8,.slice la8 ln8 lc8] (by rfl) rfl (World.news_of_block (cs:=#[.string op8,.int .i64 z8,.string sx8,.slice pa8 pn8 pc8,.slice la8 ln8 lc8]) (t:=72) (heap_alloc_new _ _)) Zfz (by decide) (by unfold maxLen;omega) (by omega) ?_
         intro v' w9 hown9 hgrow9
         obtain ⟨gn,capn,hv⟩:=Zkt hown9 (by decide)
         subst hv
         have hcap9:=Zcm hown9
         have hPR:=Zqg HA8.out HIC8.out (fun b hb=>hb) HR8.out (fun b hb=>(by have h9:w3.heap.size≤b:=hb;omega)) hown9 hgrow9 (by rw [h2p])
         obtain ⟨A9,hL9⟩:=hPR
         obtain ⟨u0,u1,u2,u3,u4,u5,uf⟩:=Z08 A9.b4
         have uf0:=uf 0
         have uf1:=uf 1
         have uf2:=uf 2
         have uf3:=uf 3
         have uf4:=uf 4
         have uf5:=uf 5
         have ul:=Z00 A9.b4
         have HA9:=Z01 A9
         have HL9:=Z01 hL9
         clear hown9 hgrow9 A9 uf hL9)
      | (go_simp;go_at_call 112;refine HN.out.mono ?_;intro ev w8 hP;rcases hP.parts with ⟨e8,k8,op8,z8,sx8,pa8,pn8,pc8,la8,ln8,lc8,q8,rfl,hrep8,R8,K8,hk8,hk8l⟩ | ⟨y,b,q8,rfl,hf⟩;rotate_left;exact ⟨rfl,HPE.out y _ _ (by rw [←HO.out,Z1m];simp only [HQ7.out];rw [HKD.out,hnm,hke,Bool.true_and,Bool.false_and,cond_false,hi,Bool.true_and,HMX.out,hm,cond_true,q8]) (Z04.after HAd.out.ks.below hf)⟩;have A8:=HAd.out.go R8 K8;have hB8:=(K8.block w2.heap.size (by omega) (Z00 HB3'.out)).trans HB3'.out;obtain ⟨g0,g1,g2,g3,g4,_⟩:=Z05 hB8;have gl:=Z00 hB8;have hs8:=K8.below.size;have HIB8:=Z01 ((K8.block ib (by omega) hil).trans HIB.out);have HIC8:=Z01 (HIC.out.same (S':=(fun b=>w.heap.size<b)) (K8.same (by show ¬ (_<p);omega)) (fun b hb _=>hb));have hil8:=Z00 HIB8.out;have HA8:=Z01 A8;have HR8:=Z01 hrep8;have HQ8:=Z01 q8;clear hP A8 hB8 R8 K8 hrep8 q8 g0 g1 g2 g3))
    all_goals
      have ho6:o = .ok (mkS kPut ⟨#[]⟩ [] (partsOf e7 ++ [e8]) [] [],k8):=by
        rw [←HO.out,Z1m]
        simp only [HQ7.out]
        rw [HKD.out,hnm,hke,Bool.true_and,Bool.false_and,cond_false,hi,Bool.true_and,HMX.out,hm,cond_true,HQ8.out] <;> rfl
      have h3p:(partsOf e7 ++ [e8]).length=3:=by simp [h2p]
      have hZ:=Z2z (kd:=kPut) (nm:=⟨#[]⟩) (pl:=[]) (bd:=[]) (es:=[]) (pc:=0) (lc:=capn) (bc:=0) (ec:=0) (Z54.nil _ w9 none) HL9.out (Z1h.nil _ _ none) (Z1h.nil _ _ none)
      rw [h3p] at hZ
      have HZ:=Z01 (Z1l HA9.out hZ (fun b hb=>hb))
      have HO6:=Z01 ho6
      clear ho6 HN hZ
      go_wp2_with fail
      obtain ⟨z1,z2,z3,z4⟩:=HZ.out
      refine bodyPost_ret (Z0e _ 2 rfl _ _ w.heap.size _ _ _ _ _ _ rfl z1) rfl ?_
      rw [HO6.out]
      exact ⟨_,_,_,_,_,_,rfl,z2,z3,z4,by omega,hk8l⟩
end Go.Proofs.YtflcohidmemfpaaGreatDoor
namespace Go.Proofs.YtflcohidmemfpaaGreatDoor
open Go.Proofs.Tryz
open Go.RowKit

def kWhile:ByteArray:=⟨#[119,104,105,108,101]⟩
def Z6m (one blk:Nat→Out (List (DataW Unit))) (k:Nat):Out (DataW Unit):=match one k with
 | .error y=>.error y
 | .ok (el,k1)=>match blk k1 with
  | .error y=>.error y
  | .ok (ss,k2)=>.ok (mkS kWhile ⟨#[]⟩ [] el ss [],k2)
def Z0q (l:List (ByteArray × ByteArray × Nat)) (choice whil each func att line:Nat→Out (DataW Unit)) (k:Nat):Out (DataW Unit):=
 bif Z09 l k [kIf] then choice (k+1) else bif Z09 l k [kWhile] then whil (k+1) else bif Z09 l k [kFor] then each (k+1) else bif Z09 l k [kDef] then func (k+1) else bif Z09 l k [kTry] then att (k+1) else (match line k with
  | .error y=>.error y
  | .ok (s,k1)=>bif Z0m l k1 [110,101,119,108,105,110,101] then .ok (s,k1+1) else .error (k1,false))

set_option maxHeartbeats 8000000 in
set_option maxRecDepth 100000 in
theorem Z8h {p g cap:Nat}{rk:Value}{l:List (ByteArray × ByteArray × Nat)}{k bl dp:Nat}{a0 a1:Addr} (T:TokS l) (hk:k<l.length) (one blk:Nat→Out (List (DataW Unit))) (choice each func att line:Nat→Out (DataW Unit))
  (h1:∀ k',k<k'→k'<l.length→Z4r 78 #[.pointer (some ⟨p,0,none⟩)] p g cap rk l k' bl dp a0 a1 (one k'))
  (h2:∀ k',k<k'→k'<l.length→Z41 79 #[.pointer (some ⟨p,0,none⟩)] p g cap rk l k' bl dp a0 a1 (blk k'))
  (hC:∀ k',k<k'→k'<l.length→Z4g 77 #[.pointer (some ⟨p,0,none⟩)] p g cap rk l k' bl dp a0 a1 (choice k'))
  (hE:∀ k',k<k'→k'<l.length→Z4g 80 #[.pointer (some ⟨p,0,none⟩)] p g cap rk l k' bl dp a0 a1 (each k'))
  (hF:∀ k',k<k'→k'<l.length→Z4g 81 #[.pointer (some ⟨p,0,none⟩)] p g cap rk l k' bl dp a0 a1 (func k'))
  (hA:∀ k',k<k'→k'<l.length→Z4g 82 #[.pointer (some ⟨p,0,none⟩)] p g cap rk l k' bl dp a0 a1 (att k'))
  (hL:Z4g 83 #[.pointer (some ⟨p,0,none⟩)] p g cap rk l k bl dp a0 a1 (line k)):Z4g 61 #[.pointer (some ⟨p,0,none⟩)] p g cap rk l k bl dp a0 a1 (Z0q l choice (Z6m one blk) each func att line k):=by
 intro w R E X
 have hl:=T.ok.hl
 have A0:=Z8j R
 have HE:=Z01 E
 have HX:=Z01 X
 obtain ⟨o,ho⟩:∃ o,Z0q l choice (Z6m one blk) each func att line k=o:=⟨_,rfl⟩
 rw [ho]
 have HO:=Z01 ho
 have HPE:Hid (∀ y ev w',o = .error y→Z04 l p a0 a1 w y ev w'→Zby (fun b=>w.heap.size≤b) p g cap rk l k bl dp a0 a1 w o ev w'):=by
  rintro y ev w' rfl h
  exact h
 have hpl:=A0.pl
 have hgl:=A0.gl
 obtain ⟨x,hx⟩:∃ x,l[k]?=some x:=⟨l[k],by simp [hk]⟩
 have hs0:(w.alloc (.cells #[.string ⟨#[]⟩,.string ⟨#[]⟩,.slice none 0 0,.slice none 0 0,.slice none 0 0,.slice none 0 0] 52)).heap.size=w.heap.size+1:=by simp
 have HA0:=Z01 A0
 have HP0:=Z01 (Z0u A0.rd hx hl kIf)
 have HH1:=Z01 h1
 have HH2:=Z01 h2
 have HHC:=Z01 hC
 have HHE:=Z01 hE
 have HHF:=Z01 hF
 have HHA:=Z01 hA
 have HHL:=Z01 hL
 have HMX:=Z01 (fun t=>Z0r hx [t])
 have HKK:Hid (∀ ts,Z0i x ts=true→k+1<l.length):=fun ts h=>T.ok.hen.next hx h
 have HHX:=Z01 hx
 clear R E X A0 ho h1 h2 hC hE hF hA hL hx
 go_enter func61,ntmps61
 go_wp2_with fail
 refine HP0.out.mono ?_
 rintro ev w1 ⟨rfl,R0,K0⟩
 have hz0:=K0.below.size
 rw [hs0] at hz0
 cases hm0:Z0i x [kIf] with
 | true =>
 rw [hm0,if_pos rfl] at R0
 have hk1:=HKK.out _ hm0
 have A':=HA0.out.go R0 K0
 have HA':=Z01 A'
 have HC:=Z01 (HHC.out (k+1) (by omega) hk1 _ A'.rd (HE.out.keeps A'.ks) (HX.out.keeps A'.ks))
 clear R0 K0 A' HP0
 go_wp2_with fail
 refine HC.out.mono ?_
 intro ev w9 hP
 rcases hP.parts with ⟨s4,k4,kd4,nm4,pa4,pn4,pc4,la4,ln4,lc4,ba4,bn4,bc4,ea4,en4,ec4,q4,rfl,hrep4,R4,K4,hk4,hk4l⟩ | ⟨y,b,q4,rfl,hf⟩
 rotate_left
 ·have ho2:o = .error y:=by
   rw [←HO.out,Z0q]
   rw [HMX.out,hm0,cond_true,q4]
  have HF:=Z01 (HPE.out _ _ _ ho2 (Z04.after HA'.out.ks.below hf))
  clear hP HC hf
  go_wp2_with fail
  exact ⟨rfl,HF.out⟩
 have A9:=HA'.out.go R4 K4
 have ho6:o = .ok (s4,k4):=by
  rw [←HO.out,Z0q]
  rw [HMX.out,hm0,cond_true,q4]
 have hZ:=Z1l (c0:=.string kd4) (c1:=.string nm4) (c2:=.slice pa4 pn4 pc4) (c3:=.slice la4 ln4 lc4) (c4:=.slice ba4 bn4 bc4) (c5:=.slice ea4 en4 ec4) A9 (hrep4) (fun b hb=>by omega)
 have HZ:=Z01 hZ
 obtain ⟨u0,u1,u2,u3,u4,u5,uf⟩:=Z08 A9.b4
 have uf0:=uf 0
 have uf1:=uf 1
 have uf2:=uf 2
 have uf3:=uf 3
 have uf4:=uf 4
 have uf5:=uf 5
 have ul:=Z00 A9.b4
 have HO6:=Z01 ho6
 clear hP HC A9 hrep4 R4 K4 q4 uf ho6 hZ
 go_wp2_with fail
 obtain ⟨z1,z2,z3,z4⟩:=HZ.out
 refine bodyPost_ret (Z0e _ 2 rfl _ _ w.heap.size _ _ _ _ _ _ rfl z1) rfl ?_
 rw [HO6.out]
 exact ⟨_,_,_,_,_,_,rfl,z2,z3,z4,by omega,hk4l⟩
 | false =>
 rw [hm0,if_neg (by decide)] at R0
 have A1:=HA0.out.go R0 K0
 have HA1:=Z01 A1
 have HP1:=Z01 (Z0u A1.rd HHX.out hl kWhile)
 clear R0 K0 A1 HP0
 go_wp2_with fail
 refine HP1.out.mono ?_
 rintro ev w2 ⟨rfl,R1,K1⟩
 have hz1:=K1.below.size
 cases hm1:Z0i x [kWhile] with
 | true =>
 rw [hm1,if_pos rfl] at R1
 have hk1:=HKK.out _ hm1
 have A':=HA1.out.go R1 K1
 have HA':=Z01 A'
 have HC:=Z01 (HH1.out (k+1) (by omega) hk1 _ A'.rd (HE.out.keeps A'.ks) (HX.out.keeps A'.ks))
 clear R1 K1 A' HP1
 go_wp2_with fail
 refine HC.out.mono ?_
 intro ev w8 hP
 rcases hP.parts with ⟨el,k3,la,lc,q3,rfl,hL3,R3,K3,hk3,hk3l,hcap⟩ | ⟨y,b,q3,rfl,hf⟩
 rotate_left
 ·have ho2:o = .error y:=by
   rw [←HO.out,Z0q]
   rw [HMX.out,hm0,cond_false,HMX.out,hm1,cond_true,Z6m,q3]
  have HF:=Z01 (HPE.out _ _ _ ho2 (Z04.after HA'.out.ks.below hf))
  clear hP HC hf
  go_wp2_with fail
  exact ⟨rfl,HF.out⟩
 have A8:=HA'.out.go R3 K3
 have hs8:=K3.below.size
 have HC8:=Z01 (HH2.out k3 (by omega) hk3l _ A8.rd (HE.out.keeps A8.ks) (HX.out.keeps A8.ks))
 have HA8:=Z01 A8
 have HL3:=Z01 hL3
 have HQ3:=Z01 q3
 clear hP HC R3 K3 A8 hL3 q3
 go_wp2_with fail
 refine HC8.out.mono ?_
 intro ev w9 hP
 rcases hP.parts with ⟨ss,k4,ba,bc,q4,rfl,hS4,R4,K4,hk4,hk4l⟩ | ⟨y,b,q4,rfl,hf⟩
 rotate_left
 ·have ho2:o = .error y:=by
   rw [←HO.out,Z0q]
   rw [HMX.out,hm0,cond_false,HMX.out,hm1,cond_true,Z6m,HQ3.out]
   simp only [q4]
  have HF:=Z01 (HPE.out _ _ _ ho2 (Z04.after HA8.out.ks.below hf))
  clear hP HC8 hf
  go_wp2_with fail
  exact ⟨rfl,HF.out⟩
 have A9:=HA8.out.go R4 K4
 have hL9:Z89 (fun b=>w.heap.size<b) w9 la el:=HL3.out.same (K4.same (by show ¬ (_≤p);omega)) (fun b hb _=>by show w.heap.size<b;omega)
 have hS9:Z1h (fun b=>w.heap.size<b) w9 ba ss:=hS4.same (fun _ _ _=>rfl) (fun b hb _=>by show w.heap.size<b;omega)
 have ho6:o = .ok (mkS kWhile ⟨#[]⟩ [] el ss [],k4):=by
  rw [←HO.out,Z0q]
  rw [HMX.out,hm0,cond_false,HMX.out,hm1,cond_true,Z6m,HQ3.out]
  simp only [q4]
 have hZ:=Z1l (c0:=.string kWhile) (c1:=.string ⟨#[]⟩) (c2:=.slice none 0 0) (c3:=.slice la el.length lc) (c4:=.slice ba ss.length bc) (c5:=.slice none 0 0) A9 (Z2z (kd:=kWhile) (nm:=⟨#[]⟩) (pl:=[]) (es:=[]) (pc:=0) (lc:=lc) (bc:=bc) (ec:=0) (Z54.nil _ _ none) hL9 hS9 (Z1h.nil _ _ none)) (fun b hb=>hb)
 have HZ:=Z01 hZ
 obtain ⟨u0,u1,u2,u3,u4,u5,uf⟩:=Z08 A9.b4
 have uf0:=uf 0
 have uf1:=uf 1
 have uf2:=uf 2
 have uf3:=uf 3
 have uf4:=uf 4
 have uf5:=uf 5
 have ul:=Z00 A9.b4
 have HO6:=Z01 ho6
 clear hP HC8 A9 hL9 hS9 hS4 R4 K4 q4 uf ho6 hZ
 go_wp2_with fail
 obtain ⟨z1,z2,z3,z4⟩:=HZ.out
 refine bodyPost_ret (Z0e _ 2 rfl _ _ w.heap.size _ _ _ _ _ _ rfl z1) rfl ?_
 rw [HO6.out]
 exact ⟨_,_,_,_,_,_,rfl,z2,z3,z4,by omega,hk4l⟩
 | false =>
 rw [hm1,if_neg (by decide)] at R1
 have A2:=HA1.out.go R1 K1
 have HA2:=Z01 A2
 have HP2:=Z01 (Z0u A2.rd HHX.out hl kFor)
 clear R1 K1 A2 HP1
 go_wp2_with fail
 refine HP2.out.mono ?_
 rintro ev w3 ⟨rfl,R2,K2⟩
 have hz2:=K2.below.size
 cases hm2:Z0i x [kFor] with
 | true =>
 rw [hm2,if_pos rfl] at R2
 have hk1:=HKK.out _ hm2
 have A':=HA2.out.go R2 K2
 have HA':=Z01 A'
 have HC:=Z01 (HHE.out (k+1) (by omega) hk1 _ A'.rd (HE.out.keeps A'.ks) (HX.out.keeps A'.ks))
 clear R2 K2 A' HP2
 go_wp2_with fail
 refine HC.out.mono ?_
 intro ev w9 hP
 rcases hP.parts with ⟨s4,k4,kd4,nm4,pa4,pn4,pc4,la4,ln4,lc4,ba4,bn4,bc4,ea4,en4,ec4,q4,rfl,hrep4,R4,K4,hk4,hk4l⟩ | ⟨y,b,q4,rfl,hf⟩
 rotate_left
 ·have ho2:o = .error y:=by
   rw [←HO.out,Z0q]
   rw [HMX.out,hm0,cond_false,HMX.out,hm1,cond_false,HMX.out,hm2,cond_true,q4]
  have HF:=Z01 (HPE.out _ _ _ ho2 (Z04.after HA'.out.ks.below hf))
  clear hP HC hf
  go_wp2_with fail
  exact ⟨rfl,HF.out⟩
 have A9:=HA'.out.go R4 K4
 have ho6:o = .ok (s4,k4):=by
  rw [←HO.out,Z0q]
  rw [HMX.out,hm0,cond_false,HMX.out,hm1,cond_false,HMX.out,hm2,cond_true,q4]
 have hZ:=Z1l (c0:=.string kd4) (c1:=.string nm4) (c2:=.slice pa4 pn4 pc4) (c3:=.slice la4 ln4 lc4) (c4:=.slice ba4 bn4 bc4) (c5:=.slice ea4 en4 ec4) A9 (hrep4) (fun b hb=>by omega)
 have HZ:=Z01 hZ
 obtain ⟨u0,u1,u2,u3,u4,u5,uf⟩:=Z08 A9.b4
 have uf0:=uf 0
 have uf1:=uf 1
 have uf2:=uf 2
 have uf3:=uf 3
 have uf4:=uf 4
 have uf5:=uf 5
 have ul:=Z00 A9.b4
 have HO6:=Z01 ho6
 clear hP HC A9 hrep4 R4 K4 q4 uf ho6 hZ
 go_wp2_with fail
 obtain ⟨z1,z2,z3,z4⟩:=HZ.out
 refine bodyPost_ret (Z0e _ 2 rfl _ _ w.heap.size _ _ _ _ _ _ rfl z1) rfl ?_
 rw [HO6.out]
 exact ⟨_,_,_,_,_,_,rfl,z2,z3,z4,by omega,hk4l⟩
 | false =>
 rw [hm2,if_neg (by decide)] at R2
 have A3:=HA2.out.go R2 K2
 have HA3:=Z01 A3
 have HP3:=Z01 (Z0u A3.rd HHX.out hl kDef)
 clear R2 K2 A3 HP2
 go_wp2_with fail
 refine HP3.out.mono ?_
 rintro ev w4 ⟨rfl,R3,K3⟩
 have hz3:=K3.below.size
 cases hm3:Z0i x [kDef] with
 | true =>
 rw [hm3,if_pos rfl] at R3
 have hk1:=HKK.out _ hm3
 have A':=HA3.out.go R3 K3
 have HA':=Z01 A'
 have HC:=Z01 (HHF.out (k+1) (by omega) hk1 _ A'.rd (HE.out.keeps A'.ks) (HX.out.keeps A'.ks))
 clear R3 K3 A' HP3
 go_wp2_with fail
 refine HC.out.mono ?_
 intro ev w9 hP
 rcases hP.parts with ⟨s4,k4,kd4,nm4,pa4,pn4,pc4,la4,ln4,lc4,ba4,bn4,bc4,ea4,en4,ec4,q4,rfl,hrep4,R4,K4,hk4,hk4l⟩ | ⟨y,b,q4,rfl,hf⟩
 rotate_left
 ·have ho2:o = .error y:=by
   rw [←HO.out,Z0q]
   rw [HMX.out,hm0,cond_false,HMX.out,hm1,cond_false,HMX.out,hm2,cond_false,HMX.out,hm3,cond_true,q4]
  have HF:=Z01 (HPE.out _ _ _ ho2 (Z04.after HA'.out.ks.below hf))
  clear hP HC hf
  go_wp2_with fail
  exact ⟨rfl,HF.out⟩
 have A9:=HA'.out.go R4 K4
 have ho6:o = .ok (s4,k4):=by
  rw [←HO.out,Z0q]
  rw [HMX.out,hm0,cond_false,HMX.out,hm1,cond_false,HMX.out,hm2,cond_false,HMX.out,hm3,cond_true,q4]
 have hZ:=Z1l (c0:=.string kd4) (c1:=.string nm4) (c2:=.slice pa4 pn4 pc4) (c3:=.slice la4 ln4 lc4) (c4:=.slice ba4 bn4 bc4) (c5:=.slice ea4 en4 ec4) A9 (hrep4) (fun b hb=>by omega)
 have HZ:=Z01 hZ
 obtain ⟨u0,u1,u2,u3,u4,u5,uf⟩:=Z08 A9.b4
 have uf0:=uf 0
 have uf1:=uf 1
 have uf2:=uf 2
 have uf3:=uf 3
 have uf4:=uf 4
 have uf5:=uf 5
 have ul:=Z00 A9.b4
 have HO6:=Z01 ho6
 clear hP HC A9 hrep4 R4 K4 q4 uf ho6 hZ
 go_wp2_with fail
 obtain ⟨z1,z2,z3,z4⟩:=HZ.out
 refine bodyPost_ret (Z0e _ 2 rfl _ _ w.heap.size _ _ _ _ _ _ rfl z1) rfl ?_
 rw [HO6.out]
 exact ⟨_,_,_,_,_,_,rfl,z2,z3,z4,by omega,hk4l⟩
 | false =>
 rw [hm3,if_neg (by decide)] at R3
 have A4:=HA3.out.go R3 K3
 have HA4:=Z01 A4
 have HP4:=Z01 (Z0u A4.rd HHX.out hl kTry)
 clear R3 K3 A4 HP3
 go_wp2_with fail
 refine HP4.out.mono ?_
 rintro ev w5 ⟨rfl,R4,K4⟩
 have hz4:=K4.below.size
 cases hm4:Z0i x [kTry] with
 | true =>
 rw [hm4,if_pos rfl] at R4
 have hk1:=HKK.out _ hm4
 have A':=HA4.out.go R4 K4
 have HA':=Z01 A'
 have HC:=Z01 (HHA.out (k+1) (by omega) hk1 _ A'.rd (HE.out.keeps A'.ks) (HX.out.keeps A'.ks))
 clear R4 K4 A' HP4
 go_wp2_with fail
 refine HC.out.mono ?_
 intro ev w9 hP
 rcases hP.parts with ⟨s4,k4,kd4,nm4,pa4,pn4,pc4,la4,ln4,lc4,ba4,bn4,bc4,ea4,en4,ec4,q4,rfl,hrep4,R4,K4,hk4,hk4l⟩ | ⟨y,b,q4,rfl,hf⟩
 rotate_left
 ·have ho2:o = .error y:=by
   rw [←HO.out,Z0q]
   rw [HMX.out,hm0,cond_false,HMX.out,hm1,cond_false,HMX.out,hm2,cond_false,HMX.out,hm3,cond_false,HMX.out,hm4,cond_true,q4]
  have HF:=Z01 (HPE.out _ _ _ ho2 (Z04.after HA'.out.ks.below hf))
  clear hP HC hf
  go_wp2_with fail
  exact ⟨rfl,HF.out⟩
 have A9:=HA'.out.go R4 K4
 have ho6:o = .ok (s4,k4):=by
  rw [←HO.out,Z0q]
  rw [HMX.out,hm0,cond_false,HMX.out,hm1,cond_false,HMX.out,hm2,cond_false,HMX.out,hm3,cond_false,HMX.out,hm4,cond_true,q4]
 have hZ:=Z1l (c0:=.string kd4) (c1:=.string nm4) (c2:=.slice pa4 pn4 pc4) (c3:=.slice la4 ln4 lc4) (c4:=.slice ba4 bn4 bc4) (c5:=.slice ea4 en4 ec4) A9 (hrep4) (fun b hb=>by omega)
 have HZ:=Z01 hZ
 obtain ⟨u0,u1,u2,u3,u4,u5,uf⟩:=Z08 A9.b4
 have uf0:=uf 0
 have uf1:=uf 1
 have uf2:=uf 2
 have uf3:=uf 3
 have uf4:=uf 4
 have uf5:=uf 5
 have ul:=Z00 A9.b4
 have HO6:=Z01 ho6
 clear hP HC A9 hrep4 R4 K4 q4 uf ho6 hZ
 go_wp2_with fail
 obtain ⟨z1,z2,z3,z4⟩:=HZ.out
 refine bodyPost_ret (Z0e _ 2 rfl _ _ w.heap.size _ _ _ _ _ _ rfl z1) rfl ?_
 rw [HO6.out]
 exact ⟨_,_,_,_,_,_,rfl,z2,z3,z4,by omega,hk4l⟩
 | false =>
 rw [hm4,if_neg (by decide)] at R4
 have A5:=HA4.out.go R4 K4
 have HA5:=Z01 A5
 have HC:=Z01 (HHL.out _ A5.rd (HE.out.keeps A5.ks) (HX.out.keeps A5.ks))
 clear R4 K4 A5 HP4
 go_wp2_with fail
 refine HC.out.mono ?_
 intro ev w8 hP
 rcases hP.parts with ⟨s4,k4,kd4,nm4,pa4,pn4,pc4,la4,ln4,lc4,ba4,bn4,bc4,ea4,en4,ec4,q4,rfl,hrep4,R4,K4,hk4,hk4l⟩ | ⟨y,b,q4,rfl,hf⟩
 rotate_left
 ·have ho2:o = .error y:=by
   rw [←HO.out,Z0q]
   rw [HMX.out,hm0,cond_false,HMX.out,hm1,cond_false,HMX.out,hm2,cond_false,HMX.out,hm3,cond_false,HMX.out,hm4,cond_false,q4]
  have HF:=Z01 (HPE.out _ _ _ ho2 (Z04.after HA5.out.ks.below hf))
  clear hP HC hf
  go_wp2_with fail
  exact ⟨rfl,HF.out⟩
 obtain ⟨x4,hx4⟩:∃ x,l[k4]?=some x:=⟨l[k4],by simp [hk4l]⟩
 have hba8:Below w8.heap.size w8 (w8.alloc (.cells #[.string kd4,.string nm4,.slice pa4 pn4 pc4,.slice la4 ln4 lc4,.slice ba4 bn4 bc4,.slice ea4 en4 ec4] 52)):=(Below.refl _ _).alloc (Nat.le_refl _) _
 have hs8:=K4.below.size
 have A8:=(HA5.out.go R4 K4).more hba8
 have hB8:(w8.alloc (.cells #[.string kd4,.string nm4,.slice pa4 pn4 pc4,.slice la4 ln4 lc4,.slice ba4 bn4 bc4,.slice ea4 en4 ec4] 52)).heap[w8.heap.size]?=some (.cells #[.string kd4,.string nm4,.slice pa4 pn4 pc4,.slice la4 ln4 lc4,.slice ba4 bn4 bc4,.slice ea4 en4 ec4] 52):=heap_alloc_new w8 _
 have hrep8:=hrep4.same (S':=fun b=>w.heap.size<b) (Z06 hba8) (fun b hb _=>by show w.heap.size<b;omega)
 have HA8:=Z01 A8
 have HB8:=Z01 hB8
 have HRP:=Z01 hrep8
 have HQ4:=Z01 q4
 cases hn:Z0m l k4 [110,101,119,108,105,110,101] with
 | false =>
 have hn':=(Z1t hx4 [110,101,119,108,105,110,101]).symm.trans hn
 have HC8:=Z01 (Z6t A8.rd (HE.out.keeps A8.ks) hx4 ⟨#[110,101,119,108,105,110,101]⟩ (by rw [Zfq];exact hn'))
 clear hP HC R4 K4 A8 hrep4 q4 hba8 hB8 hrep8
 go_wp2_with fail
 refine HC8.out.mono ?_
 rintro ev w9 ⟨t,g1,b,rfl,g2⟩
 have ho2:o = .error (k4,false):=by
  rw [←HO.out,Z0q]
  rw [HMX.out,hm0,cond_false,HMX.out,hm1,cond_false,HMX.out,hm2,cond_false,HMX.out,hm3,cond_false,HMX.out,hm4,cond_false,HQ4.out]
  simp only [hn,cond_false]
 have HF:=Z01 (HPE.out _ _ _ ho2 (Z04.after HA8.out.ks.below ⟨t,g1,b,rfl,g2⟩))
 clear g1 g2 HC8
 go_wp2_with fail
 exact ⟨rfl,HF.out⟩
 | true =>
 have hn':=(Z1t hx4 [110,101,119,108,105,110,101]).symm.trans hn
 have hk5:=T.next hn (by decide)
 have HC8:=Z01 (Z9c A8.rd hx4 hl ⟨#[110,101,119,108,105,110,101]⟩ (by rw [Zfq];exact hn'))
 clear hP HC R4 K4 A8 hrep4 q4 hba8 hB8 hrep8
 go_wp2_with fail
 refine HC8.out.mono ?_
 rintro ev w9 ⟨rfl,R9,K9⟩
 have A9:=HA8.out.go R9 K9
 have hrep9:=HRP.out.same (S':=fun b=>w.heap.size<b) (K9.same (by show ¬ (_<p);omega)) (fun b hb _=>hb)
 have hB9:=(K9.block w8.heap.size (by omega) (Z00 HB8.out)).trans HB8.out
 obtain ⟨v0,v1,v2,v3,v4,v5,_⟩:=Z08 hB9
 have vl:=Z00 hB9
 have ho6:o = .ok (s4,k4+1):=by
  rw [←HO.out,Z0q]
  rw [HMX.out,hm0,cond_false,HMX.out,hm1,cond_false,HMX.out,hm2,cond_false,HMX.out,hm3,cond_false,HMX.out,hm4,cond_false,HQ4.out]
  simp only [hn,cond_true]
 have hZ:=Z1l (c0:=.string kd4) (c1:=.string nm4) (c2:=.slice pa4 pn4 pc4) (c3:=.slice la4 ln4 lc4) (c4:=.slice ba4 bn4 bc4) (c5:=.slice ea4 en4 ec4) A9 (hrep9) (fun b hb=>hb)
 have HZ:=Z01 hZ
 obtain ⟨u0,u1,u2,u3,u4,u5,uf⟩:=Z08 A9.b4
 have uf0:=uf 0
 have uf1:=uf 1
 have uf2:=uf 2
 have uf3:=uf 3
 have uf4:=uf 4
 have uf5:=uf 5
 have ul:=Z00 A9.b4
 have HO6:=Z01 ho6
 clear HC8 A9 hrep9 R9 K9 hB9 uf ho6 hZ
 go_wp2_with fail
 obtain ⟨z1,z2,z3,z4⟩:=HZ.out
 refine bodyPost_ret (Z0e _ 2 rfl _ _ w.heap.size _ _ _ _ _ _ rfl z1) rfl ?_
 rw [HO6.out]
 exact ⟨_,_,_,_,_,_,rfl,z2,z3,z4,by omega,hk5⟩
end Go.Proofs.YtflcohidmemfpaaGreatDoor
namespace Go.Proofs.YtflcohidmemfpaaGreatDoor
open Go.Proofs.Tryz
open Go.RowKit

def dedentB:ByteArray:=⟨#[100,101,100,101,110,116]⟩
def endB:ByteArray:=⟨#[101,110,100]⟩
def Z8o (l:List (ByteArray × ByteArray × Nat)) (k:Nat):Out (List (DataW Unit)):=Zjk (Zau l k)
def Za0 (l:List (ByteArray × ByteArray × Nat)) (blk:Nat→Out (List (DataW Unit))) (k:Nat):Out (DataW Unit):=
 Z0q l (fun k=>Z1y l (Z8o l) blk l.length k) (Z6m (Z8o l) blk) (Z7c l (Z8o l) blk) (Z6y l blk) (Z2h l blk) (Z4e l (Zau l) (Z8o l) (Z1m l (Zau l))) k
def Z34 (l:List (ByteArray × ByteArray × Nat)):Nat→Nat→Out (DataW Unit)
 | 0,k=>.error (k,false)
 | d+1,k=>Za0 l (Z2g l (12 - d) (fun k'=>Z25 l dedentB.toList (Z34 l d) (l.length+1) [] k')) k
theorem Zjs {p g cap:Nat}{rk:Value}{l:List (ByteArray × ByteArray × Nat)}{a0 a1:Addr} (T:TokS l):∀ (d bl k:Nat),bl+d=12→k<l.length→Z4g 61 #[.pointer (some ⟨p,0,none⟩)] p g cap rk l k bl 0 a0 a1 (Z34 l (d+1) k):=by
 intro d
 induction d with
 | zero =>
  intro bl k hbl hk
  have hb:bl=12 - 0:=by omega
  unfold Z34 Za0
  have H1:∀ k',k<k'→k'<l.length→Z4r 78 #[.pointer (some ⟨p,0,none⟩)] p g cap rk l k' bl 0 a0 a1 (Z8o l k'):=fun k' _ h=>Zzi T.ok h
  have H2:∀ k',k<k'→k'<l.length→Z41 79 #[.pointer (some ⟨p,0,none⟩)] p g cap rk l k' bl 0 a0 a1 (Z2g l (12 - 0) (fun k'=>Z25 l dedentB.toList (Z34 l 0) (l.length+1) [] k') k'):=fun k' _ h=>by
   rw [←hb]
   exact Zbn T h (by omega) _ (fun k'' _ _ h3=>by omega)
  exact Z8h T hk _ _ _ _ _ _ _ H1 H2 (fun k' h1 h2=>Zed (lo:=k+1) T _ _ (fun k' h=>H1 k' h) (fun k' h=>H2 k' h) l.length k' h1 h2 (by omega)) (fun k' h1 h2=>Zln T h2 _ _ (fun k2 h=>H1 k2 (by omega)) (fun k2 h=>H2 k2 (by omega))) (fun k' h1 h2=>Zah T h2 _ (fun k2 h=>H2 k2 (by omega))) (fun k' h1 h2=>Zcz T h2 _ (fun k2 h=>H2 k2 (by omega))) (Zha T hk _ _ _ (fun k' _ h=>Zg8 T.ok h) H1 (Z97 T hk _ (Zk7 l) (fun k' _ h=>Zg8 T.ok h)))
 | succ d IH =>
  intro bl k hbl hk
  have hb:bl=12 - (d+1):=by omega
  unfold Z34 Za0
  have H1:∀ k',k<k'→k'<l.length→Z4r 78 #[.pointer (some ⟨p,0,none⟩)] p g cap rk l k' bl 0 a0 a1 (Z8o l k'):=fun k' _ h=>Zzi T.ok h
  have H2:∀ k',k<k'→k'<l.length→Z41 79 #[.pointer (some ⟨p,0,none⟩)] p g cap rk l k' bl 0 a0 a1 (Z2g l (12 - (d+1)) (fun k'=>Z25 l dedentB.toList (Z34 l (d+1)) (l.length+1) [] k') k'):=fun k' _ h=>by
   rw [←hb]
   exact Zbn T h (by omega) _ (fun k'' _ h2 _=>Z7p dedentB T h2 _ (fun k3 _ h4=>IH (bl+1) k3 (by omega) h4))
  exact Z8h T hk _ _ _ _ _ _ _ H1 H2 (fun k' h1 h2=>Zed (lo:=k+1) T _ _ (fun k' h=>H1 k' h) (fun k' h=>H2 k' h) l.length k' h1 h2 (by omega)) (fun k' h1 h2=>Zln T h2 _ _ (fun k2 h=>H1 k2 (by omega)) (fun k2 h=>H2 k2 (by omega))) (fun k' h1 h2=>Zah T h2 _ (fun k2 h=>H2 k2 (by omega))) (fun k' h1 h2=>Zcz T h2 _ (fun k2 h=>H2 k2 (by omega))) (Zha T hk _ _ _ (fun k' _ h=>Zg8 T.ok h) H1 (Z97 T hk _ (Zk7 l) (fun k' _ h=>Zg8 T.ok h)))
def Z86 (l:List (ByteArray × ByteArray × Nat)):Out (List (DataW Unit)):=Z25 l endB.toList (Z34 l 12) (l.length+1) [] 0
theorem Zp3 {p g cap:Nat}{rk:Value}{l:List (ByteArray × ByteArray × Nat)}{a0 a1:Addr} (T:TokS l) (hl:0<l.length):Z41 40 #[.pointer (some ⟨p,0,none⟩),.string endB] p g cap rk l 0 1 0 a0 a1 (Z86 l):=
 Z7p endB T hl _ (fun k _ h=>Zjs T 11 1 k rfl h)
end Go.Proofs.YtflcohidmemfpaaGreatDoor
