/- Package heap by contracts: Weak, Look. -/
import Derived.Test.YtlkcbdinlfeoiaaGreatDoorKrC
namespace Go.Proofs.YtlkcbdinlfeoiaaGreatDoor
open Go.Proofs.Tryz Go.RowKit
set_option maxHeartbeats 8000000
set_option maxRecDepth 100000
set_option linter.unusedSimpArgs false
section
open Go.Maps
variable {h:HP}{sr:Int}{m:MD}{w w':World}{a:Nat->Addr}{w0:World}{M:MO}{X:MXtra}
def MXtra.weak (X:MXtra) (i:Nat):MXtra:={ X with K:=X.K ++ [i] }
theorem Zpy (s:HS a w0 h sr m M X w) {r:Nat}{c:CL} (hj:M.R[r]?=some c) (h4:c.kind=4) (hk:X.K.length<5000) :
  Calls prog 29 #[.pointer (some ⟨h.q,0,none⟩),.int .i64 (r:Int)] w fun ev w'=>ev = .returned (.tuple #[.int .i64 (X.K.length:Int),.nilIface])/\Stp a w0 h m M (X.weak c.ref) w w':=by
 obtain ⟨f,d,o⟩:∃ f d,ObjAt m M r c f d:=by
  rcases s.hm.rootIs hj with ⟨q,_⟩ | q
  ·exact absurd h4 q
  ·exact q
 obtain ⟨x,e1,_,hm⟩:=s.hm.weakly hj h4
 have ex:x=((f:Int)+1)*4:=by have:=o.root;rw [e1] at this;exact U1h this
 have kp:=Z95 s o
 rw [<-ex] at kp
 have hkl:=s.hm.weaks
 obtain ⟨_,⟨aK,cK,eK⟩,_⟩:=s.at'.rows
 obtain ⟨q,hq⟩:∃ q,q=h.q:=⟨_,rfl⟩
 obtain ⟨p,hp⟩:∃ p,p=h.p:=⟨_,rfl⟩
 obtain ⟨nK,hn⟩:∃ n,n=m.K.length:=⟨_,rfl⟩
 obtain ⟨xs,hxs⟩:∃ xs,xs=Z05 m.K:=⟨_,rfl⟩
 rw [<-hn] at eK
 rw [<-hq] at kp ⊢
 rw [<-hkl,<-hn]
 have HC:Hid (∀ W,Below w.heap.size w W->W.cell? ⟨q,0,none⟩=some (.pointer (some ⟨p,0,none⟩))/\W.cell? ⟨p,8,none⟩=some (.slice aK nK cK)/\W.frozen? ⟨p,8,none⟩=false/\W.ownsRow 0 81 1 (.slice aK nK cK) nK xs/\q≠p /\ ∃ cs:Array Value,W.heap[p]?=some (.cells cs 84)/\cs[8]?=some (.slice aK nK cK)/\(Value.slice aK nK cK).ownBlock≠some p/\(Value.slice aK nK cK).ownBlock≠some q):=fun W hW=>by
  have H:=s.at'.below hW
  have hmb:=H.mb
  unfold MB at hmb
  have c8:=H.cm.c8
  have oK:=H.K
  have n1:h.vK.ownBlock≠some p:=fun e=>(Z25 H.K e).ne H.tp (by decide) hp
  have n2:h.vK.ownBlock≠some q:=fun e=>(Z25 H.K e).ne H.tq (by decide) hq
  rw [eK] at c8 oK n1 n2 hmb
  rw [<-hn,<-hxs] at oK
  exact ⟨by rw [hq,hp];exact H.c0,by rw [hp];exact c8,by rw [hp];simp [World.frozen?,hmb],oK,by rw [hq,hp];exact H.tq.ne H.tp (by decide),_,by rw [hp];exact hmb,rfl,n1,n2⟩
 have HW:Hid (∀ W w8 g cap,Below w.heap.size w W->W.grownBy w8 (Value.slice aK nK cK).ownBlock->((Value.slice aK nK cK).ownBlock=some g\/W.heap.size<=g)->w8.ownsRow 0 81 1 (.slice (some ⟨g,0,none⟩) (nK+1) cap) (nK+1) (xs ++ [.int .u64 x])->Stp a w0 h m M (X.weak c.ref) w (w8.setCell ⟨p,8,none⟩ (.slice (some ⟨g,0,none⟩) (nK+1) cap))):=fun W w8 g cap hW hg hv ho=>by
  have H:=s.at'.below hW
  rw [hxs,hn] at ho
  rw [<-eK] at hg hv
  obtain ⟨H',N'⟩:=H.weakly hg (v':=.slice (some ⟨g,0,none⟩) (nK+1) cap) (fun k e=>by cases e;exact hv) (by rw [hn];exact ho)
  rw [hp]
  refine ⟨_,sr,{ m with K:=m.K ++ [x] },(Nxt.of_below h hW).trans N',⟨rfl,rfl,rfl⟩,s.next ((Nxt.of_below h hW).trans N') H' hm ?_ s.rl⟩
  show (X.K ++ [c.ref]).length<=5000
  rw [U0f]
  show X.K.length+1<=5000
  omega
 have hnb:nK<5000:=by omega
 clear s o hm hj h4 hkl hk hq hp hn hxs e1 ex eK
 have nI:¬ (5000:Int)<=(nK:Int):=by omega
 go_enter func29,ntmps29
 go_wp2_with fail
 refine kp.mono ?_
 clear kp
 rintro ev w2 ⟨rfl,b2⟩
 obtain ⟨d0,d8,f8,oK,nqp,_⟩:=HC.out w2 b2
 have HB2:=Z00 b2
 have HOK:=Z00 oK
 have d0d:w2.drew.cell? ⟨q,0,none⟩=some (.pointer (some ⟨p,0,none⟩)):=d0
 have lq:q<w2.heap.size:=Z02 d0
 have keepA:∀ {ob:Obj},((w2.alloc ob).drew).cell? ⟨q,0,none⟩=some (.pointer (some ⟨p,0,none⟩)):=fun {ob} => ((((U01 w2.heap.size w2).alloc (U02 _) ob).drew).cell (p:=⟨q,0,none⟩) lq).trans d0
 have d8a:((w2.alloc (.cells #[.int .u64 x] 81)).drew).cell? ⟨p,8,none⟩=some (.slice aK nK cK):=((((U01 w2.heap.size w2).alloc (U02 _) _).drew).cell (p:=⟨p,8,none⟩) (Z02 d8)).trans d8
 have HFin:Hid (∀ {ob:Obj}{g cap:Nat}{wA:World},Below w2.heap.size w2 ((w2.alloc ob).drew)->wA.ownsRow 0 81 1 (.slice (some ⟨g,0,none⟩) (nK+1) cap) (nK+1) (xs ++ [.int .u64 x])->((w2.alloc ob).drew).grownBy wA (Value.slice aK nK cK).ownBlock->((Value.slice aK nK cK).ownBlock=some g\/g=((w2.alloc ob).drew).heap.size) ->
   wA.cell? ⟨p,8,none⟩=some (.slice aK nK cK)/\wA.frozen? ⟨p,8,none⟩=false/\wA.cell? ⟨q,0,none⟩=some (.pointer (some ⟨p,0,none⟩))/\Stp a w0 h m M (X.weak c.ref) w (wA.setCell ⟨p,8,none⟩ (.slice (some ⟨g,0,none⟩) (nK+1) cap))/\((wA.setCell ⟨p,8,none⟩ (.slice (some ⟨g,0,none⟩) (nK+1) cap)).cell? ⟨q,0,none⟩=some (.pointer (some ⟨p,0,none⟩))/\(wA.setCell ⟨p,8,none⟩ (.slice (some ⟨g,0,none⟩) (nK+1) cap)).cell? ⟨p,8,none⟩=some (.slice (some ⟨g,0,none⟩) (nK+1) cap))):=fun {ob g cap wA} hb ho hg hv=>by
  have B3:=HB2.out.trans (hb.mono HB2.out.size)
  obtain ⟨k0,_,_,_,_,cs,hbp,hcs,n1,n2⟩:=HC.out _ B3
  have hbA:wA.heap[p]?=some (.cells cs 84):=(hg.block p (Z01 hbp) (fun e=>n1 e.symm)).trans hbp
  have cq:wA.cell? ⟨q,0,none⟩=some (.pointer (some ⟨p,0,none⟩)):=(U25 (a:=⟨q,0,none⟩) (hg.block q (Z02 k0) (fun e=>n2 e.symm))).trans k0
  refine ⟨by rw [U06 _ _ _ _ _ _ hbA];exact hcs,by simp [World.frozen?,hbA],cq,HW.out _ wA g cap B3 hg (hv.imp_right (fun e=>U31 e.symm)) ho,(U25 (a:=⟨q,0,none⟩) (Z0a _ _ _ _ _ nqp)).trans cq,?_⟩
  rw [U06 _ _ _ _ _ _ (Z06 hbA)]
  have:=(Array.getElem?_eq_some_iff.1 hcs).1
  simp [this]
 clear oK f8 b2
 go_upto_region 6 with fail
 go_cut [] from 32 to 50 (fun wx => ∃ g cap,Hid (Stp a w0 h m M (X.weak c.ref) w wx)/\wx.cell? ⟨q,0,none⟩=some (.pointer (some ⟨p,0,none⟩))/\wx.cell? ⟨p,8,none⟩=some (.slice (some ⟨g,0,none⟩) (nK+1) cap))
 case first =>
  obtain ⟨i0,hi0,hz0,hz1,hz2⟩:=Zhb
  refine U3n (S:=(fun W=>W.cell? ⟨q,0,none⟩=some (.pointer (some ⟨p,0,none⟩)))) (by kernel_rfl) d0d (fun hHeld => ?_)
  refine U0h (i:=0) (oi:={ dst:=some 32,op:=_,type:=_,pos:=_,after:=_,guard:=_ }) (v:=?v0) rfl (by kernel_rfl) (by kernel_rfl) (by kernel_rfl) (fun _ _ _ h=>h) (Or.inl ⟨by rfl,?y0⟩) hHeld ?r0
  case y0=>(intro wz hSw;(try dsimp only at hSw);go_simp;try with_reducible rfl)
  case r0 =>
  try simp only [Act.put,U00,U04,U05]
  refine U0h (i:=1) (oi:={ dst:=some 33,op:=_,type:=_,pos:=_,after:=_,guard:=_ }) (v:=?v1) rfl (by kernel_rfl) (by kernel_rfl) (by kernel_rfl) (fun _ _ _ h=>h) (Or.inl ⟨by rfl,?y1⟩) hHeld ?r1
  case y1=>(intro wz hSw;(try dsimp only at hSw);go_simp;try with_reducible rfl)
  case r1 =>
  try simp only [Act.put,U00,U04,U05]
  refine U0h (i:=2) (oi:={ dst:=some 34,op:=_,type:=_,pos:=_,after:=_,guard:=_ }) (v:=?v2) rfl (by kernel_rfl) (by kernel_rfl) (by kernel_rfl) (fun _ _ _ h=>h) (Or.inl ⟨by rfl,?y2⟩) hHeld ?r2
  case y2=>(intro wz hSw;(try dsimp only at hSw);go_simp;try with_reducible rfl)
  case r2 =>
  try simp only [Act.put,U00,U04,U05]
  refine U0h (i:=3) (oi:={ dst:=some 35,op:=_,type:=_,pos:=_,after:=_,guard:=_ }) (v:=?v3) rfl (by kernel_rfl) (by kernel_rfl) (by kernel_rfl) (fun _ _ _ h=>h) (Or.inl ⟨by rfl,?y3⟩) hHeld ?r3
  case y3=>(intro wz hSw;(try dsimp only at hSw);go_simp;try with_reducible rfl)
  case r3 =>
  try simp only [Act.put,U00,U04,U05]
  refine U0h (i:=4) (oi:={ dst:=some 36,op:=_,type:=_,pos:=_,after:=_,guard:=_ }) (v:=?v4) rfl (by kernel_rfl) (by kernel_rfl) (by kernel_rfl) (fun _ _ _ h=>h) (Or.inl ⟨by rfl,?y4⟩) hHeld ?r4
  case y4=>(intro wz hSw;(try dsimp only at hSw);go_simp;try with_reducible rfl)
  case r4 =>
  try simp only [Act.put,U00,U04,U05]
  refine U0h (i:=5) (oi:={ dst:=some 37,op:=_,type:=_,pos:=_,after:=_,guard:=_ }) (v:=?v5) rfl (by kernel_rfl) (by kernel_rfl) (by kernel_rfl) (fun _ _ _ h=>h) (Or.inl ⟨by rfl,?y5⟩) hHeld ?r5
  case y5=>(intro wz hSw;(try dsimp only at hSw);go_simp;try with_reducible rfl)
  case r5 =>
  try simp only [Act.put,U00,U04,U05]
  refine U0h (i:=6) (oi:={ dst:=some 38,op:=_,type:=_,pos:=_,after:=_,guard:=_ }) (v:=?v6) rfl (by kernel_rfl) (by kernel_rfl) (by kernel_rfl) (fun _ _ _ h=>h) (Or.inl ⟨by rfl,?y6⟩) hHeld ?r6
  case y6=>(intro wz hSw;(try dsimp only at hSw);go_simp;try with_reducible rfl)
  case r6 =>
  try simp only [Act.put,U00,U04,U05]
  refine U0h (i:=7) (oi:={ dst:=some 39,op:=_,type:=_,pos:=_,after:=_,guard:=_ }) (v:=?v7) rfl (by kernel_rfl) (by kernel_rfl) (by kernel_rfl) (fun _ _ _ h=>h) (Or.inl ⟨by rfl,?y7⟩) hHeld ?r7
  case y7=>(intro wz hSw;(try dsimp only at hSw);go_simp;try with_reducible rfl)
  case r7 =>
  try simp only [Act.put,U00,U04,U05]
  refine U0h (i:=8) (oi:={ dst:=some 40,op:=_,type:=_,pos:=_,after:=_,guard:=_ }) (v:=?v8) rfl (by kernel_rfl) (by kernel_rfl) (by kernel_rfl) (fun _ _ _ h=>h) (Or.inl ⟨by rfl,?y8⟩) hHeld ?r8
  case y8=>(intro wz hSw;(try dsimp only at hSw);go_simp;try with_reducible rfl)
  case r8 =>
  try simp only [Act.put,U00,U04,U05]
  refine U0h (i:=9) (oi:={ dst:=some 41,op:=_,type:=_,pos:=_,after:=_,guard:=_ }) (v:=?v9) rfl (by kernel_rfl) (by kernel_rfl) (by kernel_rfl) (fun _ _ _ h=>h) (Or.inl ⟨by rfl,?y9⟩) hHeld ?r9
  case y9=>(intro wz hSw;(try dsimp only at hSw);go_simp;try with_reducible rfl)
  case r9 =>
  try simp only [Act.put,U00,U04,U05]
  refine U0h (i:=10) (oi:={ dst:=some 42,op:=_,type:=_,pos:=_,after:=_,guard:=_ }) (v:=?v10) rfl (by kernel_rfl) (by kernel_rfl) (by kernel_rfl) (fun _ _ _ h=>h) (Or.inl ⟨by rfl,?y10⟩) hHeld ?r10
  case y10=>(intro wz hSw;(try dsimp only at hSw);go_simp;try with_reducible rfl)
  case r10 =>
  try simp only [Act.put,U00,U04,U05]
  refine U0h (i:=11) (oi:={ dst:=some 43,op:=_,type:=_,pos:=_,after:=_,guard:=_ }) (v:=?v11) rfl (by kernel_rfl) (by kernel_rfl) (by kernel_rfl) (fun _ _ _ h=>h) (Or.inl ⟨by rfl,?y11⟩) hHeld ?r11
  case y11=>(intro wz hSw;(try dsimp only at hSw);go_simp;try with_reducible rfl)
  case r11 =>
  try simp only [Act.put,U00,U04,U05]
  refine U0h (i:=13) (oi:={ dst:=some 45,op:=_,type:=_,pos:=_,after:=_,guard:=_ }) (v:=?v12) rfl (by kernel_rfl) (by kernel_rfl) (by kernel_rfl) (fun _ _ _ h=>h) (Or.inl ⟨by rfl,?y12⟩) hHeld ?r12
  case y12=>(intro wz hSw;(try dsimp only at hSw);go_simp;try with_reducible rfl)
  case r12 =>
  try simp only [Act.put,U00,U04,U05]
  refine U11 (rs:=[12,14]) (by kernel_rfl) (by simp) ?_
  refine U0s (o:={ dst:=some 44,op:=_,type:=_,pos:=_,after:=_,guard:=_ }) rfl (fun K hK => ?_) (U0s (o:={ dst:=some 46,op:=_,type:=_,pos:=_,after:=_,guard:=_ }) rfl (fun K hK => ?_) U0z)
  ·skip
   go_simp
   refine hK.out _ _ (hHeld) (fun hHeld => ?_)
   clear hK K
   try simp only [Act.put,U00,U04,U05]
   refine U11 (rs:=[14]) (by kernel_rfl) (by simp) ?_
   refine U0s (o:={ dst:=some 46,op:=_,type:=_,pos:=_,after:=_,guard:=_ }) rfl (fun K hK => ?_) U0z
   go_simp
   refine hK.out _ _ (keepA) (fun hHeld => ?_)
   clear hK K
   try simp only [Act.put,U00,U04,U05]
   refine U11 (rs:=[15]) (by kernel_rfl) (by simp) ?_
   refine U0s (o:={ dst:=some 47,op:=_,type:=_,pos:=_,after:=_,guard:=_ }) rfl (fun K hK => ?_) U0z
   refine U3m _ (by rfl) _ _ _ (by rfl) 0 81 i0 (.int .u64 0) 1 8 underlying79 hi0 hz0 hz1 hz2 rfl (by decide) (.slice aK nK cK) nK xs rfl (Z04 HOK.out (fun g hg=>Z0u _ _ _ (Z08 HOK.out g hg).2)) ⟨w2.heap.size,0,none⟩ 1 1 [.int .u64 x] rfl rfl (U2j (cs:=#[.int .u64 x]) (t:=81) (U0b _ _)) (fun u hu=>by simp at hu;subst hu;rfl) (by decide) (by unfold maxLen;omega) (by omega) (by simp) _ rfl ?_
   intro g' cap' wA hownA hgrowA hatA hltA
   obtain ⟨cA,fA,c0A,sA,tA⟩:=HFin.out (((U01 _ _).alloc (U02 _) _).drew) hownA hgrowA hatA
   have HSA:=Z00 sA
   have HTA:=Z00 tA
   clear hownA hgrowA hatA hltA sA tA
   refine hK.out _ _ (c0A) (fun hHeld => ?_)
   clear hK K
   try simp only [Act.put,U00,U04,U05]
   refine U0h (i:=16) (oi:={ dst:=some 48,op:=_,type:=_,pos:=_,after:=_,guard:=_ }) (v:=?v13) rfl (by kernel_rfl) (by kernel_rfl) (by kernel_rfl) (fun _ _ _ h=>h) (Or.inl ⟨by rfl,?y13⟩) hHeld ?r13
   case y13=>(intro wz hSw;(try dsimp only at hSw);go_simp;try with_reducible rfl)
   case r13 =>
   try simp only [Act.put,U00,U04,U05]
   refine U0h (i:=17) (oi:={ dst:=some 49,op:=_,type:=_,pos:=_,after:=_,guard:=_ }) (v:=?v14) rfl (by kernel_rfl) (by kernel_rfl) (by kernel_rfl) (fun _ _ _ h=>h) (Or.inl ⟨by rfl,?y14⟩) hHeld ?r14
   case y14=>(intro wz hSw;(try dsimp only at hSw);go_simp;try with_reducible rfl)
   case r14 =>
   try simp only [Act.put,U00,U04,U05]
   refine U11 (rs:=[18]) (by kernel_rfl) (by simp) ?_
   refine U0s (o:={ dst:=none,op:=_,type:=_,pos:=_,after:=_,guard:=_ }) rfl (fun K hK => ?_) U0z
   go_simp
   refine hK.out _ _ (HTA.out.1) (fun hHeld => ?_)
   clear hK K
   try simp only [Act.put,U00,U04,U05]
   refine U34 (by kernel_rfl) ?_ _
   go_wp2_with fail
   go_meet
   exact ⟨g',cap',HSA.out,HTA.out.1,HTA.out.2⟩
  ·skip
   go_simp
   refine hK.out _ _ (keepA) (fun hHeld => ?_)
   clear hK K
   try simp only [Act.put,U00,U04,U05]
   refine U11 (rs:=[12]) (by kernel_rfl) (by simp) ?_
   refine U0s (o:={ dst:=some 44,op:=_,type:=_,pos:=_,after:=_,guard:=_ }) rfl (fun K hK => ?_) U0z
   go_simp
   refine hK.out _ _ (hHeld) (fun hHeld => ?_)
   clear hK K
   try simp only [Act.put,U00,U04,U05]
   refine U11 (rs:=[15]) (by kernel_rfl) (by simp) ?_
   refine U0s (o:={ dst:=some 47,op:=_,type:=_,pos:=_,after:=_,guard:=_ }) rfl (fun K hK => ?_) U0z
   refine U3m _ (by rfl) _ _ _ (by rfl) 0 81 i0 (.int .u64 0) 1 8 underlying79 hi0 hz0 hz1 hz2 rfl (by decide) (.slice aK nK cK) nK xs rfl (Z04 HOK.out (fun g hg=>Z0u _ _ _ (Z08 HOK.out g hg).2)) ⟨w2.heap.size,0,none⟩ 1 1 [.int .u64 x] rfl rfl (U2j (cs:=#[.int .u64 x]) (t:=81) (U0b _ _)) (fun u hu=>by simp at hu;subst hu;rfl) (by decide) (by unfold maxLen;omega) (by omega) (by simp) _ rfl ?_
   intro g' cap' wA hownA hgrowA hatA hltA
   obtain ⟨cA,fA,c0A,sA,tA⟩:=HFin.out (((U01 _ _).alloc (U02 _) _).drew) hownA hgrowA hatA
   have HSA:=Z00 sA
   have HTA:=Z00 tA
   clear hownA hgrowA hatA hltA sA tA
   refine hK.out _ _ (c0A) (fun hHeld => ?_)
   clear hK K
   try simp only [Act.put,U00,U04,U05]
   refine U0h (i:=16) (oi:={ dst:=some 48,op:=_,type:=_,pos:=_,after:=_,guard:=_ }) (v:=?v15) rfl (by kernel_rfl) (by kernel_rfl) (by kernel_rfl) (fun _ _ _ h=>h) (Or.inl ⟨by rfl,?y15⟩) hHeld ?r15
   case y15=>(intro wz hSw;(try dsimp only at hSw);go_simp;try with_reducible rfl)
   case r15 =>
   try simp only [Act.put,U00,U04,U05]
   refine U0h (i:=17) (oi:={ dst:=some 49,op:=_,type:=_,pos:=_,after:=_,guard:=_ }) (v:=?v16) rfl (by kernel_rfl) (by kernel_rfl) (by kernel_rfl) (fun _ _ _ h=>h) (Or.inl ⟨by rfl,?y16⟩) hHeld ?r16
   case y16=>(intro wz hSw;(try dsimp only at hSw);go_simp;try with_reducible rfl)
   case r16 =>
   try simp only [Act.put,U00,U04,U05]
   refine U11 (rs:=[18]) (by kernel_rfl) (by simp) ?_
   refine U0s (o:={ dst:=none,op:=_,type:=_,pos:=_,after:=_,guard:=_ }) rfl (fun K hK => ?_) U0z
   go_simp
   refine hK.out _ _ (HTA.out.1) (fun hHeld => ?_)
   clear hK K
   try simp only [Act.put,U00,U04,U05]
   refine U34 (by kernel_rfl) ?_ _
   go_wp2_with fail
   go_meet
   exact ⟨g',cap',HSA.out,HTA.out.1,HTA.out.2⟩
 case rest =>
  obtain ⟨g,cap,hS,c0',c8'⟩:=hcut
  have eW:IntKind.i64.wrap (((nK+1:Nat):Int) - 1)=(nK:Int):=by rw [Z18 _ (by omega) (by omega)];omega
  clear d0 d8 d8a d0d keepA
  go_wp2_with fail
  go_ret2
  exact ⟨rfl,hS.out⟩
end
section
open Go.Maps
variable {sr:Int}{m:MD}{M:MO}{X:MXtra}
structure Chain (M:MO) (sz i:Nat):Prop where
 r0:M.R[0]?=some ⟨4,0,i⟩
 r1:0<i->M.R[1]?=some ⟨4,0,i⟩
 rl:M.R.length=4
 nl:M.N.length=i+1
 n0:M.N[0]?=some (mkN 9 sz)
 nk:∀ k,0<k->k<=i->M.N[k]?=some ⟨8,[],[⟨4,0,k - 1⟩]⟩
theorem Zt8 {l:List ND}{b:Nat} (h:∀ d∈l,ndW d<=b):(l.map ndW).sum<=b*l.length:=by
 induction l with
 | nil=>simp
 | cons d l ih =>
  rw [U1f,U32,U1e,Nat.mul_succ]
  have:=h d (by simp)
  have:=ih (fun x hx=>h x (by simp [hx]))
  omega
theorem Ztn (sz:Nat):ndW (mkN 9 sz)=1+sz:=by unfold ndW mkN;simp
theorem Chain.total {sz i:Nat} (C:Chain M sz i):M.total<=(2+sz)*(i+1):=by
 have h:=Zt8 (l:=M.N) (b:=2+sz) (fun d hd=>by
  obtain ⟨k,hk⟩:=U1z hd
  have hl:=(U0e.1 hk).1
  rw [C.nl] at hl
  rcases U26 k with rfl | h0
  ·rw [C.n0] at hk;cases hk;rw [Ztn];omega
  ·rw [C.nk k h0 (by omega)] at hk;cases hk;show 1+1<=2+sz;omega)
 rw [C.nl] at h
 exact h
theorem Chain.begin (sz:Nat):Chain ((MO.new 4).made 0 (mkN 9 sz)) sz 0:=⟨rfl,fun h=>absurd h (by omega),rfl,rfl,rfl,fun k h0 h1=>by omega⟩
def Zlp (M:MO) (i:Nat):MO:=((M.made 1 (mkN 8 1)).putN (i+1) (mkN 8 1) 0 ⟨4,0,i⟩).set 0 ⟨4,0,i+1⟩
theorem Chain.next {sz i:Nat} (C:Chain M sz i):(M.made 1 (mkN 8 1)).R[1]?=some ⟨4,0,i+1⟩/\(M.made 1 (mkN 8 1)).N[i+1]?=some (mkN 8 1)/\(M.made 1 (mkN 8 1)).R[0]?=some ⟨4,0,i⟩/\Chain (Zlp M i) sz (i+1):=by
 have hR:(M.made 1 (mkN 8 1)).R=M.R.set 1 ⟨4,0,i+1⟩:=by show M.R.set 1 ⟨4,0,M.N.length⟩=_;rw [C.nl]
 have hN:(M.made 1 (mkN 8 1)).N=M.N ++ [mkN 8 1]:=rfl
 have hN2:(Zlp M i).N=M.N ++ [⟨8,[],[⟨4,0,i⟩]⟩]:=by
  show (M.N ++ [mkN 8 1]).set (i+1) _=_
  rw [List.set_append_right _ _ (by rw [C.nl];exact U02 _),C.nl,U28]
  rfl
 have hR2:(Zlp M i).R=(M.R.set 1 ⟨4,0,i+1⟩).set 0 ⟨4,0,i+1⟩:=by show (M.made 1 (mkN 8 1)).R.set 0 _=_;rw [hR]
 have hl:=C.rl
 refine ⟨?_,?_,?_,⟨?_,fun _ => ?_,?_,?_,?_,?_⟩⟩
 ·rw [hR,U18 (by omega)]
 ·rw [hN,U12 (by rw [C.nl];exact U02 _),C.nl,U28];rfl
 ·rw [hR,U1c (by omega)];exact C.r0
 ·rw [hR2,U18 (by rw [U0t];omega)]
 ·rw [hR2,U1c (by omega),U18 (by omega)]
 ·rw [hR2,U0t,U0t];exact hl
 ·rw [hN2,U0f,C.nl];rfl
 ·rw [hN2,U10 (by rw [C.nl];omega)];exact C.n0
 ·intro k h0 h1
  rw [hN2]
  by_cases hk:k<=i
  ·rw [U10 (by rw [C.nl];omega)];exact C.nk k h0 hk
  ·obtain rfl:k=i+1:=by omega
   rw [U12 (by rw [C.nl];exact U02 _),C.nl,U28];rfl
theorem Chain.led {sz i:Nat} (hi:0<i) (C:Chain M sz i) (hm:HM m sr (M.set 0 (clK 0)) X):0∈(M.set 0 (clK 0)).all:=by
 obtain ⟨_,_,a3,a4⟩:=hm.all
 have h1:i∈(M.set 0 (clK 0)).all:=a3 ⟨4,0,i⟩ (by
  refine U0a (i:=1) ?_
  show (M.R.set 0 (clK 0))[1]?=_
  rw [U1c (by omega)]
  exact C.r1 hi) rfl
 have h2:∀ j,j<=i->i - j∈(M.set 0 (clK 0)).all:=fun j=>by
  induction j with
  | zero=>exact fun _=>h1
  | succ j ih =>
   intro hj
   exact a4 _ (ih (by omega)) _ (C.nk (i - j) (by omega) (by omega)) (by show ¬ (8:Int)<8;decide) ⟨4,0,i - j - 1⟩ (by simp) rfl
 have:=h2 i (U02 _)
 rwa [U28] at this
end
section
open Go.Maps
variable {h:HP}{sr:Int}{m:MD}{w w':World}{a:Nat->Addr}{w0:World}{M:MO}{X:MXtra}
theorem HAt.serially (H:HAt h sr m w) {w1:World}{v':Value}{x y:Int} (g:w.grownBy w1 h.vI.ownBlock) (hv:∀ k,v'.ownBlock=some k->h.vI.ownBlock=some k\/w.heap.size<=k) (o:w1.ownsRow 0 123 2 v' (m.I.length+1) (Z2e m.I ++ [.int .u64 x,.int .i64 y])) :
  HAt { h with vI:=v' } sr { m with I:=m.I ++ [(x,y)] } (w1.setCell ⟨h.p,9,none⟩ v')/\Nxt h { h with vI:=v' } w (w1.setCell ⟨h.p,9,none⟩ v'):=by
 have hk0:∀ k,h.vI.ownBlock=some k->k≠h.q/\k≠h.p/\k≠h.bW/\k≠h.bC /\ ¬ Z1n h.vR k /\ ¬ h.vK.ownBlock=some k:=fun k hk=>by
  have t:=Z25 H.I hk
  exact ⟨t.ne H.tq (by decide),t.ne H.tp (by decide),t.ne H.tW (by decide),t.ne H.tC (by decide),fun e=>(Z4i H.R e).ne t (by decide) rfl,fun e=>(Z25 H.K e).ne t (by decide) rfl⟩
 have ha:Aside (fun k=>h.vI.ownBlock=some k) w w1:=⟨g.os,g.tape,g.output,g.size,fun k hk hx=>g.block k hk (fun e=>hx e.symm)⟩
 have hp1:=(ha.block _ H.tp.lt (fun e=>(hk0 _ e).2.1 rfl)).trans H.mb
 have hq1:=(ha.block _ H.tq.lt (fun e=>(hk0 _ e).1 rfl)).trans H.hq
 have ap:Aside (fun k=>k=h.p) w1 (w1.setCell ⟨h.p,9,none⟩ v'):=(Aside.refl (fun k=>k=h.p) w1).setCell (g:=h.p) rfl _
 have lp:=H.tp.lt
 have nqp:=H.tq.ne H.tp (by decide)
 have nWp:=H.tW.ne H.tp (by decide)
 have nCp:=H.tC.ne H.tp (by decide)
 have nRp:∀ k,Z1n h.vR k->k≠h.p:=fun k hk=>(Z4i H.R hk).ne H.tp (by decide)
 have nKp:∀ k,h.vK.ownBlock=some k->k≠h.p:=fun k hk=>(Z25 H.K hk).ne H.tp (by decide)
 have hIp:∀ k,v'.ownBlock=some k->k≠h.p:=fun k hk e=>by
  rcases hv k hk with h1 | h1
  ·exact (hk0 k h1).2.1 e
  ·rw [e] at h1;omega
 refine ⟨⟨?_,?_,?_,?_,H.cap,H.capC,?_,?_,?_,H.rk,H.rb,H.kb⟩,rfl,rfl,fun k hk => ?_,?_⟩
 ·exact (ap.block _ (Z01 hq1) nqp).trans hq1
 ·exact Z06 hp1
 ·exact (H.hW.aside ha (fun e=>(hk0 _ e).2.2.1 rfl)).aside ap nWp
 ·exact (H.hC.aside ha (fun e=>(hk0 _ e).2.2.2.1 rfl)).aside ap nCp
 ·exact (H.R.aside ha (fun k hk e=>(hk0 k e).2.2.2.2.1 hk)).aside ap (fun k hk=>nRp k hk)
 ·have o1:=Z04 (w':=w1) H.K (fun k hk=>ha.block k (Z08 H.K k hk).2 (fun e=>(hk0 k e).2.2.2.2.2 hk))
  exact Z04 o1 (fun k hk=>ap.block k (Z08 o1 k hk).2 (nKp k hk))
 ·show World.ownsRow _ 0 _ 2 v' (m.I ++ [(x,y)]).length (Z2e (m.I ++ [(x,y)]))
  have e:Z2e (m.I ++ [(x,y)])=Z2e m.I ++ [.int .u64 x,.int .i64 y]:=by simp [Z2e]
  rw [e,U0f]
  exact Z04 o (fun k hk=>ap.block k (Z08 o k hk).2 (hIp k hk))
 ·rcases hk with hk | hk | hk | hk | hk | hk | hk
  ·exact .inl (.inl hk)
  ·exact .inl (.inr (.inl hk))
  ·exact .inl (.inr (.inr (.inl hk)))
  ·exact .inl (.inr (.inr (.inr (.inl hk))))
  ·exact .inl (.inr (.inr (.inr (.inr (.inl hk)))))
  ·exact .inl (.inr (.inr (.inr (.inr (.inr (.inl hk))))))
  ·rcases hv k hk with h1 | h1
   ·exact .inl (.inr (.inr (.inr (.inr (.inr (.inr h1))))))
   ·exact .inr h1
 ·exact (ha.mono (fun k hk=>.inr (.inr (.inr (.inr (.inr (.inr hk))))))).join ap (fun k _ hk=>.inr (.inl hk))
def MXtra.give (X:MXtra) (i:Nat):MXtra:={ X with ser:=fun j=>if j=i then X.next+1 else X.ser j,next:=X.next+1 }
theorem Zpb {vs:List Nat} (S:m.Shape vs) {i j:Nat}{x y:Int × Int} (hi:m.I[i]?=some x) (hj:m.I[j]?=some y) (e:x.1=y.1):i=j:=by
 have hI:=(S.rest').2.2
 have key:∀ {i j:Nat}{x y:Int × Int},m.I[i]?=some x->m.I[j]?=some y->x.1=y.1 -> ¬ i<j:=by
  intro i j x y hi hj e hij
  have hg:=hI
  unfold Z6j at hg
  rw [U0m] at hg
  have g:=hg j (U0u.2 (U0e.1 hj).1)
  unfold idB at g
  rw [hj] at g
  simp only [U0i,U1x] at g
  have h3:=g.2.2.1
  rw [U1g,hj,U1b,U23] at h3
  have h4:y.1∈(m.I.take j).map (·.1):=by
   rw [<-e]
   exact U0l.2 ⟨x,U0a (i:=i) (by rw [U1j,U09 hij];exact hi),rfl⟩
  have h5:=U4c.2 h4
  have h6:(List.map (fun x:Int × Int=>x.1) (some y).toList).count y.1=1:=by simp
  omega
 have h1:=key hi hj e
 have h2:=key hj hi e.symm
 omega
theorem Zgi (s:HS a w0 h sr m M X w) {r:Nat}{c:CL} (hj:M.R[r]?=some c) (h4:c.kind=4) (hb:sr<4611686018427387904) :
  Calls prog 46 #[.pointer (some ⟨h.q,0,none⟩),.int .i64 (r:Int)] w fun ev w'=>(X.ser c.ref≠0/\ev = .returned (.tuple #[.int .i64 (X.ser c.ref),.nilIface])/\Stp a w0 h m M X w w')\/(X.ser c.ref=0/\ev = .returned (.tuple #[.int .i64 (X.next+1),.nilIface])/\Stp a w0 h m M (X.give c.ref) w w'):=by
 obtain ⟨f,d,o⟩:∃ f d,ObjAt m M r c f d:=by
  rcases s.hm.rootIs hj with ⟨q,_⟩ | q
  ·exact absurd h4 q
  ·exact q
 obtain ⟨x,e1,_,hm⟩:=s.hm.serial hj h4 (by omega)
 have ex:x=((f:Int)+1)*4:=by have:=o.root;rw [e1] at this;exact U1h this
 have kp:=Z95 s o
 rw [<-ex] at kp
 obtain ⟨l1,l2,rt⟩:=s.hm.right
 have hIl:=Zez rt.S
 obtain ⟨hsn,hn0⟩:=s.hm.serials
 obtain ⟨_,_,aI,cI,eI⟩:=s.at'.rows
 obtain ⟨_,_,eI',_,_,fI⟩:=(Z20.of_own s.at'.I).1
 obtain ⟨q,hq⟩:∃ q,q=h.q:=⟨_,rfl⟩
 obtain ⟨p,hp⟩:∃ p,p=h.p:=⟨_,rfl⟩
 obtain ⟨nI,hn⟩:∃ n,n=m.I.length:=⟨_,rfl⟩
 obtain ⟨xs,hxs⟩:∃ xs,xs=Z2e m.I:=⟨_,rfl⟩
 obtain ⟨y,hy⟩:∃ y,y=sr+1:=⟨_,rfl⟩
 rw [<-hn] at eI
 rw [<-hq] at kp ⊢
 have HIT:Hid (∀ (i:Nat) (z:Int × Int),m.I[i]?=some z -> ∃ gI,aI=some ⟨gI,0,none⟩/\gI<w.heap.size/\w.cell? ⟨gI,i*2,none⟩=some (.int .u64 z.1)/\w.cell? ⟨gI,i*2+1,none⟩=some (.int .i64 z.2)):=fun i z hz=>by
  obtain ⟨ao,cap,e2,_,_,f2⟩:=(Z20.of_own s.at'.I).1
  rw [eI] at e2
  cases e2
  obtain ⟨gI,rfl,hbI⟩:=f2 (by have:=(U0e.1 hz).1;omega)
  obtain ⟨z1,z2⟩:=z
  exact ⟨gI,rfl,hbI.lt,hbI.cell (Z52 hz).1,hbI.cell (Z52 hz).2⟩
 have HU:Hid (∀ (i:Nat) (z:Int × Int),m.I[i]?=some z->z.1=x->X.ser c.ref≠0/\z.2=X.ser c.ref):=fun i z hz e=>by
  rcases hm with ⟨_,hno,_⟩ | ⟨h0,hin⟩
  ·exact absurd e (hno z (U0a hz))
  ·obtain ⟨k,hk⟩:=U1z hin
   obtain rfl:=Zpb rt.S hz hk e
   rw [hz] at hk
   cases hk
   exact ⟨h0,rfl⟩
 have HN:Hid ((∀ (i:Nat) (z:Int × Int),m.I[i]?=some z->z.1≠x)->X.ser c.ref=0/\HM { m with I:=m.I ++ [(x,y)] } y M (X.give c.ref)):=fun hno=>by
  rcases hm with ⟨h0,_,hm⟩ | ⟨_,hin⟩
  ·rw [hy];exact ⟨h0,hm⟩
  ·obtain ⟨k,hk⟩:=U1z hin
   exact absurd rfl (hno k _ hk)
 have HC:Hid (∀ W,Below w.heap.size w W->HAt h sr m W/\W.cell? ⟨q,0,none⟩=some (.pointer (some ⟨p,0,none⟩))/\W.cell? ⟨q,2,none⟩=some (.int .i64 sr)/\W.cell? ⟨p,9,none⟩=some (.slice aI nI cI)):=fun W hW=>by
  have H:=s.at'.below hW
  have c9:=H.cm.c9
  rw [eI] at c9
  exact ⟨H,by rw [hq,hp];exact H.c0,by rw [hq];exact H.c2,by rw [hp];exact c9⟩
 have HW:Hid (∀ W w8 g cap,HAt h y m W->Nxt h h w W->W.grownBy w8 (Value.slice aI nI cI).ownBlock->((Value.slice aI nI cI).ownBlock=some g\/W.heap.size<=g)->w8.ownsRow 0 123 2 (.slice (some ⟨g,0,none⟩) (nI+1) cap) (nI+1) (xs ++ [.int .u64 x,.int .i64 y])->(∀ (i:Nat) (z:Int × Int),m.I[i]?=some z->z.1≠x)->Stp a w0 h m M (X.give c.ref) w (w8.setCell ⟨p,9,none⟩ (.slice (some ⟨g,0,none⟩) (nI+1) cap))):=fun W w8 g cap H hW hg hv ho hno=>by
  rw [hxs,hn] at ho
  rw [<-eI] at hg hv
  obtain ⟨H',N'⟩:=H.serially hg (v':=.slice (some ⟨g,0,none⟩) (nI+1) cap) (fun k e=>by cases e;exact hv) (by rw [hn];exact ho)
  rw [hp]
  exact ⟨_,y,{ m with I:=m.I ++ [(x,y)] },hW.trans N',⟨rfl,rfl,rfl⟩,s.next (hW.trans N') H' (HN.out hno).2 s.kl s.rl⟩
 have HS0:=Z00 s
 have HQP:=Z00 hq
 have HPP:=Z00 hp
 have HXS:=Z00 hxs
 have HEI:=Z00 eI
 have HNI:=Z00 hn
 have HY:=Z00 hy
 have HSN:=Z00 hsn
 have hnb:nI<=300000:=by omega
 have hys:IntKind.i64.wrap (sr+1)=y:=by rw [hy];exact Z18 _ (by omega) (by omega)
 clear s o hm hj h4 hq hp hn hxs e1 ex eI rt hIl hy fI eI' hsn
 go_enter func46,ntmps46
 go_wp2_with fail
 refine kp.mono ?_
 clear kp
 rintro ev w2 ⟨rfl,b2⟩
 obtain ⟨_,d0,d2,d9⟩:=HC.out w2 b2
 have HB2:=Z00 b2
 clear b2
 go_wp2_with fail
 go_loopg [30] (nI+1) (fun gk v30 wr => ∃ i:Nat,gk=nI+1 - i/\i<=nI/\v30 = .int .i64 (i:Int)/\Hid (Below w2.heap.size w2 wr)/\Hid (∀ (k:Nat) (z:Int × Int),k<i->m.I[k]?=some z->z.1≠x))
 case atStart=>exact ⟨0,rfl,U0x _,rfl,U01 _ _,fun k z hk=>by omega⟩
 case round =>
  obtain ⟨i,hgk,hi',rfl,hB,hNo⟩:=hrel
  have HG:=Z00 hgk
  have hi0:(0:Int)<=(i:Int):=by omega
  have HBr:Hid (Below w.heap.size w wr):=HB2.out.trans (hB.out.mono HB2.out.size)
  clear hgk d0 d2 d9
  by_cases hlt:i<nI
  ·have hIi:(i:Int)<(nI:Int):=by omega
   obtain ⟨z,hz⟩:∃ z,m.I[i]?=some z:=⟨_,U03 (by rw [<-HNI.out];exact hlt)⟩
   obtain ⟨gI,e9,lg,r1',r2'⟩:=HIT.out i z hz
   have r1:wr.cell? ⟨gI,i*2,none⟩=some (.int .u64 z.1):=(HBr.out.cell (p:=⟨gI,i*2,none⟩) lg).trans r1'
   have r2:wr.cell? ⟨gI,i*2+1,none⟩=some (.int .i64 z.2):=(HBr.out.cell (p:=⟨gI,i*2+1,none⟩) lg).trans r2'
   obtain ⟨wa,hwa⟩:∃ wa,wa=wr.alloc (.cells #[.int .u64 z.1,.int .i64 z.2] 123):=⟨_,rfl⟩
   obtain ⟨b,hbq⟩:∃ b,b=wr.heap.size:=⟨_,rfl⟩
   have na:wa.heap[b]?=some (.cells #[.int .u64 z.1,.int .i64 z.2] 123):=by rw [hwa,hbq];exact U0b _ _
   have a0:wa.cell? ⟨b,0,none⟩=some (.int .u64 z.1):=by rw [U06 _ _ _ _ _ _ na];rfl
   have a1:wa.cell? ⟨b,1,none⟩=some (.int .i64 z.2):=by rw [U06 _ _ _ _ _ _ na];rfl
   have HBa:Hid (Below w2.heap.size w2 wa):=by rw [hwa];exact hB.out.alloc hB.out.size _
   have HWa:=Z00 hwa
   have HBq:=Z00 hbq
   have HZ:=Z00 hz
   subst e9
   clear hwa hbq na lg r1' r2' hz
   obtain ⟨z1,z2⟩:=z
   dsimp only at r1 r2 a0 a1
   go_upto_region 7 with fail
   rw [<-HWa.out,<-HBq.out]
   clear r1 r2
   by_cases he:z1=x
   ·subst he
    obtain ⟨k1,k2⟩:=HU.out i _ HZ.out rfl
    have k2:z2=X.ser c.ref:=k2
    have HE:Hid (Stp a w0 h m M X w wa):=HS0.out.same (HB2.out.trans (HBa.out.mono HB2.out.size))
    have HK:Hid (X.ser c.ref≠0/\z2=X.ser c.ref):=⟨k1,k2⟩
    clear k1 k2
    go_wp2_with fail
    go_ret2
    exact .inl ⟨HK.out.1,by rw [<-HK.out.2];rfl,HE.out⟩
   ·have he2:(z1 == x)=false:=by simp [he]
    have HNo2:Hid (∀ (k:Nat) (z:Int × Int),k<i+1->m.I[k]?=some z->z.1≠x):=fun k z hk hz=>by
     by_cases hki:k<i
     ·exact hNo.out k z hki hz
     ·obtain rfl:k=i:=by omega
      rw [HZ.out] at hz
      cases hz
      exact he
    go_wp2_with fail
    go_roundg (nI+1 - (i+1))
    case measure=>have:=HG.out;omega
    case rel=>exact ⟨i+1,rfl,by omega,by go_num,HBa,HNo2⟩
  ·have hIi:¬ (i:Int)<(nI:Int):=by omega
   obtain rfl:i=nI:=by omega
   have HNO:Hid (∀ (k:Nat) (z:Int × Int),m.I[k]?=some z->z.1≠x):=fun k z hz=>hNo.out k z (by rw [HNI.out];exact (U0e.1 hz).1) hz
   obtain ⟨Hr,d0,d2,d9⟩:=HC.out wr HBr.out
   have HHr:=Z00 Hr
   have fq:wr.frozen? ⟨q,2,none⟩=false:=by rw [HQP.out];simp [World.frozen?,Hr.hq]
   clear Hr hNo
   go_upto_region 11 with fail
   obtain ⟨w5,hw5⟩:∃ w5,w5=wr.setCell ⟨q,2,none⟩ (.int .i64 y):=⟨_,rfl⟩
   rw [<-hw5]
   have H5:HAt h y m w5:=by rw [hw5,HQP.out];exact HHr.out.setSerial y
   have N5:Nxt h h w w5:=by rw [hw5];exact (Nxt.of_below h HBr.out).set (.inl (.inl HQP.out))
   have HH5:=Z00 H5
   have HN5:=Z00 N5
   have d0:w5.cell? ⟨q,0,none⟩=some (.pointer (some ⟨p,0,none⟩)):=by rw [HQP.out,HPP.out];exact H5.c0
   have d2:w5.cell? ⟨q,2,none⟩=some (.int .i64 y):=by rw [HQP.out];exact H5.c2
   have d9:w5.cell? ⟨p,9,none⟩=some (.slice aI i cI):=by rw [HPP.out,<-HEI.out];exact H5.cm.c9
   have HOI:Hid (w5.ownsRow 0 123 2 (.slice aI i cI) i xs):=by have h5:=H5.I;rw [HEI.out,<-HNI.out,<-HXS.out] at h5;exact h5
   have d0d:w5.drew.cell? ⟨q,0,none⟩=some (.pointer (some ⟨p,0,none⟩))/\w5.drew.cell? ⟨q,2,none⟩=some (.int .i64 y):=⟨d0,d2⟩
   have lq:q<w5.heap.size:=Z02 d0
   have lp:p<w5.heap.size:=Z02 d9
   have keepA:∀ {ob:Obj},((w5.alloc ob).drew).cell? ⟨q,0,none⟩=some (.pointer (some ⟨p,0,none⟩))/\((w5.alloc ob).drew).cell? ⟨q,2,none⟩=some (.int .i64 y):=fun {ob} => ⟨((((U01 w5.heap.size w5).alloc (U02 _) ob).drew).cell (p:=⟨q,0,none⟩) lq).trans d0,((((U01 w5.heap.size w5).alloc (U02 _) ob).drew).cell (p:=⟨q,2,none⟩) lq).trans d2⟩
   have d9a:((w5.alloc (.cells #[.int .u64 x,.int .i64 y] 123)).drew).cell? ⟨p,9,none⟩=some (.slice aI i cI):=((((U01 w5.heap.size w5).alloc (U02 _) _).drew).cell (p:=⟨p,9,none⟩) lp).trans d9
   have HFin:Hid (∀ {ob:Obj}{g cap:Nat}{wA:World},Below w5.heap.size w5 ((w5.alloc ob).drew)->wA.ownsRow 0 123 2 (.slice (some ⟨g,0,none⟩) (i+1) cap) (i+1) (xs ++ [.int .u64 x,.int .i64 y])->((w5.alloc ob).drew).grownBy wA (Value.slice aI i cI).ownBlock->((Value.slice aI i cI).ownBlock=some g\/g=((w5.alloc ob).drew).heap.size) ->
     wA.cell? ⟨p,9,none⟩=some (.slice aI i cI)/\wA.frozen? ⟨p,9,none⟩=false/\(wA.cell? ⟨q,0,none⟩=some (.pointer (some ⟨p,0,none⟩))/\wA.cell? ⟨q,2,none⟩=some (.int .i64 y))/\Stp a w0 h m M (X.give c.ref) w (wA.setCell ⟨p,9,none⟩ (.slice (some ⟨g,0,none⟩) (i+1) cap))/\((wA.setCell ⟨p,9,none⟩ (.slice (some ⟨g,0,none⟩) (i+1) cap)).cell? ⟨q,0,none⟩=some (.pointer (some ⟨p,0,none⟩))/\(wA.setCell ⟨p,9,none⟩ (.slice (some ⟨g,0,none⟩) (i+1) cap)).cell? ⟨q,2,none⟩=some (.int .i64 y))):=fun {ob g cap wA} hb ho hg hv=>by
    have H6:=HH5.out.below hb
    have n1:(Value.slice aI i cI).ownBlock≠some p:=fun e=>by rw [<-HEI.out] at e;exact (Z25 H6.I e).ne H6.tp (by decide) HPP.out
    have n2:(Value.slice aI i cI).ownBlock≠some q:=fun e=>by rw [<-HEI.out] at e;exact (Z25 H6.I e).ne H6.tq (by decide) HQP.out
    have hmb:=H6.mb
    unfold MB at hmb
    rw [HEI.out,<-HPP.out] at hmb
    have hbA:=(hg.block p (Z01 hmb) (fun e=>n1 e.symm)).trans hmb
    have hq6:=H6.hq
    rw [<-HQP.out,<-HPP.out] at hq6
    have hqA:=(hg.block q (Z01 hq6) (fun e=>n2 e.symm)).trans hq6
    have nqp:q≠p:=by rw [HQP.out,HPP.out];exact H6.tq.ne H6.tp (by decide)
    have cq0:wA.cell? ⟨q,0,none⟩=some (.pointer (some ⟨p,0,none⟩)):=by rw [U06 _ _ _ _ _ _ hqA];rfl
    have cq2:wA.cell? ⟨q,2,none⟩=some (.int .i64 y):=by rw [U06 _ _ _ _ _ _ hqA];rfl
    exact ⟨by rw [U06 _ _ _ _ _ _ hbA];rfl,by simp [World.frozen?,hbA],⟨cq0,cq2⟩,HW.out _ wA g cap H6 (HN5.out.below hb) hg (hv.imp_right (fun e=>U31 e.symm)) ho HNO.out,(U25 (a:=⟨q,0,none⟩) (Z0a _ _ _ _ _ nqp)).trans cq0,(U25 (a:=⟨q,2,none⟩) (Z0a _ _ _ _ _ nqp)).trans cq2⟩
   clear H5 N5 hw5 fq
   go_cut [] from 50 to 74 (fun wx=>Hid (Stp a w0 h m M (X.give c.ref) w wx)/\wx.cell? ⟨q,2,none⟩=some (.int .i64 y))
   case first =>
    obtain ⟨i0,hi0,hz0,hz1,hz2⟩:=Zgh
    refine U3n (S:=(fun W=>W.cell? ⟨q,0,none⟩=some (.pointer (some ⟨p,0,none⟩))/\W.cell? ⟨q,2,none⟩=some (.int .i64 y))) (by kernel_rfl) d0d (fun hHeld => ?_)
    refine U0h (i:=0) (oi:={ dst:=some 50,op:=_,type:=_,pos:=_,after:=_,guard:=_ }) (v:=?v0) rfl (by kernel_rfl) (by kernel_rfl) (by kernel_rfl) (fun _ _ _ h=>h) (Or.inl ⟨by rfl,?y0⟩) hHeld ?r0
    case y0=>(intro wz hSw;(try dsimp only at hSw);go_simp;try with_reducible rfl)
    case r0 =>
    try simp only [Act.put,U00,U04,U05]
    refine U0h (i:=1) (oi:={ dst:=some 51,op:=_,type:=_,pos:=_,after:=_,guard:=_ }) (v:=?v1) rfl (by kernel_rfl) (by kernel_rfl) (by kernel_rfl) (fun _ _ _ h=>h) (Or.inl ⟨by rfl,?y1⟩) hHeld ?r1
    case y1=>(intro wz hSw;(try dsimp only at hSw);go_simp;try with_reducible rfl)
    case r1 =>
    try simp only [Act.put,U00,U04,U05]
    refine U0h (i:=2) (oi:={ dst:=some 52,op:=_,type:=_,pos:=_,after:=_,guard:=_ }) (v:=?v2) rfl (by kernel_rfl) (by kernel_rfl) (by kernel_rfl) (fun _ _ _ h=>h) (Or.inl ⟨by rfl,?y2⟩) hHeld ?r2
    case y2=>(intro wz hSw;(try dsimp only at hSw);go_simp;try with_reducible rfl)
    case r2 =>
    try simp only [Act.put,U00,U04,U05]
    refine U0h (i:=3) (oi:={ dst:=some 53,op:=_,type:=_,pos:=_,after:=_,guard:=_ }) (v:=?v3) rfl (by kernel_rfl) (by kernel_rfl) (by kernel_rfl) (fun _ _ _ h=>h) (Or.inl ⟨by rfl,?y3⟩) hHeld ?r3
    case y3=>(intro wz hSw;(try dsimp only at hSw);go_simp;try with_reducible rfl)
    case r3 =>
    try simp only [Act.put,U00,U04,U05]
    refine U0h (i:=4) (oi:={ dst:=some 54,op:=_,type:=_,pos:=_,after:=_,guard:=_ }) (v:=?v4) rfl (by kernel_rfl) (by kernel_rfl) (by kernel_rfl) (fun _ _ _ h=>h) (Or.inl ⟨by rfl,?y4⟩) hHeld ?r4
    case y4=>(intro wz hSw;(try dsimp only at hSw);go_simp;try with_reducible rfl)
    case r4 =>
    try simp only [Act.put,U00,U04,U05]
    refine U0h (i:=5) (oi:={ dst:=some 55,op:=_,type:=_,pos:=_,after:=_,guard:=_ }) (v:=?v5) rfl (by kernel_rfl) (by kernel_rfl) (by kernel_rfl) (fun _ _ _ h=>h) (Or.inl ⟨by rfl,?y5⟩) hHeld ?r5
    case y5=>(intro wz hSw;(try dsimp only at hSw);go_simp;try with_reducible rfl)
    case r5 =>
    try simp only [Act.put,U00,U04,U05]
    refine U0h (i:=6) (oi:={ dst:=some 56,op:=_,type:=_,pos:=_,after:=_,guard:=_ }) (v:=?v6) rfl (by kernel_rfl) (by kernel_rfl) (by kernel_rfl) (fun _ _ _ h=>h) (Or.inl ⟨by rfl,?y6⟩) hHeld ?r6
    case y6=>(intro wz hSw;(try dsimp only at hSw);go_simp;try with_reducible rfl)
    case r6 =>
    try simp only [Act.put,U00,U04,U05]
    refine U0h (i:=7) (oi:={ dst:=some 57,op:=_,type:=_,pos:=_,after:=_,guard:=_ }) (v:=?v7) rfl (by kernel_rfl) (by kernel_rfl) (by kernel_rfl) (fun _ _ _ h=>h) (Or.inl ⟨by rfl,?y7⟩) hHeld ?r7
    case y7=>(intro wz hSw;(try dsimp only at hSw);go_simp;try with_reducible rfl)
    case r7 =>
    try simp only [Act.put,U00,U04,U05]
    refine U0h (i:=8) (oi:={ dst:=some 58,op:=_,type:=_,pos:=_,after:=_,guard:=_ }) (v:=?v8) rfl (by kernel_rfl) (by kernel_rfl) (by kernel_rfl) (fun _ _ _ h=>h) (Or.inl ⟨by rfl,?y8⟩) hHeld ?r8
    case y8=>(intro wz hSw;(try dsimp only at hSw);go_simp;try with_reducible rfl)
    case r8 =>
    try simp only [Act.put,U00,U04,U05]
    refine U0h (i:=9) (oi:={ dst:=some 59,op:=_,type:=_,pos:=_,after:=_,guard:=_ }) (v:=?v9) rfl (by kernel_rfl) (by kernel_rfl) (by kernel_rfl) (fun _ _ _ h=>h) (Or.inl ⟨by rfl,?y9⟩) hHeld ?r9
    case y9=>(intro wz hSw;(try dsimp only at hSw);go_simp;try with_reducible rfl)
    case r9 =>
    try simp only [Act.put,U00,U04,U05]
    refine U0h (i:=10) (oi:={ dst:=some 60,op:=_,type:=_,pos:=_,after:=_,guard:=_ }) (v:=?v10) rfl (by kernel_rfl) (by kernel_rfl) (by kernel_rfl) (fun _ _ _ h=>h) (Or.inl ⟨by rfl,?y10⟩) hHeld ?r10
    case y10=>(intro wz hSw;(try dsimp only at hSw);go_simp;try with_reducible rfl)
    case r10 =>
    try simp only [Act.put,U00,U04,U05]
    refine U0h (i:=11) (oi:={ dst:=some 61,op:=_,type:=_,pos:=_,after:=_,guard:=_ }) (v:=?v11) rfl (by kernel_rfl) (by kernel_rfl) (by kernel_rfl) (fun _ _ _ h=>h) (Or.inl ⟨by rfl,?y11⟩) hHeld ?r11
    case y11=>(intro wz hSw;(try dsimp only at hSw);go_simp;try with_reducible rfl)
    case r11 =>
    try simp only [Act.put,U00,U04,U05]
    refine U0h (i:=13) (oi:={ dst:=some 63,op:=_,type:=_,pos:=_,after:=_,guard:=_ }) (v:=?v12) rfl (by kernel_rfl) (by kernel_rfl) (by kernel_rfl) (fun _ _ _ h=>h) (Or.inl ⟨by rfl,?y12⟩) hHeld ?r12
    case y12=>(intro wz hSw;(try dsimp only at hSw);go_simp;try with_reducible rfl)
    case r12 =>
    try simp only [Act.put,U00,U04,U05]
    refine U0h (i:=14) (oi:={ dst:=some 64,op:=_,type:=_,pos:=_,after:=_,guard:=_ }) (v:=?v13) rfl (by kernel_rfl) (by kernel_rfl) (by kernel_rfl) (fun _ _ _ h=>h) (Or.inl ⟨by rfl,?y13⟩) hHeld ?r13
    case y13=>(intro wz hSw;(try dsimp only at hSw);go_simp;try with_reducible rfl)
    case r13 =>
    try simp only [Act.put,U00,U04,U05]
    refine U0h (i:=15) (oi:={ dst:=some 65,op:=_,type:=_,pos:=_,after:=_,guard:=_ }) (v:=?v14) rfl (by kernel_rfl) (by kernel_rfl) (by kernel_rfl) (fun _ _ _ h=>h) (Or.inl ⟨by rfl,?y14⟩) hHeld ?r14
    case y14=>(intro wz hSw;(try dsimp only at hSw);go_simp;try with_reducible rfl)
    case r14 =>
    try simp only [Act.put,U00,U04,U05]
    refine U0h (i:=16) (oi:={ dst:=some 66,op:=_,type:=_,pos:=_,after:=_,guard:=_ }) (v:=?v15) rfl (by kernel_rfl) (by kernel_rfl) (by kernel_rfl) (fun _ _ _ h=>h) (Or.inl ⟨by rfl,?y15⟩) hHeld ?r15
    case y15=>(intro wz hSw;(try dsimp only at hSw);go_simp;try with_reducible rfl)
    case r15 =>
    try simp only [Act.put,U00,U04,U05]
    refine U0h (i:=17) (oi:={ dst:=some 67,op:=_,type:=_,pos:=_,after:=_,guard:=_ }) (v:=?v16) rfl (by kernel_rfl) (by kernel_rfl) (by kernel_rfl) (fun _ _ _ h=>h) (Or.inl ⟨by rfl,?y16⟩) hHeld ?r16
    case y16=>(intro wz hSw;(try dsimp only at hSw);go_simp;try with_reducible rfl)
    case r16 =>
    try simp only [Act.put,U00,U04,U05]
    refine U0h (i:=18) (oi:={ dst:=some 68,op:=_,type:=_,pos:=_,after:=_,guard:=_ }) (v:=?v17) rfl (by kernel_rfl) (by kernel_rfl) (by kernel_rfl) (fun _ _ _ h=>h) (Or.inl ⟨by rfl,?y17⟩) hHeld ?r17
    case y17=>(intro wz hSw;(try dsimp only at hSw);go_simp;try with_reducible rfl)
    case r17 =>
    try simp only [Act.put,U00,U04,U05]
    refine U0h (i:=19) (oi:={ dst:=some 69,op:=_,type:=_,pos:=_,after:=_,guard:=_ }) (v:=?v18) rfl (by kernel_rfl) (by kernel_rfl) (by kernel_rfl) (fun _ _ _ h=>h) (Or.inl ⟨by rfl,?y18⟩) hHeld ?r18
    case y18=>(intro wz hSw;(try dsimp only at hSw);go_simp;try with_reducible rfl)
    case r18 =>
    try simp only [Act.put,U00,U04,U05]
    refine U11 (rs:=[12,20]) (by kernel_rfl) (by simp) ?_
    refine U0s (o:={ dst:=some 62,op:=_,type:=_,pos:=_,after:=_,guard:=_ }) rfl (fun K hK => ?_) (U0s (o:={ dst:=some 70,op:=_,type:=_,pos:=_,after:=_,guard:=_ }) rfl (fun K hK => ?_) U0z)
    ·skip
     go_simp
     refine hK.out _ _ (hHeld) (fun hHeld => ?_)
     clear hK K
     try simp only [Act.put,U00,U04,U05]
     refine U11 (rs:=[20]) (by kernel_rfl) (by simp) ?_
     refine U0s (o:={ dst:=some 70,op:=_,type:=_,pos:=_,after:=_,guard:=_ }) rfl (fun K hK => ?_) U0z
     go_simp
     refine hK.out _ _ (keepA) (fun hHeld => ?_)
     clear hK K
     try simp only [Act.put,U00,U04,U05]
     refine U11 (rs:=[21]) (by kernel_rfl) (by simp) ?_
     refine U0s (o:={ dst:=some 71,op:=_,type:=_,pos:=_,after:=_,guard:=_ }) rfl (fun K hK => ?_) U0z
     refine U3m _ (by rfl) _ _ _ (by rfl) 0 123 i0 (.agg #[.int .u64 0,.int .i64 0]) 2 16 underlying82 hi0 hz0 hz1 hz2 rfl (by decide) (.slice aI i cI) i xs rfl (Z04 HOI.out (fun g hg=>Z0u _ _ _ (Z08 HOI.out g hg).2)) ⟨w5.heap.size,0,none⟩ 1 1 [.int .u64 x,.int .i64 y] rfl rfl (U2j (cs:=#[.int .u64 x,.int .i64 y]) (t:=123) (U0b _ _)) (fun u hu=>by simp at hu;rcases hu with rfl | rfl <;> rfl) (by decide) (by unfold maxLen;omega) (by omega) (by simp) _ rfl ?_
     intro g' cap' wA hownA hgrowA hatA hltA
     obtain ⟨cA,fA,c0A,sA,tA⟩:=HFin.out (((U01 _ _).alloc (U02 _) _).drew) hownA hgrowA hatA
     have HSA:=Z00 sA
     have HTA:=Z00 tA
     clear hownA hgrowA hatA hltA sA tA
     refine hK.out _ _ (c0A) (fun hHeld => ?_)
     clear hK K
     try simp only [Act.put,U00,U04,U05]
     refine U0h (i:=22) (oi:={ dst:=some 72,op:=_,type:=_,pos:=_,after:=_,guard:=_ }) (v:=?v19) rfl (by kernel_rfl) (by kernel_rfl) (by kernel_rfl) (fun _ _ _ h=>h) (Or.inl ⟨by rfl,?y19⟩) hHeld ?r19
     case y19=>(intro wz hSw;(try dsimp only at hSw);go_simp;try with_reducible rfl)
     case r19 =>
     try simp only [Act.put,U00,U04,U05]
     refine U0h (i:=23) (oi:={ dst:=some 73,op:=_,type:=_,pos:=_,after:=_,guard:=_ }) (v:=?v20) rfl (by kernel_rfl) (by kernel_rfl) (by kernel_rfl) (fun _ _ _ h=>h) (Or.inl ⟨by rfl,?y20⟩) hHeld ?r20
     case y20=>(intro wz hSw;(try dsimp only at hSw);go_simp;try with_reducible rfl)
     case r20 =>
     try simp only [Act.put,U00,U04,U05]
     refine U11 (rs:=[24]) (by kernel_rfl) (by simp) ?_
     refine U0s (o:={ dst:=none,op:=_,type:=_,pos:=_,after:=_,guard:=_ }) rfl (fun K hK => ?_) U0z
     go_simp
     refine hK.out _ _ (HTA.out) (fun hHeld => ?_)
     clear hK K
     try simp only [Act.put,U00,U04,U05]
     refine U34 (by kernel_rfl) ?_ _
     go_wp2_with fail
     go_meet
     exact ⟨HSA.out,HTA.out.2⟩
    ·skip
     go_simp
     refine hK.out _ _ (keepA) (fun hHeld => ?_)
     clear hK K
     try simp only [Act.put,U00,U04,U05]
     refine U11 (rs:=[12]) (by kernel_rfl) (by simp) ?_
     refine U0s (o:={ dst:=some 62,op:=_,type:=_,pos:=_,after:=_,guard:=_ }) rfl (fun K hK => ?_) U0z
     go_simp
     refine hK.out _ _ (hHeld) (fun hHeld => ?_)
     clear hK K
     try simp only [Act.put,U00,U04,U05]
     refine U11 (rs:=[21]) (by kernel_rfl) (by simp) ?_
     refine U0s (o:={ dst:=some 71,op:=_,type:=_,pos:=_,after:=_,guard:=_ }) rfl (fun K hK => ?_) U0z
     refine U3m _ (by rfl) _ _ _ (by rfl) 0 123 i0 (.agg #[.int .u64 0,.int .i64 0]) 2 16 underlying82 hi0 hz0 hz1 hz2 rfl (by decide) (.slice aI i cI) i xs rfl (Z04 HOI.out (fun g hg=>Z0u _ _ _ (Z08 HOI.out g hg).2)) ⟨w5.heap.size,0,none⟩ 1 1 [.int .u64 x,.int .i64 y] rfl rfl (U2j (cs:=#[.int .u64 x,.int .i64 y]) (t:=123) (U0b _ _)) (fun u hu=>by simp at hu;rcases hu with rfl | rfl <;> rfl) (by decide) (by unfold maxLen;omega) (by omega) (by simp) _ rfl ?_
     intro g' cap' wA hownA hgrowA hatA hltA
     obtain ⟨cA,fA,c0A,sA,tA⟩:=HFin.out (((U01 _ _).alloc (U02 _) _).drew) hownA hgrowA hatA
     have HSA:=Z00 sA
     have HTA:=Z00 tA
     clear hownA hgrowA hatA hltA sA tA
     refine hK.out _ _ (c0A) (fun hHeld => ?_)
     clear hK K
     try simp only [Act.put,U00,U04,U05]
     refine U0h (i:=22) (oi:={ dst:=some 72,op:=_,type:=_,pos:=_,after:=_,guard:=_ }) (v:=?v21) rfl (by kernel_rfl) (by kernel_rfl) (by kernel_rfl) (fun _ _ _ h=>h) (Or.inl ⟨by rfl,?y21⟩) hHeld ?r21
     case y21=>(intro wz hSw;(try dsimp only at hSw);go_simp;try with_reducible rfl)
     case r21 =>
     try simp only [Act.put,U00,U04,U05]
     refine U0h (i:=23) (oi:={ dst:=some 73,op:=_,type:=_,pos:=_,after:=_,guard:=_ }) (v:=?v22) rfl (by kernel_rfl) (by kernel_rfl) (by kernel_rfl) (fun _ _ _ h=>h) (Or.inl ⟨by rfl,?y22⟩) hHeld ?r22
     case y22=>(intro wz hSw;(try dsimp only at hSw);go_simp;try with_reducible rfl)
     case r22 =>
     try simp only [Act.put,U00,U04,U05]
     refine U11 (rs:=[24]) (by kernel_rfl) (by simp) ?_
     refine U0s (o:={ dst:=none,op:=_,type:=_,pos:=_,after:=_,guard:=_ }) rfl (fun K hK => ?_) U0z
     go_simp
     refine hK.out _ _ (HTA.out) (fun hHeld => ?_)
     clear hK K
     try simp only [Act.put,U00,U04,U05]
     refine U34 (by kernel_rfl) ?_ _
     go_wp2_with fail
     go_meet
     exact ⟨HSA.out,HTA.out.2⟩
   case rest =>
    obtain ⟨hS,c2'⟩:=hcut
    clear d0 d2 d9 d9a d0d keepA
    go_wp2_with fail
    go_ret2
    exact .inr ⟨(HN.out HNO.out).1,by rw [HY.out,HSN.out] ;rfl,hS.out⟩
end
section
open Go.Maps
variable {h:HP}{sr:Int}{m:MD}{w w':World}{a:Nat->Addr}{w0:World}{M:MO}{X:MXtra}
theorem Zm9 (a:Nat->Addr) (n:Int) (hn:n < -2305843009213693952\/2305843009213693952<=n) (w:World) (E:WErr a w) :
  Calls prog 83 #[.int .i64 n] w fun ev w'=>ev = .returned (.tuple #[.int .u64 0,Z0p a 1])/\Below w.heap.size w w':=by
 have k1:=E.c1
 rcases hn with c | c
 ·go_enter func83,ntmps83
  go_wp2
  go_quiet (fail)
  go_wp2
  go_ret2
  exact ⟨rfl,Z03 (U01 _ _)⟩
 ·have c1:¬ n < -2305843009213693952:=by omega
  go_enter func83,ntmps83
  go_wp2
  go_quiet (fail)
  go_wp2
  go_ret2
  exact ⟨rfl,Z03 (U01 _ _)⟩
def clI (n:Int):CL:=⟨3,n,0⟩
theorem Zov (n:Int) (c1 : -2305843009213693952<=n) (c2:n<2305843009213693952) (w:World) (bn bh:Nat) (hc:w.cell? ⟨bn,0,none⟩=some (.int .i64 n)) :
  Calls prog 82 #[.pointer (some ⟨bn,0,none⟩),.pointer (some ⟨bh,0,none⟩)] w fun ev w'=>ev = .returned (.tuple #[.int .u64 ((n*4+1) % 18446744073709551616),.nilIface])/\Below w.heap.size w w':=by
 have k:=Zhl n c1 c2 w
 go_enter func82,ntmps82
 go_wp2_with fail
 refine k.mono ?_
 clear k
 rintro ev w1 ⟨rfl,b1⟩
 go_wp2_with fail
 go_ret2
 exact ⟨rfl,b1⟩
theorem Zkg (s:HS a w0 h sr m M X w) (n:Int) (hn:n < -2305843009213693952\/2305843009213693952<=n) (bn bh:Nat) (hc:w.cell? ⟨bn,0,none⟩=some (.int .i64 n)) (ch:w.cell? ⟨bh,0,none⟩=some (.pointer (some ⟨h.q,0,none⟩))) (on:¬ h.own bn) (oh:¬ h.own bh) :
  Calls prog 82 #[.pointer (some ⟨bn,0,none⟩),.pointer (some ⟨bh,0,none⟩)] w (Z1t a w0 h m M X 1 [n % 18446744073709551616] w):=by
 have E:=s.aenv (Aside.refl _ _)
 have k:=Zm9 a n hn w E.we
 have hbn:=Z02 hc
 have hbh:=Z02 ch
 obtain ⟨y,hy⟩:∃ y,y=n % 18446744073709551616:=⟨_,rfl⟩
 have hy0:0<=y/\y<18446744073709551616:=by omega
 have HL:Hid (∀ g w1,Below w.heap.size w w1->w1.heap[g]?=some (.cells #[.int .u64 y] 81)->w.heap.size<=g->Calls prog 71 #[.pointer (some ⟨h.q,0,none⟩),.int .i64 1,.slice (some ⟨g,0,none⟩) 1 1] w1 fun ev w'=>Z1t a w0 h m M X 1 [y] w ev w'/\w'.cell? ⟨bn,0,none⟩=some (.int .i64 n)/\w'.cell? ⟨bh,0,none⟩=some (.pointer (some ⟨h.q,0,none⟩))):=by
  intro g w1 b1 hg hgs
  refine (Zbr (s.below b1) 1 [y] g 1 ⟨[],by rw [hg];rfl⟩ (s.at'.fresh hgs) (by omega) (by omega) (by show 1<=4096;omega) (fun x hx=>by rw [U2p.1 hx];exact hy0) (fun h=>absurd (by decide) h)).mono fun ev w' t=>⟨t.back b1,?_,?_⟩
  ·exact t.cell ((b1.cell (p:=⟨bn,0,none⟩) hbn).trans hc) on
  ·exact t.cell ((b1.cell (p:=⟨bh,0,none⟩) hbh).trans ch) oh
 obtain ⟨q,hq⟩:∃ q,q=h.q:=⟨_,rfl⟩
 rw [<-hq] at ch HL
 rw [<-hy]
 have HA:Hid (∀ W,Below w.heap.size w W->W.cell? ⟨bn,0,none⟩=some (.int .i64 n)/\W.cell? ⟨bh,0,none⟩=some (.pointer (some ⟨q,0,none⟩))):=fun W b=>⟨(b.cell (p:=⟨bn,0,none⟩) hbn).trans hc,(b.cell (p:=⟨bh,0,none⟩) hbh).trans ch⟩
 have hw:IntKind.u64.wrap n=y:=by rw [hy];exact Z0w n
 have HY:=Z00 hy
 clear s hq E hn hy on oh
 go_enter func82,ntmps82
 go_wp2_with fail
 refine k.mono ?_
 clear k
 rintro ev w1 ⟨rfl,b1⟩
 have bA:Below w.heap.size w (w1.alloc (.cells #[.int .u64 y] 81)).drew:=b1.trans ((((U01 w1.heap.size w1).alloc (U02 _) _).drew).mono b1.size)
 have HLA:=Z00 (HL.out w1.heap.size (w1.alloc (.cells #[.int .u64 y] 81)).drew bA (U0b _ _) b1.size)
 have HAA:=Z00 (HA.out _ bA)
 have HA0:=Z00 (HA.out _ b1.drew)
 have HA1:=Z00 (HA.out _ b1)
 clear HL HA bA b1 hc ch hbn hbh
 obtain ⟨g1,g2⟩:=HA1.out
 unfold Z0p
 go_upto_region 4 with fail
 go_region_held3 (fun W=>W.cell? ⟨bn,0,none⟩=some (.int .i64 n)/\W.cell? ⟨bh,0,none⟩=some (.pointer (some ⟨q,0,none⟩))) (first | with_reducible exact hS | with_reducible exact HA1.out | with_reducible exact HA0.out | with_reducible exact HAA.out) (first | (go_at_call 71;refine HLA.out.mono ?_;rintro ev w3 ⟨hP,hS⟩;have HP3:=Z00 hP;obtain ⟨y3,e3,rfl⟩:=hP.forms;clear hP))
 all_goals go_wp2_with fail
 all_goals go_ret2
 all_goals exact HP3.out
theorem Zsp (n:Int):wdC (fun i=>i) (clI n)=(n*4+1) % 18446744073709551616:=by
 show (if (3:Nat)=4 then _ else if (3:Nat)=3 then (n*4+1) % 18446744073709551616 else _)=_
 rw [U08 (by decide),U09 rfl]
theorem Zkx (w:World) (x y:Obj):∃ w1,w1=(w.alloc x).alloc y/\Below w.heap.size w w1/\w1.heap[w.heap.size]?=some x/\w1.heap[w.heap.size+1]?=some y:=by
 obtain ⟨n1,n2⟩:=Z3i w x y
 exact ⟨_,rfl,((U01 _ _).alloc (U02 _) _).alloc (by simp) _,n1,n2⟩
theorem Zrd (s:HS a w0 h sr m M X w) (r:Nat) (n:Int) (hr:r<m.R.length) (c1 : -2305843009213693952<=n) (c2:n<2305843009213693952) :
  Calls prog 38 #[.pointer (some ⟨h.q,0,none⟩),.int .i64 (r:Int),.int .i64 n] w fun ev w'=>ev = .returned .nilIface/\Stp a w0 h m (M.set r (clI n)) X w w':=by
 obtain ⟨w1,hw1,b1,n1,n2⟩:=Zkx w (.cells #[.pointer (some ⟨h.q,0,none⟩)] 25) (.cells #[.int .i64 n] 2)
 have s1:=s.below b1
 have cn:w1.cell? ⟨w.heap.size+1,0,none⟩=some (.int .i64 n):=by rw [U06 _ _ _ _ _ _ n2];rfl
 have kb:=(Z1a s1 82 _ Zed hr (fun y h' sr' n' w'=>y=(n*4+1) % 18446744073709551616/\h'=h/\sr'=sr/\n'=m/\Below w1.heap.size w1 w') (fun _ _=>False) ((Zov n c1 c2 w1 (w.heap.size+1) w.heap.size cn).mono fun ev w' t=>.inl ⟨_,h,sr,m,t.1,s1.at'.below t.2,rfl,hr,rfl,rfl,rfl,rfl,t.2⟩)).mono (R':=fun ev w'=>ev = .returned .nilIface/\Stp a w0 h m (M.set r (clI n)) X w w') (by
  rintro ev w' (⟨y,h',sr',n',w2,rfl,⟨rfl,rfl,rfl,rfl,hb⟩,H,N'⟩ | ⟨k,rfl,hf⟩)
  ·have hm:=s.hm.plain r (c:=clI n) (by show ¬ 3=4;omega) ⟨by show 3<=4;omega,fun _=>c1,fun _=>c2⟩
   rw [Zsp] at hm
   exact ⟨rfl,Zc5 s (Nxt.of_below _ (b1.trans (hb.mono b1.size))) N' (Dim.refl _) H hm⟩
  ·exact hf.elim)
 rw [hw1] at kb
 clear hw1 b1 n1 n2 s1 cn s
 go_enter func38,ntmps38
 go_wp2_with fail
 refine kb.mono ?_
 clear kb
 rintro ev w2 ⟨rfl,hP⟩
 have HP':=Z00 hP
 clear hP
 go_wp2_with fail
 go_ret
 exact ⟨rfl,HP'.out⟩
def Zju (n:Int):ND:=⟨1,[n % 18446744073709551616],[]⟩
theorem Zpi (s:HS a w0 h sr m M X w) (r:Nat) (n:Int) (hr:r<m.R.length) (hn:n < -2305843009213693952\/2305843009213693952<=n) :
  Calls prog 38 #[.pointer (some ⟨h.q,0,none⟩),.int .i64 (r:Int),.int .i64 n] w (Zjg a w0 h m M X (M.made r (Zju n)) X 2 w):=by
 obtain ⟨w1,hw1,b1,n1,n2⟩:=Zkx w (.cells #[.pointer (some ⟨h.q,0,none⟩)] 25) (.cells #[.int .i64 n] 2)
 have s1:=s.below b1
 have ch:w1.cell? ⟨w.heap.size,0,none⟩=some (.pointer (some ⟨h.q,0,none⟩)):=by rw [U06 _ _ _ _ _ _ n1];rfl
 have cn:w1.cell? ⟨w.heap.size+1,0,none⟩=some (.int .i64 n):=by rw [U06 _ _ _ _ _ _ n2];rfl
 have km:=Zkg s1 n hn (w.heap.size+1) w.heap.size cn ch (s.at'.fresh (by omega)) (s.at'.fresh (by omega))
 have kb:=(Z1a s1 82 _ Zed hr (Ztv h m M X 1 [n % 18446744073709551616] w1) (Zt0 a w0 h m M X [n % 18446744073709551616] w1) (km.mono fun ev w' t=>Zbj s1 hr t)).mono (fun ev w' t=>Zjg.back b1 (Z9b s1 (d:=Zju n) rfl (by
  show (if (1:Int)<8 then [n % 18446744073709551616] else _)=_
  rw [U09 (by decide)]) (fun h=>absurd (show (1:Int)<8 by decide) h) t))
 have kb:Calls prog 69 _ w1 (Zjg a w0 h m M X (M.made r (Zju n)) X 2 w):=kb
 rw [hw1] at kb
 have HW1:=Z00 hw1
 clear hw1 b1 n1 n2 s1 ch cn km s
 go_enter func38,ntmps38
 go_wp2_with fail
 refine kb.mono ?_
 clear kb
 rintro ev w2 (⟨rfl,hP⟩ | ⟨rfl,hP⟩)
 ·have HP':=Z00 hP
  clear hP
  go_wp2_with fail
  go_ret
  exact .inl ⟨rfl,HP'.out⟩
 ·have HP':=Z00 hP
  clear hP
  go_wp2_with fail
  go_ret
  exact .inr ⟨rfl,HP'.out⟩
end
theorem Zfc (q p:Nat) (tn sr:Int) (m:MD) (f:Nat) (x y v:Int) (hf:m.W[f]?=some x) (hg:m.W[f+1]?=some y) (hv:IntKind.i64.wrap y=v) (v0 : -9223372036854775808<=v) (v1:v<=9223372036854775807) (hl:m.W.length<=1000000) (h0:0<=x) (h1:x<18446744073709551616) (hx:x % 4=3) (hy:x / 32768 % 2=0) (hz:x / 65536<=4096) (k1:x / 4 % 256=1) (hd:(Z1b v).size<=100) (w:World) (H:HeapAt q p tn sr w) (R:Z86 p m w) (ht:Z2b w) :
  Calls prog 55 #[.pointer (some ⟨q,0,none⟩),.int .i64 (f:Int)] w fun ev w'=>ev = .returned (.tuple #[.string (Z1b 1++⟨#[32]⟩++Z1b v),.bool true])/\Below w.heap.size w w':=by
 have kt:Hid (∀ w,Calls prog 105 #[.int .u64 x] w fun ev w'=>ev = .returned (.tuple #[.agg #[.int .i64 (x / 4 % 256),.int .i64 (x / 1024 % 16),.int .i64 (x / 16384 % 2),.int .i64 (x / 65536)],.nilIface])/\Below w.heap.size w w'):=fun w=>Z2c x h0 h1 hx hy hz w
 obtain ⟨vW,vR,vK,vI,vC,hp,M,⟨ao,cap,rfl,hcap,hW⟩,_⟩:=R
 have hlt:f+1<m.W.length:=(U0e.mp hg).1
 obtain ⟨b,rfl,hb,hc⟩:=hW (by omega)
 have d0:=H.c0
 have d3:=M.c3
 have df:w.cell? ⟨b,f,none⟩=some (.int .u64 x):=hc f _ (by unfold Z05;rw [U0g,hf];rfl)
 have dg:w.cell? ⟨b,f+1,none⟩=some (.int .u64 y):=hc (f+1) _ (by unfold Z05;rw [U0g,hg];rfl)
 have hI:(f:Int)<(m.W.length:Int):=by omega
 have hI1:(f:Int)+1<(m.W.length:Int):=by omega
 have hI0:(0:Int)<=(f:Int):=by omega
 have hwf:IntKind.i64.wrap ((f:Int)+1)=(f:Int)+1:=Z18 _ (by omega) (by omega)
 have HA:Hid (∀ W,Below w.heap.size w W->W.cell? ⟨q,0,none⟩=some (.pointer (some ⟨p,0,none⟩))/\W.cell? ⟨p,3,none⟩=w.cell? ⟨p,3,none⟩/\W.cell? ⟨b,f+1,none⟩=some (.int .u64 y)):=fun W b=>⟨(b.cell (p:=⟨q,0,none⟩) (Z02 d0)).trans d0,b.cell (p:=⟨p,3,none⟩) (Z02 d3),(b.cell (p:=⟨_,f+1,none⟩) (Z02 dg)).trans dg⟩
 have HFm:Hid (∀ W,Below w.heap.size w W->Calls prog 106 #[.int .i64 v,.int .i64 10] W fun ev w'=>ev = .returned (.string (Z1b v))/\Below W.heap.size W w'):=fun W hW=>by
  refine (Zab v v0 v1 W (ht.below hW (U02 _))).mono ?_
  rintro ev w' ⟨rfl,k,os,rfl⟩
  exact ⟨rfl,U4e W.heap.size W (U02 _) k os⟩
 have HIt:Hid (∀ W,Below w.heap.size w W->Calls prog 56 #[.int .i64 1] W fun ev w'=>ev = .returned (.string (Z1b 1))/\Below W.heap.size W w'):=fun W hW=>Z75 (by omega) (by omega) W (ht.below hW (U02 _))
 have hd1:=Z0m 1 (by omega) (by omega)
 have a1:=fun wx=>U52 (P:=prog) wx (Z1b 1) ⟨#[32]⟩ (by omega) (by decide)
 have a2:=fun wx=>U52 (P:=prog) wx (Z1b 1++⟨#[32]⟩) (Z1b v) (by rw [U0o];show (((Z1b 1).size+1:Nat):Int)<=_;omega) (by omega)
 rw [k1] at kt
 clear hW hc M H h0 h1 hx hy hz hf hg hlt ht
 generalize x / 1024 % 16=ag at *
 generalize x / 16384 % 2=mk at *
 generalize x / 65536=sz at *
 generalize m.W.length=nW at *
 go_enter func55,ntmps55
 go_wp2_with fail
 refine (kt.out _).mono ?_
 rintro ev w1 ⟨rfl,hw1⟩
 obtain ⟨W2,hW2⟩:∃ W2,W2=w1.alloc (.cells #[.int .i64 1,.int .i64 ag,.int .i64 mk,.int .i64 sz] 172):=⟨_,rfl⟩
 have hw2:Below w.heap.size w W2:=by rw [hW2];exact hw1.alloc hw1.size _
 obtain ⟨e0,e1,e2⟩:=HA.out W2 hw2
 rw [d3] at e1
 have HW2:=Z00 hw2
 have kf:=HFm.out W2 hw2
 have ci:W2.cell? ⟨w1.heap.size,0,none⟩=some (.int .i64 1):=by rw [hW2,U06 _ _ _ _ _ _ (U0b _ _)];rfl
 rw [hW2] at e0 e1 e2 kf ci
 clear kt d0 d3 df dg hw1 hw2
 go_wp2_with fail
 refine kf.mono ?_
 clear kf
 rintro ev w3 ⟨rfl,b3⟩
 rw [<-hW2] at b3 ci
 have c3:w3.cell? ⟨w1.heap.size,0,none⟩=some (.int .i64 1):=(b3.cell (p:=⟨w1.heap.size,0,none⟩) (Z02 ci)).trans ci
 have hw3:Below w.heap.size w w3:=HW2.out.trans (b3.mono HW2.out.size)
 have ki:=HIt.out w3 hw3
 have HW3:=Z00 hw3
 clear e0 e1 e2 b3 ci hw3 hW2
 go_wp2_with fail
 refine ki.mono ?_
 clear ki
 rintro ev w4 ⟨rfl,b4⟩
 have HW4:=Z00 (HW3.out.trans (b4.mono HW3.out.size))
 clear b4
 go_wp2_with fail
 go_ret2
 exact ⟨rfl,HW4.out⟩
end Go.Proofs.YtlkcbdinlfeoiaaGreatDoor
