/- Package lex: the deferred closure of Lex, by its two contracts. -/
import Derived.Test.YtflcohidmemfpaaGreatDoorSsC
import Derived.Recover
import Derived.Defers
import Derived.Laws.Pointers
import Derived.KernelRfl
import Derived.Test.YtflcohidmemfpaaGreatDoorSsA
import Derived.Lib.LaidTab
import Derived.Laws.Concat
import Derived.Deep.RegionHeld3
import Derived.Deep.DrawnRows
set_option linter.all false
namespace Go.Proofs.YtflcohidmemfpaaGreatDoor
open Go.Proofs.Tryz
open Go.RowKit

theorem Zcv (f:Addr) (xT:TypeId) (w:World):(Instr.typeAssert (.iface 61 (.pointer (some f))) xT 61 true).run prog w = .ok (.tuple #[.pointer (some f),.bool true]) w:=by kernel_rfl

set_option maxHeartbeats 400000 in
theorem Zmi (bl be:Nat) (w:World) :
  CallsD prog 56 #[.pointer (some ⟨bl,0,none⟩),.pointer (some ⟨be,0,none⟩)] .returning w fun e u' w'=>e = .returned (.tuple #[])∧u' = .returning∧w'=w:=by
 refine callsD_of_wpS func56 rfl fun c₀ cs hu => ?_
 apply wpS_seq
 apply wpS_region
 simp [wpOpsS,go_sem,recoverD,hu,ntmps56,Exit.thenS]
 apply wpS_seq
 apply wpS_seq
 apply wpS_region
 simp [wpOpsS,go_sem,Exit.thenS]
 refine wpS_cond (t:=true) (by simp [Act.eval,Array.replicate]) ?_
 simp only [if_true]
 refine wpS_of_wp (wp_ret ?_)
 cases c₀
 simp_all [bodyPostS,results,Tryz.results56,Exit.thenS]

set_option maxHeartbeats 1000000 in
theorem Zb4 (bl be:Nat) (f:Addr) (older:List PanicEntry) (vl ve:Value) (w:World) (hne:bl≠be) (hl:w.cell? ⟨bl,0,none⟩=some vl) (hlf:w.frozen? ⟨bl,0,none⟩=false) (he:w.cell? ⟨be,0,none⟩=some ve) (hef:w.frozen? ⟨be,0,none⟩=false) :
  CallsD prog 56 #[.pointer (some ⟨bl,0,none⟩),.pointer (some ⟨be,0,none⟩)] (.panicking ({ v:=.iface 61 (.pointer (some f)),recovered:=false } :: older)) w fun e u' w' =>
   e = .returned (.tuple #[])∧u' = .panicking ({ v:=.iface 61 (.pointer (some f)),recovered:=true } :: older)∧w'=(w.setCell ⟨bl,0,none⟩ (.slice none 0 0)).setCell ⟨be,0,none⟩ (.iface 61 (.pointer (some f))):=by
 have ha:=Zcv f
 have he2:(w.setCell ⟨bl,0,none⟩ (.slice none 0 0)).cell? ⟨be,0,none⟩=some ve:=by rw [World.cell?_of_block (w:=w) (a:=⟨be,0,none⟩) (Z07 _ _ _ _ _ hne.symm)];exact he
 have hf2:(w.setCell ⟨bl,0,none⟩ (.slice none 0 0)).frozen? ⟨be,0,none⟩=false:=by rw [World.frozen?_of_block (w:=w) (a:=⟨be,0,none⟩) (Z07 _ _ _ _ _ hne.symm)];exact hef
 refine callsD_of_wpS func56 rfl fun c₀ cs hu => ?_
 apply wpS_seq
 apply wpS_region
 simp [wpOpsS,go_sem,recoverD,hu,ntmps56,Exit.thenS]
 apply wpS_seq
 apply wpS_seq
 apply wpS_region
 simp [wpOpsS,go_sem,Exit.thenS]
 refine wpS_cond (t:=false) (by simp [Act.eval,Array.replicate]) ?_
 simp only [Bool.false_eq_true,if_false]
 refine wpS_of_wp (wp_skip ?_)
 simp only [Exit.thenS]
 apply wpS_seq
 apply wpS_region
 simp [wpOpsS,go_sem,Exit.thenS,ha]
 apply wpS_seq
 apply wpS_seq
 apply wpS_region
 simp [wpOpsS,go_sem,Exit.thenS]
 refine wpS_cond (t:=false) (by simp [Act.eval,Array.replicate]) ?_
 simp only [Bool.false_eq_true,if_false]
 refine wpS_of_wp (wp_skip ?_)
 simp only [Exit.thenS]
 apply wpS_region
 simp [wpOpsS,go_sem,hl,hlf,he2,hf2,bodyPostS,results,Tryz.results56]
end Go.Proofs.YtflcohidmemfpaaGreatDoor
namespace Go.Proofs.YtflcohidmemfpaaGreatDoor
open Go.Proofs.Tryz
open Go.RowKit

def kEnd:ByteArray:=⟨#[101,110,100]⟩

def Z0t (s:ByteArray):Nat→LexSt→Except Nat LexSt
 | 0,σ=>.ok σ
 | f+1,σ=>if σ.at_<s.size then (match Z0v s σ with | .ok σ'=>Z0t s f σ' | .error e=>.error e) else .ok σ

def Z6s (s:ByteArray):Except Nat (Nat × List Value):=
 match Z0t s s.size ⟨0,[0],0,[]⟩ with
 | .error e=>.error e
 | .ok σ=>match Z1j σ.st 0 σ.at_ σ.n σ.tk with
  | none=>.error σ.at_
  | some (_,n',tk')=>.ok (n'+1,tk'++Z0o kEnd ⟨#[]⟩ σ.at_)

theorem Zck {s:ByteArray} : ∀ {f i:Nat}{tk:List Value}{n e:Nat}{tk2:List Value}{n2:Nat},i≤s.size→Z15 s f i tk n = .ok (e,tk2,n2)→i≤e∧e≤s.size∧n2+i≤n+e
 | 0,i,tk,n,e,tk2,n2,hi,h=>by simp [Z15] at h
 | f+1,i,tk,n,e,tk2,n2,hi,h=>by
  have hsk:=Z51 s i hi
  unfold Z15 at h
  split at h
  ·simp at h
   obtain ⟨rfl,rfl,rfl⟩:=h
   exact ⟨hsk.1,hsk.2,by omega⟩
  ·cases ht:Z1v s (Z0f s i) with
   | none=>rw [ht] at h;cases h
   | some x =>
    obtain ⟨k,t,j⟩:=x
    rw [ht] at h
    have h1:=Z7j ht
    have h2:=Zb1 ht
    have:=Zck h2 h
    omega

theorem Z2r {s:ByteArray}{σ σ':LexSt} (I:Inv s σ) (hlt:σ.at_<s.size) (h:Z0v s σ = .ok σ'):Inv s σ'∧σ.at_<σ'.at_:=by
 have hsk:=Z51 s σ.at_ I.hat
 have hc:=I.cnt
 unfold Z0v at h
 split at h
 ·simp only [Except.ok.injEq] at h
  subst h
  refine ⟨⟨?_,I.last,?_⟩,?_⟩
  ·simp only [Z11];split <;> omega
  ·simp only [Z11];split <;> omega
  ·simp only [Z11];split <;> omega
 ·cases hst:Z1j σ.st ((Z1d s σ.at_:Nat) - (σ.at_:Int)) (Z0f s σ.at_) σ.n σ.tk with
  | none=>rw [hst] at h;cases h
  | some x =>
   obtain ⟨st',n',tk'⟩:=x
   rw [hst] at h
   have hinv:=Z3x hst I.last
   cases htk:Z1v s (Z0f s σ.at_) with
   | none=>rw [htk] at h;cases h
   | some y =>
    obtain ⟨k,t,j⟩:=y
    rw [htk] at h
    have h1:=Z7j htk
    have h2:=Zb1 htk
    simp only at h
    cases hr:Z15 s (s.size+1 - j) j (tk'++Z0o k t (Z0f s σ.at_)) (n'+1) with
    | error e=>rw [hr] at h;cases h
    | ok z =>
     obtain ⟨e,tk2,n2⟩:=z
     rw [hr] at h
     simp only [Except.ok.injEq] at h
     subst h
     have h3:=Zck h2 hr
     refine ⟨⟨?_,hinv.1,?_⟩,?_⟩
     ·simp only [Z11];split <;> omega
     ·simp only [Z11];split <;> omega
     ·simp only [Z11];split <;> omega

theorem Z8y {s:ByteArray} : ∀ {f g:Nat}{σ:LexSt},Inv s σ→s.size - σ.at_≤f→s.size - σ.at_≤g→Z0t s f σ=Z0t s g σ
 | 0,0,σ,_,_,_=>rfl
 | 0,g+1,σ,_,h,_=>by
  have:¬ σ.at_<s.size:=by omega
  simp [Z0t,this]
 | f+1,0,σ,_,_,h=>by
  have:¬ σ.at_<s.size:=by omega
  simp [Z0t,this]
 | f+1,g+1,σ,I,h1,h2=>by
  unfold Z0t
  split
  ·rename_i hlt
   cases hl:Z0v s σ with
   | error e=>rfl
   | ok σ' =>
    have hi:=Z2r I hlt hl
    exact Z8y hi.1 (by omega) (by omega)
  ·rfl
theorem Z6f {s:ByteArray}{σ σ':LexSt} (I:Inv s σ) (hlt:σ.at_<s.size) (h:Z0v s σ = .ok σ'):Z0t s (s.size - σ.at_) σ=Z0t s (s.size - σ'.at_) σ':=by
 obtain ⟨f,hf⟩:∃ f,s.size - σ.at_=f+1:=⟨s.size - σ.at_ - 1,by omega⟩
 have hi:=Z2r I hlt h
 rw [hf]
 have e:Z0t s (f+1) σ=Z0t s f σ':=by simp only [Z0t,hlt,if_true,h]
 rw [e]
 exact Z8y hi.1 (by omega) (Nat.le_refl _)
theorem Z5d {s:ByteArray}{σ:LexSt}{e:Nat} (hlt:σ.at_<s.size) (h:Z0v s σ = .error e):Z0t s (s.size - σ.at_) σ = .error e:=by
 obtain ⟨f,hf⟩:∃ f,s.size - σ.at_=f+1:=⟨s.size - σ.at_ - 1,by omega⟩
 rw [hf]
 simp only [Z0t,hlt,if_true,h]
theorem Zab {s:ByteArray}{σ:LexSt} (h:¬ σ.at_<s.size):Z0t s (s.size - σ.at_) σ = .ok σ:=by
 have:s.size - σ.at_=0:=by omega
 rw [this]
 rfl
theorem Zza (s:ByteArray):Inv s ⟨0,[0],0,[]⟩:=⟨Nat.zero_le _,rfl,by simp⟩
end Go.Proofs.YtflcohidmemfpaaGreatDoor
namespace Go.Proofs.YtflcohidmemfpaaGreatDoor
open Go.Proofs.Tryz
open Go.RowKit

def Zog (s:ByteArray) (a0 a1:Addr) (w:World) (ev:Ending) (w':World):Prop:=
 Below w.heap.size w w' ∧
 if 6000<s.size then ev = .returned (.tuple #[.slice none 0 0,.iface 214 (.pointer (some a1))])
 else match Z6s s with
  | .ok (n,tk) => ∃ vt,ev = .returned (.tuple #[vt,.nilIface])∧w'.ownsRow w.heap.size 121 3 vt n tk
  | .error e => ∃ b,ev = .returned (.tuple #[.slice none 0 0,.iface 61 (.pointer (some ⟨b,0,none⟩))])∧w'.cell? ⟨b,0,none⟩=some (.int .i64 e)∧w'.cell? ⟨b,1,none⟩=some (.iface 214 (.pointer (some a0)))

set_option maxHeartbeats 1000000 in
theorem Zsu (s:ByteArray) (a0 a1:Addr) (w:World) (h:6000<s.size) (hg1:w.cell? ⟨2,0,none⟩=some (.iface 214 (.pointer (some a1)))) :
  Calls prog 38 #[.string s] w fun ev w'=>Zog s a0 a1 w ev w':=by
 have hI:(6000:Int)<(s.size:Int):=by omega
 have hgl:=Z02 hg1
 have hgA:((w.alloc (.cells #[.slice none 0 0] 97)).alloc (.cells #[.nilIface] 27)).cell? ⟨2,0,none⟩=some (.iface 214 (.pointer (some a1))):=by
  rw [World.cell?_alloc_past _ _ _ (Nat.lt_of_lt_of_le hgl (by simp)),World.cell?_alloc_past _ _ _ hgl];exact hg1
 go_enter_defers func38,ntmps38
 go_wp2
 go_region
 all_goals (try go_wp2)
 simp [bodyPostD,Leaves,results,Tryz.results38,go_sem]
 refine ⟨(((Below.refl _ _).alloc (Nat.le_refl _) _).alloc (by simp) _).drew,?_⟩
 rw [if_pos h]

theorem rs0 (s:ByteArray) (w:World) (hs:s.size≤6000) :
  RS (w.heap.size+1+1) (w.heap.size+1+1+1) s 0 [0] 0 [] ((((w.alloc (.cells #[.slice none 0 0] 97)).alloc (.cells #[.nilIface] 27)).alloc (.cells #[.int .i64 0] 3)).alloc (.cells #[.string s,.int .i64 0,.slice (some ⟨w.heap.size+1+1,0,none⟩) 1 1,.slice none 0 0] 117)):=by
 have hz:(((w.alloc (.cells #[.slice none 0 0] 97)).alloc (.cells #[.nilIface] 27)).alloc (.cells #[.int .i64 0] 3)).heap.size=w.heap.size+1+1+1:=by simp
 have hc:∀ o,((((w.alloc (.cells #[.slice none 0 0] 97)).alloc (.cells #[.nilIface] 27)).alloc (.cells #[.int .i64 0] 3)).alloc (.cells #[.string s,.int .i64 0,.slice (some ⟨w.heap.size+1+1,0,none⟩) 1 1,.slice none 0 0] 117)).cell? ⟨w.heap.size+1+1+1,o,none⟩=(#[.string s,.int .i64 0,.slice (some ⟨w.heap.size+1+1,0,none⟩) 1 1,.slice none 0 0]:Array Value)[o]?:=fun o=>World.cell?_alloc_at _ _ _ _ hz.symm
 have hf:∀ o,((((w.alloc (.cells #[.slice none 0 0] 97)).alloc (.cells #[.nilIface] 27)).alloc (.cells #[.int .i64 0] 3)).alloc (.cells #[.string s,.int .i64 0,.slice (some ⟨w.heap.size+1+1,0,none⟩) 1 1,.slice none 0 0] 117)).frozen? ⟨w.heap.size+1+1+1,o,none⟩=false:=fun o=>World.frozen?_alloc_at _ _ _ _ hz.symm
 refine ⟨⟨hs,Nat.zero_le _,hc 0,hc 1,hf 1⟩,by omega,by simp,⟨w.heap.size+1+1,1,.slice none 0 0,hc 2,hc 3,⟨by simp,.inr ⟨w.heap.size+1+1,1,#[.int .i64 0],rfl,Nat.le_refl _,?_,Nat.le_refl _,by unfold maxLen;omega,rfl,rfl⟩⟩,World.ownsRow_nil _ _ _ _,by omega,by simp [Value.ownBlock],by simp [Value.ownBlock]⟩,hf 2,hf 3⟩
 rw [Below.heap_alloc _ _ _ (by rw [hz];omega)]
 have hz2:((w.alloc (.cells #[.slice none 0 0] 97)).alloc (.cells #[.nilIface] 27)).heap.size=w.heap.size+1+1:=by simp
 rw [←hz2]
 exact heap_alloc_new _ _

theorem Z0c {w:World}{k:Nat}{c:Array Value}{t:TypeId}{v:Value} (h:w.heap[k]?=some (.cells c t)) (hc:c[0]?=some v):w.cell? ⟨k,0,none⟩=some v:=by
 rw [cell_of_row w k 0 c t (0,0) h];exact hc
theorem Z14 {w:World}{k:Nat}{c:Array Value}{t:TypeId} (h:w.heap[k]?=some (.cells c t)):w.frozen? ⟨k,0,none⟩=false:=by
 simp [World.frozen?,h]

theorem Zci {s:ByteArray}{e b:Nat}{a0 a1:Addr}{w w1:World} (h:s.size≤6000) (hx:Z6s s = .error e) (hb:Below w.heap.size w w1) (t2:w1.cell? ⟨b,0,none⟩=some (.int .i64 e)) (t3:w1.cell? ⟨b,1,none⟩=some (.iface 214 (.pointer (some a0))))
  (hl:w1.heap[w.heap.size]?=some (.cells #[.slice none 0 0] 97)) (he:w1.heap[w.heap.size+1]?=some (.cells #[.nilIface] 27)) :
  ((w1.setCell ⟨w.heap.size,0,none⟩ (.slice none 0 0)).setCell ⟨w.heap.size+1,0,none⟩ (.iface 61 (.pointer (some ⟨b,0,none⟩)))).cell? ⟨w.heap.size,0,none⟩=some (.slice none 0 0) ∧
  ((w1.setCell ⟨w.heap.size,0,none⟩ (.slice none 0 0)).setCell ⟨w.heap.size+1,0,none⟩ (.iface 61 (.pointer (some ⟨b,0,none⟩)))).cell? ⟨w.heap.size+1,0,none⟩=some (.iface 61 (.pointer (some ⟨b,0,none⟩))) ∧
  Zog s a0 a1 w (.returned (.tuple #[.slice none 0 0,.iface 61 (.pointer (some ⟨b,0,none⟩))])) ((w1.setCell ⟨w.heap.size,0,none⟩ (.slice none 0 0)).setCell ⟨w.heap.size+1,0,none⟩ (.iface 61 (.pointer (some ⟨b,0,none⟩)))):=by
 have n1:b≠w.heap.size:=fun e1=>by
  rw [e1,cell_of_row w1 _ 1 _ _ (0,0) hl] at t3
  simp at t3
 have n2:b≠w.heap.size+1:=fun e1=>by
  rw [e1,cell_of_row w1 _ 1 _ _ (0,0) he] at t3
  simp at t3
 have hc:∀ o k,k≠w.heap.size→k≠w.heap.size+1→((w1.setCell ⟨w.heap.size,0,none⟩ (.slice none 0 0)).setCell ⟨w.heap.size+1,0,none⟩ (.iface 61 (.pointer (some ⟨b,0,none⟩)))).cell? ⟨k,o,none⟩=w1.cell? ⟨k,o,none⟩:=fun o k h1 h2=>by
  rw [World.cell?_of_block (w:=w1.setCell ⟨w.heap.size,0,none⟩ (.slice none 0 0)) (a:=⟨k,o,none⟩) (Z07 _ _ _ _ _ h2),World.cell?_of_block (w:=w1) (a:=⟨k,o,none⟩) (Z07 _ _ _ _ _ h1)]
 refine ⟨?_,?_,(hb.setCell (Nat.le_refl _) _).setCell (by simp) _,?_⟩
 ·rw [World.cell?_of_block (w:=w1.setCell ⟨w.heap.size,0,none⟩ (.slice none 0 0)) (a:=⟨w.heap.size,0,none⟩) (Z07 _ _ _ _ _ (by simp))]
  exact World.cell?_setCell_same _ _ _ (Z0c hl rfl)
 ·refine World.cell?_setCell_same _ _ _ (u:=.nilIface) ?_
  rw [World.cell?_of_block (w:=w1) (a:=⟨w.heap.size+1,0,none⟩) (Z07 _ _ _ _ _ (by simp))]
  exact Z0c he rfl
 ·rw [if_neg (by omega),hx]
  exact ⟨b,rfl,(hc 0 b n1 n2).trans t2,(hc 1 b n1 n2).trans t3⟩

theorem Zoj {s:ByteArray}{n:Nat}{tk:List Value}{a0 a1:Addr}{w w1:World}{vt:Value} (h:s.size≤6000) (hx:Z6s s = .ok (n,tk)) (hb:Below w.heap.size w w1) (ho:w1.ownsRow (w.heap.size+1+1) 121 3 vt n tk)
  (hl:w1.heap[w.heap.size]?=some (.cells #[.slice none 0 0] 97)) (he:w1.heap[w.heap.size+1]?=some (.cells #[.nilIface] 27)) :
  ((w1.setCell ⟨w.heap.size,0,none⟩ vt).setCell ⟨w.heap.size+1,0,none⟩ .nilIface).cell? ⟨w.heap.size,0,none⟩=some vt ∧
  ((w1.setCell ⟨w.heap.size,0,none⟩ vt).setCell ⟨w.heap.size+1,0,none⟩ .nilIface).cell? ⟨w.heap.size+1,0,none⟩=some .nilIface ∧
  Zog s a0 a1 w (.returned (.tuple #[vt,.nilIface])) ((w1.setCell ⟨w.heap.size,0,none⟩ vt).setCell ⟨w.heap.size+1,0,none⟩ .nilIface):=by
 refine ⟨?_,?_,(hb.setCell (Nat.le_refl _) _).setCell (by simp) _,?_⟩
 ·rw [World.cell?_of_block (w:=w1.setCell ⟨w.heap.size,0,none⟩ vt) (a:=⟨w.heap.size,0,none⟩) (Z07 _ _ _ _ _ (by simp))]
  exact World.cell?_setCell_same _ _ _ (Z0c hl rfl)
 ·refine World.cell?_setCell_same _ _ _ (u:=.nilIface) ?_
  rw [World.cell?_of_block (w:=w1) (a:=⟨w.heap.size+1,0,none⟩) (Z07 _ _ _ _ _ (by simp))]
  exact Z0c he rfl
 ·rw [if_neg (by omega),hx]
  refine ⟨vt,rfl,ho.1,?_⟩
  rcases ho.2 with hn | ⟨g,cap,cur,hv,hg,hc,rest⟩
  ·exact .inl hn
  ·refine .inr ⟨g,cap,cur,hv,by omega,?_,rest⟩
   rw [Z07 _ _ _ _ _ (by omega),Z07 _ _ _ _ _ (by omega)]
   exact hc

theorem Zux (B p:Nat) (s:ByteArray) (σ:LexSt) (a0:Addr) (w:World) (h:RS B p s σ.at_ σ.st.reverse σ.n σ.tk w) (E:Env B a0 w) (I:Inv s σ) :
  Calls prog 57 #[.pointer (some ⟨p,0,none⟩)] w fun ev w'=>Z76 B p s σ a0 w ev w':=by
 cases he:Z2d s (Z0f s σ.at_)
 ·exact Zp9 B p s σ a0 w h E I he
 ·exact Zm7 B p s σ a0 w h he

set_option maxHeartbeats 2000000 in
theorem Zrp (s:ByteArray) (a0 a1:Addr) (w:World) (h:s.size≤6000) (E:Env w.heap.size a0 w) :
  Calls prog 38 #[.string s] w fun ev w'=>Zog s a0 a1 w ev w':=by
 have hI:¬ (6000:Int)<(s.size:Int):=by omega
 have hmf:∀ (fn:Fn) (first cap:Array Value) (w:World),(Instr.makeFunc fn first cap).run prog w = .ok (.func fn first cap) w:=fun _ _ _ _=>rfl
 have hR0:=rs0 s w h
 go_enter_defers func38,ntmps38
 go_wp2_with fail
 have hb0:Below w.heap.size w ((((w.alloc (.cells #[.slice none 0 0] 97)).alloc (.cells #[.nilIface] 27)).alloc (.cells #[.int .i64 0] 3)).alloc (.cells #[.string s,.int .i64 0,.slice (some ⟨w.heap.size+1+1,0,none⟩) 1 1,.slice none 0 0] 117)):=((((Below.refl _ _).alloc (Nat.le_refl _) _).alloc (by simp) _).alloc (by simp;omega) _).alloc (by simp;omega) _
 have hl0:((((w.alloc (.cells #[.slice none 0 0] 97)).alloc (.cells #[.nilIface] 27)).alloc (.cells #[.int .i64 0] 3)).alloc (.cells #[.string s,.int .i64 0,.slice (some ⟨w.heap.size+1+1,0,none⟩) 1 1,.slice none 0 0] 117)).heap[w.heap.size]?=some (.cells #[.slice none 0 0] 97):=by
  rw [Below.heap_alloc _ _ _ (by simp <;> omega),Below.heap_alloc _ _ _ (by simp <;> omega),Below.heap_alloc _ _ _ (by simp)]
  exact heap_alloc_new _ _
 have he0:((((w.alloc (.cells #[.slice none 0 0] 97)).alloc (.cells #[.nilIface] 27)).alloc (.cells #[.int .i64 0] 3)).alloc (.cells #[.string s,.int .i64 0,.slice (some ⟨w.heap.size+1+1,0,none⟩) 1 1,.slice none 0 0] 117)).heap[w.heap.size+1]?=some (.cells #[.nilIface] 27):=by
  rw [Below.heap_alloc _ _ _ (by simp <;> omega),Below.heap_alloc _ _ _ (by simp)]
  have hz:(w.alloc (.cells #[.slice none 0 0] 97)).heap.size=w.heap.size+1:=by simp
  rw [←hz]
  exact heap_alloc_new _ _
 generalize ((((w.alloc (.cells #[.slice none 0 0] 97)).alloc (.cells #[.nilIface] 27)).alloc (.cells #[.int .i64 0] 3)).alloc (.cells #[.string s,.int .i64 0,.slice (some ⟨w.heap.size+1+1,0,none⟩) 1 1,.slice none 0 0] 117))=W0 at hR0 hb0 hl0 he0 ⊢
 have hz0:w.heap.size+1+1+1<W0.heap.size:=hR0.hpl
 have E0:Env (w.heap.size+1+1) a0 W0:=by
  have E1:=E.below hb0
  exact ⟨E1.hg,E1.words,E1.ops,E1.range,by have:=E1.bg;omega,by have:=E1.bw;omega,by have:=E1.bo;omega,by have:=E1.br;omega⟩
 go_loopg [] s.size (fun gk wr => ∃ σ:LexSt,gk=s.size - σ.at_∧Inv s σ∧Z0t s (s.size - σ.at_) σ=Z0t s s.size ⟨0,[0],0,[]⟩∧RS (w.heap.size+1+1) (w.heap.size+1+1+1) s σ.at_ σ.st.reverse σ.n σ.tk wr∧Below (w.heap.size+1+1) W0 wr)
 case atStart=>exact ⟨⟨0,[0],0,[]⟩,rfl,Zza s,rfl,hR0,Below.refl _ _⟩
 case round =>
  obtain ⟨σ,hgk,I,hrun,hr,hbr⟩:=hrel
  have HG:Hid (gk=s.size - σ.at_):=hgk
  have HRUN:Hid (Z0t s (s.size - σ.at_) σ=Z0t s s.size ⟨0,[0],0,[]⟩):=hrun
  clear hgk hrun hR0
  have hat:=I.hat
  have hcnt:=I.cnt
  have Er:=E0.below hbr
  have c1:=hr.hA.c1
  by_cases hlt:σ.at_<s.size
  ·have hIlt:(σ.at_:Int)<(s.size:Int):=by omega
   go_wp2_with fail
   refine (Zux _ _ s σ a0 wr hr Er I).mono ?_
   intro ev w1 hq
   unfold Z76 at hq
   cases hls:Z0v s σ with
   | ok σ' =>
    rw [hls] at hq
    obtain ⟨rfl,h1,hb1⟩:=hq
    have hi:=Z2r I hlt hls
    have hgo:=Z6f I hlt hls
    have HGO:Hid (Z0t s (s.size - σ.at_) σ=Z0t s (s.size - σ'.at_) σ'):=hgo
    clear hls hgo
    go_wp2_with fail
    go_roundg (s.size - σ'.at_)
    case measure=>have:=HG.out;omega
    case rel=>exact ⟨σ',rfl,hi.1,HGO.out.symm.trans HRUN.out,h1,hbr.trans hb1⟩
   | error e =>
    rw [hls] at hq
    have HX:Hid (Z6s s = .error e):=show Z6s s = .error e by
     unfold Z6s
     rw [←HRUN.out,Z5d hlt hls]
    clear hls
    obtain ⟨b,rfl,t1,t2,t3⟩:=hq
    have hbw:=hbr.trans t1
    go_wp2_with fail
    refine leaves_cons (f:=56) (args:=#[.pointer (some ⟨w.heap.size,0,none⟩),.pointer (some ⟨w.heap.size+1,0,none⟩)]) (by simp) (by simp [go_sem]) ?_
    have hl1:w1.heap[w.heap.size]?=some (.cells #[.slice none 0 0] 97):=(hbw.block _ (by omega)).trans hl0
    have he1:w1.heap[w.heap.size+1]?=some (.cells #[.nilIface] 27):=(hbw.block _ (by omega)).trans he0
    refine (Zb4 w.heap.size (w.heap.size+1) ⟨b,0,none⟩ [] (.slice none 0 0) .nilIface w1 (by omega) (Z0c hl1 rfl) (Z14 hl1) (Z0c he1 rfl) (Z14 he1)).mono ?_
    rintro ev u' w2 ⟨rfl,rfl,rfl⟩
    have D:=Zci (s:=s) (a0:=a0) (a1:=a1) h HX.out (hb0.trans (hbw.mono (by omega))) t2 t3 hl1 he1
    clear hl1 he1 hl0 he0 t1 t2 t3 hbw hbr
    generalize (w1.setCell ⟨w.heap.size,0,none⟩ (.slice none 0 0)).setCell ⟨w.heap.size+1,0,none⟩ (.iface 61 (.pointer (some ⟨b,0,none⟩)))=w3 at D ⊢
    obtain ⟨d1,d2,d3⟩:=D
    simp [Leaves,settle,results,Tryz.results38,go_sem,d1,d2]
    exact d3
  ·have hIlt:¬ (σ.at_:Int)<(s.size:Int):=by omega
   have hrun:=HRUN.out
   rw [Zab hlt] at hrun
   have HR:Hid (Z0t s s.size ⟨0,[0],0,[]⟩ = .ok σ):=hrun.symm
   clear hrun
   go_wp2_with fail
   refine (Zel _ _ s σ.at_ σ.st 0 σ.n σ.tk a0 wr hr Er I.last (by omega) (by omega) (by omega)).mono ?_
   intro ev w1 hq
   unfold Zgr at hq
   cases hst:Z1j σ.st 0 σ.at_ σ.n σ.tk with
   | none =>
    rw [hst] at hq
    have HX:Hid (Z6s s = .error σ.at_):=show Z6s s = .error σ.at_ by
     unfold Z6s
     rw [HR.out]
     simp only [hst]
    clear hst
    obtain ⟨b,rfl,t1,t2,t3⟩:=hq
    have hbw:=hbr.trans t1
    go_wp2_with fail
    refine leaves_cons (f:=56) (args:=#[.pointer (some ⟨w.heap.size,0,none⟩),.pointer (some ⟨w.heap.size+1,0,none⟩)]) (by simp) (by simp [go_sem]) ?_
    have hl1:w1.heap[w.heap.size]?=some (.cells #[.slice none 0 0] 97):=(hbw.block _ (by omega)).trans hl0
    have he1:w1.heap[w.heap.size+1]?=some (.cells #[.nilIface] 27):=(hbw.block _ (by omega)).trans he0
    refine (Zb4 w.heap.size (w.heap.size+1) ⟨b,0,none⟩ [] (.slice none 0 0) .nilIface w1 (by omega) (Z0c hl1 rfl) (Z14 hl1) (Z0c he1 rfl) (Z14 he1)).mono ?_
    rintro ev u' w2 ⟨rfl,rfl,rfl⟩
    have D:=Zci (s:=s) (a0:=a0) (a1:=a1) h HX.out (hb0.trans (hbw.mono (by omega))) t2 t3 hl1 he1
    clear hl1 he1 hl0 he0 t1 t2 t3 hbw hbr
    generalize (w1.setCell ⟨w.heap.size,0,none⟩ (.slice none 0 0)).setCell ⟨w.heap.size+1,0,none⟩ (.iface 61 (.pointer (some ⟨b,0,none⟩)))=w3 at D ⊢
    obtain ⟨d1,d2,d3⟩:=D
    simp [Leaves,settle,results,Tryz.results38,go_sem,d1,d2]
    exact d3
   | some x =>
    obtain ⟨st',n',tk'⟩:=x
    rw [hst] at hq
    obtain ⟨rfl,h1,hb1⟩:=hq
    have hinv:=Z3x hst I.last
    have HX:Hid (Z6s s = .ok (n'+1,tk'++Z0o kEnd ⟨#[]⟩ σ.at_)):=show Z6s s = .ok (n'+1,tk'++Z0o kEnd ⟨#[]⟩ σ.at_) by
     unfold Z6s
     rw [HR.out]
     simp only [hst]
    clear hst
    have hbw1:=hbr.trans hb1
    have d1:=h1.hA.c1
    go_wp2_with fail
    refine (Z6j _ _ s σ.at_ st'.reverse n' tk' w1 _ _ σ.at_ h1 (by have:=hbw1.size;omega) (by omega)).mono ?_
    rintro ev w2 ⟨rfl,h2,hb2⟩
    have hbw:=hbw1.trans hb2
    have hl1:w2.heap[w.heap.size]?=some (.cells #[.slice none 0 0] 97):=(hbw.block _ (by omega)).trans hl0
    have he1:w2.heap[w.heap.size+1]?=some (.cells #[.nilIface] 27):=(hbw.block _ (by omega)).trans he0
    obtain ⟨g,cap,vt,k2,k3,o2,o3,ngp,ntp,ntg⟩:=h2.ex
    obtain ⟨g2,cap2,hvt,_,_⟩:=o3.form (by omega)
    subst hvt
    have cl:=Z0c hl1 rfl
    have fl:=Z14 hl1
    have ce:=Z0c he1 rfl
    have fe:=Z14 he1
    have D:=Zoj (s:=s) (a0:=a0) (a1:=a1) h HX.out (hb0.trans (hbw.mono (by omega))) o3 hl1 he1
    clear hl1 he1 hl0 he0 hbw hbw1 hbr hb1 hb2 d1 h1 o2 k2
    go_wp2_with fail
    refine leaves_cons (f:=56) (args:=#[.pointer (some ⟨w.heap.size,0,none⟩),.pointer (some ⟨w.heap.size+1,0,none⟩)]) (by simp) (by simp [go_sem]) ?_
    refine (Zmi w.heap.size (w.heap.size+1) _).mono ?_
    rintro ev u' w3 ⟨rfl,rfl,rfl⟩
    generalize (w2.setCell ⟨w.heap.size,0,none⟩ (.slice (some ⟨g2,0,none⟩) (n'+1) cap2)).setCell ⟨w.heap.size+1,0,none⟩ .nilIface=w4 at D ⊢
    obtain ⟨d1,d2,d3⟩:=D
    simp [Leaves,settle,results,Tryz.results38,go_sem,d1,d2]
    exact d3
end Go.Proofs.YtflcohidmemfpaaGreatDoor
namespace Go.Proofs.YtflcohidmemfpaaGreatDoor
open Go.Proofs.Tryz
open Go.RowKit

structure LEnv (B:Nat) (a0 a1:Addr) (w:World):Prop where
 env:Env B a0 w
 g1:w.cell? ⟨2,0,none⟩=some (.iface 214 (.pointer (some a1)))
 b1:2<B

theorem LEnv.below {B:Nat}{a0 a1:Addr}{w w':World} (h:LEnv B a0 a1 w) (hb:Below B w w'):LEnv B a0 a1 w':=
 ⟨h.env.below hb,(hb.cell (p:=⟨2,0,none⟩) h.b1).trans h.g1,h.b1⟩
theorem LEnv.up {B C:Nat}{a0 a1:Addr}{w:World} (h:LEnv B a0 a1 w) (hC:B≤C):LEnv C a0 a1 w:=
 ⟨⟨h.env.hg,h.env.words,h.env.ops,h.env.range,Nat.lt_of_lt_of_le h.env.bg hC,Nat.lt_of_lt_of_le h.env.bw hC,Nat.lt_of_lt_of_le h.env.bo hC,Nat.lt_of_lt_of_le h.env.br hC⟩,h.g1,Nat.lt_of_lt_of_le h.b1 hC⟩

theorem Zxb (s:ByteArray) (a0 a1:Addr) (w:World) (E:LEnv w.heap.size a0 a1 w):Calls prog 38 #[.string s] w fun ev w'=>Zog s a0 a1 w ev w':=by
 by_cases h:6000<s.size
 ·exact Zsu s a0 a1 w h E.g1
 ·exact Zrp s a0 a1 w (by omega) E.env

end Go.Proofs.YtflcohidmemfpaaGreatDoor
namespace Go.Proofs.YtflcohidmemfpaaGreatDoor
open Go.Proofs.Tryz
open Go.RowKit

def Zof {H:Type} (l:List (List UInt8)):DataW H:=.agg (l.map fun b=>.lit (.string b))

theorem Zex {H:Type}{enc:TypeId × Value→H}{P:Program}{w:World}{base:Nat}{sp:Nat→Bool}{held:Bool}{fuel:Nat}{t e:TypeId}{n:Nat}{cs:List Value}{l:List (List UInt8)}{p:List MemPlace}
  (ht:P.underlying t=some (.array n e)) (he:P.underlying e=some .string) (hce:P.cellsOf e=1) (hct:P.cellsOf t=n)
  (h:DataW.trod enc P w base sp held fuel t cs=some (Zof l,p)):cs=l.map fun b=>Value.string ⟨b.toArray⟩:=by
 cases fuel with
 | zero=>simp [DataW.trod] at h
 | succ fuel =>
  simp only [DataW.trod,ht,hce,hct,Nat.mul_one] at h
  split at h
  ·rename_i hl
   obtain ⟨xs,hm,hx⟩:=Option.map_eq_some_iff.1 h
   have hxs:xs.map (·.1)=l.map fun b=>(DataW.lit (.string b):DataW H):=by
    have:=congrArg Prod.fst hx
    simpa [Zof] using this
   have hxl:xs.length=n:=by simpa using Lib.mapM_length hm
   have hzl:l.length=n:=by
    have:=congrArg List.length hxs
    simp at this
    omega
   apply List.ext_getElem?
   intro i
   by_cases hi:i<n
   ·obtain ⟨b,hb,hf⟩:=Lib.mapM_at hm i i (by simp [hi])
    obtain ⟨z,hc,rfl,_⟩:=DataW.trod_string he hf
    have h1:cs[i]?=some (.string z):=by
     have:=congrArg (·[0]?) hc
     simpa [List.getElem?_take,List.getElem?_drop] using this
    have h2:(xs.map (·.1))[i]?=some (DataW.lit (.string z.data.toList):DataW H):=by simp [hb]
    rw [hxs] at h2
    simp only [List.getElem?_map,Option.map_eq_some_iff,DataW.lit.injEq,Lit.string.injEq] at h2
    obtain ⟨z',hz',e'⟩:=h2
    subst e'
    simp [h1,hz']
   ·rw [List.getElem?_eq_none (by omega),List.getElem?_eq_none (by simp;omega)]
  ·cases h

theorem Zbl {P:Program}{W:World}{name:String}{g:Nat}{cs:Array Value} (hg:P.globalNamed name=some g) (h:W.var? P name=some cs):∃ tt fr,W.heap[g]?=some (.cells cs tt fr):=by
 unfold World.var? at h
 rw [hg] at h
 simp only [Option.bind_some] at h
 split at h
 ·rename_i c tt fr he
  simp at h
  subst h
  exact ⟨tt,fr,he⟩
 ·cases h

theorem Z8m {P:Program}{W:World}{name:String}{l:List (List UInt8)}{g:Nat}{t e:TypeId}{n:Nat}
  (hg:P.globalNamed name=some g) (hty:(P.globals[g]?).map (·.type)=some t) (ht:P.underlying t=some (.array n e)) (he:P.underlying e=some .string) (hce:P.cellsOf e=1) (hct:P.cellsOf t=n)
  (h:laidMet P [(name,Zof l)] W):∃ tt fr,W.heap[g]?=some (.cells (l.map fun b=>Value.string ⟨b.toArray⟩).toArray tt fr):=by
 obtain ⟨ps,⟨g',t',cs,fuel,p,q,hg',ht',hvar,hd,_,_⟩,_⟩:=h
 obtain rfl:=Option.some.inj (hg.symm.trans hg')
 obtain rfl:=Option.some.inj (hty.symm.trans ht')
 have:=Zex ht he hce hct hd
 have e:cs=(l.map fun b=>Value.string ⟨b.toArray⟩).toArray:=by rw [←this]
 rw [e] at hvar
 exact Zbl hg hvar

theorem Zmm : prog.globalNamed "nurserypy/lex.words" = some 5 := by kernel_rfl
theorem Zs6:(prog.globals[5]?).map (·.type)=some 178:=by kernel_rfl
theorem Znc:prog.cellsOf 178=25:=by kernel_rfl
theorem Zv5 : prog.globalNamed "nurserypy/lex.ops" = some 4 := by kernel_rfl
theorem Zwm:(prog.globals[4]?).map (·.type)=some 172:=by kernel_rfl
theorem Zt2:prog.cellsOf 172=21:=by kernel_rfl
theorem Zqh:(prog.globals[8]?).map (·.type)=some 27:=by kernel_rfl
theorem Zyn:(wordList.map fun b=>Value.string ⟨b.toArray⟩).toArray=wordCells:=by kernel_rfl
theorem opTab:(opList.map fun b=>Value.string ⟨b.toArray⟩).toArray=opCells:=by kernel_rfl

theorem Zwk {W : World} {l : List (String × DataW Unit)} (hl : laidMet prog l W) (h0 : [Zfp 0].Sublist l) (h1 : [Zfp 1].Sublist l) (hr : [("strconv.ErrRange", Rows.laid_strconv_ErrRange)].Sublist l)
  (hw : [("nurserypy/lex.words", Rows.laid_nurserypy_lex_words)].Sublist l) (ho : [("nurserypy/lex.ops", Rows.laid_nurserypy_lex_ops)].Sublist l) : ∃ a0 a1, LEnv W.heap.size a0 a1 W := by
 obtain ⟨a0,v0,_⟩:=Zeu 0 (by decide) (Z3e h0 hl)
 obtain ⟨a1,v1,_⟩:=Zeu 1 (by decide) (Z3e h1 hl)
 obtain ⟨ar,sr,vr,_⟩:=laid_sentinel (Z3e hr hl) Z5t Zqh underlying27 Zxj underlying214 underlying216 rfl rfl underlying9 Zsf Z9e
 obtain ⟨tw,fw,ew⟩:=Z8m (l:=wordList) Zmm Zs6 underlying178 underlying9 Z9e Znc (Z3e hw hl)
 obtain ⟨to_,fo,eo⟩:=Z8m (l:=opList) Zv5 Zwm underlying172 underlying9 Z9e Zt2 (Z3e ho hl)
 rw [Zyn] at ew
 rw [opTab] at eo
 have c0:=Zcu 0 (by decide) a0 v0
 have c1:=Zcu 1 (by decide) a1 v1
 obtain ⟨tr,fr,er⟩:=Zbl Z5t vr
 exact ⟨a0,a1,⟨⟨c0,⟨tw,fw,ew⟩,⟨to_,fo,eo⟩,⟨_,_,vr⟩,Z02 c0,Z00 ew,Z00 eo,Z00 er⟩,c1,Z02 c1⟩⟩
end Go.Proofs.YtflcohidmemfpaaGreatDoor
namespace Go.Proofs.YtflcohidmemfpaaGreatDoor
open Go.Proofs.Tryz
open Go.RowKit

def Z3m (n:Nat):UInt8:=([48,49,50,51,52,53,54,55,56,57,97,98,99,100,101,102]:List UInt8).getD n 0
def Z8c (c:UInt8):List UInt8:=
 if c.toNat=10 then [92,110]
 else if c.toNat=34 then [92,34]
 else if c.toNat=92 then [92,92]
 else if c.toNat<32∨126<c.toNat then [92,120,Z3m (c.toNat / 16),Z3m (c.toNat % 16)]
 else [c]
def Z9k (l:List UInt8):ByteArray:=⟨([34]++l.flatMap Z8c ++ [34]).toArray⟩

theorem Ztd (c:UInt8):(Z8c c).length≤4:=by
 unfold Z8c
 repeat (first | split | simp)
theorem Zf0:∀ l:List UInt8,(l.flatMap Z8c).length≤4*l.length
 | []=>by simp
 | c::r=>by
  have:=Ztd c
  have:=Zf0 r
  simp only [List.flatMap_cons,List.length_append,List.length_cons]
  omega
theorem Zsg (s:ByteArray) (k:Nat) (h:k<s.size):s.data.toList.take (k+1)=s.data.toList.take k ++ [s[k]]:=by
 rw [List.take_succ_eq_append_getElem (by simpa using h)];rfl

theorem Z9l {n:Nat}{z:Int} (h:((n:Int) == z)=true):(n:Int)=z:=by simpa using h
theorem Z7u {n:Nat}{z:Int} (h:((n:Int) == z)=false):¬ (n:Int)=z:=by simpa using h
end Go.Proofs.YtflcohidmemfpaaGreatDoor
namespace Go.Proofs.YtflcohidmemfpaaGreatDoor
open Go.Proofs.Tryz
open Go.RowKit

theorem Z47 {q:ByteArray}{pre rest:List UInt8}{x:UInt8} (h:q.data.toList=pre++x::rest):∃ hlt:pre.length<q.size,q[pre.length]=x:=by
 have hl:pre.length<q.data.toList.length:=by rw [h];simp
 have hlt:pre.length<q.size:=by simpa using hl
 refine ⟨hlt,?_⟩
 have e:q.data.toList[pre.length]=x:=by simp [h]
 have e2:q.data[pre.length]=x:=by simpa using e
 exact e2

theorem Z24 {q:ByteArray}{l:List UInt8} (h:q.data.toList=l):q.size=l.length:=by
 have:=congrArg List.length h
 simpa using this

theorem Znv (c:UInt8):(c.toNat=10∧Z8c c = [92,110])∨(c.toNat=34∧Z8c c = [92,34])∨(c.toNat=92∧Z8c c = [92,92])∨Z8c c = [92,120,Z3m (c.toNat / 16),Z3m (c.toNat % 16)]∨(Z8c c = [c]∧c.toNat≠34∧c.toNat≠92∧32≤c.toNat∧c.toNat≤126):=by
 unfold Z8c
 split
 ·exact .inl ⟨by assumption,rfl⟩
 ·split
  ·exact .inr (.inl ⟨by assumption,rfl⟩)
  ·split
   ·exact .inr (.inr (.inl ⟨by assumption,rfl⟩))
   ·split
    ·exact .inr (.inr (.inr (.inl rfl)))
    ·exact .inr (.inr (.inr (.inr ⟨rfl,by assumption,by assumption,by omega,by omega⟩)))

end Go.Proofs.YtflcohidmemfpaaGreatDoor
