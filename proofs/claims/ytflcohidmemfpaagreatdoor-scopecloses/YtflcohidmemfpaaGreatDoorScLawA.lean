/- The bodies of the loops of the law ScopeCloses. -/
import Derived.Test.YtflcohidmemfpaaGreatDoorSvN
import Derived.Deep.CutBlock
import Derived.Deep.QuietTactic
import Derived.BigQuiet
import Derived.Laws.Cover1
import Derived.Sort.Walk0
set_option linter.all false
namespace Go.Proofs.YtflcohidmemfpaaGreatDoor
open Go.Proofs.Tryz
open Go.RowKit

def Z4d (n:Nat):Code→Option Code
 | .block i c=>bif Nat.beq i n then some (.block i c) else Z4d n c
 | .loop c=>Z4d n c
 | .seq a b=>match Z4d n a with
  | some c=>some c
  | none=>Z4d n b
 | .scope c=>Z4d n c
 | .cond _ a b=>match Z4d n a with
  | some c=>some c
  | none=>Z4d n b
 | _=>none
noncomputable def scBlock (n:Nat):Code:=(f3.body.bind (Z4d n)).getD .skip
def Zap (w:World) (v:Value) (s:ByteArray) (b:Bool):Prop:=∀ W',Below w.heap.size w W'→Calls prog 8 #[v,.string s] W' fun ev w'=>ev = .returned (.bool b)∧w'=W'
set_option maxRecDepth 100000 in
set_option maxHeartbeats 2000000 in
theorem sc_b3 {g n cap X u k g2 l2 t2 l0 l1 t0 t1 l1' l2' t1' t2' l0' t0' pn:Nat}{b0 b1 b0' b1' b2':Option Addr}{nm s:ByteArray}{ar:Int}{wr:World}{u0 u1 u2 u3 u5 u6 u9 u10 u11 u12 u13 u14 u15 u16 u17 u18 u19 u20 u21 u22 u23 u24 u25 u26 u27 u28 u29 u30 u31 u32 u33 u34 u35 u36 u37 u38 u39 u40 u41 u42 u43 u44 u45 u46 u47 u48 u49 u50 u51 u52 u53 u54 u55 u56 u57 u58 u59 u60 u61 u62 u63 u64 u65 u66 u67 u68 u69 u70 u71 u72 u73 u74 u75 u76 u77 u78 u79 u80 u81 u82 u83 u84 u85 u86 u87 u88 u89 u90 u91 u92 u93 u94 u95 u96 u97 u98 u99 u100 u101 u102 u103 u104 u105 u106 u107 u108 u109 u110 u111 u112 u113 u114 u115 u116 u117 u118 u119 u120 u121 u122 u123 u124 u125 u126 u127 u128 u129 u130 u131 u132 u133 u134 u135 u136 u137 u138 u139 u140 u141 u142 u143 u144 u145 u146 u147 u148 u149 u150 u151 u152 u153 u154:Value}{K:Act→World→Prop}{Q:Exit→Act→World→Prop}
  (hu:u<n) (_hn:n≤5000000000000) (hk:k<l2) (hl2:l2≤5000000000000)
  (x1:wr.cell? ⟨X,1,none⟩=some (.int .i64 (u:Int))) (x3:wr.cell? ⟨X,3,none⟩=some (.slice b0 l0 t0)) (x4:wr.cell? ⟨X,4,none⟩=some (.slice b1 l1 t1)) (x5:wr.cell? ⟨X,5,none⟩=some (.slice (some ⟨g2,0,none⟩) l2 t2))
  (z0:wr.cell? ⟨g,u*6,none⟩=some (.string nm)) (z1:wr.cell? ⟨g,u*6+1,none⟩=some (.int .i64 ar)) (z2:wr.cell? ⟨g,u*6+2,none⟩=some (.int .i64 (pn:Int))) (z3:wr.cell? ⟨g,u*6+3,none⟩=some (.slice b0' l0' t0')) (z4:wr.cell? ⟨g,u*6+4,none⟩=some (.slice b1' l1' t1')) (z5:wr.cell? ⟨g,u*6+5,none⟩=some (.slice b2' l2' t2'))
  (cs:wr.cell? ⟨g2,k,none⟩=some (.string s)) (hp:∀ k',k=k'+1 → ∃ s',wr.cell? ⟨g2,k',none⟩=some (.string s')∧s'.data.toList<s.data.toList)
  (hA:Zap wr (.slice b1' l1' t1') s true∨Zap wr (.slice b1' l1' t1') s false∧Zap wr (.slice b2' l2' t2') s true) (h3:Zap wr (.slice b1 l1 t1) s false) (h4:Zap wr (.slice b0 l0 t0) s false)
  (hrest:∀ (v79 v80 v81 v82 v83 v84 v85 v86 v87 v88 v89 v90 v91 v92 v93 v94 v95 v96 v97 v98 v99 v100 v101 v102 v103 v104 v105 v106 v107 v108 v109 v110 v111 v112 v113 v114 v115 v116 v117 v118 v119 v120 v121 v122 v123 v124 v125 v126 v127 v128 v129 v130 v131 v132 v133 v134 v135 v136 v137 v138 v139 v9:Value) (wx:World),(Below wr.heap.size wr wx)→K ⟨#[u0,u1,u2,u3,.slice (some ⟨g,0,none⟩) n cap,u5,u6,.pointer (some ⟨X,0,none⟩),.int .i64 (k:Int),v9,u10,u11,u12,u13,u14,u15,u16,u17,u18,u19,u20,u21,u22,u23,u24,u25,u26,u27,u28,u29,u30,u31,u32,u33,u34,u35,u36,u37,u38,u39,u40,u41,u42,u43,u44,u45,u46,u47,u48,u49,u50,u51,u52,u53,u54,u55,u56,u57,u58,u59,u60,u61,u62,u63,u64,u65,u66,u67,u68,u69,u70,u71,u72,u73,u74,u75,u76,u77,u78,v79,v80,v81,v82,v83,v84,v85,v86,v87,v88,v89,v90,v91,v92,v93,v94,v95,v96,v97,v98,v99,v100,v101,v102,v103,v104,v105,v106,v107,v108,v109,v110,v111,v112,v113,v114,v115,v116,v117,v118,v119,v120,v121,v122,v123,v124,v125,v126,v127,v128,v129,v130,v131,v132,v133,v134,v135,v136,v137,v138,v139,u140,u141,u142,u143,u144,u145,u146,u147,u148,u149,u150,u151,u152,u153,u154],[]⟩ wx) :
  Code.wp prog (scBlock 3) (Exit.then K Q) ⟨#[u0,u1,u2,u3,.slice (some ⟨g,0,none⟩) n cap,u5,u6,.pointer (some ⟨X,0,none⟩),.int .i64 (k:Int),u9,u10,u11,u12,u13,u14,u15,u16,u17,u18,u19,u20,u21,u22,u23,u24,u25,u26,u27,u28,u29,u30,u31,u32,u33,u34,u35,u36,u37,u38,u39,u40,u41,u42,u43,u44,u45,u46,u47,u48,u49,u50,u51,u52,u53,u54,u55,u56,u57,u58,u59,u60,u61,u62,u63,u64,u65,u66,u67,u68,u69,u70,u71,u72,u73,u74,u75,u76,u77,u78,u79,u80,u81,u82,u83,u84,u85,u86,u87,u88,u89,u90,u91,u92,u93,u94,u95,u96,u97,u98,u99,u100,u101,u102,u103,u104,u105,u106,u107,u108,u109,u110,u111,u112,u113,u114,u115,u116,u117,u118,u119,u120,u121,u122,u123,u124,u125,u126,u127,u128,u129,u130,u131,u132,u133,u134,u135,u136,u137,u138,u139,u140,u141,u142,u143,u144,u145,u146,u147,u148,u149,u150,u151,u152,u153,u154],[]⟩ wr:=by
 have HR:=Z01 hrest
 have HA:=Z01 hA
 have H3:=Z01 h3
 have H4:=Z01 h4
 have HP:=Z01 hp
 clear hrest hA h3 h4 hp
 have hxl:=Z02 x1
 have hzl:=Z02 z0
 have hcsl:=Z02 cs
 have huI:(u:Int)<(n:Int):=by omega
 have huI0:(0:Int)≤(u:Int):=by omega
 have hk0:(0:Int)≤(k:Int):=by omega
 have hI2:(k:Int)<(l2:Int):=by omega
 conv=>arg 2;whnf
 go_upto_region 17 with fail
 obtain ⟨WU,hWU⟩:∃ WU,WU=wr.alloc (.cells #[.string nm,.int .i64 ar,.int .i64 (pn:Int),.slice b0' l0' t0',.slice b1' l1' t1',.slice b2' l2' t2'] 34):=⟨_,rfl⟩
 rw [←hWU]
 have hbU:Below wr.heap.size wr WU:=by rw [hWU];exact (Below.refl _ _).alloc (Nat.le_refl _) _
 have hub:WU.heap[wr.heap.size]?=some (.cells #[.string nm,.int .i64 ar,.int .i64 (pn:Int),.slice b0' l0' t0',.slice b1' l1' t1',.slice b2' l2' t2'] 34):=by rw [hWU];exact heap_alloc_new _ _
 have p4:WU.cell? ⟨wr.heap.size,4,none⟩=some (.slice b1' l1' t1'):=by rw [cell_of_row _ _ 4 _ _ _ hub];rfl
 have p5:WU.cell? ⟨wr.heap.size,5,none⟩=some (.slice b2' l2' t2'):=by rw [cell_of_row _ _ 5 _ _ _ hub];rfl
 have HX:Hid (wr.cell? ⟨X,3,none⟩=some (.slice b0 l0 t0)∧wr.cell? ⟨X,4,none⟩=some (.slice b1 l1 t1)∧wr.cell? ⟨X,5,none⟩=some (.slice (some ⟨g2,0,none⟩) l2 t2)∧wr.cell? ⟨g2,k,none⟩=some (.string s)):=⟨x3,x4,x5,cs⟩
 have X3:=x3
 have X4:=x4
 have X5:=x5
 have CS:=cs
 clear x3 x4 x5 cs
 have x3:=(hbU.cell (p:=⟨X,3,none⟩) hxl).trans X3
 have x4:=(hbU.cell (p:=⟨X,4,none⟩) hxl).trans X4
 have x5:=(hbU.cell (p:=⟨X,5,none⟩) hxl).trans X5
 have cs:=(hbU.cell (p:=⟨g2,k,none⟩) hcsl).trans CS
 have hpl:=Z02 p4
 have HBU:=Z01 hbU
 clear hWU hbU hub X3 X4 X5 CS z0 z1 z2 z3 z4 z5 x1 hzl
 obtain ⟨ub,hub⟩:∃ ub,ub=wr.heap.size:=⟨_,rfl⟩
 rw [←hub] at p4 p5 hpl
 rw [←hub]
 have HUB:=Z01 hub
 clear hub
 go_cut [103] from 84 to 102 (fun v103 wx=>v103 = .bool false∧Below wr.heap.size wr wx)
 case first =>
  rcases HA.out with h1 | ⟨h1,h2⟩
  ·have HH1:=Z01 h1
   clear h1
   go_quiet ((go_at_call 8;first | exact Calls.quiet_of_same (HH1.out _ (below_drewN _ HBU.out))))
   go_wp2_with fail
   go_meet
   case rel=>exact ⟨rfl,below_drewN _ HBU.out⟩
  ·have HH1:=Z01 h1
   have HH2:=Z01 h2
   clear h1 h2
   go_quiet ((go_at_call 8;first | exact Calls.quiet_of_same (HH1.out _ (below_drewN _ HBU.out)) | exact Calls.quiet_of_same (HH2.out _ (below_drewN _ HBU.out))))
   go_wp2_with fail
   go_meet
   case rel=>exact ⟨rfl,below_drewN _ HBU.out⟩
 case rest =>
  obtain ⟨rfl,hbc⟩:=hcut
  have x3:=(hbc.cell (p:=⟨X,3,none⟩) hxl).trans HX.out.1
  have x4:=(hbc.cell (p:=⟨X,4,none⟩) hxl).trans HX.out.2.1
  have x5:=(hbc.cell (p:=⟨X,5,none⟩) hxl).trans HX.out.2.2.1
  have cs:=(hbc.cell (p:=⟨g2,k,none⟩) hcsl).trans HX.out.2.2.2
  have hxl:=Z02 x3
  have hcsl:=Z02 cs
  have HBC:=Z01 hbc
  clear hbc
  go_upto_region 19 with fail
  go_cut [139] from 104 to 138 (fun v139 wx=>v139 = .bool false∧Below wr.heap.size wr wx)
  case first =>
   by_cases hk1:0<k
   ·obtain ⟨k',hkk⟩:∃ k',k=k'+1:=⟨k - 1,by omega⟩
    obtain ⟨s',cp,hlt⟩:=HP.out k' hkk
    have hcpl:=Z02 cp
    have cp:=(HBC.out.cell (p:=⟨g2,k',none⟩) hcpl).trans cp
    have hcpl:=Z02 cp
    have hs1:Op.bytesLess s.toList s'.toList=false:=by
     rw [bytesLess_eq,ByteArray.toList_eq,ByteArray.toList_eq]
     exact decide_eq_false (fun h=>List.lt_irrefl _ (List.lt_trans h hlt))
    have hs2:(s.toList == s'.toList)=false:=by
     rw [beq_eq_false_iff_ne,ByteArray.toList_eq,ByteArray.toList_eq]
     exact fun h=>List.lt_irrefl _ (h ▸ hlt)
    have hk3:decide ((0:Int)<(k:Int))=true:=by simp;omega
    have hkm:(k:Int) - 1=(k':Int):=by omega
    have hk5:(0:Int)≤(k':Int):=by omega
    have hk6:(k':Int)<(l2:Int):=by omega
    clear hlt HX hkk
    go_quiet ((go_at_call 8;first | exact Calls.quiet_of_same (H3.out _ (below_drewN _ HBC.out)) | exact Calls.quiet_of_same (H4.out _ (below_drewN _ HBC.out))))
    go_wp2_with fail
    go_meet
    case rel=>exact ⟨rfl,below_drewN _ HBC.out⟩
   ·have hk3:decide ((0:Int)<(k:Int))=false:=by simp;omega
    go_quiet ((go_at_call 8;first | exact Calls.quiet_of_same (H3.out _ (below_drewN _ HBC.out)) | exact Calls.quiet_of_same (H4.out _ (below_drewN _ HBC.out))))
    go_wp2_with fail
    go_meet
    case rel=>exact ⟨rfl,below_drewN _ HBC.out⟩
  case rest =>
   obtain ⟨rfl,hbc⟩:=hcut
   go_wp2_with fail
   exact HR.out _ _ _ _ _ _ _ _ _ _ _ _ _ _ _ _ _ _ _ _ _ _ _ _ _ _ _ _ _ _ _ _ _ _ _ _ _ _ _ _ _ _ _ _ _ _ _ _ _ _ _ _ _ _ _ _ _ _ _ _ _ _ _ hbc
set_option maxRecDepth 100000 in
set_option maxHeartbeats 2000000 in
theorem sc_b5 {X k g1 l1 t1 l0 t0:Nat}{b0:Option Addr}{s:ByteArray}{wr:World}{u0 u1 u2 u3 u4 u5 u6 u8 u9 u11 u12 u13 u14 u15 u16 u17 u18 u19 u20 u21 u22 u23 u24 u25 u26 u27 u28 u29 u30 u31 u32 u33 u34 u35 u36 u37 u38 u39 u40 u41 u42 u43 u44 u45 u46 u47 u48 u49 u50 u51 u52 u53 u54 u55 u56 u57 u58 u59 u60 u61 u62 u63 u64 u65 u66 u67 u68 u69 u70 u71 u72 u73 u74 u75 u76 u77 u78 u79 u80 u81 u82 u83 u84 u85 u86 u87 u88 u89 u90 u91 u92 u93 u94 u95 u96 u97 u98 u99 u100 u101 u102 u103 u104 u105 u106 u107 u108 u109 u110 u111 u112 u113 u114 u115 u116 u117 u118 u119 u120 u121 u122 u123 u124 u125 u126 u127 u128 u129 u130 u131 u132 u133 u134 u135 u136 u137 u138 u139 u140 u141 u142 u143 u144 u145 u146 u147 u148 u149 u150 u151 u152 u153 u154:Value}{K:Act→World→Prop}{Q:Exit→Act→World→Prop}
  (hk:k<l1) (_hl1:l1≤5000000000000) (x3:wr.cell? ⟨X,3,none⟩=some (.slice b0 l0 t0)) (x4:wr.cell? ⟨X,4,none⟩=some (.slice (some ⟨g1,0,none⟩) l1 t1))
  (cs:wr.cell? ⟨g1,k,none⟩=some (.string s)) (h4:Zap wr (.slice b0 l0 t0) s false)
  (hrest:∀ (v147 v148 v149 v150 v151 v152 v153 v154:Value) (wx:World),(Below wr.heap.size wr wx)→K ⟨#[u0,u1,u2,u3,u4,u5,u6,.pointer (some ⟨X,0,none⟩),u8,u9,.int .i64 (k:Int),u11,u12,u13,u14,u15,u16,u17,u18,u19,u20,u21,u22,u23,u24,u25,u26,u27,u28,u29,u30,u31,u32,u33,u34,u35,u36,u37,u38,u39,u40,u41,u42,u43,u44,u45,u46,u47,u48,u49,u50,u51,u52,u53,u54,u55,u56,u57,u58,u59,u60,u61,u62,u63,u64,u65,u66,u67,u68,u69,u70,u71,u72,u73,u74,u75,u76,u77,u78,u79,u80,u81,u82,u83,u84,u85,u86,u87,u88,u89,u90,u91,u92,u93,u94,u95,u96,u97,u98,u99,u100,u101,u102,u103,u104,u105,u106,u107,u108,u109,u110,u111,u112,u113,u114,u115,u116,u117,u118,u119,u120,u121,u122,u123,u124,u125,u126,u127,u128,u129,u130,u131,u132,u133,u134,u135,u136,u137,u138,u139,u140,u141,u142,u143,u144,u145,u146,v147,v148,v149,v150,v151,v152,v153,v154],[]⟩ wx) :
  Code.wp prog (scBlock 5) (Exit.then K Q) ⟨#[u0,u1,u2,u3,u4,u5,u6,.pointer (some ⟨X,0,none⟩),u8,u9,.int .i64 (k:Int),u11,u12,u13,u14,u15,u16,u17,u18,u19,u20,u21,u22,u23,u24,u25,u26,u27,u28,u29,u30,u31,u32,u33,u34,u35,u36,u37,u38,u39,u40,u41,u42,u43,u44,u45,u46,u47,u48,u49,u50,u51,u52,u53,u54,u55,u56,u57,u58,u59,u60,u61,u62,u63,u64,u65,u66,u67,u68,u69,u70,u71,u72,u73,u74,u75,u76,u77,u78,u79,u80,u81,u82,u83,u84,u85,u86,u87,u88,u89,u90,u91,u92,u93,u94,u95,u96,u97,u98,u99,u100,u101,u102,u103,u104,u105,u106,u107,u108,u109,u110,u111,u112,u113,u114,u115,u116,u117,u118,u119,u120,u121,u122,u123,u124,u125,u126,u127,u128,u129,u130,u131,u132,u133,u134,u135,u136,u137,u138,u139,u140,u141,u142,u143,u144,u145,u146,u147,u148,u149,u150,u151,u152,u153,u154],[]⟩ wr:=by
 have HR:=Z01 hrest
 have H4:=Z01 h4
 clear hrest h4
 have hxl:=Z02 x3
 have hcsl:=Z02 cs
 have hk0:(0:Int)≤(k:Int):=by omega
 have hI2:(k:Int)<(l1:Int):=by omega
 conv=>arg 2;whnf
 go_upto_region 24 with fail
 go_quiet ((go_at_call 8;exact Calls.quiet_of_same (H4.out _ (below_drewN _ (Below.refl _ _)))))
 go_wp2_with fail
 exact HR.out _ _ _ _ _ _ _ _ _ (below_drewN _ (Below.refl _ _))
end Go.Proofs.YtflcohidmemfpaaGreatDoor
