/- The document's answer for package lex: TokensText, its blanks. -/
import Derived.Test.YtpflpbfnifpchaaGreatDoorTextsA
import Derived.Deep.CutBlock
namespace Go.Proofs.YtpflpbfnifpchaaGreatDoor
open Go.RowKit

noncomputable def blockOf (f : Func) (n : Nat) : Code := (f.body.bind (blockIn n)).getD .skip
theorem str_app (a b : List UInt8) : (⟨a.toArray⟩ : ByteArray) ++ (⟨b.toArray⟩ : ByteArray) = ⟨(a ++ b).toArray⟩ := by
  apply ByteArray.ext
  simp [ByteArray.data_append]
theorem str_app2 (a : List UInt8) (b : ByteArray) : (⟨a.toArray⟩ : ByteArray) ++ b = ⟨(a ++ b.data.toList).toArray⟩ := str_app a b.data.toList
theorem str_size (a : List UInt8) : (⟨a.toArray⟩ : ByteArray).size = a.length := by simp [ByteArray.size]
theorem rep_succ (k : Nat) : Lib.repeatL [32, 32, 32, 32] (k + 1) = Lib.repeatL [32, 32, 32, 32] k ++ [32, 32, 32, 32] := by
  rw [Lib.repeatL_add, Lib.repeatL_one]
set_option maxRecDepth 100000 in
set_option maxHeartbeats 2000000 in
theorem tt_b3 {acc acc2 : List UInt8} {d : Nat} {b : Bool} {wr : World} {u0 u1 u2 u3 u7 u8 u10 u11 u12 u13 u14 u15 u16 u17 u18 u19 u20 u21 u22 u23 u24 u25 u26 u27 u28 u29 u30 u31 u32 u33 u34 u35 u36 u37 u38 u39 u40 u41 u42 u43 u44 u45 u46 u47 u48 u49 u50 u51 u52 u53 u54 u55 u56 u57 u58 u59 u60 u61 u62 u63 u64 u65 u66 u67 u68 u69 u70 u71 u72 u73 u74 u75 u76 u77 u78 u79 u80 u81 u82 u83 u84 u85 u86 u87 u88 u89 u90 u91 u92 u93 u94 u95 u96 u97 u98 u99 u100 u101 u102 u103 u104 u105 u106 u107 u108 u109 u110 u111 u112 u113 u114 u115 u116 u117 u118 u119 u120 u121 u122 : Value} {K : Act → World → Prop} {Q : Exit → Act → World → Prop}
    (hd : d ≤ 600) (ha : acc.length ≤ 6001) (h2 : acc2 = if b then acc else acc ++ Lib.repeatL [32, 32, 32, 32] d)
    (hrest : ∀ (v28 v29 v30 v31 v32 v33 v34 v35 v36 v37 v38 v9 : Value) (wx : World), (wx = wr) → K ⟨#[u0, u1, u2, u3, .string ⟨acc2.toArray⟩, .int .i64 (d : Int), .bool b, u7, u8, v9, u10, u11, u12, u13, u14, u15, u16, u17, u18, u19, u20, u21, u22, u23, u24, u25, u26, u27, v28, v29, v30, v31, v32, v33, v34, v35, v36, v37, v38, u39, u40, u41, u42, u43, u44, u45, u46, u47, u48, u49, u50, u51, u52, u53, u54, u55, u56, u57, u58, u59, u60, u61, u62, u63, u64, u65, u66, u67, u68, u69, u70, u71, u72, u73, u74, u75, u76, u77, u78, u79, u80, u81, u82, u83, u84, u85, u86, u87, u88, u89, u90, u91, u92, u93, u94, u95, u96, u97, u98, u99, u100, u101, u102, u103, u104, u105, u106, u107, u108, u109, u110, u111, u112, u113, u114, u115, u116, u117, u118, u119, u120, u121, u122], []⟩ wx) :
    Code.wp Tryz.prog (blockOf Tryz.f13 3) (Exit.then K Q) ⟨#[u0, u1, u2, u3, .string ⟨acc.toArray⟩, .int .i64 (d : Int), .bool b, u7, u8, .int .i64 0, u10, u11, u12, u13, u14, u15, u16, u17, u18, u19, u20, u21, u22, u23, u24, u25, u26, u27, u28, u29, u30, u31, u32, u33, u34, u35, u36, u37, u38, u39, u40, u41, u42, u43, u44, u45, u46, u47, u48, u49, u50, u51, u52, u53, u54, u55, u56, u57, u58, u59, u60, u61, u62, u63, u64, u65, u66, u67, u68, u69, u70, u71, u72, u73, u74, u75, u76, u77, u78, u79, u80, u81, u82, u83, u84, u85, u86, u87, u88, u89, u90, u91, u92, u93, u94, u95, u96, u97, u98, u99, u100, u101, u102, u103, u104, u105, u106, u107, u108, u109, u110, u111, u112, u113, u114, u115, u116, u117, u118, u119, u120, u121, u122], []⟩ wr := by
  have HR := toHid hrest
  clear hrest
  conv => arg 2; whnf
  go_wp2_with fail
  cases b with
  | true =>
    have h3 : acc2 = acc := by rw [h2, if_pos rfl]
    clear h2
    subst h3
    go_loopg [4, 9] 1 (fun gk v4 v9 wx => gk = 1 ∧ v4 = .string ⟨acc2.toArray⟩ ∧ v9 = .int .i64 0 ∧ wx = wr)
    case atStart => exact ⟨rfl, rfl, rfl, rfl⟩
    case round =>
      obtain ⟨_, rfl, rfl, rfl⟩ := hrel
      go_wp2
      all_goals exact HR.out _ _ _ _ _ _ _ _ _ _ _ _ _ rfl
  | false =>
    have h3 : acc2 = acc ++ Lib.repeatL [32, 32, 32, 32] d := by rw [h2, if_neg (by decide)]
    clear h2
    subst h3
    go_loopg [4, 9] (d + 1) (fun gk v4 v9 wx => ∃ k : Nat, gk = d + 1 - k ∧ k ≤ d ∧ v4 = .string ⟨(acc ++ Lib.repeatL [32, 32, 32, 32] k).toArray⟩ ∧ v9 = .int .i64 (k : Int) ∧ wx = wr)
    case atStart => exact ⟨0, rfl, Nat.zero_le _, by simp [Lib.repeatL], rfl, rfl⟩
    case round =>
      obtain ⟨k, hgk, hk, hv4, hv9, rfl⟩ := hrel
      subst hv4 hv9
      have HG := toHid hgk
      clear hgk
      have hk0 : (0 : Int) ≤ (k : Int) := by omega
      by_cases hlt : k < d
      · have hI : (k : Int) < (d : Int) := by omega
        have hsz : (⟨(acc ++ Lib.repeatL [32, 32, 32, 32] k).toArray⟩ : ByteArray).size ≤ 8500 := by
          rw [str_size, List.length_append, Lib.repeatL_length]
          simp
          omega
        have a1 := fun wx => run_string_add (P := Tryz.prog) wx ⟨(acc ++ Lib.repeatL [32, 32, 32, 32] k).toArray⟩ ⟨#[32, 32, 32, 32]⟩ (by omega) (by decide)
        go_wp2
        go_roundg (d + 1 - (k + 1))
        case measure => have := HG.out; omega
        case rel => exact ⟨k + 1, rfl, by omega, by rw [rep_succ, ← List.append_assoc, ← str_app]; rfl, by go_num, rfl⟩
      · have hI : ¬ (k : Int) < (d : Int) := by omega
        have hkd : k = d := by omega
        subst hkd
        go_wp2
        exact HR.out _ _ _ _ _ _ _ _ _ _ _ _ _ rfl
end Go.Proofs.YtpflpbfnifpchaaGreatDoor
