/- The document's answer for package lex: TokensText, what it writes. -/
import Derived.Test.YtpflpbfnifpchaaGreatDoorTextsB
namespace Go.Proofs.YtpflpbfnifpchaaGreatDoor
open Go.RowKit

set_option maxRecDepth 100000 in
set_option maxHeartbeats 2000000 in
theorem tt_b0 {l : List (ByteArray × ByteArray × Int)} {xa : Option Addr} {x xo cap : Nat} {w wr : World} {u1 u2 u3 u8 u9 u10 u11 u12 u13 u14 u15 u16 u17 u18 u19 u20 u21 u22 u23 u24 u25 u26 u27 u28 u29 u30 u31 u32 u33 u34 u35 u36 u37 u38 u39 u40 u41 u42 u43 u44 u45 u46 u47 u48 u49 u50 u51 u52 u53 u54 u55 u56 u57 u58 u59 u60 u61 u62 u63 u64 u65 u66 u67 u68 u69 u70 u71 u72 u73 u74 u75 u76 u77 u78 u79 u80 u81 u82 u83 u84 u85 u86 u87 u88 u89 u90 u91 u92 u93 u94 u95 u96 u97 u98 u99 u100 u101 u102 u103 u104 u105 u106 u107 u108 u109 u110 u111 u112 u113 u114 u115 u116 u117 u118 u119 u120 u121 u122 : Value} {K : Act → World → Prop} {Q : Exit → Act → World → Prop}
    (hxa : 0 < l.length → xa = some ⟨x, xo, none⟩) (hl : l.length ≤ 600) (hs : ∀ y ∈ l, y.2.1.size ≤ 3000) (hx0 : 0 < l.length → x < w.heap.size) (HC : Hid (InRow w x xo l)) (hbr : Below w.heap.size w wr)
    (hrest : ∀ (v13 v14 v15 v16 v17 v18 v19 v20 v21 v22 v23 v24 v25 v26 v27 v28 v29 v30 v31 v32 v33 v34 v35 v36 v37 v38 v39 v40 v41 v42 v43 v44 v45 v46 v47 v48 v49 v50 v51 v52 v53 v54 v55 v56 v57 v58 v59 v60 v61 v62 v63 v64 v65 v66 v67 v68 v69 v70 v71 v72 v73 v74 v75 v76 v2 v3 v5 v6 v7 v8 v9 : Value) (acc : List UInt8) (wx : World), (writtenL (plainT l) 0 false [] = some acc ∧ acc.length ≤ 6000 ∧ Below w.heap.size w wx) → K ⟨#[.slice xa l.length cap, u1, v2, v3, .string ⟨acc.toArray⟩, v5, v6, v7, v8, v9, u10, u11, u12, v13, v14, v15, v16, v17, v18, v19, v20, v21, v22, v23, v24, v25, v26, v27, v28, v29, v30, v31, v32, v33, v34, v35, v36, v37, v38, v39, v40, v41, v42, v43, v44, v45, v46, v47, v48, v49, v50, v51, v52, v53, v54, v55, v56, v57, v58, v59, v60, v61, v62, v63, v64, v65, v66, v67, v68, v69, v70, v71, v72, v73, v74, v75, v76, u77, u78, u79, u80, u81, u82, u83, u84, u85, u86, u87, u88, u89, u90, u91, u92, u93, u94, u95, u96, u97, u98, u99, u100, u101, u102, u103, u104, u105, u106, u107, u108, u109, u110, u111, u112, u113, u114, u115, u116, u117, u118, u119, u120, u121, u122], []⟩ wx)
    (hret : ∀ (v13 v14 v15 v16 v17 v18 v19 v20 v21 v22 v23 v24 v25 v26 v27 v28 v29 v30 v31 v32 v33 v34 v35 v36 v37 v38 v39 v40 v41 v42 v43 v44 v45 v46 v47 v48 v49 v50 v51 v52 v53 v54 v55 v56 v57 v58 v59 v60 v61 v62 v63 v64 v65 v66 v67 v68 v69 v70 v71 v72 v73 v74 v75 v76 v4 v5 v6 v7 v8 v9 : Value) (wx : World), (writtenL (plainT l) 0 false [] = none ∧ Below w.heap.size w wx) → Q .ret ⟨#[.slice xa l.length cap, u1, .string ⟨#[]⟩, .bool false, v4, v5, v6, v7, v8, v9, u10, u11, u12, v13, v14, v15, v16, v17, v18, v19, v20, v21, v22, v23, v24, v25, v26, v27, v28, v29, v30, v31, v32, v33, v34, v35, v36, v37, v38, v39, v40, v41, v42, v43, v44, v45, v46, v47, v48, v49, v50, v51, v52, v53, v54, v55, v56, v57, v58, v59, v60, v61, v62, v63, v64, v65, v66, v67, v68, v69, v70, v71, v72, v73, v74, v75, v76, u77, u78, u79, u80, u81, u82, u83, u84, u85, u86, u87, u88, u89, u90, u91, u92, u93, u94, u95, u96, u97, u98, u99, u100, u101, u102, u103, u104, u105, u106, u107, u108, u109, u110, u111, u112, u113, u114, u115, u116, u117, u118, u119, u120, u121, u122], []⟩ wx) :
    Code.wp Tryz.prog (blockOf Tryz.f13 0) (Exit.then K Q) ⟨#[.slice xa l.length cap, u1, u2, u3, .string ⟨#[]⟩, .int .i64 0, .bool false, .int .i64 0, u8, u9, u10, u11, u12, u13, u14, u15, u16, u17, u18, u19, u20, u21, u22, u23, u24, u25, u26, u27, u28, u29, u30, u31, u32, u33, u34, u35, u36, u37, u38, u39, u40, u41, u42, u43, u44, u45, u46, u47, u48, u49, u50, u51, u52, u53, u54, u55, u56, u57, u58, u59, u60, u61, u62, u63, u64, u65, u66, u67, u68, u69, u70, u71, u72, u73, u74, u75, u76, u77, u78, u79, u80, u81, u82, u83, u84, u85, u86, u87, u88, u89, u90, u91, u92, u93, u94, u95, u96, u97, u98, u99, u100, u101, u102, u103, u104, u105, u106, u107, u108, u109, u110, u111, u112, u113, u114, u115, u116, u117, u118, u119, u120, u121, u122], []⟩ wr := by
  have HR := toHid hrest
  have HT := toHid hret
  have HSZ := toHid hs
  clear hrest hret hs
  conv => arg 2; whnf
  go_wp2_with fail
  go_loopg [4, 5, 6, 7] (l.length + 1) (fun gk v4 v5 v6 v7 wx => ∃ (j d : Nat) (b : Bool) (acc : List UInt8), gk = l.length + 1 - j ∧ j ≤ l.length ∧ v5 = .int .i64 (d : Int) ∧ v6 = .bool b ∧ v4 = .string ⟨acc.toArray⟩ ∧ v7 = .int .i64 (j : Int) ∧ d ≤ j ∧ acc.length ≤ 6000 ∧ writtenL ((plainT l).drop j) d b acc = writtenL (plainT l) 0 false [] ∧ Below w.heap.size w wx)
  case atStart => exact ⟨0, 0, false, [], rfl, Nat.zero_le _, rfl, rfl, rfl, rfl, Nat.le_refl _, by simp, rfl, hbr⟩
  case round =>
    obtain ⟨j, d, b, acc, hgk, hj, hv5, hv6, hv4, hv7, hdj, hacc, hwr, hb⟩ := hrel
    subst hv4 hv5 hv6 hv7
    have HG := toHid hgk
    have HW := toHid hwr
    clear hgk hwr hbr
    have hj0 : (0 : Int) ≤ (j : Int) := by omega
    have hd0 : (0 : Int) ≤ (d : Int) := by omega
    have has : (⟨acc.toArray⟩ : ByteArray).size = acc.length := str_size acc
    by_cases hlt : j < l.length
    · have hI : (j : Int) < (l.length : Int) := by omega
      have hx := hx0 (by omega)
      obtain rfl := hxa (by omega)
      clear hxa hx0
      obtain ⟨y, hy⟩ : ∃ y, l[j]? = some y := ⟨l[j], by simp [hlt]⟩
      obtain ⟨c1, c2, c3⟩ := (HC.out.below hb hx) j y hy
      have hys := HSZ.out y (List.mem_of_getElem? hy)
      have HD : Hid ((plainT l).drop j = (y.1, y.2.1, 0) :: (plainT l).drop (j + 1)) := by
        show _ = _
        have h := plain_get hy
        obtain ⟨hj', e⟩ := List.getElem?_eq_some_iff.1 h
        rw [List.drop_eq_getElem_cons hj', e]
      obtain ⟨k, t, z⟩ := y
      simp only at c1 c2 c3 hys HD
      have hba := hb.alloc hb.size (.cells #[.string k, .string t, .int .i64 z] 53)
      clear hy
      go_upto_block 2 with fail
      go_cut [4, 5, 6] from 13 to 76 (fun v4 v5 v6 wx => Below w.heap.size w wx ∧ ((stepW d b acc (k, t, 0) = none ∧ v4 = .string ⟨acc.toArray⟩ ∧ v5 = .int .i64 (-1)) ∨ ∃ (d' : Nat) (b' : Bool) (acc' : List UInt8), stepW d b acc (k, t, 0) = some (d', b', acc') ∧ v4 = .string ⟨acc'.toArray⟩ ∧ v5 = .int .i64 (d' : Int) ∧ v6 = .bool b' ∧ d' ≤ j + 1 ∧ acc'.length ≤ 40000))
      case first =>
        cases k4 : (k.toList == [110, 101, 119, 108, 105, 110, 101])
        rotate_left
        · have ek : k.toList = [110, 101, 119, 108, 105, 110, 101] := by simpa using k4
          have k1 : (k.toList == [101, 110, 100]) = false := by rw [ek]; rfl
          have k2 : (k.toList == [105, 110, 100, 101, 110, 116]) = false := by rw [ek]; rfl
          have k3 : (k.toList == [100, 101, 100, 101, 110, 116]) = false := by rw [ek]; rfl
          have HST := toHid (stepW_nl (d := d) (b := b) (acc := acc) (t := t) (o := 0) k1 k2 k3 k4)
          clear ek k1 k2 k3
          have a1 := fun wx => run_string_add (P := Tryz.prog) wx ⟨acc.toArray⟩ (strOfNums [10]) (by omega) (by decide)
          have ha1 : (⟨acc.toArray⟩ : ByteArray) ++ strOfNums [10] = ⟨(acc ++ [10]).toArray⟩ := str_app acc [10]
          go_wp2_with fail
          refine (byte_any 10 (by decide) _).mono ?_
          rintro ev w1 ⟨rfl, hb1⟩
          have hb1w := hba.trans (hb1.mono hba.size)
          go_wp2
          go_meet
          case rel => exact ⟨hb1w, .inr ⟨d, false, acc ++ [10], HST.out, rfl, rfl, rfl, by omega, by simp; omega⟩⟩
        cases k2 : (k.toList == [105, 110, 100, 101, 110, 116])
        rotate_left
        · have ek : k.toList = [105, 110, 100, 101, 110, 116] := by simpa using k2
          have k1 : (k.toList == [101, 110, 100]) = false := by rw [ek]; rfl
          have HST := toHid (stepW_ind (d := d) (b := b) (acc := acc) (t := t) (o := 0) k1 k2)
          clear ek k1
          go_wp2
          go_meet
          case rel => exact ⟨hba, .inr ⟨d + 1, b, acc, HST.out, rfl, by go_num, rfl, by omega, by omega⟩⟩
        cases k3 : (k.toList == [100, 101, 100, 101, 110, 116])
        rotate_left
        · have ek : k.toList = [100, 101, 100, 101, 110, 116] := by simpa using k3
          have k1 : (k.toList == [101, 110, 100]) = false := by rw [ek]; rfl
          by_cases h0 : d = 0
          · subst h0
            have HST := toHid (stepW_ded0 (b := b) (acc := acc) (t := t) (o := 0) k1 k2 k3)
            clear ek k1
            go_wp2
            go_meet
            case rel => exact ⟨hba, .inl ⟨HST.out, rfl, rfl⟩⟩
          · have HST := toHid (stepW_ded (b := b) (acc := acc) (t := t) (o := 0) k1 k2 k3 h0)
            clear ek k1
            go_wp2
            go_meet
            case rel => exact ⟨hba, .inr ⟨d - 1, b, acc, HST.out, rfl, by congr 1; omega, rfl, by omega, by omega⟩⟩
        cases k1 : (k.toList == [101, 110, 100])
        rotate_left
        · have HST := toHid (stepW_end (d := d) (b := b) (acc := acc) (t := t) (o := 0) k1)
          go_wp2
          go_meet
          case rel => exact ⟨hba, .inr ⟨d, b, acc, HST.out, rfl, rfl, rfl, by omega, by omega⟩⟩
        have HST := toHid (stepW_tok (d := d) (b := b) (acc := acc) (t := t) (o := 0) k1 k2 k3 k4)
        have hsz := spelt_size k t (by omega)
        have a1 := fun wx => run_string_add (P := Tryz.prog) wx ⟨acc.toArray⟩ ⟨#[32]⟩ (by omega) (by decide)
        have ha1 : (⟨acc.toArray⟩ : ByteArray) ++ (⟨#[32]⟩ : ByteArray) = ⟨(acc ++ [32]).toArray⟩ := str_app acc [32]
        cases b
        · go_upto_block 3 with fail
          refine tt_b3 (acc := acc) (acc2 := acc ++ gapL d false) (d := d) (b := false) (by omega) (by omega) (by rw [if_neg (by decide)]; simp [gapL]) ?_
          intro v28 v29 v30 v31 v32 v33 v34 v35 v36 v37 v38 v9 wy hwy
          subst hwy
          have hgl : (gapL d false).length ≤ 2400 := by
            unfold gapL
            first | (rw [if_pos rfl]; decide) | (rw [if_neg (by decide), Lib.repeatL_length]; simp; omega)
          obtain ⟨accG, hG⟩ : ∃ accG, accG = acc ++ gapL d false := ⟨_, rfl⟩
          have hGl : accG.length ≤ 8400 := by rw [hG, List.length_append]; omega
          rw [← hG]
          have HGG := toHid hG
          clear hG hgl a1 ha1
          have hGs : (⟨accG.toArray⟩ : ByteArray).size = accG.length := str_size accG
          cases k5 : (k.toList == [115, 116, 114])
          · have HSP : Hid (speltB k t = t) := by
              show _ = _
              unfold speltB strB
              rw [k5, if_neg (by decide)]
            have a2 := fun wx => run_string_add (P := Tryz.prog) wx ⟨accG.toArray⟩ t (by omega) (by omega)
            have ha2 := str_app2 accG t
            go_wp2
            go_meet
            case rel => exact ⟨hba, .inr ⟨d, true, accG ++ t.data.toList, by rw [HST.out, HGG.out, HSP.out], rfl, rfl, rfl, by omega, by simp; omega⟩⟩
          · have HSP : Hid (speltB k t = quotedB t.data.toList) := by
              show _ = _
              unfold speltB strB
              rw [k5, if_pos rfl]
            rw [HSP.out] at hsz
            have a2 := fun wx => run_string_add (P := Tryz.prog) wx ⟨accG.toArray⟩ (quotedB t.data.toList) (by omega) (by omega)
            have ha2 := str_app2 accG (quotedB t.data.toList)
            go_wp2_with fail
            refine (quoted_fn t (by omega) _).mono ?_
            rintro ev w1 ⟨rfl, hb1⟩
            have hb1w := hba.trans (hb1.mono hba.size)
            go_wp2
            go_meet
            case rel => exact ⟨hb1w, .inr ⟨d, true, accG ++ (quotedB t.data.toList).data.toList, by rw [HST.out, HGG.out, HSP.out], rfl, rfl, rfl, by omega, by rw [List.length_append]; have h9 : (quotedB t.data.toList).data.toList.length = (quotedB t.data.toList).size := (by simp); omega⟩⟩
        · go_upto_block 3 with fail
          refine tt_b3 (acc := acc ++ [32]) (acc2 := acc ++ gapL d true) (d := d) (b := true) (by omega) (by simp; omega) (by rw [if_pos rfl]; simp [gapL]) ?_
          intro v28 v29 v30 v31 v32 v33 v34 v35 v36 v37 v38 v9 wy hwy
          subst hwy
          have hgl : (gapL d true).length ≤ 2400 := by
            unfold gapL
            first | (rw [if_pos rfl]; decide) | (rw [if_neg (by decide), Lib.repeatL_length]; simp; omega)
          obtain ⟨accG, hG⟩ : ∃ accG, accG = acc ++ gapL d true := ⟨_, rfl⟩
          have hGl : accG.length ≤ 8400 := by rw [hG, List.length_append]; omega
          rw [← hG]
          have HGG := toHid hG
          clear hG hgl a1 ha1
          have hGs : (⟨accG.toArray⟩ : ByteArray).size = accG.length := str_size accG
          cases k5 : (k.toList == [115, 116, 114])
          · have HSP : Hid (speltB k t = t) := by
              show _ = _
              unfold speltB strB
              rw [k5, if_neg (by decide)]
            have a2 := fun wx => run_string_add (P := Tryz.prog) wx ⟨accG.toArray⟩ t (by omega) (by omega)
            have ha2 := str_app2 accG t
            go_wp2
            go_meet
            case rel => exact ⟨hba, .inr ⟨d, true, accG ++ t.data.toList, by rw [HST.out, HGG.out, HSP.out], rfl, rfl, rfl, by omega, by simp; omega⟩⟩
          · have HSP : Hid (speltB k t = quotedB t.data.toList) := by
              show _ = _
              unfold speltB strB
              rw [k5, if_pos rfl]
            rw [HSP.out] at hsz
            have a2 := fun wx => run_string_add (P := Tryz.prog) wx ⟨accG.toArray⟩ (quotedB t.data.toList) (by omega) (by omega)
            have ha2 := str_app2 accG (quotedB t.data.toList)
            go_wp2_with fail
            refine (quoted_fn t (by omega) _).mono ?_
            rintro ev w1 ⟨rfl, hb1⟩
            have hb1w := hba.trans (hb1.mono hba.size)
            go_wp2
            go_meet
            case rel => exact ⟨hb1w, .inr ⟨d, true, accG ++ (quotedB t.data.toList).data.toList, by rw [HST.out, HGG.out, HSP.out], rfl, rfl, rfl, by omega, by rw [List.length_append]; have h9 : (quotedB t.data.toList).data.toList.length = (quotedB t.data.toList).size := (by simp); omega⟩⟩
      case rest =>
        obtain ⟨hbc, hstep⟩ := hcut
        clear c1 c2 c3 hys
        rcases hstep with ⟨hst, hv4, hv5⟩ | ⟨d', b', acc', hst, hv4, hv5, hv6, hd', ha'⟩
        · subst hv4 hv5
          have HN := toHid (written_none HD.out hst)
          clear hst
          have hI1 : ¬ (6000 : Int) < (acc.length : Int) := by omega
          go_wp2
          exact HT.out _ _ _ _ _ _ _ _ _ _ _ _ _ _ _ _ _ _ _ _ _ _ _ _ _ _ _ _ _ _ _ _ _ _ _ _ _ _ _ _ _ _ _ _ _ _ _ _ _ _ _ _ _ _ _ _ _ _ _ _ _ _ _ _ _ _ _ _ _ _ _ ⟨HW.out.symm.trans HN.out, hbc⟩
        · subst hv4 hv5 hv6
          have HN := written_step HD.out hst
          have has' : (⟨acc'.toArray⟩ : ByteArray).size = acc'.length := str_size acc'
          clear hst
          by_cases h6 : 6000 < acc'.length
          · have hI1 : (6000 : Int) < (acc'.length : Int) := by omega
            rw [if_pos (.inr h6)] at HN
            have HN' := toHid HN
            clear HN
            go_wp2
            exact HT.out _ _ _ _ _ _ _ _ _ _ _ _ _ _ _ _ _ _ _ _ _ _ _ _ _ _ _ _ _ _ _ _ _ _ _ _ _ _ _ _ _ _ _ _ _ _ _ _ _ _ _ _ _ _ _ _ _ _ _ _ _ _ _ _ _ _ _ _ _ _ _ ⟨HW.out.symm.trans HN'.out, hbc⟩
          · have hI1 : ¬ (6000 : Int) < (acc'.length : Int) := by omega
            have hI2 : ¬ (d' : Int) < 0 := by omega
            have hI3 : ¬ (2000 : Int) < (d' : Int) := by omega
            rw [if_neg (by omega)] at HN
            have HN' := toHid HN
            clear HN
            go_wp2
            go_roundg (l.length + 1 - (j + 1))
            case measure => have := HG.out; omega
            case rel => exact ⟨j + 1, d', b', acc', rfl, by omega, rfl, rfl, rfl, by go_num, by omega, by omega, HN'.out.symm.trans HW.out, hbc⟩
    · have hI : ¬ (j : Int) < (l.length : Int) := by omega
      have HF : Hid (writtenL (plainT l) 0 false [] = some acc) := by
        show _ = _
        rw [← HW.out, List.drop_eq_nil_of_le (by simp [plainT]; omega)]
        rfl
      go_wp2
      exact HR.out _ _ _ _ _ _ _ _ _ _ _ _ _ _ _ _ _ _ _ _ _ _ _ _ _ _ _ _ _ _ _ _ _ _ _ _ _ _ _ _ _ _ _ _ _ _ _ _ _ _ _ _ _ _ _ _ _ _ _ _ _ _ _ _ _ _ _ _ _ _ _ acc _ ⟨HF.out, hacc, hb⟩
end Go.Proofs.YtpflpbfnifpchaaGreatDoor
