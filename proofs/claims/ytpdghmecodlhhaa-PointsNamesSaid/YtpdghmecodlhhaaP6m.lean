/-
  Layer 6, walks: the document's Find, its loops.
-/
import Derived.Test.YtpdghmecodlhhaaP6l
namespace Go.Proofs.Ytpdghmecodlhhaa.P6
open Go.RowKit Go.PlainAid M6
set_option linter.unusedVariables false

/-- What the end of a row says. -/
theorem row_said {nm cs : List Nat} {i k : Nat} {ps : List (Nat × Nat)} (hlt : i < cs.length) (hp : partN cs[i] = true) (hf : fr cs i = true) (h : ps ++ spansD nm (fr cs i) i (cs.drop i) = found nm cs) (hin : InRow cs i k)
    (he : k = cs.length ∨ ∃ h : k < cs.length, partN cs[k] = false) :
    (ps ++ if (cs.drop i).take (k - i) = nm then [(i, k)] else []) ++ spansD nm (fr cs (i + 1)) (i + 1) (cs.drop (i + 1)) = found nm cs := by
  have hc := cut_take hin.1 hin.2.1 hin.2.2 he
  rw [hf, List.drop_eq_getElem_cons hlt, spansD_row i _ hp, ← List.drop_eq_getElem_cons hlt, hc] at h
  have hl : ((cs.drop i).take (k - i)).length = k - i := by rw [List.length_take, List.length_drop]; have := hin.2.1; omega
  rw [hl, show i + (k - i) = k by have := hin.1; omega] at h
  rw [fr_next hlt, hp, List.append_assoc]
  exact h
theorem on_none {nm cs : List Nat} (hn : nm ≠ []) {i : Nat} {ps : List (Nat × Nat)} (hlt : i < cs.length) (hp : partN cs[i] = false) (h : ps ++ spansD nm (fr cs i) i (cs.drop i) = found nm cs) :
    ps ++ spansD nm (fr cs (i + 1)) (i + 1) (cs.drop (i + 1)) = found nm cs := by
  rw [List.drop_eq_getElem_cons hlt, spansD_none hn _ i _ hp] at h
  rw [fr_next hlt, hp]
  exact h
theorem on_part {nm cs : List Nat} {i : Nat} {ps : List (Nat × Nat)} (hlt : i < cs.length) (hp : partN cs[i] = true) (hf : fr cs i = false) (h : ps ++ spansD nm (fr cs i) i (cs.drop i) = found nm cs) :
    ps ++ spansD nm (fr cs (i + 1)) (i + 1) (cs.drop (i + 1)) = found nm cs := by
  rw [hf, List.drop_eq_getElem_cons hlt, spansD_on i _ hp] at h
  rw [fr_next hlt, hp]
  exact h
theorem sp_len {nm cs : List Nat} (hn : nm ≠ []) {i : Nat} {ps : List (Nat × Nat)} {f : Bool} (h : ps ++ spansD nm f i (cs.drop i) = found nm cs) : ps.length ≤ cs.length := by
  have := found_le hn cs
  have := congrArg List.length h
  rw [List.length_append] at this; omega

set_option maxRecDepth 100000 in
set_option maxHeartbeats 4000000 in
theorem refFind_good {cs : List Nat} (h : Txt cs) (hz : (flat cs).length ≤ 1099511627776) {nm : List UInt8} (hn : identB nm = true) (hz2 : nm.length ≤ 1099511627776) (w : World) :
    Calls Try.prog 20 #[.string (bs (flat cs)), .string (bs nm)] w (Found2 (nums nm) cs w) := by
  obtain ⟨i0, hi0, hz0, hz1, hz3⟩ := info_parts info_span
  have HR := Lib.hid (refSplit_good h hz)
  have hid := refIdent_any nm hz2
  rw [hn] at hid
  have HI := Lib.hid hid
  have HZ := Lib.hid hz
  have hcl : cs.length ≤ 1099511627776 := Nat.le_trans flat_len_le hz
  have hnl := Lib.hid (identB_parts hn)
  have hne : nums nm ≠ [] := by have := identB_ne hn; unfold nums; simpa using this
  have HN := Lib.hid hne
  clear h hz hid hn hne
  generalize bs (flat cs) = s at *
  go_enter Try.func20, Try.ntmps20
  go_wp2_with fail
  refine (HR.out _).mono ?_
  rintro e w1 ⟨A, c, rfl, hr, hc, hb⟩
  have HRD := Lib.hid hr
  clear hr HR
  go_wp2_with fail
  refine (HI.out _).mono ?_
  rintro e w2 ⟨rfl, rfl⟩
  have h0 : RfRel (nums nm) cs w1 (.slice none 0 0) (.int .i64 0) w1 := ⟨0, [], by omega, rfl, found_D _ _, World.ownsRow_nil _ _ _ _, Below.refl _ _⟩
  have H0 := Lib.hid h0
  clear h0 HI
  go_wp2
  go_loopw [8, 9] (fun v si wr => RfRel (nums nm) cs w1 v si wr) (fun _ si _ => cs.length - (intOf si).toNat)
  case atStart => exact H0.out
  case round =>
    clear H0
    obtain ⟨i, ps, hi, rfl, hsp, ho, hbw⟩ := hrel
    have HS := Lib.hid hsp
    have HO := Lib.hid ho
    have hpl := sp_len HN.out hsp
    have hBw : w1.heap.size ≤ wr.heap.size := hbw.size
    clear hsp ho
    by_cases hlt : i < cs.length
    rotate_left
    · have he : ps = found (nums nm) cs := by
        have := HS.out
        rw [List.drop_of_length_le (by omega), spansD_nil _ HN.out, List.append_nil] at this
        exact this
      have ho := HO.out
      rw [he] at ho
      obtain ⟨B1, d1, rfl, r1, _⟩ := Rd.of_two ho
      clear ho he HO HS
      go_wp2
      go_ret2
      exact ⟨_, _, rfl, r1, chain hb hbw⟩
    · have hrd := HRD.out.keep hbw
      have HRW := Lib.hid hrd
      obtain ⟨b0, off, rfl, hbl, hcell⟩ := hrd.get (k := i) (by rw [pcs_len]; exact hlt)
      rw [pcs_get] at hcell
      have hpp := refPart_enc cs[i]
      clear hrd
      cases hpi : partN cs[i] with
      | false =>
        have HS2 := Lib.hid (on_none HN.out hlt hpi HS.out)
        rw [hpi] at hpp
        have HPP := Lib.hid hpp
        clear hpp hpi HS
        generalize cs[i] = ci at hcell HPP
        go_wp2_with fail
        refine (HPP.out _).mono ?_
        rintro e w3 ⟨rfl, rfl⟩
        go_wp2
        go_roundw
        case rel => exact ⟨i + 1, ps, by omega, by go_num, HS2.out, HO.out, hbw⟩
        case measure => simp [intOf]; omega
      | true =>
        rw [hpi] at hpp
        have HPP := Lib.hid hpp
        have HPI := Lib.hid hpi
        clear hpp hpi
        have hways : (i = 0 ∧ fr cs i = true) ∨ (∃ j, ∃ hj : j < cs.length, i = j + 1 ∧ partN cs[j] = false ∧ fr cs i = true) ∨ (∃ j, ∃ hj : j < cs.length, i = j + 1 ∧ partN cs[j] = true ∧ fr cs i = false) := by
          cases i with
          | zero => exact .inl ⟨rfl, rfl⟩
          | succ j =>
            have hj : j < cs.length := by omega
            cases hp : partN cs[j]
            · exact .inr (.inl ⟨j, hj, rfl, hp, by rw [fr_next hj, hp]; rfl⟩)
            · exact .inr (.inr ⟨j, hj, rfl, hp, by rw [fr_next hj, hp]; rfl⟩)
        rcases hways with ⟨h0, hfr⟩ | ⟨j, hj, hij, hpj, hfr⟩ | ⟨j, hj, hij, hpj, hfr⟩
        rotate_right
        · have HS2 := Lib.hid (on_part hlt HPI.out hfr HS.out)
          have hcj := Rd.cellAt HRW.out (k := j) (by rw [pcs_len]; exact hj)
          rw [pcs_get] at hcj
          have hpp := refPart_enc cs[j]
          rw [hpj] at hpp
          have HPJ := Lib.hid hpp
          have hsub : (i : Int) - 1 = (j : Int) := by omega
          have hpos : 0 < (i : Int) := by omega
          clear hpp hpj hfr hij HS
          generalize cs[i] = ci at hcell HPP
          generalize cs[j] = cj at hcj HPJ
          go_wp2_with fail
          refine (HPP.out _).mono ?_
          rintro e w3 ⟨rfl, rfl⟩
          go_wp2_with fail
          refine (HPJ.out _).mono ?_
          rintro e w3 ⟨rfl, rfl⟩
          go_wp2
          go_roundw
          case rel => exact ⟨i + 1, ps, by omega, by go_num, HS2.out, HO.out, hbw⟩
          case measure => simp [intOf]; omega
        · have hz0' : decide (0 < (i : Int)) = false := by simp; omega
          have HSAY := Lib.hid (fun k hin he => row_said (k := k) hlt HPI.out hfr HS.out hin he)
          have hle0 : ¬ 0 < (i : Int) := by omega
          clear h0 hfr HS HPI
          generalize cs[i] = ci at hcell HPP
          go_wp2_with fail
          refine (HPP.out _).mono ?_
          rintro e w3 ⟨rfl, rfl⟩
          go_wp2
          go_loop [10] (fun sk => ∃ k : Nat, sk = .int .i64 (k : Int) ∧ InRow cs i k) (fun sk => cs.length - (intOf sk).toNat)
          case atStart => exact ⟨i, rfl, Nat.le_refl _, hi, by simp⟩
          case round =>
            obtain ⟨k, rfl, hin⟩ := hrel
            have hki := hin.1
            have hkn := hin.2.1
            have hfle := flat_sub_le (cs := cs) i (k - i)
            have hflz := HZ.out
            have hsub2 := pcs_sub HRW.out hc (f := i) (t := k) hki hkn
            have hsl := sslice_lt (A := some ⟨b0, off, none⟩) (n := cs.length) (c := c) hki (by omega) wr
            have hjo := join_any (n := k - i) (c := c - i) hsub2 (by simp; omega) (by omega)
            have HFR := Lib.hid (flat_row hin.2.2 hnl.out)
            have HJO := Lib.hid hjo
            have HIN := Lib.hid hin
            clear hin hfle hflz hsub2 hjo
            generalize sub (some ⟨b0, off, none⟩) c i = sa at *
            by_cases hkl : k < cs.length
            · have hck := Rd.cellAt HRW.out (k := k) (by rw [pcs_len]; exact hkl)
              rw [pcs_get] at hck
              have hpp := refPart_enc cs[k]
              cases hpk : partN cs[k] with
              | true =>
                have HIN2 := Lib.hid (HIN.out.step hkl hpk)
                rw [hpk] at hpp
                have HPK := Lib.hid hpp
                clear hpp hpk HSAY HIN HFR HJO hsl
                generalize cs[k] = ck at hck HPK
                go_wp2_with fail
                refine (HPK.out _).mono ?_
                rintro e w3 ⟨rfl, rfl⟩
                go_wp2
                go_round
                case rel => exact ⟨k + 1, by go_num, HIN2.out⟩
                case measure => simp [intOf]; omega
              | false =>
                have HSD := Lib.hid (HSAY.out k HIN.out (.inr ⟨hkl, hpk⟩))
                rw [hpk] at hpp
                have HPK := Lib.hid hpp
                clear hpp hpk HSAY HIN
                generalize (cs.drop i).take (k - i) = row at *
                generalize cs[k] = ck at hck HPK
                by_cases hrn : row = nums nm
                · have heq : ((bs (flat row)).toList == (bs nm).toList) = true := by rw [bs_toList, bs_toList, HFR.out.2 hrn]; simp
                  rw [if_pos hrn] at HSD
                  clear hrn HFR
                  go_wp2_with fail
                  refine (HPK.out _).mono ?_
                  rintro e w3 ⟨rfl, rfl⟩
                  go_wp2_with fail
                  refine HJO.out.mono ?_
                  rintro e w3 ⟨rfl, rfl⟩
                  go_wp2_with (at_builtin; refine wpList_append_own _ rfl (.tmp 67) (.tmp 71) 38 rfl w1.heap.size 42 i0 (.agg #[.int .i64 0, .int .i64 0]) 2 16 Try.underlying38 hi0 hz0 hz1 hz3 rfl (by decide) _ _ _ rfl (HO.out.alloc _) ⟨wr.heap.size, 0, none⟩ 1 1 _ rfl rfl (cell_two_new _ _ _ _) (by simp [Value.oneCell']) (by unfold maxLen; omega) (by omega) (by simp; omega) ?_; intro v1 w4 hown1 hg1 _)
                  go_wp2
                  have hb4 := (hbw.alloc hBw _).grown hg1 (by simp; omega) (fun q hq => (HO.out.lt q hq).1)
                  go_roundw
                  case rel =>
                    refine ⟨i + 1, ps ++ [(i, k)], by omega, by go_num, HSD.out, ?_, hb4⟩
                    rw [spc_snoc, List.length_append]
                    exact hown1
                  case measure => simp [intOf]; omega
                · have heq : ((bs (flat row)).toList == (bs nm).toList) = false := by
                    rw [bs_toList, bs_toList]
                    cases he : (flat row == nm)
                    · rfl
                    · exact absurd (HFR.out.1 (by simpa using he)) hrn
                  rw [if_neg hrn, List.append_nil] at HSD
                  clear hrn HFR
                  go_wp2_with fail
                  refine (HPK.out _).mono ?_
                  rintro e w3 ⟨rfl, rfl⟩
                  go_wp2_with fail
                  refine HJO.out.mono ?_
                  rintro e w3 ⟨rfl, rfl⟩
                  go_wp2
                  go_roundw
                  case rel => exact ⟨i + 1, ps, by omega, by go_num, HSD.out, HO.out, hbw⟩
                  case measure => simp [intOf]; omega
            · have HSD := Lib.hid (HSAY.out k HIN.out (.inl (by omega)))
              clear HSAY HIN
              generalize (cs.drop i).take (k - i) = row at *
              by_cases hrn : row = nums nm
              · have heq : ((bs (flat row)).toList == (bs nm).toList) = true := by rw [bs_toList, bs_toList, HFR.out.2 hrn]; simp
                rw [if_pos hrn] at HSD
                clear hrn HFR
                go_wp2_with fail
                refine HJO.out.mono ?_
                rintro e w3 ⟨rfl, rfl⟩
                go_wp2_with (at_builtin; refine wpList_append_own _ rfl (.tmp 67) (.tmp 71) 38 rfl w1.heap.size 42 i0 (.agg #[.int .i64 0, .int .i64 0]) 2 16 Try.underlying38 hi0 hz0 hz1 hz3 rfl (by decide) _ _ _ rfl (HO.out.alloc _) ⟨wr.heap.size, 0, none⟩ 1 1 _ rfl rfl (cell_two_new _ _ _ _) (by simp [Value.oneCell']) (by unfold maxLen; omega) (by omega) (by simp; omega) ?_; intro v1 w4 hown1 hg1 _)
                go_wp2
                have hb4 := (hbw.alloc hBw _).grown hg1 (by simp; omega) (fun q hq => (HO.out.lt q hq).1)
                go_roundw
                case rel =>
                  refine ⟨i + 1, ps ++ [(i, k)], by omega, by go_num, HSD.out, ?_, hb4⟩
                  rw [spc_snoc, List.length_append]
                  exact hown1
                case measure => simp [intOf]; omega
              · have heq : ((bs (flat row)).toList == (bs nm).toList) = false := by
                  rw [bs_toList, bs_toList]
                  cases he : (flat row == nm)
                  · rfl
                  · exact absurd (HFR.out.1 (by simpa using he)) hrn
                rw [if_neg hrn, List.append_nil] at HSD
                clear hrn HFR
                go_wp2_with fail
                refine HJO.out.mono ?_
                rintro e w3 ⟨rfl, rfl⟩
                go_wp2
                go_roundw
                case rel => exact ⟨i + 1, ps, by omega, by go_num, HSD.out, HO.out, hbw⟩
                case measure => simp [intOf]; omega
        · have HSAY := Lib.hid (fun k hin he => row_said (k := k) hlt HPI.out hfr HS.out hin he)
          have hcj := Rd.cellAt HRW.out (k := j) (by rw [pcs_len]; exact hj)
          rw [pcs_get] at hcj
          have hpp := refPart_enc cs[j]
          rw [hpj] at hpp
          have HPJ := Lib.hid hpp
          have hsubj : (i : Int) - 1 = (j : Int) := by omega
          have hpos : 0 < (i : Int) := by omega
          clear hpp hpj hfr hij HS HPI
          generalize cs[i] = ci at hcell HPP
          generalize cs[j] = cj at hcj HPJ
          go_wp2_with fail
          refine (HPP.out _).mono ?_
          rintro e w3 ⟨rfl, rfl⟩
          go_wp2_with fail
          refine (HPJ.out _).mono ?_
          rintro e w3 ⟨rfl, rfl⟩
          go_wp2
          go_loop [10] (fun sk => ∃ k : Nat, sk = .int .i64 (k : Int) ∧ InRow cs i k) (fun sk => cs.length - (intOf sk).toNat)
          case atStart => exact ⟨i, rfl, Nat.le_refl _, hi, by simp⟩
          case round =>
            obtain ⟨k, rfl, hin⟩ := hrel
            have hki := hin.1
            have hkn := hin.2.1
            have hfle := flat_sub_le (cs := cs) i (k - i)
            have hflz := HZ.out
            have hsub2 := pcs_sub HRW.out hc (f := i) (t := k) hki hkn
            have hsl := sslice_lt (A := some ⟨b0, off, none⟩) (n := cs.length) (c := c) hki (by omega) wr
            have hjo := join_any (n := k - i) (c := c - i) hsub2 (by simp; omega) (by omega)
            have HFR := Lib.hid (flat_row hin.2.2 hnl.out)
            have HJO := Lib.hid hjo
            have HIN := Lib.hid hin
            clear hin hfle hflz hsub2 hjo
            generalize sub (some ⟨b0, off, none⟩) c i = sa at *
            by_cases hkl : k < cs.length
            · have hck := Rd.cellAt HRW.out (k := k) (by rw [pcs_len]; exact hkl)
              rw [pcs_get] at hck
              have hpp := refPart_enc cs[k]
              cases hpk : partN cs[k] with
              | true =>
                have HIN2 := Lib.hid (HIN.out.step hkl hpk)
                rw [hpk] at hpp
                have HPK := Lib.hid hpp
                clear hpp hpk HSAY HIN HFR HJO hsl
                generalize cs[k] = ck at hck HPK
                go_wp2_with fail
                refine (HPK.out _).mono ?_
                rintro e w3 ⟨rfl, rfl⟩
                go_wp2
                go_round
                case rel => exact ⟨k + 1, by go_num, HIN2.out⟩
                case measure => simp [intOf]; omega
              | false =>
                have HSD := Lib.hid (HSAY.out k HIN.out (.inr ⟨hkl, hpk⟩))
                rw [hpk] at hpp
                have HPK := Lib.hid hpp
                clear hpp hpk HSAY HIN
                generalize (cs.drop i).take (k - i) = row at *
                generalize cs[k] = ck at hck HPK
                by_cases hrn : row = nums nm
                · have heq : ((bs (flat row)).toList == (bs nm).toList) = true := by rw [bs_toList, bs_toList, HFR.out.2 hrn]; simp
                  rw [if_pos hrn] at HSD
                  clear hrn HFR
                  go_wp2_with fail
                  refine (HPK.out _).mono ?_
                  rintro e w3 ⟨rfl, rfl⟩
                  go_wp2_with fail
                  refine HJO.out.mono ?_
                  rintro e w3 ⟨rfl, rfl⟩
                  go_wp2_with (at_builtin; refine wpList_append_own _ rfl (.tmp 67) (.tmp 71) 38 rfl w1.heap.size 42 i0 (.agg #[.int .i64 0, .int .i64 0]) 2 16 Try.underlying38 hi0 hz0 hz1 hz3 rfl (by decide) _ _ _ rfl (HO.out.alloc _) ⟨wr.heap.size, 0, none⟩ 1 1 _ rfl rfl (cell_two_new _ _ _ _) (by simp [Value.oneCell']) (by unfold maxLen; omega) (by omega) (by simp; omega) ?_; intro v1 w4 hown1 hg1 _)
                  go_wp2
                  have hb4 := (hbw.alloc hBw _).grown hg1 (by simp; omega) (fun q hq => (HO.out.lt q hq).1)
                  go_roundw
                  case rel =>
                    refine ⟨i + 1, ps ++ [(i, k)], by omega, by go_num, HSD.out, ?_, hb4⟩
                    rw [spc_snoc, List.length_append]
                    exact hown1
                  case measure => simp [intOf]; omega
                · have heq : ((bs (flat row)).toList == (bs nm).toList) = false := by
                    rw [bs_toList, bs_toList]
                    cases he : (flat row == nm)
                    · rfl
                    · exact absurd (HFR.out.1 (by simpa using he)) hrn
                  rw [if_neg hrn, List.append_nil] at HSD
                  clear hrn HFR
                  go_wp2_with fail
                  refine (HPK.out _).mono ?_
                  rintro e w3 ⟨rfl, rfl⟩
                  go_wp2_with fail
                  refine HJO.out.mono ?_
                  rintro e w3 ⟨rfl, rfl⟩
                  go_wp2
                  go_roundw
                  case rel => exact ⟨i + 1, ps, by omega, by go_num, HSD.out, HO.out, hbw⟩
                  case measure => simp [intOf]; omega
            · have HSD := Lib.hid (HSAY.out k HIN.out (.inl (by omega)))
              clear HSAY HIN
              generalize (cs.drop i).take (k - i) = row at *
              by_cases hrn : row = nums nm
              · have heq : ((bs (flat row)).toList == (bs nm).toList) = true := by rw [bs_toList, bs_toList, HFR.out.2 hrn]; simp
                rw [if_pos hrn] at HSD
                clear hrn HFR
                go_wp2_with fail
                refine HJO.out.mono ?_
                rintro e w3 ⟨rfl, rfl⟩
                go_wp2_with (at_builtin; refine wpList_append_own _ rfl (.tmp 67) (.tmp 71) 38 rfl w1.heap.size 42 i0 (.agg #[.int .i64 0, .int .i64 0]) 2 16 Try.underlying38 hi0 hz0 hz1 hz3 rfl (by decide) _ _ _ rfl (HO.out.alloc _) ⟨wr.heap.size, 0, none⟩ 1 1 _ rfl rfl (cell_two_new _ _ _ _) (by simp [Value.oneCell']) (by unfold maxLen; omega) (by omega) (by simp; omega) ?_; intro v1 w4 hown1 hg1 _)
                go_wp2
                have hb4 := (hbw.alloc hBw _).grown hg1 (by simp; omega) (fun q hq => (HO.out.lt q hq).1)
                go_roundw
                case rel =>
                  refine ⟨i + 1, ps ++ [(i, k)], by omega, by go_num, HSD.out, ?_, hb4⟩
                  rw [spc_snoc, List.length_append]
                  exact hown1
                case measure => simp [intOf]; omega
              · have heq : ((bs (flat row)).toList == (bs nm).toList) = false := by
                  rw [bs_toList, bs_toList]
                  cases he : (flat row == nm)
                  · rfl
                  · exact absurd (HFR.out.1 (by simpa using he)) hrn
                rw [if_neg hrn, List.append_nil] at HSD
                clear hrn HFR
                go_wp2_with fail
                refine HJO.out.mono ?_
                rintro e w3 ⟨rfl, rfl⟩
                go_wp2
                go_roundw
                case rel => exact ⟨i + 1, ps, by omega, by go_num, HSD.out, HO.out, hbw⟩
                case measure => simp [intOf]; omega

end Go.Proofs.Ytpdghmecodlhhaa.P6
