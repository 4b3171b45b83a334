/-
  Layer 3: the stage's theorem on what is cut.
-/
import Derived.Test.YtehclfpjccfmeaaF3h
namespace Go.Proofs.Ytehclfpjccfmeaa.F3
open Go.RowKit Go.PlainAid V1 C2 M2 M3
set_option linter.unusedVariables false

/-- How many frames of the first i end within k bytes. -/
def mx (ls : List (List UInt8)) (k : Nat) : Nat → Nat
  | 0 => 0
  | i + 1 => if (frms (ls.take (i + 1))).length ≤ k then i + 1 else mx ls k i
theorem mx_on {ls : List (List UInt8)} {k i : Nat} (h : (frms (ls.take (i + 1))).length ≤ k) : mx ls k (i + 1) = i + 1 := by rw [mx, if_pos h]
theorem mx_no {ls : List (List UInt8)} {k i : Nat} (h : ¬ (frms (ls.take (i + 1))).length ≤ k) : mx ls k (i + 1) = mx ls k i := by rw [mx, if_neg h]
theorem mx_spec (ls : List (List UInt8)) (k : Nat) : ∀ i, mx ls k i ≤ i ∧ (frms (ls.take (mx ls k i))).length ≤ k ∧ (mx ls k i = i ∨ k < (frms (ls.take (mx ls k i + 1))).length)
  | 0 => ⟨Nat.le_refl _, by simp [mx, frms], .inl rfl⟩
  | i + 1 => by
    obtain ⟨h1, h2, h3⟩ := mx_spec ls k i
    by_cases h : (frms (ls.take (i + 1))).length ≤ k
    · rw [mx_on h]; exact ⟨Nat.le_refl _, h, .inl rfl⟩
    · rw [mx_no h]
      refine ⟨by omega, h2, .inr ?_⟩
      rcases h3 with h3 | h3
      · rw [h3]; omega
      · exact h3

theorem frms_cut (ls : List (List UInt8)) (k : Nat) (hm : ∀ l ∈ ls, l.length ≤ 1048576) (hk : k ≤ (frms ls).length) :
    ∃ r x, split ((frms ls).take k) = (ls.take (mx ls k ls.length), r, x) ∧ (k : Int) - (r.length : Int) = ((frms (ls.take (mx ls k ls.length))).length : Int) ∧
      ((x = 0 ∧ k = (frms (ls.take (mx ls k ls.length))).length) ∨ (x = 10 ∧ (frms (ls.take (mx ls k ls.length))).length < k)) := by
  obtain ⟨h1, h2, h3⟩ := mx_spec ls k ls.length
  generalize mx ls k ls.length = m at h1 h2 h3
  have hmt : ∀ l ∈ ls.take m, l.length ≤ 1048576 := fun l h => hm l (List.mem_of_mem_take h)
  by_cases hmn : m = ls.length
  · subst hmn
    rw [List.take_length] at h2 ⊢
    obtain rfl : k = (frms ls).length := by omega
    rw [List.take_length]
    exact ⟨[], 0, split_put ls hm, by simp, .inl ⟨rfl, rfl⟩⟩
  · have hlt : m < ls.length := by omega
    have h4 : k < (frms (ls.take (m + 1))).length := by
      rcases h3 with h3 | h3
      · exact absurd h3 hmn
      · exact h3
    have h5 := frms_take ls m hlt
    have h6 := congrArg List.length h5
    rw [List.length_append] at h6
    have h7 : (frms ls).take k = frms (ls.take m) ++ (frm ls[m]).take (k - (frms (ls.take m)).length) := by
      conv => lhs; rw [← List.take_append_drop (m + 1) ls, frms_append, h5, List.append_assoc]
      rw [List.take_append, List.take_of_length_le (by omega), List.take_append_of_le_length (by omega)]
    rw [h7]
    by_cases hk0 : k = (frms (ls.take m)).length
    · refine ⟨[], 0, ?_, by simp; omega, .inl ⟨rfl, hk0⟩⟩
      rw [show k - (frms (ls.take m)).length = 0 by omega, List.take_zero, List.append_nil]
      exact split_put _ hmt
    · refine ⟨_, 10, split_cut _ _ _ hmt (hm _ (List.getElem_mem hlt)) (by omega) (by omega), ?_, .inr ⟨rfl, by omega⟩⟩
      rw [List.length_take]
      omega

theorem rd_take {w : World} {A : Option Addr} {xs : List Value} (h : Rd w A xs) (m : Nat) : Rd w A (xs.take m) := by
  rcases h with rfl | ⟨b, off, e, hb, hc⟩
  · exact .inl (by simp)
  · refine .inr ⟨b, off, e, hb, fun j hj => ?_⟩
    rw [List.length_take] at hj
    rw [hc j (by omega)]
    simp
theorem strs_take (ls : List (List UInt8)) (m : Nat) : (strs ls).take m = strs (ls.take m) := by simp [strs]
theorem ends_get {ls : List (List UInt8)} {k : Nat} (h : k < (ints (endsOf ls)).length) : (ints (endsOf ls))[k] = .int .i64 ((frms (ls.take (k + 1))).length : Int) := by
  simp [ints, endsOf]

/-- WHAT THE LOOP OF FrameCuts KEEPS. -/
def CutRel (ls : List (List UInt8)) (k : Nat) (w : World) (m u i : Value) (wr : World) : Prop :=
  ∃ j : Nat, j ≤ ls.length ∧ i = .int .i64 (j : Int) ∧ m = .int .i64 ((mx ls k j : Nat) : Int) ∧ u = .int .i64 (((frms (ls.take (mx ls k j))).length : Nat) : Int) ∧ Below w.heap.size w wr

set_option maxRecDepth 100000 in
set_option maxHeartbeats 2000000 in
theorem lawCuts (w : World) (a : Option Addr) (len cap : Nat) (ss : List ByteArray) (hrow : IsStrs w a len cap ss) (hc : cap * 16 ≤ 140737488351232) (n : Int) (h1 : -9223372036854775808 ≤ n) (hn : n ≤ 9223372036854775807) :
    Calls Try.prog 6 #[.slice a len cap, .int .i64 n] w fun e w' => e = .returned (.bool true) ∧ Below w.heap.size w w' := by
  obtain ⟨ls, hr, rfl, hz, hlc⟩ := row_strs hrow hc
  have HL := Lib.hid hr
  have HZ := Lib.hid hz
  clear hr hz hrow
  have hand := law_and65535 n
  go_enter Try.func6, Try.ntmps6
  go_wp2_with fail
  refine (awake_any _).mono ?_
  rintro e w1 ⟨rfl, hb1⟩
  have HL := Lib.hid (HL.out.keep hb1)
  go_wp2_with fail
  refine (few_any a ls.length cap ls _ HL.out rfl (by omega) (fun l h => Nat.le_trans (HZ.out l h) (by omega))).mono ?_
  rintro e w2 ⟨rfl, rfl⟩
  cases hf : fewB ls with
  | false =>
    go_wp2
    go_ret
    exact ⟨rfl, hb1⟩
  | true =>
    obtain ⟨ht, h50⟩ := fewB_ok hf
    have hm : ∀ l ∈ ls, l.length ≤ 1048576 := fun l h => by have := mem_total h; omega
    have hft := frms_total ls hm
    have HM := Lib.hid hm
    clear hf hm
    go_wp2_with fail
    refine (all_any a ls.length cap ls _ HL.out rfl (by omega)).mono ?_
    rintro e w2 ⟨v, rfl, ho, hb2⟩
    have hb1 := chain hb1 hb2
    have HL := Lib.hid (HL.out.keep hb2)
    obtain ⟨A, c, rfl, he, _⟩ := Rd.of_own ho
    have HE := Lib.hid he
    clear hb2 ho he
    have hsz : (bs (frms ls)).size = (frms ls).length := rfl
    obtain ⟨k, hkv, hk⟩ : ∃ k : Nat, (n % 65536) % ((frms ls).length + 1 : Int) = (k : Int) ∧ k ≤ (frms ls).length := by
      refine ⟨((n % 65536) % ((frms ls).length + 1 : Int)).toNat, ?_, ?_⟩
      · have := Int.emod_nonneg (n % 65536) (b := ((frms ls).length + 1 : Int)) (by omega); omega
      · have := Int.emod_lt_of_pos (n % 65536) (b := ((frms ls).length + 1 : Int)) (by omega); omega
    obtain ⟨r, x, hcut, hrk, hx⟩ := frms_cut ls k HM.out hk
    have hn2 : 0 ≤ n % 65536 := by omega
    have hn3 : n % 65536 < 65536 := by omega
    have hex : (bs (frms ls)).extract 0 k = bs ((frms ls).take k) := ext_pre (frms ls) k
    have hbk : (bs ((frms ls).take k)).size = k := by rw [bs_size, List.length_take]; omega
    have hmx := (mx_spec ls k ls.length).1
    have HC := Lib.hid hcut
    have HX := Lib.hid hx
    have HRK := Lib.hid hrk
    have HEX := Lib.hid hex
    have HBK := Lib.hid hbk
    clear hcut hx hrk hex hbk
    go_wp2
    go_loopw [9, 10, 11] (fun m u i wr => CutRel ls k w2 m u i wr) (fun _ _ i _ => ls.length - (intOf i).toNat)
    case atStart => exact ⟨0, by omega, rfl, rfl, by simp [mx, frms], Below.refl _ _⟩
    case round =>
      obtain ⟨j, hj, rfl, rfl, rfl, hbw⟩ := hrel
      have hbn : ∀ n, Below w2.heap.size w2 (wr.drewN n) := fun n => below_drewN hbw n
      have HN := Lib.hid hbn
      clear hbn
      by_cases hlt : j < ls.length
      · have h2 := HE.out.keep hbw
        obtain ⟨b, off, rfl, hbl, hcc⟩ := h2.get (k := j) (by rw [ints_len, endsOf_len]; exact hlt)
        rw [ends_get] at hcc
        have hle2 := frms_le ls (j + 1)
        have hd : decide ((j : Int) < (ls.length : Int)) = true := by simp; omega
        clear h2
        by_cases hc1 : (frms (ls.take (j + 1))).length ≤ k
        · have HM1 := Lib.hid (mx_on hc1)
          have hd2 : decide (((frms (ls.take (j + 1))).length : Int) ≤ (k : Int)) = true := by simp; omega
          go_wp2
          go_quiet (fail)
          go_wp2
          go_roundw
          case rel => exact ⟨j + 1, by omega, by go_num, by rw [HM1.out]; simp, by rw [HM1.out], HN.out nq⟩
          case measure => simp [intOf]; omega
        · have HM1 := Lib.hid (mx_no hc1)
          have hd2 : decide (((frms (ls.take (j + 1))).length : Int) ≤ (k : Int)) = false := by simp; omega
          go_wp2
          go_roundw
          case rel => exact ⟨j + 1, by omega, by go_num, by rw [HM1.out], by rw [HM1.out], hbw⟩
          case measure => simp [intOf]; omega
      · obtain rfl : j = ls.length := by omega
        have HLR := Lib.hid (HL.out.keep hbw)
        have hbw := chain hb1 hbw
        generalize mx ls k ls.length = m at hmx HC HX HRK
        have hke : IntKind.i64.wrap (k : Int) = (k : Int) := IntWalk.i64_in _ (by omega)
        have hkl : k ≤ (bs (frms ls)).size := by rw [bs_size]; exact hk
        go_wp2
        go_region_with (first | (go_at_call 9; refine (tb_false _).mono ?_; rintro e w3 ⟨A2, c2, rfl, hr2, hb2⟩) | (go_at_call 14; rw [HEX.out]; refine (split_as (s := bs ((frms ls).take k)) (by rw [HBK.out]; omega) hr2 HC.out).mono ?_; rintro e w4 ⟨B, d, rfl, hrd, hb3⟩))
        all_goals rw [HBK.out, HRK.out]
        all_goals have hb := chain (chain hbw (below_drew1 hb2)) hb3
        all_goals have hl4 := rd_take ((HLR.out.keep (below_drew1 hb2)).keep hb3) m
        all_goals rw [strs_take] at hl4
        all_goals have HL4 := Lib.hid hl4
        all_goals have HD := Lib.hid hrd
        all_goals clear hb2 hb3 hrd hl4 hr2 hbw
        all_goals have hml : (ls.take m).length = m := by rw [List.length_take]; omega
        all_goals rcases HX.out with ⟨rfl, hku⟩ | ⟨rfl, hku⟩
        all_goals first | (have hq : ((k : Int) == ((frms (ls.take m)).length : Int)) = true := beq_iff_eq.2 (by omega)) | (have hq : decide (((frms (ls.take m)).length : Int) < (k : Int)) = true := by simp; omega)
        all_goals clear hku
        all_goals go_wp2_with fail
        all_goals refine (same_any _ _ _ _ _ (ls.take m) _ HD.out HL4.out hml (by omega)).mono ?_
        all_goals rintro e w5 ⟨rfl, hb5⟩
        all_goals go_wp2
        all_goals go_ret
        all_goals exact ⟨by first | (simp; done) | (simp at hq ⊢; omega), chain hb hb5⟩

end Go.Proofs.Ytehclfpjccfmeaa.F3
