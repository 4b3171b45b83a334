/-
  Layer 4, walks: the document's order of two floats; numbers, rates.
-/
import Derived.Test.YtcpacgflljmlaaaG4a
import Derived.Laws.BitsAllLaws
namespace Go.Proofs.Ytcpacgflljmlaaa.G4
open Go.RowKit Go.PlainAid
set_option linter.unusedVariables false
attribute [local go_sem] run_fbits run_ffrom

theorem f_lss0 (f : Nat) (h : isnan f = false) : (FloatKind.f64.format.order f 0 == some .lt) = decide (sr f < 0) := (f_lss f 0).trans (by rw [h, show isnan 0 = false from rfl, show sr 0 = 0 from rfl]; simp)
theorem f_eql0 (f : Nat) (h : isnan f = false) : (FloatKind.f64.format.order f 0 == some .eq) = decide (sr f = 0) := (f_eql f 0).trans (by rw [h, show isnan 0 = false from rfl, show sr 0 = 0 from rfl]; simp)
theorem zero_is {f : Nat} (hf : f < 18446744073709551616) (h : sr f = 0) : f = if sgn f then 9223372036854775808 else 0 := by
  have h1 : rung f = 0 := by unfold sr at h; split at h <;> omega
  have := of_parts hf
  rw [h1] at this
  exact this

set_option maxRecDepth 100000 in
set_option maxHeartbeats 400000 in
theorem rank_any (f : Nat) (w : World) (hf : f < 18446744073709551616) :
    Calls Try.prog 29 #[.float .f64 f] w fun e w' => e = .returned (.int .i64 (rankF f)) ∧ w = w' := by
  cases hn : isnan f
  · have hd : (FloatKind.f64.format.order f f != some .eq) = false := (f_neq_self f).trans hn
    by_cases h1 : sr f < 0
    · have h2 : (FloatKind.f64.format.order f 0 == some .lt) = true := (f_lss0 f hn).trans (decide_eq_true h1)
      go_enter Try.func29, Try.ntmps29
      go_wp2
      go_ret
      exact ⟨ret1i (by unfold rankF; rw [hn]; simp [h1]), rfl⟩
    · have h2 : (FloatKind.f64.format.order f 0 == some .lt) = false := (f_lss0 f hn).trans (decide_eq_false h1)
      by_cases h3 : sr f = 0
      · have h4 : (FloatKind.f64.format.order f 0 == some .eq) = true := (f_eql0 f hn).trans (decide_eq_true h3)
        have hz := zero_is hf h3
        cases hs : sgn f
        · rw [hs] at hz
          simp at hz
          subst hz
          have hq : ∀ w : World, (binOp .quo 24 (.float .f64 4607182418800017408) (.float .f64 0)).run Try.prog w = .ok (.float .f64 9218868437227405312) w := fun w => run_float_arith w .quo _ .f64 _ _ _ (by decide)
          have h5 : (FloatKind.f64.format.order 9218868437227405312 0 == some .lt) = false := by decide
          go_enter Try.func29, Try.ntmps29
          go_wp2
          go_ret
          exact ⟨rfl, rfl⟩
        · rw [hs] at hz
          simp at hz
          subst hz
          have hq : ∀ w : World, (binOp .quo 24 (.float .f64 4607182418800017408) (.float .f64 9223372036854775808)).run Try.prog w = .ok (.float .f64 18442240474082181120) w := fun w => run_float_arith w .quo _ .f64 _ _ _ (by decide)
          have h5 : (FloatKind.f64.format.order 18442240474082181120 0 == some .lt) = true := by decide
          go_enter Try.func29, Try.ntmps29
          go_wp2
          go_ret
          exact ⟨rfl, rfl⟩
      · have h4 : (FloatKind.f64.format.order f 0 == some .eq) = false := (f_eql0 f hn).trans (decide_eq_false h3)
        go_enter Try.func29, Try.ntmps29
        go_wp2
        go_ret
        exact ⟨ret1i (by unfold rankF; rw [hn]; simp [h1, h3]), rfl⟩
  · have hd : (FloatKind.f64.format.order f f != some .eq) = true := (f_neq_self f).trans hn
    go_enter Try.func29, Try.ntmps29
    go_wp2
    go_ret
    exact ⟨ret1i (by unfold rankF; rw [hn]; rfl), rfl⟩

set_option maxRecDepth 100000 in
set_option maxHeartbeats 400000 in
theorem refCmp_any (a b : Nat) (w : World) (ha : a < 18446744073709551616) (hb : b < 18446744073709551616) :
    Calls Try.prog 15 #[.float .f64 a, .float .f64 b] w fun e w' => e = .returned (.int .i64 (cmpF a b)) ∧ w = w' := by
  have p := rank_any a w ha
  have q := rank_any b w hb
  have ra := rank_in a
  have rb := rank_in b
  rcases Int.lt_trichotomy (rankF a) (rankF b) with h | h | h
  · have hr : cmpF a b = -1 := by unfold cmpF; rw [if_pos (rank_lt h)]
    rw [hr]
    generalize rankF a = x at *
    generalize rankF b = y at *
    go_enter Try.func15, Try.ntmps15
    go_wp2_with fail
    refine p.mono ?_
    rintro e w1 ⟨rfl, rfl⟩
    go_wp2_with fail
    refine q.mono ?_
    rintro e w1 ⟨rfl, rfl⟩
    go_wp2
    go_ret
    exact ⟨rfl, rfl⟩
  · by_cases h0 : rankF a = 0
    · have hr : cmpF a b = 0 := cmpF_zero.2 (rank_eq h (.inl h0))
      rw [hr]
      rw [← h] at q
      rw [h0] at p q
      go_enter Try.func15, Try.ntmps15
      go_wp2_with fail
      refine p.mono ?_
      rintro e w1 ⟨rfl, rfl⟩
      go_wp2_with fail
      refine q.mono ?_
      rintro e w1 ⟨rfl, rfl⟩
      go_wp2
      go_ret
      exact ⟨rfl, rfl⟩
    · have na : isnan a = false := by
        cases hh : isnan a
        · rfl
        · exact absurd (rank_zero.2 hh) h0
      have nb : isnan b = false := by
        cases hh : isnan b
        · rfl
        · exact absurd (rank_zero.2 hh) (by rw [← h]; exact h0)
      by_cases h1 : sr a = sr b
      · have hr : cmpF a b = 0 := cmpF_zero.2 (rank_eq h (.inr h1))
        rw [hr]
        have hd : (FloatKind.f64.format.order a b == some .eq) = true := (f_eql a b).trans (decide_eq_true ⟨na, nb, h1⟩)
        rw [← h] at q
        clear rb h h1
        generalize rankF a = x at *
        have hx : (x == 0) = false := beq_eq_false_iff_ne.2 h0
        go_enter Try.func15, Try.ntmps15
        go_wp2_with fail
        refine p.mono ?_
        rintro e w1 ⟨rfl, rfl⟩
        go_wp2_with fail
        refine q.mono ?_
        rintro e w1 ⟨rfl, rfl⟩
        go_wp2
        go_ret
        exact ⟨rfl, rfl⟩
      · have hd : (FloatKind.f64.format.order a b == some .eq) = false := (f_eql a b).trans (decide_eq_false (fun hh => h1 hh.2.2))
        by_cases h2 : sr a < sr b
        · have hr : cmpF a b = -1 := by unfold cmpF; rw [if_pos ((rank_ne h h0 h1).2 h2)]
          have hl : (FloatKind.f64.format.order a b == some .lt) = true := (f_lss a b).trans (decide_eq_true ⟨na, nb, h2⟩)
          rw [hr]
          rw [← h] at q
          clear rb h h1 h2
          generalize rankF a = x at *
          have hx : (x == 0) = false := beq_eq_false_iff_ne.2 h0
          go_enter Try.func15, Try.ntmps15
          go_wp2_with fail
          refine p.mono ?_
          rintro e w1 ⟨rfl, rfl⟩
          go_wp2_with fail
          refine q.mono ?_
          rintro e w1 ⟨rfl, rfl⟩
          go_wp2
          go_ret
          exact ⟨rfl, rfl⟩
        · have hr : cmpF a b = 1 := by
            have e1 : ¬ key a < key b := fun hh => h2 ((rank_ne h h0 h1).1 hh)
            have e2 : key b < key a := (rank_ne h.symm (by rw [← h]; exact h0) (fun hh => h1 hh.symm)).2 (by omega)
            unfold cmpF; rw [if_neg e1, if_pos e2]
          have hl : (FloatKind.f64.format.order a b == some .lt) = false := (f_lss a b).trans (decide_eq_false (fun hh => h2 hh.2.2))
          rw [hr]
          rw [← h] at q
          clear rb h h1 h2
          generalize rankF a = x at *
          have hx : (x == 0) = false := beq_eq_false_iff_ne.2 h0
          go_enter Try.func15, Try.ntmps15
          go_wp2_with fail
          refine p.mono ?_
          rintro e w1 ⟨rfl, rfl⟩
          go_wp2_with fail
          refine q.mono ?_
          rintro e w1 ⟨rfl, rfl⟩
          go_wp2
          go_ret
          exact ⟨rfl, rfl⟩
  · have hr : cmpF a b = 1 := by
      have e2 := rank_lt h
      have e1 : ¬ key a < key b := by omega
      unfold cmpF; rw [if_neg e1, if_pos e2]
    rw [hr]
    generalize rankF a = x at *
    generalize rankF b = y at *
    have hxy : ¬ x < y := by omega
    go_enter Try.func15, Try.ntmps15
    go_wp2_with fail
    refine p.mono ?_
    rintro e w1 ⟨rfl, rfl⟩
    go_wp2_with fail
    refine q.mono ?_
    rintro e w1 ⟨rfl, rfl⟩
    go_wp2
    go_ret
    exact ⟨rfl, rfl⟩

set_option maxRecDepth 100000 in
set_option maxHeartbeats 400000 in
theorem number_any (f : Nat) (w : World) (hf : f < 18446744073709551616) :
    Calls Try.prog 27 #[.float .f64 f] w fun e w' => e = .returned (.bool (isfin f)) ∧ ∃ n, w' = w.drewN n := by
  cases hn : isnan f
  · have hd : (FloatKind.f64.format.order f f == some .eq) = true := (f_eql_self f).trans (by rw [hn]; rfl)
    rcases fin_or hn with h | h
    · have hq : ∀ w : World, (binOp .sub 24 (.float .f64 f) (.float .f64 f)).run Try.prog w = .ok (.float .f64 0) w := fun w => run_float_arith w .sub _ .f64 _ _ _ (sub_fin h)
      have h5 : (FloatKind.f64.format.order 0 0 == some .eq) = true := by decide
      rw [h]
      go_enter Try.func27, Try.ntmps27
      go_wp2
      go_ret
      exact ⟨rfl, 0, rfl⟩
    · have h0 : isfin f = false := by unfold isfin; rw [h]; rfl
      rw [h0]
      obtain ⟨r, ⟨hr, _⟩, hq⟩ := run_float_nan (P := Try.prog) w .sub 24 f f (.inr (.inl rfl)) (sub_inf h)
      have h5 : (FloatKind.f64.format.order r 0 == some .eq) = false := (f_eql r 0).trans (by rw [hr]; simp)
      go_enter Try.func27, Try.ntmps27
      go_wp2
      go_ret
      exact ⟨rfl, 1, rfl⟩
  · have hd : (FloatKind.f64.format.order f f == some .eq) = false := (f_eql_self f).trans (by rw [hn]; rfl)
    rw [nan_fin hn]
    go_enter Try.func27, Try.ntmps27
    go_wp2
    go_ret
    exact ⟨rfl, 0, rfl⟩

theorem abs_is (f : Nat) (hf : f < 18446744073709551616) : bits .andNot .u64 (f : Int) 9223372036854775808 = (rung f : Int) := by
  rw [u64_andNot _ _ (by omega) (by omega) (by decide) (by decide)]
  have h : (f : Int).toNat &&& (18446744073709551615 - (9223372036854775808 : Int).toNat) = f % 9223372036854775808 := by
    rw [Int.toNat_natCast]
    exact Nat.and_two_pow_sub_one_eq_mod f 63
  exact congrArg (fun (n : Nat) => (n : Int)) h
attribute [local go_sem] run_fbits run_ffrom

set_option maxRecDepth 100000 in
set_option maxHeartbeats 400000 in
theorem abs_any (f : Nat) (w : World) (hf : f < 18446744073709551616) :
    Calls Try.prog 42 #[.float .f64 f] w fun e w' => e = .returned (.float .f64 (rung f)) ∧ w = w' := by
  have ha := abs_is f hf
  go_enter Try.func42, Try.ntmps42
  go_wp2
  go_ret
  exact ⟨by first | rfl | exact ret1f (by rw [ha]; rfl), rfl⟩

set_option maxRecDepth 100000 in
set_option maxHeartbeats 400000 in
theorem isInf_any (f : Nat) (w : World) (hf : f < 18446744073709551616) :
    Calls Try.prog 38 #[.float .f64 f, .int .i64 0] w fun e w' => e = .returned (.bool (decide (rung f = 9218868437227405312))) ∧ w = w' := by
  have pa := abs_any f w hf
  have hr : rung (rung f) = rung f := Nat.mod_eq_of_lt (rung_lt f)
  have hs : sgn (rung f) = false := (sgn_fa (by have := rung_lt f; omega)).2 (rung_lt f)
  have hd : (FloatKind.f64.format.order (rung f) 9218868437227405311 == some .gt) = decide (rung f = 9218868437227405312) := (f_gtr _ _).trans (by
    rw [decide_eq_decide, show isnan 9218868437227405311 = false from rfl, show sr 9218868437227405311 = 9218868437227405311 from rfl]
    unfold isnan sr
    rw [hr, hs]
    simp
    omega)
  generalize rung f = x at pa hd ⊢
  go_enter Try.func38, Try.ntmps38
  go_wp2_with fail
  refine pa.mono ?_
  rintro e w1 ⟨rfl, rfl⟩
  go_wp2
  go_ret
  exact ⟨by first | rfl | exact ret1b hd, rfl⟩

set_option maxRecDepth 100000 in
set_option maxHeartbeats 400000 in
theorem rate_any (p q : Int) (w : World) :
    Calls Try.prog 12 #[.int .i64 p, .int .i64 q] w fun e w' => ∃ r, e = .returned (.float .f64 r) ∧ Is (rateO p q) r ∧ ∃ n, w' = w.drewN n := by
  obtain ⟨r, n, hi, hr⟩ := run_float Try.prog w .quo 24 (floatOfInt .f64 p) (floatOfInt .f64 q) (.inr (.inr rfl))
  have HI := Lib.hid hi
  clear hi
  go_enter Try.func12, Try.ntmps12
  go_wp2
  go_ret
  exact ⟨r, rfl, HI.out, n, rfl⟩

set_option maxRecDepth 100000 in
set_option maxHeartbeats 400000 in
theorem refRate_any (p q : Int) (w : World) :
    Calls Try.prog 13 #[.int .i64 p, .int .i64 q] w fun e w' => ∃ r, e = .returned (.float .f64 r) ∧ Is (rateO p q) r ∧ ∃ n, w' = w.drewN n := by
  obtain ⟨r, n, hi, hr⟩ := run_float Try.prog w .quo 24 (floatOfInt .f64 p) (floatOfInt .f64 q) (.inr (.inr rfl))
  have HI := Lib.hid hi
  clear hi
  go_enter Try.func13, Try.ntmps13
  go_wp2
  go_ret
  exact ⟨r, rfl, HI.out, n, rfl⟩

end Go.Proofs.Ytcpacgflljmlaaa.G4
