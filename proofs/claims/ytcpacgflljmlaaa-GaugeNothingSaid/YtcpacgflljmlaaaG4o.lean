/-
  Layer 4: a rate of nothing; bits that come back.
-/
import Derived.Test.YtcpacgflljmlaaaG4n
namespace Go.Proofs.Ytcpacgflljmlaaa.G4
open Go.RowKit Go.PlainAid
set_option linter.unusedVariables false

set_option maxRecDepth 100000 in
set_option maxHeartbeats 2000000 in
theorem nothing_zero_nan (w : World) (p : Int) (f : Nat) (hf : f < 18446744073709551616) (hp : p = 0) (hn : isnan f = true) :
    Calls Try.prog 8 #[.int .i64 p, .float .f64 f] w fun e w' => e = .returned (.bool true) ∧ Below w.heap.size w w' := by
  subst hp
  have hb : bitsOf f = 9221120237041090561 := by unfold bitsOf; rw [hn]; rfl
  have g1 : (FloatKind.f64.format.order f f != some .eq) = true := (f_neq_self f).trans hn
  have g2 : (FloatKind.f64.format.order 9221120237041090561 9221120237041090561 != some .eq) = true := by decide
  have HB := Lib.hid hb
  clear hb
  go_enter Try.func8, Try.ntmps8
  go_wp2_with fail
  refine (awake_any _).mono ?_
  rintro e w1 ⟨rfl, hb1⟩
  go_wp2_with fail
  refine (rate_any 0 0 _).mono ?_
  rintro e w2 ⟨r, rfl, hi, n1, rfl⟩
  have hd := rate00 hi
  have hq : (FloatKind.f64.format.order r r == some .eq) = false := (f_eql_self r).trans (by rw [hd]; rfl)
  clear hi hd
  have HB1 := Lib.hid (below_drewN hb1 n1)
  clear hb1
  generalize w1.drewN n1 = wa at HB1 ⊢
  go_wp2_with fail
  refine (bits_any f _).mono ?_
  rintro e w3 ⟨rfl, rfl⟩
  rw [HB.out]
  go_wp2_with fail
  refine (of_any _ _).mono ?_
  rintro e w4 ⟨rfl, rfl⟩
  go_wp2
  go_ret
  exact ⟨rfl, HB1.out⟩

set_option maxRecDepth 100000 in
set_option maxHeartbeats 2000000 in
theorem nothing_zero_num (w : World) (p : Int) (f : Nat) (hf : f < 18446744073709551616) (hp : p = 0) (hn : isnan f = false) :
    Calls Try.prog 8 #[.int .i64 p, .float .f64 f] w fun e w' => e = .returned (.bool true) ∧ Below w.heap.size w w' := by
  subst hp
  have hb : bitsOf f = f := by unfold bitsOf; rw [hn]; rfl
  have g1 : (FloatKind.f64.format.order f f != some .eq) = false := (f_neq_self f).trans hn
  have g2 : (FloatKind.f64.format.order f f == some .eq) = true := (f_eql_self f).trans (by rw [hn]; rfl)
  have HB := Lib.hid hb
  clear hb
  go_enter Try.func8, Try.ntmps8
  go_wp2_with fail
  refine (awake_any _).mono ?_
  rintro e w1 ⟨rfl, hb1⟩
  go_wp2_with fail
  refine (rate_any 0 0 _).mono ?_
  rintro e w2 ⟨r, rfl, hi, n1, rfl⟩
  have hd := rate00 hi
  have hq : (FloatKind.f64.format.order r r == some .eq) = false := (f_eql_self r).trans (by rw [hd]; rfl)
  clear hi hd
  have HB1 := Lib.hid (below_drewN hb1 n1)
  clear hb1
  generalize w1.drewN n1 = wa at HB1 ⊢
  go_wp2_with fail
  refine (bits_any f _).mono ?_
  rintro e w3 ⟨rfl, rfl⟩
  rw [HB.out]
  go_wp2_with fail
  refine (of_any _ _).mono ?_
  rintro e w4 ⟨rfl, rfl⟩
  go_wp2_with fail
  refine (cmp_any f f _ hf hf).mono ?_
  rintro e w5 ⟨rfl, rfl⟩
  rw [show cmpF f f = 0 from cmpF_zero.2 rfl]
  go_wp2
  go_ret
  exact ⟨rfl, HB1.out⟩

set_option maxRecDepth 100000 in
set_option maxHeartbeats 2000000 in
theorem nothing_pos_nan (w : World) (p : Int) (f : Nat) (hf : f < 18446744073709551616) (hp : 0 < p) (hn : isnan f = true) :
    Calls Try.prog 8 #[.int .i64 p, .float .f64 f] w fun e w' => e = .returned (.bool true) ∧ Below w.heap.size w w' := by
  have hp0 : (p == 0) = false := beq_eq_false_iff_ne.2 (by omega)
  have hpn : ¬ p < 0 := by omega
  have ha : ∀ w : World, (binOp .add 24 (.float .f64 9218868437227405312) (.float .f64 9218868437227405312)).run Try.prog w = .ok (.float .f64 9218868437227405312) w := fun w => run_float_arith w .add _ .f64 _ _ _ (by decide)
  have h1 : (FloatKind.f64.format.order 9218868437227405312 0 == some .lt || FloatKind.f64.format.order 9218868437227405312 0 == some .eq) = false := by decide
  have h2 : (FloatKind.f64.format.order 9218868437227405312 9218868437227405312 != some .eq) = false := by decide
  have hb : bitsOf f = 9221120237041090561 := by unfold bitsOf; rw [hn]; rfl
  have g1 : (FloatKind.f64.format.order f f != some .eq) = true := (f_neq_self f).trans hn
  have g2 : (FloatKind.f64.format.order 9221120237041090561 9221120237041090561 != some .eq) = true := by decide
  have HB := Lib.hid hb
  clear hb
  go_enter Try.func8, Try.ntmps8
  go_wp2_with fail
  refine (awake_any _).mono ?_
  rintro e w1 ⟨rfl, hb1⟩
  go_wp2_with fail
  refine (rate_any p 0 _).mono ?_
  rintro e w2 ⟨r, rfl, hi, n1, rfl⟩
  obtain rfl := rate_pos hp hi
  clear hi
  have HB1 := Lib.hid (below_drewN hb1 n1)
  clear hb1
  generalize w1.drewN n1 = wa at HB1 ⊢
  go_wp2_with fail
  refine (bits_any f _).mono ?_
  rintro e w3 ⟨rfl, rfl⟩
  rw [HB.out]
  go_wp2_with fail
  refine (of_any _ _).mono ?_
  rintro e w4 ⟨rfl, rfl⟩
  go_wp2
  go_ret
  exact ⟨rfl, HB1.out⟩

set_option maxRecDepth 100000 in
set_option maxHeartbeats 2000000 in
theorem nothing_pos_num (w : World) (p : Int) (f : Nat) (hf : f < 18446744073709551616) (hp : 0 < p) (hn : isnan f = false) :
    Calls Try.prog 8 #[.int .i64 p, .float .f64 f] w fun e w' => e = .returned (.bool true) ∧ Below w.heap.size w w' := by
  have hp0 : (p == 0) = false := beq_eq_false_iff_ne.2 (by omega)
  have hpn : ¬ p < 0 := by omega
  have ha : ∀ w : World, (binOp .add 24 (.float .f64 9218868437227405312) (.float .f64 9218868437227405312)).run Try.prog w = .ok (.float .f64 9218868437227405312) w := fun w => run_float_arith w .add _ .f64 _ _ _ (by decide)
  have h1 : (FloatKind.f64.format.order 9218868437227405312 0 == some .lt || FloatKind.f64.format.order 9218868437227405312 0 == some .eq) = false := by decide
  have h2 : (FloatKind.f64.format.order 9218868437227405312 9218868437227405312 != some .eq) = false := by decide
  have hb : bitsOf f = f := by unfold bitsOf; rw [hn]; rfl
  have g1 : (FloatKind.f64.format.order f f != some .eq) = false := (f_neq_self f).trans hn
  have g2 : (FloatKind.f64.format.order f f == some .eq) = true := (f_eql_self f).trans (by rw [hn]; rfl)
  have HB := Lib.hid hb
  clear hb
  go_enter Try.func8, Try.ntmps8
  go_wp2_with fail
  refine (awake_any _).mono ?_
  rintro e w1 ⟨rfl, hb1⟩
  go_wp2_with fail
  refine (rate_any p 0 _).mono ?_
  rintro e w2 ⟨r, rfl, hi, n1, rfl⟩
  obtain rfl := rate_pos hp hi
  clear hi
  have HB1 := Lib.hid (below_drewN hb1 n1)
  clear hb1
  generalize w1.drewN n1 = wa at HB1 ⊢
  go_wp2_with fail
  refine (bits_any f _).mono ?_
  rintro e w3 ⟨rfl, rfl⟩
  rw [HB.out]
  go_wp2_with fail
  refine (of_any _ _).mono ?_
  rintro e w4 ⟨rfl, rfl⟩
  go_wp2_with fail
  refine (cmp_any f f _ hf hf).mono ?_
  rintro e w5 ⟨rfl, rfl⟩
  rw [show cmpF f f = 0 from cmpF_zero.2 rfl]
  go_wp2
  go_ret
  exact ⟨rfl, HB1.out⟩

set_option maxRecDepth 100000 in
set_option maxHeartbeats 2000000 in
theorem nothing_neg_nan (w : World) (p : Int) (f : Nat) (hf : f < 18446744073709551616) (hp : p < 0) (hn : isnan f = true) :
    Calls Try.prog 8 #[.int .i64 p, .float .f64 f] w fun e w' => e = .returned (.bool true) ∧ Below w.heap.size w w' := by
  have hp0 : (p == 0) = false := beq_eq_false_iff_ne.2 (by omega)
  have hpn : ¬ 0 < p := by omega
  have ha : ∀ w : World, (binOp .add 24 (.float .f64 18442240474082181120) (.float .f64 18442240474082181120)).run Try.prog w = .ok (.float .f64 18442240474082181120) w := fun w => run_float_arith w .add _ .f64 _ _ _ (by decide)
  have h1 : (FloatKind.f64.format.order 18442240474082181120 0 == some .gt || FloatKind.f64.format.order 18442240474082181120 0 == some .eq) = false := by decide
  have h2 : (FloatKind.f64.format.order 18442240474082181120 18442240474082181120 != some .eq) = false := by decide
  have hb : bitsOf f = 9221120237041090561 := by unfold bitsOf; rw [hn]; rfl
  have g1 : (FloatKind.f64.format.order f f != some .eq) = true := (f_neq_self f).trans hn
  have g2 : (FloatKind.f64.format.order 9221120237041090561 9221120237041090561 != some .eq) = true := by decide
  have HB := Lib.hid hb
  clear hb
  go_enter Try.func8, Try.ntmps8
  go_wp2_with fail
  refine (awake_any _).mono ?_
  rintro e w1 ⟨rfl, hb1⟩
  go_wp2_with fail
  refine (rate_any p 0 _).mono ?_
  rintro e w2 ⟨r, rfl, hi, n1, rfl⟩
  obtain rfl := rate_neg hp hi
  clear hi
  have HB1 := Lib.hid (below_drewN hb1 n1)
  clear hb1
  generalize w1.drewN n1 = wa at HB1 ⊢
  go_wp2_with fail
  refine (bits_any f _).mono ?_
  rintro e w3 ⟨rfl, rfl⟩
  rw [HB.out]
  go_wp2_with fail
  refine (of_any _ _).mono ?_
  rintro e w4 ⟨rfl, rfl⟩
  go_wp2
  go_ret
  exact ⟨rfl, HB1.out⟩

set_option maxRecDepth 100000 in
set_option maxHeartbeats 2000000 in
theorem nothing_neg_num (w : World) (p : Int) (f : Nat) (hf : f < 18446744073709551616) (hp : p < 0) (hn : isnan f = false) :
    Calls Try.prog 8 #[.int .i64 p, .float .f64 f] w fun e w' => e = .returned (.bool true) ∧ Below w.heap.size w w' := by
  have hp0 : (p == 0) = false := beq_eq_false_iff_ne.2 (by omega)
  have hpn : ¬ 0 < p := by omega
  have ha : ∀ w : World, (binOp .add 24 (.float .f64 18442240474082181120) (.float .f64 18442240474082181120)).run Try.prog w = .ok (.float .f64 18442240474082181120) w := fun w => run_float_arith w .add _ .f64 _ _ _ (by decide)
  have h1 : (FloatKind.f64.format.order 18442240474082181120 0 == some .gt || FloatKind.f64.format.order 18442240474082181120 0 == some .eq) = false := by decide
  have h2 : (FloatKind.f64.format.order 18442240474082181120 18442240474082181120 != some .eq) = false := by decide
  have hb : bitsOf f = f := by unfold bitsOf; rw [hn]; rfl
  have g1 : (FloatKind.f64.format.order f f != some .eq) = false := (f_neq_self f).trans hn
  have g2 : (FloatKind.f64.format.order f f == some .eq) = true := (f_eql_self f).trans (by rw [hn]; rfl)
  have HB := Lib.hid hb
  clear hb
  go_enter Try.func8, Try.ntmps8
  go_wp2_with fail
  refine (awake_any _).mono ?_
  rintro e w1 ⟨rfl, hb1⟩
  go_wp2_with fail
  refine (rate_any p 0 _).mono ?_
  rintro e w2 ⟨r, rfl, hi, n1, rfl⟩
  obtain rfl := rate_neg hp hi
  clear hi
  have HB1 := Lib.hid (below_drewN hb1 n1)
  clear hb1
  generalize w1.drewN n1 = wa at HB1 ⊢
  go_wp2_with fail
  refine (bits_any f _).mono ?_
  rintro e w3 ⟨rfl, rfl⟩
  rw [HB.out]
  go_wp2_with fail
  refine (of_any _ _).mono ?_
  rintro e w4 ⟨rfl, rfl⟩
  go_wp2_with fail
  refine (cmp_any f f _ hf hf).mono ?_
  rintro e w5 ⟨rfl, rfl⟩
  rw [show cmpF f f = 0 from cmpF_zero.2 rfl]
  go_wp2
  go_ret
  exact ⟨rfl, HB1.out⟩

theorem lawNothing (w : World) (p : Int) (p1 : -9223372036854775808 ≤ p) (p2 : p ≤ 9223372036854775807) (f : Nat) (hf : f < 18446744073709551616) :
    Calls Try.prog 8 #[.int .i64 p, .float .f64 f] w fun e w' => e = .returned (.bool true) ∧ Below w.heap.size w w' := by
  cases hn : isnan f
  · rcases Int.lt_trichotomy p 0 with h | h | h
    · exact nothing_neg_num w p f hf h hn
    · exact nothing_zero_num w p f hf h hn
    · exact nothing_pos_num w p f hf h hn
  · rcases Int.lt_trichotomy p 0 with h | h | h
    · exact nothing_neg_nan w p f hf h hn
    · exact nothing_zero_nan w p f hf h hn
    · exact nothing_pos_nan w p f hf h hn

end Go.Proofs.Ytcpacgflljmlaaa.G4
