/-
  Layer 4, walks: bits, the order of two floats, as the project and as the document's answer have them.
-/
import Derived.Test.YtcpacgflljmlaaaM4b
import Derived.Test.YtcpacgflljmlaaaTx
import Derived.Laws.Externs
namespace Go.Proofs.Ytcpacgflljmlaaa.G4
open Go.RowKit Go.PlainAid
set_option linter.unusedVariables false

theorem ret1b {a b : Bool} (h : a = b) : Ending.returned (.bool a) = Ending.returned (.bool b) := by rw [h]
theorem ret1i {k : IntKind} {a b : Int} (h : a = b) : Ending.returned (.int k a) = Ending.returned (.int k b) := by rw [h]
theorem ret1f {k : FloatKind} {a b : Nat} (h : a = b) : Ending.returned (.float k a) = Ending.returned (.float k b) := by rw [h]

set_option maxRecDepth 100000 in
set_option maxHeartbeats 400000 in
theorem isNaN_any (b : Nat) (w : World) :
    Calls Try.prog 30 #[.float .f64 b] w fun e w' => e = .returned (.bool (isnan b)) ∧ w = w' := by
  go_enter Try.func30, Try.ntmps30
  go_wp2
  go_ret
  exact ⟨ret1b (f_neq_self b), rfl⟩

/-- The two that the machine answers. -/
theorem run_fbits (b : Nat) (w : World) : (callFunc 31 #[.float .f64 b]).run Try.prog w = .ok (.value (.int .u64 (b : Int))) w := by
  rw [run_callFunc_extern Try.func31 (by kernel_rfl) (by kernel_rfl) (by kernel_rfl) (e := Extern.MathFloatBits.float64bits) (by kernel_rfl)]
  rfl
theorem run_ffrom (n : Int) (w : World) : (callFunc 32 #[.int .u64 n]).run Try.prog w = .ok (.value (.float .f64 n.toNat)) w := by
  rw [run_callFunc_extern Try.func32 (by kernel_rfl) (by kernel_rfl) (by kernel_rfl) (e := Extern.MathFloatBits.float64frombits) (by kernel_rfl)]
  rfl
attribute [local go_sem] run_fbits run_ffrom

set_option maxRecDepth 100000 in
set_option maxHeartbeats 400000 in
theorem bits_any (b : Nat) (w : World) :
    Calls Try.prog 16 #[.float .f64 b] w fun e w' => e = .returned (.int .u64 (bitsOf b : Nat)) ∧ w = w' := by
  cases hn : isnan b
  · go_enter Try.func16, Try.ntmps16
    go_wp2_with fail
    refine (isNaN_any _ _).mono ?_
    rintro e w1 ⟨rfl, rfl⟩
    go_wp2
    go_ret
    exact ⟨ret1i (by unfold bitsOf; rw [hn]; rfl), rfl⟩
  · go_enter Try.func16, Try.ntmps16
    go_wp2_with fail
    refine (isNaN_any _ _).mono ?_
    rintro e w1 ⟨rfl, rfl⟩
    go_wp2
    go_ret
    exact ⟨ret1i (by unfold bitsOf; rw [hn]; rfl), rfl⟩

set_option maxRecDepth 100000 in
set_option maxHeartbeats 400000 in
theorem of_any (b : Nat) (w : World) :
    Calls Try.prog 18 #[.int .u64 b] w fun e w' => e = .returned (.float .f64 b) ∧ w = w' := by
  go_enter Try.func18, Try.ntmps18
  go_wp2
  go_ret
  exact ⟨rfl, rfl⟩

set_option maxRecDepth 100000 in
set_option maxHeartbeats 400000 in
theorem refBits_any (b : Nat) (w : World) :
    Calls Try.prog 17 #[.float .f64 b] w fun e w' => e = .returned (.int .u64 (bitsOf b : Nat)) ∧ w = w' := by
  cases hn : isnan b
  · have hd : (FloatKind.f64.format.order b b != some .eq) = false := (f_neq_self b).trans hn
    go_enter Try.func17, Try.ntmps17
    go_wp2
    go_ret
    exact ⟨ret1i (by unfold bitsOf; rw [hn]; rfl), rfl⟩
  · have hd : (FloatKind.f64.format.order b b != some .eq) = true := (f_neq_self b).trans hn
    go_enter Try.func17, Try.ntmps17
    go_wp2
    go_ret
    exact ⟨ret1i (by unfold bitsOf; rw [hn]; rfl), rfl⟩

set_option maxRecDepth 100000 in
set_option maxHeartbeats 400000 in
theorem refOf_any (b : Nat) (w : World) :
    Calls Try.prog 19 #[.int .u64 b] w fun e w' => e = .returned (.float .f64 b) ∧ w = w' := by
  go_enter Try.func19, Try.ntmps19
  go_wp2
  go_ret
  exact ⟨rfl, rfl⟩

set_option maxRecDepth 100000 in
set_option maxHeartbeats 400000 in
theorem same_any (a b : Nat) (w : World) :
    Calls Try.prog 11 #[.float .f64 a, .float .f64 b] w fun e w' => e = .returned (.bool (decide (bitsOf a = bitsOf b))) ∧ w = w' := by
  have ha := refBits_any a w
  have hb := refBits_any b w
  generalize bitsOf a = x at ha ⊢
  generalize bitsOf b = y at hb ⊢
  go_enter Try.func11, Try.ntmps11
  go_wp2_with fail
  refine ha.mono ?_
  rintro e w1 ⟨rfl, rfl⟩
  go_wp2_with fail
  refine hb.mono ?_
  rintro e w1 ⟨rfl, rfl⟩
  go_wp2
  go_ret
  exact ⟨ret1b (by by_cases h : x = y <;> simp [h] <;> omega), rfl⟩

set_option maxRecDepth 100000 in
set_option maxHeartbeats 400000 in
theorem signbit_any (b : Nat) (w : World) (hb : b < 18446744073709551616) :
    Calls Try.prog 37 #[.float .f64 b] w fun e w' => e = .returned (.bool (sgn b)) ∧ w = w' := by
  have hw : decide (wrap64 (b : Int) < 0) = sgn b := by
    unfold wrap64
    cases h : sgn b
    · have := (sgn_fa hb).1 h; simp; omega
    · have := (sgn_iff hb).1 h; simp; omega
  go_enter Try.func37, Try.ntmps37
  go_wp2
  go_ret
  exact ⟨by first | rfl | exact ret1b hw, rfl⟩

set_option maxRecDepth 100000 in
set_option maxHeartbeats 400000 in
theorem ahead_any (a b : Nat) (w : World) (ha : a < 18446744073709551616) (hb : b < 18446744073709551616) :
    Calls Try.prog 28 #[.float .f64 a, .float .f64 b] w fun e w' => e = .returned (.bool (decide (key a < key b))) ∧ w = w' := by
  have pa := isNaN_any a w
  have pb := isNaN_any b w
  have qa := signbit_any a w ha
  have qb := signbit_any b w hb
  cases na : isnan a
  · cases nb : isnan b
    · rw [na] at pa
      rw [nb] at pb
      by_cases he : sr a = sr b
      · have hd : (FloatKind.f64.format.order a b == some .eq) = true := (f_eql a b).trans (decide_eq_true ⟨na, nb, he⟩)
        rw [ahead_eq na nb he]
        generalize sgn a = x at qa ⊢
        generalize sgn b = y at qb ⊢
        cases x
        · go_enter Try.func28, Try.ntmps28
          go_wp2_with fail
          refine pa.mono ?_
          rintro e w1 ⟨rfl, rfl⟩
          go_wp2_with fail
          refine pb.mono ?_
          rintro e w1 ⟨rfl, rfl⟩
          go_wp2_with fail
          refine qa.mono ?_
          rintro e w1 ⟨rfl, rfl⟩
          go_wp2
          go_ret
          exact ⟨rfl, rfl⟩
        · go_enter Try.func28, Try.ntmps28
          go_wp2_with fail
          refine pa.mono ?_
          rintro e w1 ⟨rfl, rfl⟩
          go_wp2_with fail
          refine pb.mono ?_
          rintro e w1 ⟨rfl, rfl⟩
          go_wp2_with fail
          refine qa.mono ?_
          rintro e w1 ⟨rfl, rfl⟩
          go_wp2_with fail
          refine qb.mono ?_
          rintro e w1 ⟨rfl, rfl⟩
          go_wp2
          go_ret
          exact ⟨rfl, rfl⟩
      · have hd : (FloatKind.f64.format.order a b == some .eq) = false := (f_eql a b).trans (decide_eq_false (fun h => he h.2.2))
        have hl : (FloatKind.f64.format.order a b == some .lt) = decide (key a < key b) := (f_lss a b).trans (by rw [ahead_ne na nb he]; simp [na, nb])
        clear qa qb
        go_enter Try.func28, Try.ntmps28
        go_wp2_with fail
        refine pa.mono ?_
        rintro e w1 ⟨rfl, rfl⟩
        go_wp2_with fail
        refine pb.mono ?_
        rintro e w1 ⟨rfl, rfl⟩
        go_wp2
        go_ret
        exact ⟨ret1b (by first | rfl | exact hl), rfl⟩
    · rw [na] at pa
      rw [nb] at pb
      rw [ahead_nanb na nb]
      clear qa qb
      go_enter Try.func28, Try.ntmps28
      go_wp2_with fail
      refine pa.mono ?_
      rintro e w1 ⟨rfl, rfl⟩
      go_wp2_with fail
      refine pb.mono ?_
      rintro e w1 ⟨rfl, rfl⟩
      go_wp2_with fail
      refine pa.mono ?_
      rintro e w1 ⟨rfl, rfl⟩
      go_wp2
      go_ret
      exact ⟨rfl, rfl⟩
  · rw [na] at pa
    rw [ahead_nan na]
    clear qa qb
    generalize isnan b = y at pb ⊢
    go_enter Try.func28, Try.ntmps28
    go_wp2_with fail
    refine pa.mono ?_
    rintro e w1 ⟨rfl, rfl⟩
    go_wp2_with fail
    refine pa.mono ?_
    rintro e w1 ⟨rfl, rfl⟩
    go_wp2_with fail
    refine pb.mono ?_
    rintro e w1 ⟨rfl, rfl⟩
    go_wp2
    go_ret
    exact ⟨rfl, rfl⟩

set_option maxRecDepth 100000 in
set_option maxHeartbeats 400000 in
theorem cmp_any (a b : Nat) (w : World) (ha : a < 18446744073709551616) (hb : b < 18446744073709551616) :
    Calls Try.prog 14 #[.float .f64 a, .float .f64 b] w fun e w' => e = .returned (.int .i64 (cmpF a b)) ∧ w = w' := by
  have p := ahead_any a b w ha hb
  have q := ahead_any b a w hb ha
  unfold cmpF
  by_cases h1 : key a < key b
  · rw [decide_eq_true h1] at p
    rw [if_pos h1]
    clear q
    go_enter Try.func14, Try.ntmps14
    go_wp2_with fail
    refine p.mono ?_
    rintro e w1 ⟨rfl, rfl⟩
    go_wp2
    go_ret
    exact ⟨rfl, rfl⟩
  · rw [decide_eq_false h1] at p
    rw [if_neg h1]
    by_cases h2 : key b < key a
    · rw [decide_eq_true h2] at q
      rw [if_pos h2]
      go_enter Try.func14, Try.ntmps14
      go_wp2_with fail
      refine p.mono ?_
      rintro e w1 ⟨rfl, rfl⟩
      go_wp2_with fail
      refine q.mono ?_
      rintro e w1 ⟨rfl, rfl⟩
      go_wp2
      go_ret
      exact ⟨rfl, rfl⟩
    · rw [decide_eq_false h2] at q
      rw [if_neg h2]
      go_enter Try.func14, Try.ntmps14
      go_wp2_with fail
      refine p.mono ?_
      rintro e w1 ⟨rfl, rfl⟩
      go_wp2_with fail
      refine q.mono ?_
      rintro e w1 ⟨rfl, rfl⟩
      go_wp2
      go_ret
      exact ⟨rfl, rfl⟩

end Go.Proofs.Ytcpacgflljmlaaa.G4
