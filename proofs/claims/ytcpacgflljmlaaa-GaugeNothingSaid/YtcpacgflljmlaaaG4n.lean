/-
  Layer 4: the statements on few floats.
-/
import Derived.Test.YtcpacgflljmlaaaG4m
namespace Go.Proofs.Ytcpacgflljmlaaa.G4
open Go.RowKit Go.PlainAid
set_option linter.unusedVariables false

set_option maxRecDepth 100000 in
set_option maxHeartbeats 1000000 in
theorem lawRates (w : World) (p : Int) (p1 : -9223372036854775808 ≤ p) (p2 : p ≤ 9223372036854775807) (q : Int) (q1 : -9223372036854775808 ≤ q) (q2 : q ≤ 9223372036854775807) :
    Calls Try.prog 3 #[.int .i64 p, .int .i64 q] w fun e w' => e = .returned (.bool true) ∧ Below w.heap.size w w' := by
  go_enter Try.func3, Try.ntmps3
  go_wp2_with fail
  refine (awake_any _).mono ?_
  rintro e w1 ⟨rfl, hb⟩
  go_wp2_with fail
  refine (rate_any p q _).mono ?_
  rintro e w2 ⟨x, rfl, hx, n1, rfl⟩
  have HX := Lib.hid hx
  clear hx
  go_wp2_with fail
  refine (refRate_any p q _).mono ?_
  rintro e w3 ⟨y, rfl, hy, n2, rfl⟩
  have he := HX.out.bits hy
  have HE := Lib.hid he
  clear hy he
  go_wp2_with fail
  refine (same_any x y _).mono ?_
  rintro e w4 ⟨rfl, rfl⟩
  rw [decide_eq_true HE.out]
  go_wp2
  go_ret
  exact ⟨rfl, below_drewN hb (n1 + n2)⟩

set_option maxRecDepth 100000 in
set_option maxHeartbeats 1000000 in
theorem lawCmps (w : World) (a : Nat) (ha : a < 18446744073709551616) (b : Nat) (hb : b < 18446744073709551616) (c : Int) (c1 : 0 ≤ c) (c2 : c ≤ 18446744073709551615) :
    Calls Try.prog 4 #[.float .f64 a, .float .f64 b, .int .u64 c] w fun e w' => e = .returned (.bool true) ∧ Below w.heap.size w w' := by
  obtain ⟨d, rfl⟩ := Int.eq_ofNat_of_zero_le c1
  go_enter Try.func4, Try.ntmps4
  go_wp2_with fail
  refine (awake_any _).mono ?_
  rintro e w1 ⟨rfl, hb1⟩
  go_wp2_with fail
  refine (cmp_any a b _ ha hb).mono ?_
  rintro e w2 ⟨rfl, rfl⟩
  go_wp2_with fail
  refine (refCmp_any a b _ ha hb).mono ?_
  rintro e w3 ⟨rfl, rfl⟩
  go_wp2_with fail
  refine (bits_any a _).mono ?_
  rintro e w4 ⟨rfl, rfl⟩
  go_wp2_with fail
  refine (refBits_any a _).mono ?_
  rintro e w5 ⟨rfl, rfl⟩
  go_wp2_with fail
  refine (of_any d _).mono ?_
  rintro e w6 ⟨rfl, rfl⟩
  go_wp2_with fail
  refine (refOf_any d _).mono ?_
  rintro e w7 ⟨rfl, rfl⟩
  go_wp2_with fail
  refine (same_any d d _).mono ?_
  rintro e w8 ⟨rfl, rfl⟩
  rw [decide_eq_true (rfl : bitsOf d = bitsOf d)]
  go_wp2
  go_ret
  exact ⟨rfl, hb1⟩

/-- D7, the order. -/
theorem total_head : True := trivial

set_option maxRecDepth 100000 in
set_option maxHeartbeats 1000000 in
theorem total_00 (w : World) (a b c : Nat) (x y z nx p q : Int) (na nb gg B : Bool)
    (hab : ∀ w, Calls Try.prog 14 #[.float .f64 a, .float .f64 b] w fun e w' => e = .returned (.int .i64 x) ∧ w = w')
    (hbc : ∀ w, Calls Try.prog 14 #[.float .f64 b, .float .f64 c] w fun e w' => e = .returned (.int .i64 y) ∧ w = w')
    (hac : ∀ w, Calls Try.prog 14 #[.float .f64 a, .float .f64 c] w fun e w' => e = .returned (.int .i64 z) ∧ w = w')
    (hba : ∀ w, Calls Try.prog 14 #[.float .f64 b, .float .f64 a] w fun e w' => e = .returned (.int .i64 nx) ∧ w = w')
    (haa : ∀ w, Calls Try.prog 14 #[.float .f64 a, .float .f64 a] w fun e w' => e = .returned (.int .i64 0) ∧ w = w')
    (hpa : ∀ w, Calls Try.prog 16 #[.float .f64 a] w fun e w' => e = .returned (.int .u64 p) ∧ w = w')
    (hpb : ∀ w, Calls Try.prog 16 #[.float .f64 b] w fun e w' => e = .returned (.int .u64 q) ∧ w = w')
    (hn : -nx = x) (hx1 : -1 ≤ nx ∧ nx ≤ 1) (hxb : (x == 0) = B) (hpq : (p == q) = B)
    (hna : (FloatKind.f64.format.order a a != some .eq) = na) (hnb : (FloatKind.f64.format.order b b != some .eq) = nb) (hg : (FloatKind.f64.format.order a b == some .gt || FloatKind.f64.format.order a b == some .eq) = gg)
    (h1 : 0 < x) (h2 : na = true) :
    Calls Try.prog 6 #[.float .f64 a, .float .f64 b, .float .f64 c] w fun e w' => e = .returned (.bool true) ∧ Below w.heap.size w w' := by
  have hw : IntKind.i64.wrap (-nx) = x := by rw [IntKind.wrap_i64]; omega
  have HNN := Lib.hid hn
  have HN1 := Lib.hid hx1
  clear hx1 hn
  have f1 := h1
  subst h2
  go_enter Try.func6, Try.ntmps6
  skip
  skip
  go_wp2_with fail
  refine (awake_any _).mono ?_
  rintro e w1 ⟨rfl, hb1⟩
  have HB := Lib.hid hb1
  clear hb1
  go_wp2_with fail
  refine (hab _).mono ?_
  rintro e w2 ⟨rfl, rfl⟩
  go_wp2_with fail
  refine (hbc _).mono ?_
  rintro e w2 ⟨rfl, rfl⟩
  go_wp2_with fail
  refine (hac _).mono ?_
  rintro e w2 ⟨rfl, rfl⟩
  go_wp2_with fail
  refine (hba _).mono ?_
  rintro e w2 ⟨rfl, rfl⟩
  go_wp2_with fail
  refine (haa _).mono ?_
  rintro e w2 ⟨rfl, rfl⟩
  go_wp2_with fail
  refine (hpa _).mono ?_
  rintro e w2 ⟨rfl, rfl⟩
  go_wp2_with fail
  refine (hpb _).mono ?_
  rintro e w2 ⟨rfl, rfl⟩
  go_wp2
  go_ret
  exact ⟨rfl, HB.out⟩

set_option maxRecDepth 100000 in
set_option maxHeartbeats 1000000 in
theorem total_01 (w : World) (a b c : Nat) (x y z nx p q : Int) (na nb gg B : Bool)
    (hab : ∀ w, Calls Try.prog 14 #[.float .f64 a, .float .f64 b] w fun e w' => e = .returned (.int .i64 x) ∧ w = w')
    (hbc : ∀ w, Calls Try.prog 14 #[.float .f64 b, .float .f64 c] w fun e w' => e = .returned (.int .i64 y) ∧ w = w')
    (hac : ∀ w, Calls Try.prog 14 #[.float .f64 a, .float .f64 c] w fun e w' => e = .returned (.int .i64 z) ∧ w = w')
    (hba : ∀ w, Calls Try.prog 14 #[.float .f64 b, .float .f64 a] w fun e w' => e = .returned (.int .i64 nx) ∧ w = w')
    (haa : ∀ w, Calls Try.prog 14 #[.float .f64 a, .float .f64 a] w fun e w' => e = .returned (.int .i64 0) ∧ w = w')
    (hpa : ∀ w, Calls Try.prog 16 #[.float .f64 a] w fun e w' => e = .returned (.int .u64 p) ∧ w = w')
    (hpb : ∀ w, Calls Try.prog 16 #[.float .f64 b] w fun e w' => e = .returned (.int .u64 q) ∧ w = w')
    (hn : -nx = x) (hx1 : -1 ≤ nx ∧ nx ≤ 1) (hxb : (x == 0) = B) (hpq : (p == q) = B)
    (hna : (FloatKind.f64.format.order a a != some .eq) = na) (hnb : (FloatKind.f64.format.order b b != some .eq) = nb) (hg : (FloatKind.f64.format.order a b == some .gt || FloatKind.f64.format.order a b == some .eq) = gg)
    (h1 : 0 < x) (h2 : na = false ∧ nb = true) :
    Calls Try.prog 6 #[.float .f64 a, .float .f64 b, .float .f64 c] w fun e w' => e = .returned (.bool true) ∧ Below w.heap.size w w' := by
  have hw : IntKind.i64.wrap (-nx) = x := by rw [IntKind.wrap_i64]; omega
  have HNN := Lib.hid hn
  have HN1 := Lib.hid hx1
  clear hx1 hn
  have f1 := h1
  obtain ⟨rfl, rfl⟩ := h2
  go_enter Try.func6, Try.ntmps6
  skip
  skip
  go_wp2_with fail
  refine (awake_any _).mono ?_
  rintro e w1 ⟨rfl, hb1⟩
  have HB := Lib.hid hb1
  clear hb1
  go_wp2_with fail
  refine (hab _).mono ?_
  rintro e w2 ⟨rfl, rfl⟩
  go_wp2_with fail
  refine (hbc _).mono ?_
  rintro e w2 ⟨rfl, rfl⟩
  go_wp2_with fail
  refine (hac _).mono ?_
  rintro e w2 ⟨rfl, rfl⟩
  go_wp2_with fail
  refine (hba _).mono ?_
  rintro e w2 ⟨rfl, rfl⟩
  go_wp2_with fail
  refine (haa _).mono ?_
  rintro e w2 ⟨rfl, rfl⟩
  go_wp2_with fail
  refine (hpa _).mono ?_
  rintro e w2 ⟨rfl, rfl⟩
  go_wp2_with fail
  refine (hpb _).mono ?_
  rintro e w2 ⟨rfl, rfl⟩
  go_wp2
  go_ret
  exact ⟨rfl, HB.out⟩

set_option maxRecDepth 100000 in
set_option maxHeartbeats 1000000 in
theorem total_02 (w : World) (a b c : Nat) (x y z nx p q : Int) (na nb gg B : Bool)
    (hab : ∀ w, Calls Try.prog 14 #[.float .f64 a, .float .f64 b] w fun e w' => e = .returned (.int .i64 x) ∧ w = w')
    (hbc : ∀ w, Calls Try.prog 14 #[.float .f64 b, .float .f64 c] w fun e w' => e = .returned (.int .i64 y) ∧ w = w')
    (hac : ∀ w, Calls Try.prog 14 #[.float .f64 a, .float .f64 c] w fun e w' => e = .returned (.int .i64 z) ∧ w = w')
    (hba : ∀ w, Calls Try.prog 14 #[.float .f64 b, .float .f64 a] w fun e w' => e = .returned (.int .i64 nx) ∧ w = w')
    (haa : ∀ w, Calls Try.prog 14 #[.float .f64 a, .float .f64 a] w fun e w' => e = .returned (.int .i64 0) ∧ w = w')
    (hpa : ∀ w, Calls Try.prog 16 #[.float .f64 a] w fun e w' => e = .returned (.int .u64 p) ∧ w = w')
    (hpb : ∀ w, Calls Try.prog 16 #[.float .f64 b] w fun e w' => e = .returned (.int .u64 q) ∧ w = w')
    (hn : -nx = x) (hx1 : -1 ≤ nx ∧ nx ≤ 1) (hxb : (x == 0) = B) (hpq : (p == q) = B)
    (hna : (FloatKind.f64.format.order a a != some .eq) = na) (hnb : (FloatKind.f64.format.order b b != some .eq) = nb) (hg : (FloatKind.f64.format.order a b == some .gt || FloatKind.f64.format.order a b == some .eq) = gg)
    (h1 : 0 < x) (h2 : na = false ∧ nb = false ∧ gg = true) :
    Calls Try.prog 6 #[.float .f64 a, .float .f64 b, .float .f64 c] w fun e w' => e = .returned (.bool true) ∧ Below w.heap.size w w' := by
  have hw : IntKind.i64.wrap (-nx) = x := by rw [IntKind.wrap_i64]; omega
  have HNN := Lib.hid hn
  have HN1 := Lib.hid hx1
  clear hx1 hn
  have f1 := h1
  obtain ⟨rfl, rfl, rfl⟩ := h2
  go_enter Try.func6, Try.ntmps6
  skip
  skip
  go_wp2_with fail
  refine (awake_any _).mono ?_
  rintro e w1 ⟨rfl, hb1⟩
  have HB := Lib.hid hb1
  clear hb1
  go_wp2_with fail
  refine (hab _).mono ?_
  rintro e w2 ⟨rfl, rfl⟩
  go_wp2_with fail
  refine (hbc _).mono ?_
  rintro e w2 ⟨rfl, rfl⟩
  go_wp2_with fail
  refine (hac _).mono ?_
  rintro e w2 ⟨rfl, rfl⟩
  go_wp2_with fail
  refine (hba _).mono ?_
  rintro e w2 ⟨rfl, rfl⟩
  go_wp2_with fail
  refine (haa _).mono ?_
  rintro e w2 ⟨rfl, rfl⟩
  go_wp2_with fail
  refine (hpa _).mono ?_
  rintro e w2 ⟨rfl, rfl⟩
  go_wp2_with fail
  refine (hpb _).mono ?_
  rintro e w2 ⟨rfl, rfl⟩
  go_wp2
  go_ret
  exact ⟨rfl, HB.out⟩

set_option maxRecDepth 100000 in
set_option maxHeartbeats 1000000 in
theorem total_03 (w : World) (a b c : Nat) (x y z nx p q : Int) (na nb gg B : Bool)
    (hab : ∀ w, Calls Try.prog 14 #[.float .f64 a, .float .f64 b] w fun e w' => e = .returned (.int .i64 x) ∧ w = w')
    (hbc : ∀ w, Calls Try.prog 14 #[.float .f64 b, .float .f64 c] w fun e w' => e = .returned (.int .i64 y) ∧ w = w')
    (hac : ∀ w, Calls Try.prog 14 #[.float .f64 a, .float .f64 c] w fun e w' => e = .returned (.int .i64 z) ∧ w = w')
    (hba : ∀ w, Calls Try.prog 14 #[.float .f64 b, .float .f64 a] w fun e w' => e = .returned (.int .i64 nx) ∧ w = w')
    (haa : ∀ w, Calls Try.prog 14 #[.float .f64 a, .float .f64 a] w fun e w' => e = .returned (.int .i64 0) ∧ w = w')
    (hpa : ∀ w, Calls Try.prog 16 #[.float .f64 a] w fun e w' => e = .returned (.int .u64 p) ∧ w = w')
    (hpb : ∀ w, Calls Try.prog 16 #[.float .f64 b] w fun e w' => e = .returned (.int .u64 q) ∧ w = w')
    (hn : -nx = x) (hx1 : -1 ≤ nx ∧ nx ≤ 1) (hxb : (x == 0) = B) (hpq : (p == q) = B)
    (hna : (FloatKind.f64.format.order a a != some .eq) = na) (hnb : (FloatKind.f64.format.order b b != some .eq) = nb) (hg : (FloatKind.f64.format.order a b == some .gt || FloatKind.f64.format.order a b == some .eq) = gg)
    (h1 : 0 < x) (h2 : na = false ∧ nb = false ∧ gg = false ∧ x < 0) :
    Calls Try.prog 6 #[.float .f64 a, .float .f64 b, .float .f64 c] w fun e w' => e = .returned (.bool true) ∧ Below w.heap.size w w' := by
  have hw : IntKind.i64.wrap (-nx) = x := by rw [IntKind.wrap_i64]; omega
  have HNN := Lib.hid hn
  have HN1 := Lib.hid hx1
  clear hx1 hn
  have f1 := h1
  obtain ⟨rfl, rfl, rfl, f4⟩ := h2
  go_enter Try.func6, Try.ntmps6
  skip
  skip
  go_wp2_with fail
  refine (awake_any _).mono ?_
  rintro e w1 ⟨rfl, hb1⟩
  have HB := Lib.hid hb1
  clear hb1
  go_wp2_with fail
  refine (hab _).mono ?_
  rintro e w2 ⟨rfl, rfl⟩
  go_wp2_with fail
  refine (hbc _).mono ?_
  rintro e w2 ⟨rfl, rfl⟩
  go_wp2_with fail
  refine (hac _).mono ?_
  rintro e w2 ⟨rfl, rfl⟩
  go_wp2_with fail
  refine (hba _).mono ?_
  rintro e w2 ⟨rfl, rfl⟩
  go_wp2_with fail
  refine (haa _).mono ?_
  rintro e w2 ⟨rfl, rfl⟩
  go_wp2_with fail
  refine (hpa _).mono ?_
  rintro e w2 ⟨rfl, rfl⟩
  go_wp2_with fail
  refine (hpb _).mono ?_
  rintro e w2 ⟨rfl, rfl⟩
  go_wp2
  go_ret
  exact ⟨rfl, HB.out⟩

set_option maxRecDepth 100000 in
set_option maxHeartbeats 1000000 in
theorem total_10 (w : World) (a b c : Nat) (x y z nx p q : Int) (na nb gg B : Bool)
    (hab : ∀ w, Calls Try.prog 14 #[.float .f64 a, .float .f64 b] w fun e w' => e = .returned (.int .i64 x) ∧ w = w')
    (hbc : ∀ w, Calls Try.prog 14 #[.float .f64 b, .float .f64 c] w fun e w' => e = .returned (.int .i64 y) ∧ w = w')
    (hac : ∀ w, Calls Try.prog 14 #[.float .f64 a, .float .f64 c] w fun e w' => e = .returned (.int .i64 z) ∧ w = w')
    (hba : ∀ w, Calls Try.prog 14 #[.float .f64 b, .float .f64 a] w fun e w' => e = .returned (.int .i64 nx) ∧ w = w')
    (haa : ∀ w, Calls Try.prog 14 #[.float .f64 a, .float .f64 a] w fun e w' => e = .returned (.int .i64 0) ∧ w = w')
    (hpa : ∀ w, Calls Try.prog 16 #[.float .f64 a] w fun e w' => e = .returned (.int .u64 p) ∧ w = w')
    (hpb : ∀ w, Calls Try.prog 16 #[.float .f64 b] w fun e w' => e = .returned (.int .u64 q) ∧ w = w')
    (hn : -nx = x) (hx1 : -1 ≤ nx ∧ nx ≤ 1) (hxb : (x == 0) = B) (hpq : (p == q) = B)
    (hna : (FloatKind.f64.format.order a a != some .eq) = na) (hnb : (FloatKind.f64.format.order b b != some .eq) = nb) (hg : (FloatKind.f64.format.order a b == some .gt || FloatKind.f64.format.order a b == some .eq) = gg)
    (h1 : ¬ 0 < x ∧ 0 < y) (h2 : na = true) :
    Calls Try.prog 6 #[.float .f64 a, .float .f64 b, .float .f64 c] w fun e w' => e = .returned (.bool true) ∧ Below w.heap.size w w' := by
  have hw : IntKind.i64.wrap (-nx) = x := by rw [IntKind.wrap_i64]; omega
  have HNN := Lib.hid hn
  have HN1 := Lib.hid hx1
  clear hx1 hn
  obtain ⟨f1, f2⟩ := h1
  subst h2
  go_enter Try.func6, Try.ntmps6
  skip
  skip
  go_wp2_with fail
  refine (awake_any _).mono ?_
  rintro e w1 ⟨rfl, hb1⟩
  have HB := Lib.hid hb1
  clear hb1
  go_wp2_with fail
  refine (hab _).mono ?_
  rintro e w2 ⟨rfl, rfl⟩
  go_wp2_with fail
  refine (hbc _).mono ?_
  rintro e w2 ⟨rfl, rfl⟩
  go_wp2_with fail
  refine (hac _).mono ?_
  rintro e w2 ⟨rfl, rfl⟩
  go_wp2_with fail
  refine (hba _).mono ?_
  rintro e w2 ⟨rfl, rfl⟩
  go_wp2_with fail
  refine (haa _).mono ?_
  rintro e w2 ⟨rfl, rfl⟩
  go_wp2_with fail
  refine (hpa _).mono ?_
  rintro e w2 ⟨rfl, rfl⟩
  go_wp2_with fail
  refine (hpb _).mono ?_
  rintro e w2 ⟨rfl, rfl⟩
  go_wp2
  go_ret
  exact ⟨rfl, HB.out⟩

set_option maxRecDepth 100000 in
set_option maxHeartbeats 1000000 in
theorem total_11 (w : World) (a b c : Nat) (x y z nx p q : Int) (na nb gg B : Bool)
    (hab : ∀ w, Calls Try.prog 14 #[.float .f64 a, .float .f64 b] w fun e w' => e = .returned (.int .i64 x) ∧ w = w')
    (hbc : ∀ w, Calls Try.prog 14 #[.float .f64 b, .float .f64 c] w fun e w' => e = .returned (.int .i64 y) ∧ w = w')
    (hac : ∀ w, Calls Try.prog 14 #[.float .f64 a, .float .f64 c] w fun e w' => e = .returned (.int .i64 z) ∧ w = w')
    (hba : ∀ w, Calls Try.prog 14 #[.float .f64 b, .float .f64 a] w fun e w' => e = .returned (.int .i64 nx) ∧ w = w')
    (haa : ∀ w, Calls Try.prog 14 #[.float .f64 a, .float .f64 a] w fun e w' => e = .returned (.int .i64 0) ∧ w = w')
    (hpa : ∀ w, Calls Try.prog 16 #[.float .f64 a] w fun e w' => e = .returned (.int .u64 p) ∧ w = w')
    (hpb : ∀ w, Calls Try.prog 16 #[.float .f64 b] w fun e w' => e = .returned (.int .u64 q) ∧ w = w')
    (hn : -nx = x) (hx1 : -1 ≤ nx ∧ nx ≤ 1) (hxb : (x == 0) = B) (hpq : (p == q) = B)
    (hna : (FloatKind.f64.format.order a a != some .eq) = na) (hnb : (FloatKind.f64.format.order b b != some .eq) = nb) (hg : (FloatKind.f64.format.order a b == some .gt || FloatKind.f64.format.order a b == some .eq) = gg)
    (h1 : ¬ 0 < x ∧ 0 < y) (h2 : na = false ∧ nb = true) :
    Calls Try.prog 6 #[.float .f64 a, .float .f64 b, .float .f64 c] w fun e w' => e = .returned (.bool true) ∧ Below w.heap.size w w' := by
  have hw : IntKind.i64.wrap (-nx) = x := by rw [IntKind.wrap_i64]; omega
  have HNN := Lib.hid hn
  have HN1 := Lib.hid hx1
  clear hx1 hn
  obtain ⟨f1, f2⟩ := h1
  obtain ⟨rfl, rfl⟩ := h2
  go_enter Try.func6, Try.ntmps6
  skip
  skip
  go_wp2_with fail
  refine (awake_any _).mono ?_
  rintro e w1 ⟨rfl, hb1⟩
  have HB := Lib.hid hb1
  clear hb1
  go_wp2_with fail
  refine (hab _).mono ?_
  rintro e w2 ⟨rfl, rfl⟩
  go_wp2_with fail
  refine (hbc _).mono ?_
  rintro e w2 ⟨rfl, rfl⟩
  go_wp2_with fail
  refine (hac _).mono ?_
  rintro e w2 ⟨rfl, rfl⟩
  go_wp2_with fail
  refine (hba _).mono ?_
  rintro e w2 ⟨rfl, rfl⟩
  go_wp2_with fail
  refine (haa _).mono ?_
  rintro e w2 ⟨rfl, rfl⟩
  go_wp2_with fail
  refine (hpa _).mono ?_
  rintro e w2 ⟨rfl, rfl⟩
  go_wp2_with fail
  refine (hpb _).mono ?_
  rintro e w2 ⟨rfl, rfl⟩
  go_wp2
  go_ret
  exact ⟨rfl, HB.out⟩

set_option maxRecDepth 100000 in
set_option maxHeartbeats 1000000 in
theorem total_12 (w : World) (a b c : Nat) (x y z nx p q : Int) (na nb gg B : Bool)
    (hab : ∀ w, Calls Try.prog 14 #[.float .f64 a, .float .f64 b] w fun e w' => e = .returned (.int .i64 x) ∧ w = w')
    (hbc : ∀ w, Calls Try.prog 14 #[.float .f64 b, .float .f64 c] w fun e w' => e = .returned (.int .i64 y) ∧ w = w')
    (hac : ∀ w, Calls Try.prog 14 #[.float .f64 a, .float .f64 c] w fun e w' => e = .returned (.int .i64 z) ∧ w = w')
    (hba : ∀ w, Calls Try.prog 14 #[.float .f64 b, .float .f64 a] w fun e w' => e = .returned (.int .i64 nx) ∧ w = w')
    (haa : ∀ w, Calls Try.prog 14 #[.float .f64 a, .float .f64 a] w fun e w' => e = .returned (.int .i64 0) ∧ w = w')
    (hpa : ∀ w, Calls Try.prog 16 #[.float .f64 a] w fun e w' => e = .returned (.int .u64 p) ∧ w = w')
    (hpb : ∀ w, Calls Try.prog 16 #[.float .f64 b] w fun e w' => e = .returned (.int .u64 q) ∧ w = w')
    (hn : -nx = x) (hx1 : -1 ≤ nx ∧ nx ≤ 1) (hxb : (x == 0) = B) (hpq : (p == q) = B)
    (hna : (FloatKind.f64.format.order a a != some .eq) = na) (hnb : (FloatKind.f64.format.order b b != some .eq) = nb) (hg : (FloatKind.f64.format.order a b == some .gt || FloatKind.f64.format.order a b == some .eq) = gg)
    (h1 : ¬ 0 < x ∧ 0 < y) (h2 : na = false ∧ nb = false ∧ gg = true) :
    Calls Try.prog 6 #[.float .f64 a, .float .f64 b, .float .f64 c] w fun e w' => e = .returned (.bool true) ∧ Below w.heap.size w w' := by
  have hw : IntKind.i64.wrap (-nx) = x := by rw [IntKind.wrap_i64]; omega
  have HNN := Lib.hid hn
  have HN1 := Lib.hid hx1
  clear hx1 hn
  obtain ⟨f1, f2⟩ := h1
  obtain ⟨rfl, rfl, rfl⟩ := h2
  go_enter Try.func6, Try.ntmps6
  skip
  skip
  go_wp2_with fail
  refine (awake_any _).mono ?_
  rintro e w1 ⟨rfl, hb1⟩
  have HB := Lib.hid hb1
  clear hb1
  go_wp2_with fail
  refine (hab _).mono ?_
  rintro e w2 ⟨rfl, rfl⟩
  go_wp2_with fail
  refine (hbc _).mono ?_
  rintro e w2 ⟨rfl, rfl⟩
  go_wp2_with fail
  refine (hac _).mono ?_
  rintro e w2 ⟨rfl, rfl⟩
  go_wp2_with fail
  refine (hba _).mono ?_
  rintro e w2 ⟨rfl, rfl⟩
  go_wp2_with fail
  refine (haa _).mono ?_
  rintro e w2 ⟨rfl, rfl⟩
  go_wp2_with fail
  refine (hpa _).mono ?_
  rintro e w2 ⟨rfl, rfl⟩
  go_wp2_with fail
  refine (hpb _).mono ?_
  rintro e w2 ⟨rfl, rfl⟩
  go_wp2
  go_ret
  exact ⟨rfl, HB.out⟩

set_option maxRecDepth 100000 in
set_option maxHeartbeats 1000000 in
theorem total_13 (w : World) (a b c : Nat) (x y z nx p q : Int) (na nb gg B : Bool)
    (hab : ∀ w, Calls Try.prog 14 #[.float .f64 a, .float .f64 b] w fun e w' => e = .returned (.int .i64 x) ∧ w = w')
    (hbc : ∀ w, Calls Try.prog 14 #[.float .f64 b, .float .f64 c] w fun e w' => e = .returned (.int .i64 y) ∧ w = w')
    (hac : ∀ w, Calls Try.prog 14 #[.float .f64 a, .float .f64 c] w fun e w' => e = .returned (.int .i64 z) ∧ w = w')
    (hba : ∀ w, Calls Try.prog 14 #[.float .f64 b, .float .f64 a] w fun e w' => e = .returned (.int .i64 nx) ∧ w = w')
    (haa : ∀ w, Calls Try.prog 14 #[.float .f64 a, .float .f64 a] w fun e w' => e = .returned (.int .i64 0) ∧ w = w')
    (hpa : ∀ w, Calls Try.prog 16 #[.float .f64 a] w fun e w' => e = .returned (.int .u64 p) ∧ w = w')
    (hpb : ∀ w, Calls Try.prog 16 #[.float .f64 b] w fun e w' => e = .returned (.int .u64 q) ∧ w = w')
    (hn : -nx = x) (hx1 : -1 ≤ nx ∧ nx ≤ 1) (hxb : (x == 0) = B) (hpq : (p == q) = B)
    (hna : (FloatKind.f64.format.order a a != some .eq) = na) (hnb : (FloatKind.f64.format.order b b != some .eq) = nb) (hg : (FloatKind.f64.format.order a b == some .gt || FloatKind.f64.format.order a b == some .eq) = gg)
    (h1 : ¬ 0 < x ∧ 0 < y) (h2 : na = false ∧ nb = false ∧ gg = false ∧ x < 0) :
    Calls Try.prog 6 #[.float .f64 a, .float .f64 b, .float .f64 c] w fun e w' => e = .returned (.bool true) ∧ Below w.heap.size w w' := by
  have hw : IntKind.i64.wrap (-nx) = x := by rw [IntKind.wrap_i64]; omega
  have HNN := Lib.hid hn
  have HN1 := Lib.hid hx1
  clear hx1 hn
  obtain ⟨f1, f2⟩ := h1
  obtain ⟨rfl, rfl, rfl, f4⟩ := h2
  go_enter Try.func6, Try.ntmps6
  skip
  skip
  go_wp2_with fail
  refine (awake_any _).mono ?_
  rintro e w1 ⟨rfl, hb1⟩
  have HB := Lib.hid hb1
  clear hb1
  go_wp2_with fail
  refine (hab _).mono ?_
  rintro e w2 ⟨rfl, rfl⟩
  go_wp2_with fail
  refine (hbc _).mono ?_
  rintro e w2 ⟨rfl, rfl⟩
  go_wp2_with fail
  refine (hac _).mono ?_
  rintro e w2 ⟨rfl, rfl⟩
  go_wp2_with fail
  refine (hba _).mono ?_
  rintro e w2 ⟨rfl, rfl⟩
  go_wp2_with fail
  refine (haa _).mono ?_
  rintro e w2 ⟨rfl, rfl⟩
  go_wp2_with fail
  refine (hpa _).mono ?_
  rintro e w2 ⟨rfl, rfl⟩
  go_wp2_with fail
  refine (hpb _).mono ?_
  rintro e w2 ⟨rfl, rfl⟩
  go_wp2
  go_ret
  exact ⟨rfl, HB.out⟩

set_option maxRecDepth 100000 in
set_option maxHeartbeats 1000000 in
theorem total_20 (w : World) (a b c : Nat) (x y z nx p q : Int) (na nb gg B : Bool)
    (hab : ∀ w, Calls Try.prog 14 #[.float .f64 a, .float .f64 b] w fun e w' => e = .returned (.int .i64 x) ∧ w = w')
    (hbc : ∀ w, Calls Try.prog 14 #[.float .f64 b, .float .f64 c] w fun e w' => e = .returned (.int .i64 y) ∧ w = w')
    (hac : ∀ w, Calls Try.prog 14 #[.float .f64 a, .float .f64 c] w fun e w' => e = .returned (.int .i64 z) ∧ w = w')
    (hba : ∀ w, Calls Try.prog 14 #[.float .f64 b, .float .f64 a] w fun e w' => e = .returned (.int .i64 nx) ∧ w = w')
    (haa : ∀ w, Calls Try.prog 14 #[.float .f64 a, .float .f64 a] w fun e w' => e = .returned (.int .i64 0) ∧ w = w')
    (hpa : ∀ w, Calls Try.prog 16 #[.float .f64 a] w fun e w' => e = .returned (.int .u64 p) ∧ w = w')
    (hpb : ∀ w, Calls Try.prog 16 #[.float .f64 b] w fun e w' => e = .returned (.int .u64 q) ∧ w = w')
    (hn : -nx = x) (hx1 : -1 ≤ nx ∧ nx ≤ 1) (hxb : (x == 0) = B) (hpq : (p == q) = B)
    (hna : (FloatKind.f64.format.order a a != some .eq) = na) (hnb : (FloatKind.f64.format.order b b != some .eq) = nb) (hg : (FloatKind.f64.format.order a b == some .gt || FloatKind.f64.format.order a b == some .eq) = gg)
    (h1 : ¬ 0 < x ∧ ¬ 0 < y ∧ z ≤ 0) (h2 : na = true) :
    Calls Try.prog 6 #[.float .f64 a, .float .f64 b, .float .f64 c] w fun e w' => e = .returned (.bool true) ∧ Below w.heap.size w w' := by
  have hw : IntKind.i64.wrap (-nx) = x := by rw [IntKind.wrap_i64]; omega
  have HNN := Lib.hid hn
  have HN1 := Lib.hid hx1
  clear hx1 hn
  obtain ⟨f1, f2, f3⟩ := h1
  subst h2
  go_enter Try.func6, Try.ntmps6
  skip
  skip
  go_wp2_with fail
  refine (awake_any _).mono ?_
  rintro e w1 ⟨rfl, hb1⟩
  have HB := Lib.hid hb1
  clear hb1
  go_wp2_with fail
  refine (hab _).mono ?_
  rintro e w2 ⟨rfl, rfl⟩
  go_wp2_with fail
  refine (hbc _).mono ?_
  rintro e w2 ⟨rfl, rfl⟩
  go_wp2_with fail
  refine (hac _).mono ?_
  rintro e w2 ⟨rfl, rfl⟩
  go_wp2_with fail
  refine (hba _).mono ?_
  rintro e w2 ⟨rfl, rfl⟩
  go_wp2_with fail
  refine (haa _).mono ?_
  rintro e w2 ⟨rfl, rfl⟩
  go_wp2_with fail
  refine (hpa _).mono ?_
  rintro e w2 ⟨rfl, rfl⟩
  go_wp2_with fail
  refine (hpb _).mono ?_
  rintro e w2 ⟨rfl, rfl⟩
  go_wp2
  go_ret
  exact ⟨rfl, HB.out⟩

set_option maxRecDepth 100000 in
set_option maxHeartbeats 1000000 in
theorem total_21 (w : World) (a b c : Nat) (x y z nx p q : Int) (na nb gg B : Bool)
    (hab : ∀ w, Calls Try.prog 14 #[.float .f64 a, .float .f64 b] w fun e w' => e = .returned (.int .i64 x) ∧ w = w')
    (hbc : ∀ w, Calls Try.prog 14 #[.float .f64 b, .float .f64 c] w fun e w' => e = .returned (.int .i64 y) ∧ w = w')
    (hac : ∀ w, Calls Try.prog 14 #[.float .f64 a, .float .f64 c] w fun e w' => e = .returned (.int .i64 z) ∧ w = w')
    (hba : ∀ w, Calls Try.prog 14 #[.float .f64 b, .float .f64 a] w fun e w' => e = .returned (.int .i64 nx) ∧ w = w')
    (haa : ∀ w, Calls Try.prog 14 #[.float .f64 a, .float .f64 a] w fun e w' => e = .returned (.int .i64 0) ∧ w = w')
    (hpa : ∀ w, Calls Try.prog 16 #[.float .f64 a] w fun e w' => e = .returned (.int .u64 p) ∧ w = w')
    (hpb : ∀ w, Calls Try.prog 16 #[.float .f64 b] w fun e w' => e = .returned (.int .u64 q) ∧ w = w')
    (hn : -nx = x) (hx1 : -1 ≤ nx ∧ nx ≤ 1) (hxb : (x == 0) = B) (hpq : (p == q) = B)
    (hna : (FloatKind.f64.format.order a a != some .eq) = na) (hnb : (FloatKind.f64.format.order b b != some .eq) = nb) (hg : (FloatKind.f64.format.order a b == some .gt || FloatKind.f64.format.order a b == some .eq) = gg)
    (h1 : ¬ 0 < x ∧ ¬ 0 < y ∧ z ≤ 0) (h2 : na = false ∧ nb = true) :
    Calls Try.prog 6 #[.float .f64 a, .float .f64 b, .float .f64 c] w fun e w' => e = .returned (.bool true) ∧ Below w.heap.size w w' := by
  have hw : IntKind.i64.wrap (-nx) = x := by rw [IntKind.wrap_i64]; omega
  have HNN := Lib.hid hn
  have HN1 := Lib.hid hx1
  clear hx1 hn
  obtain ⟨f1, f2, f3⟩ := h1
  obtain ⟨rfl, rfl⟩ := h2
  go_enter Try.func6, Try.ntmps6
  skip
  skip
  go_wp2_with fail
  refine (awake_any _).mono ?_
  rintro e w1 ⟨rfl, hb1⟩
  have HB := Lib.hid hb1
  clear hb1
  go_wp2_with fail
  refine (hab _).mono ?_
  rintro e w2 ⟨rfl, rfl⟩
  go_wp2_with fail
  refine (hbc _).mono ?_
  rintro e w2 ⟨rfl, rfl⟩
  go_wp2_with fail
  refine (hac _).mono ?_
  rintro e w2 ⟨rfl, rfl⟩
  go_wp2_with fail
  refine (hba _).mono ?_
  rintro e w2 ⟨rfl, rfl⟩
  go_wp2_with fail
  refine (haa _).mono ?_
  rintro e w2 ⟨rfl, rfl⟩
  go_wp2_with fail
  refine (hpa _).mono ?_
  rintro e w2 ⟨rfl, rfl⟩
  go_wp2_with fail
  refine (hpb _).mono ?_
  rintro e w2 ⟨rfl, rfl⟩
  go_wp2
  go_ret
  exact ⟨rfl, HB.out⟩

set_option maxRecDepth 100000 in
set_option maxHeartbeats 1000000 in
theorem total_22 (w : World) (a b c : Nat) (x y z nx p q : Int) (na nb gg B : Bool)
    (hab : ∀ w, Calls Try.prog 14 #[.float .f64 a, .float .f64 b] w fun e w' => e = .returned (.int .i64 x) ∧ w = w')
    (hbc : ∀ w, Calls Try.prog 14 #[.float .f64 b, .float .f64 c] w fun e w' => e = .returned (.int .i64 y) ∧ w = w')
    (hac : ∀ w, Calls Try.prog 14 #[.float .f64 a, .float .f64 c] w fun e w' => e = .returned (.int .i64 z) ∧ w = w')
    (hba : ∀ w, Calls Try.prog 14 #[.float .f64 b, .float .f64 a] w fun e w' => e = .returned (.int .i64 nx) ∧ w = w')
    (haa : ∀ w, Calls Try.prog 14 #[.float .f64 a, .float .f64 a] w fun e w' => e = .returned (.int .i64 0) ∧ w = w')
    (hpa : ∀ w, Calls Try.prog 16 #[.float .f64 a] w fun e w' => e = .returned (.int .u64 p) ∧ w = w')
    (hpb : ∀ w, Calls Try.prog 16 #[.float .f64 b] w fun e w' => e = .returned (.int .u64 q) ∧ w = w')
    (hn : -nx = x) (hx1 : -1 ≤ nx ∧ nx ≤ 1) (hxb : (x == 0) = B) (hpq : (p == q) = B)
    (hna : (FloatKind.f64.format.order a a != some .eq) = na) (hnb : (FloatKind.f64.format.order b b != some .eq) = nb) (hg : (FloatKind.f64.format.order a b == some .gt || FloatKind.f64.format.order a b == some .eq) = gg)
    (h1 : ¬ 0 < x ∧ ¬ 0 < y ∧ z ≤ 0) (h2 : na = false ∧ nb = false ∧ gg = true) :
    Calls Try.prog 6 #[.float .f64 a, .float .f64 b, .float .f64 c] w fun e w' => e = .returned (.bool true) ∧ Below w.heap.size w w' := by
  have hw : IntKind.i64.wrap (-nx) = x := by rw [IntKind.wrap_i64]; omega
  have HNN := Lib.hid hn
  have HN1 := Lib.hid hx1
  clear hx1 hn
  obtain ⟨f1, f2, f3⟩ := h1
  obtain ⟨rfl, rfl, rfl⟩ := h2
  go_enter Try.func6, Try.ntmps6
  skip
  skip
  go_wp2_with fail
  refine (awake_any _).mono ?_
  rintro e w1 ⟨rfl, hb1⟩
  have HB := Lib.hid hb1
  clear hb1
  go_wp2_with fail
  refine (hab _).mono ?_
  rintro e w2 ⟨rfl, rfl⟩
  go_wp2_with fail
  refine (hbc _).mono ?_
  rintro e w2 ⟨rfl, rfl⟩
  go_wp2_with fail
  refine (hac _).mono ?_
  rintro e w2 ⟨rfl, rfl⟩
  go_wp2_with fail
  refine (hba _).mono ?_
  rintro e w2 ⟨rfl, rfl⟩
  go_wp2_with fail
  refine (haa _).mono ?_
  rintro e w2 ⟨rfl, rfl⟩
  go_wp2_with fail
  refine (hpa _).mono ?_
  rintro e w2 ⟨rfl, rfl⟩
  go_wp2_with fail
  refine (hpb _).mono ?_
  rintro e w2 ⟨rfl, rfl⟩
  go_wp2
  go_ret
  exact ⟨rfl, HB.out⟩

set_option maxRecDepth 100000 in
set_option maxHeartbeats 1000000 in
theorem total_23 (w : World) (a b c : Nat) (x y z nx p q : Int) (na nb gg B : Bool)
    (hab : ∀ w, Calls Try.prog 14 #[.float .f64 a, .float .f64 b] w fun e w' => e = .returned (.int .i64 x) ∧ w = w')
    (hbc : ∀ w, Calls Try.prog 14 #[.float .f64 b, .float .f64 c] w fun e w' => e = .returned (.int .i64 y) ∧ w = w')
    (hac : ∀ w, Calls Try.prog 14 #[.float .f64 a, .float .f64 c] w fun e w' => e = .returned (.int .i64 z) ∧ w = w')
    (hba : ∀ w, Calls Try.prog 14 #[.float .f64 b, .float .f64 a] w fun e w' => e = .returned (.int .i64 nx) ∧ w = w')
    (haa : ∀ w, Calls Try.prog 14 #[.float .f64 a, .float .f64 a] w fun e w' => e = .returned (.int .i64 0) ∧ w = w')
    (hpa : ∀ w, Calls Try.prog 16 #[.float .f64 a] w fun e w' => e = .returned (.int .u64 p) ∧ w = w')
    (hpb : ∀ w, Calls Try.prog 16 #[.float .f64 b] w fun e w' => e = .returned (.int .u64 q) ∧ w = w')
    (hn : -nx = x) (hx1 : -1 ≤ nx ∧ nx ≤ 1) (hxb : (x == 0) = B) (hpq : (p == q) = B)
    (hna : (FloatKind.f64.format.order a a != some .eq) = na) (hnb : (FloatKind.f64.format.order b b != some .eq) = nb) (hg : (FloatKind.f64.format.order a b == some .gt || FloatKind.f64.format.order a b == some .eq) = gg)
    (h1 : ¬ 0 < x ∧ ¬ 0 < y ∧ z ≤ 0) (h2 : na = false ∧ nb = false ∧ gg = false ∧ x < 0) :
    Calls Try.prog 6 #[.float .f64 a, .float .f64 b, .float .f64 c] w fun e w' => e = .returned (.bool true) ∧ Below w.heap.size w w' := by
  have hw : IntKind.i64.wrap (-nx) = x := by rw [IntKind.wrap_i64]; omega
  have HNN := Lib.hid hn
  have HN1 := Lib.hid hx1
  clear hx1 hn
  obtain ⟨f1, f2, f3⟩ := h1
  obtain ⟨rfl, rfl, rfl, f4⟩ := h2
  go_enter Try.func6, Try.ntmps6
  skip
  skip
  go_wp2_with fail
  refine (awake_any _).mono ?_
  rintro e w1 ⟨rfl, hb1⟩
  have HB := Lib.hid hb1
  clear hb1
  go_wp2_with fail
  refine (hab _).mono ?_
  rintro e w2 ⟨rfl, rfl⟩
  go_wp2_with fail
  refine (hbc _).mono ?_
  rintro e w2 ⟨rfl, rfl⟩
  go_wp2_with fail
  refine (hac _).mono ?_
  rintro e w2 ⟨rfl, rfl⟩
  go_wp2_with fail
  refine (hba _).mono ?_
  rintro e w2 ⟨rfl, rfl⟩
  go_wp2_with fail
  refine (haa _).mono ?_
  rintro e w2 ⟨rfl, rfl⟩
  go_wp2_with fail
  refine (hpa _).mono ?_
  rintro e w2 ⟨rfl, rfl⟩
  go_wp2_with fail
  refine (hpb _).mono ?_
  rintro e w2 ⟨rfl, rfl⟩
  go_wp2
  go_ret
  exact ⟨rfl, HB.out⟩

theorem geq_of_key {a b : Nat} (ha : isnan a = false) (hb : isnan b = false) (h : key b ≤ key a) : (FloatKind.f64.format.order a b == some .gt || FloatKind.f64.format.order a b == some .eq) = true := by
  have e1 : (FloatKind.f64.format.order a b == some .gt) = decide (isnan a = false ∧ isnan b = false ∧ sr b < sr a) := f_gtr a b
  have e2 : (FloatKind.f64.format.order a b == some .eq) = decide (isnan a = false ∧ isnan b = false ∧ sr a = sr b) := f_eql a b
  rw [e1, e2]
  have h2 : sr b ≤ sr a := by
    rw [key_num ha, key_num hb] at h
    unfold sr
    cases h1 : sgn a <;> cases h2 : sgn b <;> simp [h1, h2] at h ⊢ <;> omega
  simp [ha, hb]
  omega

theorem lawTotal (w : World) (a : Nat) (ha : a < 18446744073709551616) (b : Nat) (hb : b < 18446744073709551616) (c : Nat) (hc : c < 18446744073709551616) :
    Calls Try.prog 6 #[.float .f64 a, .float .f64 b, .float .f64 c] w fun e w' => e = .returned (.bool true) ∧ Below w.heap.size w w' := by
  have hab := fun w => cmp_any a b w ha hb
  have hbc := fun w => cmp_any b c w hb hc
  have hac := fun w => cmp_any a c w ha hc
  have hba := fun w => cmp_any b a w hb ha
  have haa := fun w => cmp_any a a w ha ha
  rw [show cmpF a a = 0 from cmpF_zero.2 rfl] at haa
  have hpa := fun w => bits_any a w
  have hpb := fun w => bits_any b w
  have hn : -cmpF b a = cmpF a b := (cmpF_neg a b).symm
  have hin := cmpF_in b a
  have hpq : (((bitsOf a : Nat) : Int) == ((bitsOf b : Nat) : Int)) = (cmpF a b == 0) := by
    by_cases h : bitsOf a = bitsOf b
    · rw [h, cmpF_zero.2 ((key_bits ha hb).2 h)]; simp
    · have h2 : ¬ cmpF a b = 0 := fun e => h ((key_bits ha hb).1 (cmpF_zero.1 e))
      rw [beq_eq_false_iff_ne.2 h2, beq_eq_false_iff_ne.2 (by omega)]
  have hna : (FloatKind.f64.format.order a a != some .eq) = isnan a := f_neq_self a
  have hnb : (FloatKind.f64.format.order b b != some .eq) = isnan b := f_neq_self b
  have k1 : (0 < cmpF a b) ∨ (¬ 0 < cmpF a b ∧ 0 < cmpF b c) ∨ (¬ 0 < cmpF a b ∧ ¬ 0 < cmpF b c ∧ cmpF a c ≤ 0) := by
    by_cases h1 : 0 < cmpF a b
    · exact .inl h1
    · by_cases h2 : 0 < cmpF b c
      · exact .inr (.inl ⟨h1, h2⟩)
      · refine .inr (.inr ⟨h1, h2, ?_⟩)
        have h3 : ¬ 0 < cmpF a c := by rw [cmpF_gt] at *; omega
        omega
  have k2 : ∀ gg, (FloatKind.f64.format.order a b == some .gt || FloatKind.f64.format.order a b == some .eq) = gg → (isnan a = true) ∨ (isnan a = false ∧ isnan b = true) ∨ (isnan a = false ∧ isnan b = false ∧ gg = true) ∨ (isnan a = false ∧ isnan b = false ∧ gg = false ∧ cmpF a b < 0) := by
    intro gg hgg
    cases na : isnan a
    · cases nb : isnan b
      · by_cases h : key b ≤ key a
        · rw [geq_of_key na nb h] at hgg
          subst hgg; simp
        · have := cmpF_lt.2 (show key a < key b by omega)
          cases gg <;> simp [this]
      · simp
    · simp
  have k2 := k2 _ rfl
  rcases k1 with h1 | h1 | h1 <;> rcases k2 with h2 | h2 | h2 | h2
  · exact total_00 w a b c _ _ _ _ _ _ _ _ _ _ hab hbc hac hba haa hpa hpb hn hin rfl hpq hna hnb rfl h1 h2
  · exact total_01 w a b c _ _ _ _ _ _ _ _ _ _ hab hbc hac hba haa hpa hpb hn hin rfl hpq hna hnb rfl h1 h2
  · exact total_02 w a b c _ _ _ _ _ _ _ _ _ _ hab hbc hac hba haa hpa hpb hn hin rfl hpq hna hnb rfl h1 h2
  · exact total_03 w a b c _ _ _ _ _ _ _ _ _ _ hab hbc hac hba haa hpa hpb hn hin rfl hpq hna hnb rfl h1 h2
  · exact total_10 w a b c _ _ _ _ _ _ _ _ _ _ hab hbc hac hba haa hpa hpb hn hin rfl hpq hna hnb rfl h1 h2
  · exact total_11 w a b c _ _ _ _ _ _ _ _ _ _ hab hbc hac hba haa hpa hpb hn hin rfl hpq hna hnb rfl h1 h2
  · exact total_12 w a b c _ _ _ _ _ _ _ _ _ _ hab hbc hac hba haa hpa hpb hn hin rfl hpq hna hnb rfl h1 h2
  · exact total_13 w a b c _ _ _ _ _ _ _ _ _ _ hab hbc hac hba haa hpa hpb hn hin rfl hpq hna hnb rfl h1 h2
  · exact total_20 w a b c _ _ _ _ _ _ _ _ _ _ hab hbc hac hba haa hpa hpb hn hin rfl hpq hna hnb rfl h1 h2
  · exact total_21 w a b c _ _ _ _ _ _ _ _ _ _ hab hbc hac hba haa hpa hpb hn hin rfl hpq hna hnb rfl h1 h2
  · exact total_22 w a b c _ _ _ _ _ _ _ _ _ _ hab hbc hac hba haa hpa hpb hn hin rfl hpq hna hnb rfl h1 h2
  · exact total_23 w a b c _ _ _ _ _ _ _ _ _ _ hab hbc hac hba haa hpa hpb hn hin rfl hpq hna hnb rfl h1 h2

end Go.Proofs.Ytcpacgflljmlaaa.G4
