/-
  Layer 8, walks of the program: dots and elements of an operation.
-/
import Derived.Test.YtphnimmhjnhajaaKW9c
namespace Go.Proofs.Ytphnimmhjnhajaa.W8
open Go.RowKit Go.PlainAid M8
set_option linter.unusedVariables false

set_option maxRecDepth 100000 in
set_option maxHeartbeats 1000000 in
theorem dotsMay_no (g : Grp) (l : List (Int × Int)) (A : Option Addr) (c : Nat) (w : World) (hr : Rd w A (l.flatMap stampC)) (hn : 200 < l.length) : Calls Try.prog 71 #[.slice A l.length c, .agg #[.int .i64 g.t, .int .i64 g.r]] w fun e w' => e = .returned (.bool (false)) ∧ Below w.heap.size w w' := by
  have B0 := Lib.hid (below_box (w := w) (.cells #[.int .i64 g.t, .int .i64 g.r] 23))
  have h1 : decide ((l.length : Int) ≤ 200) = false := decide_eq_false (by omega)
  have h2 : decide (l.length ≤ 200) = false := decide_eq_false (by omega)
  have h3 : ¬ l.length ≤ 200 := by omega
  have h4 : ¬ (l.length : Int) ≤ 200 := by omega
  clear hr hn
  go_enter Try.func71, Try.ntmps71
  go_wp2
  go_ret
  exact ⟨rfl, B0.out⟩

set_option maxRecDepth 100000 in
set_option maxHeartbeats 1000000 in
theorem dotsMay_in (g : Grp) (l : List (Int × Int)) (A : Option Addr) (c : Nat) (w : World) (hr : Rd w A (l.flatMap stampC)) (hn : l.length ≤ 200) : Calls Try.prog 71 #[.slice A l.length c, .agg #[.int .i64 g.t, .int .i64 g.r]] w fun e w' => e = .returned (.bool (dotsB g l)) ∧ Below w.heap.size w w' := by
  have B0 := Lib.hid (below_box (w := w) (.cells #[.int .i64 g.t, .int .i64 g.r] 23))
  have HR := Lib.hid (hr.keep B0.out)
  have HT := Lib.hid (Two.new w 23 g.t g.r)
  have h1 : decide ((l.length : Int) ≤ 200) = true := decide_eq_true (by omega)
  have h2 : decide (l.length ≤ 200) = true := decide_eq_true (by omega)
  have HN := Lib.hid hn
  obtain ⟨m, hm⟩ : ∃ m, dotsB g l = m := ⟨_, rfl⟩
  have HM := Lib.hid hm
  rw [hm]
  clear hr hm
  go_enter Try.func71, Try.ntmps71
  go_wp2_with fail
  refine (risingS_any g l A c w.heap.size _ HR.out HT.out (by have := HN.out; omega)).mono ?_
  rintro e w1 ⟨rfl, hb1⟩
  rw [HM.out]
  have B1 := Lib.hid (chain B0.out hb1)
  clear hb1
  go_wp2
  go_ret
  exact ⟨rfl, B1.out⟩

theorem dotsMay_any (g : Grp) (l : List (Int × Int)) (A : Option Addr) (c : Nat) (w : World) (hr : Rd w A (l.flatMap stampC)) : Calls Try.prog 71 #[.slice A l.length c, .agg #[.int .i64 g.t, .int .i64 g.r]] w fun e w' => e = .returned (.bool (dotsB g l && decide (l.length ≤ 200))) ∧ Below w.heap.size w w' := by
  by_cases hn : l.length ≤ 200
  · rw [decide_eq_true hn, Bool.and_true]
    exact dotsMay_in g l A c w hr hn
  · rw [decide_eq_false hn, Bool.and_false]
    exact dotsMay_no g l A c w hr (by omega)

set_option maxRecDepth 100000 in
set_option maxHeartbeats 1000000 in
theorem elemsMay_few (g : Grp) (k : Int) (l : List Id3) (A : Option Addr) (c : Nat) (w : World) (hr : Rd w A (l.flatMap idC)) (hn : l.length = 0) : Calls Try.prog 73 #[.slice A l.length c, .agg #[.int .i64 g.t, .int .i64 g.r, .int .i64 k]] w fun e w' => e = .returned (.bool (false)) ∧ Below w.heap.size w w' := by
  have B0 := Lib.hid (below_box (w := w) (.cells #[.int .i64 g.t, .int .i64 g.r, .int .i64 k] 40))
  have h1 : decide ((1 : Int) ≤ (l.length : Int)) = false := decide_eq_false (by omega)
  have h2 : decide (1 ≤ l.length) = false := decide_eq_false (by omega)
  have h3 : ¬ 1 ≤ l.length := by omega
  have h4 : ¬ (1 : Int) ≤ (l.length : Int) := by omega
  have h5 : ¬ 0 < l.length := by omega
  clear hr hn
  go_enter Try.func73, Try.ntmps73
  go_wp2
  go_ret
  exact ⟨rfl, B0.out⟩

set_option maxRecDepth 100000 in
set_option maxHeartbeats 1000000 in
theorem elemsMay_many (g : Grp) (k : Int) (l : List Id3) (A : Option Addr) (c : Nat) (w : World) (hr : Rd w A (l.flatMap idC)) (hn : 2000 < l.length) : Calls Try.prog 73 #[.slice A l.length c, .agg #[.int .i64 g.t, .int .i64 g.r, .int .i64 k]] w fun e w' => e = .returned (.bool (false)) ∧ Below w.heap.size w w' := by
  have B0 := Lib.hid (below_box (w := w) (.cells #[.int .i64 g.t, .int .i64 g.r, .int .i64 k] 40))
  have h1 : decide ((1 : Int) ≤ (l.length : Int)) = true := decide_eq_true (by omega)
  have h2 : decide (1 ≤ l.length) = true := decide_eq_true (by omega)
  have h3 : decide ((l.length : Int) ≤ 2000) = false := decide_eq_false (by omega)
  have h4 : decide (l.length ≤ 2000) = false := decide_eq_false (by omega)
  have h5 : ¬ l.length ≤ 2000 := by omega
  have h6 : 0 < l.length := by omega
  clear hr hn
  go_enter Try.func73, Try.ntmps73
  go_wp2
  go_ret
  exact ⟨rfl, B0.out⟩

set_option maxRecDepth 100000 in
set_option maxHeartbeats 1000000 in
theorem elemsMay_in (g : Grp) (k : Int) (l : List Id3) (A : Option Addr) (c : Nat) (w : World) (hr : Rd w A (l.flatMap idC)) (h0 : 1 ≤ l.length) (hn : l.length ≤ 2000) : Calls Try.prog 73 #[.slice A l.length c, .agg #[.int .i64 g.t, .int .i64 g.r, .int .i64 k]] w fun e w' => e = .returned (.bool (elemsB g k l)) ∧ Below w.heap.size w w' := by
  have B0 := Lib.hid (below_box (w := w) (.cells #[.int .i64 g.t, .int .i64 g.r, .int .i64 k] 40))
  have HR := Lib.hid (hr.keep B0.out)
  have HT := Lib.hid (Tri.new w 40 g.t g.r k)
  have h1 : decide ((l.length : Int) ≤ 2000) = true := decide_eq_true (by omega)
  have h2 : decide (l.length ≤ 2000) = true := decide_eq_true (by omega)
  have h3 : decide ((1 : Int) ≤ (l.length : Int)) = true := decide_eq_true (by omega)
  have h4 : decide (1 ≤ l.length) = true := decide_eq_true (by omega)
  have h6 : 0 < l.length := by omega
  have HN := Lib.hid hn
  obtain ⟨m, hm⟩ : ∃ m, elemsB g k l = m := ⟨_, rfl⟩
  have HM := Lib.hid hm
  rw [hm]
  clear hr hm
  go_enter Try.func73, Try.ntmps73
  go_wp2_with fail
  refine (risingI_any g k l A c w.heap.size _ HR.out HT.out (by have := HN.out; omega)).mono ?_
  rintro e w1 ⟨rfl, hb1⟩
  rw [HM.out]
  have B1 := Lib.hid (chain B0.out hb1)
  clear hb1
  go_wp2
  go_ret
  exact ⟨rfl, B1.out⟩

theorem elemsMay_any (g : Grp) (k : Int) (l : List Id3) (A : Option Addr) (c : Nat) (w : World) (hr : Rd w A (l.flatMap idC)) : Calls Try.prog 73 #[.slice A l.length c, .agg #[.int .i64 g.t, .int .i64 g.r, .int .i64 k]] w fun e w' => e = .returned (.bool (elemsB g k l && (decide (1 ≤ l.length) && decide (l.length ≤ 2000)))) ∧ Below w.heap.size w w' := by
  by_cases h0 : 1 ≤ l.length
  · rw [decide_eq_true h0, Bool.true_and]
    by_cases hn : l.length ≤ 2000
    · rw [decide_eq_true hn, Bool.and_true]
      exact elemsMay_in g k l A c w hr h0 hn
    · rw [decide_eq_false hn, Bool.and_false]
      exact elemsMay_many g k l A c w hr (by omega)
  · rw [decide_eq_false h0, Bool.false_and, Bool.and_false]
    exact elemsMay_few g k l A c w hr (by omega)

end Go.Proofs.Ytphnimmhjnhajaa.W8

