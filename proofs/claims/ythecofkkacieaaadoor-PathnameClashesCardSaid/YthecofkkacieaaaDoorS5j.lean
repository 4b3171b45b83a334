/-
  Layer 5, walks: whether ids are right.
-/
import Derived.Test.YthecofkkacieaaaDoorS5i
namespace Go.Proofs.YthecofkkacieaaaDoor.S5
open Go.RowKit Go.PlainAid Go.Shelf M5
set_option linter.unusedVariables false

theorem right_no {t r : Int} (h : ¬ (1 ≤ t ∧ t ≤ 1099511627776 ∧ 1 ≤ r ∧ r ≤ 16)) : right t r = false := by
  rw [Bool.eq_false_iff]; exact fun hr => h (right_iff.1 hr)
theorem rightId_eq (t r i : Int) : rightId t r i = (right t r && decide (0 ≤ i ∧ i ≤ 400000)) := by
  rw [Bool.eq_iff_iff, rightId_iff, Bool.and_eq_true, right_iff, decide_eq_true_iff]
  omega
theorem new1 (w : World) (o : Obj) : Below w.heap.size w (w.alloc o) := (Below.refl _ _).alloc (Nat.le_refl _) _

set_option maxRecDepth 100000 in
set_option maxHeartbeats 400000 in
theorem right_any (t r : Int) (w : World) : Calls Tryd.prog 31 #[.agg #[.int .i64 t, .int .i64 r]] w fun e w' => e = .returned (.bool (right t r)) ∧ Below w.heap.size w w' := by
  by_cases h0 : 1 ≤ t
  rotate_left
  · have HF := Lib.hid (right_no (t := t) (r := r) (by omega))
    have hn : t < 1 := by omega
    have hd : decide (1 ≤ t) = false := by simp; omega
    clear h0
    go_enter Tryd.func31, Tryd.ntmps31
    go_wp2
    go_ret
    exact ⟨by rw [HF.out]; rfl, new1 _ _⟩
  by_cases h1 : t ≤ 1099511627776
  rotate_left
  · have HF := Lib.hid (right_no (t := t) (r := r) (by omega))
    have hn : 1099511627776 < t := by omega
    have hd : decide (t ≤ 1099511627776) = false := by simp; omega
    clear h1
    go_enter Tryd.func31, Tryd.ntmps31
    go_wp2
    go_ret
    exact ⟨by rw [HF.out]; rfl, new1 _ _⟩
  by_cases h2 : 1 ≤ r
  rotate_left
  · have HF := Lib.hid (right_no (t := t) (r := r) (by omega))
    have hn : r < 1 := by omega
    have hd : decide (1 ≤ r) = false := by simp; omega
    clear h2
    go_enter Tryd.func31, Tryd.ntmps31
    go_wp2
    go_ret
    exact ⟨by rw [HF.out]; rfl, new1 _ _⟩
  by_cases h3 : r ≤ 16
  rotate_left
  · have HF := Lib.hid (right_no (t := t) (r := r) (by omega))
    have hn : 16 < r := by omega
    have hd : decide (r ≤ 16) = false := by simp; omega
    clear h3
    go_enter Tryd.func31, Tryd.ntmps31
    go_wp2
    go_ret
    exact ⟨by rw [HF.out]; rfl, new1 _ _⟩
  have HF := Lib.hid (right_iff.2 ⟨h0, h1, h2, h3⟩)
  go_enter Tryd.func31, Tryd.ntmps31
  go_wp2
  go_ret
  exact ⟨by rw [HF.out]; rfl, new1 _ _⟩

set_option maxRecDepth 100000 in
set_option maxHeartbeats 400000 in
theorem refRight_any (t r : Int) (w : World) : Calls Tryd.prog 30 #[.agg #[.int .i64 t, .int .i64 r]] w fun e w' => e = .returned (.bool (right t r)) ∧ Below w.heap.size w w' := by
  by_cases h0 : 1 ≤ t
  rotate_left
  · have HF := Lib.hid (right_no (t := t) (r := r) (by omega))
    have hn : t < 1 := by omega
    have hd : decide (1 ≤ t) = false := by simp; omega
    clear h0
    go_enter Tryd.func30, Tryd.ntmps30
    go_wp2
    go_ret
    exact ⟨by rw [HF.out]; rfl, new1 _ _⟩
  by_cases h1 : t ≤ 1099511627776
  rotate_left
  · have HF := Lib.hid (right_no (t := t) (r := r) (by omega))
    have hn : 1099511627776 < t := by omega
    have hd : decide (t ≤ 1099511627776) = false := by simp; omega
    clear h1
    go_enter Tryd.func30, Tryd.ntmps30
    go_wp2
    go_ret
    exact ⟨by rw [HF.out]; rfl, new1 _ _⟩
  by_cases h2 : 1 ≤ r
  rotate_left
  · have HF := Lib.hid (right_no (t := t) (r := r) (by omega))
    have hn : r < 1 := by omega
    have hd : decide (1 ≤ r) = false := by simp; omega
    clear h2
    go_enter Tryd.func30, Tryd.ntmps30
    go_wp2
    go_ret
    exact ⟨by rw [HF.out]; rfl, new1 _ _⟩
  by_cases h3 : r ≤ 16
  rotate_left
  · have HF := Lib.hid (right_no (t := t) (r := r) (by omega))
    have hn : 16 < r := by omega
    have hd : decide (r ≤ 16) = false := by simp; omega
    clear h3
    go_enter Tryd.func30, Tryd.ntmps30
    go_wp2
    go_ret
    exact ⟨by rw [HF.out]; rfl, new1 _ _⟩
  have HF := Lib.hid (right_iff.2 ⟨h0, h1, h2, h3⟩)
  go_enter Tryd.func30, Tryd.ntmps30
  go_wp2
  go_ret
  exact ⟨by rw [HF.out]; rfl, new1 _ _⟩

set_option maxRecDepth 100000 in
set_option maxHeartbeats 400000 in
theorem rightId_any (t r i : Int) (w : World) : Calls Tryd.prog 20 #[.agg #[.int .i64 t, .int .i64 r, .int .i64 i]] w fun e w' => e = .returned (.bool (rightId t r i)) ∧ Below w.heap.size w w' := by
  have hq := rightId_eq t r i
  cases hr : right t r
  · rw [hr] at hq
    have HR := Lib.hid hr
    have HF : Hid (rightId t r i = false) := hq
    clear hr hq
    go_enter Tryd.func20, Tryd.ntmps20
    go_wp2_with fail
    refine (right_any _ _ _).mono ?_
    rintro e w1 ⟨rfl, hb1⟩
    rw [HR.out]
    have hb := chain (new1 w _) hb1
    clear hb1
    go_wp2
    go_ret
    exact ⟨by rw [HF.out]; rfl, hb⟩
  · rw [hr, Bool.true_and] at hq
    have HR := Lib.hid hr
    clear hr
    by_cases h0 : 0 ≤ i
    rotate_left
    · have HF : Hid (rightId t r i = false) := by show _ = _; rw [hq]; simp; omega
      have hd : decide (0 ≤ i) = false := by simp; omega
      clear hq h0
      go_enter Tryd.func20, Tryd.ntmps20
      go_wp2_with fail
      refine (right_any _ _ _).mono ?_
      rintro e w1 ⟨rfl, hb1⟩
      rw [HR.out]
      have q0 : w1.cell? ⟨w.heap.size, 2, none⟩ = some (.int .i64 i) := bcell hb1 (by simp) (by simp)
      have hb := chain (new1 w _) hb1
      clear hb1
      go_wp2
      go_ret
      exact ⟨by rw [HF.out]; rfl, hb⟩
    by_cases h1 : i ≤ 400000
    · have HF : Hid (rightId t r i = true) := by show _ = _; rw [hq]; simp; omega
      have hd : decide (0 ≤ i) = true := by simp; omega
      have hd2 : decide (i ≤ 400000) = true := by simp; omega
      clear hq
      go_enter Tryd.func20, Tryd.ntmps20
      go_wp2_with fail
      refine (right_any _ _ _).mono ?_
      rintro e w1 ⟨rfl, hb1⟩
      rw [HR.out]
      have q0 : w1.cell? ⟨w.heap.size, 2, none⟩ = some (.int .i64 i) := bcell hb1 (by simp) (by simp)
      have hb := chain (new1 w _) hb1
      clear hb1
      go_wp2
      go_ret
      exact ⟨by rw [HF.out]; rfl, hb⟩
    · have HF : Hid (rightId t r i = false) := by show _ = _; rw [hq]; simp; omega
      have hd : decide (0 ≤ i) = true := by simp; omega
      have hd2 : decide (i ≤ 400000) = false := by simp; omega
      have hn : 400000 < i := by omega
      clear hq h1
      go_enter Tryd.func20, Tryd.ntmps20
      go_wp2_with fail
      refine (right_any _ _ _).mono ?_
      rintro e w1 ⟨rfl, hb1⟩
      rw [HR.out]
      have q0 : w1.cell? ⟨w.heap.size, 2, none⟩ = some (.int .i64 i) := bcell hb1 (by simp) (by simp)
      have hb := chain (new1 w _) hb1
      clear hb1
      go_wp2
      go_ret
      exact ⟨by rw [HF.out]; rfl, hb⟩

set_option maxRecDepth 100000 in
set_option maxHeartbeats 400000 in
theorem refRightId_any (t r i : Int) (w : World) : Calls Tryd.prog 19 #[.agg #[.int .i64 t, .int .i64 r, .int .i64 i]] w fun e w' => e = .returned (.bool (rightId t r i)) ∧ Below w.heap.size w w' := by
  have hq := rightId_eq t r i
  cases hr : right t r
  · rw [hr] at hq
    have HR := Lib.hid hr
    have HF : Hid (rightId t r i = false) := hq
    clear hr hq
    go_enter Tryd.func19, Tryd.ntmps19
    go_wp2_with fail
    refine (refRight_any _ _ _).mono ?_
    rintro e w1 ⟨rfl, hb1⟩
    rw [HR.out]
    have hb := chain (new1 w _) hb1
    clear hb1
    go_wp2
    go_ret
    exact ⟨by rw [HF.out]; rfl, hb⟩
  · rw [hr, Bool.true_and] at hq
    have HR := Lib.hid hr
    clear hr
    by_cases h0 : 0 ≤ i
    rotate_left
    · have HF : Hid (rightId t r i = false) := by show _ = _; rw [hq]; simp; omega
      have hd : decide (0 ≤ i) = false := by simp; omega
      clear hq h0
      go_enter Tryd.func19, Tryd.ntmps19
      go_wp2_with fail
      refine (refRight_any _ _ _).mono ?_
      rintro e w1 ⟨rfl, hb1⟩
      rw [HR.out]
      have q0 : w1.cell? ⟨w.heap.size, 2, none⟩ = some (.int .i64 i) := bcell hb1 (by simp) (by simp)
      have hb := chain (new1 w _) hb1
      clear hb1
      go_wp2
      go_ret
      exact ⟨by rw [HF.out]; rfl, hb⟩
    by_cases h1 : i ≤ 400000
    · have HF : Hid (rightId t r i = true) := by show _ = _; rw [hq]; simp; omega
      have hd : decide (0 ≤ i) = true := by simp; omega
      have hd2 : decide (i ≤ 400000) = true := by simp; omega
      clear hq
      go_enter Tryd.func19, Tryd.ntmps19
      go_wp2_with fail
      refine (refRight_any _ _ _).mono ?_
      rintro e w1 ⟨rfl, hb1⟩
      rw [HR.out]
      have q0 : w1.cell? ⟨w.heap.size, 2, none⟩ = some (.int .i64 i) := bcell hb1 (by simp) (by simp)
      have hb := chain (new1 w _) hb1
      clear hb1
      go_wp2
      go_ret
      exact ⟨by rw [HF.out]; rfl, hb⟩
    · have HF : Hid (rightId t r i = false) := by show _ = _; rw [hq]; simp; omega
      have hd : decide (0 ≤ i) = true := by simp; omega
      have hd2 : decide (i ≤ 400000) = false := by simp; omega
      have hn : 400000 < i := by omega
      clear hq h1
      go_enter Tryd.func19, Tryd.ntmps19
      go_wp2_with fail
      refine (refRight_any _ _ _).mono ?_
      rintro e w1 ⟨rfl, hb1⟩
      rw [HR.out]
      have q0 : w1.cell? ⟨w.heap.size, 2, none⟩ = some (.int .i64 i) := bcell hb1 (by simp) (by simp)
      have hb := chain (new1 w _) hb1
      clear hb1
      go_wp2
      go_ret
      exact ⟨by rw [HF.out]; rfl, hb⟩

end Go.Proofs.YthecofkkacieaaaDoor.S5
