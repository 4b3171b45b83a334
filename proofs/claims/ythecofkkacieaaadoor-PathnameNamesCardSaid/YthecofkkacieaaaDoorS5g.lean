/-
  Layer 5, walks: a vector with another number; the same numbers; whether numbers may be a vector.
-/
import Derived.Test.YthecofkkacieaaaDoorS5f
namespace Go.Proofs.YthecofkkacieaaaDoor.S5
open Go.RowKit Go.PlainAid Go.Shelf M5
set_option linter.unusedVariables false

theorem same_len {v u : List Int} (h : v.length ≠ u.length) : decide (v = u) = false := by
  simp only [decide_eq_false_iff_not]
  rintro rfl; exact h rfl
theorem same_not {v u : List Int} {k : Nat} (h : v.getD k 0 ≠ u.getD k 0) : decide (v = u) = false := by
  simp only [decide_eq_false_iff_not]
  rintro rfl; exact h rfl
theorem same_all {v u : List Int} (hl : v.length = u.length) (h : ∀ j, j < v.length → v.getD j 0 = u.getD j 0) : decide (v = u) = true := by
  simp only [decide_eq_true_eq]
  refine list_ext hl fun k => ?_
  by_cases hk : k < v.length
  · exact h k hk
  · rw [getD_far (by omega), getD_far (by omega)]
theorem eq_on {v w : List Int} {k : Nat} (h : ∀ j, j < k → v.getD j 0 = w.getD j 0) (hk : v.getD k 0 = w.getD k 0) : ∀ j, j < k + 1 → v.getD j 0 = w.getD j 0 := by
  intro j hj
  by_cases e : j = k
  · rw [e]; exact hk
  · exact h j (by omega)

theorem is_set (l : List Int) (k : Nat) (x : Int) : (is l).set k (.int .i64 x) = is (l.set k x) := by unfold is; rw [List.map_set]
theorem own_rd {w : World} {B g n e : Nat} {xs : List Value} (h : w.ownsRow B e 1 (.slice (some ⟨g, 0, none⟩) n n) n xs) : Rd w (some ⟨g, 0, none⟩) xs := by
  obtain ⟨_, _, hv1, hrd, _⟩ := Rd.of_own h
  injection hv1 with e1 e2 e3
  rw [← e1] at hrd
  exact hrd

/-- A call that hands back a vector and an error's number. -/
def RetVecE (l : List Int) (x : Int) (w : World) (e : Ending) (w' : World) : Prop := ∃ B k d, e = .returned (.tuple #[.slice B k d, .int .i64 x]) ∧ Rd w' B (is l) ∧ l.length = k ∧ Below w.heap.size w w'
theorem retE_none (x : Int) (w : World) : RetVecE [] x w (.returned (.tuple #[.slice none 0 0, .int .i64 x])) w := ⟨none, 0, 0, rfl, .inl rfl, rfl, Below.refl _ _⟩

/-- The greater of two lengths, by cases. -/
def MaxOf (n m x : Nat) : Prop := (n < m ∧ x = m) ∨ (m < n ∧ x = n) ∨ ((n ≤ m ∧ m ≤ n) ∧ x = n)
theorem maxOf (n m : Nat) : MaxOf n m (max n m) := by unfold MaxOf; omega

end Go.Proofs.YthecofkkacieaaaDoor.S5
