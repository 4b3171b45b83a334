/-
  Layer 5, walks: whether numbers may be a vector.
-/
import Derived.Test.YthecofkkacieaaaDoorS5g
namespace Go.Proofs.YthecofkkacieaaaDoor.S5
open Go.RowKit Go.PlainAid Go.Shelf M5
set_option linter.unusedVariables false

/-- None is below nought. -/
def fine (v : List Int) : Bool := v.all fun x => decide (0 ≤ x)
theorem fine_not {v : List Int} {k : Nat} (hk : k < v.length) (h : v.getD k 0 < 0) : fine v = false := by
  unfold fine
  rw [Bool.eq_false_iff]
  intro hall
  have := List.all_eq_true.1 hall v[k] (List.getElem_mem hk)
  rw [List.getD_eq_getElem?_getD, List.getElem?_eq_getElem hk] at h
  have h2 := of_decide_eq_true this
  simp at h
  omega
theorem fine_all {v : List Int} (h : ∀ j, j < v.length → 0 ≤ v.getD j 0) : fine v = true := by
  unfold fine
  rw [List.all_eq_true]
  intro x hx
  obtain ⟨j, hj, rfl⟩ := List.mem_iff_getElem.1 hx
  have := h j hj
  rw [List.getD_eq_getElem?_getD, List.getElem?_eq_getElem hj] at this
  exact decide_eq_true this
theorem fine_on {v : List Int} {k : Nat} (h : ∀ j, j < k → 0 ≤ v.getD j 0) (hk : 0 ≤ v.getD k 0) : ∀ j, j < k + 1 → 0 ≤ v.getD j 0 := by
  intro j hj
  by_cases e : j = k
  · rw [e]; exact hk
  · exact h j (by omega)
theorem vectorL_eq (v : List Int) : vectorL v = (decide (v.length ≤ 16) && decide (endN v v.length = v.length) && fine v) := rfl

/-- Where the first number below nought stands, or -1. -/
def RetIdx (v : List Int) (w : World) (e : Ending) (w' : World) : Prop := ∃ z : Int, e = .returned (.int .i64 z) ∧ ((fine v = true ∧ z = -1) ∨ (fine v = false ∧ 0 ≤ z)) ∧ w = w'

theorem plain_same (v : List Int) : decide (v = plainL v) = decide (endN v v.length = v.length) := by
  rw [decide_eq_decide]
  constructor
  · intro h; have := congrArg List.length h; rw [plainL_len] at this; exact this.symm
  · intro h; unfold plainL; rw [h, List.take_length]

end Go.Proofs.YthecofkkacieaaaDoor.S5
