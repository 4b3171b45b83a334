/-
  Layer 5, walks: whether one vector covers another.
-/
import Derived.Test.YthecofkkacieaaaDoorS5a
namespace Go.Proofs.YthecofkkacieaaaDoor.S5
open Go.RowKit Go.PlainAid M5
set_option linter.unusedVariables false

theorem all_on {v w : List Int} {k : Nat} (h : ∀ j, j < k → w.getD j 0 ≤ v.getD j 0) (hk : w.getD k 0 ≤ v.getD k 0) : ∀ j, j < k + 1 → w.getD j 0 ≤ v.getD j 0 := by
  intro j hj
  by_cases e : j = k
  · rw [e]; exact hk
  · exact h j (by omega)

end Go.Proofs.YthecofkkacieaaaDoor.S5
