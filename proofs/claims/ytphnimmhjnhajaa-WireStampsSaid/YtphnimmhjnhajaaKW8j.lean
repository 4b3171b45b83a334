/-
  Layer 8, walks: what an operation has that others alone have.
-/
import Derived.Test.YtphnimmhjnhajaaKW8i
import Derived.Test.YtphnimmhjnhajaaKW9e
namespace Go.Proofs.Ytphnimmhjnhajaa.W8
open Go.RowKit Go.PlainAid M8
set_option linter.unusedVariables false

theorem len_nil {α : Type} (l : List α) : ((l.length : Int) == 0) = decide (l = []) := by
  cases l with
  | nil => rfl
  | cons a l => simp; omega

end Go.Proofs.Ytphnimmhjnhajaa.W8

