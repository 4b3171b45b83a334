/-
  Layer 5, walks: the merged vector and the met one, the program's and the document's.
-/
import Derived.Test.YthecofkkacieaaaDoorS5e
import Derived.Shelf.Abstract
namespace Go.Proofs.YthecofkkacieaaaDoor.S5
open Go.RowKit Go.PlainAid Go.Shelf M5
set_option linter.unusedVariables false

/-- WHAT THE DOCUMENT's LOOPS KEEP: the list so far. -/
def GrowRel (F : Nat → List Int) (x B : Nat) (w : World) (v i : Value) (wr : World) : Prop :=
  ∃ k : Nat, k ≤ x ∧ i = .int .i64 ((k : Int) + 1) ∧ wr.ownsRow B 3 1 v k (is (F k)) ∧ Below B w wr
theorem GrowRel.step {F : Nat → List Int} {x B k : Nat} {w wr w1 : World} {v v1 : Value} {y : Int} (hB : B ≤ wr.heap.size) (hk : k < x) (hF : F (k + 1) = F k ++ [y]) (ho : wr.ownsRow B 3 1 v k (is (F k))) (hb : Below B w wr)
    (h1 : w1.ownsRow B 3 1 v1 (k + 1) (is (F k) ++ [.int .i64 y])) (o : Obj) (hg : (wr.alloc o).grownBy w1 v.ownBlock) : GrowRel F x B w v1 (.int .i64 ((k : Int) + 1 + 1)) w1 := by
  refine ⟨k + 1, by omega, by go_num, ?_, (hb.alloc hB o).grown hg (by simp; omega) (fun q hq => (ho.lt q hq).1)⟩
  rw [hF, is_snoc]
  exact h1

end Go.Proofs.YthecofkkacieaaaDoor.S5
