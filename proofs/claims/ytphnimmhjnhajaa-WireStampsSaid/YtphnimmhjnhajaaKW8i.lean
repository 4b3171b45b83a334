/-
  Layer 8, walks: which ids are ahead, and may be parents.
-/
import Derived.Test.YtphnimmhjnhajaaKW8h
import Derived.Test.YtphnimmhjnhajaaKB
namespace Go.Proofs.Ytphnimmhjnhajaa.W8
open Go.RowKit Go.PlainAid M8
set_option linter.unusedVariables false

/-- A group and an id, boxed. -/
theorem box_gi (w : World) (G : GrpR) (t r i : Int) : Below w.heap.size w ((w.alloc (.cells G.cells.toArray 27)).alloc (.cells #[.int .i64 t, .int .i64 r, .int .i64 i] 40)) ∧ GrpCells ((w.alloc (.cells G.cells.toArray 27)).alloc (.cells #[.int .i64 t, .int .i64 r, .int .i64 i] 40)) w.heap.size G :=
  ⟨((Below.refl _ _).alloc (Nat.le_refl _) _).alloc (by simp) _, (grp_box (heap_alloc_new w (.cells G.cells.toArray 27))).keep (below_box _) (by simp)⟩

end Go.Proofs.Ytphnimmhjnhajaa.W8

