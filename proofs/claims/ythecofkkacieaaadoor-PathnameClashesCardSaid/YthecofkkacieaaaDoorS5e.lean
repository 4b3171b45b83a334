/-
  Layer 5, walks: what is put together by a function; the merged vector and the met one.
-/
import Derived.Test.YthecofkkacieaaaDoorS5d
namespace Go.Proofs.YthecofkkacieaaaDoor.S5
open Go.RowKit Go.PlainAid M5
set_option linter.unusedVariables false

theorem fill_set (l : List Int) {x k : Nat} (y : Int) (hl : l.length = k) (hk : k < x) : (l ++ List.replicate (x - k) 0).set k y = (l ++ [y]) ++ List.replicate (x - (k + 1)) 0 := by
  subst hl
  rw [List.set_append_right _ _ (Nat.le_refl _), Nat.sub_self]
  obtain ⟨j, hj⟩ : ∃ j, x - l.length = j + 1 := ⟨x - l.length - 1, by omega⟩
  rw [hj, show x - (l.length + 1) = j by omega, List.replicate_succ, List.set_cons_zero, List.append_assoc]
  rfl
/-- WHAT THE LOOP OF together KEEPS. -/
def TogRel (f : Int → Int → Int) (v u : List Int) (x g B : Nat) (w : World) (i : Value) (wr : World) : Prop :=
  ∃ k : Nat, k ≤ x ∧ i = .int .i64 (k : Int) ∧ wr.ownsRow B 3 1 (.slice (some ⟨g, 0, none⟩) x x) x (is (zipN f v u k ++ List.replicate (x - k) 0)) ∧ Below B w wr
theorem TogRel.step {f : Int → Int → Int} {v u : List Int} {x g B k : Nat} {w wr : World} {y : Int} (hBg : B ≤ g) (hk : k < x) (hy : y = f (v.getD k 0) (u.getD k 0))
    (ho : wr.ownsRow B 3 1 (.slice (some ⟨g, 0, none⟩) x x) x (is (zipN f v u k ++ List.replicate (x - k) 0))) (hb : Below B w wr) :
    TogRel f v u x g B w (.int .i64 ((k : Int) + 1)) (wr.setCell ⟨g, k, none⟩ (.int .i64 y)) := by
  refine ⟨k + 1, by omega, by go_num, ?_, hb.setCell hBg _⟩
  have h := (ho.stored k (.int .i64 y)).1
  rw [zipN_snoc, ← hy, ← fill_set _ _ (zipN_len f v u k) hk]
  have e : is ((zipN f v u k ++ List.replicate (x - k) 0).set k y) = (is (zipN f v u k ++ List.replicate (x - k) 0)).set k (.int .i64 y) := by
    unfold is; rw [List.map_set]
  rw [e]
  exact h

end Go.Proofs.YthecofkkacieaaaDoor.S5
