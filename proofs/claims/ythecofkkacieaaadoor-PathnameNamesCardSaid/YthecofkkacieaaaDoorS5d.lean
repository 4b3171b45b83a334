/-
  Layer 5, walks: plain vectors, what is put together by a function, merged and met ones.
-/
import Derived.Test.YthecofkkacieaaaDoorS5c
namespace Go.Proofs.YthecofkkacieaaaDoor.S5
open Go.RowKit Go.PlainAid M5
set_option linter.unusedVariables false

theorem is_take (v : List Int) (n : Nat) : is (v.take n) = (is v).take n := by simp [is]
theorem rd_take {w : World} {A : Option Addr} {v : List Int} (h : Rd w A (is v)) (n : Nat) : Rd w A (is (v.take n)) := by
  rcases h with h0 | ⟨b, off, e, hb, hc⟩
  · left
    rw [is_take, h0]; simp
  · right
    refine ⟨b, off, e, hb, fun j hj => ?_⟩
    have hj2 : j < (is v).length := by rw [is_take, List.length_take] at hj; omega
    rw [hc j hj2]
    simp only [is_take, List.getElem_take]

end Go.Proofs.YthecofkkacieaaaDoor.S5
