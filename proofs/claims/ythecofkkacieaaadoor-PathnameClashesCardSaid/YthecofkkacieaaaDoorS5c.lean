/-
  Layer 5, walks: the document's covering; copies; the same numbers; the document's plain vector.
-/
import Derived.Test.YthecofkkacieaaaDoorS5b
namespace Go.Proofs.YthecofkkacieaaaDoor.S5
open Go.RowKit Go.PlainAid M5
set_option linter.unusedVariables false

theorem own_full {w : World} {base e g n : Nat} {xs : List Value} (h : w.ownsRow base e 1 (.slice (some ⟨g, 0, none⟩) n n) n xs) : w.heap[g]? = some (.cells xs.toArray e (0, 0)) ∧ base ≤ g ∧ n ≤ maxLen ∧ xs.length = n := by
  have hl : xs.length = n := by simpa using h.1
  rcases h.2 with ⟨h', _⟩ | ⟨g', cap', cur, h', hb, hg, _, hcm, hcs, htake⟩
  · simp at h'
  · simp only [Value.slice.injEq, Option.some.injEq, Addr.mk.injEq, and_true, true_and] at h'
    obtain ⟨rfl, rfl⟩ := h'
    have : cur.toList = xs := by rw [← htake]; exact (List.take_of_length_le (by simp at hcs ⊢; omega)).symm
    refine ⟨?_, hb, hcm, hl⟩
    rw [hg, ← this]
theorem own_of_full {w : World} {base e g n : Nat} {xs : List Value} (hg : w.heap[g]? = some (.cells xs.toArray e (0, 0))) (hb : base ≤ g) (hm : n ≤ maxLen) (hl : xs.length = n) : w.ownsRow base e 1 (.slice (some ⟨g, 0, none⟩) n n) n xs :=
  ⟨by simpa using hl, .inr ⟨g, n, xs.toArray, rfl, hb, hg, Nat.le_refl _, hm, by simpa using hl, by rw [Nat.mul_one, ← hl]; simp⟩⟩
theorem splice_pad (v : List Int) (m : Nat) : splice (List.replicate m (Value.int .i64 0)) 0 (is (v.take m)) = is (padN v m) := by
  rw [padN_eq]
  unfold splice is
  simp only [List.take_zero, List.nil_append, List.map_append, List.map_replicate, List.length_map, List.length_take, Nat.zero_add]
  congr 1
  rw [List.drop_replicate]
  congr 1
  omega
theorem size_int : (Tryd.prog.info? 3).map (·.size) = some 1 := by kernel_rfl

end Go.Proofs.YthecofkkacieaaaDoor.S5
