/-
  Layer 5, walks: one number of a vector, its end, whether one covers another.
-/
import Derived.Test.YthecofkkacieaaaDoorM5b
import Derived.Test.YthecofkkacieaaaDoorSt
import Derived.OwnWalk
import Derived.Laws.CopyOwn
namespace Go.Proofs.YthecofkkacieaaaDoor.S5
open Go.RowKit Go.PlainAid M5
set_option linter.unusedVariables false

def is (l : List Int) : List Value := l.map (Value.int .i64)
theorem is_len (l : List Int) : (is l).length = l.length := by simp [is]
theorem is_get {zs : List Int} {k : Nat} (h : k < (is zs).length) : (is zs)[k] = .int .i64 (zs.getD k 0) := by
  have hk : k < zs.length := by rwa [is_len] at h
  have e : (is zs)[k] = .int .i64 zs[k] := by simp [is]
  rw [e, List.getD_eq_getElem?_getD, List.getElem?_eq_getElem hk]; rfl
theorem is_snoc (l : List Int) (x : Int) : is (l ++ [x]) = is l ++ [.int .i64 x] := by simp [is]
theorem rd_at {w : World} {A : Option Addr} {v : List Int} (h : Rd w A (is v)) {k : Nat} (hk : k < v.length) :
    ∃ b off x, A = some ⟨b, off, none⟩ ∧ b < w.heap.size ∧ w.cell? ⟨b, off + k, none⟩ = some (.int .i64 x) ∧ Hid (v.getD k 0 = x) := by
  obtain ⟨b, off, e, hb, hc⟩ := h.get (k := k) (by rw [is_len]; exact hk)
  rw [is_get] at hc
  exact ⟨b, off, _, e, hb, hc, rfl⟩

theorem endN_on {v : List Int} {k : Nat} (h : v.getD k 0 = 0) : endN v (k + 1) = endN v k := by simp only [endN]; rw [if_pos h]
theorem endN_here {v : List Int} {k : Nat} (h : v.getD k 0 ≠ 0) : endN v (k + 1) = k + 1 := by simp only [endN]; rw [if_neg h]

end Go.Proofs.YthecofkkacieaaaDoor.S5
