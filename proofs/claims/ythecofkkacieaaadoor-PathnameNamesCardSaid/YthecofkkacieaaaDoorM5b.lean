/-
  Layer 5, plain mathematics: vectors. Nothing here speaks of a program.
-/
import Derived.Test.YthecofkkacieaaaDoorM5
namespace Go.Proofs.YthecofkkacieaaaDoor.M5
set_option linter.unusedVariables false

/-- How many numbers stand ahead of the noughts among the first n. -/
def endN (v : List Int) : Nat → Nat
  | 0 => 0
  | n + 1 => if v.getD n 0 = 0 then endN v n else n + 1
theorem endN_le (v : List Int) : ∀ n, endN v n ≤ n := by
  intro n
  induction n with
  | zero => simp [endN]
  | succ n ih => simp only [endN]; split <;> omega
theorem endN_zero {v : List Int} : ∀ {n k : Nat}, endN v n ≤ k → k < n → v.getD k 0 = 0 := by
  intro n
  induction n with
  | zero => intro k _ h; omega
  | succ n ih =>
    intro k h1 h2
    simp only [endN] at h1
    split at h1
    · rename_i h0
      by_cases hk : k = n
      · rw [hk]; exact h0
      · exact ih h1 (by omega)
    · omega
theorem endN_last {v : List Int} : ∀ {n : Nat}, 0 < endN v n → v.getD (endN v n - 1) 0 ≠ 0 := by
  intro n
  induction n with
  | zero => intro h; simp [endN] at h
  | succ n ih =>
    intro h
    simp only [endN] at h ⊢
    split
    · rename_i h0; rw [if_pos h0] at h; exact ih h
    · rename_i h0; simpa using h0
def plainL (v : List Int) : List Int := v.take (endN v v.length)
theorem plainL_len (v : List Int) : (plainL v).length = endN v v.length := by
  unfold plainL; rw [List.length_take]; have := endN_le v v.length; omega
theorem plainL_le (v : List Int) : (plainL v).length ≤ v.length := by rw [plainL_len]; exact endN_le _ _
theorem getD_far {v : List Int} {k : Nat} (h : v.length ≤ k) : v.getD k 0 = 0 := by
  rw [List.getD_eq_getElem?_getD, List.getElem?_eq_none h]; rfl
theorem plainL_get (v : List Int) (k : Nat) : (plainL v).getD k 0 = v.getD k 0 := by
  by_cases h : k < endN v v.length
  · unfold plainL
    rw [List.getD_eq_getElem?_getD, List.getElem?_take, if_pos h, ← List.getD_eq_getElem?_getD]
  · rw [getD_far (by rw [plainL_len]; omega)]
    by_cases hk : k < v.length
    · exact (endN_zero (Nat.le_of_not_lt h) hk).symm
    · exact (getD_far (by omega)).symm
theorem plainL_last {v : List Int} (h : 0 < (plainL v).length) : (plainL v).getD ((plainL v).length - 1) 0 ≠ 0 := by
  rw [plainL_get, plainL_len]
  exact endN_last (by rwa [plainL_len] at h)
theorem plain_ext_le {v w : List Int} (h : ∀ k, v.getD k 0 = w.getD k 0) : (plainL v).length ≤ (plainL w).length := by
  rcases Nat.lt_or_ge (plainL w).length (plainL v).length with hl | hl
  · exfalso
    refine plainL_last (v := v) (by omega) ?_
    rw [plainL_get, h, ← plainL_get]
    exact getD_far (by omega)
  · exact hl
theorem list_ext {v w : List Int} (hl : v.length = w.length) (h : ∀ k, v.getD k 0 = w.getD k 0) : v = w := by
  apply List.ext_getElem hl
  intro k h1 h2
  have := h k
  rwa [List.getD_eq_getElem?_getD, List.getD_eq_getElem?_getD, List.getElem?_eq_getElem h1, List.getElem?_eq_getElem h2] at this
theorem plain_eq {v w : List Int} : plainL v = plainL w ↔ ∀ k, v.getD k 0 = w.getD k 0 := by
  constructor
  · intro h k; rw [← plainL_get v, h, plainL_get]
  · intro h
    have h1 := plain_ext_le h
    have h2 := plain_ext_le (fun k => (h k).symm)
    exact list_ext (by omega) (fun k => by rw [plainL_get, plainL_get]; exact h k)
theorem plain_plain (v : List Int) : plainL (plainL v) = plainL v := plain_eq.2 (plainL_get v)

/-- v's number of replica r. -/
def atL (v : List Int) (r : Int) : Int := if r < 1 then 0 else v.getD (r - 1).toNat 0
theorem atL_succ (v : List Int) (k : Nat) : atL v ((k : Int) + 1) = v.getD k 0 := by
  unfold atL; rw [if_neg (by omega)]; congr 1; omega
theorem atL_out {v : List Int} {r : Int} (h : r < 1 ∨ (v.length : Int) < r) : atL v r = 0 := by
  unfold atL
  by_cases h1 : r < 1
  · rw [if_pos h1]
  · rw [if_neg h1, getD_far (by omega)]

def coversL (v w : List Int) : Bool := (List.range (max v.length w.length)).all fun k => decide (w.getD k 0 ≤ v.getD k 0)
theorem coversL_iff {v w : List Int} : coversL v w = true ↔ ∀ k, w.getD k 0 ≤ v.getD k 0 := by
  unfold coversL
  rw [List.all_eq_true]
  constructor
  · intro h k
    by_cases hk : k < max v.length w.length
    · exact of_decide_eq_true (h k (List.mem_range.2 hk))
    · rw [getD_far (by omega), getD_far (by omega)]; exact Int.le_refl _
  · intro h k _; exact decide_eq_true (h k)
theorem covers_not {v w : List Int} {k : Nat} (h : v.getD k 0 < w.getD k 0) : coversL v w = false := by
  rw [Bool.eq_false_iff]
  intro hc
  have := coversL_iff.1 hc k
  omega
theorem covers_done {v w : List Int} (h : ∀ k, k < max v.length w.length → w.getD k 0 ≤ v.getD k 0) : coversL v w = true := by
  unfold coversL
  rw [List.all_eq_true]
  intro k hk
  exact decide_eq_true (h k (List.mem_range.1 hk))

/-- What f makes of the numbers of each replica, of the first n. -/
def zipN (f : Int → Int → Int) (v w : List Int) (n : Nat) : List Int := (List.range n).map fun k => f (v.getD k 0) (w.getD k 0)
theorem zipN_len (f : Int → Int → Int) (v w : List Int) (n : Nat) : (zipN f v w n).length = n := by simp [zipN]
theorem zipN_snoc (f : Int → Int → Int) (v w : List Int) (n : Nat) : zipN f v w (n + 1) = zipN f v w n ++ [f (v.getD n 0) (w.getD n 0)] := by
  unfold zipN; rw [List.range_succ, List.map_append]; rfl
theorem zipN_get (f : Int → Int → Int) (v w : List Int) {n k : Nat} (h : k < n) : (zipN f v w n).getD k 0 = f (v.getD k 0) (w.getD k 0) := by
  unfold zipN
  rw [List.getD_eq_getElem?_getD, List.getElem?_map, List.getElem?_range h]; rfl
def togL (f : Int → Int → Int) (v w : List Int) : List Int := plainL (zipN f v w (max v.length w.length))
theorem togL_get {f : Int → Int → Int} (hf : f 0 0 = 0) (v w : List Int) (k : Nat) : (togL f v w).getD k 0 = f (v.getD k 0) (w.getD k 0) := by
  unfold togL
  rw [plainL_get]
  by_cases hk : k < max v.length w.length
  · exact zipN_get f v w hk
  · rw [getD_far (by rw [zipN_len]; omega), getD_far (v := v) (by omega), getD_far (v := w) (by omega), hf]
theorem togL_len (f : Int → Int → Int) (v w : List Int) : (togL f v w).length ≤ max v.length w.length := by
  unfold togL
  have := plainL_le (zipN f v w (max v.length w.length))
  rw [zipN_len] at this
  exact this
def mergeL (v w : List Int) : List Int := togL max v w
def meetL (v w : List Int) : List Int := togL min v w
theorem merge_get (v w : List Int) (k : Nat) : (mergeL v w).getD k 0 = max (v.getD k 0) (w.getD k 0) := togL_get (f := max) (by decide) v w k
theorem meet_get (v w : List Int) (k : Nat) : (meetL v w).getD k 0 = min (v.getD k 0) (w.getD k 0) := togL_get (f := min) (by decide) v w k

/-- v with n as the number of replica k + 1, of the first m. -/
def putN (v : List Int) (k : Nat) (n : Int) (m : Nat) : List Int := (List.range m).map fun j => if j = k then n else v.getD j 0
theorem putN_len (v : List Int) (k : Nat) (n : Int) (m : Nat) : (putN v k n m).length = m := by simp [putN]
theorem putN_snoc (v : List Int) (k : Nat) (n : Int) (m : Nat) : putN v k n (m + 1) = putN v k n m ++ [if m = k then n else v.getD m 0] := by
  unfold putN; rw [List.range_succ, List.map_append]; rfl
/-- v, cut or filled up with noughts to n numbers. -/
def padN (v : List Int) (n : Nat) : List Int := (List.range n).map fun j => v.getD j 0
theorem padN_len (v : List Int) (n : Nat) : (padN v n).length = n := by simp [padN]
theorem padN_eq (v : List Int) (n : Nat) : padN v n = v.take n ++ List.replicate (n - v.length) 0 := by
  apply list_ext
  · rw [padN_len, List.length_append, List.length_take, List.length_replicate]; omega
  · intro k
    by_cases hk : k < n
    · have h1 : (padN v n).getD k 0 = v.getD k 0 := by
        unfold padN; rw [List.getD_eq_getElem?_getD, List.getElem?_map, List.getElem?_range hk]; rfl
      rw [h1]
      by_cases hv : k < v.length
      · rw [List.getD_eq_getElem?_getD, List.getD_eq_getElem?_getD, List.getElem?_append_left (by rw [List.length_take]; omega), List.getElem?_take, if_pos hk]
      · rw [getD_far (by omega), List.getD_eq_getElem?_getD, List.getElem?_append_right (by rw [List.length_take]; omega)]
        rw [List.getElem?_replicate]; split <;> rfl
    · rw [getD_far (by rw [padN_len]; omega), getD_far (by rw [List.length_append, List.length_take, List.length_replicate]; omega)]
theorem padN_put (v : List Int) {k n : Nat} (x : Int) (h : k < n) : (padN v n).set k x = putN v k x n := by
  apply List.ext_getElem
  · rw [List.length_set, padN_len, putN_len]
  · intro j h1 h2
    have hj : j < n := by rwa [putN_len] at h2
    have e1 : (padN v n)[j]'(by rwa [padN_len]) = v.getD j 0 := by simp [padN]
    have e2 : (putN v k x n)[j]'h2 = if j = k then x else v.getD j 0 := by simp [putN]
    rw [List.getElem_set, e2]
    by_cases e : k = j
    · rw [if_pos e, if_pos e.symm]
    · rw [if_neg e, if_neg (Ne.symm e), e1]
/-- E6's answer: an error's number, and the vector. -/
def withR (v : List Int) (r n : Int) : List Int × Int :=
  if r < 1 ∨ 16 < r then ([], 1) else (plainL (putN v (r - 1).toNat n (max v.length r.toNat)), 0)
theorem withR_out {v : List Int} {r n : Int} (h : r < 1 ∨ 16 < r) : withR v r n = ([], 1) := by unfold withR; rw [if_pos h]
theorem withR_in {v : List Int} {r n : Int} (h1 : 1 ≤ r) (h2 : r ≤ 16) : withR v r n = (plainL (putN v (r - 1).toNat n (max v.length r.toNat)), 0) := by unfold withR; rw [if_neg (by omega)]
def vectorL (v : List Int) : Bool := decide (v.length ≤ 16) && decide (endN v v.length = v.length) && v.all (fun x => decide (0 ≤ x))

theorem bounds_merge (v w : List Int) : coversL (mergeL v w) v = true ∧ coversL (mergeL v w) w = true :=
  ⟨coversL_iff.2 fun k => by rw [merge_get]; omega, coversL_iff.2 fun k => by rw [merge_get]; omega⟩
theorem bounds_meet (v w : List Int) : coversL v (meetL v w) = true ∧ coversL w (meetL v w) = true :=
  ⟨coversL_iff.2 fun k => by rw [meet_get]; omega, coversL_iff.2 fun k => by rw [meet_get]; omega⟩
theorem least {u v w : List Int} (h1 : coversL u v = true) (h2 : coversL u w = true) : coversL u (mergeL v w) = true :=
  coversL_iff.2 fun k => by have := coversL_iff.1 h1 k; have := coversL_iff.1 h2 k; rw [merge_get]; omega
theorem greatest {u v w : List Int} (h1 : coversL v u = true) (h2 : coversL w u = true) : coversL (meetL v w) u = true :=
  coversL_iff.2 fun k => by have := coversL_iff.1 h1 k; have := coversL_iff.1 h2 k; rw [meet_get]; omega
theorem same_covers (v w : List Int) : decide (plainL v = plainL w) = (coversL v w && coversL w v) := by
  rw [Bool.eq_iff_iff, decide_eq_true_iff, Bool.and_eq_true, coversL_iff, coversL_iff, plain_eq]
  constructor
  · intro h; exact ⟨fun k => by rw [h k]; exact Int.le_refl _, fun k => by rw [h k]; exact Int.le_refl _⟩
  · rintro ⟨h1, h2⟩ k; have := h1 k; have := h2 k; omega
theorem merge_comm (v w : List Int) : mergeL v w = mergeL w v := by
  unfold mergeL togL zipN
  rw [Nat.max_comm]
  congr 1
  apply List.map_congr_left
  intro k _
  omega

end Go.Proofs.YthecofkkacieaaaDoor.M5
