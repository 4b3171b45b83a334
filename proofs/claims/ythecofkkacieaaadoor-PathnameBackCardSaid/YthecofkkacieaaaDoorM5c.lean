/-
  Layer 5, plain mathematics: how ids stand to one another. Nothing here speaks of a program.
-/
import Derived.Test.YthecofkkacieaaaDoorM5b
namespace Go.Proofs.YthecofkkacieaaaDoor.M5
set_option linter.unusedVariables false

def cmpI (a b : Int) : Int := if a < b then -1 else if b < a then 1 else 0
/-- The first that is not nought. -/
def orI (a b : Int) : Int := if a = 0 then b else a
def cmpS (t r t' r' : Int) : Int := orI (cmpI t t') (cmpI r r')
def cmpD (t r i t' r' i' : Int) : Int := orI (cmpS t r t' r') (cmpI i i')
theorem cmpI_cases (a b : Int) : (a < b ∧ cmpI a b = -1) ∨ (b < a ∧ cmpI a b = 1) ∨ (a = b ∧ cmpI a b = 0) := by
  unfold cmpI
  rcases Int.lt_trichotomy a b with h | h | h
  · left; rw [if_pos h]; exact ⟨h, rfl⟩
  · right; right; rw [if_neg (by omega), if_neg (by omega)]; exact ⟨h, rfl⟩
  · right; left; rw [if_neg (by omega), if_pos h]; exact ⟨h, rfl⟩
theorem orI_zero (b : Int) : orI 0 b = b := by simp [orI]
theorem orI_pos {a : Int} (b : Int) (h : a ≠ 0) : orI a b = a := by simp [orI, h]
theorem orI_cases (a b : Int) : (a = 0 ∧ orI a b = b) ∨ (a ≠ 0 ∧ orI a b = a) := by
  by_cases h : a = 0
  · left; subst h; exact ⟨rfl, orI_zero b⟩
  · right; exact ⟨h, orI_pos b h⟩
theorem cmpD_rng (t r i t' r' i' : Int) : -1 ≤ cmpD t r i t' r' i' ∧ cmpD t r i t' r' i' ≤ 1 := by
  unfold cmpD cmpS
  have := cmpI_cases t t'; have := cmpI_cases r r'; have := cmpI_cases i i'
  have := orI_cases (cmpI t t') (cmpI r r'); have := orI_cases (orI (cmpI t t') (cmpI r r')) (cmpI i i')
  omega
theorem cmpD_turn (t r i t' r' i' : Int) : cmpD t r i t' r' i' = -cmpD t' r' i' t r i := by
  unfold cmpD cmpS
  have := cmpI_cases t t'; have := cmpI_cases r r'; have := cmpI_cases i i'
  have := cmpI_cases t' t; have := cmpI_cases r' r; have := cmpI_cases i' i
  have := orI_cases (cmpI t t') (cmpI r r'); have := orI_cases (orI (cmpI t t') (cmpI r r')) (cmpI i i')
  have := orI_cases (cmpI t' t) (cmpI r' r); have := orI_cases (orI (cmpI t' t) (cmpI r' r)) (cmpI i' i)
  omega
theorem cmpD_zero (t r i t' r' i' : Int) : cmpD t r i t' r' i' = 0 ↔ t = t' ∧ r = r' ∧ i = i' := by
  unfold cmpD cmpS
  have := cmpI_cases t t'; have := cmpI_cases r r'; have := cmpI_cases i i'
  have := orI_cases (cmpI t t') (cmpI r r'); have := orI_cases (orI (cmpI t t') (cmpI r r')) (cmpI i i')
  omega
theorem cmpD_le (t r i t' r' i' : Int) : cmpD t r i t' r' i' ≤ 0 ↔ (t < t' ∨ (t = t' ∧ (r < r' ∨ (r = r' ∧ i ≤ i')))) := by
  unfold cmpD cmpS
  have := cmpI_cases t t'; have := cmpI_cases r r'; have := cmpI_cases i i'
  have := orI_cases (cmpI t t') (cmpI r r'); have := orI_cases (orI (cmpI t t') (cmpI r r')) (cmpI i i')
  omega
theorem cmpD_trans {t r i t' r' i' t'' r'' i'' : Int} (h1 : cmpD t r i t' r' i' ≤ 0) (h2 : cmpD t' r' i' t'' r'' i'' ≤ 0) : cmpD t r i t'' r'' i'' ≤ 0 := by
  rw [cmpD_le] at *
  omega
/-- The document's: one ahead of the other, by a stamp. -/
def befS (t r t' r' : Int) : Bool := decide (t < t' ∨ (t = t' ∧ r < r'))
theorem befS_cmp (t r t' r' : Int) : cmpS t r t' r' = if befS t r t' r' = true then -1 else if befS t' r' t r = true then 1 else 0 := by
  unfold cmpS befS
  simp only [decide_eq_true_eq]
  have := cmpI_cases t t'; have := cmpI_cases r r'
  have := orI_cases (cmpI t t') (cmpI r r')
  split
  · omega
  · split <;> omega
/-- The first number of a list that is not nought. -/
def orL : List Int → Int
  | [] => 0
  | x :: l => if x = 0 then orL l else x
theorem orL_two (a b : Int) : orL [a, b] = orI a b := by
  unfold orL orL orI
  by_cases h : a = 0
  · rw [if_pos h, if_pos h]
    by_cases h2 : b = 0
    · rw [if_pos h2, h2]; rfl
    · rw [if_neg h2]
  · rw [if_neg h, if_neg h]
theorem orL_at : ∀ {l : List Int} {k : Nat}, (∀ j, j < k → l.getD j 0 = 0) → l.getD k 0 ≠ 0 → orL l = l.getD k 0 := by
  intro l
  induction l with
  | nil => intro k _ h; simp at h
  | cons x l ih =>
    intro k h1 h2
    cases k with
    | zero => simp only [List.getD_cons_zero] at h2 ⊢; simp only [orL]; rw [if_neg h2]
    | succ k =>
      have h0 := h1 0 (by omega)
      simp only [List.getD_cons_zero] at h0
      simp only [orL]; rw [if_pos h0]
      simp only [List.getD_cons_succ] at h2 ⊢
      exact ih (fun j hj => by have := h1 (j + 1) (by omega); simpa only [List.getD_cons_succ] using this) h2
theorem orL_none : ∀ {l : List Int}, (∀ j, j < l.length → l.getD j 0 = 0) → orL l = 0 := by
  intro l
  induction l with
  | nil => intro _; rfl
  | cons x l ih =>
    intro h
    have h0 := h 0 (by simp)
    simp only [List.getD_cons_zero] at h0
    simp only [orL]; rw [if_pos h0]
    exact ih (fun j hj => by have := h (j + 1) (by simp; omega); simpa only [List.getD_cons_succ] using this)
theorem nought_on {v : List Int} {k : Nat} (h : ∀ j, j < k → v.getD j 0 = 0) (hk : v.getD k 0 = 0) : ∀ j, j < k + 1 → v.getD j 0 = 0 := by
  intro j hj
  by_cases e : j = k
  · rw [e]; exact hk
  · exact h j (by omega)

end Go.Proofs.YthecofkkacieaaaDoor.M5
