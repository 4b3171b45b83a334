/-
  Layer 5, plain mathematics: digits read one by one. Nothing here speaks of a program.
-/
import Derived.Test.YthecofkkacieaaaDoorM5c
namespace Go.Proofs.YthecofkkacieaaaDoor.M5
set_option linter.unusedVariables false

theorem val_lt : ∀ (n : Nat) (l : List UInt8), l.length = n → (∀ c ∈ l, dig c = true) → val l < 10 ^ n := by
  intro n
  induction n with
  | zero => intro l hl _; obtain rfl := List.eq_nil_of_length_eq_zero hl; decide
  | succ n ih =>
    intro l hl hd
    have hne : l ≠ [] := by intro h; rw [h] at hl; simp at hl
    obtain ⟨d, c, rfl⟩ : ∃ d c, l = d ++ [c] := ⟨l.dropLast, l.getLast hne, (List.dropLast_concat_getLast hne).symm⟩
    have h1 := ih d (by simp at hl; exact hl) (fun c hc => hd c (by simp [hc]))
    have hc := dig_iff.1 (hd c (by simp))
    rw [val_snoc, Nat.pow_succ]; omega
theorem val_lt16 {l : List UInt8} (hl : l.length ≤ 15) (hd : ∀ c ∈ l, dig c = true) : val l < 1000000000000000 := by
  have h1 := val_lt l.length l rfl hd
  have h2 : 10 ^ l.length ≤ 10 ^ 15 := Nat.pow_le_pow_right (by omega) hl
  omega
theorem tw_all : ∀ {l : List UInt8}, (∀ c ∈ l, dig c = true) → l.takeWhile dig = l := by
  intro l
  induction l with
  | nil => intro _; rfl
  | cons c l ih =>
    intro h
    rw [List.takeWhile_cons, if_pos (h c (by simp)), ih (fun c hc => h c (by simp [hc]))]
/-- The digits at the head end at k. -/
theorem head_end {l : List UInt8} {k : Nat} (hk : k ≤ l.length) (h16 : k ≤ 16) (hd : ∀ c ∈ l.take k, dig c = true) (he : k = l.length ∨ k = 16 ∨ ∃ c, l[k]? = some c ∧ dig c = false) : head16 l = l.take k := by
  unfold head16
  rcases he with rfl | rfl | ⟨c, hc, hn⟩
  · rw [List.take_of_length_le h16, List.take_length] at *
    exact tw_all hd
  · exact tw_all hd
  · have hlt : k < l.length := (List.getElem?_eq_some_iff.1 hc).1
    rcases Nat.lt_or_ge k 16 with hk16 | hk16
    · obtain ⟨j, hj⟩ : ∃ j, 16 - k = j + 1 := ⟨15 - k, by omega⟩
      have hdr : l.drop k = c :: l.drop (k + 1) := by
        rw [List.drop_eq_getElem_cons hlt]
        rw [List.getElem?_eq_getElem hlt] at hc
        injection hc with hc; rw [hc]
      have e1 : l.take 16 = l.take k ++ (c :: (l.drop (k + 1)).take j) := by
        have : l.take 16 = l.take (k + (16 - k)) := by congr 1; omega
        rw [this, List.take_add, hdr, hj, List.take_succ_cons]
      rw [e1, List.takeWhile_append_of_pos hd, List.takeWhile_cons, if_neg (by rw [hn]; simp), List.append_nil]
    · obtain rfl : k = 16 := by omega
      exact tw_all hd
theorem numR_at {l : List UInt8} {k : Nat} (hk : k ≤ l.length) (h : head16 l = l.take k) : numR l = if k = 0 ∨ 15 < k ∨ (l.head? = some 48 ∧ 1 < k) then (-1, []) else ((val (l.take k) : Int), l.drop k) := by
  unfold numR
  rw [h]
  have : (l.take k).length = k := by rw [List.length_take]; omega
  rw [this]
theorem dig_on {l : List UInt8} {k : Nat} (hk : k < l.length) (h : ∀ c ∈ l.take k, dig c = true) (h2 : dig l[k] = true) : ∀ c ∈ l.take (k + 1), dig c = true := by
  intro c hc
  rw [List.take_succ_eq_append_getElem hk] at hc
  rcases List.mem_append.1 hc with hc | hc
  · exact h c hc
  · obtain rfl := List.mem_singleton.1 hc; exact h2
theorem val_on {l : List UInt8} {k : Nat} (hk : k < l.length) : val (l.take (k + 1)) = val (l.take k) * 10 + (l[k].toNat - 48) := by
  rw [List.take_succ_eq_append_getElem hk, val_snoc]
theorem split_mem : ∀ (k : Nat) (l x : List UInt8), x ∈ split k l → x.length ≤ l.length := by
  intro k
  induction k with
  | zero => intro l x h; simp [split] at h; rw [h]; exact Nat.le_refl _
  | succ k ih =>
    intro l x h
    cases hc : cut l with
    | none => rw [split_none hc] at h; obtain rfl := List.mem_singleton.1 h; exact Nat.le_refl _
    | some p =>
      obtain ⟨a, b⟩ := p
      rw [split_some hc] at h
      have hl := congrArg List.length (cut_some hc)
      simp only [List.length_append, List.length_cons] at hl
      rcases List.mem_cons.1 h with rfl | h
      · omega
      · have := ih b x h; omega

end Go.Proofs.YthecofkkacieaaaDoor.M5
