/-
  Layer 4's plain mathematics: blocks that are sorted, and twice as long ones.
-/
import Derived.Test.YtcpacgflljmlaaaM4c
namespace Go.Proofs.Ytcpacgflljmlaaa
open Go.Sort
set_option linter.unusedVariables false
variable {α : Type} [Inhabited α]

/-- A part that is sorted, and holds those that came from there. -/
def Good (lt : α → α → Bool) (pos : α → Nat) (s t : Nat) (d : Array α) : Prop := SortedIn (ltR lt pos) s t d ∧ ∀ i, s ≤ i → i < t → s ≤ pos d[i]! ∧ pos d[i]! < t
/-- The long blocks that are done. -/
def Done (lt : α → α → Bool) (pos : α → Nat) (B k : Nat) (d : Array α) : Prop := ∀ j, j < k → Good lt pos (B * j) (B * j + B) d
/-- The short blocks that are to be done, from a on. -/
def Todo (lt : α → α → Bool) (pos : α → Nat) (bs a n : Nat) (d : Array α) : Prop := ∀ j, a + bs * j < n → Good lt pos (a + bs * j) (min (a + bs * j + bs) n) d

variable {lt : α → α → Bool} {pos : α → Nat}

theorem Good.of_eq {s t : Nat} {d d' : Array α} (h : Good lt pos s t d) (e : ∀ i, s ≤ i → i < t → d'[i]! = d[i]!) : Good lt pos s t d' :=
  ⟨fun p q h1 h2 h3 => by rw [e p h1 (by omega), e q (by omega) h3]; exact h.1 p q h1 h2 h3, fun i h1 h2 => by rw [e i h1 h2]; exact h.2 i h1 h2⟩
theorem Good.of_perm {s t : Nat} {d d' : Array α} (h : ∀ i, s ≤ i → i < t → s ≤ pos d[i]! ∧ pos d[i]! < t) (ht : t ≤ d.size) (p : PermIn s t d d') (q : SortedIn (ltR lt pos) s t d') : Good lt pos s t d' :=
  ⟨q, permIn_all d d' s t (fun x => s ≤ pos x ∧ pos x < t) ht p h⟩

theorem todo_one {d : Array α} (h : ∀ i, i < d.size → pos d[i]! = i) : Todo lt pos 1 0 d.size d := by
  intro j hj
  rw [Nat.one_mul, Nat.zero_add] at *
  rw [Nat.min_eq_left (by omega)]
  exact ⟨fun p q h1 h2 h3 => by omega, fun i h1 h2 => by rw [h i (by omega)]; omega⟩
theorem done_none {B : Nat} {d : Array α} : Done lt pos B 0 d := fun j hj => by omega

/-- A block done. -/
theorem done_step {B bs c k n : Nat} {d d' : Array α} (hB : B = bs * c) (hd : Done lt pos B k d) (ht : Todo lt pos bs (B * k) n d) (hn : B * k + B ≤ n) (hs : n = d.size)
    (hp : ∀ i, B * k ≤ i → i < B * k + B → B * k ≤ pos d[i]! ∧ pos d[i]! < B * k + B)
    (p : PermIn (B * k) (B * k + B) d d') (q : SortedIn (ltR lt pos) (B * k) (B * k + B) d') : Done lt pos B (k + 1) d' ∧ Todo lt pos bs (B * (k + 1)) n d' := by
  have e1 : B * (k + 1) = B * k + B := Nat.mul_succ B k
  refine ⟨fun j hj => ?_, fun j hj => ?_⟩
  · by_cases hjk : j < k
    · have h1 : B * j + B ≤ B * k := by rw [← Nat.mul_succ]; exact Nat.mul_le_mul_left B hjk
      exact (hd j hjk).of_eq (fun i h2 h3 => p.2.1 i (.inl (by omega)))
    · obtain rfl : j = k := by omega
      exact .of_perm hp (by omega) p q
  · have e2 : bs * (c + j) = bs * c + bs * j := Nat.mul_add bs c j
    have e3 : B * (k + 1) + bs * j = B * k + bs * (c + j) := by omega
    rw [e3] at hj ⊢
    exact (ht (c + j) hj).of_eq (fun i h2 h3 => p.2.1 i (.inr (by omega)))
/-- All blocks done. -/
theorem done_all {B k n : Nat} {d d' : Array α} (hd : Done lt pos B k d) (hk : B * k ≤ n) (hn : n < B * k + B) (hs : n = d.size)
    (p : PermIn (B * k) n d d') (q : B * k < n → Good lt pos (B * k) n d') : Todo lt pos B 0 n d' := by
  intro j hj
  rw [Nat.zero_add] at *
  by_cases hjk : j < k
  · have h1 : B * j + B ≤ B * k := by rw [← Nat.mul_succ]; exact Nat.mul_le_mul_left B hjk
    rw [Nat.min_eq_left (by omega)]
    exact (hd j hjk).of_eq (fun i h2 h3 => p.2.1 i (.inl (by omega)))
  · by_cases hjk2 : j = k
    · subst hjk2
      rw [Nat.min_eq_right (by omega)]
      exact q hj
    · exfalso
      have h1 : B * k + B ≤ B * j := by rw [← Nat.mul_succ]; exact Nat.mul_le_mul_left B (by omega)
      omega
/-- One block is all. -/
theorem todo_end {B n : Nat} {d : Array α} (h : Todo lt pos B 0 n d) (hn : n ≤ B) : SortedIn (ltR lt pos) 0 n d := by
  by_cases h0 : n = 0
  · subst h0; exact fun p q h1 h2 h3 => by omega
  · have := h 0 (by omega)
    rw [Nat.mul_zero, Nat.zero_add, Nat.zero_add, Nat.min_eq_right hn] at this
    exact this.1
/-- What the insertion of a block is told. -/
theorem todo_place {a n : Nat} {d : Array α} (h : Todo lt pos 1 a n d) {i : Nat} (h1 : a ≤ i) (h2 : i < n) : pos d[i]! = i := by
  have := h (i - a) (by omega)
  rw [Nat.one_mul, show a + (i - a) = i by omega, Nat.min_eq_left (by omega)] at this
  have := this.2 i (by omega) (by omega)
  omega
/-- What a merge is told. -/
theorem todo_two {bs a t n : Nat} {d : Array α} (h : Todo lt pos bs a n d) (hm : a + bs < n) (ht : t = min (a + 2 * bs) n) :
    Good lt pos a (a + bs) d ∧ Good lt pos (a + bs) t d := by
  have h0 := h 0 (by omega)
  have h1 := h 1 (by omega)
  rw [Nat.mul_zero, Nat.add_zero, Nat.min_eq_left (by omega)] at h0
  rw [Nat.mul_one, show a + bs + bs = a + 2 * bs by omega, ← ht] at h1
  exact ⟨h0, h1⟩
theorem todo_last {bs a n : Nat} {d : Array α} (h : Todo lt pos bs a n d) (hm : ¬ a + bs < n) (ha : a < n) : Good lt pos a n d := by
  have h0 := h 0 (by omega)
  rwa [Nat.mul_zero, Nat.add_zero, Nat.min_eq_right (by omega)] at h0
theorem good_cross {a m t : Nat} {d : Array α} (h1 : Good lt pos a m d) (h2 : Good lt pos m t d) : ∀ i j, a ≤ i → i < m → m ≤ j → j < t → ltR lt pos d[j]! d[i]! = lt d[j]! d[i]! :=
  fun i j x1 x2 x3 x4 => ltR_right (by have := (h1.2 i x1 x2).2; have := (h2.2 j x3 x4).1; omega)
theorem good_pos {a m t : Nat} {d : Array α} (h1 : Good lt pos a m d) (h2 : Good lt pos m t d) (ham : a ≤ m) (hmt : m ≤ t) : ∀ i, a ≤ i → i < t → a ≤ pos d[i]! ∧ pos d[i]! < t := by
  intro i x1 x2
  by_cases h : i < m
  · have := h1.2 i x1 h; omega
  · have := h2.2 i (by omega) x2; omega

end Go.Proofs.Ytcpacgflljmlaaa
