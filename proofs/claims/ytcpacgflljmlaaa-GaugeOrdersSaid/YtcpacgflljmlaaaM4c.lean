/-
  Layer 4's plain mathematics: a stable sort by blocks that are merged in place.
-/
import Derived.Sort.LotA
import Derived.Sort.Lot0
namespace Go.Proofs.Ytcpacgflljmlaaa
open Go.Sort
set_option linter.unusedVariables false
variable {α : Type} [Inhabited α]

/-- Two parts of n elements each, exchanged. -/
def swapR (d : Array α) (a b : Nat) : Nat → Array α
  | 0 => d
  | n + 1 => swp (swapR d a b n) (a + n) (b + n)
theorem size_swapR (d : Array α) (a b n : Nat) : (swapR d a b n).size = d.size := by
  induction n with
  | zero => rfl
  | succ n ih => rw [swapR, size_swp, ih]
theorem get_swapR (d : Array α) (a b n : Nat) (h : a + n ≤ b) (hb : b + n ≤ d.size) (x : Nat) :
    (swapR d a b n)[x]! = if a ≤ x ∧ x < a + n then d[x + (b - a)]! else if b ≤ x ∧ x < b + n then d[x - (b - a)]! else d[x]! := by
  induction n generalizing x with
  | zero => rw [swapR, if_neg (by omega), if_neg (by omega)]
  | succ n ih =>
    have ih := ih (by omega) (by omega)
    rw [swapR, swp_get _ (by rw [size_swapR]; omega) (by rw [size_swapR]; omega), ih, ih, ih]
    rw [if_neg (show ¬ (a ≤ a + n ∧ a + n < a + n) by omega), if_neg (show ¬ (b ≤ a + n ∧ a + n < b + n) by omega)]
    rw [if_neg (show ¬ (a ≤ b + n ∧ b + n < a + n) by omega), if_neg (show ¬ (b ≤ b + n ∧ b + n < b + n) by omega)]
    repeat' split
    all_goals first | (exfalso; omega) | (congr 1; omega) | rfl
theorem perm_swapR (d : Array α) (a b n lo hi : Nat) (h : a + n ≤ b) (hlo : lo ≤ a) (hhi : b + n ≤ hi) (hs : hi ≤ d.size) : PermIn lo hi d (swapR d a b n) := by
  induction n with
  | zero => exact permIn_refl _ _ _
  | succ n ih =>
    exact permIn_trans _ _ _ _ _ (ih (by omega) (by omega)) (swp_permIn _ _ _ _ _ (by omega) (by omega) (by omega) (by omega) (by rw [size_swapR]; exact hs))

/-- What stands at x when [a, m) and [m, b) have changed places. -/
def rotAt (d : Array α) (a m b x : Nat) : α := if a ≤ x ∧ x < b then (if x < a + (b - m) then d[x + (m - a)]! else d[x - (b - m)]!) else d[x]!

theorem rot_gt (d : Array α) (m i j x : Nat) (hi : i ≤ m) (hj : j < i) (hs : m + j ≤ d.size) :
    rotAt (swapR d (m - i) m j) (m - i + j) m (m + j) x = rotAt d (m - i) m (m + j) x := by
  unfold rotAt
  have g := get_swapR d (m - i) m j (by omega) (by omega)
  simp only [g]
  repeat' split
  all_goals first | (exfalso; omega) | (congr 1; omega) | rfl
theorem rot_lt (d : Array α) (m i j x : Nat) (hi : i ≤ m) (hj : i < j) (hs : m + j ≤ d.size) :
    rotAt (swapR d (m - i) (m + j - i) i) (m - i) m (m + (j - i)) x = rotAt d (m - i) m (m + j) x := by
  unfold rotAt
  have g := get_swapR d (m - i) (m + j - i) i (by omega) (by omega)
  simp only [g]
  repeat' split
  all_goals first | (exfalso; omega) | (congr 1; omega) | rfl
theorem rot_eq (d : Array α) (m i x : Nat) (hi : i ≤ m) (hs : m + i ≤ d.size) :
    (swapR d (m - i) m i)[x]! = rotAt d (m - i) m (m + i) x := by
  unfold rotAt
  rw [get_swapR d (m - i) m i (by omega) (by omega)]
  repeat' split
  all_goals first | (exfalso; omega) | (congr 1; omega) | rfl
theorem rot_none_l (d : Array α) (m b x : Nat) : rotAt d m m b x = d[x]! := by
  unfold rotAt; repeat' split
  all_goals first | (exfalso; omega) | (congr 1; omega) | rfl
theorem rot_none_r (d : Array α) (a m x : Nat) : rotAt d a m m x = d[x]! := by
  unfold rotAt; repeat' split
  all_goals first | (exfalso; omega) | (congr 1; omega) | rfl
/-- One more to the right. -/
theorem rot_up (d : Array α) (a k : Nat) {dk : Array α} (hd : ∀ x, dk[x]! = rotAt d a (a + 1) (k + 1) x) (ha : a ≤ k) (hk : k + 1 < dk.size) (x : Nat) :
    (swp dk k (k + 1))[x]! = rotAt d a (a + 1) (k + 2) x := by
  rw [swp_get _ (by omega) (by omega), hd, hd, hd]
  unfold rotAt
  repeat' split
  all_goals first | (exfalso; omega) | (congr 1; omega) | rfl
/-- One more to the left. -/
theorem rot_down (d : Array α) (m k : Nat) {dk : Array α} (hd : ∀ x, dk[x]! = rotAt d (k + 1) m (m + 1) x) (hk : k < m) (hm : m < dk.size) (x : Nat) :
    (swp dk (k + 1) k)[x]! = rotAt d k m (m + 1) x := by
  rw [swp_get _ (by omega) (by omega), hd, hd, hd]
  unfold rotAt
  repeat' split
  all_goals first | (exfalso; omega) | (congr 1; omega) | rfl

section
variable {lt : α → α → Bool}
theorem le_of_lt {β : Type} {lt : β → β → Bool} (hS : SWO lt) {x y : β} (h : lt x y = true) : lt y x = false := hS.asymmA h

/-- The left ones inserted: [a, a+1) into [a+1, b). -/
theorem ins_left (hS : SWO lt) {d d' : Array α} {a i b : Nat} (hai : a + 1 ≤ i) (hib : i ≤ b) (hs : SortedIn lt (a + 1) b d)
    (h1 : a + 1 < i → lt d[i - 1]! d[a]! = true) (h2 : i < b → lt d[i]! d[a]! = false) (hd : ∀ x, d'[x]! = rotAt d a (a + 1) i x) : SortedIn lt a b d' := by
  intro p q hp hpq hq
  have e : ∀ x, a ≤ x → x < b → d'[x]! = if x + 1 < i then d[x + 1]! else if x + 1 = i then d[a]! else d[x]! := by
    intro x h1 h2
    rw [hd]; unfold rotAt
    repeat' split
    all_goals first | (exfalso; omega) | (congr 1; omega) | rfl
  rw [e p (by omega) (by omega), e q (by omega) (by omega)]
  have ss : ∀ x y, a + 1 ≤ x → x ≤ y → y < b → lt d[y]! d[x]! = false := by
    intro x y hx hxy hy
    rcases Nat.eq_or_lt_of_le hxy with rfl | h
    · exact hS.irrefl _
    · exact hs x y hx h hy
  by_cases p1 : p + 1 < i
  · rw [if_pos p1]
    by_cases q1 : q + 1 < i
    · rw [if_pos q1]; exact ss _ _ (by omega) (by omega) (by omega)
    · rw [if_neg q1]
      by_cases q2 : q + 1 = i
      · rw [if_pos q2]
        have := le_of_lt hS (h1 (by omega))
        exact hS.ntrans _ _ _ this (ss _ _ (by omega) (by omega) (by omega))
      · rw [if_neg q2]; exact ss _ _ (by omega) (by omega) (by omega)
  · rw [if_neg p1, if_neg (show ¬ q + 1 < i by omega), if_neg (show ¬ q + 1 = i by omega)]
    by_cases p2 : p + 1 = i
    · rw [if_pos p2]
      exact hS.ntrans _ _ _ (ss i q (by omega) (by omega) (by omega)) (h2 (by omega))
    · rw [if_neg p2]; exact ss _ _ (by omega) (by omega) (by omega)

/-- The right one inserted: [m, m+1) into [a, m). -/
theorem ins_right (hS : SWO lt) {d d' : Array α} {a i m : Nat} (hai : a ≤ i) (him : i ≤ m) (hs : SortedIn lt a m d)
    (h1 : a < i → lt d[m]! d[i - 1]! = false) (h2 : i < m → lt d[m]! d[i]! = true) (hd : ∀ x, d'[x]! = rotAt d i m (m + 1) x) : SortedIn lt a (m + 1) d' := by
  intro p q hp hpq hq
  have e : ∀ x, x < m + 1 → d'[x]! = if x < i then d[x]! else if x = i then d[m]! else d[x - 1]! := by
    intro x h1
    rw [hd]; unfold rotAt
    repeat' split
    all_goals first | (exfalso; omega) | (congr 1; omega) | rfl
  rw [e p (by omega), e q (by omega)]
  have ss : ∀ x y, a ≤ x → x ≤ y → y < m → lt d[y]! d[x]! = false := by
    intro x y hx hxy hy
    rcases Nat.eq_or_lt_of_le hxy with rfl | h
    · exact hS.irrefl _
    · exact hs x y hx h hy
  by_cases p1 : p < i
  · rw [if_pos p1]
    by_cases q1 : q < i
    · rw [if_pos q1]; exact ss _ _ (by omega) (by omega) (by omega)
    · rw [if_neg q1]
      by_cases q2 : q = i
      · rw [if_pos q2]
        exact hS.ntrans _ _ _ (h1 (by omega)) (ss _ _ (by omega) (by omega) (by omega))
      · rw [if_neg q2]; exact ss _ _ (by omega) (by omega) (by omega)
  · rw [if_neg p1, if_neg (show ¬ q < i by omega), if_neg (show ¬ q = i by omega)]
    by_cases p2 : p = i
    · rw [if_pos p2]
      exact hS.ntrans _ _ _ (ss i (q - 1) (by omega) (by omega) (by omega)) (le_of_lt hS (h2 (by omega)))
    · rw [if_neg p2]; exact ss _ _ (by omega) (by omega) (by omega)

/-- What symMerge knows of its start: the part that is turned. -/
structure Cut (lt : α → α → Bool) (d : Array α) (a m b mid start e : Nat) : Prop where
  h1 : a ≤ start
  h2 : start ≤ m
  h3 : m ≤ e
  h4 : e ≤ b
  h5 : start + (e - m) = mid
  low : a < start → e < b → lt d[e]! d[start - 1]! = false
  high : start < m → m < e → lt d[e - 1]! d[start]! = true

variable {d d1 : Array α} {a m b mid start e : Nat}
/-- Turned, all of the left part stands ahead of all of the right one. -/
theorem Cut.parts (hS : SWO lt) (C : Cut lt d a m b mid start e) (sl : SortedIn lt a m d) (sr : SortedIn lt m b d) (hd : ∀ x, d1[x]! = rotAt d start m e x) :
    ∀ i j, a ≤ i → i < mid → mid ≤ j → j < b → lt d1[j]! d1[i]! = false := by
  obtain ⟨c1, c2, c3, c4, c5, c6, c7⟩ := C
  intro i j hi him hj hjb
  have ssl : ∀ x y, a ≤ x → x ≤ y → y < m → lt d[y]! d[x]! = false := by
    intro x y hx hxy hy
    rcases Nat.eq_or_lt_of_le hxy with rfl | h
    · exact hS.irrefl _
    · exact sl x y hx h hy
  have ssr : ∀ x y, m ≤ x → x ≤ y → y < b → lt d[y]! d[x]! = false := by
    intro x y hx hxy hy
    rcases Nat.eq_or_lt_of_le hxy with rfl | h
    · exact hS.irrefl _
    · exact sr x y hx h hy
  have e1 : d1[i]! = if i < start then d[i]! else d[i + (m - start)]! := by
    rw [hd]; unfold rotAt
    repeat' split
    all_goals first | (exfalso; omega) | (congr 1; omega) | rfl
  have e2 : d1[j]! = if j < e then d[j - (e - m)]! else d[j]! := by
    rw [hd]; unfold rotAt
    repeat' split
    all_goals first | (exfalso; omega) | (congr 1; omega) | rfl
  rw [e1, e2]
  by_cases i1 : i < start
  · rw [if_pos i1]
    by_cases j1 : j < e
    · rw [if_pos j1]; exact ssl _ _ (by omega) (by omega) (by omega)
    · rw [if_neg j1]
      exact hS.ntrans _ _ _ (hS.ntrans _ _ _ (ssr e j (by omega) (by omega) (by omega)) (c6 (by omega) (by omega))) (ssl i (start - 1) (by omega) (by omega) (by omega))
  · rw [if_neg i1]
    by_cases j1 : j < e
    · rw [if_pos j1]
      exact hS.ntrans _ _ _ (hS.ntrans _ _ _ (ssl start _ (by omega) (by omega) (by omega)) (le_of_lt hS (c7 (by omega) (by omega)))) (ssr _ (e - 1) (by omega) (by omega) (by omega))
    · rw [if_neg j1]; exact ssr _ _ (by omega) (by omega) (by omega)
/-- Turned, the four parts are as they were. -/
theorem Cut.four (C : Cut lt d a m b mid start e) (sl : SortedIn lt a m d) (sr : SortedIn lt m b d) (hd : ∀ x, d1[x]! = rotAt d start m e x) :
    SortedIn lt a start d1 ∧ SortedIn lt start mid d1 ∧ SortedIn lt mid e d1 ∧ SortedIn lt e b d1 := by
  obtain ⟨c1, c2, c3, c4, c5, c6, c7⟩ := C
  have f1 : ∀ x, x < start → d1[x]! = d[x]! := by
    intro x h; rw [hd]; unfold rotAt; rw [if_neg (by omega)]
  have f2 : ∀ x, start ≤ x → x < mid → d1[x]! = d[x + (m - start)]! := by
    intro x h h'; rw [hd]; unfold rotAt; rw [if_pos (by omega), if_pos (by omega)]
  have f3 : ∀ x, mid ≤ x → x < e → d1[x]! = d[x - (e - m)]! := by
    intro x h h'; rw [hd]; unfold rotAt; rw [if_pos (by omega), if_neg (by omega)]
  have f4 : ∀ x, e ≤ x → d1[x]! = d[x]! := by
    intro x h; rw [hd]; unfold rotAt; rw [if_neg (by omega)]
  refine ⟨fun p q h1 h2 h3 => ?_, fun p q h1 h2 h3 => ?_, fun p q h1 h2 h3 => ?_, fun p q h1 h2 h3 => ?_⟩
  · rw [f1 p (by omega), f1 q (by omega)]; exact sl p q (by omega) h2 (by omega)
  · rw [f2 p (by omega) (by omega), f2 q (by omega) (by omega)]; exact sr _ _ (by omega) (by omega) (by omega)
  · rw [f3 p (by omega) (by omega), f3 q (by omega) (by omega)]; exact sl _ _ (by omega) (by omega) (by omega)
  · rw [f4 p (by omega), f4 q (by omega)]; exact sr p q (by omega) h2 (by omega)
/-- What holds between left ones and right ones holds in both halves. -/
theorem Cut.cross {X : α → α → Prop} (C : Cut lt d a m b mid start e) (hd : ∀ x, d1[x]! = rotAt d start m e x)
    (hx : ∀ i j, a ≤ i → i < m → m ≤ j → j < b → X d[i]! d[j]!) :
    (∀ i j, a ≤ i → i < start → start ≤ j → j < mid → X d1[i]! d1[j]!) ∧ (∀ i j, mid ≤ i → i < e → e ≤ j → j < b → X d1[i]! d1[j]!) := by
  obtain ⟨c1, c2, c3, c4, c5, c6, c7⟩ := C
  have f1 : ∀ x, x < start → d1[x]! = d[x]! := by
    intro x h; rw [hd]; unfold rotAt; rw [if_neg (by omega)]
  have f2 : ∀ x, start ≤ x → x < mid → d1[x]! = d[x + (m - start)]! := by
    intro x h h'; rw [hd]; unfold rotAt; rw [if_pos (by omega), if_pos (by omega)]
  have f3 : ∀ x, mid ≤ x → x < e → d1[x]! = d[x - (e - m)]! := by
    intro x h h'; rw [hd]; unfold rotAt; rw [if_pos (by omega), if_neg (by omega)]
  have f4 : ∀ x, e ≤ x → d1[x]! = d[x]! := by
    intro x h; rw [hd]; unfold rotAt; rw [if_neg (by omega)]
  refine ⟨fun i j h1 h2 h3 h4 => ?_, fun i j h1 h2 h3 h4 => ?_⟩
  · rw [f1 i (by omega), f2 j (by omega) (by omega)]; exact hx _ _ (by omega) (by omega) (by omega) (by omega)
  · rw [f3 i (by omega) (by omega), f4 j (by omega)]; exact hx _ _ (by omega) (by omega) (by omega) (by omega)
end

/-- Two sorted halves, all of the one ahead of all of the other. -/
theorem halves {lt : α → α → Bool} {d1 d2 d3 : Array α} {a mid b : Nat} (ham : a ≤ mid) (hmb : mid ≤ b) (hb : b ≤ d1.size)
    (hp : ∀ i j, a ≤ i → i < mid → mid ≤ j → j < b → lt d1[j]! d1[i]! = false)
    (p2 : PermIn a mid d1 d2) (s2 : SortedIn lt a mid d2) (p3 : PermIn mid b d2 d3) (s3 : SortedIn lt mid b d3) : PermIn a b d1 d3 ∧ SortedIn lt a b d3 := by
  have z2 : d2.size = d1.size := p2.1
  have z3 : d3.size = d2.size := p3.1
  have q1 : ∀ i, a ≤ i → i < mid → ∀ j, mid ≤ j → j < b → lt d1[j]! d2[i]! = false :=
    permIn_all d1 d2 a mid (fun x => ∀ j, mid ≤ j → j < b → lt d1[j]! x = false) (by omega) p2 (fun i h1 h2 j h3 h4 => hp i j h1 h2 h3 h4)
  have q2 : ∀ j, mid ≤ j → j < b → ∀ i, a ≤ i → i < mid → lt d3[j]! d2[i]! = false :=
    permIn_all d2 d3 mid b (fun y => ∀ i, a ≤ i → i < mid → lt y d2[i]! = false) (by omega) p3 (fun j h1 h2 i h3 h4 => by rw [p2.2.1 j (by omega)]; exact q1 i h3 h4 j h1 h2)
  refine ⟨permIn_trans _ _ _ _ _ (permIn_mono _ _ _ _ _ _ (Nat.le_refl _) hmb (by omega) p2) (permIn_mono _ _ _ _ _ _ ham (Nat.le_refl _) (by omega) p3), ?_⟩
  intro p q h1 h2 h3
  by_cases hq : q < mid
  · rw [p3.2.1 p (by omega), p3.2.1 q (by omega)]; exact s2 p q h1 h2 hq
  · by_cases hpm : p < mid
    · rw [p3.2.1 p (by omega)]; exact q2 q (by omega) h3 p h1 hpm
    · exact s3 p q (by omega) h2 h3

/-- Ties by place. -/
def ltR {β : Type} (lt : β → β → Bool) (pos : β → Nat) (x y : β) : Bool := lt x y || (!lt y x && decide (pos x < pos y))
theorem ltR_swo {β : Type} {lt : β → β → Bool} {pos : β → Nat} (h : SWO lt) : SWO (ltR lt pos) where
  irrefl x := by unfold ltR; rw [h.irrefl]; simp
  trans x y z h1 h2 := by
    unfold ltR at *
    simp only [Bool.or_eq_true, Bool.and_eq_true, Bool.not_eq_true', decide_eq_true_eq] at *
    rcases h1 with h1 | ⟨h1, h1'⟩ <;> rcases h2 with h2 | ⟨h2, h2'⟩
    · exact .inl (h.trans _ _ _ h1 h2)
    · left
      cases hxz : lt x z
      · have := h.ntrans _ _ _ hxz h2; rw [h1] at this; cases this
      · rfl
    · left
      cases hxz : lt x z
      · have := h.ntrans _ _ _ h1 hxz; rw [h2] at this; cases this
      · rfl
    · exact .inr ⟨h.ntrans _ _ _ h2 h1, by omega⟩
  ntrans x y z h1 h2 := by
    unfold ltR at *
    simp only [Bool.or_eq_false_iff, Bool.and_eq_false_iff, Bool.not_eq_false', decide_eq_false_iff_not] at *
    obtain ⟨a1, b1⟩ := h1
    obtain ⟨a2, b2⟩ := h2
    refine ⟨h.ntrans _ _ _ a1 a2, ?_⟩
    rcases b1 with b1 | b1 <;> rcases b2 with b2 | b2
    · exact .inl (h.trans _ _ _ b2 b1)
    · left
      cases hzx : lt z x
      · have := h.ntrans _ _ _ a2 hzx; rw [b1] at this; cases this
      · rfl
    · left
      cases hzx : lt z x
      · have := h.ntrans _ _ _ hzx a1; rw [b2] at this; cases this
      · rfl
    · exact .inr (by omega)
theorem ltR_right {β : Type} {lt : β → β → Bool} {pos : β → Nat} {x y : β} (h : pos x < pos y) : ltR lt pos y x = lt y x := by
  unfold ltR; rw [decide_eq_false (by omega)]; simp

/-- Insertion keeps those that stand with one another as they were. -/
theorem insInner_R {lt : α → α → Bool} {pos : α → Nat} {a : Nat} : ∀ (j : Nat) (d : Array α), j < d.size → (∀ k, a ≤ k → k < j → pos d[k]! < pos d[j]!) → insInner lt a j d = insInner (ltR lt pos) a j d
  | 0, d, _, _ => rfl
  | j + 1, d, hs, h => by
    unfold insInner
    by_cases ha : a ≤ j
    · rw [ltR_right (h j ha (by omega))]
      split
      · refine insInner_R j _ (by rw [size_swp]; omega) (fun k hk hkj => ?_)
        rw [swp_right _ _ _ (by omega), swp_other _ _ _ _ (by omega) (by omega)]
        exact h k hk (by omega)
      · rfl
    · rw [decide_eq_false (show ¬ j + 1 > a by omega)]; rfl
theorem insOuter_R {lt : α → α → Bool} {pos : α → Nat} (hS : SWO lt) {a b : Nat} : ∀ (n i : Nat) (d : Array α), b - i = n → a < i → b ≤ d.size → SortedIn (ltR lt pos) a i d →
    (∀ k j, a ≤ k → k < j → i ≤ j → j < b → pos d[k]! < pos d[j]!) → insOuter lt a b i d = insOuter (ltR lt pos) a b i d
  | 0, i, d, hn, ha, hb, hs, h => by
    have e : ∀ f : α → α → Bool, insOuter f a b i d = d := fun f => by rw [insOuter, if_neg (by omega)]
    rw [e, e]
  | n + 1, i, d, hn, ha, hb, hs, h => by
    have e : ∀ f : α → α → Bool, insOuter f a b i d = insOuter f a b (i + 1) (insInner f a i d) := fun f => by rw [insOuter, if_pos (by omega)]
    rw [e lt, e (ltR lt pos), insInner_R i d (by omega) (fun k hk hki => h k i hk hki (Nat.le_refl _) (by omega))]
    have hi := insInner_spec (lt := ltR lt pos) (ltR_swo hS) swp_permIn permIn_refl permIn_trans a (i + 1) i (by omega) i d (by omega) (Nat.le_refl _) (by omega) ⟨fun p q hap hpq hqi _ hq => hs p q hap hpq (by omega), fun q h1 h2 => by omega⟩
    have hz : (insInner (ltR lt pos) a i d).size = d.size := hi.1.1
    refine insOuter_R hS n (i + 1) _ (by omega) (by omega) (by omega) hi.2 (fun k j hk hkj hij hjb => ?_)
    rw [hi.1.2.1 j (by omega)]
    by_cases hki : k < i + 1
    · exact permIn_all d _ a (i + 1) (fun x => pos x < pos d[j]!) (by omega) hi.1 (fun k' h1 h2 => h k' j h1 (by omega) (by omega) hjb) k hk hki
    · rw [hi.1.2.1 k (by omega)]; exact h k j hk hkj (by omega) hjb
theorem insertion_R {lt : α → α → Bool} {pos : α → Nat} (hS : SWO lt) {a b : Nat} {d : Array α} (hab : a ≤ b) (hb : b ≤ d.size) (h : ∀ k j, a ≤ k → k < j → j < b → pos d[k]! < pos d[j]!) :
    PermIn a b d (insertionSort lt d a b) ∧ SortedIn (ltR lt pos) a b (insertionSort lt d a b) := by
  have e : insertionSort lt d a b = insertionSort (ltR lt pos) d a b :=
    insOuter_R hS (b - (a + 1)) (a + 1) d rfl (by omega) hb (fun p q h1 h2 h3 => by omega) (fun k j h1 h2 h3 h4 => h k j h1 h2 h4)
  rw [e]
  exact insertionSort_holds (ltR_swo hS) d a b hab hb

end Go.Proofs.Ytcpacgflljmlaaa
