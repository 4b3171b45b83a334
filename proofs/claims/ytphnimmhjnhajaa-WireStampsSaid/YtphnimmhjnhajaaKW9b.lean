/-
  Layer 8, walks of the program: rows that rise.
-/
import Derived.Test.YtphnimmhjnhajaaKW9a
namespace Go.Proofs.Ytphnimmhjnhajaa.W8
open Go.RowKit Go.PlainAid M8
set_option linter.unusedVariables false

/-! ### Plain -/
def rise {α : Type} (p : α → Bool) (r : α → α → Bool) : List α → Bool
  | [] => true
  | [x] => p x
  | x :: y :: l => p x && r x y && rise p r (y :: l)
theorem rise_iff {α : Type} (p : α → Bool) (r : α → α → Bool) : ∀ (l : List α), rise p r l = true ↔ (∀ j (h : j < l.length), p l[j] = true) ∧ (∀ j (h : j + 1 < l.length), r l[j] l[j + 1] = true) := by
  intro l
  induction l with
  | nil => exact ⟨fun _ => ⟨fun j h => absurd h (by simp), fun j h => absurd h (by simp)⟩, fun _ => rfl⟩
  | cons a l ih =>
    cases l with
    | nil =>
      constructor
      · intro h
        refine ⟨fun j hj => ?_, fun j hj => absurd hj (by simp)⟩
        obtain rfl : j = 0 := by simpa using hj
        exact h
      · intro h
        exact h.1 0 (by simp)
    | cons b l =>
      unfold rise
      rw [Bool.and_eq_true, Bool.and_eq_true, ih]
      constructor
      · rintro ⟨⟨h1, h2⟩, h3, h4⟩
        refine ⟨fun j hj => ?_, fun j hj => ?_⟩
        · cases j with
          | zero => exact h1
          | succ j => exact h3 j (by simpa using hj)
        · cases j with
          | zero => exact h2
          | succ j => exact h4 j (by simpa using hj)
      · rintro ⟨h1, h2⟩
        refine ⟨⟨h1 0 (by simp), h2 0 (by simp)⟩, fun j hj => ?_, fun j hj => ?_⟩
        · exact h1 (j + 1) (by simpa using hj)
        · exact h2 (j + 1) (by simpa using hj)
theorem rise_may {α : Type} {p : α → Bool} {r : α → α → Bool} {l : List α} {j : Nat} (h : j < l.length) (hp : p l[j] = false) : rise p r l = false := by
  cases hr : rise p r l with
  | false => rfl
  | true => have := ((rise_iff p r l).1 hr).1 j h; rw [hp] at this; cases this
theorem rise_order {α : Type} {p : α → Bool} {r : α → α → Bool} {l : List α} {j : Nat} (h : j + 1 < l.length) (hp : r l[j] l[j + 1] = false) : rise p r l = false := by
  cases hr : rise p r l with
  | false => rfl
  | true => have := ((rise_iff p r l).1 hr).2 j h; rw [hp] at this; cases this
/-- The first k rise. -/
def Rising {α : Type} (p : α → Bool) (r : α → α → Bool) (l : List α) (k : Nat) : Prop := (∀ j (h : j < l.length), j < k → p l[j] = true) ∧ (∀ j (h : j + 1 < l.length), j + 1 < k → r l[j] l[j + 1] = true)
theorem Rising.done {α : Type} {p : α → Bool} {r : α → α → Bool} {l : List α} (h : Rising p r l l.length) : rise p r l = true := (rise_iff p r l).2 ⟨fun j hj => h.1 j hj hj, fun j hj => h.2 j hj hj⟩
theorem Rising.one {α : Type} {p : α → Bool} {r : α → α → Bool} {l : List α} (h : 0 < l.length) (hp : p l[0] = true) : Rising p r l 1 := by
  refine ⟨fun j hj h1 => ?_, fun j hj h1 => by omega⟩
  obtain rfl : j = 0 := by omega
  exact hp
theorem Rising.on {α : Type} {p : α → Bool} {r : α → α → Bool} {l : List α} {k : Nat} (h : Rising p r l (k + 1)) (hk : k + 1 < l.length) (hp : p l[k + 1] = true) (hr : r l[k] l[k + 1] = true) : Rising p r l (k + 1 + 1) := by
  refine ⟨fun j hj h1 => ?_, fun j hj h1 => ?_⟩
  · by_cases h2 : j < k + 1
    · exact h.1 j hj h2
    · obtain rfl : j = k + 1 := by omega
      exact hp
  · by_cases h2 : j + 1 < k + 1
    · exact h.2 j hj h2
    · obtain rfl : j = k := by omega
      exact hr
def dotP (g : Grp) (x : Int × Int) : Bool := rightS x && !bef (g.t, g.r) x
theorem dots_rise (g : Grp) : ∀ l, dotsB g l = rise (dotP g) bef l := by
  intro l
  induction l with
  | nil => rfl
  | cons a l ih =>
    cases l with
    | nil => rfl
    | cons b l =>
      unfold dotsB rise
      rw [ih]
      rfl
theorem elems_rise (g : Grp) (k : Int) : ∀ l, elemsB g k l = rise (aheadI g k) (fun x y => decide (cmpI3 x y < 0)) l := by
  intro l
  induction l with
  | nil => rfl
  | cons a l ih =>
    cases l with
    | nil => rfl
    | cons b l =>
      unfold elemsB rise
      rw [ih]
theorem cmpS_le (a b : Int × Int) : decide (M5.cmpS a.1 a.2 b.1 b.2 ≤ 0) = !bef b a := by
  unfold bef
  rw [M5.befS_cmp]
  unfold M5.befS
  rw [Bool.eq_iff_iff]
  simp only [decide_eq_true_eq, Bool.not_eq_true', decide_eq_false_iff_not]
  split <;> rename_i h1
  · omega
  · split <;> rename_i h2 <;> omega
theorem cmpS_ge (a b : Int × Int) : decide ((0 : Int) ≤ M5.cmpS a.1 a.2 b.1 b.2) = !bef a b := by
  unfold bef
  rw [M5.befS_cmp]
  unfold M5.befS
  rw [Bool.eq_iff_iff]
  simp only [decide_eq_true_eq, Bool.not_eq_true', decide_eq_false_iff_not]
  split <;> rename_i h1
  · omega
  · split <;> rename_i h2 <;> omega

set_option maxRecDepth 100000 in
set_option maxHeartbeats 1000000 in
theorem dotMay_any (g : Grp) (x : Int × Int) (b : Nat) (w : World) (hb : Two w b 23 g.t g.r) : Calls Try.prog 78 #[.agg #[.int .i64 x.1, .int .i64 x.2], .pointer (some ⟨b, 0, none⟩)] w fun e w' => e = .returned (.bool (dotP g x)) ∧ Below w.heap.size w w' := by
  have B0 := Lib.hid (below_box (w := w) (.cells #[.int .i64 x.1, .int .i64 x.2] 23))
  have T1 := Lib.hid (hb.keep B0.out)
  have T2 := Lib.hid (Two.new w 23 x.1 x.2)
  clear hb
  obtain ⟨a, ha⟩ : ∃ a, M5.right x.1 x.2 = a := ⟨_, rfl⟩
  obtain ⟨z, hz⟩ : ∃ z, M5.cmpS x.1 x.2 g.t g.r = z := ⟨_, rfl⟩
  have HF : Hid (dotP g x = (a && decide (z ≤ 0))) := by show _ = _; unfold dotP rightS; rw [ha, ← hz, ← cmpS_le x (g.t, g.r)]
  have HA := Lib.hid ha
  have HZ := Lib.hid hz
  clear ha hz
  go_enter Try.func78, Try.ntmps78
  go_wp2_with fail
  refine (S5.right_any _ _ _).mono ?_
  rintro e w1 ⟨rfl, hb1⟩
  rw [HA.out]
  have B1 := Lib.hid (chain B0.out hb1)
  have t1 := T1.out.keep hb1
  have t2 := T2.out.keep hb1
  clear T1 T2 B0 hb1
  cases a
  · clear t1 t2
    go_wp2
    go_ret
    exact ⟨by rw [HF.out]; rfl, B1.out⟩
  obtain ⟨c0, c1⟩ := t1.cells
  obtain ⟨d0, d1⟩ := t2.cells
  clear t1 t2
  go_wp2_with fail
  refine (S5.cmp_any _ _ _ _ _).mono ?_
  rintro e w2 ⟨rfl, hb2⟩
  rw [HZ.out]
  have B2 := Lib.hid (chain B1.out hb2)
  clear c0 c1 d0 d1 hb2
  go_wp2
  go_ret
  exact ⟨by rw [HF.out]; rfl, B2.out⟩

set_option maxRecDepth 100000 in
set_option maxHeartbeats 1000000 in
theorem elemMay_any (g : Grp) (k : Int) (x : Id3) (b : Nat) (w : World) (hb : Tri w b 40 g.t g.r k) : Calls Try.prog 81 #[.agg #[.int .i64 x.1, .int .i64 x.2.1, .int .i64 x.2.2], .pointer (some ⟨b, 0, none⟩)] w fun e w' => e = .returned (.bool (aheadI g k x)) ∧ Below w.heap.size w w' := by
  have B0 := Lib.hid (below_box (w := w) (.cells #[.int .i64 x.1, .int .i64 x.2.1, .int .i64 x.2.2] 40))
  obtain ⟨c0, c1, c2⟩ := (hb.keep B0.out).cells
  obtain ⟨d0, d1, d2⟩ := (Tri.new w 40 x.1 x.2.1 x.2.2).cells
  clear hb
  go_enter Try.func81, Try.ntmps81
  go_wp2_with fail
  refine (pahead_any g _ _ _ _ _).mono ?_
  rintro e w1 ⟨rfl, hb1⟩
  have B1 := Lib.hid (chain B0.out hb1)
  clear c0 c1 c2 d0 d1 d2 hb1
  go_wp2
  go_ret
  exact ⟨rfl, B1.out⟩

end Go.Proofs.Ytphnimmhjnhajaa.W8

