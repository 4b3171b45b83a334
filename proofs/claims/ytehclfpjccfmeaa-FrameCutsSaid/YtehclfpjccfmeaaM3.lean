/-
  Layer 3, plain mathematics: texts in frames, one behind the other.
-/
import Derived.Test.YtehclfpjccfmeaaV1d
import Derived.Test.YtehclfpjccfmeaaC2e
namespace Go.Proofs.Ytehclfpjccfmeaa.M3
open Go.RowKit V1 C2 M2
set_option linter.unusedVariables false

theorem sumB_len (c : Nat) : (sumB c).length = 4 := rfl

/-- A text in a frame. -/
def frm (l : List UInt8) : List UInt8 := bytesB l ++ sumB (crc l)
theorem frm_len (l : List UInt8) : (frm l).length = (natB l.length).length + l.length + 4 := by
  unfold frm bytesB; simp [sumB_len]; omega
theorem frm_le {l : List UInt8} (h : l.length ≤ 1048576) : (frm l).length ≤ l.length + 13 := by
  have := natB_len9 (n := l.length) (by omega)
  rw [frm_len]; omega
theorem frm_pos (l : List UInt8) : l.length + 5 ≤ (frm l).length := by
  have := natB_pos l.length
  rw [frm_len]; omega

/-- What is in the frame at the head, and what stands behind it. -/
def next (s : List UInt8) : List UInt8 × List UInt8 × Int :=
  if (take s).2.2 ≠ 0 then ([], [], (take s).2.2) else
  if 1048576 < (take s).1 then ([], [], 2) else
  if (take s).2.1.length < (take s).1 + 4 then ([], [], 10) else
  if ((take s).2.1.drop (take s).1).take 4 = sumB (crc ((take s).2.1.take (take s).1)) then ((take s).2.1.take (take s).1, (take s).2.1.drop ((take s).1 + 4), 0) else ([], [], 30)

theorem next_bad {s : List UInt8} {e : Int} (h : take s = (0, [], e)) (he : e = 10 ∨ e = 11) : next s = ([], [], e) := by
  unfold next; rw [h]; simp only []; rw [if_pos (by omega)]
theorem next_long {s r : List UInt8} {n : Nat} (h : take s = (n, r, 0)) (hn : 1048576 < n) : next s = ([], [], 2) := by
  unfold next; rw [h]; simp only []; rw [if_neg (by simp), if_pos hn]
theorem next_short {s r : List UInt8} {n : Nat} (h : take s = (n, r, 0)) (hn : ¬ 1048576 < n) (hr : r.length < n + 4) : next s = ([], [], 10) := by
  unfold next; rw [h]; simp only []; rw [if_neg (by simp), if_neg hn, if_pos hr]
theorem next_sum {s r : List UInt8} {n : Nat} (h : take s = (n, r, 0)) (hn : ¬ 1048576 < n) (hr : ¬ r.length < n + 4) (hs : ¬ (r.drop n).take 4 = sumB (crc (r.take n))) : next s = ([], [], 30) := by
  unfold next; rw [h]; simp only []; rw [if_neg (by simp), if_neg hn, if_neg hr, if_neg hs]
theorem next_ok {s r : List UInt8} {n : Nat} (h : take s = (n, r, 0)) (hn : ¬ 1048576 < n) (hr : ¬ r.length < n + 4) (hs : (r.drop n).take 4 = sumB (crc (r.take n))) : next s = (r.take n, r.drop (n + 4), 0) := by
  unfold next; rw [h]; simp only []; rw [if_neg (by simp), if_neg hn, if_neg hr, if_pos hs]

theorem take_cases (s : List UInt8) : (∃ e : Int, take s = (0, [], e) ∧ (e = 10 ∨ e = 11)) ∨ ∃ n r, take s = (n, r, 0) ∧ n ≤ 9223372036854775807 ∧ r.length ≤ s.length := by
  rcases take_shape s with ⟨n, r, h1, h2, h3⟩ | h
  · exact .inr ⟨n, r, h1, h2, h3⟩
  · exact .inl h

theorem take_rest {s r : List UInt8} {n : Nat} (h : take s = (n, r, 0)) : s = natB n ++ r := by
  have := (take_again s (by rw [h])).1
  rw [h] at this
  exact this

/-- All that may come of it. -/
theorem next_cases (s : List UInt8) : (∃ e : Int, next s = ([], [], e) ∧ (e = 10 ∨ e = 11 ∨ e = 2 ∨ e = 30)) ∨ ∃ l r, next s = (l, r, 0) ∧ s = frm l ++ r ∧ l.length ≤ 1048576 := by
  rcases take_cases s with ⟨e, h, he⟩ | ⟨n, r, h, hn9, hrl⟩
  · exact .inl ⟨e, next_bad h he, by omega⟩
  by_cases hn : 1048576 < n
  · exact .inl ⟨2, next_long h hn, by omega⟩
  by_cases hr : r.length < n + 4
  · exact .inl ⟨10, next_short h hn hr, by omega⟩
  by_cases hs : (r.drop n).take 4 = sumB (crc (r.take n))
  · refine .inr ⟨r.take n, r.drop (n + 4), next_ok h hn hr hs, ?_, by rw [List.length_take]; omega⟩
    have hl : (r.take n).length = n := by simp; omega
    unfold frm bytesB
    rw [hl, ← hs, take_rest h, List.append_assoc, List.append_assoc]
    congr 1
    rw [← List.drop_drop, List.take_append_drop, List.take_append_drop]
  · exact .inl ⟨30, next_sum h hn hr hs, by omega⟩

theorem next_put (l r : List UInt8) (hl : l.length ≤ 1048576) : next (frm l ++ r) = (l, r, 0) := by
  have h : take (frm l ++ r) = (l.length, l ++ (sumB (crc l) ++ r), 0) := by
    unfold frm bytesB
    rw [List.append_assoc, List.append_assoc]
    exact take_put _ _ (by omega)
  have h2 : ((l ++ (sumB (crc l) ++ r)).drop l.length).take 4 = sumB (crc ((l ++ (sumB (crc l) ++ r)).take l.length)) := by
    rw [List.drop_left, List.take_left]
    exact List.take_left' (sumB_len _)
  rw [next_ok h (by omega) (by rw [List.length_append, List.length_append, sumB_len]; omega) h2]
  rw [List.take_left, ← List.drop_drop, List.drop_left]
  congr 2

theorem next_again {s : List UInt8} (h : (next s).2.2 = 0) : s = frm (next s).1 ++ (next s).2.1 ∧ (next s).1.length ≤ 1048576 := by
  rcases next_cases s with ⟨e, h1, h2⟩ | ⟨l, r, h1, h2, h3⟩
  · rw [h1] at h; simp at h; omega
  · rw [h1]; exact ⟨h2, h3⟩

theorem next_err {s : List UInt8} (h : (next s).2.2 ≠ 0) : next s = ([], [], (next s).2.2) := by
  rcases next_cases s with ⟨e, h1, h2⟩ | ⟨l, r, h1, h2, h3⟩
  · rw [h1]
  · rw [h1] at h; simp at h

theorem next_nil : next [] = ([], [], 10) := by decide +kernel

theorem next_cut (l : List UInt8) (j : Nat) (hl : l.length ≤ 1048576) (hj : j < (frm l).length) : next ((frm l).take j) = ([], [], 10) := by
  by_cases h1 : j < (natB l.length).length
  · have : (frm l).take j = (natB l.length).take j := by
      unfold frm bytesB
      rw [List.append_assoc, List.take_append_of_le_length (by omega)]
    rw [this]
    exact next_bad (take_cut _ _ (by omega) h1) (.inl rfl)
  · have h2 : (frm l).take j = natB l.length ++ (l ++ sumB (crc l)).take (j - (natB l.length).length) := by
      unfold frm bytesB
      rw [List.append_assoc, List.take_append]
      rw [List.take_of_length_le (by omega)]
    rw [h2]
    rw [frm_len] at hj
    refine next_short (take_put _ _ (by omega)) (by omega) ?_
    simp only [List.length_take, List.length_append, sumB_len]
    omega

theorem next_lt {s : List UInt8} (h : (next s).2.2 = 0) : (next s).2.1.length + 5 ≤ s.length := by
  have h1 := (next_again h).1
  have h2 : s.length = (frm (next s).1).length + (next s).2.1.length := by
    conv => lhs; rw [h1]
    rw [List.length_append]
  have := frm_pos (next s).1
  omega

/-- What the iterator hands on: what is in a frame, what stands behind it; the error. -/
abbrev Ev := (List UInt8 × List UInt8) × Int

def evs (s : List UInt8) : List Ev :=
  if h : s = [] then [] else
  if h2 : (next s).2.2 = 0 then (((next s).1, (next s).2.1), 0) :: evs (next s).2.1 else [(([], []), (next s).2.2)]
termination_by s.length
decreasing_by have := next_lt h2; omega

/-- The texts in the frames, what is left, and the error there. -/
def split (s : List UInt8) : List (List UInt8) × List UInt8 × Int :=
  if h : s = [] then ([], [], 0) else
  if h2 : (next s).2.2 = 0 then ((next s).1 :: (split (next s).2.1).1, (split (next s).2.1).2.1, (split (next s).2.1).2.2) else ([], s, (next s).2.2)
termination_by s.length
decreasing_by all_goals (have := next_lt h2; omega)

theorem evs_nil : evs [] = [] := by rw [evs]; simp
theorem evs_on {s : List UInt8} (h : s ≠ []) (h2 : (next s).2.2 = 0) : evs s = (((next s).1, (next s).2.1), 0) :: evs (next s).2.1 := by
  rw [evs, dif_neg h, dif_pos h2]
theorem evs_bad {s : List UInt8} (h : s ≠ []) (h2 : ¬ (next s).2.2 = 0) : evs s = [(([], []), (next s).2.2)] := by
  rw [evs, dif_neg h, dif_neg h2]
theorem split_nil : split [] = ([], [], 0) := by rw [split]; simp
theorem split_on {s : List UInt8} (h : s ≠ []) (h2 : (next s).2.2 = 0) : split s = ((next s).1 :: (split (next s).2.1).1, (split (next s).2.1).2.1, (split (next s).2.1).2.2) := by
  rw [split, dif_neg h, dif_pos h2]
theorem split_bad {s : List UInt8} (h : s ≠ []) (h2 : ¬ (next s).2.2 = 0) : split s = ([], s, (next s).2.2) := by
  rw [split, dif_neg h, dif_neg h2]

/-- What stands behind the frames that have come. -/
def behind (s : List UInt8) (p : List Ev) : List UInt8 := p.foldl (fun _ x => x.1.2) s
theorem behind_snoc (s : List UInt8) (p : List Ev) (x : Ev) : behind s (p ++ [x]) = x.1.2 := by simp [behind]

theorem evs_len (n : Nat) : ∀ s : List UInt8, s.length ≤ n → (evs s).length ≤ n := by
  induction n with
  | zero => intro s h; have : s = [] := List.eq_nil_of_length_eq_zero (by omega); subst this; rw [evs_nil]; simp
  | succ n ih =>
    intro s h
    by_cases h0 : s = []
    · subst h0; rw [evs_nil]; simp
    by_cases h2 : (next s).2.2 = 0
    · rw [evs_on h0 h2]
      have := ih (next s).2.1 (by have := next_lt h2; omega)
      simp; omega
    · rw [evs_bad h0 h2]; simp

/-- All have come, without an error. -/
theorem split_all (n : Nat) : ∀ s : List UInt8, s.length ≤ n → (∀ x ∈ evs s, x.2 = 0) → split s = ((evs s).map (·.1.1), [], 0) ∧ behind s (evs s) = [] := by
  induction n with
  | zero => intro s h _; have : s = [] := List.eq_nil_of_length_eq_zero (by omega); subst this; rw [evs_nil, split_nil]; simp [behind]
  | succ n ih =>
    intro s h hz
    by_cases h0 : s = []
    · subst h0; rw [evs_nil, split_nil]; simp [behind]
    by_cases h2 : (next s).2.2 = 0
    · rw [evs_on h0 h2] at hz ⊢
      obtain ⟨i1, i2⟩ := ih (next s).2.1 (by have := next_lt h2; omega) (fun x hx => hz x (by simp [hx]))
      rw [split_on h0 h2, i1]
      refine ⟨by simp, ?_⟩
      exact i2
    · rw [evs_bad h0 h2] at hz
      exact absurd (hz _ (List.mem_singleton.2 rfl)) h2

/-- A part has come; the last one was an error. -/
theorem split_part (n : Nat) : ∀ (s : List UInt8) (p : List Ev) (x : Ev), s.length ≤ n → p ++ [x] <+: evs s → (∀ y ∈ p, y.2 = 0) → x.2 ≠ 0 → split s = (p.map (·.1.1), behind s p, x.2) := by
  induction n with
  | zero =>
    intro s p x h hp
    have : s = [] := List.eq_nil_of_length_eq_zero (by omega)
    subst this
    rw [evs_nil] at hp
    have := hp.length_le
    simp at this
  | succ n ih =>
    intro s p x h hp hz hx
    by_cases h0 : s = []
    · subst h0
      rw [evs_nil] at hp
      have := hp.length_le
      simp at this
    by_cases h2 : (next s).2.2 = 0
    · rw [evs_on h0 h2] at hp
      cases p with
      | nil =>
        have h3 := List.cons_prefix_cons.1 hp
        rw [h3.1] at hx
        simp at hx
      | cons y p =>
        have h3 := List.cons_prefix_cons.1 hp
        rw [split_on h0 h2, ih _ p x (by have := next_lt h2; omega) h3.2 (fun z hz' => hz z (by simp [hz'])) hx]
        rw [h3.1]
        rfl
    · rw [evs_bad h0 h2] at hp
      have hl := hp.length_le
      cases p with
      | nil =>
        have h3 := List.cons_prefix_cons.1 hp
        rw [split_bad h0 h2, h3.1]
        rfl
      | cons y p => simp at hl

/-- Frames, one behind the other. -/
def frms (ls : List (List UInt8)) : List UInt8 := (ls.map frm).flatten
theorem frms_nil : frms [] = [] := rfl
theorem frms_cons (l : List UInt8) (ls : List (List UInt8)) : frms (l :: ls) = frm l ++ frms ls := by simp [frms]
theorem frms_snoc (ls : List (List UInt8)) (l : List UInt8) : frms (ls ++ [l]) = frms ls ++ frm l := by simp [frms]
theorem frms_append (a b : List (List UInt8)) : frms (a ++ b) = frms a ++ frms b := by simp [frms]
theorem frm_ne (l r : List UInt8) : frm l ++ r ≠ [] := by
  intro h
  have h1 := congrArg List.length h
  have h2 := frm_pos l
  rw [List.length_append, List.length_nil] at h1
  omega

theorem split_rest : ∀ (ls : List (List UInt8)) (r : List UInt8), (∀ l ∈ ls, l.length ≤ 1048576) → split (frms ls ++ r) = (ls ++ (split r).1, (split r).2.1, (split r).2.2)
  | [], r, _ => by simp [frms_nil]
  | l :: ls, r, h => by
    have hn := next_put l (frms ls ++ r) (h l (by simp))
    rw [frms_cons, List.append_assoc, split_on (frm_ne _ _) (by rw [hn]), hn]
    simp only []
    rw [split_rest ls r (fun x hx => h x (by simp [hx]))]
    rfl
theorem split_put (ls : List (List UInt8)) (h : ∀ l ∈ ls, l.length ≤ 1048576) : split (frms ls) = (ls, [], 0) := by
  have := split_rest ls [] h
  rw [split_nil] at this
  simpa using this
/-- Cut within a frame. -/
theorem split_cut (ls : List (List UInt8)) (l : List UInt8) (j : Nat) (h : ∀ l ∈ ls, l.length ≤ 1048576) (hl : l.length ≤ 1048576) (h0 : 0 < j) (hj : j < (frm l).length) :
    split (frms ls ++ (frm l).take j) = (ls, (frm l).take j, 10) := by
  have hn := next_cut l j hl hj
  have hne : (frm l).take j ≠ [] := by
    intro e
    have h1 := congrArg List.length e
    rw [List.length_take, List.length_nil] at h1
    omega
  rw [split_rest ls _ h, split_bad hne (by rw [hn]; simp), hn]
  simp

theorem split_again (n : Nat) : ∀ s : List UInt8, s.length ≤ n → s = frms (split s).1 ++ (split s).2.1 ∧ ((split s).2.2 = 0 ↔ (split s).2.1 = []) ∧ (∀ l ∈ (split s).1, l.length ≤ 1048576) := by
  induction n with
  | zero => intro s h; have : s = [] := List.eq_nil_of_length_eq_zero (by omega); subst this; rw [split_nil]; simp [frms_nil]
  | succ n ih =>
    intro s h
    by_cases h0 : s = []
    · subst h0; rw [split_nil]; simp [frms_nil]
    by_cases h2 : (next s).2.2 = 0
    · obtain ⟨i1, i2, i3⟩ := ih (next s).2.1 (by have := next_lt h2; omega)
      have ha := next_again h2
      rw [split_on h0 h2]
      refine ⟨?_, i2, ?_⟩
      · show s = frms ((next s).1 :: (split (next s).2.1).1) ++ (split (next s).2.1).2.1
        rw [frms_cons, List.append_assoc, ← i1]
        exact ha.1
      · intro l hl
        rcases List.mem_cons.1 hl with rfl | hl
        · exact ha.2
        · exact i3 l hl
    · rw [split_bad h0 h2]
      simp [frms_nil, h0, h2]

end Go.Proofs.Ytehclfpjccfmeaa.M3
