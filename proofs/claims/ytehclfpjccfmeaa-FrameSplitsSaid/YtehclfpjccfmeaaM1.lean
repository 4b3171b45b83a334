/-
  Layer 1, the plain mathematics: numbers as bytes, and back. Nothing here speaks of a program.
-/
namespace Go.Proofs.Ytehclfpjccfmeaa.V1

def digs : Nat → Nat → List UInt8
  | 0, n => [UInt8.ofNat n]
  | f + 1, n => if n < 128 then [UInt8.ofNat n] else UInt8.ofNat (n % 128 + 128) :: digs f (n / 128)

theorem digs_fuel : ∀ (f g n : Nat), n ≤ f → n ≤ g → digs f n = digs g n := by
  intro f
  induction f with
  | zero =>
    intro g n hf _
    obtain rfl : n = 0 := by omega
    cases g <;> simp [digs]
  | succ f ih =>
    intro g n hf hg
    cases g with
    | zero =>
      obtain rfl : n = 0 := by omega
      simp [digs]
    | succ g =>
      by_cases h : n < 128
      · simp [digs, h]
      · simp only [digs, if_neg h]
        rw [ih g (n / 128) (by omega) (by omega)]

/-- A1: the bytes of a number. -/
def natB (n : Nat) : List UInt8 := digs n n

theorem natB_small {n : Nat} (h : n < 128) : natB n = [UInt8.ofNat n] := by
  unfold natB
  cases n with
  | zero => rfl
  | succ k => simp [digs, h]

theorem natB_step {n : Nat} (h : 128 ≤ n) : natB n = UInt8.ofNat (n % 128 + 128) :: natB (n / 128) := by
  unfold natB
  cases n with
  | zero => omega
  | succ k =>
    simp only [digs, if_neg (show ¬ k + 1 < 128 by omega)]
    rw [digs_fuel k ((k + 1) / 128) ((k + 1) / 128) (by omega) (by omega)]

theorem natB_len : ∀ (k n : Nat), n < 128 ^ (k + 1) → (natB n).length ≤ k + 1 := by
  intro k
  induction k with
  | zero => intro n h; rw [natB_small (by simpa using h)]; simp
  | succ k ih =>
    intro n h
    by_cases hs : n < 128
    · rw [natB_small hs]; simp
    · rw [natB_step (by omega)]
      have : n / 128 < 128 ^ (k + 1) := by
        rw [Nat.div_lt_iff_lt_mul (by omega)]
        rw [Nat.pow_succ] at h
        exact h
      have := ih (n / 128) this
      simp; omega

theorem natB_len9 {n : Nat} (h : n ≤ 9223372036854775807) : (natB n).length ≤ 9 := natB_len 8 n (by simp; omega)

theorem natB_pos (n : Nat) : 0 < (natB n).length := by
  by_cases hs : n < 128
  · rw [natB_small hs]; simp
  · rw [natB_step (by omega)]; simp

/-- A2: the number at the head of a text, byte i being next, n what is read so far. -/
def tk : Nat → Nat → List UInt8 → Nat × List UInt8 × Int
  | _, _, [] => (0, [], 10)
  | i, n, b :: r =>
    if b.toNat < 128 then (if b.toNat = 0 ∧ 0 < i then (0, [], 11) else (n + b.toNat * 128 ^ i, r, 0))
    else if i = 8 then (0, [], 11) else tk (i + 1) (n + (b.toNat - 128) * 128 ^ i) r

def take (s : List UInt8) : Nat × List UInt8 × Int := tk 0 0 s

theorem tk_rest : ∀ (s : List UInt8) (i n : Nat), (tk i n s).2.1.length ≤ s.length := by
  intro s
  induction s with
  | nil => intro i n; simp [tk]
  | cons b r ih =>
    intro i n
    unfold tk
    by_cases h1 : b.toNat < 128
    · rw [if_pos h1]
      by_cases h2 : b.toNat = 0 ∧ 0 < i
      · rw [if_pos h2]; simp
      · rw [if_neg h2]; simp
    · rw [if_neg h1]
      by_cases h2 : i = 8
      · rw [if_pos h2]; simp
      · rw [if_neg h2]; have := ih (i + 1) (n + (b.toNat - 128) * 128 ^ i); simp; omega

theorem tk_err : ∀ (s : List UInt8) (i n : Nat), (tk i n s).2.2 ≠ 0 → (tk i n s).1 = 0 ∧ (tk i n s).2.1 = [] ∧ ((tk i n s).2.2 = 10 ∨ (tk i n s).2.2 = 11) := by
  intro s
  induction s with
  | nil => intro i n _; simp [tk]
  | cons b r ih =>
    intro i n
    unfold tk
    by_cases h1 : b.toNat < 128
    · rw [if_pos h1]
      by_cases h2 : b.toNat = 0 ∧ 0 < i
      · rw [if_pos h2]; simp
      · rw [if_neg h2]; simp
    · rw [if_neg h1]
      by_cases h2 : i = 8
      · rw [if_pos h2]; simp
      · rw [if_neg h2]; exact ih _ _

theorem tk_cases (s : List UInt8) (i n : Nat) : (tk i n s).2.2 = 0 ∨ ((tk i n s).1 = 0 ∧ (tk i n s).2.1 = [] ∧ ((tk i n s).2.2 = 10 ∨ (tk i n s).2.2 = 11)) := by
  by_cases h : (tk i n s).2.2 = 0
  · exact .inl h
  · exact .inr (tk_err s i n h)

theorem pow_sub (i : Nat) (h : i ≤ 8) : 128 ^ (9 - i) = 128 * 128 ^ (8 - i) := by
  rw [show 9 - i = (8 - i) + 1 by omega, Nat.pow_succ, Nat.mul_comm]

theorem pow_add' (i : Nat) (h : i ≤ 9) : 128 ^ (9 - i) * 128 ^ i = 9223372036854775808 := by
  rw [← Nat.pow_add, show 9 - i + i = 9 by omega]

theorem toNat_ofNat {n : Nat} (h : n < 256) : (UInt8.ofNat n).toNat = n := by
  simp; omega

/-- What was put is taken back. -/
theorem tk_put : ∀ (k i a m : Nat) (r : List UInt8), i + k = 9 → m < 128 ^ k → (i = 0 ∨ 0 < m) → 0 < k → tk i a (natB m ++ r) = (a + m * 128 ^ i, r, 0) := by
  intro k
  induction k with
  | zero => intro i a m r _ _ _ h; omega
  | succ k ih =>
    intro i a m r hi hm h0 _
    by_cases hs : m < 128
    · rw [natB_small hs]
      simp only [List.cons_append, List.nil_append]
      unfold tk
      rw [toNat_ofNat (by omega), if_pos hs, if_neg (by omega)]
    · rw [natB_step (by omega)]
      simp only [List.cons_append]
      unfold tk
      rw [toNat_ofNat (by omega), if_neg (by omega)]
      have hk : 0 < k := by
        rcases Nat.eq_zero_or_pos k with h | h
        · subst h; simp at hm; omega
        · exact h
      rw [if_neg (by omega)]
      rw [ih (i + 1) _ (m / 128) r (by omega) (by rw [Nat.div_lt_iff_lt_mul (by omega)]; rw [Nat.pow_succ] at hm; exact hm) (by omega) hk]
      have e : m % 128 * 128 ^ i + m / 128 * 128 ^ (i + 1) = m * 128 ^ i := by
        rw [Nat.pow_succ, show m / 128 * (128 ^ i * 128) = (128 * (m / 128)) * 128 ^ i by rw [Nat.mul_comm (128 ^ i) 128, ← Nat.mul_assoc, Nat.mul_comm (m / 128) 128], ← Nat.add_mul]
        congr 1; omega
      rw [show m % 128 + 128 - 128 = m % 128 by omega, Nat.add_assoc, e]

theorem take_put (m : Nat) (r : List UInt8) (h : m ≤ 9223372036854775807) : take (natB m ++ r) = (m, r, 0) := by
  unfold take
  rw [tk_put 9 0 0 m r (by omega) (by simp; omega) (.inl rfl) (by omega)]
  simp

/-- What is taken was put. -/
theorem tk_again : ∀ (s : List UInt8) (i a : Nat), i ≤ 8 → (tk i a s).2.2 = 0 → ∃ m, (tk i a s).1 = a + m * 128 ^ i ∧ s = natB m ++ (tk i a s).2.1 ∧ (i = 0 ∨ 0 < m) ∧ m < 128 ^ (9 - i) := by
  intro s
  induction s with
  | nil => intro i a _ h; simp [tk] at h
  | cons b r ih =>
    intro i a hi h
    have hb : b.toNat < 256 := b.toNat_lt
    unfold tk at h ⊢
    by_cases h1 : b.toNat < 128
    · rw [if_pos h1] at h ⊢
      by_cases h2 : b.toNat = 0 ∧ 0 < i
      · rw [if_pos h2] at h; simp at h
      · rw [if_neg h2]
        refine ⟨b.toNat, rfl, ?_, by omega, ?_⟩
        · rw [natB_small h1]; simp
        · rw [pow_sub i hi]
          have : 1 ≤ 128 ^ (8 - i) := Nat.one_le_pow _ _ (by omega)
          omega
    · rw [if_neg h1] at h ⊢
      by_cases h2 : i = 8
      · rw [if_pos h2] at h; simp at h
      · rw [if_neg h2] at h ⊢
        obtain ⟨m, e1, e2, e3, e4⟩ := ih (i + 1) _ (by omega) h
        refine ⟨(b.toNat - 128) + 128 * m, ?_, ?_, .inr (by omega), ?_⟩
        · rw [e1, Nat.pow_succ, Nat.add_mul, Nat.add_assoc]
          congr 2
          rw [Nat.mul_comm 128 m, Nat.mul_assoc, Nat.mul_comm 128]
        · have hm : 0 < m := by omega
          rw [natB_step (by omega)]
          rw [show (b.toNat - 128 + 128 * m) % 128 + 128 = b.toNat by omega, show (b.toNat - 128 + 128 * m) / 128 = m by omega]
          simp only [List.cons_append, UInt8.ofNat_toNat, List.cons.injEq, true_and]
          exact e2
        · rw [pow_sub i hi]
          rw [show 9 - (i + 1) = 8 - i by omega] at e4
          omega

theorem take_again (s : List UInt8) (h : (take s).2.2 = 0) : s = natB (take s).1 ++ (take s).2.1 ∧ (take s).1 ≤ 9223372036854775807 := by
  obtain ⟨m, e1, e2, _, e4⟩ := tk_again s 0 0 (by omega) h
  have e : (take s).1 = m := by unfold take; rw [e1]; simp
  rw [e]
  exact ⟨e2, by simp at e4; omega⟩

theorem take_lt (s : List UInt8) : (take s).1 ≤ 9223372036854775807 := by
  by_cases h : (take s).2.2 = 0
  · exact (take_again s h).2
  · have := (tk_err s 0 0 h).1
    unfold take; omega

/-- Cut anywhere it is too short. -/
theorem tk_cut : ∀ (k i a m j : Nat), i + k = 9 → m < 128 ^ k → j < (natB m).length → tk i a ((natB m).take j) = (0, [], 10) := by
  intro k
  induction k with
  | zero =>
    intro i a m j hi hm hj
    have : m = 0 := by simp at hm; exact hm
    subst this
    rw [natB_small (by omega)] at hj
    simp at hj; subst hj; simp [tk]
  | succ k ih =>
    intro i a m j hi hm hj
    by_cases hs : m < 128
    · rw [natB_small hs] at hj
      simp at hj; subst hj; simp [tk]
    · rw [natB_step (by omega)] at hj ⊢
      cases j with
      | zero => simp [tk]
      | succ j =>
        simp only [List.take_succ_cons]
        unfold tk
        rw [toNat_ofNat (by omega), if_neg (by omega)]
        have hk : 0 < k := by
          rcases Nat.eq_zero_or_pos k with h | h
          · subst h; simp at hm; omega
          · exact h
        rw [if_neg (by omega)]
        exact ih (i + 1) _ (m / 128) j (by omega) (by rw [Nat.div_lt_iff_lt_mul (by omega)]; rw [Nat.pow_succ] at hm; exact hm) (by simpa using hj)

theorem take_cut (m j : Nat) (h : m ≤ 9223372036854775807) (hj : j < (natB m).length) : take ((natB m).take j) = (0, [], 10) :=
  tk_cut 9 0 0 m j (by omega) (by simp; omega) hj

/-- A4. -/
def bytesB (t : List UInt8) : List UInt8 := natB t.length ++ t

def takeBytes (s : List UInt8) : List UInt8 × List UInt8 × Int :=
  if (take s).2.2 ≠ 0 then ([], [], (take s).2.2)
  else if (take s).2.1.length < (take s).1 then ([], [], 10)
  else ((take s).2.1.take (take s).1, (take s).2.1.drop (take s).1, 0)

/-- A3: the number that is put for a number with a sign, and back. -/
def zig (n : Int) : Nat := if n < 0 then (-2 * n - 1).toNat else (2 * n).toNat
def zag (m : Nat) : Int := if m % 2 = 1 then -((m / 2 : Nat) : Int) - 1 else ((m / 2 : Nat) : Int)
theorem zag_zig (n : Int) : zag (zig n) = n := by
  unfold zig zag
  split <;> split <;> omega
theorem zig_zag (m : Nat) : zig (zag m) = m := by
  unfold zig zag
  split <;> split <;> omega

/-- A5. -/
def listB (l : List Nat) : List UInt8 := natB l.length ++ (l.map natB).flatten

def takeMany : Nat → List UInt8 → List Nat → List Nat × List UInt8 × Int
  | 0, s, acc => (acc, s, 0)
  | k + 1, s, acc => if (take s).2.2 ≠ 0 then ([], [], (take s).2.2) else takeMany k (take s).2.1 (acc ++ [(take s).1])

def takeNats (s : List UInt8) : List Nat × List UInt8 × Int :=
  if (take s).2.2 ≠ 0 then ([], [], (take s).2.2)
  else if (take s).2.1.length < (take s).1 then ([], [], 10)
  else takeMany (take s).1 (take s).2.1 []

theorem takeMany_put : ∀ (l acc : List Nat) (r : List UInt8), (∀ n ∈ l, n ≤ 9223372036854775807) → takeMany l.length ((l.map natB).flatten ++ r) acc = (acc ++ l, r, 0) := by
  intro l
  induction l with
  | nil => intro acc r _; simp [takeMany]
  | cons n l ih =>
    intro acc r h
    simp only [List.length_cons, List.map_cons, List.flatten_cons, List.append_assoc, takeMany]
    rw [take_put n _ (h n (by simp))]
    simp only [ne_eq, not_true_eq_false, if_false]
    rw [ih (acc ++ [n]) r (fun m hm => h m (by simp [hm]))]
    simp

theorem flat_len : ∀ (l : List Nat), l.length ≤ ((l.map natB).flatten).length := by
  intro l
  induction l with
  | nil => simp
  | cons n l ih => have := natB_pos n; simp at ih ⊢; omega

theorem takeNats_put (l : List Nat) (r : List UInt8) (h : ∀ n ∈ l, n ≤ 9223372036854775807) (hl : l.length ≤ 9223372036854775807) : takeNats (listB l ++ r) = (l, r, 0) := by
  unfold takeNats listB
  rw [List.append_assoc, take_put _ _ hl]
  simp only [ne_eq, not_true_eq_false, if_false]
  rw [if_neg (by have := flat_len l; simp at this ⊢; omega), takeMany_put l [] r h]
  simp

theorem takeMany_again : ∀ (k : Nat) (s : List UInt8) (acc : List Nat), (takeMany k s acc).2.2 = 0 →
    ∃ l : List Nat, l.length = k ∧ (takeMany k s acc).1 = acc ++ l ∧ s = (l.map natB).flatten ++ (takeMany k s acc).2.1 ∧ ∀ n ∈ l, n ≤ 9223372036854775807 := by
  intro k
  induction k with
  | zero => intro s acc _; exact ⟨[], by simp [takeMany]⟩
  | succ k ih =>
    intro s acc h
    unfold takeMany at h ⊢
    by_cases h1 : (take s).2.2 ≠ 0
    · rw [if_pos h1] at h; exact absurd h h1
    · rw [if_neg h1] at h ⊢
      have h0 : (take s).2.2 = 0 := by simpa using h1
      obtain ⟨l, e1, e2, e3, e4⟩ := ih _ _ h
      obtain ⟨a1, a2⟩ := take_again s h0
      refine ⟨(take s).1 :: l, by simp [e1], by rw [e2]; simp, ?_, ?_⟩
      · simp only [List.map_cons, List.flatten_cons, List.append_assoc]
        rw [← e3]; exact a1
      · intro n hn
        rcases List.mem_cons.1 hn with rfl | hn
        · exact a2
        · exact e4 n hn

theorem takeNats_again (s : List UInt8) (h : (takeNats s).2.2 = 0) : s = listB (takeNats s).1 ++ (takeNats s).2.1 ∧ ∀ n ∈ (takeNats s).1, n ≤ 9223372036854775807 := by
  unfold takeNats at h ⊢
  by_cases h1 : (take s).2.2 ≠ 0
  · rw [if_pos h1] at h; exact absurd h h1
  · rw [if_neg h1] at h ⊢
    have h0 : (take s).2.2 = 0 := by simpa using h1
    by_cases h2 : (take s).2.1.length < (take s).1
    · rw [if_pos h2] at h; simp at h
    · rw [if_neg h2] at h ⊢
      obtain ⟨l, e1, e2, e3, e4⟩ := takeMany_again _ _ _ h
      obtain ⟨a1, a2⟩ := take_again s h0
      rw [List.nil_append] at e2
      rw [e2]
      refine ⟨?_, e4⟩
      unfold listB
      rw [e1, List.append_assoc, ← e3]
      exact a1

theorem takeBytes_put (t r : List UInt8) (h : t.length ≤ 9223372036854775807) : takeBytes (bytesB t ++ r) = (t, r, 0) := by
  unfold takeBytes bytesB
  rw [List.append_assoc, take_put _ _ h]
  simp

theorem takeBytes_again (s : List UInt8) (h : (takeBytes s).2.2 = 0) : s = bytesB (takeBytes s).1 ++ (takeBytes s).2.1 := by
  unfold takeBytes at h ⊢
  by_cases h1 : (take s).2.2 ≠ 0
  · rw [if_pos h1] at h; exact absurd h h1
  · rw [if_neg h1] at h ⊢
    have h0 : (take s).2.2 = 0 := by simpa using h1
    by_cases h2 : (take s).2.1.length < (take s).1
    · rw [if_pos h2] at h; simp at h
    · rw [if_neg h2]
      obtain ⟨a1, a2⟩ := take_again s h0
      unfold bytesB
      simp only [List.length_take, List.append_assoc, List.take_append_drop]
      rw [show min (take s).1 (take s).2.1.length = (take s).1 by omega]
      exact a1

theorem takeBytes_cut (t : List UInt8) (j : Nat) (h : t.length ≤ 9223372036854775807) (hj : j < (bytesB t).length) : takeBytes ((bytesB t).take j) = ([], [], 10) := by
  unfold bytesB at hj ⊢
  unfold takeBytes
  by_cases h1 : j < (natB t.length).length
  · rw [List.take_append_of_le_length (by omega), take_cut _ _ h h1]
    simp
  · rw [show (natB t.length ++ t).take j = natB t.length ++ t.take (j - (natB t.length).length) by
      rw [List.take_append]; congr 1; exact List.take_of_length_le (by omega)]
    rw [take_put _ _ h]
    simp only [List.length_append] at hj
    simp
    omega

end Go.Proofs.Ytehclfpjccfmeaa.V1
